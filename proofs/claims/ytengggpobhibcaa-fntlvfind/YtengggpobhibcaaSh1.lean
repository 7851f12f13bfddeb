/- A message shown by a stack: what is read is shown so. -/
import Derived.Test.YtengggpobhibcaaSh0
set_option linter.unusedVariables false
set_option maxRecDepth 100000
namespace Go.Proofs.Ytengggpobhibcaa.Nd
open Go Go.RowKit Go.Joins Own Draw Var

/-- A node that has ended: its number, its text, how many stand inside of each other there. -/
abbrev En := Nat × ByteArray × Nat
def hbN (x : PT) : Nat := (if x.2.1 = true then x.1 else x.1 + 128).toNat
def txS (x : PT) (t : ByteArray) : ByteArray := byS (hbN x) ++ vaS t.size ++ t
def inS (d : ByteArray) (es : List En) : ByteArray := es.foldl (fun a e => a ++ e.2.1) d
def neS (es : List En) : Nat := es.foldl (fun a e => max a (e.2.2 + 1)) 1
def riS (x : PT) : Prop := (decide (1 ≤ x.1) && decide (x.1 ≤ 100)) = true ∧ if x.2.1 = true then x.2.2.2.length = 0 ∧ x.2.2.1.size ≤ 900 else x.2.2.1 = ⟨#[]⟩
instance (x : PT) : Decidable (riS x) := by unfold riS; exact inferInstance
/-- What a node with these ended ones as its Kids asks. -/
def fiS (x : PT) (es : List En) : Prop := x.2.2.2 = es.map (fun e => (e.1 : Int)) ∧ neS es ≤ 8 ∧ (txS x (inS x.2.2.1 es)).size ≤ 900
instance (x : PT) (es : List En) : Decidable (fiS x es) := by unfold fiS; exact inferInstance
def stS (i : Nat) (x : PT) (st : List En) : Option (List En) :=
  if st.length < x.2.2.2.length then none else if ¬ riS x then none
  else if fiS x (st.drop (st.length - x.2.2.2.length)) then some (st.take (st.length - x.2.2.2.length) ++ [(i, txS x (inS x.2.2.1 (st.drop (st.length - x.2.2.2.length))), neS (st.drop (st.length - x.2.2.2.length)))]) else none
def ruS : Nat → List PT → List En → Option (List En)
  | _, [], st => some st
  | i, x :: xs, st => match stS i x st with | some t => ruS (i + 1) xs t | none => none
theorem ruS_app : ∀ (xs ys : List PT) (i : Nat) (st : List En), ruS i (xs ++ ys) st = match ruS i xs st with | some t => ruS (i + xs.length) ys t | none => none
  | [], ys, i, st => by simp [ruS]
  | x :: xs, ys, i, st => by
    simp only [List.cons_append, ruS]
    cases stS i x st with
    | none => rfl
    | some t =>
      dsimp only
      rw [ruS_app xs ys (i + 1) t, List.length_cons, show i + 1 + xs.length = i + (xs.length + 1) by omega]
theorem inS_cons (d : ByteArray) (e : En) (es : List En) : inS d (e :: es) = inS (d ++ e.2.1) es := rfl
theorem app_assoc (x y z : ByteArray) : x ++ y ++ z = x ++ (y ++ z) := by apply ba_ext; rw [ba_app, ba_app, ba_app, ba_app, List.append_assoc]
theorem app_none (x : ByteArray) : x ++ ⟨#[]⟩ = x := by apply ba_ext; rw [ba_app]; simp
theorem none_app (x : ByteArray) : (⟨#[]⟩ : ByteArray) ++ x = x := by apply ba_ext; rw [ba_app]; simp
theorem inS_app : ∀ (es : List En) (d : ByteArray), inS d es = d ++ inS ⟨#[]⟩ es
  | [], d => (app_none d).symm
  | e :: es, d => by rw [inS_cons, inS_cons, inS_app es (d ++ e.2.1), inS_app es (⟨#[]⟩ ++ e.2.1), none_app, app_assoc]
theorem neS_le : ∀ (es : List En) (a f : Nat), a ≤ f + 1 → (∀ e ∈ es, e.2.2 ≤ f) → es.foldl (fun a e => max a (e.2.2 + 1)) a ≤ f + 1
  | [], a, f, h, _ => h
  | e :: es, a, f, h, hs => neS_le es _ f (by have := hs e (by simp); dsimp only; omega) (fun x hx => hs x (by simp [hx]))
/-- What a call of the reader made: nodes that a stack shows as what was read. -/
def RdA (s : ByteArray) (f : Nat) (out : List PT) (bg a : Nat) (r : NdR) : Prop :=
  ∃ (new : List PT) (d : Nat), r.1.1 = out ++ new ∧ r.1.2.1 = bg + new.length ∧ 1 ≤ new.length ∧ d ≤ f ∧ ∀ st, ruS out.length new st = some (st ++ [(out.length + new.length - 1, s.extract a r.2, d)])
def RdO (s : ByteArray) (f : Nat) (nd : List PT → Nat → Nat → Nat → NdR) : Prop := ∀ out bg a en, bg ≤ 60 → a ≤ en → en ≤ s.size → (nd out bg a en).1.2.2 = 0 → RdA s f out bg a (nd out bg a en)
theorem loop_a {s : ByteArray} {f : Nat} {nd : List PT → Nat → Nat → Nat → NdR} (hg : NdOk nd s.size) (h : RdO s f nd) : ∀ (m : Nat) (out : List PT) (bg : Nat) (ks : List Int) (fr to : Nat), bg ≤ 60 → fr ≤ to → to ≤ s.size → to ≤ fr + m → (loopN nd m out bg ks fr to).1.2.2 = 0 →
    ∃ (new : List PT) (es : List En), (loopN nd m out bg ks fr to).1.1 = out ++ new ∧ (loopN nd m out bg ks fr to).1.2.1 = bg + new.length ∧ (loopN nd m out bg ks fr to).2 = ks ++ es.map (fun e => (e.1 : Int)) ∧ (∀ st, ruS out.length new st = some (st ++ es)) ∧ inS ⟨#[]⟩ es = s.extract fr to ∧ ∀ e ∈ es, e.2.2 ≤ f
  | 0, out, bg, ks, fr, to, h1, h2, h3, h4, hc => ⟨[], [], by simp [loopN], by simp [loopN], by simp [loopN], fun st => by simp [ruS], by
      have e : fr = to := by omega
      subst e
      apply ba_ext
      rw [ba_exl, List.drop_of_length_le (by rw [List.length_take]; omega)]
      rfl, by simp⟩
  | m + 1, out, bg, ks, fr, to, h1, h2, h3, h4, hc => by
    unfold loopN at hc ⊢
    by_cases hlt : fr < to
    · rw [if_pos hlt] at hc ⊢
      have g := hg out bg fr to h1 h2 h3
      by_cases hz : (nd out bg fr to).1.2.2 = 0
      · rw [if_pos hz] at hc ⊢
        have gk := g.ok hz
        obtain ⟨n1, d1, a1, a2, a3, a4, a5⟩ := h out bg fr to h1 h2 h3 hz
        obtain ⟨n2, es, b1, b2, b3, b4, b5, b6⟩ := loop_a hg h m _ _ (ks ++ [(((nd out bg fr to).1.1.length : Nat) : Int) - 1]) _ to g.top gk.2.1 h3 (by omega) hc
        have hl : (nd out bg fr to).1.1.length = out.length + n1.length := by rw [a1, List.length_append]
        refine ⟨n1 ++ n2, (out.length + n1.length - 1, s.extract fr (nd out bg fr to).2, d1) :: es, ?_, ?_, ?_, ?_, ?_, ?_⟩
        · rw [b1, a1, List.append_assoc]
        · rw [b2, a2, List.length_append]; omega
        · rw [b3, hl, List.append_assoc, List.map_cons, List.singleton_append]
          congr 2
          dsimp only
          omega
        · intro st
          rw [ruS_app, a5 st]
          dsimp only
          rw [← hl, b4, List.append_assoc]
          rfl
        · rw [inS_cons, none_app, inS_app, b5, ← ext_split s (by omega) gk.2.1]
        · intro e he
          rcases List.mem_cons.1 he with rfl | he
          · exact a4
          · exact b6 e he
      · rw [if_neg hz] at hc
        exact absurd hc hz
    · rw [if_neg hlt] at hc ⊢
      exact ⟨[], [], by simp, by simp, by simp, fun st => by simp [ruS], by
        have e : fr = to := by omega
        subst e
        apply ba_ext
        rw [ba_exl, List.drop_of_length_le (by rw [List.length_take]; omega)]
        rfl, by simp⟩
theorem stS_put (i : Nat) (x : PT) (st es : List En) (h1 : riS x) (h2 : fiS x es) : stS i x (st ++ es) = some (st ++ [(i, txS x (inS x.2.2.1 es), neS es)]) := by
  have hl : x.2.2.2.length = es.length := by rw [h2.1, List.length_map]
  have hn : (st ++ es).length - x.2.2.2.length = st.length := by rw [hl, List.length_append]; omega
  have hd : (st ++ es).drop st.length = es := by rw [List.drop_append_of_le_length (Nat.le_refl _), List.drop_length, List.nil_append]
  have ht : (st ++ es).take st.length = st := by rw [List.take_append_of_le_length (Nat.le_refl _), List.take_length]
  unfold stS
  rw [if_neg (by rw [hl, List.length_append]; omega), if_neg (fun c => c h1), hn, hd, ht, if_pos h2]
theorem text_is {s : ByteArray} {a en : Nat} (he : en ≤ s.size) (ha : a < en) (hv : ¬ vrN s a en = 0) (hp : a + 1 + vrN s a en + lnN s a en ≤ en) : s.extract a (a + 1 + vrN s a en + lnN s a en) = byS (at_ s a) ++ vaS (lnN s a en) ++ s.extract (a + 1 + vrN s a en) (a + 1 + vrN s a en + lnN s a en) := by
  rw [ext_split s (b := a + 1 + vrN s a en) (by omega) (by omega), ext_split s (a := a) (b := a + 1) (by omega) (by omega), ext_one (by omega), (vr_text he hv (by omega)).1]
theorem hb_leaf {s : ByteArray} {a : Nat} (h : lfB s a = true) (d : ByteArray) (ks : List Int) : hbN (tgN s a, true, d, ks) = at_ s a := by
  unfold lfB at h
  have h' := of_decide_eq_true h
  unfold hbN tgN
  dsimp only
  rw [if_pos rfl]
  omega
theorem hb_node {s : ByteArray} {a : Nat} (h : ¬ lfB s a = true) (d : ByteArray) (ks : List Int) : hbN (tgN s a, false, d, ks) = at_ s a := by
  unfold lfB at h
  have h' : ¬ ((at_ s a : Nat) : Int) < 128 := fun c => h (decide_eq_true c)
  have := at_lt s a
  unfold hbN tgN
  dsimp only
  rw [if_neg (by simp)]
  omega
theorem step_a {s : ByteArray} (hs : s.size ≤ 900) {f : Nat} (hf : f + 1 ≤ 8) {nd : List PT → Nat → Nat → Nat → NdR} (hg : NdOk nd s.size) (h : RdO s f nd) : RdO s (f + 1) (stepN s true nd) := by
  intro out bg a en h1 h2 h3 hc
  unfold stepN at hc ⊢
  by_cases h60 : 60 ≤ bg
  · rw [if_pos h60] at hc; cases hc
  rw [if_neg h60] at hc ⊢
  by_cases ha : en ≤ a
  · rw [if_pos ha] at hc; cases hc
  rw [if_neg ha] at hc ⊢
  by_cases hb : (decide (1 ≤ tgN s a) && decide (tgN s a ≤ 100)) = false
  · rw [if_pos hb] at hc; cases hc
  rw [if_neg hb, if_neg (show ¬ true = false by simp)] at hc ⊢
  by_cases hv : vrN s a en = 0 ∨ en < a + 1 + vrN s a en + lnN s a en
  · rw [if_pos hv] at hc; cases hc
  rw [if_neg hv] at hc ⊢
  have hv1 : ¬ vrN s a en = 0 := fun c => hv (Or.inl c)
  have hv2 : a + 1 + vrN s a en + lnN s a en ≤ en := by omega
  have ht := text_is h3 (by omega) hv1 hv2
  have hbt : (decide (1 ≤ tgN s a) && decide (tgN s a ≤ 100)) = true := by simpa using hb
  have hsz : (s.extract (a + 1 + vrN s a en) (a + 1 + vrN s a en + lnN s a en)).size = lnN s a en := by rw [ext_sz (by omega)]; omega
  have hsa : (s.extract a (a + 1 + vrN s a en + lnN s a en)).size ≤ 900 := by rw [ext_sz (by omega)]; omega
  by_cases hl : lfB s a = true
  · rw [if_pos hl]
    have hx : txS (tgN s a, true, s.extract (a + 1 + vrN s a en) (a + 1 + vrN s a en + lnN s a en), []) (s.extract (a + 1 + vrN s a en) (a + 1 + vrN s a en + lnN s a en)) = s.extract a (a + 1 + vrN s a en + lnN s a en) := by
      unfold txS
      rw [hb_leaf hl, hsz, ht]
    refine ⟨[_], 1, rfl, rfl, Nat.le_refl _, by omega, fun st => ?_⟩
    have hp := stS_put out.length (tgN s a, true, s.extract (a + 1 + vrN s a en) (a + 1 + vrN s a en + lnN s a en), []) st [] ⟨hbt, by rw [if_pos rfl]; exact ⟨rfl, by rw [hsz]; omega⟩⟩ ⟨rfl, by decide, by show (txS _ (s.extract _ _)).size ≤ 900; rw [hx]; exact hsa⟩
    rw [List.append_nil] at hp
    unfold ruS
    rw [hp]
    show some (st ++ [(out.length, txS _ (s.extract _ _), 1)]) = _
    rw [hx]
    rfl
  · rw [if_neg hl] at hc ⊢
    obtain ⟨R, hR⟩ : ∃ R, loopN nd (lnN s a en) out (bg + 1) [] (a + 1 + vrN s a en) (a + 1 + vrN s a en + lnN s a en) = R := ⟨_, rfl⟩
    have la := loop_a hg h (lnN s a en) out (bg + 1) [] (a + 1 + vrN s a en) (a + 1 + vrN s a en + lnN s a en) (by omega) (by omega) (by omega) (Nat.le_refl _)
    rw [hR] at hc la ⊢
    by_cases hz : R.1.2.2 = 0
    · rw [if_pos hz]
      obtain ⟨new, es, b1, b2, b3, b4, b5, b6⟩ := la hz
      rw [List.nil_append] at b3
      have hx : txS (tgN s a, false, ⟨#[]⟩, R.2) (inS ⟨#[]⟩ es) = s.extract a (a + 1 + vrN s a en + lnN s a en) := by
        unfold txS
        rw [hb_node hl, b5, hsz, ht]
      have hne : neS es ≤ f + 1 := neS_le es 1 f (by omega) b6
      refine ⟨new ++ [(tgN s a, false, ⟨#[]⟩, R.2)], neS es, by rw [b1, List.append_assoc], by rw [b2, List.length_append, List.length_singleton]; omega, by rw [List.length_append, List.length_singleton]; omega, hne, fun st => ?_⟩
      have hp := stS_put (out.length + new.length) (tgN s a, false, ⟨#[]⟩, R.2) st es ⟨hbt, by rw [if_neg (by simp)]⟩ ⟨b3, by omega, by rw [hx]; exact hsa⟩
      rw [ruS_app, b4 st]
      dsimp only
      unfold ruS
      rw [hp]
      dsimp only
      rw [hx, List.length_append, List.length_singleton]
      rfl
    · rw [if_neg hz] at hc
      exact absurd hc hz
theorem node_a (s : ByteArray) (hs : s.size ≤ 900) : ∀ f, f ≤ 8 → RdO s f (nodeN s f)
  | 0, _ => by
    intro out bg a en h1 h2 h3 hc
    unfold nodeN stepN at hc
    split at hc
    · cases hc
    · split at hc
      · cases hc
      · split at hc
        · cases hc
        · rw [if_pos rfl] at hc
          cases hc
  | f + 1, h => step_a hs h (node_good s f) (node_a s hs f (by omega))
/-- The text of a message that is right. -/
def shM (m : List PT) : Option ByteArray := if 60 < m.length then none else match ruS 0 m [] with | some [e] => some e.2.1 | _ => none
theorem read_shows {s : ByteArray} {m : List PT} (h : rdT s = (m, 0)) : shM m = some s := by
  unfold rdT at h
  by_cases h9 : 900 < s.size
  · rw [if_pos h9] at h; cases h
  rw [if_neg h9] at h
  by_cases hc : (nodeN s 8 [] 0 0 s.size).1.2.2 = 0
  · rw [if_neg (fun c => c hc)] at h
    by_cases hn : (nodeN s 8 [] 0 0 s.size).2 = s.size
    · rw [if_neg (fun c => c hn)] at h
      obtain ⟨new, d, a1, a2, a3, a4, a5⟩ := node_a s (by omega) 8 (Nat.le_refl _) [] 0 0 s.size (by omega) (Nat.zero_le _) (Nat.le_refl _) hc
      have g := (node_good s 8 [] 0 0 s.size (by omega) (Nat.zero_le _) (Nat.le_refl _)).top
      have hm : m = new := by have := congrArg Prod.fst h; dsimp only at this; rw [← this, a1, List.nil_append]
      subst hm
      have hr := a5 []
      rw [hn] at hr
      unfold shM
      rw [if_neg (by omega), show ruS 0 m [] = _ from hr]
      show some (s.extract 0 s.size) = some s
      congr 1
      apply ba_ext
      rw [ba_exl, List.drop_zero]
      exact List.take_of_length_le (Nat.le_refl s.data.toList.length)
    · rw [if_pos hn] at h
      cases h
  · rw [if_pos hc] at h
    have := congrArg Prod.snd h
    exact absurd this hc
end Go.Proofs.Ytengggpobhibcaa.Nd
