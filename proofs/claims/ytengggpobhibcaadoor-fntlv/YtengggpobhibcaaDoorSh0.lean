/- A message shown and read: texts, bytes and numbers, as plain data. -/
import Derived.Test.YtengggpobhibcaaDoorTd3
import Derived.Test.YtengggpobhibcaaDoorTt0
set_option linter.unusedVariables false
set_option maxRecDepth 100000
namespace Go.Proofs.YtengggpobhibcaaDoor.Nd
open Go Go.RowKit Go.Joins Own Draw Var

theorem ba_ext {x y : ByteArray} (h : x.data.toList = y.data.toList) : x = y := by
  apply ByteArray.ext
  exact Array.toList_inj.1 h
theorem ba_app (x y : ByteArray) : (x ++ y).data.toList = x.data.toList ++ y.data.toList := by rw [ByteArray.data_append, Array.toList_append]
theorem ba_size (x : ByteArray) : x.size = x.data.toList.length := rfl
theorem ba_exl (s : ByteArray) (a b : Nat) : (s.extract a b).data.toList = (s.data.toList.take b).drop a := by
  rw [ByteArray.data_extract, Array.toList_extract, List.extract_eq_take_drop, List.drop_take]
theorem drop_two {α : Type} (L : List α) {a b : Nat} (h : a ≤ b) : L.drop a = (L.take b).drop a ++ L.drop b := by
  have e : L.drop a = (L.take b ++ L.drop b).drop a := by rw [List.take_append_drop]
  rw [e, List.drop_append]
  congr 1
  by_cases hl : b ≤ L.length
  · rw [List.length_take_of_le hl, show a - b = 0 by omega]; rfl
  · rw [List.drop_of_length_le (l := L) (i := b) (by omega)]; simp
theorem ext_split (s : ByteArray) {a b c : Nat} (h1 : a ≤ b) (h2 : b ≤ c) : s.extract a c = s.extract a b ++ s.extract b c := by
  apply ba_ext
  rw [ba_app, ba_exl, ba_exl, ba_exl]
  rw [show s.data.toList.take b = (s.data.toList.take c).take b by rw [List.take_take, Nat.min_eq_left h2]]
  exact drop_two _ h1
theorem ext_sz {s : ByteArray} {a en : Nat} (h : en ≤ s.size) : (s.extract a en).size = en - a := by rw [ByteArray.size_extract, Nat.min_eq_left h]
theorem ext_ex {s : ByteArray} {a en i j : Nat} (h : a + j ≤ en) : (s.extract a en).extract i j = s.extract (a + i) (a + j) := by
  rw [ByteArray.extract_extract, Nat.min_eq_left h]
def byS (n : Nat) : ByteArray := ⟨#[UInt8.ofNat n]⟩
theorem ext_one {s : ByteArray} {a : Nat} (h : a < s.size) : s.extract a (a + 1) = byS (at_ s a) := by
  apply ba_ext
  rw [ba_exl]
  have h' : a < s.data.toList.length := h
  rw [List.take_succ_eq_append_getElem h', List.drop_append_of_le_length (by rw [List.length_take]; omega), List.drop_of_length_le (by rw [List.length_take]; omega)]
  unfold byS at_
  rw [List.getD_eq_getElem?_getD, List.getElem?_eq_getElem h']
  simp
theorem valB_varB (n : Nat) : valB (varB n) = n := by
  induction n using Nat.strongRecOn with
  | ind n ih =>
    by_cases h : n < 128
    · rw [varB_small n h]
      simp only [valB]
      rw [UInt8.toNat_ofNat_of_lt' (by show _ < 256; omega)]
      omega
    · rw [varB_great n h]
      simp only [valB]
      rw [UInt8.toNat_ofNat_of_lt' (by show _ < 256; omega), ih (n / 128) (by omega)]
      omega
def vaS (n : Nat) : ByteArray := ⟨(varB n).toArray⟩
theorem vaS_size (n : Nat) : (vaS n).size = (varB n).length := by unfold vaS; rw [ba_size]
theorem ans_made (n : Nat) (h : n ≤ 562949953421311) (t : ByteArray) : Ans (vaS n ++ t) n (varB n).length := by
  have h7 := varB_seven n h
  have h1 := varB_pos n
  have e : (vaS n ++ t).data.toList = varB n ++ t.data.toList := by rw [ba_app]; rfl
  have hs : (vaS n ++ t).size = (varB n).length + t.size := by rw [ba_size, e, List.length_append]; rfl
  have ht : (vaS n ++ t).data.toList.take (varB n).length = varB n := by rw [e, List.take_left' rfl]
  refine Or.inr ⟨h1, h7, by omega, ?_, ?_⟩
  · rw [canonK_iff _ _ (by omega), show (varB n).length - 1 + 1 = (varB n).length by omega, ht, valB_varB]
  · rw [ht, valB_varB]
theorem rv_ans {T : ByteArray} (h : ¬ (rvP T).2 = 0) : Ans T (rvP T).1 (rvP T).2 := by
  unfold rvP at h ⊢
  by_cases hx : ∃ p : Nat × Nat, Ans T p.1 p.2
  · rw [dif_pos hx] at h ⊢
    exact Classical.choose_spec hx
  · rw [dif_neg hx] at h
    exact absurd rfl h
theorem ans_text {T : ByteArray} {n k : Nat} (h : Ans T n k) (hk : ¬ k = 0) : T.extract 0 k = vaS n ∧ n ≤ 562949953421311 ∧ k = (varB n).length := by
  rcases h with ⟨_, e, _⟩ | ⟨h1, h7, h2, hc, hn⟩
  · exact absurd e hk
  have ht := (canonK_iff T (k - 1) (by omega)).1 hc
  rw [show k - 1 + 1 = k by omega, ← hn] at ht
  have hl : (T.data.toList.take k).length = k := List.length_take_of_le h2
  refine ⟨?_, ?_, ?_⟩
  · apply ba_ext
    rw [ba_exl, List.drop_zero, ← ht]
    rfl
  · rw [hn]
    exact valB_seven _ (by omega)
  · rw [ht, hl]
theorem vr_text {s : ByteArray} {a en : Nat} (he : en ≤ s.size) (h : ¬ vrN s a en = 0) (hv : a + 1 + vrN s a en ≤ en) : s.extract (a + 1) (a + 1 + vrN s a en) = vaS (lnN s a en) ∧ lnN s a en ≤ 562949953421311 := by
  have hA : Ans (s.extract (a + 1) en) (lnN s a en) (vrN s a en) := rv_ans h
  have ht := ans_text hA h
  rw [ext_ex hv] at ht
  exact ⟨ht.1, ht.2.1⟩
theorem vr_made {s : ByteArray} {a en n : Nat} (hn : n ≤ 562949953421311) (hk : a + 1 + (varB n).length ≤ en) (ht : s.extract (a + 1) (a + 1 + (varB n).length) = vaS n) : vrN s a en = (varB n).length ∧ lnN s a en = n := by
  have e : s.extract (a + 1) en = vaS n ++ s.extract (a + 1 + (varB n).length) en := by
    rw [ext_split s (b := a + 1 + (varB n).length) (by omega) hk, ht]
  have hr := rv_of (ans_made n hn (s.extract (a + 1 + (varB n).length) en))
  unfold vrN lnN
  rw [e, hr]
  exact ⟨rfl, rfl⟩
end Go.Proofs.YtengggpobhibcaaDoor.Nd

set_option linter.unusedVariables false
set_option maxRecDepth 100000
namespace Go.Proofs.YtengggpobhibcaaDoor.Nd
open Go Go.RowKit Go.Joins Own Draw Var

/-- A node that has ended: its number, its text, how many stand inside of each other there. -/
abbrev En := Nat × ByteArray × Nat
def hbN (x : PT) : Nat := (if x.2.1 = true then x.1 else x.1 + 128).toNat
def txS (x : PT) (t : ByteArray) : ByteArray := byS (hbN x) ++ vaS t.size ++ t
def inS (d : ByteArray) (es : List En) : ByteArray := es.foldl (fun a e => a ++ e.2.1) d
def neS (es : List En) : Nat := es.foldl (fun a e => max a (e.2.2 + 1)) 1
def riS (x : PT) : Prop := (decide (1 ≤ x.1) && decide (x.1 ≤ 100)) = true ∧ if x.2.1 = true then x.2.2.2.length = 0 ∧ x.2.2.1.size ≤ 900 else x.2.2.1 = ⟨#[]⟩
instance (x : PT) : Decidable (riS x) := by unfold riS; exact inferInstance
/-- What a node with these ended ones as its Kids asks. -/
def fiS (x : PT) (es : List En) : Prop := x.2.2.2 = es.map (fun e => (e.1 : Int)) ∧ neS es ≤ 8 ∧ (txS x (inS x.2.2.1 es)).size ≤ 900
instance (x : PT) (es : List En) : Decidable (fiS x es) := by unfold fiS; exact inferInstance
def stS (i : Nat) (x : PT) (st : List En) : Option (List En) :=
  if st.length < x.2.2.2.length then none else if ¬ riS x then none
  else if fiS x (st.drop (st.length - x.2.2.2.length)) then some (st.take (st.length - x.2.2.2.length) ++ [(i, txS x (inS x.2.2.1 (st.drop (st.length - x.2.2.2.length))), neS (st.drop (st.length - x.2.2.2.length)))]) else none
def ruS : Nat → List PT → List En → Option (List En)
  | _, [], st => some st
  | i, x :: xs, st => match stS i x st with | some t => ruS (i + 1) xs t | none => none
theorem ruS_app : ∀ (xs ys : List PT) (i : Nat) (st : List En), ruS i (xs ++ ys) st = match ruS i xs st with | some t => ruS (i + xs.length) ys t | none => none
  | [], ys, i, st => by simp [ruS]
  | x :: xs, ys, i, st => by
    simp only [List.cons_append, ruS]
    cases stS i x st with
    | none => rfl
    | some t =>
      dsimp only
      rw [ruS_app xs ys (i + 1) t, List.length_cons, show i + 1 + xs.length = i + (xs.length + 1) by omega]
theorem inS_cons (d : ByteArray) (e : En) (es : List En) : inS d (e :: es) = inS (d ++ e.2.1) es := rfl
theorem app_assoc (x y z : ByteArray) : x ++ y ++ z = x ++ (y ++ z) := by apply ba_ext; rw [ba_app, ba_app, ba_app, ba_app, List.append_assoc]
theorem app_none (x : ByteArray) : x ++ ⟨#[]⟩ = x := by apply ba_ext; rw [ba_app]; simp
theorem none_app (x : ByteArray) : (⟨#[]⟩ : ByteArray) ++ x = x := by apply ba_ext; rw [ba_app]; simp
theorem inS_app : ∀ (es : List En) (d : ByteArray), inS d es = d ++ inS ⟨#[]⟩ es
  | [], d => (app_none d).symm
  | e :: es, d => by rw [inS_cons, inS_cons, inS_app es (d ++ e.2.1), inS_app es (⟨#[]⟩ ++ e.2.1), none_app, app_assoc]
theorem neS_le : ∀ (es : List En) (a f : Nat), a ≤ f + 1 → (∀ e ∈ es, e.2.2 ≤ f) → es.foldl (fun a e => max a (e.2.2 + 1)) a ≤ f + 1
  | [], a, f, h, _ => h
  | e :: es, a, f, h, hs => neS_le es _ f (by have := hs e (by simp); dsimp only; omega) (fun x hx => hs x (by simp [hx]))
/-- What a call of the reader made: nodes that a stack shows as what was read. -/
def RdA (s : ByteArray) (f : Nat) (out : List PT) (bg a : Nat) (r : NdR) : Prop :=
  ∃ (new : List PT) (d : Nat), r.1.1 = out ++ new ∧ r.1.2.1 = bg + new.length ∧ 1 ≤ new.length ∧ d ≤ f ∧ ∀ st, ruS out.length new st = some (st ++ [(out.length + new.length - 1, s.extract a r.2, d)])
def RdO (s : ByteArray) (f : Nat) (nd : List PT → Nat → Nat → Nat → NdR) : Prop := ∀ out bg a en, bg ≤ 60 → a ≤ en → en ≤ s.size → (nd out bg a en).1.2.2 = 0 → RdA s f out bg a (nd out bg a en)
theorem loop_a {s : ByteArray} {f : Nat} {nd : List PT → Nat → Nat → Nat → NdR} (hg : NdOk nd s.size) (h : RdO s f nd) : ∀ (m : Nat) (out : List PT) (bg : Nat) (ks : List Int) (fr to : Nat), bg ≤ 60 → fr ≤ to → to ≤ s.size → to ≤ fr + m → (loopN nd m out bg ks fr to).1.2.2 = 0 →
    ∃ (new : List PT) (es : List En), (loopN nd m out bg ks fr to).1.1 = out ++ new ∧ (loopN nd m out bg ks fr to).1.2.1 = bg + new.length ∧ (loopN nd m out bg ks fr to).2 = ks ++ es.map (fun e => (e.1 : Int)) ∧ (∀ st, ruS out.length new st = some (st ++ es)) ∧ inS ⟨#[]⟩ es = s.extract fr to ∧ ∀ e ∈ es, e.2.2 ≤ f
  | 0, out, bg, ks, fr, to, h1, h2, h3, h4, hc => ⟨[], [], by simp [loopN], by simp [loopN], by simp [loopN], fun st => by simp [ruS], by
      have e : fr = to := by omega
      subst e
      apply ba_ext
      rw [ba_exl, List.drop_of_length_le (by rw [List.length_take]; omega)]
      rfl, by simp⟩
  | m + 1, out, bg, ks, fr, to, h1, h2, h3, h4, hc => by
    unfold loopN at hc ⊢
    by_cases hlt : fr < to
    · rw [if_pos hlt] at hc ⊢
      have g := hg out bg fr to h1 h2 h3
      by_cases hz : (nd out bg fr to).1.2.2 = 0
      · rw [if_pos hz] at hc ⊢
        have gk := g.ok hz
        obtain ⟨n1, d1, a1, a2, a3, a4, a5⟩ := h out bg fr to h1 h2 h3 hz
        obtain ⟨n2, es, b1, b2, b3, b4, b5, b6⟩ := loop_a hg h m _ _ (ks ++ [(((nd out bg fr to).1.1.length : Nat) : Int) - 1]) _ to g.top gk.2.1 h3 (by omega) hc
        have hl : (nd out bg fr to).1.1.length = out.length + n1.length := by rw [a1, List.length_append]
        refine ⟨n1 ++ n2, (out.length + n1.length - 1, s.extract fr (nd out bg fr to).2, d1) :: es, ?_, ?_, ?_, ?_, ?_, ?_⟩
        · rw [b1, a1, List.append_assoc]
        · rw [b2, a2, List.length_append]; omega
        · rw [b3, hl, List.append_assoc, List.map_cons, List.singleton_append]
          congr 2
          dsimp only
          omega
        · intro st
          rw [ruS_app, a5 st]
          dsimp only
          rw [← hl, b4, List.append_assoc]
          rfl
        · rw [inS_cons, none_app, inS_app, b5, ← ext_split s (by omega) gk.2.1]
        · intro e he
          rcases List.mem_cons.1 he with rfl | he
          · exact a4
          · exact b6 e he
      · rw [if_neg hz] at hc
        exact absurd hc hz
    · rw [if_neg hlt] at hc ⊢
      exact ⟨[], [], by simp, by simp, by simp, fun st => by simp [ruS], by
        have e : fr = to := by omega
        subst e
        apply ba_ext
        rw [ba_exl, List.drop_of_length_le (by rw [List.length_take]; omega)]
        rfl, by simp⟩
theorem stS_put (i : Nat) (x : PT) (st es : List En) (h1 : riS x) (h2 : fiS x es) : stS i x (st ++ es) = some (st ++ [(i, txS x (inS x.2.2.1 es), neS es)]) := by
  have hl : x.2.2.2.length = es.length := by rw [h2.1, List.length_map]
  have hn : (st ++ es).length - x.2.2.2.length = st.length := by rw [hl, List.length_append]; omega
  have hd : (st ++ es).drop st.length = es := by rw [List.drop_append_of_le_length (Nat.le_refl _), List.drop_length, List.nil_append]
  have ht : (st ++ es).take st.length = st := by rw [List.take_append_of_le_length (Nat.le_refl _), List.take_length]
  unfold stS
  rw [if_neg (by rw [hl, List.length_append]; omega), if_neg (fun c => c h1), hn, hd, ht, if_pos h2]
theorem text_is {s : ByteArray} {a en : Nat} (he : en ≤ s.size) (ha : a < en) (hv : ¬ vrN s a en = 0) (hp : a + 1 + vrN s a en + lnN s a en ≤ en) : s.extract a (a + 1 + vrN s a en + lnN s a en) = byS (at_ s a) ++ vaS (lnN s a en) ++ s.extract (a + 1 + vrN s a en) (a + 1 + vrN s a en + lnN s a en) := by
  rw [ext_split s (b := a + 1 + vrN s a en) (by omega) (by omega), ext_split s (a := a) (b := a + 1) (by omega) (by omega), ext_one (by omega), (vr_text he hv (by omega)).1]
theorem hb_leaf {s : ByteArray} {a : Nat} (h : lfB s a = true) (d : ByteArray) (ks : List Int) : hbN (tgN s a, true, d, ks) = at_ s a := by
  unfold lfB at h
  have h' := of_decide_eq_true h
  unfold hbN tgN
  dsimp only
  rw [if_pos rfl]
  omega
theorem hb_node {s : ByteArray} {a : Nat} (h : ¬ lfB s a = true) (d : ByteArray) (ks : List Int) : hbN (tgN s a, false, d, ks) = at_ s a := by
  unfold lfB at h
  have h' : ¬ ((at_ s a : Nat) : Int) < 128 := fun c => h (decide_eq_true c)
  have := at_lt s a
  unfold hbN tgN
  dsimp only
  rw [if_neg (by simp)]
  omega
theorem step_a {s : ByteArray} (hs : s.size ≤ 900) {f : Nat} (hf : f + 1 ≤ 8) {nd : List PT → Nat → Nat → Nat → NdR} (hg : NdOk nd s.size) (h : RdO s f nd) : RdO s (f + 1) (stepN s true nd) := by
  intro out bg a en h1 h2 h3 hc
  unfold stepN at hc ⊢
  by_cases h60 : 60 ≤ bg
  · rw [if_pos h60] at hc; cases hc
  rw [if_neg h60] at hc ⊢
  by_cases ha : en ≤ a
  · rw [if_pos ha] at hc; cases hc
  rw [if_neg ha] at hc ⊢
  by_cases hb : (decide (1 ≤ tgN s a) && decide (tgN s a ≤ 100)) = false
  · rw [if_pos hb] at hc; cases hc
  rw [if_neg hb, if_neg (show ¬ true = false by simp)] at hc ⊢
  by_cases hv : vrN s a en = 0 ∨ en < a + 1 + vrN s a en + lnN s a en
  · rw [if_pos hv] at hc; cases hc
  rw [if_neg hv] at hc ⊢
  have hv1 : ¬ vrN s a en = 0 := fun c => hv (Or.inl c)
  have hv2 : a + 1 + vrN s a en + lnN s a en ≤ en := by omega
  have ht := text_is h3 (by omega) hv1 hv2
  have hbt : (decide (1 ≤ tgN s a) && decide (tgN s a ≤ 100)) = true := by simpa using hb
  have hsz : (s.extract (a + 1 + vrN s a en) (a + 1 + vrN s a en + lnN s a en)).size = lnN s a en := by rw [ext_sz (by omega)]; omega
  have hsa : (s.extract a (a + 1 + vrN s a en + lnN s a en)).size ≤ 900 := by rw [ext_sz (by omega)]; omega
  by_cases hl : lfB s a = true
  · rw [if_pos hl]
    have hx : txS (tgN s a, true, s.extract (a + 1 + vrN s a en) (a + 1 + vrN s a en + lnN s a en), []) (s.extract (a + 1 + vrN s a en) (a + 1 + vrN s a en + lnN s a en)) = s.extract a (a + 1 + vrN s a en + lnN s a en) := by
      unfold txS
      rw [hb_leaf hl, hsz, ht]
    refine ⟨[_], 1, rfl, rfl, Nat.le_refl _, by omega, fun st => ?_⟩
    have hp := stS_put out.length (tgN s a, true, s.extract (a + 1 + vrN s a en) (a + 1 + vrN s a en + lnN s a en), []) st [] ⟨hbt, by rw [if_pos rfl]; exact ⟨rfl, by rw [hsz]; omega⟩⟩ ⟨rfl, by decide, by show (txS _ (s.extract _ _)).size ≤ 900; rw [hx]; exact hsa⟩
    rw [List.append_nil] at hp
    unfold ruS
    rw [hp]
    show some (st ++ [(out.length, txS _ (s.extract _ _), 1)]) = _
    rw [hx]
    rfl
  · rw [if_neg hl] at hc ⊢
    obtain ⟨R, hR⟩ : ∃ R, loopN nd (lnN s a en) out (bg + 1) [] (a + 1 + vrN s a en) (a + 1 + vrN s a en + lnN s a en) = R := ⟨_, rfl⟩
    have la := loop_a hg h (lnN s a en) out (bg + 1) [] (a + 1 + vrN s a en) (a + 1 + vrN s a en + lnN s a en) (by omega) (by omega) (by omega) (Nat.le_refl _)
    rw [hR] at hc la ⊢
    by_cases hz : R.1.2.2 = 0
    · rw [if_pos hz]
      obtain ⟨new, es, b1, b2, b3, b4, b5, b6⟩ := la hz
      rw [List.nil_append] at b3
      have hx : txS (tgN s a, false, ⟨#[]⟩, R.2) (inS ⟨#[]⟩ es) = s.extract a (a + 1 + vrN s a en + lnN s a en) := by
        unfold txS
        rw [hb_node hl, b5, hsz, ht]
      have hne : neS es ≤ f + 1 := neS_le es 1 f (by omega) b6
      refine ⟨new ++ [(tgN s a, false, ⟨#[]⟩, R.2)], neS es, by rw [b1, List.append_assoc], by rw [b2, List.length_append, List.length_singleton]; omega, by rw [List.length_append, List.length_singleton]; omega, hne, fun st => ?_⟩
      have hp := stS_put (out.length + new.length) (tgN s a, false, ⟨#[]⟩, R.2) st es ⟨hbt, by rw [if_neg (by simp)]⟩ ⟨b3, by omega, by rw [hx]; exact hsa⟩
      rw [ruS_app, b4 st]
      dsimp only
      unfold ruS
      rw [hp]
      dsimp only
      rw [hx, List.length_append, List.length_singleton]
      rfl
    · rw [if_neg hz] at hc
      exact absurd hc hz
theorem node_a (s : ByteArray) (hs : s.size ≤ 900) : ∀ f, f ≤ 8 → RdO s f (nodeN s f)
  | 0, _ => by
    intro out bg a en h1 h2 h3 hc
    unfold nodeN stepN at hc
    split at hc
    · cases hc
    · split at hc
      · cases hc
      · split at hc
        · cases hc
        · rw [if_pos rfl] at hc
          cases hc
  | f + 1, h => step_a hs h (node_good s f) (node_a s hs f (by omega))
/-- The text of a message that is right. -/
def shM (m : List PT) : Option ByteArray := if 60 < m.length then none else match ruS 0 m [] with | some [e] => some e.2.1 | _ => none
theorem read_shows {s : ByteArray} {m : List PT} (h : rdT s = (m, 0)) : shM m = some s := by
  unfold rdT at h
  by_cases h9 : 900 < s.size
  · rw [if_pos h9] at h; cases h
  rw [if_neg h9] at h
  by_cases hc : (nodeN s 8 [] 0 0 s.size).1.2.2 = 0
  · rw [if_neg (fun c => c hc)] at h
    by_cases hn : (nodeN s 8 [] 0 0 s.size).2 = s.size
    · rw [if_neg (fun c => c hn)] at h
      obtain ⟨new, d, a1, a2, a3, a4, a5⟩ := node_a s (by omega) 8 (Nat.le_refl _) [] 0 0 s.size (by omega) (Nat.zero_le _) (Nat.le_refl _) hc
      have g := (node_good s 8 [] 0 0 s.size (by omega) (Nat.zero_le _) (Nat.le_refl _)).top
      have hm : m = new := by have := congrArg Prod.fst h; dsimp only at this; rw [← this, a1, List.nil_append]
      subst hm
      have hr := a5 []
      rw [hn] at hr
      unfold shM
      rw [if_neg (by omega), show ruS 0 m [] = _ from hr]
      show some (s.extract 0 s.size) = some s
      congr 1
      apply ba_ext
      rw [ba_exl, List.drop_zero]
      exact List.take_of_length_le (Nat.le_refl s.data.toList.length)
    · rw [if_pos hn] at h
      cases h
  · rw [if_pos hc] at h
    have := congrArg Prod.snd h
    exact absurd this hc
end Go.Proofs.YtengggpobhibcaaDoor.Nd

set_option linter.unusedVariables false
set_option maxRecDepth 100000
namespace Go.Proofs.YtengggpobhibcaaDoor.Nd
open Go Go.RowKit Go.Joins Own Draw Var

theorem split_at {s x y : ByteArray} {fr to : Nat} (h : s.extract fr to = x ++ y) (h1 : fr ≤ to) (h2 : to ≤ s.size) : s.extract fr (fr + x.size) = x ∧ s.extract (fr + x.size) to = y ∧ fr + x.size + y.size = to := by
  have hz := congrArg ByteArray.size h
  rw [ext_sz h2, ByteArray.size_append] at hz
  rw [ext_split s (b := fr + x.size) (by omega) (by omega)] at h
  have hl := congrArg (fun t : ByteArray => t.data.toList) h
  try dsimp only at hl
  rw [ba_app, ba_app] at hl
  have hi := List.append_inj hl (by rw [← ba_size, ← ba_size, ext_sz (by omega)]; omega)
  exact ⟨ba_ext hi.1, ba_ext hi.2, by omega⟩
def RdB (m : List PT) (lo : Nat) (e : En) : Prop :=
  lo ≤ e.1 ∧ e.1 < m.length ∧ 2 ≤ e.2.1.size ∧ e.2.1.size ≤ 900 ∧ e.2.2 ≤ 8 ∧ ∀ (s : ByteArray) (f a en bg : Nat), s.extract a (a + e.2.1.size) = e.2.1 → a + e.2.1.size ≤ en → en ≤ s.size → e.2.2 ≤ f → bg + (e.1 + 1 - lo) ≤ 60 →
    nodeN s f (m.take lo) bg a en = ((m.take (e.1 + 1), bg + (e.1 + 1 - lo), 0), a + e.2.1.size)
def ChB (m : List PT) : Nat → List En → Nat → Prop
  | lo, [], hi => lo = hi
  | lo, e :: r, hi => RdB m lo e ∧ ChB m (e.1 + 1) r hi
theorem chB_app (m : List PT) : ∀ (xs ys : List En) (lo hi : Nat), ChB m lo (xs ++ ys) hi ↔ ∃ mid, ChB m lo xs mid ∧ ChB m mid ys hi
  | [], ys, lo, hi => ⟨fun h => ⟨lo, rfl, h⟩, fun ⟨mid, h1, h2⟩ => by have e : lo = mid := h1; subst e; exact h2⟩
  | x :: xs, ys, lo, hi => by
    show RdB m lo x ∧ ChB m (x.1 + 1) (xs ++ ys) hi ↔ _
    rw [chB_app m xs ys]
    exact ⟨fun ⟨h, mid, h1, h2⟩ => ⟨mid, ⟨h, h1⟩, h2⟩, fun ⟨mid, ⟨h, h1⟩, h2⟩ => ⟨h, mid, h1, h2⟩⟩
theorem chB_le (m : List PT) : ∀ (es : List En) (lo hi : Nat), ChB m lo es hi → lo ≤ hi
  | [], lo, hi, h => by have e : lo = hi := h; omega
  | e :: r, lo, hi, h => by have h1 := h.1.1; have h2 := chB_le m r _ _ h.2; omega
theorem loop_b (m : List PT) (s : ByteArray) (f : Nat) : ∀ (es : List En) (lo hi : Nat), ChB m lo es hi → ∀ (fuel bg : Nat) (ks : List Int) (fr to : Nat), s.extract fr to = inS ⟨#[]⟩ es → fr ≤ to → to ≤ s.size → to ≤ fr + fuel → (∀ e ∈ es, e.2.2 ≤ f) → bg + (hi - lo) ≤ 60 →
    loopN (nodeN s f) fuel (m.take lo) bg ks fr to = ((m.take hi, bg + (hi - lo), 0), ks ++ es.map (fun e => (e.1 : Int)))
  | [], lo, hi, hC, fuel, bg, ks, fr, to, hT, h1, h2, h3, h4, h5 => by
    have e : lo = hi := hC
    subst e
    have hz := congrArg ByteArray.size hT
    rw [ext_sz h2] at hz
    have hz0 : to - fr = 0 := hz
    have hr : ((m.take lo, bg, (0 : Int)), ks) = ((m.take lo, bg + (lo - lo), 0), ks ++ ([] : List En).map (fun e => (e.1 : Int))) := by simp
    rw [← hr]
    cases fuel with
    | zero => rfl
    | succ n => unfold loopN; rw [if_neg (by omega)]
  | e :: r, lo, hi, hC, fuel, bg, ks, fr, to, hT, h1, h2, h3, h4, h5 => by
    rw [inS_cons, none_app, inS_app] at hT
    obtain ⟨t1, t2, t3⟩ := split_at hT h1 h2
    obtain ⟨⟨r1, r2, r3, r4, _, r5⟩, hC2⟩ := hC
    have hle := chB_le m r _ _ hC2
    have hn := r5 s f fr to bg t1 (by omega) h2 (h4 e (by simp)) (by omega)
    cases fuel with
    | zero => exfalso; omega
    | succ n =>
      unfold loopN
      rw [if_pos (by omega), hn, if_pos rfl]
      dsimp only
      rw [loop_b m s f r (e.1 + 1) hi hC2 n _ _ _ to t2 (by omega) h2 (by omega) (fun x hx => h4 x (by simp [hx])) (by omega)]
      have hl : ((((m.take (e.1 + 1)).length : Nat)) : Int) - 1 = (e.1 : Int) := by rw [List.length_take_of_le (by omega)]; omega
      rw [hl, List.append_assoc, List.map_cons, List.singleton_append, show bg + (e.1 + 1 - lo) + (hi - (e.1 + 1)) = bg + (hi - lo) by omega]
theorem fold_ge : ∀ (es : List En) (a : Nat), a ≤ es.foldl (fun a e => max a (e.2.2 + 1)) a
  | [], a => Nat.le_refl _
  | e :: es, a => Nat.le_trans (by omega) (fold_ge es (max a (e.2.2 + 1)))
theorem fold_mem : ∀ (es : List En) (a : Nat) (e : En), e ∈ es → e.2.2 + 1 ≤ es.foldl (fun a e => max a (e.2.2 + 1)) a
  | x :: es, a, e, h => by
    rcases List.mem_cons.1 h with rfl | h
    · exact Nat.le_trans (by omega) (fold_ge es (max a (e.2.2 + 1)))
    · exact fold_mem es _ e h
theorem byS_inj {a b : Nat} (ha : a < 256) (hb : b < 256) (h : byS a = byS b) : a = b := by
  have hl := congrArg (fun t : ByteArray => (t.data.toList.getD 0 0).toNat) h
  unfold byS at hl
  simp only [List.getD_cons_zero] at hl
  rw [UInt8.toNat_ofNat_of_lt' (by show _ < 256; omega), UInt8.toNat_ofNat_of_lt' (by show _ < 256; omega)] at hl
  exact hl
theorem stS_some {i : Nat} {x : PT} {st st' : List En} (h : stS i x st = some st') : ∃ t es, st = t ++ es ∧ riS x ∧ fiS x es ∧ st' = t ++ [(i, txS x (inS x.2.2.1 es), neS es)] := by
  unfold stS at h
  split at h
  · cases h
  · split at h
    · cases h
    · split at h
      · rename_i a b c
        refine ⟨st.take (st.length - x.2.2.2.length), st.drop (st.length - x.2.2.2.length), (List.take_append_drop _ _).symm, Decidable.not_not.1 b, c, ?_⟩
        exact (Option.some.inj h).symm
      · cases h
theorem riS_hb {x : PT} (h : riS x) : hbN x < 256 ∧ hbN x % 128 = x.1.toNat ∧ (decide (((hbN x : Nat) : Int) < 128) = x.2.1) ∧ 1 ≤ x.1 ∧ x.1 ≤ 100 := by
  have h1 := h.1
  rw [Bool.and_eq_true] at h1
  have a := of_decide_eq_true h1.1
  have b := of_decide_eq_true h1.2
  unfold hbN
  cases hx : x.2.1 with
  | true =>
    rw [if_pos rfl]
    refine ⟨by omega, by omega, decide_eq_true (by omega), a, b⟩
  | false =>
    rw [if_neg (by simp)]
    refine ⟨by omega, by omega, decide_eq_false (by omega), a, b⟩
theorem step_b {m : List PT} {i : Nat} (hi : i < m.length) {st st' : List En} (hC : ChB m 0 st i) (h : stS i m[i] st = some st') : ChB m 0 st' (i + 1) := by
  obtain ⟨t, es, rfl, hri, hfi, rfl⟩ := stS_some h
  obtain ⟨mid, c1, c2⟩ := (chB_app m t es 0 i).1 hC
  rw [chB_app]
  refine ⟨mid, c1, ?_, rfl⟩
  have hmid := chB_le m es _ _ c2
  obtain ⟨x, hx⟩ : ∃ x, m[i] = x := ⟨_, rfl⟩
  rw [hx] at hri hfi ⊢
  have hnx : m.take (i + 1) = m.take i ++ [x] := by rw [List.take_succ_eq_append_getElem hi, hx]
  obtain ⟨b1, b2, b3, b4, b5⟩ := riS_hb hri
  have hts : (txS x (inS x.2.2.1 es)).size = 1 + (varB (inS x.2.2.1 es).size).length + (inS x.2.2.1 es).size := by
    unfold txS
    rw [ByteArray.size_append, ByteArray.size_append, vaS_size]
    rfl
  have hvp := varB_pos (inS x.2.2.1 es).size
  have hf3 := hfi.2.2
  have hf2 := hfi.2.1
  refine ⟨hmid, hi, by dsimp only; omega, hf3, hf2, ?_⟩
  dsimp only
  intro s f a en bg ht h1 h2 h3 h4
  rw [hts] at ht h1 ⊢
  obtain ⟨In, hIn⟩ : ∃ t, inS x.2.2.1 es = t := ⟨_, rfl⟩
  rw [hIn] at ht h1 hts hf3 hvp ⊢
  unfold txS at ht
  rw [app_assoc] at ht
  obtain ⟨p1, p2, p3⟩ := split_at ht (by omega) (by omega)
  have hb1 : (byS (hbN x)).size = 1 := rfl
  rw [hb1] at p1 p2 p3
  obtain ⟨q1, q2, q3⟩ := split_at p2 (by omega) (by omega)
  rw [vaS_size] at q1 q2 q3
  have hat : at_ s a = hbN x := byS_inj (at_lt s a) b1 (by rw [← ext_one (by omega)]; exact p1)
  have hnl : In.size ≤ 562949953421311 := by omega
  obtain ⟨v1, v2⟩ := vr_made (en := en) hnl (by omega) q1
  have htg : tgN s a = x.1 := by unfold tgN; rw [hat, b2]; omega
  have hlf : lfB s a = x.2.1 := by unfold lfB; rw [hat]; exact b3
  have hge := fold_ge es 1
  have hne : 1 ≤ neS es := hge
  obtain ⟨g, rfl⟩ : ∃ g, f = g + 1 := ⟨f - 1, by omega⟩
  show stepN s true (nodeN s g) (m.take mid) bg a en = _
  unfold stepN
  rw [if_neg (by omega), if_neg (by omega), htg, if_neg (by rw [hri.1]; simp), if_neg (by simp), v1, v2, if_neg (by omega), hlf]
  have hend : a + 1 + (varB In.size).length + In.size = a + (1 + (varB In.size).length + In.size) := by omega
  cases hx1 : x.2.1 with
  | true =>
    rw [if_pos rfl]
    have hr2 := hri.2
    rw [if_pos hx1] at hr2
    have he0 : es = [] := by
      have := congrArg List.length hfi.1
      rw [List.length_map, hr2.1] at this
      exact List.eq_nil_of_length_eq_zero this.symm
    subst he0
    have hmi : mid = i := c2
    subst hmi
    have hd : x.2.2.1 = In := hIn
    have hk : x.2.2.2 = [] := List.eq_nil_of_length_eq_zero hr2.1
    rw [hnx, hend, show a + 1 + (varB In.size).length = a + 1 + (varB In.size).length from rfl]
    rw [show s.extract (a + 1 + (varB In.size).length) (a + (1 + (varB In.size).length + In.size)) = In from q2]
    rw [show x = (x.1, true, In, []) by rw [← hx1, ← hd, ← hk]]
    rw [show bg + (mid + 1 - mid) = bg + 1 by omega]
  | false =>
    rw [if_neg (by simp)]
    have hr2 := hri.2
    rw [if_neg (by rw [hx1]; simp)] at hr2
    rw [hr2] at hIn
    have hlp := loop_b m s g es mid i c2 In.size (bg + 1) [] (a + 1 + (varB In.size).length) (a + 1 + (varB In.size).length + In.size) (by rw [hIn, hend]; exact q2) (by omega) (by omega) (Nat.le_refl _) (fun e he => by have := fold_mem es 1 e he; have h5 : neS es ≤ g + 1 := h3; unfold neS at h5; omega) (by omega)
    rw [hlp]
    dsimp only
    rw [if_pos rfl, hnx, hend, List.nil_append, ← hfi.1]
    rw [show x = (x.1, false, ⟨#[]⟩, x.2.2.2) by rw [← hx1, ← hr2]]
    rw [show bg + 1 + (i - mid) = bg + (i + 1 - mid) by omega]
theorem run_b {m : List PT} : ∀ (rest : List PT) (i : Nat) (st st' : List En), ChB m 0 st i → m.drop i = rest → ruS i rest st = some st' → ChB m 0 st' m.length
  | [], i, st, st', hC, hd, h => by
    have e : st = st' := Option.some.inj h
    subst e
    have hl := List.drop_eq_nil_iff.1 hd
    have hi : i ≤ m.length := by
      cases st with
      | nil => have e : 0 = i := hC; omega
      | cons e r =>
        rcases List.eq_nil_or_concat (e :: r) with h0 | ⟨L, b, hb⟩
        · cases h0
        · rw [hb, List.concat_eq_append, chB_app] at hC
          obtain ⟨mid, _, c2⟩ := hC
          have c3 : b.1 + 1 = i := c2.2
          have := c2.1.2.1
          omega
    have : i = m.length := by omega
    rw [← this]
    exact hC
  | x :: rest, i, st, st', hC, hd, h => by
    have hi : i < m.length := by
      rcases Nat.lt_or_ge i m.length with h | h
      · exact h
      · rw [List.drop_of_length_le h] at hd; cases hd
    have hd2 := List.drop_eq_getElem_cons hi
    rw [hd] at hd2
    injection hd2 with e1 e2
    unfold ruS at h
    cases hs : stS i x st with
    | none => rw [hs] at h; cases h
    | some t =>
      rw [hs] at h
      exact run_b rest (i + 1) t st' (step_b hi hC (by rw [← e1]; exact hs)) e2.symm h
theorem shM_some {m : List PT} {T : ByteArray} (h : shM m = some T) : m.length ≤ 60 ∧ ∃ e : En, ruS 0 m [] = some [e] ∧ e.2.1 = T := by
  unfold shM at h
  split at h
  · cases h
  · rename_i hl
    refine ⟨by omega, ?_⟩
    split at h
    · rename_i e he
      exact ⟨e, he, Option.some.inj h⟩
    · cases h
/-- What is shown is read. -/
theorem shows_read {m : List PT} {T : ByteArray} (h : shM m = some T) : rdT T = (m, 0) := by
  obtain ⟨hl, e, hr, rfl⟩ := shM_some h
  have hC := run_b m 0 [] [e] rfl rfl hr
  obtain ⟨⟨r1, r2, r3, r4, r5, r6⟩, hC2⟩ := hC
  have he : e.1 + 1 = m.length := hC2
  have hn := r6 e.2.1 8 0 e.2.1.size 0 (by rw [Nat.zero_add]; apply ba_ext; rw [ba_exl, List.drop_zero]; exact List.take_of_length_le (Nat.le_refl _)) (by omega) (Nat.le_refl _) r5 (by omega)
  have hn' : nodeN e.2.1 8 [] 0 0 e.2.1.size = ((m, m.length, 0), e.2.1.size) := by
    have : m.take 0 = [] := rfl
    rw [this, he, List.take_length] at hn
    rw [hn]
    simp
  unfold rdT
  rw [if_neg (by omega), hn', if_neg (fun c => c rfl), if_neg (fun c => c rfl)]
end Go.Proofs.YtengggpobhibcaaDoor.Nd
