/- A message shown by a stack is read back. -/
import Derived.Test.YtengggpobhibcaaSh1
set_option linter.unusedVariables false
set_option maxRecDepth 100000
namespace Go.Proofs.Ytengggpobhibcaa.Nd
open Go Go.RowKit Go.Joins Own Draw Var

theorem split_at {s x y : ByteArray} {fr to : Nat} (h : s.extract fr to = x ++ y) (h1 : fr ≤ to) (h2 : to ≤ s.size) : s.extract fr (fr + x.size) = x ∧ s.extract (fr + x.size) to = y ∧ fr + x.size + y.size = to := by
  have hz := congrArg ByteArray.size h
  rw [ext_sz h2, ByteArray.size_append] at hz
  rw [ext_split s (b := fr + x.size) (by omega) (by omega)] at h
  have hl := congrArg (fun t : ByteArray => t.data.toList) h
  try dsimp only at hl
  rw [ba_app, ba_app] at hl
  have hi := List.append_inj hl (by rw [← ba_size, ← ba_size, ext_sz (by omega)]; omega)
  exact ⟨ba_ext hi.1, ba_ext hi.2, by omega⟩
def RdB (m : List PT) (lo : Nat) (e : En) : Prop :=
  lo ≤ e.1 ∧ e.1 < m.length ∧ 2 ≤ e.2.1.size ∧ e.2.1.size ≤ 900 ∧ e.2.2 ≤ 8 ∧ ∀ (s : ByteArray) (f a en bg : Nat), s.extract a (a + e.2.1.size) = e.2.1 → a + e.2.1.size ≤ en → en ≤ s.size → e.2.2 ≤ f → bg + (e.1 + 1 - lo) ≤ 60 →
    nodeN s f (m.take lo) bg a en = ((m.take (e.1 + 1), bg + (e.1 + 1 - lo), 0), a + e.2.1.size)
def ChB (m : List PT) : Nat → List En → Nat → Prop
  | lo, [], hi => lo = hi
  | lo, e :: r, hi => RdB m lo e ∧ ChB m (e.1 + 1) r hi
theorem chB_app (m : List PT) : ∀ (xs ys : List En) (lo hi : Nat), ChB m lo (xs ++ ys) hi ↔ ∃ mid, ChB m lo xs mid ∧ ChB m mid ys hi
  | [], ys, lo, hi => ⟨fun h => ⟨lo, rfl, h⟩, fun ⟨mid, h1, h2⟩ => by have e : lo = mid := h1; subst e; exact h2⟩
  | x :: xs, ys, lo, hi => by
    show RdB m lo x ∧ ChB m (x.1 + 1) (xs ++ ys) hi ↔ _
    rw [chB_app m xs ys]
    exact ⟨fun ⟨h, mid, h1, h2⟩ => ⟨mid, ⟨h, h1⟩, h2⟩, fun ⟨mid, ⟨h, h1⟩, h2⟩ => ⟨h, mid, h1, h2⟩⟩
theorem chB_le (m : List PT) : ∀ (es : List En) (lo hi : Nat), ChB m lo es hi → lo ≤ hi
  | [], lo, hi, h => by have e : lo = hi := h; omega
  | e :: r, lo, hi, h => by have h1 := h.1.1; have h2 := chB_le m r _ _ h.2; omega
theorem loop_b (m : List PT) (s : ByteArray) (f : Nat) : ∀ (es : List En) (lo hi : Nat), ChB m lo es hi → ∀ (fuel bg : Nat) (ks : List Int) (fr to : Nat), s.extract fr to = inS ⟨#[]⟩ es → fr ≤ to → to ≤ s.size → to ≤ fr + fuel → (∀ e ∈ es, e.2.2 ≤ f) → bg + (hi - lo) ≤ 60 →
    loopN (nodeN s f) fuel (m.take lo) bg ks fr to = ((m.take hi, bg + (hi - lo), 0), ks ++ es.map (fun e => (e.1 : Int)))
  | [], lo, hi, hC, fuel, bg, ks, fr, to, hT, h1, h2, h3, h4, h5 => by
    have e : lo = hi := hC
    subst e
    have hz := congrArg ByteArray.size hT
    rw [ext_sz h2] at hz
    have hz0 : to - fr = 0 := hz
    have hr : ((m.take lo, bg, (0 : Int)), ks) = ((m.take lo, bg + (lo - lo), 0), ks ++ ([] : List En).map (fun e => (e.1 : Int))) := by simp
    rw [← hr]
    cases fuel with
    | zero => rfl
    | succ n => unfold loopN; rw [if_neg (by omega)]
  | e :: r, lo, hi, hC, fuel, bg, ks, fr, to, hT, h1, h2, h3, h4, h5 => by
    rw [inS_cons, none_app, inS_app] at hT
    obtain ⟨t1, t2, t3⟩ := split_at hT h1 h2
    obtain ⟨⟨r1, r2, r3, r4, _, r5⟩, hC2⟩ := hC
    have hle := chB_le m r _ _ hC2
    have hn := r5 s f fr to bg t1 (by omega) h2 (h4 e (by simp)) (by omega)
    cases fuel with
    | zero => exfalso; omega
    | succ n =>
      unfold loopN
      rw [if_pos (by omega), hn, if_pos rfl]
      dsimp only
      rw [loop_b m s f r (e.1 + 1) hi hC2 n _ _ _ to t2 (by omega) h2 (by omega) (fun x hx => h4 x (by simp [hx])) (by omega)]
      have hl : ((((m.take (e.1 + 1)).length : Nat)) : Int) - 1 = (e.1 : Int) := by rw [List.length_take_of_le (by omega)]; omega
      rw [hl, List.append_assoc, List.map_cons, List.singleton_append, show bg + (e.1 + 1 - lo) + (hi - (e.1 + 1)) = bg + (hi - lo) by omega]
theorem fold_ge : ∀ (es : List En) (a : Nat), a ≤ es.foldl (fun a e => max a (e.2.2 + 1)) a
  | [], a => Nat.le_refl _
  | e :: es, a => Nat.le_trans (by omega) (fold_ge es (max a (e.2.2 + 1)))
theorem fold_mem : ∀ (es : List En) (a : Nat) (e : En), e ∈ es → e.2.2 + 1 ≤ es.foldl (fun a e => max a (e.2.2 + 1)) a
  | x :: es, a, e, h => by
    rcases List.mem_cons.1 h with rfl | h
    · exact Nat.le_trans (by omega) (fold_ge es (max a (e.2.2 + 1)))
    · exact fold_mem es _ e h
theorem byS_inj {a b : Nat} (ha : a < 256) (hb : b < 256) (h : byS a = byS b) : a = b := by
  have hl := congrArg (fun t : ByteArray => (t.data.toList.getD 0 0).toNat) h
  unfold byS at hl
  simp only [List.getD_cons_zero] at hl
  rw [UInt8.toNat_ofNat_of_lt' (by show _ < 256; omega), UInt8.toNat_ofNat_of_lt' (by show _ < 256; omega)] at hl
  exact hl
theorem stS_some {i : Nat} {x : PT} {st st' : List En} (h : stS i x st = some st') : ∃ t es, st = t ++ es ∧ riS x ∧ fiS x es ∧ st' = t ++ [(i, txS x (inS x.2.2.1 es), neS es)] := by
  unfold stS at h
  split at h
  · cases h
  · split at h
    · cases h
    · split at h
      · rename_i a b c
        refine ⟨st.take (st.length - x.2.2.2.length), st.drop (st.length - x.2.2.2.length), (List.take_append_drop _ _).symm, Decidable.not_not.1 b, c, ?_⟩
        exact (Option.some.inj h).symm
      · cases h
theorem riS_hb {x : PT} (h : riS x) : hbN x < 256 ∧ hbN x % 128 = x.1.toNat ∧ (decide (((hbN x : Nat) : Int) < 128) = x.2.1) ∧ 1 ≤ x.1 ∧ x.1 ≤ 100 := by
  have h1 := h.1
  rw [Bool.and_eq_true] at h1
  have a := of_decide_eq_true h1.1
  have b := of_decide_eq_true h1.2
  unfold hbN
  cases hx : x.2.1 with
  | true =>
    rw [if_pos rfl]
    refine ⟨by omega, by omega, decide_eq_true (by omega), a, b⟩
  | false =>
    rw [if_neg (by simp)]
    refine ⟨by omega, by omega, decide_eq_false (by omega), a, b⟩
theorem step_b {m : List PT} {i : Nat} (hi : i < m.length) {st st' : List En} (hC : ChB m 0 st i) (h : stS i m[i] st = some st') : ChB m 0 st' (i + 1) := by
  obtain ⟨t, es, rfl, hri, hfi, rfl⟩ := stS_some h
  obtain ⟨mid, c1, c2⟩ := (chB_app m t es 0 i).1 hC
  rw [chB_app]
  refine ⟨mid, c1, ?_, rfl⟩
  have hmid := chB_le m es _ _ c2
  obtain ⟨x, hx⟩ : ∃ x, m[i] = x := ⟨_, rfl⟩
  rw [hx] at hri hfi ⊢
  have hnx : m.take (i + 1) = m.take i ++ [x] := by rw [List.take_succ_eq_append_getElem hi, hx]
  obtain ⟨b1, b2, b3, b4, b5⟩ := riS_hb hri
  have hts : (txS x (inS x.2.2.1 es)).size = 1 + (varB (inS x.2.2.1 es).size).length + (inS x.2.2.1 es).size := by
    unfold txS
    rw [ByteArray.size_append, ByteArray.size_append, vaS_size]
    rfl
  have hvp := varB_pos (inS x.2.2.1 es).size
  have hf3 := hfi.2.2
  have hf2 := hfi.2.1
  refine ⟨hmid, hi, by dsimp only; omega, hf3, hf2, ?_⟩
  dsimp only
  intro s f a en bg ht h1 h2 h3 h4
  rw [hts] at ht h1 ⊢
  obtain ⟨In, hIn⟩ : ∃ t, inS x.2.2.1 es = t := ⟨_, rfl⟩
  rw [hIn] at ht h1 hts hf3 hvp ⊢
  unfold txS at ht
  rw [app_assoc] at ht
  obtain ⟨p1, p2, p3⟩ := split_at ht (by omega) (by omega)
  have hb1 : (byS (hbN x)).size = 1 := rfl
  rw [hb1] at p1 p2 p3
  obtain ⟨q1, q2, q3⟩ := split_at p2 (by omega) (by omega)
  rw [vaS_size] at q1 q2 q3
  have hat : at_ s a = hbN x := byS_inj (at_lt s a) b1 (by rw [← ext_one (by omega)]; exact p1)
  have hnl : In.size ≤ 562949953421311 := by omega
  obtain ⟨v1, v2⟩ := vr_made (en := en) hnl (by omega) q1
  have htg : tgN s a = x.1 := by unfold tgN; rw [hat, b2]; omega
  have hlf : lfB s a = x.2.1 := by unfold lfB; rw [hat]; exact b3
  have hge := fold_ge es 1
  have hne : 1 ≤ neS es := hge
  obtain ⟨g, rfl⟩ : ∃ g, f = g + 1 := ⟨f - 1, by omega⟩
  show stepN s true (nodeN s g) (m.take mid) bg a en = _
  unfold stepN
  rw [if_neg (by omega), if_neg (by omega), htg, if_neg (by rw [hri.1]; simp), if_neg (by simp), v1, v2, if_neg (by omega), hlf]
  have hend : a + 1 + (varB In.size).length + In.size = a + (1 + (varB In.size).length + In.size) := by omega
  cases hx1 : x.2.1 with
  | true =>
    rw [if_pos rfl]
    have hr2 := hri.2
    rw [if_pos hx1] at hr2
    have he0 : es = [] := by
      have := congrArg List.length hfi.1
      rw [List.length_map, hr2.1] at this
      exact List.eq_nil_of_length_eq_zero this.symm
    subst he0
    have hmi : mid = i := c2
    subst hmi
    have hd : x.2.2.1 = In := hIn
    have hk : x.2.2.2 = [] := List.eq_nil_of_length_eq_zero hr2.1
    rw [hnx, hend, show a + 1 + (varB In.size).length = a + 1 + (varB In.size).length from rfl]
    rw [show s.extract (a + 1 + (varB In.size).length) (a + (1 + (varB In.size).length + In.size)) = In from q2]
    rw [show x = (x.1, true, In, []) by rw [← hx1, ← hd, ← hk]]
    rw [show bg + (mid + 1 - mid) = bg + 1 by omega]
  | false =>
    rw [if_neg (by simp)]
    have hr2 := hri.2
    rw [if_neg (by rw [hx1]; simp)] at hr2
    rw [hr2] at hIn
    have hlp := loop_b m s g es mid i c2 In.size (bg + 1) [] (a + 1 + (varB In.size).length) (a + 1 + (varB In.size).length + In.size) (by rw [hIn, hend]; exact q2) (by omega) (by omega) (Nat.le_refl _) (fun e he => by have := fold_mem es 1 e he; have h5 : neS es ≤ g + 1 := h3; unfold neS at h5; omega) (by omega)
    rw [hlp]
    dsimp only
    rw [if_pos rfl, hnx, hend, List.nil_append, ← hfi.1]
    rw [show x = (x.1, false, ⟨#[]⟩, x.2.2.2) by rw [← hx1, ← hr2]]
    rw [show bg + 1 + (i - mid) = bg + (i + 1 - mid) by omega]
theorem run_b {m : List PT} : ∀ (rest : List PT) (i : Nat) (st st' : List En), ChB m 0 st i → m.drop i = rest → ruS i rest st = some st' → ChB m 0 st' m.length
  | [], i, st, st', hC, hd, h => by
    have e : st = st' := Option.some.inj h
    subst e
    have hl := List.drop_eq_nil_iff.1 hd
    have hi : i ≤ m.length := by
      cases st with
      | nil => have e : 0 = i := hC; omega
      | cons e r =>
        rcases List.eq_nil_or_concat (e :: r) with h0 | ⟨L, b, hb⟩
        · cases h0
        · rw [hb, List.concat_eq_append, chB_app] at hC
          obtain ⟨mid, _, c2⟩ := hC
          have c3 : b.1 + 1 = i := c2.2
          have := c2.1.2.1
          omega
    have : i = m.length := by omega
    rw [← this]
    exact hC
  | x :: rest, i, st, st', hC, hd, h => by
    have hi : i < m.length := by
      rcases Nat.lt_or_ge i m.length with h | h
      · exact h
      · rw [List.drop_of_length_le h] at hd; cases hd
    have hd2 := List.drop_eq_getElem_cons hi
    rw [hd] at hd2
    injection hd2 with e1 e2
    unfold ruS at h
    cases hs : stS i x st with
    | none => rw [hs] at h; cases h
    | some t =>
      rw [hs] at h
      exact run_b rest (i + 1) t st' (step_b hi hC (by rw [← e1]; exact hs)) e2.symm h
theorem shM_some {m : List PT} {T : ByteArray} (h : shM m = some T) : m.length ≤ 60 ∧ ∃ e : En, ruS 0 m [] = some [e] ∧ e.2.1 = T := by
  unfold shM at h
  split at h
  · cases h
  · rename_i hl
    refine ⟨by omega, ?_⟩
    split at h
    · rename_i e he
      exact ⟨e, he, Option.some.inj h⟩
    · cases h
/-- What is shown is read. -/
theorem shows_read {m : List PT} {T : ByteArray} (h : shM m = some T) : rdT T = (m, 0) := by
  obtain ⟨hl, e, hr, rfl⟩ := shM_some h
  have hC := run_b m 0 [] [e] rfl rfl hr
  obtain ⟨⟨r1, r2, r3, r4, r5, r6⟩, hC2⟩ := hC
  have he : e.1 + 1 = m.length := hC2
  have hn := r6 e.2.1 8 0 e.2.1.size 0 (by rw [Nat.zero_add]; apply ba_ext; rw [ba_exl, List.drop_zero]; exact List.take_of_length_le (Nat.le_refl _)) (by omega) (Nat.le_refl _) r5 (by omega)
  have hn' : nodeN e.2.1 8 [] 0 0 e.2.1.size = ((m, m.length, 0), e.2.1.size) := by
    have : m.take 0 = [] := rfl
    rw [this, he, List.take_length] at hn
    rw [hn]
    simp
  unfold rdT
  rw [if_neg (by omega), hn', if_neg (fun c => c rfl), if_neg (fun c => c rfl)]
end Go.Proofs.Ytengggpobhibcaa.Nd
