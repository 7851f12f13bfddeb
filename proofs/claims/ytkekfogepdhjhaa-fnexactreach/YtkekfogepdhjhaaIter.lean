/- The iterator over what is seen. -/
import Derived.Test.YtkekfogepdhjhaaPass
import Derived.RangeFuncNested
import Derived.RangeFuncBound
import Derived.RangeFuncCalls
import Derived.RangeFuncLeaves
import Derived.WalkKit
import Derived.OwnWalkIn
import Derived.TacticsInMore
import Derived.LoopNIn
import Derived.LoopIn
set_option linter.unusedVariables false
namespace Go.Proofs.Ytkekfogepdhjhaa
open Go.RowKit Var Term
attribute [local go_sem] Oper.semAt_some

/-- The least number of which I is told at a world. -/
theorem least (I : Nat → Prop) : ∀ m, I m → ∃ k, I k ∧ ∀ j, I j → k ≤ j := by
  intro m
  induction m using Nat.strongRecOn with
  | ind m ih =>
    intro hm
    by_cases h : ∃ j, j < m ∧ I j
    · obtain ⟨j, hj, hi⟩ := h
      exact ih j hj hi
    · exact ⟨m, hm, fun j hj => Nat.not_lt.1 (fun hlt => h ⟨j, hlt, hj⟩)⟩
theorem exists_gm (I : Nat → World → Prop) : ∃ f : World → Nat, ∀ w, ∀ m, I m w → I (f w) w ∧ f w ≤ m := by
  have h : ∀ w, ∃ k, ∀ m, I m w → I k w ∧ k ≤ m := by
    intro w
    by_cases hw : ∃ m, I m w
    · obtain ⟨m, hm⟩ := hw
      obtain ⟨k, hk, hmin⟩ := least (fun m => I m w) m hm
      exact ⟨k, fun j hj => ⟨hk, hmin j hj⟩⟩
    · exact ⟨0, fun m hm => absurd ⟨m, hm⟩ hw⟩
  exact Classical.axiomOfChoice h

/-- Only blocks of X have changed. -/
structure Out (X : Nat → Prop) (w w' : World) : Prop where
  size : w.heap.size ≤ w'.heap.size
  block : ∀ k, k < w.heap.size → ¬ X k → w'.heap[k]? = w.heap[k]?
theorem ViewAt.out {X : Nat → Prop} {p N : Nat} {s : VS} {w w' : World} (h : ViewAt X p N s w) (ho : Out X w w') : ViewAt X p N s w' := by
  obtain ⟨mT, mL, DT, DL, rv, h⟩ := h
  exact ⟨mT, mL, DT, DL, rv, h.kept ho.size ho.block (fun k hk => ⟨Nat.lt_of_lt_of_le (h.xlt k hk) ho.size, Or.inl hk⟩)⟩

def InvL (X : Nat → Prop) (p N0 M : Nat) (xs : List ByteArray) (ks kd0 : List Int) (J : List ByteArray → World → Prop) (m : Nat) (w : World) : Prop :=
  ∃ s kd N, (∀ k, k ∈ kd0 → k ∈ kd) ∧ AI xs ks kd s ∧ ViewAt X p N s w ∧ J s.T w ∧ N ≤ N0 + 2 * s.T.length ∧ m = (M - s.T.length) * (xs.length + 12 * M + 13) + s.A.length

/-- The first term that lies ahead is taken away. -/
theorem ViewM.pop {X : Nat → Prop} {p N mT mL : Nat} {DT DL : DataW Value} {rv : Option Int → Value} {t : ByteArray} {A T : List ByteArray} {F : Int → Bool × List ByteArray} {w : World} {b off cap n : Nat} (h : ViewM X p N mT mL DT DL rv ⟨t :: A, T, F⟩ w) (hv : rv none = .slice (some ⟨b, off, none⟩) n cap) (w' : World)
    (hw : w' = w.setCell ⟨p, 0, none⟩ (.slice (if cap = 1 then some ⟨b, off, none⟩ else some ⟨b, off + 1, none⟩) A.length (cap - 1))) : ViewAt X p N ⟨A, T, F⟩ w' ∧ Keep X w w' := by
  have hq := h.q none
  rw [hv] at hq
  have en : n = (t :: A).length := by
    obtain ⟨a, c, e, _⟩ := hq.shape
    injection e
  subst en
  have hq2 := hq.tail
  generalize hv2 : (Value.slice (if cap = 1 then some ⟨b, off, none⟩ else some ⟨b, off + 1, none⟩) A.length (cap - 1)) = v2 at hq2 hw
  have ob : ∀ k, v2.ownBlock = some k → (rv none).ownBlock = some k := by
    intro k hk
    rw [← hv2] at hk
    rw [hv]
    by_cases e : cap = 1
    · rw [if_pos e] at hk; exact hk
    · rw [if_neg e] at hk; exact hk
  have es : ∀ k, k ≠ p → w'.heap[k]? = w.heap[k]? := fun k hk => by rw [hw]; exact Below.heap_setCell w ⟨p, 0, none⟩ v2 k (fun e => hk e)
  have hz : w'.heap.size = w.heap.size := by rw [hw]; simp
  have hB := (Below.refl 0 w).setCell (p := ⟨p, 0, none⟩) (Nat.zero_le _) v2
  rw [← hw] at hB
  refine ⟨⟨mT, mL, DT, DL, (fun i => match i with | none => v2 | some k => rv (some k)), ?_⟩, ⟨hB.os, hB.tape, hB.output, hB.size, fun k hk => es k (fun e => h.xp (e ▸ hk))⟩⟩
  refine ⟨h.xp, h.xT, h.xL, h.pT, h.pL, h.tL, h.pm, fun k hk => by rw [hz]; exact h.xlt k hk, ?_, ?_, ?_, ?_, ?_, h.ht, ?_, fun k hk => h.hl k hk, ?_, ?_, ?_⟩
  · rw [hw]; exact World.cell?_setCell_same' _ _ _ (by rw [h.c0]; rfl)
  · rw [hw, World.cell?_setCell_other _ _ _ _ (by simp)]; exact h.c1
  · rw [hw, World.cell?_setCell_other _ _ _ _ (by simp)]; exact h.c2
  · rw [hw, World.frozen?_setCell]; exact h.f0
  · obtain ⟨es', clock, hb', F', hs', hD⟩ := h.mt
    exact ⟨es', clock, (es mT (Ne.symm h.pT)).trans hb', F', hs', hD⟩
  · obtain ⟨es', clock, hb', F', hs', hD⟩ := h.ml
    exact ⟨es', clock, (es mL (Ne.symm h.pL)).trans hb', F', hs', hD⟩
  · intro i
    cases i with
    | none => exact hq2.kept (Nat.le_of_eq hz.symm) fun k hk => es k (h.far none k (ob k hk)).1
    | some k => exact (h.q (some k)).kept (Nat.le_of_eq hz.symm) fun b hb => es b (h.far (some k) b hb).1
  · intro i j b hi hj
    cases i with
    | none =>
      cases j with
      | none => rfl
      | some k => exact h.ne none (some k) b (ob b hi) hj
    | some k =>
      cases j with
      | none => exact h.ne (some k) none b hi (ob b hj)
      | some k' => exact h.ne (some k) (some k') b hi hj
  · intro i b hi
    cases i with
    | none => exact h.far none b (ob b hi)
    | some k => exact h.far (some k) b hi

/-- How the iterator ends: all is seen, or it was told to stop. -/
def SeenPost (X : Nat → Prop) (p : Nat) (xs : List ByteArray) (ks kd0 : List Int) (J Jx : List ByteArray → World → Prop) (W' : World) : Prop :=
  (∃ T F kd N, (∀ k, k ∈ kd0 → k ∈ kd) ∧ AI xs ks kd ⟨[], T, F⟩ ∧ ViewAt X p N ⟨[], T, F⟩ W' ∧ J T W') ∨ (∃ s kd N, AI xs ks kd s ∧ ViewAt X p N s W' ∧ Jx s.T W')
theorem meas_lt (M a W A A' : Nat) (h : a + 1 ≤ M) (hA : A' < W) : (M - (a + 1)) * W + A' < (M - a) * W + A := by
  have e1 : M - a = (M - (a + 1)) + 1 := by omega
  rw [e1, Nat.succ_mul]
  generalize (M - (a + 1)) * W = q
  omega
theorem follow_T (s : VS) (t : ByteArray) : (s.follow t).T = s.T := by
  unfold VS.follow
  split
  · rfl
  · split
    · split <;> rfl
    · rfl

set_option maxRecDepth 100000 in
set_option maxHeartbeats 6400000 in
theorem seen_iter {X : Nat → Prop} {p N0 bx l M : Nat} {xs : List ByteArray} {ks kd0 : List Int} (J Jx : List ByteArray → World → Prop) (hxs : ∀ x, x ∈ xs → isT x = true) (hM : (allInf xs).length ≤ M) (hM2 : M ≤ 50000000) (hx60 : xs.length ≤ 60) (hN0 : N0 ≤ 1000000) (hXb : X bx)
    (hJ : ∀ pre W W', J pre W → Keep X W W' → J pre W') (hJb : ∀ pre W, J pre W → W.cell? ⟨bx, 0, none⟩ = some (.pointer (some ⟨p, 0, none⟩)))
    (hY : ∀ m pre x W1, SeenT xs ks x → J pre W1 → YieldAt Fence.wide m Try.prog l #[.string x] W1 fun e W' => Out X W1 W' ∧ ((e = .returned (.bool true) ∧ J (pre ++ [x]) W') ∨ (e = .returned (.bool false) ∧ Jx (pre ++ [x]) W')))
    (W : World) (s0 : VS) (hT0 : s0.T = []) (h0 : AI xs ks kd0 s0) (hv : ViewAt X p N0 s0 W) (hj : J [] W) :
    Calls Try.prog 108 #[.func (.yield l) #[] #[], .pointer (some ⟨bx, 0, none⟩)] W fun e W' => e = .returned (.tuple #[]) ∧
      SeenPost X p xs ks kd0 J Jx W' := by
  have I0 : InvL X p N0 M xs ks kd0 J ((M - s0.T.length) * (xs.length + 12 * M + 13) + s0.A.length) W := ⟨s0, kd0, N0, fun _ h => h, h0, hv, by rw [hT0]; exact hj, by omega, rfl⟩
  have HY : Hid (∀ m pre x W1, SeenT xs ks x → J pre W1 → YieldAt Fence.wide m Try.prog l #[.string x] W1 fun e W' => Out X W1 W' ∧ ((e = .returned (.bool true) ∧ J (pre ++ [x]) W') ∨ (e = .returned (.bool false) ∧ Jx (pre ++ [x]) W'))) := hY
  have HJ : Hid (∀ pre W W', J pre W → Keep X W W' → J pre W') := hJ
  have HB : Hid (∀ pre W, J pre W → W.cell? ⟨bx, 0, none⟩ = some (.pointer (some ⟨p, 0, none⟩))) := hJb
  clear hY hJ hJb h0 hv hj
  obtain ⟨gm, gmS⟩ := exists_gm (InvL X p N0 M xs ks kd0 J)
  have GS : Hid (∀ w, ∀ m, InvL X p N0 M xs ks kd0 J m w → InvL X p N0 M xs ks kd0 J (gm w) w ∧ gm w ≤ m) := gmS
  clear gmS
  go_enter Try.func108, Try.ntmps108
  go_wp2_with fail
  go_loopw [3] (fun _ wr => ∃ m, InvL X p N0 M xs ks kd0 J m wr) (fun _ wr => gm wr)
  case atStart => exact ⟨_, I0⟩
  case round =>
    clear I0 hT0
    obtain ⟨m0, hm0⟩ := hrel
    obtain ⟨s, kd, Nn, hkd, hAI, hV, hj, hNn, hme⟩ := (GS.out _ _ hm0).1
    have HG : Hid (gm wr = (M - s.T.length) * (xs.length + 12 * M + 13) + s.A.length) := hme
    clear hme hm0
    have hTM : s.T.length ≤ M := Nat.le_trans (seen_len hAI.nd hAI.seenT) hM
    have hbx := HB.out _ _ hj
    obtain ⟨A, T, F⟩ := s
    cases A with
    | nil =>
      have hAN := hV
      obtain ⟨mT, mL, DT, DL, rv, hm⟩ := hV
      obtain ⟨a, cap, hsl, _⟩ := (hm.q none).shape
      have c0 := hm.c0
      rw [hsl] at c0
      have HF : Hid (SeenPost X p xs ks kd0 J Jx wr) := Or.inl ⟨T, F, kd, Nn, hkd, hAI, hAN, hj⟩
      clear hm hAN hAI hsl
      go_wp2
      go_end0
      exact ⟨rfl, HF.out⟩
    | cons t A =>
      have hAN := hV
      have hst : SeenT xs ks t := hAI.seenA t (List.mem_cons_self)
      have hTt := seen_isT hxs hst
      have hsz := ((isT_iff t).1 hTt).1
      obtain ⟨mT, mL, DT, DL, rv, hm⟩ := hV
      obtain ⟨cap, q1, q2, q3⟩ := hm.q none
      rcases q3 with ⟨_, q3, _⟩ | ⟨b, off, hsl, _, _, hcell, _⟩
      · cases q3
      have q4 := hcell 0 (by simp [VS.row])
      have c0 := hm.c0
      rw [hsl] at c0
      obtain ⟨W1, hW1⟩ : ∃ W1, wr.drew.setCell ⟨p, 0, none⟩ (.slice (if cap = 1 then some ⟨b, off, none⟩ else some ⟨b, off + 1, none⟩) A.length (cap - 1)) = W1 := ⟨_, rfl⟩
      have hp := (hm.below (Below.refl _ _).drew).pop hsl W1 hW1.symm
      have hv1 := hp.1
      have K1 : Keep X wr W1 := (Keep.ofBelow (Below.refl wr.heap.size wr).drew hm.xlt).trans hp.2
      have f0 := hm.f0
      have hA1 : (1 : Int) ≤ (A.length : Int) + 1 := by omega
      simp only [VS.row, List.length_cons, Nat.add_zero, List.getElem_cons_zero] at c0 q4 q1
      have hcap1 : 1 ≤ cap := by omega
      clear hcell
      go_wp2_with fail
      refine wp_region_any (by kernel_rfl) ?_
      show wpAny _ _ _ _ _ _ _ wr.drew
      refine wpAny_ready (rs := [0, 1]) (by kernel_rfl) (by simp) ?_
      refine AllReady.cons (i := 0) rfl (fun K hK => ?_) (AllReady.cons (i := 1) rfl (fun K hK => ?_) AllReady.nil)
      ·
        go_simp
        refine hK _ _ ?_
        clear hK K
        try simp only [Act.put, List.setIfInBounds_toArray, List.set_cons_zero, List.set_cons_succ]
        refine wpAny_ready (rs := [1]) (by kernel_rfl) (by simp) ?_
        refine AllReady.cons (i := 1) rfl (fun K hK => ?_) AllReady.nil
        go_simp
        refine hK _ _ ?_
        clear hK K
        try simp only [Act.put, List.setIfInBounds_toArray, List.set_cons_zero, List.set_cons_succ]
        refine Vw.take_any 2 18 (v := ?_) rfl rfl (by kernel_rfl) (by kernel_rfl) (by kernel_rfl) (fun _ _ _ h => h) (Or.inl ⟨by rfl, ?_⟩) ?_
        rotate_left
        · intro w'; go_simp; try with_reducible rfl
        try simp only [Act.put, List.setIfInBounds_toArray, List.set_cons_zero, List.set_cons_succ]
        refine Vw.take_any 3 19 (v := ?_) rfl rfl (by kernel_rfl) (by kernel_rfl) (by kernel_rfl) (fun _ _ _ h => h) (Or.inl ⟨by rfl, ?_⟩) ?_
        rotate_left
        · intro w'; go_simp; try with_reducible rfl
        try simp only [Act.put, List.setIfInBounds_toArray, List.set_cons_zero, List.set_cons_succ]
        refine wpAny_ready (rs := [4]) (by kernel_rfl) (by simp) ?_
        refine AllReady.cons (i := 4) rfl (fun K hK => ?_) AllReady.nil
        go_simp
        refine hK _ _ ?_
        clear hK K
        try simp only [Act.put, List.setIfInBounds_toArray, List.set_cons_zero, List.set_cons_succ]
        refine Vw.take_any 5 21 (v := ?_) rfl rfl (by kernel_rfl) (by kernel_rfl) (by kernel_rfl) (fun _ _ _ h => h) (Or.inl ⟨by rfl, ?_⟩) ?_
        rotate_left
        · intro w'; go_simp; try with_reducible rfl
        try simp only [Act.put, List.setIfInBounds_toArray, List.set_cons_zero, List.set_cons_succ]
        refine Vw.take_any 6 22 (v := ?_) rfl rfl (by kernel_rfl) (by kernel_rfl) (by kernel_rfl) (fun _ _ _ h => h) (Or.inl ⟨by rfl, ?_⟩) ?_
        rotate_left
        · intro w'; go_simp; try with_reducible rfl
        try simp only [Act.put, List.setIfInBounds_toArray, List.set_cons_zero, List.set_cons_succ]
        refine Vw.take_any 7 23 (v := ?_) rfl rfl (by kernel_rfl) (by kernel_rfl) (by kernel_rfl) (fun _ _ _ h => h) (Or.inl ⟨by rfl, ?_⟩) ?_
        rotate_left
        · intro w'; go_simp; try with_reducible rfl
        try simp only [Act.put, List.setIfInBounds_toArray, List.set_cons_zero, List.set_cons_succ]
        refine wpAny_ready (rs := [8]) (by kernel_rfl) (by simp) ?_
        refine AllReady.cons (i := 8) rfl (fun K hK => ?_) AllReady.nil
        go_simp
        try rw [hW1]
        refine hK _ _ ?_
        clear hK K
        refine wpAny_done (by kernel_rfl) ?_ _
        clear hW1
        have bx1 := (K1.cell hXb 0).trans hbx
        generalize (if cap = 1 then some (⟨b, off, none⟩ : Addr) else some ⟨b, off + 1, none⟩) = ad
        go_wp2_with fail
        refine (saw_is hv1 (t := t) (by omega)).mono ?_
        rintro e w2 ⟨sb, rfl, hsb, hv2, hb2⟩
        have K2 : Keep X wr w2 := K1.trans (Keep.ofBelow hb2 hv1.xlt)
        have j2 := HJ.out _ _ _ hj K2
        cases sb with
        | true =>
          have hAI2 := hAI.pass (hsb.1 rfl)
          have hI2 : InvL X p N0 M xs ks kd0 J ((M - T.length) * (xs.length + 12 * M + 13) + A.length) w2 := ⟨⟨A, T, F⟩, kd, Nn, hkd, hAI2, hv2, j2, hNn, rfl⟩
          have HI2 : Hid (InvL X p N0 M xs ks kd0 J ((M - T.length) * (xs.length + 12 * M + 13) + A.length) w2) := hI2
          clear hI2 hAI2 hAI hv2 hv1 hp hm hAN K1 K2 j2 hj hb2 hsb
          go_wp2
          go_roundw
          case rel => exact ⟨_, HI2.out⟩
          case measure =>
            have h1 := (GS.out _ _ HI2.out).2
            have h2 := HG.out
            simp only [List.length_cons] at h2
            rw [h2]
            omega
        | false =>
          have hnT : ¬ t ∈ T := fun h => by have := hsb.2 h; cases this
          obtain ⟨kd2, hkd2, hAI4⟩ := hAI.new hnT
          have hT4 : ((⟨A, T ++ [t], F⟩ : VS).follow t).T = T ++ [t] := follow_T _ _
          have hlen4 : (T ++ [t]).length ≤ M := by rw [← hT4]; exact Nat.le_trans (seen_len hAI4.nd hAI4.seenT) hM
          have htot := fun k => hAI.tot [k] (by simp)
          have htot4 := hAI4.tot [] List.nodup_nil
          rw [hT4] at htot4
          obtain ⟨mT2, mL2, DT2, DL2, rv2, hm2⟩ := hv2
          have cT := hm2.c1
          obtain ⟨w3, hrun3, hk3, hv3⟩ := hm2.see (by omega) (t := t) (by omega)
          have hb3 := (hk3.cell (g := bx) (hXb) 0).trans (HB.out _ _ j2)
          have H4 := follow_is hv3 (by omega) hTt (fun k => by have := htot k; simp only [List.map_cons, List.map_nil, List.sum_cons, List.sum_nil, List.length_cons] at this; simp only [List.length_append, List.length_cons, List.length_nil] at hlen4; show A.length + (F k).2.length + 20 ≤ 8589934592; omega)
          have bx2 := HB.out _ _ j2
          have K3 := K2.trans hk3
          clear hm2 hv1 hp hm hAN K1 K2 hb2 hsb hv3 hk3
          go_wp2_with fail
          refine H4.mono ?_
          clear H4
          rintro e w4 ⟨rfl, hv4, hk4⟩
          have j4 := HJ.out _ _ _ hj (K3.trans hk4)
          obtain ⟨fn, tmps, assign, body, hy, hR⟩ := HY.out 8 T t w4 hst j4
          have bx4 := HB.out _ _ j4
          simp only []
          go_step
          go_step
          go_step
          go_step
          go_step
          refine (wpIn_wide (n := 9)).1 ?_
          gi_wp2_with fail
          refine hR.mono ?_
          rintro e w5 ⟨ho5, ⟨rfl, hj5⟩ | ⟨rfl, hx5⟩⟩
          · have hv5 := hv4.out ho5
            have hI5 : InvL X p N0 M xs ks kd0 J ((M - (T ++ [t]).length) * (xs.length + 12 * M + 13) + ((⟨A, T ++ [t], F⟩ : VS).follow t).A.length) w5 := ⟨_, kd2, _, fun k hk => hkd2 k (hkd k hk), hAI4, hv5, by rw [hT4]; exact hj5, by rw [hT4]; simp only [List.length_append, List.length_cons, List.length_nil]; omega, by rw [hT4]⟩
            have HI5 : Hid (InvL X p N0 M xs ks kd0 J ((M - (T ++ [t]).length) * (xs.length + 12 * M + 13) + ((⟨A, T ++ [t], F⟩ : VS).follow t).A.length) w5) := hI5
            have HL : Hid (((⟨A, T ++ [t], F⟩ : VS).follow t).A.length < xs.length + 12 * M + 13) := by
              simp only [List.map_nil, List.sum_nil] at htot4
              show _ < _
              omega
            have HM : Hid (T.length + 1 ≤ M) := by have h9 := hlen4; simp only [List.length_append, List.length_cons, List.length_nil] at h9; exact h9
            clear hI5 hAI4 hAI hv5 hv4 hj5 hj j2 j4 ho5 hy hR K3 hk4 htot4 htot hlen4
            gi_wp2_with fail
            go_wp2
            go_roundw
            case rel => exact ⟨_, HI5.out⟩
            case measure =>
              refine Nat.lt_of_le_of_lt (GS.out _ _ HI5.out).2 ?_
              rw [HG.out]
              have := meas_lt M T.length (xs.length + 12 * M + 13) (t :: A).length ((⟨A, T ++ [t], F⟩ : VS).follow t).A.length HM.out HL.out
              rw [List.length_append]
              exact this
          · have hv5 := hv4.out ho5
            have HF : Hid (SeenPost X p xs ks kd0 J Jx w5) := Or.inr ⟨_, kd2, _, hAI4, hv5, by rw [hT4]; exact hx5⟩
            clear hAI4 hAI hv5 hv4 hx5 hj j2 j4 ho5 hy hR K3 hk4 htot4 htot hlen4
            gi_wp2_with fail
            go_wp2
            exact bodyPost_ret (results_none rfl _ _ _) rfl ⟨rfl, HF.out⟩
      ·
        go_simp
        refine hK _ _ ?_
        clear hK K
        try simp only [Act.put, List.setIfInBounds_toArray, List.set_cons_zero, List.set_cons_succ]
        refine Vw.take_any 2 18 (v := ?_) rfl rfl (by kernel_rfl) (by kernel_rfl) (by kernel_rfl) (fun _ _ _ h => h) (Or.inl ⟨by rfl, ?_⟩) ?_
        rotate_left
        · intro w'; go_simp; try with_reducible rfl
        try simp only [Act.put, List.setIfInBounds_toArray, List.set_cons_zero, List.set_cons_succ]
        refine Vw.take_any 3 19 (v := ?_) rfl rfl (by kernel_rfl) (by kernel_rfl) (by kernel_rfl) (fun _ _ _ h => h) (Or.inl ⟨by rfl, ?_⟩) ?_
        rotate_left
        · intro w'; go_simp; try with_reducible rfl
        try simp only [Act.put, List.setIfInBounds_toArray, List.set_cons_zero, List.set_cons_succ]
        refine wpAny_ready (rs := [0, 4]) (by kernel_rfl) (by simp) ?_
        refine AllReady.cons (i := 0) rfl (fun K hK => ?_) (AllReady.cons (i := 4) rfl (fun K hK => ?_) AllReady.nil)
        ·
          go_simp
          refine hK _ _ ?_
          clear hK K
          try simp only [Act.put, List.setIfInBounds_toArray, List.set_cons_zero, List.set_cons_succ]
          refine wpAny_ready (rs := [4]) (by kernel_rfl) (by simp) ?_
          refine AllReady.cons (i := 4) rfl (fun K hK => ?_) AllReady.nil
          go_simp
          refine hK _ _ ?_
          clear hK K
          try simp only [Act.put, List.setIfInBounds_toArray, List.set_cons_zero, List.set_cons_succ]
          refine Vw.take_any 5 21 (v := ?_) rfl rfl (by kernel_rfl) (by kernel_rfl) (by kernel_rfl) (fun _ _ _ h => h) (Or.inl ⟨by rfl, ?_⟩) ?_
          rotate_left
          · intro w'; go_simp; try with_reducible rfl
          try simp only [Act.put, List.setIfInBounds_toArray, List.set_cons_zero, List.set_cons_succ]
          refine Vw.take_any 6 22 (v := ?_) rfl rfl (by kernel_rfl) (by kernel_rfl) (by kernel_rfl) (fun _ _ _ h => h) (Or.inl ⟨by rfl, ?_⟩) ?_
          rotate_left
          · intro w'; go_simp; try with_reducible rfl
          try simp only [Act.put, List.setIfInBounds_toArray, List.set_cons_zero, List.set_cons_succ]
          refine Vw.take_any 7 23 (v := ?_) rfl rfl (by kernel_rfl) (by kernel_rfl) (by kernel_rfl) (fun _ _ _ h => h) (Or.inl ⟨by rfl, ?_⟩) ?_
          rotate_left
          · intro w'; go_simp; try with_reducible rfl
          try simp only [Act.put, List.setIfInBounds_toArray, List.set_cons_zero, List.set_cons_succ]
          refine wpAny_ready (rs := [8]) (by kernel_rfl) (by simp) ?_
          refine AllReady.cons (i := 8) rfl (fun K hK => ?_) AllReady.nil
          go_simp
          try rw [hW1]
          refine hK _ _ ?_
          clear hK K
          refine wpAny_done (by kernel_rfl) ?_ _
          clear hW1
          have bx1 := (K1.cell hXb 0).trans hbx
          generalize (if cap = 1 then some (⟨b, off, none⟩ : Addr) else some ⟨b, off + 1, none⟩) = ad
          go_wp2_with fail
          refine (saw_is hv1 (t := t) (by omega)).mono ?_
          rintro e w2 ⟨sb, rfl, hsb, hv2, hb2⟩
          have K2 : Keep X wr w2 := K1.trans (Keep.ofBelow hb2 hv1.xlt)
          have j2 := HJ.out _ _ _ hj K2
          cases sb with
          | true =>
            have hAI2 := hAI.pass (hsb.1 rfl)
            have hI2 : InvL X p N0 M xs ks kd0 J ((M - T.length) * (xs.length + 12 * M + 13) + A.length) w2 := ⟨⟨A, T, F⟩, kd, Nn, hkd, hAI2, hv2, j2, hNn, rfl⟩
            have HI2 : Hid (InvL X p N0 M xs ks kd0 J ((M - T.length) * (xs.length + 12 * M + 13) + A.length) w2) := hI2
            clear hI2 hAI2 hAI hv2 hv1 hp hm hAN K1 K2 j2 hj hb2 hsb
            go_wp2
            go_roundw
            case rel => exact ⟨_, HI2.out⟩
            case measure =>
              have h1 := (GS.out _ _ HI2.out).2
              have h2 := HG.out
              simp only [List.length_cons] at h2
              rw [h2]
              omega
          | false =>
            have hnT : ¬ t ∈ T := fun h => by have := hsb.2 h; cases this
            obtain ⟨kd2, hkd2, hAI4⟩ := hAI.new hnT
            have hT4 : ((⟨A, T ++ [t], F⟩ : VS).follow t).T = T ++ [t] := follow_T _ _
            have hlen4 : (T ++ [t]).length ≤ M := by rw [← hT4]; exact Nat.le_trans (seen_len hAI4.nd hAI4.seenT) hM
            have htot := fun k => hAI.tot [k] (by simp)
            have htot4 := hAI4.tot [] List.nodup_nil
            rw [hT4] at htot4
            obtain ⟨mT2, mL2, DT2, DL2, rv2, hm2⟩ := hv2
            have cT := hm2.c1
            obtain ⟨w3, hrun3, hk3, hv3⟩ := hm2.see (by omega) (t := t) (by omega)
            have hb3 := (hk3.cell (g := bx) (hXb) 0).trans (HB.out _ _ j2)
            have H4 := follow_is hv3 (by omega) hTt (fun k => by have := htot k; simp only [List.map_cons, List.map_nil, List.sum_cons, List.sum_nil, List.length_cons] at this; simp only [List.length_append, List.length_cons, List.length_nil] at hlen4; show A.length + (F k).2.length + 20 ≤ 8589934592; omega)
            have bx2 := HB.out _ _ j2
            have K3 := K2.trans hk3
            clear hm2 hv1 hp hm hAN K1 K2 hb2 hsb hv3 hk3
            go_wp2_with fail
            refine H4.mono ?_
            clear H4
            rintro e w4 ⟨rfl, hv4, hk4⟩
            have j4 := HJ.out _ _ _ hj (K3.trans hk4)
            obtain ⟨fn, tmps, assign, body, hy, hR⟩ := HY.out 8 T t w4 hst j4
            have bx4 := HB.out _ _ j4
            simp only []
            go_step
            go_step
            go_step
            go_step
            go_step
            refine (wpIn_wide (n := 9)).1 ?_
            gi_wp2_with fail
            refine hR.mono ?_
            rintro e w5 ⟨ho5, ⟨rfl, hj5⟩ | ⟨rfl, hx5⟩⟩
            · have hv5 := hv4.out ho5
              have hI5 : InvL X p N0 M xs ks kd0 J ((M - (T ++ [t]).length) * (xs.length + 12 * M + 13) + ((⟨A, T ++ [t], F⟩ : VS).follow t).A.length) w5 := ⟨_, kd2, _, fun k hk => hkd2 k (hkd k hk), hAI4, hv5, by rw [hT4]; exact hj5, by rw [hT4]; simp only [List.length_append, List.length_cons, List.length_nil]; omega, by rw [hT4]⟩
              have HI5 : Hid (InvL X p N0 M xs ks kd0 J ((M - (T ++ [t]).length) * (xs.length + 12 * M + 13) + ((⟨A, T ++ [t], F⟩ : VS).follow t).A.length) w5) := hI5
              have HL : Hid (((⟨A, T ++ [t], F⟩ : VS).follow t).A.length < xs.length + 12 * M + 13) := by
                simp only [List.map_nil, List.sum_nil] at htot4
                show _ < _
                omega
              have HM : Hid (T.length + 1 ≤ M) := by have h9 := hlen4; simp only [List.length_append, List.length_cons, List.length_nil] at h9; exact h9
              clear hI5 hAI4 hAI hv5 hv4 hj5 hj j2 j4 ho5 hy hR K3 hk4 htot4 htot hlen4
              gi_wp2_with fail
              go_wp2
              go_roundw
              case rel => exact ⟨_, HI5.out⟩
              case measure =>
                refine Nat.lt_of_le_of_lt (GS.out _ _ HI5.out).2 ?_
                rw [HG.out]
                have := meas_lt M T.length (xs.length + 12 * M + 13) (t :: A).length ((⟨A, T ++ [t], F⟩ : VS).follow t).A.length HM.out HL.out
                rw [List.length_append]
                exact this
            · have hv5 := hv4.out ho5
              have HF : Hid (SeenPost X p xs ks kd0 J Jx w5) := Or.inr ⟨_, kd2, _, hAI4, hv5, by rw [hT4]; exact hx5⟩
              clear hAI4 hAI hv5 hv4 hx5 hj j2 j4 ho5 hy hR K3 hk4 htot4 htot hlen4
              gi_wp2_with fail
              go_wp2
              exact bodyPost_ret (results_none rfl _ _ _) rfl ⟨rfl, HF.out⟩
        ·
          go_simp
          refine hK _ _ ?_
          clear hK K
          try simp only [Act.put, List.setIfInBounds_toArray, List.set_cons_zero, List.set_cons_succ]
          refine Vw.take_any 5 21 (v := ?_) rfl rfl (by kernel_rfl) (by kernel_rfl) (by kernel_rfl) (fun _ _ _ h => h) (Or.inl ⟨by rfl, ?_⟩) ?_
          rotate_left
          · intro w'; go_simp; try with_reducible rfl
          try simp only [Act.put, List.setIfInBounds_toArray, List.set_cons_zero, List.set_cons_succ]
          refine wpAny_ready (rs := [0]) (by kernel_rfl) (by simp) ?_
          refine AllReady.cons (i := 0) rfl (fun K hK => ?_) AllReady.nil
          go_simp
          refine hK _ _ ?_
          clear hK K
          try simp only [Act.put, List.setIfInBounds_toArray, List.set_cons_zero, List.set_cons_succ]
          refine Vw.take_any 6 22 (v := ?_) rfl rfl (by kernel_rfl) (by kernel_rfl) (by kernel_rfl) (fun _ _ _ h => h) (Or.inl ⟨by rfl, ?_⟩) ?_
          rotate_left
          · intro w'; go_simp; try with_reducible rfl
          try simp only [Act.put, List.setIfInBounds_toArray, List.set_cons_zero, List.set_cons_succ]
          refine Vw.take_any 7 23 (v := ?_) rfl rfl (by kernel_rfl) (by kernel_rfl) (by kernel_rfl) (fun _ _ _ h => h) (Or.inl ⟨by rfl, ?_⟩) ?_
          rotate_left
          · intro w'; go_simp; try with_reducible rfl
          try simp only [Act.put, List.setIfInBounds_toArray, List.set_cons_zero, List.set_cons_succ]
          refine wpAny_ready (rs := [8]) (by kernel_rfl) (by simp) ?_
          refine AllReady.cons (i := 8) rfl (fun K hK => ?_) AllReady.nil
          go_simp
          try rw [hW1]
          refine hK _ _ ?_
          clear hK K
          refine wpAny_done (by kernel_rfl) ?_ _
          clear hW1
          have bx1 := (K1.cell hXb 0).trans hbx
          generalize (if cap = 1 then some (⟨b, off, none⟩ : Addr) else some ⟨b, off + 1, none⟩) = ad
          go_wp2_with fail
          refine (saw_is hv1 (t := t) (by omega)).mono ?_
          rintro e w2 ⟨sb, rfl, hsb, hv2, hb2⟩
          have K2 : Keep X wr w2 := K1.trans (Keep.ofBelow hb2 hv1.xlt)
          have j2 := HJ.out _ _ _ hj K2
          cases sb with
          | true =>
            have hAI2 := hAI.pass (hsb.1 rfl)
            have hI2 : InvL X p N0 M xs ks kd0 J ((M - T.length) * (xs.length + 12 * M + 13) + A.length) w2 := ⟨⟨A, T, F⟩, kd, Nn, hkd, hAI2, hv2, j2, hNn, rfl⟩
            have HI2 : Hid (InvL X p N0 M xs ks kd0 J ((M - T.length) * (xs.length + 12 * M + 13) + A.length) w2) := hI2
            clear hI2 hAI2 hAI hv2 hv1 hp hm hAN K1 K2 j2 hj hb2 hsb
            go_wp2
            go_roundw
            case rel => exact ⟨_, HI2.out⟩
            case measure =>
              have h1 := (GS.out _ _ HI2.out).2
              have h2 := HG.out
              simp only [List.length_cons] at h2
              rw [h2]
              omega
          | false =>
            have hnT : ¬ t ∈ T := fun h => by have := hsb.2 h; cases this
            obtain ⟨kd2, hkd2, hAI4⟩ := hAI.new hnT
            have hT4 : ((⟨A, T ++ [t], F⟩ : VS).follow t).T = T ++ [t] := follow_T _ _
            have hlen4 : (T ++ [t]).length ≤ M := by rw [← hT4]; exact Nat.le_trans (seen_len hAI4.nd hAI4.seenT) hM
            have htot := fun k => hAI.tot [k] (by simp)
            have htot4 := hAI4.tot [] List.nodup_nil
            rw [hT4] at htot4
            obtain ⟨mT2, mL2, DT2, DL2, rv2, hm2⟩ := hv2
            have cT := hm2.c1
            obtain ⟨w3, hrun3, hk3, hv3⟩ := hm2.see (by omega) (t := t) (by omega)
            have hb3 := (hk3.cell (g := bx) (hXb) 0).trans (HB.out _ _ j2)
            have H4 := follow_is hv3 (by omega) hTt (fun k => by have := htot k; simp only [List.map_cons, List.map_nil, List.sum_cons, List.sum_nil, List.length_cons] at this; simp only [List.length_append, List.length_cons, List.length_nil] at hlen4; show A.length + (F k).2.length + 20 ≤ 8589934592; omega)
            have bx2 := HB.out _ _ j2
            have K3 := K2.trans hk3
            clear hm2 hv1 hp hm hAN K1 K2 hb2 hsb hv3 hk3
            go_wp2_with fail
            refine H4.mono ?_
            clear H4
            rintro e w4 ⟨rfl, hv4, hk4⟩
            have j4 := HJ.out _ _ _ hj (K3.trans hk4)
            obtain ⟨fn, tmps, assign, body, hy, hR⟩ := HY.out 8 T t w4 hst j4
            have bx4 := HB.out _ _ j4
            simp only []
            go_step
            go_step
            go_step
            go_step
            go_step
            refine (wpIn_wide (n := 9)).1 ?_
            gi_wp2_with fail
            refine hR.mono ?_
            rintro e w5 ⟨ho5, ⟨rfl, hj5⟩ | ⟨rfl, hx5⟩⟩
            · have hv5 := hv4.out ho5
              have hI5 : InvL X p N0 M xs ks kd0 J ((M - (T ++ [t]).length) * (xs.length + 12 * M + 13) + ((⟨A, T ++ [t], F⟩ : VS).follow t).A.length) w5 := ⟨_, kd2, _, fun k hk => hkd2 k (hkd k hk), hAI4, hv5, by rw [hT4]; exact hj5, by rw [hT4]; simp only [List.length_append, List.length_cons, List.length_nil]; omega, by rw [hT4]⟩
              have HI5 : Hid (InvL X p N0 M xs ks kd0 J ((M - (T ++ [t]).length) * (xs.length + 12 * M + 13) + ((⟨A, T ++ [t], F⟩ : VS).follow t).A.length) w5) := hI5
              have HL : Hid (((⟨A, T ++ [t], F⟩ : VS).follow t).A.length < xs.length + 12 * M + 13) := by
                simp only [List.map_nil, List.sum_nil] at htot4
                show _ < _
                omega
              have HM : Hid (T.length + 1 ≤ M) := by have h9 := hlen4; simp only [List.length_append, List.length_cons, List.length_nil] at h9; exact h9
              clear hI5 hAI4 hAI hv5 hv4 hj5 hj j2 j4 ho5 hy hR K3 hk4 htot4 htot hlen4
              gi_wp2_with fail
              go_wp2
              go_roundw
              case rel => exact ⟨_, HI5.out⟩
              case measure =>
                refine Nat.lt_of_le_of_lt (GS.out _ _ HI5.out).2 ?_
                rw [HG.out]
                have := meas_lt M T.length (xs.length + 12 * M + 13) (t :: A).length ((⟨A, T ++ [t], F⟩ : VS).follow t).A.length HM.out HL.out
                rw [List.length_append]
                exact this
            · have hv5 := hv4.out ho5
              have HF : Hid (SeenPost X p xs ks kd0 J Jx w5) := Or.inr ⟨_, kd2, _, hAI4, hv5, by rw [hT4]; exact hx5⟩
              clear hAI4 hAI hv5 hv4 hx5 hj j2 j4 ho5 hy hR K3 hk4 htot4 htot hlen4
              gi_wp2_with fail
              go_wp2
              exact bodyPost_ret (results_none rfl _ _ _) rfl ⟨rfl, HF.out⟩

end Go.Proofs.Ytkekfogepdhjhaa
