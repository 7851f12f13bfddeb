/- The view: what is seen because a term is. -/
import Derived.Test.YtkekfogepdhjhaaGreatView3
import Derived.Test.YtkekfogepdhjhaaGreatLists
set_option linter.unusedVariables false
namespace Go.Proofs.YtkekfogepdhjhaaGreat
open Go.RowKit Own Var Term

/-- What is seen because t is. -/
def VS.follow (s : VS) (t : ByteArray) : VS :=
  match rk t 107 with
  | some (n, _) => s.reach n
  | none => match rk t 115 with
    | some (n, r) => if (s.F n).1 = true then ⟨s.A ++ [r], s.T, s.F⟩ else ⟨s.A, s.T, fun j => if j = (n : Int) then ((s.F n).1, (s.F n).2 ++ [r]) else s.F j⟩
    | none => ⟨s.A ++ (partsR t).1, s.T, s.F⟩
theorem rk_kind {t r : ByteArray} {n c : Nat} (hT : isT t = true) (hc : cut t = some (n, r)) (h0 : at_ t 0 = c) (k : Nat) : rk t k = if c = k then some (n, r) else none := by
  unfold rk
  by_cases e : c = k
  · rw [if_pos ⟨hT, by rw [h0, e]⟩, if_pos e, hc]
  · rw [if_neg (fun h => e (by rw [← h0]; exact h.2)), if_neg e]
theorem parts_none {t : ByteArray} (h : rk t 108 = none) : (partsR t).1 = [] := by unfold partsR; rw [h]
theorem src_one (w : World) (r : ByteArray) : Src Tryz.prog 1 24 (.slice (some ⟨w.heap.size, 0, none⟩) 1 1) [r].length (strV [r]) (w.alloc (.cells #[.string r] 9)) := by
  refine Src.ofSlice _ Tryz.underlying24 ⟨w.heap.size, 0, none⟩ 1 1 (strV [r]) rfl (cell_one_new w (.string r) 9) (fun u hu => ?_)
  simp [strV] at hu
  subst hu
  rfl

section
variable {X : Nat → Prop} {p N : Nat} {s : VS} {w : World} {t r : ByteArray} {n : Nat}

set_option maxRecDepth 100000 in
set_option maxHeartbeats 3200000 in
theorem follow_key (h : ViewAt X p N s w) (hN : N < 8589934592) (hs : t.size ≤ 1048576) (hc : cut t = some (n, r)) (hn : n ≤ 1000000) (h0 : 0 < t.size) (e0 : t[0].toNat = 107) (hA : s.A.length + (s.F n).2.length ≤ 8589934592) :
    Calls Tryz.prog 80 #[.pointer (some ⟨p, 0, none⟩), .string t] w fun e w' => e = .returned (.tuple #[]) ∧ ViewAt X p (N + 1) (s.reach n) w' ∧ Keep X w w' := by
  have H1 := cutHead_yes t r n w hs hc
  have HX := h.xlt
  go_enter Tryz.func80, Tryz.ntmps80
  go_wp2_with fail
  refine H1.mono ?_
  rintro e w1 ⟨rfl, hb1⟩
  have H2 := reach_is (h.below hb1) hN (k := n) (by simp [Lit.wf, IntKind.min, IntKind.max, IntKind.signed, IntKind.bits]; omega) hA
  have K1 : Hid (Keep X w w1) := Keep.ofBelow hb1 HX
  clear H1 h hb1 HX
  go_wp2_with fail
  refine H2.mono ?_
  rintro e w2 ⟨rfl, hv, hk⟩
  have HV : Hid (ViewAt X p (N + 1) (s.reach n) w2) := hv
  have HK : Hid (Keep X w w2) := K1.out.trans hk
  clear H2 hv hk K1
  go_wp2
  go_end0
  exact ⟨rfl, HV.out, HK.out⟩

set_option maxRecDepth 100000 in
set_option maxHeartbeats 3200000 in
theorem follow_list (h : ViewAt X p N s w) (hs : t.size ≤ 1048576) (hc : cut t = some (n, r)) (h0 : 0 < t.size) (e0 : t[0].toNat = 108) (hA : s.A.length + (partsR t).1.length ≤ 8589934592) :
    Calls Tryz.prog 80 #[.pointer (some ⟨p, 0, none⟩), .string t] w fun e w' => e = .returned (.tuple #[]) ∧ ViewAt X p N ⟨s.A ++ (partsR t).1, s.T, s.F⟩ w' ∧ Keep X w w' := by
  have H1 := cutHead_yes t r n w hs hc
  have HX := h.xlt
  go_enter Tryz.func80, Tryz.ntmps80
  go_wp2_with fail
  refine H1.mono ?_
  rintro e w1 ⟨rfl, hb1⟩
  have H2 := impl_parts t w1 hs
  have h1 := h.below hb1
  clear H1 h
  go_wp2_with fail
  refine H2.mono ?_
  rintro e w2 ⟨v, rfl, ho, hb2⟩
  obtain ⟨a2, c2, rfl, _, hrow⟩ := own_row ho
  have h2 := h1.below hb2
  have hsrc := src_row w2 a2 c2 (partsR t).1 hrow
  have K2 := (Keep.ofBelow hb1 HX).trans (Keep.ofBelow hb2 h1.xlt)
  obtain ⟨mT, mL, DT, DL, rv, hm⟩ := h2
  obtain ⟨v1, w3, hrun, hk1, hg1, ⟨a1, n1, cap1, hv1⟩, hm1⟩ := hm.ahead 24 hsrc hA
  have d0 := hm.c0
  have ep : w3.heap[p]? = w2.heap[p]? := hg1.block p hm.lt.1 (fun e => (hm.far none p e.symm).1 rfl)
  have dd := (World.cell?_of_block (a := ⟨p, 0, none⟩) ep).trans hm.c0
  have df := (World.frozen?_of_block (a := ⟨p, 0, none⟩) ep).trans hm.f0
  subst hv1
  obtain ⟨W4, hW4⟩ : ∃ W4, w3.setCell ⟨p, 0, none⟩ (.slice a1 n1 cap1) = W4 := ⟨_, rfl⟩
  rw [hW4] at hm1 hk1
  have HV : Hid (ViewAt X p N ⟨s.A ++ (partsR t).1, s.T, s.F⟩ W4) := ⟨mT, mL, DT, DL, _, hm1⟩
  have HK : Hid (Keep X w W4) := K2.trans hk1
  clear H2 hm hm1 hk1 K2 hsrc ho hrow h1 hb1 hb2 ep hg1 HX
  go_wp2_with (first | (at_builtin; refine Vw.wpList_append rfl _ _ 24 rfl (rv none) _ (.slice a1 n1 cap1) rfl rfl hrun ?_) | go_in)
  go_wp2
  try rw [hW4]
  go_end0
  exact ⟨rfl, HV.out, HK.out⟩

set_option maxRecDepth 100000 in
set_option maxHeartbeats 3200000 in
theorem follow_none (h : ViewAt X p N s w) (hs : t.size ≤ 1048576) (hc : cut t = some (n, r)) (h0 : 0 < t.size) (e0 : ((t[0].toNat : Int) == 107) = false) (e1 : ((t[0].toNat : Int) == 108) = false) (e2 : ((t[0].toNat : Int) == 115) = false) :
    Calls Tryz.prog 80 #[.pointer (some ⟨p, 0, none⟩), .string t] w fun e w' => e = .returned (.tuple #[]) ∧ ViewAt X p N s w' ∧ Keep X w w' := by
  have H1 := cutHead_yes t r n w hs hc
  have HX := h.xlt
  go_enter Tryz.func80, Tryz.ntmps80
  go_wp2_with fail
  refine H1.mono ?_
  rintro e w1 ⟨rfl, hb1⟩
  have h1 := h.below hb1
  go_wp2
  go_end0
  exact ⟨rfl, h1, Keep.ofBelow hb1 HX⟩

set_option maxRecDepth 100000 in
set_option maxHeartbeats 3200000 in
theorem follow_open (h : ViewAt X p N s w) (hs : t.size ≤ 1048576) (hc : cut t = some (n, r)) (hn : n ≤ 1000000) (h0 : 0 < t.size) (e0 : t[0].toNat = 115) (hF : (s.F n).1 = true) (hA : s.A.length + 1 ≤ 8589934592) :
    Calls Tryz.prog 80 #[.pointer (some ⟨p, 0, none⟩), .string t] w fun e w' => e = .returned (.tuple #[]) ∧ ViewAt X p N ⟨s.A ++ [r], s.T, s.F⟩ w' ∧ Keep X w w' := by
  have H1 := cutHead_yes t r n w hs hc
  have HX := h.xlt
  have hk : (Lit.int .i64 (n : Int)).wf = true := by simp [Lit.wf, IntKind.min, IntKind.max, IntKind.signed, IntKind.bits]; omega
  go_enter Tryz.func80, Tryz.ntmps80
  go_wp2_with fail
  refine H1.mono ?_
  rintro e w1 ⟨rfl, hb1⟩
  have h1 := h.below hb1
  have K1 := Keep.ofBelow hb1 HX
  clear H1 h hb1 HX
  obtain ⟨mT, mL, DT, DL, rv, hm⟩ := h1
  have e3 := hm.look_at hk (V := w1) rfl
  obtain ⟨a5, n5, c5, hrv⟩ : ∃ a5 n5 c5, rv (some (n : Int)) = .slice a5 n5 c5 := by obtain ⟨a, c, e, _⟩ := (hm.q (some (n : Int))).shape; exact ⟨a, _, c, e⟩
  rw [hF, hrv] at e3
  have d2 := hm.c2
  obtain ⟨W2, hW2⟩ : ∃ W2, w1.alloc (.cells #[.bool true, .slice a5 n5 c5] 58) = W2 := ⟨_, rfl⟩
  have hb2 : Below w1.heap.size w1 W2 := by rw [← hW2]; exact (Below.refl _ _).alloc (Nat.le_refl _) _
  have g0 : W2.cell? ⟨w1.heap.size, 0, none⟩ = some (.bool true) := by rw [← hW2]; simp [go_sem]
  have hm2 := hm.below hb2
  have K2 := K1.trans (Keep.ofBelow hb2 hm.xlt)
  have c2 := hm2.c0
  have hb3 : Below W2.heap.size W2 (W2.alloc (.cells #[.string r] 9)) := (Below.refl _ _).alloc (Nat.le_refl _) _
  have hm3 := hm2.below hb3
  have K3 := K2.trans (Keep.ofBelow hb3 hm2.xlt)
  obtain ⟨v1, w3, hrun, hk1, hg1, ⟨a1, n1, cap1, hv1⟩, hm4⟩ := hm3.ahead 24 (src_one W2 r) hA
  have ep : w3.heap[p]? = (W2.alloc (.cells #[.string r] 9)).heap[p]? := hg1.block p hm3.lt.1 (fun e => (hm.far none p e.symm).1 rfl)
  have dd := (World.cell?_of_block (a := ⟨p, 0, none⟩) ep).trans hm3.c0
  have df := (World.frozen?_of_block (a := ⟨p, 0, none⟩) ep).trans hm3.f0
  subst hv1
  obtain ⟨W4, hW4⟩ : ∃ W4, w3.setCell ⟨p, 0, none⟩ (.slice a1 n1 cap1) = W4 := ⟨_, rfl⟩
  rw [hW4] at hm4 hk1
  have HV : Hid (ViewAt X p N ⟨s.A ++ [r], s.T, s.F⟩ W4) := ⟨mT, mL, DT, DL, _, hm4⟩
  have HK : Hid (Keep X w W4) := K3.trans hk1
  have LT : w1.heap.size < W2.heap.size := by rw [← hW2]; simp
  clear hm hm2 hm3 hm4 hk1 K1 K2 K3 ep hg1 hb2 hb3 hrv
  go_wp2_with (first | (at_builtin; refine Vw.wpList_append rfl _ _ 24 rfl (rv none) _ (.slice a1 n1 cap1) rfl rfl hrun ?_) | go_in)
  go_wp2
  try rw [hW4]
  exact bodyPost_ret (results_none rfl _ _ _) rfl ⟨rfl, HV.out, HK.out⟩

set_option maxRecDepth 100000 in
set_option maxHeartbeats 3200000 in
theorem follow_shut (h : ViewAt X p N s w) (hN : N < 8589934592) (hs : t.size ≤ 1048576) (hc : cut t = some (n, r)) (hn : n ≤ 1000000) (h0 : 0 < t.size) (e0 : t[0].toNat = 115) (hF : (s.F n).1 = false) (hA : (s.F n).2.length + 1 ≤ 8589934592) :
    Calls Tryz.prog 80 #[.pointer (some ⟨p, 0, none⟩), .string t] w fun e w' => e = .returned (.tuple #[]) ∧ ViewAt X p (N + 1) ⟨s.A, s.T, fun j => if j = (n : Int) then (false, (s.F n).2 ++ [r]) else s.F j⟩ w' ∧ Keep X w w' := by
  have H1 := cutHead_yes t r n w hs hc
  have HX := h.xlt
  have hk : (Lit.int .i64 (n : Int)).wf = true := by simp [Lit.wf, IntKind.min, IntKind.max, IntKind.signed, IntKind.bits]; omega
  go_enter Tryz.func80, Tryz.ntmps80
  go_wp2_with fail
  refine H1.mono ?_
  rintro e w1 ⟨rfl, hb1⟩
  have h1 := h.below hb1
  have K1 := Keep.ofBelow hb1 HX
  clear H1 h hb1 HX
  -- the lock that is copied lies apart
  obtain ⟨mT, mL, DT, DL, rv, hm⟩ := h1
  have e3 := hm.look_at hk (V := w1) rfl
  obtain ⟨a5, n5, c5, hrv⟩ : ∃ a5 n5 c5, rv (some (n : Int)) = .slice a5 n5 c5 := by obtain ⟨a, c, e, _⟩ := (hm.q (some (n : Int))).shape; exact ⟨a, _, c, e⟩
  rw [hF, hrv] at e3
  have d2 := hm.c2
  obtain ⟨W2, hW2⟩ : ∃ W2, w1.alloc (.cells #[.bool false, .slice a5 n5 c5] 58) = W2 := ⟨_, rfl⟩
  have hb2 : Below w1.heap.size w1 W2 := by rw [← hW2]; exact (Below.refl _ _).alloc (Nat.le_refl _) _
  have g0 : W2.cell? ⟨w1.heap.size, 0, none⟩ = some (.bool false) := by rw [← hW2]; simp [go_sem]
  have g1 : W2.cell? ⟨w1.heap.size, 1, none⟩ = some (.slice a5 n5 c5) := by rw [← hW2]; simp [go_sem]
  have g2 : W2.frozen? ⟨w1.heap.size, 1, none⟩ = false := by rw [← hW2]; simp [go_sem]
  have LT : w1.heap.size < W2.heap.size := by rw [← hW2]; simp
  have hm2 : ViewM (fun k => X k ∨ k = w1.heap.size) p N mT mL DT DL rv s W2 := hm.kept hb2.size (fun k hk _ => hb2.block k hk) (fun k hk => by
    rcases hk with hk | rfl
    · exact ⟨Nat.lt_trans (hm.xlt k hk) LT, Or.inl hk⟩
    · exact ⟨LT, Or.inr (Nat.le_refl _)⟩)
  have K2 := K1.trans (Keep.ofBelow hb2 hm.xlt)
  have hb3 : Below W2.heap.size W2 (W2.alloc (.cells #[.string r] 9)) := (Below.refl _ _).alloc (Nat.le_refl _) _
  have hm3 := hm2.below hb3
  have K3 := K2.trans (Keep.ofBelow hb3 (fun k hk => Nat.lt_trans (hm.xlt k hk) LT))
  obtain ⟨v1, w3, hrun, hk1, hm4, hq4, ⟨a1, n1, cap1, hv1⟩, hsv⟩ := hm3.shut (n : Int) 24 (src_one W2 r) hA
  rw [hrv] at hrun
  subst hv1
  have G0 : w3.cell? ⟨w1.heap.size, 0, none⟩ = some (.bool false) := (hk1.cell (Or.inr rfl) 0).trans ((hb3.cell (p := ⟨w1.heap.size, 0, none⟩) LT).trans g0)
  have G1 : w3.cell? ⟨w1.heap.size, 1, none⟩ = some (.slice a5 n5 c5) := (hk1.cell (Or.inr rfl) 1).trans ((hb3.cell (p := ⟨w1.heap.size, 1, none⟩) LT).trans g1)
  have G2 : w3.frozen? ⟨w1.heap.size, 1, none⟩ = false := (hk1.frozen (Or.inr rfl) 1).trans ((hb3.frozen (p := ⟨w1.heap.size, 1, none⟩) LT).trans g2)
  obtain ⟨W4, hW4⟩ : ∃ W4, w3.setCell ⟨w1.heap.size, 1, none⟩ (.slice a1 n1 cap1) = W4 := ⟨_, rfl⟩
  have L3 : w1.heap.size < w3.heap.size := Nat.lt_of_lt_of_le LT (Nat.le_trans hb3.size hk1.size)
  have es4 : ∀ k, k ≠ w1.heap.size → W4.heap[k]? = w3.heap[k]? := fun k hk => by rw [← hW4]; exact Below.heap_setCell w3 ⟨w1.heap.size, 1, none⟩ _ k (fun e => hk e)
  have z4 : W4.heap.size = w3.heap.size := by rw [← hW4]; simp
  have y0 : W4.cell? ⟨w1.heap.size, 0, none⟩ = some (.bool false) := by rw [← hW4, World.cell?_setCell_other _ _ _ _ (by simp)]; exact G0
  have y1 : W4.cell? ⟨w1.heap.size, 1, none⟩ = some (.slice a1 n1 cap1) := by rw [← hW4]; exact World.cell?_setCell_same' _ _ _ (by rw [G1]; rfl)
  have hm5 : ViewM (fun k => X k ∨ k = w1.heap.size) p N mT mL DT DL rv s W4 := hm4.kept (Nat.le_of_eq z4.symm) (fun k _ hk => es4 k (fun e => hk (Or.inr e))) (fun k hk => ⟨by rw [z4]; exact hm4.xlt k hk, Or.inl hk⟩)
  have hq5 : QRow 0 W4 (.slice a1 n1 cap1) ((s.F n).2 ++ [r]) := hq4.kept (Nat.le_of_eq z4.symm) fun k hk => es4 k (fun e => (hsv k hk).1.2.2.2 (Or.inr e))
  have hB4 := (Below.refl 0 w3).setCell (p := ⟨w1.heap.size, 1, none⟩) (Nat.zero_le _) (.slice a1 n1 cap1)
  rw [hW4] at hB4
  have K4 : Keep X w W4 := K3.trans ((hk1.mono (fun k hk => Or.inl hk)).trans ⟨hB4.os, hB4.tape, hB4.output, hB4.size, fun k hk => es4 k (fun e => Nat.lt_irrefl w1.heap.size (e ▸ hm.xlt k hk))⟩)
  have hm6 : ViewM (fun k => X k ∨ k = w1.heap.size) p N mT mL DT DL rv s W4.drew := hm5.below (Below.refl _ _).drew
  obtain ⟨w7, hrun7, hk7, hv7⟩ := hm6.put hN hk false (.slice a1 n1 cap1) ((s.F n).2 ++ [r]) (hq5.kept (Nat.le_refl _) fun _ _ => rfl) hsv
  have HV : Hid (ViewAt X p (N + 1) ⟨s.A, s.T, fun j => if j = (n : Int) then (false, (s.F n).2 ++ [r]) else s.F j⟩ w7) := hv7.less (fun k hk => Or.inl hk)
  have HK : Hid (Keep X w w7) := K4.trans ((Keep.ofBelow (Below.refl W4.heap.size W4).drew (fun k hk => by rw [z4]; exact Nat.lt_trans (hm.xlt k hk) L3)).trans (hk7.mono (fun k hk => Or.inl hk)))
  have m2 : W4.drew.cell? ⟨p, 2, none⟩ = some (.map (some mL)) := hm6.c2
  have y0' : W4.drew.cell? ⟨w1.heap.size, 0, none⟩ = some (.bool false) := y0
  have y1' : W4.drew.cell? ⟨w1.heap.size, 1, none⟩ = some (.slice a1 n1 cap1) := y1
  clear hm hm2 hm3 hm4 hm5 hm6 hk1 hk7 hv7 K1 K2 K3 K4 hb2 hb3 hrv hq4 hq5 hsv es4 hB4 y0 y1
  go_wp2_with (first | (at_builtin; refine Vw.wpList_append rfl _ _ 24 rfl (.slice a5 n5 c5) _ (.slice a1 n1 cap1) rfl rfl hrun ?_) | go_in)
  go_wp2_with fail
  try rw [hW4]
  refine wp_region_any (by kernel_rfl) ?_
  show wpAny _ _ _ _ _ _ _ W4.drew
  refine Vw.take_any 0 63 (v := ?_) rfl rfl (by kernel_rfl) (by kernel_rfl) (by kernel_rfl) (fun _ _ _ h => h) (Or.inl ⟨by rfl, ?_⟩) ?_
  rotate_left
  · intro w'; go_simp; try with_reducible rfl
  try simp only [Act.put, List.setIfInBounds_toArray, List.set_cons_zero, List.set_cons_succ]
  refine Vw.take_any 1 64 (v := ?_) rfl rfl (by kernel_rfl) (by kernel_rfl) (by kernel_rfl) (fun _ _ _ h => h) (Or.inl ⟨by rfl, ?_⟩) ?_
  rotate_left
  · intro w'; go_simp; try with_reducible rfl
  try simp only [Act.put, List.setIfInBounds_toArray, List.set_cons_zero, List.set_cons_succ]
  refine Vw.take_any 2 65 (v := ?_) rfl rfl (by kernel_rfl) (by kernel_rfl) (by kernel_rfl) (fun _ _ _ h => h) (Or.inl ⟨by rfl, ?_⟩) ?_
  rotate_left
  · intro w'; go_simp; try with_reducible rfl
  try simp only [Act.put, List.setIfInBounds_toArray, List.set_cons_zero, List.set_cons_succ]
  refine Vw.take_any 4 67 (v := ?_) rfl rfl (by kernel_rfl) (by kernel_rfl) (by kernel_rfl) (fun _ _ _ h => h) (Or.inl ⟨by rfl, ?_⟩) ?_
  rotate_left
  · intro w'; go_simp; try with_reducible rfl
  try simp only [Act.put, List.setIfInBounds_toArray, List.set_cons_zero, List.set_cons_succ]
  refine wpAny_ready (rs := [3, 5]) (by kernel_rfl) (by simp) ?_
  refine AllReady.cons (i := 3) rfl (fun K hK => ?_) (AllReady.cons (i := 5) rfl (fun K hK => ?_) AllReady.nil)
  ·
    go_simp
    refine hK _ _ ?_
    clear hK K
    try simp only [Act.put, List.setIfInBounds_toArray, List.set_cons_zero, List.set_cons_succ]
    refine wpAny_ready (rs := [5]) (by kernel_rfl) (by simp) ?_
    refine AllReady.cons (i := 5) rfl (fun K hK => ?_) AllReady.nil
    go_simp
    refine hK _ _ ?_
    clear hK K
    try simp only [Act.put, List.setIfInBounds_toArray, List.set_cons_zero, List.set_cons_succ]
    refine wpAny_ready (rs := [6]) (by kernel_rfl) (by simp) ?_
    refine AllReady.cons (i := 6) rfl (fun K hK => ?_) AllReady.nil
    go_simp
    refine hK _ _ ?_
    clear hK K
    try simp only [Act.put, List.setIfInBounds_toArray, List.set_cons_zero, List.set_cons_succ]
    refine wpAny_done (by kernel_rfl) ?_ _
    clear hW4 hW2
    go_wp2
    go_end0
    exact ⟨rfl, HV.out, HK.out⟩
  ·
    go_simp
    refine hK _ _ ?_
    clear hK K
    try simp only [Act.put, List.setIfInBounds_toArray, List.set_cons_zero, List.set_cons_succ]
    refine wpAny_ready (rs := [3]) (by kernel_rfl) (by simp) ?_
    refine AllReady.cons (i := 3) rfl (fun K hK => ?_) AllReady.nil
    go_simp
    refine hK _ _ ?_
    clear hK K
    try simp only [Act.put, List.setIfInBounds_toArray, List.set_cons_zero, List.set_cons_succ]
    refine wpAny_ready (rs := [6]) (by kernel_rfl) (by simp) ?_
    refine AllReady.cons (i := 6) rfl (fun K hK => ?_) AllReady.nil
    go_simp
    refine hK _ _ ?_
    clear hK K
    try simp only [Act.put, List.setIfInBounds_toArray, List.set_cons_zero, List.set_cons_succ]
    refine wpAny_done (by kernel_rfl) ?_ _
    clear hW4 hW2
    go_wp2
    go_end0
    exact ⟨rfl, HV.out, HK.out⟩

/-- What follows of a term is what the document says. -/
theorem follow_is (h : ViewAt X p N s w) (hN : N < 8589934592) (hT : isT t = true) (hA : ∀ k, s.A.length + (s.F k).2.length + 20 ≤ 8589934592) :
    Calls Tryz.prog 80 #[.pointer (some ⟨p, 0, none⟩), .string t] w fun e w' => e = .returned (.tuple #[]) ∧ ViewAt X p (N + 1) (s.follow t) w' ∧ Keep X w w' := by
  have hsz := ((isT_iff t).1 hT).1
  obtain ⟨n, r, hc⟩ := ((isT_iff t).1 hT).cut
  obtain ⟨g0, g1, _⟩ := cut_size hc
  have h0 : 0 < t.size := by omega
  have hat := at_eq t 0 h0
  have R := rk_kind hT hc hat.symm
  have hAn := hA n
  by_cases e1 : t[0].toNat = 107
  · have : s.follow t = s.reach n := by unfold VS.follow; rw [R 107, if_pos e1]
    rw [this]
    exact follow_key h hN (by omega) hc g1 h0 e1 (by omega)
  · by_cases e2 : t[0].toNat = 108
    · have : s.follow t = ⟨s.A ++ (partsR t).1, s.T, s.F⟩ := by
        unfold VS.follow
        rw [R 107, if_neg e1, R 115, if_neg (by omega)]
      rw [this]
      exact (follow_list h (by omega) hc h0 e2 (by have := parts_len t; omega)).mono fun e w' ⟨h1, h2, h3⟩ => ⟨h1, h2.more (Nat.le_succ _), h3⟩
    · by_cases e3 : t[0].toNat = 115
      · by_cases hF : (s.F n).1 = true
        · have : s.follow t = ⟨s.A ++ [r], s.T, s.F⟩ := by
            unfold VS.follow
            rw [R 107, if_neg e1, R 115, if_pos e3]
            simp only [if_pos hF]
          rw [this]
          exact (follow_open h (by omega) hc g1 h0 e3 hF (by omega)).mono fun e w' ⟨h1, h2, h3⟩ => ⟨h1, h2.more (Nat.le_succ _), h3⟩
        · have hF' : (s.F n).1 = false := by simpa using hF
          have : s.follow t = ⟨s.A, s.T, fun j => if j = (n : Int) then (false, (s.F n).2 ++ [r]) else s.F j⟩ := by
            unfold VS.follow
            rw [R 107, if_neg e1, R 115, if_pos e3]
            simp [hF']
          rw [this]
          exact follow_shut h hN (by omega) hc g1 h0 e3 hF' (by omega)
      · have : s.follow t = s := by
          unfold VS.follow
          rw [R 107, if_neg e1, R 115, if_neg e3, parts_none (by rw [R 108, if_neg e2])]
          simp
        rw [this]
        exact (follow_none h (by omega) hc h0 (by simp; omega) (by simp; omega) (by simp; omega)).mono fun e w' ⟨h1, h2, h3⟩ => ⟨h1, h2.more (Nat.le_succ _), h3⟩
end
end Go.Proofs.YtkekfogepdhjhaaGreat
