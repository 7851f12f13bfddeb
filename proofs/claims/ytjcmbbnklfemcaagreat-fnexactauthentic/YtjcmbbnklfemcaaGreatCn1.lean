/- The realms that had a hand in an Accept, and their keys: the program. -/
import Derived.Test.YtjcmbbnklfemcaaGreatLawW
import Derived.Test.YtjcmbbnklfemcaaGreatKey2
import Derived.Test.YtjcmbbnklfemcaaGreatPut
import Derived.Test.YtjcmbbnklfemcaaGreatShelf
import Derived.Deep.RegionWith
set_option linter.unusedVariables false
set_option maxRecDepth 100000
namespace Go.Proofs.YtjcmbbnklfemcaaGreat.Nd
open Go Go.RowKit Go.Joins Own Draw Term

abbrev clQ (p : TQ) : Int := p.2.1
abbrev seQ (p : TQ) : Int := p.1
abbrev paQ (p : TQ) : List Int := p.2.2.2.2.2.2.2.1.2.2
abbrev viQ (p : TQ) : List Int := p.2.2.2.2.2.2.2.2.1.2.2
abbrev leQ (p : TQ) : Int := p.2.2.2.2.2.2.2.2.2.1
/-- The realms of an Accept, as the model lists them. -/
def rsM (c : Cf) (p : TQ) : List Int := roV c (clQ p) :: roV c (3 + seQ p) :: paQ p
def r3 : List Int := (List.range 3).map (fun i : Nat => (i : Int))
theorem r3_len : r3.length = 3 := by simp [r3]
theorem r3_at (k : Nat) (h : k < r3.length) : r3[k] = (k : Int) := by simp [r3]
def rlP (c : Cf) (p : TQ) : List Int := r3.filter (fun r => (rsM c p).contains r)
def skV (s : Int) : Int := if btw s 0 2 then pkV (3 + s) else 0
def lkL (rs : List Int) (r : Int) : List Int := (rs.filter (fun o => decide (r ≠ o))).map (lkV r)
def rkL (rs : List Int) : List Int := rs.flatMap (fun r => ckV r :: lkL rs r)
def cnL (c : Cf) (p : TQ) : List Int := rkL (rlP c p) ++ [pkV (clQ p), skV (seQ p)] ++ (viQ p).map skV
theorem filter_take {α : Type} (g : α → Bool) {l : List α} {k : Nat} (h : k < l.length) : (l.take (k + 1)).filter g = (l.take k).filter g ++ (if g l[k] then [l[k]] else []) := by
  rw [List.take_succ_eq_append_getElem h, List.filter_append]
  congr 1
  by_cases hg : g l[k] = true <;> simp [hg]
theorem contB (ks : List Int) (x : Int) : ks.contains x = decide (x ∈ ks) := by
  cases h : ks.contains x with
  | true => exact (decide_eq_true (List.contains_iff_mem.1 h)).symm
  | false => exact (decide_eq_false (fun c => by rw [List.contains_iff_mem.2 c] at h; cases h)).symm
set_option maxRecDepth 100000 in
theorem has_is (a : Option Addr) (cap : Nat) (xs : List Int) (x : Int) (w : World) (hr : RowAt (Value.int .i64) w a xs) (hl : xs.length ≤ 1048576) :
    Calls Tryz.prog 138 #[.slice a xs.length cap, .int .i64 x] w fun e w' => e = .returned (.bool (xs.contains x)) ∧ w = w' := by
  by_cases h0 : xs.length = 0
  · have hx : xs = [] := List.eq_nil_of_length_eq_zero h0
    subst hx
    exact (Tryz.slices_Contains_int_empty a cap x w).mono (fun e w' h => ⟨h.1, h.2.symm⟩)
  · obtain ⟨b, o, rfl, _⟩ := hr 0 (by omega)
    refine (Tryz.slices_Contains_int b o xs.length cap xs x w (Nat.le_refl _) (by omega) (fun j hj => ?_)).mono ?_
    · obtain ⟨b2, o2, e2, _, hc⟩ := hr j hj
      simp only [Option.some.injEq, Addr.mk.injEq, and_true] at e2
      obtain ⟨rfl, rfl⟩ := e2
      rw [hc]
      simp [hj]
    · rintro e w' ⟨rfl, rfl⟩
      refine ⟨?_, rfl⟩
      rw [List.take_length]
set_option maxRecDepth 100000 in
set_option maxHeartbeats 6400000 in
theorem realmsOf_is (c : Cf) (p : TQ) (w : World) (C : CfAt c w) (K : CfOk c) (hd : DpQ w p) (hpl : (paQ p).length ≤ 1048576) (hs : -1000 ≤ seQ p ∧ seQ p ≤ 1000) :
    Calls Tryz.prog 142 #[c.val, vQ p] w fun e w' => ∃ a cap, e = .returned (.slice a (rlP c p).length cap) ∧ w'.ownsRow w.heap.size 3 1 (.slice a (rlP c p).length cap) (rlP c p).length (intV (rlP c p)) ∧ Below w.heap.size w w' := by
  obtain ⟨i0, hi, hz0, hz1, hz2⟩ := info_parts infoInt3
  obtain ⟨V, hV⟩ : ∃ V, (w.alloc (.cells #[.slice c.ua c.U.length c.uc, .slice c.sa c.S.length c.sc, .slice c.la c.L.length c.lc, .slice c.xa c.X.length c.xc, .int .i64 c.k] 40)).alloc (.cells #[.int .i64 p.1, .int .i64 p.2.1, .int .i64 p.2.2.1, .int .i64 p.2.2.2.1, .int .i64 p.2.2.2.2.1, .int .i64 p.2.2.2.2.2.1.1, .int .i64 p.2.2.2.2.2.1.2.1, .int .i64 p.2.2.2.2.2.1.2.2, .int .i64 p.2.2.2.2.2.2.1.1, .int .i64 p.2.2.2.2.2.2.1.2.1, .int .i64 p.2.2.2.2.2.2.1.2.2, .slice p.2.2.2.2.2.2.2.1.1 p.2.2.2.2.2.2.2.1.2.2.length p.2.2.2.2.2.2.2.1.2.1, .slice p.2.2.2.2.2.2.2.2.1.1 p.2.2.2.2.2.2.2.2.1.2.2.length p.2.2.2.2.2.2.2.2.1.2.1, .int .i64 p.2.2.2.2.2.2.2.2.2.1, .string p.2.2.2.2.2.2.2.2.2.2] 82) = V := ⟨_, rfl⟩
  have BC : Below w.heap.size w V := by rw [← hV]; exact ((Below.refl _ _).alloc (Nat.le_refl _) _).alloc (by simp) _
  have TC : Blk w.heap.size [.slice c.ua c.U.length c.uc, .slice c.sa c.S.length c.sc, .slice c.la c.L.length c.lc, .slice c.xa c.X.length c.xc, .int .i64 c.k] V := by rw [← hV]; exact (Blk.new _ _ _).alloc (by simp) _
  have TQ : Blk (w.heap.size + 1) [.int .i64 p.1, .int .i64 p.2.1, .int .i64 p.2.2.1, .int .i64 p.2.2.2.1, .int .i64 p.2.2.2.2.1, .int .i64 p.2.2.2.2.2.1.1, .int .i64 p.2.2.2.2.2.1.2.1, .int .i64 p.2.2.2.2.2.1.2.2, .int .i64 p.2.2.2.2.2.2.1.1, .int .i64 p.2.2.2.2.2.2.1.2.1, .int .i64 p.2.2.2.2.2.2.1.2.2, .slice p.2.2.2.2.2.2.2.1.1 p.2.2.2.2.2.2.2.1.2.2.length p.2.2.2.2.2.2.2.1.2.1, .slice p.2.2.2.2.2.2.2.2.1.1 p.2.2.2.2.2.2.2.2.1.2.2.length p.2.2.2.2.2.2.2.2.1.2.1, .int .i64 p.2.2.2.2.2.2.2.2.2.1, .string p.2.2.2.2.2.2.2.2.2.2] V := by rw [← hV]; have := Blk.new (w.alloc (.cells #[.slice c.ua c.U.length c.uc, .slice c.sa c.S.length c.sc, .slice c.la c.L.length c.lc, .slice c.xa c.X.length c.xc, .int .i64 c.k] 40)) #[.int .i64 p.1, .int .i64 p.2.1, .int .i64 p.2.2.1, .int .i64 p.2.2.2.1, .int .i64 p.2.2.2.2.1, .int .i64 p.2.2.2.2.2.1.1, .int .i64 p.2.2.2.2.2.1.2.1, .int .i64 p.2.2.2.2.2.1.2.2, .int .i64 p.2.2.2.2.2.2.1.1, .int .i64 p.2.2.2.2.2.2.1.2.1, .int .i64 p.2.2.2.2.2.2.1.2.2, .slice p.2.2.2.2.2.2.2.1.1 p.2.2.2.2.2.2.2.1.2.2.length p.2.2.2.2.2.2.2.1.2.1, .slice p.2.2.2.2.2.2.2.2.1.1 p.2.2.2.2.2.2.2.2.1.2.2.length p.2.2.2.2.2.2.2.2.1.2.1, .int .i64 p.2.2.2.2.2.2.2.2.2.1, .string p.2.2.2.2.2.2.2.2.2.2] 82; simpa using this
  have lC : w.heap.size < V.drew.heap.size := TC.lt
  have lQ : w.heap.size + 1 < V.drew.heap.size := TQ.lt
  have K1 := implRO_is c (clQ p) V.drew ((C.later BC).later (Below.refl _ _).drew) K
  have K2 := fun U (h : Below V.drew.heap.size V.drew U) => implRO_is c (3 + seQ p) U (((C.later BC).later (Below.refl _ _).drew).later h) K
  have hw3 : IntKind.i64.wrap (3 + seQ p) = 3 + seQ p := by rw [IntKind.wrap_i64]; omega
  go_enter Tryz.func142, Tryz.ntmps142
  go_wp2_with fail
  try rw [hV]
  clear hV
  refine wp_region_held_drew (S := (fun U : World => Blk w.heap.size [.slice c.ua c.U.length c.uc, .slice c.sa c.S.length c.sc, .slice c.la c.L.length c.lc, .slice c.xa c.X.length c.xc, .int .i64 c.k] U ∧ Blk (w.heap.size + 1) [.int .i64 p.1, .int .i64 p.2.1, .int .i64 p.2.2.1, .int .i64 p.2.2.2.1, .int .i64 p.2.2.2.2.1, .int .i64 p.2.2.2.2.2.1.1, .int .i64 p.2.2.2.2.2.1.2.1, .int .i64 p.2.2.2.2.2.1.2.2, .int .i64 p.2.2.2.2.2.2.1.1, .int .i64 p.2.2.2.2.2.2.1.2.1, .int .i64 p.2.2.2.2.2.2.1.2.2, .slice p.2.2.2.2.2.2.2.1.1 p.2.2.2.2.2.2.2.1.2.2.length p.2.2.2.2.2.2.2.1.2.1, .slice p.2.2.2.2.2.2.2.2.1.1 p.2.2.2.2.2.2.2.2.1.2.2.length p.2.2.2.2.2.2.2.2.1.2.1, .int .i64 p.2.2.2.2.2.2.2.2.2.1, .string p.2.2.2.2.2.2.2.2.2.2] U)) (by kernel_rfl) ⟨TC.drew, TQ.drew⟩ (fun hHeld => ?_)
  refine take_one 0 9 (v := ?_) rfl rfl (by kernel_rfl) (by kernel_rfl) (by kernel_rfl) (fun _ _ _ h => h) (Or.inl ⟨by rfl, ?_⟩) hHeld ?_
  rotate_left
  · intro w' hSw; (try dsimp only at hSw); obtain ⟨bC, bQ⟩ := hSw; have c0 := bC.at 0 rfl; have c1 := bC.at 1 rfl; have c2 := bC.at 2 rfl; have c3 := bC.at 3 rfl; have c4 := bC.at 4 rfl; have q0 := bQ.at 0 rfl; have q1 := bQ.at 1 rfl; go_simp; try with_reducible rfl
  try simp only [Act.put, List.setIfInBounds_toArray, List.set_cons_zero, List.set_cons_succ]
  refine take_one 1 10 (v := ?_) rfl rfl (by kernel_rfl) (by kernel_rfl) (by kernel_rfl) (fun _ _ _ h => h) (Or.inl ⟨by rfl, ?_⟩) hHeld ?_
  rotate_left
  · intro w' hSw; (try dsimp only at hSw); obtain ⟨bC, bQ⟩ := hSw; have c0 := bC.at 0 rfl; have c1 := bC.at 1 rfl; have c2 := bC.at 2 rfl; have c3 := bC.at 3 rfl; have c4 := bC.at 4 rfl; have q0 := bQ.at 0 rfl; have q1 := bQ.at 1 rfl; go_simp; try with_reducible rfl
  try simp only [Act.put, List.setIfInBounds_toArray, List.set_cons_zero, List.set_cons_succ]
  refine take_one 2 11 (v := ?_) rfl rfl (by kernel_rfl) (by kernel_rfl) (by kernel_rfl) (fun _ _ _ h => h) (Or.inl ⟨by rfl, ?_⟩) hHeld ?_
  rotate_left
  · intro w' hSw; (try dsimp only at hSw); obtain ⟨bC, bQ⟩ := hSw; have c0 := bC.at 0 rfl; have c1 := bC.at 1 rfl; have c2 := bC.at 2 rfl; have c3 := bC.at 3 rfl; have c4 := bC.at 4 rfl; have q0 := bQ.at 0 rfl; have q1 := bQ.at 1 rfl; go_simp; try with_reducible rfl
  try simp only [Act.put, List.setIfInBounds_toArray, List.set_cons_zero, List.set_cons_succ]
  refine take_one 4 13 (v := ?_) rfl rfl (by kernel_rfl) (by kernel_rfl) (by kernel_rfl) (fun _ _ _ h => h) (Or.inl ⟨by rfl, ?_⟩) hHeld ?_
  rotate_left
  · intro w' hSw; (try dsimp only at hSw); obtain ⟨bC, bQ⟩ := hSw; have c0 := bC.at 0 rfl; have c1 := bC.at 1 rfl; have c2 := bC.at 2 rfl; have c3 := bC.at 3 rfl; have c4 := bC.at 4 rfl; have q0 := bQ.at 0 rfl; have q1 := bQ.at 1 rfl; go_simp; try with_reducible rfl
  try simp only [Act.put, List.setIfInBounds_toArray, List.set_cons_zero, List.set_cons_succ]
  refine take_one 5 14 (v := ?_) rfl rfl (by kernel_rfl) (by kernel_rfl) (by kernel_rfl) (fun _ _ _ h => h) (Or.inl ⟨by rfl, ?_⟩) hHeld ?_
  rotate_left
  · intro w' hSw; (try dsimp only at hSw); obtain ⟨bC, bQ⟩ := hSw; have c0 := bC.at 0 rfl; have c1 := bC.at 1 rfl; have c2 := bC.at 2 rfl; have c3 := bC.at 3 rfl; have c4 := bC.at 4 rfl; have q0 := bQ.at 0 rfl; have q1 := bQ.at 1 rfl; go_simp; try with_reducible rfl
  try simp only [Act.put, List.setIfInBounds_toArray, List.set_cons_zero, List.set_cons_succ]
  refine take_one 6 15 (v := ?_) rfl rfl (by kernel_rfl) (by kernel_rfl) (by kernel_rfl) (fun _ _ _ h => h) (Or.inl ⟨by rfl, ?_⟩) hHeld ?_
  rotate_left
  · intro w' hSw; (try dsimp only at hSw); obtain ⟨bC, bQ⟩ := hSw; have c0 := bC.at 0 rfl; have c1 := bC.at 1 rfl; have c2 := bC.at 2 rfl; have c3 := bC.at 3 rfl; have c4 := bC.at 4 rfl; have q0 := bQ.at 0 rfl; have q1 := bQ.at 1 rfl; go_simp; try with_reducible rfl
  try simp only [Act.put, List.setIfInBounds_toArray, List.set_cons_zero, List.set_cons_succ]
  refine take_one 7 16 (v := ?_) rfl rfl (by kernel_rfl) (by kernel_rfl) (by kernel_rfl) (fun _ _ _ h => h) (Or.inl ⟨by rfl, ?_⟩) hHeld ?_
  rotate_left
  · intro w' hSw; (try dsimp only at hSw); obtain ⟨bC, bQ⟩ := hSw; have c0 := bC.at 0 rfl; have c1 := bC.at 1 rfl; have c2 := bC.at 2 rfl; have c3 := bC.at 3 rfl; have c4 := bC.at 4 rfl; have q0 := bQ.at 0 rfl; have q1 := bQ.at 1 rfl; go_simp; try with_reducible rfl
  try simp only [Act.put, List.setIfInBounds_toArray, List.set_cons_zero, List.set_cons_succ]
  refine wpAnyH_ready (rs := [3]) (by kernel_rfl) (by simp) ?_
  refine AllReadyH.cons (i := 3) rfl (fun K hK => ?_) AllReadyH.nil
  go_simp
  refine (K1).mono ?_
  rintro en u1 ⟨rfl, h1⟩
  clear K1
  go_wp2_with fail
  refine hK.out _ _ ⟨TC.drew.later h1 lC, TQ.drew.later h1 lQ⟩ (fun hHeld2 => ?_)
  clear hK K hHeld
  have hHeld := hHeld2
  clear hHeld2
  try simp only [Act.put, List.setIfInBounds_toArray, List.set_cons_zero, List.set_cons_succ]
  refine wpAnyH_ready (rs := [8]) (by kernel_rfl) (by simp) ?_
  refine AllReadyH.cons (i := 8) rfl (fun K hK => ?_) AllReadyH.nil
  go_simp
  refine (K2 u1 h1).mono ?_
  rintro en u2 ⟨rfl, h2⟩
  clear K2
  go_wp2_with fail
  refine hK.out _ _ ⟨TC.drew.later (h1.trans (h2.mono h1.size)) lC, TQ.drew.later (h1.trans (h2.mono h1.size)) lQ⟩ (fun hHeld2 => ?_)
  clear hK K hHeld
  have hHeld := hHeld2
  clear hHeld2
  try simp only [Act.put, List.setIfInBounds_toArray, List.set_cons_zero, List.set_cons_succ]
  refine take_one 9 5 (v := ?_) rfl rfl (by kernel_rfl) (by kernel_rfl) (by kernel_rfl) (fun _ _ _ h => h) (Or.inl ⟨by rfl, ?_⟩) hHeld ?_
  rotate_left
  · intro w' hSw; (try dsimp only at hSw); obtain ⟨bC, bQ⟩ := hSw; have c0 := bC.at 0 rfl; have c1 := bC.at 1 rfl; have c2 := bC.at 2 rfl; have c3 := bC.at 3 rfl; have c4 := bC.at 4 rfl; have q0 := bQ.at 0 rfl; have q1 := bQ.at 1 rfl; go_simp; try with_reducible rfl
  try simp only [Act.put, List.setIfInBounds_toArray, List.set_cons_zero, List.set_cons_succ]
  refine take_one 10 6 (v := ?_) rfl rfl (by kernel_rfl) (by kernel_rfl) (by kernel_rfl) (fun _ _ _ h => h) (Or.inl ⟨by rfl, ?_⟩) hHeld ?_
  rotate_left
  · intro w' hSw; (try dsimp only at hSw); obtain ⟨bC, bQ⟩ := hSw; have c0 := bC.at 0 rfl; have c1 := bC.at 1 rfl; have c2 := bC.at 2 rfl; have c3 := bC.at 3 rfl; have c4 := bC.at 4 rfl; have q0 := bQ.at 0 rfl; have q1 := bQ.at 1 rfl; go_simp; try with_reducible rfl
  try simp only [Act.put, List.setIfInBounds_toArray, List.set_cons_zero, List.set_cons_succ]
  refine wpAnyH_done (by kernel_rfl) ?_ _
  have B2 : Below V.heap.size V u2 := (Below.refl _ V).drew.trans (h1.trans (h2.mono h1.size))
  replace TQ := TQ.later B2 TQ.lt
  replace BC := BC.trans (B2.mono BC.size)
  clear hHeld h1 h2 B2 TC lC lQ hw3 C K
  have HE : Hid (∀ r : Int, (rsM c p).contains r = (decide (r = roV c (clQ p)) || (decide (r = roV c (3 + seQ p)) || (paQ p).contains r))) := by
    intro r
    unfold rsM
    rw [contB, contB]
    simp only [List.mem_cons]
    by_cases e1 : r = roV c (clQ p) <;> by_cases e2 : r = roV c (3 + seQ p) <;> simp [e1, e2]
  generalize roV c (clQ p) = x1 at HE ⊢
  generalize roV c (3 + seQ p) = x2 at HE ⊢
  have hn0 : u2.ownsRow u2.heap.size 3 1 (.slice none 0 0) 0 (intV ((r3.take 0).filter (fun r => (rsM c p).contains r))) := World.ownsRow_nil _ _ _ _
  have hq7 := TQ.at 7 rfl
  go_wp2
  go_loopw [7, 8, 18] (fun rv _ iv wr => ∃ (k : Nat) (ra : Option Addr) (rc : Nat), k ≤ 3 ∧ iv = .int .i64 k ∧ rv = .slice ra ((r3.take k).filter (fun r => (rsM c p).contains r)).length rc ∧ wr.ownsRow u2.heap.size 3 1 (.slice ra ((r3.take k).filter (fun r => (rsM c p).contains r)).length rc) ((r3.take k).filter (fun r => (rsM c p).contains r)).length (intV ((r3.take k).filter (fun r => (rsM c p).contains r))) ∧ Below u2.heap.size u2 wr) (fun _ _ iv _ => 3 - (intOf iv).toNat)
  case atStart => exact ⟨0, none, 0, by omega, rfl, rfl, hn0, Below.refl _ _⟩
  case round =>
    clear hn0 hq7
    obtain ⟨k, ra, rc, hk, rfl, rfl, hown, hbel⟩ := hrel
    have T7 := (TQ.later hbel TQ.lt).at 11 rfl
    have hll : ((r3.take k).filter (fun r => (rsM c p).contains r)).length ≤ 3 := Nat.le_trans (List.length_filter_le _ _) (by rw [List.length_take, r3_len]; omega)
    by_cases hlt : k < 3
    · have hk3 : k < r3.length := by rw [r3_len]; exact hlt
      have HS := filter_take (fun r => (rsM c p).contains r) hk3
      rw [r3_at k hk3, HE.out (k : Int)] at HS
      have hlt2 : (k : Int) < 3 := by omega
      have KC := fun U (h : Below wr.heap.size wr U) => has_is p.2.2.2.2.2.2.2.1.1 p.2.2.2.2.2.2.2.1.2.1 (paQ p) (k : Int) U ((((hd.1).later BC).later hbel).later h) hpl
      generalize (r3.take k).filter (fun r => (rsM c p).contains r) = ks at hown HS hll
      by_cases e1 : (k : Int) = x1
      · have q1 : ((k : Int) == x1) = true := beq_iff_eq.2 e1
        have HX : Hid ((k : Int) = x1) := e1
        clear e1
        clear KC
        have HS2 : Hid ((r3.take (k + 1)).filter (fun r => (rsM c p).contains r) = ks ++ [(k : Int)]) := by show _ = _; rw [HS]; simp [HX.out]
        clear HS HE hd
        go_wp2_with (first | (at_builtin; refine wpList_append_own _ rfl _ _ 22 rfl u2.heap.size 3 i0 (.int .i64 0) 1 8 Tryz.underlying22 hi hz0 hz1 hz2 rfl (by decide) _ _ _ rfl (hown.alloc _) ⟨wr.heap.size, 0, none⟩ 1 1 [.int .i64 (k : Int)] rfl rfl (cell_one_new _ _ _) ?c2 ?c3 ?c4 ?c5 ?_) | go_in)
        case c2 => first | rfl | (intro u hu; simp at hu; subst hu; rfl)
        case c3 => unfold maxLen; omega
        case c4 => omega
        case c5 => have := hbel.size; simp; omega
        intro v' w2 hown' hgrow _
        have hb3 := below_app hbel (Nat.le_refl _) hown hgrow
        obtain ⟨na, nc, rfl, _⟩ := own_shape hown'
        have HR : Hid (∃ (k' : Nat) (ra' : Option Addr) (rc' : Nat), k' ≤ 3 ∧ Value.int .i64 ((k : Int) + 1) = .int .i64 k' ∧ Value.slice na (ks.length + 1) nc = .slice ra' ((r3.take k').filter (fun r => (rsM c p).contains r)).length rc' ∧ w2.ownsRow u2.heap.size 3 1 (.slice ra' ((r3.take k').filter (fun r => (rsM c p).contains r)).length rc') ((r3.take k').filter (fun r => (rsM c p).contains r)).length (intV ((r3.take k').filter (fun r => (rsM c p).contains r))) ∧ Below u2.heap.size u2 w2) := by
          refine ⟨k + 1, na, nc, by omega, by go_num, ?_, ?_, hb3⟩
          · rw [HS2.out, List.length_append]; rfl
          · rw [HS2.out, List.length_append]; unfold intV; rw [List.map_append]; exact hown'
        clear hown hown' hgrow hbel hb3 HS2 T7
        go_wp2
        go_roundw
        case rel => exact HR.out
        case measure => simp [intOf]; omega
      have q1 : ((k : Int) == x1) = false := beq_eq_false_iff_ne.2 e1
      by_cases e2 : (k : Int) = x2
      · have q2 : ((k : Int) == x2) = true := beq_iff_eq.2 e2
        have HX : Hid ((k : Int) = x2) := e2
        have HX1 : Hid (¬ (k : Int) = x1) := e1
        clear e1 e2
        clear KC
        have HS2 : Hid ((r3.take (k + 1)).filter (fun r => (rsM c p).contains r) = ks ++ [(k : Int)]) := by show _ = _; rw [HS]; simp [HX.out]
        clear HS HE hd
        go_wp2_with (first | (at_builtin; refine wpList_append_own _ rfl _ _ 22 rfl u2.heap.size 3 i0 (.int .i64 0) 1 8 Tryz.underlying22 hi hz0 hz1 hz2 rfl (by decide) _ _ _ rfl (hown.alloc _) ⟨wr.heap.size, 0, none⟩ 1 1 [.int .i64 (k : Int)] rfl rfl (cell_one_new _ _ _) ?c2 ?c3 ?c4 ?c5 ?_) | go_in)
        case c2 => first | rfl | (intro u hu; simp at hu; subst hu; rfl)
        case c3 => unfold maxLen; omega
        case c4 => omega
        case c5 => have := hbel.size; simp; omega
        intro v' w2 hown' hgrow _
        have hb3 := below_app hbel (Nat.le_refl _) hown hgrow
        obtain ⟨na, nc, rfl, _⟩ := own_shape hown'
        have HR : Hid (∃ (k' : Nat) (ra' : Option Addr) (rc' : Nat), k' ≤ 3 ∧ Value.int .i64 ((k : Int) + 1) = .int .i64 k' ∧ Value.slice na (ks.length + 1) nc = .slice ra' ((r3.take k').filter (fun r => (rsM c p).contains r)).length rc' ∧ w2.ownsRow u2.heap.size 3 1 (.slice ra' ((r3.take k').filter (fun r => (rsM c p).contains r)).length rc') ((r3.take k').filter (fun r => (rsM c p).contains r)).length (intV ((r3.take k').filter (fun r => (rsM c p).contains r))) ∧ Below u2.heap.size u2 w2) := by
          refine ⟨k + 1, na, nc, by omega, by go_num, ?_, ?_, hb3⟩
          · rw [HS2.out, List.length_append]; rfl
          · rw [HS2.out, List.length_append]; unfold intV; rw [List.map_append]; exact hown'
        clear hown hown' hgrow hbel hb3 HS2 T7
        go_wp2
        go_roundw
        case rel => exact HR.out
        case measure => simp [intOf]; omega
      have q2 : ((k : Int) == x2) = false := beq_eq_false_iff_ne.2 e2
      have K3 := KC wr (Below.refl _ _)
      cases hc : (paQ p).contains (k : Int) with
      | true =>
        rw [hc] at K3
        have HX : Hid ((paQ p).contains (k : Int) = true) := hc
        clear hc e1 e2 KC
        go_wp2_with fail
        refine K3.mono ?_
        rintro en w9 ⟨rfl, rfl⟩
        clear K3
        have HS2 : Hid ((r3.take (k + 1)).filter (fun r => (rsM c p).contains r) = ks ++ [(k : Int)]) := by show _ = _; rw [HS]; rw [HX.out]; simp
        clear HS HE hd
        go_wp2_with (first | (at_builtin; refine wpList_append_own _ rfl _ _ 22 rfl u2.heap.size 3 i0 (.int .i64 0) 1 8 Tryz.underlying22 hi hz0 hz1 hz2 rfl (by decide) _ _ _ rfl (hown.alloc _) ⟨wr.heap.size, 0, none⟩ 1 1 [.int .i64 (k : Int)] rfl rfl (cell_one_new _ _ _) ?c2 ?c3 ?c4 ?c5 ?_) | go_in)
        case c2 => first | rfl | (intro u hu; simp at hu; subst hu; rfl)
        case c3 => unfold maxLen; omega
        case c4 => omega
        case c5 => have := hbel.size; simp; omega
        intro v' w2 hown' hgrow _
        have hb3 := below_app hbel (Nat.le_refl _) hown hgrow
        obtain ⟨na, nc, rfl, _⟩ := own_shape hown'
        have HR : Hid (∃ (k' : Nat) (ra' : Option Addr) (rc' : Nat), k' ≤ 3 ∧ Value.int .i64 ((k : Int) + 1) = .int .i64 k' ∧ Value.slice na (ks.length + 1) nc = .slice ra' ((r3.take k').filter (fun r => (rsM c p).contains r)).length rc' ∧ w2.ownsRow u2.heap.size 3 1 (.slice ra' ((r3.take k').filter (fun r => (rsM c p).contains r)).length rc') ((r3.take k').filter (fun r => (rsM c p).contains r)).length (intV ((r3.take k').filter (fun r => (rsM c p).contains r))) ∧ Below u2.heap.size u2 w2) := by
          refine ⟨k + 1, na, nc, by omega, by go_num, ?_, ?_, hb3⟩
          · rw [HS2.out, List.length_append]; rfl
          · rw [HS2.out, List.length_append]; unfold intV; rw [List.map_append]; exact hown'
        clear hown hown' hgrow hbel hb3 HS2 T7
        go_wp2
        go_roundw
        case rel => exact HR.out
        case measure => simp [intOf]; omega
      | false =>
        rw [hc] at K3
        have HX1 : Hid (¬ (k : Int) = x1) := e1
        have HX2 : Hid (¬ (k : Int) = x2) := e2
        have HX : Hid ((paQ p).contains (k : Int) = false) := hc
        clear hc e1 e2 KC
        go_wp2_with fail
        refine K3.mono ?_
        rintro en w9 ⟨rfl, rfl⟩
        clear K3
        have HS2 : Hid ((r3.take (k + 1)).filter (fun r => (rsM c p).contains r) = ks) := by show _ = _; rw [HS]; rw [HX.out, decide_eq_false HX1.out, decide_eq_false HX2.out]; simp
        have HR : Hid (∃ (k' : Nat) (ra' : Option Addr) (rc' : Nat), k' ≤ 3 ∧ Value.int .i64 ((k : Int) + 1) = .int .i64 k' ∧ Value.slice ra ks.length rc = .slice ra' ((r3.take k').filter (fun r => (rsM c p).contains r)).length rc' ∧ wr.ownsRow u2.heap.size 3 1 (.slice ra' ((r3.take k').filter (fun r => (rsM c p).contains r)).length rc') ((r3.take k').filter (fun r => (rsM c p).contains r)).length (intV ((r3.take k').filter (fun r => (rsM c p).contains r))) ∧ Below u2.heap.size u2 wr) := ⟨k + 1, ra, rc, by omega, by go_num, by rw [HS2.out], by rw [HS2.out]; exact hown, hbel⟩
        clear HS HE hd hown hbel HS2 T7
        go_wp2
        go_roundw
        case rel => exact HR.out
        case measure => simp [intOf]; omega
    · have hk4 : k = 3 := by omega
      subst hk4
      have HV : Hid ((r3.take 3).filter (fun r => (rsM c p).contains r) = rlP c p) := by show _ = _; unfold rlP; rw [List.take_of_length_le (by rw [r3_len]; omega)]
      rw [HV.out] at hown ⊢
      replace hown := base_le hown BC.size
      have HB : Hid (Below w.heap.size w wr) := BC.trans (hbel.mono BC.size)
      clear HE hbel BC TQ T7 hd
      go_wp2
      go_ret
      exact ⟨ra, rc, rfl, hown, HB.out⟩
end Go.Proofs.YtjcmbbnklfemcaaGreat.Nd

set_option linter.unusedVariables false
set_option maxRecDepth 100000
namespace Go.Proofs.YtjcmbbnklfemcaaGreat.Nd
open Go Go.RowKit Go.Joins Own Draw Term
def lkT (rs:List Int) (r:Int) (j:Nat):List Int := ((rs.take j).filter (fun o=>decide (r≠o))).map (lkV r)
theorem lkT_succ (rs:List Int) (r:Int) {j:Nat} (h:j < rs.length):lkT rs r (j + 1)=lkT rs r j++(if r=rs[j] then [] else [lkV r rs[j]]) := by
 unfold lkT
 rw [filter_take _ h,List.map_append]
 congr 1
 by_cases e:r=rs[j] <;> simp [e]
theorem lkT_len (rs:List Int) (r:Int) (j:Nat):(lkT rs r j).length≤j := by
 unfold lkT
 rw [List.length_map]
 exact Nat.le_trans (List.length_filter_le _ _) (by rw [List.length_take];omega)
theorem lkT_all (rs:List Int) (r:Int):lkT rs r rs.length=lkL rs r := by unfold lkT lkL;rw [List.take_length]
def rkT (rs:List Int) (k:Nat):List Int := (rs.take k).flatMap (fun r=>ckV r :: lkL rs r)
theorem rkT_succ (rs:List Int) {k:Nat} (h:k < rs.length):rkT rs (k + 1)=rkT rs k++(ckV rs[k] :: lkL rs rs[k]) := by
 unfold rkT
 rw [List.take_succ_eq_append_getElem h,List.flatMap_append]
 simp
theorem rkT_all (rs:List Int):rkT rs rs.length=rkL rs := by unfold rkT rkL;rw [List.take_length]
theorem rkT_len (rs:List Int) (hl:rs.length≤3):∀ k,k≤rs.length→(rkT rs k).length≤4 * k
 | 0,_=>by simp [rkT]
 | k + 1,h=>by
  have ih := rkT_len rs hl k (by omega)
  have h2 := lkT_len rs (rs[k]'(by omega)) rs.length
  rw [lkT_all] at h2
  rw [rkT_succ rs (by omega),List.length_append,List.length_cons]
  omega
theorem rkL_len (rs:List Int) (hl:rs.length≤3):(rkL rs).length≤12 := by rw [← rkT_all];exact Nat.le_trans (rkT_len rs hl _ (Nat.le_refl _)) (by omega)
theorem row_new {α:Type} (f:α→Value) (w:World) (xs:List α) (t:TypeId):RowAt f (w.alloc (.cells (xs.map f).toArray t)) (some ⟨w.heap.size,0,none⟩) xs := by
 intro j hj
 have h := (Blk.new w (xs.map f).toArray t).at j (v := f xs[j]) (by simp [hj])
 exact ⟨w.heap.size,0,rfl,by simp,by rw [Nat.zero_add];exact h⟩
set_option maxRecDepth 100000 in
set_option maxHeartbeats 6400000 in
theorem realmKeys_is (a:Option Addr) (cap:Nat) (rs:List Int) (w:World) (hr:RowAt (Value.int .i64) w a rs) (hl:rs.length≤3) :
  Calls Tryz.prog 141 #[.slice a rs.length cap] w fun e w'=>∃ ra rc,e=.returned (.slice ra (rkL rs).length rc)∧w'.ownsRow w.heap.size 3 1 (.slice ra (rkL rs).length rc) (rkL rs).length (intV (rkL rs))∧Below w.heap.size w w' := by
 obtain ⟨i0,hi,hz0,hz1,hz2⟩ := info_parts infoInt3
 have hn0:w.ownsRow w.heap.size 3 1 (.slice none 0 0) 0 (intV (rkT rs 0)) := World.ownsRow_nil _ _ _ _
 go_enter Tryz.func141,Tryz.ntmps141
 go_wp2
 go_loopw [3,10] (fun kv iv wr=>∃ (k:Nat) (ka:Option Addr) (kc:Nat),k≤rs.length∧iv=.int .i64 k∧kv=.slice ka (rkT rs k).length kc∧Hid ((rkT rs k).length≤4 * k)∧wr.ownsRow w.heap.size 3 1 (.slice ka (rkT rs k).length kc) (rkT rs k).length (intV (rkT rs k))∧Below w.heap.size w wr) (fun _ iv _=>rs.length - (intOf iv).toNat)
 case atStart=>exact ⟨0,none,0,by omega,rfl,rfl,Nat.le_refl _,hn0,Below.refl _ _⟩
 case round =>
  clear hn0
  obtain ⟨k,ka,kc,hk,rfl,rfl,HL,hown,hbel⟩ := hrel
  have hks := HL.out
  by_cases hlt:k < rs.length
  ·obtain ⟨b1,o1,ea,l1,hc⟩ := hr k hlt
   have hcell := (hbel.cell (p := ⟨b1,o1 + k,none⟩) l1).trans hc
   have HS:Hid (rkT rs (k + 1)=rkT rs k++[ckV rs[k]]++lkT rs rs[k] rs.length) := by show _=_;rw [rkT_succ rs hlt,lkT_all];simp
   have HN := fun j (h:j < rs.length)=>lkT_succ rs rs[k] h
   generalize rs[k]=r at hcell HS HN
   have hlt2:(k:Int) < (rs.length:Int) := by omega
   have KC := fun U=>implCK_is r U
   generalize rkT rs k=ks at hown HS hks
   subst ea
   clear hc HL
   go_wp2_with fail
   refine (KC _).mono ?_
   rintro en w1 ⟨rfl,rfl⟩
   clear KC hcell
   generalize ckV r=x at HS
   go_wp2_with (first | (at_builtin;refine wpList_append_own _ rfl _ _ 22 rfl w.heap.size 3 i0 (.int .i64 0) 1 8 Tryz.underlying22 hi hz0 hz1 hz2 rfl (by decide) _ _ _ rfl (hown.alloc _) ⟨wr.heap.size,0,none⟩ 1 1 [.int .i64 x] rfl rfl (cell_one_new _ _ _) ?c2 ?c3 ?c4 ?c5 ?_) | go_in)
   case c2=>first | rfl | (intro u hu;simp at hu;subst hu;rfl)
   case c3=>unfold maxLen;omega
   case c4=>omega
   case c5=>have := hbel.size;simp;omega
   intro v' w2 hown' hgrow _
   have hb3 := below_app hbel (Nat.le_refl _) hown hgrow
   obtain ⟨na,nc,rfl,_⟩ := own_shape hown'
   have ho1:w2.ownsRow w.heap.size 3 1 (.slice na (ks++[x]++lkT rs r 0).length nc) (ks++[x]++lkT rs r 0).length (intV (ks++[x]++lkT rs r 0)) := by
    have e0:ks++[x]++lkT rs r 0=ks++[x] := by unfold lkT;simp
    rw [e0,List.length_append]
    unfold intV
    rw [List.map_append]
    exact hown'
   have HV0:Hid (Value.slice na (ks.length + 1) nc=.slice na (ks++[x]++lkT rs r 0).length nc) := by
    have e0:ks++[x]++lkT rs r 0=ks++[x] := by unfold lkT;simp
    show _=_
    rw [e0,List.length_append]
    rfl
   clear hown hown' hgrow hbel
   have hks2:(ks++[x]).length≤4 * k + 1 := by rw [List.length_append,List.length_singleton];omega
   generalize ks++[x]=zs at HS ho1 HV0 hks2
   go_wp2
   go_loopw [3,21] (fun kv iv wq=>∃ (j:Nat) (ka:Option Addr) (kc:Nat),j≤rs.length∧iv=.int .i64 j∧kv=.slice ka (zs++lkT rs r j).length kc∧wq.ownsRow w.heap.size 3 1 (.slice ka (zs++lkT rs r j).length kc) (zs++lkT rs r j).length (intV (zs++lkT rs r j))∧Below w.heap.size w wq) (fun _ iv _=>rs.length - (intOf iv).toNat)
   case atStart=>exact ⟨0,na,nc,by omega,rfl,HV0.out,ho1,hb3⟩
   case round =>
    clear ho1 hb3 HV0
    obtain ⟨j,ja,jc,hj,rfl,rfl,hown,hbel⟩ := hrel
    by_cases hjl:j < rs.length
    ·obtain ⟨b2,o2,ea2,l2,hc2⟩ := hr j hjl
     simp only [Option.some.injEq,Addr.mk.injEq,and_true] at ea2
     obtain ⟨rfl,rfl⟩ := ea2
     have hcell := (hbel.cell (p := ⟨b1,o1 + j,none⟩) l2).trans hc2
     have HT := HN j hjl
     have hl3 := lkT_len rs r j
     have hq3:(zs++lkT rs r j).length≤4 * k + 1 + j := by rw [List.length_append];omega
     generalize rs[j]=s at hcell HT
     have hjl2:(j:Int) < (rs.length:Int) := by omega
     by_cases e:r=s
     ·have q:(r == s)=true := beq_iff_eq.2 e
      have HR:Hid (∃ (j':Nat) (ka':Option Addr) (kc':Nat),j'≤rs.length∧Value.int .i64 ((j:Int) + 1)=.int .i64 j'∧Value.slice ja (zs++lkT rs r j).length jc=.slice ka' (zs++lkT rs r j').length kc'∧wr.ownsRow w.heap.size 3 1 (.slice ka' (zs++lkT rs r j').length kc') (zs++lkT rs r j').length (intV (zs++lkT rs r j'))∧Below w.heap.size w wr) := by
       rw [if_pos e,List.append_nil] at HT
       exact ⟨j + 1,ja,jc,by omega,by go_num,by rw [HT],by rw [HT];exact hown,hbel⟩
      subst e
      clear HT HN hown hbel HS hc2
      go_wp2
      go_roundw
      case rel=>exact HR.out
      case measure=>simp [intOf];omega
     ·have q:(r == s)=false := beq_eq_false_iff_ne.2 e
      have HT2:Hid (lkT rs r (j + 1)=lkT rs r j++[lkV r s]) := by show _=_;rw [HT,if_neg e]
      have q2:(r != s)=true := by simp [e]
      have KC := fun U=>implLK_is r s U
      have HT3:Hid (zs++lkT rs r (j + 1)=zs++lkT rs r j++[lkV r s]) := by show _=_;rw [HT2.out,List.append_assoc]
      generalize zs++lkT rs r j=ys at hown hq3 HT3
      generalize lkV r s=x at KC HT3
      clear HT HT2 HN HS hc2 e
      go_wp2_with fail
      refine (KC _).mono ?_
      rintro en w1 ⟨rfl,rfl⟩
      clear KC hcell
      go_wp2_with (first | (at_builtin;refine wpList_append_own _ rfl _ _ 22 rfl w.heap.size 3 i0 (.int .i64 0) 1 8 Tryz.underlying22 hi hz0 hz1 hz2 rfl (by decide) _ _ _ rfl (hown.alloc _) ⟨wr.heap.size,0,none⟩ 1 1 [.int .i64 x] rfl rfl (cell_one_new _ _ _) ?c2 ?c3 ?c4 ?c5 ?_) | go_in)
      case c2=>first | rfl | (intro u hu;simp at hu;subst hu;rfl)
      case c3=>unfold maxLen;omega
      case c4=>omega
      case c5=>have := hbel.size;simp;omega
      intro v' w2 hown' hgrow _
      have hb3 := below_app hbel (Nat.le_refl _) hown hgrow
      obtain ⟨na,nc,rfl,_⟩ := own_shape hown'
      have HR:Hid (∃ (j':Nat) (ka':Option Addr) (kc':Nat),j'≤rs.length∧Value.int .i64 ((j:Int) + 1)=.int .i64 j'∧Value.slice na (ys.length + 1) nc=.slice ka' (zs++lkT rs r j').length kc'∧w2.ownsRow w.heap.size 3 1 (.slice ka' (zs++lkT rs r j').length kc') (zs++lkT rs r j').length (intV (zs++lkT rs r j'))∧Below w.heap.size w w2) := by
       refine ⟨j + 1,na,nc,by omega,by go_num,?_,?_,hb3⟩
       ·rw [HT3.out,List.length_append];rfl
       ·rw [HT3.out,List.length_append];unfold intV;rw [List.map_append];exact hown'
      clear hown hown' hgrow hbel hb3 HT3
      go_wp2
      go_roundw
      case rel=>exact HR.out
      case measure=>simp [intOf];omega
    ·have hjl2:¬ (j:Int) < (rs.length:Int) := by omega
     obtain rfl:j=rs.length := by omega
     have hl3 := lkT_len rs r rs.length
     have HR:Hid (∃ (k':Nat) (ka':Option Addr) (kc':Nat),k'≤rs.length∧Value.int .i64 ((k:Int) + 1)=.int .i64 k'∧Value.slice ja (zs++lkT rs r rs.length).length jc=.slice ka' (rkT rs k').length kc'∧Hid ((rkT rs k').length≤4 * k')∧wr.ownsRow w.heap.size 3 1 (.slice ka' (rkT rs k').length kc') (rkT rs k').length (intV (rkT rs k'))∧Below w.heap.size w wr) := by
      refine ⟨k + 1,ja,jc,by omega,by go_num,by rw [HS.out],?_,by rw [HS.out];exact hown,hbel⟩
      show _≤_
      rw [HS.out,List.length_append]
      omega
     clear HS HN hown hbel
     go_wp2
     go_roundw
     case rel=>exact HR.out
     case measure=>simp [intOf];omega
  ·have hlt2:¬ (k:Int) < (rs.length:Int) := by omega
   obtain rfl:k=rs.length := by omega
   rw [rkT_all] at hown HL hks
   have HV:Hid (Value.slice ka (rkT rs rs.length).length kc=.slice ka (rkL rs).length kc) := by show _=_;rw [rkT_all]
   clear hr HL hks
   go_wp2
   go_ret
   exact ⟨ka,kc,congrArg Ending.returned HV.out,hown,hbel⟩
set_option maxRecDepth 100000 in
theorem sk_is (s:Int) (w:World):Calls Tryz.prog 144 #[.int .i64 s] w fun e w'=>e=.returned (.int .i64 (skV s))∧w=w' := by
 by_cases h:btw s 0 2=true
 ·have h' := (btw_iff _ _ _).1 h
  have HV:Hid (skV s=pkV (3 + s)) := by show _=_;unfold skV;rw [if_pos h]
  have K1 := serv_is s w
  rw [h] at K1
  clear h
  go_enter Tryz.func144,Tryz.ntmps144
  go_wp2_with fail
  refine K1.mono ?_
  rintro e w1 ⟨rfl,rfl⟩
  clear K1
  go_wp2_with fail
  refine (implPK_is (3 + s) _).mono ?_
  rintro e w1 ⟨rfl,rfl⟩
  go_wp2
  go_ret
  exact ⟨by rw [HV.out];rfl,rfl⟩
 ·rw [Bool.not_eq_true] at h
  have HV:Hid (skV s=0) := by show _=_;unfold skV;rw [h];rfl
  have K1 := serv_is s w
  rw [h] at K1
  clear h
  go_enter Tryz.func144,Tryz.ntmps144
  go_wp2_with fail
  refine K1.mono ?_
  rintro e w1 ⟨rfl,rfl⟩
  clear K1
  go_wp2
  go_ret
  exact ⟨by rw [HV.out];rfl,rfl⟩
def cnT (c:Cf) (p:TQ) (k:Nat):List Int := rkL (rlP c p)++[pkV (clQ p),skV (seQ p)]++((viQ p).take k).map skV
theorem cnT_succ (c:Cf) (p:TQ) {k:Nat} (h:k < (viQ p).length):cnT c p (k + 1)=cnT c p k++[skV (viQ p)[k]] := by
 unfold cnT
 rw [List.take_succ_eq_append_getElem h,List.map_append]
 simp
theorem cnT_all (c:Cf) (p:TQ):cnT c p (viQ p).length=cnL c p := by unfold cnT cnL;rw [List.take_length]
theorem rlP_len (c:Cf) (p:TQ):(rlP c p).length≤3 := Nat.le_trans (List.length_filter_le _ _) (by rw [r3_len];exact Nat.le_refl _)
theorem grown_kept {B:Nat} {w w1 w2:World} {e:TypeId} {size n:Nat} {v:Value} {xs:List Value} (hbel:Below B w w1) (hB:B≤w.heap.size) (h:w1.ownsRow B e size v n xs) (hg:w1.grownBy w2 v.ownBlock):Below B w w2 :=
 hbel.grown hg (Nat.le_trans hB hbel.size) (fun k hk=>(h.lt k hk).1)
set_option maxRecDepth 100000 in
set_option maxHeartbeats 6400000 in
theorem implConcerns_is (c:Cf) (p:TQ) (w:World) (C:CfAt c w) (K:CfOk c) (hd:DpQ w p) (hc:confB c=true) (hs:btw (seQ p) 0 2=true) (hcl:btw (clQ p) 0 5=true) (hpl:(paQ p).length≤6) (hvl:(viQ p).length≤4) :
  Calls Tryz.prog 95 #[c.val,vQ p] w fun e w'=>∃ a cap,e=.returned (.slice a (riL (cnL c p)).length cap)∧w'.ownsRow w.heap.size 3 1 (.slice a (riL (cnL c p)).length cap) (riL (cnL c p)).length (intV (riL (cnL c p)))∧Below w.heap.size w w' := by
 obtain ⟨i0,hi,hz0,hz1,hz2⟩ := info_parts infoInt3
 obtain ⟨ic,hic,hics⟩ := info_F
 obtain ⟨iq,hiq,hiqs⟩ := info_Q
 obtain ⟨V,hV⟩:∃ V,(w.alloc (.cells #[.slice c.ua c.U.length c.uc,.slice c.sa c.S.length c.sc,.slice c.la c.L.length c.lc,.slice c.xa c.X.length c.xc,.int .i64 c.k] 40)).alloc (.cells #[.int .i64 p.1,.int .i64 p.2.1,.int .i64 p.2.2.1,.int .i64 p.2.2.2.1,.int .i64 p.2.2.2.2.1,.int .i64 p.2.2.2.2.2.1.1,.int .i64 p.2.2.2.2.2.1.2.1,.int .i64 p.2.2.2.2.2.1.2.2,.int .i64 p.2.2.2.2.2.2.1.1,.int .i64 p.2.2.2.2.2.2.1.2.1,.int .i64 p.2.2.2.2.2.2.1.2.2,.slice p.2.2.2.2.2.2.2.1.1 p.2.2.2.2.2.2.2.1.2.2.length p.2.2.2.2.2.2.2.1.2.1,.slice p.2.2.2.2.2.2.2.2.1.1 p.2.2.2.2.2.2.2.2.1.2.2.length p.2.2.2.2.2.2.2.2.1.2.1,.int .i64 p.2.2.2.2.2.2.2.2.2.1,.string p.2.2.2.2.2.2.2.2.2.2] 82)=V := ⟨_,rfl⟩
 have BC:Below w.heap.size w V := by rw [← hV];exact ((Below.refl _ _).alloc (Nat.le_refl _) _).alloc (by simp) _
 have TC:Blk w.heap.size [.slice c.ua c.U.length c.uc,.slice c.sa c.S.length c.sc,.slice c.la c.L.length c.lc,.slice c.xa c.X.length c.xc,.int .i64 c.k] V := by rw [← hV];exact (Blk.new _ _ _).alloc (by simp) _
 have TQ:Blk (w.heap.size + 1) [.int .i64 p.1,.int .i64 p.2.1,.int .i64 p.2.2.1,.int .i64 p.2.2.2.1,.int .i64 p.2.2.2.2.1,.int .i64 p.2.2.2.2.2.1.1,.int .i64 p.2.2.2.2.2.1.2.1,.int .i64 p.2.2.2.2.2.1.2.2,.int .i64 p.2.2.2.2.2.2.1.1,.int .i64 p.2.2.2.2.2.2.1.2.1,.int .i64 p.2.2.2.2.2.2.1.2.2,.slice p.2.2.2.2.2.2.2.1.1 p.2.2.2.2.2.2.2.1.2.2.length p.2.2.2.2.2.2.2.1.2.1,.slice p.2.2.2.2.2.2.2.2.1.1 p.2.2.2.2.2.2.2.2.1.2.2.length p.2.2.2.2.2.2.2.2.1.2.1,.int .i64 p.2.2.2.2.2.2.2.2.2.1,.string p.2.2.2.2.2.2.2.2.2.2] V := by rw [← hV];have := Blk.new (w.alloc (.cells #[.slice c.ua c.U.length c.uc,.slice c.sa c.S.length c.sc,.slice c.la c.L.length c.lc,.slice c.xa c.X.length c.xc,.int .i64 c.k] 40)) #[.int .i64 p.1,.int .i64 p.2.1,.int .i64 p.2.2.1,.int .i64 p.2.2.2.1,.int .i64 p.2.2.2.2.1,.int .i64 p.2.2.2.2.2.1.1,.int .i64 p.2.2.2.2.2.1.2.1,.int .i64 p.2.2.2.2.2.1.2.2,.int .i64 p.2.2.2.2.2.2.1.1,.int .i64 p.2.2.2.2.2.2.1.2.1,.int .i64 p.2.2.2.2.2.2.1.2.2,.slice p.2.2.2.2.2.2.2.1.1 p.2.2.2.2.2.2.2.1.2.2.length p.2.2.2.2.2.2.2.1.2.1,.slice p.2.2.2.2.2.2.2.2.1.1 p.2.2.2.2.2.2.2.2.1.2.2.length p.2.2.2.2.2.2.2.2.1.2.1,.int .i64 p.2.2.2.2.2.2.2.2.2.1,.string p.2.2.2.2.2.2.2.2.2.2] 82;simpa using this
 have hs2 := (btw_iff _ _ _).1 hs
 have K0 := cfRight_is c V (C.later BC) K
 rw [hc] at K0
 have KS := fun U=>serv_is (seQ p) U
 simp only [hs] at KS
 have KP := fun U=>prin_is (clQ p) U
 simp only [hcl] at KP
 have d0 := TC.at 0 rfl
 have d1 := TC.at 1 rfl
 have d2 := TC.at 2 rfl
 have d3 := TC.at 3 rfl
 have d4 := TC.at 4 rfl
 go_enter Tryz.func95,Tryz.ntmps95
 go_wp2_with fail
 try rw [hV]
 refine K0.mono ?_
 clear hV d0 d1 d2 d3 d4 K0 hcl hs
 rintro en v1 ⟨rfl,hb⟩
 replace TC := TC.later hb TC.lt
 replace TQ := TQ.later hb TQ.lt
 replace BC := BC.trans (hb.mono BC.size)
 clear hb V
 have e0 := TQ.at 0 rfl
 have e1 := TQ.at 1 rfl
 go_wp2_with fail
 refine (KS _).mono ?_
 rintro en v2 ⟨rfl,rfl⟩
 clear KS
 go_wp2_with fail
 refine (KP _).mono ?_
 rintro en v2 ⟨rfl,rfl⟩
 clear KP e0 e1
 obtain ⟨V,hV⟩:∃ V,v1=V := ⟨_,rfl⟩
 subst hV
 have lC:w.heap.size < v1.drew.heap.size := TC.lt
 have lQ:w.heap.size + 1 < v1.drew.heap.size := TQ.lt
 have K1 := realmsOf_is c p v1.drew ((C.later BC).later (Below.refl _ _).drew) K ((hd.later BC).later (Below.refl _ _).drew) (by omega) (by omega)
 go_wp2_with fail
 refine wp_region_held_drew (S := (fun U:World=>Blk w.heap.size [.slice c.ua c.U.length c.uc,.slice c.sa c.S.length c.sc,.slice c.la c.L.length c.lc,.slice c.xa c.X.length c.xc,.int .i64 c.k] U∧Blk (w.heap.size + 1) [.int .i64 p.1,.int .i64 p.2.1,.int .i64 p.2.2.1,.int .i64 p.2.2.2.1,.int .i64 p.2.2.2.2.1,.int .i64 p.2.2.2.2.2.1.1,.int .i64 p.2.2.2.2.2.1.2.1,.int .i64 p.2.2.2.2.2.1.2.2,.int .i64 p.2.2.2.2.2.2.1.1,.int .i64 p.2.2.2.2.2.2.1.2.1,.int .i64 p.2.2.2.2.2.2.1.2.2,.slice p.2.2.2.2.2.2.2.1.1 p.2.2.2.2.2.2.2.1.2.2.length p.2.2.2.2.2.2.2.1.2.1,.slice p.2.2.2.2.2.2.2.2.1.1 p.2.2.2.2.2.2.2.2.1.2.2.length p.2.2.2.2.2.2.2.2.1.2.1,.int .i64 p.2.2.2.2.2.2.2.2.2.1,.string p.2.2.2.2.2.2.2.2.2.2] U)) (by kernel_rfl) ⟨TC.drew,TQ.drew⟩ (fun hHeld=>?_)
 refine take_one 0 23 (v := .agg #[.slice c.ua c.U.length c.uc,.slice c.sa c.S.length c.sc,.slice c.la c.L.length c.lc,.slice c.xa c.X.length c.xc,.int .i64 c.k]) rfl rfl (by kernel_rfl) (by kernel_rfl) (by kernel_rfl) (fun _ _ _ h=>h) (Or.inl ⟨by rfl,?_⟩) hHeld ?_
 ·intro w' hSw;(try dsimp only at hSw);obtain ⟨bC,bQ⟩ := hSw;have hl := ldB (P := Tryz.prog) 40 ic hic (Tryz.isAgg40) (o := 0) [.slice c.ua c.U.length c.uc,.slice c.sa c.S.length c.sc,.slice c.la c.L.length c.lc,.slice c.xa c.X.length c.xc,.int .i64 c.k] bC hics.symm rfl;exact exec_ld 40 _ rfl rfl hl
 try simp only [Act.put,List.setIfInBounds_toArray,List.set_cons_zero,List.set_cons_succ]
 refine take_one 1 24 (v := .agg #[.int .i64 p.1,.int .i64 p.2.1,.int .i64 p.2.2.1,.int .i64 p.2.2.2.1,.int .i64 p.2.2.2.2.1,.int .i64 p.2.2.2.2.2.1.1,.int .i64 p.2.2.2.2.2.1.2.1,.int .i64 p.2.2.2.2.2.1.2.2,.int .i64 p.2.2.2.2.2.2.1.1,.int .i64 p.2.2.2.2.2.2.1.2.1,.int .i64 p.2.2.2.2.2.2.1.2.2,.slice p.2.2.2.2.2.2.2.1.1 p.2.2.2.2.2.2.2.1.2.2.length p.2.2.2.2.2.2.2.1.2.1,.slice p.2.2.2.2.2.2.2.2.1.1 p.2.2.2.2.2.2.2.2.1.2.2.length p.2.2.2.2.2.2.2.2.1.2.1,.int .i64 p.2.2.2.2.2.2.2.2.2.1,.string p.2.2.2.2.2.2.2.2.2.2]) rfl rfl (by kernel_rfl) (by kernel_rfl) (by kernel_rfl) (fun _ _ _ h=>h) (Or.inl ⟨by rfl,?_⟩) hHeld ?_
 ·intro w' hSw;(try dsimp only at hSw);obtain ⟨bC,bQ⟩ := hSw;have hl := ldB (P := Tryz.prog) 82 iq hiq (Tryz.isAgg82) (o := 0) [.int .i64 p.1,.int .i64 p.2.1,.int .i64 p.2.2.1,.int .i64 p.2.2.2.1,.int .i64 p.2.2.2.2.1,.int .i64 p.2.2.2.2.2.1.1,.int .i64 p.2.2.2.2.2.1.2.1,.int .i64 p.2.2.2.2.2.1.2.2,.int .i64 p.2.2.2.2.2.2.1.1,.int .i64 p.2.2.2.2.2.2.1.2.1,.int .i64 p.2.2.2.2.2.2.1.2.2,.slice p.2.2.2.2.2.2.2.1.1 p.2.2.2.2.2.2.2.1.2.2.length p.2.2.2.2.2.2.2.1.2.1,.slice p.2.2.2.2.2.2.2.2.1.1 p.2.2.2.2.2.2.2.2.1.2.2.length p.2.2.2.2.2.2.2.2.1.2.1,.int .i64 p.2.2.2.2.2.2.2.2.2.1,.string p.2.2.2.2.2.2.2.2.2.2] bQ hiqs.symm rfl;exact exec_ld 82 _ rfl rfl hl
 try simp only [Act.put,List.setIfInBounds_toArray,List.set_cons_zero,List.set_cons_succ]
 refine take_one 4 27 (v := ?_) rfl rfl (by kernel_rfl) (by kernel_rfl) (by kernel_rfl) (fun _ _ _ h=>h) (Or.inl ⟨by rfl,?_⟩) hHeld ?_
 rotate_left
 ·intro w' hSw;(try dsimp only at hSw);obtain ⟨bC,bQ⟩ := hSw;have q0 := bQ.at 0 rfl;have q1 := bQ.at 1 rfl;go_simp;try with_reducible rfl
 try simp only [Act.put,List.setIfInBounds_toArray,List.set_cons_zero,List.set_cons_succ]
 refine take_one 5 28 (v := ?_) rfl rfl (by kernel_rfl) (by kernel_rfl) (by kernel_rfl) (fun _ _ _ h=>h) (Or.inl ⟨by rfl,?_⟩) hHeld ?_
 rotate_left
 ·intro w' hSw;(try dsimp only at hSw);obtain ⟨bC,bQ⟩ := hSw;have q0 := bQ.at 0 rfl;have q1 := bQ.at 1 rfl;go_simp;try with_reducible rfl
 try simp only [Act.put,List.setIfInBounds_toArray,List.set_cons_zero,List.set_cons_succ]
 refine take_one 7 30 (v := ?_) rfl rfl (by kernel_rfl) (by kernel_rfl) (by kernel_rfl) (fun _ _ _ h=>h) (Or.inl ⟨by rfl,?_⟩) hHeld ?_
 rotate_left
 ·intro w' hSw;(try dsimp only at hSw);obtain ⟨bC,bQ⟩ := hSw;have q0 := bQ.at 0 rfl;have q1 := bQ.at 1 rfl;go_simp;try with_reducible rfl
 try simp only [Act.put,List.setIfInBounds_toArray,List.set_cons_zero,List.set_cons_succ]
 refine take_one 8 31 (v := ?_) rfl rfl (by kernel_rfl) (by kernel_rfl) (by kernel_rfl) (fun _ _ _ h=>h) (Or.inl ⟨by rfl,?_⟩) hHeld ?_
 rotate_left
 ·intro w' hSw;(try dsimp only at hSw);obtain ⟨bC,bQ⟩ := hSw;have q0 := bQ.at 0 rfl;have q1 := bQ.at 1 rfl;go_simp;try with_reducible rfl
 try simp only [Act.put,List.setIfInBounds_toArray,List.set_cons_zero,List.set_cons_succ]
 refine wpAnyH_ready (rs := [2]) (by kernel_rfl) (by simp) ?_
 refine AllReadyH.cons (i := 2) rfl (fun K hK=>?_) AllReadyH.nil
 go_simp
 refine (K1).mono ?_
 rintro en u1 ⟨ra,rca,rfl,ho1,h1⟩
 clear K1
 go_wp2_with fail
 refine hK.out _ _ ⟨TC.drew.later h1 lC,TQ.drew.later h1 lQ⟩ (fun hHeld2=>?_)
 clear hK K hHeld
 have hHeld := hHeld2
 clear hHeld2
 try simp only [Act.put,List.setIfInBounds_toArray,List.set_cons_zero,List.set_cons_succ]
 refine wpAnyH_ready (rs := [3]) (by kernel_rfl) (by simp) ?_
 refine AllReadyH.cons (i := 3) rfl (fun K hK=>?_) AllReadyH.nil
 go_simp
 refine (realmKeys_is ra rca (rlP c p) u1 (irow_of ho1) (rlP_len c p)).mono ?_
 rintro en u2 ⟨ka,kc,rfl,ho2,h2⟩
 clear ho1
 go_wp2_with fail
 refine hK.out _ _ ⟨TC.drew.later (h1.trans (h2.mono h1.size)) lC,TQ.drew.later (h1.trans (h2.mono h1.size)) lQ⟩ (fun hHeld2=>?_)
 clear hK K hHeld
 have hHeld := hHeld2
 clear hHeld2
 try simp only [Act.put,List.setIfInBounds_toArray,List.set_cons_zero,List.set_cons_succ]
 refine wpAnyH_ready (rs := [6]) (by kernel_rfl) (by simp) ?_
 refine AllReadyH.cons (i := 6) rfl (fun K hK=>?_) AllReadyH.nil
 go_simp
 refine (implPK_is (clQ p) u2).mono ?_
 rintro en u3 ⟨rfl,rfl⟩
 go_wp2_with fail
 refine hK.out _ _ ⟨TC.drew.later (h1.trans (h2.mono h1.size)) lC,TQ.drew.later (h1.trans (h2.mono h1.size)) lQ⟩ (fun hHeld2=>?_)
 clear hK K hHeld
 have hHeld := hHeld2
 clear hHeld2
 try simp only [Act.put,List.setIfInBounds_toArray,List.set_cons_zero,List.set_cons_succ]
 refine wpAnyH_ready (rs := [9]) (by kernel_rfl) (by simp) ?_
 refine AllReadyH.cons (i := 9) rfl (fun K hK=>?_) AllReadyH.nil
 go_simp
 refine (sk_is (seQ p) u2).mono ?_
 rintro en u3 ⟨rfl,rfl⟩
 go_wp2_with fail
 refine hK.out _ _ ⟨TC.drew.later (h1.trans (h2.mono h1.size)) lC,TQ.drew.later (h1.trans (h2.mono h1.size)) lQ⟩ (fun hHeld2=>?_)
 clear hK K hHeld
 have hHeld := hHeld2
 clear hHeld2
 try simp only [Act.put,List.setIfInBounds_toArray,List.set_cons_zero,List.set_cons_succ]
 have B2:Below v1.drew.heap.size v1.drew u2 := h1.trans (h2.mono h1.size)
 have TC2 := TC.drew.later B2 lC
 have TQ2 := TQ.drew.later B2 lQ
 have bA:Below u2.heap.size u2 (u2.alloc (.cells #[.int .i64 (pkV (clQ p)),.int .i64 (skV (seQ p))] 3)) := (Below.refl _ _).alloc (Nat.le_refl _) _
 have hrw:RowAt (Value.int .i64) (u2.alloc (.cells #[.int .i64 (pkV (clQ p)),.int .i64 (skV (seQ p))] 3)) (some ⟨u2.heap.size,0,none⟩) [pkV (clQ p),skV (seQ p)] := row_new (Value.int .i64) u2 [pkV (clQ p),skV (seQ p)] 3
 refine wpAnyH_ready (rs := [10]) (by kernel_rfl) (by simp) ?_
 refine AllReadyH.cons (i := 10) rfl (fun K hK=>?_) AllReadyH.nil
 go_simp
 refine hK.out _ _ ⟨TC2.later bA TC2.lt,TQ2.later bA TQ2.lt⟩ (fun hHeld2=>?_)
 clear hK K hHeld
 have hHeld := hHeld2
 clear hHeld2
 try simp only [Act.put,List.setIfInBounds_toArray,List.set_cons_zero,List.set_cons_succ]
 have hrl := rkL_len (rlP c p) (rlP_len c p)
 have ho3 := own_later ho2 bA
 generalize hLe:rkL (rlP c p)=L at ho2 ho3 hrl
 have HLe:Hid (rkL (rlP c p)=L) := hLe
 clear hLe
 refine wpAnyH_ready (rs := [11]) (by kernel_rfl) (by simp) ?_
 refine AllReadyH.cons (i := 11) rfl (fun K hK=>?_) AllReadyH.nil
 refine step_own_at 34 rfl rfl _ _ 22 rfl u1.heap.size 3 i0 (.int .i64 0) 1 8 Tryz.underlying22 hi hz0 hz1 hz2 rfl (by decide) (.slice ka L.length kc) L.length (intV L) rfl ho3 ⟨u2.heap.size,0,none⟩ 2 2 [.int .i64 (pkV (clQ p)),.int .i64 (skV (seQ p))] rfl rfl (news_row hrw _ rfl) (by intro u hu;simp at hu;rcases hu with rfl | rfl <;> rfl) (by unfold maxLen;omega) (by omega) (by have := h2.size;simp;omega) ?_
 intro v' u4 hown' hgrow _
 have b4:Below u1.heap.size u1 u4 := grown_kept (h2.trans (bA.mono h2.size)) (Nat.le_refl _) ho3 hgrow
 refine hK.out _ _ ⟨(TC.drew.later h1 lC).later b4 (Nat.lt_of_lt_of_le lC h1.size),(TQ.drew.later h1 lQ).later b4 (Nat.lt_of_lt_of_le lQ h1.size)⟩ (fun hHeld2=>?_)
 clear hK K hHeld
 have hHeld := hHeld2
 clear hHeld2
 try simp only [Act.put,List.setIfInBounds_toArray,List.set_cons_zero,List.set_cons_succ]
 obtain ⟨na,nc,rfl,_⟩ := own_shape hown'
 refine take_one 12 5 (v := ?_) rfl rfl (by kernel_rfl) (by kernel_rfl) (by kernel_rfl) (fun _ _ _ h=>h) (Or.inl ⟨by rfl,?_⟩) hHeld ?_
 rotate_left
 ·intro w' hSw;(try dsimp only at hSw);obtain ⟨bC,bQ⟩ := hSw;have q0 := bQ.at 0 rfl;have q1 := bQ.at 1 rfl;go_simp;try with_reducible rfl
 try simp only [Act.put,List.setIfInBounds_toArray,List.set_cons_zero,List.set_cons_succ]
 refine wpAnyH_done (by kernel_rfl) ?_ _
 have TQ1 := TQ.drew.later h1 lQ
 have B1:Below w.heap.size w u1 := BC.trans (((Below.refl _ v1).drew.trans h1).mono BC.size)
 have hdu:RpI u1 p.2.2.2.2.2.2.2.2.1 := (hd.later B1).2
 have HC0:Hid (cnT c p 0=L++[pkV (clQ p),skV (seQ p)]) := by show _=_;unfold cnT;rw [HLe.out];simp
 have hl0:(cnT c p 0).length=L.length + 2 := by rw [HC0.out];simp
 have ho4:u4.ownsRow u1.heap.size 3 1 (.slice na (cnT c p 0).length nc) (cnT c p 0).length (intV (cnT c p 0)) := by
  rw [hl0,HC0.out]
  unfold intV
  rw [List.map_append]
  exact hown'
 have HV0:Hid (Value.slice na (L.length + 2) nc=.slice na (cnT c p 0).length nc) := by show _=_;rw [hl0]
 have HCL:Hid (∀ k,(cnT c p k).length≤20) := by
  intro k
  unfold cnT
  rw [HLe.out,List.length_append,List.length_append,List.length_map,List.length_take]
  simp only [List.length_cons,List.length_nil]
  have := hvl
  omega
 have f8 := (TQ1.later b4 TQ1.lt).at 12 rfl
 obtain ⟨va,hva⟩:∃ va,p.2.2.2.2.2.2.2.2.1.1=va := ⟨_,rfl⟩
 have hdu2:RowAt (Value.int .i64) u1 va (viQ p) := by rw [← hva];exact hdu
 rw [hva] at f8
 clear hva hdu
 clear hHeld hown' hgrow ho3 ho2 bA hrw B2 TC2 TQ2 h2 hrl HLe HC0 hl0 TC lC TQ lQ h1 BC C K hd hpl hc hs2
 go_wp2
 go_loopw [5,7,38] (fun kv _ iv wr=>∃ (k:Nat) (ka:Option Addr) (kc:Nat),k≤(viQ p).length∧iv=.int .i64 k∧kv=.slice ka (cnT c p k).length kc∧wr.ownsRow u1.heap.size 3 1 (.slice ka (cnT c p k).length kc) (cnT c p k).length (intV (cnT c p k))∧Below u1.heap.size u1 wr) (fun _ _ iv _=>(viQ p).length - (intOf iv).toNat)
 case atStart=>exact ⟨0,na,nc,by omega,rfl,HV0.out,ho4,b4⟩
 case round =>
  clear ho4 HV0 f8 b4
  obtain ⟨k,ja,jc,hk,rfl,rfl,hown,hbel⟩ := hrel
  have hll := HCL.out k
  by_cases hlt:k < (viQ p).length
  ·obtain ⟨b2,o2,rfl,l2,hc2⟩ := hdu2 k hlt
   have hcell := (hbel.cell (p := ⟨b2,o2 + k,none⟩) l2).trans hc2
   have HS:Hid (cnT c p (k + 1)=cnT c p k++[skV (viQ p)[k]]) := cnT_succ c p hlt
   have hlt2:(k:Int) < ((viQ p).length:Int) := by omega
   clear hc2
   generalize (viQ p)[k]=s at hcell HS
   have KC := fun U=>sk_is s U
   generalize cnT c p k=ks at hown HS hll
   generalize skV s=x at KC HS
   go_wp2_with fail
   refine (KC _).mono ?_
   rintro en w1 ⟨rfl,rfl⟩
   clear KC hcell
   go_wp2_with (first | (at_builtin;refine wpList_append_own _ rfl _ _ 22 rfl u1.heap.size 3 i0 (.int .i64 0) 1 8 Tryz.underlying22 hi hz0 hz1 hz2 rfl (by decide) _ _ _ rfl (hown.alloc _) ⟨wr.heap.size,0,none⟩ 1 1 [.int .i64 x] rfl rfl (cell_one_new _ _ _) ?c2 ?c3 ?c4 ?c5 ?_) | go_in)
   case c2=>first | rfl | (intro u hu;simp at hu;subst hu;rfl)
   case c3=>unfold maxLen;omega
   case c4=>omega
   case c5=>have := hbel.size;simp;omega
   intro v' w2 hown' hgrow _
   have hb3 := below_app hbel (Nat.le_refl _) hown hgrow
   obtain ⟨na,nc,rfl,_⟩ := own_shape hown'
   have HR:Hid (∃ (k':Nat) (ka':Option Addr) (kc':Nat),k'≤(viQ p).length∧Value.int .i64 ((k:Int) + 1)=.int .i64 k'∧Value.slice na (ks.length + 1) nc=.slice ka' (cnT c p k').length kc'∧w2.ownsRow u1.heap.size 3 1 (.slice ka' (cnT c p k').length kc') (cnT c p k').length (intV (cnT c p k'))∧Below u1.heap.size u1 w2) := by
    refine ⟨k + 1,na,nc,by omega,by go_num,?_,?_,hb3⟩
    ·rw [HS.out,List.length_append];rfl
    ·rw [HS.out,List.length_append];unfold intV;rw [List.map_append];exact hown'
   clear hown hown' hgrow hbel hb3 HS HCL
   go_wp2
   go_roundw
   case rel=>exact HR.out
   case measure=>simp [intOf];omega
  ·have hlt2:¬ (k:Int) < ((viQ p).length:Int) := by omega
   obtain rfl:k=(viQ p).length := by omega
   rw [cnT_all] at hown hll
   have HV:Hid (Value.slice ja (cnT c p (viQ p).length).length jc=.slice ja (cnL c p).length jc) := by show _=_;rw [cnT_all]
   have KR := rising_is u1.heap.size ja jc (cnL c p) wr hown (by omega) hbel.size
   rw [← HV.out] at KR
   clear HCL HV hown hdu2
   go_wp2_with fail
   refine KR.mono ?_
   clear KR
   rintro en w6 ⟨ra6,rc6,rfl,ho6,hb6⟩
   have HB6:Hid (Below w.heap.size w w6) := B1.trans ((hbel.trans hb6).mono B1.size)
   replace ho6 := base_le ho6 B1.size
   clear hbel hb6
   go_wp2
   go_ret
   exact ⟨ra6,rc6,rfl,ho6,HB6.out⟩
end Go.Proofs.YtjcmbbnklfemcaaGreat.Nd
