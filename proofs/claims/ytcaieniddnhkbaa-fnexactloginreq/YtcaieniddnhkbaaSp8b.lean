/- Chapter 8: requests and replies of the model. -/
import Derived.Test.YtcaieniddnhkbaaSp8a
import Derived.Test.YtcaieniddnhkbaaShow
set_option linter.unusedVariables false
set_option maxRecDepth 100000
namespace Go.Proofs.Ytcaieniddnhkbaa
open Go Go.RowKit Own Var Term

set_option maxHeartbeats 6400000 in
theorem specLogin_is (p now nonce : Int) (w : World) : Calls Try.prog 5 #[.int .i64 p, .int .i64 now, .int .i64 nonce] w fun e w' => e = .returned (.string (lgT p now nonce)) ∧ Below w.heap.size w w' := by
  go_enter Try.func5, Try.ntmps5
  go_wp2_with fail
  refine (spec_prin p _).mono ?_
  rintro e w1 ⟨rfl, rfl⟩
  by_cases h0 : btw p 0 5 = true
  · rw [h0]
    go_wp2_with fail
    refine (spec_no now _).mono ?_
    rintro e w1 ⟨rfl, rfl⟩
    by_cases h1 : noB now = true
    · rw [h1]
      go_wp2
      go_ret
      exact ⟨by unfold lgT; rw [h0, h1]; rfl, Below.refl _ _⟩
    · rw [Bool.not_eq_true] at h1
      rw [h1]
      go_wp2_with fail
      refine (spec_no nonce _).mono ?_
      rintro e w1 ⟨rfl, rfl⟩
      by_cases h2 : noB nonce = true
      · rw [h2]
        go_wp2
        go_ret
        exact ⟨by unfold lgT; rw [h0, h1, h2]; rfl, Below.refl _ _⟩
      · rw [Bool.not_eq_true] at h2
        rw [h2]
        have B1 := (Below.refl w.heap.size w).alloc (Nat.le_refl _) (.cells #[.int .i64 1, .int .i64 p, .int .i64 nonce] 3)
        have HN := spec_nums (some ⟨w.heap.size, 0, none⟩) 3 [1, p, nonce] _ (row_new (Value.int .i64) w [1, p, nonce] 3) (by simp)
        go_wp2_with fail
        refine HN.mono ?_
        rintro en w2 ⟨rfl, hb2⟩
        have B2 := B1.trans (hb2.mono B1.size)
        clear HN B1 hb2
        go_wp2_with fail
        refine (specPK_is p _).mono ?_
        rintro en w3 ⟨rfl, rfl⟩
        have X3 := (Below.refl w2.heap.size w2).alloc (Nat.le_refl _) (.cells #[.int .i64 8, .int .i64 now] 3)
        have B3 := B2.trans (X3.mono B2.size)
        have HN := spec_nums (some ⟨w2.heap.size, 0, none⟩) 2 [8, now] _ (row_new (Value.int .i64) w2 [8, now] 3) (by simp)
        go_wp2_with fail
        refine HN.mono ?_
        rintro en w4 ⟨rfl, hb4⟩
        have B4 := B3.trans (hb4.mono B3.size)
        clear HN B3 hb4 X3 B2
        go_wp2_with fail
        refine (spec_seal (pkV p) (numsT [8, now]) _ (Nat.le_trans (listT_size _) (by omega))).mono ?_
        rintro en w5 ⟨rfl, hb5⟩
        have B5 := B4.trans (hb5.mono B4.size)
        clear B4 hb5
        have X6 := (Below.refl w5.heap.size w5).alloc (Nat.le_refl _) (.cells #[.string (numsT [1, p, nonce]), .string (sealT (pkV p) (numsT [8, now]))] 9)
        have B6 := B5.trans (X6.mono B5.size)
        have HL := spec_list (some ⟨w5.heap.size, 0, none⟩) 2 [numsT [1, p, nonce], sealT (pkV p) (numsT [8, now])] _ (row_new Value.string w5 [numsT [1, p, nonce], sealT (pkV p) (numsT [8, now])] 9) (by simp) (by intro x hx; simp only [List.mem_cons, List.not_mem_nil, or_false] at hx; rcases hx with rfl | rfl <;> first | exact Nat.le_trans (listT_size _) (by omega) | exact Nat.le_trans (sealT_size _ _) (by omega))
        go_wp2_with fail
        refine HL.mono ?_
        rintro en w7 ⟨rfl, hb7⟩
        have B7 := B6.trans (hb7.mono B6.size)
        clear HL B6 hb7 X6 B5
        go_wp2
        go_ret
        exact ⟨by unfold lgT; rw [h0, h1, h2]; rfl, B7⟩
  · rw [Bool.not_eq_true] at h0
    rw [h0]
    go_wp2
    go_ret
    exact ⟨by unfold lgT; rw [h0]; rfl, Below.refl _ _⟩
end Go.Proofs.Ytcaieniddnhkbaa
