/- The walk of the law on numbers, whole. -/
import Derived.Test.YtpidfofjjdjkdabDoorNumbers
import Derived.WalkKit
import Derived.WalkSpells
import Derived.WalkLawsBesides
set_option linter.unusedVariables false
namespace Go.Proofs.YtpidfofjjdjkdabDoor
open Go Go.RowKit

theorem hex_size (T : ByteArray) (h : T.size ≤ 1000) : (⟨(Hex.hexL T.data.toList).toArray⟩ : ByteArray).size ≤ 1048576 := by
  have e : (⟨(Hex.hexL T.data.toList).toArray⟩ : ByteArray).size = (Hex.hexL T.data.toList).length := by simp [ByteArray.size]
  have e2 : T.data.toList.length = T.size := rfl
  rw [e, Hex.hexL_len]
  omega
theorem ans_le (s : ByteArray) (n k : Nat) (h : Var.Ans s n k) : k ≤ s.size ∧ k ≤ 7 := by
  rcases h with ⟨_, rfl, _⟩ | ⟨_, h7, hs, _, _⟩
  · exact ⟨by omega, by omega⟩
  · exact ⟨hs, h7⟩

set_option maxRecDepth 100000 in
set_option maxHeartbeats 6400000 in
theorem walk_at (a : Option Addr) (len cap : Nat) (zs : List Int) (W : World) (hz : Draw.CodeAt W W.heap.size a len zs) (ht : Lib.TabIs Tryd.prog W "internal/strconv.uint64pow10" .u64 Lib.pow10Tab) :
    Calls Tryd.prog 3 #[.slice a len cap] W fun e w' => e = .returned (.bool true) ∧ Below W.heap.size W w' := by
  have hlen := hz.1
  have HZ : Hid (Draw.CodeAt W W.heap.size a len zs ∧ Lib.TabIs Tryd.prog W "internal/strconv.uint64pow10" .u64 Lib.pow10Tab) := ⟨hz, ht⟩
  clear hz ht
  obtain ⟨n0, n1⟩ := Draw.numV_bd zs len (Draw.newS zs len)
  obtain ⟨n, hn⟩ : ∃ n, Draw.drawN zs len = n := ⟨_, rfl⟩
  have hn' : Draw.numV zs len (Draw.newS zs len) = n := hn
  rw [hn'] at n0 n1
  have hT := Draw.drawT_size zs len
  have hR := Draw.drawR_size zs len
  obtain ⟨T, hTe⟩ : ∃ T, Draw.drawT zs len = T := ⟨_, rfl⟩
  obtain ⟨R, hRe⟩ : ∃ R, Draw.drawR zs len = R := ⟨_, rfl⟩
  rw [hTe] at hT
  rw [hRe] at hR
  have M := made n n1
  obtain ⟨V, hV⟩ : ∃ V, varOf n = V := ⟨_, rfl⟩
  obtain ⟨F, hF⟩ : ∃ F, fixedOf n 7 = F := ⟨_, rfl⟩
  rw [hV, hF] at M
  have E : Hid (Draw.drawN zs len = n ∧ Draw.drawT zs len = T ∧ Draw.drawR zs len = R ∧ varOf n = V ∧ fixedOf n 7 = F) := ⟨hn, hTe, hRe, hV, hF⟩
  have vs := M.v.2.1
  have fs := M.f.2.1
  have MM : Hid (Made n V F) := M
  have hcase : (n < 0 ∧ V.toList.isEmpty = true ∧ F.toList.isEmpty = true) ∨ ((0 ≤ n ∧ n ≤ 562949953421311) ∧ V.toList.isEmpty = false ∧ F.toList.isEmpty = false) ∨ ((562949953421311 < n ∧ n < 72057594037927936) ∧ V.toList.isEmpty = true ∧ F.toList.isEmpty = false) ∨ (72057594037927936 ≤ n ∧ V.toList.isEmpty = true ∧ F.toList.isEmpty = true) := by
    have v := M.v.1
    have f := M.f.1
    cases hve : V.toList.isEmpty <;> cases hfe : F.toList.isEmpty <;> simp only [hve, hfe, Bool.true_eq_false, false_iff, true_iff] at v f <;> simp <;> omega
  clear hn hn' hTe hRe hV hF M
  rcases hcase with ⟨c, vE, fE⟩ | ⟨c, vE, fE⟩ | ⟨c, vE, fE⟩ | ⟨c, vE, fE⟩
  all_goals
    go_enter Tryd.func3, Tryd.ntmps3
    go_wp2_with fail
    refine (big_go a len cap W hlen).mono ?_
    rintro e w0 ⟨rfl, rfl⟩
    go_wp2_with fail
    refine (Draw.drawN_go a len cap zs _ HZ.out.1).mono ?_
    rw [E.out.1]
    rintro e w1 ⟨rfl, b1⟩
    have B1 : Hid (Below W.heap.size W w1) := b1
    clear b1
    go_wp2_with fail
    refine (Draw.drawT_go a len cap zs _ (code_later HZ.out.1 B1.out)).mono ?_
    rw [E.out.2.1]
    rintro e w2 ⟨rfl, b2⟩
    have B2 : Hid (Below W.heap.size W w2) := B1.out.trans (b2.mono B1.out.size)
    clear b2 B1
    go_wp2_with fail
    refine (impl_var n w2).mono ?_
    rw [E.out.2.2.2.1]
    rintro e w3 ⟨rfl, b3⟩
    have B3 : Hid (Below W.heap.size W w3) := B2.out.trans (b3.mono B2.out.size)
    clear b3 B2
    go_wp2_with fail
    refine (impl_rv (V ++ T) w3 (by rw [ByteArray.size_append]; omega)).mono ?_
    rintro e w4 ⟨x, k, rfl, A, rfl⟩
    have HX : Hid (V.toList.isEmpty = false → (x : Int) = n ∧ k = V.size) := MM.out.v.2.2 T x k A
    clear A
    try (have hx := HX.out vE; have hx1 : ((x : Int) != n) = false := by rw [hx.1]; simp)
    try (have hx2 : ((k : Int) != (V.size : Int)) = false := by rw [hx.2]; simp)
    try clear hx
    go_wp2_with fail
    refine (impl_fx n 7 w4 n1).mono ?_
    rw [E.out.2.2.2.2]
    rintro e w5 ⟨rfl, b5⟩
    have B5 : Hid (Below W.heap.size W w5) := B3.out.trans (b5.mono B3.out.size)
    clear b5 B3
    go_wp2_with fail
    refine (rd_seven (F ++ T) n w5 (by rw [ByteArray.size_append]; omega) (F.toList.isEmpty = false) (fun hh => ⟨by rw [ByteArray.size_append]; have := (MM.out.f.2.2 hh).1; omega, (MM.out.f.2.2 hh).2 T⟩)).mono ?_
    rintro e w6 ⟨y, yb, rfl, hy, rfl⟩
    have HY : Hid (F.toList.isEmpty = false → (y = n ∧ yb = true) ∧ F.size = 7) := fun hh => ⟨hy hh, (MM.out.f.2.2 hh).1⟩
    clear hy
    try (have hh := HY.out fE; obtain ⟨⟨hy1, hy2⟩, hy3⟩ := hh; subst hy1; subst hy2)
    clear HY HX MM
    go_wp2_with fail
    refine (impl_dec _ w5 n0 n1 (tab_below HZ.out.2 B5.out)).mono ?_
    rintro e w7 ⟨rfl, b7⟩
    have B7 : Hid (Below W.heap.size W w7) := B5.out.trans (b7.mono B5.out.size)
    clear b7 B5
    go_wp2_with fail
    refine (rdec_dec _ w7 n0 n1).mono ?_
    rintro e w8 ⟨rfl, b8⟩
    have B8 : Hid (Below W.heap.size W w8) := B7.out.trans (b8.mono B7.out.size)
    clear b8 B7
    go_wp2_with fail
    all_goals
      refine (impl_hex T w8 (by omega)).mono ?_
      rintro e w9 ⟨rfl, b9⟩
      have B9 : Hid (Below W.heap.size W w9) := B8.out.trans (b9.mono B8.out.size)
      clear b9 B8
      go_wp2_with fail
      refine (impl_unhex _ w9 (hex_size T (by omega))).mono ?_
      rw [(unhex_hex T).1, (unhex_hex T).2]
      rintro e w10 ⟨rfl, b10⟩
      have B10 : Hid (Below W.heap.size W w10) := B9.out.trans (b10.mono B9.out.size)
      clear b10 B9
      go_wp2_with fail
      refine (Draw.drawR_go a len cap zs _ (code_later HZ.out.1 B10.out)).mono ?_
      rw [E.out.2.2.1]
      rintro e w11 ⟨rfl, b11⟩
      have B11 : Hid (Below W.heap.size W w11) := B10.out.trans (b11.mono B10.out.size)
      clear b11 B10
      go_wp2_with fail
      refine (impl_rv R w11 (by omega)).mono ?_
      rintro e w12 ⟨z, j, rfl, A, rfl⟩
      have HA : Hid (Var.Ans R z j) := A
      clear A
      by_cases hj : j = 0
      · have j0 : ((j : Int) == 0) = true := by simpa using hj
        clear hj
        go_wp2
        go_ret
        exact ⟨rfl, B11.out⟩
      · have j0 : ((j : Int) == 0) = false := by simpa using hj
        have hjs := ans_le R z j HA.out
        have hq := made_of_ans R z j HA.out hj
        obtain ⟨Z, hZ⟩ : ∃ Z, varOf (z : Int) = Z := ⟨_, rfl⟩
        have HZ2 : Hid (varOf (z : Int) = Z) := hZ
        rw [hZ] at hq
        have hq2 : (Z.toList == (R.extract 0 j).toList) = true := by rw [hq]; simp
        clear hj hZ hq
        go_wp2_with fail
        refine (impl_var z w12).mono ?_
        rw [HZ2.out]
        rintro e w13 ⟨rfl, b13⟩
        have B13 : Hid (Below W.heap.size W w13) := B11.out.trans (b13.mono B11.out.size)
        clear b13 B11
        go_wp2_with fail
        refine (Draw.drawR_go a len cap zs _ (code_later HZ.out.1 B13.out)).mono ?_
        rw [E.out.2.2.1]
        rintro e w14 ⟨rfl, b14⟩
        have B14 : Hid (Below W.heap.size W w14) := B13.out.trans (b14.mono B13.out.size)
        clear b14 B13
        go_wp2
        go_ret
        exact ⟨rfl, B14.out⟩

end Go.Proofs.YtpidfofjjdjkdabDoor
