/- What is drawn for the law on messages: a message, a text. -/
import Derived.Test.YtengggpobhibcaaDoorDm2
import Derived.Test.YtengggpobhibcaaDoorDrawSpoil
import Derived.Test.YtengggpobhibcaaDoorShw
import Derived.Test.YtengggpobhibcaaDoorTlm
set_option linter.unusedVariables false
set_option maxRecDepth 100000
namespace Go.Proofs.YtengggpobhibcaaDoor.Nd
open Go Go.RowKit Go.Joins Own Draw Var

theorem sumT_le {c : Nat} : ∀ (l : List TT), (∀ x ∈ l, totT x ≤ c) → (l.map totT).sum ≤ l.length * c
  | [], _ => Nat.zero_le _
  | x :: l, h => by
    have h1 := h x (List.mem_cons_self ..)
    have h2 := sumT_le l (fun y hy => h y (List.mem_cons_of_mem _ hy))
    simp only [List.map_cons, List.sum_cons, List.length_cons, Nat.add_mul, Nat.one_mul]
    omega
theorem bd_rt {q : Rw TT} (h : BdT q) : rtT q ≤ 1048576 := by
  obtain ⟨h1, h2⟩ := h
  have := sumT_le (c := 1004) q.2.2 (fun x hx => by have := h2 x hx; show x.2.2.1.size + x.2.2.2.2.2.length ≤ 1004; omega)
  have h3 : q.2.2.length * 1004 ≤ 200 * 1004 := Nat.mul_le_mul_right _ h1
  unfold rtT
  omega
theorem shB_size (m : List PT) : (shB (shM m)).size ≤ 900 := by
  cases e : shM m with
  | none => exact Nat.zero_le _
  | some T =>
    have h := shows_read e
    exact (root_of (s := T) (by rw [h])).1
theorem newW (a : Option Addr) (len cap : Nat) (zs : List Int) (W : World) (hz : CodeAt W W.heap.size a len zs) :
    Calls Tryd.prog 13 #[.slice a len cap] W fun e w' => e = .returned (.pointer (some ⟨W.heap.size, 0, none⟩)) ∧ Cu W.heap.size a len cap zs w' w' ∧ Below W.heap.size W w' := by
  refine (new_go a len cap zs W hz).mono ?_
  rintro e w' ⟨rfl, h1, h2, h3⟩
  exact ⟨rfl, Cu.start ⟨h1, hz.below h2, Nat.zero_le _⟩, h2⟩
theorem spoilW {p : Nat} {a : Option Addr} {len cap : Nat} {zs : List Int} {w : World} (t : ByteArray) (h : Cu p a len cap zs w w) (ht : t.size ≤ 1000) :
    Calls Tryd.prog 22 #[.pointer (some ⟨p, 0, none⟩), .string t] w fun e w' => ∃ s : ByteArray, e = .returned (.string s) ∧ Cu p a len cap zs w w' := by
  obtain ⟨⟨s, h⟩, _⟩ := h
  refine (spoilD p a len cap zs s w t h ht).mono ?_
  rintro e w' ⟨rfl, ⟨s', d⟩, o⟩
  exact ⟨_, rfl, ⟨s', d⟩, o⟩
theorem textC3 {p : Nat} {a : Option Addr} {len cap : Nat} {zs : List Int} {w : World} (h : Cu p a len cap zs w w) :
    Calls Tryd.prog 23 #[.pointer (some ⟨p, 0, none⟩), .int .i64 3] w fun e w' => ∃ s : ByteArray, e = .returned (.string s) ∧ s.size ≤ 3 ∧ Cu p a len cap zs w w' := by
  obtain ⟨⟨s, h⟩, _⟩ := h
  refine (textD p a len cap zs s w 3 h (by omega) (by omega)).mono ?_
  rintro e w' ⟨rfl, d, o⟩
  have hs := textV_len zs len 3 s (by omega)
  exact ⟨_, rfl, (by show (textV zs len 3 s).toArray.size ≤ 3; simpa using hs), ⟨_, d⟩, o⟩
theorem var_size (n : Int) : (varOf n).size ≤ 7 := by
  unfold varOf
  split
  · show (varB n.toNat).toArray.size ≤ 7
    have := varB_seven n.toNat (by omega)
    simpa using this
  · exact Nat.zero_le _
theorem draw_ok (ad : Option Addr) (len cap : Nat) (zs : List Int) (W : World) (hz : CodeAt W W.heap.size ad len zs) :
    Calls Tryd.prog 5 #[.slice ad len cap] W fun e w' => ∃ q : Rw TT, e = .returned (slT q) ∧ RpT w' q ∧ BdT q ∧ Below W.heap.size W w' := by
  go_enter Tryd.func5, Tryd.ntmps5
  go_wp2_with fail
  refine (newW ad len cap zs W hz).mono ?_
  rintro e w1 ⟨rfl, C1, b1⟩
  clear hz
  obtain ⟨pc, hpc⟩ : ∃ n, W.heap.size = n := ⟨_, rfl⟩
  rw [hpc] at C1 b1 ⊢
  have S := some_is w1 C1
  go_wp2_with fail
  refine S.mono ?_
  clear S
  rintro e w2 ⟨q, rfl, r2, C2, b2, bd, la⟩
  dsimp only [slT]
  go_wp2
  go_ret
  exact ⟨q, rfl, r2.dp, bd, by rw [hpc]; exact b1.trans b2⟩
set_option maxHeartbeats 6400000 in
theorem draw_rd (ad : Option Addr) (len cap : Nat) (zs : List Int) (W : World) (hz : CodeAt W W.heap.size ad len zs) :
    Calls Tryd.prog 11 #[.slice ad len cap] W fun e w' => ∃ s : ByteArray, e = .returned (.string s) ∧ Below W.heap.size W w' := by
  go_enter Tryd.func11, Tryd.ntmps11
  go_wp2_with fail
  refine (newW ad len cap zs W hz).mono ?_
  rintro e w1 ⟨rfl, C1, b1⟩
  clear hz
  obtain ⟨pc, hpc⟩ : ∃ n, W.heap.size = n := ⟨_, rfl⟩
  rw [hpc] at C1 b1 ⊢
  have S := some_is w1 C1
  go_wp2_with fail
  refine S.mono ?_
  clear S
  rintro e w2 ⟨⟨qa, qc, xs⟩, rfl, r2, C2, b2, bd, la⟩
  have B2 : Below pc W w2 := b1.trans b2
  have KS := specShow_is qa qc xs w2 r2.dp (bd_rt bd)
  have hsz := shB_size (xs.map stT)
  generalize shB (shM (xs.map stT)) = t at *
  clear C1 b1 b2 bd la r2
  dsimp only [slT]
  go_wp2_with fail
  refine KS.mono ?_
  clear KS
  rintro e w3 ⟨rfl, b3⟩
  have C3 := cu_under C2 b3
  have B3 := B2.trans (b3.mono (by have := C2.lt; omega))
  clear C2 B2 b3
  go_wp2_with fail
  refine (belowW 6 C3 (by omega) (by omega)).mono ?_
  rintro e w4 ⟨v, rfl, v0, v1, c4⟩
  have C4 := c4.here
  have B4 := B3.trans (c4.2.below (Nat.le_refl _) C3.lt)
  clear C3 B3 c4
  obtain rfl | rfl | rfl | rfl | rfl | rfl : v = 0 ∨ v = 1 ∨ v = 2 ∨ v = 3 ∨ v = 4 ∨ v = 5 := by omega
  · go_wp2_with fail
    refine (spoilW t C4 (by omega)).mono ?_
    rintro e w5 ⟨s, rfl, c5⟩
    have B5 := B4.trans (c5.2.below (Nat.le_refl _) C4.lt)
    clear c5
    go_wp2
    go_ret
    exact ⟨s, rfl, by rw [hpc]; exact B5⟩
  · go_wp2_with fail
    refine (spoilW t C4 (by omega)).mono ?_
    rintro e w5 ⟨s, rfl, c5⟩
    have B5 := B4.trans (c5.2.below (Nat.le_refl _) C4.lt)
    clear c5
    go_wp2
    go_ret
    exact ⟨s, rfl, by rw [hpc]; exact B5⟩
  · go_wp2_with fail
    refine (textC3 C4).mono ?_
    rintro e w5 ⟨s, rfl, hs, c5⟩
    have B5 := B4.trans (c5.2.below (Nat.le_refl _) C4.lt)
    clear c5
    have hcat : (t ++ s).size ≤ 2000 := by rw [ByteArray.size_append]; omega
    go_wp2
    go_ret
    exact ⟨t ++ s, rfl, by rw [hpc]; exact B5⟩
  · go_wp2_with fail
    refine (belowW 5 C4 (by omega) (by omega)).mono ?_
    rintro e w5 ⟨x0, rfl, xa, xb, c5⟩
    obtain ⟨x, rfl⟩ : ∃ x : Nat, x0 = (x : Int) := ⟨x0.toNat, by omega⟩
    have B5 := B4.trans (c5.2.below (Nat.le_refl _) C4.lt)
    clear c5 C4 B4
    go_wp2
    go_loopw [5, 6] (fun v5 v6 wr => ∃ (y : ByteArray) (m : Nat), v5 = .string y ∧ v6 = .int .i64 (m : Int) ∧ y.size + 8 * m ≤ 80 ∧ Below pc W wr) (fun _ v6 _ => (intOf v6).toNat)
    case atStart => exact ⟨⟨#[]⟩, 6 + x, rfl, (by first | go_num | (congr 1; omega)), (by show 0 + 8 * (6 + x) ≤ 80; omega), B5⟩
    case round =>
      clear B5
      obtain ⟨y, m, rfl, rfl, hy, hb⟩ := hrel
      by_cases hm : m = 0
      · subst hm
        go_wp2
        go_ret
        exact ⟨y, rfl, by rw [hpc]; exact hb⟩
      · obtain ⟨m, rfl⟩ : ∃ k, m = k + 1 := ⟨m - 1, by omega⟩
        have hys : y.size ≤ 80 := by omega
        go_wp2_with fail
        refine (spec_var (y.size : Int) wr).mono ?_
        rintro e w6 ⟨rfl, b6⟩
        have hvs := var_size (y.size : Int)
        generalize varOf (y.size : Int) = vs at *
        have e1 : (⟨#[129]⟩ : ByteArray).size = 1 := rfl
        have hc1 : ((⟨#[129]⟩ : ByteArray) ++ vs).size ≤ 2000 := by rw [ByteArray.size_append]; omega
        have hc2 : (((⟨#[129]⟩ : ByteArray) ++ vs) ++ y).size + 8 * m ≤ 80 := by rw [ByteArray.size_append, ByteArray.size_append]; omega
        have hb6 := hb.trans (b6.mono (by have := hb.size; omega))
        clear e1 b6 hb
        go_wp2
        go_roundw
        case rel => exact ⟨_, m, rfl, (by first | go_num | (congr 1; omega)), hc2, hb6⟩
        case measure => (simp [intOf]) <;> omega
  · go_wp2_with fail
    refine (belowW 5 C4 (by omega) (by omega)).mono ?_
    rintro e w5 ⟨x0, rfl, xa, xb, c5⟩
    obtain ⟨x, rfl⟩ : ∃ x : Nat, x0 = (x : Int) := ⟨x0.toNat, by omega⟩
    have B5 := B4.trans (c5.2.below (Nat.le_refl _) C4.lt)
    clear c5 C4 B4
    go_wp2
    go_loopw [7, 8] (fun v7 v8 wr => ∃ (y : ByteArray) (m : Nat), v7 = .string y ∧ v8 = .int .i64 (m : Int) ∧ y.size + 2 * m ≤ 122 ∧ Below pc W wr) (fun _ v8 _ => (intOf v8).toNat)
    case atStart => exact ⟨⟨#[]⟩, 57 + x, rfl, (by first | go_num | (congr 1; omega)), (by show 0 + 2 * (57 + x) ≤ 122; omega), B5⟩
    case round =>
      clear B5
      obtain ⟨y, m, rfl, rfl, hy, hb⟩ := hrel
      by_cases hm : m = 0
      · subst hm
        have hys : y.size ≤ 122 := by omega
        go_wp2_with fail
        refine (spec_var (y.size : Int) wr).mono ?_
        rintro e w6 ⟨rfl, b6⟩
        have hvs := var_size (y.size : Int)
        generalize varOf (y.size : Int) = vs at *
        have hb6 := hb.trans (b6.mono (by have := hb.size; omega))
        clear b6 hb
        go_wp2
        go_ret
        exact ⟨_, rfl, by rw [hpc]; exact hb6⟩
      · obtain ⟨m, rfl⟩ : ∃ k, m = k + 1 := ⟨m - 1, by omega⟩
        have e1 : (⟨#[1, 0]⟩ : ByteArray).size = 2 := rfl
        have hc2 : (y ++ (⟨#[1, 0]⟩ : ByteArray)).size + 2 * m ≤ 122 := by rw [ByteArray.size_append]; omega
        clear e1
        go_wp2
        go_roundw
        case rel => exact ⟨_, m, rfl, (by first | go_num | (congr 1; omega)), hc2, hb⟩
        case measure => (simp [intOf]) <;> omega
  · go_wp2
    go_ret
    exact ⟨t, rfl, by rw [hpc]; exact B4⟩
end Go.Proofs.YtengggpobhibcaaDoor.Nd
