/- Lists of numbers: the program and the model, one contract each. -/
import Derived.Test.YtaeecaebjafnpaaLists
set_option linter.unusedVariables false
namespace Go.Proofs.Ytaeecaebjafnpaa
open Go.RowKit Own Var Term

theorem numT_size (n : Int) : (numT n).size ≤ 15 := by
  have hv := varOf_size n
  unfold numT
  split
  · show 0 ≤ 15; omega
  · unfold atomT okOr
    split
    · rw [ByteArray.size_append, hdT_size]; have := varOf_size ((varOf n).size : Int); omega
    · show 0 ≤ 15; omega
/-- The cells of the first k numbers' atoms. -/
def rowN (zs : List Int) (k : Nat) : List Value := ((zs.take k).map numT).map Value.string
theorem rowN_zero (zs : List Int) : rowN zs 0 = [] := rfl
theorem rowN_succ (zs : List Int) (k : Nat) (h : k < zs.length) : rowN zs k ++ [.string (numT zs[k])] = rowN zs (k + 1) := by
  unfold rowN; rw [List.take_succ_eq_append_getElem h, List.map_append, List.map_append]; rfl
theorem rowN_full (zs : List Int) : rowN zs zs.length = (zs.map numT).map Value.string := by unfold rowN; rw [List.take_length]
def numsT (zs : List Int) : ByteArray := listT (zs.map numT)

set_option maxRecDepth 100000 in
set_option maxHeartbeats 1600000 in
theorem impl_nums (a : Option Addr) (cap : Nat) (zs : List Int) (w : World) (hr : RowAt (Value.int .i64) w a zs) (hl : zs.length ≤ 1048576) :
    Calls Try.prog 43 #[.slice a zs.length cap] w fun e w' => e = .returned (.string (numsT zs)) ∧ Below w.heap.size w w' := by
  obtain ⟨i0, hi, hz0, hz1, hz2⟩ := info_parts infoStr
  go_enter Try.func43, Try.ntmps43
  go_wp2_with (first | (at_make; refine wpList_make_own _ rfl _ _ 68 rfl w.heap.size 9 i0 (.string ⟨#[]⟩) 1 Try.underlying68 hi hz0 hz1 .i64 .i64 zs.length zs.length rfl rfl rfl (by rw [hz2]; omega) (by unfold maxLen; omega) (Nat.le_refl _) ?_) | go_in)
  intro w0 hown0 hgrow0
  have hbel0 := (Below.refl w.heap.size w).grown hgrow0 (Nat.le_refl _) (by simp)
  clear hgrow0
  go_wp2
  go_loopw [3, 11] (fun v i wr => ∃ k : Nat, k ≤ zs.length ∧ i = .int .i64 k ∧ wr.ownsRow w.heap.size 9 1 v k (rowN zs k) ∧ Below w.heap.size w wr) (fun _ i _ => zs.length - (intOf i).toNat)
  case atStart => exact ⟨0, by omega, rfl, hown0, hbel0⟩
  case round =>
    clear hown0 hbel0
    obtain ⟨k, hk, rfl, hown, hbel⟩ := hrel
    by_cases hlt : k < zs.length
    · obtain ⟨b, off, rfl, hbl, hcell⟩ := hr k hlt
      rw [← hbel.cell (p := ⟨b, off + k, none⟩) hbl] at hcell
      have HP : Hid (rowN zs k ++ [.string (numT zs[k])] = rowN zs (k + 1)) := rowN_succ zs k hlt
      generalize zs[k] = z at hcell HP
      go_wp2_with fail
      refine (impl_num z _).mono ?_
      rintro e w1 ⟨rfl, hb1⟩
      have hb2 := hbel.trans (hb1.mono hbel.size)
      have hown1 := own_later hown hb1
      clear hown hbel hb1 hcell
      go_wp2_with (first | (at_builtin; refine wpList_append_own _ rfl _ _ 68 rfl w.heap.size 9 i0 (.string ⟨#[]⟩) 1 16 Try.underlying68 hi hz0 hz1 hz2 rfl (by decide) _ _ _ rfl (hown1.alloc _) ⟨w1.heap.size, 0, none⟩ 1 1 [.string (numT z)] rfl rfl (cell_one_new _ _ _) ?c2 ?c3 ?c4 ?c5 ?_) | go_in)
      case c2 => intro u hu; simp at hu; subst hu; rfl
      case c3 => unfold maxLen; omega
      case c4 => omega
      case c5 => have := hb2.size; simp; omega
      intro v' w2 hown' hgrow _
      have hb3 := below_app hb2 (Nat.le_refl _) hown1 hgrow
      rw [HP.out] at hown'
      clear hgrow hown1 hb2
      go_wp2
      go_roundw
      case rel =>
        have R : ∃ k' : Nat, k' ≤ zs.length ∧ Value.int .i64 ((k : Int) + 1) = .int .i64 k' ∧ w2.ownsRow w.heap.size 9 1 v' k' (rowN zs k') ∧ Below w.heap.size w w2 :=
          ⟨k + 1, by omega, by go_num, hown', hb3⟩
        first | exact R | ((repeat apply Exists.intro); exact ⟨R, rfl⟩)
      case measure => simp [intOf]; omega
    · obtain rfl : k = zs.length := by omega
      rw [rowN_full] at hown
      have hsz : ∀ x ∈ zs.map numT, x.size ≤ 1048576 := by
        intro x hx
        obtain ⟨z, _, rfl⟩ := List.mem_map.1 hx
        have := numT_size z
        omega
      obtain ⟨a', cap', rfl, hcap, hrow⟩ := own_row hown
      clear hown
      have hlen : (zs.map numT).length = zs.length := List.length_map ..
      have HL := fun w h => impl_list a' cap' (zs.map numT) w h (by omega) hcap hsz
      rw [hlen] at HL ⊢
      go_wp2_with fail
      refine (HL _ hrow).mono ?_
      rintro e w1 ⟨rfl, hb1⟩
      go_wp2
      go_ret
      exact ⟨rfl, hbel.trans (hb1.mono hbel.size)⟩

theorem nums_no (zs : List Int) (k : Nat) (hk : k < zs.length) (h : (numT zs[k]).size = 0) : numsT zs = ⟨#[]⟩ := by
  unfold numsT listT
  rw [if_neg]
  rintro ⟨_, h2⟩
  rw [List.all_eq_true] at h2
  have h3 := h2 (numT zs[k]) (List.mem_map.2 ⟨zs[k], List.getElem_mem hk, rfl⟩)
  have := not_empty ((isT_iff _).1 h3)
  omega
theorem nums_many (zs : List Int) (k : Nat) (hk : 12 < k) (hz : k ≤ zs.length) : listT ((zs.take k).map numT) = numsT zs := by
  unfold numsT listT
  rw [if_neg, if_neg]
  · rintro ⟨h, _⟩; rw [List.length_map] at h; omega
  · rintro ⟨h, _⟩; rw [List.length_map, List.length_take] at h; omega
set_option maxRecDepth 100000 in
set_option maxHeartbeats 1600000 in
theorem spec_nums (a : Option Addr) (cap : Nat) (zs : List Int) (w : World) (hr : RowAt (Value.int .i64) w a zs) (hl : zs.length ≤ 1048576) :
    Calls Try.prog 47 #[.slice a zs.length cap] w fun e w' => e = .returned (.string (numsT zs)) ∧ Below w.heap.size w w' := by
  obtain ⟨i0, hi, hz0, hz1, hz2⟩ := info_parts infoStr
  go_enter Try.func47, Try.ntmps47
  go_wp2
  go_loopw [3, 4] (fun v i wr => ∃ k : Nat, k ≤ zs.length ∧ k ≤ 13 ∧ i = .int .i64 k ∧ wr.ownsRow w.heap.size 9 1 v k (rowN zs k) ∧ Below w.heap.size w wr) (fun _ i _ => zs.length - (intOf i).toNat)
  case atStart => exact ⟨0, by omega, by omega, rfl, World.ownsRow_lit _ _ _ (Nat.le_refl _) (by unfold maxLen; omega) rfl, (Below.refl _ _).alloc (Nat.le_refl _) _⟩
  case round =>
    obtain ⟨k, hk, hk13, rfl, hown, hbel⟩ := hrel
    by_cases hlt : k < zs.length ∧ k ≤ 12
    · obtain ⟨hlt, hlt12⟩ := hlt
      have hlt12' : (k : Int) ≤ 12 := by omega
      obtain ⟨b, off, rfl, hbl, hcell⟩ := hr k hlt
      rw [← hbel.cell (p := ⟨b, off + k, none⟩) hbl] at hcell
      have HP : Hid (rowN zs k ++ [.string (numT zs[k])] = rowN zs (k + 1)) := rowN_succ zs k hlt
      have HZ : Hid ((numT zs[k]).size = 0 → numsT zs = ⟨#[]⟩) := nums_no zs k hlt
      generalize zs[k] = z at hcell HP HZ
      by_cases hz : (numT z).size = 0
      · have hne := nil_size _ hz
        have HZ2 : Hid (numsT zs = ⟨#[]⟩) := HZ.out hz
        clear hz
        go_wp2_with fail
        refine (spec_num z _).mono ?_
        rintro e w1 ⟨rfl, hb1⟩
        have hb2 := hbel.trans (hb1.mono hbel.size)
        go_wp2
        go_ret
        exact ⟨by rw [HZ2.out]; rfl, hb2⟩
      · have hne := ne_nil (numT z) (by omega)
        go_wp2_with fail
        refine (spec_num z _).mono ?_
        rintro e w1 ⟨rfl, hb1⟩
        have hb2 := hbel.trans (hb1.mono hbel.size)
        have hown1 := own_later hown hb1
        clear hown hbel hb1 hcell
        go_wp2_with (first | (at_builtin; refine wpList_append_own _ rfl _ _ 68 rfl w.heap.size 9 i0 (.string ⟨#[]⟩) 1 16 Try.underlying68 hi hz0 hz1 hz2 rfl (by decide) _ _ _ rfl (hown1.alloc _) ⟨w1.heap.size, 0, none⟩ 1 1 [.string (numT z)] rfl rfl (cell_one_new _ _ _) ?c2 ?c3 ?c4 ?c5 ?_) | go_in)
        case c2 => intro u hu; simp at hu; subst hu; rfl
        case c3 => unfold maxLen; omega
        case c4 => omega
        case c5 => have := hb2.size; simp; omega
        intro v' w2 hown' hgrow _
        have hb3 := below_app hb2 (Nat.le_refl _) hown1 hgrow
        rw [HP.out] at hown'
        clear hgrow hown1 hb2
        go_wp2
        go_roundw
        case rel =>
          have R : ∃ k' : Nat, k' ≤ zs.length ∧ k' ≤ 13 ∧ Value.int .i64 ((k : Int) + 1) = .int .i64 k' ∧ w2.ownsRow w.heap.size 9 1 v' k' (rowN zs k') ∧ Below w.heap.size w w2 :=
            ⟨k + 1, by omega, by omega, by go_num, hown', hb3⟩
          first | exact R | ((repeat apply Exists.intro); exact ⟨R, rfl⟩)
        case measure => simp [intOf]; omega
    · have hE : listT ((zs.take k).map numT) = numsT zs := by
        by_cases h1 : k < zs.length
        · exact nums_many zs k (by omega) hk
        · unfold numsT; rw [List.take_of_length_le (by omega)]
      have hown : wr.ownsRow w.heap.size 9 1 _ k (((zs.take k).map numT).map Value.string) := hown
      have hsz : ∀ x ∈ (zs.take k).map numT, x.size ≤ 1048576 := by
        intro x hx
        obtain ⟨z, _, rfl⟩ := List.mem_map.1 hx
        have := numT_size z
        omega
      obtain ⟨a', cap', rfl, hcap, hrow⟩ := own_row hown
      clear hown
      have HL := fun w h => spec_list a' cap' ((zs.take k).map numT) w h (by rw [List.length_map, List.length_take]; omega) hsz
      rw [hE] at HL
      clear hE hsz hcap
      generalize (zs.take k).map numT = ys at *
      by_cases h1 : k < zs.length
      · have h12 : 12 < (k : Int) := by omega
        go_wp2_with fail
        refine (HL _ hrow).mono ?_
        rintro e w1 ⟨rfl, hb1⟩
        go_wp2
        go_ret
        exact ⟨rfl, hbel.trans (hb1.mono hbel.size)⟩
      · have h1' : (zs.length : Int) ≤ (k : Int) := by omega
        go_wp2_with fail
        refine (HL _ hrow).mono ?_
        rintro e w1 ⟨rfl, hb1⟩
        go_wp2
        go_ret
        exact ⟨rfl, hbel.trans (hb1.mono hbel.size)⟩
end Go.Proofs.Ytaeecaebjafnpaa
