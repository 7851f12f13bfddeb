/- Sets of numbers over an iterator: counted, gone through rising. -/
import Derived.Test.YtjbbhegijlnndaaSe0
import Derived.Test.YtjbbhegijlnndaaSortL
import Derived.Test.YtjbbhegijlnndaaIterP
import Derived.RangeFuncNested
import Derived.RangeFuncBound
import Derived.RangeFuncCalls
import Derived.RangeFuncLeaves
import Derived.WalkKit
import Derived.OwnWalkIn
import Derived.TacticsInMore
import Derived.LoopNIn
import Derived.LoopIn
import Derived.Maps.OwnIn
import Derived.Maps.OwnSet
import Derived.Maps.Views
import Derived.Shelf.Abstract
set_option linter.unusedVariables false
set_option maxRecDepth 100000
namespace Go.Proofs.Ytjbbhegijlnndaa
open Go Go.RowKit Go.Sort Go.Joins Go.Shelf Own Maps
attribute [local go_sem] Oper.semAt_some

theorem RowAt.drew {α : Type} {f : α → Value} {w : World} {a : Option Addr} {xs : List α} (h : RowAt f w a xs) : RowAt f w.drew a xs := h
theorem nodup_le {α : Type} [DecidableEq α] : ∀ (S U : List α), S.Nodup → (∀ x, x ∈ S → x ∈ U) → S.length ≤ U.length := by
  intro S
  induction S with
  | nil => intro U _ _; exact Nat.zero_le _
  | cons x r ih =>
    intro U hn hs
    rw [List.nodup_cons] at hn
    have hx := hs x (List.mem_cons_self ..)
    have := ih (U.erase x) hn.2 (fun y hy => (List.mem_erase_of_ne (fun e => hn.1 (by rw [← e]; exact hy))).2 (hs y (List.mem_cons_of_mem _ hy)))
    rw [List.length_erase_of_mem hx] at this
    have := List.length_pos_of_mem hx
    simp only [List.length_cons]
    omega
theorem DS_tidy (xs : List Int) : Maps.Tidy (DS (H := Value) xs) := Maps.tidy_setOf _ _ (fun y hy => by obtain ⟨n, _, rfl⟩ := List.mem_map.1 hy; trivial)
theorem DS_count (xs : List Int) : ∀ j, j ≤ xs.length → ∃ K : List Int, K.Nodup ∧ (∀ x, x ∈ K ↔ x ∈ xs.take j) ∧ Maps.size (DS (H := Value) (xs.take j)) = K.length
  | 0, _ => ⟨[], List.nodup_nil, by simp, rfl⟩
  | j + 1, h => by
    obtain ⟨K, h1, h2, h3⟩ := DS_count xs j (by omega)
    have hlt : j < xs.length := h
    rw [List.take_succ_eq_append_getElem hlt]
    generalize xs[j] = x
    have hp := Maps.size_put (DS_tidy (xs.take j)) (k := .int .i64 x) (.agg [])
    rw [DS_has] at hp
    rw [DS_snoc, hp]
    by_cases hc : x ∈ xs.take j
    · rw [if_pos (by simpa using hc)]
      exact ⟨K, h1, fun y => by rw [h2, List.mem_append, List.mem_singleton]; exact ⟨Or.inl, fun h => h.elim id (fun e => e ▸ hc)⟩, h3⟩
    · rw [if_neg (by simpa using hc)]
      refine ⟨K ++ [x], List.nodup_append.2 ⟨h1, by simp, fun a ha b hb => ?_⟩, fun y => by rw [List.mem_append, List.mem_append, h2], by rw [h3]; simp⟩
      rw [List.mem_singleton] at hb
      rintro rfl
      exact hc (hb ▸ (h2 _).1 ha)
theorem DS_size (xs : List Int) : ∃ K : List Int, K.Nodup ∧ (∀ x, x ∈ K ↔ x ∈ xs) ∧ Maps.size (DS (H := Value) xs) = K.length := by
  have := DS_count xs xs.length (Nat.le_refl _)
  rwa [List.take_length] at this
theorem DS_le (xs : List Int) : Maps.size (DS (H := Value) xs) ≤ xs.length := by
  obtain ⟨K, h1, h2, h3⟩ := DS_size xs
  rw [h3]
  exact nodup_le K xs h1 (fun x hx => (h2 x).1 hx)
/-- Of a set as many numbers are among others as there are, just where all are. -/
theorem DS_all (ys L : List Int) : ((Maps.size (DS (H := Value) (L.filter (fun x => ys.contains x))) : Int) == (Maps.size (DS (H := Value) ys) : Int)) = ys.all (fun y => L.contains y) := by
  obtain ⟨A, a1, a2, a3⟩ := DS_size (L.filter (fun x => ys.contains x))
  obtain ⟨B, b1, b2, b3⟩ := DS_size ys
  rw [a3, b3]
  have hAB : ∀ x, x ∈ A → x ∈ B := fun x hx => by
    have := (a2 x).1 hx
    rw [List.mem_filter] at this
    exact (b2 x).2 (by simpa using this.2)
  rw [Bool.eq_iff_iff, beq_iff_eq, List.all_eq_true]
  constructor
  · intro e y hy
    have hyB := (b2 y).2 hy
    rcases Decidable.em (y ∈ A) with h | h
    · have := (a2 y).1 h
      rw [List.mem_filter] at this
      simpa using this.1
    · have := nodup_le (y :: A) B (List.nodup_cons.2 ⟨h, a1⟩) (fun x hx => by
        rcases List.mem_cons.1 hx with rfl | hx
        · exact hyB
        · exact hAB x hx)
      simp only [List.length_cons] at this
      omega
  · intro h
    have h1 := nodup_le A B a1 hAB
    have h2 := nodup_le B A b1 (fun y hy => (a2 y).2 (List.mem_filter.2 ⟨by simpa using h y ((b2 y).1 hy), by simpa using (b2 y).1 hy⟩))
    omega
/-- A row as numbers within their range. -/
def toZ (xs : List Int) (h : ∀ x ∈ xs, (Lit.int .i64 x).wf = true) : List Z64 := xs.attach.map fun x => ⟨x.1, h x.1 x.2⟩
theorem zs_toZ (xs : List Int) (h : ∀ x ∈ xs, (Lit.int .i64 x).wf = true) : zs (toZ xs h) = xs := by unfold zs toZ; rw [List.map_map]; exact List.attach_map_subtype_val xs
theorem toZ_len (xs : List Int) (h : ∀ x ∈ xs, (Lit.int .i64 x).wf = true) : (toZ xs h).length = xs.length := by unfold toZ; simp
theorem toZ_row {w : World} {a : Option Addr} {xs : List Int} (h : ∀ x ∈ xs, (Lit.int .i64 x).wf = true) (hr : RowAt (Value.int .i64) w a xs) : RowAt zV w a (toZ xs h) := by
  intro j hj
  have hj2 : j < xs.length := by rw [toZ_len] at hj; exact hj
  obtain ⟨b, o, e, hb, hc⟩ := hr j hj2
  refine ⟨b, o, e, hb, ?_⟩
  have e2 : ((toZ xs h)[j]).1 = xs[j] := by
    have h_ := congrArg (fun l => l[j]?) (zs_toZ xs h)
    simp only [zs, List.getElem?_map, List.getElem?_eq_getElem hj, List.getElem?_eq_getElem hj2, Option.map_some, Option.some.injEq] at h_
    exact h_
  rw [hc]
  unfold zV
  rw [e2]
/-- The iterator over a row that lies behind block Bs. -/
def SQ (Bs : Nat) : Value := .func (.func 102) #[] #[.pointer (some ⟨Bs, 0, none⟩)]
structure It (Bs : Nat) (L : List Int) (w : World) : Prop where
  row : ∃ a cap, w.cell? ⟨Bs, 0, none⟩ = some (.slice a L.length cap) ∧ RowAt (Value.int .i64) w a L
  wf : ∀ x ∈ L, (Lit.int .i64 x).wf = true
  len : L.length ≤ 1048576
theorem It.later {Bs : Nat} {L : List Int} {w w' : World} (h : It Bs L w) (hb : Below w.heap.size w w') : It Bs L w' := by
  obtain ⟨⟨a, cap, hc, hr⟩, h1, h2⟩ := h
  exact ⟨⟨a, cap, (hb.cell (p := ⟨Bs, 0, none⟩) (World.block_lt_of_cell? _ _ hc)).trans hc, hr.later hb⟩, h1, h2⟩
theorem put_is {b Bs : Nat} {ys L : List Int} {w : World} (hl : ys.length + L.length ≤ 1048576) (hs : SetAt w b ys) (hi : It Bs L w) :
    Calls Try.prog 99 #[.map (some b), SQ Bs] w fun e W' => e = .returned (.tuple #[]) ∧ SetAt W' b (ys ++ L) ∧ KB b w.heap.size w W' := by
  obtain ⟨⟨a, cap, hc, hr⟩, h1, h2⟩ := hi
  have := put_in b Bs a cap ys (toZ L h1) (by rw [toZ_len]; omega) w hs (toZ_row h1 hr) (by rw [toZ_len]; exact hc)
  rwa [zs_toZ] at this
theorem set_is {Bs : Nat} {L : List Int} {w : World} (hi : It Bs L w) :
    Calls Try.prog 87 #[SQ Bs] w fun e W' => e = .returned (.map (some w.heap.size)) ∧ SetAt W' w.heap.size L ∧ Below w.heap.size w W' := by
  obtain ⟨⟨a, cap, hc, hr⟩, h1, h2⟩ := hi
  have := setOf_is Bs a cap (toZ L h1) (by rw [toZ_len]; omega) w (toZ_row h1 hr) (by rw [toZ_len]; exact hc)
  rwa [zs_toZ] at this
theorem meet_is {b Bs : Nat} {ys L : List Int} {w : World} (hs : SetAt w b ys) (hi : It Bs L w) :
    Calls Try.prog 98 #[.map (some b), SQ Bs] w fun e W' => ∃ g, e = .returned (.map (some g)) ∧ w.heap.size ≤ g ∧ SetAt W' g (L.filter (fun x => ys.contains x)) ∧ Below w.heap.size w W' := by
  obtain ⟨⟨a, cap, hc, hr⟩, h1, h2⟩ := hi
  have := meet_in b Bs a cap ys (toZ L h1) (by rw [toZ_len]; omega) w hs (toZ_row h1 hr) (by rw [toZ_len]; exact hc)
  rwa [zs_toZ] at this
set_option maxHeartbeats 1600000 in
theorem allAmong_is {b Bs : Nat} {ys L : List Int} {w : World} (hs : SetAt w b ys) (hi : It Bs L w) :
    Calls Try.prog 82 #[.map (some b), SQ Bs] w fun e W' => e = .returned (.bool (ys.all (fun y => L.contains y))) ∧ Below w.heap.size w W' := by
  have K := meet_is hs hi
  have hd := DS_all ys L
  generalize ys.all (fun y => L.contains y) = bb at hd ⊢
  go_enter Try.func82, Try.ntmps82
  go_wp2_with fail
  refine K.mono ?_
  clear K
  rintro e W ⟨g, rfl, hg, h1, h2⟩
  have l1 := World.ownsMap.len h1 Try.underlying73 3
  have l2 := World.ownsMap.len (hs.later h2) Try.underlying73 3
  generalize (Maps.size (DS (H := Value) (L.filter (fun x => ys.contains x))) : Int) = p at hd l1
  generalize (Maps.size (DS (H := Value) ys) : Int) = q at hd l2
  go_wp2
  go_ret
  exact ⟨rfl, h2⟩
/-- Where a row stands the iterator over it is made. -/
theorem vals_is {a : Option Addr} {cap : Nat} {L : List Int} {w : World} (hr : RowAt (Value.int .i64) w a L) (h1 : ∀ x ∈ L, (Lit.int .i64 x).wf = true) (h2 : L.length ≤ 1048576) :
    Calls Try.prog 88 #[.slice a L.length cap] w fun e W' => ∃ Bs, e = .returned (SQ Bs) ∧ w.heap.size ≤ Bs ∧ It Bs L W' ∧ Below w.heap.size w W' := by
  refine (values_is a L.length cap w).mono ?_
  rintro e W ⟨rfl, rfl⟩
  have hb : Below w.heap.size w (w.alloc (.cells #[.slice a L.length cap] 32)) := (Below.refl _ _).alloc (Nat.le_refl _) _
  exact ⟨_, rfl, Nat.le_refl _, ⟨⟨a, cap, (Blk.new w #[.slice a L.length cap] 32).at 0 rfl, hr.later hb⟩, h1, h2⟩, hb⟩
theorem numbers_is {a : Option Addr} {cap : Nat} {L : List Int} {w : World} (k n : Int) (hr : RowAt (Value.int .i64) w a L) (h1 : ∀ x ∈ L, (Lit.int .i64 x).wf = true) (h2 : L.length ≤ 1048576) :
    Calls Try.prog 56 #[.agg #[.int .i64 k, .slice a L.length cap, .int .i64 n]] w fun e W' => ∃ g, e = .returned (.map (some g)) ∧ w.heap.size ≤ g ∧ SetAt W' g L ∧ Below w.heap.size w W' := by
  obtain ⟨V, hV⟩ : ∃ V, w.alloc (.cells #[.int .i64 k, .slice a L.length cap, .int .i64 n] 59) = V := ⟨_, rfl⟩
  have TV : Blk w.heap.size [.int .i64 k, .slice a L.length cap, .int .i64 n] V := by rw [← hV]; exact Blk.new _ _ _
  have BC : Below w.heap.size w V := by rw [← hV]; exact (Below.refl _ _).alloc (Nat.le_refl _) _
  have K := vals_is (cap := cap) (hr.later BC) h1 h2
  have d1 := TV.at 1 rfl
  clear hr TV
  go_enter Try.func56, Try.ntmps56
  go_wp2_with fail
  try rw [hV]
  refine K.mono ?_
  clear K d1 hV
  rintro e W ⟨Bs, rfl, hB, hi, hb⟩
  replace BC := BC.trans (hb.mono BC.size)
  have K := set_is hi
  have hsz := BC.size
  clear hi hb
  go_wp2_with fail
  refine K.mono ?_
  clear K
  rintro e W2 ⟨rfl, hs, hb⟩
  replace BC := BC.trans (hb.mono BC.size)
  clear hb
  go_wp2
  go_ret
  exact ⟨_, rfl, hsz, hs, BC⟩
theorem sortsA (m : Nat) : AnyZI.SortsIn Try.prog Try.sortedA_ren Fence.wide m :=
  ⟨fun blk off cap ss W hH hblk hsz => callsIn_wide.2 (Try.slices_Sort_int blk off cap ss W hH hblk hsz), fun p cap W => callsIn_wide.2 (Try.slices_Sort_int_none p cap W)⟩
theorem pair_of_sort (K : List Int) (h : K.Nodup) : (K.mergeSort fun x y => decide (x ≤ y)).Pairwise (· < ·) := by
  have h1 : (K.mergeSort fun x y => decide (x ≤ y)).Pairwise (fun x y => decide (x ≤ y) = true) := List.pairwise_mergeSort (fun a b c h1 h2 => by simp at *; omega) (fun a b => by simp; omega) K
  have h2 : (K.mergeSort fun x y => decide (x ≤ y)).Nodup := (List.mergeSort_perm K _).nodup_iff.2 h
  refine (h1.and h2).imp_of_mem ?_
  intro a b _ _ hab
  have := hab.1
  have h3 := hab.2
  simp at this
  omega
set_option maxHeartbeats 1600000 in
/-- What is in a set, rising. -/
theorem rising_is {b : Nat} {xs : List Int} {w : World} (h1 : ∀ x ∈ xs, (Lit.int .i64 x).wf = true) (hl : xs.length ≤ 1048576) (hs : SetAt w b xs) :
    Calls Try.prog 57 #[.map (some b)] w fun e W' => ∃ Bs L, e = .returned (SQ Bs) ∧ w.heap.size ≤ Bs ∧ It Bs L W' ∧ (L.Pairwise (· < ·) ∧ ∀ x, x ∈ L ↔ x ∈ xs) ∧ Below w.heap.size w W' := by
  have hsz := DS_le xs
  have hb0 : Below w.heap.size w (w.alloc (.cells #[.map (some b)] 73)) := (Below.refl _ _).alloc (Nat.le_refl _) _
  have hseq := (AnyZI.keys_stops (ρ := Try.keysA_ren) { Try.keysA with } Fence.wide 3 trivial rfl (by omega) w.heap.size b xs.length (DS xs) (w.alloc (.cells #[.map (some b)] 73)) (by simp) ((Blk.new w #[.map (some b)] 73).at 0 rfl) (hs.later hb0)).gives
  have cK : Calls Try.prog 90 #[.map (some b)] w fun e w' => e = .returned (.func (.func 104) #[] #[.pointer (some ⟨w.heap.size, 0, none⟩)]) ∧ w' = w.alloc (.cells #[.map (some b)] 73) := callsIn_wide.1 (AnyZI.keys_in Try.keysA Fence.wide 5 trivial rfl (some b) w)
  have cS := AnyZI.sorted_in Try.sortedA Fence.wide 6 trivial trivial trivial trivial rfl (by omega) (sortsA _) (enters_of Try.func103 (by kernel_rfl) rfl) 104 #[.pointer (some ⟨w.heap.size, 0, none⟩)] trivial (enters_of Try.func104 (by kernel_rfl) rfl) _ (Maps.size (DS (H := Value) xs)) (by unfold maxLen; omega) (by omega) _ hseq
  change CallsIn _ _ Try.prog 89 _ _ _ at cS
  replace cS := callsIn_wide.1 cS
  clear hseq
  go_enter Try.func57, Try.ntmps57
  go_wp2_with fail
  refine cK.mono ?_
  clear cK
  rintro e W ⟨rfl, rfl⟩
  go_wp2_with fail
  refine cS.mono ?_
  clear cS
  rintro e W ⟨v, ss, rfl, ⟨hp, hm⟩, hrow, _, hb⟩
  replace hb := hb0.trans (hb.mono hb0.size)
  have hlen : (ss.mergeSort fun x y => decide (x ≤ y)).length = ss.length := List.length_mergeSort ss
  have hnd : ss.Nodup := by
    obtain ⟨K, k1, k2, k3⟩ := DS_size xs
    have hc : CollectedI (DS (H := Value) xs) (fun _ => false) K := ⟨k1, fun x => by rw [k2, DS_has]; simp⟩
    exact (hp.trans (hc.perm hs keyed3 Try.underlying3 (fun _ => rfl)).symm).nodup_iff.2 k1
  have hL : Hid ((ss.mergeSort fun x y => decide (x ≤ y)).Pairwise (· < ·) ∧ ∀ x, x ∈ (ss.mergeSort fun x y => decide (x ≤ y)) ↔ x ∈ xs) := ⟨pair_of_sort ss hnd, fun x => by rw [List.mem_mergeSort, hm, DS_has]; simp⟩
  have hln : ss.length ≤ 1048576 := by
    have := nodup_le ss xs hnd (fun x hx => by have := (hm x).1 hx; rw [DS_has] at this; simpa using this)
    omega
  rw [← hlen] at hrow hln
  clear hp hm hnd hlen
  generalize (ss.mergeSort fun x y => decide (x ≤ y)) = L at hrow hL hln
  have hrow2 : W.ownsRow (w.alloc (.cells #[.map (some b)] 73)).heap.size 3 1 v L.length (L.map (Value.int .i64)) := hrow
  obtain ⟨a, cap, rfl, _, hr⟩ := own_row hrow2
  have K := vals_is (cap := cap) hr (fun x hx => h1 x ((hL.out.2 x).1 hx)) hln
  have hsw := hb.size
  clear hr hrow hrow2 hb0
  go_wp2_with fail
  refine K.mono ?_
  clear K
  rintro e W2 ⟨Bs, rfl, hB, hi, hb2⟩
  replace hb := hb.trans (hb2.mono hb.size)
  clear hb2
  have hBs : w.heap.size ≤ Bs := Nat.le_trans hsw hB
  go_wp2
  go_ret
  exact ⟨Bs, L, rfl, hBs, hi, hL.out, hb⟩
end Go.Proofs.Ytjbbhegijlnndaa
