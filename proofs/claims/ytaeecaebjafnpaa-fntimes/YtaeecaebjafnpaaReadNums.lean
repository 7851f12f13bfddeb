/- What reads lists of numbers: the program and the model, one contract each; marks in a row of numbers. -/
import Derived.Test.YtaeecaebjafnpaaReg
import Derived.Test.YtaeecaebjafnpaaMarks
set_option linter.unusedVariables false
namespace Go.Proofs.Ytaeecaebjafnpaa
open Go.RowKit Own Var Term

theorem psL_size (n : Nat) : ∀ r E, rep (bh 7) n r = some E → ∀ x ∈ psL n r, x.size ≤ r.size := by
  induction n with
  | zero => intro r E _ x hx; simp [psL] at hx
  | succ n ih =>
    intro r E h x hx
    obtain ⟨r', h1, h2⟩ := rep_succ h
    rw [psL_succ (bh_mono 7 r r' h1)] at hx
    obtain ⟨j, _, hj, hr⟩ := bh_suf 7 r r' h1
    have hz : r'.size ≤ r.size := by rw [hr, suf_size]; omega
    rcases List.mem_cons.1 hx with rfl | hx
    · exact ext_size _ _
    · exact Nat.le_trans (ih r' E h2 x hx) hz
theorem parts_size (s : ByteArray) : ∀ x ∈ (partsR s).1, x.size ≤ 900 := by
  unfold partsR
  cases hr : rk s 108 with
  | none => intro x hx; simp at hx
  | some q =>
    obtain ⟨n, r⟩ := q
    obtain ⟨hn, E, hE⟩ := rk_list hr
    have hf := rk_facts hr
    intro x hx
    have := psL_size n r E hE x hx
    omega
theorem parts_no (s : ByteArray) (h : (partsR s).2 = false) : (partsR s).1 = [] := by
  unfold partsR at h ⊢
  cases hr : rk s 108 with
  | none => rfl
  | some q => rw [hr] at h; cases h
/-- What ReadNums tells, of the parts. -/
def numsP (xs : List ByteArray) (b : Bool) : List Int × Bool := if (b && xs.all fun x => (numR x).2) = true then (xs.map fun x => (numR x).1, true) else ([], false)
def numsR (s : ByteArray) : List Int × Bool := numsP (partsR s).1 (partsR s).2
def rowR (xs : List ByteArray) (k : Nat) : List Value := intV ((xs.take k).map fun x => (numR x).1)
theorem rowR_succ (xs : List ByteArray) (k : Nat) (h : k < xs.length) : rowR xs k ++ [.int .i64 (numR xs[k]).1] = rowR xs (k + 1) := by
  unfold rowR intV; rw [List.take_succ_eq_append_getElem h, List.map_append, List.map_append]; rfl
theorem rowR_full (xs : List ByteArray) : rowR xs xs.length = intV (xs.map fun x => (numR x).1) := by unfold rowR; rw [List.take_length]

theorem own_rowAt {α : Type} {f : α → Value} {w : World} {base n c : Nat} {a : Option Addr} {e : TypeId} {xs : List α} (h : w.ownsRow base e 1 (.slice a n c) n (xs.map f)) : RowAt f w a xs := by
  obtain ⟨a', c', e', _, hr⟩ := own_row h
  injection e' with e1 e2 e3
  subst e1
  exact hr
theorem own_ne {w : World} {b b' n n' : Nat} {v v' : Value} {xs xs' : List Value} (h : w.ownsRow b 9 1 v n xs) (h' : w.ownsRow b' 3 1 v' n' xs') : v.ownBlock = none ∨ v.ownBlock ≠ v'.ownBlock := by
  rcases h.2 with ⟨rfl, _⟩ | ⟨g, cap, cur, rfl, _, hg, _⟩
  · exact Or.inl rfl
  · right
    rcases h'.2 with ⟨rfl, _⟩ | ⟨g', cap', cur', rfl, _, hg', _⟩
    · simp [Value.ownBlock]
    · intro e
      simp only [Value.ownBlock, Option.some.injEq] at e
      subst e
      rw [hg] at hg'
      simp at hg'

set_option maxRecDepth 100000 in
set_option maxHeartbeats 1600000 in
theorem impl_readNums (s : ByteArray) (w : World) (hs : s.size ≤ 1048576) :
    Calls Try.prog 42 #[.string s] w fun e w' => ∃ v, e = .returned (.tuple #[v, .bool (numsR s).2]) ∧ w'.ownsRow w.heap.size 3 1 v (numsR s).1.length (intV (numsR s).1) ∧ Below w.heap.size w w' := by
  have hP := impl_parts s w hs
  have hl := parts_len s
  have hsz := parts_size s
  have hno := parts_no s
  unfold numsR
  generalize (partsR s).1 = xs at *
  generalize (partsR s).2 = b at *
  cases b with
  | false =>
    obtain rfl := hno rfl
    have e : numsP [] false = ([], false) := rfl
    rw [e]
    clear hno
    go_enter Try.func42, Try.ntmps42
    go_wp2_with fail
    refine hP.mono ?_
    rintro e w1 ⟨v, rfl, ho, hb⟩
    go_wp2
    go_ret2
    exact ⟨_, rfl, World.ownsRow_nil _ _ _ _, hb⟩
  | true =>
    clear hno
    obtain ⟨i0, hi, hz0, hz1, hz2⟩ := info_parts infoInt
    go_enter Try.func42, Try.ntmps42
    go_wp2_with fail
    refine hP.mono ?_
    rintro e w1 ⟨v, rfl, ho, hb⟩
    obtain ⟨a, c, rfl, _, _⟩ := own_row ho
    clear hP
    go_wp2_with (first | (at_make; refine wpList_make_own _ rfl _ _ 52 rfl w.heap.size 3 i0 (.int .i64 0) 1 Try.underlying52 hi hz0 hz1 .i64 .i64 xs.length xs.length rfl rfl rfl (by rw [hz2]; omega) (by unfold maxLen; omega) hb.size ?_) | go_in)
    intro w2 hown0 hgrow0
    have hb2 : Below w1.heap.size w1 w2 := (Below.refl w1.heap.size w1).grown hgrow0 (Nat.le_refl _) (by simp)
    have hbel0 := hb.trans (hb2.mono hb.size)
    have ho2 := own_later ho hb2
    clear hgrow0 hb hb2 ho
    go_wp2
    go_loopw [6, 23] (fun v i wr => ∃ k : Nat, k ≤ xs.length ∧ i = .int .i64 k ∧ Hid (∀ j (h : j < xs.length), j < k → (numR xs[j]).2 = true) ∧ wr.ownsRow w.heap.size 3 1 v k (rowR xs k) ∧ wr.ownsRow w.heap.size 9 1 (.slice a xs.length c) xs.length (strV xs) ∧ Below w.heap.size w wr) (fun _ i _ => xs.length - (intOf i).toNat)
    case atStart => exact ⟨0, by omega, rfl, fun j h hj => absurd hj (by omega), hown0, ho2, hbel0⟩
    case round =>
      clear hown0 hbel0 ho2
      obtain ⟨k, hk, rfl, G, hown, hpo, hbel⟩ := hrel
      by_cases hlt : k < xs.length
      · obtain ⟨b, off, rfl, hbl, hcell⟩ := own_rowAt hpo k hlt
        have hx := hsz xs[k] (List.getElem_mem hlt)
        have hN := fun w => impl_readNum xs[k] w (by omega)
        have HP : Hid (rowR xs k ++ [.int .i64 (numR xs[k]).1] = rowR xs (k + 1)) := rowR_succ xs k hlt
        have HN : Hid ((numR xs[k]).2 = false → numsP xs true = ([], false)) := (fun h => by
          unfold numsP; rw [if_neg]; intro c
          rw [Bool.true_and, List.all_eq_true] at c
          rw [c _ (List.getElem_mem hlt)] at h; exact absurd h (by decide) : (numR xs[k]).2 = false → numsP xs true = ([], false))
        have HY : Hid ((numR xs[k]).2 = true → ∀ j (h : j < xs.length), j < k + 1 → (numR xs[j]).2 = true) := (fun hz j h hj => by
          by_cases e : j = k
          · subst e; exact hz
          · exact G.out j h (by omega) : (numR xs[k]).2 = true → ∀ j (h : j < xs.length), j < k + 1 → (numR xs[j]).2 = true)
        generalize (numR xs[k]).1 = z at hN HP
        generalize (numR xs[k]).2 = f at hN HN HY
        generalize xs[k] = x at hcell hx hN
        cases f with
        | false =>
          have HN2 : Hid (numsP xs true = ([], false)) := HN.out rfl
          clear HN HY
          go_wp2_with fail
          refine (hN _).mono ?_
          rintro e w3 ⟨rfl, hb3⟩
          have hb4 := hbel.trans (hb3.mono hbel.size)
          go_wp2
          go_ret2
          rw [HN2.out]
          exact ⟨_, rfl, World.ownsRow_nil _ _ _ _, hb4⟩
        | true =>
          have HY2 : Hid (∀ j (h : j < xs.length), j < k + 1 → (numR xs[j]).2 = true) := HY.out rfl
          clear HN HY
          go_wp2_with fail
          refine (hN _).mono ?_
          rintro e w3 ⟨rfl, hb3⟩
          have hb4 := hbel.trans (hb3.mono hbel.size)
          have hown1 := own_later hown hb3
          have hpo1 := own_later hpo hb3
          have hne := own_ne hpo1 hown1
          clear hown hbel hb3 hcell hN hpo
          go_wp2_with (first | (at_builtin; refine wpList_append_own _ rfl _ _ 52 rfl w.heap.size 3 i0 (.int .i64 0) 1 8 Try.underlying52 hi hz0 hz1 hz2 rfl (by decide) _ _ _ rfl (hown1.alloc _) ⟨w3.heap.size, 0, none⟩ 1 1 [.int .i64 z] rfl rfl (cell_one_new _ _ _) ?c2 ?c3 ?c4 ?c5 ?_) | go_in)
          case c2 => intro u hu; simp at hu; subst hu; rfl
          case c3 => unfold maxLen; omega
          case c4 => omega
          case c5 => have := hb4.size; simp; omega
          intro v' w4 hown' hgrow _
          have hb6 := below_app hb4 (Nat.le_refl _) hown1 hgrow
          have hpo2 := (hpo1.alloc _).kept hgrow hne
          rw [HP.out] at hown'
          clear hgrow hown1 hb4 hpo1 hne
          go_wp2
          go_roundw
          case rel =>
            have R : ∃ k' : Nat, k' ≤ xs.length ∧ Value.int .i64 ((k : Int) + 1) = .int .i64 k' ∧ Hid (∀ j (h : j < xs.length), j < k' → (numR xs[j]).2 = true) ∧ w4.ownsRow w.heap.size 3 1 v' k' (rowR xs k') ∧ w4.ownsRow w.heap.size 9 1 (.slice (some ⟨b, off, none⟩) xs.length c) xs.length (strV xs) ∧ Below w.heap.size w w4 :=
              ⟨k + 1, by omega, by go_num, HY2, hown', hpo2, hb6⟩
            first | exact R | ((repeat apply Exists.intro); exact ⟨R, rfl⟩)
          case measure => simp [intOf]; omega
      · have hall : (xs.all fun x => (numR x).2) = true := by
          rw [List.all_eq_true]
          intro x hx
          obtain ⟨j, hj, rfl⟩ := List.getElem_of_mem hx
          exact G.out j hj (by omega)
        have HE : Hid (numsP xs true = (xs.map fun x => (numR x).1, true)) := (by unfold numsP; rw [Bool.true_and, if_pos hall] : numsP xs true = (xs.map fun x => (numR x).1, true))
        obtain rfl : k = xs.length := by omega
        rw [rowR_full] at hown
        have hln : (xs.map fun x => (numR x).1).length = xs.length := List.length_map ..
        clear hall G hpo
        generalize (xs.map fun x => (numR x).1) = zs at *
        go_wp2
        go_ret2
        rw [HE.out]
        exact ⟨_, rfl, by rw [hln]; exact hown, hbel⟩

set_option maxRecDepth 100000 in
set_option maxHeartbeats 1600000 in
theorem spec_readNums (s : ByteArray) (w : World) (hs : s.size ≤ 1048576) :
    Calls Try.prog 46 #[.string s] w fun e w' => ∃ v, e = .returned (.tuple #[v, .bool (numsR s).2]) ∧ w'.ownsRow w.heap.size 3 1 v (numsR s).1.length (intV (numsR s).1) ∧ Below w.heap.size w w' := by
  have hb0 : Below w.heap.size w (w.alloc (.cells #[] 3)) := (Below.refl _ _).alloc (Nat.le_refl _) _
  have hlit : ∀ W : World, w.heap.size ≤ W.heap.size → (W.alloc (.cells #[] 3)).ownsRow w.heap.size 3 1 (.slice (some ⟨W.heap.size, 0, none⟩) 0 0) 0 [] := fun W hW => World.ownsRow_lit _ _ _ hW (by unfold maxLen; omega) rfl
  have hP := spec_parts s (w.alloc (.cells #[] 3)) hs
  have hl := parts_len s
  have hsz := parts_size s
  unfold numsR
  generalize (partsR s).1 = xs at *
  generalize (partsR s).2 = b at *
  obtain ⟨i0, hi, hz0, hz1, hz2⟩ := info_parts infoInt
  go_enter Try.func46, Try.ntmps46
  go_wp2_with fail
  refine hP.mono ?_
  rintro e w1 ⟨v, rfl, ho, hb⟩
  obtain ⟨a, c, rfl, _, _⟩ := own_row ho
  have hb1 := hb0.trans (hb.mono hb0.size)
  have hown0 := own_later (hlit w (Nat.le_refl _)) hb
  clear hP hb0 hb
  go_wp2
  go_loopw [4, 6, 7] (fun v B i wr => ∃ (k : Nat) (f : Bool), k ≤ xs.length ∧ i = .int .i64 k ∧ B = .bool f ∧ Hid (f = (b && (xs.take k).all fun x => (numR x).2)) ∧ wr.ownsRow w.heap.size 3 1 v k (rowR xs k) ∧ wr.ownsRow (w.alloc (.cells #[] 3)).heap.size 9 1 (.slice a xs.length c) xs.length (strV xs) ∧ Below w.heap.size w wr) (fun _ _ i _ => xs.length - (intOf i).toNat)
  case atStart => exact ⟨0, b, by omega, rfl, rfl, (by simp : b = (b && (xs.take 0).all fun x => (numR x).2)), hown0, ho, hb1⟩
  case round =>
    clear hown0 hb1 ho
    obtain ⟨k, f, hk, rfl, rfl, HF, hown, hpo, hbel⟩ := hrel
    by_cases hlt : k < xs.length
    · obtain ⟨bb, off, rfl, hbl, hcell⟩ := own_rowAt hpo k hlt
      have hx := hsz xs[k] (List.getElem_mem hlt)
      have hN := fun w => spec_readNum xs[k] w (by omega)
      have HP : Hid (rowR xs k ++ [.int .i64 (numR xs[k]).1] = rowR xs (k + 1)) := rowR_succ xs k hlt
      have HF2 : Hid ((f && (numR xs[k]).2) = (b && (xs.take (k + 1)).all fun x => (numR x).2)) := (by
        rw [HF.out, List.take_succ_eq_append_getElem hlt, List.all_append, Bool.and_assoc]; simp : (f && (numR xs[k]).2) = (b && (xs.take (k + 1)).all fun x => (numR x).2))
      generalize (numR xs[k]).1 = z at hN HP
      generalize (numR xs[k]).2 = g at hN HF2
      generalize xs[k] = x at hcell hx hN
      go_wp2_with fail
      refine (hN _).mono ?_
      rintro e w3 ⟨rfl, hb3⟩
      have hb4 := hbel.trans (hb3.mono hbel.size)
      have hown1 := own_later hown hb3
      have hpo1 := own_later hpo hb3
      have hne := own_ne hpo1 hown1
      clear hown hbel hb3 hcell hN hpo
      cases f
      all_goals
        go_wp2_with (first | (at_builtin; refine wpList_append_own _ rfl _ _ 52 rfl w.heap.size 3 i0 (.int .i64 0) 1 8 Try.underlying52 hi hz0 hz1 hz2 rfl (by decide) _ _ _ rfl (hown1.alloc _) ⟨w3.heap.size, 0, none⟩ 1 1 [.int .i64 z] rfl rfl (cell_one_new _ _ _) ?c2 ?c3 ?c4 ?c5 ?_) | go_in)
        case c2 => intro u hu; simp at hu; subst hu; rfl
        case c3 => unfold maxLen; omega
        case c4 => omega
        case c5 => have := hb4.size; simp; omega
        intro v' w4 hown' hgrow _
        have hb6 := below_app hb4 (Nat.le_refl _) hown1 hgrow
        have hpo2 := (hpo1.alloc _).kept hgrow hne
        rw [HP.out] at hown'
        clear hgrow hown1 hb4 hpo1 hne
        go_wp2
        go_roundw
        case rel =>
          have R : ∀ F : Bool, F = (b && (xs.take (k + 1)).all fun x => (numR x).2) → ∃ (k' : Nat) (f' : Bool), k' ≤ xs.length ∧ Value.int .i64 ((k : Int) + 1) = .int .i64 k' ∧ Value.bool F = .bool f' ∧ Hid (f' = (b && (xs.take k').all fun x => (numR x).2)) ∧ w4.ownsRow w.heap.size 3 1 v' k' (rowR xs k') ∧ w4.ownsRow (w.alloc (.cells #[] 3)).heap.size 9 1 (.slice (some ⟨bb, off, none⟩) xs.length c) xs.length (strV xs) ∧ Below w.heap.size w w4 :=
            fun F hF => ⟨k + 1, F, by omega, by go_num, rfl, hF, hown', hpo2, hb6⟩
          have hF := HF2.out
          first | exact R _ (by simpa using hF) | ((repeat apply Exists.intro); exact ⟨R _ (by simpa using hF), rfl⟩)
        case measure => simp [intOf]; omega
    · obtain rfl : k = xs.length := by omega
      have hF := HF.out
      rw [List.take_length] at hF
      rw [rowR_full] at hown
      cases f with
      | true =>
        have HE : Hid (numsP xs b = (xs.map fun x => (numR x).1, true)) := (by unfold numsP; rw [if_pos hF.symm] : numsP xs b = (xs.map fun x => (numR x).1, true))
        have hln : (xs.map fun x => (numR x).1).length = xs.length := List.length_map ..
        clear hF HF hpo
        generalize (xs.map fun x => (numR x).1) = zs at *
        go_wp2
        go_ret2
        rw [HE.out]
        exact ⟨_, rfl, by rw [hln]; exact hown, hbel⟩
      | false =>
        have HE : Hid (numsP xs b = ([], false)) := (by unfold numsP; rw [← hF]; rfl : numsP xs b = ([], false))
        have ho5 := hlit wr hbel.size
        clear hF HF hpo hown
        go_wp2
        go_ret2
        rw [HE.out]
        exact ⟨_, rfl, ho5, hbel.alloc hbel.size _⟩
end Go.Proofs.Ytaeecaebjafnpaa
