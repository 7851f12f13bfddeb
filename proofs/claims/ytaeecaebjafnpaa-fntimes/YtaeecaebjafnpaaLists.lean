/- Lists: the program and the model, one contract each. -/
import Derived.Test.YtaeecaebjafnpaaRows1
import Derived.Test.YtaeecaebjafnpaaJoin
set_option linter.unusedVariables false
namespace Go.Proofs.Ytaeecaebjafnpaa
open Go.RowKit Own Var Term

/-- Texts one behind the other. -/
def cat (xs : List ByteArray) : ByteArray := ⟨(xs.map (·.data.toList)).flatten.toArray⟩
theorem cat_list (xs : List ByteArray) : (cat xs).data.toList = (xs.map (·.data.toList)).flatten := by simp [cat]
theorem cat_nil : cat [] = ⟨#[]⟩ := rfl
theorem cat_snoc (xs : List ByteArray) (x : ByteArray) : cat (xs ++ [x]) = cat xs ++ x := by
  apply ext_list; rw [data_append, cat_list, cat_list]; simp
theorem cat_size (n : Nat) (xs : List ByteArray) (h : ∀ x ∈ xs, x.size ≤ n) : (cat xs).size ≤ n * xs.length := by
  induction xs with
  | nil => exact Nat.zero_le _
  | cons x xs ih =>
    have h1 : (cat (x :: xs)).size = x.size + (cat xs).size := by rw [size_list, size_list, size_list, cat_list, cat_list]; simp
    have h2 := ih (fun y hy => h y (List.mem_cons_of_mem _ hy))
    have h3 := h x (List.mem_cons_self ..)
    rw [h1, List.length_cons, Nat.mul_succ]
    omega
theorem join_nil (ls : List (List UInt8)) : Lib.join ls [] = ls.flatten := by
  induction ls with
  | nil => rfl
  | cons l ls ih =>
    cases ls with
    | nil => simp [Lib.join]
    | cons m ls => simp [Lib.join] at ih ⊢; exact ih
def listT (xs : List ByteArray) : ByteArray := if xs.length ≤ 12 ∧ xs.all isT = true then okOr (hdT 108 xs.length ++ cat xs) else ⟨#[]⟩
theorem all_take {xs : List ByteArray} (h : ∀ j (hj : j < xs.length), isT xs[j] = true) : xs.all isT = true := by
  rw [List.all_eq_true]
  intro x hx
  obtain ⟨j, hj, rfl⟩ := List.getElem_of_mem hx
  exact h j hj
theorem not_all {xs : List ByteArray} {j : Nat} (hj : j < xs.length) (h : isT xs[j] = false) : ¬ (xs.length ≤ 12 ∧ xs.all isT = true) := by
  rintro ⟨_, h2⟩
  rw [List.all_eq_true] at h2
  rw [h2 _ (List.getElem_mem hj)] at h
  cases h

set_option maxRecDepth 100000 in
set_option maxHeartbeats 1600000 in
theorem impl_list (a : Option Addr) (cap : Nat) (xs : List ByteArray) (w : World) (hr : RowAt Value.string w a xs) (hl : xs.length ≤ 1048576) (hcap : xs.length ≤ cap) (hs : ∀ x ∈ xs, x.size ≤ 1048576) :
    Calls Try.prog 53 #[.slice a xs.length cap] w fun e w' => e = .returned (.string (listT xs)) ∧ Below w.heap.size w w' := by
  by_cases h12 : xs.length ≤ 12
  · have h12' : (xs.length : Int) ≤ 12 := by omega
    go_enter Try.func53, Try.ntmps53
    go_wp2
    go_loopw [10] (fun i wr => ∃ k : Nat, k ≤ xs.length ∧ i = .int .i64 k ∧ Hid (∀ j (h : j < xs.length), j < k → isT xs[j] = true) ∧ Below w.heap.size w wr) (fun i _ => xs.length - (intOf i).toNat)
    case atStart => exact ⟨0, by omega, rfl, fun j h hj => absurd hj (by omega), Below.refl _ _⟩
    case round =>
      obtain ⟨k, hk, rfl, G, hbel⟩ := hrel
      by_cases hlt : k < xs.length
      · obtain ⟨b, off, rfl, hbl, hcell⟩ := hr k hlt
        rw [← hbel.cell (p := ⟨b, off + k, none⟩) hbl] at hcell
        have hx := hs xs[k] (List.getElem_mem hlt)
        have hI := fun w => impl_ok xs[k] w (by omega)
        have HN : Hid (isT xs[k] = false → listT xs = ⟨#[]⟩) := (fun h => by unfold listT; rw [if_neg (not_all hlt h)] : isT xs[k] = false → listT xs = ⟨#[]⟩)
        have HY : Hid (isT xs[k] = true → ∀ j (h : j < xs.length), j < k + 1 → isT xs[j] = true) := (fun hz j h hj => by
          by_cases e : j = k
          · subst e; exact hz
          · exact G.out j h (by omega) : isT xs[k] = true → ∀ j (h : j < xs.length), j < k + 1 → isT xs[j] = true)
        rcases Bool.eq_false_or_eq_true (isT xs[k]) with hT | hT
        · have HY2 : Hid (∀ j (h : j < xs.length), j < k + 1 → isT xs[j] = true) := HY.out hT
          rw [hT] at hI
          clear HN HY hT
          generalize xs[k] = x at hcell hx hI
          go_wp2_with fail
          refine (hI _).mono ?_
          rintro e w1 ⟨rfl, hb1⟩
          have hb2 := hbel.trans (hb1.mono hbel.size)
          go_wp2
          go_roundw
          case rel => exact ⟨k + 1, by omega, by go_num, HY2, hb2⟩
          case measure => simp [intOf]; omega
        · have HN2 : Hid (listT xs = ⟨#[]⟩) := HN.out hT
          rw [hT] at hI
          clear HN HY hT
          generalize xs[k] = x at hcell hx hI
          go_wp2_with fail
          refine (hI _).mono ?_
          rintro e w1 ⟨rfl, hb1⟩
          have hb2 := hbel.trans (hb1.mono hbel.size)
          go_wp2
          go_ret
          exact ⟨by rw [HN2.out]; rfl, hb2⟩
      · have hall := all_take (xs := xs) (fun j hj => G.out j hj (by omega))
        have h9 : ∀ x ∈ xs, x.size ≤ 900 := fun x hx => ((isT_iff x).1 (List.all_eq_true.1 hall x hx)).1
        have hcz := cat_size 900 xs h9
        have hz := hdT_size 108 xs.length
        have hv := varOf_size xs.length
        have h1 : ¬ 9223372036854775807 < (hdT 108 xs.length).size + (cat xs).size := by omega
        have HE : Hid (listT xs = okOr (hdT 108 xs.length ++ cat xs)) := (by unfold listT; rw [if_pos ⟨h12, hall⟩] : listT xs = okOr (hdT 108 xs.length ++ cat xs))
        have HJ : Hid (∀ w1, Below wr.heap.size wr w1 → Calls Try.prog 70 #[.slice a xs.length cap, .string ⟨#[]⟩] w1 fun e w' => e = .returned (.string (cat xs)) ∧ Below w1.heap.size w1 w') := by
          show ∀ w1, Below wr.heap.size wr w1 → Calls Try.prog 70 #[.slice a xs.length cap, .string ⟨#[]⟩] w1 fun e w' => e = .returned (.string (cat xs)) ∧ Below w1.heap.size w1 w'
          intro w1 hb1
          by_cases h0 : xs = []
          · subst h0
            refine (Try.strings_Join_none a cap ⟨#[]⟩ w1).mono ?_
            rintro e w' ⟨rfl, rfl⟩
            exact ⟨rfl, Below.refl _ _⟩
          · have hpos : 0 < xs.length := List.length_pos_iff.2 h0
            have hr1 := (hr.later hbel).later hb1
            obtain ⟨b, off, rfl, hbl, _⟩ := hr1 0 hpos
            have hj : Lib.join (xs.map (·.data.toList)) (⟨#[]⟩ : ByteArray).data.toList = (xs.map (·.data.toList)).flatten := join_nil _
            have hlen : (xs.map (·.data.toList)).flatten.length = (cat xs).size := by rw [size_list, cat_list]
            refine (Try.strings_Join b off cap xs ⟨#[]⟩ w1 (fun j x hx => ?_) hbl (by omega) hcap (by rw [hj, hlen]; omega)).mono ?_
            · obtain ⟨hj, rfl⟩ := List.getElem?_eq_some_iff.1 hx
              obtain ⟨b', off', e', _, hc⟩ := hr1 j hj
              injection e' with e'
              injection e' with e1 e2
              subst e1 e2
              exact hc
            · rintro e w' ⟨rfl, hb⟩
              rw [hj]
              exact ⟨rfl, hb⟩
        clear hall h9 G hr hs
        go_wp2_with fail
        refine (head_is 108 108 enc108 _ _).mono ?_
        rintro e w1 ⟨rfl, hb1⟩
        go_wp2_with fail
        refine (HJ.out w1 hb1).mono ?_
        rintro e w2 ⟨rfl, hb2⟩
        go_wp2_with fail
        refine (impl_or (hdT 108 xs.length ++ cat xs) _ (by rw [ByteArray.size_append]; omega)).mono ?_
        rintro e w3 ⟨rfl, hb3⟩
        go_wp2
        go_ret
        have hb4 := hbel.trans (hb1.mono hbel.size)
        have hb5 := hb4.trans (hb2.mono hb4.size)
        exact ⟨by rw [HE.out]; rfl, hb5.trans (hb3.mono hb5.size)⟩
  · have e : listT xs = ⟨#[]⟩ := by unfold listT; rw [if_neg (fun c => h12 c.1)]
    have h12' : (12 : Int) < (xs.length : Int) := by omega
    rw [e]
    go_enter Try.func53, Try.ntmps53
    go_wp2
    go_ret
    exact ⟨rfl, Below.refl _ _⟩
set_option maxRecDepth 100000 in
set_option maxHeartbeats 1600000 in
theorem spec_list (a : Option Addr) (cap : Nat) (xs : List ByteArray) (w : World) (hr : RowAt Value.string w a xs) (hl : xs.length ≤ 1048576) (hs : ∀ x ∈ xs, x.size ≤ 1048576) :
    Calls Try.prog 58 #[.slice a xs.length cap] w fun e w' => e = .returned (.string (listT xs)) ∧ Below w.heap.size w w' := by
  by_cases h12 : xs.length ≤ 12
  · have h12' : (xs.length : Int) ≤ 12 := by omega
    have hv := varOf_size xs.length
    have h1 : ¬ 9223372036854775807 < 1 + (varOf xs.length).size := by omega
    go_enter Try.func58, Try.ntmps58
    go_wp2_with fail
    refine (spec_var _ _).mono ?_
    rintro e w1 ⟨rfl, hb⟩
    go_wp2
    go_loopw [3, 4] (fun t i wr => ∃ (k : Nat) (T : ByteArray), k ≤ xs.length ∧ i = .int .i64 k ∧ t = .string T ∧ Hid (T = hdT 108 xs.length ++ cat (xs.take k)) ∧ T.size ≤ 8 + 900 * k ∧ Hid (∀ j (h : j < xs.length), j < k → isT xs[j] = true) ∧ Below w.heap.size w wr) (fun _ i _ => xs.length - (intOf i).toNat)
    case atStart => exact ⟨0, hdT 108 xs.length, by omega, rfl, rfl, (by rw [List.take_zero, cat_nil, app_nil] : hdT 108 xs.length = hdT 108 xs.length ++ cat (xs.take 0)), by rw [hdT_size]; omega, fun j h hj => absurd hj (by omega), hb⟩
    case round =>
      obtain ⟨k, T, hk, rfl, rfl, HT, hTz, G, hbel⟩ := hrel
      by_cases hlt : k < xs.length
      · obtain ⟨b, off, rfl, hbl, hcell⟩ := hr k hlt
        rw [← hbel.cell (p := ⟨b, off + k, none⟩) hbl] at hcell
        have hx := hs xs[k] (List.getElem_mem hlt)
        have hI := fun w => spec_ok xs[k] w (by omega)
        have HN : Hid (isT xs[k] = false → listT xs = ⟨#[]⟩) := (fun h => by unfold listT; rw [if_neg (not_all hlt h)] : isT xs[k] = false → listT xs = ⟨#[]⟩)
        have HY : Hid (isT xs[k] = true → ∀ j (h : j < xs.length), j < k + 1 → isT xs[j] = true) := (fun hz j h hj => by
          by_cases e : j = k
          · subst e; exact hz
          · exact G.out j h (by omega) : isT xs[k] = true → ∀ j (h : j < xs.length), j < k + 1 → isT xs[j] = true)
        have HC : Hid (T ++ xs[k] = hdT 108 xs.length ++ cat (xs.take (k + 1))) := (by
          rw [HT.out, List.take_succ_eq_append_getElem hlt, cat_snoc]
          apply ext_list
          simp only [data_append, List.append_assoc] : T ++ xs[k] = hdT 108 xs.length ++ cat (xs.take (k + 1)))
        rcases Bool.eq_false_or_eq_true (isT xs[k]) with hT | hT
        · have HY2 : Hid (∀ j (h : j < xs.length), j < k + 1 → isT xs[j] = true) := HY.out hT
          have h9 := ((isT_iff xs[k]).1 hT).1
          rw [hT] at hI
          clear HN HY hT
          generalize xs[k] = x at hcell hx hI h9 HC
          have h2 : ¬ 9223372036854775807 < T.size + x.size := by omega
          go_wp2_with fail
          refine (hI _).mono ?_
          rintro e w1 ⟨rfl, hb1⟩
          have hb2 := hbel.trans (hb1.mono hbel.size)
          rw [← hb1.cell (p := ⟨b, off + k, none⟩) (Nat.lt_of_lt_of_le hbl hbel.size)] at hcell
          go_wp2
          go_roundw
          case rel => exact ⟨k + 1, T ++ x, by omega, by go_num, rfl, HC, by rw [ByteArray.size_append]; omega, HY2, hb2⟩
          case measure => simp [intOf]; omega
        · have HN2 : Hid (listT xs = ⟨#[]⟩) := HN.out hT
          rw [hT] at hI
          clear HN HY hT HC
          generalize xs[k] = x at hcell hx hI
          go_wp2_with fail
          refine (hI _).mono ?_
          rintro e w1 ⟨rfl, hb1⟩
          have hb2 := hbel.trans (hb1.mono hbel.size)
          go_wp2
          go_ret
          exact ⟨by rw [HN2.out]; rfl, hb2⟩
      · have hall := all_take (xs := xs) (fun j hj => G.out j hj (by omega))
        have HE : Hid (listT xs = okOr T) := (by unfold listT; rw [if_pos ⟨h12, hall⟩, HT.out, List.take_of_length_le (by omega)] : listT xs = okOr T)
        clear hall G hr hs
        go_wp2_with fail
        refine (spec_or T _ (by omega)).mono ?_
        rintro e w3 ⟨rfl, hb3⟩
        go_wp2
        go_ret
        exact ⟨by rw [HE.out]; rfl, hbel.trans (hb3.mono hbel.size)⟩
  · have e : listT xs = ⟨#[]⟩ := by unfold listT; rw [if_neg (fun c => h12 c.1)]
    have h12' : (12 : Int) < (xs.length : Int) := by omega
    rw [e]
    go_enter Try.func58, Try.ntmps58
    go_wp2
    go_ret
    exact ⟨rfl, Below.refl _ _⟩
end Go.Proofs.Ytaeecaebjafnpaa
