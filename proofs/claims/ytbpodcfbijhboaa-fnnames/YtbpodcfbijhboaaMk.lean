/- How the laws mark a row that was handed out, and look whether it still bears the marks. -/
import Derived.Test.YtbpodcfbijhboaaNd0
import Derived.OwnWalk
import Derived.Laws.OwnMore
import Derived.Laws.IdiomStrings
set_option linter.unusedVariables false
namespace Go.Proofs.Ytbpodcfbijhboaa
open Go Go.RowKit Own

def strV (xs : List ByteArray) : List Value := xs.map Value.string
/-- The digits of a number; of 0 none; so many at most. -/
def decF : Nat → Nat → List UInt8
  | 0, _ => []
  | f + 1, m => if m = 0 then [] else decF f (m / 10) ++ [UInt8.ofNat (48 + m % 10)]
theorem decF_zero (f : Nat) : decF f 0 = [] := by
  cases f with
  | zero => rfl
  | succ f => rw [decF, if_pos rfl]
theorem decF_same (f : Nat) : ∀ g m, m ≤ f → m ≤ g → decF f m = decF g m := by
  induction f with
  | zero =>
    intro g m h _
    obtain rfl : m = 0 := by omega
    rw [decF_zero, decF_zero]
  | succ f ih =>
    intro g m h1 h2
    cases g with
    | zero =>
      obtain rfl : m = 0 := by omega
      rw [decF_zero, decF_zero]
    | succ g =>
      rw [decF, decF]
      by_cases h : m = 0
      · rw [if_pos h, if_pos h]
      · rw [if_neg h, if_neg h, ih g (m / 10) (by omega) (by omega)]
def decP (m : Nat) : List UInt8 := decF m m
theorem decP_zero : decP 0 = [] := rfl
theorem decP_pos (m : Nat) (h : m ≠ 0) : decP m = decP (m / 10) ++ [UInt8.ofNat (48 + m % 10)] := by
  unfold decP
  rw [decF_same m (m + 1) m (Nat.le_refl _) (by omega), decF, if_neg h, decF_same m (m / 10) (m / 10) (by omega) (Nat.le_refl _)]
theorem text_snoc (m : Nat) (t : List UInt8) (h : m ≠ 0) : decP m ++ t = decP (m / 10) ++ (UInt8.ofNat (48 + m % 10) :: t) := by
  rw [decP_pos m h]; simp
theorem text_add (b : UInt8) (t : List UInt8) : (⟨#[b]⟩ : ByteArray) ++ ⟨t.toArray⟩ = ⟨(b :: t).toArray⟩ := by
  rw [ByteArray.mk_append_mk [b]]; rfl
/-- A mark. -/
def mt (k : Nat) : ByteArray := ⟨(109 :: decP k).toArray⟩

set_option maxRecDepth 100000 in
set_option maxHeartbeats 800000 in
theorem markText_is (n : Nat) (w : World) (h0 : n ≠ 0) (h : n ≤ 1000000) :
    Calls Try.prog 60 #[.int .i64 n] w fun e w' => e = .returned (.string (mt n)) ∧ Below w.heap.size w w' := by
  have hz : ¬ (n : Int) ≤ 0 := by omega
  have hcv := conv_one (P := Try.prog) 22 9 5 Try.underlying22 Try.underlying5 Try.underlying9
  go_enter Try.func60, Try.ntmps60
  go_wp2
  go_loopw [0, 3] (fun a t wr => ∃ (q : Nat) (l : List UInt8), a = .int .i64 q ∧ q ≤ n ∧ t = .string ⟨l.toArray⟩ ∧ l.length + q ≤ n ∧ Hid (decP q ++ l = decP n) ∧ Below w.heap.size w wr) (fun a _ _ => (intOf a).toNat)
  case atStart => exact ⟨n, [], rfl, by omega, rfl, by simp, by show _ = _; simp, Below.refl _ _⟩
  case round =>
    obtain ⟨q, l, rfl, hq, rfl, hl, E, hbel⟩ := hrel
    by_cases h1 : q = 0
    · have hz1 : ¬ (0 : Int) < (q : Int) := by omega
      have E' : Hid ((⟨#[109]⟩ : ByteArray) ++ ⟨l.toArray⟩ = mt n) := by
        have := E.out; rw [h1, decP_zero, List.nil_append] at this
        show _ = _
        rw [text_add, this]; rfl
      clear h1
      go_wp2
      go_ret
      rw [← E'.out]; exact ⟨rfl, hbel⟩
    · have hz1 : (0 : Int) < (q : Int) := by omega
      have E' : Hid (decP (q / 10) ++ (UInt8.ofNat (48 + q % 10) :: l) = decP n) := by have := E.out; rw [text_snoc q l h1] at this; exact this
      have e8 : Hid ((48 : UInt8) + UInt8.ofNat (q % 10) = UInt8.ofNat (48 + q % 10)) := (UInt8.ofNat_add 48 (q % 10)).symm
      clear E
      go_wp2
      go_roundw
      case rel => exact ⟨q / 10, _, by go_num, by omega, by rw [text_add, e8.out], by simp; omega, E', hbel.alloc hbel.size _⟩
      case measure => simp [intOf]; omega

/-- The marks of a row. -/
def mtL (n : Nat) : List ByteArray := (List.range n).map fun i => mt (i + 1)
/-- The cells of a row of which the first k are marked. -/
def rowM (vs : List Value) (k : Nat) : List Value := strV (mtL k) ++ vs.drop k
theorem mtL_len (n : Nat) : (mtL n).length = n := by simp [mtL]
theorem rowM_zero (vs : List Value) : rowM vs 0 = vs := by simp [rowM, mtL, strV]
theorem rowM_full (vs : List Value) : rowM vs vs.length = strV (mtL vs.length) := by simp [rowM]
theorem rowM_len (vs : List Value) (k : Nat) (h : k ≤ vs.length) : (rowM vs k).length = vs.length := by
  unfold rowM strV; rw [List.length_append, List.length_map, mtL_len, List.length_drop]; omega
theorem rowM_set (vs : List Value) (k : Nat) (h : k < vs.length) : (rowM vs k).set k (.string (mt (k + 1))) = rowM vs (k + 1) := by
  unfold rowM strV
  rw [List.set_append_right _ _ (by rw [List.length_map, mtL_len]; exact Nat.le_refl _), List.length_map, mtL_len, Nat.sub_self, List.drop_eq_getElem_cons h]
  unfold mtL
  rw [List.range_succ, List.map_append, List.map_append, List.append_assoc]
  rfl

set_option maxRecDepth 100000 in
set_option maxHeartbeats 800000 in
theorem markS_is (B g n cap : Nat) (vs : List Value) (w : World) (hn : n ≤ 12) (hown : w.ownsRow B 9 1 (.slice (some ⟨g, 0, none⟩) n cap) n vs) :
    Calls Try.prog 50 #[.slice (some ⟨g, 0, none⟩) n cap, .int .i64 1] w fun e w' => e = .returned (.int .i64 ((n : Int) + 1)) ∧ w'.ownsRow B 9 1 (.slice (some ⟨g, 0, none⟩) n cap) n (strV (mtL n)) ∧ w.grownBy w' (some g) := by
  have hvl : vs.length = n := by have := hown.1; simpa using this
  have hg := (hown.lt g rfl).2
  go_enter Try.func50, Try.ntmps50
  go_wp2
  go_loopw [1, 5] (fun a i wr => ∃ k : Nat, k ≤ n ∧ i = .int .i64 k ∧ a = .int .i64 ((k : Int) + 1) ∧ wr.ownsRow B 9 1 (.slice (some ⟨g, 0, none⟩) n cap) n (rowM vs k) ∧ w.grownBy wr (some g)) (fun _ i _ => n - (intOf i).toNat)
  case atStart => exact ⟨0, by omega, rfl, rfl, by rw [rowM_zero]; exact hown, World.grownBy.refl w _⟩
  case round =>
    clear hown
    obtain ⟨k, hk, rfl, rfl, hown, hgr⟩ := hrel
    by_cases hlt : k < n
    · have hM := fun w => markText_is (k + 1) w (by omega) (by omega)
      have e1 : (((k + 1 : Nat) : Nat) : Int) = (k : Int) + 1 := by omega
      rw [e1] at hM
      have HS : Hid ((rowM vs k).set k (.string (mt (k + 1))) = rowM vs (k + 1)) := rowM_set vs k (by omega)
      have hrl := rowM_len vs k (by omega)
      generalize mt (k + 1) = X at hM HS
      go_wp2_with fail
      refine (hM _).mono ?_
      rintro e w1 ⟨rfl, hb1⟩
      have hown1 := own_later hown hb1
      have hgr1 : w.grownBy w1 (some g) := ⟨hb1.os.trans hgr.os, hb1.tape.trans hgr.tape, hb1.output.trans hgr.output, Nat.le_trans hgr.size hb1.size, fun j hj hn => (hb1.block j (Nat.lt_of_lt_of_le hj hgr.size)).trans (hgr.block j hj hn)⟩
      clear hown hgr hb1
      have hto : ∃ v, w1.cell? ⟨g, k, none⟩ = some v := by
        rw [hown1.cellAt _ (by omega)]
        exact ⟨_, List.getElem?_eq_getElem (by omega)⟩
      obtain ⟨v, hto⟩ := hto
      have hfz := hown1.frozenAt k
      have hs := hown1.stored k (.string X)
      rw [HS.out] at hs
      have hgr2 : w.grownBy (w1.setCell ⟨g, k, none⟩ (.string X)) (some g) := ⟨hs.2.os.trans hgr1.os, hs.2.tape.trans hgr1.tape, hs.2.output.trans hgr1.output, Nat.le_trans hgr1.size hs.2.size, fun j hj hn => (hs.2.block j (Nat.lt_of_lt_of_le hj hgr1.size) hn).trans (hgr1.block j hj hn)⟩
      have R : Hid (∃ k' : Nat, k' ≤ n ∧ Value.int .i64 ((k : Int) + 1) = .int .i64 k' ∧ Value.int .i64 ((k : Int) + 1 + 1) = .int .i64 ((k' : Int) + 1) ∧ (w1.setCell ⟨g, k, none⟩ (.string X)).ownsRow B 9 1 (.slice (some ⟨g, 0, none⟩) n cap) n (rowM vs k') ∧ w.grownBy (w1.setCell ⟨g, k, none⟩ (.string X)) (some g)) :=
        ⟨k + 1, by omega, by go_num, by go_num, hs.1, hgr2⟩
      clear hs hgr2 hgr1 hown1 hM
      go_wp2
      go_roundw
      case rel => first | exact R.out | (have R := R.out; (repeat apply Exists.intro); exact ⟨R, rfl⟩)
      case measure => simp [intOf]; omega
    · obtain rfl : k = n := by omega
      have hf := rowM_full vs
      rw [hvl] at hf
      rw [hf] at hown
      go_wp2
      go_ret
      exact ⟨rfl, hown, hgr⟩
set_option maxRecDepth 100000 in
set_option maxHeartbeats 800000 in
theorem heldS_is (a : Option Addr) (n cap : Nat) (w : World) (hn : n ≤ 12) (hr : RowAt Value.string w a (mtL n)) :
    Calls Try.prog 51 #[.slice a n cap, .int .i64 1] w fun e w' => e = .returned (.int .i64 ((n : Int) + 1)) ∧ Below w.heap.size w w' := by
  go_enter Try.func51, Try.ntmps51
  go_wp2
  go_loopw [1, 5] (fun x i wr => ∃ k : Nat, k ≤ n ∧ i = .int .i64 k ∧ x = .int .i64 ((k : Int) + 1) ∧ Below w.heap.size w wr) (fun _ i _ => n - (intOf i).toNat)
  case atStart => exact ⟨0, by omega, rfl, rfl, Below.refl _ _⟩
  case round =>
    obtain ⟨k, hk, rfl, rfl, hbel⟩ := hrel
    by_cases hlt : k < n
    · obtain ⟨b, off, rfl, hbl, hcell⟩ := hr k (by rw [mtL_len]; exact hlt)
      have hx : (mtL n)[k]'(by rw [mtL_len]; exact hlt) = mt (k + 1) := by simp [mtL]
      rw [hx, ← hbel.cell (p := ⟨b, off + k, none⟩) hbl] at hcell
      have hM := fun w => markText_is (k + 1) w (by omega) (by omega)
      have e1 : (((k + 1 : Nat) : Nat) : Int) = (k : Int) + 1 := by omega
      rw [e1] at hM
      generalize mt (k + 1) = X at hM hcell
      have hbl2 := Nat.lt_of_lt_of_le hbl hbel.size
      go_wp2
      go_region_with (go_at_call 60; refine (hM _).mono ?_; rintro e w3 ⟨rfl, hb3⟩; have hc3 := (hb3.cell (p := ⟨b, off + k, none⟩) hbl2).trans hcell)
      all_goals
        go_wp2
        go_roundw
        case rel => exact ⟨k + 1, by omega, by go_num, by go_num, hbel.trans ((Below.drew (Below.refl _ _)).trans hb3 |>.mono hbel.size)⟩
        case measure => simp [intOf]; omega
    · obtain rfl : k = n := by omega
      go_wp2
      go_ret
      exact ⟨rfl, hbel⟩

theorem markS_nil (c : Nat) (w : World) : Calls Try.prog 50 #[.slice none 0 c, .int .i64 1] w fun e w' => e = .returned (.int .i64 1) ∧ w = w' := by
  go_enter Try.func50, Try.ntmps50
  go_wp2
  go_loop [1, 5] (fun a i => a = .int .i64 1 ∧ i = .int .i64 0) (fun _ _ => 0)
  case atStart => exact ⟨rfl, rfl⟩
  case round =>
    obtain ⟨rfl, rfl⟩ := hrel
    go_wp2
    go_ret
    exact ⟨rfl, rfl⟩
/-- A row that was handed out takes the marks, and nothing else is written into. -/
theorem mark_any (B : Nat) (a : Option Addr) (n c : Nat) (vs : List Value) (w0 w : World) (hn : n ≤ 12) (hb : Below B w0 w) (hown : w.ownsRow B 9 1 (.slice a n c) n vs) :
    Calls Try.prog 50 #[.slice a n c, .int .i64 1] w fun e w' => e = .returned (.int .i64 ((n : Int) + 1)) ∧ RowAt Value.string w' a (mtL n) ∧ Below B w0 w' := by
  rcases hown.2 with ⟨h1, h2⟩ | ⟨g, cap, cur, h1, h2, _⟩
  · injection h1 with e1 e2 e3
    subst e1 e3 h2
    refine (markS_nil 0 w).mono ?_
    rintro e w' ⟨rfl, rfl⟩
    exact ⟨rfl, RowAt.nil _ _, hb⟩
  · injection h1 with e1 e2 e3
    subst e1 e3
    refine (markS_is B g n c vs w hn hown).mono ?_
    rintro e w' ⟨rfl, ho, hg⟩
    have hgl := (hown.lt g rfl).2
    exact ⟨rfl, RowAt.own ho, hb.grown hg (by omega) (fun k hk => by injection hk with hk; omega)⟩
end Go.Proofs.Ytbpodcfbijhboaa
