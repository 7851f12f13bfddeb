/- The program's functions of chapter 1, one contract each, at this seat. -/
import Derived.Test.YtpidfofjjdjkdabDoorRows
import Derived.Test.YtpidfofjjdjkdabDoorNum
import Derived.Test.YtpidfofjjdjkdabDoorOwn
import Derived.Test.YtpidfofjjdjkdabDoorVarMath
import Derived.Test.YtpidfofjjdjkdabDoorReadVarMath
import Derived.Test.YtpidfofjjdjkdabDoorHexMath
import Derived.Test.YtpidfofjjdjkdabDoorUnhexMath
import Derived.Test.YtpidfofjjdjkdabDoorDecMath
import Derived.Test.YtpidfofjjdjkdabDoorImplHex
import Derived.WalkKit
import Derived.WalkSpells
import Derived.WalkLawsBesides
import Derived.WalkMore
import Derived.LoopN
import Derived.Deep.RegionHeld3
import Derived.Deep.AppendLies
import Derived.Lib.Bytealg
set_option linter.unusedVariables false
namespace Go.Proofs.YtpidfofjjdjkdabDoor
open Go.RowKit Own Dec

theorem neg_yes (s : ByteArray) (h : 0 < s.size) (h0 : s[0].toNat = 45) : neg s.data.toList = true := by
  have hl : 0 < s.data.toList.length := h
  have e : s.data.toList = s[0] :: s.data.toList.drop 1 := List.drop_eq_getElem_cons (l := s.data.toList) (i := 0) hl
  have e2 : s[0] = 45 := UInt8.toNat_inj.1 h0
  rw [e, e2]; rfl

theorem neg_no (s : ByteArray) (h : s.size = 0 ∨ ∃ h : 0 < s.size, s[0].toNat ≠ 45) : neg s.data.toList = false := by
  apply (rest_of _ _).2
  intro r hr
  have hl := congrArg List.length hr
  have hs : s.data.toList.length = s.size := rfl
  rw [hs, List.length_cons] at hl
  rcases h with h | ⟨h, h0⟩
  · omega
  · apply h0
    have hl2 : 0 < s.data.toList.length := h
    have e : s[0] = s.data.toList[0] := rfl
    rw [e]
    simp [hr]

/-- A call of ReadDec has ended well: it answers what it may, and what was there is as it was. -/
def RdPost (s : ByteArray) (w : World) (e : Ending) (w' : World) : Prop := ∃ n b, e = .returned (.tuple #[.int .i64 n, .bool b]) ∧ Ans s.data.toList n b ∧ Below w.heap.size w w'

theorem rdPost {s : ByteArray} {w w' : World} (n : Int) (b : Bool) (h : Ans s.data.toList n b) (hb : Below w.heap.size w w') : RdPost s w (.returned (.tuple #[.int .i64 n, .bool b])) w' := ⟨n, b, rfl, h, hb⟩

/-- The decimal digit that a byte is, or -1. -/
def d10 (b : UInt8) : Int := Lib.indexByte (Hex.signs.take 10) b

theorem d10_yes (b : UInt8) (h : isD b = true) : d10 b = (b.toNat : Int) - 48 := by
  unfold d10; rw [index10_of, if_pos ((isD_iff b).1 h)]

theorem d10_no (b : UInt8) (h : isD b = false) : d10 b = -1 := by
  unfold d10; rw [index10_of, if_neg (fun hh => by have := (isD_iff b).2 hh; simp_all)]

theorem digit10 (b : UInt8) (w : World) :
    Calls Tryd.prog 23 #[.int .u8 (b.toNat : Int), .int .i64 10] w fun e w' => e = .returned (.int .i64 (d10 b)) ∧ w = w' := (digitOf10 b w).mono fun _ _ h => ⟨h.1, h.2.symm⟩

theorem ret2d {a b : Int} {c d : Bool} (h : a = b) (k : c = d) : Ending.returned (.tuple #[.int .i64 a, .bool c]) = .returned (.tuple #[.int .i64 b, .bool d]) := by rw [h, k]

theorem all_snoc (s : ByteArray) (j : Nat) (h : j < s.size) (G : ∀ b ∈ s.data.toList.take j, isD b = true) (g : isD s[j] = true) : ∀ b ∈ s.data.toList.take (j + 1), isD b = true := by
  rw [Num.take_snoc s j h]
  intro b hb
  rcases List.mem_append.1 hb with hb | hb
  · exact G b hb
  · simp only [List.mem_singleton] at hb; rw [hb]; exact g

theorem dval_take_bd (s : ByteArray) (j : Nat) (hj : j ≤ 9) (G : ∀ b ∈ s.data.toList.take j, isD b = true) : dval (s.data.toList.take j) < 1000000000 := by
  have h1 := dval_lt _ G
  have h2 : 10 ^ (s.data.toList.take j).length ≤ 10 ^ 9 := Nat.pow_le_pow_right (by omega) (by have := List.length_take_le j s.data.toList; omega)
  have e : 10 ^ 9 = 1000000000 := by decide
  omega

set_option maxRecDepth 100000 in
set_option maxHeartbeats 800000 in
theorem readDigits_yes (s : ByteArray) (w : World) (h : s.size ≤ 9) (hd : ∀ b ∈ s.data.toList, isD b = true) :
    Calls Tryd.prog 21 #[.string s] w fun e w' => e = .returned (.tuple #[.int .i64 (dval s.data.toList : Nat), .bool true]) ∧ w = w' := by
  have HD : Hid (∀ b ∈ s.data.toList, isD b = true) := hd
  clear hd
  go_enter Tryd.func21, Tryd.ntmps21
  go_wp2
  go_step3
  go_wp2
  go_step3
  go_wp2
  go_loop [4, 5, 10] (fun n o i => ∃ j : Nat, j ≤ s.size ∧ i = .int .i64 j ∧ o = .bool true ∧ n = .int .i64 (dval (s.data.toList.take j) : Nat)) (fun _ _ i => 9 - (intOf i).toNat)
  case atStart => exact ⟨0, by omega, rfl, rfl, rfl⟩
  case round =>
    obtain ⟨j, hj, rfl, rfl, rfl⟩ := hrel
    by_cases hlt : j < s.size
    · have G : Hid (∀ b ∈ s.data.toList.take j, isD b = true) := fun b hb => HD.out b (List.mem_of_mem_take hb)
      have hb := dval_take_bd s j (by omega) G.out
      have g : isD s[j] = true := HD.out _ (List.getElem_mem (l := s.data.toList) hlt)
      have g2 := (isD_iff _).1 g
      have e10 := d10_yes s[j] g
      have E : Hid (dval (s.data.toList.take (j + 1)) = dval (s.data.toList.take j) * 10 + (s[j].toNat - 48)) := by show _ = _; rw [Num.take_snoc s j hlt, dval_snoc]
      clear g G
      go_wp2_with (go_at_call 23; refine (digit10 _ _).mono ?_; rintro e w' ⟨rfl, rfl⟩)
      go_round
      case rel => exact ⟨j + 1, by omega, by go_num, rfl, by rw [E.out]; go_num⟩
      case measure => simp [intOf]; omega
    · have e : s.data.toList.take j = s.data.toList := List.take_of_length_le (by have : s.data.toList.length = s.size := rfl; omega)
      rw [e]
      clear e
      go_wp2
      try rw [Exit.noGoto_ret]
      go_ret2
      exact ⟨rfl, rfl⟩

set_option maxRecDepth 100000 in
set_option maxHeartbeats 800000 in
theorem readDigits_no (s : ByteArray) (w : World) (h : s.size ≤ 9) (hd : ¬ ∀ b ∈ s.data.toList, isD b = true) :
    Calls Tryd.prog 21 #[.string s] w fun e w' => e = .returned (.tuple #[.int .i64 0, .bool false]) ∧ w = w' := by
  have HD : Hid (¬ ∀ b ∈ s.data.toList, isD b = true) := hd
  clear hd
  go_enter Tryd.func21, Tryd.ntmps21
  go_wp2
  go_step3
  go_wp2
  go_step3
  go_wp2
  go_loop [4, 5, 10] (fun n o i => ∃ j : Nat, j ≤ s.size ∧ i = .int .i64 j ∧ o = .bool true ∧ n = .int .i64 (dval (s.data.toList.take j) : Nat) ∧ Hid (∀ b ∈ s.data.toList.take j, isD b = true)) (fun _ _ i => 9 - (intOf i).toNat)
  case atStart => exact ⟨0, by omega, rfl, rfl, rfl, fun b hb => by simp at hb⟩
  case round =>
    obtain ⟨j, hj, rfl, rfl, rfl, G⟩ := hrel
    by_cases hlt : j < s.size
    · have hb := dval_take_bd s j (by omega) G.out
      cases g : isD s[j] with
      | true =>
        have g2 := (isD_iff _).1 g
        have e10 := d10_yes s[j] g
        have E : Hid (dval (s.data.toList.take (j + 1)) = dval (s.data.toList.take j) * 10 + (s[j].toNat - 48)) := by show _ = _; rw [Num.take_snoc s j hlt, dval_snoc]
        have G' : Hid (∀ b ∈ s.data.toList.take (j + 1), isD b = true) := all_snoc s j hlt G.out g
        clear g G
        go_wp2_with (go_at_call 23; refine (digit10 _ _).mono ?_; rintro e w' ⟨rfl, rfl⟩)
        go_round
        case rel => exact ⟨j + 1, by omega, by go_num, rfl, by rw [E.out]; go_num, G'⟩
        case measure => simp [intOf]; omega
      | false =>
        have e10 := d10_no s[j] g
        clear g
        go_wp2_with (go_at_call 23; refine (digit10 _ _).mono ?_; rintro e w' ⟨rfl, rfl⟩)
        try rw [Exit.noGoto_ret]
        go_ret2
        exact ⟨rfl, rfl⟩
    · have e : s.data.toList.take j = s.data.toList := List.take_of_length_le (by have : s.data.toList.length = s.size := rfl; omega)
      exact absurd (by have := G.out; rw [e] at this; exact this) HD.out

theorem no_empty (l : List UInt8) (h : rest l = []) : Ans l 0 false := by
  refine Or.inr ⟨?_, rfl, rfl⟩
  rintro ⟨h1 | h1, _⟩
  · obtain ⟨_, b, r, e, _⟩ := h1; rw [h] at e; cases e
  · rw [h1] at h; cases h

theorem no_long (l : List UInt8) (h : 9 < (rest l).length) : Ans l 0 false := Or.inr ⟨fun hc => by have := hc.2; omega, rfl, rfl⟩

theorem no_nought (l : List UInt8) (b : UInt8) (r : List UInt8) (e : rest l = b :: r) (hb : b.toNat = 48) (hl : l ≠ [48]) : Ans l 0 false := by
  refine Or.inr ⟨?_, rfl, rfl⟩
  rintro ⟨h1 | h1, _⟩
  · obtain ⟨_, b', r', e', hb'⟩ := h1
    rw [e] at e'
    injection e' with e1 e2
    rw [← e1] at hb'
    exact hb' hb
  · exact hl h1

theorem no_digit (l : List UInt8) (h : ¬ ∀ b ∈ rest l, isD b = true) : Ans l 0 false := by
  refine Or.inr ⟨?_, rfl, rfl⟩
  rintro ⟨h1 | h1, _⟩
  · exact h h1.1
  · apply h; rw [h1]; decide

theorem yes_digit (l : List UInt8) (h : ∀ b ∈ rest l, isD b = true) (h9 : (rest l).length ≤ 9) (h0 : (∃ b r, rest l = b :: r ∧ b.toNat ≠ 48) ∨ l = [48]) : Ans l (valD l) true := by
  refine Or.inl ⟨⟨?_, h9⟩, rfl, rfl⟩
  rcases h0 with h0 | h0
  · exact Or.inl ⟨h, h0⟩
  · exact Or.inr h0

set_option maxRecDepth 100000 in
set_option maxHeartbeats 800000 in
theorem cut_yes (s : ByteArray) (w : World) (hs : s.size ≤ 1048576) (h0 : 0 < s.size) (hx : ((s.extract 0 1).toList == [45]) = true) :
    Calls Tryd.prog 20 #[.string s, .string ⟨#[45]⟩] w fun e w' => e = .returned (.tuple #[.string (s.extract 1 s.size), .bool true]) ∧ w = w' := by
  go_enter Tryd.func20, Tryd.ntmps20
  go_wp2
  go_ret2
  exact ⟨rfl, rfl⟩

set_option maxRecDepth 100000 in
set_option maxHeartbeats 800000 in
theorem cut_no (s : ByteArray) (w : World) (hs : s.size ≤ 1048576) (h0 : 0 < s.size) (hx : ((s.extract 0 1).toList == [45]) = false) :
    Calls Tryd.prog 20 #[.string s, .string ⟨#[45]⟩] w fun e w' => e = .returned (.tuple #[.string s, .bool false]) ∧ w = w' := by
  go_enter Tryd.func20, Tryd.ntmps20
  go_wp2
  go_ret2
  exact ⟨rfl, rfl⟩

set_option maxRecDepth 100000 in
set_option maxHeartbeats 800000 in
theorem cut_none (s : ByteArray) (w : World) (h0 : s.size = 0) :
    Calls Tryd.prog 20 #[.string s, .string ⟨#[45]⟩] w fun e w' => e = .returned (.tuple #[.string s, .bool false]) ∧ w = w' := by
  have h1 : ¬ (1 : Int) ≤ (s.size : Int) := by omega
  go_enter Tryd.func20, Tryd.ntmps20
  go_wp2
  go_ret2
  exact ⟨rfl, rfl⟩

/-- What CutPrefix leaves of a text. -/
theorem cut (s : ByteArray) (hs : s.size ≤ 1048576) : ∃ d : ByteArray, d.data.toList = rest s.data.toList ∧ d.size ≤ 1048576 ∧
    ∀ w, Calls Tryd.prog 20 #[.string s, .string ⟨#[45]⟩] w fun e w' => e = .returned (.tuple #[.string d, .bool (neg s.data.toList)]) ∧ w = w' := by
  by_cases h0 : 0 < s.size
  · have hl : 0 < s.data.toList.length := h0
    have e : s.data.toList = s[0] :: s.data.toList.drop 1 := List.drop_eq_getElem_cons (l := s.data.toList) (i := 0) hl
    have ex : (s.extract 0 1).toList = [s[0]] := by
      rw [ByteArray.toList_eq]
      have : (s.extract 0 1).data.toList = s.data.toList.take 1 := by simp [ByteArray.data_extract]
      rw [this, e]; rfl
    by_cases h1 : s[0] = 45
    · refine ⟨s.extract 1 s.size, ?_, ?_, fun w => ?_⟩
      · have : (s.extract 1 s.size).data.toList = s.data.toList.drop 1 := by
          simp only [ByteArray.data_extract, Array.toList_extract]
          rw [List.extract_eq_take_drop]
          exact List.take_of_length_le (by rw [List.length_drop]; have : s.data.toList.length = s.size := rfl; omega)
        rw [this, e, h1]; rfl
      · rw [ByteArray.size_extract]; omega
      · rw [neg_yes s h0 (by rw [h1]; rfl)]
        exact cut_yes s w hs h0 (by rw [ex, h1]; rfl)
    · have hn : neg s.data.toList = false := neg_no s (Or.inr ⟨h0, fun hh => h1 (UInt8.toNat_inj.1 hh)⟩)
      refine ⟨s, ?_, hs, fun w => ?_⟩
      · refine ((rest_of _ ?_).1).symm
        intro r hr
        rw [hr] at hn
        cases hn
      · rw [hn]
        exact cut_no s w hs h0 (by rw [ex]; simpa using h1)
  · have h2 : s.size = 0 := by omega
    have e : s.data.toList = [] := List.length_eq_zero_iff.1 h2
    refine ⟨s, by rw [e]; rfl, hs, fun w => ?_⟩
    rw [neg_no s (Or.inl h2)]
    exact cut_none s w h2

set_option maxRecDepth 100000 in
set_option maxHeartbeats 3200000 in
theorem impl_rdec (s : ByteArray) (w : World) (h : s.size ≤ 1048576) :
    Calls Tryd.prog 11 #[.string s] w fun e w' => RdPost s w e w' := by
  obtain ⟨d, er, hds, hc⟩ := cut s h
  have hdl : d.data.toList.length = d.size := rfl
  obtain ⟨sg, hsg⟩ : ∃ sg, neg s.data.toList = sg := ⟨_, rfl⟩
  rw [hsg] at hc
  have ER : Hid (d.data.toList = rest s.data.toList) := er
  have HC : Hid (∀ w, Calls Tryd.prog 20 #[.string s, .string ⟨#[45]⟩] w fun e w' => e = .returned (.tuple #[.string d, .bool sg]) ∧ w = w') := hc
  have SG : Hid (neg s.data.toList = sg) := hsg
  clear hc er hsg
  by_cases h0 : d.size = 0
  · have he : d.toList.isEmpty = true := by rw [ByteArray.toList_eq]; simp [List.length_eq_zero_iff.1 h0]
    have A : Hid (Ans s.data.toList 0 false) := no_empty _ (by rw [← ER.out]; exact List.length_eq_zero_iff.1 h0)
    go_enter Tryd.func11, Tryd.ntmps11
    go_wp2_with (go_at_call 20; refine (HC.out _).mono ?_; rintro e w' ⟨rfl, rfl⟩)
    go_ret2
    exact rdPost 0 false A.out (Below.refl _ _)
  have he : d.toList.isEmpty = false := by
    rw [ByteArray.toList_eq]
    cases hh : d.data.toList with
    | nil => rw [hh] at hdl; exact absurd hdl.symm h0
    | cons => rfl
  by_cases h9 : 9 < d.size
  · have A : Hid (Ans s.data.toList 0 false) := no_long _ (by rw [← ER.out, hdl]; exact h9)
    go_enter Tryd.func11, Tryd.ntmps11
    go_wp2_with (go_at_call 20; refine (HC.out _).mono ?_; rintro e w' ⟨rfl, rfl⟩)
    go_ret2
    exact rdPost 0 false A.out (Below.refl _ _)
  have hp : 0 < d.size := by omega
  have ed : d.data.toList = d[0] :: d.data.toList.drop 1 := List.drop_eq_getElem_cons (l := d.data.toList) (i := 0) hp
  have ED : Hid (d.data.toList = d[0] :: d.data.toList.drop 1) := ed
  clear ed h0
  by_cases h48 : d[0].toNat = 48 ∧ s.data.toList ≠ [48]
  · have A : Hid (Ans s.data.toList 0 false) := no_nought _ _ _ (by rw [← ER.out]; exact ED.out) h48.1 h48.2
    have c1 : ((d[0].toNat : Int) == 48) = true := by have := h48.1; simp; omega
    have c2 : (s.toList == [48]) = false := by rw [ByteArray.toList_eq]; simpa using h48.2
    clear h48
    go_enter Tryd.func11, Tryd.ntmps11
    go_wp2_with (go_at_call 20; refine (HC.out _).mono ?_; rintro e w' ⟨rfl, rfl⟩)
    go_ret2
    exact rdPost 0 false A.out (Below.refl _ _)
  have H0 : Hid ((∃ b r, rest s.data.toList = b :: r ∧ b.toNat ≠ 48) ∨ s.data.toList = [48]) := by
    by_cases e : s.data.toList = [48]
    · exact Or.inr e
    · exact Or.inl ⟨d[0], d.data.toList.drop 1, by rw [← ER.out]; exact ED.out, fun hh => h48 ⟨hh, e⟩⟩
  have hb9 : d.size ≤ 9 := by omega
  have hcase : (((d[0].toNat : Int) == 48) = false) ∨ (((d[0].toNat : Int) == 48) = true ∧ (s.toList == [48]) = true) := by
    by_cases e : d[0].toNat = 48
    · refine Or.inr ⟨by simp; omega, ?_⟩
      rw [ByteArray.toList_eq]
      have : s.data.toList = [48] := Classical.byContradiction fun hh => h48 ⟨e, hh⟩
      simpa using this
    · exact Or.inl (by simp; omega)
  clear h48
  by_cases hd : ∀ b ∈ d.data.toList, isD b = true
  · have A : Hid (Ans s.data.toList (valD s.data.toList) true) := yes_digit _ (by rw [← ER.out]; exact hd) (by rw [← ER.out, hdl]; exact hb9) H0.out
    have HR : Hid (∀ w, Calls Tryd.prog 21 #[.string d] w fun e w' => e = .returned (.tuple #[.int .i64 (dval d.data.toList : Nat), .bool true]) ∧ w = w') := fun w => readDigits_yes d w hb9 hd
    have hbd : dval d.data.toList < 1000000000 := by
      have := dval_take_bd d d.size (by omega) (fun b hb => hd b (List.mem_of_mem_take hb))
      rwa [List.take_of_length_le (by rw [hdl]; exact Nat.le_refl _)] at this
    have V : Hid (valD s.data.toList = if sg then -(dval d.data.toList : Int) else (dval d.data.toList : Int)) := by show _ = _; unfold valD; rw [SG.out, ER.out]
    clear hd
    cases sg with
    | true =>
      rcases hcase with c1 | ⟨c1, c2⟩
      all_goals
        go_enter Tryd.func11, Tryd.ntmps11
        go_wp2_with (first | (go_at_call 20; refine (HC.out _).mono ?_; rintro e w' ⟨rfl, rfl⟩) | (go_at_call 21; refine (HR.out _).mono ?_; rintro e w' ⟨rfl, rfl⟩))
        go_ret2
        exact rdPost (-(dval d.data.toList : Int)) true (by have := A.out; rw [V.out] at this; exact this) (Below.refl _ _)
    | false =>
      rcases hcase with c1 | ⟨c1, c2⟩
      all_goals
        go_enter Tryd.func11, Tryd.ntmps11
        go_wp2_with (first | (go_at_call 20; refine (HC.out _).mono ?_; rintro e w' ⟨rfl, rfl⟩) | (go_at_call 21; refine (HR.out _).mono ?_; rintro e w' ⟨rfl, rfl⟩))
        go_ret2
        exact rdPost (dval d.data.toList : Int) true (by have := A.out; rw [V.out] at this; exact this) (Below.refl _ _)
  · have A : Hid (Ans s.data.toList 0 false) := no_digit _ (by rw [← ER.out]; exact hd)
    have HR : Hid (∀ w, Calls Tryd.prog 21 #[.string d] w fun e w' => e = .returned (.tuple #[.int .i64 0, .bool false]) ∧ w = w') := fun w => readDigits_no d w hb9 hd
    clear hd
    cases sg with
    | true =>
      rcases hcase with c1 | ⟨c1, c2⟩
      all_goals
        go_enter Tryd.func11, Tryd.ntmps11
        go_wp2_with (first | (go_at_call 20; refine (HC.out _).mono ?_; rintro e w' ⟨rfl, rfl⟩) | (go_at_call 21; refine (HR.out _).mono ?_; rintro e w' ⟨rfl, rfl⟩))
        go_ret2
        exact rdPost 0 false A.out (Below.refl _ _)
    | false =>
      rcases hcase with c1 | ⟨c1, c2⟩
      all_goals
        go_enter Tryd.func11, Tryd.ntmps11
        go_wp2_with (first | (go_at_call 20; refine (HC.out _).mono ?_; rintro e w' ⟨rfl, rfl⟩) | (go_at_call 21; refine (HR.out _).mono ?_; rintro e w' ⟨rfl, rfl⟩))
        go_ret2
        exact rdPost 0 false A.out (Below.refl _ _)

end Go.Proofs.YtpidfofjjdjkdabDoor
