/- Rows of pairs that are right: the program. -/
import Derived.Test.YtflajkbbggmdjaaPair2
set_option linter.unusedVariables false
namespace Go.Proofs.Ytflajkbbggmdjaa
open Go Go.RowKit Draw

/-- At most six pairs, each right, none twice. -/
def pairsB (g : Int → Int → Bool) (xs : List (Int × Int)) : Bool := decide (xs.length ≤ 6) && (xs.all (fun p => g p.1 p.2) && decide xs.Nodup)
theorem pairsB_many (g : Int → Int → Bool) (xs : List (Int × Int)) (h : ¬ xs.length ≤ 6) : pairsB g xs = false := by unfold pairsB; simp [h]
theorem pairsB_not {g : Int → Int → Bool} {xs : List (Int × Int)} {k : Nat} (hk : k < xs.length) (h : g xs[k].1 xs[k].2 = false) : pairsB g xs = false := by
  unfold pairsB
  have : xs.all (fun p => g p.1 p.2) = false := by
    rw [List.all_eq_false]
    exact ⟨xs[k], List.getElem_mem hk, by rw [h]; simp⟩
  rw [this]; simp
theorem pairsB_all {g : Int → Int → Bool} {xs : List (Int × Int)} (h6 : xs.length ≤ 6) (h : ∀ j (hj : j < xs.length), g xs[j].1 xs[j].2 = true) : pairsB g xs = decide xs.Nodup := by
  unfold pairsB
  have : xs.all (fun p => g p.1 p.2) = true := by
    rw [List.all_eq_true]
    intro p hp
    obtain ⟨j, hj, rfl⟩ := List.getElem_of_mem hp
    exact h j hj
  rw [this, decide_eq_true h6]; simp
theorem nodup_take {xs : List (Int × Int)} {k : Nat} (hk : k < xs.length) : (xs.take (k + 1)).Nodup ↔ (xs.take k).Nodup ∧ xs[k] ∉ xs.take k := by
  rw [List.take_succ_eq_append_getElem hk]; exact nodup_snoc
theorem nodup_no {xs : List (Int × Int)} {k : Nat} (hk : k < xs.length) (h : xs[k] ∈ xs.take k) : ¬ xs.Nodup := fun hn =>
  ((nodup_take hk).1 (hn.sublist (List.take_sublist _ _))).2 h
theorem enters59 (args : Array Value) (w : World) : (callFunc 79 args).run Try.prog w = .ok (.enter 79 args) w := by
  simp [callFunc, Try.func79, mark, Try.f79]
theorem enters60 (args : Array Value) (w : World) : (callFunc 80 args).run Try.prog w = .ok (.enter 80 args) w := by
  simp [callFunc, Try.func80, mark, Try.f80]

set_option maxRecDepth 100000 in
set_option maxHeartbeats 3200000 in
theorem pairsOk_is (f : Nat) (g : Int → Int → Bool) (hen : ∀ (args : Array Value) (w : World), (callFunc f args).run Try.prog w = .ok (.enter f args) w)
    (hf : ∀ (a b : Int) (w : World), Calls Try.prog f #[pv a b] w fun e w' => e = .returned (.bool (g a b)) ∧ Below w.heap.size w w')
    (hg : ∀ a b, g a b = true → i64 a ∧ i64 b)
    (a : Option Addr) (cap : Nat) (xs : List (Int × Int)) (w : World) (hr : PRow w a xs) (hl : xs.length ≤ 1048576) :
    Calls Try.prog 78 #[.slice a xs.length cap, .func (.func f) #[] #[]] w fun e w' => e = .returned (.bool (pairsB g xs)) ∧ Below w.heap.size w w' := by
  by_cases h6 : xs.length ≤ 6
  · have hd : decide ((6 : Int) < (xs.length : Int)) = false := by simp; omega
    have hd2 : decide (6 < xs.length) = false := by simp; omega
    go_enter Try.func78, Try.ntmps78
    go_wp2
    go_loopw [12] (fun i wr => ∃ k : Nat, k ≤ xs.length ∧ i = .int .i64 k ∧ (∀ j (hj : j < xs.length), j < k → g xs[j].1 xs[j].2 = true) ∧ Below w.heap.size w wr) (fun i _ => xs.length - (intOf i).toNat)
    case atStart => exact ⟨0, by omega, rfl, fun j hj h => absurd h (by omega), Below.refl _ _⟩
    case round =>
      obtain ⟨k, hk, rfl, hall, hbel⟩ := hrel
      by_cases hlt : k < xs.length
      · obtain ⟨b, off, rfl, hbl, h0, h1⟩ := hr k hlt
        rw [← hbel.cell (p := ⟨b, off + k * 2, none⟩) hbl] at h0
        rw [← hbel.cell (p := ⟨b, off + k * 2 + 1, none⟩) hbl] at h1
        have hlt2 : (k : Int) < (xs.length : Int) := by omega
        have H : Hid (g xs[k].1 xs[k].2 = true → ∀ j (hj : j < xs.length), j < k + 1 → g xs[j].1 xs[j].2 = true) := (fun h j hj hjk => (if e : j = k then by subst e; exact h else hall j hj (by omega) : g xs[j].1 xs[j].2 = true))
        have HN : Hid (g xs[k].1 xs[k].2 = false → pairsB g xs = false) := (fun h => pairsB_not hlt h)
        clear hall hr
        generalize xs[k].1 = x at h0 H HN
        generalize xs[k].2 = y at h1 H HN
        obtain ⟨V, hV⟩ : ∃ V, wr.alloc (.cells #[.int .i64 x, .int .i64 y] 100) = V := ⟨_, rfl⟩
        have HC := hf x y V
        have BV : Below w.heap.size w V := by rw [← hV]; exact hbel.alloc hbel.size _
        have T : Blk wr.heap.size [.int .i64 x, .int .i64 y] V := by rw [← hV]; exact Blk.new _ _ _
        have d0 := T.at 0 rfl
        have d1 := T.at 1 rfl
        go_wp2_with fail
        try rw [hV]
        refine HC.mono ?_
        rintro e wx ⟨rfl, hbx⟩
        have BX := BV.trans (hbx.mono BV.size)
        clear HC hV h0 h1 BV hbx hbel d0 d1 T
        by_cases hh : g x y = true
        · have H1 : Hid (∀ j (hj : j < xs.length), j < k + 1 → g xs[j].1 xs[j].2 = true) := H.out hh
          rw [hh]
          clear H HN
          go_wp2
          go_roundw
          case rel => exact ⟨k + 1, by omega, by go_num, H1.out, BX⟩
          case measure => simp [intOf]; omega
        · rw [Bool.not_eq_true] at hh
          have H1 : Hid (pairsB g xs = false) := HN.out hh
          rw [hh]
          clear H HN
          go_wp2
          go_ret
          exact ⟨by rw [H1.out]; rfl, BX⟩
      · have HA : Hid (pairsB g xs = decide xs.Nodup) := pairsB_all h6 (fun j hj => hall j hj (by omega))
        have hin : ∀ p ∈ xs, i64 p.1 ∧ i64 p.2 := fun p hp => by
          obtain ⟨j, hj, rfl⟩ := List.getElem_of_mem hp
          exact hg _ _ (hall j hj (by omega))
        have HL := linksOf_is a cap xs wr (hr.later hbel) h6 hin
        clear hall hin
        go_wp2_with fail
        refine HL.mono ?_
        rintro e wx ⟨m, rfl, ⟨D, hD, hL⟩, _, hbx⟩
        have BX := hbel.trans (hbx.mono hbel.size)
        clear HL hbel hbx
        have hs1 := hL.2.2.1
        have HE : Hid (decide xs.Nodup = decide (((Maps.size D : Nat) : Int) = (xs.length : Int))) := by
          show decide xs.Nodup = _
          rw [decide_eq_decide, ← hL.2.2.2]
          omega
        clear hL
        go_wp2_with (first | (at_len; refine wpList_len_own _ rfl _ 130 rfl 137 3 Try.underlying130 _ m 6 D rfl hD ?_) | go_in)
        go_ret
        exact ⟨by rw [HA.out, HE.out]; rfl, BX⟩
  · have hd : decide ((6 : Int) < (xs.length : Int)) = true := by simp; omega
    have hd2 : decide (6 < xs.length) = true := by simp; omega
    go_enter Try.func78, Try.ntmps78
    go_wp2
    go_ret
    exact ⟨by rw [pairsB_many g xs h6]; rfl, Below.refl _ _⟩
end Go.Proofs.Ytflajkbbggmdjaa
