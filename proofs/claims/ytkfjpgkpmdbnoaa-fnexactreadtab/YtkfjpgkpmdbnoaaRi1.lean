/- The reader of numbers. -/
import Derived.Test.YtkfjpgkpmdbnoaaRi0
import Derived.Test.YtkfjpgkpmdbnoaaReadVarWalks
import Derived.Test.YtkfjpgkpmdbnoaaBig
import Derived.Test.YtkfjpgkpmdbnoaaRg1
import Derived.Test.YtkfjpgkpmdbnoaaRf0
import Derived.Test.YtkfjpgkpmdbnoaaSe1
set_option linter.unusedVariables false
set_option maxRecDepth 100000
namespace Go.Proofs.Ytkfjpgkpmdbnoaa
open Go Go.RowKit Go.Joins Own Draw Go.Proofs.Ytkfjpgkpmdbnoaa.Var

theorem gr_trans {w w1 w2 : World} {r r1 : Option Nat} (h : w.grownBy w1 r) (k : w1.grownBy w2 r1) (hr : r1 = r ∨ ∀ j, r1 = some j → w.heap.size ≤ j) : w.grownBy w2 r :=
  ⟨k.os.trans h.os, k.tape.trans h.tape, k.output.trans h.output, Nat.le_trans h.size k.size, fun j hj hne => (k.block j (Nat.lt_of_lt_of_le hj h.size) (by
    rcases hr with rfl | hr
    · exact hne
    · intro e; have := hr j e.symm; omega)).trans (h.block j hj hne)⟩
theorem blk_kept {g : Nat} {vs : List Value} {w w' : World} {r : Option Nat} (h : Blk g vs w) (hg : w.grownBy w' r) (hn : some g ≠ r) (hl : g < w.heap.size) : Blk g vs w' :=
  ⟨fun i v e => ⟨(World.cell?_of_block (a := ⟨g, i, none⟩) (hg.block g hl hn)).trans (h.out i v e).1, (World.frozen?_of_block (a := ⟨g, i, none⟩) (hg.block g hl hn)).trans (h.out i v e).2⟩⟩
/-- What the reader has left, in block vb. -/
def StV (vb : Nat) (st : Option ByteArray) (W : World) : Prop := match st with
  | some t => t.size ≤ 1048576 ∧ Blk vb [.string t, .bool false] W
  | none => Blk vb [.string ⟨#[]⟩, .bool true] W
/-- Only block vb changed, nothing was made. -/
structure OnlyV (vb : Nat) (w w' : World) : Prop where
  gr : w.grownBy w' (some vb)
  sz : w'.heap.size = w.heap.size
theorem OnlyV.trans {vb : Nat} {a b c : World} (h : OnlyV vb a b) (k : OnlyV vb b c) : OnlyV vb a c := ⟨gr_trans h.gr k.gr (Or.inl rfl), k.sz.trans h.sz⟩
theorem OnlyV.set (vb i : Nat) (v : Value) (w : World) : OnlyV vb w (w.setCell ⟨vb, i, none⟩ v) := ⟨set_grown w vb i v, by simp⟩
theorem rv_nil : rvK (⟨#[]⟩ : ByteArray) = 0 := by
  have := (rvK_le (⟨#[]⟩ : ByteArray)).2
  have h2 : (⟨#[]⟩ : ByteArray).size = 0 := rfl
  omega
set_option maxHeartbeats 3200000 in
theorem upTo_is (vb : Nat) (st : Option ByteArray) (g : Int) (w : World) (h : StV vb st w) :
    Calls Try.prog 46 #[.pointer (some ⟨vb, 0, none⟩), .int .i64 g] w fun e w' => e = .returned (.int .i64 (upF g st).1) ∧ StV vb (upF g st).2 w' ∧ OnlyV vb w w' := by
  obtain ⟨t, bb, hts, hT, hF⟩ : ∃ (t : ByteArray) (bb : Bool), t.size ≤ 1048576 ∧ Blk vb [.string t, .bool bb] w ∧ (if rvK t = 0 ∨ g < (rvN t : Int) then upF g st = (0, none) else bb = false ∧ upF g st = ((rvN t : Int), some (suf t (rvK t)))) := by
    cases st with
    | none => exact ⟨⟨#[]⟩, true, (by show 0 ≤ 1048576; omega), h, by rw [if_pos (Or.inl rv_nil)]; rfl⟩
    | some t =>
      refine ⟨t, false, h.1, h.2, ?_⟩
      by_cases c : rvK t = 0 ∨ g < (rvN t : Int)
      · rw [if_pos c, upF_eq, if_pos c]
      · rw [if_neg c, upF_eq, if_neg c]; exact ⟨rfl, rfl⟩
  clear h
  generalize upF g st = ans at hF ⊢
  have K := impl_rv t w hts
  have t0 := hT.at 0 rfl
  have t1 := hT.at 1 rfl
  have f0 := hT.fz 0 rfl
  have f1 := hT.fz 1 rfl
  have hkl := rvK_le t
  go_enter Try.func46, Try.ntmps46
  go_wp2_with fail
  refine K.mono ?_
  clear K
  rintro en w1 ⟨n, k, rfl, hA, rfl⟩
  obtain ⟨rfl, rfl⟩ := rv_one hA
  clear hA
  by_cases c0 : rvK t = 0
  · rw [if_pos (Or.inl c0)] at hF
    subst hF
    have e0 : (((rvK t : Nat) : Int) == 0) = true := by rw [c0]; rfl
    clear c0
    go_wp2
    go_ret
    exact ⟨rfl, (hT.set 0 _).set 1 _, (OnlyV.set vb 0 _ _).trans (OnlyV.set vb 1 _ _)⟩
  · have e0 : (((rvK t : Nat) : Int) == 0) = false := beq_eq_false_iff_ne.2 (by omega)
    by_cases c1 : g < (rvN t : Int)
    · rw [if_pos (Or.inr c1)] at hF
      subst hF
      have e1 : ((rvN t : Nat) : Int) > g := c1
      clear c0
      go_wp2
      go_ret
      exact ⟨rfl, (hT.set 0 _).set 1 _, (OnlyV.set vb 0 _ _).trans (OnlyV.set vb 1 _ _)⟩
    · rw [if_neg (fun c => c.elim c0 c1)] at hF
      obtain ⟨rfl, rfl⟩ := hF
      have e1 : ¬ (((rvN t : Nat) : Int) > g) := c1
      have k1 : (0 : Int) ≤ ((rvK t : Nat) : Int) := by omega
      have k2 : ((rvK t : Nat) : Int) ≤ (t.size : Int) := by omega
      clear c0 c1
      go_wp2
      go_ret
      exact ⟨rfl, ⟨by rw [suf_size]; omega, hT.set 0 _⟩, OnlyV.set vb 0 _ _⟩
theorem StV.lt {vb : Nat} {st : Option ByteArray} {W : World} (h : StV vb st W) : vb < W.heap.size := by
  cases st with
  | none => exact Blk.lt h
  | some t => exact Blk.lt h.2
theorem StV.blk {vb : Nat} {st : Option ByteArray} {W : World} (h : StV vb st W) : ∃ (t : ByteArray) (bb : Bool), Blk vb [.string t, .bool bb] W := by
  cases st with
  | none => exact ⟨_, _, h⟩
  | some t => exact ⟨_, _, h.2⟩
theorem StV.kept {vb : Nat} {st : Option ByteArray} {w w' : World} {r : Option Nat} (h : StV vb st w) (hg : w.grownBy w' r) (hn : some vb ≠ r) : StV vb st w' := by
  have hl := h.lt
  cases st with
  | none => exact blk_kept h hg hn hl
  | some t => exact ⟨h.1, blk_kept h.2 hg hn hl⟩
theorem StV.later {vb : Nat} {st : Option ByteArray} {w w' : World} (h : StV vb st w) (hb : Below w.heap.size w w') : StV vb st w' := h.kept (grown_of_below hb) (by simp)
theorem StV.drew {vb : Nat} {st : Option ByteArray} {w : World} (h : StV vb st w) : StV vb st w.drew := by
  cases st with
  | none => exact Blk.drew h
  | some t => exact ⟨h.1, Blk.drew h.2⟩
theorem StV.set {vb g i : Nat} {st : Option ByteArray} {v : Value} {w : World} (h : StV vb st w) (hn : g ≠ vb) : StV vb st (w.setCell ⟨g, i, none⟩ v) := h.kept (set_grown w g i v) (fun e => hn (by injection e with e; exact e.symm))
theorem StV.sets {vb g i : Nat} {st : Option ByteArray} {vs : List Value} {w : World} (h : StV vb st w) (hn : g ≠ vb) : StV vb st (w.setCells g i vs) := h.kept (sets_grown g vs i w) (fun e => hn (by injection e with e; exact e.symm))
end Go.Proofs.Ytkfjpgkpmdbnoaa
