/- Messages that are drawn: what changes, what stays. -/
import Derived.Test.YtengggpobhibcaaDoorTd1
import Derived.Test.YtengggpobhibcaaDoorReg
import Derived.Test.YtengggpobhibcaaDoorDrawText
set_option linter.unusedVariables false
set_option maxRecDepth 100000
namespace Go.Proofs.YtengggpobhibcaaDoor.Nd
open Go Go.RowKit Go.Joins Own Draw Var

/-- Of what was there, only two blocks and what o names have changed. -/
structure Ch (gb gm : Nat) (o : Option Nat) (w w' : World) : Prop where
  os : w'.os = w.os
  tape : w'.tape = w.tape
  output : w'.output = w.output
  size : w.heap.size ≤ w'.heap.size
  block : ∀ j, j < w.heap.size → j ≠ gb → j ≠ gm → some j ≠ o → w'.heap[j]? = w.heap[j]?
theorem Ch.refl (gb gm : Nat) (o : Option Nat) (w : World) : Ch gb gm o w w := ⟨rfl, rfl, rfl, Nat.le_refl _, fun _ _ _ _ _ => rfl⟩
theorem Ch.below {gb gm : Nat} {o : Option Nat} {w W W' : World} (h : Ch gb gm o w W) (k : Below W.heap.size W W') : Ch gb gm o w W' :=
  ⟨k.os.trans h.os, k.tape.trans h.tape, k.output.trans h.output, Nat.le_trans h.size k.size, fun j hj a b c => (k.block j (Nat.lt_of_lt_of_le hj h.size)).trans (h.block j hj a b c)⟩
theorem Ch.grown {gb gm : Nat} {o o' : Option Nat} {w W W' : World} (h : Ch gb gm o w W) (k : W.grownBy W' o') (ho : ∀ j, o' = some j → j = gb ∨ j = gm ∨ some j = o ∨ w.heap.size ≤ j) : Ch gb gm o w W' :=
  ⟨k.os.trans h.os, k.tape.trans h.tape, k.output.trans h.output, Nat.le_trans h.size k.size, fun j hj a b c => (k.block j (Nat.lt_of_lt_of_le hj h.size) (fun e => by
    rcases ho j e.symm with x | x | x | x
    · exact a x
    · exact b x
    · exact c x
    · omega)).trans (h.block j hj a b c)⟩
theorem Ch.trans {gb gm : Nat} {o o' : Option Nat} {w W W' : World} (h : Ch gb gm o w W) (k : Ch gb gm o' W W') (ho : o' = o ∨ ∃ j, o' = some j ∧ w.heap.size ≤ j) : Ch gb gm o w W' :=
  ⟨k.os.trans h.os, k.tape.trans h.tape, k.output.trans h.output, Nat.le_trans h.size k.size, fun j hj a b c => (k.block j (Nat.lt_of_lt_of_le hj h.size) a b (by
    rcases ho with rfl | ⟨i, rfl, hi⟩
    · exact c
    · intro e; injection e with e; omega)).trans (h.block j hj a b c)⟩
theorem Ch.blk {gb gm g : Nat} {o : Option Nat} {w w' : World} {vs : List Value} (h : Ch gb gm o w w') (t : Blk g vs w) (hl : g < w.heap.size) (h1 : g ≠ gb) (h2 : g ≠ gm) (h3 : some g ≠ o) : Blk g vs w' :=
  ⟨fun i v e => ⟨(World.cell?_of_block (a := ⟨g, i, none⟩) (h.block g hl h1 h2 h3)).trans (t.out i v e).1, (World.frozen?_of_block (a := ⟨g, i, none⟩) (h.block g hl h1 h2 h3)).trans (t.out i v e).2⟩⟩
theorem Ch.rowI {gb gm B : Nat} {o : Option Nat} {w w' : World} {r : Rw Int} (h : Ch gb gm o w w') (hr : RoI B w r) (hb : gb < B) (hm : gm < B) (hn : ∀ j, kB r = some j → some j ≠ o) : RoI B w' r := by
  refine ⟨hr.1, ?_⟩
  rcases hr.2 with e | ⟨g, cap, cur, e, hB, hg, rest⟩
  · exact Or.inl e
  · refine Or.inr ⟨g, cap, cur, e, hB, ?_, rest⟩
    rw [h.block g (Array.getElem?_eq_some_iff.1 hg).1 (by omega) (by omega) (hn g (by unfold kB; rw [e]; rfl))]
    exact hg
abbrev slT (q : Rw TT) : Value := .slice q.1 q.2.2.length q.2.1
section
variable {pc : Nat} {ad : Option Addr} {len cap : Nat} {zs : List Int}
theorem cu_grown {w w' : World} {row : Option Nat} (h : Cu pc ad len cap zs w w) (hg : w.grownBy w' row) (hr : ∀ k, row = some k → pc < k) : Cu pc ad len cap zs w' w' := by
  obtain ⟨⟨s, h⟩, _⟩ := h
  exact Cu.start (h.grown hg hr)
theorem cu_under {w w' : World} (h : Cu pc ad len cap zs w w) (hb : Below w.heap.size w w') : Cu pc ad len cap zs w' w' := (h.under hb).here
/-- A call that draws leaves a row of nodes, a row of numbers, a block behind the cursor as they were. -/
theorem RoT.drawn {B : Nat} {w w' : World} {r : Rw TT} (h : RoT B w r) (hc : Cu pc ad len cap zs w w') (hp : pc < B) : RoT B w' r := h.far hc.2 hp
theorem RoI.drawn {B : Nat} {w w' : World} {r : Rw Int} (h : RoI B w r) (hc : Cu pc ad len cap zs w w') (hp : pc < B) : RoI B w' r := h.far hc.2 hp
theorem Ch.drawn {o : Option Nat} {w W W' : World} (h : Ch pc pc o w W) (hc : Cu pc ad len cap zs W W') : Ch pc pc o w W' := h.grown hc.2 (fun j e => by injection e with e; exact Or.inl e.symm)
def SmX (x : TT) : Prop := x.2.2.1.size ≤ 5 ∧ x.2.2.2.2.2.length ≤ 3
def cntN : Nat → Nat
  | 0 => 1
  | d + 1 => 1 + 3 * cntN d
theorem cntN_pos (d : Nat) : 1 ≤ cntN d := by cases d <;> simp [cntN]
theorem cntN_le (d : Nat) (h : d ≤ 4) : cntN d ≤ 121 := by
  match d, h with
  | 0, _ => decide
  | 1, _ => decide
  | 2, _ => decide
  | 3, _ => decide
  | 4, _ => decide
/-- What a call of l14Put leaves. -/
def PutP (pc : Nat) (ad : Option Addr) (len cap : Nat) (zs : List Int) (n B : Nat) (r : Rw TT) (w : World) (e : Ending) (w' : World) : Prop :=
  ∃ q : Rw TT, e = .returned (slT q) ∧ RoT B w' q ∧ Cu pc ad len cap zs w' w' ∧ Ch pc pc (obT r) w w' ∧ (obT q = obT r ∨ ∃ k, obT q = some k ∧ w.heap.size ≤ k) ∧ (∀ g, g < w.heap.size → Off g r → Off g q) ∧ ApT q ∧ (∀ x ∈ q.2.2, SmX x) ∧ r.2.2.length + 1 ≤ q.2.2.length ∧ q.2.2.length ≤ r.2.2.length + n
theorem textW {w : World} (most : Int) (h : Cu pc ad len cap zs w w) (h0 : 0 ≤ most) (h1 : most ≤ 1000) :
    Calls Tryd.prog 23 #[.pointer (some ⟨pc, 0, none⟩), .int .i64 most] w fun e w' => ∃ t : ByteArray, e = .returned (.string t) ∧ t.size ≤ most.toNat ∧ Cu pc ad len cap zs w w' := by
  obtain ⟨⟨s, h⟩, _⟩ := h
  refine (textD pc ad len cap zs s w most h h0 h1).mono ?_
  rintro e w' ⟨rfl, d, o⟩
  exact ⟨_, rfl, by show (textV zs len most s).toArray.size ≤ _; rw [List.size_toArray]; exact textV_len zs len most s h0, ⟨_, d⟩, o⟩
/-- What the loop of l14Put keeps. -/
structure LpD (pc : Nat) (ad : Option Addr) (len cap : Nat) (zs : List Int) (n B : Nat) (r0 : Rw TT) (w : World) (gx : Nat) (tg : Int) (nn : Nat) (q : Rw TT) (kr : Rw Int) (W : World) : Prop where
  tx : Blk gx [.int .i64 tg, .bool false, .string ⟨#[]⟩, .slice kr.1 kr.2.2.length kr.2.1] W
  ro : RoT B W q
  ko : RoI B W kr
  cc : Cu pc ad len cap zs W W
  ch : Ch pc pc (obT r0) w W
  cu : obT q = obT r0 ∨ ∃ k, obT q = some k ∧ w.heap.size ≤ k
  oX : Off gx q
  ok : ∀ k, kB kr = some k → Off k q ∧ w.heap.size ≤ k ∧ k ≠ gx
  of : ∀ g, g < w.heap.size → Off g r0 → Off g q
  ap : ApT q
  sm : ∀ x ∈ q.2.2, SmX x
  kl : kr.2.2.length + nn ≤ 3
  ll : r0.2.2.length ≤ q.2.2.length
  lu : q.2.2.length ≤ r0.2.2.length + (3 - nn) * n
end
end Go.Proofs.YtengggpobhibcaaDoor.Nd
