/- The cursor of the draws: its state, what a byte drawn from it is, and the walk of l1Byte. -/
import Derived.Test.YtjcmbbnklfemcaaGreatRows
import Derived.WalkKit
import Derived.WalkSpells
import Derived.WalkLawsBesides
import Derived.Deep.QuietTactic
import Derived.BigQuiet
import Derived.WalkSmall
import Derived.Laws.IdiomStrings
import Derived.Test.YtjcmbbnklfemcaaGreatRest
set_option linter.unusedVariables false
namespace Go.Proofs.YtjcmbbnklfemcaaGreat.Draw
open Go Go.RowKit

/-- The state of a cursor: how many bytes are taken, and the number that is mixed in. -/
structure St where
  i : Nat
  h : Int

/-- The cursor lies in block p and stands so. -/
structure CurAt (W : World) (p : Nat) (a : Option Addr) (len cap : Nat) (s : St) : Prop where
  b : W.cell? ⟨p, 0, none⟩ = some (.slice a len cap)
  i : W.cell? ⟨p, 1, none⟩ = some (.int .i64 (s.i : Int))
  h : W.cell? ⟨p, 2, none⟩ = some (.int .i64 s.h)
  f : ∀ o, W.frozen? ⟨p, o, none⟩ = false

/-- The bytes of the code lie below block p. -/
def CodeAt (W : World) (p : Nat) (a : Option Addr) (len : Nat) (zs : List Int) : Prop :=
  len ≤ 1048576 ∧ ∀ j, j < len → (0 ≤ zs.getD j 0 ∧ zs.getD j 0 ≤ 255) ∧ ∃ b off, a = some ⟨b, off, none⟩ ∧ b < p ∧ W.cell? ⟨b, off + j, none⟩ = some (.int .u8 (zs.getD j 0))

theorem CodeAt.lt {W : World} {p : Nat} {a : Option Addr} {len : Nat} {zs : List Int} (h : CodeAt W p a len zs) {q : Nat} (hq : p ≤ q) : CodeAt W q a len zs := by
  refine ⟨h.1, fun j hj => ?_⟩
  obtain ⟨h1, b, off, e, hp, hc⟩ := h.2 j hj
  exact ⟨h1, b, off, e, by omega, hc⟩
theorem CodeAt.below {W W' : World} {p : Nat} {a : Option Addr} {len : Nat} {zs : List Int} (h : CodeAt W p a len zs) (hb : Below p W W') : CodeAt W' p a len zs := by
  refine ⟨h.1, fun j hj => ?_⟩
  obtain ⟨h1, b, off, e, hp, hc⟩ := h.2 j hj
  exact ⟨h1, b, off, e, hp, by rw [hb.cell (p := ⟨b, off + j, none⟩) hp]; exact hc⟩

/-- The next number, what it gives, and its lowest byte. -/
def nextH (h : Int) : Int := wrap64 (wrap64 (h * 6364136223846793005) + 1442695040888963407)
def low (x : Int) : Int := bits .and .i64 x 255
def mixX (h : Int) : Int := low (bits .xor .i64 (h / 8589934592) (h / 35184372088832))
theorem low_bd (x : Int) : 0 ≤ low x ∧ low x ≤ 255 := by
  have h1 : (BitVec.ofInt 64 x &&& BitVec.ofInt 64 255).toNat ≤ 255 := by
    rw [BitVec.toNat_and]
    exact Nat.le_trans Nat.and_le_right (by decide)
  have e : low x = IntKind.i64.wrap ((BitVec.ofInt 64 x &&& BitVec.ofInt 64 255).toNat : Int) := rfl
  rw [e, IntKind.wrap_i64]
  omega
/-- A byte drawn: what it is, and how the cursor stands behind it. -/
def byteV (zs : List Int) (len : Nat) (s : St) : Int := if s.i < len then low (mixX (nextH s.h) + zs.getD s.i 0) else mixX (nextH s.h)
def byteS (len : Nat) (s : St) : St := if s.i < len then ⟨s.i + 1, nextH s.h⟩ else ⟨s.i, nextH s.h⟩
theorem byteV_bd (zs : List Int) (len : Nat) (s : St) : 0 ≤ byteV zs len s ∧ byteV zs len s ≤ 255 := by
  unfold byteV; split
  · exact low_bd _
  · exact low_bd _
theorem byteS_le (len : Nat) (s : St) (h : s.i ≤ len) : (byteS len s).i ≤ len := by
  unfold byteS; split
  · show s.i + 1 ≤ len; omega
  · exact h

theorem set_other (W : World) (p o o' : Nat) (v : Value) (h : o ≠ o') : (W.setCell ⟨p, o, none⟩ v).cell? ⟨p, o', none⟩ = W.cell? ⟨p, o', none⟩ := by
  apply World.cell?_setCell_other
  exact fun e => h (by injection e)
theorem set_same (W : World) (p o : Nat) (u v : Value) (h : W.cell? ⟨p, o, none⟩ = some u) : (W.setCell ⟨p, o, none⟩ v).cell? ⟨p, o, none⟩ = some v := by
  apply World.cell?_setCell_same
  exact h
theorem cur_h {W : World} {p : Nat} {a : Option Addr} {len cap i : Nat} {h h' : Int} (hc : CurAt W p a len cap ⟨i, h⟩) (n : Nat) : CurAt ((W.setCell ⟨p, 2, none⟩ (.int .i64 h')).drewN n) p a len cap ⟨i, h'⟩ := by
  obtain ⟨cb, ci, ch, cf⟩ := hc
  simp only at ci ch
  refine ⟨?_, ?_, ?_, fun o => ?_⟩
  · rw [World.cell?_drewN, set_other _ _ _ _ _ (by omega)]; exact cb
  · rw [World.cell?_drewN, set_other _ _ _ _ _ (by omega)]; exact ci
  · rw [World.cell?_drewN, set_same _ _ _ _ _ ch]
  · rw [World.frozen?_drewN, World.frozen?_setCell]; exact cf o
theorem cur_i {W : World} {p : Nat} {a : Option Addr} {len cap i i' : Nat} {h : Int} (hc : CurAt W p a len cap ⟨i, h⟩) : CurAt (W.setCell ⟨p, 1, none⟩ (.int .i64 (i' : Int))) p a len cap ⟨i', h⟩ := by
  obtain ⟨cb, ci, ch, cf⟩ := hc
  simp only at ci ch
  refine ⟨?_, ?_, ?_, fun o => ?_⟩
  · rw [set_other _ _ _ _ _ (by omega)]; exact cb
  · rw [set_same _ _ _ _ _ ci]
  · rw [set_other _ _ _ _ _ (by omega)]; exact ch
  · rw [World.frozen?_setCell]; exact cf o

/-- w' is W but for what block p holds, and for new blocks. -/
def Only (p : Nat) (W w' : World) : Prop := W.grownBy w' (some p)
theorem Only.refl (p : Nat) (W : World) : Only p W W := World.grownBy.refl W _
theorem Only.trans {p : Nat} {a b c : World} (h : Only p a b) (k : Only p b c) : Only p a c :=
  ⟨k.os.trans h.os, k.tape.trans h.tape, k.output.trans h.output, Nat.le_trans h.size k.size, fun j hj hn => (k.block j (Nat.lt_of_lt_of_le hj h.size) hn).trans (h.block j hj hn)⟩
theorem Only.setCell {p : Nat} {a w : World} (h : Only p a w) (o : Nat) (v : Value) : Only p a (w.setCell ⟨p, o, none⟩ v) :=
  ⟨h.os, h.tape, h.output, by have := h.size; simpa using this, fun j hj hn => (Below.heap_setCell w ⟨p, o, none⟩ v j (fun e => hn (by rw [e]))).trans (h.block j hj hn)⟩
theorem Only.drewN {p : Nat} {a w : World} (h : Only p a w) (n : Nat) : Only p a (w.drewN n) := ⟨h.os, h.tape, h.output, h.size, h.block⟩
theorem Only.alloc {p : Nat} {a w : World} (h : Only p a w) (o : Obj) : Only p a (w.alloc o) :=
  ⟨h.os, h.tape, h.output, by have := h.size; simp; omega, fun j hj hn => (Below.heap_alloc w o j (Nat.lt_of_lt_of_le hj h.size)).trans (h.block j hj hn)⟩
theorem Only.below {p B : Nat} {W w' : World} (h : Only p W w') (hB : B ≤ p) (hp : p < W.heap.size) : Below B W w' :=
  ⟨h.os, h.tape, h.output, h.size, fun j hj => h.block j (by omega) (by simp; omega)⟩
theorem Only.cell {p : Nat} {W w' : World} (h : Only p W w') {q : Addr} (hq : q.block < W.heap.size) (hn : q.block ≠ p) : w'.cell? q = W.cell? q :=
  World.cell?_of_block (h.block q.block hq (by simp; exact hn))
theorem Only.frozen {p : Nat} {W w' : World} (h : Only p W w') {q : Addr} (hq : q.block < W.heap.size) (hn : q.block ≠ p) : w'.frozen? q = W.frozen? q :=
  World.frozen?_of_block (h.block q.block hq (by simp; exact hn))
theorem CurAt.lt {W : World} {p : Nat} {a : Option Addr} {len cap : Nat} {s : St} (h : CurAt W p a len cap s) : p < W.heap.size := World.block_lt_of_cell? W _ h.b

/-- How a new cursor is mixed: the first four thousand bytes. -/
def mask (x : Int) : Int := bits .and .i64 x 1073741823
theorem mask_bd (x : Int) : 0 ≤ mask x ∧ mask x ≤ 1073741823 := by
  have h1 : (BitVec.ofInt 64 x &&& BitVec.ofInt 64 1073741823).toNat ≤ 1073741823 := by
    rw [BitVec.toNat_and]
    exact Nat.le_trans Nat.and_le_right (by decide)
  have e : mask x = IntKind.i64.wrap ((BitVec.ofInt 64 x &&& BitVec.ofInt 64 1073741823).toNat : Int) := rfl
  rw [e, IntKind.wrap_i64]
  omega
def hashF (zs : List Int) (len : Nat) : Nat → Int
  | 0 => 10101 + (len : Int)
  | k + 1 => mask (hashF zs len k * 131 + zs.getD k 0 + 7)
theorem hashF_bd (zs : List Int) (len : Nat) (h : len ≤ 1048576) : ∀ k, 0 ≤ hashF zs len k ∧ hashF zs len k ≤ 1073741823
  | 0 => by simp only [hashF]; omega
  | k + 1 => by simp only [hashF]; exact mask_bd _
def newS (zs : List Int) (len : Nat) : St := ⟨0, hashF zs len (min len 4000)⟩
end Go.Proofs.YtjcmbbnklfemcaaGreat.Draw

set_option linter.unusedVariables false
namespace Go.Proofs.YtjcmbbnklfemcaaGreat.Draw
open Go Go.RowKit

def belowV (zs : List Int) (len : Nat) (n : Int) (s : St) : Int :=
  if n ≤ 0 then 0 else if n ≤ 256 then byteV zs len s % n else
    (byteV zs len s * 16777216 + byteV zs len (byteS len s) * 65536 + byteV zs len (byteS len (byteS len s)) * 256 + byteV zs len (byteS len (byteS len (byteS len s)))) % n
def belowS (len : Nat) (n : Int) (s : St) : St := if n ≤ 0 then s else if n ≤ 256 then byteS len s else byteS len (byteS len (byteS len (byteS len s)))
theorem belowV_bd (zs : List Int) (len : Nat) (n : Int) (s : St) (h : 0 < n) : 0 ≤ belowV zs len n s ∧ belowV zs len n s < n := by
  unfold belowV
  rw [if_neg (by omega)]
  split
  · exact ⟨Int.emod_nonneg _ (by omega), Int.emod_lt_of_pos _ h⟩
  · exact ⟨Int.emod_nonneg _ (by omega), Int.emod_lt_of_pos _ h⟩
theorem belowS_le (len : Nat) (n : Int) (s : St) (h : s.i ≤ len) : (belowS len n s).i ≤ len := by
  unfold belowS
  split
  · exact h
  · split
    · exact byteS_le _ _ h
    · exact byteS_le _ _ (byteS_le _ _ (byteS_le _ _ (byteS_le _ _ h)))

/-- The cursor stands so, and its code can be read. -/
structure Dr (W : World) (p : Nat) (a : Option Addr) (len cap : Nat) (zs : List Int) (s : St) : Prop where
  cur : CurAt W p a len cap s
  code : CodeAt W p a len zs
  le : s.i ≤ len
theorem Dr.next {W w' : World} {p : Nat} {a : Option Addr} {len cap : Nat} {zs : List Int} {s s' : St} (h : Dr W p a len cap zs s) (c : CurAt w' p a len cap s') (b : Only p W w') (le : s'.i ≤ len) : Dr w' p a len cap zs s' :=
  ⟨c, h.code.below (b.below (Nat.le_refl _) h.cur.lt), le⟩
theorem Dr.alloc {W : World} {p : Nat} {a : Option Addr} {len cap : Nat} {zs : List Int} {s : St} (h : Dr W p a len cap zs s) (o : Obj) : Dr (W.alloc o) p a len cap zs s := by
  have hl := h.cur.lt
  have e : ∀ q : Addr, q.block < W.heap.size → (W.alloc o).cell? q = W.cell? q := fun q hq => World.cell?_of_block (Below.heap_alloc W o q.block hq)
  have ef : ∀ q : Addr, q.block < W.heap.size → (W.alloc o).frozen? q = W.frozen? q := fun q hq => World.frozen?_of_block (Below.heap_alloc W o q.block hq)
  exact ⟨⟨(e _ hl).trans h.cur.b, (e _ hl).trans h.cur.i, (e _ hl).trans h.cur.h, fun k => (ef _ hl).trans (h.cur.f k)⟩, h.code.below ((Below.refl p W).alloc (Nat.le_of_lt hl) o), h.le⟩
theorem Dr.drewN {W : World} {p : Nat} {a : Option Addr} {len cap : Nat} {zs : List Int} {s : St} (h : Dr W p a len cap zs s) (n : Nat) : Dr (W.drewN n) p a len cap zs s :=
  ⟨⟨h.cur.b, h.cur.i, h.cur.h, h.cur.f⟩, h.code, h.le⟩

/-- The limits among which a number is picked. -/
def picks : List Int := [-1, 0, 127, 128, 255, 256, 16383, 16384, 65535, 65536, 562949953421311, 562949953421312, 999999999, 1000000000, -999999999, 9223372036854775807, -9223372036854775808]
/-- A number drawn. -/
def numV (zs : List Int) (len : Nat) (s : St) : Int :=
  if belowV zs len 8 s = 0 then picks.getD (belowV zs len 17 (belowS len 8 s)).toNat 0
  else if belowV zs len 8 s = 1 then belowV zs len 1000000000 (belowS len 8 s) * belowV zs len 1000000000 (belowS len 1000000000 (belowS len 8 s))
  else if belowV zs len 8 s = 2 then -belowV zs len 100000 (belowS len 8 s)
  else belowV zs len 70000 (belowS len 8 s)
def numS (zs : List Int) (len : Nat) (s : St) : St :=
  if belowV zs len 8 s = 0 then belowS len 17 (belowS len 8 s)
  else if belowV zs len 8 s = 1 then belowS len 1000000000 (belowS len 1000000000 (belowS len 8 s))
  else if belowV zs len 8 s = 2 then belowS len 100000 (belowS len 8 s)
  else belowS len 70000 (belowS len 8 s)
theorem picks_bd : ∀ k, k < 17 → -9223372036854775808 ≤ picks.getD k 0 ∧ picks.getD k 0 ≤ 9223372036854775807 := by decide
theorem numV_bd (zs : List Int) (len : Nat) (s : St) : -9223372036854775808 ≤ numV zs len s ∧ numV zs len s ≤ 9223372036854775807 := by
  unfold numV
  split
  · have := belowV_bd zs len 17 (belowS len 8 s) (by omega)
    exact picks_bd _ (by omega)
  · split
    · have h1 := belowV_bd zs len 1000000000 (belowS len 8 s) (by omega)
      have h2 := belowV_bd zs len 1000000000 (belowS len 1000000000 (belowS len 8 s)) (by omega)
      have h3 := Int.mul_nonneg h1.1 h2.1
      have h4 : belowV zs len 1000000000 (belowS len 8 s) * belowV zs len 1000000000 (belowS len 1000000000 (belowS len 8 s)) ≤ 1000000000 * 1000000000 := Int.mul_le_mul (by omega) (by omega) h2.1 (by omega)
      omega
    · split
      · have := belowV_bd zs len 100000 (belowS len 8 s) (by omega); omega
      · have := belowV_bd zs len 70000 (belowS len 8 s) (by omega); omega

theorem picks_cells (w : World) (j : Nat) (h : j < 17) :
    (w.alloc (.cells #[.int .i64 (-1), .int .i64 0, .int .i64 127, .int .i64 128, .int .i64 255, .int .i64 256, .int .i64 16383, .int .i64 16384, .int .i64 65535, .int .i64 65536, .int .i64 562949953421311, .int .i64 562949953421312, .int .i64 999999999, .int .i64 1000000000, .int .i64 (-999999999), .int .i64 9223372036854775807, .int .i64 (-9223372036854775808)] 3)).cell? ⟨w.heap.size, j, none⟩ = some (.int .i64 (picks.getD j 0)) := by
  rw [World.cell?_alloc_mark]
  show ((picks.map (Value.int .i64)).toArray)[j]? = _
  have hl : j < picks.length := h
  simp [List.getD, hl]
end Go.Proofs.YtjcmbbnklfemcaaGreat.Draw

set_option linter.unusedVariables false
namespace Go.Proofs.YtjcmbbnklfemcaaGreat.Draw
open Go Go.RowKit

theorem only_app {p : Nat} {W w1 w2 : World} {o : Obj} {row : Option Nat} (h : Only p W w1) (hg : (w1.alloc o).grownBy w2 row) (hr : ∀ k, row = some k → W.heap.size ≤ k) : Only p W w2 :=
  ⟨hg.os.trans h.os, hg.tape.trans h.tape, hg.output.trans h.output, by have h1 := h.size; have h2 := hg.size; simp at h2; omega,
    fun j hj hn => (hg.block j (by have := h.size; simp; omega) (fun e => by have := hr j e.symm; omega)).trans ((Below.heap_alloc w1 o j (Nat.lt_of_lt_of_le hj h.size)).trans (h.block j hj hn))⟩
theorem Dr.grown {W w' : World} {p : Nat} {a : Option Addr} {len cap : Nat} {zs : List Int} {s : St} {row : Option Nat} (h : Dr W p a len cap zs s) (hg : W.grownBy w' row) (hr : ∀ k, row = some k → p < k) : Dr w' p a len cap zs s := by
  have hl := h.cur.lt
  have e : ∀ q : Addr, q.block = p → w'.cell? q = W.cell? q := fun q hq => World.cell?_of_block (by rw [hq]; exact hg.block p hl (fun e => by have := hr p e.symm; omega))
  have ef : ∀ q : Addr, q.block = p → w'.frozen? q = W.frozen? q := fun q hq => World.frozen?_of_block (by rw [hq]; exact hg.block p hl (fun e => by have := hr p e.symm; omega))
  refine ⟨⟨(e _ rfl).trans h.cur.b, (e _ rfl).trans h.cur.i, (e _ rfl).trans h.cur.h, fun k => (ef _ rfl).trans (h.cur.f k)⟩, h.code.below ⟨hg.os, hg.tape, hg.output, hg.size, fun j hj => hg.block j (by omega) (fun e => by have := hr j e.symm; omega)⟩, h.le⟩
theorem Dr.under {W w' : World} {p : Nat} {a : Option Addr} {len cap : Nat} {zs : List Int} {s : St} (h : Dr W p a len cap zs s) (hb : Below W.heap.size W w') : Dr w' p a len cap zs s :=
  h.grown (row := none) ⟨hb.os, hb.tape, hb.output, hb.size, fun j hj _ => hb.block j hj⟩ (fun _ h => by cases h)
theorem Only.under {p : Nat} {W w' : World} (hb : Below W.heap.size W w') : Only p W w' := ⟨hb.os, hb.tape, hb.output, hb.size, fun j hj _ => hb.block j hj⟩

/-- The cursor stands somewhere, its code can be read, and nothing else was written into since W. -/
def Cu (p : Nat) (a : Option Addr) (len cap : Nat) (zs : List Int) (W w : World) : Prop := (∃ s, Dr w p a len cap zs s) ∧ Only p W w
theorem Cu.start {p : Nat} {a : Option Addr} {len cap : Nat} {zs : List Int} {w : World} {s : St} (h : Dr w p a len cap zs s) : Cu p a len cap zs w w := ⟨⟨s, h⟩, Only.refl _ _⟩
theorem Cu.lt {p : Nat} {a : Option Addr} {len cap : Nat} {zs : List Int} {W w : World} (h : Cu p a len cap zs W w) : p < w.heap.size := by obtain ⟨⟨s, h⟩, _⟩ := h; exact h.cur.lt
theorem Cu.here {p : Nat} {a : Option Addr} {len cap : Nat} {zs : List Int} {W w : World} (h : Cu p a len cap zs W w) : Cu p a len cap zs w w := ⟨h.1, Only.refl _ _⟩
theorem Cu.next {p : Nat} {a : Option Addr} {len cap : Nat} {zs : List Int} {W w w' : World} (h : Cu p a len cap zs W w) (k : Cu p a len cap zs w w') : Cu p a len cap zs W w' := ⟨k.1, h.2.trans k.2⟩
theorem Cu.under {p : Nat} {a : Option Addr} {len cap : Nat} {zs : List Int} {W w w' : World} (h : Cu p a len cap zs W w) (hb : Below w.heap.size w w') : Cu p a len cap zs W w' := by
  obtain ⟨⟨s, h⟩, o⟩ := h
  exact ⟨⟨s, h.under hb⟩, o.trans (Only.under hb)⟩
theorem Cu.alloc {p : Nat} {a : Option Addr} {len cap : Nat} {zs : List Int} {W w : World} (h : Cu p a len cap zs W w) (o : Obj) : Cu p a len cap zs W (w.alloc o) := by
  obtain ⟨⟨s, h⟩, k⟩ := h
  exact ⟨⟨s, h.alloc o⟩, k.alloc o⟩
theorem Cu.drew {p : Nat} {a : Option Addr} {len cap : Nat} {zs : List Int} {W w : World} (h : Cu p a len cap zs W w) : Cu p a len cap zs W w.drew := by
  obtain ⟨⟨s, h⟩, k⟩ := h
  exact ⟨⟨s, h.drewN 1⟩, k.drewN 1⟩
theorem Cu.app {p : Nat} {a : Option Addr} {len cap : Nat} {zs : List Int} {W w w' : World} {o : Obj} {row : Option Nat} (h : Cu p a len cap zs W w) (hp : p < W.heap.size) (hg : (w.alloc o).grownBy w' row) (hr : ∀ k, row = some k → W.heap.size ≤ k) : Cu p a len cap zs W w' := by
  obtain ⟨⟨s, h⟩, k⟩ := h
  exact ⟨⟨s, (h.alloc o).grown hg (fun j hj => by have := hr j hj; omega)⟩, only_app k hg hr⟩

theorem Cu.setCell {p : Nat} {a : Option Addr} {len cap : Nat} {zs : List Int} {W w : World} (h : Cu p a len cap zs W w) (hp : p < W.heap.size) {g : Nat} (hg : W.heap.size ≤ g) (o : Nat) (v : Value) : Cu p a len cap zs W (w.setCell ⟨g, o, none⟩ v) := by
  obtain ⟨⟨s, h⟩, k⟩ := h
  refine ⟨⟨s, h.grown (row := some g) ⟨rfl, rfl, rfl, by simp, fun j hj hn => Below.heap_setCell w ⟨g, o, none⟩ v j (fun e => hn (by rw [e]))⟩ (fun k hk => by cases hk; omega)⟩, ⟨k.os, k.tape, k.output, by have := k.size; simpa using this, fun j hj hn => (Below.heap_setCell w ⟨g, o, none⟩ v j (fun e => by have : j = g := e; omega)).trans (k.block j hj hn)⟩⟩
theorem Cu.cell {p : Nat} {a : Option Addr} {len cap : Nat} {zs : List Int} {W w : World} (h : Cu p a len cap zs W w) {g : Nat} (hg : g < W.heap.size) (hn : p < g) (o : Nat) : w.cell? ⟨g, o, none⟩ = W.cell? ⟨g, o, none⟩ := h.2.cell (q := ⟨g, o, none⟩) hg (by show g ≠ p; omega)
theorem Cu.frozen {p : Nat} {a : Option Addr} {len cap : Nat} {zs : List Int} {W w : World} (h : Cu p a len cap zs W w) {g : Nat} (hg : g < W.heap.size) (hn : p < g) (o : Nat) : w.frozen? ⟨g, o, none⟩ = W.frozen? ⟨g, o, none⟩ := h.2.frozen (q := ⟨g, o, none⟩) hg (by show g ≠ p; omega)
theorem Cu.size {p : Nat} {a : Option Addr} {len cap : Nat} {zs : List Int} {W w : World} (h : Cu p a len cap zs W w) : W.heap.size ≤ w.heap.size := h.2.size
end Go.Proofs.YtjcmbbnklfemcaaGreat.Draw
