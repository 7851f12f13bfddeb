/- Numbers drawn from the cursor: l1Below, l1Once, l1PickInt, l1Num. -/
import Derived.Test.YtpfonadpojcnnaaDraw
import Derived.Laws.IdiomStrings
set_option linter.unusedVariables false
namespace Go.Proofs.Ytpfonadpojcnnaa.Draw
open Go Go.RowKit

def belowV (zs : List Int) (len : Nat) (n : Int) (s : St) : Int :=
  if n ≤ 0 then 0 else if n ≤ 256 then byteV zs len s % n else
    (byteV zs len s * 16777216 + byteV zs len (byteS len s) * 65536 + byteV zs len (byteS len (byteS len s)) * 256 + byteV zs len (byteS len (byteS len (byteS len s)))) % n
def belowS (len : Nat) (n : Int) (s : St) : St := if n ≤ 0 then s else if n ≤ 256 then byteS len s else byteS len (byteS len (byteS len (byteS len s)))
theorem belowV_bd (zs : List Int) (len : Nat) (n : Int) (s : St) (h : 0 < n) : 0 ≤ belowV zs len n s ∧ belowV zs len n s < n := by
  unfold belowV
  rw [if_neg (by omega)]
  split
  · exact ⟨Int.emod_nonneg _ (by omega), Int.emod_lt_of_pos _ h⟩
  · exact ⟨Int.emod_nonneg _ (by omega), Int.emod_lt_of_pos _ h⟩
theorem belowS_le (len : Nat) (n : Int) (s : St) (h : s.i ≤ len) : (belowS len n s).i ≤ len := by
  unfold belowS
  split
  · exact h
  · split
    · exact byteS_le _ _ h
    · exact byteS_le _ _ (byteS_le _ _ (byteS_le _ _ (byteS_le _ _ h)))

/-- The cursor stands so, and its code can be read. -/
structure Dr (W : World) (p : Nat) (a : Option Addr) (len cap : Nat) (zs : List Int) (s : St) : Prop where
  cur : CurAt W p a len cap s
  code : CodeAt W p a len zs
  le : s.i ≤ len
theorem Dr.next {W w' : World} {p : Nat} {a : Option Addr} {len cap : Nat} {zs : List Int} {s s' : St} (h : Dr W p a len cap zs s) (c : CurAt w' p a len cap s') (b : Only p W w') (le : s'.i ≤ len) : Dr w' p a len cap zs s' :=
  ⟨c, h.code.below (b.below (Nat.le_refl _) h.cur.lt), le⟩
theorem Dr.alloc {W : World} {p : Nat} {a : Option Addr} {len cap : Nat} {zs : List Int} {s : St} (h : Dr W p a len cap zs s) (o : Obj) : Dr (W.alloc o) p a len cap zs s := by
  have hl := h.cur.lt
  have e : ∀ q : Addr, q.block < W.heap.size → (W.alloc o).cell? q = W.cell? q := fun q hq => World.cell?_of_block (Below.heap_alloc W o q.block hq)
  have ef : ∀ q : Addr, q.block < W.heap.size → (W.alloc o).frozen? q = W.frozen? q := fun q hq => World.frozen?_of_block (Below.heap_alloc W o q.block hq)
  exact ⟨⟨(e _ hl).trans h.cur.b, (e _ hl).trans h.cur.i, (e _ hl).trans h.cur.h, fun k => (ef _ hl).trans (h.cur.f k)⟩, h.code.below ((Below.refl p W).alloc (Nat.le_of_lt hl) o), h.le⟩
theorem Dr.drewN {W : World} {p : Nat} {a : Option Addr} {len cap : Nat} {zs : List Int} {s : St} (h : Dr W p a len cap zs s) (n : Nat) : Dr (W.drewN n) p a len cap zs s :=
  ⟨⟨h.cur.b, h.cur.i, h.cur.h, h.cur.f⟩, h.code, h.le⟩

/-- The limits among which a number is picked. -/
def picks : List Int := [-1, 0, 127, 128, 255, 256, 16383, 16384, 65535, 65536, 562949953421311, 562949953421312, 999999999, 1000000000, -999999999, 9223372036854775807, -9223372036854775808]
/-- A number drawn. -/
def numV (zs : List Int) (len : Nat) (s : St) : Int :=
  if belowV zs len 8 s = 0 then picks.getD (belowV zs len 17 (belowS len 8 s)).toNat 0
  else if belowV zs len 8 s = 1 then belowV zs len 1000000000 (belowS len 8 s) * belowV zs len 1000000000 (belowS len 1000000000 (belowS len 8 s))
  else if belowV zs len 8 s = 2 then -belowV zs len 100000 (belowS len 8 s)
  else belowV zs len 70000 (belowS len 8 s)
def numS (zs : List Int) (len : Nat) (s : St) : St :=
  if belowV zs len 8 s = 0 then belowS len 17 (belowS len 8 s)
  else if belowV zs len 8 s = 1 then belowS len 1000000000 (belowS len 1000000000 (belowS len 8 s))
  else if belowV zs len 8 s = 2 then belowS len 100000 (belowS len 8 s)
  else belowS len 70000 (belowS len 8 s)
theorem picks_bd : ∀ k, k < 17 → -9223372036854775808 ≤ picks.getD k 0 ∧ picks.getD k 0 ≤ 9223372036854775807 := by decide
theorem numV_bd (zs : List Int) (len : Nat) (s : St) : -9223372036854775808 ≤ numV zs len s ∧ numV zs len s ≤ 9223372036854775807 := by
  unfold numV
  split
  · have := belowV_bd zs len 17 (belowS len 8 s) (by omega)
    exact picks_bd _ (by omega)
  · split
    · have h1 := belowV_bd zs len 1000000000 (belowS len 8 s) (by omega)
      have h2 := belowV_bd zs len 1000000000 (belowS len 1000000000 (belowS len 8 s)) (by omega)
      have h3 := Int.mul_nonneg h1.1 h2.1
      have h4 : belowV zs len 1000000000 (belowS len 8 s) * belowV zs len 1000000000 (belowS len 1000000000 (belowS len 8 s)) ≤ 1000000000 * 1000000000 := Int.mul_le_mul (by omega) (by omega) h2.1 (by omega)
      omega
    · split
      · have := belowV_bd zs len 100000 (belowS len 8 s) (by omega); omega
      · have := belowV_bd zs len 70000 (belowS len 8 s) (by omega); omega

theorem picks_cells (w : World) (j : Nat) (h : j < 17) :
    (w.alloc (.cells #[.int .i64 (-1), .int .i64 0, .int .i64 127, .int .i64 128, .int .i64 255, .int .i64 256, .int .i64 16383, .int .i64 16384, .int .i64 65535, .int .i64 65536, .int .i64 562949953421311, .int .i64 562949953421312, .int .i64 999999999, .int .i64 1000000000, .int .i64 (-999999999), .int .i64 9223372036854775807, .int .i64 (-9223372036854775808)] 3)).cell? ⟨w.heap.size, j, none⟩ = some (.int .i64 (picks.getD j 0)) := by
  rw [World.cell?_alloc_mark]
  show ((picks.map (Value.int .i64)).toArray)[j]? = _
  have hl : j < picks.length := h
  simp [List.getD, hl]
end Go.Proofs.Ytpfonadpojcnnaa.Draw
