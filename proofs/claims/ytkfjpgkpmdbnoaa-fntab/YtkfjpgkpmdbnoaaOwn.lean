/- Memory that a call makes itself: a row of bytes as a text; a text of one byte. -/
import Derived.WalkKit
import Derived.Laws.IdiomStrings
namespace Go.Proofs.Ytkfjpgkpmdbnoaa.Own
open Go Go.RowKit

/-- Bytes as the cells of a []byte. -/
def bytesOf (l : List UInt8) : List Value := l.map fun b => Value.int .u8 (b.toNat : Int)
theorem bytesOf_length (l : List UInt8) : (bytesOf l).length = l.length := by simp [bytesOf]
theorem bytesOf_append (l m : List UInt8) : bytesOf (l ++ m) = bytesOf l ++ bytesOf m := by simp [bytesOf]
theorem bytesOf_get (l : List UInt8) (j : Nat) (h : j < l.length) : (bytesOf l)[j]? = some (Value.int .u8 (l[j].toNat : Int)) := by simp [bytesOf, h]

/-- 'string([]byte{x})'. -/
theorem conv_one {P : Program} (src dst e : TypeId) (hs : P.underlying src = some (.slice e)) (he : P.underlying e = some (.int .u8)) (hd : P.underlying dst = some .string)
    (W : World) (x : Int) :
    (convert src dst (.slice (some ⟨W.heap.size, 0, none⟩) 1 1)).run P (W.alloc (.cells #[.int .u8 x] e)) = .ok (.string ⟨#[UInt8.ofNat x.toNat]⟩) (W.alloc (.cells #[.int .u8 x] e)) := by
  rw [run_convert_bytes_string _ src dst e _ 1 1 hs he hd]
  have hl := run_loadCells_list (P := P) (W.alloc (.cells #[.int .u8 x] e)) ⟨W.heap.size, 0, none⟩ [Value.int .u8 x] (fun j v hj => by
    match j, hj with
    | 0, hj => simp at hj; subst hj; simp [Addr.add])
  rw [run_bytesToString _ _ 1 1 [x] (by simpa using hl)]
  rfl

/-- 'string(b)' where b is nil or the call's own row of the bytes l. -/
theorem conv_own {P : Program} (src dst e : TypeId) (hs : P.underlying src = some (.slice e)) (he : P.underlying e = some (.int .u8)) (hd : P.underlying dst = some .string)
    {W : World} {base : Nat} {v : Value} {n : Nat} {l : List UInt8} (h : W.ownsRow base e 1 v n (bytesOf l)) :
    (convert src dst v).run P W = .ok (.string ⟨l.toArray⟩) W := by
  have hn : l.length = n := by have := h.1; simpa [bytesOf] using this
  subst hn
  rcases h.2 with ⟨rfl, h0⟩ | ⟨g, cap, cur, rfl, _⟩
  · have : l = [] := List.length_eq_zero_iff.1 h0
    subst this
    rw [run_convert_bytes_string _ src dst e _ _ _ hs he hd]
    rfl
  · refine run_convert_bytes_back W src dst e _ cap l hs he hd fun j hj => ?_
    have h1 := h.cellAt j (by simpa using hj)
    rw [bytesOf_get l j hj] at h1
    rw [← h1]
    simp only [Addr.add]
    split
    · rename_i h2; simp [h2]
    · simp

/-- Behind 'append(out, x)', out the call's own: what lies below B is as it was. -/
theorem below_app {B : Nat} {w wr w1 : World} {e : TypeId} {size n : Nat} {v : Value} {xs : List Value} {o : Obj} (hbel : Below B w wr) (hB : B ≤ w.heap.size)
    (hown : wr.ownsRow B e size v n xs) (hg : (wr.alloc o).grownBy w1 v.ownBlock) : Below B w w1 :=
  (hbel.alloc (Nat.le_trans hB hbel.size) o).grown hg (Nat.le_trans hB (Nat.le_trans hbel.size (by simp))) (fun k hk => (hown.lt k hk).1)

theorem below_app_drew {B : Nat} {w wr w1 : World} {e : TypeId} {size n : Nat} {v : Value} {xs : List Value} {o : Obj} (hbel : Below B w wr) (hB : B ≤ w.heap.size)
    (hown : wr.ownsRow B e size v n xs) (hg : (wr.alloc o).drew.grownBy w1 v.ownBlock) : Below B w w1 :=
  below_app hbel hB hown (o := o) ⟨hg.os, hg.tape, hg.output, hg.size, hg.block⟩
end Go.Proofs.Ytkfjpgkpmdbnoaa.Own
