/- The text of a table: plain. -/
import Derived.Test.YtkfjpgkpmdbnoaaTb0
import Derived.Test.YtkfjpgkpmdbnoaaVarWalks
set_option linter.unusedVariables false
set_option maxRecDepth 100000
namespace Go.Proofs.Ytkfjpgkpmdbnoaa
open Go Go.RowKit Go.Joins Own Draw Go.Proofs.Ytkfjpgkpmdbnoaa.Var

def shH (p : TS) : ByteArray := varOf p.1 ++ varOf p.2.1 ++ varOf p.2.2
def shS (s : ByteArray) (l : List TS) : ByteArray := l.foldl (fun t p => t ++ shH p) s
def shT (l : List TS) : ByteArray := if tabB l = true then shS (varOf (l.length : Int)) l else ⟨#[]⟩
theorem varOf_size (n : Int) : (varOf n).size ≤ 7 := by
  unfold varOf
  split
  · rename_i h
    show (varB n.toNat).toArray.size ≤ 7
    rw [List.size_toArray]
    exact varB_seven _ (by omega)
  · show (#[] : Array UInt8).size ≤ 7
    simp
theorem shS_snoc (s : ByteArray) (l : List TS) (p : TS) : shS s (l ++ [p]) = shS s l ++ shH p := by unfold shS; rw [List.foldl_append]; rfl
theorem ba_size (s t : ByteArray) : (s ++ t).size = s.size + t.size := ByteArray.size_append
theorem shH_size (p : TS) : (shH p).size ≤ 21 := by
  unfold shH
  rw [ba_size, ba_size]
  have h1 := varOf_size p.1
  have h2 := varOf_size p.2.1
  have h3 := varOf_size p.2.2
  omega
theorem shS_size : ∀ (l : List TS) (s : ByteArray), (shS s l).size ≤ s.size + 21 * l.length
  | [], s => by show s.size ≤ _; omega
  | p :: l, s => by
    have h1 := shS_size l (s ++ shH p)
    have h3 := shH_size p
    rw [ba_size] at h1
    show (shS (s ++ shH p) l).size ≤ _
    rw [List.length_cons]
    omega
theorem shS_step {l : List TS} {j : Nat} (h : j < l.length) (s : ByteArray) : shS s (l.take (j + 1)) = shS s (l.take j) ++ shH l[j] := by
  rw [List.take_succ_eq_append_getElem h, shS_snoc]
theorem ba_assoc4 (s a b c : ByteArray) : s ++ a ++ b ++ c = s ++ (a ++ b ++ c) := by
  rw [ByteArray.append_assoc, ByteArray.append_assoc, ByteArray.append_assoc]
end Go.Proofs.Ytkfjpgkpmdbnoaa
