/- The text of rules as plain data. -/
import Derived.Test.YtjbbhegijlnndaaRn0
import Derived.Test.YtjbbhegijlnndaaVarMath
set_option linter.unusedVariables false
set_option maxRecDepth 100000
namespace Go.Proofs.Ytjbbhegijlnndaa.Nd
open Go Go.RowKit Go.Joins Own Draw Go.Proofs.Ytjbbhegijlnndaa Go.Proofs.Ytjbbhegijlnndaa.Var

def shN (s : ByteArray) (xs : List Int) : ByteArray := xs.foldl (fun t n => t ++ varOf n) s
def shH (p : PT) : ByteArray := varOf p.1 ++ varOf p.2.2 ++ varOf (p.2.1.length : Int)
def shS (s : ByteArray) (l : List PT) : ByteArray := l.foldl (fun t p => shN (t ++ shH p) p.2.1) s
def showP (l : List PT) : ByteArray := if okL l = true then shS (varOf (l.length : Int)) l else ⟨#[]⟩
theorem varOf_size (n : Int) : (varOf n).size ≤ 7 := by
  unfold varOf
  split
  · rename_i h
    show (varB n.toNat).toArray.size ≤ 7
    rw [List.size_toArray]
    exact varB_seven _ (by omega)
  · show (#[] : Array UInt8).size ≤ 7
    simp
theorem shN_snoc (s : ByteArray) (xs : List Int) (n : Int) : shN s (xs ++ [n]) = shN s xs ++ varOf n := by unfold shN; rw [List.foldl_append]; rfl
theorem shS_snoc (s : ByteArray) (l : List PT) (p : PT) : shS s (l ++ [p]) = shN (shS s l ++ shH p) p.2.1 := by unfold shS; rw [List.foldl_append]; rfl
theorem ba_size (s t : ByteArray) : (s ++ t).size = s.size + t.size := ByteArray.size_append
theorem shN_size : ∀ (xs : List Int) (s : ByteArray), (shN s xs).size ≤ s.size + 7 * xs.length
  | [], s => by show s.size ≤ _; omega
  | x :: xs, s => by
    have h := shN_size xs (s ++ varOf x)
    have h2 := varOf_size x
    rw [ba_size] at h
    show (shN (s ++ varOf x) xs).size ≤ _
    rw [List.length_cons]
    omega
theorem shH_size (p : PT) : (shH p).size ≤ 21 := by
  unfold shH
  rw [ba_size, ba_size]
  have h1 := varOf_size p.1
  have h2 := varOf_size p.2.2
  have h3 := varOf_size (p.2.1.length : Int)
  omega
theorem shS_size : ∀ (l : List PT) (s : ByteArray), (∀ p ∈ l, p.2.1.length ≤ 31) → (shS s l).size ≤ s.size + 238 * l.length
  | [], s, _ => by show s.size ≤ _; omega
  | p :: l, s, h => by
    have h1 := shS_size l (shN (s ++ shH p) p.2.1) (fun q hq => h q (List.mem_cons_of_mem _ hq))
    have h2 := shN_size p.2.1 (s ++ shH p)
    have h3 := shH_size p
    have h4 := h p (List.mem_cons_self ..)
    rw [ba_size] at h2
    show (shS (shN (s ++ shH p) p.2.1) l).size ≤ _
    rw [List.length_cons]
    omega
/-- What was shown of the first rules, and of the one behind them so many numbers. -/
theorem shS_step {l : List PT} {j : Nat} (h : j < l.length) (s : ByteArray) : shS s (l.take (j + 1)) = shN (shS s (l.take j) ++ shH l[j]) l[j].2.1 := by
  rw [List.take_succ_eq_append_getElem h, shS_snoc]
theorem shN_step {xs : List Int} {j : Nat} (h : j < xs.length) (s : ByteArray) : shN s (xs.take (j + 1)) = shN s (xs.take j) ++ varOf xs[j] := by
  rw [List.take_succ_eq_append_getElem h, shN_snoc]
theorem ba_assoc4 (s a b c : ByteArray) : s ++ a ++ b ++ c = s ++ (a ++ b ++ c) := by
  rw [ByteArray.append_assoc, ByteArray.append_assoc, ByteArray.append_assoc]
end Go.Proofs.Ytjbbhegijlnndaa.Nd
