/- Rows of events. -/
import Derived.Test.YthmompnlkclfaaaFl
import Derived.Test.YthmompnlkclfaaaDraw
set_option linter.unusedVariables false
set_option maxRecDepth 100000
namespace Go.Proofs.Ythmompnlkclfaaa
open Go Go.RowKit Go.Joins Own Draw

abbrev TE := Int × Int × Int × Int × Int × Int × Int × Int × Int × Int × Int
abbrev cE (p : TE) : List Value := [.int .i64 p.1, .int .i64 p.2.1, .int .i64 p.2.2.1, .int .i64 p.2.2.2.1, .int .i64 p.2.2.2.2.1, .int .i64 p.2.2.2.2.2.1, .int .i64 p.2.2.2.2.2.2.1, .int .i64 p.2.2.2.2.2.2.2.1, .int .i64 p.2.2.2.2.2.2.2.2.1, .int .i64 p.2.2.2.2.2.2.2.2.2.1, .int .i64 p.2.2.2.2.2.2.2.2.2.2]
abbrev vE (p : TE) : Value := .agg #[.int .i64 p.1, .int .i64 p.2.1, .int .i64 p.2.2.1, .int .i64 p.2.2.2.1, .int .i64 p.2.2.2.2.1, .int .i64 p.2.2.2.2.2.1, .int .i64 p.2.2.2.2.2.2.1, .int .i64 p.2.2.2.2.2.2.2.1, .int .i64 p.2.2.2.2.2.2.2.2.1, .int .i64 p.2.2.2.2.2.2.2.2.2.1, .int .i64 p.2.2.2.2.2.2.2.2.2.2]
theorem lE (p : TE) : (cE p).length = 11 := rfl
def gE (k0 i : Nat) : Value := .int .i64 ((k0 + i : Nat) : Int)
theorem gE_0 (k0 k m : Nat) (hm : m = k0 + k * 11) : gE k0 (k * 11) = .int .i64 ((m : Int)) := by
  subst hm
  unfold gE
  congr 1
theorem gE_1 (k0 k m : Nat) (hm : m = k0 + k * 11) : gE k0 (k * 11 + 1) = .int .i64 ((m : Int) + 1) := by
  subst hm
  unfold gE
  congr 1
theorem gE_2 (k0 k m : Nat) (hm : m = k0 + k * 11) : gE k0 (k * 11 + 2) = .int .i64 ((m : Int) + 1 + 1) := by
  subst hm
  unfold gE
  congr 1
theorem gE_3 (k0 k m : Nat) (hm : m = k0 + k * 11) : gE k0 (k * 11 + 3) = .int .i64 ((m : Int) + 1 + 1 + 1) := by
  subst hm
  unfold gE
  congr 1
theorem gE_4 (k0 k m : Nat) (hm : m = k0 + k * 11) : gE k0 (k * 11 + 4) = .int .i64 ((m : Int) + 1 + 1 + 1 + 1) := by
  subst hm
  unfold gE
  congr 1
theorem gE_5 (k0 k m : Nat) (hm : m = k0 + k * 11) : gE k0 (k * 11 + 5) = .int .i64 ((m : Int) + 1 + 1 + 1 + 1 + 1) := by
  subst hm
  unfold gE
  congr 1
theorem gE_6 (k0 k m : Nat) (hm : m = k0 + k * 11) : gE k0 (k * 11 + 6) = .int .i64 ((m : Int) + 1 + 1 + 1 + 1 + 1 + 1) := by
  subst hm
  unfold gE
  congr 1
theorem gE_7 (k0 k m : Nat) (hm : m = k0 + k * 11) : gE k0 (k * 11 + 7) = .int .i64 ((m : Int) + 1 + 1 + 1 + 1 + 1 + 1 + 1) := by
  subst hm
  unfold gE
  congr 1
theorem gE_8 (k0 k m : Nat) (hm : m = k0 + k * 11) : gE k0 (k * 11 + 8) = .int .i64 ((m : Int) + 1 + 1 + 1 + 1 + 1 + 1 + 1 + 1) := by
  subst hm
  unfold gE
  congr 1
theorem gE_9 (k0 k m : Nat) (hm : m = k0 + k * 11) : gE k0 (k * 11 + 9) = .int .i64 ((m : Int) + 1 + 1 + 1 + 1 + 1 + 1 + 1 + 1 + 1) := by
  subst hm
  unfold gE
  congr 1
theorem gE_10 (k0 k m : Nat) (hm : m = k0 + k * 11) : gE k0 (k * 11 + 10) = .int .i64 ((m : Int) + 1 + 1 + 1 + 1 + 1 + 1 + 1 + 1 + 1 + 1) := by
  subst hm
  unfold gE
  congr 1
abbrev TR := Int × Int × Int
abbrev cR (p : TR) : List Value := [.int .i64 p.1, .int .i64 p.2.1, .int .i64 p.2.2]
abbrev vR (p : TR) : Value := .agg #[.int .i64 p.1, .int .i64 p.2.1, .int .i64 p.2.2]
theorem lR (p : TR) : (cR p).length = 3 := rfl
abbrev TI := Int
abbrev cI (p : TI) : List Value := [.int .i64 p]
abbrev vI (p : TI) : Value := .agg #[.int .i64 p]
theorem lI (p : TI) : (cI p).length = 1 := rfl
def gI (k0 i : Nat) : Value := .int .i64 ((k0 + i : Nat) : Int)
theorem gI_0 (k0 k m : Nat) (hm : m = k0 + k) : gI k0 k = .int .i64 ((m : Int)) := by
  subst hm
  unfold gI
  congr 1
end Go.Proofs.Ythmompnlkclfaaa
