/-
  No cell of these rows narrows 'for every input' (looked for: loops, veiled, ifaces, maps, wideKeys, modest, calm, conditions, laid).
  DERIVED. THE GIVEN ROWS OF THIS SEAT. 6 by the template 'for every input the law returns true; each argument reads behind the call as it read before'; 0 by the template 'total and deterministic' (their statements: YtbpodcfbijhboaaTotals.lean).
  GIVEN WITH THE SEED: the statements are not yours to turn. If you find one false, say at which input.
  Laid BY PROGRAM, IN A SANDBOX (cutbox-rows.mjs): the forced cells as the released guide's own fill.sh prints them over the translation d5c26232b5010ef9… (all of the seat's roots in one cut). By AI agents, Wed Nov 11 2026. No macro, syntax, notation, axiom, sorry.
-/
import Derived.Test.YtbpodcfbijhboaaChecked
import GoSem.Claim
import GoSem.ClaimJoined
import GoSem.ClaimMapViews
import Derived.JoinedTies
import Derived.KernelRfl
namespace Go.Proofs.Ytbpodcfbijhboaa
/- THE CELL 'sum', in the pinned program and in every row, IS THE sha256 OF THE DUMP (.gsa) THAT YtbpodcfbijhboaaProg.lean LOADS. Nothing in Lean hashes anything: it is a label: what it is worth is what the hold of that sum in a sandbox is worth. -/
noncomputable def Try.pinned : Pinned := { name := "ytbpodcfbijhboaa", sum := "d5c26232b5010ef9581af0cfe78872bf484b2b7a4ef1bd2b985e530056ee3a7d", checked := Try.checked }
namespace Rows
def none {H : Type} : Left H := { results := [], args := [] }

/-- 'laws.FnNames': WHATEVER THE INPUT: true; the input reads as it did. -/
def fnNamesSpec : ChangeSpec := { name := "fnNames", fn := fun _ => fun
  | [d] => { results := [.lit (.bool true)], args := [d] }
  | _ => none }
def fnNamesRow : OpenClaim := { program := "ytbpodcfbijhboaa", sum := "d5c26232b5010ef9581af0cfe78872bf484b2b7a4ef1bd2b985e530056ee3a7d", func := "loop.example/g00769/laws.FnNames", spec := "fnNames", unfollowed := true, recurses := true, apart := false }
def FnNamesSaid : Prop := fnNamesRow.holds Try.pinned (OpenSpec.ofChange fnNamesSpec)

/-- ITS FALSE NEIGHBOUR: 'it returns false'. Refute it at one input. -/
def fnNamesWrong : ChangeSpec := { name := "fnNames", fn := fun _ => fun
  | [d] => { results := [.lit (.bool false)], args := [d] }
  | _ => none }
def FnNamesWrongFalsely : Prop := fnNamesRow.holds Try.pinned (OpenSpec.ofChange fnNamesWrong)

/-- 'laws.FnExactNameOk': WHATEVER THE INPUT: true; the input reads as it did. -/
def fnExactNameOkSpec : ChangeSpec := { name := "fnExactNameOk", fn := fun _ => fun
  | [d] => { results := [.lit (.bool true)], args := [d] }
  | _ => none }
def fnExactNameOkRow : OpenClaim := { program := "ytbpodcfbijhboaa", sum := "d5c26232b5010ef9581af0cfe78872bf484b2b7a4ef1bd2b985e530056ee3a7d", func := "loop.example/g00769/laws.FnExactNameOk", spec := "fnExactNameOk", unfollowed := true, recurses := true, apart := false }
def FnExactNameOkSaid : Prop := fnExactNameOkRow.holds Try.pinned (OpenSpec.ofChange fnExactNameOkSpec)

/-- ITS FALSE NEIGHBOUR: 'it returns false'. Refute it at one input. -/
def fnExactNameOkWrong : ChangeSpec := { name := "fnExactNameOk", fn := fun _ => fun
  | [d] => { results := [.lit (.bool false)], args := [d] }
  | _ => none }
def FnExactNameOkWrongFalsely : Prop := fnExactNameOkRow.holds Try.pinned (OpenSpec.ofChange fnExactNameOkWrong)

/-- 'laws.FnExactShowName': WHATEVER THE INPUT: true; the input reads as it did. -/
def fnExactShowNameSpec : ChangeSpec := { name := "fnExactShowName", fn := fun _ => fun
  | [d] => { results := [.lit (.bool true)], args := [d] }
  | _ => none }
def fnExactShowNameRow : OpenClaim := { program := "ytbpodcfbijhboaa", sum := "d5c26232b5010ef9581af0cfe78872bf484b2b7a4ef1bd2b985e530056ee3a7d", func := "loop.example/g00769/laws.FnExactShowName", spec := "fnExactShowName", unfollowed := true, recurses := true, apart := false }
def FnExactShowNameSaid : Prop := fnExactShowNameRow.holds Try.pinned (OpenSpec.ofChange fnExactShowNameSpec)

/-- ITS FALSE NEIGHBOUR: 'it returns false'. Refute it at one input. -/
def fnExactShowNameWrong : ChangeSpec := { name := "fnExactShowName", fn := fun _ => fun
  | [d] => { results := [.lit (.bool false)], args := [d] }
  | _ => none }
def FnExactShowNameWrongFalsely : Prop := fnExactShowNameRow.holds Try.pinned (OpenSpec.ofChange fnExactShowNameWrong)

/-- 'laws.FnExactReadName': WHATEVER THE INPUT: true; the input reads as it did. -/
def fnExactReadNameSpec : ChangeSpec := { name := "fnExactReadName", fn := fun _ => fun
  | [d] => { results := [.lit (.bool true)], args := [d] }
  | _ => none }
def fnExactReadNameRow : OpenClaim := { program := "ytbpodcfbijhboaa", sum := "d5c26232b5010ef9581af0cfe78872bf484b2b7a4ef1bd2b985e530056ee3a7d", func := "loop.example/g00769/laws.FnExactReadName", spec := "fnExactReadName", unfollowed := true, recurses := true, apart := false }
def FnExactReadNameSaid : Prop := fnExactReadNameRow.holds Try.pinned (OpenSpec.ofChange fnExactReadNameSpec)

/-- ITS FALSE NEIGHBOUR: 'it returns false'. Refute it at one input. -/
def fnExactReadNameWrong : ChangeSpec := { name := "fnExactReadName", fn := fun _ => fun
  | [d] => { results := [.lit (.bool false)], args := [d] }
  | _ => none }
def FnExactReadNameWrongFalsely : Prop := fnExactReadNameRow.holds Try.pinned (OpenSpec.ofChange fnExactReadNameWrong)

/-- 'laws.FnExactNameFits': WHATEVER THE INPUT: true; the input reads as it did. -/
def fnExactNameFitsSpec : ChangeSpec := { name := "fnExactNameFits", fn := fun _ => fun
  | [d1, d2] => { results := [.lit (.bool true)], args := [d1, d2] }
  | _ => none }
def fnExactNameFitsRow : OpenClaim := { program := "ytbpodcfbijhboaa", sum := "d5c26232b5010ef9581af0cfe78872bf484b2b7a4ef1bd2b985e530056ee3a7d", func := "loop.example/g00769/laws.FnExactNameFits", spec := "fnExactNameFits", unfollowed := true, recurses := true, apart := false }
def FnExactNameFitsSaid : Prop := fnExactNameFitsRow.holds Try.pinned (OpenSpec.ofChange fnExactNameFitsSpec)

/-- ITS FALSE NEIGHBOUR: 'it returns false'. Refute it at one input. -/
def fnExactNameFitsWrong : ChangeSpec := { name := "fnExactNameFits", fn := fun _ => fun
  | [d1, d2] => { results := [.lit (.bool false)], args := [d1, d2] }
  | _ => none }
def FnExactNameFitsWrongFalsely : Prop := fnExactNameFitsRow.holds Try.pinned (OpenSpec.ofChange fnExactNameFitsWrong)

/-- 'laws.FnExactNameLess': WHATEVER THE INPUT: true; the input reads as it did. -/
def fnExactNameLessSpec : ChangeSpec := { name := "fnExactNameLess", fn := fun _ => fun
  | [d1, d2] => { results := [.lit (.bool true)], args := [d1, d2] }
  | _ => none }
def fnExactNameLessRow : OpenClaim := { program := "ytbpodcfbijhboaa", sum := "d5c26232b5010ef9581af0cfe78872bf484b2b7a4ef1bd2b985e530056ee3a7d", func := "loop.example/g00769/laws.FnExactNameLess", spec := "fnExactNameLess", apart := false }
def FnExactNameLessSaid : Prop := fnExactNameLessRow.holds Try.pinned (OpenSpec.ofChange fnExactNameLessSpec)

/-- ITS FALSE NEIGHBOUR: 'it returns false'. Refute it at one input. -/
def fnExactNameLessWrong : ChangeSpec := { name := "fnExactNameLess", fn := fun _ => fun
  | [d1, d2] => { results := [.lit (.bool false)], args := [d1, d2] }
  | _ => none }
def FnExactNameLessWrongFalsely : Prop := fnExactNameLessRow.holds Try.pinned (OpenSpec.ofChange fnExactNameLessWrong)

/- THE SECOND FORM. 'bulk': how many values and letters a reading holds, each counted each time it is reached (what is shared counts as often as it is met; a slice's spare places count too). A statement '..UptoSaid' is the law's where the arguments, and the package variables that the reading takes, are together of bulk at most 1048576: NARROWER than '..Said'. Prove '..Said' where nothing that the law and all that it calls make is longer than what came in: it says more and counts as full. Else prove '..UptoSaid'. A law counts once. -/
mutual
def uptoBulk {H : Type} : DataW H → Nat
  | .lit (.string bytes) => bytes.length + 1
  | .lit _ => 1
  | .nil => 1
  | .ptr d => uptoBulk d + 1
  | .slice elems spare => uptoBulkAll elems + uptoBulkAll spare + 1
  | .agg parts => uptoBulkAll parts + 1
  | .iface _ d => uptoBulk d + 1
  | .map entries => uptoBulkEntries entries + 1
  | .held _ => 1
def uptoBulkAll {H : Type} : List (DataW H) → Nat
  | [] => 0
  | d :: r => uptoBulk d + uptoBulkAll r
def uptoBulkEntries {H : Type} : List (Lit × DataW H) → Nat
  | [] => 0
  | x :: r => uptoBulkEntry x + uptoBulkEntries r
def uptoBulkEntry {H : Type} : Lit × DataW H → Nat
  | (.string bytes, d) => bytes.length + uptoBulk d + 1
  | (_, d) => uptoBulk d + 1
 end
def uptoSmall : (H : Type) → List (DataW H) → Bool := fun _ ds => decide (uptoBulkAll ds ≤ 1048576)
def OpenSpec.upto (s : _root_.Go.ChangeSpec) : _root_.Go.OpenSpec := { _root_.Go.OpenSpec.ofChange s with cond := some uptoSmall }

/-- 'laws.FnNames', WHERE WHAT IT READS IS OF BULK AT MOST 1048576: true; the input reads as it did. -/
def fnNamesUptoRow : OpenClaim := { program := "ytbpodcfbijhboaa", sum := "d5c26232b5010ef9581af0cfe78872bf484b2b7a4ef1bd2b985e530056ee3a7d", func := "loop.example/g00769/laws.FnNames", spec := "fnNames", unfollowed := true, recurses := true, apart := false, narrowed := true }
def FnNamesUptoSaid : Prop := fnNamesUptoRow.holds Try.pinned (OpenSpec.upto fnNamesSpec)

/-- 'laws.FnExactNameOk', WHERE WHAT IT READS IS OF BULK AT MOST 1048576: true; the input reads as it did. -/
def fnExactNameOkUptoRow : OpenClaim := { program := "ytbpodcfbijhboaa", sum := "d5c26232b5010ef9581af0cfe78872bf484b2b7a4ef1bd2b985e530056ee3a7d", func := "loop.example/g00769/laws.FnExactNameOk", spec := "fnExactNameOk", unfollowed := true, recurses := true, apart := false, narrowed := true }
def FnExactNameOkUptoSaid : Prop := fnExactNameOkUptoRow.holds Try.pinned (OpenSpec.upto fnExactNameOkSpec)

/-- 'laws.FnExactShowName', WHERE WHAT IT READS IS OF BULK AT MOST 1048576: true; the input reads as it did. -/
def fnExactShowNameUptoRow : OpenClaim := { program := "ytbpodcfbijhboaa", sum := "d5c26232b5010ef9581af0cfe78872bf484b2b7a4ef1bd2b985e530056ee3a7d", func := "loop.example/g00769/laws.FnExactShowName", spec := "fnExactShowName", unfollowed := true, recurses := true, apart := false, narrowed := true }
def FnExactShowNameUptoSaid : Prop := fnExactShowNameUptoRow.holds Try.pinned (OpenSpec.upto fnExactShowNameSpec)

/-- 'laws.FnExactReadName', WHERE WHAT IT READS IS OF BULK AT MOST 1048576: true; the input reads as it did. -/
def fnExactReadNameUptoRow : OpenClaim := { program := "ytbpodcfbijhboaa", sum := "d5c26232b5010ef9581af0cfe78872bf484b2b7a4ef1bd2b985e530056ee3a7d", func := "loop.example/g00769/laws.FnExactReadName", spec := "fnExactReadName", unfollowed := true, recurses := true, apart := false, narrowed := true }
def FnExactReadNameUptoSaid : Prop := fnExactReadNameUptoRow.holds Try.pinned (OpenSpec.upto fnExactReadNameSpec)

/-- 'laws.FnExactNameFits', WHERE WHAT IT READS IS OF BULK AT MOST 1048576: true; the input reads as it did. -/
def fnExactNameFitsUptoRow : OpenClaim := { program := "ytbpodcfbijhboaa", sum := "d5c26232b5010ef9581af0cfe78872bf484b2b7a4ef1bd2b985e530056ee3a7d", func := "loop.example/g00769/laws.FnExactNameFits", spec := "fnExactNameFits", unfollowed := true, recurses := true, apart := false, narrowed := true }
def FnExactNameFitsUptoSaid : Prop := fnExactNameFitsUptoRow.holds Try.pinned (OpenSpec.upto fnExactNameFitsSpec)

/-- 'laws.FnExactNameLess', WHERE WHAT IT READS IS OF BULK AT MOST 1048576: true; the input reads as it did. -/
def fnExactNameLessUptoRow : OpenClaim := { program := "ytbpodcfbijhboaa", sum := "d5c26232b5010ef9581af0cfe78872bf484b2b7a4ef1bd2b985e530056ee3a7d", func := "loop.example/g00769/laws.FnExactNameLess", spec := "fnExactNameLess", apart := false, narrowed := true }
def FnExactNameLessUptoSaid : Prop := fnExactNameLessUptoRow.holds Try.pinned (OpenSpec.upto fnExactNameLessSpec)

end Rows
end Go.Proofs.Ytbpodcfbijhboaa
