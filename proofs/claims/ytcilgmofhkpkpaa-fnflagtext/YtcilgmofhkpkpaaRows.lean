/-
  No cell of these rows narrows 'for every input' (looked for: loops, veiled, ifaces, maps, wideKeys, modest, calm, conditions, laid).
  DERIVED. THE GIVEN ROWS OF THIS SEAT. 7 by the template 'for every input the law returns true; each argument reads behind the call as it read before'; 0 by the template 'total and deterministic' (their statements: YtcilgmofhkpkpaaTotals.lean).
  GIVEN WITH THE SEED: the statements are not yours to turn. If you find one false, say at which input.
  Laid BY PROGRAM, IN A SANDBOX (cutbox-rows.mjs): the forced cells as the released guide's own fill.sh prints them over the translation 0dd1113e2b2a5e49… (all of the seat's roots in one cut). By AI agents, Wed Nov 11 2026. No macro, syntax, notation, axiom, sorry.
-/
import Derived.Test.YtcilgmofhkpkpaaChecked
import GoSem.Claim
import GoSem.ClaimJoined
import GoSem.ClaimMapViews
import Derived.JoinedTies
import Derived.KernelRfl
namespace Go.Proofs.Ytcilgmofhkpkpaa
/- THE CELL 'sum', in the pinned program and in every row, IS THE sha256 OF THE DUMP (.gsa) THAT YtcilgmofhkpkpaaProg.lean LOADS. Nothing in Lean hashes anything: it is a label: what it is worth is what the hold of that sum in a sandbox is worth. -/
noncomputable def Try.pinned : Pinned := { name := "ytcilgmofhkpkpaa", sum := "0dd1113e2b2a5e49c6c760f4139f9540b32eefea75451510170704e206f69524", checked := Try.checked }
namespace Rows
def none {H : Type} : Left H := { results := [], args := [] }

/-- 'laws.FnFlags': WHATEVER THE INPUT: true; the input reads as it did. -/
def fnFlagsSpec : ChangeSpec := { name := "fnFlags", fn := fun _ => fun
  | [d] => { results := [.lit (.bool true)], args := [d] }
  | _ => none }
def fnFlagsRow : OpenClaim := { program := "ytcilgmofhkpkpaa", sum := "0dd1113e2b2a5e49c6c760f4139f9540b32eefea75451510170704e206f69524", func := "loop.example/g00769/laws.FnFlags", spec := "fnFlags", plainKeys := false, apart := false }
def FnFlagsSaid : Prop := fnFlagsRow.holds Try.pinned (OpenSpec.ofChange fnFlagsSpec)

/-- ITS FALSE NEIGHBOUR: 'it returns false'. Refute it at one input. -/
def fnFlagsWrong : ChangeSpec := { name := "fnFlags", fn := fun _ => fun
  | [d] => { results := [.lit (.bool false)], args := [d] }
  | _ => none }
def FnFlagsWrongFalsely : Prop := fnFlagsRow.holds Try.pinned (OpenSpec.ofChange fnFlagsWrong)

/-- 'laws.FnFlagText': WHATEVER THE INPUT: true; the input reads as it did. -/
def fnFlagTextSpec : ChangeSpec := { name := "fnFlagText", fn := fun _ => fun
  | [d] => { results := [.lit (.bool true)], args := [d] }
  | _ => none }
def fnFlagTextRow : OpenClaim := { program := "ytcilgmofhkpkpaa", sum := "0dd1113e2b2a5e49c6c760f4139f9540b32eefea75451510170704e206f69524", func := "loop.example/g00769/laws.FnFlagText", spec := "fnFlagText", inPlace := ["internal/bytealg.IndexByteString", "internal/bytealg.IndexString"], named := ["internal/bytealg.MaxLen"], plainKeys := false, apart := false }
def FnFlagTextSaid : Prop := fnFlagTextRow.holds Try.pinned (OpenSpec.ofChange fnFlagTextSpec)

/-- ITS FALSE NEIGHBOUR: 'it returns false'. Refute it at one input. -/
def fnFlagTextWrong : ChangeSpec := { name := "fnFlagText", fn := fun _ => fun
  | [d] => { results := [.lit (.bool false)], args := [d] }
  | _ => none }
def FnFlagTextWrongFalsely : Prop := fnFlagTextRow.holds Try.pinned (OpenSpec.ofChange fnFlagTextWrong)

/-- 'laws.FnExactFlagsOk': WHATEVER THE INPUT: true; the input reads as it did. -/
def fnExactFlagsOkSpec : ChangeSpec := { name := "fnExactFlagsOk", fn := fun _ => fun
  | [d] => { results := [.lit (.bool true)], args := [d] }
  | _ => none }
def fnExactFlagsOkRow : OpenClaim := { program := "ytcilgmofhkpkpaa", sum := "0dd1113e2b2a5e49c6c760f4139f9540b32eefea75451510170704e206f69524", func := "loop.example/g00769/laws.FnExactFlagsOk", spec := "fnExactFlagsOk", plainKeys := false, apart := false }
def FnExactFlagsOkSaid : Prop := fnExactFlagsOkRow.holds Try.pinned (OpenSpec.ofChange fnExactFlagsOkSpec)

/-- ITS FALSE NEIGHBOUR: 'it returns false'. Refute it at one input. -/
def fnExactFlagsOkWrong : ChangeSpec := { name := "fnExactFlagsOk", fn := fun _ => fun
  | [d] => { results := [.lit (.bool false)], args := [d] }
  | _ => none }
def FnExactFlagsOkWrongFalsely : Prop := fnExactFlagsOkRow.holds Try.pinned (OpenSpec.ofChange fnExactFlagsOkWrong)

/-- 'laws.FnExactDerive': WHATEVER THE INPUT: true; the input reads as it did. -/
def fnExactDeriveSpec : ChangeSpec := { name := "fnExactDerive", fn := fun _ => fun
  | [d1, d2, d3] => { results := [.lit (.bool true)], args := [d1, d2, d3] }
  | _ => none }
def fnExactDeriveRow : OpenClaim := { program := "ytcilgmofhkpkpaa", sum := "0dd1113e2b2a5e49c6c760f4139f9540b32eefea75451510170704e206f69524", func := "loop.example/g00769/laws.FnExactDerive", spec := "fnExactDerive", plainKeys := false, apart := false }
def FnExactDeriveSaid : Prop := fnExactDeriveRow.holds Try.pinned (OpenSpec.ofChange fnExactDeriveSpec)

/-- ITS FALSE NEIGHBOUR: 'it returns false'. Refute it at one input. -/
def fnExactDeriveWrong : ChangeSpec := { name := "fnExactDerive", fn := fun _ => fun
  | [d1, d2, d3] => { results := [.lit (.bool false)], args := [d1, d2, d3] }
  | _ => none }
def FnExactDeriveWrongFalsely : Prop := fnExactDeriveRow.holds Try.pinned (OpenSpec.ofChange fnExactDeriveWrong)

/-- 'laws.FnExactBelow': WHATEVER THE INPUT: true; the input reads as it did. -/
def fnExactBelowSpec : ChangeSpec := { name := "fnExactBelow", fn := fun _ => fun
  | [d1, d2] => { results := [.lit (.bool true)], args := [d1, d2] }
  | _ => none }
def fnExactBelowRow : OpenClaim := { program := "ytcilgmofhkpkpaa", sum := "0dd1113e2b2a5e49c6c760f4139f9540b32eefea75451510170704e206f69524", func := "loop.example/g00769/laws.FnExactBelow", spec := "fnExactBelow", plainKeys := false, apart := false }
def FnExactBelowSaid : Prop := fnExactBelowRow.holds Try.pinned (OpenSpec.ofChange fnExactBelowSpec)

/-- ITS FALSE NEIGHBOUR: 'it returns false'. Refute it at one input. -/
def fnExactBelowWrong : ChangeSpec := { name := "fnExactBelow", fn := fun _ => fun
  | [d1, d2] => { results := [.lit (.bool false)], args := [d1, d2] }
  | _ => none }
def FnExactBelowWrongFalsely : Prop := fnExactBelowRow.holds Try.pinned (OpenSpec.ofChange fnExactBelowWrong)

/-- 'laws.FnExactShowFlags': WHATEVER THE INPUT: true; the input reads as it did. -/
def fnExactShowFlagsSpec : ChangeSpec := { name := "fnExactShowFlags", fn := fun _ => fun
  | [d] => { results := [.lit (.bool true)], args := [d] }
  | _ => none }
def fnExactShowFlagsRow : OpenClaim := { program := "ytcilgmofhkpkpaa", sum := "0dd1113e2b2a5e49c6c760f4139f9540b32eefea75451510170704e206f69524", func := "loop.example/g00769/laws.FnExactShowFlags", spec := "fnExactShowFlags", plainKeys := false, apart := false }
def FnExactShowFlagsSaid : Prop := fnExactShowFlagsRow.holds Try.pinned (OpenSpec.ofChange fnExactShowFlagsSpec)

/-- ITS FALSE NEIGHBOUR: 'it returns false'. Refute it at one input. -/
def fnExactShowFlagsWrong : ChangeSpec := { name := "fnExactShowFlags", fn := fun _ => fun
  | [d] => { results := [.lit (.bool false)], args := [d] }
  | _ => none }
def FnExactShowFlagsWrongFalsely : Prop := fnExactShowFlagsRow.holds Try.pinned (OpenSpec.ofChange fnExactShowFlagsWrong)

/-- 'laws.FnExactReadFlags': WHATEVER THE INPUT: true; the input reads as it did. -/
def fnExactReadFlagsSpec : ChangeSpec := { name := "fnExactReadFlags", fn := fun _ => fun
  | [d] => { results := [.lit (.bool true)], args := [d] }
  | _ => none }
def fnExactReadFlagsRow : OpenClaim := { program := "ytcilgmofhkpkpaa", sum := "0dd1113e2b2a5e49c6c760f4139f9540b32eefea75451510170704e206f69524", func := "loop.example/g00769/laws.FnExactReadFlags", spec := "fnExactReadFlags", inPlace := ["internal/bytealg.IndexByteString", "internal/bytealg.IndexString"], named := ["internal/bytealg.MaxLen"], plainKeys := false, apart := false }
def FnExactReadFlagsSaid : Prop := fnExactReadFlagsRow.holds Try.pinned (OpenSpec.ofChange fnExactReadFlagsSpec)

/-- ITS FALSE NEIGHBOUR: 'it returns false'. Refute it at one input. -/
def fnExactReadFlagsWrong : ChangeSpec := { name := "fnExactReadFlags", fn := fun _ => fun
  | [d] => { results := [.lit (.bool false)], args := [d] }
  | _ => none }
def FnExactReadFlagsWrongFalsely : Prop := fnExactReadFlagsRow.holds Try.pinned (OpenSpec.ofChange fnExactReadFlagsWrong)

/- THE SECOND FORM. 'bulk': how many values and letters a reading holds, each counted each time it is reached (what is shared counts as often as it is met; a slice's spare places count too). A statement '..UptoSaid' is the law's where the arguments, and the package variables that the reading takes, are together of bulk at most 1048576: NARROWER than '..Said'. Prove '..Said' where nothing that the law and all that it calls make is longer than what came in: it says more and counts as full. Else prove '..UptoSaid'. A law counts once. -/
mutual
def uptoBulk {H : Type} : DataW H → Nat
  | .lit (.string bytes) => bytes.length + 1
  | .lit _ => 1
  | .nil => 1
  | .ptr d => uptoBulk d + 1
  | .slice elems spare => uptoBulkAll elems + uptoBulkAll spare + 1
  | .agg parts => uptoBulkAll parts + 1
  | .iface _ d => uptoBulk d + 1
  | .map entries => uptoBulkEntries entries + 1
  | .held _ => 1
def uptoBulkAll {H : Type} : List (DataW H) → Nat
  | [] => 0
  | d :: r => uptoBulk d + uptoBulkAll r
def uptoBulkEntries {H : Type} : List (Lit × DataW H) → Nat
  | [] => 0
  | x :: r => uptoBulkEntry x + uptoBulkEntries r
def uptoBulkEntry {H : Type} : Lit × DataW H → Nat
  | (.string bytes, d) => bytes.length + uptoBulk d + 1
  | (_, d) => uptoBulk d + 1
 end
def uptoSmall : (H : Type) → List (DataW H) → Bool := fun _ ds => decide (uptoBulkAll ds ≤ 1048576)
def OpenSpec.upto (s : _root_.Go.ChangeSpec) : _root_.Go.OpenSpec := { _root_.Go.OpenSpec.ofChange s with cond := some uptoSmall }

/-- 'laws.FnFlags', WHERE WHAT IT READS IS OF BULK AT MOST 1048576: true; the input reads as it did. -/
def fnFlagsUptoRow : OpenClaim := { program := "ytcilgmofhkpkpaa", sum := "0dd1113e2b2a5e49c6c760f4139f9540b32eefea75451510170704e206f69524", func := "loop.example/g00769/laws.FnFlags", spec := "fnFlags", plainKeys := false, apart := false, narrowed := true }
def FnFlagsUptoSaid : Prop := fnFlagsUptoRow.holds Try.pinned (OpenSpec.upto fnFlagsSpec)

/-- 'laws.FnFlagText', WHERE WHAT IT READS IS OF BULK AT MOST 1048576: true; the input reads as it did. -/
def fnFlagTextUptoRow : OpenClaim := { program := "ytcilgmofhkpkpaa", sum := "0dd1113e2b2a5e49c6c760f4139f9540b32eefea75451510170704e206f69524", func := "loop.example/g00769/laws.FnFlagText", spec := "fnFlagText", inPlace := ["internal/bytealg.IndexByteString", "internal/bytealg.IndexString"], named := ["internal/bytealg.MaxLen"], plainKeys := false, apart := false, narrowed := true }
def FnFlagTextUptoSaid : Prop := fnFlagTextUptoRow.holds Try.pinned (OpenSpec.upto fnFlagTextSpec)

/-- 'laws.FnExactFlagsOk', WHERE WHAT IT READS IS OF BULK AT MOST 1048576: true; the input reads as it did. -/
def fnExactFlagsOkUptoRow : OpenClaim := { program := "ytcilgmofhkpkpaa", sum := "0dd1113e2b2a5e49c6c760f4139f9540b32eefea75451510170704e206f69524", func := "loop.example/g00769/laws.FnExactFlagsOk", spec := "fnExactFlagsOk", plainKeys := false, apart := false, narrowed := true }
def FnExactFlagsOkUptoSaid : Prop := fnExactFlagsOkUptoRow.holds Try.pinned (OpenSpec.upto fnExactFlagsOkSpec)

/-- 'laws.FnExactDerive', WHERE WHAT IT READS IS OF BULK AT MOST 1048576: true; the input reads as it did. -/
def fnExactDeriveUptoRow : OpenClaim := { program := "ytcilgmofhkpkpaa", sum := "0dd1113e2b2a5e49c6c760f4139f9540b32eefea75451510170704e206f69524", func := "loop.example/g00769/laws.FnExactDerive", spec := "fnExactDerive", plainKeys := false, apart := false, narrowed := true }
def FnExactDeriveUptoSaid : Prop := fnExactDeriveUptoRow.holds Try.pinned (OpenSpec.upto fnExactDeriveSpec)

/-- 'laws.FnExactBelow', WHERE WHAT IT READS IS OF BULK AT MOST 1048576: true; the input reads as it did. -/
def fnExactBelowUptoRow : OpenClaim := { program := "ytcilgmofhkpkpaa", sum := "0dd1113e2b2a5e49c6c760f4139f9540b32eefea75451510170704e206f69524", func := "loop.example/g00769/laws.FnExactBelow", spec := "fnExactBelow", plainKeys := false, apart := false, narrowed := true }
def FnExactBelowUptoSaid : Prop := fnExactBelowUptoRow.holds Try.pinned (OpenSpec.upto fnExactBelowSpec)

/-- 'laws.FnExactShowFlags', WHERE WHAT IT READS IS OF BULK AT MOST 1048576: true; the input reads as it did. -/
def fnExactShowFlagsUptoRow : OpenClaim := { program := "ytcilgmofhkpkpaa", sum := "0dd1113e2b2a5e49c6c760f4139f9540b32eefea75451510170704e206f69524", func := "loop.example/g00769/laws.FnExactShowFlags", spec := "fnExactShowFlags", plainKeys := false, apart := false, narrowed := true }
def FnExactShowFlagsUptoSaid : Prop := fnExactShowFlagsUptoRow.holds Try.pinned (OpenSpec.upto fnExactShowFlagsSpec)

/-- 'laws.FnExactReadFlags', WHERE WHAT IT READS IS OF BULK AT MOST 1048576: true; the input reads as it did. -/
def fnExactReadFlagsUptoRow : OpenClaim := { program := "ytcilgmofhkpkpaa", sum := "0dd1113e2b2a5e49c6c760f4139f9540b32eefea75451510170704e206f69524", func := "loop.example/g00769/laws.FnExactReadFlags", spec := "fnExactReadFlags", inPlace := ["internal/bytealg.IndexByteString", "internal/bytealg.IndexString"], named := ["internal/bytealg.MaxLen"], plainKeys := false, apart := false, narrowed := true }
def FnExactReadFlagsUptoSaid : Prop := fnExactReadFlagsUptoRow.holds Try.pinned (OpenSpec.upto fnExactReadFlagsSpec)

end Rows
end Go.Proofs.Ytcilgmofhkpkpaa
