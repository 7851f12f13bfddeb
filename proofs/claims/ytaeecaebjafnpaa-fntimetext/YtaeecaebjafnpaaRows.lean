/-
  No cell of these rows narrows 'for every input' (looked for: loops, veiled, ifaces, maps, wideKeys, modest, calm, conditions, laid).
  DERIVED. THE GIVEN ROWS OF THIS SEAT. 8 by the template 'for every input the law returns true; each argument reads behind the call as it read before'; 0 by the template 'total and deterministic' (their statements: YtaeecaebjafnpaaTotals.lean).
  GIVEN WITH THE SEED: the statements are not yours to turn. If you find one false, say at which input.
  Laid BY PROGRAM, IN A SANDBOX (cutbox-rows.mjs): the forced cells as the released guide's own fill.sh prints them over the translation febc59cf60dc28bc… (all of the seat's roots in one cut). By AI agents, Wed Nov 11 2026. No macro, syntax, notation, axiom, sorry.
-/
import Derived.Test.YtaeecaebjafnpaaChecked
import GoSem.Claim
import GoSem.ClaimJoined
import GoSem.ClaimMapViews
import Derived.JoinedTies
import Derived.KernelRfl
namespace Go.Proofs.Ytaeecaebjafnpaa
/- THE CELL 'sum', in the pinned program and in every row, IS THE sha256 OF THE DUMP (.gsa) THAT YtaeecaebjafnpaaProg.lean LOADS. Nothing in Lean hashes anything: it is a label: what it is worth is what the hold of that sum in a sandbox is worth. -/
noncomputable def Try.pinned : Pinned := { name := "ytaeecaebjafnpaa", sum := "febc59cf60dc28bc9382fa30f78fe3f91799401c7da4cef1293c6b359a5ae312", checked := Try.checked }
namespace Rows
def none {H : Type} : Left H := { results := [], args := [] }

/-- 'laws.FnTimes': WHATEVER THE INPUT: true; the input reads as it did. -/
def fnTimesSpec : ChangeSpec := { name := "fnTimes", fn := fun _ => fun
  | [d] => { results := [.lit (.bool true)], args := [d] }
  | _ => none }
def fnTimesRow : OpenClaim := { program := "ytaeecaebjafnpaa", sum := "febc59cf60dc28bc9382fa30f78fe3f91799401c7da4cef1293c6b359a5ae312", func := "loop.example/g00769/laws.FnTimes", spec := "fnTimes", unfollowed := true, recurses := true, apart := false }
def FnTimesSaid : Prop := fnTimesRow.holds Try.pinned (OpenSpec.ofChange fnTimesSpec)

/-- ITS FALSE NEIGHBOUR: 'it returns false'. Refute it at one input. -/
def fnTimesWrong : ChangeSpec := { name := "fnTimes", fn := fun _ => fun
  | [d] => { results := [.lit (.bool false)], args := [d] }
  | _ => none }
def FnTimesWrongFalsely : Prop := fnTimesRow.holds Try.pinned (OpenSpec.ofChange fnTimesWrong)

/-- 'laws.FnTimeText': WHATEVER THE INPUT: true; the input reads as it did. -/
def fnTimeTextSpec : ChangeSpec := { name := "fnTimeText", fn := fun _ => fun
  | [d] => { results := [.lit (.bool true)], args := [d] }
  | _ => none }
def fnTimeTextRow : OpenClaim := { program := "ytaeecaebjafnpaa", sum := "febc59cf60dc28bc9382fa30f78fe3f91799401c7da4cef1293c6b359a5ae312", func := "loop.example/g00769/laws.FnTimeText", spec := "fnTimeText", inPlace := ["internal/abi.NoEscape", "internal/bytealg.MakeNoZero"], unfollowed := true, recurses := true, apart := false }
def FnTimeTextSaid : Prop := fnTimeTextRow.holds Try.pinned (OpenSpec.ofChange fnTimeTextSpec)

/-- ITS FALSE NEIGHBOUR: 'it returns false'. Refute it at one input. -/
def fnTimeTextWrong : ChangeSpec := { name := "fnTimeText", fn := fun _ => fun
  | [d] => { results := [.lit (.bool false)], args := [d] }
  | _ => none }
def FnTimeTextWrongFalsely : Prop := fnTimeTextRow.holds Try.pinned (OpenSpec.ofChange fnTimeTextWrong)

/-- 'laws.FnExactTimesOk': WHATEVER THE INPUT: true; the input reads as it did. -/
def fnExactTimesOkSpec : ChangeSpec := { name := "fnExactTimesOk", fn := fun _ => fun
  | [d] => { results := [.lit (.bool true)], args := [d] }
  | _ => none }
def fnExactTimesOkRow : OpenClaim := { program := "ytaeecaebjafnpaa", sum := "febc59cf60dc28bc9382fa30f78fe3f91799401c7da4cef1293c6b359a5ae312", func := "loop.example/g00769/laws.FnExactTimesOk", spec := "fnExactTimesOk", unfollowed := true, recurses := true, apart := false }
def FnExactTimesOkSaid : Prop := fnExactTimesOkRow.holds Try.pinned (OpenSpec.ofChange fnExactTimesOkSpec)

/-- ITS FALSE NEIGHBOUR: 'it returns false'. Refute it at one input. -/
def fnExactTimesOkWrong : ChangeSpec := { name := "fnExactTimesOk", fn := fun _ => fun
  | [d] => { results := [.lit (.bool false)], args := [d] }
  | _ => none }
def FnExactTimesOkWrongFalsely : Prop := fnExactTimesOkRow.holds Try.pinned (OpenSpec.ofChange fnExactTimesOkWrong)

/-- 'laws.FnExactLives': WHATEVER THE INPUT: true; the input reads as it did. -/
def fnExactLivesSpec : ChangeSpec := { name := "fnExactLives", fn := fun _ => fun
  | [d1, d2, d3] => { results := [.lit (.bool true)], args := [d1, d2, d3] }
  | _ => none }
def fnExactLivesRow : OpenClaim := { program := "ytaeecaebjafnpaa", sum := "febc59cf60dc28bc9382fa30f78fe3f91799401c7da4cef1293c6b359a5ae312", func := "loop.example/g00769/laws.FnExactLives", spec := "fnExactLives", unfollowed := true, recurses := true, apart := false }
def FnExactLivesSaid : Prop := fnExactLivesRow.holds Try.pinned (OpenSpec.ofChange fnExactLivesSpec)

/-- ITS FALSE NEIGHBOUR: 'it returns false'. Refute it at one input. -/
def fnExactLivesWrong : ChangeSpec := { name := "fnExactLives", fn := fun _ => fun
  | [d1, d2, d3] => { results := [.lit (.bool false)], args := [d1, d2, d3] }
  | _ => none }
def FnExactLivesWrongFalsely : Prop := fnExactLivesRow.holds Try.pinned (OpenSpec.ofChange fnExactLivesWrong)

/-- 'laws.FnExactRenewed': WHATEVER THE INPUT: true; the input reads as it did. -/
def fnExactRenewedSpec : ChangeSpec := { name := "fnExactRenewed", fn := fun _ => fun
  | [d1, d2, d3] => { results := [.lit (.bool true)], args := [d1, d2, d3] }
  | _ => none }
def fnExactRenewedRow : OpenClaim := { program := "ytaeecaebjafnpaa", sum := "febc59cf60dc28bc9382fa30f78fe3f91799401c7da4cef1293c6b359a5ae312", func := "loop.example/g00769/laws.FnExactRenewed", spec := "fnExactRenewed", unfollowed := true, recurses := true, apart := false }
def FnExactRenewedSaid : Prop := fnExactRenewedRow.holds Try.pinned (OpenSpec.ofChange fnExactRenewedSpec)

/-- ITS FALSE NEIGHBOUR: 'it returns false'. Refute it at one input. -/
def fnExactRenewedWrong : ChangeSpec := { name := "fnExactRenewed", fn := fun _ => fun
  | [d1, d2, d3] => { results := [.lit (.bool false)], args := [d1, d2, d3] }
  | _ => none }
def FnExactRenewedWrongFalsely : Prop := fnExactRenewedRow.holds Try.pinned (OpenSpec.ofChange fnExactRenewedWrong)

/-- 'laws.FnExactInside': WHATEVER THE INPUT: true; the input reads as it did. -/
def fnExactInsideSpec : ChangeSpec := { name := "fnExactInside", fn := fun _ => fun
  | [d1, d2] => { results := [.lit (.bool true)], args := [d1, d2] }
  | _ => none }
def fnExactInsideRow : OpenClaim := { program := "ytaeecaebjafnpaa", sum := "febc59cf60dc28bc9382fa30f78fe3f91799401c7da4cef1293c6b359a5ae312", func := "loop.example/g00769/laws.FnExactInside", spec := "fnExactInside", unfollowed := true, recurses := true, apart := false }
def FnExactInsideSaid : Prop := fnExactInsideRow.holds Try.pinned (OpenSpec.ofChange fnExactInsideSpec)

/-- ITS FALSE NEIGHBOUR: 'it returns false'. Refute it at one input. -/
def fnExactInsideWrong : ChangeSpec := { name := "fnExactInside", fn := fun _ => fun
  | [d1, d2] => { results := [.lit (.bool false)], args := [d1, d2] }
  | _ => none }
def FnExactInsideWrongFalsely : Prop := fnExactInsideRow.holds Try.pinned (OpenSpec.ofChange fnExactInsideWrong)

/-- 'laws.FnExactShowTimes': WHATEVER THE INPUT: true; the input reads as it did. -/
def fnExactShowTimesSpec : ChangeSpec := { name := "fnExactShowTimes", fn := fun _ => fun
  | [d] => { results := [.lit (.bool true)], args := [d] }
  | _ => none }
def fnExactShowTimesRow : OpenClaim := { program := "ytaeecaebjafnpaa", sum := "febc59cf60dc28bc9382fa30f78fe3f91799401c7da4cef1293c6b359a5ae312", func := "loop.example/g00769/laws.FnExactShowTimes", spec := "fnExactShowTimes", inPlace := ["internal/abi.NoEscape", "internal/bytealg.MakeNoZero"], unfollowed := true, recurses := true, apart := false }
def FnExactShowTimesSaid : Prop := fnExactShowTimesRow.holds Try.pinned (OpenSpec.ofChange fnExactShowTimesSpec)

/-- ITS FALSE NEIGHBOUR: 'it returns false'. Refute it at one input. -/
def fnExactShowTimesWrong : ChangeSpec := { name := "fnExactShowTimes", fn := fun _ => fun
  | [d] => { results := [.lit (.bool false)], args := [d] }
  | _ => none }
def FnExactShowTimesWrongFalsely : Prop := fnExactShowTimesRow.holds Try.pinned (OpenSpec.ofChange fnExactShowTimesWrong)

/-- 'laws.FnExactReadTimes': WHATEVER THE INPUT: true; the input reads as it did. -/
def fnExactReadTimesSpec : ChangeSpec := { name := "fnExactReadTimes", fn := fun _ => fun
  | [d] => { results := [.lit (.bool true)], args := [d] }
  | _ => none }
def fnExactReadTimesRow : OpenClaim := { program := "ytaeecaebjafnpaa", sum := "febc59cf60dc28bc9382fa30f78fe3f91799401c7da4cef1293c6b359a5ae312", func := "loop.example/g00769/laws.FnExactReadTimes", spec := "fnExactReadTimes", unfollowed := true, recurses := true, apart := false }
def FnExactReadTimesSaid : Prop := fnExactReadTimesRow.holds Try.pinned (OpenSpec.ofChange fnExactReadTimesSpec)

/-- ITS FALSE NEIGHBOUR: 'it returns false'. Refute it at one input. -/
def fnExactReadTimesWrong : ChangeSpec := { name := "fnExactReadTimes", fn := fun _ => fun
  | [d] => { results := [.lit (.bool false)], args := [d] }
  | _ => none }
def FnExactReadTimesWrongFalsely : Prop := fnExactReadTimesRow.holds Try.pinned (OpenSpec.ofChange fnExactReadTimesWrong)

/- THE SECOND FORM. 'bulk': how many values and letters a reading holds, each counted each time it is reached (what is shared counts as often as it is met; a slice's spare places count too). A statement '..UptoSaid' is the law's where the arguments, and the package variables that the reading takes, are together of bulk at most 1048576: NARROWER than '..Said'. Prove '..Said' where nothing that the law and all that it calls make is longer than what came in: it says more and counts as full. Else prove '..UptoSaid'. A law counts once. -/
mutual
def uptoBulk {H : Type} : DataW H → Nat
  | .lit (.string bytes) => bytes.length + 1
  | .lit _ => 1
  | .nil => 1
  | .ptr d => uptoBulk d + 1
  | .slice elems spare => uptoBulkAll elems + uptoBulkAll spare + 1
  | .agg parts => uptoBulkAll parts + 1
  | .iface _ d => uptoBulk d + 1
  | .map entries => uptoBulkEntries entries + 1
  | .held _ => 1
def uptoBulkAll {H : Type} : List (DataW H) → Nat
  | [] => 0
  | d :: r => uptoBulk d + uptoBulkAll r
def uptoBulkEntries {H : Type} : List (Lit × DataW H) → Nat
  | [] => 0
  | x :: r => uptoBulkEntry x + uptoBulkEntries r
def uptoBulkEntry {H : Type} : Lit × DataW H → Nat
  | (.string bytes, d) => bytes.length + uptoBulk d + 1
  | (_, d) => uptoBulk d + 1
 end
def uptoSmall : (H : Type) → List (DataW H) → Bool := fun _ ds => decide (uptoBulkAll ds ≤ 1048576)
def OpenSpec.upto (s : _root_.Go.ChangeSpec) : _root_.Go.OpenSpec := { _root_.Go.OpenSpec.ofChange s with cond := some uptoSmall }

/-- 'laws.FnTimes', WHERE WHAT IT READS IS OF BULK AT MOST 1048576: true; the input reads as it did. -/
def fnTimesUptoRow : OpenClaim := { program := "ytaeecaebjafnpaa", sum := "febc59cf60dc28bc9382fa30f78fe3f91799401c7da4cef1293c6b359a5ae312", func := "loop.example/g00769/laws.FnTimes", spec := "fnTimes", unfollowed := true, recurses := true, apart := false, narrowed := true }
def FnTimesUptoSaid : Prop := fnTimesUptoRow.holds Try.pinned (OpenSpec.upto fnTimesSpec)

/-- 'laws.FnTimeText', WHERE WHAT IT READS IS OF BULK AT MOST 1048576: true; the input reads as it did. -/
def fnTimeTextUptoRow : OpenClaim := { program := "ytaeecaebjafnpaa", sum := "febc59cf60dc28bc9382fa30f78fe3f91799401c7da4cef1293c6b359a5ae312", func := "loop.example/g00769/laws.FnTimeText", spec := "fnTimeText", inPlace := ["internal/abi.NoEscape", "internal/bytealg.MakeNoZero"], unfollowed := true, recurses := true, apart := false, narrowed := true }
def FnTimeTextUptoSaid : Prop := fnTimeTextUptoRow.holds Try.pinned (OpenSpec.upto fnTimeTextSpec)

/-- 'laws.FnExactTimesOk', WHERE WHAT IT READS IS OF BULK AT MOST 1048576: true; the input reads as it did. -/
def fnExactTimesOkUptoRow : OpenClaim := { program := "ytaeecaebjafnpaa", sum := "febc59cf60dc28bc9382fa30f78fe3f91799401c7da4cef1293c6b359a5ae312", func := "loop.example/g00769/laws.FnExactTimesOk", spec := "fnExactTimesOk", unfollowed := true, recurses := true, apart := false, narrowed := true }
def FnExactTimesOkUptoSaid : Prop := fnExactTimesOkUptoRow.holds Try.pinned (OpenSpec.upto fnExactTimesOkSpec)

/-- 'laws.FnExactLives', WHERE WHAT IT READS IS OF BULK AT MOST 1048576: true; the input reads as it did. -/
def fnExactLivesUptoRow : OpenClaim := { program := "ytaeecaebjafnpaa", sum := "febc59cf60dc28bc9382fa30f78fe3f91799401c7da4cef1293c6b359a5ae312", func := "loop.example/g00769/laws.FnExactLives", spec := "fnExactLives", unfollowed := true, recurses := true, apart := false, narrowed := true }
def FnExactLivesUptoSaid : Prop := fnExactLivesUptoRow.holds Try.pinned (OpenSpec.upto fnExactLivesSpec)

/-- 'laws.FnExactRenewed', WHERE WHAT IT READS IS OF BULK AT MOST 1048576: true; the input reads as it did. -/
def fnExactRenewedUptoRow : OpenClaim := { program := "ytaeecaebjafnpaa", sum := "febc59cf60dc28bc9382fa30f78fe3f91799401c7da4cef1293c6b359a5ae312", func := "loop.example/g00769/laws.FnExactRenewed", spec := "fnExactRenewed", unfollowed := true, recurses := true, apart := false, narrowed := true }
def FnExactRenewedUptoSaid : Prop := fnExactRenewedUptoRow.holds Try.pinned (OpenSpec.upto fnExactRenewedSpec)

/-- 'laws.FnExactInside', WHERE WHAT IT READS IS OF BULK AT MOST 1048576: true; the input reads as it did. -/
def fnExactInsideUptoRow : OpenClaim := { program := "ytaeecaebjafnpaa", sum := "febc59cf60dc28bc9382fa30f78fe3f91799401c7da4cef1293c6b359a5ae312", func := "loop.example/g00769/laws.FnExactInside", spec := "fnExactInside", unfollowed := true, recurses := true, apart := false, narrowed := true }
def FnExactInsideUptoSaid : Prop := fnExactInsideUptoRow.holds Try.pinned (OpenSpec.upto fnExactInsideSpec)

/-- 'laws.FnExactShowTimes', WHERE WHAT IT READS IS OF BULK AT MOST 1048576: true; the input reads as it did. -/
def fnExactShowTimesUptoRow : OpenClaim := { program := "ytaeecaebjafnpaa", sum := "febc59cf60dc28bc9382fa30f78fe3f91799401c7da4cef1293c6b359a5ae312", func := "loop.example/g00769/laws.FnExactShowTimes", spec := "fnExactShowTimes", inPlace := ["internal/abi.NoEscape", "internal/bytealg.MakeNoZero"], unfollowed := true, recurses := true, apart := false, narrowed := true }
def FnExactShowTimesUptoSaid : Prop := fnExactShowTimesUptoRow.holds Try.pinned (OpenSpec.upto fnExactShowTimesSpec)

/-- 'laws.FnExactReadTimes', WHERE WHAT IT READS IS OF BULK AT MOST 1048576: true; the input reads as it did. -/
def fnExactReadTimesUptoRow : OpenClaim := { program := "ytaeecaebjafnpaa", sum := "febc59cf60dc28bc9382fa30f78fe3f91799401c7da4cef1293c6b359a5ae312", func := "loop.example/g00769/laws.FnExactReadTimes", spec := "fnExactReadTimes", unfollowed := true, recurses := true, apart := false, narrowed := true }
def FnExactReadTimesUptoSaid : Prop := fnExactReadTimesUptoRow.holds Try.pinned (OpenSpec.upto fnExactReadTimesSpec)

end Rows
end Go.Proofs.Ytaeecaebjafnpaa
