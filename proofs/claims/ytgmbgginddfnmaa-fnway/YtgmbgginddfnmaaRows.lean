/-
  No cell of these rows narrows 'for every input' (looked for: loops, veiled, ifaces, maps, wideKeys, modest, calm, conditions, laid).
  DERIVED. THE GIVEN ROWS OF THIS SEAT. 8 by the template 'for every input the law returns true; each argument reads behind the call as it read before'; 0 by the template 'total and deterministic' (their statements: YtgmbgginddfnmaaTotals.lean).
  GIVEN WITH THE SEED: the statements are not yours to turn. If you find one false, say at which input.
  Laid BY PROGRAM, IN A SANDBOX (cutbox-rows.mjs): the forced cells as the released guide's own fill.sh prints them over the translation 18425e4b57557b57… (all of the seat's roots in one cut). By AI agents, Wed Nov 11 2026. No macro, syntax, notation, axiom, sorry.
-/
import Derived.Test.YtgmbgginddfnmaaChecked
import GoSem.Claim
import GoSem.ClaimJoined
import GoSem.ClaimMapViews
import Derived.JoinedTies
import Derived.KernelRfl
namespace Go.Proofs.Ytgmbgginddfnmaa
/- THE CELL 'sum', in the pinned program and in every row, IS THE sha256 OF THE DUMP (.gsa) THAT YtgmbgginddfnmaaProg.lean LOADS. Nothing in Lean hashes anything: it is a label: what it is worth is what the hold of that sum in a sandbox is worth. -/
noncomputable def Try.pinned : Pinned := { name := "ytgmbgginddfnmaa", sum := "18425e4b57557b57215700022269f0c82d1cd52dd10074cebd0821e12b15369b", checked := Try.checked }
namespace Rows
def none {H : Type} : Left H := { results := [], args := [] }

/-- 'laws.FnKeys': WHATEVER THE INPUT: true; the input reads as it did. -/
def fnKeysSpec : ChangeSpec := { name := "fnKeys", fn := fun _ => fun
  | [d] => { results := [.lit (.bool true)], args := [d] }
  | _ => none }
def fnKeysRow : OpenClaim := { program := "ytgmbgginddfnmaa", sum := "18425e4b57557b57215700022269f0c82d1cd52dd10074cebd0821e12b15369b", func := "loop.example/g00769/laws.FnKeys", spec := "fnKeys", plainKeys := false, apart := false }
def FnKeysSaid : Prop := fnKeysRow.holds Try.pinned (OpenSpec.ofChange fnKeysSpec)

/-- ITS FALSE NEIGHBOUR: 'it returns false'. Refute it at one input. -/
def fnKeysWrong : ChangeSpec := { name := "fnKeys", fn := fun _ => fun
  | [d] => { results := [.lit (.bool false)], args := [d] }
  | _ => none }
def FnKeysWrongFalsely : Prop := fnKeysRow.holds Try.pinned (OpenSpec.ofChange fnKeysWrong)

/-- 'laws.FnWay': WHATEVER THE INPUT: true; the input reads as it did. -/
def fnWaySpec : ChangeSpec := { name := "fnWay", fn := fun _ => fun
  | [d] => { results := [.lit (.bool true)], args := [d] }
  | _ => none }
def fnWayRow : OpenClaim := { program := "ytgmbgginddfnmaa", sum := "18425e4b57557b57215700022269f0c82d1cd52dd10074cebd0821e12b15369b", func := "loop.example/g00769/laws.FnWay", spec := "fnWay", unfollowed := true, recurses := true, plainKeys := false, apart := false }
def FnWaySaid : Prop := fnWayRow.holds Try.pinned (OpenSpec.ofChange fnWaySpec)

/-- ITS FALSE NEIGHBOUR: 'it returns false'. Refute it at one input. -/
def fnWayWrong : ChangeSpec := { name := "fnWay", fn := fun _ => fun
  | [d] => { results := [.lit (.bool false)], args := [d] }
  | _ => none }
def FnWayWrongFalsely : Prop := fnWayRow.holds Try.pinned (OpenSpec.ofChange fnWayWrong)

/-- 'laws.FnExactConfigOk': WHATEVER THE INPUT: true; the input reads as it did. -/
def fnExactConfigOkSpec : ChangeSpec := { name := "fnExactConfigOk", fn := fun _ => fun
  | [d] => { results := [.lit (.bool true)], args := [d] }
  | _ => none }
def fnExactConfigOkRow : OpenClaim := { program := "ytgmbgginddfnmaa", sum := "18425e4b57557b57215700022269f0c82d1cd52dd10074cebd0821e12b15369b", func := "loop.example/g00769/laws.FnExactConfigOk", spec := "fnExactConfigOk", unfollowed := true, recurses := true, plainKeys := false, apart := false }
def FnExactConfigOkSaid : Prop := fnExactConfigOkRow.holds Try.pinned (OpenSpec.ofChange fnExactConfigOkSpec)

/-- ITS FALSE NEIGHBOUR: 'it returns false'. Refute it at one input. -/
def fnExactConfigOkWrong : ChangeSpec := { name := "fnExactConfigOk", fn := fun _ => fun
  | [d] => { results := [.lit (.bool false)], args := [d] }
  | _ => none }
def FnExactConfigOkWrongFalsely : Prop := fnExactConfigOkRow.holds Try.pinned (OpenSpec.ofChange fnExactConfigOkWrong)

/-- 'laws.FnExactPrincipalKey': WHATEVER THE INPUT: true; the input reads as it did. -/
def fnExactPrincipalKeySpec : ChangeSpec := { name := "fnExactPrincipalKey", fn := fun _ => fun
  | [d] => { results := [.lit (.bool true)], args := [d] }
  | _ => none }
def fnExactPrincipalKeyRow : OpenClaim := { program := "ytgmbgginddfnmaa", sum := "18425e4b57557b57215700022269f0c82d1cd52dd10074cebd0821e12b15369b", func := "loop.example/g00769/laws.FnExactPrincipalKey", spec := "fnExactPrincipalKey", plainKeys := false, apart := false }
def FnExactPrincipalKeySaid : Prop := fnExactPrincipalKeyRow.holds Try.pinned (OpenSpec.ofChange fnExactPrincipalKeySpec)

/-- ITS FALSE NEIGHBOUR: 'it returns false'. Refute it at one input. -/
def fnExactPrincipalKeyWrong : ChangeSpec := { name := "fnExactPrincipalKey", fn := fun _ => fun
  | [d] => { results := [.lit (.bool false)], args := [d] }
  | _ => none }
def FnExactPrincipalKeyWrongFalsely : Prop := fnExactPrincipalKeyRow.holds Try.pinned (OpenSpec.ofChange fnExactPrincipalKeyWrong)

/-- 'laws.FnExactCentreKey': WHATEVER THE INPUT: true; the input reads as it did. -/
def fnExactCentreKeySpec : ChangeSpec := { name := "fnExactCentreKey", fn := fun _ => fun
  | [d] => { results := [.lit (.bool true)], args := [d] }
  | _ => none }
def fnExactCentreKeyRow : OpenClaim := { program := "ytgmbgginddfnmaa", sum := "18425e4b57557b57215700022269f0c82d1cd52dd10074cebd0821e12b15369b", func := "loop.example/g00769/laws.FnExactCentreKey", spec := "fnExactCentreKey", plainKeys := false, apart := false }
def FnExactCentreKeySaid : Prop := fnExactCentreKeyRow.holds Try.pinned (OpenSpec.ofChange fnExactCentreKeySpec)

/-- ITS FALSE NEIGHBOUR: 'it returns false'. Refute it at one input. -/
def fnExactCentreKeyWrong : ChangeSpec := { name := "fnExactCentreKey", fn := fun _ => fun
  | [d] => { results := [.lit (.bool false)], args := [d] }
  | _ => none }
def FnExactCentreKeyWrongFalsely : Prop := fnExactCentreKeyRow.holds Try.pinned (OpenSpec.ofChange fnExactCentreKeyWrong)

/-- 'laws.FnExactLinkKey': WHATEVER THE INPUT: true; the input reads as it did. -/
def fnExactLinkKeySpec : ChangeSpec := { name := "fnExactLinkKey", fn := fun _ => fun
  | [d1, d2] => { results := [.lit (.bool true)], args := [d1, d2] }
  | _ => none }
def fnExactLinkKeyRow : OpenClaim := { program := "ytgmbgginddfnmaa", sum := "18425e4b57557b57215700022269f0c82d1cd52dd10074cebd0821e12b15369b", func := "loop.example/g00769/laws.FnExactLinkKey", spec := "fnExactLinkKey", plainKeys := false, apart := false }
def FnExactLinkKeySaid : Prop := fnExactLinkKeyRow.holds Try.pinned (OpenSpec.ofChange fnExactLinkKeySpec)

/-- ITS FALSE NEIGHBOUR: 'it returns false'. Refute it at one input. -/
def fnExactLinkKeyWrong : ChangeSpec := { name := "fnExactLinkKey", fn := fun _ => fun
  | [d1, d2] => { results := [.lit (.bool false)], args := [d1, d2] }
  | _ => none }
def FnExactLinkKeyWrongFalsely : Prop := fnExactLinkKeyRow.holds Try.pinned (OpenSpec.ofChange fnExactLinkKeyWrong)

/-- 'laws.FnExactRealmOf': WHATEVER THE INPUT: true; the input reads as it did. -/
def fnExactRealmOfSpec : ChangeSpec := { name := "fnExactRealmOf", fn := fun _ => fun
  | [d1, d2] => { results := [.lit (.bool true)], args := [d1, d2] }
  | _ => none }
def fnExactRealmOfRow : OpenClaim := { program := "ytgmbgginddfnmaa", sum := "18425e4b57557b57215700022269f0c82d1cd52dd10074cebd0821e12b15369b", func := "loop.example/g00769/laws.FnExactRealmOf", spec := "fnExactRealmOf", unfollowed := true, recurses := true, plainKeys := false, apart := false }
def FnExactRealmOfSaid : Prop := fnExactRealmOfRow.holds Try.pinned (OpenSpec.ofChange fnExactRealmOfSpec)

/-- ITS FALSE NEIGHBOUR: 'it returns false'. Refute it at one input. -/
def fnExactRealmOfWrong : ChangeSpec := { name := "fnExactRealmOf", fn := fun _ => fun
  | [d1, d2] => { results := [.lit (.bool false)], args := [d1, d2] }
  | _ => none }
def FnExactRealmOfWrongFalsely : Prop := fnExactRealmOfRow.holds Try.pinned (OpenSpec.ofChange fnExactRealmOfWrong)

/-- 'laws.FnExactNextHop': WHATEVER THE INPUT: true; the input reads as it did. -/
def fnExactNextHopSpec : ChangeSpec := { name := "fnExactNextHop", fn := fun _ => fun
  | [d1, d2, d3] => { results := [.lit (.bool true)], args := [d1, d2, d3] }
  | _ => none }
def fnExactNextHopRow : OpenClaim := { program := "ytgmbgginddfnmaa", sum := "18425e4b57557b57215700022269f0c82d1cd52dd10074cebd0821e12b15369b", func := "loop.example/g00769/laws.FnExactNextHop", spec := "fnExactNextHop", unfollowed := true, recurses := true, plainKeys := false, apart := false }
def FnExactNextHopSaid : Prop := fnExactNextHopRow.holds Try.pinned (OpenSpec.ofChange fnExactNextHopSpec)

/-- ITS FALSE NEIGHBOUR: 'it returns false'. Refute it at one input. -/
def fnExactNextHopWrong : ChangeSpec := { name := "fnExactNextHop", fn := fun _ => fun
  | [d1, d2, d3] => { results := [.lit (.bool false)], args := [d1, d2, d3] }
  | _ => none }
def FnExactNextHopWrongFalsely : Prop := fnExactNextHopRow.holds Try.pinned (OpenSpec.ofChange fnExactNextHopWrong)

/- THE SECOND FORM. 'bulk': how many values and letters a reading holds, each counted each time it is reached (what is shared counts as often as it is met; a slice's spare places count too). A statement '..UptoSaid' is the law's where the arguments, and the package variables that the reading takes, are together of bulk at most 1048576: NARROWER than '..Said'. Prove '..Said' where nothing that the law and all that it calls make is longer than what came in: it says more and counts as full. Else prove '..UptoSaid'. A law counts once. -/
mutual
def uptoBulk {H : Type} : DataW H → Nat
  | .lit (.string bytes) => bytes.length + 1
  | .lit _ => 1
  | .nil => 1
  | .ptr d => uptoBulk d + 1
  | .slice elems spare => uptoBulkAll elems + uptoBulkAll spare + 1
  | .agg parts => uptoBulkAll parts + 1
  | .iface _ d => uptoBulk d + 1
  | .map entries => uptoBulkEntries entries + 1
  | .held _ => 1
def uptoBulkAll {H : Type} : List (DataW H) → Nat
  | [] => 0
  | d :: r => uptoBulk d + uptoBulkAll r
def uptoBulkEntries {H : Type} : List (Lit × DataW H) → Nat
  | [] => 0
  | x :: r => uptoBulkEntry x + uptoBulkEntries r
def uptoBulkEntry {H : Type} : Lit × DataW H → Nat
  | (.string bytes, d) => bytes.length + uptoBulk d + 1
  | (_, d) => uptoBulk d + 1
 end
def uptoSmall : (H : Type) → List (DataW H) → Bool := fun _ ds => decide (uptoBulkAll ds ≤ 1048576)
def OpenSpec.upto (s : _root_.Go.ChangeSpec) : _root_.Go.OpenSpec := { _root_.Go.OpenSpec.ofChange s with cond := some uptoSmall }

/-- 'laws.FnKeys', WHERE WHAT IT READS IS OF BULK AT MOST 1048576: true; the input reads as it did. -/
def fnKeysUptoRow : OpenClaim := { program := "ytgmbgginddfnmaa", sum := "18425e4b57557b57215700022269f0c82d1cd52dd10074cebd0821e12b15369b", func := "loop.example/g00769/laws.FnKeys", spec := "fnKeys", plainKeys := false, apart := false, narrowed := true }
def FnKeysUptoSaid : Prop := fnKeysUptoRow.holds Try.pinned (OpenSpec.upto fnKeysSpec)

/-- 'laws.FnWay', WHERE WHAT IT READS IS OF BULK AT MOST 1048576: true; the input reads as it did. -/
def fnWayUptoRow : OpenClaim := { program := "ytgmbgginddfnmaa", sum := "18425e4b57557b57215700022269f0c82d1cd52dd10074cebd0821e12b15369b", func := "loop.example/g00769/laws.FnWay", spec := "fnWay", unfollowed := true, recurses := true, plainKeys := false, apart := false, narrowed := true }
def FnWayUptoSaid : Prop := fnWayUptoRow.holds Try.pinned (OpenSpec.upto fnWaySpec)

/-- 'laws.FnExactConfigOk', WHERE WHAT IT READS IS OF BULK AT MOST 1048576: true; the input reads as it did. -/
def fnExactConfigOkUptoRow : OpenClaim := { program := "ytgmbgginddfnmaa", sum := "18425e4b57557b57215700022269f0c82d1cd52dd10074cebd0821e12b15369b", func := "loop.example/g00769/laws.FnExactConfigOk", spec := "fnExactConfigOk", unfollowed := true, recurses := true, plainKeys := false, apart := false, narrowed := true }
def FnExactConfigOkUptoSaid : Prop := fnExactConfigOkUptoRow.holds Try.pinned (OpenSpec.upto fnExactConfigOkSpec)

/-- 'laws.FnExactPrincipalKey', WHERE WHAT IT READS IS OF BULK AT MOST 1048576: true; the input reads as it did. -/
def fnExactPrincipalKeyUptoRow : OpenClaim := { program := "ytgmbgginddfnmaa", sum := "18425e4b57557b57215700022269f0c82d1cd52dd10074cebd0821e12b15369b", func := "loop.example/g00769/laws.FnExactPrincipalKey", spec := "fnExactPrincipalKey", plainKeys := false, apart := false, narrowed := true }
def FnExactPrincipalKeyUptoSaid : Prop := fnExactPrincipalKeyUptoRow.holds Try.pinned (OpenSpec.upto fnExactPrincipalKeySpec)

/-- 'laws.FnExactCentreKey', WHERE WHAT IT READS IS OF BULK AT MOST 1048576: true; the input reads as it did. -/
def fnExactCentreKeyUptoRow : OpenClaim := { program := "ytgmbgginddfnmaa", sum := "18425e4b57557b57215700022269f0c82d1cd52dd10074cebd0821e12b15369b", func := "loop.example/g00769/laws.FnExactCentreKey", spec := "fnExactCentreKey", plainKeys := false, apart := false, narrowed := true }
def FnExactCentreKeyUptoSaid : Prop := fnExactCentreKeyUptoRow.holds Try.pinned (OpenSpec.upto fnExactCentreKeySpec)

/-- 'laws.FnExactLinkKey', WHERE WHAT IT READS IS OF BULK AT MOST 1048576: true; the input reads as it did. -/
def fnExactLinkKeyUptoRow : OpenClaim := { program := "ytgmbgginddfnmaa", sum := "18425e4b57557b57215700022269f0c82d1cd52dd10074cebd0821e12b15369b", func := "loop.example/g00769/laws.FnExactLinkKey", spec := "fnExactLinkKey", plainKeys := false, apart := false, narrowed := true }
def FnExactLinkKeyUptoSaid : Prop := fnExactLinkKeyUptoRow.holds Try.pinned (OpenSpec.upto fnExactLinkKeySpec)

/-- 'laws.FnExactRealmOf', WHERE WHAT IT READS IS OF BULK AT MOST 1048576: true; the input reads as it did. -/
def fnExactRealmOfUptoRow : OpenClaim := { program := "ytgmbgginddfnmaa", sum := "18425e4b57557b57215700022269f0c82d1cd52dd10074cebd0821e12b15369b", func := "loop.example/g00769/laws.FnExactRealmOf", spec := "fnExactRealmOf", unfollowed := true, recurses := true, plainKeys := false, apart := false, narrowed := true }
def FnExactRealmOfUptoSaid : Prop := fnExactRealmOfUptoRow.holds Try.pinned (OpenSpec.upto fnExactRealmOfSpec)

/-- 'laws.FnExactNextHop', WHERE WHAT IT READS IS OF BULK AT MOST 1048576: true; the input reads as it did. -/
def fnExactNextHopUptoRow : OpenClaim := { program := "ytgmbgginddfnmaa", sum := "18425e4b57557b57215700022269f0c82d1cd52dd10074cebd0821e12b15369b", func := "loop.example/g00769/laws.FnExactNextHop", spec := "fnExactNextHop", unfollowed := true, recurses := true, plainKeys := false, apart := false, narrowed := true }
def FnExactNextHopUptoSaid : Prop := fnExactNextHopUptoRow.holds Try.pinned (OpenSpec.upto fnExactNextHopSpec)

end Rows
end Go.Proofs.Ytgmbgginddfnmaa
