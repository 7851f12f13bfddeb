/-
  No cell of these rows narrows 'for every input' (looked for: loops, veiled, ifaces, maps, wideKeys, modest, calm, conditions, laid).
  DERIVED. THE GIVEN ROWS OF THIS SEAT. 7 by the template 'for every input the law returns true; each argument reads behind the call as it read before'; 0 by the template 'total and deterministic' (their statements: YthhodbpliaiglaaTotals.lean).
  GIVEN WITH THE SEED: the statements are not yours to turn. If you find one false, say at which input.
  Laid BY PROGRAM, IN A SANDBOX (cutbox-rows.mjs): the forced cells as the released guide's own fill.sh prints them over the translation d57cf97a6884fd43… (all of the seat's roots in one cut). By AI agents, Wed Nov 11 2026. No macro, syntax, notation, axiom, sorry.
-/
import Derived.Test.YthhodbpliaiglaaChecked
import GoSem.Claim
import GoSem.ClaimJoined
import GoSem.ClaimMapViews
import Derived.JoinedTies
import Derived.KernelRfl
namespace Go.Proofs.Ythhodbpliaiglaa
/- THE CELL 'sum', in the pinned program and in every row, IS THE sha256 OF THE DUMP (.gsa) THAT YthhodbpliaiglaaProg.lean LOADS. Nothing in Lean hashes anything: it is a label: what it is worth is what the hold of that sum in a sandbox is worth. -/
noncomputable def Try.pinned : Pinned := { name := "ythhodbpliaiglaa", sum := "d57cf97a6884fd43bad4e98cc8e5a82cb689c4358845d63087a51c136224503d", checked := Try.checked }
namespace Rows
def none {H : Type} : Left H := { results := [], args := [] }

/-- 'laws.FnRest': WHATEVER THE INPUT: true; the input reads as it did. -/
def fnRestSpec : ChangeSpec := { name := "fnRest", fn := fun _ => fun
  | [d] => { results := [.lit (.bool true)], args := [d] }
  | _ => none }
def fnRestRow : OpenClaim := { program := "ythhodbpliaiglaa", sum := "d57cf97a6884fd43bad4e98cc8e5a82cb689c4358845d63087a51c136224503d", func := "loop.example/g00769/laws.FnRest", spec := "fnRest", apart := false }
def FnRestSaid : Prop := fnRestRow.holds Try.pinned (OpenSpec.ofChange fnRestSpec)

/-- ITS FALSE NEIGHBOUR: 'it returns false'. Refute it at one input. -/
def fnRestWrong : ChangeSpec := { name := "fnRest", fn := fun _ => fun
  | [d] => { results := [.lit (.bool false)], args := [d] }
  | _ => none }
def FnRestWrongFalsely : Prop := fnRestRow.holds Try.pinned (OpenSpec.ofChange fnRestWrong)

/-- 'laws.FnExactRestOk': WHATEVER THE INPUT: true; the input reads as it did. -/
def fnExactRestOkSpec : ChangeSpec := { name := "fnExactRestOk", fn := fun _ => fun
  | [d] => { results := [.lit (.bool true)], args := [d] }
  | _ => none }
def fnExactRestOkRow : OpenClaim := { program := "ythhodbpliaiglaa", sum := "d57cf97a6884fd43bad4e98cc8e5a82cb689c4358845d63087a51c136224503d", func := "loop.example/g00769/laws.FnExactRestOk", spec := "fnExactRestOk", apart := false }
def FnExactRestOkSaid : Prop := fnExactRestOkRow.holds Try.pinned (OpenSpec.ofChange fnExactRestOkSpec)

/-- ITS FALSE NEIGHBOUR: 'it returns false'. Refute it at one input. -/
def fnExactRestOkWrong : ChangeSpec := { name := "fnExactRestOk", fn := fun _ => fun
  | [d] => { results := [.lit (.bool false)], args := [d] }
  | _ => none }
def FnExactRestOkWrongFalsely : Prop := fnExactRestOkRow.holds Try.pinned (OpenSpec.ofChange fnExactRestOkWrong)

/-- 'laws.FnExactMeet': WHATEVER THE INPUT: true; the input reads as it did. -/
def fnExactMeetSpec : ChangeSpec := { name := "fnExactMeet", fn := fun _ => fun
  | [d1, d2] => { results := [.lit (.bool true)], args := [d1, d2] }
  | _ => none }
def fnExactMeetRow : OpenClaim := { program := "ythhodbpliaiglaa", sum := "d57cf97a6884fd43bad4e98cc8e5a82cb689c4358845d63087a51c136224503d", func := "loop.example/g00769/laws.FnExactMeet", spec := "fnExactMeet", apart := false }
def FnExactMeetSaid : Prop := fnExactMeetRow.holds Try.pinned (OpenSpec.ofChange fnExactMeetSpec)

/-- ITS FALSE NEIGHBOUR: 'it returns false'. Refute it at one input. -/
def fnExactMeetWrong : ChangeSpec := { name := "fnExactMeet", fn := fun _ => fun
  | [d1, d2] => { results := [.lit (.bool false)], args := [d1, d2] }
  | _ => none }
def FnExactMeetWrongFalsely : Prop := fnExactMeetRow.holds Try.pinned (OpenSpec.ofChange fnExactMeetWrong)

/-- 'laws.FnExactEntails': WHATEVER THE INPUT: true; the input reads as it did. -/
def fnExactEntailsSpec : ChangeSpec := { name := "fnExactEntails", fn := fun _ => fun
  | [d1, d2] => { results := [.lit (.bool true)], args := [d1, d2] }
  | _ => none }
def fnExactEntailsRow : OpenClaim := { program := "ythhodbpliaiglaa", sum := "d57cf97a6884fd43bad4e98cc8e5a82cb689c4358845d63087a51c136224503d", func := "loop.example/g00769/laws.FnExactEntails", spec := "fnExactEntails", apart := false }
def FnExactEntailsSaid : Prop := fnExactEntailsRow.holds Try.pinned (OpenSpec.ofChange fnExactEntailsSpec)

/-- ITS FALSE NEIGHBOUR: 'it returns false'. Refute it at one input. -/
def fnExactEntailsWrong : ChangeSpec := { name := "fnExactEntails", fn := fun _ => fun
  | [d1, d2] => { results := [.lit (.bool false)], args := [d1, d2] }
  | _ => none }
def FnExactEntailsWrongFalsely : Prop := fnExactEntailsRow.holds Try.pinned (OpenSpec.ofChange fnExactEntailsWrong)

/-- 'laws.FnExactPermits': WHATEVER THE INPUT: true; the input reads as it did. -/
def fnExactPermitsSpec : ChangeSpec := { name := "fnExactPermits", fn := fun _ => fun
  | [d1, d2, d3, d4] => { results := [.lit (.bool true)], args := [d1, d2, d3, d4] }
  | _ => none }
def fnExactPermitsRow : OpenClaim := { program := "ythhodbpliaiglaa", sum := "d57cf97a6884fd43bad4e98cc8e5a82cb689c4358845d63087a51c136224503d", func := "loop.example/g00769/laws.FnExactPermits", spec := "fnExactPermits", apart := false }
def FnExactPermitsSaid : Prop := fnExactPermitsRow.holds Try.pinned (OpenSpec.ofChange fnExactPermitsSpec)

/-- ITS FALSE NEIGHBOUR: 'it returns false'. Refute it at one input. -/
def fnExactPermitsWrong : ChangeSpec := { name := "fnExactPermits", fn := fun _ => fun
  | [d1, d2, d3, d4] => { results := [.lit (.bool false)], args := [d1, d2, d3, d4] }
  | _ => none }
def FnExactPermitsWrongFalsely : Prop := fnExactPermitsRow.holds Try.pinned (OpenSpec.ofChange fnExactPermitsWrong)

/-- 'laws.FnExactShowRest': WHATEVER THE INPUT: true; the input reads as it did. -/
def fnExactShowRestSpec : ChangeSpec := { name := "fnExactShowRest", fn := fun _ => fun
  | [d] => { results := [.lit (.bool true)], args := [d] }
  | _ => none }
def fnExactShowRestRow : OpenClaim := { program := "ythhodbpliaiglaa", sum := "d57cf97a6884fd43bad4e98cc8e5a82cb689c4358845d63087a51c136224503d", func := "loop.example/g00769/laws.FnExactShowRest", spec := "fnExactShowRest", inPlace := ["internal/abi.NoEscape", "internal/bytealg.MakeNoZero"], unfollowed := true, recurses := true, apart := false }
def FnExactShowRestSaid : Prop := fnExactShowRestRow.holds Try.pinned (OpenSpec.ofChange fnExactShowRestSpec)

/-- ITS FALSE NEIGHBOUR: 'it returns false'. Refute it at one input. -/
def fnExactShowRestWrong : ChangeSpec := { name := "fnExactShowRest", fn := fun _ => fun
  | [d] => { results := [.lit (.bool false)], args := [d] }
  | _ => none }
def FnExactShowRestWrongFalsely : Prop := fnExactShowRestRow.holds Try.pinned (OpenSpec.ofChange fnExactShowRestWrong)

/-- 'laws.FnExactReadRest': WHATEVER THE INPUT: true; the input reads as it did. -/
def fnExactReadRestSpec : ChangeSpec := { name := "fnExactReadRest", fn := fun _ => fun
  | [d] => { results := [.lit (.bool true)], args := [d] }
  | _ => none }
def fnExactReadRestRow : OpenClaim := { program := "ythhodbpliaiglaa", sum := "d57cf97a6884fd43bad4e98cc8e5a82cb689c4358845d63087a51c136224503d", func := "loop.example/g00769/laws.FnExactReadRest", spec := "fnExactReadRest", unfollowed := true, recurses := true, apart := false }
def FnExactReadRestSaid : Prop := fnExactReadRestRow.holds Try.pinned (OpenSpec.ofChange fnExactReadRestSpec)

/-- ITS FALSE NEIGHBOUR: 'it returns false'. Refute it at one input. -/
def fnExactReadRestWrong : ChangeSpec := { name := "fnExactReadRest", fn := fun _ => fun
  | [d] => { results := [.lit (.bool false)], args := [d] }
  | _ => none }
def FnExactReadRestWrongFalsely : Prop := fnExactReadRestRow.holds Try.pinned (OpenSpec.ofChange fnExactReadRestWrong)

/- THE SECOND FORM. 'bulk': how many values and letters a reading holds, each counted each time it is reached (what is shared counts as often as it is met; a slice's spare places count too). A statement '..UptoSaid' is the law's where the arguments, and the package variables that the reading takes, are together of bulk at most 1048576: NARROWER than '..Said'. Prove '..Said' where nothing that the law and all that it calls make is longer than what came in: it says more and counts as full. Else prove '..UptoSaid'. A law counts once. -/
mutual
def uptoBulk {H : Type} : DataW H → Nat
  | .lit (.string bytes) => bytes.length + 1
  | .lit _ => 1
  | .nil => 1
  | .ptr d => uptoBulk d + 1
  | .slice elems spare => uptoBulkAll elems + uptoBulkAll spare + 1
  | .agg parts => uptoBulkAll parts + 1
  | .iface _ d => uptoBulk d + 1
  | .map entries => uptoBulkEntries entries + 1
  | .held _ => 1
def uptoBulkAll {H : Type} : List (DataW H) → Nat
  | [] => 0
  | d :: r => uptoBulk d + uptoBulkAll r
def uptoBulkEntries {H : Type} : List (Lit × DataW H) → Nat
  | [] => 0
  | x :: r => uptoBulkEntry x + uptoBulkEntries r
def uptoBulkEntry {H : Type} : Lit × DataW H → Nat
  | (.string bytes, d) => bytes.length + uptoBulk d + 1
  | (_, d) => uptoBulk d + 1
 end
def uptoSmall : (H : Type) → List (DataW H) → Bool := fun _ ds => decide (uptoBulkAll ds ≤ 1048576)
def OpenSpec.upto (s : _root_.Go.ChangeSpec) : _root_.Go.OpenSpec := { _root_.Go.OpenSpec.ofChange s with cond := some uptoSmall }

/-- 'laws.FnRest', WHERE WHAT IT READS IS OF BULK AT MOST 1048576: true; the input reads as it did. -/
def fnRestUptoRow : OpenClaim := { program := "ythhodbpliaiglaa", sum := "d57cf97a6884fd43bad4e98cc8e5a82cb689c4358845d63087a51c136224503d", func := "loop.example/g00769/laws.FnRest", spec := "fnRest", apart := false, narrowed := true }
def FnRestUptoSaid : Prop := fnRestUptoRow.holds Try.pinned (OpenSpec.upto fnRestSpec)

/-- 'laws.FnExactRestOk', WHERE WHAT IT READS IS OF BULK AT MOST 1048576: true; the input reads as it did. -/
def fnExactRestOkUptoRow : OpenClaim := { program := "ythhodbpliaiglaa", sum := "d57cf97a6884fd43bad4e98cc8e5a82cb689c4358845d63087a51c136224503d", func := "loop.example/g00769/laws.FnExactRestOk", spec := "fnExactRestOk", apart := false, narrowed := true }
def FnExactRestOkUptoSaid : Prop := fnExactRestOkUptoRow.holds Try.pinned (OpenSpec.upto fnExactRestOkSpec)

/-- 'laws.FnExactMeet', WHERE WHAT IT READS IS OF BULK AT MOST 1048576: true; the input reads as it did. -/
def fnExactMeetUptoRow : OpenClaim := { program := "ythhodbpliaiglaa", sum := "d57cf97a6884fd43bad4e98cc8e5a82cb689c4358845d63087a51c136224503d", func := "loop.example/g00769/laws.FnExactMeet", spec := "fnExactMeet", apart := false, narrowed := true }
def FnExactMeetUptoSaid : Prop := fnExactMeetUptoRow.holds Try.pinned (OpenSpec.upto fnExactMeetSpec)

/-- 'laws.FnExactEntails', WHERE WHAT IT READS IS OF BULK AT MOST 1048576: true; the input reads as it did. -/
def fnExactEntailsUptoRow : OpenClaim := { program := "ythhodbpliaiglaa", sum := "d57cf97a6884fd43bad4e98cc8e5a82cb689c4358845d63087a51c136224503d", func := "loop.example/g00769/laws.FnExactEntails", spec := "fnExactEntails", apart := false, narrowed := true }
def FnExactEntailsUptoSaid : Prop := fnExactEntailsUptoRow.holds Try.pinned (OpenSpec.upto fnExactEntailsSpec)

/-- 'laws.FnExactPermits', WHERE WHAT IT READS IS OF BULK AT MOST 1048576: true; the input reads as it did. -/
def fnExactPermitsUptoRow : OpenClaim := { program := "ythhodbpliaiglaa", sum := "d57cf97a6884fd43bad4e98cc8e5a82cb689c4358845d63087a51c136224503d", func := "loop.example/g00769/laws.FnExactPermits", spec := "fnExactPermits", apart := false, narrowed := true }
def FnExactPermitsUptoSaid : Prop := fnExactPermitsUptoRow.holds Try.pinned (OpenSpec.upto fnExactPermitsSpec)

/-- 'laws.FnExactShowRest', WHERE WHAT IT READS IS OF BULK AT MOST 1048576: true; the input reads as it did. -/
def fnExactShowRestUptoRow : OpenClaim := { program := "ythhodbpliaiglaa", sum := "d57cf97a6884fd43bad4e98cc8e5a82cb689c4358845d63087a51c136224503d", func := "loop.example/g00769/laws.FnExactShowRest", spec := "fnExactShowRest", inPlace := ["internal/abi.NoEscape", "internal/bytealg.MakeNoZero"], unfollowed := true, recurses := true, apart := false, narrowed := true }
def FnExactShowRestUptoSaid : Prop := fnExactShowRestUptoRow.holds Try.pinned (OpenSpec.upto fnExactShowRestSpec)

/-- 'laws.FnExactReadRest', WHERE WHAT IT READS IS OF BULK AT MOST 1048576: true; the input reads as it did. -/
def fnExactReadRestUptoRow : OpenClaim := { program := "ythhodbpliaiglaa", sum := "d57cf97a6884fd43bad4e98cc8e5a82cb689c4358845d63087a51c136224503d", func := "loop.example/g00769/laws.FnExactReadRest", spec := "fnExactReadRest", unfollowed := true, recurses := true, apart := false, narrowed := true }
def FnExactReadRestUptoSaid : Prop := fnExactReadRestUptoRow.holds Try.pinned (OpenSpec.upto fnExactReadRestSpec)

end Rows
end Go.Proofs.Ythhodbpliaiglaa
