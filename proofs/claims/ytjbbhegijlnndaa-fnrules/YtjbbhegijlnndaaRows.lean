/-
  No cell of these rows narrows 'for every input' (looked for: loops, veiled, ifaces, maps, wideKeys, modest, calm, conditions, laid).
  DERIVED. THE GIVEN ROWS OF THIS SEAT. 9 by the template 'for every input the law returns true; each argument reads behind the call as it read before'; 0 by the template 'total and deterministic' (their statements: YtjbbhegijlnndaaTotals.lean).
  GIVEN WITH THE SEED: the statements are not yours to turn. If you find one false, say at which input.
  Laid BY PROGRAM, IN A SANDBOX (cutbox-rows.mjs): the forced cells as the released guide's own fill.sh prints them over the translation 751e03e6458ac587… (all of the seat's roots in one cut). By AI agents, Wed Nov 11 2026. No macro, syntax, notation, axiom, sorry.
-/
import Derived.Test.YtjbbhegijlnndaaChecked
import GoSem.Claim
import GoSem.ClaimJoined
import GoSem.ClaimMapViews
import Derived.JoinedTies
import Derived.KernelRfl
namespace Go.Proofs.Ytjbbhegijlnndaa
/- THE CELL 'sum', in the pinned program and in every row, IS THE sha256 OF THE DUMP (.gsa) THAT YtjbbhegijlnndaaProg.lean LOADS. Nothing in Lean hashes anything: it is a label: what it is worth is what the hold of that sum in a sandbox is worth. -/
noncomputable def Try.pinned : Pinned := { name := "ytjbbhegijlnndaa", sum := "751e03e6458ac58731d2e1d681951ad42d93997ddfea20366e881aba4d16515d", checked := Try.checked }
namespace Rows
def none {H : Type} : Left H := { results := [], args := [] }

/-- 'laws.FnRules': WHATEVER THE INPUT: true; the input reads as it did. -/
def fnRulesSpec : ChangeSpec := { name := "fnRules", fn := fun _ => fun
  | [d] => { results := [.lit (.bool true)], args := [d] }
  | _ => none }
def fnRulesRow : OpenClaim := { program := "ytjbbhegijlnndaa", sum := "751e03e6458ac58731d2e1d681951ad42d93997ddfea20366e881aba4d16515d", func := "loop.example/g00769/laws.FnRules", spec := "fnRules", unfollowed := true, recurses := true, apart := false }
def FnRulesSaid : Prop := fnRulesRow.holds Try.pinned (OpenSpec.ofChange fnRulesSpec)

/-- ITS FALSE NEIGHBOUR: 'it returns false'. Refute it at one input. -/
def fnRulesWrong : ChangeSpec := { name := "fnRules", fn := fun _ => fun
  | [d] => { results := [.lit (.bool false)], args := [d] }
  | _ => none }
def FnRulesWrongFalsely : Prop := fnRulesRow.holds Try.pinned (OpenSpec.ofChange fnRulesWrong)

/-- 'laws.FnRuleText': WHATEVER THE INPUT: true; the input reads as it did. -/
def fnRuleTextSpec : ChangeSpec := { name := "fnRuleText", fn := fun _ => fun
  | [d] => { results := [.lit (.bool true)], args := [d] }
  | _ => none }
def fnRuleTextRow : OpenClaim := { program := "ytjbbhegijlnndaa", sum := "751e03e6458ac58731d2e1d681951ad42d93997ddfea20366e881aba4d16515d", func := "loop.example/g00769/laws.FnRuleText", spec := "fnRuleText", unfollowed := true, recurses := true, apart := false }
def FnRuleTextSaid : Prop := fnRuleTextRow.holds Try.pinned (OpenSpec.ofChange fnRuleTextSpec)

/-- ITS FALSE NEIGHBOUR: 'it returns false'. Refute it at one input. -/
def fnRuleTextWrong : ChangeSpec := { name := "fnRuleText", fn := fun _ => fun
  | [d] => { results := [.lit (.bool false)], args := [d] }
  | _ => none }
def FnRuleTextWrongFalsely : Prop := fnRuleTextRow.holds Try.pinned (OpenSpec.ofChange fnRuleTextWrong)

/-- 'laws.FnExactRulesOk': WHATEVER THE INPUT: true; the input reads as it did. -/
def fnExactRulesOkSpec : ChangeSpec := { name := "fnExactRulesOk", fn := fun _ => fun
  | [d] => { results := [.lit (.bool true)], args := [d] }
  | _ => none }
def fnExactRulesOkRow : OpenClaim := { program := "ytjbbhegijlnndaa", sum := "751e03e6458ac58731d2e1d681951ad42d93997ddfea20366e881aba4d16515d", func := "loop.example/g00769/laws.FnExactRulesOk", spec := "fnExactRulesOk", unfollowed := true, recurses := true, apart := false }
def FnExactRulesOkSaid : Prop := fnExactRulesOkRow.holds Try.pinned (OpenSpec.ofChange fnExactRulesOkSpec)

/-- ITS FALSE NEIGHBOUR: 'it returns false'. Refute it at one input. -/
def fnExactRulesOkWrong : ChangeSpec := { name := "fnExactRulesOk", fn := fun _ => fun
  | [d] => { results := [.lit (.bool false)], args := [d] }
  | _ => none }
def FnExactRulesOkWrongFalsely : Prop := fnExactRulesOkRow.holds Try.pinned (OpenSpec.ofChange fnExactRulesOkWrong)

/-- 'laws.FnExactAllows': WHATEVER THE INPUT: true; the input reads as it did. -/
def fnExactAllowsSpec : ChangeSpec := { name := "fnExactAllows", fn := fun _ => fun
  | [d1, d2] => { results := [.lit (.bool true)], args := [d1, d2] }
  | _ => none }
def fnExactAllowsRow : OpenClaim := { program := "ytjbbhegijlnndaa", sum := "751e03e6458ac58731d2e1d681951ad42d93997ddfea20366e881aba4d16515d", func := "loop.example/g00769/laws.FnExactAllows", spec := "fnExactAllows", unfollowed := true, recurses := true, apart := false }
def FnExactAllowsSaid : Prop := fnExactAllowsRow.holds Try.pinned (OpenSpec.ofChange fnExactAllowsSpec)

/-- ITS FALSE NEIGHBOUR: 'it returns false'. Refute it at one input. -/
def fnExactAllowsWrong : ChangeSpec := { name := "fnExactAllows", fn := fun _ => fun
  | [d1, d2] => { results := [.lit (.bool false)], args := [d1, d2] }
  | _ => none }
def FnExactAllowsWrongFalsely : Prop := fnExactAllowsRow.holds Try.pinned (OpenSpec.ofChange fnExactAllowsWrong)

/-- 'laws.FnExactNormal': WHATEVER THE INPUT: true; the input reads as it did. -/
def fnExactNormalSpec : ChangeSpec := { name := "fnExactNormal", fn := fun _ => fun
  | [d] => { results := [.lit (.bool true)], args := [d] }
  | _ => none }
def fnExactNormalRow : OpenClaim := { program := "ytjbbhegijlnndaa", sum := "751e03e6458ac58731d2e1d681951ad42d93997ddfea20366e881aba4d16515d", func := "loop.example/g00769/laws.FnExactNormal", spec := "fnExactNormal", unfollowed := true, recurses := true, apart := false }
def FnExactNormalSaid : Prop := fnExactNormalRow.holds Try.pinned (OpenSpec.ofChange fnExactNormalSpec)

/-- ITS FALSE NEIGHBOUR: 'it returns false'. Refute it at one input. -/
def fnExactNormalWrong : ChangeSpec := { name := "fnExactNormal", fn := fun _ => fun
  | [d] => { results := [.lit (.bool false)], args := [d] }
  | _ => none }
def FnExactNormalWrongFalsely : Prop := fnExactNormalRow.holds Try.pinned (OpenSpec.ofChange fnExactNormalWrong)

/-- 'laws.FnExactJoined': WHATEVER THE INPUT: true; the input reads as it did. -/
def fnExactJoinedSpec : ChangeSpec := { name := "fnExactJoined", fn := fun _ => fun
  | [d1, d2] => { results := [.lit (.bool true)], args := [d1, d2] }
  | _ => none }
def fnExactJoinedRow : OpenClaim := { program := "ytjbbhegijlnndaa", sum := "751e03e6458ac58731d2e1d681951ad42d93997ddfea20366e881aba4d16515d", func := "loop.example/g00769/laws.FnExactJoined", spec := "fnExactJoined", unfollowed := true, recurses := true, apart := false }
def FnExactJoinedSaid : Prop := fnExactJoinedRow.holds Try.pinned (OpenSpec.ofChange fnExactJoinedSpec)

/-- ITS FALSE NEIGHBOUR: 'it returns false'. Refute it at one input. -/
def fnExactJoinedWrong : ChangeSpec := { name := "fnExactJoined", fn := fun _ => fun
  | [d1, d2] => { results := [.lit (.bool false)], args := [d1, d2] }
  | _ => none }
def FnExactJoinedWrongFalsely : Prop := fnExactJoinedRow.holds Try.pinned (OpenSpec.ofChange fnExactJoinedWrong)

/-- 'laws.FnExactStricter': WHATEVER THE INPUT: true; the input reads as it did. -/
def fnExactStricterSpec : ChangeSpec := { name := "fnExactStricter", fn := fun _ => fun
  | [d1, d2] => { results := [.lit (.bool true)], args := [d1, d2] }
  | _ => none }
def fnExactStricterRow : OpenClaim := { program := "ytjbbhegijlnndaa", sum := "751e03e6458ac58731d2e1d681951ad42d93997ddfea20366e881aba4d16515d", func := "loop.example/g00769/laws.FnExactStricter", spec := "fnExactStricter", unfollowed := true, recurses := true, apart := false }
def FnExactStricterSaid : Prop := fnExactStricterRow.holds Try.pinned (OpenSpec.ofChange fnExactStricterSpec)

/-- ITS FALSE NEIGHBOUR: 'it returns false'. Refute it at one input. -/
def fnExactStricterWrong : ChangeSpec := { name := "fnExactStricter", fn := fun _ => fun
  | [d1, d2] => { results := [.lit (.bool false)], args := [d1, d2] }
  | _ => none }
def FnExactStricterWrongFalsely : Prop := fnExactStricterRow.holds Try.pinned (OpenSpec.ofChange fnExactStricterWrong)

/-- 'laws.FnExactShowRules': WHATEVER THE INPUT: true; the input reads as it did. -/
def fnExactShowRulesSpec : ChangeSpec := { name := "fnExactShowRules", fn := fun _ => fun
  | [d] => { results := [.lit (.bool true)], args := [d] }
  | _ => none }
def fnExactShowRulesRow : OpenClaim := { program := "ytjbbhegijlnndaa", sum := "751e03e6458ac58731d2e1d681951ad42d93997ddfea20366e881aba4d16515d", func := "loop.example/g00769/laws.FnExactShowRules", spec := "fnExactShowRules", unfollowed := true, recurses := true, apart := false }
def FnExactShowRulesSaid : Prop := fnExactShowRulesRow.holds Try.pinned (OpenSpec.ofChange fnExactShowRulesSpec)

/-- ITS FALSE NEIGHBOUR: 'it returns false'. Refute it at one input. -/
def fnExactShowRulesWrong : ChangeSpec := { name := "fnExactShowRules", fn := fun _ => fun
  | [d] => { results := [.lit (.bool false)], args := [d] }
  | _ => none }
def FnExactShowRulesWrongFalsely : Prop := fnExactShowRulesRow.holds Try.pinned (OpenSpec.ofChange fnExactShowRulesWrong)

/-- 'laws.FnExactReadRules': WHATEVER THE INPUT: true; the input reads as it did. -/
def fnExactReadRulesSpec : ChangeSpec := { name := "fnExactReadRules", fn := fun _ => fun
  | [d] => { results := [.lit (.bool true)], args := [d] }
  | _ => none }
def fnExactReadRulesRow : OpenClaim := { program := "ytjbbhegijlnndaa", sum := "751e03e6458ac58731d2e1d681951ad42d93997ddfea20366e881aba4d16515d", func := "loop.example/g00769/laws.FnExactReadRules", spec := "fnExactReadRules", unfollowed := true, recurses := true, apart := false }
def FnExactReadRulesSaid : Prop := fnExactReadRulesRow.holds Try.pinned (OpenSpec.ofChange fnExactReadRulesSpec)

/-- ITS FALSE NEIGHBOUR: 'it returns false'. Refute it at one input. -/
def fnExactReadRulesWrong : ChangeSpec := { name := "fnExactReadRules", fn := fun _ => fun
  | [d] => { results := [.lit (.bool false)], args := [d] }
  | _ => none }
def FnExactReadRulesWrongFalsely : Prop := fnExactReadRulesRow.holds Try.pinned (OpenSpec.ofChange fnExactReadRulesWrong)

/- THE SECOND FORM. 'bulk': how many values and letters a reading holds, each counted each time it is reached (what is shared counts as often as it is met; a slice's spare places count too). A statement '..UptoSaid' is the law's where the arguments, and the package variables that the reading takes, are together of bulk at most 1048576: NARROWER than '..Said'. Prove '..Said' where nothing that the law and all that it calls make is longer than what came in: it says more and counts as full. Else prove '..UptoSaid'. A law counts once. -/
mutual
def uptoBulk {H : Type} : DataW H → Nat
  | .lit (.string bytes) => bytes.length + 1
  | .lit _ => 1
  | .nil => 1
  | .ptr d => uptoBulk d + 1
  | .slice elems spare => uptoBulkAll elems + uptoBulkAll spare + 1
  | .agg parts => uptoBulkAll parts + 1
  | .iface _ d => uptoBulk d + 1
  | .map entries => uptoBulkEntries entries + 1
  | .held _ => 1
def uptoBulkAll {H : Type} : List (DataW H) → Nat
  | [] => 0
  | d :: r => uptoBulk d + uptoBulkAll r
def uptoBulkEntries {H : Type} : List (Lit × DataW H) → Nat
  | [] => 0
  | x :: r => uptoBulkEntry x + uptoBulkEntries r
def uptoBulkEntry {H : Type} : Lit × DataW H → Nat
  | (.string bytes, d) => bytes.length + uptoBulk d + 1
  | (_, d) => uptoBulk d + 1
 end
def uptoSmall : (H : Type) → List (DataW H) → Bool := fun _ ds => decide (uptoBulkAll ds ≤ 1048576)
def OpenSpec.upto (s : _root_.Go.ChangeSpec) : _root_.Go.OpenSpec := { _root_.Go.OpenSpec.ofChange s with cond := some uptoSmall }

/-- 'laws.FnRules', WHERE WHAT IT READS IS OF BULK AT MOST 1048576: true; the input reads as it did. -/
def fnRulesUptoRow : OpenClaim := { program := "ytjbbhegijlnndaa", sum := "751e03e6458ac58731d2e1d681951ad42d93997ddfea20366e881aba4d16515d", func := "loop.example/g00769/laws.FnRules", spec := "fnRules", unfollowed := true, recurses := true, apart := false, narrowed := true }
def FnRulesUptoSaid : Prop := fnRulesUptoRow.holds Try.pinned (OpenSpec.upto fnRulesSpec)

/-- 'laws.FnRuleText', WHERE WHAT IT READS IS OF BULK AT MOST 1048576: true; the input reads as it did. -/
def fnRuleTextUptoRow : OpenClaim := { program := "ytjbbhegijlnndaa", sum := "751e03e6458ac58731d2e1d681951ad42d93997ddfea20366e881aba4d16515d", func := "loop.example/g00769/laws.FnRuleText", spec := "fnRuleText", unfollowed := true, recurses := true, apart := false, narrowed := true }
def FnRuleTextUptoSaid : Prop := fnRuleTextUptoRow.holds Try.pinned (OpenSpec.upto fnRuleTextSpec)

/-- 'laws.FnExactRulesOk', WHERE WHAT IT READS IS OF BULK AT MOST 1048576: true; the input reads as it did. -/
def fnExactRulesOkUptoRow : OpenClaim := { program := "ytjbbhegijlnndaa", sum := "751e03e6458ac58731d2e1d681951ad42d93997ddfea20366e881aba4d16515d", func := "loop.example/g00769/laws.FnExactRulesOk", spec := "fnExactRulesOk", unfollowed := true, recurses := true, apart := false, narrowed := true }
def FnExactRulesOkUptoSaid : Prop := fnExactRulesOkUptoRow.holds Try.pinned (OpenSpec.upto fnExactRulesOkSpec)

/-- 'laws.FnExactAllows', WHERE WHAT IT READS IS OF BULK AT MOST 1048576: true; the input reads as it did. -/
def fnExactAllowsUptoRow : OpenClaim := { program := "ytjbbhegijlnndaa", sum := "751e03e6458ac58731d2e1d681951ad42d93997ddfea20366e881aba4d16515d", func := "loop.example/g00769/laws.FnExactAllows", spec := "fnExactAllows", unfollowed := true, recurses := true, apart := false, narrowed := true }
def FnExactAllowsUptoSaid : Prop := fnExactAllowsUptoRow.holds Try.pinned (OpenSpec.upto fnExactAllowsSpec)

/-- 'laws.FnExactNormal', WHERE WHAT IT READS IS OF BULK AT MOST 1048576: true; the input reads as it did. -/
def fnExactNormalUptoRow : OpenClaim := { program := "ytjbbhegijlnndaa", sum := "751e03e6458ac58731d2e1d681951ad42d93997ddfea20366e881aba4d16515d", func := "loop.example/g00769/laws.FnExactNormal", spec := "fnExactNormal", unfollowed := true, recurses := true, apart := false, narrowed := true }
def FnExactNormalUptoSaid : Prop := fnExactNormalUptoRow.holds Try.pinned (OpenSpec.upto fnExactNormalSpec)

/-- 'laws.FnExactJoined', WHERE WHAT IT READS IS OF BULK AT MOST 1048576: true; the input reads as it did. -/
def fnExactJoinedUptoRow : OpenClaim := { program := "ytjbbhegijlnndaa", sum := "751e03e6458ac58731d2e1d681951ad42d93997ddfea20366e881aba4d16515d", func := "loop.example/g00769/laws.FnExactJoined", spec := "fnExactJoined", unfollowed := true, recurses := true, apart := false, narrowed := true }
def FnExactJoinedUptoSaid : Prop := fnExactJoinedUptoRow.holds Try.pinned (OpenSpec.upto fnExactJoinedSpec)

/-- 'laws.FnExactStricter', WHERE WHAT IT READS IS OF BULK AT MOST 1048576: true; the input reads as it did. -/
def fnExactStricterUptoRow : OpenClaim := { program := "ytjbbhegijlnndaa", sum := "751e03e6458ac58731d2e1d681951ad42d93997ddfea20366e881aba4d16515d", func := "loop.example/g00769/laws.FnExactStricter", spec := "fnExactStricter", unfollowed := true, recurses := true, apart := false, narrowed := true }
def FnExactStricterUptoSaid : Prop := fnExactStricterUptoRow.holds Try.pinned (OpenSpec.upto fnExactStricterSpec)

/-- 'laws.FnExactShowRules', WHERE WHAT IT READS IS OF BULK AT MOST 1048576: true; the input reads as it did. -/
def fnExactShowRulesUptoRow : OpenClaim := { program := "ytjbbhegijlnndaa", sum := "751e03e6458ac58731d2e1d681951ad42d93997ddfea20366e881aba4d16515d", func := "loop.example/g00769/laws.FnExactShowRules", spec := "fnExactShowRules", unfollowed := true, recurses := true, apart := false, narrowed := true }
def FnExactShowRulesUptoSaid : Prop := fnExactShowRulesUptoRow.holds Try.pinned (OpenSpec.upto fnExactShowRulesSpec)

/-- 'laws.FnExactReadRules', WHERE WHAT IT READS IS OF BULK AT MOST 1048576: true; the input reads as it did. -/
def fnExactReadRulesUptoRow : OpenClaim := { program := "ytjbbhegijlnndaa", sum := "751e03e6458ac58731d2e1d681951ad42d93997ddfea20366e881aba4d16515d", func := "loop.example/g00769/laws.FnExactReadRules", spec := "fnExactReadRules", unfollowed := true, recurses := true, apart := false, narrowed := true }
def FnExactReadRulesUptoSaid : Prop := fnExactReadRulesUptoRow.holds Try.pinned (OpenSpec.upto fnExactReadRulesSpec)

end Rows
end Go.Proofs.Ytjbbhegijlnndaa
