/-
  No cell of these rows narrows 'for every input' (looked for: loops, veiled, ifaces, maps, wideKeys, modest, calm, conditions, laid).
  DERIVED. THE GIVEN ROWS OF THIS SEAT. 6 by the template 'for every input the law returns true; each argument reads behind the call as it read before'; 0 by the template 'total and deterministic' (their statements: YtbkemhclncmicaaTotals.lean).
  GIVEN WITH THE SEED: the statements are not yours to turn. If you find one false, say at which input.
  Laid BY PROGRAM, IN A SANDBOX (cutbox-rows.mjs): the forced cells as the released guide's own fill.sh prints them over the translation 4e508079ab9e19fa… (all of the seat's roots in one cut). By AI agents, Wed Nov 11 2026. No macro, syntax, notation, axiom, sorry.
-/
import Derived.Test.YtbkemhclncmicaaChecked
import GoSem.Claim
import GoSem.ClaimJoined
import GoSem.ClaimMapViews
import Derived.JoinedTies
import Derived.KernelRfl
namespace Go.Proofs.Ytbkemhclncmicaa
/- THE CELL 'sum', in the pinned program and in every row, IS THE sha256 OF THE DUMP (.gsa) THAT YtbkemhclncmicaaProg.lean LOADS. Nothing in Lean hashes anything: it is a label: what it is worth is what the hold of that sum in a sandbox is worth. -/
noncomputable def Try.pinned : Pinned := { name := "ytbkemhclncmicaa", sum := "4e508079ab9e19fae9bfcc0ced89364644b0b24c8ba1467bd60ba75ffcc6452a", checked := Try.checked }
namespace Rows
def none {H : Type} : Left H := { results := [], args := [] }

/-- 'laws.FnExactShowTicket': WHATEVER THE INPUT: true; the input reads as it did. -/
def fnExactShowTicketSpec : ChangeSpec := { name := "fnExactShowTicket", fn := fun _ => fun
  | [d1, d2] => { results := [.lit (.bool true)], args := [d1, d2] }
  | _ => none }
def fnExactShowTicketRow : OpenClaim := { program := "ytbkemhclncmicaa", sum := "4e508079ab9e19fae9bfcc0ced89364644b0b24c8ba1467bd60ba75ffcc6452a", func := "loop.example/g00769/laws.FnExactShowTicket", spec := "fnExactShowTicket", inPlace := ["internal/abi.NoEscape", "internal/bytealg.MakeNoZero"], unfollowed := true, recurses := true, apart := false }
def FnExactShowTicketSaid : Prop := fnExactShowTicketRow.holds Try.pinned (OpenSpec.ofChange fnExactShowTicketSpec)

/-- ITS FALSE NEIGHBOUR: 'it returns false'. Refute it at one input. -/
def fnExactShowTicketWrong : ChangeSpec := { name := "fnExactShowTicket", fn := fun _ => fun
  | [d1, d2] => { results := [.lit (.bool false)], args := [d1, d2] }
  | _ => none }
def FnExactShowTicketWrongFalsely : Prop := fnExactShowTicketRow.holds Try.pinned (OpenSpec.ofChange fnExactShowTicketWrong)

/-- 'laws.FnExactReadTicket': WHATEVER THE INPUT: true; the input reads as it did. -/
def fnExactReadTicketSpec : ChangeSpec := { name := "fnExactReadTicket", fn := fun _ => fun
  | [d1, d2] => { results := [.lit (.bool true)], args := [d1, d2] }
  | _ => none }
def fnExactReadTicketRow : OpenClaim := { program := "ytbkemhclncmicaa", sum := "4e508079ab9e19fae9bfcc0ced89364644b0b24c8ba1467bd60ba75ffcc6452a", func := "loop.example/g00769/laws.FnExactReadTicket", spec := "fnExactReadTicket", inPlace := ["internal/abi.NoEscape", "internal/bytealg.MakeNoZero"], unfollowed := true, recurses := true, apart := false }
def FnExactReadTicketSaid : Prop := fnExactReadTicketRow.holds Try.pinned (OpenSpec.ofChange fnExactReadTicketSpec)

/-- ITS FALSE NEIGHBOUR: 'it returns false'. Refute it at one input. -/
def fnExactReadTicketWrong : ChangeSpec := { name := "fnExactReadTicket", fn := fun _ => fun
  | [d1, d2] => { results := [.lit (.bool false)], args := [d1, d2] }
  | _ => none }
def FnExactReadTicketWrongFalsely : Prop := fnExactReadTicketRow.holds Try.pinned (OpenSpec.ofChange fnExactReadTicketWrong)

/-- 'laws.FnExactShowAuth': WHATEVER THE INPUT: true; the input reads as it did. -/
def fnExactShowAuthSpec : ChangeSpec := { name := "fnExactShowAuth", fn := fun _ => fun
  | [d1, d2] => { results := [.lit (.bool true)], args := [d1, d2] }
  | _ => none }
def fnExactShowAuthRow : OpenClaim := { program := "ytbkemhclncmicaa", sum := "4e508079ab9e19fae9bfcc0ced89364644b0b24c8ba1467bd60ba75ffcc6452a", func := "loop.example/g00769/laws.FnExactShowAuth", spec := "fnExactShowAuth", inPlace := ["internal/abi.NoEscape", "internal/bytealg.MakeNoZero"], unfollowed := true, recurses := true, apart := false }
def FnExactShowAuthSaid : Prop := fnExactShowAuthRow.holds Try.pinned (OpenSpec.ofChange fnExactShowAuthSpec)

/-- ITS FALSE NEIGHBOUR: 'it returns false'. Refute it at one input. -/
def fnExactShowAuthWrong : ChangeSpec := { name := "fnExactShowAuth", fn := fun _ => fun
  | [d1, d2] => { results := [.lit (.bool false)], args := [d1, d2] }
  | _ => none }
def FnExactShowAuthWrongFalsely : Prop := fnExactShowAuthRow.holds Try.pinned (OpenSpec.ofChange fnExactShowAuthWrong)

/-- 'laws.FnExactReadAuth': WHATEVER THE INPUT: true; the input reads as it did. -/
def fnExactReadAuthSpec : ChangeSpec := { name := "fnExactReadAuth", fn := fun _ => fun
  | [d1, d2] => { results := [.lit (.bool true)], args := [d1, d2] }
  | _ => none }
def fnExactReadAuthRow : OpenClaim := { program := "ytbkemhclncmicaa", sum := "4e508079ab9e19fae9bfcc0ced89364644b0b24c8ba1467bd60ba75ffcc6452a", func := "loop.example/g00769/laws.FnExactReadAuth", spec := "fnExactReadAuth", inPlace := ["internal/abi.NoEscape", "internal/bytealg.MakeNoZero"], unfollowed := true, recurses := true, apart := false }
def FnExactReadAuthSaid : Prop := fnExactReadAuthRow.holds Try.pinned (OpenSpec.ofChange fnExactReadAuthSpec)

/-- ITS FALSE NEIGHBOUR: 'it returns false'. Refute it at one input. -/
def fnExactReadAuthWrong : ChangeSpec := { name := "fnExactReadAuth", fn := fun _ => fun
  | [d1, d2] => { results := [.lit (.bool false)], args := [d1, d2] }
  | _ => none }
def FnExactReadAuthWrongFalsely : Prop := fnExactReadAuthRow.holds Try.pinned (OpenSpec.ofChange fnExactReadAuthWrong)

/-- 'laws.FnExactShowGrant': WHATEVER THE INPUT: true; the input reads as it did. -/
def fnExactShowGrantSpec : ChangeSpec := { name := "fnExactShowGrant", fn := fun _ => fun
  | [d1, d2] => { results := [.lit (.bool true)], args := [d1, d2] }
  | _ => none }
def fnExactShowGrantRow : OpenClaim := { program := "ytbkemhclncmicaa", sum := "4e508079ab9e19fae9bfcc0ced89364644b0b24c8ba1467bd60ba75ffcc6452a", func := "loop.example/g00769/laws.FnExactShowGrant", spec := "fnExactShowGrant", inPlace := ["internal/abi.NoEscape", "internal/bytealg.MakeNoZero"], unfollowed := true, recurses := true, apart := false }
def FnExactShowGrantSaid : Prop := fnExactShowGrantRow.holds Try.pinned (OpenSpec.ofChange fnExactShowGrantSpec)

/-- ITS FALSE NEIGHBOUR: 'it returns false'. Refute it at one input. -/
def fnExactShowGrantWrong : ChangeSpec := { name := "fnExactShowGrant", fn := fun _ => fun
  | [d1, d2] => { results := [.lit (.bool false)], args := [d1, d2] }
  | _ => none }
def FnExactShowGrantWrongFalsely : Prop := fnExactShowGrantRow.holds Try.pinned (OpenSpec.ofChange fnExactShowGrantWrong)

/-- 'laws.FnExactReadGrant': WHATEVER THE INPUT: true; the input reads as it did. -/
def fnExactReadGrantSpec : ChangeSpec := { name := "fnExactReadGrant", fn := fun _ => fun
  | [d1, d2] => { results := [.lit (.bool true)], args := [d1, d2] }
  | _ => none }
def fnExactReadGrantRow : OpenClaim := { program := "ytbkemhclncmicaa", sum := "4e508079ab9e19fae9bfcc0ced89364644b0b24c8ba1467bd60ba75ffcc6452a", func := "loop.example/g00769/laws.FnExactReadGrant", spec := "fnExactReadGrant", inPlace := ["internal/abi.NoEscape", "internal/bytealg.MakeNoZero"], unfollowed := true, recurses := true, apart := false }
def FnExactReadGrantSaid : Prop := fnExactReadGrantRow.holds Try.pinned (OpenSpec.ofChange fnExactReadGrantSpec)

/-- ITS FALSE NEIGHBOUR: 'it returns false'. Refute it at one input. -/
def fnExactReadGrantWrong : ChangeSpec := { name := "fnExactReadGrant", fn := fun _ => fun
  | [d1, d2] => { results := [.lit (.bool false)], args := [d1, d2] }
  | _ => none }
def FnExactReadGrantWrongFalsely : Prop := fnExactReadGrantRow.holds Try.pinned (OpenSpec.ofChange fnExactReadGrantWrong)

/- THE SECOND FORM. 'bulk': how many values and letters a reading holds, each counted each time it is reached (what is shared counts as often as it is met; a slice's spare places count too). A statement '..UptoSaid' is the law's where the arguments, and the package variables that the reading takes, are together of bulk at most 1048576: NARROWER than '..Said'. Prove '..Said' where nothing that the law and all that it calls make is longer than what came in: it says more and counts as full. Else prove '..UptoSaid'. A law counts once. -/
mutual
def uptoBulk {H : Type} : DataW H → Nat
  | .lit (.string bytes) => bytes.length + 1
  | .lit _ => 1
  | .nil => 1
  | .ptr d => uptoBulk d + 1
  | .slice elems spare => uptoBulkAll elems + uptoBulkAll spare + 1
  | .agg parts => uptoBulkAll parts + 1
  | .iface _ d => uptoBulk d + 1
  | .map entries => uptoBulkEntries entries + 1
  | .held _ => 1
def uptoBulkAll {H : Type} : List (DataW H) → Nat
  | [] => 0
  | d :: r => uptoBulk d + uptoBulkAll r
def uptoBulkEntries {H : Type} : List (Lit × DataW H) → Nat
  | [] => 0
  | x :: r => uptoBulkEntry x + uptoBulkEntries r
def uptoBulkEntry {H : Type} : Lit × DataW H → Nat
  | (.string bytes, d) => bytes.length + uptoBulk d + 1
  | (_, d) => uptoBulk d + 1
 end
def uptoSmall : (H : Type) → List (DataW H) → Bool := fun _ ds => decide (uptoBulkAll ds ≤ 1048576)
def OpenSpec.upto (s : _root_.Go.ChangeSpec) : _root_.Go.OpenSpec := { _root_.Go.OpenSpec.ofChange s with cond := some uptoSmall }

/-- 'laws.FnExactShowTicket', WHERE WHAT IT READS IS OF BULK AT MOST 1048576: true; the input reads as it did. -/
def fnExactShowTicketUptoRow : OpenClaim := { program := "ytbkemhclncmicaa", sum := "4e508079ab9e19fae9bfcc0ced89364644b0b24c8ba1467bd60ba75ffcc6452a", func := "loop.example/g00769/laws.FnExactShowTicket", spec := "fnExactShowTicket", inPlace := ["internal/abi.NoEscape", "internal/bytealg.MakeNoZero"], unfollowed := true, recurses := true, apart := false, narrowed := true }
def FnExactShowTicketUptoSaid : Prop := fnExactShowTicketUptoRow.holds Try.pinned (OpenSpec.upto fnExactShowTicketSpec)

/-- 'laws.FnExactReadTicket', WHERE WHAT IT READS IS OF BULK AT MOST 1048576: true; the input reads as it did. -/
def fnExactReadTicketUptoRow : OpenClaim := { program := "ytbkemhclncmicaa", sum := "4e508079ab9e19fae9bfcc0ced89364644b0b24c8ba1467bd60ba75ffcc6452a", func := "loop.example/g00769/laws.FnExactReadTicket", spec := "fnExactReadTicket", inPlace := ["internal/abi.NoEscape", "internal/bytealg.MakeNoZero"], unfollowed := true, recurses := true, apart := false, narrowed := true }
def FnExactReadTicketUptoSaid : Prop := fnExactReadTicketUptoRow.holds Try.pinned (OpenSpec.upto fnExactReadTicketSpec)

/-- 'laws.FnExactShowAuth', WHERE WHAT IT READS IS OF BULK AT MOST 1048576: true; the input reads as it did. -/
def fnExactShowAuthUptoRow : OpenClaim := { program := "ytbkemhclncmicaa", sum := "4e508079ab9e19fae9bfcc0ced89364644b0b24c8ba1467bd60ba75ffcc6452a", func := "loop.example/g00769/laws.FnExactShowAuth", spec := "fnExactShowAuth", inPlace := ["internal/abi.NoEscape", "internal/bytealg.MakeNoZero"], unfollowed := true, recurses := true, apart := false, narrowed := true }
def FnExactShowAuthUptoSaid : Prop := fnExactShowAuthUptoRow.holds Try.pinned (OpenSpec.upto fnExactShowAuthSpec)

/-- 'laws.FnExactReadAuth', WHERE WHAT IT READS IS OF BULK AT MOST 1048576: true; the input reads as it did. -/
def fnExactReadAuthUptoRow : OpenClaim := { program := "ytbkemhclncmicaa", sum := "4e508079ab9e19fae9bfcc0ced89364644b0b24c8ba1467bd60ba75ffcc6452a", func := "loop.example/g00769/laws.FnExactReadAuth", spec := "fnExactReadAuth", inPlace := ["internal/abi.NoEscape", "internal/bytealg.MakeNoZero"], unfollowed := true, recurses := true, apart := false, narrowed := true }
def FnExactReadAuthUptoSaid : Prop := fnExactReadAuthUptoRow.holds Try.pinned (OpenSpec.upto fnExactReadAuthSpec)

/-- 'laws.FnExactShowGrant', WHERE WHAT IT READS IS OF BULK AT MOST 1048576: true; the input reads as it did. -/
def fnExactShowGrantUptoRow : OpenClaim := { program := "ytbkemhclncmicaa", sum := "4e508079ab9e19fae9bfcc0ced89364644b0b24c8ba1467bd60ba75ffcc6452a", func := "loop.example/g00769/laws.FnExactShowGrant", spec := "fnExactShowGrant", inPlace := ["internal/abi.NoEscape", "internal/bytealg.MakeNoZero"], unfollowed := true, recurses := true, apart := false, narrowed := true }
def FnExactShowGrantUptoSaid : Prop := fnExactShowGrantUptoRow.holds Try.pinned (OpenSpec.upto fnExactShowGrantSpec)

/-- 'laws.FnExactReadGrant', WHERE WHAT IT READS IS OF BULK AT MOST 1048576: true; the input reads as it did. -/
def fnExactReadGrantUptoRow : OpenClaim := { program := "ytbkemhclncmicaa", sum := "4e508079ab9e19fae9bfcc0ced89364644b0b24c8ba1467bd60ba75ffcc6452a", func := "loop.example/g00769/laws.FnExactReadGrant", spec := "fnExactReadGrant", inPlace := ["internal/abi.NoEscape", "internal/bytealg.MakeNoZero"], unfollowed := true, recurses := true, apart := false, narrowed := true }
def FnExactReadGrantUptoSaid : Prop := fnExactReadGrantUptoRow.holds Try.pinned (OpenSpec.upto fnExactReadGrantSpec)

end Rows
end Go.Proofs.Ytbkemhclncmicaa
