/-
  No cell of these rows narrows 'for every input' (looked for: loops, veiled, ifaces, maps, wideKeys, modest, calm, conditions, laid).
  DERIVED. THE GIVEN ROWS OF THIS SEAT. 15 by the template 'for every input the law returns true; each argument reads behind the call as it read before'; 0 by the template 'total and deterministic' (their statements: YtpfloopngndpbaaTotals.lean).
  GIVEN WITH THE SEED: the statements are not yours to turn. If you find one false, say at which input.
  Laid BY PROGRAM, IN A SANDBOX (cutbox-rows.mjs): the forced cells as the released guide's own fill.sh prints them over the translation b1bdc0ec79eee890… (all of the seat's roots in one cut). By AI agents, Wed Nov 11 2026. No macro, syntax, notation, axiom, sorry.
-/
import Derived.Test.YtpfloopngndpbaaChecked
import GoSem.Claim
import GoSem.ClaimJoined
import GoSem.ClaimMapViews
import Derived.JoinedTies
import Derived.KernelRfl
namespace Go.Proofs.Ytpfloopngndpbaa
/- THE CELL 'sum', in the pinned program and in every row, IS THE sha256 OF THE DUMP (.gsa) THAT YtpfloopngndpbaaProg.lean LOADS. Nothing in Lean hashes anything: it is a label: what it is worth is what the hold of that sum in a sandbox is worth. -/
noncomputable def Try.pinned : Pinned := { name := "ytpfloopngndpbaa", sum := "b1bdc0ec79eee890183c271a453d74f58a971de11600ad50b0d4f86ebb98144d", checked := Try.checked }
namespace Rows
def none {H : Type} : Left H := { results := [], args := [] }

/-- 'laws.FnTerms': WHATEVER THE INPUT: true; the input reads as it did. -/
def fnTermsSpec : ChangeSpec := { name := "fnTerms", fn := fun _ => fun
  | [d] => { results := [.lit (.bool true)], args := [d] }
  | _ => none }
def fnTermsRow : OpenClaim := { program := "ytpfloopngndpbaa", sum := "b1bdc0ec79eee890183c271a453d74f58a971de11600ad50b0d4f86ebb98144d", func := "loop.example/g00769/laws.FnTerms", spec := "fnTerms", inPlace := ["internal/abi.NoEscape", "internal/bytealg.MakeNoZero"], unfollowed := true, recurses := true, apart := false }
def FnTermsSaid : Prop := fnTermsRow.holds Try.pinned (OpenSpec.ofChange fnTermsSpec)

/-- ITS FALSE NEIGHBOUR: 'it returns false'. Refute it at one input. -/
def fnTermsWrong : ChangeSpec := { name := "fnTerms", fn := fun _ => fun
  | [d] => { results := [.lit (.bool false)], args := [d] }
  | _ => none }
def FnTermsWrongFalsely : Prop := fnTermsRow.holds Try.pinned (OpenSpec.ofChange fnTermsWrong)

/-- 'laws.FnOneKind': WHATEVER THE INPUT: true; the input reads as it did. -/
def fnOneKindSpec : ChangeSpec := { name := "fnOneKind", fn := fun _ => fun
  | [d] => { results := [.lit (.bool true)], args := [d] }
  | _ => none }
def fnOneKindRow : OpenClaim := { program := "ytpfloopngndpbaa", sum := "b1bdc0ec79eee890183c271a453d74f58a971de11600ad50b0d4f86ebb98144d", func := "loop.example/g00769/laws.FnOneKind", spec := "fnOneKind", inPlace := ["internal/abi.NoEscape", "internal/bytealg.MakeNoZero"], unfollowed := true, recurses := true, apart := false }
def FnOneKindSaid : Prop := fnOneKindRow.holds Try.pinned (OpenSpec.ofChange fnOneKindSpec)

/-- ITS FALSE NEIGHBOUR: 'it returns false'. Refute it at one input. -/
def fnOneKindWrong : ChangeSpec := { name := "fnOneKind", fn := fun _ => fun
  | [d] => { results := [.lit (.bool false)], args := [d] }
  | _ => none }
def FnOneKindWrongFalsely : Prop := fnOneKindRow.holds Try.pinned (OpenSpec.ofChange fnOneKindWrong)

/-- 'laws.FnExactTermOk': WHATEVER THE INPUT: true; the input reads as it did. -/
def fnExactTermOkSpec : ChangeSpec := { name := "fnExactTermOk", fn := fun _ => fun
  | [d] => { results := [.lit (.bool true)], args := [d] }
  | _ => none }
def fnExactTermOkRow : OpenClaim := { program := "ytpfloopngndpbaa", sum := "b1bdc0ec79eee890183c271a453d74f58a971de11600ad50b0d4f86ebb98144d", func := "loop.example/g00769/laws.FnExactTermOk", spec := "fnExactTermOk", unfollowed := true, recurses := true, apart := false }
def FnExactTermOkSaid : Prop := fnExactTermOkRow.holds Try.pinned (OpenSpec.ofChange fnExactTermOkSpec)

/-- ITS FALSE NEIGHBOUR: 'it returns false'. Refute it at one input. -/
def fnExactTermOkWrong : ChangeSpec := { name := "fnExactTermOk", fn := fun _ => fun
  | [d] => { results := [.lit (.bool false)], args := [d] }
  | _ => none }
def FnExactTermOkWrongFalsely : Prop := fnExactTermOkRow.holds Try.pinned (OpenSpec.ofChange fnExactTermOkWrong)

/-- 'laws.FnExactAtom': WHATEVER THE INPUT: true; the input reads as it did. -/
def fnExactAtomSpec : ChangeSpec := { name := "fnExactAtom", fn := fun _ => fun
  | [d] => { results := [.lit (.bool true)], args := [d] }
  | _ => none }
def fnExactAtomRow : OpenClaim := { program := "ytpfloopngndpbaa", sum := "b1bdc0ec79eee890183c271a453d74f58a971de11600ad50b0d4f86ebb98144d", func := "loop.example/g00769/laws.FnExactAtom", spec := "fnExactAtom", unfollowed := true, recurses := true, apart := false }
def FnExactAtomSaid : Prop := fnExactAtomRow.holds Try.pinned (OpenSpec.ofChange fnExactAtomSpec)

/-- ITS FALSE NEIGHBOUR: 'it returns false'. Refute it at one input. -/
def fnExactAtomWrong : ChangeSpec := { name := "fnExactAtom", fn := fun _ => fun
  | [d] => { results := [.lit (.bool false)], args := [d] }
  | _ => none }
def FnExactAtomWrongFalsely : Prop := fnExactAtomRow.holds Try.pinned (OpenSpec.ofChange fnExactAtomWrong)

/-- 'laws.FnExactKeyTerm': WHATEVER THE INPUT: true; the input reads as it did. -/
def fnExactKeyTermSpec : ChangeSpec := { name := "fnExactKeyTerm", fn := fun _ => fun
  | [d] => { results := [.lit (.bool true)], args := [d] }
  | _ => none }
def fnExactKeyTermRow : OpenClaim := { program := "ytpfloopngndpbaa", sum := "b1bdc0ec79eee890183c271a453d74f58a971de11600ad50b0d4f86ebb98144d", func := "loop.example/g00769/laws.FnExactKeyTerm", spec := "fnExactKeyTerm", unfollowed := true, recurses := true, apart := false }
def FnExactKeyTermSaid : Prop := fnExactKeyTermRow.holds Try.pinned (OpenSpec.ofChange fnExactKeyTermSpec)

/-- ITS FALSE NEIGHBOUR: 'it returns false'. Refute it at one input. -/
def fnExactKeyTermWrong : ChangeSpec := { name := "fnExactKeyTerm", fn := fun _ => fun
  | [d] => { results := [.lit (.bool false)], args := [d] }
  | _ => none }
def FnExactKeyTermWrongFalsely : Prop := fnExactKeyTermRow.holds Try.pinned (OpenSpec.ofChange fnExactKeyTermWrong)

/-- 'laws.FnExactList': WHATEVER THE INPUT: true; the input reads as it did. -/
def fnExactListSpec : ChangeSpec := { name := "fnExactList", fn := fun _ => fun
  | [d] => { results := [.lit (.bool true)], args := [d] }
  | _ => none }
def fnExactListRow : OpenClaim := { program := "ytpfloopngndpbaa", sum := "b1bdc0ec79eee890183c271a453d74f58a971de11600ad50b0d4f86ebb98144d", func := "loop.example/g00769/laws.FnExactList", spec := "fnExactList", inPlace := ["internal/abi.NoEscape", "internal/bytealg.MakeNoZero"], unfollowed := true, recurses := true, apart := false }
def FnExactListSaid : Prop := fnExactListRow.holds Try.pinned (OpenSpec.ofChange fnExactListSpec)

/-- ITS FALSE NEIGHBOUR: 'it returns false'. Refute it at one input. -/
def fnExactListWrong : ChangeSpec := { name := "fnExactList", fn := fun _ => fun
  | [d] => { results := [.lit (.bool false)], args := [d] }
  | _ => none }
def FnExactListWrongFalsely : Prop := fnExactListRow.holds Try.pinned (OpenSpec.ofChange fnExactListWrong)

/-- 'laws.FnExactSeal': WHATEVER THE INPUT: true; the input reads as it did. -/
def fnExactSealSpec : ChangeSpec := { name := "fnExactSeal", fn := fun _ => fun
  | [d1, d2] => { results := [.lit (.bool true)], args := [d1, d2] }
  | _ => none }
def fnExactSealRow : OpenClaim := { program := "ytpfloopngndpbaa", sum := "b1bdc0ec79eee890183c271a453d74f58a971de11600ad50b0d4f86ebb98144d", func := "loop.example/g00769/laws.FnExactSeal", spec := "fnExactSeal", unfollowed := true, recurses := true, apart := false }
def FnExactSealSaid : Prop := fnExactSealRow.holds Try.pinned (OpenSpec.ofChange fnExactSealSpec)

/-- ITS FALSE NEIGHBOUR: 'it returns false'. Refute it at one input. -/
def fnExactSealWrong : ChangeSpec := { name := "fnExactSeal", fn := fun _ => fun
  | [d1, d2] => { results := [.lit (.bool false)], args := [d1, d2] }
  | _ => none }
def FnExactSealWrongFalsely : Prop := fnExactSealRow.holds Try.pinned (OpenSpec.ofChange fnExactSealWrong)

/-- 'laws.FnExactReadAtom': WHATEVER THE INPUT: true; the input reads as it did. -/
def fnExactReadAtomSpec : ChangeSpec := { name := "fnExactReadAtom", fn := fun _ => fun
  | [d] => { results := [.lit (.bool true)], args := [d] }
  | _ => none }
def fnExactReadAtomRow : OpenClaim := { program := "ytpfloopngndpbaa", sum := "b1bdc0ec79eee890183c271a453d74f58a971de11600ad50b0d4f86ebb98144d", func := "loop.example/g00769/laws.FnExactReadAtom", spec := "fnExactReadAtom", unfollowed := true, recurses := true, apart := false }
def FnExactReadAtomSaid : Prop := fnExactReadAtomRow.holds Try.pinned (OpenSpec.ofChange fnExactReadAtomSpec)

/-- ITS FALSE NEIGHBOUR: 'it returns false'. Refute it at one input. -/
def fnExactReadAtomWrong : ChangeSpec := { name := "fnExactReadAtom", fn := fun _ => fun
  | [d] => { results := [.lit (.bool false)], args := [d] }
  | _ => none }
def FnExactReadAtomWrongFalsely : Prop := fnExactReadAtomRow.holds Try.pinned (OpenSpec.ofChange fnExactReadAtomWrong)

/-- 'laws.FnExactReadKey': WHATEVER THE INPUT: true; the input reads as it did. -/
def fnExactReadKeySpec : ChangeSpec := { name := "fnExactReadKey", fn := fun _ => fun
  | [d] => { results := [.lit (.bool true)], args := [d] }
  | _ => none }
def fnExactReadKeyRow : OpenClaim := { program := "ytpfloopngndpbaa", sum := "b1bdc0ec79eee890183c271a453d74f58a971de11600ad50b0d4f86ebb98144d", func := "loop.example/g00769/laws.FnExactReadKey", spec := "fnExactReadKey", unfollowed := true, recurses := true, apart := false }
def FnExactReadKeySaid : Prop := fnExactReadKeyRow.holds Try.pinned (OpenSpec.ofChange fnExactReadKeySpec)

/-- ITS FALSE NEIGHBOUR: 'it returns false'. Refute it at one input. -/
def fnExactReadKeyWrong : ChangeSpec := { name := "fnExactReadKey", fn := fun _ => fun
  | [d] => { results := [.lit (.bool false)], args := [d] }
  | _ => none }
def FnExactReadKeyWrongFalsely : Prop := fnExactReadKeyRow.holds Try.pinned (OpenSpec.ofChange fnExactReadKeyWrong)

/-- 'laws.FnExactParts': WHATEVER THE INPUT: true; the input reads as it did. -/
def fnExactPartsSpec : ChangeSpec := { name := "fnExactParts", fn := fun _ => fun
  | [d] => { results := [.lit (.bool true)], args := [d] }
  | _ => none }
def fnExactPartsRow : OpenClaim := { program := "ytpfloopngndpbaa", sum := "b1bdc0ec79eee890183c271a453d74f58a971de11600ad50b0d4f86ebb98144d", func := "loop.example/g00769/laws.FnExactParts", spec := "fnExactParts", unfollowed := true, recurses := true, apart := false }
def FnExactPartsSaid : Prop := fnExactPartsRow.holds Try.pinned (OpenSpec.ofChange fnExactPartsSpec)

/-- ITS FALSE NEIGHBOUR: 'it returns false'. Refute it at one input. -/
def fnExactPartsWrong : ChangeSpec := { name := "fnExactParts", fn := fun _ => fun
  | [d] => { results := [.lit (.bool false)], args := [d] }
  | _ => none }
def FnExactPartsWrongFalsely : Prop := fnExactPartsRow.holds Try.pinned (OpenSpec.ofChange fnExactPartsWrong)

/-- 'laws.FnExactOpen': WHATEVER THE INPUT: true; the input reads as it did. -/
def fnExactOpenSpec : ChangeSpec := { name := "fnExactOpen", fn := fun _ => fun
  | [d1, d2] => { results := [.lit (.bool true)], args := [d1, d2] }
  | _ => none }
def fnExactOpenRow : OpenClaim := { program := "ytpfloopngndpbaa", sum := "b1bdc0ec79eee890183c271a453d74f58a971de11600ad50b0d4f86ebb98144d", func := "loop.example/g00769/laws.FnExactOpen", spec := "fnExactOpen", unfollowed := true, recurses := true, apart := false }
def FnExactOpenSaid : Prop := fnExactOpenRow.holds Try.pinned (OpenSpec.ofChange fnExactOpenSpec)

/-- ITS FALSE NEIGHBOUR: 'it returns false'. Refute it at one input. -/
def fnExactOpenWrong : ChangeSpec := { name := "fnExactOpen", fn := fun _ => fun
  | [d1, d2] => { results := [.lit (.bool false)], args := [d1, d2] }
  | _ => none }
def FnExactOpenWrongFalsely : Prop := fnExactOpenRow.holds Try.pinned (OpenSpec.ofChange fnExactOpenWrong)

/-- 'laws.FnExactNum': WHATEVER THE INPUT: true; the input reads as it did. -/
def fnExactNumSpec : ChangeSpec := { name := "fnExactNum", fn := fun _ => fun
  | [d] => { results := [.lit (.bool true)], args := [d] }
  | _ => none }
def fnExactNumRow : OpenClaim := { program := "ytpfloopngndpbaa", sum := "b1bdc0ec79eee890183c271a453d74f58a971de11600ad50b0d4f86ebb98144d", func := "loop.example/g00769/laws.FnExactNum", spec := "fnExactNum", unfollowed := true, recurses := true, apart := false }
def FnExactNumSaid : Prop := fnExactNumRow.holds Try.pinned (OpenSpec.ofChange fnExactNumSpec)

/-- ITS FALSE NEIGHBOUR: 'it returns false'. Refute it at one input. -/
def fnExactNumWrong : ChangeSpec := { name := "fnExactNum", fn := fun _ => fun
  | [d] => { results := [.lit (.bool false)], args := [d] }
  | _ => none }
def FnExactNumWrongFalsely : Prop := fnExactNumRow.holds Try.pinned (OpenSpec.ofChange fnExactNumWrong)

/-- 'laws.FnExactReadNum': WHATEVER THE INPUT: true; the input reads as it did. -/
def fnExactReadNumSpec : ChangeSpec := { name := "fnExactReadNum", fn := fun _ => fun
  | [d] => { results := [.lit (.bool true)], args := [d] }
  | _ => none }
def fnExactReadNumRow : OpenClaim := { program := "ytpfloopngndpbaa", sum := "b1bdc0ec79eee890183c271a453d74f58a971de11600ad50b0d4f86ebb98144d", func := "loop.example/g00769/laws.FnExactReadNum", spec := "fnExactReadNum", unfollowed := true, recurses := true, apart := false }
def FnExactReadNumSaid : Prop := fnExactReadNumRow.holds Try.pinned (OpenSpec.ofChange fnExactReadNumSpec)

/-- ITS FALSE NEIGHBOUR: 'it returns false'. Refute it at one input. -/
def fnExactReadNumWrong : ChangeSpec := { name := "fnExactReadNum", fn := fun _ => fun
  | [d] => { results := [.lit (.bool false)], args := [d] }
  | _ => none }
def FnExactReadNumWrongFalsely : Prop := fnExactReadNumRow.holds Try.pinned (OpenSpec.ofChange fnExactReadNumWrong)

/-- 'laws.FnExactNums': WHATEVER THE INPUT: true; the input reads as it did. -/
def fnExactNumsSpec : ChangeSpec := { name := "fnExactNums", fn := fun _ => fun
  | [d] => { results := [.lit (.bool true)], args := [d] }
  | _ => none }
def fnExactNumsRow : OpenClaim := { program := "ytpfloopngndpbaa", sum := "b1bdc0ec79eee890183c271a453d74f58a971de11600ad50b0d4f86ebb98144d", func := "loop.example/g00769/laws.FnExactNums", spec := "fnExactNums", inPlace := ["internal/abi.NoEscape", "internal/bytealg.MakeNoZero"], unfollowed := true, recurses := true, apart := false }
def FnExactNumsSaid : Prop := fnExactNumsRow.holds Try.pinned (OpenSpec.ofChange fnExactNumsSpec)

/-- ITS FALSE NEIGHBOUR: 'it returns false'. Refute it at one input. -/
def fnExactNumsWrong : ChangeSpec := { name := "fnExactNums", fn := fun _ => fun
  | [d] => { results := [.lit (.bool false)], args := [d] }
  | _ => none }
def FnExactNumsWrongFalsely : Prop := fnExactNumsRow.holds Try.pinned (OpenSpec.ofChange fnExactNumsWrong)

/-- 'laws.FnExactReadNums': WHATEVER THE INPUT: true; the input reads as it did. -/
def fnExactReadNumsSpec : ChangeSpec := { name := "fnExactReadNums", fn := fun _ => fun
  | [d] => { results := [.lit (.bool true)], args := [d] }
  | _ => none }
def fnExactReadNumsRow : OpenClaim := { program := "ytpfloopngndpbaa", sum := "b1bdc0ec79eee890183c271a453d74f58a971de11600ad50b0d4f86ebb98144d", func := "loop.example/g00769/laws.FnExactReadNums", spec := "fnExactReadNums", unfollowed := true, recurses := true, apart := false }
def FnExactReadNumsSaid : Prop := fnExactReadNumsRow.holds Try.pinned (OpenSpec.ofChange fnExactReadNumsSpec)

/-- ITS FALSE NEIGHBOUR: 'it returns false'. Refute it at one input. -/
def fnExactReadNumsWrong : ChangeSpec := { name := "fnExactReadNums", fn := fun _ => fun
  | [d] => { results := [.lit (.bool false)], args := [d] }
  | _ => none }
def FnExactReadNumsWrongFalsely : Prop := fnExactReadNumsRow.holds Try.pinned (OpenSpec.ofChange fnExactReadNumsWrong)

/- THE SECOND FORM. 'bulk': how many values and letters a reading holds, each counted each time it is reached (what is shared counts as often as it is met; a slice's spare places count too). A statement '..UptoSaid' is the law's where the arguments, and the package variables that the reading takes, are together of bulk at most 1048576: NARROWER than '..Said'. Prove '..Said' where nothing that the law and all that it calls make is longer than what came in: it says more and counts as full. Else prove '..UptoSaid'. A law counts once. -/
mutual
def uptoBulk {H : Type} : DataW H → Nat
  | .lit (.string bytes) => bytes.length + 1
  | .lit _ => 1
  | .nil => 1
  | .ptr d => uptoBulk d + 1
  | .slice elems spare => uptoBulkAll elems + uptoBulkAll spare + 1
  | .agg parts => uptoBulkAll parts + 1
  | .iface _ d => uptoBulk d + 1
  | .map entries => uptoBulkEntries entries + 1
  | .held _ => 1
def uptoBulkAll {H : Type} : List (DataW H) → Nat
  | [] => 0
  | d :: r => uptoBulk d + uptoBulkAll r
def uptoBulkEntries {H : Type} : List (Lit × DataW H) → Nat
  | [] => 0
  | x :: r => uptoBulkEntry x + uptoBulkEntries r
def uptoBulkEntry {H : Type} : Lit × DataW H → Nat
  | (.string bytes, d) => bytes.length + uptoBulk d + 1
  | (_, d) => uptoBulk d + 1
 end
def uptoSmall : (H : Type) → List (DataW H) → Bool := fun _ ds => decide (uptoBulkAll ds ≤ 1048576)
def OpenSpec.upto (s : _root_.Go.ChangeSpec) : _root_.Go.OpenSpec := { _root_.Go.OpenSpec.ofChange s with cond := some uptoSmall }

/-- 'laws.FnTerms', WHERE WHAT IT READS IS OF BULK AT MOST 1048576: true; the input reads as it did. -/
def fnTermsUptoRow : OpenClaim := { program := "ytpfloopngndpbaa", sum := "b1bdc0ec79eee890183c271a453d74f58a971de11600ad50b0d4f86ebb98144d", func := "loop.example/g00769/laws.FnTerms", spec := "fnTerms", inPlace := ["internal/abi.NoEscape", "internal/bytealg.MakeNoZero"], unfollowed := true, recurses := true, apart := false, narrowed := true }
def FnTermsUptoSaid : Prop := fnTermsUptoRow.holds Try.pinned (OpenSpec.upto fnTermsSpec)

/-- 'laws.FnOneKind', WHERE WHAT IT READS IS OF BULK AT MOST 1048576: true; the input reads as it did. -/
def fnOneKindUptoRow : OpenClaim := { program := "ytpfloopngndpbaa", sum := "b1bdc0ec79eee890183c271a453d74f58a971de11600ad50b0d4f86ebb98144d", func := "loop.example/g00769/laws.FnOneKind", spec := "fnOneKind", inPlace := ["internal/abi.NoEscape", "internal/bytealg.MakeNoZero"], unfollowed := true, recurses := true, apart := false, narrowed := true }
def FnOneKindUptoSaid : Prop := fnOneKindUptoRow.holds Try.pinned (OpenSpec.upto fnOneKindSpec)

/-- 'laws.FnExactTermOk', WHERE WHAT IT READS IS OF BULK AT MOST 1048576: true; the input reads as it did. -/
def fnExactTermOkUptoRow : OpenClaim := { program := "ytpfloopngndpbaa", sum := "b1bdc0ec79eee890183c271a453d74f58a971de11600ad50b0d4f86ebb98144d", func := "loop.example/g00769/laws.FnExactTermOk", spec := "fnExactTermOk", unfollowed := true, recurses := true, apart := false, narrowed := true }
def FnExactTermOkUptoSaid : Prop := fnExactTermOkUptoRow.holds Try.pinned (OpenSpec.upto fnExactTermOkSpec)

/-- 'laws.FnExactAtom', WHERE WHAT IT READS IS OF BULK AT MOST 1048576: true; the input reads as it did. -/
def fnExactAtomUptoRow : OpenClaim := { program := "ytpfloopngndpbaa", sum := "b1bdc0ec79eee890183c271a453d74f58a971de11600ad50b0d4f86ebb98144d", func := "loop.example/g00769/laws.FnExactAtom", spec := "fnExactAtom", unfollowed := true, recurses := true, apart := false, narrowed := true }
def FnExactAtomUptoSaid : Prop := fnExactAtomUptoRow.holds Try.pinned (OpenSpec.upto fnExactAtomSpec)

/-- 'laws.FnExactKeyTerm', WHERE WHAT IT READS IS OF BULK AT MOST 1048576: true; the input reads as it did. -/
def fnExactKeyTermUptoRow : OpenClaim := { program := "ytpfloopngndpbaa", sum := "b1bdc0ec79eee890183c271a453d74f58a971de11600ad50b0d4f86ebb98144d", func := "loop.example/g00769/laws.FnExactKeyTerm", spec := "fnExactKeyTerm", unfollowed := true, recurses := true, apart := false, narrowed := true }
def FnExactKeyTermUptoSaid : Prop := fnExactKeyTermUptoRow.holds Try.pinned (OpenSpec.upto fnExactKeyTermSpec)

/-- 'laws.FnExactList', WHERE WHAT IT READS IS OF BULK AT MOST 1048576: true; the input reads as it did. -/
def fnExactListUptoRow : OpenClaim := { program := "ytpfloopngndpbaa", sum := "b1bdc0ec79eee890183c271a453d74f58a971de11600ad50b0d4f86ebb98144d", func := "loop.example/g00769/laws.FnExactList", spec := "fnExactList", inPlace := ["internal/abi.NoEscape", "internal/bytealg.MakeNoZero"], unfollowed := true, recurses := true, apart := false, narrowed := true }
def FnExactListUptoSaid : Prop := fnExactListUptoRow.holds Try.pinned (OpenSpec.upto fnExactListSpec)

/-- 'laws.FnExactSeal', WHERE WHAT IT READS IS OF BULK AT MOST 1048576: true; the input reads as it did. -/
def fnExactSealUptoRow : OpenClaim := { program := "ytpfloopngndpbaa", sum := "b1bdc0ec79eee890183c271a453d74f58a971de11600ad50b0d4f86ebb98144d", func := "loop.example/g00769/laws.FnExactSeal", spec := "fnExactSeal", unfollowed := true, recurses := true, apart := false, narrowed := true }
def FnExactSealUptoSaid : Prop := fnExactSealUptoRow.holds Try.pinned (OpenSpec.upto fnExactSealSpec)

/-- 'laws.FnExactReadAtom', WHERE WHAT IT READS IS OF BULK AT MOST 1048576: true; the input reads as it did. -/
def fnExactReadAtomUptoRow : OpenClaim := { program := "ytpfloopngndpbaa", sum := "b1bdc0ec79eee890183c271a453d74f58a971de11600ad50b0d4f86ebb98144d", func := "loop.example/g00769/laws.FnExactReadAtom", spec := "fnExactReadAtom", unfollowed := true, recurses := true, apart := false, narrowed := true }
def FnExactReadAtomUptoSaid : Prop := fnExactReadAtomUptoRow.holds Try.pinned (OpenSpec.upto fnExactReadAtomSpec)

/-- 'laws.FnExactReadKey', WHERE WHAT IT READS IS OF BULK AT MOST 1048576: true; the input reads as it did. -/
def fnExactReadKeyUptoRow : OpenClaim := { program := "ytpfloopngndpbaa", sum := "b1bdc0ec79eee890183c271a453d74f58a971de11600ad50b0d4f86ebb98144d", func := "loop.example/g00769/laws.FnExactReadKey", spec := "fnExactReadKey", unfollowed := true, recurses := true, apart := false, narrowed := true }
def FnExactReadKeyUptoSaid : Prop := fnExactReadKeyUptoRow.holds Try.pinned (OpenSpec.upto fnExactReadKeySpec)

/-- 'laws.FnExactParts', WHERE WHAT IT READS IS OF BULK AT MOST 1048576: true; the input reads as it did. -/
def fnExactPartsUptoRow : OpenClaim := { program := "ytpfloopngndpbaa", sum := "b1bdc0ec79eee890183c271a453d74f58a971de11600ad50b0d4f86ebb98144d", func := "loop.example/g00769/laws.FnExactParts", spec := "fnExactParts", unfollowed := true, recurses := true, apart := false, narrowed := true }
def FnExactPartsUptoSaid : Prop := fnExactPartsUptoRow.holds Try.pinned (OpenSpec.upto fnExactPartsSpec)

/-- 'laws.FnExactOpen', WHERE WHAT IT READS IS OF BULK AT MOST 1048576: true; the input reads as it did. -/
def fnExactOpenUptoRow : OpenClaim := { program := "ytpfloopngndpbaa", sum := "b1bdc0ec79eee890183c271a453d74f58a971de11600ad50b0d4f86ebb98144d", func := "loop.example/g00769/laws.FnExactOpen", spec := "fnExactOpen", unfollowed := true, recurses := true, apart := false, narrowed := true }
def FnExactOpenUptoSaid : Prop := fnExactOpenUptoRow.holds Try.pinned (OpenSpec.upto fnExactOpenSpec)

/-- 'laws.FnExactNum', WHERE WHAT IT READS IS OF BULK AT MOST 1048576: true; the input reads as it did. -/
def fnExactNumUptoRow : OpenClaim := { program := "ytpfloopngndpbaa", sum := "b1bdc0ec79eee890183c271a453d74f58a971de11600ad50b0d4f86ebb98144d", func := "loop.example/g00769/laws.FnExactNum", spec := "fnExactNum", unfollowed := true, recurses := true, apart := false, narrowed := true }
def FnExactNumUptoSaid : Prop := fnExactNumUptoRow.holds Try.pinned (OpenSpec.upto fnExactNumSpec)

/-- 'laws.FnExactReadNum', WHERE WHAT IT READS IS OF BULK AT MOST 1048576: true; the input reads as it did. -/
def fnExactReadNumUptoRow : OpenClaim := { program := "ytpfloopngndpbaa", sum := "b1bdc0ec79eee890183c271a453d74f58a971de11600ad50b0d4f86ebb98144d", func := "loop.example/g00769/laws.FnExactReadNum", spec := "fnExactReadNum", unfollowed := true, recurses := true, apart := false, narrowed := true }
def FnExactReadNumUptoSaid : Prop := fnExactReadNumUptoRow.holds Try.pinned (OpenSpec.upto fnExactReadNumSpec)

/-- 'laws.FnExactNums', WHERE WHAT IT READS IS OF BULK AT MOST 1048576: true; the input reads as it did. -/
def fnExactNumsUptoRow : OpenClaim := { program := "ytpfloopngndpbaa", sum := "b1bdc0ec79eee890183c271a453d74f58a971de11600ad50b0d4f86ebb98144d", func := "loop.example/g00769/laws.FnExactNums", spec := "fnExactNums", inPlace := ["internal/abi.NoEscape", "internal/bytealg.MakeNoZero"], unfollowed := true, recurses := true, apart := false, narrowed := true }
def FnExactNumsUptoSaid : Prop := fnExactNumsUptoRow.holds Try.pinned (OpenSpec.upto fnExactNumsSpec)

/-- 'laws.FnExactReadNums', WHERE WHAT IT READS IS OF BULK AT MOST 1048576: true; the input reads as it did. -/
def fnExactReadNumsUptoRow : OpenClaim := { program := "ytpfloopngndpbaa", sum := "b1bdc0ec79eee890183c271a453d74f58a971de11600ad50b0d4f86ebb98144d", func := "loop.example/g00769/laws.FnExactReadNums", spec := "fnExactReadNums", unfollowed := true, recurses := true, apart := false, narrowed := true }
def FnExactReadNumsUptoSaid : Prop := fnExactReadNumsUptoRow.holds Try.pinned (OpenSpec.upto fnExactReadNumsSpec)

end Rows
end Go.Proofs.Ytpfloopngndpbaa
