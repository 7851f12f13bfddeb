/-
  DERIVED. GIVEN WITH THE SEED: THE CARDS: each row of YtpfonadpojcnnaaDoorRows.lean that lists a variable, with what it lists TIED to the program's text (the seventh form; the later family's looks); each row that meets fmt, with fmt's text TOLD by the authors' own Lean function (tested against real Go, not proved from fmt's source: count such statements apart). THE CARD IS WHAT COUNTS. Prove the row's statement (the work); the ties are given (YtpfonadpojcnnaaDoorTie.lean); close each card by the builder's one call (the guide's Derived/Test/ToyasCard.lean, 'card_holds'). Laid BY PROGRAM, IN A SANDBOX (cutbox-door.mjs). By AI agents, Wed Nov 11 2026. No macro, syntax, notation, axiom, sorry.
-/
import Derived.Test.YtpfonadpojcnnaaDoorRows
import GoSem.ClaimSeven
namespace Go.Proofs.YtpfonadpojcnnaaDoor
namespace Rows

/-- THE TIED CARD OF 'laws.FnExactReadTlv'. -/
def fnExactReadTlvCard : Claim7 := { stood := { row := fnExactReadTlvRow, standIns := [], harness := (true, "7ab4fc3d3e801e8b2a9c7c9e811dcd807dfb2bb31cb67bec02fc401c37c70693"), looks := true }, kinds := [], alts := [], laidByText := true, laidKinds := [.handle], laidTests := true, laidLooks := .later }
def FnExactReadTlvCardSaid : Prop := Claim7.holds Tryd.pinned (.plain (OpenSpec.ofChange fnExactReadTlvSpec)) fnExactReadTlvCard

/-- THE SECOND FORM's CARD OF 'laws.FnExactReadTlv'. -/
def fnExactReadTlvUptoCard : Claim7 := { stood := { row := fnExactReadTlvUptoRow, standIns := [], harness := (true, "7ab4fc3d3e801e8b2a9c7c9e811dcd807dfb2bb31cb67bec02fc401c37c70693"), looks := true }, kinds := [], alts := [], laidByText := true, laidKinds := [.handle], laidTests := true, laidLooks := .later }
def FnExactReadTlvUptoCardSaid : Prop := Claim7.holds Tryd.pinned (.plain (OpenSpec.upto fnExactReadTlvSpec)) fnExactReadTlvUptoCard
end Rows
end Go.Proofs.YtpfonadpojcnnaaDoor
