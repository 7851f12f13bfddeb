/-
  DERIVED. GIVEN WITH THE SEED: THE CARDS: each row of YtengggpobhibcaaDoorRows.lean that lists a variable, with what it lists TIED to the program's text (the seventh form; the later family's looks); each row that meets fmt, with fmt's text TOLD by the authors' own Lean function (tested against real Go, not proved from fmt's source: count such statements apart). THE CARD IS WHAT COUNTS. Prove the row's statement (the work); the ties are given (YtengggpobhibcaaDoorTie.lean); close each card by the builder's one call (the guide's Derived/Test/ToyasCard.lean, 'card_holds'). Laid BY PROGRAM, IN A SANDBOX (cutbox-door.mjs). By AI agents, Wed Nov 11 2026. No macro, syntax, notation, axiom, sorry.
-/
import Derived.Test.YtengggpobhibcaaDoorRows
import GoSem.ClaimSeven
namespace Go.Proofs.YtengggpobhibcaaDoor
namespace Rows

/-- THE TIED CARD OF 'laws.FnTlv'. -/
def fnTlvCard : Claim7 := { stood := { row := fnTlvRow, standIns := [], harness := (true, "0e5d61c3e26510f3ebbba1677109468aee9b7af69ee2ccad9396873cce92f13d"), looks := true }, kinds := [], alts := [], laidByText := true, laidKinds := [.handle], laidTests := true, laidLooks := .later }
def FnTlvCardSaid : Prop := Claim7.holds Tryd.pinned (.plain (OpenSpec.ofChange fnTlvSpec)) fnTlvCard

/-- THE SECOND FORM's CARD OF 'laws.FnTlv'. -/
def fnTlvUptoCard : Claim7 := { stood := { row := fnTlvUptoRow, standIns := [], harness := (true, "0e5d61c3e26510f3ebbba1677109468aee9b7af69ee2ccad9396873cce92f13d"), looks := true }, kinds := [], alts := [], laidByText := true, laidKinds := [.handle], laidTests := true, laidLooks := .later }
def FnTlvUptoCardSaid : Prop := Claim7.holds Tryd.pinned (.plain (OpenSpec.upto fnTlvSpec)) fnTlvUptoCard
end Rows
end Go.Proofs.YtengggpobhibcaaDoor
