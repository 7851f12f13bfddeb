/-
  DERIVED. GIVEN WITH THE SEED: THE CARDS: each row of YtcaieniddnhkbaaGreatDoorRows.lean that lists a variable, with what it lists TIED to the program's text (the seventh form; the later family's looks); each row that meets fmt, with fmt's text TOLD by the authors' own Lean function (tested against real Go, not proved from fmt's source: count such statements apart). THE CARD IS WHAT COUNTS. Prove the row's statement (the work); the ties are given (YtcaieniddnhkbaaGreatDoorTie.lean); close each card by the builder's one call (the guide's Derived/Test/ToyasCard.lean, 'card_holds'). Laid BY PROGRAM, IN A SANDBOX (cutbox-door.mjs). By AI agents, Wed Nov 11 2026. No macro, syntax, notation, axiom, sorry.
-/
import Derived.Test.YtcaieniddnhkbaaGreatDoorRows
import GoSem.ClaimSeven
namespace Go.Proofs.YtcaieniddnhkbaaGreatDoor
namespace Rows

/-- THE TIED CARD OF 'laws.FnCentre'. -/
def fnCentreCard : Claim7 := { stood := { row := fnCentreRow, standIns := [], harness := (true, "1e685367015375b153eaf11fe5d08fa2d8a8f46492629f9971e7689ae311dd6f"), looks := true }, kinds := [], alts := [], laidByText := true, laidKinds := [.handle], laidTests := true, laidLooks := .later }
def FnCentreCardSaid : Prop := Claim7.holds Tryz.pinned (.plain (OpenSpec.ofChange fnCentreSpec)) fnCentreCard

/-- THE TIED CARD OF 'laws.FnExactCentre'. -/
def fnExactCentreCard : Claim7 := { stood := { row := fnExactCentreRow, standIns := [], harness := (true, "1e685367015375b153eaf11fe5d08fa2d8a8f46492629f9971e7689ae311dd6f"), looks := true }, kinds := [], alts := [], laidByText := true, laidKinds := [.handle], laidTests := true, laidLooks := .later }
def FnExactCentreCardSaid : Prop := Claim7.holds Tryz.pinned (.plain (OpenSpec.ofChange fnExactCentreSpec)) fnExactCentreCard

/-- THE SECOND FORM's CARD OF 'laws.FnCentre'. -/
def fnCentreUptoCard : Claim7 := { stood := { row := fnCentreUptoRow, standIns := [], harness := (true, "1e685367015375b153eaf11fe5d08fa2d8a8f46492629f9971e7689ae311dd6f"), looks := true }, kinds := [], alts := [], laidByText := true, laidKinds := [.handle], laidTests := true, laidLooks := .later }
def FnCentreUptoCardSaid : Prop := Claim7.holds Tryz.pinned (.plain (OpenSpec.upto fnCentreSpec)) fnCentreUptoCard

/-- THE SECOND FORM's CARD OF 'laws.FnExactCentre'. -/
def fnExactCentreUptoCard : Claim7 := { stood := { row := fnExactCentreUptoRow, standIns := [], harness := (true, "1e685367015375b153eaf11fe5d08fa2d8a8f46492629f9971e7689ae311dd6f"), looks := true }, kinds := [], alts := [], laidByText := true, laidKinds := [.handle], laidTests := true, laidLooks := .later }
def FnExactCentreUptoCardSaid : Prop := Claim7.holds Tryz.pinned (.plain (OpenSpec.upto fnExactCentreSpec)) fnExactCentreUptoCard
end Rows
end Go.Proofs.YtcaieniddnhkbaaGreatDoor
