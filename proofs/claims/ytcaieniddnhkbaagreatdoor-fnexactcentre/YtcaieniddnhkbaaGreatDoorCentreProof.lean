/- Whatever Config, realm, time, fresh key and request are handed to Centre, the program answers the Reply that the model of the document does, each field of it, and writes into nothing of the Config: no condition besides what the variable errors.errorType holds when the call begins, which the card ties to the text. -/
import Derived.Test.YtcaieniddnhkbaaGreatDoorCentreFrame
import Derived.Test.YtcaieniddnhkbaaGreatDoorSp8j
import Derived.Test.YtcaieniddnhkbaaGreatDoorTie
import Derived.Test.YtcaieniddnhkbaaGreatDoorCards
import Derived.SevenTiedAt
namespace Go.Proofs.YtcaieniddnhkbaaGreatDoor.fnExactCentre
open Go
set_option linter.unusedVariables false
theorem row:Rows.FnExactCentreSaid:=over (fun c realm now fresh target nonce la lc tk au rs ev w C K hcf hn hr hrow htk hau hrs hev=>specAsk8_is c realm now fresh target nonce la lc tk au rs ev w C K hcf hn hr hrow htk hau hrs hev)
theorem proved:Rows.FnExactCentreCardSaid :=
 Claim7.holds_tied_plain_at .later [] [.handle] true (true,"1e685367015375b153eaf11fe5d08fa2d8a8f46492629f9971e7689ae311dd6f") true
  row (fun _ h=>by cases h) (by kernel_rfl) (fun _ h=>by cases h) fnExactCentre_row_tie rfl ⟨rfl,rfl⟩ (by kernel_rfl) rfl
  (fun f fn hf hfn=>by
   obtain rfl:f=4:=Option.some.inj ((show Tryz.prog.funcNamed "loop.example/g00769/laws.FnExactCentre"=some 4 by kernel_rfl).symm.trans hf) |>.symm
   obtain rfl:fn=Tryz.f4:=(Option.some.inj (Tryz.func4.symm.trans hfn)).symm
   exact ⟨by kernel_rfl,fun j t ht=>by
    rw [Tryz.params4] at ht
    rcases j with _ | _ | _ | _ | _ | j
    ·have h3:t=55:=by simpa using ht.symm
     subst h3
     exact (show Tryz.prog.wantsStandIn 55=false by kernel_rfl)
    ·have h3:t=3:=by simpa using ht.symm
     subst h3
     exact (show Tryz.prog.wantsStandIn 3=false by kernel_rfl)
    ·have h3:t=3:=by simpa using ht.symm
     subst h3
     exact (show Tryz.prog.wantsStandIn 3=false by kernel_rfl)
    ·have h3:t=3:=by simpa using ht.symm
     subst h3
     exact (show Tryz.prog.wantsStandIn 3=false by kernel_rfl)
    ·have h3:t=9:=by simpa using ht.symm
     subst h3
     exact (show Tryz.prog.wantsStandIn 9=false by kernel_rfl)
    ·simp at ht⟩)
  (by kernel_rfl)
#print axioms proved
end Go.Proofs.YtcaieniddnhkbaaGreatDoor.fnExactCentre
