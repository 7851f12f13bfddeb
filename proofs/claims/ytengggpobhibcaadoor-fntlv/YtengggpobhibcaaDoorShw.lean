/- ShowTlv: both sides. -/
import Derived.Test.YtengggpobhibcaaDoorOk1
set_option linter.unusedVariables false
set_option maxRecDepth 100000
namespace Go.Proofs.YtengggpobhibcaaDoor.Nd
open Go Go.RowKit Go.Joins Own Draw Var

def shB (o : Option ByteArray) : ByteArray := match o with
  | some T => T
  | none => ⟨#[]⟩
set_option maxHeartbeats 3200000 in
theorem specShow_is (a : Option Addr) (ca : Nat) (xs : List TT) (w : World) (hr : RpT w (a, ca, xs)) (hrt : rtT (a, ca, xs) ≤ 1048576) :
    Calls Tryd.prog 9 #[.slice a xs.length ca] w fun e w' => e = .returned (.string (shB (shM (xs.map stT)))) ∧ Below w.heap.size w w' := by
  obtain ⟨hl, hd, hk, hsum⟩ := rt_parts hrt
  have K1 := specOk_is a ca xs w hr hrt
  go_enter Tryd.func9, Tryd.ntmps9
  go_wp2_with fail
  refine K1.mono ?_
  clear K1
  rintro ex w1 ⟨rfl, b1⟩
  cases e : shM (xs.map stT) with
  | none =>
    clear hd hk
    have HV : Hid (shM (xs.map stT) = none) := e
    clear e
    go_wp2
    go_ret
    exact ⟨by rw [HV.out]; rfl, b1⟩
  | some T =>
    obtain ⟨hO, hT⟩ := shows_ok e
    obtain ⟨hK, htg, hsm⟩ := tree_small hO.1 hsum
    have h1 := hO.1.1
    have K2 := shw_is xs hK htg hd hk hsm h1.2 xs.length (xs.length - 1) (by omega) (by omega) a ca w1 (RpT.later hr b1)
    rw [show (((xs.length - 1 : Nat)) : Int) = (xs.length : Int) - 1 by omega, hT] at K2
    have hlI : (1 : Int) ≤ (xs.length : Int) ∧ (xs.length : Int) ≤ 60 := by omega
    have HV : Hid (shM (xs.map stT) = some T) := e
    clear hd hk hO hK htg hsm hT e
    go_wp2_with fail
    refine K2.mono ?_
    clear K2
    rintro ex w2 ⟨rfl, b2⟩
    have bb := b1.trans (b2.mono b1.size)
    go_wp2
    go_ret
    exact ⟨by rw [HV.out]; rfl, bb⟩
set_option maxHeartbeats 3200000 in
theorem implShow_is (a : Option Addr) (ca : Nat) (xs : List TT) (w : World) (hr : RpT w (a, ca, xs)) (hrt : rtT (a, ca, xs) ≤ 1048576) :
    Calls Tryd.prog 6 #[.slice a xs.length ca] w fun e w' => e = .returned (.string (shB (shM (xs.map stT)))) ∧ Below w.heap.size w w' := by
  obtain ⟨hl, hd, hk, hsum⟩ := rt_parts hrt
  have K1 := msg_is a ca xs w hr hl hd hk
  go_enter Tryd.func6, Tryd.ntmps6
  cases e : shM (xs.map stT) with
  | none =>
    rw [e] at K1
    simp only [shV] at K1
    clear hd hk
    go_wp2_with fail
    refine K1.mono ?_
    clear K1
    rintro ex w1 ⟨rfl, b1⟩
    go_wp2
    go_ret
    exact ⟨rfl, b1⟩
  | some T =>
    rw [e] at K1
    simp only [shV] at K1
    clear hd hk
    go_wp2_with fail
    refine K1.mono ?_
    clear K1
    rintro ex w1 ⟨rfl, b1⟩
    go_wp2
    go_ret
    exact ⟨rfl, b1⟩
end Go.Proofs.YtengggpobhibcaaDoor.Nd
