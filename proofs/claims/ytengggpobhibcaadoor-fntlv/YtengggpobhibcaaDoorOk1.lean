/- TlvOk, ShowTlv: both sides. -/
import Derived.Test.YtengggpobhibcaaDoorSh3
import Derived.Test.YtengggpobhibcaaDoorSw5
import Derived.Test.YtengggpobhibcaaDoorTd4
set_option linter.unusedVariables false
set_option maxRecDepth 100000
namespace Go.Proofs.YtengggpobhibcaaDoor.Nd
open Go Go.RowKit Go.Joins Own Draw Var

theorem rt_parts {a : Option Addr} {ca : Nat} {xs : List TT} (h : rtT (a, ca, xs) ≤ 1048576) : xs.length ≤ 1048576 ∧ (∀ x ∈ xs, x.2.2.1.size ≤ 1048576) ∧ (∀ x ∈ xs, x.2.2.2.2.2.length ≤ 1048576) ∧ (xs.map (fun x => x.2.2.1.size)).sum ≤ 1048576 := by
  have h1 : xs.length + (xs.map totT).sum ≤ 1048576 := h
  have hm : ∀ x ∈ xs, totT x ≤ (xs.map totT).sum := fun x hx => le_sum_of_mem (List.mem_map_of_mem hx)
  have hs : ∀ l : List TT, (l.map (fun x => x.2.2.1.size)).sum ≤ (l.map totT).sum := by
    intro l
    induction l with
    | nil => exact Nat.le_refl _
    | cons y l ih =>
      simp only [List.map_cons, List.sum_cons]
      have : y.2.2.1.size ≤ totT y := by unfold totT; omega
      omega
  refine ⟨by omega, fun x hx => ?_, fun x hx => ?_, ?_⟩
  · have := hm x hx; have h3 : totT x = x.2.2.1.size + x.2.2.2.2.2.length := rfl; omega
  · have := hm x hx; have h3 : totT x = x.2.2.1.size + x.2.2.2.2.2.length := rfl; omega
  · have := hs xs; omega
theorem sh_none {xs : List TT} (h : ¬ OkP xs) : (shM (xs.map stT)).isSome = false := by
  cases e : shM (xs.map stT) with
  | none => rfl
  | some T => exact absurd (shows_ok e).1 h
theorem sh_some {xs : List TT} (h : OkP xs) : (shM (xs.map stT)).isSome = true := by rw [ok_shows h]; rfl
set_option maxHeartbeats 3200000 in
theorem specOk_is (a : Option Addr) (ca : Nat) (xs : List TT) (w : World) (hr : RpT w (a, ca, xs)) (hrt : rtT (a, ca, xs) ≤ 1048576) :
    Calls Tryd.prog 8 #[.slice a xs.length ca] w fun e w' => e = .returned (.bool (shM (xs.map stT)).isSome) ∧ Below w.heap.size w w' := by
  obtain ⟨hl, hd, hk, hsum⟩ := rt_parts hrt
  have K1 := tree_is a ca xs w hr hl hk
  go_enter Tryd.func8, Tryd.ntmps8
  go_wp2_with fail
  refine K1.mono ?_
  clear K1
  rintro ex w1 ⟨⟨b, rfl, hb⟩, b1⟩
  cases b with
  | false =>
    have HV : Hid ((shM (xs.map stT)).isSome = false) := sh_none (fun c => by have := hb.2 c.1; cases this)
    clear hd hk hb
    go_wp2
    go_ret
    exact ⟨by rw [HV.out]; rfl, b1⟩
  | true =>
    have hT : TreeP xs := hb.1 rfl
    obtain ⟨hK, htg, hsm⟩ := tree_small hT hsum
    have h1 := hT.1
    have K2 := shw_is xs hK htg hd hk hsm h1.2 xs.length (xs.length - 1) (by omega) (by omega) a ca w1 (RpT.later hr b1)
    rw [show (((xs.length - 1 : Nat)) : Int) = (xs.length : Int) - 1 by omega] at K2
    have HT : Hid (TreeP xs) := hT
    obtain ⟨T, hTe⟩ : ∃ T, shT (xs.map stT) (xs.length - 1) = T := ⟨_, rfl⟩
    rw [hTe] at K2
    have HTE : Hid (shT (xs.map stT) (xs.length - 1) = T) := hTe
    have HOK : Hid (OkP xs ↔ rdT T = (xs.map stT, 0)) := ⟨fun c => HTE.out ▸ c.2, fun c => ⟨HT.out, by rw [HTE.out]; exact c⟩⟩
    have hlI : (1 : Int) ≤ (xs.length : Int) ∧ (xs.length : Int) ≤ 60 := by omega
    clear hb hT hK htg hsm hd hk hTe
    go_wp2_with fail
    refine K2.mono ?_
    clear K2
    rintro ex w2 ⟨rfl, b2⟩
    have K3 := specRead_is T w2
    have hsmall := rd_small T
    go_wp2_with fail
    refine K3.mono ?_
    clear K3
    rintro ex w3 ⟨⟨qa, qc, ys⟩, rfl, hq, ro, ap, b3⟩
    have bb := (b1.trans (b2.mono b1.size)).trans (b3.mono (b1.trans (b2.mono b1.size)).size)
    have sm := rt_small (q := (qa, qc, ys)) (by rw [hq]; exact hsmall.1) (by rw [hq]; exact hsmall.2)
    obtain ⟨c2, hc2⟩ : ∃ c, (rdT T).2 = c := ⟨_, rfl⟩
    rw [hc2]
    by_cases hc : c2 = 0
    · have cc : (c2 == 0) = true := by rw [hc]; rfl
      have K4 := same_is qa a qc ca ys xs w3 ro.dp (RpT.later hr bb) (by have := sm.2.1; dsimp only at this; omega) (fun x hx => by have := sm.2.2 x hx; omega)
      have HI : Hid (OkP xs ↔ rsT (qa, qc, ys) = rsT (a, ca, xs)) := HOK.out.trans ⟨fun c => by rw [hq, c]; rfl, fun c => Prod.ext (by rw [← hq, c]; rfl) (by rw [hc2, hc])⟩
      clear hq hc2 hc hsmall sm HOK
      go_wp2_with fail
      refine K4.mono ?_
      clear K4
      rintro ex w4 ⟨⟨b, rfl, hb⟩, b4⟩
      have bb4 := bb.trans (b4.mono bb.size)
      have HV : Hid ((shM (xs.map stT)).isSome = b) := by
        show _ = _
        cases b with
        | true => exact sh_some (HI.out.2 (hb.1 rfl))
        | false => exact sh_none (fun c => by have := hb.2 (HI.out.1 c); cases this)
      clear hb HI
      go_wp2
      go_ret
      exact ⟨by rw [HV.out]; rfl, bb4⟩
    · have cc : (c2 == 0) = false := by simpa using hc
      have HV : Hid ((shM (xs.map stT)).isSome = false) := sh_none (fun c => hc (by rw [← hc2, HOK.out.1 c]))
      clear hq hc2 hc hsmall sm HOK
      go_wp2
      go_ret
      exact ⟨by rw [HV.out]; rfl, bb⟩
set_option maxHeartbeats 3200000 in
theorem implOk_is (a : Option Addr) (ca : Nat) (xs : List TT) (w : World) (hr : RpT w (a, ca, xs)) (hrt : rtT (a, ca, xs) ≤ 1048576) :
    Calls Tryd.prog 10 #[.slice a xs.length ca] w fun e w' => e = .returned (.bool (shM (xs.map stT)).isSome) ∧ Below w.heap.size w w' := by
  obtain ⟨hl, hd, hk, hsum⟩ := rt_parts hrt
  have K1 := msg_is a ca xs w hr hl hd hk
  go_enter Tryd.func10, Tryd.ntmps10
  cases e : shM (xs.map stT) with
  | none =>
    rw [e] at K1
    simp only [shV] at K1
    clear hd hk
    go_wp2_with fail
    refine K1.mono ?_
    clear K1
    rintro ex w1 ⟨rfl, b1⟩
    go_wp2
    go_ret
    exact ⟨rfl, b1⟩
  | some T =>
    rw [e] at K1
    simp only [shV] at K1
    clear hd hk
    go_wp2_with fail
    refine K1.mono ?_
    clear K1
    rintro ex w1 ⟨rfl, b1⟩
    go_wp2
    go_ret
    exact ⟨rfl, b1⟩
end Go.Proofs.YtengggpobhibcaaDoor.Nd
