/- What the law draws: a number, a tail, a text. -/
import Derived.Test.YtpidfofjjdjkdabDoorDrawSpoil
import Derived.Test.YtpidfofjjdjkdabDoorImplVar
set_option linter.unusedVariables false
namespace Go.Proofs.YtpidfofjjdjkdabDoor.Draw
open Go Go.RowKit Own

theorem Dr.under {W w' : World} {p : Nat} {a : Option Addr} {len cap : Nat} {zs : List Int} {s : St} (h : Dr W p a len cap zs s) (hb : Below W.heap.size W w') : Dr w' p a len cap zs s :=
  h.grown (row := none) ⟨hb.os, hb.tape, hb.output, hb.size, fun j hj _ => hb.block j hj⟩ (fun _ h => by cases h)
theorem Only.under {p : Nat} {W w' : World} (hb : Below W.heap.size W w') : Only p W w' := ⟨hb.os, hb.tape, hb.output, hb.size, fun j hj _ => hb.block j hj⟩

def drawN (zs : List Int) (len : Nat) : Int := numV zs len (newS zs len)
def drawT (zs : List Int) (len : Nat) : ByteArray := ⟨(textV zs len 40 (newS zs len)).toArray⟩
theorem drawT_size (zs : List Int) (len : Nat) : (drawT zs len).size ≤ 40 := by
  have := textV_len zs len 40 (newS zs len) (by omega)
  have e : (drawT zs len).size = (textV zs len 40 (newS zs len)).length := by simp [drawT, ByteArray.size]
  rw [e]
  have e3 : (40 : Int).toNat = 40 := rfl
  omega
/-- The text that ReadVar is tried at. -/
def rvS1 (zs : List Int) (len : Nat) : St := numS zs len (newS zs len)
def rvT (zs : List Int) (len : Nat) : ByteArray := varOf (numV zs len (newS zs len)) ++ ⟨(textV zs len 4 (rvS1 zs len)).toArray⟩
def rvS2 (zs : List Int) (len : Nat) : St := textS zs len 4 (rvS1 zs len)
def drawR (zs : List Int) (len : Nat) : ByteArray := if belowV zs len 4 (rvS2 zs len) = 0 then spoilV zs len (rvT zs len) (belowS len 4 (rvS2 zs len)) else rvT zs len
theorem varOf_size (n : Int) : (varOf n).size ≤ 7 := by
  unfold varOf
  split
  · rename_i h
    have := Var.varB_seven n.toNat (by omega)
    have e : (⟨(Var.varB n.toNat).toArray⟩ : ByteArray).size = (Var.varB n.toNat).length := by simp [ByteArray.size]
    rw [e]; exact this
  · show 0 ≤ 7; omega
theorem rvT_size (zs : List Int) (len : Nat) : (rvT zs len).size ≤ 11 := by
  have h1 := varOf_size (numV zs len (newS zs len))
  have h2 := textV_len zs len 4 (rvS1 zs len) (by omega)
  have e : (⟨(textV zs len 4 (rvS1 zs len)).toArray⟩ : ByteArray).size = (textV zs len 4 (rvS1 zs len)).length := by simp [ByteArray.size]
  have e3 : (4 : Int).toNat = 4 := rfl
  unfold rvT
  rw [ByteArray.size_append, e]
  omega
theorem drawR_size (zs : List Int) (len : Nat) : (drawR zs len).size ≤ 15 := by
  have h1 := rvT_size zs len
  unfold drawR
  split
  · have := spoilV_size zs len (rvT zs len) (belowS len 4 (rvS2 zs len)); omega
  · omega

set_option maxRecDepth 100000 in
theorem drawN_go (a : Option Addr) (len cap : Nat) (zs : List Int) (W : World) (hz : CodeAt W W.heap.size a len zs) :
    Calls Tryd.prog 5 #[.slice a len cap] W fun e w' => e = .returned (.int .i64 (drawN zs len)) ∧ Below W.heap.size W w' := by
  have H : Hid (CodeAt W W.heap.size a len zs) := hz
  clear hz
  go_enter Tryd.func5, Tryd.ntmps5
  go_wp2_with fail
  refine (new_go a len cap zs _ H.out).mono ?_
  rintro e w1 ⟨rfl, c1, b1, l1⟩
  have D : Hid (Dr w1 W.heap.size a len cap zs (newS zs len) ∧ Below W.heap.size W w1) := ⟨⟨c1, H.out.below b1, Nat.zero_le _⟩, b1⟩
  clear c1 b1
  go_wp2_with fail
  refine (numD W.heap.size a len cap zs _ _ D.out.1).mono ?_
  rintro e w2 ⟨rfl, d2, o2⟩
  go_wp2
  go_ret
  exact ⟨rfl, D.out.2.trans (o2.below (Nat.le_refl _) l1)⟩

set_option maxRecDepth 100000 in
theorem drawT_go (a : Option Addr) (len cap : Nat) (zs : List Int) (W : World) (hz : CodeAt W W.heap.size a len zs) :
    Calls Tryd.prog 6 #[.slice a len cap] W fun e w' => e = .returned (.string (drawT zs len)) ∧ Below W.heap.size W w' := by
  have H : Hid (CodeAt W W.heap.size a len zs) := hz
  clear hz
  go_enter Tryd.func6, Tryd.ntmps6
  go_wp2_with fail
  refine (new_go a len cap zs _ H.out).mono ?_
  rintro e w1 ⟨rfl, c1, b1, l1⟩
  have D : Hid (Dr w1 W.heap.size a len cap zs (newS zs len) ∧ Below W.heap.size W w1) := ⟨⟨c1, H.out.below b1, Nat.zero_le _⟩, b1⟩
  clear c1 b1
  go_wp2_with fail
  refine (textD W.heap.size a len cap zs _ _ 40 D.out.1 (by decide) (by decide)).mono ?_
  rintro e w2 ⟨rfl, d2, o2⟩
  go_wp2
  go_ret
  exact ⟨rfl, D.out.2.trans (o2.below (Nat.le_refl _) l1)⟩

set_option maxRecDepth 100000 in
set_option maxHeartbeats 1600000 in
theorem drawR_go (a : Option Addr) (len cap : Nat) (zs : List Int) (W : World) (hz : CodeAt W W.heap.size a len zs) :
    Calls Tryd.prog 15 #[.slice a len cap] W fun e w' => e = .returned (.string (drawR zs len)) ∧ Below W.heap.size W w' := by
  have H : Hid (CodeAt W W.heap.size a len zs) := hz
  clear hz
  have sz := rvT_size zs len
  have sz1 := varOf_size (numV zs len (newS zs len))
  have sz2 := textV_len zs len 4 (rvS1 zs len) (by decide)
  have e3 : (4 : Int).toNat = 4 := rfl
  rw [e3] at sz2
  obtain ⟨v1, hv1⟩ : ∃ v, varOf (numV zs len (newS zs len)) = v := ⟨_, rfl⟩
  obtain ⟨v2, hv2⟩ : ∃ v, textV zs len 4 (rvS1 zs len) = v := ⟨_, rfl⟩
  have VT : Hid (rvT zs len = v1 ++ ⟨v2.toArray⟩) := by show _ = _; unfold rvT; rw [hv1, hv2]
  have HV : Hid (varOf (numV zs len (newS zs len)) = v1 ∧ textV zs len 4 (rvS1 zs len) = v2) := ⟨hv1, hv2⟩
  rw [hv1] at sz1
  rw [hv2] at sz2
  clear hv1 hv2 e3
  obtain ⟨m, hm⟩ : ∃ m, belowV zs len 4 (rvS2 zs len) = m := ⟨_, rfl⟩
  have HM : Hid (belowV zs len 4 (rvS2 zs len) = m) := hm
  go_enter Tryd.func15, Tryd.ntmps15
  go_wp2_with fail
  refine (new_go a len cap zs _ H.out).mono ?_
  rintro e w1 ⟨rfl, c1, b1, l1⟩
  have D : Hid (Dr w1 W.heap.size a len cap zs (newS zs len) ∧ Below W.heap.size W w1 ∧ W.heap.size < w1.heap.size) := ⟨⟨c1, H.out.below b1, Nat.zero_le _⟩, b1, l1⟩
  clear c1 b1 l1
  go_wp2_with fail
  refine (numD W.heap.size a len cap zs _ _ D.out.1).mono ?_
  rintro e w2 ⟨rfl, d2, o2⟩
  have D2 : Hid (Dr w2 W.heap.size a len cap zs (rvS1 zs len) ∧ Only W.heap.size w1 w2) := ⟨d2, o2⟩
  clear d2 o2
  go_wp2_with fail
  refine (spec_var _ _).mono ?_
  rw [HV.out.1]
  rintro e w3 ⟨rfl, b3⟩
  have D3 : Hid (Dr w3 W.heap.size a len cap zs (rvS1 zs len) ∧ Only W.heap.size w1 w3) := ⟨D2.out.1.under b3, D2.out.2.trans (Only.under b3)⟩
  clear b3 D2
  go_wp2_with fail
  refine (textD W.heap.size a len cap zs _ _ 4 D3.out.1 (by decide) (by decide)).mono ?_
  rw [HV.out.2]
  rintro e w4 ⟨rfl, d4, o4⟩
  have D4 : Hid (Dr w4 W.heap.size a len cap zs (rvS2 zs len) ∧ Only W.heap.size w1 w4) := ⟨d4, D3.out.2.trans o4⟩
  clear d4 o4 D3
  go_wp2_with fail
  refine (onceD W.heap.size a len cap zs _ _ 4 D4.out.1 (by decide)).mono ?_
  rw [HM.out]
  rintro e w5 ⟨rfl, d5, o5⟩
  have D5 : Hid (Dr w5 W.heap.size a len cap zs (belowS len 4 (rvS2 zs len)) ∧ Only W.heap.size w1 w5) := ⟨d5, D4.out.2.trans o5⟩
  clear d5 o5 D4
  by_cases c : m = 0
  · have u : (m == 0) = true := by simpa using c
    have V : Hid (drawR zs len = spoilV zs len (rvT zs len) (belowS len 4 (rvS2 zs len))) := by show _ = _; unfold drawR; rw [hm, if_pos c]
    clear hm c
    go_wp2_with fail
    rw [← VT.out]
    refine (spoilD W.heap.size a len cap zs _ _ (rvT zs len) D5.out.1 (by omega)).mono ?_
    rintro e w6 ⟨rfl, o6⟩
    go_wp2
    go_ret
    rw [V.out]
    exact ⟨rfl, D.out.2.1.trans ((D5.out.2.trans o6).below (Nat.le_refl _) D.out.2.2)⟩
  · have u : (m == 0) = false := by simpa using c
    have V : Hid (drawR zs len = v1 ++ ⟨v2.toArray⟩) := by show _ = _; unfold drawR; rw [hm, if_neg c, VT.out]
    clear hm c
    go_wp2
    go_ret
    rw [V.out]
    exact ⟨rfl, D.out.2.1.trans (D5.out.2.below (Nat.le_refl _) D.out.2.2)⟩
end Go.Proofs.YtpidfofjjdjkdabDoor.Draw
