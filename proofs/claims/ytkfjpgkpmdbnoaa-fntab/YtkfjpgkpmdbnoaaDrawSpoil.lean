/- A text that is spoiled: l1Spoil. -/
import Derived.Test.YtkfjpgkpmdbnoaaDrawText
import Derived.Test.YtkfjpgkpmdbnoaaDrawTurn
import Derived.Deep.RegionWith
set_option linter.unusedVariables false
namespace Go.Proofs.Ytkfjpgkpmdbnoaa.Draw
open Go Go.RowKit Own

/-- The place where a text is spoiled, how, and the states behind. -/
def spK (zs : List Int) (len : Nat) (t : ByteArray) (s : St) : Nat := (belowV zs len (t.size : Int) s).toNat
def spM (zs : List Int) (len : Nat) (t : ByteArray) (s : St) : Int := belowV zs len 4 (belowS len (t.size : Int) s)
def spS (len : Nat) (t : ByteArray) (s : St) : St := belowS len 4 (belowS len (t.size : Int) s)
/-- What l1Spoil makes. -/
def spoilV (zs : List Int) (len : Nat) (t : ByteArray) (s : St) : ByteArray :=
  if t.size = 0 then ⟨(textV zs len 3 s).toArray⟩
  else if spM zs len t s = 0 then t.extract 0 (spK zs len t s) ++ t.extract (spK zs len t s + 1) t.size
  else if spM zs len t s = 1 then t.extract 0 (spK zs len t s) ++ ⟨#[UInt8.ofNat (byteV zs len (spS len t s)).toNat]⟩ ++ t.extract (spK zs len t s) t.size
  else if spM zs len t s = 2 then t.extract 0 (spK zs len t s)
  else t.extract 0 (spK zs len t s) ++ ⟨#[UInt8.ofNat (IntKind.u8.wrap (bits .xor .i64 ((t.data.toList.getD (spK zs len t s) 0).toNat : Int) (1 + belowV zs len 255 (spS len t s)))).toNat]⟩ ++ t.extract (spK zs len t s + 1) t.size
theorem spoilV_size (zs : List Int) (len : Nat) (t : ByteArray) (s : St) : (spoilV zs len t s).size ≤ t.size + 4 := by
  unfold spoilV
  split
  · have := textV_len zs len 3 s (by omega)
    have e : (⟨(textV zs len 3 s).toArray⟩ : ByteArray).size = (textV zs len 3 s).length := by simp [ByteArray.size]
    rw [e]
    have e3 : (3 : Int).toNat = 3 := rfl
    omega
  · repeat' split
    all_goals simp only [ByteArray.size_append, ByteArray.size_extract]
    all_goals (try have e1 : ∀ b : UInt8, (⟨#[b]⟩ : ByteArray).size = 1 := fun _ => rfl)
    all_goals (try rw [e1])
    all_goals omega

set_option maxRecDepth 100000 in
set_option maxHeartbeats 3200000 in
theorem spoilD (p : Nat) (a : Option Addr) (len cap : Nat) (zs : List Int) (s : St) (W : World) (t : ByteArray) (h : Dr W p a len cap zs s) (ht : t.size ≤ 1000) :
    Calls Try.prog 50 #[.pointer (some ⟨p, 0, none⟩), .string t] W fun e w' => e = .returned (.string (spoilV zs len t s)) ∧ (∃ s', Dr w' p a len cap zs s') ∧ Only p W w' := by
  have hcv := conv_one (P := Try.prog) 22 9 5 Try.underlying22 Try.underlying5 Try.underlying9
  have H : Hid (Dr W p a len cap zs s) := h
  clear h
  by_cases h0 : t.size = 0
  · have V : Hid (spoilV zs len t s = ⟨(textV zs len 3 s).toArray⟩) := if_pos h0
    have u : ((t.size : Int) == 0) = true := by rw [h0]; rfl
    clear h0
    go_enter Try.func50, Try.ntmps50
    go_wp2_with fail
    refine (textD p a len cap zs s _ 3 H.out (by decide) (by decide)).mono ?_
    rintro e w1 ⟨rfl, d1, o1⟩
    go_wp2
    go_ret
    rw [V.out]
    exact ⟨rfl, ⟨_, d1⟩, o1⟩
  have u : ((t.size : Int) == 0) = false := by rw [beq_eq_false_iff_ne]; omega
  obtain ⟨x0, x1⟩ := belowV_bd zs len (t.size : Int) s (by omega)
  obtain ⟨k, hk⟩ : ∃ k : Nat, belowV zs len (t.size : Int) s = (k : Int) := ⟨_, (Int.toNat_of_nonneg x0).symm⟩
  have eK : spK zs len t s = k := by unfold spK; rw [hk]; rfl
  obtain ⟨m, hm⟩ : ∃ m, spM zs len t s = m := ⟨_, rfl⟩
  obtain ⟨m0, m1⟩ := belowV_bd zs len 4 (belowS len (t.size : Int) s) (by omega)
  have hm' : belowV zs len 4 (belowS len (t.size : Int) s) = m := hm
  rw [hm'] at m0 m1
  rw [hk] at x0 x1
  have hkt : k < t.size := by omega
  have ik : (k : Int) < (t.size : Int) := by omega
  have HK : Hid (belowV zs len (t.size : Int) s = (k : Int) ∧ belowV zs len 4 (belowS len (t.size : Int) s) = m) := ⟨hk, hm'⟩
  have hcase : m = 0 ∨ m = 1 ∨ m = 2 ∨ (¬ m = 0 ∧ ¬ m = 1 ∧ ¬ m = 2) := by omega
  rcases hcase with c | c | c | ⟨c0, c1, c2⟩
  · have V : Hid (spoilV zs len t s = t.extract 0 k ++ t.extract (k + 1) t.size) := by
      show _ = _; unfold spoilV; rw [if_neg h0, hm, if_pos c, eK]
    clear hk hm hm' eK h0
    subst c
    go_enter Try.func50, Try.ntmps50
    go_wp2_with fail
    refine (belowD p a len cap zs s _ (t.size : Int) H.out (by omega)).mono ?_
    rw [HK.out.1]
    rintro e w1 ⟨rfl, d1, o1⟩
    have D1 : Hid (Dr w1 p a len cap zs (belowS len (t.size : Int) s) ∧ Only p W w1) := ⟨d1, o1⟩
    clear d1 o1
    go_wp2_with fail
    refine (belowD p a len cap zs _ _ 4 D1.out.1 (by omega)).mono ?_
    rw [HK.out.2]
    rintro e w2 ⟨rfl, d2, o2⟩
    have D2 : Hid (Dr w2 p a len cap zs (belowS len 4 (belowS len (t.size : Int) s)) ∧ Only p W w2) := ⟨d2, D1.out.2.trans o2⟩
    clear d2 o2 D1
    go_wp2
    go_quiet (fail)
    go_wp2
    go_ret
    rw [V.out]
    exact ⟨rfl, ⟨_, D2.out.1.drewN _⟩, D2.out.2.drewN _⟩
  · have V : Hid (spoilV zs len t s = t.extract 0 k ++ ⟨#[UInt8.ofNat (byteV zs len (belowS len 4 (belowS len (t.size : Int) s))).toNat]⟩ ++ t.extract k t.size) := by
      show _ = _; unfold spoilV; rw [if_neg h0, hm, if_neg (by omega), if_pos c, eK]; rfl
    have bx := byteV_bd zs len (belowS len 4 (belowS len (t.size : Int) s))
    obtain ⟨x, hx⟩ : ∃ x, byteV zs len (belowS len 4 (belowS len (t.size : Int) s)) = x := ⟨_, rfl⟩
    have HX : Hid (byteV zs len (belowS len 4 (belowS len (t.size : Int) s)) = x) := hx
    rw [hx] at bx V
    have w8 : IntKind.u8.wrap x = x := by rw [IntKind.wrap_u8]; omega
    clear hk hm hm' eK h0 hx
    subst c
    go_enter Try.func50, Try.ntmps50
    go_wp2_with fail
    refine (belowD p a len cap zs s _ (t.size : Int) H.out (by omega)).mono ?_
    rw [HK.out.1]
    rintro e w1 ⟨rfl, d1, o1⟩
    have D1 : Hid (Dr w1 p a len cap zs (belowS len (t.size : Int) s) ∧ Only p W w1) := ⟨d1, o1⟩
    clear d1 o1
    go_wp2_with fail
    refine (belowD p a len cap zs _ _ 4 D1.out.1 (by omega)).mono ?_
    rw [HK.out.2]
    rintro e w2 ⟨rfl, d2, o2⟩
    have D2 : Hid (Dr w2 p a len cap zs (belowS len 4 (belowS len (t.size : Int) s)) ∧ Only p W w2) := ⟨d2, D1.out.2.trans o2⟩
    clear d2 o2 D1
    go_wp2_with fail
    go_region_with (go_at_call 67; refine (byteD p a len cap zs _ _ (D2.out.1.drewN 1)).mono ?_; rw [HX.out]; rintro e w3 ⟨rfl, d3, o3⟩)
    all_goals
      go_wp2
      go_ret
      rw [V.out]
      exact ⟨rfl, ⟨_, d3.alloc _⟩, ((D2.out.2.drewN 1).trans o3).alloc _⟩
  · have V : Hid (spoilV zs len t s = t.extract 0 k) := by
      show _ = _; unfold spoilV; rw [if_neg h0, hm, if_neg (by omega), if_neg (by omega), if_pos c, eK]
    clear hk hm hm' eK h0
    subst c
    go_enter Try.func50, Try.ntmps50
    go_wp2_with fail
    refine (belowD p a len cap zs s _ (t.size : Int) H.out (by omega)).mono ?_
    rw [HK.out.1]
    rintro e w1 ⟨rfl, d1, o1⟩
    have D1 : Hid (Dr w1 p a len cap zs (belowS len (t.size : Int) s) ∧ Only p W w1) := ⟨d1, o1⟩
    clear d1 o1
    go_wp2_with fail
    refine (belowD p a len cap zs _ _ 4 D1.out.1 (by omega)).mono ?_
    rw [HK.out.2]
    rintro e w2 ⟨rfl, d2, o2⟩
    have D2 : Hid ((∃ s', Dr w2 p a len cap zs s') ∧ Only p W w2) := ⟨⟨_, d2⟩, D1.out.2.trans o2⟩
    clear d2 o2 D1
    go_wp2
    go_ret
    rw [V.out]
    exact ⟨rfl, D2.out.1, D2.out.2⟩
  · have V : Hid (spoilV zs len t s = t.extract 0 k ++ ⟨#[UInt8.ofNat (IntKind.u8.wrap (bits .xor .i64 (t[k].toNat : Int) (1 + belowV zs len 255 (belowS len 4 (belowS len (t.size : Int) s))))).toNat]⟩ ++ t.extract (k + 1) t.size) := by
      show _ = _; unfold spoilV; rw [if_neg h0, hm, if_neg c0, if_neg c1, if_neg c2, eK, byte_at t k hkt]; rfl
    rw [V.out]
    exact spoil_turn p a len cap zs s W t k m H.out ht h0 hk hm' hkt m0 m1 c0 c1 c2
end Go.Proofs.Ytkfjpgkpmdbnoaa.Draw
