/- The last way of l1Spoil: one byte is turned. -/
import Derived.Test.YtkfjpgkpmdbnoaaDrawText
import Derived.Deep.RegionWith
set_option linter.unusedVariables false
namespace Go.Proofs.Ytkfjpgkpmdbnoaa.Draw
open Go Go.RowKit Own

theorem byte_at (t : ByteArray) (k : Nat) (h : k < t.size) : t.data.toList.getD k 0 = t[k] := by
  have hl : k < t.data.toList.length := h
  rw [List.getD_eq_getElem?_getD, List.getElem?_eq_getElem hl]
  rfl

set_option maxRecDepth 100000 in
set_option maxHeartbeats 6400000 in
/-- The last way: one byte is turned. -/
theorem spoil_turn (p : Nat) (a : Option Addr) (len cap : Nat) (zs : List Int) (s : St) (W : World) (t : ByteArray) (k : Nat) (m : Int) (h : Dr W p a len cap zs s) (ht : t.size ≤ 1000) (h0 : ¬ t.size = 0)
    (hk : belowV zs len (t.size : Int) s = (k : Int)) (hm : belowV zs len 4 (belowS len (t.size : Int) s) = m) (hkt : k < t.size) (m0 : 0 ≤ m) (m1 : m < 4) (c0 : ¬ m = 0) (c1 : ¬ m = 1) (c2 : ¬ m = 2) :
    Calls Try.prog 50 #[.pointer (some ⟨p, 0, none⟩), .string t] W fun e w' => e = .returned (.string (t.extract 0 k ++ ⟨#[UInt8.ofNat (IntKind.u8.wrap (bits .xor .i64 (t[k].toNat : Int) (1 + belowV zs len 255 (belowS len 4 (belowS len (t.size : Int) s))))).toNat]⟩ ++ t.extract (k + 1) t.size)) ∧ (∃ s', Dr w' p a len cap zs s') ∧ Only p W w' := by
  have hcv := conv_one (P := Try.prog) 22 9 5 Try.underlying22 Try.underlying5 Try.underlying9
  have H : Hid (Dr W p a len cap zs s) := h
  have u : ((t.size : Int) == 0) = false := by rw [beq_eq_false_iff_ne]; omega
  have ik : (k : Int) < (t.size : Int) := by omega
  have HK : Hid (belowV zs len (t.size : Int) s = (k : Int) ∧ belowV zs len 4 (belowS len (t.size : Int) s) = m) := ⟨hk, hm⟩
  have bx := belowV_bd zs len 255 (belowS len 4 (belowS len (t.size : Int) s)) (by omega)
  obtain ⟨r, hr⟩ : ∃ r, belowV zs len 255 (belowS len 4 (belowS len (t.size : Int) s)) = r := ⟨_, rfl⟩
  have HR : Hid (belowV zs len 255 (belowS len 4 (belowS len (t.size : Int) s)) = r) := hr
  rw [hr] at bx ⊢
  have hb8 := t[k].toNat_lt
  have y1 : IntKind.i64.wrap (t[k].toNat : Int) = t[k].toNat := by rw [IntKind.wrap_i64]; omega
  have y2 : IntKind.i64.wrap (1 + r) = 1 + r := by rw [IntKind.wrap_i64]; omega
  have y3 : IntKind.i64.wrap ((k : Int) + 1) = (k : Int) + 1 := by rw [IntKind.wrap_i64]; omega
  have y4 : (0 : Int) ≤ (k : Int) + 1 := by omega
  have y5 : (k : Int) + 1 ≤ (t.size : Int) := by omega
  obtain ⟨q, hq⟩ : ∃ q, IntKind.u8.wrap (bits .xor .i64 (t[k].toNat : Int) (1 + r)) = q := ⟨_, rfl⟩
  rw [hq]
  have t0 : (m == 0) = false := by simpa using c0
  have t1 : (m == 1) = false := by simpa using c1
  have t2 : (m == 2) = false := by simpa using c2
  clear h hk hm hr c0 c1 c2 h0
  go_enter Try.func50, Try.ntmps50
  go_wp2_with fail
  refine (belowD p a len cap zs s _ (t.size : Int) H.out (by omega)).mono ?_
  rw [HK.out.1]
  rintro e w1 ⟨rfl, d1, o1⟩
  have D1 : Hid (Dr w1 p a len cap zs (belowS len (t.size : Int) s) ∧ Only p W w1) := ⟨d1, o1⟩
  clear d1 o1
  go_wp2_with fail
  refine (belowD p a len cap zs _ _ 4 D1.out.1 (by omega)).mono ?_
  rw [HK.out.2]
  rintro e w2 ⟨rfl, d2, o2⟩
  have D2 : Hid (Dr w2 p a len cap zs (belowS len 4 (belowS len (t.size : Int) s)) ∧ Only p W w2) := ⟨d2, D1.out.2.trans o2⟩
  clear d2 o2 D1
  go_wp2_with fail
  go_region_with (go_at_call 58; refine (belowD p a len cap zs _ _ 255 (D2.out.1.drewN 1) (by omega)).mono ?_; rw [HR.out]; rintro e w3 ⟨rfl, d3, o3⟩)
  all_goals
    go_wp2
    go_ret
    exact ⟨rfl, ⟨_, d3.alloc _⟩, ((D2.out.2.drewN 1).trans o3).alloc _⟩
end Go.Proofs.Ytkfjpgkpmdbnoaa.Draw
