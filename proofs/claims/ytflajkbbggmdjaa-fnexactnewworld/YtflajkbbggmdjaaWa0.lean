/- Waits. -/
import Derived.Test.YtflajkbbggmdjaaRe0
set_option linter.unusedVariables false
set_option maxRecDepth 100000
namespace Go.Proofs.Ytflajkbbggmdjaa
open Go Go.RowKit Go.Joins Own Draw

abbrev TW := Bool × Int × Int × Int
abbrev cW (p : TW) : List Value := [.bool p.1, .int .i64 p.2.1, .int .i64 p.2.2.1, .int .i64 p.2.2.2]
abbrev vW (p : TW) : Value := .agg #[.bool p.1, .int .i64 p.2.1, .int .i64 p.2.2.1, .int .i64 p.2.2.2]
theorem lW (p : TW) : (cW p).length = 4 := rfl
def gW (k0 i : Nat) : Value := if i % 4 = 0 then .bool (((k0 + i : Nat) : Int) % 3 == 0) else .int .i64 ((k0 + i : Nat) : Int)
theorem gW_0 (k0 k m : Nat) (hm : m = k0 + k * 4) : gW k0 (k * 4) = .bool (((m : Int)) % 3 == 0) := by
  subst hm
  unfold gW
  rw [if_pos (by omega)]
theorem gW_1 (k0 k m : Nat) (hm : m = k0 + k * 4) : gW k0 (k * 4 + 1) = .int .i64 ((m : Int) + 1) := by
  subst hm
  unfold gW
  rw [if_neg (by omega)]
  congr 1
theorem gW_2 (k0 k m : Nat) (hm : m = k0 + k * 4) : gW k0 (k * 4 + 2) = .int .i64 ((m : Int) + 1 + 1) := by
  subst hm
  unfold gW
  rw [if_neg (by omega)]
  congr 1
theorem gW_3 (k0 k m : Nat) (hm : m = k0 + k * 4) : gW k0 (k * 4 + 3) = .int .i64 ((m : Int) + 1 + 1 + 1) := by
  subst hm
  unfold gW
  rw [if_neg (by omega)]
  congr 1
end Go.Proofs.Ytflajkbbggmdjaa

set_option linter.unusedVariables false
set_option maxRecDepth 100000
namespace Go.Proofs.Ytflajkbbggmdjaa
open Go Go.RowKit Go.Joins Own Draw

set_option maxRecDepth 100000 in
theorem eq0_52 (a b : Option Addr) (ca cb : Nat) (w : World) : Calls Try.prog 52 #[.slice a 0 ca, .slice b 0 cb] w fun en w' => en = .returned (.bool true) ∧ Below w.heap.size w w' := by
  go_enter Try.func52, Try.ntmps52
  go_wp2
  go_loopw [5] (fun i wr => i = .int .i64 0 ∧ w = wr) (fun _ _ => 0)
  case atStart => exact ⟨rfl, rfl⟩
  case round =>
    obtain ⟨rfl, rfl⟩ := hrel
    go_wp2
    go_ret
    exact ⟨rfl, Below.refl _ _⟩
set_option maxRecDepth 100000 in
theorem eq0_55 (a b : Option Addr) (ca cb : Nat) (w : World) : Calls Try.prog 55 #[.slice a 0 ca, .slice b 0 cb] w fun en w' => en = .returned (.bool true) ∧ Below w.heap.size w w' := by
  go_enter Try.func55, Try.ntmps55
  go_wp2
  go_loopw [5] (fun i wr => i = .int .i64 0 ∧ w = wr) (fun _ _ => 0)
  case atStart => exact ⟨rfl, rfl⟩
  case round =>
    obtain ⟨rfl, rfl⟩ := hrel
    go_wp2
    go_ret
    exact ⟨rfl, Below.refl _ _⟩
set_option maxRecDepth 100000 in
theorem eq0_57 (a b : Option Addr) (ca cb : Nat) (w : World) : Calls Try.prog 57 #[.slice a 0 ca, .slice b 0 cb] w fun en w' => en = .returned (.bool true) ∧ Below w.heap.size w w' := by
  go_enter Try.func57, Try.ntmps57
  go_wp2
  go_loopw [5] (fun i wr => i = .int .i64 0 ∧ w = wr) (fun _ _ => 0)
  case atStart => exact ⟨rfl, rfl⟩
  case round =>
    obtain ⟨rfl, rfl⟩ := hrel
    go_wp2
    go_ret
    exact ⟨rfl, Below.refl _ _⟩
set_option maxRecDepth 100000 in
theorem eq0_58 (a b : Option Addr) (ca cb : Nat) (w : World) : Calls Try.prog 58 #[.slice a 0 ca, .slice b 0 cb] w fun en w' => en = .returned (.bool true) ∧ Below w.heap.size w w' := by
  go_enter Try.func58, Try.ntmps58
  go_wp2
  go_loopw [5] (fun i wr => i = .int .i64 0 ∧ w = wr) (fun _ _ => 0)
  case atStart => exact ⟨rfl, rfl⟩
  case round =>
    obtain ⟨rfl, rfl⟩ := hrel
    go_wp2
    go_ret
    exact ⟨rfl, Below.refl _ _⟩
set_option maxRecDepth 100000 in
theorem eq0_31 (a b : Option Addr) (ca cb : Nat) (w : World) : Calls Try.prog 31 #[.slice a 0 ca, .slice b 0 cb] w fun en w' => en = .returned (.bool true) ∧ Below w.heap.size w w' := by
  go_enter Try.func31, Try.ntmps31
  go_wp2
  go_loopw [5] (fun i wr => i = .int .i64 0 ∧ w = wr) (fun _ _ => 0)
  case atStart => exact ⟨rfl, rfl⟩
  case round =>
    obtain ⟨rfl, rfl⟩ := hrel
    go_wp2
    go_ret
    exact ⟨rfl, Below.refl _ _⟩
set_option maxRecDepth 100000 in
theorem eq0_102 (a b : Option Addr) (ca cb : Nat) (w : World) : Calls Try.prog 102 #[.slice a 0 ca, .slice b 0 cb] w fun en w' => en = .returned (.bool true) ∧ Below w.heap.size w w' := by
  go_enter Try.func102, Try.ntmps102
  go_wp2
  go_loopw [5] (fun i wr => i = .int .i64 0 ∧ w = wr) (fun _ _ => 0)
  case atStart => exact ⟨rfl, rfl⟩
  case round =>
    obtain ⟨rfl, rfl⟩ := hrel
    go_wp2
    go_ret
    exact ⟨rfl, Below.refl _ _⟩
set_option maxRecDepth 100000 in
theorem mk0_59 (a : Option Addr) (ca : Nat) (k : Int) (w : World) : Calls Try.prog 59 #[.slice a 0 ca, .int .i64 k] w fun en w' => en = .returned (.int .i64 k) ∧ Below w.heap.size w w' := by
  go_enter Try.func59, Try.ntmps59
  go_wp2
  go_loopw [1, 5] (fun kv i wr => i = .int .i64 0 ∧ kv = .int .i64 k ∧ w = wr) (fun _ _ _ => 0)
  case atStart => exact ⟨rfl, rfl, rfl⟩
  case round =>
    obtain ⟨rfl, rfl, rfl⟩ := hrel
    go_wp2
    go_ret
    exact ⟨rfl, Below.refl _ _⟩
set_option maxRecDepth 100000 in
theorem mk0_62 (a : Option Addr) (ca : Nat) (k : Int) (w : World) : Calls Try.prog 62 #[.slice a 0 ca, .int .i64 k] w fun en w' => en = .returned (.int .i64 k) ∧ Below w.heap.size w w' := by
  go_enter Try.func62, Try.ntmps62
  go_wp2
  go_loopw [1, 5] (fun kv i wr => i = .int .i64 0 ∧ kv = .int .i64 k ∧ w = wr) (fun _ _ _ => 0)
  case atStart => exact ⟨rfl, rfl, rfl⟩
  case round =>
    obtain ⟨rfl, rfl, rfl⟩ := hrel
    go_wp2
    go_ret
    exact ⟨rfl, Below.refl _ _⟩
set_option maxRecDepth 100000 in
theorem mk0_64 (a : Option Addr) (ca : Nat) (k : Int) (w : World) : Calls Try.prog 64 #[.slice a 0 ca, .int .i64 k] w fun en w' => en = .returned (.int .i64 k) ∧ Below w.heap.size w w' := by
  go_enter Try.func64, Try.ntmps64
  go_wp2
  go_loopw [1, 5] (fun kv i wr => i = .int .i64 0 ∧ kv = .int .i64 k ∧ w = wr) (fun _ _ _ => 0)
  case atStart => exact ⟨rfl, rfl, rfl⟩
  case round =>
    obtain ⟨rfl, rfl, rfl⟩ := hrel
    go_wp2
    go_ret
    exact ⟨rfl, Below.refl _ _⟩
set_option maxRecDepth 100000 in
theorem mk0_65 (a : Option Addr) (ca : Nat) (k : Int) (w : World) : Calls Try.prog 65 #[.slice a 0 ca, .int .i64 k] w fun en w' => en = .returned (.int .i64 k) ∧ Below w.heap.size w w' := by
  go_enter Try.func65, Try.ntmps65
  go_wp2
  go_loopw [1, 5] (fun kv i wr => i = .int .i64 0 ∧ kv = .int .i64 k ∧ w = wr) (fun _ _ _ => 0)
  case atStart => exact ⟨rfl, rfl, rfl⟩
  case round =>
    obtain ⟨rfl, rfl, rfl⟩ := hrel
    go_wp2
    go_ret
    exact ⟨rfl, Below.refl _ _⟩
set_option maxRecDepth 100000 in
theorem mk0_45 (a : Option Addr) (ca : Nat) (k : Int) (w : World) : Calls Try.prog 45 #[.slice a 0 ca, .int .i64 k] w fun en w' => en = .returned (.int .i64 k) ∧ Below w.heap.size w w' := by
  go_enter Try.func45, Try.ntmps45
  go_wp2
  go_loopw [1, 5] (fun kv i wr => i = .int .i64 0 ∧ kv = .int .i64 k ∧ w = wr) (fun _ _ _ => 0)
  case atStart => exact ⟨rfl, rfl, rfl⟩
  case round =>
    obtain ⟨rfl, rfl, rfl⟩ := hrel
    go_wp2
    go_ret
    exact ⟨rfl, Below.refl _ _⟩
set_option maxRecDepth 100000 in
theorem mk0_94 (a : Option Addr) (ca : Nat) (k : Int) (w : World) : Calls Try.prog 94 #[.slice a 0 ca, .int .i64 k] w fun en w' => en = .returned (.int .i64 k) ∧ Below w.heap.size w w' := by
  go_enter Try.func94, Try.ntmps94
  go_wp2
  go_loopw [1, 5] (fun kv i wr => i = .int .i64 0 ∧ kv = .int .i64 k ∧ w = wr) (fun _ _ _ => 0)
  case atStart => exact ⟨rfl, rfl, rfl⟩
  case round =>
    obtain ⟨rfl, rfl, rfl⟩ := hrel
    go_wp2
    go_ret
    exact ⟨rfl, Below.refl _ _⟩
set_option maxRecDepth 100000 in
theorem mk0_67 (a : Option Addr) (ca : Nat) (k : Int) (w : World) : Calls Try.prog 67 #[.slice a 0 ca, .int .i64 k] w fun en w' => en = .returned (.int .i64 k) ∧ Below w.heap.size w w' := by
  go_enter Try.func67, Try.ntmps67
  go_wp2
  go_loopw [1, 5] (fun kv i wr => i = .int .i64 0 ∧ kv = .int .i64 k ∧ w = wr) (fun _ _ _ => 0)
  case atStart => exact ⟨rfl, rfl, rfl⟩
  case round =>
    obtain ⟨rfl, rfl, rfl⟩ := hrel
    go_wp2
    go_ret
    exact ⟨rfl, Below.refl _ _⟩
set_option maxRecDepth 100000 in
theorem mk0_70 (a : Option Addr) (ca : Nat) (k : Int) (w : World) : Calls Try.prog 70 #[.slice a 0 ca, .int .i64 k] w fun en w' => en = .returned (.int .i64 k) ∧ Below w.heap.size w w' := by
  go_enter Try.func70, Try.ntmps70
  go_wp2
  go_loopw [1, 5] (fun kv i wr => i = .int .i64 0 ∧ kv = .int .i64 k ∧ w = wr) (fun _ _ _ => 0)
  case atStart => exact ⟨rfl, rfl, rfl⟩
  case round =>
    obtain ⟨rfl, rfl, rfl⟩ := hrel
    go_wp2
    go_ret
    exact ⟨rfl, Below.refl _ _⟩
set_option maxRecDepth 100000 in
theorem mk0_72 (a : Option Addr) (ca : Nat) (k : Int) (w : World) : Calls Try.prog 72 #[.slice a 0 ca, .int .i64 k] w fun en w' => en = .returned (.int .i64 k) ∧ Below w.heap.size w w' := by
  go_enter Try.func72, Try.ntmps72
  go_wp2
  go_loopw [1, 5] (fun kv i wr => i = .int .i64 0 ∧ kv = .int .i64 k ∧ w = wr) (fun _ _ _ => 0)
  case atStart => exact ⟨rfl, rfl, rfl⟩
  case round =>
    obtain ⟨rfl, rfl, rfl⟩ := hrel
    go_wp2
    go_ret
    exact ⟨rfl, Below.refl _ _⟩
set_option maxRecDepth 100000 in
theorem mk0_73 (a : Option Addr) (ca : Nat) (k : Int) (w : World) : Calls Try.prog 73 #[.slice a 0 ca, .int .i64 k] w fun en w' => en = .returned (.int .i64 k) ∧ Below w.heap.size w w' := by
  go_enter Try.func73, Try.ntmps73
  go_wp2
  go_loopw [1, 5] (fun kv i wr => i = .int .i64 0 ∧ kv = .int .i64 k ∧ w = wr) (fun _ _ _ => 0)
  case atStart => exact ⟨rfl, rfl, rfl⟩
  case round =>
    obtain ⟨rfl, rfl, rfl⟩ := hrel
    go_wp2
    go_ret
    exact ⟨rfl, Below.refl _ _⟩
set_option maxRecDepth 100000 in
theorem mk0_74 (a : Option Addr) (ca : Nat) (k : Int) (w : World) : Calls Try.prog 74 #[.slice a 0 ca, .int .i64 k] w fun en w' => en = .returned (.int .i64 k) ∧ Below w.heap.size w w' := by
  go_enter Try.func74, Try.ntmps74
  go_wp2
  go_loopw [1, 5] (fun kv i wr => i = .int .i64 0 ∧ kv = .int .i64 k ∧ w = wr) (fun _ _ _ => 0)
  case atStart => exact ⟨rfl, rfl, rfl⟩
  case round =>
    obtain ⟨rfl, rfl, rfl⟩ := hrel
    go_wp2
    go_ret
    exact ⟨rfl, Below.refl _ _⟩
set_option maxRecDepth 100000 in
theorem mk0_96 (a : Option Addr) (ca : Nat) (k : Int) (w : World) : Calls Try.prog 96 #[.slice a 0 ca, .int .i64 k] w fun en w' => en = .returned (.int .i64 k) ∧ Below w.heap.size w w' := by
  go_enter Try.func96, Try.ntmps96
  go_wp2
  go_loopw [1, 5] (fun kv i wr => i = .int .i64 0 ∧ kv = .int .i64 k ∧ w = wr) (fun _ _ _ => 0)
  case atStart => exact ⟨rfl, rfl, rfl⟩
  case round =>
    obtain ⟨rfl, rfl, rfl⟩ := hrel
    go_wp2
    go_ret
    exact ⟨rfl, Below.refl _ _⟩
end Go.Proofs.Ytflajkbbggmdjaa

set_option linter.unusedVariables false
set_option maxRecDepth 100000
namespace Go.Proofs.Ytflajkbbggmdjaa
open Go Go.RowKit Go.Joins Own Draw

abbrev TC := Int × Int
abbrev cC (p : TC) : List Value := [.int .i64 p.1, .slice none 0 0]
abbrev vC (p : TC) : Value := .agg #[.int .i64 p.1, .slice none 0 0]
theorem lC (p : TC) : (cC p).length = 2 := rfl
def gC (k0 i : Nat) : Value := if i % 2 = 0 then .int .i64 ((k0 + i / 2 : Nat) : Int) else .slice none 0 0
theorem gC_0 (k0 k m : Nat) (hm : m = k0 + k) : gC k0 (k * 2) = .int .i64 (m : Int) := by
  subst hm
  unfold gC
  rw [if_pos (by omega), show k * 2 / 2 = k by omega]
theorem gC_1 (k0 k : Nat) : gC k0 (k * 2 + 1) = .slice none 0 0 := by
  unfold gC
  rw [if_neg (by omega)]
end Go.Proofs.Ytflajkbbggmdjaa
