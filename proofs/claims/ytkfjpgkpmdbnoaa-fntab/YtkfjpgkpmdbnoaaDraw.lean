/- The cursor of the draws: its state, what a byte drawn from it is, and the walk of l1Byte. -/
import Derived.Test.YtkfjpgkpmdbnoaaRows
import Derived.WalkKit
import Derived.WalkSpells
import Derived.WalkLawsBesides
import Derived.Deep.QuietTactic
import Derived.BigQuiet
import Derived.WalkSmall
set_option linter.unusedVariables false
namespace Go.Proofs.Ytkfjpgkpmdbnoaa.Draw
open Go Go.RowKit

/-- The state of a cursor: how many bytes are taken, and the number that is mixed in. -/
structure St where
  i : Nat
  h : Int

/-- The cursor lies in block p and stands so. -/
structure CurAt (W : World) (p : Nat) (a : Option Addr) (len cap : Nat) (s : St) : Prop where
  b : W.cell? ⟨p, 0, none⟩ = some (.slice a len cap)
  i : W.cell? ⟨p, 1, none⟩ = some (.int .i64 (s.i : Int))
  h : W.cell? ⟨p, 2, none⟩ = some (.int .i64 s.h)
  f : ∀ o, W.frozen? ⟨p, o, none⟩ = false

/-- The bytes of the code lie below block p. -/
def CodeAt (W : World) (p : Nat) (a : Option Addr) (len : Nat) (zs : List Int) : Prop :=
  len ≤ 1048576 ∧ ∀ j, j < len → (0 ≤ zs.getD j 0 ∧ zs.getD j 0 ≤ 255) ∧ ∃ b off, a = some ⟨b, off, none⟩ ∧ b < p ∧ W.cell? ⟨b, off + j, none⟩ = some (.int .u8 (zs.getD j 0))

theorem CodeAt.lt {W : World} {p : Nat} {a : Option Addr} {len : Nat} {zs : List Int} (h : CodeAt W p a len zs) {q : Nat} (hq : p ≤ q) : CodeAt W q a len zs := by
  refine ⟨h.1, fun j hj => ?_⟩
  obtain ⟨h1, b, off, e, hp, hc⟩ := h.2 j hj
  exact ⟨h1, b, off, e, by omega, hc⟩
theorem CodeAt.below {W W' : World} {p : Nat} {a : Option Addr} {len : Nat} {zs : List Int} (h : CodeAt W p a len zs) (hb : Below p W W') : CodeAt W' p a len zs := by
  refine ⟨h.1, fun j hj => ?_⟩
  obtain ⟨h1, b, off, e, hp, hc⟩ := h.2 j hj
  exact ⟨h1, b, off, e, hp, by rw [hb.cell (p := ⟨b, off + j, none⟩) hp]; exact hc⟩

/-- The next number, what it gives, and its lowest byte. -/
def nextH (h : Int) : Int := wrap64 (wrap64 (h * 6364136223846793005) + 1442695040888963407)
def low (x : Int) : Int := bits .and .i64 x 255
def mixX (h : Int) : Int := low (bits .xor .i64 (h / 8589934592) (h / 35184372088832))
theorem low_bd (x : Int) : 0 ≤ low x ∧ low x ≤ 255 := by
  have h1 : (BitVec.ofInt 64 x &&& BitVec.ofInt 64 255).toNat ≤ 255 := by
    rw [BitVec.toNat_and]
    exact Nat.le_trans Nat.and_le_right (by decide)
  have e : low x = IntKind.i64.wrap ((BitVec.ofInt 64 x &&& BitVec.ofInt 64 255).toNat : Int) := rfl
  rw [e, IntKind.wrap_i64]
  omega
/-- A byte drawn: what it is, and how the cursor stands behind it. -/
def byteV (zs : List Int) (len : Nat) (s : St) : Int := if s.i < len then low (mixX (nextH s.h) + zs.getD s.i 0) else mixX (nextH s.h)
def byteS (len : Nat) (s : St) : St := if s.i < len then ⟨s.i + 1, nextH s.h⟩ else ⟨s.i, nextH s.h⟩
theorem byteV_bd (zs : List Int) (len : Nat) (s : St) : 0 ≤ byteV zs len s ∧ byteV zs len s ≤ 255 := by
  unfold byteV; split
  · exact low_bd _
  · exact low_bd _
theorem byteS_le (len : Nat) (s : St) (h : s.i ≤ len) : (byteS len s).i ≤ len := by
  unfold byteS; split
  · show s.i + 1 ≤ len; omega
  · exact h

theorem set_other (W : World) (p o o' : Nat) (v : Value) (h : o ≠ o') : (W.setCell ⟨p, o, none⟩ v).cell? ⟨p, o', none⟩ = W.cell? ⟨p, o', none⟩ := by
  apply World.cell?_setCell_other
  exact fun e => h (by injection e)
theorem set_same (W : World) (p o : Nat) (u v : Value) (h : W.cell? ⟨p, o, none⟩ = some u) : (W.setCell ⟨p, o, none⟩ v).cell? ⟨p, o, none⟩ = some v := by
  apply World.cell?_setCell_same
  exact h
theorem cur_h {W : World} {p : Nat} {a : Option Addr} {len cap i : Nat} {h h' : Int} (hc : CurAt W p a len cap ⟨i, h⟩) (n : Nat) : CurAt ((W.setCell ⟨p, 2, none⟩ (.int .i64 h')).drewN n) p a len cap ⟨i, h'⟩ := by
  obtain ⟨cb, ci, ch, cf⟩ := hc
  simp only at ci ch
  refine ⟨?_, ?_, ?_, fun o => ?_⟩
  · rw [World.cell?_drewN, set_other _ _ _ _ _ (by omega)]; exact cb
  · rw [World.cell?_drewN, set_other _ _ _ _ _ (by omega)]; exact ci
  · rw [World.cell?_drewN, set_same _ _ _ _ _ ch]
  · rw [World.frozen?_drewN, World.frozen?_setCell]; exact cf o
theorem cur_i {W : World} {p : Nat} {a : Option Addr} {len cap i i' : Nat} {h : Int} (hc : CurAt W p a len cap ⟨i, h⟩) : CurAt (W.setCell ⟨p, 1, none⟩ (.int .i64 (i' : Int))) p a len cap ⟨i', h⟩ := by
  obtain ⟨cb, ci, ch, cf⟩ := hc
  simp only at ci ch
  refine ⟨?_, ?_, ?_, fun o => ?_⟩
  · rw [set_other _ _ _ _ _ (by omega)]; exact cb
  · rw [set_same _ _ _ _ _ ci]
  · rw [set_other _ _ _ _ _ (by omega)]; exact ch
  · rw [World.frozen?_setCell]; exact cf o

/-- w' is W but for what block p holds, and for new blocks. -/
def Only (p : Nat) (W w' : World) : Prop := W.grownBy w' (some p)
theorem Only.refl (p : Nat) (W : World) : Only p W W := World.grownBy.refl W _
theorem Only.trans {p : Nat} {a b c : World} (h : Only p a b) (k : Only p b c) : Only p a c :=
  ⟨k.os.trans h.os, k.tape.trans h.tape, k.output.trans h.output, Nat.le_trans h.size k.size, fun j hj hn => (k.block j (Nat.lt_of_lt_of_le hj h.size) hn).trans (h.block j hj hn)⟩
theorem Only.setCell {p : Nat} {a w : World} (h : Only p a w) (o : Nat) (v : Value) : Only p a (w.setCell ⟨p, o, none⟩ v) :=
  ⟨h.os, h.tape, h.output, by have := h.size; simpa using this, fun j hj hn => (Below.heap_setCell w ⟨p, o, none⟩ v j (fun e => hn (by rw [e]))).trans (h.block j hj hn)⟩
theorem Only.drewN {p : Nat} {a w : World} (h : Only p a w) (n : Nat) : Only p a (w.drewN n) := ⟨h.os, h.tape, h.output, h.size, h.block⟩
theorem Only.alloc {p : Nat} {a w : World} (h : Only p a w) (o : Obj) : Only p a (w.alloc o) :=
  ⟨h.os, h.tape, h.output, by have := h.size; simp; omega, fun j hj hn => (Below.heap_alloc w o j (Nat.lt_of_lt_of_le hj h.size)).trans (h.block j hj hn)⟩
theorem Only.below {p B : Nat} {W w' : World} (h : Only p W w') (hB : B ≤ p) (hp : p < W.heap.size) : Below B W w' :=
  ⟨h.os, h.tape, h.output, h.size, fun j hj => h.block j (by omega) (by simp; omega)⟩
theorem Only.cell {p : Nat} {W w' : World} (h : Only p W w') {q : Addr} (hq : q.block < W.heap.size) (hn : q.block ≠ p) : w'.cell? q = W.cell? q :=
  World.cell?_of_block (h.block q.block hq (by simp; exact hn))
theorem Only.frozen {p : Nat} {W w' : World} (h : Only p W w') {q : Addr} (hq : q.block < W.heap.size) (hn : q.block ≠ p) : w'.frozen? q = W.frozen? q :=
  World.frozen?_of_block (h.block q.block hq (by simp; exact hn))
theorem CurAt.lt {W : World} {p : Nat} {a : Option Addr} {len cap : Nat} {s : St} (h : CurAt W p a len cap s) : p < W.heap.size := World.block_lt_of_cell? W _ h.b

set_option maxRecDepth 100000 in
set_option maxHeartbeats 1600000 in
theorem byte_go (p : Nat) (a : Option Addr) (len cap : Nat) (zs : List Int) (s : St) (W : World) (hc : CurAt W p a len cap s) (hz : CodeAt W p a len zs) (hi : s.i ≤ len) :
    Calls Try.prog 67 #[.pointer (some ⟨p, 0, none⟩)] W fun e w' => e = .returned (.int .i64 (byteV zs len s)) ∧ CurAt w' p a len cap (byteS len s) ∧ Only p W w' := by
  obtain ⟨i, h⟩ := s
  have HC : Hid (CurAt W p a len cap ⟨i, h⟩) := hc
  obtain ⟨cb, ci, ch, cf⟩ := hc
  simp only at ci ch hi
  obtain ⟨hlen, hz⟩ := hz
  obtain ⟨h', hh'⟩ : ∃ h', nextH h = h' := ⟨_, rfl⟩
  obtain ⟨x, hx⟩ : ∃ x, mixX h' = x := ⟨_, rfl⟩
  have hN : wrap64 (wrap64 (h * 6364136223846793005) + 1442695040888963407) = h' := hh'
  have hX : bits .and .i64 (bits .xor .i64 (h' / 8589934592) (h' / 35184372088832)) 255 = x := hx
  have bx : 0 ≤ x ∧ x ≤ 255 := by rw [← hx]; exact low_bd _
  by_cases hlt : i < len
  · obtain ⟨⟨z0, z1⟩, b, off, rfl, hbp, hcell⟩ := hz i hlt
    obtain ⟨z, hzz⟩ : ∃ z, zs.getD i 0 = z := ⟨_, rfl⟩
    obtain ⟨y, hy⟩ : ∃ y, low (x + z) = y := ⟨_, rfl⟩
    have hY : bits .and .i64 (x + z) 255 = y := hy
    rw [hzz] at z0 z1 hcell
    have V : Hid (byteV zs len ⟨i, h⟩ = y) := by show _ = _; unfold byteV; rw [if_pos hlt]; simp only; rw [hh', hx, hzz, hy]
    have S : Hid (byteS len ⟨i, h⟩ = ⟨i + 1, h'⟩) := by show _ = _; unfold byteS; rw [if_pos hlt]; simp only; rw [hh']
    have i1 : (0 : Int) ≤ (i : Int) := Int.natCast_nonneg _
    have i2 : (i : Int) < (len : Int) := by omega
    have ne : ¬ b = p := by omega
    clear hz hh' hx hy hzz
    go_enter Try.func67, Try.ntmps67
    go_wp2
    go_quiet (fail)
    go_wp2
    go_quiet (fail)
    go_wp2
    go_quiet (fail)
    go_wp2
    go_ret
    rw [V.out, S.out]
    refine ⟨rfl, cur_i (i' := i + 1) (cur_h HC.out _), ?_⟩
    exact (((Only.refl p W).setCell _ _).drewN _).setCell _ _
  · have V : Hid (byteV zs len ⟨i, h⟩ = x) := by show _ = _; unfold byteV; rw [if_neg hlt]; simp only; rw [hh', hx]
    have S : Hid (byteS len ⟨i, h⟩ = ⟨i, h'⟩) := by show _ = _; unfold byteS; rw [if_neg hlt]; simp only; rw [hh']
    have i2 : ¬ (i : Int) < (len : Int) := by omega
    clear hz hh' hx
    go_enter Try.func67, Try.ntmps67
    go_wp2
    go_quiet (fail)
    go_wp2
    go_quiet (fail)
    go_wp2
    go_ret
    rw [V.out, S.out, World.drewN_drewN]
    exact ⟨rfl, cur_h HC.out _, ((Only.refl p W).setCell _ _).drewN _⟩

/-- How a new cursor is mixed: the first four thousand bytes. -/
def mask (x : Int) : Int := bits .and .i64 x 1073741823
theorem mask_bd (x : Int) : 0 ≤ mask x ∧ mask x ≤ 1073741823 := by
  have h1 : (BitVec.ofInt 64 x &&& BitVec.ofInt 64 1073741823).toNat ≤ 1073741823 := by
    rw [BitVec.toNat_and]
    exact Nat.le_trans Nat.and_le_right (by decide)
  have e : mask x = IntKind.i64.wrap ((BitVec.ofInt 64 x &&& BitVec.ofInt 64 1073741823).toNat : Int) := rfl
  rw [e, IntKind.wrap_i64]
  omega
def hashF (zs : List Int) (len : Nat) : Nat → Int
  | 0 => 10101 + (len : Int)
  | k + 1 => mask (hashF zs len k * 131 + zs.getD k 0 + 7)
theorem hashF_bd (zs : List Int) (len : Nat) (h : len ≤ 1048576) : ∀ k, 0 ≤ hashF zs len k ∧ hashF zs len k ≤ 1073741823
  | 0 => by simp only [hashF]; omega
  | k + 1 => by simp only [hashF]; exact mask_bd _
def newS (zs : List Int) (len : Nat) : St := ⟨0, hashF zs len (min len 4000)⟩

set_option maxRecDepth 100000 in
set_option maxHeartbeats 1600000 in
theorem new_go (a : Option Addr) (len cap : Nat) (zs : List Int) (W : World) (hz : CodeAt W W.heap.size a len zs) :
    Calls Try.prog 36 #[.slice a len cap] W fun e w' => e = .returned (.pointer (some ⟨W.heap.size, 0, none⟩)) ∧ CurAt w' W.heap.size a len cap (newS zs len) ∧ Below W.heap.size W w' ∧ W.heap.size < w'.heap.size := by
  obtain ⟨hlen, hz⟩ := hz
  have HZ : Hid (∀ j, j < len → (0 ≤ zs.getD j 0 ∧ zs.getD j 0 ≤ 255) ∧ ∃ b off, a = some ⟨b, off, none⟩ ∧ b < W.heap.size ∧ W.cell? ⟨b, off + j, none⟩ = some (.int .u8 (zs.getD j 0))) := hz
  clear hz
  go_enter Try.func36, Try.ntmps36
  go_wp2
  go_loop [3, 4] (fun t i => ∃ k : Nat, k ≤ len ∧ k ≤ 4000 ∧ i = .int .i64 k ∧ t = .int .i64 (hashF zs len k)) (fun _ i => 4000 - (intOf i).toNat)
  case atStart => exact ⟨0, by omega, by omega, rfl, rfl⟩
  case round =>
    obtain ⟨k, hk, hk4, rfl, rfl⟩ := hrel
    have hb := hashF_bd zs len hlen k
    by_cases hlt : k < len ∧ k < 4000
    · obtain ⟨hlt, hlt4⟩ := hlt
      obtain ⟨⟨z0, z1⟩, b, off, rfl, hbp, hcell⟩ := HZ.out k hlt
      have E : Hid (hashF zs len (k + 1) = bits .and .i64 (hashF zs len k * 131 + zs.getD k 0 + 7) 1073741823) := rfl
      obtain ⟨z, hzz⟩ : ∃ z, zs.getD k 0 = z := ⟨_, rfl⟩
      rw [hzz] at z0 z1 hcell E
      obtain ⟨x, hx⟩ : ∃ x, hashF zs len k = x := ⟨_, rfl⟩
      rw [hx] at E hb ⊢
      clear hzz hx
      go_wp2
      go_round
      case rel => exact ⟨k + 1, by omega, by omega, by go_num, by rw [E.out]⟩
      case measure => simp [intOf]; omega
    · have e : k = min len 4000 := by omega
      have E : Hid (newS zs len = ⟨0, hashF zs len k⟩) := by show _ = _; rw [newS, e]
      clear e
      by_cases h1 : k < len
      all_goals
        go_wp2
        go_ret
        rw [E.out]
        refine ⟨rfl, ⟨?_, ?_, ?_, fun o => ?_⟩, (Below.refl _ _).alloc (Nat.le_refl _) _, by simp⟩
        · simp
        · simp
        · simp
        · simp
end Go.Proofs.Ytkfjpgkpmdbnoaa.Draw
