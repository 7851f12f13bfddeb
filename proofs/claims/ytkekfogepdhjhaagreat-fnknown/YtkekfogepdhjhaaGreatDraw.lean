/- The cursor of the draws: its state, what a byte drawn from it is, and the walk of l1Byte. -/
import Derived.Test.YtkekfogepdhjhaaGreatRows
import Derived.WalkKit
import Derived.WalkSpells
import Derived.WalkLawsBesides
import Derived.Deep.QuietTactic
import Derived.BigQuiet
import Derived.WalkSmall
import Derived.Laws.IdiomStrings
set_option linter.unusedVariables false
namespace Go.Proofs.YtkekfogepdhjhaaGreat.Draw
open Go Go.RowKit

/-- The state of a cursor: how many bytes are taken, and the number that is mixed in. -/
structure St where
  i : Nat
  h : Int

/-- The cursor lies in block p and stands so. -/
structure CurAt (W : World) (p : Nat) (a : Option Addr) (len cap : Nat) (s : St) : Prop where
  b : W.cell? ⟨p, 0, none⟩ = some (.slice a len cap)
  i : W.cell? ⟨p, 1, none⟩ = some (.int .i64 (s.i : Int))
  h : W.cell? ⟨p, 2, none⟩ = some (.int .i64 s.h)
  f : ∀ o, W.frozen? ⟨p, o, none⟩ = false

/-- The bytes of the code lie below block p. -/
def CodeAt (W : World) (p : Nat) (a : Option Addr) (len : Nat) (zs : List Int) : Prop :=
  len ≤ 1048576 ∧ ∀ j, j < len → (0 ≤ zs.getD j 0 ∧ zs.getD j 0 ≤ 255) ∧ ∃ b off, a = some ⟨b, off, none⟩ ∧ b < p ∧ W.cell? ⟨b, off + j, none⟩ = some (.int .u8 (zs.getD j 0))

theorem CodeAt.lt {W : World} {p : Nat} {a : Option Addr} {len : Nat} {zs : List Int} (h : CodeAt W p a len zs) {q : Nat} (hq : p ≤ q) : CodeAt W q a len zs := by
  refine ⟨h.1, fun j hj => ?_⟩
  obtain ⟨h1, b, off, e, hp, hc⟩ := h.2 j hj
  exact ⟨h1, b, off, e, by omega, hc⟩
theorem CodeAt.below {W W' : World} {p : Nat} {a : Option Addr} {len : Nat} {zs : List Int} (h : CodeAt W p a len zs) (hb : Below p W W') : CodeAt W' p a len zs := by
  refine ⟨h.1, fun j hj => ?_⟩
  obtain ⟨h1, b, off, e, hp, hc⟩ := h.2 j hj
  exact ⟨h1, b, off, e, hp, by rw [hb.cell (p := ⟨b, off + j, none⟩) hp]; exact hc⟩

/-- The next number, what it gives, and its lowest byte. -/
def nextH (h : Int) : Int := wrap64 (wrap64 (h * 6364136223846793005) + 1442695040888963407)
def low (x : Int) : Int := bits .and .i64 x 255
def mixX (h : Int) : Int := low (bits .xor .i64 (h / 8589934592) (h / 35184372088832))
theorem low_bd (x : Int) : 0 ≤ low x ∧ low x ≤ 255 := by
  have h1 : (BitVec.ofInt 64 x &&& BitVec.ofInt 64 255).toNat ≤ 255 := by
    rw [BitVec.toNat_and]
    exact Nat.le_trans Nat.and_le_right (by decide)
  have e : low x = IntKind.i64.wrap ((BitVec.ofInt 64 x &&& BitVec.ofInt 64 255).toNat : Int) := rfl
  rw [e, IntKind.wrap_i64]
  omega
/-- A byte drawn: what it is, and how the cursor stands behind it. -/
def byteV (zs : List Int) (len : Nat) (s : St) : Int := if s.i < len then low (mixX (nextH s.h) + zs.getD s.i 0) else mixX (nextH s.h)
def byteS (len : Nat) (s : St) : St := if s.i < len then ⟨s.i + 1, nextH s.h⟩ else ⟨s.i, nextH s.h⟩
theorem byteV_bd (zs : List Int) (len : Nat) (s : St) : 0 ≤ byteV zs len s ∧ byteV zs len s ≤ 255 := by
  unfold byteV; split
  · exact low_bd _
  · exact low_bd _
theorem byteS_le (len : Nat) (s : St) (h : s.i ≤ len) : (byteS len s).i ≤ len := by
  unfold byteS; split
  · show s.i + 1 ≤ len; omega
  · exact h

theorem set_other (W : World) (p o o' : Nat) (v : Value) (h : o ≠ o') : (W.setCell ⟨p, o, none⟩ v).cell? ⟨p, o', none⟩ = W.cell? ⟨p, o', none⟩ := by
  apply World.cell?_setCell_other
  exact fun e => h (by injection e)
theorem set_same (W : World) (p o : Nat) (u v : Value) (h : W.cell? ⟨p, o, none⟩ = some u) : (W.setCell ⟨p, o, none⟩ v).cell? ⟨p, o, none⟩ = some v := by
  apply World.cell?_setCell_same
  exact h
theorem cur_h {W : World} {p : Nat} {a : Option Addr} {len cap i : Nat} {h h' : Int} (hc : CurAt W p a len cap ⟨i, h⟩) (n : Nat) : CurAt ((W.setCell ⟨p, 2, none⟩ (.int .i64 h')).drewN n) p a len cap ⟨i, h'⟩ := by
  obtain ⟨cb, ci, ch, cf⟩ := hc
  simp only at ci ch
  refine ⟨?_, ?_, ?_, fun o => ?_⟩
  · rw [World.cell?_drewN, set_other _ _ _ _ _ (by omega)]; exact cb
  · rw [World.cell?_drewN, set_other _ _ _ _ _ (by omega)]; exact ci
  · rw [World.cell?_drewN, set_same _ _ _ _ _ ch]
  · rw [World.frozen?_drewN, World.frozen?_setCell]; exact cf o
theorem cur_i {W : World} {p : Nat} {a : Option Addr} {len cap i i' : Nat} {h : Int} (hc : CurAt W p a len cap ⟨i, h⟩) : CurAt (W.setCell ⟨p, 1, none⟩ (.int .i64 (i' : Int))) p a len cap ⟨i', h⟩ := by
  obtain ⟨cb, ci, ch, cf⟩ := hc
  simp only at ci ch
  refine ⟨?_, ?_, ?_, fun o => ?_⟩
  · rw [set_other _ _ _ _ _ (by omega)]; exact cb
  · rw [set_same _ _ _ _ _ ci]
  · rw [set_other _ _ _ _ _ (by omega)]; exact ch
  · rw [World.frozen?_setCell]; exact cf o

/-- w' is W but for what block p holds, and for new blocks. -/
def Only (p : Nat) (W w' : World) : Prop := W.grownBy w' (some p)
theorem Only.refl (p : Nat) (W : World) : Only p W W := World.grownBy.refl W _
theorem Only.trans {p : Nat} {a b c : World} (h : Only p a b) (k : Only p b c) : Only p a c :=
  ⟨k.os.trans h.os, k.tape.trans h.tape, k.output.trans h.output, Nat.le_trans h.size k.size, fun j hj hn => (k.block j (Nat.lt_of_lt_of_le hj h.size) hn).trans (h.block j hj hn)⟩
theorem Only.setCell {p : Nat} {a w : World} (h : Only p a w) (o : Nat) (v : Value) : Only p a (w.setCell ⟨p, o, none⟩ v) :=
  ⟨h.os, h.tape, h.output, by have := h.size; simpa using this, fun j hj hn => (Below.heap_setCell w ⟨p, o, none⟩ v j (fun e => hn (by rw [e]))).trans (h.block j hj hn)⟩
theorem Only.drewN {p : Nat} {a w : World} (h : Only p a w) (n : Nat) : Only p a (w.drewN n) := ⟨h.os, h.tape, h.output, h.size, h.block⟩
theorem Only.alloc {p : Nat} {a w : World} (h : Only p a w) (o : Obj) : Only p a (w.alloc o) :=
  ⟨h.os, h.tape, h.output, by have := h.size; simp; omega, fun j hj hn => (Below.heap_alloc w o j (Nat.lt_of_lt_of_le hj h.size)).trans (h.block j hj hn)⟩
theorem Only.below {p B : Nat} {W w' : World} (h : Only p W w') (hB : B ≤ p) (hp : p < W.heap.size) : Below B W w' :=
  ⟨h.os, h.tape, h.output, h.size, fun j hj => h.block j (by omega) (by simp; omega)⟩
theorem Only.cell {p : Nat} {W w' : World} (h : Only p W w') {q : Addr} (hq : q.block < W.heap.size) (hn : q.block ≠ p) : w'.cell? q = W.cell? q :=
  World.cell?_of_block (h.block q.block hq (by simp; exact hn))
theorem Only.frozen {p : Nat} {W w' : World} (h : Only p W w') {q : Addr} (hq : q.block < W.heap.size) (hn : q.block ≠ p) : w'.frozen? q = W.frozen? q :=
  World.frozen?_of_block (h.block q.block hq (by simp; exact hn))
theorem CurAt.lt {W : World} {p : Nat} {a : Option Addr} {len cap : Nat} {s : St} (h : CurAt W p a len cap s) : p < W.heap.size := World.block_lt_of_cell? W _ h.b

set_option maxRecDepth 100000 in
set_option maxHeartbeats 1600000 in
theorem byte_go (p : Nat) (a : Option Addr) (len cap : Nat) (zs : List Int) (s : St) (W : World) (hc : CurAt W p a len cap s) (hz : CodeAt W p a len zs) (hi : s.i ≤ len) :
    Calls Tryz.prog 52 #[.pointer (some ⟨p, 0, none⟩)] W fun e w' => e = .returned (.int .i64 (byteV zs len s)) ∧ CurAt w' p a len cap (byteS len s) ∧ Only p W w' := by
  obtain ⟨i, h⟩ := s
  have HC : Hid (CurAt W p a len cap ⟨i, h⟩) := hc
  obtain ⟨cb, ci, ch, cf⟩ := hc
  simp only at ci ch hi
  obtain ⟨hlen, hz⟩ := hz
  obtain ⟨h', hh'⟩ : ∃ h', nextH h = h' := ⟨_, rfl⟩
  obtain ⟨x, hx⟩ : ∃ x, mixX h' = x := ⟨_, rfl⟩
  have hN : wrap64 (wrap64 (h * 6364136223846793005) + 1442695040888963407) = h' := hh'
  have hX : bits .and .i64 (bits .xor .i64 (h' / 8589934592) (h' / 35184372088832)) 255 = x := hx
  have bx : 0 ≤ x ∧ x ≤ 255 := by rw [← hx]; exact low_bd _
  by_cases hlt : i < len
  · obtain ⟨⟨z0, z1⟩, b, off, rfl, hbp, hcell⟩ := hz i hlt
    obtain ⟨z, hzz⟩ : ∃ z, zs.getD i 0 = z := ⟨_, rfl⟩
    obtain ⟨y, hy⟩ : ∃ y, low (x + z) = y := ⟨_, rfl⟩
    have hY : bits .and .i64 (x + z) 255 = y := hy
    rw [hzz] at z0 z1 hcell
    have V : Hid (byteV zs len ⟨i, h⟩ = y) := by show _ = _; unfold byteV; rw [if_pos hlt]; simp only; rw [hh', hx, hzz, hy]
    have S : Hid (byteS len ⟨i, h⟩ = ⟨i + 1, h'⟩) := by show _ = _; unfold byteS; rw [if_pos hlt]; simp only; rw [hh']
    have i1 : (0 : Int) ≤ (i : Int) := Int.natCast_nonneg _
    have i2 : (i : Int) < (len : Int) := by omega
    have ne : ¬ b = p := by omega
    clear hz hh' hx hy hzz
    go_enter Tryz.func52, Tryz.ntmps52
    go_wp2
    go_quiet (fail)
    go_wp2
    go_quiet (fail)
    go_wp2
    go_quiet (fail)
    go_wp2
    go_ret
    rw [V.out, S.out]
    refine ⟨rfl, cur_i (i' := i + 1) (cur_h HC.out _), ?_⟩
    exact (((Only.refl p W).setCell _ _).drewN _).setCell _ _
  · have V : Hid (byteV zs len ⟨i, h⟩ = x) := by show _ = _; unfold byteV; rw [if_neg hlt]; simp only; rw [hh', hx]
    have S : Hid (byteS len ⟨i, h⟩ = ⟨i, h'⟩) := by show _ = _; unfold byteS; rw [if_neg hlt]; simp only; rw [hh']
    have i2 : ¬ (i : Int) < (len : Int) := by omega
    clear hz hh' hx
    go_enter Tryz.func52, Tryz.ntmps52
    go_wp2
    go_quiet (fail)
    go_wp2
    go_quiet (fail)
    go_wp2
    go_ret
    rw [V.out, S.out, World.drewN_drewN]
    exact ⟨rfl, cur_h HC.out _, ((Only.refl p W).setCell _ _).drewN _⟩

/-- How a new cursor is mixed: the first four thousand bytes. -/
def mask (x : Int) : Int := bits .and .i64 x 1073741823
theorem mask_bd (x : Int) : 0 ≤ mask x ∧ mask x ≤ 1073741823 := by
  have h1 : (BitVec.ofInt 64 x &&& BitVec.ofInt 64 1073741823).toNat ≤ 1073741823 := by
    rw [BitVec.toNat_and]
    exact Nat.le_trans Nat.and_le_right (by decide)
  have e : mask x = IntKind.i64.wrap ((BitVec.ofInt 64 x &&& BitVec.ofInt 64 1073741823).toNat : Int) := rfl
  rw [e, IntKind.wrap_i64]
  omega
def hashF (zs : List Int) (len : Nat) : Nat → Int
  | 0 => 10101 + (len : Int)
  | k + 1 => mask (hashF zs len k * 131 + zs.getD k 0 + 7)
theorem hashF_bd (zs : List Int) (len : Nat) (h : len ≤ 1048576) : ∀ k, 0 ≤ hashF zs len k ∧ hashF zs len k ≤ 1073741823
  | 0 => by simp only [hashF]; omega
  | k + 1 => by simp only [hashF]; exact mask_bd _
def newS (zs : List Int) (len : Nat) : St := ⟨0, hashF zs len (min len 4000)⟩

set_option maxRecDepth 100000 in
set_option maxHeartbeats 1600000 in
theorem new_go (a : Option Addr) (len cap : Nat) (zs : List Int) (W : World) (hz : CodeAt W W.heap.size a len zs) :
    Calls Tryz.prog 16 #[.slice a len cap] W fun e w' => e = .returned (.pointer (some ⟨W.heap.size, 0, none⟩)) ∧ CurAt w' W.heap.size a len cap (newS zs len) ∧ Below W.heap.size W w' ∧ W.heap.size < w'.heap.size := by
  obtain ⟨hlen, hz⟩ := hz
  have HZ : Hid (∀ j, j < len → (0 ≤ zs.getD j 0 ∧ zs.getD j 0 ≤ 255) ∧ ∃ b off, a = some ⟨b, off, none⟩ ∧ b < W.heap.size ∧ W.cell? ⟨b, off + j, none⟩ = some (.int .u8 (zs.getD j 0))) := hz
  clear hz
  go_enter Tryz.func16, Tryz.ntmps16
  go_wp2
  go_loop [3, 4] (fun t i => ∃ k : Nat, k ≤ len ∧ k ≤ 4000 ∧ i = .int .i64 k ∧ t = .int .i64 (hashF zs len k)) (fun _ i => 4000 - (intOf i).toNat)
  case atStart => exact ⟨0, by omega, by omega, rfl, rfl⟩
  case round =>
    obtain ⟨k, hk, hk4, rfl, rfl⟩ := hrel
    have hb := hashF_bd zs len hlen k
    by_cases hlt : k < len ∧ k < 4000
    · obtain ⟨hlt, hlt4⟩ := hlt
      obtain ⟨⟨z0, z1⟩, b, off, rfl, hbp, hcell⟩ := HZ.out k hlt
      have E : Hid (hashF zs len (k + 1) = bits .and .i64 (hashF zs len k * 131 + zs.getD k 0 + 7) 1073741823) := rfl
      obtain ⟨z, hzz⟩ : ∃ z, zs.getD k 0 = z := ⟨_, rfl⟩
      rw [hzz] at z0 z1 hcell E
      obtain ⟨x, hx⟩ : ∃ x, hashF zs len k = x := ⟨_, rfl⟩
      rw [hx] at E hb ⊢
      clear hzz hx
      go_wp2
      go_round
      case rel => exact ⟨k + 1, by omega, by omega, by go_num, by rw [E.out]⟩
      case measure => simp [intOf]; omega
    · have e : k = min len 4000 := by omega
      have E : Hid (newS zs len = ⟨0, hashF zs len k⟩) := by show _ = _; rw [newS, e]
      clear e
      by_cases h1 : k < len
      all_goals
        go_wp2
        go_ret
        rw [E.out]
        refine ⟨rfl, ⟨?_, ?_, ?_, fun o => ?_⟩, (Below.refl _ _).alloc (Nat.le_refl _) _, by simp⟩
        · simp
        · simp
        · simp
        · simp
end Go.Proofs.YtkekfogepdhjhaaGreat.Draw

set_option linter.unusedVariables false
namespace Go.Proofs.YtkekfogepdhjhaaGreat.Draw
open Go Go.RowKit

def belowV (zs : List Int) (len : Nat) (n : Int) (s : St) : Int :=
  if n ≤ 0 then 0 else if n ≤ 256 then byteV zs len s % n else
    (byteV zs len s * 16777216 + byteV zs len (byteS len s) * 65536 + byteV zs len (byteS len (byteS len s)) * 256 + byteV zs len (byteS len (byteS len (byteS len s)))) % n
def belowS (len : Nat) (n : Int) (s : St) : St := if n ≤ 0 then s else if n ≤ 256 then byteS len s else byteS len (byteS len (byteS len (byteS len s)))
theorem belowV_bd (zs : List Int) (len : Nat) (n : Int) (s : St) (h : 0 < n) : 0 ≤ belowV zs len n s ∧ belowV zs len n s < n := by
  unfold belowV
  rw [if_neg (by omega)]
  split
  · exact ⟨Int.emod_nonneg _ (by omega), Int.emod_lt_of_pos _ h⟩
  · exact ⟨Int.emod_nonneg _ (by omega), Int.emod_lt_of_pos _ h⟩
theorem belowS_le (len : Nat) (n : Int) (s : St) (h : s.i ≤ len) : (belowS len n s).i ≤ len := by
  unfold belowS
  split
  · exact h
  · split
    · exact byteS_le _ _ h
    · exact byteS_le _ _ (byteS_le _ _ (byteS_le _ _ (byteS_le _ _ h)))

set_option maxRecDepth 100000 in
set_option maxHeartbeats 1600000 in
theorem below_go (p : Nat) (a : Option Addr) (len cap : Nat) (zs : List Int) (s : St) (W : World) (n : Int) (hc : CurAt W p a len cap s) (hz : CodeAt W p a len zs) (hi : s.i ≤ len) (hn : n ≤ 9223372036854775807) :
    Calls Tryz.prog 22 #[.pointer (some ⟨p, 0, none⟩), .int .i64 n] W fun e w' => e = .returned (.int .i64 (belowV zs len n s)) ∧ CurAt w' p a len cap (belowS len n s) ∧ Only p W w' := by
  have HC : Hid (CurAt W p a len cap s) := hc
  have HZ : Hid (CodeAt W p a len zs) := hz
  clear hc hz
  by_cases h0 : n ≤ 0
  · have V : Hid (belowV zs len n s = 0) := if_pos h0
    have S : Hid (belowS len n s = s) := if_pos h0
    go_enter Tryz.func22, Tryz.ntmps22
    go_wp2
    go_ret
    rw [V.out, S.out]
    exact ⟨rfl, HC.out, Only.refl _ _⟩
  by_cases h1 : n ≤ 256
  · have V : Hid (belowV zs len n s = byteV zs len s % n) := by show _ = _; unfold belowV; rw [if_neg h0, if_pos h1]
    have S : Hid (belowS len n s = byteS len s) := by show _ = _; unfold belowS; rw [if_neg h0, if_pos h1]
    have bx := byteV_bd zs len s
    have hp : 0 < n := by omega
    obtain ⟨x, hx⟩ : ∃ x, byteV zs len s = x := ⟨_, rfl⟩
    have HX : Hid (byteV zs len s = x) := hx
    rw [hx] at bx V
    clear hx h0
    go_enter Tryz.func22, Tryz.ntmps22
    go_wp2_with (go_at_call 52; refine (byte_go p a len cap zs s _ HC.out HZ.out hi).mono ?_; rw [HX.out]; rintro e w1 ⟨rfl, c1, b1⟩)
    go_ret
    rw [V.out, S.out]
    exact ⟨rfl, c1, b1⟩
  · have V : Hid (belowV zs len n s = (byteV zs len s * 16777216 + byteV zs len (byteS len s) * 65536 + byteV zs len (byteS len (byteS len s)) * 256 + byteV zs len (byteS len (byteS len (byteS len s)))) % n) := by show _ = _; unfold belowV; rw [if_neg h0, if_neg h1]
    have S : Hid (belowS len n s = byteS len (byteS len (byteS len (byteS len s)))) := by show _ = _; unfold belowS; rw [if_neg h0, if_neg h1]
    have hp : 0 < n := by omega
    have j1 := byteS_le len s hi
    have j2 := byteS_le len _ j1
    have j3 := byteS_le len _ j2
    have J : Hid ((byteS len s).i ≤ len ∧ (byteS len (byteS len s)).i ≤ len ∧ (byteS len (byteS len (byteS len s))).i ≤ len) := ⟨j1, j2, j3⟩
    have bx1 := byteV_bd zs len s
    have bx2 := byteV_bd zs len (byteS len s)
    have bx3 := byteV_bd zs len (byteS len (byteS len s))
    have bx4 := byteV_bd zs len (byteS len (byteS len (byteS len s)))
    obtain ⟨x1, hx1⟩ : ∃ x, byteV zs len s = x := ⟨_, rfl⟩
    obtain ⟨x2, hx2⟩ : ∃ x, byteV zs len (byteS len s) = x := ⟨_, rfl⟩
    obtain ⟨x3, hx3⟩ : ∃ x, byteV zs len (byteS len (byteS len s)) = x := ⟨_, rfl⟩
    obtain ⟨x4, hx4⟩ : ∃ x, byteV zs len (byteS len (byteS len (byteS len s))) = x := ⟨_, rfl⟩
    have HX1 : Hid (byteV zs len s = x1) := hx1
    have HX2 : Hid (byteV zs len (byteS len s) = x2) := hx2
    have HX3 : Hid (byteV zs len (byteS len (byteS len s)) = x3) := hx3
    have HX4 : Hid (byteV zs len (byteS len (byteS len (byteS len s))) = x4) := hx4
    rw [hx1, hx2, hx3, hx4] at V
    rw [hx1] at bx1
    rw [hx2] at bx2
    rw [hx3] at bx3
    rw [hx4] at bx4
    clear hx1 hx2 hx3 hx4 j1 j2 j3 h0
    go_enter Tryz.func22, Tryz.ntmps22
    go_wp2_with (go_at_call 52; refine (byte_go p a len cap zs s _ HC.out HZ.out hi).mono ?_; rw [HX1.out]; rintro e w1 ⟨rfl, c1, b1⟩)
    have C1 : Hid (CurAt w1 p a len cap (byteS len s) ∧ CodeAt w1 p a len zs ∧ Only p W w1) := ⟨c1, HZ.out.below (b1.below (Nat.le_refl _) HC.out.lt), b1⟩
    clear c1 b1
    go_wp2_with (go_at_call 52; refine (byte_go p a len cap zs _ _ C1.out.1 C1.out.2.1 J.out.1).mono ?_; rw [HX2.out]; rintro e w2 ⟨rfl, c2, b2⟩)
    have C2 : Hid (CurAt w2 p a len cap (byteS len (byteS len s)) ∧ CodeAt w2 p a len zs ∧ Only p W w2) := ⟨c2, C1.out.2.1.below (b2.below (Nat.le_refl _) C1.out.1.lt), C1.out.2.2.trans b2⟩
    clear c2 b2
    go_wp2_with (go_at_call 52; refine (byte_go p a len cap zs _ _ C2.out.1 C2.out.2.1 J.out.2.1).mono ?_; rw [HX3.out]; rintro e w3 ⟨rfl, c3, b3⟩)
    have C3 : Hid (CurAt w3 p a len cap (byteS len (byteS len (byteS len s))) ∧ CodeAt w3 p a len zs ∧ Only p W w3) := ⟨c3, C2.out.2.1.below (b3.below (Nat.le_refl _) C2.out.1.lt), C2.out.2.2.trans b3⟩
    clear c3 b3
    go_wp2_with (go_at_call 52; refine (byte_go p a len cap zs _ _ C3.out.1 C3.out.2.1 J.out.2.2).mono ?_; rw [HX4.out]; rintro e w4 ⟨rfl, c4, b4⟩)
    go_ret
    rw [V.out, S.out]
    exact ⟨rfl, c4, C3.out.2.2.trans b4⟩

/-- The cursor stands so, and its code can be read. -/
structure Dr (W : World) (p : Nat) (a : Option Addr) (len cap : Nat) (zs : List Int) (s : St) : Prop where
  cur : CurAt W p a len cap s
  code : CodeAt W p a len zs
  le : s.i ≤ len
theorem Dr.next {W w' : World} {p : Nat} {a : Option Addr} {len cap : Nat} {zs : List Int} {s s' : St} (h : Dr W p a len cap zs s) (c : CurAt w' p a len cap s') (b : Only p W w') (le : s'.i ≤ len) : Dr w' p a len cap zs s' :=
  ⟨c, h.code.below (b.below (Nat.le_refl _) h.cur.lt), le⟩
theorem Dr.alloc {W : World} {p : Nat} {a : Option Addr} {len cap : Nat} {zs : List Int} {s : St} (h : Dr W p a len cap zs s) (o : Obj) : Dr (W.alloc o) p a len cap zs s := by
  have hl := h.cur.lt
  have e : ∀ q : Addr, q.block < W.heap.size → (W.alloc o).cell? q = W.cell? q := fun q hq => World.cell?_of_block (Below.heap_alloc W o q.block hq)
  have ef : ∀ q : Addr, q.block < W.heap.size → (W.alloc o).frozen? q = W.frozen? q := fun q hq => World.frozen?_of_block (Below.heap_alloc W o q.block hq)
  exact ⟨⟨(e _ hl).trans h.cur.b, (e _ hl).trans h.cur.i, (e _ hl).trans h.cur.h, fun k => (ef _ hl).trans (h.cur.f k)⟩, h.code.below ((Below.refl p W).alloc (Nat.le_of_lt hl) o), h.le⟩
theorem Dr.drewN {W : World} {p : Nat} {a : Option Addr} {len cap : Nat} {zs : List Int} {s : St} (h : Dr W p a len cap zs s) (n : Nat) : Dr (W.drewN n) p a len cap zs s :=
  ⟨⟨h.cur.b, h.cur.i, h.cur.h, h.cur.f⟩, h.code, h.le⟩

theorem byteD (p : Nat) (a : Option Addr) (len cap : Nat) (zs : List Int) (s : St) (W : World) (h : Dr W p a len cap zs s) :
    Calls Tryz.prog 52 #[.pointer (some ⟨p, 0, none⟩)] W fun e w' => e = .returned (.int .i64 (byteV zs len s)) ∧ Dr w' p a len cap zs (byteS len s) ∧ Only p W w' :=
  (byte_go p a len cap zs s W h.cur h.code h.le).mono fun e w' ⟨h1, h2, h3⟩ => ⟨h1, h.next h2 h3 (byteS_le _ _ h.le), h3⟩
theorem belowD (p : Nat) (a : Option Addr) (len cap : Nat) (zs : List Int) (s : St) (W : World) (n : Int) (h : Dr W p a len cap zs s) (hn : n ≤ 9223372036854775807) :
    Calls Tryz.prog 22 #[.pointer (some ⟨p, 0, none⟩), .int .i64 n] W fun e w' => e = .returned (.int .i64 (belowV zs len n s)) ∧ Dr w' p a len cap zs (belowS len n s) ∧ Only p W w' :=
  (below_go p a len cap zs s W n h.cur h.code h.le hn).mono fun e w' ⟨h1, h2, h3⟩ => ⟨h1, h.next h2 h3 (belowS_le _ _ _ h.le), h3⟩

set_option maxRecDepth 100000 in
theorem onceD (p : Nat) (a : Option Addr) (len cap : Nat) (zs : List Int) (s : St) (W : World) (n : Int) (h : Dr W p a len cap zs s) (hn : n ≤ 9223372036854775807) :
    Calls Tryz.prog 20 #[.pointer (some ⟨p, 0, none⟩), .int .i64 n] W fun e w' => e = .returned (.bool (belowV zs len n s == 0)) ∧ Dr w' p a len cap zs (belowS len n s) ∧ Only p W w' := by
  have H : Hid (Dr W p a len cap zs s) := h
  clear h
  go_enter Tryz.func20, Tryz.ntmps20
  go_wp2_with (go_at_call 22; refine (belowD p a len cap zs s _ n H.out hn).mono ?_; rintro e w1 ⟨rfl, d1, o1⟩)
  go_ret
  exact ⟨rfl, d1, o1⟩

set_option maxRecDepth 100000 in
theorem pickIntD (p : Nat) (a : Option Addr) (len cap : Nat) (zs : List Int) (s : St) (W : World) (g m : Nat) (L : List Int) (h : Dr W p a len cap zs s) (hm : 0 < m) (hm2 : m ≤ 1000) (hg : p < g) (hgs : g < W.heap.size) (hL : ∀ j, j < m → W.cell? ⟨g, j, none⟩ = some (.int .i64 (L.getD j 0))) :
    Calls Tryz.prog 48 #[.pointer (some ⟨p, 0, none⟩), .slice (some ⟨g, 0, none⟩) m m] W fun e w' => e = .returned (.int .i64 (L.getD (belowV zs len m s).toNat 0)) ∧ Dr w' p a len cap zs (belowS len m s) ∧ Only p W w' := by
  have H : Hid (Dr W p a len cap zs s) := h
  have HL : Hid (∀ j, j < m → W.cell? ⟨g, j, none⟩ = some (.int .i64 (L.getD j 0))) := hL
  clear h hL
  obtain ⟨x0, x1⟩ := belowV_bd zs len m s (by omega)
  obtain ⟨k, hk⟩ : ∃ k : Nat, belowV zs len m s = (k : Int) := ⟨_, (Int.toNat_of_nonneg x0).symm⟩
  have HK : Hid (belowV zs len m s = (k : Int)) := hk
  rw [hk] at x0 x1
  clear hk
  have hkm : k < m := by omega
  obtain ⟨v, hv⟩ : ∃ v, L.getD k 0 = v := ⟨_, rfl⟩
  have HV : Hid (L.getD k 0 = v) := hv
  have HC1 : Hid (∀ w1, Only p W w1 → w1.cell? ⟨g, k, none⟩ = some (.int .i64 v)) := by
    intro w1 o1
    rw [o1.cell (q := ⟨g, k, none⟩) hgs (by show g ≠ p; omega), ← hv]
    exact HL.out k hkm
  clear hv
  go_enter Tryz.func48, Tryz.ntmps48
  go_wp2_with (go_at_call 22; refine (belowD p a len cap zs s _ m H.out (by omega)).mono ?_; rw [HK.out]; rintro e w1 ⟨rfl, d1, o1⟩; have c1 := HC1.out w1 o1)
  go_ret
  rw [HK.out]
  exact ⟨by rw [show ((k : Int)).toNat = k from rfl, HV.out]; rfl, d1, o1⟩

/-- The limits among which a number is picked. -/
def picks : List Int := [-1, 0, 127, 128, 255, 256, 16383, 16384, 65535, 65536, 562949953421311, 562949953421312, 999999999, 1000000000, -999999999, 9223372036854775807, -9223372036854775808]
/-- A number drawn. -/
def numV (zs : List Int) (len : Nat) (s : St) : Int :=
  if belowV zs len 8 s = 0 then picks.getD (belowV zs len 17 (belowS len 8 s)).toNat 0
  else if belowV zs len 8 s = 1 then belowV zs len 1000000000 (belowS len 8 s) * belowV zs len 1000000000 (belowS len 1000000000 (belowS len 8 s))
  else if belowV zs len 8 s = 2 then -belowV zs len 100000 (belowS len 8 s)
  else belowV zs len 70000 (belowS len 8 s)
def numS (zs : List Int) (len : Nat) (s : St) : St :=
  if belowV zs len 8 s = 0 then belowS len 17 (belowS len 8 s)
  else if belowV zs len 8 s = 1 then belowS len 1000000000 (belowS len 1000000000 (belowS len 8 s))
  else if belowV zs len 8 s = 2 then belowS len 100000 (belowS len 8 s)
  else belowS len 70000 (belowS len 8 s)
theorem picks_bd : ∀ k, k < 17 → -9223372036854775808 ≤ picks.getD k 0 ∧ picks.getD k 0 ≤ 9223372036854775807 := by decide
theorem numV_bd (zs : List Int) (len : Nat) (s : St) : -9223372036854775808 ≤ numV zs len s ∧ numV zs len s ≤ 9223372036854775807 := by
  unfold numV
  split
  · have := belowV_bd zs len 17 (belowS len 8 s) (by omega)
    exact picks_bd _ (by omega)
  · split
    · have h1 := belowV_bd zs len 1000000000 (belowS len 8 s) (by omega)
      have h2 := belowV_bd zs len 1000000000 (belowS len 1000000000 (belowS len 8 s)) (by omega)
      have h3 := Int.mul_nonneg h1.1 h2.1
      have h4 : belowV zs len 1000000000 (belowS len 8 s) * belowV zs len 1000000000 (belowS len 1000000000 (belowS len 8 s)) ≤ 1000000000 * 1000000000 := Int.mul_le_mul (by omega) (by omega) h2.1 (by omega)
      omega
    · split
      · have := belowV_bd zs len 100000 (belowS len 8 s) (by omega); omega
      · have := belowV_bd zs len 70000 (belowS len 8 s) (by omega); omega

theorem picks_cells (w : World) (j : Nat) (h : j < 17) :
    (w.alloc (.cells #[.int .i64 (-1), .int .i64 0, .int .i64 127, .int .i64 128, .int .i64 255, .int .i64 256, .int .i64 16383, .int .i64 16384, .int .i64 65535, .int .i64 65536, .int .i64 562949953421311, .int .i64 562949953421312, .int .i64 999999999, .int .i64 1000000000, .int .i64 (-999999999), .int .i64 9223372036854775807, .int .i64 (-9223372036854775808)] 3)).cell? ⟨w.heap.size, j, none⟩ = some (.int .i64 (picks.getD j 0)) := by
  rw [World.cell?_alloc_mark]
  show ((picks.map (Value.int .i64)).toArray)[j]? = _
  have hl : j < picks.length := h
  simp [List.getD, hl]
end Go.Proofs.YtkekfogepdhjhaaGreat.Draw
