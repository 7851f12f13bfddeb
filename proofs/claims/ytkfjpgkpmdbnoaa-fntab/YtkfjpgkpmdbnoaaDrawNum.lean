/- Numbers drawn from the cursor: l1Below, l1Once, l1PickInt, l1Num. -/
import Derived.Test.YtkfjpgkpmdbnoaaDraw
import Derived.Laws.IdiomStrings
set_option linter.unusedVariables false
namespace Go.Proofs.Ytkfjpgkpmdbnoaa.Draw
open Go Go.RowKit

def belowV (zs : List Int) (len : Nat) (n : Int) (s : St) : Int :=
  if n ≤ 0 then 0 else if n ≤ 256 then byteV zs len s % n else
    (byteV zs len s * 16777216 + byteV zs len (byteS len s) * 65536 + byteV zs len (byteS len (byteS len s)) * 256 + byteV zs len (byteS len (byteS len (byteS len s)))) % n
def belowS (len : Nat) (n : Int) (s : St) : St := if n ≤ 0 then s else if n ≤ 256 then byteS len s else byteS len (byteS len (byteS len (byteS len s)))
theorem belowV_bd (zs : List Int) (len : Nat) (n : Int) (s : St) (h : 0 < n) : 0 ≤ belowV zs len n s ∧ belowV zs len n s < n := by
  unfold belowV
  rw [if_neg (by omega)]
  split
  · exact ⟨Int.emod_nonneg _ (by omega), Int.emod_lt_of_pos _ h⟩
  · exact ⟨Int.emod_nonneg _ (by omega), Int.emod_lt_of_pos _ h⟩
theorem belowS_le (len : Nat) (n : Int) (s : St) (h : s.i ≤ len) : (belowS len n s).i ≤ len := by
  unfold belowS
  split
  · exact h
  · split
    · exact byteS_le _ _ h
    · exact byteS_le _ _ (byteS_le _ _ (byteS_le _ _ (byteS_le _ _ h)))

set_option maxRecDepth 100000 in
set_option maxHeartbeats 1600000 in
theorem below_go (p : Nat) (a : Option Addr) (len cap : Nat) (zs : List Int) (s : St) (W : World) (n : Int) (hc : CurAt W p a len cap s) (hz : CodeAt W p a len zs) (hi : s.i ≤ len) (hn : n ≤ 9223372036854775807) :
    Calls Try.prog 58 #[.pointer (some ⟨p, 0, none⟩), .int .i64 n] W fun e w' => e = .returned (.int .i64 (belowV zs len n s)) ∧ CurAt w' p a len cap (belowS len n s) ∧ Only p W w' := by
  have HC : Hid (CurAt W p a len cap s) := hc
  have HZ : Hid (CodeAt W p a len zs) := hz
  clear hc hz
  by_cases h0 : n ≤ 0
  · have V : Hid (belowV zs len n s = 0) := if_pos h0
    have S : Hid (belowS len n s = s) := if_pos h0
    go_enter Try.func58, Try.ntmps58
    go_wp2
    go_ret
    rw [V.out, S.out]
    exact ⟨rfl, HC.out, Only.refl _ _⟩
  by_cases h1 : n ≤ 256
  · have V : Hid (belowV zs len n s = byteV zs len s % n) := by show _ = _; unfold belowV; rw [if_neg h0, if_pos h1]
    have S : Hid (belowS len n s = byteS len s) := by show _ = _; unfold belowS; rw [if_neg h0, if_pos h1]
    have bx := byteV_bd zs len s
    have hp : 0 < n := by omega
    obtain ⟨x, hx⟩ : ∃ x, byteV zs len s = x := ⟨_, rfl⟩
    have HX : Hid (byteV zs len s = x) := hx
    rw [hx] at bx V
    clear hx h0
    go_enter Try.func58, Try.ntmps58
    go_wp2_with (go_at_call 67; refine (byte_go p a len cap zs s _ HC.out HZ.out hi).mono ?_; rw [HX.out]; rintro e w1 ⟨rfl, c1, b1⟩)
    go_ret
    rw [V.out, S.out]
    exact ⟨rfl, c1, b1⟩
  · have V : Hid (belowV zs len n s = (byteV zs len s * 16777216 + byteV zs len (byteS len s) * 65536 + byteV zs len (byteS len (byteS len s)) * 256 + byteV zs len (byteS len (byteS len (byteS len s)))) % n) := by show _ = _; unfold belowV; rw [if_neg h0, if_neg h1]
    have S : Hid (belowS len n s = byteS len (byteS len (byteS len (byteS len s)))) := by show _ = _; unfold belowS; rw [if_neg h0, if_neg h1]
    have hp : 0 < n := by omega
    have j1 := byteS_le len s hi
    have j2 := byteS_le len _ j1
    have j3 := byteS_le len _ j2
    have J : Hid ((byteS len s).i ≤ len ∧ (byteS len (byteS len s)).i ≤ len ∧ (byteS len (byteS len (byteS len s))).i ≤ len) := ⟨j1, j2, j3⟩
    have bx1 := byteV_bd zs len s
    have bx2 := byteV_bd zs len (byteS len s)
    have bx3 := byteV_bd zs len (byteS len (byteS len s))
    have bx4 := byteV_bd zs len (byteS len (byteS len (byteS len s)))
    obtain ⟨x1, hx1⟩ : ∃ x, byteV zs len s = x := ⟨_, rfl⟩
    obtain ⟨x2, hx2⟩ : ∃ x, byteV zs len (byteS len s) = x := ⟨_, rfl⟩
    obtain ⟨x3, hx3⟩ : ∃ x, byteV zs len (byteS len (byteS len s)) = x := ⟨_, rfl⟩
    obtain ⟨x4, hx4⟩ : ∃ x, byteV zs len (byteS len (byteS len (byteS len s))) = x := ⟨_, rfl⟩
    have HX1 : Hid (byteV zs len s = x1) := hx1
    have HX2 : Hid (byteV zs len (byteS len s) = x2) := hx2
    have HX3 : Hid (byteV zs len (byteS len (byteS len s)) = x3) := hx3
    have HX4 : Hid (byteV zs len (byteS len (byteS len (byteS len s))) = x4) := hx4
    rw [hx1, hx2, hx3, hx4] at V
    rw [hx1] at bx1
    rw [hx2] at bx2
    rw [hx3] at bx3
    rw [hx4] at bx4
    clear hx1 hx2 hx3 hx4 j1 j2 j3 h0
    go_enter Try.func58, Try.ntmps58
    go_wp2_with (go_at_call 67; refine (byte_go p a len cap zs s _ HC.out HZ.out hi).mono ?_; rw [HX1.out]; rintro e w1 ⟨rfl, c1, b1⟩)
    have C1 : Hid (CurAt w1 p a len cap (byteS len s) ∧ CodeAt w1 p a len zs ∧ Only p W w1) := ⟨c1, HZ.out.below (b1.below (Nat.le_refl _) HC.out.lt), b1⟩
    clear c1 b1
    go_wp2_with (go_at_call 67; refine (byte_go p a len cap zs _ _ C1.out.1 C1.out.2.1 J.out.1).mono ?_; rw [HX2.out]; rintro e w2 ⟨rfl, c2, b2⟩)
    have C2 : Hid (CurAt w2 p a len cap (byteS len (byteS len s)) ∧ CodeAt w2 p a len zs ∧ Only p W w2) := ⟨c2, C1.out.2.1.below (b2.below (Nat.le_refl _) C1.out.1.lt), C1.out.2.2.trans b2⟩
    clear c2 b2
    go_wp2_with (go_at_call 67; refine (byte_go p a len cap zs _ _ C2.out.1 C2.out.2.1 J.out.2.1).mono ?_; rw [HX3.out]; rintro e w3 ⟨rfl, c3, b3⟩)
    have C3 : Hid (CurAt w3 p a len cap (byteS len (byteS len (byteS len s))) ∧ CodeAt w3 p a len zs ∧ Only p W w3) := ⟨c3, C2.out.2.1.below (b3.below (Nat.le_refl _) C2.out.1.lt), C2.out.2.2.trans b3⟩
    clear c3 b3
    go_wp2_with (go_at_call 67; refine (byte_go p a len cap zs _ _ C3.out.1 C3.out.2.1 J.out.2.2).mono ?_; rw [HX4.out]; rintro e w4 ⟨rfl, c4, b4⟩)
    go_ret
    rw [V.out, S.out]
    exact ⟨rfl, c4, C3.out.2.2.trans b4⟩

/-- The cursor stands so, and its code can be read. -/
structure Dr (W : World) (p : Nat) (a : Option Addr) (len cap : Nat) (zs : List Int) (s : St) : Prop where
  cur : CurAt W p a len cap s
  code : CodeAt W p a len zs
  le : s.i ≤ len
theorem Dr.next {W w' : World} {p : Nat} {a : Option Addr} {len cap : Nat} {zs : List Int} {s s' : St} (h : Dr W p a len cap zs s) (c : CurAt w' p a len cap s') (b : Only p W w') (le : s'.i ≤ len) : Dr w' p a len cap zs s' :=
  ⟨c, h.code.below (b.below (Nat.le_refl _) h.cur.lt), le⟩
theorem Dr.alloc {W : World} {p : Nat} {a : Option Addr} {len cap : Nat} {zs : List Int} {s : St} (h : Dr W p a len cap zs s) (o : Obj) : Dr (W.alloc o) p a len cap zs s := by
  have hl := h.cur.lt
  have e : ∀ q : Addr, q.block < W.heap.size → (W.alloc o).cell? q = W.cell? q := fun q hq => World.cell?_of_block (Below.heap_alloc W o q.block hq)
  have ef : ∀ q : Addr, q.block < W.heap.size → (W.alloc o).frozen? q = W.frozen? q := fun q hq => World.frozen?_of_block (Below.heap_alloc W o q.block hq)
  exact ⟨⟨(e _ hl).trans h.cur.b, (e _ hl).trans h.cur.i, (e _ hl).trans h.cur.h, fun k => (ef _ hl).trans (h.cur.f k)⟩, h.code.below ((Below.refl p W).alloc (Nat.le_of_lt hl) o), h.le⟩
theorem Dr.drewN {W : World} {p : Nat} {a : Option Addr} {len cap : Nat} {zs : List Int} {s : St} (h : Dr W p a len cap zs s) (n : Nat) : Dr (W.drewN n) p a len cap zs s :=
  ⟨⟨h.cur.b, h.cur.i, h.cur.h, h.cur.f⟩, h.code, h.le⟩

theorem byteD (p : Nat) (a : Option Addr) (len cap : Nat) (zs : List Int) (s : St) (W : World) (h : Dr W p a len cap zs s) :
    Calls Try.prog 67 #[.pointer (some ⟨p, 0, none⟩)] W fun e w' => e = .returned (.int .i64 (byteV zs len s)) ∧ Dr w' p a len cap zs (byteS len s) ∧ Only p W w' :=
  (byte_go p a len cap zs s W h.cur h.code h.le).mono fun e w' ⟨h1, h2, h3⟩ => ⟨h1, h.next h2 h3 (byteS_le _ _ h.le), h3⟩
theorem belowD (p : Nat) (a : Option Addr) (len cap : Nat) (zs : List Int) (s : St) (W : World) (n : Int) (h : Dr W p a len cap zs s) (hn : n ≤ 9223372036854775807) :
    Calls Try.prog 58 #[.pointer (some ⟨p, 0, none⟩), .int .i64 n] W fun e w' => e = .returned (.int .i64 (belowV zs len n s)) ∧ Dr w' p a len cap zs (belowS len n s) ∧ Only p W w' :=
  (below_go p a len cap zs s W n h.cur h.code h.le hn).mono fun e w' ⟨h1, h2, h3⟩ => ⟨h1, h.next h2 h3 (belowS_le _ _ _ h.le), h3⟩

set_option maxRecDepth 100000 in
theorem onceD (p : Nat) (a : Option Addr) (len cap : Nat) (zs : List Int) (s : St) (W : World) (n : Int) (h : Dr W p a len cap zs s) (hn : n ≤ 9223372036854775807) :
    Calls Try.prog 49 #[.pointer (some ⟨p, 0, none⟩), .int .i64 n] W fun e w' => e = .returned (.bool (belowV zs len n s == 0)) ∧ Dr w' p a len cap zs (belowS len n s) ∧ Only p W w' := by
  have H : Hid (Dr W p a len cap zs s) := h
  clear h
  go_enter Try.func49, Try.ntmps49
  go_wp2_with (go_at_call 58; refine (belowD p a len cap zs s _ n H.out hn).mono ?_; rintro e w1 ⟨rfl, d1, o1⟩)
  go_ret
  exact ⟨rfl, d1, o1⟩

set_option maxRecDepth 100000 in
theorem pickIntD (p : Nat) (a : Option Addr) (len cap : Nat) (zs : List Int) (s : St) (W : World) (g m : Nat) (L : List Int) (h : Dr W p a len cap zs s) (hm : 0 < m) (hm2 : m ≤ 1000) (hg : p < g) (hgs : g < W.heap.size) (hL : ∀ j, j < m → W.cell? ⟨g, j, none⟩ = some (.int .i64 (L.getD j 0))) :
    Calls Try.prog 37 #[.pointer (some ⟨p, 0, none⟩), .slice (some ⟨g, 0, none⟩) m m] W fun e w' => e = .returned (.int .i64 (L.getD (belowV zs len m s).toNat 0)) ∧ Dr w' p a len cap zs (belowS len m s) ∧ Only p W w' := by
  have H : Hid (Dr W p a len cap zs s) := h
  have HL : Hid (∀ j, j < m → W.cell? ⟨g, j, none⟩ = some (.int .i64 (L.getD j 0))) := hL
  clear h hL
  obtain ⟨x0, x1⟩ := belowV_bd zs len m s (by omega)
  obtain ⟨k, hk⟩ : ∃ k : Nat, belowV zs len m s = (k : Int) := ⟨_, (Int.toNat_of_nonneg x0).symm⟩
  have HK : Hid (belowV zs len m s = (k : Int)) := hk
  rw [hk] at x0 x1
  clear hk
  have hkm : k < m := by omega
  obtain ⟨v, hv⟩ : ∃ v, L.getD k 0 = v := ⟨_, rfl⟩
  have HV : Hid (L.getD k 0 = v) := hv
  have HC1 : Hid (∀ w1, Only p W w1 → w1.cell? ⟨g, k, none⟩ = some (.int .i64 v)) := by
    intro w1 o1
    rw [o1.cell (q := ⟨g, k, none⟩) hgs (by show g ≠ p; omega), ← hv]
    exact HL.out k hkm
  clear hv
  go_enter Try.func37, Try.ntmps37
  go_wp2_with (go_at_call 58; refine (belowD p a len cap zs s _ m H.out (by omega)).mono ?_; rw [HK.out]; rintro e w1 ⟨rfl, d1, o1⟩; have c1 := HC1.out w1 o1)
  go_ret
  rw [HK.out]
  exact ⟨by rw [show ((k : Int)).toNat = k from rfl, HV.out]; rfl, d1, o1⟩

/-- The limits among which a number is picked. -/
def picks : List Int := [-1, 0, 127, 128, 255, 256, 16383, 16384, 65535, 65536, 562949953421311, 562949953421312, 999999999, 1000000000, -999999999, 9223372036854775807, -9223372036854775808]
/-- A number drawn. -/
def numV (zs : List Int) (len : Nat) (s : St) : Int :=
  if belowV zs len 8 s = 0 then picks.getD (belowV zs len 17 (belowS len 8 s)).toNat 0
  else if belowV zs len 8 s = 1 then belowV zs len 1000000000 (belowS len 8 s) * belowV zs len 1000000000 (belowS len 1000000000 (belowS len 8 s))
  else if belowV zs len 8 s = 2 then -belowV zs len 100000 (belowS len 8 s)
  else belowV zs len 70000 (belowS len 8 s)
def numS (zs : List Int) (len : Nat) (s : St) : St :=
  if belowV zs len 8 s = 0 then belowS len 17 (belowS len 8 s)
  else if belowV zs len 8 s = 1 then belowS len 1000000000 (belowS len 1000000000 (belowS len 8 s))
  else if belowV zs len 8 s = 2 then belowS len 100000 (belowS len 8 s)
  else belowS len 70000 (belowS len 8 s)
theorem picks_bd : ∀ k, k < 17 → -9223372036854775808 ≤ picks.getD k 0 ∧ picks.getD k 0 ≤ 9223372036854775807 := by decide
theorem numV_bd (zs : List Int) (len : Nat) (s : St) : -9223372036854775808 ≤ numV zs len s ∧ numV zs len s ≤ 9223372036854775807 := by
  unfold numV
  split
  · have := belowV_bd zs len 17 (belowS len 8 s) (by omega)
    exact picks_bd _ (by omega)
  · split
    · have h1 := belowV_bd zs len 1000000000 (belowS len 8 s) (by omega)
      have h2 := belowV_bd zs len 1000000000 (belowS len 1000000000 (belowS len 8 s)) (by omega)
      have h3 := Int.mul_nonneg h1.1 h2.1
      have h4 : belowV zs len 1000000000 (belowS len 8 s) * belowV zs len 1000000000 (belowS len 1000000000 (belowS len 8 s)) ≤ 1000000000 * 1000000000 := Int.mul_le_mul (by omega) (by omega) h2.1 (by omega)
      omega
    · split
      · have := belowV_bd zs len 100000 (belowS len 8 s) (by omega); omega
      · have := belowV_bd zs len 70000 (belowS len 8 s) (by omega); omega

theorem picks_cells (w : World) (j : Nat) (h : j < 17) :
    (w.alloc (.cells #[.int .i64 (-1), .int .i64 0, .int .i64 127, .int .i64 128, .int .i64 255, .int .i64 256, .int .i64 16383, .int .i64 16384, .int .i64 65535, .int .i64 65536, .int .i64 562949953421311, .int .i64 562949953421312, .int .i64 999999999, .int .i64 1000000000, .int .i64 (-999999999), .int .i64 9223372036854775807, .int .i64 (-9223372036854775808)] 3)).cell? ⟨w.heap.size, j, none⟩ = some (.int .i64 (picks.getD j 0)) := by
  rw [World.cell?_alloc_mark]
  show ((picks.map (Value.int .i64)).toArray)[j]? = _
  have hl : j < picks.length := h
  simp [List.getD, hl]
end Go.Proofs.Ytkfjpgkpmdbnoaa.Draw
