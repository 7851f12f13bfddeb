/- Ways: how far each realm is, as the program reckons it. -/
import Derived.Test.YtflajkbbggmdjaaPair2
import Derived.Test.YtflajkbbggmdjaaHopMath
set_option linter.unusedVariables false
namespace Go.Proofs.Ytflajkbbggmdjaa
open Go Go.RowKit Draw

def lkH (L : List (Int × Int)) (a b : Nat) : Bool := decide (((a : Int), (b : Int)) ∈ L)
theorem cell3 {zs : List Int} (hl : zs.length = 3) {a : Nat} (ha : a < 3) : (intV zs)[a]? = some (.int .i64 (gt zs a)) := by
  unfold intV gt
  rw [List.getElem?_map, List.getElem?_eq_getElem (by omega)]
  simp [List.getD, show a < zs.length by omega]
theorem intV_set (zs : List Int) (a : Nat) (z : Int) : (intV zs).set a (.int .i64 z) = intV (zs.set a z) := by unfold intV; rw [List.map_set]
theorem intV3 {zs : List Int} (hl : zs.length = 3) : intV zs = [.int .i64 (gt zs 0), .int .i64 (gt zs 1), .int .i64 (gt zs 2)] := by
  match zs, hl with
  | [a, b, c], _ => rfl
theorem wrap_small (x : Int) (h0 : -10 ≤ x) (h1 : x ≤ 10) : IntKind.i64.wrap x = x := by
  rw [IntKind.wrap_i64]
  omega
theorem res_w {fn : Func} {p : Tmp} (hres : fn.results = #[.cell p 133]) (tmps : Array Value) (w : World) (g : Nat) (v0 v1 v2 : Value) (hp : tmps.getD p undef = .pointer (some ⟨g, 0, none⟩)) (h0 : w.cell? ⟨g, 0, none⟩ = some v0) (h1 : w.cell? ⟨g, 1, none⟩ = some v1) (h2 : w.cell? ⟨g, 2, none⟩ = some v2) :
    (results fn tmps).run Try.prog w = .ok (.agg #[v0, v1, v2]) w := by
  have hp' : tmps[p]?.getD undef = .pointer (some ⟨g, 0, none⟩) := by simpa using hp
  simp [results, hres, hp', asAddr, go_sem, h0, h1, h2, loadVar, Try.isAgg133, Try.sizeOf133]
theorem LinkM.turn {m n q : Nat} {xs : List (Int × Int)} {w : World} (h : LinkM m n xs w) (hq : q ≠ m) (k : Nat) (u : Value) : LinkM m n xs (w.setCell ⟨q, k, none⟩ u) := by
  obtain ⟨D, h, hL⟩ := h
  exact ⟨D, h.setCell (Ne.symm hq) u, hL⟩

/-- What the rounds keep: the block of the ways, the one of the result, the links. -/
structure Wy (g m n : Nat) (L : List (Int × Int)) (zs : List Int) (w W : World) : Prop where
  z : zs.length = 3
  sm : SmallW zs
  bl : Blk (g + 1) (intV zs) W
  rs : Blk g [.int .i64 0, .int .i64 0, .int .i64 0] W
  lk : LinkM m n L W
  be : Below w.heap.size w W
theorem Wy.drew {g m n : Nat} {L : List (Int × Int)} {zs : List Int} {w W : World} (h : Wy g m n L zs w W) : Wy g m n L zs w W.drew := by
  obtain ⟨h1, h2, h3, h4, h5, h6⟩ := h
  exact ⟨h1, h2, h3.drew, h4.drew, h5.kept (Below.refl _ _).drew, h6.drew⟩
theorem Wy.set {g m n : Nat} {L : List (Int × Int)} {zs : List Int} {w W : World} (h : Wy g m n L zs w W) {a b : Nat} (ha : a < 3) (hg : w.heap.size ≤ g) (hm : m < w.heap.size) {z : Int} (hz : z = min (gt zs a) (gt zs b + 1)) : Wy g m n L (rel zs a b) w (W.setCell ⟨g + 1, a, none⟩ (.int .i64 z)) := by
  subst hz
  refine ⟨by rw [rel_len]; exact h.z, h.sm.rel a b (by rw [h.z]; exact ha), ?_, h.rs.far (by omega) _ _, h.lk.turn (by omega) _ _, h.be.setCell (by dsimp only; omega) _⟩
  have := h.bl.set a (.int .i64 (min (gt zs a) (gt zs b + 1)))
  rw [intV_set] at this
  exact this

set_option maxRecDepth 100000 in
set_option maxHeartbeats 12800000 in
theorem waysTo_is {m n : Nat} {L : List (Int × Int)} {w : World} (hM : LinkM m n L w) (t : Nat) (ht : t < 3) :
    Calls Try.prog 100 #[.map (some m), .int .i64 (t : Int)] w fun e w' => e = .returned (.agg #[.int .i64 (far (lkH L) t 0), .int .i64 (far (lkH L) t 1), .int .i64 (far (lkH L) t 2)]) ∧ Below w.heap.size w w' := by
  have hm := hM.lt
  obtain ⟨W2, hW2⟩ : ∃ W2, (w.alloc (.cells #[.int .i64 0, .int .i64 0, .int .i64 0] 133)).alloc (.cells #[.int .i64 3, .int .i64 3, .int .i64 3] 133) = W2 := ⟨_, rfl⟩
  have B2 : Below w.heap.size w W2 := by rw [← hW2]; exact ((Below.refl _ _).alloc (Nat.le_refl _) _).alloc (by simp) _
  have R2 : Blk w.heap.size [.int .i64 0, .int .i64 0, .int .i64 0] W2 := by rw [← hW2]; exact (Blk.new w #[.int .i64 0, .int .i64 0, .int .i64 0] 133).alloc (by simp) _
  have S2 : Blk (w.heap.size + 1) (intV [3, 3, 3]) W2 := by rw [← hW2]; have := Blk.new (w.alloc (.cells #[.int .i64 0, .int .i64 0, .int .i64 0] 133)) #[.int .i64 3, .int .i64 3, .int .i64 3] 133; exact (by simpa using this : Blk (w.heap.size + 1) [.int .i64 3, .int .i64 3, .int .i64 3] _)
  have M2 : LinkM m n L W2 := hM.kept B2
  have ct := S2.at t (cell3 rfl ht)
  have ft := S2.fz t (cell3 rfl ht)
  have Y0 : Wy w.heap.size m n L (zed t) w (W2.setCell ⟨w.heap.size + 1, t, none⟩ (.int .i64 0)) := by
    refine ⟨zed_len t, SmallW.zed t ht, ?_, R2.far (by omega) _ _, M2.turn (by omega) _ _, B2.setCell (by dsimp only; omega) _⟩
    have := S2.set t (.int .i64 0)
    rw [intV_set] at this
    exact this
  have ht2 : (t : Int) < 3 := by omega
  clear B2 R2 S2 M2 hM
  obtain ⟨W3, hW3⟩ : ∃ W3, W2.setCell ⟨w.heap.size + 1, t, none⟩ (.int .i64 0) = W3 := ⟨_, rfl⟩
  rw [hW3] at Y0
  go_enter Try.func100, Try.ntmps100
  go_wp2
  try rw [hW3]
  go_loopw [6, 7, 11] (fun v6 v7 i wr => ∃ k : Nat, k ≤ 3 ∧ i = .int .i64 k ∧ Wy w.heap.size m n L (out (lkH L) (zed t) k) w wr) (fun _ _ i _ => 3 - (intOf i).toNat)
  case atStart => exact ⟨0, by omega, rfl, by first | exact Y0 | (rw [hW3]; exact Y0)⟩
  case round =>
    clear Y0 hW3 hW2 ct ft
    obtain ⟨k, hk, rfl, Y⟩ := hrel
    by_cases hlt : k < 3
    · have k2 : (k : Int) < 3 := by omega
      go_wp2
      go_loopw [6, 7, 13] (fun v6 v7 i wr => ∃ a : Nat, a ≤ 3 ∧ i = .int .i64 a ∧ Wy w.heap.size m n L (mid (lkH L) (out (lkH L) (zed t) k) a) w wr) (fun _ _ i _ => 3 - (intOf i).toNat)
      case atStart => exact ⟨0, by omega, rfl, Y⟩
      case round =>
        clear Y
        obtain ⟨a, ha, rfl, Y⟩ := hrel
        by_cases hlt2 : a < 3
        · have a2 : (a : Int) < 3 := by omega
          go_wp2
          go_loopw [7, 16] (fun v7 i wr => ∃ b : Nat, b ≤ 3 ∧ i = .int .i64 b ∧ Wy w.heap.size m n L (inn (lkH L) (mid (lkH L) (out (lkH L) (zed t) k) a) a b) w wr) (fun _ i _ => 3 - (intOf i).toNat)
          case atStart => exact ⟨0, by omega, rfl, Y⟩
          case round =>
            clear Y
            obtain ⟨b, hb, rfl, Y⟩ := hrel
            by_cases hlt3 : b < 3
            · have b2 : (b : Int) < 3 := by omega
              have HN : Hid (inn (lkH L) (mid (lkH L) (out (lkH L) (zed t) k) a) a (b + 1) = stp (lkH L) (inn (lkH L) (mid (lkH L) (out (lkH L) (zed t) k) a) a b) a b) := (rfl : inn (lkH L) (mid (lkH L) (out (lkH L) (zed t) k) a) a (b + 1) = _)
              generalize inn (lkH L) (mid (lkH L) (out (lkH L) (zed t) k) a) a b = zs at Y HN
              have LI := linked_is Y.lk (a := (a : Int)) (b := (b : Int)) (i64_of _ (by omega) (by omega)) (i64_of _ (by omega) (by omega))
              go_wp2_with fail
              refine LI.mono ?_
              clear LI
              rintro e w1 ⟨rfl, rfl⟩
              by_cases hl : lkH L a b = true
              · rw [show decide (((a : Int), (b : Int)) ∈ L) = true from hl]
                have HE : Hid (inn (lkH L) (mid (lkH L) (out (lkH L) (zed t) k) a) a (b + 1) = rel zs a b) := by show _ = _; rw [HN.out]; unfold stp; rw [if_pos hl]
                have ca := Y.drew.bl.at a (cell3 Y.z hlt2)
                have cb := Y.drew.bl.at b (cell3 Y.z hlt3)
                have fa := Y.drew.bl.fz a (cell3 Y.z hlt2)
                have sa := Y.sm a
                have sb := Y.sm b
                have hw := wrap_small (gt zs b + 1) (by omega) (by omega)
                have HY := fun z hz => Y.drew.set (a := a) (b := b) hlt2 (Nat.le_refl _) hm (z := z) hz
                replace HY : Hid (∀ z, z = min (gt zs a) (gt zs b + 1) → Wy w.heap.size m n L (rel zs a b) w (wr.drew.setCell ⟨w.heap.size + 1, a, none⟩ (.int .i64 z))) := HY
                clear HN hl Y
                generalize gt zs a = x at ca sa HY
                generalize gt zs b = y at cb sb hw HY
                by_cases hmin : x ≤ y + 1
                · have hmm : min x (y + 1) = x := Int.min_eq_left hmin
                  go_wp2
                  go_region
                  all_goals
                    go_wp2
                    go_roundw
                    case rel =>
                      have R : ∃ b' : Nat, b' ≤ 3 ∧ Value.int .i64 ((b : Int) + 1) = .int .i64 b' ∧ Wy w.heap.size m n L (inn (lkH L) (mid (lkH L) (out (lkH L) (zed t) k) a) a b') w (wr.drew.setCell ⟨w.heap.size + 1, a, none⟩ (.int .i64 x)) := ⟨b + 1, by omega, by go_num, by rw [HE.out]; exact HY.out _ hmm.symm⟩
                      first | exact R | ((repeat apply Exists.intro); exact ⟨R, rfl⟩)
                    case measure => simp [intOf]; omega
                · have hmm : min x (y + 1) = y + 1 := Int.min_eq_right (by omega)
                  go_wp2
                  go_region
                  all_goals
                    go_wp2
                    go_roundw
                    case rel =>
                      have R : ∃ b' : Nat, b' ≤ 3 ∧ Value.int .i64 ((b : Int) + 1) = .int .i64 b' ∧ Wy w.heap.size m n L (inn (lkH L) (mid (lkH L) (out (lkH L) (zed t) k) a) a b') w (wr.drew.setCell ⟨w.heap.size + 1, a, none⟩ (.int .i64 (y + 1))) := ⟨b + 1, by omega, by go_num, by rw [HE.out]; exact HY.out _ hmm.symm⟩
                      first | exact R | ((repeat apply Exists.intro); exact ⟨R, rfl⟩)
                    case measure => simp [intOf]; omega
              · rw [Bool.not_eq_true] at hl
                rw [show decide (((a : Int), (b : Int)) ∈ L) = false from hl]
                have HE : Hid (inn (lkH L) (mid (lkH L) (out (lkH L) (zed t) k) a) a (b + 1) = zs) := by show _ = _; rw [HN.out]; unfold stp; rw [hl, if_neg (by simp)]
                go_wp2
                go_roundw
                case rel =>
                  have R : ∃ b' : Nat, b' ≤ 3 ∧ Value.int .i64 ((b : Int) + 1) = .int .i64 b' ∧ Wy w.heap.size m n L (inn (lkH L) (mid (lkH L) (out (lkH L) (zed t) k) a) a b') w wr := ⟨b + 1, by omega, by go_num, by rw [HE.out]; exact Y⟩
                  first | exact R | ((repeat apply Exists.intro); exact ⟨R, rfl⟩)
                case measure => simp [intOf]; omega
            · obtain rfl : b = 3 := by omega
              go_wp2
              go_roundw
              case rel => exact ⟨a + 1, by omega, by go_num, Y⟩
              case measure => simp [intOf]; omega
        · obtain rfl : a = 3 := by omega
          go_wp2
          go_roundw
          case rel => exact ⟨k + 1, by omega, by go_num, Y⟩
          case measure => simp [intOf]; omega
    · obtain rfl : k = 3 := by omega
      have e0 := out_far (lkH L) ht 0 (by omega)
      have e1 := out_far (lkH L) ht 1 (by omega)
      have e2 := out_far (lkH L) ht 2 (by omega)
      have Y1 := Y.bl
      rw [intV3 Y.z, e0, e1, e2] at Y1
      have Y2 := Y.rs
      have Y3 := Y.be
      clear e0 e1 e2 Y
      generalize hx : far (lkH L) t 0 = x at Y1
      generalize hy : far (lkH L) t 1 = y at Y1
      generalize hz : far (lkH L) t 2 = z at Y1
      have F := (show Hid (_ ∧ _) from And.intro (((Y2.set 0 (.int .i64 x)).set 1 (.int .i64 y)).set 2 (.int .i64 z)) (((Y3.setCell (p := ⟨w.heap.size, 0, none⟩) (Nat.le_refl _) (.int .i64 x)).setCell (p := ⟨w.heap.size, 1, none⟩) (Nat.le_refl _) (.int .i64 y)).setCell (p := ⟨w.heap.size, 2, none⟩) (Nat.le_refl _) (.int .i64 z)))
      have d0 := Y1.at 0 rfl
      have d1 := Y1.at 1 rfl
      have d2 := Y1.at 2 rfl
      have r0 := Y2.at 0 rfl
      have r1 := Y2.at 1 rfl
      have r2 := Y2.at 2 rfl
      have f0 := Y2.fz 0 rfl
      have f1 := Y2.fz 1 rfl
      have f2 := Y2.fz 2 rfl
      clear Y1 Y2 Y3
      replace hx : Hid (far (lkH L) t 0 = x) := hx
      replace hy : Hid (far (lkH L) t 1 = y) := hy
      replace hz : Hid (far (lkH L) t 2 = z) := hz
      go_wp2
      have G := F.out
      exact bodyPost_ret (res_w rfl _ _ w.heap.size _ _ _ rfl (G.1.at 0 rfl) (G.1.at 1 rfl) (G.1.at 2 rfl)) rfl ⟨by rw [hx.out, hy.out, hz.out], G.2⟩
end Go.Proofs.Ytflajkbbggmdjaa
