/- Worlds compared. -/
import Derived.Test.YtflajkbbggmdjaaMw1
import Derived.Test.YtflajkbbggmdjaaWa0
import Derived.Test.YtflajkbbggmdjaaWa1
import Derived.Test.YtflajkbbggmdjaaCa1
set_option linter.unusedVariables false
set_option maxRecDepth 100000
namespace Go.Proofs.Ytflajkbbggmdjaa.Nd
open Go Go.RowKit Go.Joins Own Draw

set_option maxRecDepth 100000 in
set_option maxHeartbeats 3200000 in
theorem eqKn_is (w : World) : Calls Try.prog 53 #[.agg #[.slice none 0 0, .slice none 0 0], .agg #[.slice none 0 0, .slice none 0 0]] w fun en w' => en = .returned (.bool true) ∧ Below w.heap.size w w' := by
  obtain ⟨V0, hV0⟩ : ∃ V, w.alloc (.cells #[.slice none 0 0, .slice none 0 0] 46) = V := ⟨_, rfl⟩
  have TA : Blk w.heap.size [.slice none 0 0, .slice none 0 0] V0 := by rw [← hV0]; exact Blk.new _ _ _
  have Z0 : V0.heap.size = w.heap.size + 1 := by rw [← hV0]; simp
  have b0 : Below w.heap.size w V0 := by rw [← hV0]; exact (Below.refl _ _).alloc (Nat.le_refl _) _
  obtain ⟨V, hV⟩ : ∃ V, V0.alloc (.cells #[.slice none 0 0, .slice none 0 0] 46) = V := ⟨_, rfl⟩
  replace TA : Blk w.heap.size [.slice none 0 0, .slice none 0 0] V := by rw [← hV]; exact TA.alloc (by omega) _
  have TB : Blk (w.heap.size + 1) [.slice none 0 0, .slice none 0 0] V := by rw [← hV, ← Z0]; exact Blk.new _ _ _
  replace b0 : Below w.heap.size w V := by rw [← hV]; exact b0.alloc b0.size _
  go_enter Try.func53, Try.ntmps53
  have p0 := TA.at 0 rfl
  have q0 := TB.at 0 rfl
  have K := eq0_52 none none 0 0 V
  go_wp2_with fail
  try rw [hV0]
  try rw [hV]
  refine K.mono ?_
  clear K p0 q0 hV hV0 Z0
  rintro en v0 ⟨rfl, hb⟩
  replace TA := TA.later hb TA.lt
  replace TB := TB.later hb TB.lt
  replace b0 := b0.trans (hb.mono b0.size)
  clear hb
  have p1 := TA.at 1 rfl
  have q1 := TB.at 1 rfl
  have K := eq0_31 none none 0 0 v0
  go_wp2_with fail
  refine K.mono ?_
  clear K p1 q1
  rintro en v1 ⟨rfl, hb⟩
  replace TA := TA.later hb TA.lt
  replace TB := TB.later hb TB.lt
  replace b0 := b0.trans (hb.mono b0.size)
  clear hb
  go_wp2
  go_ret
  exact ⟨rfl, b0⟩
set_option maxRecDepth 100000 in
set_option maxHeartbeats 6400000 in
theorem eqWd_is (x x' : TWd) (w : World) (hx : DpF w x.1) (hx' : DpF w x'.1) (hs : stWd x = stWd x') (r1 : FRow 4 cW w x.2.2.1.1 x.2.2.1.2.2) (r2 : FRow 4 cW w x'.2.2.1.1 x'.2.2.1.2.2) (r3 : FRow 2 cC w x.2.2.2.1 x.2.2.2.2.2) (r4 : FRow 2 cC w x'.2.2.2.1 x'.2.2.2.2.2) (hl : totF x.1 ≤ 1048576) (h6 : x.2.2.1.2.2.length ≤ 6) (h3 : x.2.2.2.2.2.length ≤ 3) :
    Calls Try.prog 20 #[vWd x, vWd x'] w fun en w' => en = .returned (.bool true) ∧ Below w.heap.size w w' := by
  obtain ⟨y, fr, ⟨wa, wc, ws⟩, ⟨ka, kc, ks⟩⟩ := x
  obtain ⟨y', fr', ⟨wa', wc', ws'⟩, ⟨ka', kc', ks'⟩⟩ := x'
  unfold stWd at hs
  simp only [Prod.mk.injEq] at hs
  obtain ⟨hs, rfl, rfl, rfl⟩ := hs
  dsimp only at hx hx' r1 r2 r3 r4 hl h6 h3
  obtain ⟨V0, hV0⟩ : ∃ V, w.alloc (.cells #[.slice y.1.1 y.1.2.2.length y.1.2.1, .slice y.2.1.1 y.2.1.2.2.length y.2.1.2.1, .slice y.2.2.1.1 y.2.2.1.2.2.length y.2.2.1.2.1, .slice y.2.2.2.1.1 y.2.2.2.1.2.2.length y.2.2.2.1.2.1, .int .i64 y.2.2.2.2, .int .i64 0, .int .i64 fr, .slice none 0 0, .slice none 0 0, .slice none 0 0, .slice wa ws.length wc, .slice none 0 0, .slice ka ks.length kc, .slice none 0 0, .slice none 0 0, .slice none 0 0] 53) = V := ⟨_, rfl⟩
  have TA : Blk w.heap.size [.slice y.1.1 y.1.2.2.length y.1.2.1, .slice y.2.1.1 y.2.1.2.2.length y.2.1.2.1, .slice y.2.2.1.1 y.2.2.1.2.2.length y.2.2.1.2.1, .slice y.2.2.2.1.1 y.2.2.2.1.2.2.length y.2.2.2.1.2.1, .int .i64 y.2.2.2.2, .int .i64 0, .int .i64 fr, .slice none 0 0, .slice none 0 0, .slice none 0 0, .slice wa ws.length wc, .slice none 0 0, .slice ka ks.length kc, .slice none 0 0, .slice none 0 0, .slice none 0 0] V0 := by rw [← hV0]; exact Blk.new _ _ _
  have Z0 : V0.heap.size = w.heap.size + 1 := by rw [← hV0]; simp
  have b0 : Below w.heap.size w V0 := by rw [← hV0]; exact (Below.refl _ _).alloc (Nat.le_refl _) _
  obtain ⟨V, hV⟩ : ∃ V, V0.alloc (.cells #[.slice y'.1.1 y'.1.2.2.length y'.1.2.1, .slice y'.2.1.1 y'.2.1.2.2.length y'.2.1.2.1, .slice y'.2.2.1.1 y'.2.2.1.2.2.length y'.2.2.1.2.1, .slice y'.2.2.2.1.1 y'.2.2.2.1.2.2.length y'.2.2.2.1.2.1, .int .i64 y'.2.2.2.2, .int .i64 0, .int .i64 fr, .slice none 0 0, .slice none 0 0, .slice none 0 0, .slice wa' ws.length wc', .slice none 0 0, .slice ka' ks.length kc', .slice none 0 0, .slice none 0 0, .slice none 0 0] 53) = V := ⟨_, rfl⟩
  replace TA : Blk w.heap.size [.slice y.1.1 y.1.2.2.length y.1.2.1, .slice y.2.1.1 y.2.1.2.2.length y.2.1.2.1, .slice y.2.2.1.1 y.2.2.1.2.2.length y.2.2.1.2.1, .slice y.2.2.2.1.1 y.2.2.2.1.2.2.length y.2.2.2.1.2.1, .int .i64 y.2.2.2.2, .int .i64 0, .int .i64 fr, .slice none 0 0, .slice none 0 0, .slice none 0 0, .slice wa ws.length wc, .slice none 0 0, .slice ka ks.length kc, .slice none 0 0, .slice none 0 0, .slice none 0 0] V := by rw [← hV]; exact TA.alloc (by omega) _
  have TB : Blk (w.heap.size + 1) [.slice y'.1.1 y'.1.2.2.length y'.1.2.1, .slice y'.2.1.1 y'.2.1.2.2.length y'.2.1.2.1, .slice y'.2.2.1.1 y'.2.2.1.2.2.length y'.2.2.1.2.1, .slice y'.2.2.2.1.1 y'.2.2.2.1.2.2.length y'.2.2.2.1.2.1, .int .i64 y'.2.2.2.2, .int .i64 0, .int .i64 fr, .slice none 0 0, .slice none 0 0, .slice none 0 0, .slice wa' ws.length wc', .slice none 0 0, .slice ka' ks.length kc', .slice none 0 0, .slice none 0 0, .slice none 0 0] V := by rw [← hV, ← Z0]; exact Blk.new _ _ _
  replace b0 : Below w.heap.size w V := by rw [← hV]; exact b0.alloc b0.size _
  go_enter Try.func20, Try.ntmps20
  have p0 := TA.at 0 rfl
  have q0 := TB.at 0 rfl
  have p1 := TA.at 1 rfl
  have q1 := TB.at 1 rfl
  have p2 := TA.at 2 rfl
  have q2 := TB.at 2 rfl
  have p3 := TA.at 3 rfl
  have q3 := TB.at 3 rfl
  have p4 := TA.at 4 rfl
  have q4 := TB.at 4 rfl
  have K := eqF_is y y' V (hx.later b0) (hx'.later b0) hs hl
  go_wp2_with fail
  try rw [hV0]
  try rw [hV]
  refine K.mono ?_
  clear K p0 q0 p1 q1 p2 q2 p3 q3 p4 q4 hV hV0 Z0
  rintro en v0 ⟨rfl, hb⟩
  replace TA := TA.later hb TA.lt
  replace TB := TB.later hb TB.lt
  replace b0 := b0.trans (hb.mono b0.size)
  clear hb
  have p5 := TA.at 5 rfl
  have q5 := TB.at 5 rfl
  have p6 := TA.at 6 rfl
  have q6 := TB.at 6 rfl
  have p7 := TA.at 7 rfl
  have q7 := TB.at 7 rfl
  have K := eq0_52 none none 0 0 v0
  go_wp2_with fail
  refine K.mono ?_
  clear K p5 q5 p6 q6 p7 q7
  rintro en v1 ⟨rfl, hb⟩
  replace TA := TA.later hb TA.lt
  replace TB := TB.later hb TB.lt
  replace b0 := b0.trans (hb.mono b0.size)
  clear hb
  have p8 := TA.at 8 rfl
  have q8 := TB.at 8 rfl
  have p9 := TA.at 9 rfl
  have q9 := TB.at 9 rfl
  have K := eqKn_is v1
  go_wp2_with fail
  refine K.mono ?_
  clear K p8 q8 p9 q9
  rintro en v2 ⟨rfl, hb⟩
  replace TA := TA.later hb TA.lt
  replace TB := TB.later hb TB.lt
  replace b0 := b0.trans (hb.mono b0.size)
  clear hb
  have p10 := TA.at 10 rfl
  have q10 := TB.at 10 rfl
  have K := eqSW_is wa wa' wc wc' ws v2 (r1.later b0) (r2.later b0) (by omega)
  go_wp2_with fail
  refine K.mono ?_
  clear K p10 q10
  rintro en v3 ⟨rfl, hb⟩
  replace TA := TA.later hb TA.lt
  replace TB := TB.later hb TB.lt
  replace b0 := b0.trans (hb.mono b0.size)
  clear hb
  have p11 := TA.at 11 rfl
  have q11 := TB.at 11 rfl
  have K := eq0_55 none none 0 0 v3
  go_wp2_with fail
  refine K.mono ?_
  clear K p11 q11
  rintro en v4 ⟨rfl, hb⟩
  replace TA := TA.later hb TA.lt
  replace TB := TB.later hb TB.lt
  replace b0 := b0.trans (hb.mono b0.size)
  clear hb
  have p12 := TA.at 12 rfl
  have q12 := TB.at 12 rfl
  have K := eqSC_is ka ka' kc kc' ks v4 (r3.later b0) (r4.later b0) (by omega)
  go_wp2_with fail
  refine K.mono ?_
  clear K p12 q12
  rintro en v5 ⟨rfl, hb⟩
  replace TA := TA.later hb TA.lt
  replace TB := TB.later hb TB.lt
  replace b0 := b0.trans (hb.mono b0.size)
  clear hb
  have p13 := TA.at 13 rfl
  have q13 := TB.at 13 rfl
  have K := eq0_57 none none 0 0 v5
  go_wp2_with fail
  refine K.mono ?_
  clear K p13 q13
  rintro en v6 ⟨rfl, hb⟩
  replace TA := TA.later hb TA.lt
  replace TB := TB.later hb TB.lt
  replace b0 := b0.trans (hb.mono b0.size)
  clear hb
  have p14 := TA.at 14 rfl
  have q14 := TB.at 14 rfl
  have K := eq0_58 none none 0 0 v6
  go_wp2_with fail
  refine K.mono ?_
  clear K p14 q14
  rintro en v7 ⟨rfl, hb⟩
  replace TA := TA.later hb TA.lt
  replace TB := TB.later hb TB.lt
  replace b0 := b0.trans (hb.mono b0.size)
  clear hb
  have p15 := TA.at 15 rfl
  have q15 := TB.at 15 rfl
  have K := eq0_31 none none 0 0 v7
  go_wp2_with fail
  refine K.mono ?_
  clear K p15 q15
  rintro en v8 ⟨rfl, hb⟩
  replace TA := TA.later hb TA.lt
  replace TB := TB.later hb TB.lt
  replace b0 := b0.trans (hb.mono b0.size)
  clear hb
  go_wp2
  go_ret
  exact ⟨rfl, b0⟩
end Go.Proofs.Ytflajkbbggmdjaa.Nd

set_option linter.unusedVariables false
set_option maxRecDepth 100000
namespace Go.Proofs.Ytflajkbbggmdjaa.Nd
open Go Go.RowKit Go.Joins Own Draw

set_option maxRecDepth 100000 in
set_option maxHeartbeats 3200000 in
theorem markKn_is (k : Nat) (w : World) : Calls Try.prog 60 #[.agg #[.slice none 0 0, .slice none 0 0], .int .i64 (k : Int)] w fun en w' => en = .returned (.int .i64 (k : Int)) ∧ Below w.heap.size w w' := by
  obtain ⟨V, hV⟩ : ∃ V, w.alloc (.cells #[.slice none 0 0, .slice none 0 0] 46) = V := ⟨_, rfl⟩
  have TV : Blk w.heap.size [.slice none 0 0, .slice none 0 0] V := by rw [← hV]; exact Blk.new _ _ _
  have b0 : Below w.heap.size w V := by rw [← hV]; exact (Below.refl _ _).alloc (Nat.le_refl _) _
  go_enter Try.func60, Try.ntmps60
  have p0 := TV.at 0 rfl
  have K := mk0_59 none 0 (k : Int) V
  go_wp2_with fail
  try rw [hV]
  refine K.mono ?_
  clear K p0 hV
  rintro en v0 ⟨rfl, hb⟩
  replace TV := TV.later hb TV.lt
  replace b0 := b0.trans (hb.mono b0.size)
  clear hb
  have p0 := TV.at 1 rfl
  have K := mk0_45 none 0 (k : Int) v0
  go_wp2_with fail
  refine K.mono ?_
  clear K p0
  rintro en v1 ⟨rfl, hb⟩
  replace TV := TV.later hb TV.lt
  replace b0 := b0.trans (hb.mono b0.size)
  clear hb
  go_wp2
  go_ret
  exact ⟨rfl, b0⟩
set_option maxRecDepth 100000 in
set_option maxHeartbeats 3200000 in
theorem heldKn_is (k : Nat) (w : World) : Calls Try.prog 68 #[.agg #[.slice none 0 0, .slice none 0 0], .int .i64 (k : Int)] w fun en w' => en = .returned (.int .i64 (k : Int)) ∧ Below w.heap.size w w' := by
  obtain ⟨V, hV⟩ : ∃ V, w.alloc (.cells #[.slice none 0 0, .slice none 0 0] 46) = V := ⟨_, rfl⟩
  have TV : Blk w.heap.size [.slice none 0 0, .slice none 0 0] V := by rw [← hV]; exact Blk.new _ _ _
  have b0 : Below w.heap.size w V := by rw [← hV]; exact (Below.refl _ _).alloc (Nat.le_refl _) _
  have nk : ¬ ((k : Int) < 0) := by omega
  go_enter Try.func68, Try.ntmps68
  have p0 := TV.at 0 rfl
  have K := mk0_67 none 0 (k : Int) V
  go_wp2_with fail
  try rw [hV]
  refine K.mono ?_
  clear K p0 hV
  rintro en v0 ⟨rfl, hb⟩
  replace TV := TV.later hb TV.lt
  replace b0 := b0.trans (hb.mono b0.size)
  clear hb
  have p0 := TV.at 1 rfl
  have K := mk0_74 none 0 (k : Int) v0
  go_wp2_with fail
  refine K.mono ?_
  clear K p0
  rintro en v1 ⟨rfl, hb⟩
  replace TV := TV.later hb TV.lt
  replace b0 := b0.trans (hb.mono b0.size)
  clear hb
  go_wp2
  go_ret
  exact ⟨rfl, b0⟩
def kW (x : TWd) : Nat := kF x.1 + x.2.2.1.2.2.length * 4 + x.2.2.2.2.2.length
def MkWd (B : Nat) (w : World) (x : TWd) : Prop := MkF B w x.1 ∧ w.ownsRow B 114 4 (.slice x.2.2.1.1 x.2.2.1.2.2.length x.2.2.1.2.1) x.2.2.1.2.2.length (mks (gW (kF x.1)) (x.2.2.1.2.2.length * 4)) ∧ w.ownsRow B 82 2 (.slice x.2.2.2.1 x.2.2.2.2.2.length x.2.2.2.2.1) x.2.2.2.2.2.length (mks (gC (kF x.1 + x.2.2.1.2.2.length * 4)) (x.2.2.2.2.2.length * 2))
theorem MkWd.later {B : Nat} {w w' : World} {x : TWd} (h : MkWd B w x) (hb : Below w.heap.size w w') : MkWd B w' x := ⟨h.1.later hb, own_later h.2.1 hb, own_later h.2.2 hb⟩
theorem kF_le {y : TF} (h : totF y ≤ 1048576) : kF y ≤ 2097200 := by unfold totF rtI rtP at h; unfold kF; omega
theorem nil_at (ks : List TC) : ∀ k, k < ks.length → (fl cC ks)[k * 2 + 1]? = some (.slice none 0 0) := fun k hk => by rw [fl_get lC ks k hk 1 (by omega)]; rfl
set_option maxRecDepth 100000 in
set_option maxHeartbeats 6400000 in
theorem markWd_is (B : Nat) (x : TWd) (w : World) (h : OwWd B w x) (ha : ApWd x) (hl : totF x.1 ≤ 1048576) (h6 : x.2.2.1.2.2.length ≤ 6) (h3 : x.2.2.2.2.2.length ≤ 3) :
    Calls Try.prog 21 #[vWd x, .int .i64 1] w fun en w' => en = .returned (.int .i64 ((kW x : Nat) : Int)) ∧ MkWd B w' x ∧ Chg (cWd x) w w' := by
  obtain ⟨y, fr, ⟨wa, wc, ws⟩, ⟨ka, kc, ks⟩⟩ := x
  obtain ⟨OY, OW, OC⟩ := h
  obtain ⟨AY, AV, AWC⟩ := ha
  dsimp only at OY OW OC AY AV AWC hl h6 h3
  replace OW : w.ownsRow B 114 4 (.slice wa ws.length wc) ws.length (fl cW ws) := OW
  replace OC : w.ownsRow B 82 2 (.slice ka ks.length kc) ks.length (fl cC ks) := OC
  have hk := kF_le hl
  have yt := ow_lt OY
  have wt : ∀ k, (Value.slice wa ws.length wc).ownBlock = some k → k < w.heap.size := fun k e => (OW.lt k e).2
  have ct : ∀ k, (Value.slice ka ks.length kc).ownBlock = some k → k < w.heap.size := fun k e => (OC.lt k e).2
  obtain ⟨V, hV⟩ : ∃ V, w.alloc (.cells #[.slice y.1.1 y.1.2.2.length y.1.2.1, .slice y.2.1.1 y.2.1.2.2.length y.2.1.2.1, .slice y.2.2.1.1 y.2.2.1.2.2.length y.2.2.1.2.1, .slice y.2.2.2.1.1 y.2.2.2.1.2.2.length y.2.2.2.1.2.1, .int .i64 y.2.2.2.2, .int .i64 0, .int .i64 fr, .slice none 0 0, .slice none 0 0, .slice none 0 0, .slice wa ws.length wc, .slice none 0 0, .slice ka ks.length kc, .slice none 0 0, .slice none 0 0, .slice none 0 0] 53) = V := ⟨_, rfl⟩
  have TV : Blk w.heap.size [.slice y.1.1 y.1.2.2.length y.1.2.1, .slice y.2.1.1 y.2.1.2.2.length y.2.1.2.1, .slice y.2.2.1.1 y.2.2.1.2.2.length y.2.2.1.2.1, .slice y.2.2.2.1.1 y.2.2.2.1.2.2.length y.2.2.2.1.2.1, .int .i64 y.2.2.2.2, .int .i64 0, .int .i64 fr, .slice none 0 0, .slice none 0 0, .slice none 0 0, .slice wa ws.length wc, .slice none 0 0, .slice ka ks.length kc, .slice none 0 0, .slice none 0 0, .slice none 0 0] V := by rw [← hV]; exact Blk.new _ _ _
  have b0 : Below w.heap.size w V := by rw [← hV]; exact (Below.refl _ _).alloc (Nat.le_refl _) _
  have CH : Chg [.slice y.1.1 y.1.2.2.length y.1.2.1, .slice y.2.1.1 y.2.1.2.2.length y.2.1.2.1, .slice y.2.2.1.1 y.2.2.1.2.2.length y.2.2.1.2.1, .slice y.2.2.2.1.1 y.2.2.2.1.2.2.length y.2.2.2.1.2.1, .int .i64 y.2.2.2.2, .int .i64 0, .int .i64 fr, .slice none 0 0, .slice none 0 0, .slice none 0 0, .slice wa ws.length wc, .slice none 0 0, .slice ka ks.length kc, .slice none 0 0, .slice none 0 0, .slice none 0 0] w V := Chg.of b0
  replace OY := OY.later b0
  replace OW := own_later OW b0
  replace OC := own_later OC b0
  clear b0
  have hsz := TV.lt
  go_enter Try.func21, Try.ntmps21
  have p0 := TV.at 0 rfl
  have p1 := TV.at 1 rfl
  have p2 := TV.at 2 rfl
  have p3 := TV.at 3 rfl
  have p4 := TV.at 4 rfl
  have K := markFx_is B y V OY AY hl
  go_wp2_with fail
  try rw [hV]
  refine K.mono ?_
  clear K hV p0 p1 p2 p3 p4
  rintro en v0 ⟨rfl, MY, hc⟩
  replace OW := hc.own OW (fun c hc => (AV c hc).1.symm)
  replace OC := hc.own OC (fun c hc => (AV c hc).2.symm)
  replace TV := hc.blk TV TV.lt (fun c hc e => by have := yt c hc _ e; omega)
  replace CH := CH.trans (hc.mono (fun c hc => by simp only [cF, List.mem_cons, List.not_mem_nil, or_false] at hc; rcases hc with rfl | rfl | rfl | rfl | rfl <;> simp))
  clear hc OY
  have hK1 : kF y ≤ 2097200 := hk
  have HK : Hid (∀ n : Nat, kW (y, fr, (wa, wc, ws), (ka, kc, ks)) = kF y + ws.length * 4 + ks.length) := fun _ => rfl
  have p7 := TV.at 7 rfl
  have K := mk0_59 none 0 ((kF y : Nat) : Int) v0
  go_wp2_with fail
  refine K.mono ?_
  clear K p7
  rintro en v1 ⟨rfl, hb⟩
  replace TV := TV.later hb TV.lt
  replace MY := MY.later hb
  replace OW := own_later OW hb
  replace OC := own_later OC hb
  replace CH := CH.trans (Chg.of hb)
  clear hb
  have p8 := TV.at 8 rfl
  have p9 := TV.at 9 rfl
  have K := markKn_is (kF y) v1
  go_wp2_with fail
  refine K.mono ?_
  clear K p8 p9
  rintro en v2 ⟨rfl, hb⟩
  replace TV := TV.later hb TV.lt
  replace MY := MY.later hb
  replace OW := own_later OW hb
  replace OC := own_later OC hb
  replace CH := CH.trans (Chg.of hb)
  clear hb
  have p10 := TV.at 10 rfl
  have K := markW_is B (kF y) wa ws.length wc (fl cW ws) v2 OW (by omega) (by omega)
  go_wp2_with fail
  refine K.mono ?_
  clear K p10
  rintro en v3 ⟨rfl, mo, hg⟩
  replace OC := own_kept OC hg (fun k e h => AWC k h e)
  have hc : Chg [.slice wa ws.length wc] v2 v3 := Chg.grown hg (by simp)
  replace MY := MY.chg hc (fun c hc v hv => by rw [List.mem_singleton.1 hc]; exact (AV v hv).1)
  replace TV := hc.blk TV TV.lt (fun c hc e => by rw [List.mem_singleton.1 hc] at e; have := wt _ e; omega)
  replace CH := CH.trans (hc.mono (fun c hc => by rw [List.mem_singleton.1 hc]; simp))
  replace OW := mo
  clear mo hg hc
  have p11 := TV.at 11 rfl
  have K := mk0_62 none 0 ((kF y + ws.length * 4 : Nat) : Int) v3
  go_wp2_with fail
  refine K.mono ?_
  clear K p11
  rintro en v4 ⟨rfl, hb⟩
  replace TV := TV.later hb TV.lt
  replace MY := MY.later hb
  replace OW := own_later OW hb
  replace OC := own_later OC hb
  replace CH := CH.trans (Chg.of hb)
  clear hb
  have p12 := TV.at 12 rfl
  have K := markC_is B (kF y + ws.length * 4) ka ks.length kc (fl cC ks) v4 OC (nil_at ks) (by omega) (by omega)
  go_wp2_with fail
  refine K.mono ?_
  clear K p12
  rintro en v5 ⟨rfl, mo, hg⟩
  replace OW := own_kept OW hg (fun k e h => AWC k e h)
  have hc : Chg [.slice ka ks.length kc] v4 v5 := Chg.grown hg (by simp)
  replace MY := MY.chg hc (fun c hc v hv => by rw [List.mem_singleton.1 hc]; exact (AV v hv).2)
  replace TV := hc.blk TV TV.lt (fun c hc e => by rw [List.mem_singleton.1 hc] at e; have := ct _ e; omega)
  replace CH := CH.trans (hc.mono (fun c hc => by rw [List.mem_singleton.1 hc]; simp))
  replace OC := mo
  clear mo hg hc
  have p13 := TV.at 13 rfl
  have K := mk0_64 none 0 ((kF y + ws.length * 4 + ks.length : Nat) : Int) v5
  go_wp2_with fail
  refine K.mono ?_
  clear K p13
  rintro en v6 ⟨rfl, hb⟩
  replace TV := TV.later hb TV.lt
  replace MY := MY.later hb
  replace OW := own_later OW hb
  replace OC := own_later OC hb
  replace CH := CH.trans (Chg.of hb)
  clear hb
  have p14 := TV.at 14 rfl
  have K := mk0_65 none 0 ((kF y + ws.length * 4 + ks.length : Nat) : Int) v6
  go_wp2_with fail
  refine K.mono ?_
  clear K p14
  rintro en v7 ⟨rfl, hb⟩
  replace TV := TV.later hb TV.lt
  replace MY := MY.later hb
  replace OW := own_later OW hb
  replace OC := own_later OC hb
  replace CH := CH.trans (Chg.of hb)
  clear hb
  have p15 := TV.at 15 rfl
  have K := mk0_45 none 0 ((kF y + ws.length * 4 + ks.length : Nat) : Int) v7
  go_wp2_with fail
  refine K.mono ?_
  clear K p15
  rintro en v8 ⟨rfl, hb⟩
  replace TV := TV.later hb TV.lt
  replace MY := MY.later hb
  replace OW := own_later OW hb
  replace OC := own_later OC hb
  replace CH := CH.trans (Chg.of hb)
  clear hb
  go_wp2
  go_ret
  exact ⟨rfl, ⟨MY, OW, OC⟩, CH⟩
end Go.Proofs.Ytflajkbbggmdjaa.Nd

set_option linter.unusedVariables false
set_option maxRecDepth 100000
namespace Go.Proofs.Ytflajkbbggmdjaa.Nd
open Go Go.RowKit Go.Joins Own Draw

set_option maxRecDepth 100000 in
set_option maxHeartbeats 6400000 in
theorem heldWd_is (B : Nat) (x : TWd) (w : World) (h : MkWd B w x) (hl : totF x.1 ≤ 1048576) (h6 : x.2.2.1.2.2.length ≤ 6) (h3 : x.2.2.2.2.2.length ≤ 3) :
    Calls Try.prog 22 #[vWd x, .int .i64 1] w fun en w' => en = .returned (.int .i64 ((kW x : Nat) : Int)) ∧ Below w.heap.size w w' := by
  obtain ⟨y, fr, ⟨wa, wc, ws⟩, ⟨ka, kc, ks⟩⟩ := x
  obtain ⟨MY, OW, OC⟩ := h
  dsimp only at MY OW OC hl h6 h3
  have hk := kF_le hl
  obtain ⟨V, hV⟩ : ∃ V, w.alloc (.cells #[.slice y.1.1 y.1.2.2.length y.1.2.1, .slice y.2.1.1 y.2.1.2.2.length y.2.1.2.1, .slice y.2.2.1.1 y.2.2.1.2.2.length y.2.2.1.2.1, .slice y.2.2.2.1.1 y.2.2.2.1.2.2.length y.2.2.2.1.2.1, .int .i64 y.2.2.2.2, .int .i64 0, .int .i64 fr, .slice none 0 0, .slice none 0 0, .slice none 0 0, .slice wa ws.length wc, .slice none 0 0, .slice ka ks.length kc, .slice none 0 0, .slice none 0 0, .slice none 0 0] 53) = V := ⟨_, rfl⟩
  have TV : Blk w.heap.size [.slice y.1.1 y.1.2.2.length y.1.2.1, .slice y.2.1.1 y.2.1.2.2.length y.2.1.2.1, .slice y.2.2.1.1 y.2.2.1.2.2.length y.2.2.1.2.1, .slice y.2.2.2.1.1 y.2.2.2.1.2.2.length y.2.2.2.1.2.1, .int .i64 y.2.2.2.2, .int .i64 0, .int .i64 fr, .slice none 0 0, .slice none 0 0, .slice none 0 0, .slice wa ws.length wc, .slice none 0 0, .slice ka ks.length kc, .slice none 0 0, .slice none 0 0, .slice none 0 0] V := by rw [← hV]; exact Blk.new _ _ _
  have b0 : Below w.heap.size w V := by rw [← hV]; exact (Below.refl _ _).alloc (Nat.le_refl _) _
  replace MY := MY.later b0
  replace OW := own_later OW b0
  replace OC := own_later OC b0
  go_enter Try.func22, Try.ntmps22
  have p0 := TV.at 0 rfl
  have p1 := TV.at 1 rfl
  have p2 := TV.at 2 rfl
  have p3 := TV.at 3 rfl
  have p4 := TV.at 4 rfl
  have K := heldF_is B y V MY hl
  go_wp2_with fail
  try rw [hV]
  refine K.mono ?_
  clear K p0 p1 p2 p3 p4 hV
  rintro en v0 ⟨rfl, hb⟩
  replace TV := TV.later hb TV.lt
  replace b0 := b0.trans (hb.mono b0.size)
  replace OW := own_later OW hb
  replace OC := own_later OC hb
  have nk : ¬ (((kF y : Nat) : Int) < 0) := by omega
  clear hb
  have p7 := TV.at 7 rfl
  have K := mk0_67 none 0 ((kF y : Nat) : Int) v0
  go_wp2_with fail
  refine K.mono ?_
  clear K p7 nk
  rintro en v1 ⟨rfl, hb⟩
  replace TV := TV.later hb TV.lt
  replace b0 := b0.trans (hb.mono b0.size)
  replace OW := own_later OW hb
  replace OC := own_later OC hb
  have nk : ¬ (((kF y : Nat) : Int) < 0) := by omega
  clear hb
  have p8 := TV.at 8 rfl
  have p9 := TV.at 9 rfl
  have K := heldKn_is (kF y) v1
  go_wp2_with fail
  refine K.mono ?_
  clear K p8 p9 nk
  rintro en v2 ⟨rfl, hb⟩
  replace TV := TV.later hb TV.lt
  replace b0 := b0.trans (hb.mono b0.size)
  replace OW := own_later OW hb
  replace OC := own_later OC hb
  have nk : ¬ (((kF y : Nat) : Int) < 0) := by omega
  clear hb
  have p10 := TV.at 10 rfl
  have K := heldW_is B (kF y) wa ws.length wc v2 OW (by omega) (by omega)
  go_wp2_with fail
  refine K.mono ?_
  clear K p10 nk
  rintro en v3 ⟨rfl, hb⟩
  replace TV := TV.later hb TV.lt
  replace b0 := b0.trans (hb.mono b0.size)
  replace OC := own_later OC hb
  have nk : ¬ (((kF y + ws.length * 4 : Nat) : Int) < 0) := by omega
  clear hb
  have p11 := TV.at 11 rfl
  have K := mk0_70 none 0 ((kF y + ws.length * 4 : Nat) : Int) v3
  go_wp2_with fail
  refine K.mono ?_
  clear K p11 nk
  rintro en v4 ⟨rfl, hb⟩
  replace TV := TV.later hb TV.lt
  replace b0 := b0.trans (hb.mono b0.size)
  replace OC := own_later OC hb
  have nk : ¬ (((kF y + ws.length * 4 : Nat) : Int) < 0) := by omega
  clear hb
  have p12 := TV.at 12 rfl
  have K := heldC_is B (kF y + ws.length * 4) ka ks.length kc v4 OC (by omega) (by omega)
  go_wp2_with fail
  refine K.mono ?_
  clear K p12 nk
  rintro en v5 ⟨rfl, hb⟩
  replace TV := TV.later hb TV.lt
  replace b0 := b0.trans (hb.mono b0.size)
  have nk : ¬ (((kF y + ws.length * 4 + ks.length : Nat) : Int) < 0) := by omega
  clear hb
  have p13 := TV.at 13 rfl
  have K := mk0_72 none 0 ((kF y + ws.length * 4 + ks.length : Nat) : Int) v5
  go_wp2_with fail
  refine K.mono ?_
  clear K p13 nk
  rintro en v6 ⟨rfl, hb⟩
  replace TV := TV.later hb TV.lt
  replace b0 := b0.trans (hb.mono b0.size)
  have nk : ¬ (((kF y + ws.length * 4 + ks.length : Nat) : Int) < 0) := by omega
  clear hb
  have p14 := TV.at 14 rfl
  have K := mk0_73 none 0 ((kF y + ws.length * 4 + ks.length : Nat) : Int) v6
  go_wp2_with fail
  refine K.mono ?_
  clear K p14 nk
  rintro en v7 ⟨rfl, hb⟩
  replace TV := TV.later hb TV.lt
  replace b0 := b0.trans (hb.mono b0.size)
  have nk : ¬ (((kF y + ws.length * 4 + ks.length : Nat) : Int) < 0) := by omega
  clear hb
  have p15 := TV.at 15 rfl
  have K := mk0_74 none 0 ((kF y + ws.length * 4 + ks.length : Nat) : Int) v7
  go_wp2_with fail
  refine K.mono ?_
  clear K p15 nk
  rintro en v8 ⟨rfl, hb⟩
  replace TV := TV.later hb TV.lt
  replace b0 := b0.trans (hb.mono b0.size)
  have nk : ¬ (((kF y + ws.length * 4 + ks.length : Nat) : Int) < 0) := by omega
  clear hb
  go_wp2
  go_ret
  exact ⟨rfl, b0⟩
end Go.Proofs.Ytflajkbbggmdjaa.Nd
