/- A new world is begun, in whatever order. -/
import Derived.Test.YtflajkbbggmdjaaNw1
set_option linter.unusedVariables false
set_option maxRecDepth 100000
namespace Go.Proofs.Ytflajkbbggmdjaa.Nd
open Go Go.RowKit Go.Joins Own Draw

def opsNS : Array Oper := #[{ dst := some 10, op := Op.load 30 (Operand.tmp 1), type := 30, pos := "l10_world.go:53", after := #[], guard := none }, { dst := some 11, op := Op.call { callee := Callee.value (Operand.func 48), args := #[Operand.tmp 10], argTypes := #[30] }, type := 30, pos := "l10_world.go:53", after := #[{ on := 0, ground := Ground.data }], guard := none }, { dst := some 12, op := Op.makeSlice 47 (Operand.const (Value.int IntKind.i64 6)) (Operand.const (Value.int IntKind.i64 6)), type := 47, pos := "l10_world.go:53", after := #[], guard := none }, { dst := some 13, op := Op.build 53 #[(0, Operand.tmp 11), (2, Operand.const (Value.int IntKind.i64 101)), (5, Operand.tmp 12)], type := 53, pos := "l10_world.go:53", after := #[{ on := 1, ground := Ground.data }, { on := 2, ground := Ground.data }], guard := none }, { dst := some 4, op := Op.alloc 53, type := 0, pos := "l10_world.go:53", after := #[], guard := none }, { dst := none, op := Op.store 53 (Operand.tmp 4) (Operand.tmp 13), type := 0, pos := "l10_world.go:53", after := #[{ on := 4, ground := Ground.data }, { on := 3, ground := Ground.data }, { on := 1, ground := Ground.chain }, { on := 0, ground := Ground.phase }, { on := 1, ground := Ground.phase }, { on := 2, ground := Ground.phase }, { on := 3, ground := Ground.phase }, { on := 4, ground := Ground.phase }], guard := none }]
def SNS (Q : Exit → Act → World → Prop) (c : TF) (w0 : World) (fuel : Nat) (L : Array Bool) (uc uw ub ux : Value) (w : World) : Prop :=
  wpAnyH Try.prog Region.Mode.any opsNS Q (SN c w0) fuel L { tmps := #[vF c, .pointer (some ⟨w0.heap.size, 0, none⟩), .pointer (some ⟨w0.heap.size + 1, 0, none⟩), .bool false, ux, undef, .agg #[.slice c.1.1 c.1.2.2.length c.1.2.1, .slice c.2.1.1 c.2.1.2.2.length c.2.1.2.1, .slice c.2.2.1.1 c.2.2.1.2.2.length c.2.2.1.2.1, .slice c.2.2.2.1.1 c.2.2.2.1.2.2.length c.2.2.2.1.2.1, .int .i64 c.2.2.2.2], .bool true, .bool false, undef, .agg #[.slice c.1.1 c.1.2.2.length c.1.2.1, .slice c.2.1.1 c.2.1.2.2.length c.2.1.2.1, .slice c.2.2.1.1 c.2.2.1.2.2.length c.2.2.1.2.1, .slice c.2.2.2.1.1 c.2.2.2.1.2.2.length c.2.2.2.1.2.1, .int .i64 c.2.2.2.2], uc, uw, ub, undef, undef, undef, undef, undef, undef, undef, undef, undef, undef, undef], defers := [] } w
def FinNS (Q : Exit → Act → World → Prop) (c : TF) (w0 : World) : Prop := ∀ (y : TF) (gw : Nat) (gx : Nat) (w : World), SN c w0 w → (stF y = stF c) → (OwF (w0.heap.size + 2) w y) → (FOwn 114 4 cW (w0.heap.size + 2) (some ⟨gw, 0, none⟩) 6 w6 w) → (Blk gx [.slice none 0 0, .slice none 0 0, .slice none 0 0, .slice none 0 0, .int .i64 0, .int .i64 0, .int .i64 0, .slice none 0 0, .slice none 0 0, .slice none 0 0, .slice none 0 0, .slice none 0 0, .slice none 0 0, .slice none 0 0, .slice none 0 0, .slice none 0 0] w) → (w0.heap.size + 2 ≤ gx) → (∀ v ∈ cF y, Ap v (.slice (some ⟨gw, 0, none⟩) 6 6)) → (∀ v ∈ cF y, ∀ k, v.ownBlock = some k → ¬ some gx = some k) → (¬ gw = gx) → SNS Q c w0 1 #[true, true, true, true, true, false] (.agg #[.slice y.1.1 y.1.2.2.length y.1.2.1, .slice y.2.1.1 y.2.1.2.2.length y.2.1.2.1, .slice y.2.2.1.1 y.2.2.1.2.2.length y.2.2.1.2.1, .slice y.2.2.2.1.1 y.2.2.2.1.2.2.length y.2.2.2.1.2.1, .int .i64 y.2.2.2.2]) (.slice (some ⟨gw, 0, none⟩) 6 6) (.agg #[.slice y.1.1 y.1.2.2.length y.1.2.1, .slice y.2.1.1 y.2.1.2.2.length y.2.1.2.1, .slice y.2.2.1.1 y.2.2.1.2.2.length y.2.2.1.2.1, .slice y.2.2.2.1.1 y.2.2.2.1.2.2.length y.2.2.2.1.2.1, .int .i64 y.2.2.2.2, .int .i64 0, .int .i64 101, .slice none 0 0, .slice none 0 0, .slice none 0 0, .slice (some ⟨gw, 0, none⟩) 6 6, .slice none 0 0, .slice none 0 0, .slice none 0 0, .slice none 0 0, .slice none 0 0]) (.pointer (some ⟨gx, 0, none⟩)) w
set_option maxRecDepth 100000 in
set_option maxHeartbeats 1600000 in
theorem nS011 (Q : Exit → Act → World → Prop) (c : TF) (B0 : Nat) (w0 : World) (hd : OwF B0 w0 c) (hl : totF c ≤ 1048576) (HQ : FinNS Q c w0) (HP : ∀ x (a : Act) u (v : Value), Q (.panic x) (a.put (some 13) v) u → Q (.panic x) a u) (gw : Nat) (gx : Nat) (w : World) (hS : SN c w0 w) (OW : FOwn 114 4 cW (w0.heap.size + 2) (some ⟨gw, 0, none⟩) 6 w6 w) (BX : Blk gx [.slice none 0 0, .slice none 0 0, .slice none 0 0, .slice none 0 0, .int .i64 0, .int .i64 0, .int .i64 0, .slice none 0 0, .slice none 0 0, .slice none 0 0, .slice none 0 0, .slice none 0 0, .slice none 0 0, .slice none 0 0, .slice none 0 0, .slice none 0 0] w) (hx : w0.heap.size + 2 ≤ gx) (N3 : ¬ gw = gx) : SNS Q c w0 3 #[true, false, true, false, true, false] undef (.slice (some ⟨gw, 0, none⟩) 6 6) undef (.pointer (some ⟨gx, 0, none⟩)) w := by
  obtain ⟨T, R, B⟩ := hS
  have hw := R.lt
  unfold SNS opsNS
  refine wpAnyH_ready (rs := [1]) (by kernel_rfl) (by simp) ?_
  refine AllReadyH.cons (i := 1) rfl (fun K hK => ?_) AllReadyH.nil
  go_simp
  refine (specCopy_is c w (hd.dp.later B) hl).mono ?_
  rintro en U ⟨y, rfl, hs, OY0, hb⟩
  go_wp2_with fail
  have hlo := ow_low OY0
  have OY : OwF (w0.heap.size + 2) U y := OY0.le (by omega)
  refine hK.out _ _ ⟨T.later hb T.lt, R.later hb R.lt, B.trans (hb.mono B.size)⟩ (fun hS2 => ?_)
  clear hK K
  have gwl : gw < w.heap.size := (World.ownsRow.lt OW gw rfl).2
  have N1 : ∀ v ∈ cF y, Ap v (.slice (some ⟨gw, 0, none⟩) 6 6) := fun v hv k h1 h2 => by have q1 := hlo v hv k h1; injection (show some gw = some k from h2) with h3; omega
  replace OW : FOwn 114 4 cW (w0.heap.size + 2) (some ⟨gw, 0, none⟩) 6 w6 U := own_later OW hb
  have gxl := BX.lt
  have N2 : ∀ v ∈ cF y, ∀ k, v.ownBlock = some k → ¬ some gx = some k := fun v hv k h1 h2 => by have q1 := hlo v hv k h1; injection h2 with h3; omega
  replace BX := BX.later hb BX.lt
  try simp only [List.setIfInBounds_toArray, List.set_cons_zero, List.set_cons_succ]
  refine take_one 3 13 (v := .agg #[.slice y.1.1 y.1.2.2.length y.1.2.1, .slice y.2.1.1 y.2.1.2.2.length y.2.1.2.1, .slice y.2.2.1.1 y.2.2.1.2.2.length y.2.2.1.2.1, .slice y.2.2.2.1.1 y.2.2.2.1.2.2.length y.2.2.2.1.2.1, .int .i64 y.2.2.2.2, .int .i64 0, .int .i64 101, .slice none 0 0, .slice none 0 0, .slice none 0 0, .slice (some ⟨gw, 0, none⟩) 6 6, .slice none 0 0, .slice none 0 0, .slice none 0 0, .slice none 0 0, .slice none 0 0]) rfl rfl (by kernel_rfl) (by kernel_rfl) (by kernel_rfl) (fun x a u h => HP x a u _ h) (Or.inl ⟨by rfl, ?_⟩) hS2 ?_
  · intro w' hSw; go_simp; try with_reducible rfl
  try simp only [Act.put, List.setIfInBounds_toArray, List.set_cons_zero, List.set_cons_succ]
  exact HQ y gw gx _ hS2 hs OY OW BX hx N1 N2 N3
set_option maxRecDepth 100000 in
set_option maxHeartbeats 1600000 in
theorem nS101 (Q : Exit → Act → World → Prop) (c : TF) (B0 : Nat) (w0 : World) (hd : OwF B0 w0 c) (hl : totF c ≤ 1048576) (HQ : FinNS Q c w0) (HP : ∀ x (a : Act) u (v : Value), Q (.panic x) (a.put (some 13) v) u → Q (.panic x) a u) (y : TF) (gx : Nat) (w : World) (hS : SN c w0 w) (hs : stF y = stF c) (OY : OwF (w0.heap.size + 2) w y) (BX : Blk gx [.slice none 0 0, .slice none 0 0, .slice none 0 0, .slice none 0 0, .int .i64 0, .int .i64 0, .int .i64 0, .slice none 0 0, .slice none 0 0, .slice none 0 0, .slice none 0 0, .slice none 0 0, .slice none 0 0, .slice none 0 0, .slice none 0 0, .slice none 0 0] w) (hx : w0.heap.size + 2 ≤ gx) (N2 : ∀ v ∈ cF y, ∀ k, v.ownBlock = some k → ¬ some gx = some k) : SNS Q c w0 3 #[true, true, false, false, true, false] (.agg #[.slice y.1.1 y.1.2.2.length y.1.2.1, .slice y.2.1.1 y.2.1.2.2.length y.2.1.2.1, .slice y.2.2.1.1 y.2.2.1.2.2.length y.2.2.1.2.1, .slice y.2.2.2.1.1 y.2.2.2.1.2.2.length y.2.2.2.1.2.1, .int .i64 y.2.2.2.2]) undef undef (.pointer (some ⟨gx, 0, none⟩)) w := by
  obtain ⟨T, R, B⟩ := hS
  have hw := R.lt
  unfold SNS opsNS
  refine wpAnyH_ready (rs := [2]) (by kernel_rfl) (by simp) ?_
  refine AllReadyH.cons (i := 2) rfl (fun K hK => ?_) AllReadyH.nil
  rw [if_pos (by rfl)]
  refine wp_mk6 rfl ?_
  have hb : Below w.heap.size w (w.alloc (.cells #[.bool false, .int .i64 0, .int .i64 0, .int .i64 0, .bool false, .int .i64 0, .int .i64 0, .int .i64 0, .bool false, .int .i64 0, .int .i64 0, .int .i64 0, .bool false, .int .i64 0, .int .i64 0, .int .i64 0, .bool false, .int .i64 0, .int .i64 0, .int .i64 0, .bool false, .int .i64 0, .int .i64 0, .int .i64 0] 114)) := (Below.refl _ _).alloc (Nat.le_refl _) _
  have OW : FOwn 114 4 cW (w0.heap.size + 2) (some ⟨w.heap.size, 0, none⟩) 6 w6 (w.alloc (.cells #[.bool false, .int .i64 0, .int .i64 0, .int .i64 0, .bool false, .int .i64 0, .int .i64 0, .int .i64 0, .bool false, .int .i64 0, .int .i64 0, .int .i64 0, .bool false, .int .i64 0, .int .i64 0, .int .i64 0, .bool false, .int .i64 0, .int .i64 0, .int .i64 0, .bool false, .int .i64 0, .int .i64 0, .int .i64 0] 114)) := World.ownsRow_lit _ _ _ (by omega) (by simp [maxLen]) rfl
  refine hK.out _ _ ⟨T.later hb T.lt, R.later hb R.lt, B.trans (hb.mono B.size)⟩ (fun hS2 => ?_)
  clear hK K
  have ylt := ow_lt OY
  have N1 : ∀ v ∈ cF y, Ap v (.slice (some ⟨w.heap.size, 0, none⟩) 6 6) := fun v hv k h1 h2 => by have q1 := ylt v hv k h1; injection (show some w.heap.size = some k from h2) with h3; omega
  replace OY := OY.later hb
  have N3 : ¬ w.heap.size = gx := by have := BX.lt; omega
  replace BX := BX.later hb BX.lt
  try simp only [Act.put, List.setIfInBounds_toArray, List.set_cons_zero, List.set_cons_succ]
  refine take_one 3 13 (v := .agg #[.slice y.1.1 y.1.2.2.length y.1.2.1, .slice y.2.1.1 y.2.1.2.2.length y.2.1.2.1, .slice y.2.2.1.1 y.2.2.1.2.2.length y.2.2.1.2.1, .slice y.2.2.2.1.1 y.2.2.2.1.2.2.length y.2.2.2.1.2.1, .int .i64 y.2.2.2.2, .int .i64 0, .int .i64 101, .slice none 0 0, .slice none 0 0, .slice none 0 0, .slice (some ⟨w.heap.size, 0, none⟩) 6 6, .slice none 0 0, .slice none 0 0, .slice none 0 0, .slice none 0 0, .slice none 0 0]) rfl rfl (by kernel_rfl) (by kernel_rfl) (by kernel_rfl) (fun x a u h => HP x a u _ h) (Or.inl ⟨by rfl, ?_⟩) hS2 ?_
  · intro w' hSw; go_simp; try with_reducible rfl
  try simp only [Act.put, List.setIfInBounds_toArray, List.set_cons_zero, List.set_cons_succ]
  exact HQ y w.heap.size gx _ hS2 hs OY OW BX hx N1 N2 N3
set_option maxRecDepth 100000 in
set_option maxHeartbeats 1600000 in
theorem nS110 (Q : Exit → Act → World → Prop) (c : TF) (B0 : Nat) (w0 : World) (hd : OwF B0 w0 c) (hl : totF c ≤ 1048576) (HQ : FinNS Q c w0) (HP : ∀ x (a : Act) u (v : Value), Q (.panic x) (a.put (some 13) v) u → Q (.panic x) a u) (y : TF) (gw : Nat) (w : World) (hS : SN c w0 w) (hs : stF y = stF c) (OY : OwF (w0.heap.size + 2) w y) (OW : FOwn 114 4 cW (w0.heap.size + 2) (some ⟨gw, 0, none⟩) 6 w6 w) (N1 : ∀ v ∈ cF y, Ap v (.slice (some ⟨gw, 0, none⟩) 6 6)) : SNS Q c w0 2 #[true, true, true, true, false, false] (.agg #[.slice y.1.1 y.1.2.2.length y.1.2.1, .slice y.2.1.1 y.2.1.2.2.length y.2.1.2.1, .slice y.2.2.1.1 y.2.2.1.2.2.length y.2.2.1.2.1, .slice y.2.2.2.1.1 y.2.2.2.1.2.2.length y.2.2.2.1.2.1, .int .i64 y.2.2.2.2]) (.slice (some ⟨gw, 0, none⟩) 6 6) (.agg #[.slice y.1.1 y.1.2.2.length y.1.2.1, .slice y.2.1.1 y.2.1.2.2.length y.2.1.2.1, .slice y.2.2.1.1 y.2.2.1.2.2.length y.2.2.1.2.1, .slice y.2.2.2.1.1 y.2.2.2.1.2.2.length y.2.2.2.1.2.1, .int .i64 y.2.2.2.2, .int .i64 0, .int .i64 101, .slice none 0 0, .slice none 0 0, .slice none 0 0, .slice (some ⟨gw, 0, none⟩) 6 6, .slice none 0 0, .slice none 0 0, .slice none 0 0, .slice none 0 0, .slice none 0 0]) undef w := by
  obtain ⟨T, R, B⟩ := hS
  have hw := R.lt
  unfold SNS opsNS
  refine wpAnyH_ready (rs := [4]) (by kernel_rfl) (by simp) ?_
  refine AllReadyH.cons (i := 4) rfl (fun K hK => ?_) AllReadyH.nil
  have hb : Below w.heap.size w (w.alloc (.cells #[.slice none 0 0, .slice none 0 0, .slice none 0 0, .slice none 0 0, .int .i64 0, .int .i64 0, .int .i64 0, .slice none 0 0, .slice none 0 0, .slice none 0 0, .slice none 0 0, .slice none 0 0, .slice none 0 0, .slice none 0 0, .slice none 0 0, .slice none 0 0] 53)) := (Below.refl _ _).alloc (Nat.le_refl _) _
  have BX : Blk w.heap.size [.slice none 0 0, .slice none 0 0, .slice none 0 0, .slice none 0 0, .int .i64 0, .int .i64 0, .int .i64 0, .slice none 0 0, .slice none 0 0, .slice none 0 0, .slice none 0 0, .slice none 0 0, .slice none 0 0, .slice none 0 0, .slice none 0 0, .slice none 0 0] (w.alloc (.cells #[.slice none 0 0, .slice none 0 0, .slice none 0 0, .slice none 0 0, .int .i64 0, .int .i64 0, .int .i64 0, .slice none 0 0, .slice none 0 0, .slice none 0 0, .slice none 0 0, .slice none 0 0, .slice none 0 0, .slice none 0 0, .slice none 0 0, .slice none 0 0] 53)) := Blk.new _ _ _
  go_simp
  refine hK.out _ _ ⟨T.later hb T.lt, R.later hb R.lt, B.trans (hb.mono B.size)⟩ (fun hS2 => ?_)
  clear hK K
  have hx : w0.heap.size + 2 ≤ w.heap.size := by omega
  have ylt := ow_lt OY
  have N2 : ∀ v ∈ cF y, ∀ k, v.ownBlock = some k → ¬ some w.heap.size = some k := fun v hv k h1 h2 => by have q1 := ylt v hv k h1; injection h2 with h3; omega
  replace OY := OY.later hb
  have gwl : gw < w.heap.size := (World.ownsRow.lt OW gw rfl).2
  have N3 : ¬ gw = w.heap.size := by omega
  replace OW : FOwn 114 4 cW (w0.heap.size + 2) (some ⟨gw, 0, none⟩) 6 w6 _ := own_later OW hb
  try simp only [List.setIfInBounds_toArray, List.set_cons_zero, List.set_cons_succ]
  exact HQ y gw w.heap.size _ hS2 hs OY OW BX hx N1 N2 N3
set_option maxRecDepth 100000 in
set_option maxHeartbeats 1600000 in
theorem nS001 (Q : Exit → Act → World → Prop) (c : TF) (B0 : Nat) (w0 : World) (hd : OwF B0 w0 c) (hl : totF c ≤ 1048576) (HQ : FinNS Q c w0) (HP : ∀ x (a : Act) u (v : Value), Q (.panic x) (a.put (some 13) v) u → Q (.panic x) a u) (gx : Nat) (w : World) (hS : SN c w0 w) (BX : Blk gx [.slice none 0 0, .slice none 0 0, .slice none 0 0, .slice none 0 0, .int .i64 0, .int .i64 0, .int .i64 0, .slice none 0 0, .slice none 0 0, .slice none 0 0, .slice none 0 0, .slice none 0 0, .slice none 0 0, .slice none 0 0, .slice none 0 0, .slice none 0 0] w) (hx : w0.heap.size + 2 ≤ gx) : SNS Q c w0 4 #[true, false, false, false, true, false] undef undef undef (.pointer (some ⟨gx, 0, none⟩)) w := by
  obtain ⟨T, R, B⟩ := hS
  have hw := R.lt
  unfold SNS opsNS
  refine wpAnyH_ready (rs := [1, 2]) (by kernel_rfl) (by simp) ?_
  refine AllReadyH.cons (i := 1) rfl (fun K hK => ?_) ?_
  · go_simp
    refine (specCopy_is c w (hd.dp.later B) hl).mono ?_
    rintro en U ⟨y, rfl, hs, OY0, hb⟩
    go_wp2_with fail
    have hlo := ow_low OY0
    have OY : OwF (w0.heap.size + 2) U y := OY0.le (by omega)
    refine hK.out _ _ ⟨T.later hb T.lt, R.later hb R.lt, B.trans (hb.mono B.size)⟩ (fun hS2 => ?_)
    clear hK K
    have gxl := BX.lt
    have N2 : ∀ v ∈ cF y, ∀ k, v.ownBlock = some k → ¬ some gx = some k := fun v hv k h1 h2 => by have q1 := hlo v hv k h1; injection h2 with h3; omega
    replace BX := BX.later hb BX.lt
    try simp only [List.setIfInBounds_toArray, List.set_cons_zero, List.set_cons_succ]
    exact nS101 Q c B0 w0 hd hl HQ HP y gx _ hS2 hs OY BX hx N2
  refine AllReadyH.cons (i := 2) rfl (fun K hK => ?_) AllReadyH.nil
  rw [if_pos (by rfl)]
  refine wp_mk6 rfl ?_
  have hb : Below w.heap.size w (w.alloc (.cells #[.bool false, .int .i64 0, .int .i64 0, .int .i64 0, .bool false, .int .i64 0, .int .i64 0, .int .i64 0, .bool false, .int .i64 0, .int .i64 0, .int .i64 0, .bool false, .int .i64 0, .int .i64 0, .int .i64 0, .bool false, .int .i64 0, .int .i64 0, .int .i64 0, .bool false, .int .i64 0, .int .i64 0, .int .i64 0] 114)) := (Below.refl _ _).alloc (Nat.le_refl _) _
  have OW : FOwn 114 4 cW (w0.heap.size + 2) (some ⟨w.heap.size, 0, none⟩) 6 w6 (w.alloc (.cells #[.bool false, .int .i64 0, .int .i64 0, .int .i64 0, .bool false, .int .i64 0, .int .i64 0, .int .i64 0, .bool false, .int .i64 0, .int .i64 0, .int .i64 0, .bool false, .int .i64 0, .int .i64 0, .int .i64 0, .bool false, .int .i64 0, .int .i64 0, .int .i64 0, .bool false, .int .i64 0, .int .i64 0, .int .i64 0] 114)) := World.ownsRow_lit _ _ _ (by omega) (by simp [maxLen]) rfl
  refine hK.out _ _ ⟨T.later hb T.lt, R.later hb R.lt, B.trans (hb.mono B.size)⟩ (fun hS2 => ?_)
  clear hK K
  have N3 : ¬ w.heap.size = gx := by have := BX.lt; omega
  replace BX := BX.later hb BX.lt
  try simp only [Act.put, List.setIfInBounds_toArray, List.set_cons_zero, List.set_cons_succ]
  exact nS011 Q c B0 w0 hd hl HQ HP w.heap.size gx _ hS2 OW BX hx N3
set_option maxRecDepth 100000 in
set_option maxHeartbeats 1600000 in
theorem nS010 (Q : Exit → Act → World → Prop) (c : TF) (B0 : Nat) (w0 : World) (hd : OwF B0 w0 c) (hl : totF c ≤ 1048576) (HQ : FinNS Q c w0) (HP : ∀ x (a : Act) u (v : Value), Q (.panic x) (a.put (some 13) v) u → Q (.panic x) a u) (gw : Nat) (w : World) (hS : SN c w0 w) (OW : FOwn 114 4 cW (w0.heap.size + 2) (some ⟨gw, 0, none⟩) 6 w6 w) : SNS Q c w0 4 #[true, false, true, false, false, false] undef (.slice (some ⟨gw, 0, none⟩) 6 6) undef undef w := by
  obtain ⟨T, R, B⟩ := hS
  have hw := R.lt
  unfold SNS opsNS
  refine wpAnyH_ready (rs := [1, 4]) (by kernel_rfl) (by simp) ?_
  refine AllReadyH.cons (i := 1) rfl (fun K hK => ?_) ?_
  · go_simp
    refine (specCopy_is c w (hd.dp.later B) hl).mono ?_
    rintro en U ⟨y, rfl, hs, OY0, hb⟩
    go_wp2_with fail
    have hlo := ow_low OY0
    have OY : OwF (w0.heap.size + 2) U y := OY0.le (by omega)
    refine hK.out _ _ ⟨T.later hb T.lt, R.later hb R.lt, B.trans (hb.mono B.size)⟩ (fun hS2 => ?_)
    clear hK K
    have gwl : gw < w.heap.size := (World.ownsRow.lt OW gw rfl).2
    have N1 : ∀ v ∈ cF y, Ap v (.slice (some ⟨gw, 0, none⟩) 6 6) := fun v hv k h1 h2 => by have q1 := hlo v hv k h1; injection (show some gw = some k from h2) with h3; omega
    replace OW : FOwn 114 4 cW (w0.heap.size + 2) (some ⟨gw, 0, none⟩) 6 w6 U := own_later OW hb
    try simp only [List.setIfInBounds_toArray, List.set_cons_zero, List.set_cons_succ]
    refine take_one 3 13 (v := .agg #[.slice y.1.1 y.1.2.2.length y.1.2.1, .slice y.2.1.1 y.2.1.2.2.length y.2.1.2.1, .slice y.2.2.1.1 y.2.2.1.2.2.length y.2.2.1.2.1, .slice y.2.2.2.1.1 y.2.2.2.1.2.2.length y.2.2.2.1.2.1, .int .i64 y.2.2.2.2, .int .i64 0, .int .i64 101, .slice none 0 0, .slice none 0 0, .slice none 0 0, .slice (some ⟨gw, 0, none⟩) 6 6, .slice none 0 0, .slice none 0 0, .slice none 0 0, .slice none 0 0, .slice none 0 0]) rfl rfl (by kernel_rfl) (by kernel_rfl) (by kernel_rfl) (fun x a u h => HP x a u _ h) (Or.inl ⟨by rfl, ?_⟩) hS2 ?_
    · intro w' hSw; go_simp; try with_reducible rfl
    try simp only [Act.put, List.setIfInBounds_toArray, List.set_cons_zero, List.set_cons_succ]
    exact nS110 Q c B0 w0 hd hl HQ HP y gw _ hS2 hs OY OW N1
  refine AllReadyH.cons (i := 4) rfl (fun K hK => ?_) AllReadyH.nil
  have hb : Below w.heap.size w (w.alloc (.cells #[.slice none 0 0, .slice none 0 0, .slice none 0 0, .slice none 0 0, .int .i64 0, .int .i64 0, .int .i64 0, .slice none 0 0, .slice none 0 0, .slice none 0 0, .slice none 0 0, .slice none 0 0, .slice none 0 0, .slice none 0 0, .slice none 0 0, .slice none 0 0] 53)) := (Below.refl _ _).alloc (Nat.le_refl _) _
  have BX : Blk w.heap.size [.slice none 0 0, .slice none 0 0, .slice none 0 0, .slice none 0 0, .int .i64 0, .int .i64 0, .int .i64 0, .slice none 0 0, .slice none 0 0, .slice none 0 0, .slice none 0 0, .slice none 0 0, .slice none 0 0, .slice none 0 0, .slice none 0 0, .slice none 0 0] (w.alloc (.cells #[.slice none 0 0, .slice none 0 0, .slice none 0 0, .slice none 0 0, .int .i64 0, .int .i64 0, .int .i64 0, .slice none 0 0, .slice none 0 0, .slice none 0 0, .slice none 0 0, .slice none 0 0, .slice none 0 0, .slice none 0 0, .slice none 0 0, .slice none 0 0] 53)) := Blk.new _ _ _
  go_simp
  refine hK.out _ _ ⟨T.later hb T.lt, R.later hb R.lt, B.trans (hb.mono B.size)⟩ (fun hS2 => ?_)
  clear hK K
  have hx : w0.heap.size + 2 ≤ w.heap.size := by omega
  have gwl : gw < w.heap.size := (World.ownsRow.lt OW gw rfl).2
  have N3 : ¬ gw = w.heap.size := by omega
  replace OW : FOwn 114 4 cW (w0.heap.size + 2) (some ⟨gw, 0, none⟩) 6 w6 _ := own_later OW hb
  try simp only [List.setIfInBounds_toArray, List.set_cons_zero, List.set_cons_succ]
  exact nS011 Q c B0 w0 hd hl HQ HP gw w.heap.size _ hS2 OW BX hx N3
set_option maxRecDepth 100000 in
set_option maxHeartbeats 1600000 in
theorem nS100 (Q : Exit → Act → World → Prop) (c : TF) (B0 : Nat) (w0 : World) (hd : OwF B0 w0 c) (hl : totF c ≤ 1048576) (HQ : FinNS Q c w0) (HP : ∀ x (a : Act) u (v : Value), Q (.panic x) (a.put (some 13) v) u → Q (.panic x) a u) (y : TF) (w : World) (hS : SN c w0 w) (hs : stF y = stF c) (OY : OwF (w0.heap.size + 2) w y) : SNS Q c w0 4 #[true, true, false, false, false, false] (.agg #[.slice y.1.1 y.1.2.2.length y.1.2.1, .slice y.2.1.1 y.2.1.2.2.length y.2.1.2.1, .slice y.2.2.1.1 y.2.2.1.2.2.length y.2.2.1.2.1, .slice y.2.2.2.1.1 y.2.2.2.1.2.2.length y.2.2.2.1.2.1, .int .i64 y.2.2.2.2]) undef undef undef w := by
  obtain ⟨T, R, B⟩ := hS
  have hw := R.lt
  unfold SNS opsNS
  refine wpAnyH_ready (rs := [2, 4]) (by kernel_rfl) (by simp) ?_
  refine AllReadyH.cons (i := 2) rfl (fun K hK => ?_) ?_
  · rw [if_pos (by rfl)]
    refine wp_mk6 rfl ?_
    have hb : Below w.heap.size w (w.alloc (.cells #[.bool false, .int .i64 0, .int .i64 0, .int .i64 0, .bool false, .int .i64 0, .int .i64 0, .int .i64 0, .bool false, .int .i64 0, .int .i64 0, .int .i64 0, .bool false, .int .i64 0, .int .i64 0, .int .i64 0, .bool false, .int .i64 0, .int .i64 0, .int .i64 0, .bool false, .int .i64 0, .int .i64 0, .int .i64 0] 114)) := (Below.refl _ _).alloc (Nat.le_refl _) _
    have OW : FOwn 114 4 cW (w0.heap.size + 2) (some ⟨w.heap.size, 0, none⟩) 6 w6 (w.alloc (.cells #[.bool false, .int .i64 0, .int .i64 0, .int .i64 0, .bool false, .int .i64 0, .int .i64 0, .int .i64 0, .bool false, .int .i64 0, .int .i64 0, .int .i64 0, .bool false, .int .i64 0, .int .i64 0, .int .i64 0, .bool false, .int .i64 0, .int .i64 0, .int .i64 0, .bool false, .int .i64 0, .int .i64 0, .int .i64 0] 114)) := World.ownsRow_lit _ _ _ (by omega) (by simp [maxLen]) rfl
    refine hK.out _ _ ⟨T.later hb T.lt, R.later hb R.lt, B.trans (hb.mono B.size)⟩ (fun hS2 => ?_)
    clear hK K
    have ylt := ow_lt OY
    have N1 : ∀ v ∈ cF y, Ap v (.slice (some ⟨w.heap.size, 0, none⟩) 6 6) := fun v hv k h1 h2 => by have q1 := ylt v hv k h1; injection (show some w.heap.size = some k from h2) with h3; omega
    replace OY := OY.later hb
    try simp only [Act.put, List.setIfInBounds_toArray, List.set_cons_zero, List.set_cons_succ]
    refine take_one 3 13 (v := .agg #[.slice y.1.1 y.1.2.2.length y.1.2.1, .slice y.2.1.1 y.2.1.2.2.length y.2.1.2.1, .slice y.2.2.1.1 y.2.2.1.2.2.length y.2.2.1.2.1, .slice y.2.2.2.1.1 y.2.2.2.1.2.2.length y.2.2.2.1.2.1, .int .i64 y.2.2.2.2, .int .i64 0, .int .i64 101, .slice none 0 0, .slice none 0 0, .slice none 0 0, .slice (some ⟨w.heap.size, 0, none⟩) 6 6, .slice none 0 0, .slice none 0 0, .slice none 0 0, .slice none 0 0, .slice none 0 0]) rfl rfl (by kernel_rfl) (by kernel_rfl) (by kernel_rfl) (fun x a u h => HP x a u _ h) (Or.inl ⟨by rfl, ?_⟩) hS2 ?_
    · intro w' hSw; go_simp; try with_reducible rfl
    try simp only [Act.put, List.setIfInBounds_toArray, List.set_cons_zero, List.set_cons_succ]
    exact nS110 Q c B0 w0 hd hl HQ HP y w.heap.size _ hS2 hs OY OW N1
  refine AllReadyH.cons (i := 4) rfl (fun K hK => ?_) AllReadyH.nil
  have hb : Below w.heap.size w (w.alloc (.cells #[.slice none 0 0, .slice none 0 0, .slice none 0 0, .slice none 0 0, .int .i64 0, .int .i64 0, .int .i64 0, .slice none 0 0, .slice none 0 0, .slice none 0 0, .slice none 0 0, .slice none 0 0, .slice none 0 0, .slice none 0 0, .slice none 0 0, .slice none 0 0] 53)) := (Below.refl _ _).alloc (Nat.le_refl _) _
  have BX : Blk w.heap.size [.slice none 0 0, .slice none 0 0, .slice none 0 0, .slice none 0 0, .int .i64 0, .int .i64 0, .int .i64 0, .slice none 0 0, .slice none 0 0, .slice none 0 0, .slice none 0 0, .slice none 0 0, .slice none 0 0, .slice none 0 0, .slice none 0 0, .slice none 0 0] (w.alloc (.cells #[.slice none 0 0, .slice none 0 0, .slice none 0 0, .slice none 0 0, .int .i64 0, .int .i64 0, .int .i64 0, .slice none 0 0, .slice none 0 0, .slice none 0 0, .slice none 0 0, .slice none 0 0, .slice none 0 0, .slice none 0 0, .slice none 0 0, .slice none 0 0] 53)) := Blk.new _ _ _
  go_simp
  refine hK.out _ _ ⟨T.later hb T.lt, R.later hb R.lt, B.trans (hb.mono B.size)⟩ (fun hS2 => ?_)
  clear hK K
  have hx : w0.heap.size + 2 ≤ w.heap.size := by omega
  have ylt := ow_lt OY
  have N2 : ∀ v ∈ cF y, ∀ k, v.ownBlock = some k → ¬ some w.heap.size = some k := fun v hv k h1 h2 => by have q1 := ylt v hv k h1; injection h2 with h3; omega
  replace OY := OY.later hb
  try simp only [List.setIfInBounds_toArray, List.set_cons_zero, List.set_cons_succ]
  exact nS101 Q c B0 w0 hd hl HQ HP y w.heap.size _ hS2 hs OY BX hx N2
set_option maxRecDepth 100000 in
set_option maxHeartbeats 1600000 in
theorem nS000 (Q : Exit → Act → World → Prop) (c : TF) (B0 : Nat) (w0 : World) (hd : OwF B0 w0 c) (hl : totF c ≤ 1048576) (HQ : FinNS Q c w0) (HP : ∀ x (a : Act) u (v : Value), Q (.panic x) (a.put (some 13) v) u → Q (.panic x) a u) (w : World) (hS : SN c w0 w) : SNS Q c w0 5 #[true, false, false, false, false, false] undef undef undef undef w := by
  obtain ⟨T, R, B⟩ := hS
  have hw := R.lt
  unfold SNS opsNS
  refine wpAnyH_ready (rs := [1, 2, 4]) (by kernel_rfl) (by simp) ?_
  refine AllReadyH.cons (i := 1) rfl (fun K hK => ?_) ?_
  · go_simp
    refine (specCopy_is c w (hd.dp.later B) hl).mono ?_
    rintro en U ⟨y, rfl, hs, OY0, hb⟩
    go_wp2_with fail
    have hlo := ow_low OY0
    have OY : OwF (w0.heap.size + 2) U y := OY0.le (by omega)
    refine hK.out _ _ ⟨T.later hb T.lt, R.later hb R.lt, B.trans (hb.mono B.size)⟩ (fun hS2 => ?_)
    clear hK K
    try simp only [List.setIfInBounds_toArray, List.set_cons_zero, List.set_cons_succ]
    exact nS100 Q c B0 w0 hd hl HQ HP y _ hS2 hs OY
  refine AllReadyH.cons (i := 2) rfl (fun K hK => ?_) ?_
  · rw [if_pos (by rfl)]
    refine wp_mk6 rfl ?_
    have hb : Below w.heap.size w (w.alloc (.cells #[.bool false, .int .i64 0, .int .i64 0, .int .i64 0, .bool false, .int .i64 0, .int .i64 0, .int .i64 0, .bool false, .int .i64 0, .int .i64 0, .int .i64 0, .bool false, .int .i64 0, .int .i64 0, .int .i64 0, .bool false, .int .i64 0, .int .i64 0, .int .i64 0, .bool false, .int .i64 0, .int .i64 0, .int .i64 0] 114)) := (Below.refl _ _).alloc (Nat.le_refl _) _
    have OW : FOwn 114 4 cW (w0.heap.size + 2) (some ⟨w.heap.size, 0, none⟩) 6 w6 (w.alloc (.cells #[.bool false, .int .i64 0, .int .i64 0, .int .i64 0, .bool false, .int .i64 0, .int .i64 0, .int .i64 0, .bool false, .int .i64 0, .int .i64 0, .int .i64 0, .bool false, .int .i64 0, .int .i64 0, .int .i64 0, .bool false, .int .i64 0, .int .i64 0, .int .i64 0, .bool false, .int .i64 0, .int .i64 0, .int .i64 0] 114)) := World.ownsRow_lit _ _ _ (by omega) (by simp [maxLen]) rfl
    refine hK.out _ _ ⟨T.later hb T.lt, R.later hb R.lt, B.trans (hb.mono B.size)⟩ (fun hS2 => ?_)
    clear hK K
    try simp only [Act.put, List.setIfInBounds_toArray, List.set_cons_zero, List.set_cons_succ]
    exact nS010 Q c B0 w0 hd hl HQ HP w.heap.size _ hS2 OW
  refine AllReadyH.cons (i := 4) rfl (fun K hK => ?_) AllReadyH.nil
  have hb : Below w.heap.size w (w.alloc (.cells #[.slice none 0 0, .slice none 0 0, .slice none 0 0, .slice none 0 0, .int .i64 0, .int .i64 0, .int .i64 0, .slice none 0 0, .slice none 0 0, .slice none 0 0, .slice none 0 0, .slice none 0 0, .slice none 0 0, .slice none 0 0, .slice none 0 0, .slice none 0 0] 53)) := (Below.refl _ _).alloc (Nat.le_refl _) _
  have BX : Blk w.heap.size [.slice none 0 0, .slice none 0 0, .slice none 0 0, .slice none 0 0, .int .i64 0, .int .i64 0, .int .i64 0, .slice none 0 0, .slice none 0 0, .slice none 0 0, .slice none 0 0, .slice none 0 0, .slice none 0 0, .slice none 0 0, .slice none 0 0, .slice none 0 0] (w.alloc (.cells #[.slice none 0 0, .slice none 0 0, .slice none 0 0, .slice none 0 0, .int .i64 0, .int .i64 0, .int .i64 0, .slice none 0 0, .slice none 0 0, .slice none 0 0, .slice none 0 0, .slice none 0 0, .slice none 0 0, .slice none 0 0, .slice none 0 0, .slice none 0 0] 53)) := Blk.new _ _ _
  go_simp
  refine hK.out _ _ ⟨T.later hb T.lt, R.later hb R.lt, B.trans (hb.mono B.size)⟩ (fun hS2 => ?_)
  clear hK K
  have hx : w0.heap.size + 2 ≤ w.heap.size := by omega
  try simp only [List.setIfInBounds_toArray, List.set_cons_zero, List.set_cons_succ]
  exact nS001 Q c B0 w0 hd hl HQ HP w.heap.size _ hS2 BX hx
end Go.Proofs.Ytflajkbbggmdjaa.Nd
