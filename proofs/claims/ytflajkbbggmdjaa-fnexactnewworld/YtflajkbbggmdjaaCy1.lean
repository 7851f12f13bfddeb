/- A Config copied by the model: four rows, made in whatever order. -/
import Derived.Test.YtflajkbbggmdjaaLwC
import Derived.Test.YtflajkbbggmdjaaAppRow
set_option linter.unusedVariables false
set_option maxRecDepth 100000
namespace Go.Proofs.Ytflajkbbggmdjaa.Nd
open Go Go.RowKit Go.Joins Own Draw

theorem wp_append_any {P : Program} (w : World) {o : Oper} {a : Act} {K : Act → World → Prop} {Q : Exit → Act → World → Prop} (s x : Operand) (t : TypeId)
    (ho : o.op = .call { callee := .builtin .append, args := #[s, x], argTypes := #[t, t] })
    (base : Nat) (e : TypeId) (i : TypeInfo) (z : Value) (size bytes : Nat) (ht : P.underlying t = some (.slice e)) (hi : P.info? e = some i) (hz : i.zero = some z)
    (hsize : i.size = size) (hby : i.bytes = bytes) (hzs : z.cells.size = size) (hsz : 0 < size)
    (v : Value) (n : Nat) (xs : List Value) (hs : a.eval s = v) (hown : w.ownsRow base e size v n xs)
    (oa : Option Addr) (m c : Nat) (news : List Value) (hx : a.eval x = .slice oa m c) (hl : news.length = m * size) (hnews : ∀ ad, oa = some ad → ∀ j u, news[j]? = some u → w.cell? (ad.add j) = some u) (h1 : ∀ u ∈ news, u.oneCell' = true)
    (h63 : n + m ≤ maxLen) (hbytes : (n + m) * bytes ≤ 140737488355328) (hbase : base ≤ w.heap.size) (hnil : oa = none → m = 0)
    (h : ∀ v' w', w'.ownsRow base e size v' (n + m) (xs ++ news) → w.grownBy w' v.ownBlock → (v'.ownBlock = v.ownBlock ∨ v'.ownBlock = some w.heap.size) → K (a.put o.dst v') w') : o.wp P a w K Q := by
  cases oa with
  | some ad =>
    obtain ⟨v', w', hr, h2, h3, h4, h5⟩ := run_append_own_at (P := P) w base t o.type e i z size bytes ht hi hz hsize hby hzs hsz v n xs hown ad m c news hl (hnews ad rfl) h1 h63 hbytes hbase
    unfold Oper.wp execOp
    simp only [ho, resolve, invoke, builtin, Sem.run_bind, Sem.run_pure, Result.andThen_ok, List.map_toArray, List.map_cons, List.map_nil, hs, hx, hr]
    exact h v' w' h2 h3 h5
  | none =>
    obtain rfl := hnil rfl
    have hn : news = [] := List.eq_nil_of_length_eq_zero (by simpa using hl)
    subst hn
    have hr := run_append_none t o.type e i ht hi hown c
    unfold Oper.wp execOp
    simp only [ho, resolve, invoke, builtin, Sem.run_bind, Sem.run_pure, Result.andThen_ok, List.map_toArray, List.map_cons, List.map_nil, hs, hx, hr]
    exact h v w (by simpa using hown) (World.grownBy.refl w _) (Or.inl rfl)
theorem wp_build0 {P : Program} {w : World} {o : Oper} {a : Act} {K : Act → World → Prop} {Q : Exit → Act → World → Prop} (t e : TypeId) (ho : o.op = .buildSlice t 0 #[]) (ie : TypeInfo) (z : Value)
    (hu : P.underlying t = some (.slice e)) (hie : P.info? e = some ie) (hz : ie.zero = some z) (h : K (a.put o.dst (.slice (some ⟨w.heap.size, 0, none⟩) 0 0)) (w.alloc (.cells #[] e))) : o.wp P a w K Q := by
  have hr : (Instr.buildSlice t 0 #[]).run P w = .ok (.slice (some ⟨w.heap.size, 0, none⟩) 0 0) (w.alloc (.cells #[] e)) := by
    simp [Instr.buildSlice, run_underlying hu, sizeOf, typeInfo, hie, newRow, Instr.fill]
    exact congrArg (fun x => w.alloc (.cells x e)) (Array.eq_empty_of_size_eq_zero (by simp))
  unfold Oper.wp execOp
  simp only [ho, Sem.run_bind, List.map_toArray, List.map_nil, hr, Result.andThen_ok]
  exact h
def Ap (a b : Value) : Prop := ∀ k, a.ownBlock = some k → ¬ b.ownBlock = some k
theorem Ap.symm {a b : Value} (h : Ap a b) : Ap b a := fun k e f => h k f e
theorem Ap.grow {a b b' : Value} {n : Nat} (h : Ap a b) (h5 : b'.ownBlock = b.ownBlock ∨ b'.ownBlock = some n) (hl : ∀ k, a.ownBlock = some k → k < n) : Ap a b' := by
  intro k hk e
  rcases h5 with h6 | h6
  · rw [h6] at e; exact h k hk e
  · rw [h6] at e; injection e with e; have := hl k hk; omega
theorem Ap.new {a : Value} {n : Nat} (hl : ∀ k, a.ownBlock = some k → k < n) : Ap a (.slice (some ⟨n, 0, none⟩) 0 0) := by
  intro k hk e
  have e2 : some n = some k := e
  injection e2 with e2
  have := hl k hk
  omega
theorem one_pairs (xs : List TP) : ∀ u ∈ fl cP xs, u.oneCell' = true := by
  intro u hu
  obtain ⟨x, _, hx⟩ := List.mem_flatMap.1 hu
  simp only [cP, List.mem_cons, List.not_mem_nil, or_false] at hx
  rcases hx with rfl | rfl <;> rfl
theorem one_ints (ys : List Int) : ∀ u ∈ ys.map (Value.int .i64), u.oneCell' = true := by
  intro u hu
  obtain ⟨x, _, rfl⟩ := List.mem_map.1 hu
  rfl
def ops48 : Array Oper := #[{ dst := some 3, op := Op.buildSlice 22 0 #[], type := 22, pos := "l10_world.go:46", after := #[], guard := none }, { dst := some 4, op := Op.fieldAddr 30 (Operand.tmp 1) 0, type := 0, pos := "l10_world.go:46", after := #[], guard := none }, { dst := some 5, op := Op.load 22 (Operand.tmp 4), type := 22, pos := "l10_world.go:46", after := #[{ on := 1, ground := Ground.data }], guard := none }, { dst := some 6, op := Op.call { callee := Callee.builtin Builtin.append, args := #[Operand.tmp 3, Operand.tmp 5], argTypes := #[22, 22] }, type := 22, pos := "l10_world.go:46", after := #[{ on := 0, ground := Ground.data }, { on := 2, ground := Ground.data }], guard := none }, { dst := some 7, op := Op.buildSlice 22 0 #[], type := 22, pos := "l10_world.go:46", after := #[], guard := none }, { dst := some 8, op := Op.fieldAddr 30 (Operand.tmp 1) 1, type := 0, pos := "l10_world.go:46", after := #[], guard := none }, { dst := some 9, op := Op.load 22 (Operand.tmp 8), type := 22, pos := "l10_world.go:46", after := #[{ on := 5, ground := Ground.data }], guard := none }, { dst := some 10, op := Op.call { callee := Callee.builtin Builtin.append, args := #[Operand.tmp 7, Operand.tmp 9], argTypes := #[22, 22] }, type := 22, pos := "l10_world.go:46", after := #[{ on := 4, ground := Ground.data }, { on := 6, ground := Ground.data }, { on := 3, ground := Ground.chain }], guard := none }, { dst := some 11, op := Op.buildSlice 28 0 #[], type := 28, pos := "l10_world.go:46", after := #[], guard := none }, { dst := some 12, op := Op.fieldAddr 30 (Operand.tmp 1) 2, type := 0, pos := "l10_world.go:46", after := #[], guard := none }, { dst := some 13, op := Op.load 28 (Operand.tmp 12), type := 28, pos := "l10_world.go:46", after := #[{ on := 9, ground := Ground.data }], guard := none }, { dst := some 14, op := Op.call { callee := Callee.builtin Builtin.append, args := #[Operand.tmp 11, Operand.tmp 13], argTypes := #[28, 28] }, type := 28, pos := "l10_world.go:46", after := #[{ on := 8, ground := Ground.data }, { on := 10, ground := Ground.data }, { on := 7, ground := Ground.chain }], guard := none }, { dst := some 15, op := Op.buildSlice 28 0 #[], type := 28, pos := "l10_world.go:46", after := #[], guard := none }, { dst := some 16, op := Op.fieldAddr 30 (Operand.tmp 1) 3, type := 0, pos := "l10_world.go:46", after := #[], guard := none }, { dst := some 17, op := Op.load 28 (Operand.tmp 16), type := 28, pos := "l10_world.go:46", after := #[{ on := 13, ground := Ground.data }], guard := none }, { dst := some 18, op := Op.call { callee := Callee.builtin Builtin.append, args := #[Operand.tmp 15, Operand.tmp 17], argTypes := #[28, 28] }, type := 28, pos := "l10_world.go:46", after := #[{ on := 12, ground := Ground.data }, { on := 14, ground := Ground.data }, { on := 11, ground := Ground.chain }], guard := none }, { dst := some 19, op := Op.fieldAddr 30 (Operand.tmp 1) 4, type := 0, pos := "l10_world.go:46", after := #[], guard := none }, { dst := some 20, op := Op.load 3 (Operand.tmp 19), type := 3, pos := "l10_world.go:46", after := #[{ on := 16, ground := Ground.data }], guard := none }, { dst := some 21, op := Op.build 30 #[(0, Operand.tmp 6), (1, Operand.tmp 10), (2, Operand.tmp 14), (3, Operand.tmp 18), (4, Operand.tmp 20)], type := 30, pos := "l10_world.go:46", after := #[{ on := 3, ground := Ground.data }, { on := 7, ground := Ground.data }, { on := 11, ground := Ground.data }, { on := 15, ground := Ground.data }, { on := 17, ground := Ground.data }], guard := none }, { dst := none, op := Op.store 30 (Operand.tmp 2) (Operand.tmp 21), type := 0, pos := "l10_world.go:46", after := #[{ on := 18, ground := Ground.data }, { on := 15, ground := Ground.chain }, { on := 0, ground := Ground.phase }, { on := 1, ground := Ground.phase }, { on := 2, ground := Ground.phase }, { on := 3, ground := Ground.phase }, { on := 4, ground := Ground.phase }, { on := 5, ground := Ground.phase }, { on := 6, ground := Ground.phase }, { on := 7, ground := Ground.phase }, { on := 8, ground := Ground.phase }, { on := 9, ground := Ground.phase }, { on := 10, ground := Ground.phase }, { on := 11, ground := Ground.phase }, { on := 12, ground := Ground.phase }, { on := 13, ground := Ground.phase }, { on := 14, ground := Ground.phase }, { on := 15, ground := Ground.phase }, { on := 16, ground := Ground.phase }, { on := 17, ground := Ground.phase }, { on := 18, ground := Ground.phase }], guard := none }]
def S48 (c : TF) (w0 : World) : World → Prop := fun U => Blk w0.heap.size [.slice c.1.1 c.1.2.2.length c.1.2.1, .slice c.2.1.1 c.2.1.2.2.length c.2.1.2.1, .slice c.2.2.1.1 c.2.2.1.2.2.length c.2.2.1.2.1, .slice c.2.2.2.1.1 c.2.2.2.1.2.2.length c.2.2.2.1.2.1, .int .i64 c.2.2.2.2] U ∧ (∃ x0 x1 x2 x3 x4 : Value, Blk (w0.heap.size + 1) [x0, x1, x2, x3, x4] U) ∧ Below w0.heap.size w0 U
def St (Q : Exit → Act → World → Prop) (c : TF) (w0 : World) (fuel : Nat) (L : Array Bool) (u3 u6 u7 u10 u11 u14 u15 u18 : Value) (w : World) : Prop :=
  wpAnyH Try.prog Region.Mode.any ops48 Q (S48 c w0) fuel L { tmps := #[vF c, .pointer (some ⟨w0.heap.size, 0, none⟩), .pointer (some ⟨w0.heap.size + 1, 0, none⟩), u3, .pointer (some ⟨w0.heap.size, 0, none⟩), .slice c.1.1 c.1.2.2.length c.1.2.1, u6, u7, .pointer (some ⟨w0.heap.size, 1, none⟩), .slice c.2.1.1 c.2.1.2.2.length c.2.1.2.1, u10, u11, .pointer (some ⟨w0.heap.size, 2, none⟩), .slice c.2.2.1.1 c.2.2.1.2.2.length c.2.2.1.2.1, u14, u15, .pointer (some ⟨w0.heap.size, 3, none⟩), .slice c.2.2.2.1.1 c.2.2.2.1.2.2.length c.2.2.2.1.2.1, u18, .pointer (some ⟨w0.heap.size, 4, none⟩), .int .i64 c.2.2.2.2, undef], defers := [] } w
def Fin48 (Q : Exit → Act → World → Prop) (c : TF) (w0 : World) : Prop := ∀ (b0 : Value) (a0 : Option Addr) (c0 : Nat) (b1 : Value) (a1 : Option Addr) (c1 : Nat) (b2 : Value) (a2 : Option Addr) (c2 : Nat) (b3 : Value) (a3 : Option Addr) (c3 : Nat) (w : World), S48 c w0 w → w.ownsRow (w0.heap.size + 2) 3 1 (.slice a0 c.1.2.2.length c0) c.1.2.2.length (c.1.2.2.map (Value.int .i64)) → w.ownsRow (w0.heap.size + 2) 3 1 (.slice a1 c.2.1.2.2.length c1) c.2.1.2.2.length (c.2.1.2.2.map (Value.int .i64)) → w.ownsRow (w0.heap.size + 2) 100 2 (.slice a2 c.2.2.1.2.2.length c2) c.2.2.1.2.2.length (fl cP c.2.2.1.2.2) → w.ownsRow (w0.heap.size + 2) 100 2 (.slice a3 c.2.2.2.1.2.2.length c3) c.2.2.2.1.2.2.length (fl cP c.2.2.2.1.2.2) → St Q c w0 2 #[true, true, true, true, true, true, true, true, true, true, true, true, true, true, true, true, true, true, false, false] b0 (.slice a0 c.1.2.2.length c0) b1 (.slice a1 c.2.1.2.2.length c1) b2 (.slice a2 c.2.2.1.2.2.length c2) b3 (.slice a3 c.2.2.2.1.2.2.length c3) w
set_option maxRecDepth 100000 in
theorem s2221 (Q : Exit → Act → World → Prop) (c : TF) (w0 : World) (hd : DpF w0 c) (hl : totF c ≤ 1048576) (HQ : Fin48 Q c w0) (b0 : Value) (a0 : Option Addr) (c0 : Nat) (b1 : Value) (a1 : Option Addr) (c1 : Nat) (b2 : Value) (a2 : Option Addr) (c2 : Nat) (g3 : Nat) (w : World) (hS : S48 c w0 w) (O0 : w.ownsRow (w0.heap.size + 2) 3 1 (.slice a0 c.1.2.2.length c0) c.1.2.2.length (c.1.2.2.map (Value.int .i64))) (O1 : w.ownsRow (w0.heap.size + 2) 3 1 (.slice a1 c.2.1.2.2.length c1) c.2.1.2.2.length (c.2.1.2.2.map (Value.int .i64))) (O2 : w.ownsRow (w0.heap.size + 2) 100 2 (.slice a2 c.2.2.1.2.2.length c2) c.2.2.1.2.2.length (fl cP c.2.2.1.2.2)) (O3 : w.ownsRow (w0.heap.size + 2) 100 2 (.slice (some ⟨g3, 0, none⟩) 0 0) 0 ([])) (A01 : Ap (.slice a0 c.1.2.2.length c0) (.slice a1 c.2.1.2.2.length c1)) (A02 : Ap (.slice a0 c.1.2.2.length c0) (.slice a2 c.2.2.1.2.2.length c2)) (A03 : Ap (.slice a0 c.1.2.2.length c0) (.slice (some ⟨g3, 0, none⟩) 0 0)) (A12 : Ap (.slice a1 c.2.1.2.2.length c1) (.slice a2 c.2.2.1.2.2.length c2)) (A13 : Ap (.slice a1 c.2.1.2.2.length c1) (.slice (some ⟨g3, 0, none⟩) 0 0)) (A23 : Ap (.slice a2 c.2.2.1.2.2.length c2) (.slice (some ⟨g3, 0, none⟩) 0 0)) : St Q c w0 3 #[true, true, true, true, true, true, true, true, true, true, true, true, true, true, true, false, true, true, false, false] b0 (.slice a0 c.1.2.2.length c0) b1 (.slice a1 c.2.1.2.2.length c1) b2 (.slice a2 c.2.2.1.2.2.length c2) (.slice (some ⟨g3, 0, none⟩) 0 0) undef w := by
  obtain ⟨T, ⟨x0, x1, x2, x3, x4, R⟩, B⟩ := hS
  have hw := R.lt
  unfold St
  refine wpAnyH_ready (rs := [15]) (by kernel_rfl) (by simp) ?_
  refine AllReadyH.cons (i := 15) rfl (fun K hK => ?_) AllReadyH.nil
  rw [if_pos (by rfl)]
  obtain ⟨i0, hi, hz0, hz1, hz2⟩ := info_parts infoP
  have hr : FRow 2 cP w c.2.2.2.1.1 c.2.2.2.1.2.2 := RpP.later hd.2.2.2 B
  have hnw := news_fl lP (by omega) hr
  have hnn := frow_nil hr
  have hlen : c.2.2.2.1.2.2.length ≤ 1048576 := by unfold totF rtI rtP at hl; omega
  refine wp_append_any w (.tmp 15) (.tmp 17) 28 rfl (w0.heap.size + 2) 100 i0 _ 2 16 Try.underlying28 hi hz0 hz1 hz2 rfl (by decide) _ 0 [] rfl O3 c.2.2.2.1.1 c.2.2.2.1.2.2.length c.2.2.2.1.2.1 (fl cP c.2.2.2.1.2.2) rfl (by rw [fl_len lP]) hnw (one_pairs _) (by unfold maxLen; omega) (by omega) (by omega) hnn ?_
  intro vA wA ownA hg h5
  rw [Nat.zero_add, List.nil_append] at ownA
  obtain ⟨na, nc, rfl, _⟩ := own_shape ownA
  have hob : ∀ k, (Value.slice (some ⟨g3, 0, none⟩) 0 0).ownBlock = some k → w0.heap.size + 2 ≤ k := fun k hk => (O3.lt k hk).1
  refine hK.out _ _ ⟨T.only3 hg (fun h => by have := hob _ h; omega) T.lt, ⟨_, _, _, _, _, R.only3 hg (fun h => by have := hob _ h; omega) R.lt⟩, B.grown hg B.size (fun k hk => by have := hob _ hk; omega)⟩ (fun hS2 => ?_)
  clear hK K
  try simp only [Act.put, List.setIfInBounds_toArray, List.set_cons_zero, List.set_cons_succ]
  exact HQ b0 a0 c0 b1 a1 c1 b2 a2 c2 _ na nc _ hS2 (own_kept O0 hg (fun k e h => (A03) k e h)) (own_kept O1 hg (fun k e h => (A13) k e h)) (own_kept O2 hg (fun k e h => (A23) k e h)) ownA
set_option maxRecDepth 100000 in
theorem s2211 (Q : Exit → Act → World → Prop) (c : TF) (w0 : World) (hd : DpF w0 c) (hl : totF c ≤ 1048576) (HQ : Fin48 Q c w0) (b0 : Value) (a0 : Option Addr) (c0 : Nat) (b1 : Value) (a1 : Option Addr) (c1 : Nat) (g2 : Nat) (g3 : Nat) (w : World) (hS : S48 c w0 w) (O0 : w.ownsRow (w0.heap.size + 2) 3 1 (.slice a0 c.1.2.2.length c0) c.1.2.2.length (c.1.2.2.map (Value.int .i64))) (O1 : w.ownsRow (w0.heap.size + 2) 3 1 (.slice a1 c.2.1.2.2.length c1) c.2.1.2.2.length (c.2.1.2.2.map (Value.int .i64))) (O2 : w.ownsRow (w0.heap.size + 2) 100 2 (.slice (some ⟨g2, 0, none⟩) 0 0) 0 ([])) (O3 : w.ownsRow (w0.heap.size + 2) 100 2 (.slice (some ⟨g3, 0, none⟩) 0 0) 0 ([])) (A01 : Ap (.slice a0 c.1.2.2.length c0) (.slice a1 c.2.1.2.2.length c1)) (A02 : Ap (.slice a0 c.1.2.2.length c0) (.slice (some ⟨g2, 0, none⟩) 0 0)) (A03 : Ap (.slice a0 c.1.2.2.length c0) (.slice (some ⟨g3, 0, none⟩) 0 0)) (A12 : Ap (.slice a1 c.2.1.2.2.length c1) (.slice (some ⟨g2, 0, none⟩) 0 0)) (A13 : Ap (.slice a1 c.2.1.2.2.length c1) (.slice (some ⟨g3, 0, none⟩) 0 0)) (A23 : Ap (.slice (some ⟨g2, 0, none⟩) 0 0) (.slice (some ⟨g3, 0, none⟩) 0 0)) : St Q c w0 4 #[true, true, true, true, true, true, true, true, true, true, true, false, true, true, true, false, true, true, false, false] b0 (.slice a0 c.1.2.2.length c0) b1 (.slice a1 c.2.1.2.2.length c1) (.slice (some ⟨g2, 0, none⟩) 0 0) undef (.slice (some ⟨g3, 0, none⟩) 0 0) undef w := by
  obtain ⟨T, ⟨x0, x1, x2, x3, x4, R⟩, B⟩ := hS
  have hw := R.lt
  unfold St
  refine wpAnyH_ready (rs := [11]) (by kernel_rfl) (by simp) ?_
  refine AllReadyH.cons (i := 11) rfl (fun K hK => ?_) AllReadyH.nil
  rw [if_pos (by rfl)]
  obtain ⟨i0, hi, hz0, hz1, hz2⟩ := info_parts infoP
  have hr : FRow 2 cP w c.2.2.1.1 c.2.2.1.2.2 := RpP.later hd.2.2.1 B
  have hnw := news_fl lP (by omega) hr
  have hnn := frow_nil hr
  have hlen : c.2.2.1.2.2.length ≤ 1048576 := by unfold totF rtI rtP at hl; omega
  refine wp_append_any w (.tmp 11) (.tmp 13) 28 rfl (w0.heap.size + 2) 100 i0 _ 2 16 Try.underlying28 hi hz0 hz1 hz2 rfl (by decide) _ 0 [] rfl O2 c.2.2.1.1 c.2.2.1.2.2.length c.2.2.1.2.1 (fl cP c.2.2.1.2.2) rfl (by rw [fl_len lP]) hnw (one_pairs _) (by unfold maxLen; omega) (by omega) (by omega) hnn ?_
  intro vA wA ownA hg h5
  rw [Nat.zero_add, List.nil_append] at ownA
  obtain ⟨na, nc, rfl, _⟩ := own_shape ownA
  have hob : ∀ k, (Value.slice (some ⟨g2, 0, none⟩) 0 0).ownBlock = some k → w0.heap.size + 2 ≤ k := fun k hk => (O2.lt k hk).1
  refine hK.out _ _ ⟨T.only3 hg (fun h => by have := hob _ h; omega) T.lt, ⟨_, _, _, _, _, R.only3 hg (fun h => by have := hob _ h; omega) R.lt⟩, B.grown hg B.size (fun k hk => by have := hob _ hk; omega)⟩ (fun hS2 => ?_)
  clear hK K
  try simp only [Act.put, List.setIfInBounds_toArray, List.set_cons_zero, List.set_cons_succ]
  exact s2221 Q c w0 hd hl HQ b0 a0 c0 b1 a1 c1 _ na nc g3 _ hS2 (own_kept O0 hg (fun k e h => (A02) k e h)) (own_kept O1 hg (fun k e h => (A12) k e h)) ownA (own_kept O3 hg (fun k e h => (A23.symm) k e h)) A01 (A02.grow h5 (fun k hk => (O0.lt k hk).2)) A03 (A12.grow h5 (fun k hk => (O1.lt k hk).2)) A13 (A23.symm.grow h5 (fun k hk => (O3.lt k hk).2)).symm
set_option maxRecDepth 100000 in
theorem s2220 (Q : Exit → Act → World → Prop) (c : TF) (w0 : World) (hd : DpF w0 c) (hl : totF c ≤ 1048576) (HQ : Fin48 Q c w0) (b0 : Value) (a0 : Option Addr) (c0 : Nat) (b1 : Value) (a1 : Option Addr) (c1 : Nat) (b2 : Value) (a2 : Option Addr) (c2 : Nat) (w : World) (hS : S48 c w0 w) (O0 : w.ownsRow (w0.heap.size + 2) 3 1 (.slice a0 c.1.2.2.length c0) c.1.2.2.length (c.1.2.2.map (Value.int .i64))) (O1 : w.ownsRow (w0.heap.size + 2) 3 1 (.slice a1 c.2.1.2.2.length c1) c.2.1.2.2.length (c.2.1.2.2.map (Value.int .i64))) (O2 : w.ownsRow (w0.heap.size + 2) 100 2 (.slice a2 c.2.2.1.2.2.length c2) c.2.2.1.2.2.length (fl cP c.2.2.1.2.2)) (A01 : Ap (.slice a0 c.1.2.2.length c0) (.slice a1 c.2.1.2.2.length c1)) (A02 : Ap (.slice a0 c.1.2.2.length c0) (.slice a2 c.2.2.1.2.2.length c2)) (A12 : Ap (.slice a1 c.2.1.2.2.length c1) (.slice a2 c.2.2.1.2.2.length c2)) : St Q c w0 4 #[true, true, true, true, true, true, true, true, true, true, true, true, false, true, true, false, true, true, false, false] b0 (.slice a0 c.1.2.2.length c0) b1 (.slice a1 c.2.1.2.2.length c1) b2 (.slice a2 c.2.2.1.2.2.length c2) undef undef w := by
  obtain ⟨T, ⟨x0, x1, x2, x3, x4, R⟩, B⟩ := hS
  have hw := R.lt
  unfold St
  refine wpAnyH_ready (rs := [12]) (by kernel_rfl) (by simp) ?_
  refine AllReadyH.cons (i := 12) rfl (fun K hK => ?_) AllReadyH.nil
  rw [if_pos (by rfl)]
  obtain ⟨i0, hi, hz0, hz1, hz2⟩ := info_parts infoP
  refine wp_build0 28 100 rfl i0 _ Try.underlying28 hi hz0 ?_
  refine hK.out _ _ ⟨T.alloc T.lt _, ⟨_, _, _, _, _, R.alloc R.lt _⟩, B.alloc B.size _⟩ (fun hS2 => ?_)
  clear hK K
  have N3 : (w.alloc (.cells #[] 100)).ownsRow (w0.heap.size + 2) 100 2 (.slice (some ⟨w.heap.size, 0, none⟩) 0 0) 0 ([]) := World.ownsRow_lit _ _ _ (by omega) (by simp [maxLen]) rfl
  try simp only [Act.put, List.setIfInBounds_toArray, List.set_cons_zero, List.set_cons_succ]
  exact s2221 Q c w0 hd hl HQ b0 a0 c0 b1 a1 c1 b2 a2 c2 w.heap.size _ hS2 (O0.alloc _) (O1.alloc _) (O2.alloc _) N3 A01 A02 (Ap.new (fun k hk => (O0.lt k hk).2)) A12 (Ap.new (fun k hk => (O1.lt k hk).2)) (Ap.new (fun k hk => (O2.lt k hk).2))
set_option maxRecDepth 100000 in
theorem s2111 (Q : Exit → Act → World → Prop) (c : TF) (w0 : World) (hd : DpF w0 c) (hl : totF c ≤ 1048576) (HQ : Fin48 Q c w0) (b0 : Value) (a0 : Option Addr) (c0 : Nat) (g1 : Nat) (g2 : Nat) (g3 : Nat) (w : World) (hS : S48 c w0 w) (O0 : w.ownsRow (w0.heap.size + 2) 3 1 (.slice a0 c.1.2.2.length c0) c.1.2.2.length (c.1.2.2.map (Value.int .i64))) (O1 : w.ownsRow (w0.heap.size + 2) 3 1 (.slice (some ⟨g1, 0, none⟩) 0 0) 0 ([])) (O2 : w.ownsRow (w0.heap.size + 2) 100 2 (.slice (some ⟨g2, 0, none⟩) 0 0) 0 ([])) (O3 : w.ownsRow (w0.heap.size + 2) 100 2 (.slice (some ⟨g3, 0, none⟩) 0 0) 0 ([])) (A01 : Ap (.slice a0 c.1.2.2.length c0) (.slice (some ⟨g1, 0, none⟩) 0 0)) (A02 : Ap (.slice a0 c.1.2.2.length c0) (.slice (some ⟨g2, 0, none⟩) 0 0)) (A03 : Ap (.slice a0 c.1.2.2.length c0) (.slice (some ⟨g3, 0, none⟩) 0 0)) (A12 : Ap (.slice (some ⟨g1, 0, none⟩) 0 0) (.slice (some ⟨g2, 0, none⟩) 0 0)) (A13 : Ap (.slice (some ⟨g1, 0, none⟩) 0 0) (.slice (some ⟨g3, 0, none⟩) 0 0)) (A23 : Ap (.slice (some ⟨g2, 0, none⟩) 0 0) (.slice (some ⟨g3, 0, none⟩) 0 0)) : St Q c w0 5 #[true, true, true, true, true, true, true, false, true, true, true, false, true, true, true, false, true, true, false, false] b0 (.slice a0 c.1.2.2.length c0) (.slice (some ⟨g1, 0, none⟩) 0 0) undef (.slice (some ⟨g2, 0, none⟩) 0 0) undef (.slice (some ⟨g3, 0, none⟩) 0 0) undef w := by
  obtain ⟨T, ⟨x0, x1, x2, x3, x4, R⟩, B⟩ := hS
  have hw := R.lt
  unfold St
  refine wpAnyH_ready (rs := [7]) (by kernel_rfl) (by simp) ?_
  refine AllReadyH.cons (i := 7) rfl (fun K hK => ?_) AllReadyH.nil
  rw [if_pos (by rfl)]
  obtain ⟨i0, hi, hz0, hz1, hz2⟩ := info_parts infoInt
  have hr : RowAt (Value.int .i64) w c.2.1.1 c.2.1.2.2 := RpI.later hd.2.1 B
  have hnw := news_row hr
  have hnn := row_nil hr
  have hlen : c.2.1.2.2.length ≤ 1048576 := by unfold totF rtI rtP at hl; omega
  refine wp_append_any w (.tmp 7) (.tmp 9) 22 rfl (w0.heap.size + 2) 3 i0 _ 1 8 Try.underlying22 hi hz0 hz1 hz2 rfl (by decide) _ 0 [] rfl O1 c.2.1.1 c.2.1.2.2.length c.2.1.2.1 (c.2.1.2.2.map (Value.int .i64)) rfl (by simp) hnw (one_ints _) (by unfold maxLen; omega) (by omega) (by omega) hnn ?_
  intro vA wA ownA hg h5
  rw [Nat.zero_add, List.nil_append] at ownA
  obtain ⟨na, nc, rfl, _⟩ := own_shape ownA
  have hob : ∀ k, (Value.slice (some ⟨g1, 0, none⟩) 0 0).ownBlock = some k → w0.heap.size + 2 ≤ k := fun k hk => (O1.lt k hk).1
  refine hK.out _ _ ⟨T.only3 hg (fun h => by have := hob _ h; omega) T.lt, ⟨_, _, _, _, _, R.only3 hg (fun h => by have := hob _ h; omega) R.lt⟩, B.grown hg B.size (fun k hk => by have := hob _ hk; omega)⟩ (fun hS2 => ?_)
  clear hK K
  try simp only [Act.put, List.setIfInBounds_toArray, List.set_cons_zero, List.set_cons_succ]
  exact s2211 Q c w0 hd hl HQ b0 a0 c0 _ na nc g2 g3 _ hS2 (own_kept O0 hg (fun k e h => (A01) k e h)) ownA (own_kept O2 hg (fun k e h => (A12.symm) k e h)) (own_kept O3 hg (fun k e h => (A13.symm) k e h)) (A01.grow h5 (fun k hk => (O0.lt k hk).2)) A02 A03 (A12.symm.grow h5 (fun k hk => (O2.lt k hk).2)).symm (A13.symm.grow h5 (fun k hk => (O3.lt k hk).2)).symm A23
set_option maxRecDepth 100000 in
theorem s2201 (Q : Exit → Act → World → Prop) (c : TF) (w0 : World) (hd : DpF w0 c) (hl : totF c ≤ 1048576) (HQ : Fin48 Q c w0) (b0 : Value) (a0 : Option Addr) (c0 : Nat) (b1 : Value) (a1 : Option Addr) (c1 : Nat) (g3 : Nat) (w : World) (hS : S48 c w0 w) (O0 : w.ownsRow (w0.heap.size + 2) 3 1 (.slice a0 c.1.2.2.length c0) c.1.2.2.length (c.1.2.2.map (Value.int .i64))) (O1 : w.ownsRow (w0.heap.size + 2) 3 1 (.slice a1 c.2.1.2.2.length c1) c.2.1.2.2.length (c.2.1.2.2.map (Value.int .i64))) (O3 : w.ownsRow (w0.heap.size + 2) 100 2 (.slice (some ⟨g3, 0, none⟩) 0 0) 0 ([])) (A01 : Ap (.slice a0 c.1.2.2.length c0) (.slice a1 c.2.1.2.2.length c1)) (A03 : Ap (.slice a0 c.1.2.2.length c0) (.slice (some ⟨g3, 0, none⟩) 0 0)) (A13 : Ap (.slice a1 c.2.1.2.2.length c1) (.slice (some ⟨g3, 0, none⟩) 0 0)) : St Q c w0 5 #[true, true, true, true, true, true, true, true, false, true, true, false, true, true, true, false, true, true, false, false] b0 (.slice a0 c.1.2.2.length c0) b1 (.slice a1 c.2.1.2.2.length c1) undef undef (.slice (some ⟨g3, 0, none⟩) 0 0) undef w := by
  obtain ⟨T, ⟨x0, x1, x2, x3, x4, R⟩, B⟩ := hS
  have hw := R.lt
  unfold St
  refine wpAnyH_ready (rs := [8]) (by kernel_rfl) (by simp) ?_
  refine AllReadyH.cons (i := 8) rfl (fun K hK => ?_) AllReadyH.nil
  rw [if_pos (by rfl)]
  obtain ⟨i0, hi, hz0, hz1, hz2⟩ := info_parts infoP
  refine wp_build0 28 100 rfl i0 _ Try.underlying28 hi hz0 ?_
  refine hK.out _ _ ⟨T.alloc T.lt _, ⟨_, _, _, _, _, R.alloc R.lt _⟩, B.alloc B.size _⟩ (fun hS2 => ?_)
  clear hK K
  have N2 : (w.alloc (.cells #[] 100)).ownsRow (w0.heap.size + 2) 100 2 (.slice (some ⟨w.heap.size, 0, none⟩) 0 0) 0 ([]) := World.ownsRow_lit _ _ _ (by omega) (by simp [maxLen]) rfl
  try simp only [Act.put, List.setIfInBounds_toArray, List.set_cons_zero, List.set_cons_succ]
  exact s2211 Q c w0 hd hl HQ b0 a0 c0 b1 a1 c1 w.heap.size g3 _ hS2 (O0.alloc _) (O1.alloc _) N2 (O3.alloc _) A01 (Ap.new (fun k hk => (O0.lt k hk).2)) A03 (Ap.new (fun k hk => (O1.lt k hk).2)) A13 (Ap.new (fun k hk => (O3.lt k hk).2)).symm
set_option maxRecDepth 100000 in
theorem s2210 (Q : Exit → Act → World → Prop) (c : TF) (w0 : World) (hd : DpF w0 c) (hl : totF c ≤ 1048576) (HQ : Fin48 Q c w0) (b0 : Value) (a0 : Option Addr) (c0 : Nat) (b1 : Value) (a1 : Option Addr) (c1 : Nat) (g2 : Nat) (w : World) (hS : S48 c w0 w) (O0 : w.ownsRow (w0.heap.size + 2) 3 1 (.slice a0 c.1.2.2.length c0) c.1.2.2.length (c.1.2.2.map (Value.int .i64))) (O1 : w.ownsRow (w0.heap.size + 2) 3 1 (.slice a1 c.2.1.2.2.length c1) c.2.1.2.2.length (c.2.1.2.2.map (Value.int .i64))) (O2 : w.ownsRow (w0.heap.size + 2) 100 2 (.slice (some ⟨g2, 0, none⟩) 0 0) 0 ([])) (A01 : Ap (.slice a0 c.1.2.2.length c0) (.slice a1 c.2.1.2.2.length c1)) (A02 : Ap (.slice a0 c.1.2.2.length c0) (.slice (some ⟨g2, 0, none⟩) 0 0)) (A12 : Ap (.slice a1 c.2.1.2.2.length c1) (.slice (some ⟨g2, 0, none⟩) 0 0)) : St Q c w0 5 #[true, true, true, true, true, true, true, true, true, true, true, false, false, true, true, false, true, true, false, false] b0 (.slice a0 c.1.2.2.length c0) b1 (.slice a1 c.2.1.2.2.length c1) (.slice (some ⟨g2, 0, none⟩) 0 0) undef undef undef w := by
  obtain ⟨T, ⟨x0, x1, x2, x3, x4, R⟩, B⟩ := hS
  have hw := R.lt
  unfold St
  refine wpAnyH_ready (rs := [11, 12]) (by kernel_rfl) (by simp) ?_
  refine AllReadyH.cons (i := 11) rfl (fun K hK => ?_) ?_
  · rw [if_pos (by rfl)]
    obtain ⟨i0, hi, hz0, hz1, hz2⟩ := info_parts infoP
    have hr : FRow 2 cP w c.2.2.1.1 c.2.2.1.2.2 := RpP.later hd.2.2.1 B
    have hnw := news_fl lP (by omega) hr
    have hnn := frow_nil hr
    have hlen : c.2.2.1.2.2.length ≤ 1048576 := by unfold totF rtI rtP at hl; omega
    refine wp_append_any w (.tmp 11) (.tmp 13) 28 rfl (w0.heap.size + 2) 100 i0 _ 2 16 Try.underlying28 hi hz0 hz1 hz2 rfl (by decide) _ 0 [] rfl O2 c.2.2.1.1 c.2.2.1.2.2.length c.2.2.1.2.1 (fl cP c.2.2.1.2.2) rfl (by rw [fl_len lP]) hnw (one_pairs _) (by unfold maxLen; omega) (by omega) (by omega) hnn ?_
    intro vA wA ownA hg h5
    rw [Nat.zero_add, List.nil_append] at ownA
    obtain ⟨na, nc, rfl, _⟩ := own_shape ownA
    have hob : ∀ k, (Value.slice (some ⟨g2, 0, none⟩) 0 0).ownBlock = some k → w0.heap.size + 2 ≤ k := fun k hk => (O2.lt k hk).1
    refine hK.out _ _ ⟨T.only3 hg (fun h => by have := hob _ h; omega) T.lt, ⟨_, _, _, _, _, R.only3 hg (fun h => by have := hob _ h; omega) R.lt⟩, B.grown hg B.size (fun k hk => by have := hob _ hk; omega)⟩ (fun hS2 => ?_)
    clear hK K
    try simp only [Act.put, List.setIfInBounds_toArray, List.set_cons_zero, List.set_cons_succ]
    exact s2220 Q c w0 hd hl HQ b0 a0 c0 b1 a1 c1 _ na nc _ hS2 (own_kept O0 hg (fun k e h => (A02) k e h)) (own_kept O1 hg (fun k e h => (A12) k e h)) ownA A01 (A02.grow h5 (fun k hk => (O0.lt k hk).2)) (A12.grow h5 (fun k hk => (O1.lt k hk).2))
  refine AllReadyH.cons (i := 12) rfl (fun K hK => ?_) AllReadyH.nil
  rw [if_pos (by rfl)]
  obtain ⟨i0, hi, hz0, hz1, hz2⟩ := info_parts infoP
  refine wp_build0 28 100 rfl i0 _ Try.underlying28 hi hz0 ?_
  refine hK.out _ _ ⟨T.alloc T.lt _, ⟨_, _, _, _, _, R.alloc R.lt _⟩, B.alloc B.size _⟩ (fun hS2 => ?_)
  clear hK K
  have N3 : (w.alloc (.cells #[] 100)).ownsRow (w0.heap.size + 2) 100 2 (.slice (some ⟨w.heap.size, 0, none⟩) 0 0) 0 ([]) := World.ownsRow_lit _ _ _ (by omega) (by simp [maxLen]) rfl
  try simp only [Act.put, List.setIfInBounds_toArray, List.set_cons_zero, List.set_cons_succ]
  exact s2211 Q c w0 hd hl HQ b0 a0 c0 b1 a1 c1 g2 w.heap.size _ hS2 (O0.alloc _) (O1.alloc _) (O2.alloc _) N3 A01 A02 (Ap.new (fun k hk => (O0.lt k hk).2)) A12 (Ap.new (fun k hk => (O1.lt k hk).2)) (Ap.new (fun k hk => (O2.lt k hk).2))
set_option maxRecDepth 100000 in
theorem s1111 (Q : Exit → Act → World → Prop) (c : TF) (w0 : World) (hd : DpF w0 c) (hl : totF c ≤ 1048576) (HQ : Fin48 Q c w0) (g0 : Nat) (g1 : Nat) (g2 : Nat) (g3 : Nat) (w : World) (hS : S48 c w0 w) (O0 : w.ownsRow (w0.heap.size + 2) 3 1 (.slice (some ⟨g0, 0, none⟩) 0 0) 0 ([])) (O1 : w.ownsRow (w0.heap.size + 2) 3 1 (.slice (some ⟨g1, 0, none⟩) 0 0) 0 ([])) (O2 : w.ownsRow (w0.heap.size + 2) 100 2 (.slice (some ⟨g2, 0, none⟩) 0 0) 0 ([])) (O3 : w.ownsRow (w0.heap.size + 2) 100 2 (.slice (some ⟨g3, 0, none⟩) 0 0) 0 ([])) (A01 : Ap (.slice (some ⟨g0, 0, none⟩) 0 0) (.slice (some ⟨g1, 0, none⟩) 0 0)) (A02 : Ap (.slice (some ⟨g0, 0, none⟩) 0 0) (.slice (some ⟨g2, 0, none⟩) 0 0)) (A03 : Ap (.slice (some ⟨g0, 0, none⟩) 0 0) (.slice (some ⟨g3, 0, none⟩) 0 0)) (A12 : Ap (.slice (some ⟨g1, 0, none⟩) 0 0) (.slice (some ⟨g2, 0, none⟩) 0 0)) (A13 : Ap (.slice (some ⟨g1, 0, none⟩) 0 0) (.slice (some ⟨g3, 0, none⟩) 0 0)) (A23 : Ap (.slice (some ⟨g2, 0, none⟩) 0 0) (.slice (some ⟨g3, 0, none⟩) 0 0)) : St Q c w0 6 #[true, true, true, false, true, true, true, false, true, true, true, false, true, true, true, false, true, true, false, false] (.slice (some ⟨g0, 0, none⟩) 0 0) undef (.slice (some ⟨g1, 0, none⟩) 0 0) undef (.slice (some ⟨g2, 0, none⟩) 0 0) undef (.slice (some ⟨g3, 0, none⟩) 0 0) undef w := by
  obtain ⟨T, ⟨x0, x1, x2, x3, x4, R⟩, B⟩ := hS
  have hw := R.lt
  unfold St
  refine wpAnyH_ready (rs := [3]) (by kernel_rfl) (by simp) ?_
  refine AllReadyH.cons (i := 3) rfl (fun K hK => ?_) AllReadyH.nil
  rw [if_pos (by rfl)]
  obtain ⟨i0, hi, hz0, hz1, hz2⟩ := info_parts infoInt
  have hr : RowAt (Value.int .i64) w c.1.1 c.1.2.2 := RpI.later hd.1 B
  have hnw := news_row hr
  have hnn := row_nil hr
  have hlen : c.1.2.2.length ≤ 1048576 := by unfold totF rtI rtP at hl; omega
  refine wp_append_any w (.tmp 3) (.tmp 5) 22 rfl (w0.heap.size + 2) 3 i0 _ 1 8 Try.underlying22 hi hz0 hz1 hz2 rfl (by decide) _ 0 [] rfl O0 c.1.1 c.1.2.2.length c.1.2.1 (c.1.2.2.map (Value.int .i64)) rfl (by simp) hnw (one_ints _) (by unfold maxLen; omega) (by omega) (by omega) hnn ?_
  intro vA wA ownA hg h5
  rw [Nat.zero_add, List.nil_append] at ownA
  obtain ⟨na, nc, rfl, _⟩ := own_shape ownA
  have hob : ∀ k, (Value.slice (some ⟨g0, 0, none⟩) 0 0).ownBlock = some k → w0.heap.size + 2 ≤ k := fun k hk => (O0.lt k hk).1
  refine hK.out _ _ ⟨T.only3 hg (fun h => by have := hob _ h; omega) T.lt, ⟨_, _, _, _, _, R.only3 hg (fun h => by have := hob _ h; omega) R.lt⟩, B.grown hg B.size (fun k hk => by have := hob _ hk; omega)⟩ (fun hS2 => ?_)
  clear hK K
  try simp only [Act.put, List.setIfInBounds_toArray, List.set_cons_zero, List.set_cons_succ]
  exact s2111 Q c w0 hd hl HQ _ na nc g1 g2 g3 _ hS2 ownA (own_kept O1 hg (fun k e h => (A01.symm) k e h)) (own_kept O2 hg (fun k e h => (A02.symm) k e h)) (own_kept O3 hg (fun k e h => (A03.symm) k e h)) (A01.symm.grow h5 (fun k hk => (O1.lt k hk).2)).symm (A02.symm.grow h5 (fun k hk => (O2.lt k hk).2)).symm (A03.symm.grow h5 (fun k hk => (O3.lt k hk).2)).symm A12 A13 A23
set_option maxRecDepth 100000 in
theorem s2011 (Q : Exit → Act → World → Prop) (c : TF) (w0 : World) (hd : DpF w0 c) (hl : totF c ≤ 1048576) (HQ : Fin48 Q c w0) (b0 : Value) (a0 : Option Addr) (c0 : Nat) (g2 : Nat) (g3 : Nat) (w : World) (hS : S48 c w0 w) (O0 : w.ownsRow (w0.heap.size + 2) 3 1 (.slice a0 c.1.2.2.length c0) c.1.2.2.length (c.1.2.2.map (Value.int .i64))) (O2 : w.ownsRow (w0.heap.size + 2) 100 2 (.slice (some ⟨g2, 0, none⟩) 0 0) 0 ([])) (O3 : w.ownsRow (w0.heap.size + 2) 100 2 (.slice (some ⟨g3, 0, none⟩) 0 0) 0 ([])) (A02 : Ap (.slice a0 c.1.2.2.length c0) (.slice (some ⟨g2, 0, none⟩) 0 0)) (A03 : Ap (.slice a0 c.1.2.2.length c0) (.slice (some ⟨g3, 0, none⟩) 0 0)) (A23 : Ap (.slice (some ⟨g2, 0, none⟩) 0 0) (.slice (some ⟨g3, 0, none⟩) 0 0)) : St Q c w0 6 #[true, true, true, true, false, true, true, false, true, true, true, false, true, true, true, false, true, true, false, false] b0 (.slice a0 c.1.2.2.length c0) undef undef (.slice (some ⟨g2, 0, none⟩) 0 0) undef (.slice (some ⟨g3, 0, none⟩) 0 0) undef w := by
  obtain ⟨T, ⟨x0, x1, x2, x3, x4, R⟩, B⟩ := hS
  have hw := R.lt
  unfold St
  refine wpAnyH_ready (rs := [4]) (by kernel_rfl) (by simp) ?_
  refine AllReadyH.cons (i := 4) rfl (fun K hK => ?_) AllReadyH.nil
  rw [if_pos (by rfl)]
  obtain ⟨i0, hi, hz0, hz1, hz2⟩ := info_parts infoInt
  refine wp_build0 22 3 rfl i0 _ Try.underlying22 hi hz0 ?_
  refine hK.out _ _ ⟨T.alloc T.lt _, ⟨_, _, _, _, _, R.alloc R.lt _⟩, B.alloc B.size _⟩ (fun hS2 => ?_)
  clear hK K
  have N1 : (w.alloc (.cells #[] 3)).ownsRow (w0.heap.size + 2) 3 1 (.slice (some ⟨w.heap.size, 0, none⟩) 0 0) 0 ([]) := World.ownsRow_lit _ _ _ (by omega) (by simp [maxLen]) rfl
  try simp only [Act.put, List.setIfInBounds_toArray, List.set_cons_zero, List.set_cons_succ]
  exact s2111 Q c w0 hd hl HQ b0 a0 c0 w.heap.size g2 g3 _ hS2 (O0.alloc _) N1 (O2.alloc _) (O3.alloc _) (Ap.new (fun k hk => (O0.lt k hk).2)) A02 A03 (Ap.new (fun k hk => (O2.lt k hk).2)).symm (Ap.new (fun k hk => (O3.lt k hk).2)).symm A23
set_option maxRecDepth 100000 in
theorem s2101 (Q : Exit → Act → World → Prop) (c : TF) (w0 : World) (hd : DpF w0 c) (hl : totF c ≤ 1048576) (HQ : Fin48 Q c w0) (b0 : Value) (a0 : Option Addr) (c0 : Nat) (g1 : Nat) (g3 : Nat) (w : World) (hS : S48 c w0 w) (O0 : w.ownsRow (w0.heap.size + 2) 3 1 (.slice a0 c.1.2.2.length c0) c.1.2.2.length (c.1.2.2.map (Value.int .i64))) (O1 : w.ownsRow (w0.heap.size + 2) 3 1 (.slice (some ⟨g1, 0, none⟩) 0 0) 0 ([])) (O3 : w.ownsRow (w0.heap.size + 2) 100 2 (.slice (some ⟨g3, 0, none⟩) 0 0) 0 ([])) (A01 : Ap (.slice a0 c.1.2.2.length c0) (.slice (some ⟨g1, 0, none⟩) 0 0)) (A03 : Ap (.slice a0 c.1.2.2.length c0) (.slice (some ⟨g3, 0, none⟩) 0 0)) (A13 : Ap (.slice (some ⟨g1, 0, none⟩) 0 0) (.slice (some ⟨g3, 0, none⟩) 0 0)) : St Q c w0 6 #[true, true, true, true, true, true, true, false, false, true, true, false, true, true, true, false, true, true, false, false] b0 (.slice a0 c.1.2.2.length c0) (.slice (some ⟨g1, 0, none⟩) 0 0) undef undef undef (.slice (some ⟨g3, 0, none⟩) 0 0) undef w := by
  obtain ⟨T, ⟨x0, x1, x2, x3, x4, R⟩, B⟩ := hS
  have hw := R.lt
  unfold St
  refine wpAnyH_ready (rs := [7, 8]) (by kernel_rfl) (by simp) ?_
  refine AllReadyH.cons (i := 7) rfl (fun K hK => ?_) ?_
  · rw [if_pos (by rfl)]
    obtain ⟨i0, hi, hz0, hz1, hz2⟩ := info_parts infoInt
    have hr : RowAt (Value.int .i64) w c.2.1.1 c.2.1.2.2 := RpI.later hd.2.1 B
    have hnw := news_row hr
    have hnn := row_nil hr
    have hlen : c.2.1.2.2.length ≤ 1048576 := by unfold totF rtI rtP at hl; omega
    refine wp_append_any w (.tmp 7) (.tmp 9) 22 rfl (w0.heap.size + 2) 3 i0 _ 1 8 Try.underlying22 hi hz0 hz1 hz2 rfl (by decide) _ 0 [] rfl O1 c.2.1.1 c.2.1.2.2.length c.2.1.2.1 (c.2.1.2.2.map (Value.int .i64)) rfl (by simp) hnw (one_ints _) (by unfold maxLen; omega) (by omega) (by omega) hnn ?_
    intro vA wA ownA hg h5
    rw [Nat.zero_add, List.nil_append] at ownA
    obtain ⟨na, nc, rfl, _⟩ := own_shape ownA
    have hob : ∀ k, (Value.slice (some ⟨g1, 0, none⟩) 0 0).ownBlock = some k → w0.heap.size + 2 ≤ k := fun k hk => (O1.lt k hk).1
    refine hK.out _ _ ⟨T.only3 hg (fun h => by have := hob _ h; omega) T.lt, ⟨_, _, _, _, _, R.only3 hg (fun h => by have := hob _ h; omega) R.lt⟩, B.grown hg B.size (fun k hk => by have := hob _ hk; omega)⟩ (fun hS2 => ?_)
    clear hK K
    try simp only [Act.put, List.setIfInBounds_toArray, List.set_cons_zero, List.set_cons_succ]
    exact s2201 Q c w0 hd hl HQ b0 a0 c0 _ na nc g3 _ hS2 (own_kept O0 hg (fun k e h => (A01) k e h)) ownA (own_kept O3 hg (fun k e h => (A13.symm) k e h)) (A01.grow h5 (fun k hk => (O0.lt k hk).2)) A03 (A13.symm.grow h5 (fun k hk => (O3.lt k hk).2)).symm
  refine AllReadyH.cons (i := 8) rfl (fun K hK => ?_) AllReadyH.nil
  rw [if_pos (by rfl)]
  obtain ⟨i0, hi, hz0, hz1, hz2⟩ := info_parts infoP
  refine wp_build0 28 100 rfl i0 _ Try.underlying28 hi hz0 ?_
  refine hK.out _ _ ⟨T.alloc T.lt _, ⟨_, _, _, _, _, R.alloc R.lt _⟩, B.alloc B.size _⟩ (fun hS2 => ?_)
  clear hK K
  have N2 : (w.alloc (.cells #[] 100)).ownsRow (w0.heap.size + 2) 100 2 (.slice (some ⟨w.heap.size, 0, none⟩) 0 0) 0 ([]) := World.ownsRow_lit _ _ _ (by omega) (by simp [maxLen]) rfl
  try simp only [Act.put, List.setIfInBounds_toArray, List.set_cons_zero, List.set_cons_succ]
  exact s2111 Q c w0 hd hl HQ b0 a0 c0 g1 w.heap.size g3 _ hS2 (O0.alloc _) (O1.alloc _) N2 (O3.alloc _) A01 (Ap.new (fun k hk => (O0.lt k hk).2)) A03 (Ap.new (fun k hk => (O1.lt k hk).2)) A13 (Ap.new (fun k hk => (O3.lt k hk).2)).symm
set_option maxRecDepth 100000 in
theorem s2110 (Q : Exit → Act → World → Prop) (c : TF) (w0 : World) (hd : DpF w0 c) (hl : totF c ≤ 1048576) (HQ : Fin48 Q c w0) (b0 : Value) (a0 : Option Addr) (c0 : Nat) (g1 : Nat) (g2 : Nat) (w : World) (hS : S48 c w0 w) (O0 : w.ownsRow (w0.heap.size + 2) 3 1 (.slice a0 c.1.2.2.length c0) c.1.2.2.length (c.1.2.2.map (Value.int .i64))) (O1 : w.ownsRow (w0.heap.size + 2) 3 1 (.slice (some ⟨g1, 0, none⟩) 0 0) 0 ([])) (O2 : w.ownsRow (w0.heap.size + 2) 100 2 (.slice (some ⟨g2, 0, none⟩) 0 0) 0 ([])) (A01 : Ap (.slice a0 c.1.2.2.length c0) (.slice (some ⟨g1, 0, none⟩) 0 0)) (A02 : Ap (.slice a0 c.1.2.2.length c0) (.slice (some ⟨g2, 0, none⟩) 0 0)) (A12 : Ap (.slice (some ⟨g1, 0, none⟩) 0 0) (.slice (some ⟨g2, 0, none⟩) 0 0)) : St Q c w0 6 #[true, true, true, true, true, true, true, false, true, true, true, false, false, true, true, false, true, true, false, false] b0 (.slice a0 c.1.2.2.length c0) (.slice (some ⟨g1, 0, none⟩) 0 0) undef (.slice (some ⟨g2, 0, none⟩) 0 0) undef undef undef w := by
  obtain ⟨T, ⟨x0, x1, x2, x3, x4, R⟩, B⟩ := hS
  have hw := R.lt
  unfold St
  refine wpAnyH_ready (rs := [7, 12]) (by kernel_rfl) (by simp) ?_
  refine AllReadyH.cons (i := 7) rfl (fun K hK => ?_) ?_
  · rw [if_pos (by rfl)]
    obtain ⟨i0, hi, hz0, hz1, hz2⟩ := info_parts infoInt
    have hr : RowAt (Value.int .i64) w c.2.1.1 c.2.1.2.2 := RpI.later hd.2.1 B
    have hnw := news_row hr
    have hnn := row_nil hr
    have hlen : c.2.1.2.2.length ≤ 1048576 := by unfold totF rtI rtP at hl; omega
    refine wp_append_any w (.tmp 7) (.tmp 9) 22 rfl (w0.heap.size + 2) 3 i0 _ 1 8 Try.underlying22 hi hz0 hz1 hz2 rfl (by decide) _ 0 [] rfl O1 c.2.1.1 c.2.1.2.2.length c.2.1.2.1 (c.2.1.2.2.map (Value.int .i64)) rfl (by simp) hnw (one_ints _) (by unfold maxLen; omega) (by omega) (by omega) hnn ?_
    intro vA wA ownA hg h5
    rw [Nat.zero_add, List.nil_append] at ownA
    obtain ⟨na, nc, rfl, _⟩ := own_shape ownA
    have hob : ∀ k, (Value.slice (some ⟨g1, 0, none⟩) 0 0).ownBlock = some k → w0.heap.size + 2 ≤ k := fun k hk => (O1.lt k hk).1
    refine hK.out _ _ ⟨T.only3 hg (fun h => by have := hob _ h; omega) T.lt, ⟨_, _, _, _, _, R.only3 hg (fun h => by have := hob _ h; omega) R.lt⟩, B.grown hg B.size (fun k hk => by have := hob _ hk; omega)⟩ (fun hS2 => ?_)
    clear hK K
    try simp only [Act.put, List.setIfInBounds_toArray, List.set_cons_zero, List.set_cons_succ]
    exact s2210 Q c w0 hd hl HQ b0 a0 c0 _ na nc g2 _ hS2 (own_kept O0 hg (fun k e h => (A01) k e h)) ownA (own_kept O2 hg (fun k e h => (A12.symm) k e h)) (A01.grow h5 (fun k hk => (O0.lt k hk).2)) A02 (A12.symm.grow h5 (fun k hk => (O2.lt k hk).2)).symm
  refine AllReadyH.cons (i := 12) rfl (fun K hK => ?_) AllReadyH.nil
  rw [if_pos (by rfl)]
  obtain ⟨i0, hi, hz0, hz1, hz2⟩ := info_parts infoP
  refine wp_build0 28 100 rfl i0 _ Try.underlying28 hi hz0 ?_
  refine hK.out _ _ ⟨T.alloc T.lt _, ⟨_, _, _, _, _, R.alloc R.lt _⟩, B.alloc B.size _⟩ (fun hS2 => ?_)
  clear hK K
  have N3 : (w.alloc (.cells #[] 100)).ownsRow (w0.heap.size + 2) 100 2 (.slice (some ⟨w.heap.size, 0, none⟩) 0 0) 0 ([]) := World.ownsRow_lit _ _ _ (by omega) (by simp [maxLen]) rfl
  try simp only [Act.put, List.setIfInBounds_toArray, List.set_cons_zero, List.set_cons_succ]
  exact s2111 Q c w0 hd hl HQ b0 a0 c0 g1 g2 w.heap.size _ hS2 (O0.alloc _) (O1.alloc _) (O2.alloc _) N3 A01 A02 (Ap.new (fun k hk => (O0.lt k hk).2)) A12 (Ap.new (fun k hk => (O1.lt k hk).2)) (Ap.new (fun k hk => (O2.lt k hk).2))
set_option maxRecDepth 100000 in
theorem s2200 (Q : Exit → Act → World → Prop) (c : TF) (w0 : World) (hd : DpF w0 c) (hl : totF c ≤ 1048576) (HQ : Fin48 Q c w0) (b0 : Value) (a0 : Option Addr) (c0 : Nat) (b1 : Value) (a1 : Option Addr) (c1 : Nat) (w : World) (hS : S48 c w0 w) (O0 : w.ownsRow (w0.heap.size + 2) 3 1 (.slice a0 c.1.2.2.length c0) c.1.2.2.length (c.1.2.2.map (Value.int .i64))) (O1 : w.ownsRow (w0.heap.size + 2) 3 1 (.slice a1 c.2.1.2.2.length c1) c.2.1.2.2.length (c.2.1.2.2.map (Value.int .i64))) (A01 : Ap (.slice a0 c.1.2.2.length c0) (.slice a1 c.2.1.2.2.length c1)) : St Q c w0 6 #[true, true, true, true, true, true, true, true, false, true, true, false, false, true, true, false, true, true, false, false] b0 (.slice a0 c.1.2.2.length c0) b1 (.slice a1 c.2.1.2.2.length c1) undef undef undef undef w := by
  obtain ⟨T, ⟨x0, x1, x2, x3, x4, R⟩, B⟩ := hS
  have hw := R.lt
  unfold St
  refine wpAnyH_ready (rs := [8, 12]) (by kernel_rfl) (by simp) ?_
  refine AllReadyH.cons (i := 8) rfl (fun K hK => ?_) ?_
  · rw [if_pos (by rfl)]
    obtain ⟨i0, hi, hz0, hz1, hz2⟩ := info_parts infoP
    refine wp_build0 28 100 rfl i0 _ Try.underlying28 hi hz0 ?_
    refine hK.out _ _ ⟨T.alloc T.lt _, ⟨_, _, _, _, _, R.alloc R.lt _⟩, B.alloc B.size _⟩ (fun hS2 => ?_)
    clear hK K
    have N2 : (w.alloc (.cells #[] 100)).ownsRow (w0.heap.size + 2) 100 2 (.slice (some ⟨w.heap.size, 0, none⟩) 0 0) 0 ([]) := World.ownsRow_lit _ _ _ (by omega) (by simp [maxLen]) rfl
    try simp only [Act.put, List.setIfInBounds_toArray, List.set_cons_zero, List.set_cons_succ]
    exact s2210 Q c w0 hd hl HQ b0 a0 c0 b1 a1 c1 w.heap.size _ hS2 (O0.alloc _) (O1.alloc _) N2 A01 (Ap.new (fun k hk => (O0.lt k hk).2)) (Ap.new (fun k hk => (O1.lt k hk).2))
  refine AllReadyH.cons (i := 12) rfl (fun K hK => ?_) AllReadyH.nil
  rw [if_pos (by rfl)]
  obtain ⟨i0, hi, hz0, hz1, hz2⟩ := info_parts infoP
  refine wp_build0 28 100 rfl i0 _ Try.underlying28 hi hz0 ?_
  refine hK.out _ _ ⟨T.alloc T.lt _, ⟨_, _, _, _, _, R.alloc R.lt _⟩, B.alloc B.size _⟩ (fun hS2 => ?_)
  clear hK K
  have N3 : (w.alloc (.cells #[] 100)).ownsRow (w0.heap.size + 2) 100 2 (.slice (some ⟨w.heap.size, 0, none⟩) 0 0) 0 ([]) := World.ownsRow_lit _ _ _ (by omega) (by simp [maxLen]) rfl
  try simp only [Act.put, List.setIfInBounds_toArray, List.set_cons_zero, List.set_cons_succ]
  exact s2201 Q c w0 hd hl HQ b0 a0 c0 b1 a1 c1 w.heap.size _ hS2 (O0.alloc _) (O1.alloc _) N3 A01 (Ap.new (fun k hk => (O0.lt k hk).2)) (Ap.new (fun k hk => (O1.lt k hk).2))
set_option maxRecDepth 100000 in
theorem s0111 (Q : Exit → Act → World → Prop) (c : TF) (w0 : World) (hd : DpF w0 c) (hl : totF c ≤ 1048576) (HQ : Fin48 Q c w0) (g1 : Nat) (g2 : Nat) (g3 : Nat) (w : World) (hS : S48 c w0 w) (O1 : w.ownsRow (w0.heap.size + 2) 3 1 (.slice (some ⟨g1, 0, none⟩) 0 0) 0 ([])) (O2 : w.ownsRow (w0.heap.size + 2) 100 2 (.slice (some ⟨g2, 0, none⟩) 0 0) 0 ([])) (O3 : w.ownsRow (w0.heap.size + 2) 100 2 (.slice (some ⟨g3, 0, none⟩) 0 0) 0 ([])) (A12 : Ap (.slice (some ⟨g1, 0, none⟩) 0 0) (.slice (some ⟨g2, 0, none⟩) 0 0)) (A13 : Ap (.slice (some ⟨g1, 0, none⟩) 0 0) (.slice (some ⟨g3, 0, none⟩) 0 0)) (A23 : Ap (.slice (some ⟨g2, 0, none⟩) 0 0) (.slice (some ⟨g3, 0, none⟩) 0 0)) : St Q c w0 7 #[false, true, true, false, true, true, true, false, true, true, true, false, true, true, true, false, true, true, false, false] undef undef (.slice (some ⟨g1, 0, none⟩) 0 0) undef (.slice (some ⟨g2, 0, none⟩) 0 0) undef (.slice (some ⟨g3, 0, none⟩) 0 0) undef w := by
  obtain ⟨T, ⟨x0, x1, x2, x3, x4, R⟩, B⟩ := hS
  have hw := R.lt
  unfold St
  refine wpAnyH_ready (rs := [0]) (by kernel_rfl) (by simp) ?_
  refine AllReadyH.cons (i := 0) rfl (fun K hK => ?_) AllReadyH.nil
  rw [if_pos (by rfl)]
  obtain ⟨i0, hi, hz0, hz1, hz2⟩ := info_parts infoInt
  refine wp_build0 22 3 rfl i0 _ Try.underlying22 hi hz0 ?_
  refine hK.out _ _ ⟨T.alloc T.lt _, ⟨_, _, _, _, _, R.alloc R.lt _⟩, B.alloc B.size _⟩ (fun hS2 => ?_)
  clear hK K
  have N0 : (w.alloc (.cells #[] 3)).ownsRow (w0.heap.size + 2) 3 1 (.slice (some ⟨w.heap.size, 0, none⟩) 0 0) 0 ([]) := World.ownsRow_lit _ _ _ (by omega) (by simp [maxLen]) rfl
  try simp only [Act.put, List.setIfInBounds_toArray, List.set_cons_zero]
  exact s1111 Q c w0 hd hl HQ w.heap.size g1 g2 g3 _ hS2 N0 (O1.alloc _) (O2.alloc _) (O3.alloc _) (Ap.new (fun k hk => (O1.lt k hk).2)).symm (Ap.new (fun k hk => (O2.lt k hk).2)).symm (Ap.new (fun k hk => (O3.lt k hk).2)).symm A12 A13 A23
set_option maxRecDepth 100000 in
theorem s1011 (Q : Exit → Act → World → Prop) (c : TF) (w0 : World) (hd : DpF w0 c) (hl : totF c ≤ 1048576) (HQ : Fin48 Q c w0) (g0 : Nat) (g2 : Nat) (g3 : Nat) (w : World) (hS : S48 c w0 w) (O0 : w.ownsRow (w0.heap.size + 2) 3 1 (.slice (some ⟨g0, 0, none⟩) 0 0) 0 ([])) (O2 : w.ownsRow (w0.heap.size + 2) 100 2 (.slice (some ⟨g2, 0, none⟩) 0 0) 0 ([])) (O3 : w.ownsRow (w0.heap.size + 2) 100 2 (.slice (some ⟨g3, 0, none⟩) 0 0) 0 ([])) (A02 : Ap (.slice (some ⟨g0, 0, none⟩) 0 0) (.slice (some ⟨g2, 0, none⟩) 0 0)) (A03 : Ap (.slice (some ⟨g0, 0, none⟩) 0 0) (.slice (some ⟨g3, 0, none⟩) 0 0)) (A23 : Ap (.slice (some ⟨g2, 0, none⟩) 0 0) (.slice (some ⟨g3, 0, none⟩) 0 0)) : St Q c w0 7 #[true, true, true, false, false, true, true, false, true, true, true, false, true, true, true, false, true, true, false, false] (.slice (some ⟨g0, 0, none⟩) 0 0) undef undef undef (.slice (some ⟨g2, 0, none⟩) 0 0) undef (.slice (some ⟨g3, 0, none⟩) 0 0) undef w := by
  obtain ⟨T, ⟨x0, x1, x2, x3, x4, R⟩, B⟩ := hS
  have hw := R.lt
  unfold St
  refine wpAnyH_ready (rs := [3, 4]) (by kernel_rfl) (by simp) ?_
  refine AllReadyH.cons (i := 3) rfl (fun K hK => ?_) ?_
  · rw [if_pos (by rfl)]
    obtain ⟨i0, hi, hz0, hz1, hz2⟩ := info_parts infoInt
    have hr : RowAt (Value.int .i64) w c.1.1 c.1.2.2 := RpI.later hd.1 B
    have hnw := news_row hr
    have hnn := row_nil hr
    have hlen : c.1.2.2.length ≤ 1048576 := by unfold totF rtI rtP at hl; omega
    refine wp_append_any w (.tmp 3) (.tmp 5) 22 rfl (w0.heap.size + 2) 3 i0 _ 1 8 Try.underlying22 hi hz0 hz1 hz2 rfl (by decide) _ 0 [] rfl O0 c.1.1 c.1.2.2.length c.1.2.1 (c.1.2.2.map (Value.int .i64)) rfl (by simp) hnw (one_ints _) (by unfold maxLen; omega) (by omega) (by omega) hnn ?_
    intro vA wA ownA hg h5
    rw [Nat.zero_add, List.nil_append] at ownA
    obtain ⟨na, nc, rfl, _⟩ := own_shape ownA
    have hob : ∀ k, (Value.slice (some ⟨g0, 0, none⟩) 0 0).ownBlock = some k → w0.heap.size + 2 ≤ k := fun k hk => (O0.lt k hk).1
    refine hK.out _ _ ⟨T.only3 hg (fun h => by have := hob _ h; omega) T.lt, ⟨_, _, _, _, _, R.only3 hg (fun h => by have := hob _ h; omega) R.lt⟩, B.grown hg B.size (fun k hk => by have := hob _ hk; omega)⟩ (fun hS2 => ?_)
    clear hK K
    try simp only [Act.put, List.setIfInBounds_toArray, List.set_cons_zero, List.set_cons_succ]
    exact s2011 Q c w0 hd hl HQ _ na nc g2 g3 _ hS2 ownA (own_kept O2 hg (fun k e h => (A02.symm) k e h)) (own_kept O3 hg (fun k e h => (A03.symm) k e h)) (A02.symm.grow h5 (fun k hk => (O2.lt k hk).2)).symm (A03.symm.grow h5 (fun k hk => (O3.lt k hk).2)).symm A23
  refine AllReadyH.cons (i := 4) rfl (fun K hK => ?_) AllReadyH.nil
  rw [if_pos (by rfl)]
  obtain ⟨i0, hi, hz0, hz1, hz2⟩ := info_parts infoInt
  refine wp_build0 22 3 rfl i0 _ Try.underlying22 hi hz0 ?_
  refine hK.out _ _ ⟨T.alloc T.lt _, ⟨_, _, _, _, _, R.alloc R.lt _⟩, B.alloc B.size _⟩ (fun hS2 => ?_)
  clear hK K
  have N1 : (w.alloc (.cells #[] 3)).ownsRow (w0.heap.size + 2) 3 1 (.slice (some ⟨w.heap.size, 0, none⟩) 0 0) 0 ([]) := World.ownsRow_lit _ _ _ (by omega) (by simp [maxLen]) rfl
  try simp only [Act.put, List.setIfInBounds_toArray, List.set_cons_zero, List.set_cons_succ]
  exact s1111 Q c w0 hd hl HQ g0 w.heap.size g2 g3 _ hS2 (O0.alloc _) N1 (O2.alloc _) (O3.alloc _) (Ap.new (fun k hk => (O0.lt k hk).2)) A02 A03 (Ap.new (fun k hk => (O2.lt k hk).2)).symm (Ap.new (fun k hk => (O3.lt k hk).2)).symm A23
set_option maxRecDepth 100000 in
theorem s1101 (Q : Exit → Act → World → Prop) (c : TF) (w0 : World) (hd : DpF w0 c) (hl : totF c ≤ 1048576) (HQ : Fin48 Q c w0) (g0 : Nat) (g1 : Nat) (g3 : Nat) (w : World) (hS : S48 c w0 w) (O0 : w.ownsRow (w0.heap.size + 2) 3 1 (.slice (some ⟨g0, 0, none⟩) 0 0) 0 ([])) (O1 : w.ownsRow (w0.heap.size + 2) 3 1 (.slice (some ⟨g1, 0, none⟩) 0 0) 0 ([])) (O3 : w.ownsRow (w0.heap.size + 2) 100 2 (.slice (some ⟨g3, 0, none⟩) 0 0) 0 ([])) (A01 : Ap (.slice (some ⟨g0, 0, none⟩) 0 0) (.slice (some ⟨g1, 0, none⟩) 0 0)) (A03 : Ap (.slice (some ⟨g0, 0, none⟩) 0 0) (.slice (some ⟨g3, 0, none⟩) 0 0)) (A13 : Ap (.slice (some ⟨g1, 0, none⟩) 0 0) (.slice (some ⟨g3, 0, none⟩) 0 0)) : St Q c w0 7 #[true, true, true, false, true, true, true, false, false, true, true, false, true, true, true, false, true, true, false, false] (.slice (some ⟨g0, 0, none⟩) 0 0) undef (.slice (some ⟨g1, 0, none⟩) 0 0) undef undef undef (.slice (some ⟨g3, 0, none⟩) 0 0) undef w := by
  obtain ⟨T, ⟨x0, x1, x2, x3, x4, R⟩, B⟩ := hS
  have hw := R.lt
  unfold St
  refine wpAnyH_ready (rs := [3, 8]) (by kernel_rfl) (by simp) ?_
  refine AllReadyH.cons (i := 3) rfl (fun K hK => ?_) ?_
  · rw [if_pos (by rfl)]
    obtain ⟨i0, hi, hz0, hz1, hz2⟩ := info_parts infoInt
    have hr : RowAt (Value.int .i64) w c.1.1 c.1.2.2 := RpI.later hd.1 B
    have hnw := news_row hr
    have hnn := row_nil hr
    have hlen : c.1.2.2.length ≤ 1048576 := by unfold totF rtI rtP at hl; omega
    refine wp_append_any w (.tmp 3) (.tmp 5) 22 rfl (w0.heap.size + 2) 3 i0 _ 1 8 Try.underlying22 hi hz0 hz1 hz2 rfl (by decide) _ 0 [] rfl O0 c.1.1 c.1.2.2.length c.1.2.1 (c.1.2.2.map (Value.int .i64)) rfl (by simp) hnw (one_ints _) (by unfold maxLen; omega) (by omega) (by omega) hnn ?_
    intro vA wA ownA hg h5
    rw [Nat.zero_add, List.nil_append] at ownA
    obtain ⟨na, nc, rfl, _⟩ := own_shape ownA
    have hob : ∀ k, (Value.slice (some ⟨g0, 0, none⟩) 0 0).ownBlock = some k → w0.heap.size + 2 ≤ k := fun k hk => (O0.lt k hk).1
    refine hK.out _ _ ⟨T.only3 hg (fun h => by have := hob _ h; omega) T.lt, ⟨_, _, _, _, _, R.only3 hg (fun h => by have := hob _ h; omega) R.lt⟩, B.grown hg B.size (fun k hk => by have := hob _ hk; omega)⟩ (fun hS2 => ?_)
    clear hK K
    try simp only [Act.put, List.setIfInBounds_toArray, List.set_cons_zero, List.set_cons_succ]
    exact s2101 Q c w0 hd hl HQ _ na nc g1 g3 _ hS2 ownA (own_kept O1 hg (fun k e h => (A01.symm) k e h)) (own_kept O3 hg (fun k e h => (A03.symm) k e h)) (A01.symm.grow h5 (fun k hk => (O1.lt k hk).2)).symm (A03.symm.grow h5 (fun k hk => (O3.lt k hk).2)).symm A13
  refine AllReadyH.cons (i := 8) rfl (fun K hK => ?_) AllReadyH.nil
  rw [if_pos (by rfl)]
  obtain ⟨i0, hi, hz0, hz1, hz2⟩ := info_parts infoP
  refine wp_build0 28 100 rfl i0 _ Try.underlying28 hi hz0 ?_
  refine hK.out _ _ ⟨T.alloc T.lt _, ⟨_, _, _, _, _, R.alloc R.lt _⟩, B.alloc B.size _⟩ (fun hS2 => ?_)
  clear hK K
  have N2 : (w.alloc (.cells #[] 100)).ownsRow (w0.heap.size + 2) 100 2 (.slice (some ⟨w.heap.size, 0, none⟩) 0 0) 0 ([]) := World.ownsRow_lit _ _ _ (by omega) (by simp [maxLen]) rfl
  try simp only [Act.put, List.setIfInBounds_toArray, List.set_cons_zero, List.set_cons_succ]
  exact s1111 Q c w0 hd hl HQ g0 g1 w.heap.size g3 _ hS2 (O0.alloc _) (O1.alloc _) N2 (O3.alloc _) A01 (Ap.new (fun k hk => (O0.lt k hk).2)) A03 (Ap.new (fun k hk => (O1.lt k hk).2)) A13 (Ap.new (fun k hk => (O3.lt k hk).2)).symm
set_option maxRecDepth 100000 in
theorem s1110 (Q : Exit → Act → World → Prop) (c : TF) (w0 : World) (hd : DpF w0 c) (hl : totF c ≤ 1048576) (HQ : Fin48 Q c w0) (g0 : Nat) (g1 : Nat) (g2 : Nat) (w : World) (hS : S48 c w0 w) (O0 : w.ownsRow (w0.heap.size + 2) 3 1 (.slice (some ⟨g0, 0, none⟩) 0 0) 0 ([])) (O1 : w.ownsRow (w0.heap.size + 2) 3 1 (.slice (some ⟨g1, 0, none⟩) 0 0) 0 ([])) (O2 : w.ownsRow (w0.heap.size + 2) 100 2 (.slice (some ⟨g2, 0, none⟩) 0 0) 0 ([])) (A01 : Ap (.slice (some ⟨g0, 0, none⟩) 0 0) (.slice (some ⟨g1, 0, none⟩) 0 0)) (A02 : Ap (.slice (some ⟨g0, 0, none⟩) 0 0) (.slice (some ⟨g2, 0, none⟩) 0 0)) (A12 : Ap (.slice (some ⟨g1, 0, none⟩) 0 0) (.slice (some ⟨g2, 0, none⟩) 0 0)) : St Q c w0 7 #[true, true, true, false, true, true, true, false, true, true, true, false, false, true, true, false, true, true, false, false] (.slice (some ⟨g0, 0, none⟩) 0 0) undef (.slice (some ⟨g1, 0, none⟩) 0 0) undef (.slice (some ⟨g2, 0, none⟩) 0 0) undef undef undef w := by
  obtain ⟨T, ⟨x0, x1, x2, x3, x4, R⟩, B⟩ := hS
  have hw := R.lt
  unfold St
  refine wpAnyH_ready (rs := [3, 12]) (by kernel_rfl) (by simp) ?_
  refine AllReadyH.cons (i := 3) rfl (fun K hK => ?_) ?_
  · rw [if_pos (by rfl)]
    obtain ⟨i0, hi, hz0, hz1, hz2⟩ := info_parts infoInt
    have hr : RowAt (Value.int .i64) w c.1.1 c.1.2.2 := RpI.later hd.1 B
    have hnw := news_row hr
    have hnn := row_nil hr
    have hlen : c.1.2.2.length ≤ 1048576 := by unfold totF rtI rtP at hl; omega
    refine wp_append_any w (.tmp 3) (.tmp 5) 22 rfl (w0.heap.size + 2) 3 i0 _ 1 8 Try.underlying22 hi hz0 hz1 hz2 rfl (by decide) _ 0 [] rfl O0 c.1.1 c.1.2.2.length c.1.2.1 (c.1.2.2.map (Value.int .i64)) rfl (by simp) hnw (one_ints _) (by unfold maxLen; omega) (by omega) (by omega) hnn ?_
    intro vA wA ownA hg h5
    rw [Nat.zero_add, List.nil_append] at ownA
    obtain ⟨na, nc, rfl, _⟩ := own_shape ownA
    have hob : ∀ k, (Value.slice (some ⟨g0, 0, none⟩) 0 0).ownBlock = some k → w0.heap.size + 2 ≤ k := fun k hk => (O0.lt k hk).1
    refine hK.out _ _ ⟨T.only3 hg (fun h => by have := hob _ h; omega) T.lt, ⟨_, _, _, _, _, R.only3 hg (fun h => by have := hob _ h; omega) R.lt⟩, B.grown hg B.size (fun k hk => by have := hob _ hk; omega)⟩ (fun hS2 => ?_)
    clear hK K
    try simp only [Act.put, List.setIfInBounds_toArray, List.set_cons_zero, List.set_cons_succ]
    exact s2110 Q c w0 hd hl HQ _ na nc g1 g2 _ hS2 ownA (own_kept O1 hg (fun k e h => (A01.symm) k e h)) (own_kept O2 hg (fun k e h => (A02.symm) k e h)) (A01.symm.grow h5 (fun k hk => (O1.lt k hk).2)).symm (A02.symm.grow h5 (fun k hk => (O2.lt k hk).2)).symm A12
  refine AllReadyH.cons (i := 12) rfl (fun K hK => ?_) AllReadyH.nil
  rw [if_pos (by rfl)]
  obtain ⟨i0, hi, hz0, hz1, hz2⟩ := info_parts infoP
  refine wp_build0 28 100 rfl i0 _ Try.underlying28 hi hz0 ?_
  refine hK.out _ _ ⟨T.alloc T.lt _, ⟨_, _, _, _, _, R.alloc R.lt _⟩, B.alloc B.size _⟩ (fun hS2 => ?_)
  clear hK K
  have N3 : (w.alloc (.cells #[] 100)).ownsRow (w0.heap.size + 2) 100 2 (.slice (some ⟨w.heap.size, 0, none⟩) 0 0) 0 ([]) := World.ownsRow_lit _ _ _ (by omega) (by simp [maxLen]) rfl
  try simp only [Act.put, List.setIfInBounds_toArray, List.set_cons_zero, List.set_cons_succ]
  exact s1111 Q c w0 hd hl HQ g0 g1 g2 w.heap.size _ hS2 (O0.alloc _) (O1.alloc _) (O2.alloc _) N3 A01 A02 (Ap.new (fun k hk => (O0.lt k hk).2)) A12 (Ap.new (fun k hk => (O1.lt k hk).2)) (Ap.new (fun k hk => (O2.lt k hk).2))
set_option maxRecDepth 100000 in
theorem s2001 (Q : Exit → Act → World → Prop) (c : TF) (w0 : World) (hd : DpF w0 c) (hl : totF c ≤ 1048576) (HQ : Fin48 Q c w0) (b0 : Value) (a0 : Option Addr) (c0 : Nat) (g3 : Nat) (w : World) (hS : S48 c w0 w) (O0 : w.ownsRow (w0.heap.size + 2) 3 1 (.slice a0 c.1.2.2.length c0) c.1.2.2.length (c.1.2.2.map (Value.int .i64))) (O3 : w.ownsRow (w0.heap.size + 2) 100 2 (.slice (some ⟨g3, 0, none⟩) 0 0) 0 ([])) (A03 : Ap (.slice a0 c.1.2.2.length c0) (.slice (some ⟨g3, 0, none⟩) 0 0)) : St Q c w0 7 #[true, true, true, true, false, true, true, false, false, true, true, false, true, true, true, false, true, true, false, false] b0 (.slice a0 c.1.2.2.length c0) undef undef undef undef (.slice (some ⟨g3, 0, none⟩) 0 0) undef w := by
  obtain ⟨T, ⟨x0, x1, x2, x3, x4, R⟩, B⟩ := hS
  have hw := R.lt
  unfold St
  refine wpAnyH_ready (rs := [4, 8]) (by kernel_rfl) (by simp) ?_
  refine AllReadyH.cons (i := 4) rfl (fun K hK => ?_) ?_
  · rw [if_pos (by rfl)]
    obtain ⟨i0, hi, hz0, hz1, hz2⟩ := info_parts infoInt
    refine wp_build0 22 3 rfl i0 _ Try.underlying22 hi hz0 ?_
    refine hK.out _ _ ⟨T.alloc T.lt _, ⟨_, _, _, _, _, R.alloc R.lt _⟩, B.alloc B.size _⟩ (fun hS2 => ?_)
    clear hK K
    have N1 : (w.alloc (.cells #[] 3)).ownsRow (w0.heap.size + 2) 3 1 (.slice (some ⟨w.heap.size, 0, none⟩) 0 0) 0 ([]) := World.ownsRow_lit _ _ _ (by omega) (by simp [maxLen]) rfl
    try simp only [Act.put, List.setIfInBounds_toArray, List.set_cons_zero, List.set_cons_succ]
    exact s2101 Q c w0 hd hl HQ b0 a0 c0 w.heap.size g3 _ hS2 (O0.alloc _) N1 (O3.alloc _) (Ap.new (fun k hk => (O0.lt k hk).2)) A03 (Ap.new (fun k hk => (O3.lt k hk).2)).symm
  refine AllReadyH.cons (i := 8) rfl (fun K hK => ?_) AllReadyH.nil
  rw [if_pos (by rfl)]
  obtain ⟨i0, hi, hz0, hz1, hz2⟩ := info_parts infoP
  refine wp_build0 28 100 rfl i0 _ Try.underlying28 hi hz0 ?_
  refine hK.out _ _ ⟨T.alloc T.lt _, ⟨_, _, _, _, _, R.alloc R.lt _⟩, B.alloc B.size _⟩ (fun hS2 => ?_)
  clear hK K
  have N2 : (w.alloc (.cells #[] 100)).ownsRow (w0.heap.size + 2) 100 2 (.slice (some ⟨w.heap.size, 0, none⟩) 0 0) 0 ([]) := World.ownsRow_lit _ _ _ (by omega) (by simp [maxLen]) rfl
  try simp only [Act.put, List.setIfInBounds_toArray, List.set_cons_zero, List.set_cons_succ]
  exact s2011 Q c w0 hd hl HQ b0 a0 c0 w.heap.size g3 _ hS2 (O0.alloc _) N2 (O3.alloc _) (Ap.new (fun k hk => (O0.lt k hk).2)) A03 (Ap.new (fun k hk => (O3.lt k hk).2)).symm
set_option maxRecDepth 100000 in
theorem s2010 (Q : Exit → Act → World → Prop) (c : TF) (w0 : World) (hd : DpF w0 c) (hl : totF c ≤ 1048576) (HQ : Fin48 Q c w0) (b0 : Value) (a0 : Option Addr) (c0 : Nat) (g2 : Nat) (w : World) (hS : S48 c w0 w) (O0 : w.ownsRow (w0.heap.size + 2) 3 1 (.slice a0 c.1.2.2.length c0) c.1.2.2.length (c.1.2.2.map (Value.int .i64))) (O2 : w.ownsRow (w0.heap.size + 2) 100 2 (.slice (some ⟨g2, 0, none⟩) 0 0) 0 ([])) (A02 : Ap (.slice a0 c.1.2.2.length c0) (.slice (some ⟨g2, 0, none⟩) 0 0)) : St Q c w0 7 #[true, true, true, true, false, true, true, false, true, true, true, false, false, true, true, false, true, true, false, false] b0 (.slice a0 c.1.2.2.length c0) undef undef (.slice (some ⟨g2, 0, none⟩) 0 0) undef undef undef w := by
  obtain ⟨T, ⟨x0, x1, x2, x3, x4, R⟩, B⟩ := hS
  have hw := R.lt
  unfold St
  refine wpAnyH_ready (rs := [4, 12]) (by kernel_rfl) (by simp) ?_
  refine AllReadyH.cons (i := 4) rfl (fun K hK => ?_) ?_
  · rw [if_pos (by rfl)]
    obtain ⟨i0, hi, hz0, hz1, hz2⟩ := info_parts infoInt
    refine wp_build0 22 3 rfl i0 _ Try.underlying22 hi hz0 ?_
    refine hK.out _ _ ⟨T.alloc T.lt _, ⟨_, _, _, _, _, R.alloc R.lt _⟩, B.alloc B.size _⟩ (fun hS2 => ?_)
    clear hK K
    have N1 : (w.alloc (.cells #[] 3)).ownsRow (w0.heap.size + 2) 3 1 (.slice (some ⟨w.heap.size, 0, none⟩) 0 0) 0 ([]) := World.ownsRow_lit _ _ _ (by omega) (by simp [maxLen]) rfl
    try simp only [Act.put, List.setIfInBounds_toArray, List.set_cons_zero, List.set_cons_succ]
    exact s2110 Q c w0 hd hl HQ b0 a0 c0 w.heap.size g2 _ hS2 (O0.alloc _) N1 (O2.alloc _) (Ap.new (fun k hk => (O0.lt k hk).2)) A02 (Ap.new (fun k hk => (O2.lt k hk).2)).symm
  refine AllReadyH.cons (i := 12) rfl (fun K hK => ?_) AllReadyH.nil
  rw [if_pos (by rfl)]
  obtain ⟨i0, hi, hz0, hz1, hz2⟩ := info_parts infoP
  refine wp_build0 28 100 rfl i0 _ Try.underlying28 hi hz0 ?_
  refine hK.out _ _ ⟨T.alloc T.lt _, ⟨_, _, _, _, _, R.alloc R.lt _⟩, B.alloc B.size _⟩ (fun hS2 => ?_)
  clear hK K
  have N3 : (w.alloc (.cells #[] 100)).ownsRow (w0.heap.size + 2) 100 2 (.slice (some ⟨w.heap.size, 0, none⟩) 0 0) 0 ([]) := World.ownsRow_lit _ _ _ (by omega) (by simp [maxLen]) rfl
  try simp only [Act.put, List.setIfInBounds_toArray, List.set_cons_zero, List.set_cons_succ]
  exact s2011 Q c w0 hd hl HQ b0 a0 c0 g2 w.heap.size _ hS2 (O0.alloc _) (O2.alloc _) N3 A02 (Ap.new (fun k hk => (O0.lt k hk).2)) (Ap.new (fun k hk => (O2.lt k hk).2))
set_option maxRecDepth 100000 in
theorem s2100 (Q : Exit → Act → World → Prop) (c : TF) (w0 : World) (hd : DpF w0 c) (hl : totF c ≤ 1048576) (HQ : Fin48 Q c w0) (b0 : Value) (a0 : Option Addr) (c0 : Nat) (g1 : Nat) (w : World) (hS : S48 c w0 w) (O0 : w.ownsRow (w0.heap.size + 2) 3 1 (.slice a0 c.1.2.2.length c0) c.1.2.2.length (c.1.2.2.map (Value.int .i64))) (O1 : w.ownsRow (w0.heap.size + 2) 3 1 (.slice (some ⟨g1, 0, none⟩) 0 0) 0 ([])) (A01 : Ap (.slice a0 c.1.2.2.length c0) (.slice (some ⟨g1, 0, none⟩) 0 0)) : St Q c w0 7 #[true, true, true, true, true, true, true, false, false, true, true, false, false, true, true, false, true, true, false, false] b0 (.slice a0 c.1.2.2.length c0) (.slice (some ⟨g1, 0, none⟩) 0 0) undef undef undef undef undef w := by
  obtain ⟨T, ⟨x0, x1, x2, x3, x4, R⟩, B⟩ := hS
  have hw := R.lt
  unfold St
  refine wpAnyH_ready (rs := [7, 8, 12]) (by kernel_rfl) (by simp) ?_
  refine AllReadyH.cons (i := 7) rfl (fun K hK => ?_) ?_
  · rw [if_pos (by rfl)]
    obtain ⟨i0, hi, hz0, hz1, hz2⟩ := info_parts infoInt
    have hr : RowAt (Value.int .i64) w c.2.1.1 c.2.1.2.2 := RpI.later hd.2.1 B
    have hnw := news_row hr
    have hnn := row_nil hr
    have hlen : c.2.1.2.2.length ≤ 1048576 := by unfold totF rtI rtP at hl; omega
    refine wp_append_any w (.tmp 7) (.tmp 9) 22 rfl (w0.heap.size + 2) 3 i0 _ 1 8 Try.underlying22 hi hz0 hz1 hz2 rfl (by decide) _ 0 [] rfl O1 c.2.1.1 c.2.1.2.2.length c.2.1.2.1 (c.2.1.2.2.map (Value.int .i64)) rfl (by simp) hnw (one_ints _) (by unfold maxLen; omega) (by omega) (by omega) hnn ?_
    intro vA wA ownA hg h5
    rw [Nat.zero_add, List.nil_append] at ownA
    obtain ⟨na, nc, rfl, _⟩ := own_shape ownA
    have hob : ∀ k, (Value.slice (some ⟨g1, 0, none⟩) 0 0).ownBlock = some k → w0.heap.size + 2 ≤ k := fun k hk => (O1.lt k hk).1
    refine hK.out _ _ ⟨T.only3 hg (fun h => by have := hob _ h; omega) T.lt, ⟨_, _, _, _, _, R.only3 hg (fun h => by have := hob _ h; omega) R.lt⟩, B.grown hg B.size (fun k hk => by have := hob _ hk; omega)⟩ (fun hS2 => ?_)
    clear hK K
    try simp only [Act.put, List.setIfInBounds_toArray, List.set_cons_zero, List.set_cons_succ]
    exact s2200 Q c w0 hd hl HQ b0 a0 c0 _ na nc _ hS2 (own_kept O0 hg (fun k e h => (A01) k e h)) ownA (A01.grow h5 (fun k hk => (O0.lt k hk).2))
  refine AllReadyH.cons (i := 8) rfl (fun K hK => ?_) ?_
  · rw [if_pos (by rfl)]
    obtain ⟨i0, hi, hz0, hz1, hz2⟩ := info_parts infoP
    refine wp_build0 28 100 rfl i0 _ Try.underlying28 hi hz0 ?_
    refine hK.out _ _ ⟨T.alloc T.lt _, ⟨_, _, _, _, _, R.alloc R.lt _⟩, B.alloc B.size _⟩ (fun hS2 => ?_)
    clear hK K
    have N2 : (w.alloc (.cells #[] 100)).ownsRow (w0.heap.size + 2) 100 2 (.slice (some ⟨w.heap.size, 0, none⟩) 0 0) 0 ([]) := World.ownsRow_lit _ _ _ (by omega) (by simp [maxLen]) rfl
    try simp only [Act.put, List.setIfInBounds_toArray, List.set_cons_zero, List.set_cons_succ]
    exact s2110 Q c w0 hd hl HQ b0 a0 c0 g1 w.heap.size _ hS2 (O0.alloc _) (O1.alloc _) N2 A01 (Ap.new (fun k hk => (O0.lt k hk).2)) (Ap.new (fun k hk => (O1.lt k hk).2))
  refine AllReadyH.cons (i := 12) rfl (fun K hK => ?_) AllReadyH.nil
  rw [if_pos (by rfl)]
  obtain ⟨i0, hi, hz0, hz1, hz2⟩ := info_parts infoP
  refine wp_build0 28 100 rfl i0 _ Try.underlying28 hi hz0 ?_
  refine hK.out _ _ ⟨T.alloc T.lt _, ⟨_, _, _, _, _, R.alloc R.lt _⟩, B.alloc B.size _⟩ (fun hS2 => ?_)
  clear hK K
  have N3 : (w.alloc (.cells #[] 100)).ownsRow (w0.heap.size + 2) 100 2 (.slice (some ⟨w.heap.size, 0, none⟩) 0 0) 0 ([]) := World.ownsRow_lit _ _ _ (by omega) (by simp [maxLen]) rfl
  try simp only [Act.put, List.setIfInBounds_toArray, List.set_cons_zero, List.set_cons_succ]
  exact s2101 Q c w0 hd hl HQ b0 a0 c0 g1 w.heap.size _ hS2 (O0.alloc _) (O1.alloc _) N3 A01 (Ap.new (fun k hk => (O0.lt k hk).2)) (Ap.new (fun k hk => (O1.lt k hk).2))
set_option maxRecDepth 100000 in
theorem s0011 (Q : Exit → Act → World → Prop) (c : TF) (w0 : World) (hd : DpF w0 c) (hl : totF c ≤ 1048576) (HQ : Fin48 Q c w0) (g2 : Nat) (g3 : Nat) (w : World) (hS : S48 c w0 w) (O2 : w.ownsRow (w0.heap.size + 2) 100 2 (.slice (some ⟨g2, 0, none⟩) 0 0) 0 ([])) (O3 : w.ownsRow (w0.heap.size + 2) 100 2 (.slice (some ⟨g3, 0, none⟩) 0 0) 0 ([])) (A23 : Ap (.slice (some ⟨g2, 0, none⟩) 0 0) (.slice (some ⟨g3, 0, none⟩) 0 0)) : St Q c w0 8 #[false, true, true, false, false, true, true, false, true, true, true, false, true, true, true, false, true, true, false, false] undef undef undef undef (.slice (some ⟨g2, 0, none⟩) 0 0) undef (.slice (some ⟨g3, 0, none⟩) 0 0) undef w := by
  obtain ⟨T, ⟨x0, x1, x2, x3, x4, R⟩, B⟩ := hS
  have hw := R.lt
  unfold St
  refine wpAnyH_ready (rs := [0, 4]) (by kernel_rfl) (by simp) ?_
  refine AllReadyH.cons (i := 0) rfl (fun K hK => ?_) ?_
  · rw [if_pos (by rfl)]
    obtain ⟨i0, hi, hz0, hz1, hz2⟩ := info_parts infoInt
    refine wp_build0 22 3 rfl i0 _ Try.underlying22 hi hz0 ?_
    refine hK.out _ _ ⟨T.alloc T.lt _, ⟨_, _, _, _, _, R.alloc R.lt _⟩, B.alloc B.size _⟩ (fun hS2 => ?_)
    clear hK K
    have N0 : (w.alloc (.cells #[] 3)).ownsRow (w0.heap.size + 2) 3 1 (.slice (some ⟨w.heap.size, 0, none⟩) 0 0) 0 ([]) := World.ownsRow_lit _ _ _ (by omega) (by simp [maxLen]) rfl
    try simp only [Act.put, List.setIfInBounds_toArray, List.set_cons_zero]
    exact s1011 Q c w0 hd hl HQ w.heap.size g2 g3 _ hS2 N0 (O2.alloc _) (O3.alloc _) (Ap.new (fun k hk => (O2.lt k hk).2)).symm (Ap.new (fun k hk => (O3.lt k hk).2)).symm A23
  refine AllReadyH.cons (i := 4) rfl (fun K hK => ?_) AllReadyH.nil
  rw [if_pos (by rfl)]
  obtain ⟨i0, hi, hz0, hz1, hz2⟩ := info_parts infoInt
  refine wp_build0 22 3 rfl i0 _ Try.underlying22 hi hz0 ?_
  refine hK.out _ _ ⟨T.alloc T.lt _, ⟨_, _, _, _, _, R.alloc R.lt _⟩, B.alloc B.size _⟩ (fun hS2 => ?_)
  clear hK K
  have N1 : (w.alloc (.cells #[] 3)).ownsRow (w0.heap.size + 2) 3 1 (.slice (some ⟨w.heap.size, 0, none⟩) 0 0) 0 ([]) := World.ownsRow_lit _ _ _ (by omega) (by simp [maxLen]) rfl
  try simp only [Act.put, List.setIfInBounds_toArray, List.set_cons_zero, List.set_cons_succ]
  exact s0111 Q c w0 hd hl HQ w.heap.size g2 g3 _ hS2 N1 (O2.alloc _) (O3.alloc _) (Ap.new (fun k hk => (O2.lt k hk).2)).symm (Ap.new (fun k hk => (O3.lt k hk).2)).symm A23
set_option maxRecDepth 100000 in
theorem s0101 (Q : Exit → Act → World → Prop) (c : TF) (w0 : World) (hd : DpF w0 c) (hl : totF c ≤ 1048576) (HQ : Fin48 Q c w0) (g1 : Nat) (g3 : Nat) (w : World) (hS : S48 c w0 w) (O1 : w.ownsRow (w0.heap.size + 2) 3 1 (.slice (some ⟨g1, 0, none⟩) 0 0) 0 ([])) (O3 : w.ownsRow (w0.heap.size + 2) 100 2 (.slice (some ⟨g3, 0, none⟩) 0 0) 0 ([])) (A13 : Ap (.slice (some ⟨g1, 0, none⟩) 0 0) (.slice (some ⟨g3, 0, none⟩) 0 0)) : St Q c w0 8 #[false, true, true, false, true, true, true, false, false, true, true, false, true, true, true, false, true, true, false, false] undef undef (.slice (some ⟨g1, 0, none⟩) 0 0) undef undef undef (.slice (some ⟨g3, 0, none⟩) 0 0) undef w := by
  obtain ⟨T, ⟨x0, x1, x2, x3, x4, R⟩, B⟩ := hS
  have hw := R.lt
  unfold St
  refine wpAnyH_ready (rs := [0, 8]) (by kernel_rfl) (by simp) ?_
  refine AllReadyH.cons (i := 0) rfl (fun K hK => ?_) ?_
  · rw [if_pos (by rfl)]
    obtain ⟨i0, hi, hz0, hz1, hz2⟩ := info_parts infoInt
    refine wp_build0 22 3 rfl i0 _ Try.underlying22 hi hz0 ?_
    refine hK.out _ _ ⟨T.alloc T.lt _, ⟨_, _, _, _, _, R.alloc R.lt _⟩, B.alloc B.size _⟩ (fun hS2 => ?_)
    clear hK K
    have N0 : (w.alloc (.cells #[] 3)).ownsRow (w0.heap.size + 2) 3 1 (.slice (some ⟨w.heap.size, 0, none⟩) 0 0) 0 ([]) := World.ownsRow_lit _ _ _ (by omega) (by simp [maxLen]) rfl
    try simp only [Act.put, List.setIfInBounds_toArray, List.set_cons_zero]
    exact s1101 Q c w0 hd hl HQ w.heap.size g1 g3 _ hS2 N0 (O1.alloc _) (O3.alloc _) (Ap.new (fun k hk => (O1.lt k hk).2)).symm (Ap.new (fun k hk => (O3.lt k hk).2)).symm A13
  refine AllReadyH.cons (i := 8) rfl (fun K hK => ?_) AllReadyH.nil
  rw [if_pos (by rfl)]
  obtain ⟨i0, hi, hz0, hz1, hz2⟩ := info_parts infoP
  refine wp_build0 28 100 rfl i0 _ Try.underlying28 hi hz0 ?_
  refine hK.out _ _ ⟨T.alloc T.lt _, ⟨_, _, _, _, _, R.alloc R.lt _⟩, B.alloc B.size _⟩ (fun hS2 => ?_)
  clear hK K
  have N2 : (w.alloc (.cells #[] 100)).ownsRow (w0.heap.size + 2) 100 2 (.slice (some ⟨w.heap.size, 0, none⟩) 0 0) 0 ([]) := World.ownsRow_lit _ _ _ (by omega) (by simp [maxLen]) rfl
  try simp only [Act.put, List.setIfInBounds_toArray, List.set_cons_zero, List.set_cons_succ]
  exact s0111 Q c w0 hd hl HQ g1 w.heap.size g3 _ hS2 (O1.alloc _) N2 (O3.alloc _) (Ap.new (fun k hk => (O1.lt k hk).2)) A13 (Ap.new (fun k hk => (O3.lt k hk).2)).symm
set_option maxRecDepth 100000 in
theorem s0110 (Q : Exit → Act → World → Prop) (c : TF) (w0 : World) (hd : DpF w0 c) (hl : totF c ≤ 1048576) (HQ : Fin48 Q c w0) (g1 : Nat) (g2 : Nat) (w : World) (hS : S48 c w0 w) (O1 : w.ownsRow (w0.heap.size + 2) 3 1 (.slice (some ⟨g1, 0, none⟩) 0 0) 0 ([])) (O2 : w.ownsRow (w0.heap.size + 2) 100 2 (.slice (some ⟨g2, 0, none⟩) 0 0) 0 ([])) (A12 : Ap (.slice (some ⟨g1, 0, none⟩) 0 0) (.slice (some ⟨g2, 0, none⟩) 0 0)) : St Q c w0 8 #[false, true, true, false, true, true, true, false, true, true, true, false, false, true, true, false, true, true, false, false] undef undef (.slice (some ⟨g1, 0, none⟩) 0 0) undef (.slice (some ⟨g2, 0, none⟩) 0 0) undef undef undef w := by
  obtain ⟨T, ⟨x0, x1, x2, x3, x4, R⟩, B⟩ := hS
  have hw := R.lt
  unfold St
  refine wpAnyH_ready (rs := [0, 12]) (by kernel_rfl) (by simp) ?_
  refine AllReadyH.cons (i := 0) rfl (fun K hK => ?_) ?_
  · rw [if_pos (by rfl)]
    obtain ⟨i0, hi, hz0, hz1, hz2⟩ := info_parts infoInt
    refine wp_build0 22 3 rfl i0 _ Try.underlying22 hi hz0 ?_
    refine hK.out _ _ ⟨T.alloc T.lt _, ⟨_, _, _, _, _, R.alloc R.lt _⟩, B.alloc B.size _⟩ (fun hS2 => ?_)
    clear hK K
    have N0 : (w.alloc (.cells #[] 3)).ownsRow (w0.heap.size + 2) 3 1 (.slice (some ⟨w.heap.size, 0, none⟩) 0 0) 0 ([]) := World.ownsRow_lit _ _ _ (by omega) (by simp [maxLen]) rfl
    try simp only [Act.put, List.setIfInBounds_toArray, List.set_cons_zero]
    exact s1110 Q c w0 hd hl HQ w.heap.size g1 g2 _ hS2 N0 (O1.alloc _) (O2.alloc _) (Ap.new (fun k hk => (O1.lt k hk).2)).symm (Ap.new (fun k hk => (O2.lt k hk).2)).symm A12
  refine AllReadyH.cons (i := 12) rfl (fun K hK => ?_) AllReadyH.nil
  rw [if_pos (by rfl)]
  obtain ⟨i0, hi, hz0, hz1, hz2⟩ := info_parts infoP
  refine wp_build0 28 100 rfl i0 _ Try.underlying28 hi hz0 ?_
  refine hK.out _ _ ⟨T.alloc T.lt _, ⟨_, _, _, _, _, R.alloc R.lt _⟩, B.alloc B.size _⟩ (fun hS2 => ?_)
  clear hK K
  have N3 : (w.alloc (.cells #[] 100)).ownsRow (w0.heap.size + 2) 100 2 (.slice (some ⟨w.heap.size, 0, none⟩) 0 0) 0 ([]) := World.ownsRow_lit _ _ _ (by omega) (by simp [maxLen]) rfl
  try simp only [Act.put, List.setIfInBounds_toArray, List.set_cons_zero, List.set_cons_succ]
  exact s0111 Q c w0 hd hl HQ g1 g2 w.heap.size _ hS2 (O1.alloc _) (O2.alloc _) N3 A12 (Ap.new (fun k hk => (O1.lt k hk).2)) (Ap.new (fun k hk => (O2.lt k hk).2))
set_option maxRecDepth 100000 in
theorem s1001 (Q : Exit → Act → World → Prop) (c : TF) (w0 : World) (hd : DpF w0 c) (hl : totF c ≤ 1048576) (HQ : Fin48 Q c w0) (g0 : Nat) (g3 : Nat) (w : World) (hS : S48 c w0 w) (O0 : w.ownsRow (w0.heap.size + 2) 3 1 (.slice (some ⟨g0, 0, none⟩) 0 0) 0 ([])) (O3 : w.ownsRow (w0.heap.size + 2) 100 2 (.slice (some ⟨g3, 0, none⟩) 0 0) 0 ([])) (A03 : Ap (.slice (some ⟨g0, 0, none⟩) 0 0) (.slice (some ⟨g3, 0, none⟩) 0 0)) : St Q c w0 8 #[true, true, true, false, false, true, true, false, false, true, true, false, true, true, true, false, true, true, false, false] (.slice (some ⟨g0, 0, none⟩) 0 0) undef undef undef undef undef (.slice (some ⟨g3, 0, none⟩) 0 0) undef w := by
  obtain ⟨T, ⟨x0, x1, x2, x3, x4, R⟩, B⟩ := hS
  have hw := R.lt
  unfold St
  refine wpAnyH_ready (rs := [3, 4, 8]) (by kernel_rfl) (by simp) ?_
  refine AllReadyH.cons (i := 3) rfl (fun K hK => ?_) ?_
  · rw [if_pos (by rfl)]
    obtain ⟨i0, hi, hz0, hz1, hz2⟩ := info_parts infoInt
    have hr : RowAt (Value.int .i64) w c.1.1 c.1.2.2 := RpI.later hd.1 B
    have hnw := news_row hr
    have hnn := row_nil hr
    have hlen : c.1.2.2.length ≤ 1048576 := by unfold totF rtI rtP at hl; omega
    refine wp_append_any w (.tmp 3) (.tmp 5) 22 rfl (w0.heap.size + 2) 3 i0 _ 1 8 Try.underlying22 hi hz0 hz1 hz2 rfl (by decide) _ 0 [] rfl O0 c.1.1 c.1.2.2.length c.1.2.1 (c.1.2.2.map (Value.int .i64)) rfl (by simp) hnw (one_ints _) (by unfold maxLen; omega) (by omega) (by omega) hnn ?_
    intro vA wA ownA hg h5
    rw [Nat.zero_add, List.nil_append] at ownA
    obtain ⟨na, nc, rfl, _⟩ := own_shape ownA
    have hob : ∀ k, (Value.slice (some ⟨g0, 0, none⟩) 0 0).ownBlock = some k → w0.heap.size + 2 ≤ k := fun k hk => (O0.lt k hk).1
    refine hK.out _ _ ⟨T.only3 hg (fun h => by have := hob _ h; omega) T.lt, ⟨_, _, _, _, _, R.only3 hg (fun h => by have := hob _ h; omega) R.lt⟩, B.grown hg B.size (fun k hk => by have := hob _ hk; omega)⟩ (fun hS2 => ?_)
    clear hK K
    try simp only [Act.put, List.setIfInBounds_toArray, List.set_cons_zero, List.set_cons_succ]
    exact s2001 Q c w0 hd hl HQ _ na nc g3 _ hS2 ownA (own_kept O3 hg (fun k e h => (A03.symm) k e h)) (A03.symm.grow h5 (fun k hk => (O3.lt k hk).2)).symm
  refine AllReadyH.cons (i := 4) rfl (fun K hK => ?_) ?_
  · rw [if_pos (by rfl)]
    obtain ⟨i0, hi, hz0, hz1, hz2⟩ := info_parts infoInt
    refine wp_build0 22 3 rfl i0 _ Try.underlying22 hi hz0 ?_
    refine hK.out _ _ ⟨T.alloc T.lt _, ⟨_, _, _, _, _, R.alloc R.lt _⟩, B.alloc B.size _⟩ (fun hS2 => ?_)
    clear hK K
    have N1 : (w.alloc (.cells #[] 3)).ownsRow (w0.heap.size + 2) 3 1 (.slice (some ⟨w.heap.size, 0, none⟩) 0 0) 0 ([]) := World.ownsRow_lit _ _ _ (by omega) (by simp [maxLen]) rfl
    try simp only [Act.put, List.setIfInBounds_toArray, List.set_cons_zero, List.set_cons_succ]
    exact s1101 Q c w0 hd hl HQ g0 w.heap.size g3 _ hS2 (O0.alloc _) N1 (O3.alloc _) (Ap.new (fun k hk => (O0.lt k hk).2)) A03 (Ap.new (fun k hk => (O3.lt k hk).2)).symm
  refine AllReadyH.cons (i := 8) rfl (fun K hK => ?_) AllReadyH.nil
  rw [if_pos (by rfl)]
  obtain ⟨i0, hi, hz0, hz1, hz2⟩ := info_parts infoP
  refine wp_build0 28 100 rfl i0 _ Try.underlying28 hi hz0 ?_
  refine hK.out _ _ ⟨T.alloc T.lt _, ⟨_, _, _, _, _, R.alloc R.lt _⟩, B.alloc B.size _⟩ (fun hS2 => ?_)
  clear hK K
  have N2 : (w.alloc (.cells #[] 100)).ownsRow (w0.heap.size + 2) 100 2 (.slice (some ⟨w.heap.size, 0, none⟩) 0 0) 0 ([]) := World.ownsRow_lit _ _ _ (by omega) (by simp [maxLen]) rfl
  try simp only [Act.put, List.setIfInBounds_toArray, List.set_cons_zero, List.set_cons_succ]
  exact s1011 Q c w0 hd hl HQ g0 w.heap.size g3 _ hS2 (O0.alloc _) N2 (O3.alloc _) (Ap.new (fun k hk => (O0.lt k hk).2)) A03 (Ap.new (fun k hk => (O3.lt k hk).2)).symm
set_option maxRecDepth 100000 in
theorem s1010 (Q : Exit → Act → World → Prop) (c : TF) (w0 : World) (hd : DpF w0 c) (hl : totF c ≤ 1048576) (HQ : Fin48 Q c w0) (g0 : Nat) (g2 : Nat) (w : World) (hS : S48 c w0 w) (O0 : w.ownsRow (w0.heap.size + 2) 3 1 (.slice (some ⟨g0, 0, none⟩) 0 0) 0 ([])) (O2 : w.ownsRow (w0.heap.size + 2) 100 2 (.slice (some ⟨g2, 0, none⟩) 0 0) 0 ([])) (A02 : Ap (.slice (some ⟨g0, 0, none⟩) 0 0) (.slice (some ⟨g2, 0, none⟩) 0 0)) : St Q c w0 8 #[true, true, true, false, false, true, true, false, true, true, true, false, false, true, true, false, true, true, false, false] (.slice (some ⟨g0, 0, none⟩) 0 0) undef undef undef (.slice (some ⟨g2, 0, none⟩) 0 0) undef undef undef w := by
  obtain ⟨T, ⟨x0, x1, x2, x3, x4, R⟩, B⟩ := hS
  have hw := R.lt
  unfold St
  refine wpAnyH_ready (rs := [3, 4, 12]) (by kernel_rfl) (by simp) ?_
  refine AllReadyH.cons (i := 3) rfl (fun K hK => ?_) ?_
  · rw [if_pos (by rfl)]
    obtain ⟨i0, hi, hz0, hz1, hz2⟩ := info_parts infoInt
    have hr : RowAt (Value.int .i64) w c.1.1 c.1.2.2 := RpI.later hd.1 B
    have hnw := news_row hr
    have hnn := row_nil hr
    have hlen : c.1.2.2.length ≤ 1048576 := by unfold totF rtI rtP at hl; omega
    refine wp_append_any w (.tmp 3) (.tmp 5) 22 rfl (w0.heap.size + 2) 3 i0 _ 1 8 Try.underlying22 hi hz0 hz1 hz2 rfl (by decide) _ 0 [] rfl O0 c.1.1 c.1.2.2.length c.1.2.1 (c.1.2.2.map (Value.int .i64)) rfl (by simp) hnw (one_ints _) (by unfold maxLen; omega) (by omega) (by omega) hnn ?_
    intro vA wA ownA hg h5
    rw [Nat.zero_add, List.nil_append] at ownA
    obtain ⟨na, nc, rfl, _⟩ := own_shape ownA
    have hob : ∀ k, (Value.slice (some ⟨g0, 0, none⟩) 0 0).ownBlock = some k → w0.heap.size + 2 ≤ k := fun k hk => (O0.lt k hk).1
    refine hK.out _ _ ⟨T.only3 hg (fun h => by have := hob _ h; omega) T.lt, ⟨_, _, _, _, _, R.only3 hg (fun h => by have := hob _ h; omega) R.lt⟩, B.grown hg B.size (fun k hk => by have := hob _ hk; omega)⟩ (fun hS2 => ?_)
    clear hK K
    try simp only [Act.put, List.setIfInBounds_toArray, List.set_cons_zero, List.set_cons_succ]
    exact s2010 Q c w0 hd hl HQ _ na nc g2 _ hS2 ownA (own_kept O2 hg (fun k e h => (A02.symm) k e h)) (A02.symm.grow h5 (fun k hk => (O2.lt k hk).2)).symm
  refine AllReadyH.cons (i := 4) rfl (fun K hK => ?_) ?_
  · rw [if_pos (by rfl)]
    obtain ⟨i0, hi, hz0, hz1, hz2⟩ := info_parts infoInt
    refine wp_build0 22 3 rfl i0 _ Try.underlying22 hi hz0 ?_
    refine hK.out _ _ ⟨T.alloc T.lt _, ⟨_, _, _, _, _, R.alloc R.lt _⟩, B.alloc B.size _⟩ (fun hS2 => ?_)
    clear hK K
    have N1 : (w.alloc (.cells #[] 3)).ownsRow (w0.heap.size + 2) 3 1 (.slice (some ⟨w.heap.size, 0, none⟩) 0 0) 0 ([]) := World.ownsRow_lit _ _ _ (by omega) (by simp [maxLen]) rfl
    try simp only [Act.put, List.setIfInBounds_toArray, List.set_cons_zero, List.set_cons_succ]
    exact s1110 Q c w0 hd hl HQ g0 w.heap.size g2 _ hS2 (O0.alloc _) N1 (O2.alloc _) (Ap.new (fun k hk => (O0.lt k hk).2)) A02 (Ap.new (fun k hk => (O2.lt k hk).2)).symm
  refine AllReadyH.cons (i := 12) rfl (fun K hK => ?_) AllReadyH.nil
  rw [if_pos (by rfl)]
  obtain ⟨i0, hi, hz0, hz1, hz2⟩ := info_parts infoP
  refine wp_build0 28 100 rfl i0 _ Try.underlying28 hi hz0 ?_
  refine hK.out _ _ ⟨T.alloc T.lt _, ⟨_, _, _, _, _, R.alloc R.lt _⟩, B.alloc B.size _⟩ (fun hS2 => ?_)
  clear hK K
  have N3 : (w.alloc (.cells #[] 100)).ownsRow (w0.heap.size + 2) 100 2 (.slice (some ⟨w.heap.size, 0, none⟩) 0 0) 0 ([]) := World.ownsRow_lit _ _ _ (by omega) (by simp [maxLen]) rfl
  try simp only [Act.put, List.setIfInBounds_toArray, List.set_cons_zero, List.set_cons_succ]
  exact s1011 Q c w0 hd hl HQ g0 g2 w.heap.size _ hS2 (O0.alloc _) (O2.alloc _) N3 A02 (Ap.new (fun k hk => (O0.lt k hk).2)) (Ap.new (fun k hk => (O2.lt k hk).2))
set_option maxRecDepth 100000 in
theorem s1100 (Q : Exit → Act → World → Prop) (c : TF) (w0 : World) (hd : DpF w0 c) (hl : totF c ≤ 1048576) (HQ : Fin48 Q c w0) (g0 : Nat) (g1 : Nat) (w : World) (hS : S48 c w0 w) (O0 : w.ownsRow (w0.heap.size + 2) 3 1 (.slice (some ⟨g0, 0, none⟩) 0 0) 0 ([])) (O1 : w.ownsRow (w0.heap.size + 2) 3 1 (.slice (some ⟨g1, 0, none⟩) 0 0) 0 ([])) (A01 : Ap (.slice (some ⟨g0, 0, none⟩) 0 0) (.slice (some ⟨g1, 0, none⟩) 0 0)) : St Q c w0 8 #[true, true, true, false, true, true, true, false, false, true, true, false, false, true, true, false, true, true, false, false] (.slice (some ⟨g0, 0, none⟩) 0 0) undef (.slice (some ⟨g1, 0, none⟩) 0 0) undef undef undef undef undef w := by
  obtain ⟨T, ⟨x0, x1, x2, x3, x4, R⟩, B⟩ := hS
  have hw := R.lt
  unfold St
  refine wpAnyH_ready (rs := [3, 8, 12]) (by kernel_rfl) (by simp) ?_
  refine AllReadyH.cons (i := 3) rfl (fun K hK => ?_) ?_
  · rw [if_pos (by rfl)]
    obtain ⟨i0, hi, hz0, hz1, hz2⟩ := info_parts infoInt
    have hr : RowAt (Value.int .i64) w c.1.1 c.1.2.2 := RpI.later hd.1 B
    have hnw := news_row hr
    have hnn := row_nil hr
    have hlen : c.1.2.2.length ≤ 1048576 := by unfold totF rtI rtP at hl; omega
    refine wp_append_any w (.tmp 3) (.tmp 5) 22 rfl (w0.heap.size + 2) 3 i0 _ 1 8 Try.underlying22 hi hz0 hz1 hz2 rfl (by decide) _ 0 [] rfl O0 c.1.1 c.1.2.2.length c.1.2.1 (c.1.2.2.map (Value.int .i64)) rfl (by simp) hnw (one_ints _) (by unfold maxLen; omega) (by omega) (by omega) hnn ?_
    intro vA wA ownA hg h5
    rw [Nat.zero_add, List.nil_append] at ownA
    obtain ⟨na, nc, rfl, _⟩ := own_shape ownA
    have hob : ∀ k, (Value.slice (some ⟨g0, 0, none⟩) 0 0).ownBlock = some k → w0.heap.size + 2 ≤ k := fun k hk => (O0.lt k hk).1
    refine hK.out _ _ ⟨T.only3 hg (fun h => by have := hob _ h; omega) T.lt, ⟨_, _, _, _, _, R.only3 hg (fun h => by have := hob _ h; omega) R.lt⟩, B.grown hg B.size (fun k hk => by have := hob _ hk; omega)⟩ (fun hS2 => ?_)
    clear hK K
    try simp only [Act.put, List.setIfInBounds_toArray, List.set_cons_zero, List.set_cons_succ]
    exact s2100 Q c w0 hd hl HQ _ na nc g1 _ hS2 ownA (own_kept O1 hg (fun k e h => (A01.symm) k e h)) (A01.symm.grow h5 (fun k hk => (O1.lt k hk).2)).symm
  refine AllReadyH.cons (i := 8) rfl (fun K hK => ?_) ?_
  · rw [if_pos (by rfl)]
    obtain ⟨i0, hi, hz0, hz1, hz2⟩ := info_parts infoP
    refine wp_build0 28 100 rfl i0 _ Try.underlying28 hi hz0 ?_
    refine hK.out _ _ ⟨T.alloc T.lt _, ⟨_, _, _, _, _, R.alloc R.lt _⟩, B.alloc B.size _⟩ (fun hS2 => ?_)
    clear hK K
    have N2 : (w.alloc (.cells #[] 100)).ownsRow (w0.heap.size + 2) 100 2 (.slice (some ⟨w.heap.size, 0, none⟩) 0 0) 0 ([]) := World.ownsRow_lit _ _ _ (by omega) (by simp [maxLen]) rfl
    try simp only [Act.put, List.setIfInBounds_toArray, List.set_cons_zero, List.set_cons_succ]
    exact s1110 Q c w0 hd hl HQ g0 g1 w.heap.size _ hS2 (O0.alloc _) (O1.alloc _) N2 A01 (Ap.new (fun k hk => (O0.lt k hk).2)) (Ap.new (fun k hk => (O1.lt k hk).2))
  refine AllReadyH.cons (i := 12) rfl (fun K hK => ?_) AllReadyH.nil
  rw [if_pos (by rfl)]
  obtain ⟨i0, hi, hz0, hz1, hz2⟩ := info_parts infoP
  refine wp_build0 28 100 rfl i0 _ Try.underlying28 hi hz0 ?_
  refine hK.out _ _ ⟨T.alloc T.lt _, ⟨_, _, _, _, _, R.alloc R.lt _⟩, B.alloc B.size _⟩ (fun hS2 => ?_)
  clear hK K
  have N3 : (w.alloc (.cells #[] 100)).ownsRow (w0.heap.size + 2) 100 2 (.slice (some ⟨w.heap.size, 0, none⟩) 0 0) 0 ([]) := World.ownsRow_lit _ _ _ (by omega) (by simp [maxLen]) rfl
  try simp only [Act.put, List.setIfInBounds_toArray, List.set_cons_zero, List.set_cons_succ]
  exact s1101 Q c w0 hd hl HQ g0 g1 w.heap.size _ hS2 (O0.alloc _) (O1.alloc _) N3 A01 (Ap.new (fun k hk => (O0.lt k hk).2)) (Ap.new (fun k hk => (O1.lt k hk).2))
set_option maxRecDepth 100000 in
theorem s2000 (Q : Exit → Act → World → Prop) (c : TF) (w0 : World) (hd : DpF w0 c) (hl : totF c ≤ 1048576) (HQ : Fin48 Q c w0) (b0 : Value) (a0 : Option Addr) (c0 : Nat) (w : World) (hS : S48 c w0 w) (O0 : w.ownsRow (w0.heap.size + 2) 3 1 (.slice a0 c.1.2.2.length c0) c.1.2.2.length (c.1.2.2.map (Value.int .i64))) : St Q c w0 8 #[true, true, true, true, false, true, true, false, false, true, true, false, false, true, true, false, true, true, false, false] b0 (.slice a0 c.1.2.2.length c0) undef undef undef undef undef undef w := by
  obtain ⟨T, ⟨x0, x1, x2, x3, x4, R⟩, B⟩ := hS
  have hw := R.lt
  unfold St
  refine wpAnyH_ready (rs := [4, 8, 12]) (by kernel_rfl) (by simp) ?_
  refine AllReadyH.cons (i := 4) rfl (fun K hK => ?_) ?_
  · rw [if_pos (by rfl)]
    obtain ⟨i0, hi, hz0, hz1, hz2⟩ := info_parts infoInt
    refine wp_build0 22 3 rfl i0 _ Try.underlying22 hi hz0 ?_
    refine hK.out _ _ ⟨T.alloc T.lt _, ⟨_, _, _, _, _, R.alloc R.lt _⟩, B.alloc B.size _⟩ (fun hS2 => ?_)
    clear hK K
    have N1 : (w.alloc (.cells #[] 3)).ownsRow (w0.heap.size + 2) 3 1 (.slice (some ⟨w.heap.size, 0, none⟩) 0 0) 0 ([]) := World.ownsRow_lit _ _ _ (by omega) (by simp [maxLen]) rfl
    try simp only [Act.put, List.setIfInBounds_toArray, List.set_cons_zero, List.set_cons_succ]
    exact s2100 Q c w0 hd hl HQ b0 a0 c0 w.heap.size _ hS2 (O0.alloc _) N1 (Ap.new (fun k hk => (O0.lt k hk).2))
  refine AllReadyH.cons (i := 8) rfl (fun K hK => ?_) ?_
  · rw [if_pos (by rfl)]
    obtain ⟨i0, hi, hz0, hz1, hz2⟩ := info_parts infoP
    refine wp_build0 28 100 rfl i0 _ Try.underlying28 hi hz0 ?_
    refine hK.out _ _ ⟨T.alloc T.lt _, ⟨_, _, _, _, _, R.alloc R.lt _⟩, B.alloc B.size _⟩ (fun hS2 => ?_)
    clear hK K
    have N2 : (w.alloc (.cells #[] 100)).ownsRow (w0.heap.size + 2) 100 2 (.slice (some ⟨w.heap.size, 0, none⟩) 0 0) 0 ([]) := World.ownsRow_lit _ _ _ (by omega) (by simp [maxLen]) rfl
    try simp only [Act.put, List.setIfInBounds_toArray, List.set_cons_zero, List.set_cons_succ]
    exact s2010 Q c w0 hd hl HQ b0 a0 c0 w.heap.size _ hS2 (O0.alloc _) N2 (Ap.new (fun k hk => (O0.lt k hk).2))
  refine AllReadyH.cons (i := 12) rfl (fun K hK => ?_) AllReadyH.nil
  rw [if_pos (by rfl)]
  obtain ⟨i0, hi, hz0, hz1, hz2⟩ := info_parts infoP
  refine wp_build0 28 100 rfl i0 _ Try.underlying28 hi hz0 ?_
  refine hK.out _ _ ⟨T.alloc T.lt _, ⟨_, _, _, _, _, R.alloc R.lt _⟩, B.alloc B.size _⟩ (fun hS2 => ?_)
  clear hK K
  have N3 : (w.alloc (.cells #[] 100)).ownsRow (w0.heap.size + 2) 100 2 (.slice (some ⟨w.heap.size, 0, none⟩) 0 0) 0 ([]) := World.ownsRow_lit _ _ _ (by omega) (by simp [maxLen]) rfl
  try simp only [Act.put, List.setIfInBounds_toArray, List.set_cons_zero, List.set_cons_succ]
  exact s2001 Q c w0 hd hl HQ b0 a0 c0 w.heap.size _ hS2 (O0.alloc _) N3 (Ap.new (fun k hk => (O0.lt k hk).2))
set_option maxRecDepth 100000 in
theorem s0001 (Q : Exit → Act → World → Prop) (c : TF) (w0 : World) (hd : DpF w0 c) (hl : totF c ≤ 1048576) (HQ : Fin48 Q c w0) (g3 : Nat) (w : World) (hS : S48 c w0 w) (O3 : w.ownsRow (w0.heap.size + 2) 100 2 (.slice (some ⟨g3, 0, none⟩) 0 0) 0 ([])) : St Q c w0 9 #[false, true, true, false, false, true, true, false, false, true, true, false, true, true, true, false, true, true, false, false] undef undef undef undef undef undef (.slice (some ⟨g3, 0, none⟩) 0 0) undef w := by
  obtain ⟨T, ⟨x0, x1, x2, x3, x4, R⟩, B⟩ := hS
  have hw := R.lt
  unfold St
  refine wpAnyH_ready (rs := [0, 4, 8]) (by kernel_rfl) (by simp) ?_
  refine AllReadyH.cons (i := 0) rfl (fun K hK => ?_) ?_
  · rw [if_pos (by rfl)]
    obtain ⟨i0, hi, hz0, hz1, hz2⟩ := info_parts infoInt
    refine wp_build0 22 3 rfl i0 _ Try.underlying22 hi hz0 ?_
    refine hK.out _ _ ⟨T.alloc T.lt _, ⟨_, _, _, _, _, R.alloc R.lt _⟩, B.alloc B.size _⟩ (fun hS2 => ?_)
    clear hK K
    have N0 : (w.alloc (.cells #[] 3)).ownsRow (w0.heap.size + 2) 3 1 (.slice (some ⟨w.heap.size, 0, none⟩) 0 0) 0 ([]) := World.ownsRow_lit _ _ _ (by omega) (by simp [maxLen]) rfl
    try simp only [Act.put, List.setIfInBounds_toArray, List.set_cons_zero]
    exact s1001 Q c w0 hd hl HQ w.heap.size g3 _ hS2 N0 (O3.alloc _) (Ap.new (fun k hk => (O3.lt k hk).2)).symm
  refine AllReadyH.cons (i := 4) rfl (fun K hK => ?_) ?_
  · rw [if_pos (by rfl)]
    obtain ⟨i0, hi, hz0, hz1, hz2⟩ := info_parts infoInt
    refine wp_build0 22 3 rfl i0 _ Try.underlying22 hi hz0 ?_
    refine hK.out _ _ ⟨T.alloc T.lt _, ⟨_, _, _, _, _, R.alloc R.lt _⟩, B.alloc B.size _⟩ (fun hS2 => ?_)
    clear hK K
    have N1 : (w.alloc (.cells #[] 3)).ownsRow (w0.heap.size + 2) 3 1 (.slice (some ⟨w.heap.size, 0, none⟩) 0 0) 0 ([]) := World.ownsRow_lit _ _ _ (by omega) (by simp [maxLen]) rfl
    try simp only [Act.put, List.setIfInBounds_toArray, List.set_cons_zero, List.set_cons_succ]
    exact s0101 Q c w0 hd hl HQ w.heap.size g3 _ hS2 N1 (O3.alloc _) (Ap.new (fun k hk => (O3.lt k hk).2)).symm
  refine AllReadyH.cons (i := 8) rfl (fun K hK => ?_) AllReadyH.nil
  rw [if_pos (by rfl)]
  obtain ⟨i0, hi, hz0, hz1, hz2⟩ := info_parts infoP
  refine wp_build0 28 100 rfl i0 _ Try.underlying28 hi hz0 ?_
  refine hK.out _ _ ⟨T.alloc T.lt _, ⟨_, _, _, _, _, R.alloc R.lt _⟩, B.alloc B.size _⟩ (fun hS2 => ?_)
  clear hK K
  have N2 : (w.alloc (.cells #[] 100)).ownsRow (w0.heap.size + 2) 100 2 (.slice (some ⟨w.heap.size, 0, none⟩) 0 0) 0 ([]) := World.ownsRow_lit _ _ _ (by omega) (by simp [maxLen]) rfl
  try simp only [Act.put, List.setIfInBounds_toArray, List.set_cons_zero, List.set_cons_succ]
  exact s0011 Q c w0 hd hl HQ w.heap.size g3 _ hS2 N2 (O3.alloc _) (Ap.new (fun k hk => (O3.lt k hk).2)).symm
set_option maxRecDepth 100000 in
theorem s0010 (Q : Exit → Act → World → Prop) (c : TF) (w0 : World) (hd : DpF w0 c) (hl : totF c ≤ 1048576) (HQ : Fin48 Q c w0) (g2 : Nat) (w : World) (hS : S48 c w0 w) (O2 : w.ownsRow (w0.heap.size + 2) 100 2 (.slice (some ⟨g2, 0, none⟩) 0 0) 0 ([])) : St Q c w0 9 #[false, true, true, false, false, true, true, false, true, true, true, false, false, true, true, false, true, true, false, false] undef undef undef undef (.slice (some ⟨g2, 0, none⟩) 0 0) undef undef undef w := by
  obtain ⟨T, ⟨x0, x1, x2, x3, x4, R⟩, B⟩ := hS
  have hw := R.lt
  unfold St
  refine wpAnyH_ready (rs := [0, 4, 12]) (by kernel_rfl) (by simp) ?_
  refine AllReadyH.cons (i := 0) rfl (fun K hK => ?_) ?_
  · rw [if_pos (by rfl)]
    obtain ⟨i0, hi, hz0, hz1, hz2⟩ := info_parts infoInt
    refine wp_build0 22 3 rfl i0 _ Try.underlying22 hi hz0 ?_
    refine hK.out _ _ ⟨T.alloc T.lt _, ⟨_, _, _, _, _, R.alloc R.lt _⟩, B.alloc B.size _⟩ (fun hS2 => ?_)
    clear hK K
    have N0 : (w.alloc (.cells #[] 3)).ownsRow (w0.heap.size + 2) 3 1 (.slice (some ⟨w.heap.size, 0, none⟩) 0 0) 0 ([]) := World.ownsRow_lit _ _ _ (by omega) (by simp [maxLen]) rfl
    try simp only [Act.put, List.setIfInBounds_toArray, List.set_cons_zero]
    exact s1010 Q c w0 hd hl HQ w.heap.size g2 _ hS2 N0 (O2.alloc _) (Ap.new (fun k hk => (O2.lt k hk).2)).symm
  refine AllReadyH.cons (i := 4) rfl (fun K hK => ?_) ?_
  · rw [if_pos (by rfl)]
    obtain ⟨i0, hi, hz0, hz1, hz2⟩ := info_parts infoInt
    refine wp_build0 22 3 rfl i0 _ Try.underlying22 hi hz0 ?_
    refine hK.out _ _ ⟨T.alloc T.lt _, ⟨_, _, _, _, _, R.alloc R.lt _⟩, B.alloc B.size _⟩ (fun hS2 => ?_)
    clear hK K
    have N1 : (w.alloc (.cells #[] 3)).ownsRow (w0.heap.size + 2) 3 1 (.slice (some ⟨w.heap.size, 0, none⟩) 0 0) 0 ([]) := World.ownsRow_lit _ _ _ (by omega) (by simp [maxLen]) rfl
    try simp only [Act.put, List.setIfInBounds_toArray, List.set_cons_zero, List.set_cons_succ]
    exact s0110 Q c w0 hd hl HQ w.heap.size g2 _ hS2 N1 (O2.alloc _) (Ap.new (fun k hk => (O2.lt k hk).2)).symm
  refine AllReadyH.cons (i := 12) rfl (fun K hK => ?_) AllReadyH.nil
  rw [if_pos (by rfl)]
  obtain ⟨i0, hi, hz0, hz1, hz2⟩ := info_parts infoP
  refine wp_build0 28 100 rfl i0 _ Try.underlying28 hi hz0 ?_
  refine hK.out _ _ ⟨T.alloc T.lt _, ⟨_, _, _, _, _, R.alloc R.lt _⟩, B.alloc B.size _⟩ (fun hS2 => ?_)
  clear hK K
  have N3 : (w.alloc (.cells #[] 100)).ownsRow (w0.heap.size + 2) 100 2 (.slice (some ⟨w.heap.size, 0, none⟩) 0 0) 0 ([]) := World.ownsRow_lit _ _ _ (by omega) (by simp [maxLen]) rfl
  try simp only [Act.put, List.setIfInBounds_toArray, List.set_cons_zero, List.set_cons_succ]
  exact s0011 Q c w0 hd hl HQ g2 w.heap.size _ hS2 (O2.alloc _) N3 (Ap.new (fun k hk => (O2.lt k hk).2))
set_option maxRecDepth 100000 in
theorem s0100 (Q : Exit → Act → World → Prop) (c : TF) (w0 : World) (hd : DpF w0 c) (hl : totF c ≤ 1048576) (HQ : Fin48 Q c w0) (g1 : Nat) (w : World) (hS : S48 c w0 w) (O1 : w.ownsRow (w0.heap.size + 2) 3 1 (.slice (some ⟨g1, 0, none⟩) 0 0) 0 ([])) : St Q c w0 9 #[false, true, true, false, true, true, true, false, false, true, true, false, false, true, true, false, true, true, false, false] undef undef (.slice (some ⟨g1, 0, none⟩) 0 0) undef undef undef undef undef w := by
  obtain ⟨T, ⟨x0, x1, x2, x3, x4, R⟩, B⟩ := hS
  have hw := R.lt
  unfold St
  refine wpAnyH_ready (rs := [0, 8, 12]) (by kernel_rfl) (by simp) ?_
  refine AllReadyH.cons (i := 0) rfl (fun K hK => ?_) ?_
  · rw [if_pos (by rfl)]
    obtain ⟨i0, hi, hz0, hz1, hz2⟩ := info_parts infoInt
    refine wp_build0 22 3 rfl i0 _ Try.underlying22 hi hz0 ?_
    refine hK.out _ _ ⟨T.alloc T.lt _, ⟨_, _, _, _, _, R.alloc R.lt _⟩, B.alloc B.size _⟩ (fun hS2 => ?_)
    clear hK K
    have N0 : (w.alloc (.cells #[] 3)).ownsRow (w0.heap.size + 2) 3 1 (.slice (some ⟨w.heap.size, 0, none⟩) 0 0) 0 ([]) := World.ownsRow_lit _ _ _ (by omega) (by simp [maxLen]) rfl
    try simp only [Act.put, List.setIfInBounds_toArray, List.set_cons_zero]
    exact s1100 Q c w0 hd hl HQ w.heap.size g1 _ hS2 N0 (O1.alloc _) (Ap.new (fun k hk => (O1.lt k hk).2)).symm
  refine AllReadyH.cons (i := 8) rfl (fun K hK => ?_) ?_
  · rw [if_pos (by rfl)]
    obtain ⟨i0, hi, hz0, hz1, hz2⟩ := info_parts infoP
    refine wp_build0 28 100 rfl i0 _ Try.underlying28 hi hz0 ?_
    refine hK.out _ _ ⟨T.alloc T.lt _, ⟨_, _, _, _, _, R.alloc R.lt _⟩, B.alloc B.size _⟩ (fun hS2 => ?_)
    clear hK K
    have N2 : (w.alloc (.cells #[] 100)).ownsRow (w0.heap.size + 2) 100 2 (.slice (some ⟨w.heap.size, 0, none⟩) 0 0) 0 ([]) := World.ownsRow_lit _ _ _ (by omega) (by simp [maxLen]) rfl
    try simp only [Act.put, List.setIfInBounds_toArray, List.set_cons_zero, List.set_cons_succ]
    exact s0110 Q c w0 hd hl HQ g1 w.heap.size _ hS2 (O1.alloc _) N2 (Ap.new (fun k hk => (O1.lt k hk).2))
  refine AllReadyH.cons (i := 12) rfl (fun K hK => ?_) AllReadyH.nil
  rw [if_pos (by rfl)]
  obtain ⟨i0, hi, hz0, hz1, hz2⟩ := info_parts infoP
  refine wp_build0 28 100 rfl i0 _ Try.underlying28 hi hz0 ?_
  refine hK.out _ _ ⟨T.alloc T.lt _, ⟨_, _, _, _, _, R.alloc R.lt _⟩, B.alloc B.size _⟩ (fun hS2 => ?_)
  clear hK K
  have N3 : (w.alloc (.cells #[] 100)).ownsRow (w0.heap.size + 2) 100 2 (.slice (some ⟨w.heap.size, 0, none⟩) 0 0) 0 ([]) := World.ownsRow_lit _ _ _ (by omega) (by simp [maxLen]) rfl
  try simp only [Act.put, List.setIfInBounds_toArray, List.set_cons_zero, List.set_cons_succ]
  exact s0101 Q c w0 hd hl HQ g1 w.heap.size _ hS2 (O1.alloc _) N3 (Ap.new (fun k hk => (O1.lt k hk).2))
set_option maxRecDepth 100000 in
theorem s1000 (Q : Exit → Act → World → Prop) (c : TF) (w0 : World) (hd : DpF w0 c) (hl : totF c ≤ 1048576) (HQ : Fin48 Q c w0) (g0 : Nat) (w : World) (hS : S48 c w0 w) (O0 : w.ownsRow (w0.heap.size + 2) 3 1 (.slice (some ⟨g0, 0, none⟩) 0 0) 0 ([])) : St Q c w0 9 #[true, true, true, false, false, true, true, false, false, true, true, false, false, true, true, false, true, true, false, false] (.slice (some ⟨g0, 0, none⟩) 0 0) undef undef undef undef undef undef undef w := by
  obtain ⟨T, ⟨x0, x1, x2, x3, x4, R⟩, B⟩ := hS
  have hw := R.lt
  unfold St
  refine wpAnyH_ready (rs := [3, 4, 8, 12]) (by kernel_rfl) (by simp) ?_
  refine AllReadyH.cons (i := 3) rfl (fun K hK => ?_) ?_
  · rw [if_pos (by rfl)]
    obtain ⟨i0, hi, hz0, hz1, hz2⟩ := info_parts infoInt
    have hr : RowAt (Value.int .i64) w c.1.1 c.1.2.2 := RpI.later hd.1 B
    have hnw := news_row hr
    have hnn := row_nil hr
    have hlen : c.1.2.2.length ≤ 1048576 := by unfold totF rtI rtP at hl; omega
    refine wp_append_any w (.tmp 3) (.tmp 5) 22 rfl (w0.heap.size + 2) 3 i0 _ 1 8 Try.underlying22 hi hz0 hz1 hz2 rfl (by decide) _ 0 [] rfl O0 c.1.1 c.1.2.2.length c.1.2.1 (c.1.2.2.map (Value.int .i64)) rfl (by simp) hnw (one_ints _) (by unfold maxLen; omega) (by omega) (by omega) hnn ?_
    intro vA wA ownA hg h5
    rw [Nat.zero_add, List.nil_append] at ownA
    obtain ⟨na, nc, rfl, _⟩ := own_shape ownA
    have hob : ∀ k, (Value.slice (some ⟨g0, 0, none⟩) 0 0).ownBlock = some k → w0.heap.size + 2 ≤ k := fun k hk => (O0.lt k hk).1
    refine hK.out _ _ ⟨T.only3 hg (fun h => by have := hob _ h; omega) T.lt, ⟨_, _, _, _, _, R.only3 hg (fun h => by have := hob _ h; omega) R.lt⟩, B.grown hg B.size (fun k hk => by have := hob _ hk; omega)⟩ (fun hS2 => ?_)
    clear hK K
    try simp only [Act.put, List.setIfInBounds_toArray, List.set_cons_zero, List.set_cons_succ]
    exact s2000 Q c w0 hd hl HQ _ na nc _ hS2 ownA 
  refine AllReadyH.cons (i := 4) rfl (fun K hK => ?_) ?_
  · rw [if_pos (by rfl)]
    obtain ⟨i0, hi, hz0, hz1, hz2⟩ := info_parts infoInt
    refine wp_build0 22 3 rfl i0 _ Try.underlying22 hi hz0 ?_
    refine hK.out _ _ ⟨T.alloc T.lt _, ⟨_, _, _, _, _, R.alloc R.lt _⟩, B.alloc B.size _⟩ (fun hS2 => ?_)
    clear hK K
    have N1 : (w.alloc (.cells #[] 3)).ownsRow (w0.heap.size + 2) 3 1 (.slice (some ⟨w.heap.size, 0, none⟩) 0 0) 0 ([]) := World.ownsRow_lit _ _ _ (by omega) (by simp [maxLen]) rfl
    try simp only [Act.put, List.setIfInBounds_toArray, List.set_cons_zero, List.set_cons_succ]
    exact s1100 Q c w0 hd hl HQ g0 w.heap.size _ hS2 (O0.alloc _) N1 (Ap.new (fun k hk => (O0.lt k hk).2))
  refine AllReadyH.cons (i := 8) rfl (fun K hK => ?_) ?_
  · rw [if_pos (by rfl)]
    obtain ⟨i0, hi, hz0, hz1, hz2⟩ := info_parts infoP
    refine wp_build0 28 100 rfl i0 _ Try.underlying28 hi hz0 ?_
    refine hK.out _ _ ⟨T.alloc T.lt _, ⟨_, _, _, _, _, R.alloc R.lt _⟩, B.alloc B.size _⟩ (fun hS2 => ?_)
    clear hK K
    have N2 : (w.alloc (.cells #[] 100)).ownsRow (w0.heap.size + 2) 100 2 (.slice (some ⟨w.heap.size, 0, none⟩) 0 0) 0 ([]) := World.ownsRow_lit _ _ _ (by omega) (by simp [maxLen]) rfl
    try simp only [Act.put, List.setIfInBounds_toArray, List.set_cons_zero, List.set_cons_succ]
    exact s1010 Q c w0 hd hl HQ g0 w.heap.size _ hS2 (O0.alloc _) N2 (Ap.new (fun k hk => (O0.lt k hk).2))
  refine AllReadyH.cons (i := 12) rfl (fun K hK => ?_) AllReadyH.nil
  rw [if_pos (by rfl)]
  obtain ⟨i0, hi, hz0, hz1, hz2⟩ := info_parts infoP
  refine wp_build0 28 100 rfl i0 _ Try.underlying28 hi hz0 ?_
  refine hK.out _ _ ⟨T.alloc T.lt _, ⟨_, _, _, _, _, R.alloc R.lt _⟩, B.alloc B.size _⟩ (fun hS2 => ?_)
  clear hK K
  have N3 : (w.alloc (.cells #[] 100)).ownsRow (w0.heap.size + 2) 100 2 (.slice (some ⟨w.heap.size, 0, none⟩) 0 0) 0 ([]) := World.ownsRow_lit _ _ _ (by omega) (by simp [maxLen]) rfl
  try simp only [Act.put, List.setIfInBounds_toArray, List.set_cons_zero, List.set_cons_succ]
  exact s1001 Q c w0 hd hl HQ g0 w.heap.size _ hS2 (O0.alloc _) N3 (Ap.new (fun k hk => (O0.lt k hk).2))
set_option maxRecDepth 100000 in
theorem s0000 (Q : Exit → Act → World → Prop) (c : TF) (w0 : World) (hd : DpF w0 c) (hl : totF c ≤ 1048576) (HQ : Fin48 Q c w0) (w : World) (hS : S48 c w0 w) : St Q c w0 10 #[false, true, true, false, false, true, true, false, false, true, true, false, false, true, true, false, true, true, false, false] undef undef undef undef undef undef undef undef w := by
  obtain ⟨T, ⟨x0, x1, x2, x3, x4, R⟩, B⟩ := hS
  have hw := R.lt
  unfold St
  refine wpAnyH_ready (rs := [0, 4, 8, 12]) (by kernel_rfl) (by simp) ?_
  refine AllReadyH.cons (i := 0) rfl (fun K hK => ?_) ?_
  · rw [if_pos (by rfl)]
    obtain ⟨i0, hi, hz0, hz1, hz2⟩ := info_parts infoInt
    refine wp_build0 22 3 rfl i0 _ Try.underlying22 hi hz0 ?_
    refine hK.out _ _ ⟨T.alloc T.lt _, ⟨_, _, _, _, _, R.alloc R.lt _⟩, B.alloc B.size _⟩ (fun hS2 => ?_)
    clear hK K
    have N0 : (w.alloc (.cells #[] 3)).ownsRow (w0.heap.size + 2) 3 1 (.slice (some ⟨w.heap.size, 0, none⟩) 0 0) 0 ([]) := World.ownsRow_lit _ _ _ (by omega) (by simp [maxLen]) rfl
    try simp only [Act.put, List.setIfInBounds_toArray, List.set_cons_zero]
    exact s1000 Q c w0 hd hl HQ w.heap.size _ hS2 N0 
  refine AllReadyH.cons (i := 4) rfl (fun K hK => ?_) ?_
  · rw [if_pos (by rfl)]
    obtain ⟨i0, hi, hz0, hz1, hz2⟩ := info_parts infoInt
    refine wp_build0 22 3 rfl i0 _ Try.underlying22 hi hz0 ?_
    refine hK.out _ _ ⟨T.alloc T.lt _, ⟨_, _, _, _, _, R.alloc R.lt _⟩, B.alloc B.size _⟩ (fun hS2 => ?_)
    clear hK K
    have N1 : (w.alloc (.cells #[] 3)).ownsRow (w0.heap.size + 2) 3 1 (.slice (some ⟨w.heap.size, 0, none⟩) 0 0) 0 ([]) := World.ownsRow_lit _ _ _ (by omega) (by simp [maxLen]) rfl
    try simp only [Act.put, List.setIfInBounds_toArray, List.set_cons_zero, List.set_cons_succ]
    exact s0100 Q c w0 hd hl HQ w.heap.size _ hS2 N1 
  refine AllReadyH.cons (i := 8) rfl (fun K hK => ?_) ?_
  · rw [if_pos (by rfl)]
    obtain ⟨i0, hi, hz0, hz1, hz2⟩ := info_parts infoP
    refine wp_build0 28 100 rfl i0 _ Try.underlying28 hi hz0 ?_
    refine hK.out _ _ ⟨T.alloc T.lt _, ⟨_, _, _, _, _, R.alloc R.lt _⟩, B.alloc B.size _⟩ (fun hS2 => ?_)
    clear hK K
    have N2 : (w.alloc (.cells #[] 100)).ownsRow (w0.heap.size + 2) 100 2 (.slice (some ⟨w.heap.size, 0, none⟩) 0 0) 0 ([]) := World.ownsRow_lit _ _ _ (by omega) (by simp [maxLen]) rfl
    try simp only [Act.put, List.setIfInBounds_toArray, List.set_cons_zero, List.set_cons_succ]
    exact s0010 Q c w0 hd hl HQ w.heap.size _ hS2 N2 
  refine AllReadyH.cons (i := 12) rfl (fun K hK => ?_) AllReadyH.nil
  rw [if_pos (by rfl)]
  obtain ⟨i0, hi, hz0, hz1, hz2⟩ := info_parts infoP
  refine wp_build0 28 100 rfl i0 _ Try.underlying28 hi hz0 ?_
  refine hK.out _ _ ⟨T.alloc T.lt _, ⟨_, _, _, _, _, R.alloc R.lt _⟩, B.alloc B.size _⟩ (fun hS2 => ?_)
  clear hK K
  have N3 : (w.alloc (.cells #[] 100)).ownsRow (w0.heap.size + 2) 100 2 (.slice (some ⟨w.heap.size, 0, none⟩) 0 0) 0 ([]) := World.ownsRow_lit _ _ _ (by omega) (by simp [maxLen]) rfl
  try simp only [Act.put, List.setIfInBounds_toArray, List.set_cons_zero, List.set_cons_succ]
  exact s0001 Q c w0 hd hl HQ w.heap.size _ hS2 N3 
end Go.Proofs.Ytflajkbbggmdjaa.Nd
