/- l14Some: a message that is drawn, and perhaps spoiled. -/
import Derived.Test.YtengggpobhibcaaDoorDm1
set_option linter.unusedVariables false
set_option maxRecDepth 100000
namespace Go.Proofs.YtengggpobhibcaaDoor.Nd
open Go Go.RowKit Go.Joins Own Draw Var

theorem fl_set {k j : Nat} (v : Value) (x : TT) : ∀ (xs : List TT) (k : Nat), (h : k < xs.length) → j < 4 → cT x = (cT xs[k]).set j v → (fl cT xs).set (k * 4 + j) v = fl cT (xs.set k x)
  | [], k, h, _, _ => absurd h (by simp)
  | y :: ys, 0, _, hj, e => by
    rw [fl_cons, List.set_cons_zero, fl_cons, Nat.zero_mul, Nat.zero_add, List.set_append_left _ _ (by rw [lT]; exact hj)]
    rw [show cT x = (cT y).set j v from e]
  | y :: ys, k + 1, h, hj, e => by
    rw [fl_cons, List.set_cons_succ, fl_cons, List.set_append_right _ _ (by rw [lT]; omega), lT, show (k + 1) * 4 + j - 4 = k * 4 + j by omega, fl_set (k := k) (j := j) v x ys k (by simpa using h) hj e]
/-- One field of a node stored. -/
theorem RoT.setf {B g c k j : Nat} {w : World} {xs : List TT} (h : RoT B w (some ⟨g, 0, none⟩, c, xs)) (hk : k < xs.length) (hj : j < 4) (v : Value) (x : TT) (e : cT x = (cT xs[k]).set j v) (hx : OwT B (w.setCell ⟨g, k * 4 + j, none⟩ v) x) :
    RoT B (w.setCell ⟨g, k * 4 + j, none⟩ v) (some ⟨g, 0, none⟩, c, xs.set k x) := by
  obtain ⟨h1, h2⟩ := World.ownsRow.stored h.1 (k * 4 + j) v
  refine ⟨?_, fun y hy => ?_⟩
  · have := h1
    dsimp only at this
    rw [fl_set (k := k) (j := j) v x xs k hk hj e] at this
    unfold FOwn
    simpa using this
  · rcases List.mem_or_eq_of_mem_set hy with h' | h'
    · exact World.ownsRow.kept (h.2 y h') h2 (own_ne (h.2 y h') h.1)
    · subst h'; exact hx
theorem own_some {B : Nat} {w : World} {q : Rw TT} (h : RoT B w q) (hl : 1 ≤ q.2.2.length) : ∃ g, q.1 = some ⟨g, 0, none⟩ ∧ B ≤ g ∧ g < w.heap.size := by
  rcases h.1.2 with ⟨e, h0⟩ | ⟨g, cap, cur, e, hB, hg, _⟩
  · omega
  · injection e with e1 _ _
    exact ⟨g, e1, hB, (Array.getElem?_eq_some_iff.1 hg).1⟩
/-- Small enough. -/
def BdT (q : Rw TT) : Prop := q.2.2.length ≤ 200 ∧ ∀ x ∈ q.2.2, x.2.2.1.size ≤ 1000 ∧ x.2.2.2.2.2.length ≤ 4
theorem bd_set {a : Option Addr} {c k : Nat} {xs : List TT} (h : BdT (a, c, xs)) (x : TT) (hx : x.2.2.1.size ≤ 1000 ∧ x.2.2.2.2.2.length ≤ 4) : BdT (a, c, xs.set k x) := by
  refine ⟨by show (xs.set k x).length ≤ 200; rw [List.length_set]; exact h.1, fun y hy => ?_⟩
  rcases List.mem_or_eq_of_mem_set hy with h' | h'
  · exact h.2 y h'
  · subst h'; exact hx
theorem step_where {P : Program} {ops : Array Oper} {o : Oper} {a : Act} {w : World} {K : Act → World → Prop} {Q : Exit → Act → World → Prop} {E : Prop} (d : Nat) (hd : o.dst = some d) (hgd : o.guard = none) (s x : Operand) (t : TypeId)
    (ho : o.op = .call { callee := .builtin .append, args := #[s, x], argTypes := #[t, t] })
    (base : Nat) (e : TypeId) (i : TypeInfo) (z : Value) (size bytes : Nat) (ht : P.underlying t = some (.slice e)) (hi : P.info? e = some i) (hz : i.zero = some z)
    (hsize : i.size = size) (hby : i.bytes = bytes) (hzs : z.cells.size = size) (hsz : 0 < size)
    (v : Value) (n : Nat) (xs : List Value) (hs : a.eval s = v) (hown : w.ownsRow base e size v n xs)
    (ad : Addr) (m c : Nat) (news : List Value) (hx : a.eval x = .slice (some ad) m c) (hl : news.length = m * size) (hnews : ∀ j u, news[j]? = some u → w.cell? (ad.add j) = some u) (h1 : ∀ u ∈ news, u.oneCell' = true)
    (h63 : n + m ≤ maxLen) (hbytes : (n + m) * bytes ≤ 140737488355328) (hbase : base ≤ w.heap.size) (hm : 0 < m)
    (h : ∀ v' w', w'.ownsRow base e size v' (n + m) (xs ++ news) → w.grownBy w' v.ownBlock → (v'.ownBlock = v.ownBlock ∨ v'.ownBlock = some w.heap.size) → K (a.put (some d) v') w') :
    if Region.wanted o (yielded ops a.tmps) = true then Oper.wp P o a w K Q else E := by
  rw [if_pos (by simp [Region.wanted, hgd])]
  obtain ⟨v', w', hr, h2, h3, h5⟩ := run_append_where (P := P) w base t o.type e i z size bytes ht hi hz hsize hby hzs hsz v n xs hown ad m c news hl hnews h1 h63 hbytes hbase hm
  unfold Oper.wp execOp
  simp only [ho, resolve, invoke, builtin, Sem.run_bind, Sem.run_pure, Result.andThen_ok, List.map_toArray, List.map_cons, List.map_nil, hs, hx, hr]
  have := h v' w' h2 h3 h5
  rw [← hd] at this
  exact this
/-- One node's Kids grown, and stored. -/
theorem RoT.setk {B g c k : Nat} {w wK : World} {xs : List TT} (h : RoT B w (some ⟨g, 0, none⟩, c, xs)) (ap : ApT (some ⟨g, 0, none⟩, c, xs)) (hk : k < xs.length) (kr : Rw Int) (hg : w.grownBy wK (kbT xs[k])) (hkr : RoI B wK kr) :
    RoT B (wK.setCell ⟨g, k * 4 + 3, none⟩ (.slice kr.1 kr.2.2.length kr.2.1)) (some ⟨g, 0, none⟩, c, xs.set k (xs[k].1, xs[k].2.1, xs[k].2.2.1, kr)) := by
  have hk1 := own_ne (h.2 xs[k] (List.getElem_mem hk)) h.1
  have f1 : wK.ownsRow B 61 4 (.slice (some ⟨g, 0, none⟩) xs.length c) xs.length (fl cT xs) := World.ownsRow.kept h.1 hg (by
    rcases hk1 with e | e
    · right; rw [show kbT xs[k] = none from e]; intro c; cases c
    · right; exact fun c => e c.symm)
  obtain ⟨f2, f3⟩ := World.ownsRow.stored f1 (k * 4 + 3) (.slice kr.1 kr.2.2.length kr.2.1)
  refine ⟨?_, fun y hy => ?_⟩
  · rw [fl_set (k := k) (j := 3) _ (xs[k].1, xs[k].2.1, xs[k].2.2.1, kr) xs k hk (by omega) rfl] at f2
    unfold FOwn
    simpa using f2
  · obtain ⟨i, hi, rfl⟩ := List.mem_iff_getElem.1 hy
    dsimp only at hi
    rw [List.length_set] at hi
    by_cases e : i = k
    · subst e
      rw [List.getElem_set_self]
      exact World.ownsRow.kept hkr f3 (own_ne hkr f1)
    · rw [List.getElem_set_ne (Ne.symm e)]
      have h1 : OwT B wK xs[i] := World.ownsRow.kept (h.2 xs[i] (List.getElem_mem hi)) hg (by
        have hp := List.pairwise_iff_getElem.1 ap
        dsimp only at hp
        cases hb : (Value.slice xs[i].2.2.2.1 xs[i].2.2.2.2.2.length xs[i].2.2.2.2.1).ownBlock with
        | none => exact Or.inl rfl
        | some j =>
          right
          intro c
          rcases Nat.lt_or_gt_of_ne e with h' | h'
          · exact hp i k hi hk h' j hb c.symm
          · exact hp k i hk hi h' j c.symm hb)
      exact World.ownsRow.kept h1 f3 (own_ne h1 f1)
def lnV : Value → Nat
  | .slice _ l _ => l
  | _ => 0
section
variable {pc : Nat} {ad : Option Addr} {len cap : Nat} {zs : List Int}
theorem Ch.under {o : Option Nat} {w w' : World} (h : Ch pc pc o w w') (hp : pc ≤ w.heap.size) (ho : ∀ j, o = some j → pc ≤ j) : Below pc w w' :=
  ⟨h.os, h.tape, h.output, h.size, fun j hj => h.block j (by omega) (by omega) (by omega) (fun e => by have := ho j e.symm; omega)⟩
/-- What a call of l14Some leaves. -/
def SomeP (pc : Nat) (ad : Option Addr) (len cap : Nat) (zs : List Int) (B : Nat) (w : World) (e : Ending) (w' : World) : Prop :=
  ∃ q : Rw TT, e = .returned (slT q) ∧ RoT B w' q ∧ Cu pc ad len cap zs w' w' ∧ Below pc w w' ∧ BdT q ∧ 1 ≤ q.2.2.length
set_option maxHeartbeats 6400000 in
theorem some_is (w : World) (C : Cu pc ad len cap zs w w) :
    Calls Tryd.prog 14 #[.pointer (some ⟨pc, 0, none⟩)] w (SomeP pc ad len cap zs (pc + 1) w) := by
  obtain ⟨it, hit, hits⟩ := info_T
  obtain ⟨jt, hjt, hjz, hjs, hjb⟩ := parts_of info44
  obtain ⟨j3, hj3, hjz3, hjs3, hjb3⟩ := parts_of info3
  have hpw : pc < w.heap.size := C.lt
  obtain ⟨V, hV⟩ : ∃ V, w.alloc (.cells #[] 61) = V := ⟨_, rfl⟩
  have BV : Below w.heap.size w V := by rw [← hV]; exact (Below.refl _ _).alloc (Nat.le_refl _) _
  have CV := cu_under C BV
  have rV : RoT (pc + 1) V (some ⟨w.heap.size, 0, none⟩, 0, []) := ⟨by rw [← hV]; exact World.ownsRow_lit _ _ _ (by omega) (by unfold maxLen; exact Nat.zero_le _) rfl, fun x hx => by simp at hx⟩
  have KP : Calls Tryd.prog 26 #[.pointer (some ⟨pc, 0, none⟩), .slice (some ⟨w.heap.size, 0, none⟩) 0 0, .int .i64 4] V _ := put_is 5 4 (by omega) (by omega) (pc + 1) (some ⟨w.heap.size, 0, none⟩, 0, []) V (by omega) (by have := BV.size; omega) rV (by simp [ApT]) (fun x hx => by simp at hx) (by show 0 + cntN 4 ≤ 1000; decide) CV
  go_enter Tryd.func14, Tryd.ntmps14
  go_wp2_with fail
  try rw [hV]
  refine KP.mono ?_
  clear KP
  rintro e w1 ⟨⟨qa, qc, ys⟩, rfl, r1, C1, ch1, cu1, of1, ap1, sm1, la1, lb1⟩
  dsimp only at la1 lb1 sm1
  have hc4 : cntN 4 = 121 := by decide
  have la : 1 ≤ ys.length := by simpa using la1
  have lb : ys.length ≤ 121 := by simpa [hc4] using lb1
  have B1 : Below pc w w1 := (BV.mono (Nat.le_of_lt hpw)).trans (ch1.under (by have := BV.size; omega) (fun j e => by have e2 : some w.heap.size = some j := e; injection e2 with e2; omega))
  have hkids3 : ∀ x ∈ ys, x.2.2.2.2.2.length ≤ 3 := fun x hx => (sm1 x hx).2
  have bd1 : BdT (qa, qc, ys) := ⟨by dsimp only; omega, fun x hx => ⟨by have := (sm1 x hx).1; omega, by have := (sm1 x hx).2; omega⟩⟩
  obtain ⟨g0, hg0, hBg, hgl⟩ := own_some r1 la
  dsimp only at hg0
  subst hg0
  clear hV BV CV rV ch1 cu1 of1 sm1 la1 lb1 hc4
  dsimp only [slT]
  go_wp2_with fail
  refine (onceW 6 C1 (by omega)).mono ?_
  rintro e w2 ⟨b, rfl, c2⟩
  have r2 := r1.drawn c2 (by omega)
  have C2 := c2.here
  have B2 := B1.trans (c2.2.below (Nat.le_refl _) C1.lt)
  have hgl2 : g0 < w2.heap.size := Nat.lt_of_lt_of_le hgl c2.size
  clear r1 C1 B1 c2 hgl
  cases b with
  | false =>
    go_wp2
    go_ret
    exact ⟨(some ⟨g0, 0, none⟩, qc, ys), rfl, r2, C2, B2, bd1, la⟩
  | true =>
    go_wp2_with fail
    refine (belowW ys.length C2 (by omega) (by omega)).mono ?_
    rintro e w3 ⟨k0, rfl, k0a, k0b, c3⟩
    obtain ⟨k, rfl⟩ : ∃ k : Nat, k0 = (k : Int) := ⟨k0.toNat, by omega⟩
    have hk : k < ys.length := by omega
    have r3 := r2.drawn c3 (by omega)
    have C3 := c3.here
    have B3 := B2.trans (c3.2.below (Nat.le_refl _) C2.lt)
    have hgl3 : g0 < w3.heap.size := Nat.lt_of_lt_of_le hgl2 c3.size
    clear r2 C2 B2 c3 hgl2
    go_wp2_with fail
    refine (belowW 5 C3 (by omega) (by omega)).mono ?_
    rintro e w4 ⟨v, rfl, va, vb, c4⟩
    have r4 := r3.drawn c4 (by omega)
    have C4 := c4.here
    have B4 := B3.trans (c4.2.below (Nat.le_refl _) C3.lt)
    have hgl4 : g0 < w4.heap.size := Nat.lt_of_lt_of_le hgl3 c4.size
    clear r3 C3 B3 c4 hgl3
    have hkl : (k : Int) < (ys.length : Int) := by omega
    have hxk := bd1.2 ys[k] (List.getElem_mem hk)
    obtain ⟨bq, oq, eq, lq, cq⟩ := r4.dp.1 k hk
    have eb : bq = g0 ∧ oq = 0 := by injection eq with h; injection h with h1 h2; exact ⟨h1.symm, h2.symm⟩
    obtain ⟨rfl, rfl⟩ := eb
    have q0 : w4.cell? ⟨bq, k * 4, none⟩ = some (.int .i64 ys[k].1) := by have := cq 0 _ rfl; simpa using this
    have q1 : w4.cell? ⟨bq, k * 4 + 1, none⟩ = some (.bool ys[k].2.1) := by have := cq 1 _ rfl; simpa using this
    have q2 : w4.cell? ⟨bq, k * 4 + 2, none⟩ = some (.string ys[k].2.2.1) := by have := cq 2 _ rfl; simpa using this
    have q3 : w4.cell? ⟨bq, k * 4 + 3, none⟩ = some (.slice ys[k].2.2.2.1 ys[k].2.2.2.2.2.length ys[k].2.2.2.2.1) := by have := cq 3 _ rfl; simpa using this
    have zf : ∀ o, w4.frozen? ⟨bq, o, none⟩ = false := fun o => World.ownsRow.frozenAt r4.1 o
    clear cq eq
    obtain rfl | rfl | rfl | rfl | rfl : v = 0 ∨ v = 1 ∨ v = 2 ∨ v = 3 ∨ v = 4 := by omega
    · obtain ⟨V5, hV5⟩ : ∃ V, w4.alloc (.cells #[.int .i64 0, .int .i64 101, .int .i64 128, .int .i64 (-1)] 3) = V := ⟨_, rfl⟩
      have T5 : Blk w4.heap.size [.int .i64 0, .int .i64 101, .int .i64 128, .int .i64 (-1)] V5 := by rw [← hV5]; exact Blk.new _ _ _
      have b5 : Below w4.heap.size w4 V5 := by rw [← hV5]; exact (Below.refl _ _).alloc (Nat.le_refl _) _
      have C5 := cu_under C4 b5
      have KP := pickI w4.heap.size 4 [0, 101, 128, -1] C5 (by omega) (by omega) C4.lt T5.lt rfl T5 (by decide)
      have r5 := RoT.later r4 b5
      have B5 := B4.trans (b5.mono (by omega))
      have p0 := (b5.cell (p := ⟨bq, k * 4, none⟩) hgl4).trans q0
      have pf := (b5.frozen (p := ⟨bq, k * 4, none⟩) hgl4).trans (zf _)
      have s5 : w4.heap.size < V5.heap.size := T5.lt
      go_wp2_with fail
      try rw [hV5]
      refine KP.mono ?_
      clear KP hV5
      rintro e w6 ⟨y, rfl, hy, c6⟩
      have r6 := r5.drawn c6 (by omega)
      have C6 := c6.here
      have B6 := B5.trans (c6.2.below (Nat.le_refl _) C5.lt)
      have u0 := (c6.cell (g := bq) (by omega) (by omega) (k * 4)).trans p0
      have uf := (c6.frozen (g := bq) (by omega) (by omega) (k * 4)).trans pf
      have hs6 : bq < w6.heap.size := by have := c6.size; omega
      clear T5 b5 C5 r5 B5 p0 pf c6 q0 q1 q2 q3 zf r4 C4 B4
      have RF := r6.setf hk (j := 0) (by omega) (.int .i64 y) (y, ys[k].2) rfl (World.ownsRow.kept (r6.2 ys[k] (List.getElem_mem hk)) (set_grown w6 bq (k * 4 + 0) (.int .i64 y)) (by have := own_ne (r6.2 ys[k] (List.getElem_mem hk)) r6.1; exact this))
      have CF := cu_grown C6 (set_grown w6 bq (k * 4 + 0) (.int .i64 y)) (fun j e => by injection e with e; omega)
      have BF : Below pc w (w6.setCell ⟨bq, k * 4 + 0, none⟩ (.int .i64 y)) := B6.setCell (by show pc ≤ bq; omega) _
      have bdF := bd_set (k := k) bd1 (y, ys[k].2) hxk
      go_wp2
      go_ret
      exact ⟨(some ⟨bq, 0, none⟩, qc, ys.set k (y, ys[k].2)), by simp [slT], RF, CF, BF, bdF, by simpa using la⟩
    · have RF := r4.setf hk (j := 1) (by omega) (.bool (!ys[k].2.1)) (ys[k].1, !ys[k].2.1, ys[k].2.2) rfl (World.ownsRow.kept (r4.2 ys[k] (List.getElem_mem hk)) (set_grown w4 bq (k * 4 + 1) (.bool (!ys[k].2.1))) (by have := own_ne (r4.2 ys[k] (List.getElem_mem hk)) r4.1; exact this))
      have CF := cu_grown C4 (set_grown w4 bq (k * 4 + 1) (.bool (!ys[k].2.1))) (fun j e => by injection e with e; omega)
      have BF : Below pc w (w4.setCell ⟨bq, k * 4 + 1, none⟩ (.bool (!ys[k].2.1))) := B4.setCell (by show pc ≤ bq; omega) _
      have bdF := bd_set (k := k) bd1 (ys[k].1, !ys[k].2.1, ys[k].2.2) hxk
      have zf1 := zf (k * 4 + 1)
      clear q0 q2 q3 zf r4 C4 B4
      go_wp2
      go_ret
      exact ⟨(some ⟨bq, 0, none⟩, qc, ys.set k (ys[k].1, !ys[k].2.1, ys[k].2.2)), by simp [slT], RF, CF, BF, bdF, by simpa using la⟩
    · have hx3 := hkids3 ys[k] (List.getElem_mem hk)
      have r4d : RoT (pc + 1) w4.drew (some ⟨bq, 0, none⟩, qc, ys) := RoT.later r4 ((Below.refl _ _).drew)
      have C4d : Cu pc ad len cap zs w4.drew w4.drew := cu_under C4 ((Below.refl _ _).drew)
      have B4d : Below pc w w4.drew := B4.drew
      have q3d : w4.drew.cell? ⟨bq, k * 4 + 3, none⟩ = some (.slice ys[k].2.2.2.1 ys[k].2.2.2.2.2.length ys[k].2.2.2.2.1) := q3
      have f3d : w4.drew.frozen? ⟨bq, k * 4 + 3, none⟩ = false := zf _
      have hgd : bq < w4.drew.heap.size := hgl4
      clear q0 q1 q2 q3 zf r4 C4 B4
      go_wp2_with fail
      refine wp_region_any (by kernel_rfl) ?_
      have ed : ({ w4 with drawn := w4.drawn + 1 } : World) = w4.drew := rfl
      rw [ed]
      clear ed
      generalize w4.drew = D at *
      refine take_any 0 58 (v := ?_) rfl rfl (by kernel_rfl) (by kernel_rfl) (by kernel_rfl) (fun _ _ _ h => h) (Or.inl ⟨by rfl, ?_⟩) ?_
      rotate_left
      · intro w'; go_simp; try with_reducible rfl
      try simp only [Act.put, List.setIfInBounds_toArray, List.set_cons_zero, List.set_cons_succ]
      refine take_any 1 59 (v := ?_) rfl rfl (by kernel_rfl) (by kernel_rfl) (by kernel_rfl) (fun _ _ _ h => h) (Or.inl ⟨by rfl, ?_⟩) ?_
      rotate_left
      · intro w'; go_simp; try with_reducible rfl
      try simp only [Act.put, List.setIfInBounds_toArray, List.set_cons_zero, List.set_cons_succ]
      refine take_any 2 60 (v := ?_) rfl rfl (by kernel_rfl) (by kernel_rfl) (by kernel_rfl) (fun _ _ _ h => h) (Or.inl ⟨by rfl, ?_⟩) ?_
      rotate_left
      · intro w'; go_simp; try with_reducible rfl
      try simp only [Act.put, List.setIfInBounds_toArray, List.set_cons_zero, List.set_cons_succ]
      refine take_any 3 61 (v := ?_) rfl rfl (by kernel_rfl) (by kernel_rfl) (by kernel_rfl) (fun _ _ _ h => h) (Or.inl ⟨by rfl, ?_⟩) ?_
      rotate_left
      · intro w'; go_simp; try with_reducible rfl
      try simp only [Act.put, List.setIfInBounds_toArray, List.set_cons_zero, List.set_cons_succ]
      refine take_any 4 62 (v := ?_) rfl rfl (by kernel_rfl) (by kernel_rfl) (by kernel_rfl) (fun _ _ _ h => h) (Or.inl ⟨by rfl, ?_⟩) ?_
      rotate_left
      · intro w'; go_simp; try with_reducible rfl
      try simp only [Act.put, List.setIfInBounds_toArray, List.set_cons_zero, List.set_cons_succ]
      refine take_any 5 63 (v := ?_) rfl rfl (by kernel_rfl) (by kernel_rfl) (by kernel_rfl) (fun _ _ _ h => h) (Or.inl ⟨by rfl, ?_⟩) ?_
      rotate_left
      · intro w'; go_simp; try with_reducible rfl
      try simp only [Act.put, List.setIfInBounds_toArray, List.set_cons_zero, List.set_cons_succ]
      refine take_any 7 65 (v := ?_) rfl rfl (by kernel_rfl) (by kernel_rfl) (by kernel_rfl) (fun _ _ _ h => h) (Or.inl ⟨by rfl, ?_⟩) ?_
      rotate_left
      · intro w'; go_simp; try with_reducible rfl
      try simp only [Act.put, List.setIfInBounds_toArray, List.set_cons_zero, List.set_cons_succ]
      refine take_any 8 66 (v := ?_) rfl rfl (by kernel_rfl) (by kernel_rfl) (by kernel_rfl) (fun _ _ _ h => h) (Or.inl ⟨by rfl, ?_⟩) ?_
      rotate_left
      · intro w'; go_simp; try with_reducible rfl
      try simp only [Act.put, List.setIfInBounds_toArray, List.set_cons_zero, List.set_cons_succ]
      refine take_any 9 67 (v := ?_) rfl rfl (by kernel_rfl) (by kernel_rfl) (by kernel_rfl) (fun _ _ _ h => h) (Or.inl ⟨by rfl, ?_⟩) ?_
      rotate_left
      · intro w'; go_simp; try with_reducible rfl
      try simp only [Act.put, List.setIfInBounds_toArray, List.set_cons_zero, List.set_cons_succ]
      refine wpAny_ready (rs := [6, 10]) (by kernel_rfl) (by simp) ?_
      refine AllReady.cons (i := 6) rfl (fun K hK => ?_) (AllReady.cons (i := 10) rfl (fun K hK => ?_) AllReady.nil)
      · skip
        go_simp
        refine hK _ _ ?_
        clear hK K
        try simp only [Act.put, List.setIfInBounds_toArray, List.set_cons_zero, List.set_cons_succ]
        refine wpAny_ready (rs := [10]) (by kernel_rfl) (by simp) ?_
        refine AllReady.cons (i := 10) rfl (fun K hK => ?_) AllReady.nil
        have hK3 : Shut _ := hK
        clear hK
        go_simp
        refine (belowW ys.length C4d (by omega) (by omega)).mono ?_
        rintro e w5 ⟨y, rfl, y0, y1, c5⟩
        go_wp2_with fail
        refine hK3.out _ _ ?_
        clear hK3 K
        try simp only [Act.put, List.setIfInBounds_toArray, List.set_cons_zero, List.set_cons_succ]
        have r5 := r4d.drawn c5 (by omega)
        have C5 := c5.here
        have B5 := B4d.trans (c5.2.below (Nat.le_refl _) C4d.lt)
        have q5 := (c5.cell (g := bq) hgd (by omega) (k * 4 + 3)).trans q3d
        have f5 := (c5.frozen (g := bq) hgd (by omega) (k * 4 + 3)).trans f3d
        have hgl5 : bq < w5.heap.size := Nat.lt_of_lt_of_le hgd c5.size
        clear c5
        refine wpAny_ready (rs := [11]) (by kernel_rfl) (by simp) ?_
        refine AllReady.cons (i := 11) rfl (fun K hK => ?_) AllReady.nil
        obtain ⟨W6, hW6⟩ : ∃ Y, w5.alloc (.cells #[.int .i64 y] 3) = Y := ⟨_, rfl⟩
        have T6 : Blk w5.heap.size [.int .i64 y] W6 := by rw [← hW6]; exact Blk.new _ _ _
        have b6 : Below w5.heap.size w5 W6 := by rw [← hW6]; exact (Below.refl _ _).alloc (Nat.le_refl _) _
        have r6 := RoT.later r5 b6
        have C6 := cu_under C5 b6
        have B6 := B5.trans (b6.mono (by omega))
        have q6 := (b6.cell (p := ⟨bq, k * 4 + 3, none⟩) hgl5).trans q5
        have f6 := (b6.frozen (p := ⟨bq, k * 4 + 3, none⟩) hgl5).trans f5
        have KO6 : RoI (pc + 1) W6 ys[k].2.2.2 := r6.2 ys[k] (List.getElem_mem hk)
        have s6 : w5.heap.size < W6.heap.size := T6.lt
        go_simp
        try rw [hW6]
        refine hK _ _ ?_
        clear hK K hW6 b6 r5 C5 B5 q5 f5
        try simp only [Act.put, List.setIfInBounds_toArray, List.set_cons_zero, List.set_cons_succ]
        have hBA : pc + 1 ≤ W6.heap.size := by omega
        refine wpAny_ready (rs := [12]) (by kernel_rfl) (by simp) ?_
        refine AllReady.cons (i := 12) rfl (fun K hK => ?_) AllReady.nil
        refine step_where 70 rfl rfl _ _ 59 rfl (pc + 1) 3 j3 _ 1 8 Tryd.underlying59 hj3 hjz3 hjs3 hjb3 rfl (by decide) (.slice ys[k].2.2.2.1 ys[k].2.2.2.2.2.length ys[k].2.2.2.2.1) ys[k].2.2.2.2.2.length (ys[k].2.2.2.2.2.map (Value.int .i64)) rfl KO6 ⟨w5.heap.size, 0, none⟩ 1 1 [.int .i64 y] rfl rfl (news_box T6) (fun u hu => by simp at hu; subst hu; rfl) (by unfold maxLen; omega) (by omega) hBA (by decide) ?_
        intro vK wK ownK hgK hwK
        refine hK _ _ ?_
        clear hK K
        try simp only [Act.put, List.setIfInBounds_toArray, List.set_cons_zero, List.set_cons_succ]
        obtain ⟨na, nc, rfl, _⟩ := own_shape ownK
        try dsimp only at ownK hwK ⊢
        have rk : RoI (pc + 1) wK (na, nc, ys[k].2.2.2.2.2 ++ [y]) := kput (kr := ys[k].2.2.2) ownK
        have RF := r6.setk ap1 hk (na, nc, ys[k].2.2.2.2.2 ++ [y]) hgK rk
        have hkbl : ∀ j, kbT ys[k] = some j → pc + 1 ≤ j ∧ j < W6.heap.size := fun j e => World.ownsRow.lt KO6 j e
        have hne : kbT ys[k] ≠ some bq := by
          intro e
          rcases own_ne KO6 r6.1 with h | h
          · have h' : kbT ys[k] = none := h
            rw [h'] at e; cases e
          · exact h e
        have CK := cu_grown C6 hgK (fun j e => by have := (hkbl j e).1; omega)
        have BK : Below pc w wK := B6.trans ⟨hgK.os, hgK.tape, hgK.output, hgK.size, fun j hj => hgK.block j (by omega) (fun e => by have := (hkbl j e.symm).1; omega)⟩
        have n3 : wK.cell? ⟨bq, k * 4 + 3, none⟩ = some (.slice ys[k].2.2.2.1 ys[k].2.2.2.2.2.length ys[k].2.2.2.2.1) := (World.cell?_of_block (a := ⟨bq, k * 4 + 3, none⟩) (hgK.block bq (by omega) (fun e => hne e.symm))).trans q6
        have nf : wK.frozen? ⟨bq, k * 4 + 3, none⟩ = false := (World.frozen?_of_block (a := ⟨bq, k * 4 + 3, none⟩) (hgK.block bq (by omega) (fun e => hne e.symm))).trans f6
        have CF := cu_grown CK (set_grown wK bq (k * 4 + 3) (.slice na (ys[k].2.2.2.2.2.length + 1) nc)) (fun j e => by injection e with e; omega)
        have BF : Below pc w (wK.setCell ⟨bq, k * 4 + 3, none⟩ (.slice na (ys[k].2.2.2.2.2.length + 1) nc)) := BK.setCell (by show pc ≤ bq; omega) _
        have bdF := bd_set (k := k) bd1 (ys[k].1, ys[k].2.1, ys[k].2.2.1, (na, nc, ys[k].2.2.2.2.2 ++ [y])) ⟨hxk.1, by simp; omega⟩
        have hkl4 : ys[k].2.2.2.2.2.length ≤ 3 := hx3
        clear ownK hgK hwK rk KO6 r6 C6 B6 CK BK q6 f6 T6
        refine take_any 13 71 (v := ?_) rfl rfl (by kernel_rfl) (by kernel_rfl) (by kernel_rfl) (fun _ _ _ h => h) (Or.inl ⟨by rfl, ?_⟩) ?_
        rotate_left
        · intro w'; go_simp; try with_reducible rfl
        try simp only [Act.put, List.setIfInBounds_toArray, List.set_cons_zero, List.set_cons_succ]
        refine take_any 14 72 (v := ?_) rfl rfl (by kernel_rfl) (by kernel_rfl) (by kernel_rfl) (fun _ _ _ h => h) (Or.inl ⟨by rfl, ?_⟩) ?_
        rotate_left
        · intro w'; go_simp; try with_reducible rfl
        try simp only [Act.put, List.setIfInBounds_toArray, List.set_cons_zero, List.set_cons_succ]
        refine wpAny_ready (rs := [15]) (by kernel_rfl) (by simp) ?_
        refine AllReady.cons (i := 15) rfl (fun K hK => ?_) AllReady.nil
        go_simp
        refine hK _ _ ?_
        clear hK K
        try simp only [Act.put, List.setIfInBounds_toArray, List.set_cons_zero, List.set_cons_succ]
        refine wpAny_done (by kernel_rfl) ?_ _
        go_wp2
        go_ret
        exact ⟨(some ⟨bq, 0, none⟩, qc, ys.set k (ys[k].1, ys[k].2.1, ys[k].2.2.1, (na, nc, ys[k].2.2.2.2.2 ++ [y]))), by simp [slT], by simpa [List.length_append] using RF, by first | exact CF | simpa [List.length_append] using CF, by first | exact BF | simpa [List.length_append] using BF, bdF, by simpa using la⟩
      · skip
        have hK3 : Shut _ := hK
        clear hK
        go_simp
        refine (belowW ys.length C4d (by omega) (by omega)).mono ?_
        rintro e w5 ⟨y, rfl, y0, y1, c5⟩
        go_wp2_with fail
        refine hK3.out _ _ ?_
        clear hK3 K
        try simp only [Act.put, List.setIfInBounds_toArray, List.set_cons_zero, List.set_cons_succ]
        have r5 := r4d.drawn c5 (by omega)
        have C5 := c5.here
        have B5 := B4d.trans (c5.2.below (Nat.le_refl _) C4d.lt)
        have q5 := (c5.cell (g := bq) hgd (by omega) (k * 4 + 3)).trans q3d
        have f5 := (c5.frozen (g := bq) hgd (by omega) (k * 4 + 3)).trans f3d
        have hgl5 : bq < w5.heap.size := Nat.lt_of_lt_of_le hgd c5.size
        clear c5
        refine wpAny_ready (rs := [6, 11]) (by kernel_rfl) (by simp) ?_
        refine AllReady.cons (i := 6) rfl (fun K hK => ?_) (AllReady.cons (i := 11) rfl (fun K hK => ?_) AllReady.nil)
        · skip
          go_simp
          refine hK _ _ ?_
          clear hK K
          try simp only [Act.put, List.setIfInBounds_toArray, List.set_cons_zero, List.set_cons_succ]
          refine wpAny_ready (rs := [11]) (by kernel_rfl) (by simp) ?_
          refine AllReady.cons (i := 11) rfl (fun K hK => ?_) AllReady.nil
          obtain ⟨W6, hW6⟩ : ∃ Y, w5.alloc (.cells #[.int .i64 y] 3) = Y := ⟨_, rfl⟩
          have T6 : Blk w5.heap.size [.int .i64 y] W6 := by rw [← hW6]; exact Blk.new _ _ _
          have b6 : Below w5.heap.size w5 W6 := by rw [← hW6]; exact (Below.refl _ _).alloc (Nat.le_refl _) _
          have r6 := RoT.later r5 b6
          have C6 := cu_under C5 b6
          have B6 := B5.trans (b6.mono (by omega))
          have q6 := (b6.cell (p := ⟨bq, k * 4 + 3, none⟩) hgl5).trans q5
          have f6 := (b6.frozen (p := ⟨bq, k * 4 + 3, none⟩) hgl5).trans f5
          have KO6 : RoI (pc + 1) W6 ys[k].2.2.2 := r6.2 ys[k] (List.getElem_mem hk)
          have s6 : w5.heap.size < W6.heap.size := T6.lt
          go_simp
          try rw [hW6]
          refine hK _ _ ?_
          clear hK K hW6 b6 r5 C5 B5 q5 f5
          try simp only [Act.put, List.setIfInBounds_toArray, List.set_cons_zero, List.set_cons_succ]
          have hBA : pc + 1 ≤ W6.heap.size := by omega
          refine wpAny_ready (rs := [12]) (by kernel_rfl) (by simp) ?_
          refine AllReady.cons (i := 12) rfl (fun K hK => ?_) AllReady.nil
          refine step_where 70 rfl rfl _ _ 59 rfl (pc + 1) 3 j3 _ 1 8 Tryd.underlying59 hj3 hjz3 hjs3 hjb3 rfl (by decide) (.slice ys[k].2.2.2.1 ys[k].2.2.2.2.2.length ys[k].2.2.2.2.1) ys[k].2.2.2.2.2.length (ys[k].2.2.2.2.2.map (Value.int .i64)) rfl KO6 ⟨w5.heap.size, 0, none⟩ 1 1 [.int .i64 y] rfl rfl (news_box T6) (fun u hu => by simp at hu; subst hu; rfl) (by unfold maxLen; omega) (by omega) hBA (by decide) ?_
          intro vK wK ownK hgK hwK
          refine hK _ _ ?_
          clear hK K
          try simp only [Act.put, List.setIfInBounds_toArray, List.set_cons_zero, List.set_cons_succ]
          obtain ⟨na, nc, rfl, _⟩ := own_shape ownK
          try dsimp only at ownK hwK ⊢
          have rk : RoI (pc + 1) wK (na, nc, ys[k].2.2.2.2.2 ++ [y]) := kput (kr := ys[k].2.2.2) ownK
          have RF := r6.setk ap1 hk (na, nc, ys[k].2.2.2.2.2 ++ [y]) hgK rk
          have hkbl : ∀ j, kbT ys[k] = some j → pc + 1 ≤ j ∧ j < W6.heap.size := fun j e => World.ownsRow.lt KO6 j e
          have hne : kbT ys[k] ≠ some bq := by
            intro e
            rcases own_ne KO6 r6.1 with h | h
            · have h' : kbT ys[k] = none := h
              rw [h'] at e; cases e
            · exact h e
          have CK := cu_grown C6 hgK (fun j e => by have := (hkbl j e).1; omega)
          have BK : Below pc w wK := B6.trans ⟨hgK.os, hgK.tape, hgK.output, hgK.size, fun j hj => hgK.block j (by omega) (fun e => by have := (hkbl j e.symm).1; omega)⟩
          have n3 : wK.cell? ⟨bq, k * 4 + 3, none⟩ = some (.slice ys[k].2.2.2.1 ys[k].2.2.2.2.2.length ys[k].2.2.2.2.1) := (World.cell?_of_block (a := ⟨bq, k * 4 + 3, none⟩) (hgK.block bq (by omega) (fun e => hne e.symm))).trans q6
          have nf : wK.frozen? ⟨bq, k * 4 + 3, none⟩ = false := (World.frozen?_of_block (a := ⟨bq, k * 4 + 3, none⟩) (hgK.block bq (by omega) (fun e => hne e.symm))).trans f6
          have CF := cu_grown CK (set_grown wK bq (k * 4 + 3) (.slice na (ys[k].2.2.2.2.2.length + 1) nc)) (fun j e => by injection e with e; omega)
          have BF : Below pc w (wK.setCell ⟨bq, k * 4 + 3, none⟩ (.slice na (ys[k].2.2.2.2.2.length + 1) nc)) := BK.setCell (by show pc ≤ bq; omega) _
          have bdF := bd_set (k := k) bd1 (ys[k].1, ys[k].2.1, ys[k].2.2.1, (na, nc, ys[k].2.2.2.2.2 ++ [y])) ⟨hxk.1, by simp; omega⟩
          have hkl4 : ys[k].2.2.2.2.2.length ≤ 3 := hx3
          clear ownK hgK hwK rk KO6 r6 C6 B6 CK BK q6 f6 T6
          refine take_any 13 71 (v := ?_) rfl rfl (by kernel_rfl) (by kernel_rfl) (by kernel_rfl) (fun _ _ _ h => h) (Or.inl ⟨by rfl, ?_⟩) ?_
          rotate_left
          · intro w'; go_simp; try with_reducible rfl
          try simp only [Act.put, List.setIfInBounds_toArray, List.set_cons_zero, List.set_cons_succ]
          refine take_any 14 72 (v := ?_) rfl rfl (by kernel_rfl) (by kernel_rfl) (by kernel_rfl) (fun _ _ _ h => h) (Or.inl ⟨by rfl, ?_⟩) ?_
          rotate_left
          · intro w'; go_simp; try with_reducible rfl
          try simp only [Act.put, List.setIfInBounds_toArray, List.set_cons_zero, List.set_cons_succ]
          refine wpAny_ready (rs := [15]) (by kernel_rfl) (by simp) ?_
          refine AllReady.cons (i := 15) rfl (fun K hK => ?_) AllReady.nil
          go_simp
          refine hK _ _ ?_
          clear hK K
          try simp only [Act.put, List.setIfInBounds_toArray, List.set_cons_zero, List.set_cons_succ]
          refine wpAny_done (by kernel_rfl) ?_ _
          go_wp2
          go_ret
          exact ⟨(some ⟨bq, 0, none⟩, qc, ys.set k (ys[k].1, ys[k].2.1, ys[k].2.2.1, (na, nc, ys[k].2.2.2.2.2 ++ [y]))), by simp [slT], by simpa [List.length_append] using RF, by first | exact CF | simpa [List.length_append] using CF, by first | exact BF | simpa [List.length_append] using BF, bdF, by simpa using la⟩
        · skip
          obtain ⟨W6, hW6⟩ : ∃ Y, w5.alloc (.cells #[.int .i64 y] 3) = Y := ⟨_, rfl⟩
          have T6 : Blk w5.heap.size [.int .i64 y] W6 := by rw [← hW6]; exact Blk.new _ _ _
          have b6 : Below w5.heap.size w5 W6 := by rw [← hW6]; exact (Below.refl _ _).alloc (Nat.le_refl _) _
          have r6 := RoT.later r5 b6
          have C6 := cu_under C5 b6
          have B6 := B5.trans (b6.mono (by omega))
          have q6 := (b6.cell (p := ⟨bq, k * 4 + 3, none⟩) hgl5).trans q5
          have f6 := (b6.frozen (p := ⟨bq, k * 4 + 3, none⟩) hgl5).trans f5
          have KO6 : RoI (pc + 1) W6 ys[k].2.2.2 := r6.2 ys[k] (List.getElem_mem hk)
          have s6 : w5.heap.size < W6.heap.size := T6.lt
          go_simp
          try rw [hW6]
          refine hK _ _ ?_
          clear hK K hW6 b6 r5 C5 B5 q5 f5
          try simp only [Act.put, List.setIfInBounds_toArray, List.set_cons_zero, List.set_cons_succ]
          refine wpAny_ready (rs := [6]) (by kernel_rfl) (by simp) ?_
          refine AllReady.cons (i := 6) rfl (fun K hK => ?_) AllReady.nil
          go_simp
          refine hK _ _ ?_
          clear hK K
          try simp only [Act.put, List.setIfInBounds_toArray, List.set_cons_zero, List.set_cons_succ]
          have hBA : pc + 1 ≤ W6.heap.size := by omega
          refine wpAny_ready (rs := [12]) (by kernel_rfl) (by simp) ?_
          refine AllReady.cons (i := 12) rfl (fun K hK => ?_) AllReady.nil
          refine step_where 70 rfl rfl _ _ 59 rfl (pc + 1) 3 j3 _ 1 8 Tryd.underlying59 hj3 hjz3 hjs3 hjb3 rfl (by decide) (.slice ys[k].2.2.2.1 ys[k].2.2.2.2.2.length ys[k].2.2.2.2.1) ys[k].2.2.2.2.2.length (ys[k].2.2.2.2.2.map (Value.int .i64)) rfl KO6 ⟨w5.heap.size, 0, none⟩ 1 1 [.int .i64 y] rfl rfl (news_box T6) (fun u hu => by simp at hu; subst hu; rfl) (by unfold maxLen; omega) (by omega) hBA (by decide) ?_
          intro vK wK ownK hgK hwK
          refine hK _ _ ?_
          clear hK K
          try simp only [Act.put, List.setIfInBounds_toArray, List.set_cons_zero, List.set_cons_succ]
          obtain ⟨na, nc, rfl, _⟩ := own_shape ownK
          try dsimp only at ownK hwK ⊢
          have rk : RoI (pc + 1) wK (na, nc, ys[k].2.2.2.2.2 ++ [y]) := kput (kr := ys[k].2.2.2) ownK
          have RF := r6.setk ap1 hk (na, nc, ys[k].2.2.2.2.2 ++ [y]) hgK rk
          have hkbl : ∀ j, kbT ys[k] = some j → pc + 1 ≤ j ∧ j < W6.heap.size := fun j e => World.ownsRow.lt KO6 j e
          have hne : kbT ys[k] ≠ some bq := by
            intro e
            rcases own_ne KO6 r6.1 with h | h
            · have h' : kbT ys[k] = none := h
              rw [h'] at e; cases e
            · exact h e
          have CK := cu_grown C6 hgK (fun j e => by have := (hkbl j e).1; omega)
          have BK : Below pc w wK := B6.trans ⟨hgK.os, hgK.tape, hgK.output, hgK.size, fun j hj => hgK.block j (by omega) (fun e => by have := (hkbl j e.symm).1; omega)⟩
          have n3 : wK.cell? ⟨bq, k * 4 + 3, none⟩ = some (.slice ys[k].2.2.2.1 ys[k].2.2.2.2.2.length ys[k].2.2.2.2.1) := (World.cell?_of_block (a := ⟨bq, k * 4 + 3, none⟩) (hgK.block bq (by omega) (fun e => hne e.symm))).trans q6
          have nf : wK.frozen? ⟨bq, k * 4 + 3, none⟩ = false := (World.frozen?_of_block (a := ⟨bq, k * 4 + 3, none⟩) (hgK.block bq (by omega) (fun e => hne e.symm))).trans f6
          have CF := cu_grown CK (set_grown wK bq (k * 4 + 3) (.slice na (ys[k].2.2.2.2.2.length + 1) nc)) (fun j e => by injection e with e; omega)
          have BF : Below pc w (wK.setCell ⟨bq, k * 4 + 3, none⟩ (.slice na (ys[k].2.2.2.2.2.length + 1) nc)) := BK.setCell (by show pc ≤ bq; omega) _
          have bdF := bd_set (k := k) bd1 (ys[k].1, ys[k].2.1, ys[k].2.2.1, (na, nc, ys[k].2.2.2.2.2 ++ [y])) ⟨hxk.1, by simp; omega⟩
          have hkl4 : ys[k].2.2.2.2.2.length ≤ 3 := hx3
          clear ownK hgK hwK rk KO6 r6 C6 B6 CK BK q6 f6 T6
          refine take_any 13 71 (v := ?_) rfl rfl (by kernel_rfl) (by kernel_rfl) (by kernel_rfl) (fun _ _ _ h => h) (Or.inl ⟨by rfl, ?_⟩) ?_
          rotate_left
          · intro w'; go_simp; try with_reducible rfl
          try simp only [Act.put, List.setIfInBounds_toArray, List.set_cons_zero, List.set_cons_succ]
          refine take_any 14 72 (v := ?_) rfl rfl (by kernel_rfl) (by kernel_rfl) (by kernel_rfl) (fun _ _ _ h => h) (Or.inl ⟨by rfl, ?_⟩) ?_
          rotate_left
          · intro w'; go_simp; try with_reducible rfl
          try simp only [Act.put, List.setIfInBounds_toArray, List.set_cons_zero, List.set_cons_succ]
          refine wpAny_ready (rs := [15]) (by kernel_rfl) (by simp) ?_
          refine AllReady.cons (i := 15) rfl (fun K hK => ?_) AllReady.nil
          go_simp
          refine hK _ _ ?_
          clear hK K
          try simp only [Act.put, List.setIfInBounds_toArray, List.set_cons_zero, List.set_cons_succ]
          refine wpAny_done (by kernel_rfl) ?_ _
          go_wp2
          go_ret
          exact ⟨(some ⟨bq, 0, none⟩, qc, ys.set k (ys[k].1, ys[k].2.1, ys[k].2.2.1, (na, nc, ys[k].2.2.2.2.2 ++ [y]))), by simp [slT], by simpa [List.length_append] using RF, by first | exact CF | simpa [List.length_append] using CF, by first | exact BF | simpa [List.length_append] using BF, bdF, by simpa using la⟩
    · obtain ⟨YA, hYA⟩ : ∃ Z, w4.alloc (.cells #[.int .i64 1, .bool true, .string ⟨#[]⟩, .slice none 0 0] 61) = Z := ⟨_, rfl⟩
      have TA : Blk w4.heap.size [.int .i64 1, .bool true, .string ⟨#[]⟩, .slice none 0 0] YA := by rw [← hYA]; exact Blk.new _ _ _
      have BYA : Below w4.heap.size w4 YA := by rw [← hYA]; exact (Below.refl _ _).alloc (Nat.le_refl _) _
      have ROA := RoT.later r4 BYA
      have BA := B4.trans (BYA.mono (by omega))
      have CA := cu_under C4 BYA
      have sYA : w4.heap.size < YA.heap.size := TA.lt
      have hBA : pc + 1 ≤ YA.heap.size := by omega
      clear q0 q1 q2 q3 zf r4 C4 B4
      go_wp2_with (first | (at_builtin; first | refine wpList_append_where _ rfl _ _ 24 rfl (pc + 1) 61 jt _ 4 56 Tryd.underlying24 hjt hjz hjs hjb rfl (by decide) _ _ _ rfl ROA.1 ⟨w4.heap.size, 0, none⟩ 1 1 [.int .i64 1, .bool true, .string ⟨#[]⟩, .slice none 0 0] rfl rfl (news_box TA) (fun u hu => by simp at hu; rcases hu with rfl | rfl | rfl | rfl <;> rfl) ?c3 ?c4 hBA (by decide) ?_ | (rw [hYA]; refine wpList_append_where _ rfl _ _ 24 rfl (pc + 1) 61 jt _ 4 56 Tryd.underlying24 hjt hjz hjs hjb rfl (by decide) _ _ _ rfl ROA.1 ⟨w4.heap.size, 0, none⟩ 1 1 [.int .i64 1, .bool true, .string ⟨#[]⟩, .slice none 0 0] rfl rfl (news_box TA) (fun u hu => by simp at hu; rcases hu with rfl | rfl | rfl | rfl <;> rfl) ?c3 ?c4 hBA (by decide) ?_)) | go_in)
      case c3 => unfold maxLen; (try dsimp only); omega
      case c4 => (try dsimp only); omega
      intro vA wA ownA hgA hwA
      obtain ⟨na, nc, rfl, _⟩ := own_shape ownA
      try dsimp only at ownA hwA ⊢
      obtain ⟨RA, CB, OA⟩ := put_mem (x := ((1, true, ⟨#[]⟩, (none, 0, [])) : TT)) ROA ⟨by simp, Or.inl ⟨rfl, rfl⟩⟩ ownA hgA hwA
      dsimp only at RA CB OA
      have CF := cu_grown CA hgA (fun j e => by have e2 : some bq = some j := e; injection e2 with e2; omega)
      have BF : Below pc w wA := BA.trans ⟨hgA.os, hgA.tape, hgA.output, hgA.size, fun j hj => hgA.block j (by omega) (fun e => by have e2 : some j = some bq := e; injection e2 with e2; omega)⟩
      have bdF : BdT (na, nc, ys ++ [((1, true, ⟨#[]⟩, (none, 0, [])) : TT)]) := ⟨by simp; omega, fun x hx => by
        rcases List.mem_append.1 hx with h | h
        · exact bd1.2 x h
        · rw [List.mem_singleton] at h
          subst h
          exact ⟨Nat.zero_le _, Nat.zero_le _⟩⟩
      go_wp2
      go_ret
      exact ⟨(na, nc, ys ++ [((1, true, ⟨#[]⟩, (none, 0, [])) : TT)]), by simp [slT], RA, CF, BF, bdF, by simp⟩
    · obtain ⟨i5, hi5, hz50, hz51, hz52⟩ := info_parts Draw.infoU8
      obtain ⟨W4, hW4⟩ : ∃ Y, w4.alloc (.cells #[] 5) = Y := ⟨_, rfl⟩
      have own4 : W4.ownsRow w4.heap.size 5 1 (.slice (some ⟨w4.heap.size, 0, none⟩) 0 0) 0 (bytesOf (List.replicate 0 65)) := by rw [← hW4]; exact World.ownsRow_lit _ _ _ (Nat.le_refl _) (by unfold maxLen; omega) rfl
      have b4 : Below w4.heap.size w4 W4 := by rw [← hW4]; exact (Below.refl _ _).alloc (Nat.le_refl _) _
      have HO : Hid (∀ g, w4.heap.size ≤ g → Off g ((some ⟨bq, 0, none⟩, qc, ys) : Rw TT)) := fun g hg => off_ge r4 hg
      have pcl : pc < w4.heap.size := C4.lt
      have C5 := cu_under C4 b4
      have r5 := RoT.later r4 b4
      have B5 := B4.trans (b4.mono (by omega))
      have s5 : w4.heap.size ≤ W4.heap.size := b4.size
      clear q0 q1 q2 q3 zf r4 C4 B4 b4
      go_wp2_with fail
      try rw [hW4]
      refine (belowW 40 C5 (by omega) (by omega)).mono ?_
      rintro e w6 ⟨x0, rfl, xa, xb, c6⟩
      obtain ⟨x, rfl⟩ : ∃ x : Nat, x0 = (x : Int) := ⟨x0.toNat, by omega⟩
      have own6 := own_only own4 c6.2 (by omega)
      have r6 := r5.drawn c6 (by omega)
      have C6 := c6.here
      have B6 := B5.trans (c6.2.below (Nat.le_refl _) C5.lt)
      have s6 : w4.heap.size ≤ w6.heap.size := Nat.le_trans s5 c6.size
      clear own4 r5 C5 B5 c6 s5 hW4
      go_wp2
      go_loopw [5] (fun v wr => ∃ m : Nat, m ≤ 880 + x ∧ wr.ownsRow w4.heap.size 5 1 v m (bytesOf (List.replicate m 65)) ∧ lnV v = m ∧ RoT (pc + 1) wr (some ⟨bq, 0, none⟩, qc, ys) ∧ Cu pc ad len cap zs wr wr ∧ Below pc w wr ∧ w4.heap.size ≤ wr.heap.size) (fun v _ => 920 - lnV v)
      case atStart => exact ⟨0, by omega, own6, rfl, r6, C6, B6, s6⟩
      case round =>
        clear own6 r6 C6 B6 s6
        obtain ⟨m, hm, hown, hln, r7, C7, B7, s7⟩ := hrel
        by_cases hlt : m < 880 + x
        · have hlt2 : (m : Int) < 880 + (x : Int) := by omega
          obtain ⟨va, vc, rfl, _⟩ := own_shape hown
          go_wp2_with (first | (at_builtin; refine wpList_append_own _ rfl _ _ 22 rfl w4.heap.size 5 i5 (.int .u8 0) 1 1 Tryd.underlying22 hi5 hz50 hz51 hz52 rfl (by decide) _ _ _ rfl (hown.alloc _) ⟨wr.heap.size, 0, none⟩ 1 1 [.int .u8 65] rfl rfl (cell_one_new _ _ _) ?c2 ?c3 ?c4 ?c5 ?_) | go_in)
          case c2 => intro u hu; simp at hu; subst hu; rfl
          case c3 => unfold maxLen; omega
          case c4 => omega
          case c5 => simp; omega
          intro v' w8 hown' hgrow _
          have e : bytesOf (List.replicate m (65 : UInt8)) ++ [Value.int .u8 65] = bytesOf (List.replicate (m + 1) 65) := by simp [bytesOf, List.replicate_succ']
          rw [e] at hown'
          have hal : Below wr.heap.size wr (wr.alloc (.cells #[.int .u8 65] 5)) := (Below.refl _ _).alloc (Nat.le_refl _) _
          have r8 := (RoT.later r7 hal).offO hgrow (fun g e => HO.out g (hown.lt g e).1)
          have C8 := cu_grown (cu_under C7 hal) hgrow (fun j e => Nat.lt_of_lt_of_le pcl (hown.lt j e).1)
          have B8 : Below pc w w8 := (B7.alloc (by omega) (.cells #[.int .u8 65] 5)).grown hgrow (by simp; omega) (fun k hk => by have := (hown.lt k hk).1; omega)
          have s8 : w4.heap.size ≤ w8.heap.size := by have := hgrow.size; simp at this; omega
          obtain ⟨na, nc, rfl, _⟩ := own_shape hown'
          clear hgrow hown r7 C7 B7 hal e
          go_wp2
          go_roundw
          case rel => exact ⟨m + 1, by omega, hown', rfl, r8, C8, B8, s8⟩
          case measure => simp [lnV]; omega
        · obtain ⟨va, vc, rfl, _⟩ := own_shape hown
          have hlt2 : ¬ (m : Int) < 880 + (x : Int) := by omega
          have hcv := conv_own (P := Tryd.prog) 22 9 5 Tryd.underlying22 Tryd.underlying5 Tryd.underlying9 hown
          obtain ⟨b2, o2, e2, l2, c2⟩ := r7.dp.1 k hk
          have eb : b2 = bq ∧ o2 = 0 := by injection e2 with h; injection h with h1 h2; exact ⟨h1.symm, h2.symm⟩
          obtain ⟨rfl, rfl⟩ := eb
          have q2 : wr.cell? ⟨b2, k * 4 + 2, none⟩ = some (.string ys[k].2.2.1) := by have := c2 2 _ rfl; simpa using this
          have zf : ∀ o, wr.frozen? ⟨b2, o, none⟩ = false := fun o => World.ownsRow.frozenAt r7.1 o
          have hpb : pc + 1 ≤ b2 := (World.ownsRow.lt r7.1 b2 rfl).1
          have zf2 := zf (k * 4 + 2)
          have hms : m ≤ 1000 := by omega
          obtain ⟨t, ht⟩ : ∃ t : ByteArray, t = ⟨(List.replicate m (65 : UInt8)).toArray⟩ := ⟨_, rfl⟩
          have hts : t.size = m := by rw [ht]; show (List.replicate m (65 : UInt8)).toArray.size = m; simp
          rw [← ht] at hcv
          have RF := r7.setf hk (j := 2) (by omega) (.string t) (ys[k].1, ys[k].2.1, t, ys[k].2.2.2) rfl (World.ownsRow.kept (r7.2 ys[k] (List.getElem_mem hk)) (set_grown wr b2 (k * 4 + 2) (.string t)) (by have := own_ne (r7.2 ys[k] (List.getElem_mem hk)) r7.1; exact this))
          have CF := cu_grown C7 (set_grown wr b2 (k * 4 + 2) (.string t)) (fun j e => by injection e with e; omega)
          have BF : Below pc w (wr.setCell ⟨b2, k * 4 + 2, none⟩ (.string t)) := B7.setCell (by show pc ≤ b2; omega) _
          have bdF := bd_set (k := k) bd1 (ys[k].1, ys[k].2.1, t, ys[k].2.2.2) ⟨by show t.size ≤ 1000; omega, hxk.2⟩
          clear hown hts ht zf c2 e2 C7 B7 r7 HO
          go_wp2
          go_ret
          exact ⟨(some ⟨b2, 0, none⟩, qc, ys.set k (ys[k].1, ys[k].2.1, t, ys[k].2.2.2)), by simp [slT], RF, CF, BF, bdF, by simpa using la⟩
end
end Go.Proofs.YtengggpobhibcaaDoor.Nd
