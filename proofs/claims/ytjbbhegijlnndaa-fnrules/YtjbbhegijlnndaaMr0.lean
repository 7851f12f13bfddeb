/- Marks of numbers. -/
import Derived.Test.YtjbbhegijlnndaaFl
import Derived.Test.YtjbbhegijlnndaaDraw
import Derived.Test.YtjbbhegijlnndaaRd0
set_option linter.unusedVariables false
set_option maxRecDepth 100000
namespace Go.Proofs.Ytjbbhegijlnndaa
open Go Go.RowKit Go.Joins Own Draw

abbrev TI := Int
abbrev cI (p : TI) : List Value := [.int .i64 p]
abbrev vI (p : TI) : Value := .agg #[.int .i64 p]
theorem lI (p : TI) : (cI p).length = 1 := rfl
def gI (k0 i : Nat) : Value := .int .i64 ((k0 + i : Nat) : Int)
theorem gI_0 (k0 k m : Nat) (hm : m = k0 + k) : gI k0 k = .int .i64 ((m : Int)) := by
  subst hm
  unfold gI
  congr 1

set_option maxRecDepth 100000 in
set_option maxHeartbeats 1600000 in
theorem markI_is (B k0 : Nat) (a : Option Addr) (n cap : Nat) (vs : List Value) (w : World) (h : w.ownsRow B 3 1 (.slice a n cap) n vs) (hl : n ≤ 4000000) (hk0 : k0 ≤ 100000000) :
    Calls Try.prog 74 #[.slice a n cap, .int .i64 (k0 : Int)] w fun e w' => e = .returned (.int .i64 ((k0 + n : Nat) : Int)) ∧ w'.ownsRow B 3 1 (.slice a n cap) n (mks (gI k0) (n)) ∧ w.grownBy w' (Value.slice a n cap).ownBlock := by
  rcases h.2 with ⟨e, h0⟩ | ⟨g, cap', cur, e, _⟩
  · injection e with e1 e2 e3
    subst e1 e3 h0
    have hv : vs = [] := List.length_eq_zero_iff.1 (by have := h.1; omega)
    subst hv
    go_enter Try.func74, Try.ntmps74
    go_wp2
    go_loopw [1, 5] (fun kv i wr => i = .int .i64 0 ∧ kv = .int .i64 (k0 : Int) ∧ w = wr) (fun _ _ _ => 0)
    case atStart => exact ⟨rfl, rfl, rfl⟩
    case round =>
      obtain ⟨rfl, rfl, rfl⟩ := hrel
      go_wp2
      go_ret
      exact ⟨by simp, h, World.grownBy.refl _ _⟩
  · injection e with e1 e2 e3
    subst e1 e3
    have H0 : w.ownsRow B 3 1 (.slice (some ⟨g, 0, none⟩) n cap) n (mks (gI k0) (0) ++ vs.drop (0)) := by exact h
    have hvl : vs.length = n := by have := h.1; omega
    have hG0 : w.grownBy w (some g) := World.grownBy.refl _ _
    clear h
    go_enter Try.func74, Try.ntmps74
    go_wp2
    go_loopw [1, 5] (fun kv i wr => ∃ k m : Nat, k ≤ n ∧ m = k0 + k ∧ i = .int .i64 k ∧ kv = .int .i64 m ∧ wr.ownsRow B 3 1 (.slice (some ⟨g, 0, none⟩) n cap) n (mks (gI k0) k ++ vs.drop k) ∧ w.grownBy wr (some g)) (fun _ i _ => n - (intOf i).toNat)
    case atStart => exact ⟨0, k0, by omega, by omega, rfl, rfl, H0, hG0⟩
    case round =>
      clear H0 hG0
      obtain ⟨k, m, hk, hm, rfl, rfl, hown, hG⟩ := hrel
      by_cases hlt : k < n
      · have hs0 := hown.stored k (.int .i64 ((m : Int)))
        have hs := hs0.1
        have hE : (mks (gI k0) k ++ vs.drop k).set k (.int .i64 ((m : Int))) = mks (gI k0) (k + 1) ++ vs.drop (k + 1) := by rw [← gI_0 k0 k m hm, mks_put (gI k0) vs k (k + 1) (by omega) (by omega)]
        rw [hE] at hs
        have HS : Hid (∃ k' m' : Nat, k' ≤ n ∧ m' = k0 + k' ∧ Value.int .i64 ((k : Int) + 1) = .int .i64 k' ∧ Value.int .i64 ((m : Int) + 1) = .int .i64 m' ∧ (wr.setCell ⟨g, k, none⟩ (.int .i64 ((m : Int)))).ownsRow B 3 1 (.slice (some ⟨g, 0, none⟩) n cap) n (mks (gI k0) k' ++ vs.drop k') ∧ w.grownBy (wr.setCell ⟨g, k, none⟩ (.int .i64 ((m : Int)))) (some g)) :=
          ⟨k + 1, m + 1, by omega, by omega, by go_num, by go_num, hs, (grown_to hG hs0.2)⟩
        have hll : (mks (gI k0) k ++ vs.drop k).length = n := by have := hown.1; omega
        have u0 : wr.cell? ⟨g, k, none⟩ = some (mks (gI k0) k ++ vs.drop k)[k] := by rw [hown.cellAt _ (by omega)]; exact List.getElem?_eq_getElem (by omega)
        have f0 := hown.frozenAt k
        have hlt2 : (k : Int) < (n : Int) := by omega
        have hm2 : (m : Int) ≤ 200000000 := by omega
        generalize (mks (gI k0) k ++ vs.drop k)[k] = q0 at u0
        clear hown hG hs hs0 hll hm hE
        go_wp2
        go_roundw
        case rel => exact HS.out
        case measure => simp [intOf]; omega
      · obtain rfl : k = n := by omega
        rw [← hvl, List.drop_length, List.append_nil, hvl] at hown
        go_wp2
        go_ret
        exact ⟨by rw [hm]; rfl, hown, hG⟩
set_option maxRecDepth 100000 in
set_option maxHeartbeats 1600000 in
theorem heldI_is (B k0 : Nat) (a : Option Addr) (n cap : Nat) (w : World) (h : w.ownsRow B 3 1 (.slice a n cap) n (mks (gI k0) (n))) (hl : n ≤ 4000000) (hk0 : k0 ≤ 100000000) :
    Calls Try.prog 75 #[.slice a n cap, .int .i64 (k0 : Int)] w fun e w' => e = .returned (.int .i64 ((k0 + n : Nat) : Int)) ∧ Below w.heap.size w w' := by
  have hcell : ∀ i, i < n → ∃ g, a = some ⟨g, 0, none⟩ ∧ w.cell? ⟨g, i, none⟩ = some (gI k0 i) ∧ g < w.heap.size := by
    intro i hi
    rcases h.2 with ⟨e, h0⟩ | ⟨g, cap', cur, e, _⟩
    · omega
    · injection e with e1 e2 e3
      subst e1 e3
      exact ⟨g, rfl, by rw [h.cellAt i (by omega), mks_get _ _ _ hi], (h.lt g rfl).2⟩
  clear h
  go_enter Try.func75, Try.ntmps75
  go_wp2
  go_loopw [1, 5] (fun kv i wr => ∃ k m : Nat, k ≤ n ∧ m = k0 + k ∧ i = .int .i64 k ∧ kv = .int .i64 m ∧ Below w.heap.size w wr) (fun _ i _ => n - (intOf i).toNat)
  case atStart => exact ⟨0, k0, by omega, by omega, rfl, rfl, Below.refl _ _⟩
  case round =>
    obtain ⟨k, m, hk, hm, rfl, rfl, hbel⟩ := hrel
    by_cases hlt : k < n
    · obtain ⟨g, e0, h0, hg0⟩ := hcell k (by omega)
      rw [← hbel.cell (p := ⟨g, k, none⟩) hg0, gI_0 k0 k m hm] at h0
      subst e0
      have hlt2 : (k : Int) < (n : Int) := by omega
      have hm2 : (m : Int) ≤ 200000000 := by omega
      have hm3 : m + 1 = k0 + k + 1 := by omega
      clear hcell hm
      go_wp2
      go_roundw
      case rel => exact ⟨k + 1, m + 1, by omega, hm3, by go_num, by go_num, hbel⟩
      case measure => simp [intOf]; omega
    · obtain rfl : k = n := by omega
      go_wp2
      go_ret
      exact ⟨by rw [hm]; rfl, hbel⟩
end Go.Proofs.Ytjbbhegijlnndaa

set_option linter.unusedVariables false
set_option maxRecDepth 100000
namespace Go.Proofs.Ytjbbhegijlnndaa.Nd
open Go Go.RowKit Go.Joins Own Draw Go.Proofs.Ytjbbhegijlnndaa

def adT (x : TT) : Nat := 2 + x.2.1.2.2.length
def adL (xs : List TT) : Nat := (xs.map adT).sum
def rgI (k n : Nat) : List Int := (List.range n).map (fun i => ((k + i : Nat) : Int))
theorem rg_len (k n : Nat) : (rgI k n).length = n := by unfold rgI; simp
theorem rg_mks (k n : Nat) : (rgI k n).map (Value.int .i64) = mks (gI k) n := by unfold rgI mks gI; simp
/-- A rule with its marks. -/
def mkT (k : Nat) (x : TT) : TT := ((k : Int), (x.2.1.1, x.2.1.2.1, rgI (k + 1) x.2.1.2.2.length), ((k + 1 + x.2.1.2.2.length : Nat) : Int))
def mkL : Nat → List TT → List TT
  | _, [] => []
  | k, x :: xs => mkT k x :: mkL (k + adT x) xs
theorem mkL_len : ∀ (k : Nat) (xs : List TT), (mkL k xs).length = xs.length
  | _, [] => rfl
  | k, x :: xs => by simp [mkL, mkL_len]
theorem mkL_snoc : ∀ (k : Nat) (xs : List TT) (x : TT), mkL k (xs ++ [x]) = mkL k xs ++ [mkT (k + adL xs) x]
  | k, [], x => by simp [mkL, adL]
  | k, y :: xs, x => by
    simp only [List.cons_append, mkL, mkL_snoc (k + adT y) xs x, adL, List.map_cons, List.sum_cons]
    rw [Nat.add_assoc]
theorem kb_mk (k : Nat) (x : TT) : kbT (mkT k x) = kbT x := by unfold kbT mkT; dsimp only; rw [rg_len]
theorem mkL_kb : ∀ (k : Nat) (xs : List TT), (mkL k xs).map kbT = xs.map kbT
  | _, [] => rfl
  | k, x :: xs => by simp [mkL, mkL_kb, kb_mk]
theorem ap_map (r : Rw TT) : ApT r ↔ (r.2.2.map kbT).Pairwise (fun a b => ∀ k, a = some k → b ≠ some k) := by unfold ApT; rw [List.pairwise_map]
theorem ap_same {r q : Rw TT} (h : ApT r) (e : r.2.2.map kbT = q.2.2.map kbT) : ApT q := by rw [ap_map] at h ⊢; rw [← e]; exact h
theorem fl_set {pre post : List TT} {x x' : TT} {t : Nat} {u : Value} (ht : t < 3) (hx : (cT x).set t u = cT x') : (fl cT (pre ++ x :: post)).set (pre.length * 3 + t) u = fl cT (pre ++ x' :: post) := by
  rw [← fl_app, ← fl_app, fl_cons, fl_cons, List.set_append_right _ _ (by rw [fl_len lT]; omega), fl_len lT, show pre.length * 3 + t - pre.length * 3 = t by omega, List.set_append_left _ _ (by rw [lT]; exact ht), hx]
theorem rot_store {B g cap n : Nat} {W : World} {pre post : List TT} {x x' : TT} {t : Nat} {u : Value} (h : RoT B W (some ⟨g, 0, none⟩, cap, pre ++ x :: post)) (ht : t < 3) (hx : (cT x).set t u = cT x') (hk : x'.2.1 = x.2.1) :
    RoT B (W.setCell ⟨g, pre.length * 3 + t, none⟩ u) (some ⟨g, 0, none⟩, cap, pre ++ x' :: post) := by
  have hs := World.ownsRow.stored h.1 (pre.length * 3 + t) u
  refine ⟨?_, fun y hy => ?_⟩
  · have := hs.1
    dsimp only at this
    rw [fl_set ht hx] at this
    show (W.setCell ⟨g, pre.length * 3 + t, none⟩ u).ownsRow B 59 3 (.slice (some ⟨g, 0, none⟩) (pre ++ x' :: post).length cap) (pre ++ x' :: post).length (fl cT (pre ++ x' :: post))
    simpa using this
  · have hm : ∃ z ∈ pre ++ x :: post, y.2.1 = z.2.1 := by
      rcases List.mem_append.1 hy with hy | hy
      · exact ⟨y, List.mem_append.2 (Or.inl hy), rfl⟩
      · rcases List.mem_cons.1 hy with rfl | hy
        · exact ⟨x, List.mem_append.2 (Or.inr (List.mem_cons_self ..)), hk⟩
        · exact ⟨y, List.mem_append.2 (Or.inr (List.mem_cons_of_mem _ hy)), rfl⟩
    obtain ⟨z, hz, e⟩ := hm
    have := World.ownsRow.kept (h.2 z hz) hs.2 (own_ne (h.2 z hz) h.1)
    show RoI B _ y.2.1
    rw [e]
    exact this
theorem rot_kid {B cap : Nat} {a : Option Addr} {W W' : World} {pre post : List TT} {y : TT} {ks : List Int} (h : RoT B W (a, cap, pre ++ y :: post)) (ap : ApT (a, cap, pre ++ y :: post)) (hl : ks.length = y.2.1.2.2.length)
    (hk : W'.ownsRow B 3 1 (.slice y.2.1.1 y.2.1.2.2.length y.2.1.2.1) y.2.1.2.2.length (ks.map (Value.int .i64))) (hg : W.grownBy W' (kbT y)) :
    RoT B W' (a, cap, pre ++ (y.1, (y.2.1.1, y.2.1.2.1, ks), y.2.2) :: post) := by
  have hyo := h.2 y (List.mem_append.2 (Or.inr (List.mem_cons_self ..)))
  refine ⟨?_, fun z hz => ?_⟩
  · have hne : (Value.slice a (pre ++ y :: post).length cap).ownBlock = none ∨ (Value.slice a (pre ++ y :: post).length cap).ownBlock ≠ kbT y := by
      rcases own_ne hyo h.1 with e | e
      · cases e2 : (Value.slice a (pre ++ y :: post).length cap).ownBlock with
        | none => exact Or.inl rfl
        | some k => right; intro c; have : kbT y = none := e; rw [this] at c; cases c
      · exact Or.inr (fun c => e c.symm)
    have := World.ownsRow.kept h.1 hg hne
    show W'.ownsRow B 59 3 (.slice a (pre ++ _ :: post).length cap) (pre ++ _ :: post).length (fl cT (pre ++ _ :: post))
    rw [← fl_app, fl_cons]
    have e4 : cT (y.1, (y.2.1.1, y.2.1.2.1, ks), y.2.2) = cT y := by show [_, _, _] = _; dsimp only; rw [hl]
    rw [e4, ← fl_cons, fl_app]
    simpa using this
  · unfold ApT at ap
    rw [List.pairwise_append] at ap
    obtain ⟨_, p2, p3⟩ := ap
    rw [List.pairwise_cons] at p2
    rcases List.mem_append.1 hz with hz | hz
    · refine World.ownsRow.kept (h.2 z (List.mem_append.2 (Or.inl hz))) hg ?_
      cases e : kbT z with
      | none => exact Or.inl e
      | some k => right; intro c; exact p3 z hz y (List.mem_cons_self ..) k e (c.symm.trans e)
    · rcases List.mem_cons.1 hz with rfl | hz
      · show W'.ownsRow B 3 1 (.slice y.2.1.1 ks.length y.2.1.2.1) ks.length (ks.map (Value.int .i64))
        rw [hl]
        exact hk
      · refine World.ownsRow.kept (h.2 z (List.mem_append.2 (Or.inr (List.mem_cons_of_mem _ hz)))) hg ?_
        cases e : kbT z with
        | none => exact Or.inl e
        | some k => right; intro c; exact p2.1 z hz k (c.symm.trans e) e
def Ap (a b : Value) : Prop := ∀ k, a.ownBlock = some k → ¬ b.ownBlock = some k
/-- Only the blocks of these rows changed. -/
structure Chg (vs : List Value) (w w' : World) : Prop where
  os : w'.os = w.os
  tape : w'.tape = w.tape
  output : w'.output = w.output
  size : w.heap.size ≤ w'.heap.size
  block : ∀ k, k < w.heap.size → (∀ c ∈ vs, ¬ c.ownBlock = some k) → w'.heap[k]? = w.heap[k]?
theorem Chg.grown {vs : List Value} {c : Value} {w w' : World} (h : w.grownBy w' c.ownBlock) (hc : c ∈ vs) : Chg vs w w' := ⟨h.os, h.tape, h.output, h.size, fun k hk ho => h.block k hk (fun e => ho c hc e.symm)⟩
theorem Chg.of {vs : List Value} {w w' : World} (h : Below w.heap.size w w') : Chg vs w w' := ⟨h.os, h.tape, h.output, h.size, fun k hk _ => h.block k hk⟩
theorem Chg.trans {vs : List Value} {w w1 w2 : World} (h : Chg vs w w1) (k : Chg vs w1 w2) : Chg vs w w2 :=
  ⟨k.os.trans h.os, k.tape.trans h.tape, k.output.trans h.output, Nat.le_trans h.size k.size, fun j hj ho => (k.block j (Nat.lt_of_lt_of_le hj h.size) ho).trans (h.block j hj ho)⟩
theorem Chg.mono {vs us : List Value} {w w' : World} (h : Chg vs w w') (hs : ∀ c ∈ vs, c ∈ us) : Chg us w w' := ⟨h.os, h.tape, h.output, h.size, fun k hk ho => h.block k hk (fun c hc => ho c (hs c hc))⟩
theorem Chg.own {vs us : List Value} {w w' : World} {B e s n : Nat} {v : Value} (h : Chg vs w w') (ho : w.ownsRow B e s v n us) (hv : ∀ c ∈ vs, Ap v c) : w'.ownsRow B e s v n us := by
  refine ⟨ho.1, ?_⟩
  rcases ho.2 with h0 | ⟨g, cap, cur, e1, e2, e3, e4⟩
  · exact Or.inl h0
  · exact Or.inr ⟨g, cap, cur, e1, e2, (h.block g (by subst e1; exact (ho.lt g rfl).2) (fun c hc => hv c hc g (by subst e1; rfl))).trans e3, e4⟩
theorem Chg.blk {vs us : List Value} {w w' : World} {g : Nat} (h : Chg vs w w') (hb : Blk g us w) (hg : g < w.heap.size) (hv : ∀ c ∈ vs, ¬ c.ownBlock = some g) : Blk g us w' :=
  ⟨fun i v e => ⟨(World.cell?_of_block (a := ⟨g, i, none⟩) (h.block g hg hv)).trans (hb.out i v e).1, (World.frozen?_of_block (a := ⟨g, i, none⟩) (h.block g hg hv)).trans (hb.out i v e).2⟩⟩
theorem Chg.below {vs : List Value} {a w w' : World} {n : Nat} (h : Chg vs w w') (hb : Below n a w) (hn : n ≤ w.heap.size) (hv : ∀ c ∈ vs, ∀ k, c.ownBlock = some k → n ≤ k) : Below n a w' :=
  hb.trans ⟨h.os, h.tape, h.output, h.size, fun k hk => h.block k (by omega) (fun c hc e => by have := hv c hc k e; omega)⟩
/-- The rows that a row of rules lies in. -/
def slT (x : TT) : Value := .slice x.2.1.1 x.2.1.2.2.length x.2.1.2.1
def bvT (q : Rw TT) : List Value := .slice q.1 q.2.2.length q.2.1 :: q.2.2.map slT
theorem bv_lt {B : Nat} {w : World} {q : Rw TT} (h : RoT B w q) : ∀ c ∈ bvT q, ∀ k, c.ownBlock = some k → B ≤ k ∧ k < w.heap.size := by
  intro c hc k hk
  unfold bvT at hc
  rcases List.mem_cons.1 hc with rfl | hc
  · exact World.ownsRow.lt h.1 k hk
  · obtain ⟨x, hx, rfl⟩ := List.mem_map.1 hc
    exact World.ownsRow.lt (h.2 x hx) k hk
/-- What lies behind the blocks that changed is as it was. -/
theorem RoT.chg {B : Nat} {w w' : World} {q : Rw TT} {vs : List Value} (h : RoT B w q) (hc : Chg vs w w') (hv : ∀ c ∈ vs, ∀ k, c.ownBlock = some k → k < B) : RoT B w' q :=
  ⟨Chg.own hc h.1 (fun c hm k hk e => by have := hv c hm k e; have := (World.ownsRow.lt h.1 k hk).1; omega), fun x hx => Chg.own hc (h.2 x hx) (fun c hm k hk e => by have := hv c hm k e; have := (World.ownsRow.lt (h.2 x hx) k hk).1; omega)⟩
theorem adL_take (xs : List TT) (j : Nat) (h : j < xs.length) : adL (xs.take (j + 1)) = adL (xs.take j) + adT xs[j] := by
  unfold adL
  rw [List.take_succ_eq_append_getElem h, List.map_append, List.sum_append, List.map_cons, List.map_nil, List.sum_cons, List.sum_nil, Nat.add_zero]
theorem adL_le (xs : List TT) (j : Nat) : adL (xs.take j) ≤ adL xs := by
  unfold adL
  rw [← List.take_append_drop j xs, List.map_append, List.sum_append, List.take_append_drop]
  omega
theorem adL_len : ∀ xs : List TT, xs.length ≤ adL xs
  | [] => Nat.zero_le _
  | x :: xs => by have := adL_len xs; unfold adL at this ⊢; rw [List.map_cons, List.sum_cons, List.length_cons]; unfold adT; unfold adT at this; omega
theorem row_cell {B g cap : Nat} {W : World} {pre post : List TT} {x : TT} (h : RoT B W (some ⟨g, 0, none⟩, cap, pre ++ x :: post)) (t : Nat) {v : Value} (hv : (cT x)[t]? = some v) : W.cell? ⟨g, pre.length * 3 + t, none⟩ = some v := by
  have hl : pre.length < (pre ++ x :: post).length := by simp
  obtain ⟨b, o, e, _, hc⟩ := (FOwn.row lT h.1) pre.length hl
  simp only [Option.some.injEq, Addr.mk.injEq, and_true] at e
  obtain ⟨rfl, rfl⟩ := e
  have := hc t v (by simpa using hv)
  rw [Nat.zero_add] at this
  exact this
theorem row_fz {B g cap : Nat} {W : World} {L : List TT} (h : RoT B W (some ⟨g, 0, none⟩, cap, L)) (i : Nat) : W.frozen? ⟨g, i, none⟩ = false := World.ownsRow.frozenAt h.1 i
set_option maxHeartbeats 3200000 in
theorem markR_is (B k0 : Nat) (q : Rw TT) (w : World) (h : RoT B w q) (ap : ApT q) (h0 : 1 ≤ k0) (hA : k0 + adL q.2.2 ≤ 4000000) :
    Calls Try.prog 38 #[.slice q.1 q.2.2.length q.2.1, .int .i64 (k0 : Int)] w fun e w' => e = .returned (.int .i64 ((k0 + adL q.2.2 : Nat) : Int)) ∧ RoT B w' (q.1, q.2.1, mkL k0 q.2.2) ∧ Below B w w' ∧ Chg (bvT q) w w' := by
  obtain ⟨VS, hVS⟩ : ∃ VS, bvT q = VS := ⟨_, rfl⟩
  have hm1 : Hid (Value.slice q.1 q.2.2.length q.2.1 ∈ VS) := by rw [← hVS]; exact List.mem_cons_self ..
  have hm2 : Hid (∀ x ∈ q.2.2, slT x ∈ VS) := by rw [← hVS]; exact fun x hx => List.mem_cons_of_mem _ (List.mem_map_of_mem hx)
  rw [hVS]
  clear hVS
  obtain ⟨a, cap, xs⟩ := q
  dsimp only at hA ⊢
  have hBw : ∀ k, (Value.slice a xs.length cap).ownBlock = some k → B ≤ k ∧ k < w.heap.size := World.ownsRow.lt h.1
  rcases h.1.2 with ⟨e, e0⟩ | ⟨g, cap', cur, e, _⟩
  · injection e with e1 e2 e3
    subst e1 e3
    have hx : xs = [] := List.length_eq_zero_iff.1 e0
    subst hx
    go_enter Try.func38, Try.ntmps38
    go_wp2
    go_loopw [1, 5] (fun kv i wr => i = .int .i64 0 ∧ kv = .int .i64 (k0 : Int) ∧ w = wr) (fun _ _ _ => 0)
    case atStart => exact ⟨rfl, rfl, rfl⟩
    case round =>
      obtain ⟨rfl, rfl, rfl⟩ := hrel
      go_wp2
      go_ret
      exact ⟨by simp [adL], h, Below.refl _ _, Chg.of (Below.refl _ _)⟩
  · injection e with e1 e2 e3
    subst e1 e3
    have hgB := hBw g rfl
    go_enter Try.func38, Try.ntmps38
    go_wp2
    go_loopw [1, 5] (fun kv i wr => ∃ j k : Nat, j ≤ xs.length ∧ k = k0 + adL (xs.take j) ∧ i = .int .i64 j ∧ kv = .int .i64 k ∧ RoT B wr (some ⟨g, 0, none⟩, cap, mkL k0 (xs.take j) ++ xs.drop j) ∧ Below B w wr ∧ Chg VS w wr) (fun _ i _ => xs.length - (intOf i).toNat)
    case atStart => exact ⟨0, k0, by omega, by simp [adL], rfl, rfl, by simpa [mkL] using h, Below.refl _ _, Chg.of (Below.refl _ _)⟩
    case round =>
      obtain ⟨j, k, hj, hk, rfl, rfl, hro, hbl, hch⟩ := hrel
      by_cases hlt : j < xs.length
      · have hlt2 : (j : Int) < (xs.length : Int) := by omega
        have hjb : (j : Int) ≤ 4000000 := by have := adL_len xs; omega
        have hpl : (mkL k0 (xs.take j)).length = j := by rw [mkL_len, List.length_take]; omega
        have hap : ApT (some ⟨g, 0, none⟩, cap, mkL k0 (xs.take j) ++ xs.drop j) := ap_same ap (by dsimp only; rw [List.map_append, mkL_kb, ← List.map_append, List.take_append_drop])
        have had := adL_take xs j hlt
        have hle := adL_le xs (j + 1)
        have hns : mkL k0 (xs.take (j + 1)) = mkL k0 (xs.take j) ++ [mkT k xs[j]] := by rw [List.take_succ_eq_append_getElem hlt, mkL_snoc, hk]
        rw [List.drop_eq_getElem_cons hlt] at hro hap
        have HNX : Hid (∀ W : World, RoT B W (some ⟨g, 0, none⟩, cap, mkL k0 (xs.take j) ++ mkT k xs[j] :: xs.drop (j + 1)) → Below B w W → Chg VS w W → ∃ j' k' : Nat, j' ≤ xs.length ∧ k' = k0 + adL (xs.take j') ∧ Value.int .i64 ((j : Int) + 1) = .int .i64 j' ∧ Value.int .i64 ((k + adT xs[j] : Nat) : Int) = .int .i64 k' ∧ RoT B W (some ⟨g, 0, none⟩, cap, mkL k0 (xs.take j') ++ xs.drop j') ∧ Below B w W ∧ Chg VS w W) := fun W hW hb hc => ⟨j + 1, k + adT xs[j], by omega, by rw [had, hk]; omega, by go_num, rfl, by rw [hns]; simpa using hW, hb, hc⟩
        have hka : k + adT xs[j] ≤ 4000000 := by omega
        have HMM : Hid (slT xs[j] ∈ VS) := hm2.out _ (List.getElem_mem hlt)
        have HM1 : Hid (Value.slice (some ⟨g, 0, none⟩) xs.length cap ∈ VS) := hm1
        generalize xs[j] = x at HMM hro hap HNX hka
        generalize hpre : mkL k0 (xs.take j) = pre at hro hap HNX hpl
        generalize xs.drop (j + 1) = post at hro hap HNX
        have hka2 : k + 2 + x.2.1.2.2.length ≤ 4000000 := by unfold adT at hka; omega
        have ro1 := rot_store (n := 0) hro (t := 0) (u := .int .i64 (k : Int)) (x' := ((k : Int), x.2)) (by omega) rfl rfl
        have y0 := row_cell hro 0 rfl
        have z0 := row_fz hro (pre.length * 3 + 0)
        have y1 := row_cell ro1 1 rfl
        rw [hpl, Nat.add_zero] at ro1 y0 z0 y1
        obtain ⟨W1, hW1⟩ : ∃ Y, wr.setCell ⟨g, j * 3, none⟩ (.int .i64 (k : Int)) = Y := ⟨_, rfl⟩
        rw [hW1] at ro1 y1
        have ch1 : Chg VS w W1 := hch.trans (by rw [← hW1]; exact Chg.grown (c := .slice (some ⟨g, 0, none⟩) xs.length cap) (set_grown wr g (j * 3) _) HM1.out)
        have b1 : Below B w W1 := by rw [← hW1]; exact hbl.setCell hgB.1 _
        have KK := markI_is B (k + 1) x.2.1.1 x.2.1.2.2.length x.2.1.2.1 _ W1 (ro1.2 ((k : Int), x.2) (List.mem_append.2 (Or.inr (List.mem_cons_self ..)))) (by omega) (by omega)
        rw [show (((k + 1 : Nat)) : Int) = (k : Int) + 1 by omega] at KK
        have hap3 : ApT (some ⟨g, 0, none⟩, cap, pre ++ ((k : Int), x.2) :: post) := ap_same hap (by dsimp only; simp [kbT])
        have hoB := fun i e => (World.ownsRow.lt (ro1.2 ((k : Int), x.2) (List.mem_append.2 (Or.inr (List.mem_cons_self ..)))) i e).1
        have hB3 : B ≤ W1.heap.size := by have := (World.ownsRow.lt ro1.1 g rfl).2; omega
        have hki : (k : Int) ≤ 4000000 := by omega
        clear hro hk had hle hns hpre hka
        dsimp only at y0 y1
        go_wp2_with fail
        try rw [hW1]
        refine KK.mono ?_
        clear KK y0 z0 y1
        rintro en v2 ⟨rfl, ho, hg⟩
        have ro4 := rot_kid (y := ((k : Int), x.2)) ro1 hap3 (ks := rgI (k + 1) x.2.1.2.2.length) (rg_len _ _) (by rw [rg_mks]; exact ho) hg
        have b5 : Below B w v2 := b1.grown hg hB3 hoB
        have ch2 : Chg VS w v2 := ch1.trans (Chg.grown (c := slT x) hg HMM.out)
        have y2 := row_cell ro4 2 rfl
        have z2 := row_fz ro4 (pre.length * 3 + 2)
        have ro5 := rot_store (n := 0) ro4 (t := 2) (u := .int .i64 ((k + 1 + x.2.1.2.2.length : Nat) : Int)) (x' := mkT k x) (by omega) rfl rfl
        rw [hpl] at y2 z2 ro5
        have HR := HNX.out _ ro5 (b5.setCell (p := ⟨g, j * 3 + 2, none⟩) hgB.1 _) (ch2.trans (Chg.grown (c := .slice (some ⟨g, 0, none⟩) xs.length cap) (set_grown v2 g (j * 3 + 2) _) HM1.out))
        rw [show k + adT x = k + 2 + x.2.1.2.2.length by unfold adT; omega, show (((k + 2 + x.2.1.2.2.length : Nat)) : Int) = (k : Int) + 1 + x.2.1.2.2.length + 1 by omega, show (((k + 1 + x.2.1.2.2.length : Nat)) : Int) = (k : Int) + 1 + x.2.1.2.2.length by omega] at HR
        rw [show (((k + 1 + x.2.1.2.2.length : Nat)) : Int) = (k : Int) + 1 + x.2.1.2.2.length by omega]
        dsimp only at y2
        clear ro1 ro4 ro5 hap3 HNX ho hg hW1 ch1 ch2 hch
        go_wp2
        go_roundw
        case rel => exact HR
        case measure => simp [intOf]; omega
      · obtain rfl : j = xs.length := by omega
        have hlt2 : ¬ ((xs.length : Nat) : Int) < (xs.length : Int) := by omega
        rw [List.take_length, List.drop_length, List.append_nil] at hro
        rw [List.take_length] at hk
        go_wp2
        go_ret
        exact ⟨rfl, hro, hbl, hch⟩
end Go.Proofs.Ytjbbhegijlnndaa.Nd
