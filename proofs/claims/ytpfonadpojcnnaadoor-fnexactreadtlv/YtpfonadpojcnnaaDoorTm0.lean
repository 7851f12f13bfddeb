/- Nodes that are marked. -/
import Derived.Test.YtpfonadpojcnnaaDoorTd1
import Derived.Test.YtpfonadpojcnnaaDoorRe4
import Derived.Test.YtpfonadpojcnnaaDoorMt
set_option linter.unusedVariables false
set_option maxRecDepth 100000
namespace Go.Proofs.YtpfonadpojcnnaaDoor.Nd
open Go Go.RowKit Go.Joins Own Draw Var

def adT (x : TT) : Nat := 3 + x.2.2.2.2.2.length
def adL (xs : List TT) : Nat := (xs.map adT).sum
def rgI (k n : Nat) : List Int := (List.range n).map (fun i => ((k + i : Nat) : Int))
theorem rg_len (k n : Nat) : (rgI k n).length = n := by unfold rgI; simp
theorem rg_mks (k n : Nat) : (rgI k n).map (Value.int .i64) = mks (gI k) n := by unfold rgI mks gI; simp
def lfM (k : Nat) : Bool := (((k : Int) + 1) % 3 == 0)
/-- A node with its marks. -/
def mkT (k : Nat) (x : TT) : TT := ((k : Int), lfM k, mt (k + 2), (x.2.2.2.1, x.2.2.2.2.1, rgI (k + 3) x.2.2.2.2.2.length))
def mkL : Nat → List TT → List TT
  | _, [] => []
  | k, x :: xs => mkT k x :: mkL (k + adT x) xs
theorem mkL_len : ∀ (k : Nat) (xs : List TT), (mkL k xs).length = xs.length
  | _, [] => rfl
  | k, x :: xs => by simp [mkL, mkL_len]
theorem mkL_snoc : ∀ (k : Nat) (xs : List TT) (x : TT), mkL k (xs ++ [x]) = mkL k xs ++ [mkT (k + adL xs) x]
  | k, [], x => by simp [mkL, adL]
  | k, y :: xs, x => by
    simp only [List.cons_append, mkL, mkL_snoc (k + adT y) xs x, adL, List.map_cons, List.sum_cons]
    rw [Nat.add_assoc]
theorem kb_mk (k : Nat) (x : TT) : kbT (mkT k x) = kbT x := by unfold kbT mkT; dsimp only; rw [rg_len]
theorem mkL_kb : ∀ (k : Nat) (xs : List TT), (mkL k xs).map kbT = xs.map kbT
  | _, [] => rfl
  | k, x :: xs => by simp [mkL, mkL_kb, kb_mk]
theorem ap_map (r : Rw TT) : ApT r ↔ (r.2.2.map kbT).Pairwise (fun a b => ∀ k, a = some k → b ≠ some k) := by unfold ApT; rw [List.pairwise_map]
theorem ap_same {r q : Rw TT} (h : ApT r) (e : r.2.2.map kbT = q.2.2.map kbT) : ApT q := by rw [ap_map] at h ⊢; rw [← e]; exact h
theorem fl_set {pre post : List TT} {x x' : TT} {t : Nat} {u : Value} (ht : t < 4) (hx : (cT x).set t u = cT x') : (fl cT (pre ++ x :: post)).set (pre.length * 4 + t) u = fl cT (pre ++ x' :: post) := by
  rw [← fl_app, ← fl_app, fl_cons, fl_cons, List.set_append_right _ _ (by rw [fl_len lT]; omega), fl_len lT, show pre.length * 4 + t - pre.length * 4 = t by omega, List.set_append_left _ _ (by rw [lT]; exact ht), hx]
theorem rot_store {B g cap n : Nat} {W : World} {pre post : List TT} {x x' : TT} {t : Nat} {u : Value} (h : RoT B W (some ⟨g, 0, none⟩, cap, pre ++ x :: post)) (ht : t < 4) (hx : (cT x).set t u = cT x') (hk : x'.2.2.2 = x.2.2.2) :
    RoT B (W.setCell ⟨g, pre.length * 4 + t, none⟩ u) (some ⟨g, 0, none⟩, cap, pre ++ x' :: post) := by
  have hs := World.ownsRow.stored h.1 (pre.length * 4 + t) u
  refine ⟨?_, fun y hy => ?_⟩
  · have := hs.1
    dsimp only at this
    rw [fl_set ht hx] at this
    show (W.setCell ⟨g, pre.length * 4 + t, none⟩ u).ownsRow B 43 4 (.slice (some ⟨g, 0, none⟩) (pre ++ x' :: post).length cap) (pre ++ x' :: post).length (fl cT (pre ++ x' :: post))
    simpa using this
  · have hm : ∃ z ∈ pre ++ x :: post, y.2.2.2 = z.2.2.2 := by
      rcases List.mem_append.1 hy with hy | hy
      · exact ⟨y, List.mem_append.2 (Or.inl hy), rfl⟩
      · rcases List.mem_cons.1 hy with rfl | hy
        · exact ⟨x, List.mem_append.2 (Or.inr (List.mem_cons_self ..)), hk⟩
        · exact ⟨y, List.mem_append.2 (Or.inr (List.mem_cons_of_mem _ hy)), rfl⟩
    obtain ⟨z, hz, e⟩ := hm
    have := World.ownsRow.kept (h.2 z hz) hs.2 (own_ne (h.2 z hz) h.1)
    show RoI B _ y.2.2.2
    rw [e]
    exact this
theorem rot_kid {B cap : Nat} {a : Option Addr} {W W' : World} {pre post : List TT} {y : TT} {ks : List Int} (h : RoT B W (a, cap, pre ++ y :: post)) (ap : ApT (a, cap, pre ++ y :: post)) (hl : ks.length = y.2.2.2.2.2.length)
    (hk : W'.ownsRow B 3 1 (.slice y.2.2.2.1 y.2.2.2.2.2.length y.2.2.2.2.1) y.2.2.2.2.2.length (ks.map (Value.int .i64))) (hg : W.grownBy W' (kbT y)) :
    RoT B W' (a, cap, pre ++ (y.1, y.2.1, y.2.2.1, (y.2.2.2.1, y.2.2.2.2.1, ks)) :: post) := by
  have hyo := h.2 y (List.mem_append.2 (Or.inr (List.mem_cons_self ..)))
  refine ⟨?_, fun z hz => ?_⟩
  · have hne : (Value.slice a (pre ++ y :: post).length cap).ownBlock = none ∨ (Value.slice a (pre ++ y :: post).length cap).ownBlock ≠ kbT y := by
      rcases own_ne hyo h.1 with e | e
      · cases e2 : (Value.slice a (pre ++ y :: post).length cap).ownBlock with
        | none => exact Or.inl rfl
        | some k => right; intro c; have : kbT y = none := e; rw [this] at c; cases c
      · exact Or.inr (fun c => e c.symm)
    have := World.ownsRow.kept h.1 hg hne
    show W'.ownsRow B 43 4 (.slice a (pre ++ _ :: post).length cap) (pre ++ _ :: post).length (fl cT (pre ++ _ :: post))
    rw [← fl_app, fl_cons]
    have e4 : cT (y.1, y.2.1, y.2.2.1, (y.2.2.2.1, y.2.2.2.2.1, ks)) = cT y := by show [_, _, _, _] = _; dsimp only; rw [hl]
    rw [e4, ← fl_cons, fl_app]
    simpa using this
  · unfold ApT at ap
    rw [List.pairwise_append] at ap
    obtain ⟨_, p2, p3⟩ := ap
    rw [List.pairwise_cons] at p2
    rcases List.mem_append.1 hz with hz | hz
    · refine World.ownsRow.kept (h.2 z (List.mem_append.2 (Or.inl hz))) hg ?_
      cases e : kbT z with
      | none => exact Or.inl e
      | some k => right; intro c; exact p3 z hz y (List.mem_cons_self ..) k e (c.symm.trans e)
    · rcases List.mem_cons.1 hz with rfl | hz
      · show W'.ownsRow B 3 1 (.slice y.2.2.2.1 ks.length y.2.2.2.2.1) ks.length (ks.map (Value.int .i64))
        rw [hl]
        exact hk
      · refine World.ownsRow.kept (h.2 z (List.mem_append.2 (Or.inr (List.mem_cons_of_mem _ hz)))) hg ?_
        cases e : kbT z with
        | none => exact Or.inl e
        | some k => right; intro c; exact p2.1 z hz k (c.symm.trans e) e
end Go.Proofs.YtpfonadpojcnnaaDoor.Nd
