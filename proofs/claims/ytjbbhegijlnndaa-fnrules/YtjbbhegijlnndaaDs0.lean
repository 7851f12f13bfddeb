/- What draws leave as it was. -/
import Derived.Test.YtjbbhegijlnndaaRn2
import Derived.Test.YtjbbhegijlnndaaMr0
import Derived.Test.YtjbbhegijlnndaaCu
import Derived.Test.YtjbbhegijlnndaaReg
import Derived.Test.YtjbbhegijlnndaaRk2
set_option linter.unusedVariables false
set_option maxRecDepth 100000
namespace Go.Proofs.Ytjbbhegijlnndaa.Nd
open Go Go.RowKit Go.Joins Own Draw Go.Proofs.Ytjbbhegijlnndaa

theorem RoT.only {p B : Nat} {w w' : World} {q : Rw TT} (h : RoT B w q) (ho : Only p w w') (hp : p < B) : RoT B w' q := ⟨own_only h.1 ho hp, fun x hx => own_only (h.2 x hx) ho hp⟩
theorem OwT.only {p B : Nat} {w w' : World} {x : TT} (h : OwT B w x) (ho : Only p w w') (hp : p < B) : OwT B w' x := own_only h ho hp
theorem fl_setk {k j : Nat} (v : Value) (x : TT) : ∀ (xs : List TT) (k : Nat), (h : k < xs.length) → j < 3 → cT x = (cT xs[k]).set j v → (fl cT xs).set (k * 3 + j) v = fl cT (xs.set k x)
  | [], k, h, _, _ => absurd h (by simp)
  | y :: ys, 0, _, hj, e => by
    rw [fl_cons, List.set_cons_zero, fl_cons, Nat.zero_mul, Nat.zero_add, List.set_append_left _ _ (by rw [lT]; exact hj)]
    rw [show cT x = (cT y).set j v from e]
  | y :: ys, k + 1, h, hj, e => by
    rw [fl_cons, List.set_cons_succ, fl_cons, List.set_append_right _ _ (by rw [lT]; omega), lT, show (k + 1) * 3 + j - 3 = k * 3 + j by omega, fl_setk (k := k) (j := j) v x ys k (by simpa using h) hj e]

theorem RoT.setk {B g c k : Nat} {w wK : World} {xs : List TT} (h : RoT B w (some ⟨g, 0, none⟩, c, xs)) (ap : ApT (some ⟨g, 0, none⟩, c, xs)) (hk : k < xs.length) (kr : Rw Int) (hg : w.grownBy wK (kbT xs[k])) (hkr : RoI B wK kr) :
    RoT B (wK.setCell ⟨g, k * 3 + 1, none⟩ (.slice kr.1 kr.2.2.length kr.2.1)) (some ⟨g, 0, none⟩, c, xs.set k (xs[k].1, kr, xs[k].2.2)) := by
  have hk1 := own_ne (h.2 xs[k] (List.getElem_mem hk)) h.1
  have f1 : wK.ownsRow B 59 3 (.slice (some ⟨g, 0, none⟩) xs.length c) xs.length (fl cT xs) := World.ownsRow.kept h.1 hg (by
    rcases hk1 with e | e
    · right; rw [show kbT xs[k] = none from e]; intro c; cases c
    · right; exact fun c => e c.symm)
  obtain ⟨f2, f3⟩ := World.ownsRow.stored f1 (k * 3 + 1) (.slice kr.1 kr.2.2.length kr.2.1)
  refine ⟨?_, fun y hy => ?_⟩
  · rw [fl_setk (k := k) (j := 1) _ (xs[k].1, kr, xs[k].2.2) xs k hk (by omega) rfl] at f2
    unfold FOwn
    simpa using f2
  · obtain ⟨i, hi, rfl⟩ := List.mem_iff_getElem.1 hy
    dsimp only at hi
    rw [List.length_set] at hi
    by_cases e : i = k
    · subst e
      rw [List.getElem_set_self]
      exact World.ownsRow.kept hkr f3 (own_ne hkr f1)
    · rw [List.getElem_set_ne (Ne.symm e)]
      have h1 : OwT B wK xs[i] := World.ownsRow.kept (h.2 xs[i] (List.getElem_mem hi)) hg (by
        have hp := List.pairwise_iff_getElem.1 ap
        dsimp only at hp
        cases hb : (Value.slice xs[i].2.1.1 xs[i].2.1.2.2.length xs[i].2.1.2.1).ownBlock with
        | none => exact Or.inl rfl
        | some j =>
          right
          intro c
          rcases Nat.lt_or_gt_of_ne e with h' | h'
          · exact hp i k hi hk h' j hb c.symm
          · exact hp k i hk hi h' j c.symm hb)
      exact World.ownsRow.kept h1 f3 (own_ne h1 f1)

theorem apT_set {a : Option Addr} {c k : Nat} {xs : List TT} {x : TT} (h : ApT (a, c, xs)) (hk : k < xs.length) (hx : kbT x = kbT xs[k] ∨ ∀ j, kbT x = some j → ∀ y ∈ xs, kbT y ≠ some j) : ApT (a, c, xs.set k x) := by
  unfold ApT at h ⊢
  dsimp only at h ⊢
  rw [List.pairwise_iff_getElem] at h ⊢
  intro i j hi hj hij b hb
  rw [List.length_set] at hi hj
  rw [List.getElem_set] at hb ⊢
  by_cases e1 : k = i
  · subst e1
    rw [if_pos rfl] at hb
    rw [if_neg (by omega)]
    rcases hx with hx | hx
    · exact h k j hi hj hij b (hx ▸ hb)
    · exact hx b hb _ (List.getElem_mem hj)
  · rw [if_neg e1] at hb
    by_cases e2 : k = j
    · subst e2
      rw [if_pos rfl]
      intro c
      rcases hx with hx | hx
      · exact h i k hi hj hij b hb (hx ▸ c)
      · exact hx b c _ (List.getElem_mem hi) hb
    · rw [if_neg e2]
      exact h i j hi hj hij b hb
/-- A cell of a rule in a row that the call owns is stored: a number. -/
theorem RoT.num {B g c k : Nat} {w : World} {xs : List TT} (h : RoT B w (some ⟨g, 0, none⟩, c, xs)) (hk : k < xs.length) (v : Int) :
    RoT B (w.setCell ⟨g, k * 3 + 0, none⟩ (.int .i64 v)) (some ⟨g, 0, none⟩, c, xs.set k (v, xs[k].2)) ∧ RoT B (w.setCell ⟨g, k * 3 + 2, none⟩ (.int .i64 v)) (some ⟨g, 0, none⟩, c, xs.set k (xs[k].1, xs[k].2.1, v)) := by
  have h1 := rot_store (n := 0) (pre := xs.take k) (post := xs.drop (k + 1)) (x := xs[k]) (x' := (v, xs[k].2)) (t := 0) (u := .int .i64 v) (by rw [← List.drop_eq_getElem_cons hk, List.take_append_drop]; exact h) (by omega) rfl rfl
  have h2 := rot_store (n := 0) (pre := xs.take k) (post := xs.drop (k + 1)) (x := xs[k]) (x' := (xs[k].1, xs[k].2.1, v)) (t := 2) (u := .int .i64 v) (by rw [← List.drop_eq_getElem_cons hk, List.take_append_drop]; exact h) (by omega) rfl rfl
  have e : (xs.take k).length = k := by rw [List.length_take]; omega
  rw [e] at h1 h2
  rw [List.set_eq_take_append_cons_drop, if_pos hk, List.set_eq_take_append_cons_drop, if_pos hk]
  exact ⟨h1, h2⟩
/-- A row that a cursor draws: in memory of the call's own, small. -/
structure Sm (B n : Nat) (w : World) (q : Rw TT) : Prop where
  ro : RoT B w q
  ap : ApT q
  len : q.2.2.length ≤ n
  set : ∀ x ∈ q.2.2, x.2.1.2.2.length ≤ 6
def SomeP (p : Nat) (ad : Option Addr) (len cap : Nat) (zs : List Int) (w : World) (e : Ending) (w' : World) : Prop :=
  ∃ q : Rw TT, e = .returned (.slice q.1 q.2.2.length q.2.1) ∧ Sm w.heap.size 21 w' q ∧ Cu p ad len cap zs w w'
end Go.Proofs.Ytjbbhegijlnndaa.Nd
