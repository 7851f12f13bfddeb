/- A message that is read, node by node, as plain data. -/
import Derived.Test.YtengggpobhibcaaDoorNd0
import Derived.Test.YtengggpobhibcaaDoorAw
import Derived.Test.YtengggpobhibcaaDoorReadVarSpec
set_option linter.unusedVariables false
set_option maxRecDepth 100000
namespace Go.Proofs.YtengggpobhibcaaDoor.Nd
open Go Go.RowKit Go.Joins Own Draw Var

theorem ans_one {s : ByteArray} {n k n' k' : Nat} (h : Ans s n k) (h' : Ans s n' k') : n = n' ∧ k = k' := by
  rcases h with ⟨a1, a2, a3⟩ | ⟨a1, a2, a3, a4, a5⟩ <;> rcases h' with ⟨b1, b2, b3⟩ | ⟨b1, b2, b3, b4, b5⟩
  · exact ⟨by omega, by omega⟩
  · exact absurd b4 (a3 (k' - 1) (by omega) (by omega))
  · exact absurd a4 (b3 (k - 1) (by omega) (by omega))
  · have e := canonK_one s _ _ a4 b4
    have e2 : k = k' := by omega
    subst e2
    exact ⟨by rw [a5, b5], rfl⟩
/-- What ReadVar says: the number, and of how many bytes. -/
noncomputable def rvP (s : ByteArray) : Nat × Nat := @dite _ (∃ p : Nat × Nat, Ans s p.1 p.2) (Classical.propDecidable _) (fun h => Classical.choose h) (fun _ => (0, 0))
theorem rv_of {s : ByteArray} {n k : Nat} (h : Ans s n k) : rvP s = (n, k) := by
  have hx : ∃ p : Nat × Nat, Ans s p.1 p.2 := ⟨(n, k), h⟩
  unfold rvP
  rw [dif_pos hx]
  have := ans_one (Classical.choose_spec hx) h
  exact Prod.ext this.1 this.2
theorem ans_k {s : ByteArray} {n k : Nat} (h : Ans s n k) : k ≤ s.size := by
  rcases h with ⟨_, e, _⟩ | ⟨_, _, e, _, _⟩ <;> omega
abbrev NdR := (List PT × Nat × Int) × Nat
def tgN (s : ByteArray) (a : Nat) : Int := ((at_ s a % 128 : Nat) : Int)
def lfB (s : ByteArray) (a : Nat) : Bool := decide (((at_ s a : Nat) : Int) < 128)
def loopN (nd : List PT → Nat → Nat → Nat → NdR) : Nat → List PT → Nat → List Int → Nat → Nat → (List PT × Nat × Int) × List Int
  | 0, out, bg, ks, fr, to => ((out, bg, 0), ks)
  | f + 1, out, bg, ks, fr, to => if fr < to then (if (nd out bg fr to).1.2.2 = 0 then loopN nd f (nd out bg fr to).1.1 (nd out bg fr to).1.2.1 (ks ++ [(((nd out bg fr to).1.1.length : Nat) : Int) - 1]) (nd out bg fr to).2 to else ((nd out bg fr to).1, ks)) else ((out, bg, 0), ks)
/-- The length of what a node holds, and where that begins. -/
noncomputable def lnN (s : ByteArray) (a en : Nat) : Nat := (rvP (s.extract (a + 1) en)).1
noncomputable def vrN (s : ByteArray) (a en : Nat) : Nat := (rvP (s.extract (a + 1) en)).2
noncomputable def stepN (s : ByteArray) (deep : Bool) (nd : List PT → Nat → Nat → Nat → NdR) (out : List PT) (bg a en : Nat) : NdR :=
  if 60 ≤ bg then ((out, bg, 4), a)
  else if en ≤ a then ((out, bg + 1, 1), a)
  else if (decide (1 ≤ tgN s a) && decide (tgN s a ≤ 100)) = false then ((out, bg + 1, 2), a)
  else if deep = false then ((out, bg + 1, 3), a)
  else if vrN s a en = 0 ∨ en < a + 1 + vrN s a en + lnN s a en then ((out, bg + 1, 1), a)
  else if lfB s a = true then ((out ++ [(tgN s a, true, s.extract (a + 1 + vrN s a en) (a + 1 + vrN s a en + lnN s a en), [])], bg + 1, 0), a + 1 + vrN s a en + lnN s a en)
  else if (loopN nd (lnN s a en) out (bg + 1) [] (a + 1 + vrN s a en) (a + 1 + vrN s a en + lnN s a en)).1.2.2 = 0 then
    (((loopN nd (lnN s a en) out (bg + 1) [] (a + 1 + vrN s a en) (a + 1 + vrN s a en + lnN s a en)).1.1 ++ [(tgN s a, false, ⟨#[]⟩, (loopN nd (lnN s a en) out (bg + 1) [] (a + 1 + vrN s a en) (a + 1 + vrN s a en + lnN s a en)).2)], (loopN nd (lnN s a en) out (bg + 1) [] (a + 1 + vrN s a en) (a + 1 + vrN s a en + lnN s a en)).1.2.1, 0), a + 1 + vrN s a en + lnN s a en)
  else ((loopN nd (lnN s a en) out (bg + 1) [] (a + 1 + vrN s a en) (a + 1 + vrN s a en + lnN s a en)).1, a)
noncomputable def nodeN (s : ByteArray) : Nat → List PT → Nat → Nat → Nat → NdR
  | 0 => stepN s false (fun _ _ _ _ => (([], 0, 0), 0))
  | f + 1 => stepN s true (nodeN s f)
/-- What stands of a node that was read. -/
structure NdG (out : List PT) (bg a en : Nat) (r : NdR) : Prop where
  rel : r.1.1.length + bg ≤ r.1.2.1 + out.length
  top : r.1.2.1 ≤ 60
  ok : r.1.2.2 = 0 → a + 2 ≤ r.2 ∧ r.2 ≤ en ∧ out.length < r.1.1.length
  no : r.1.2.2 ≠ 0 → r.2 = a
  up : out.length ≤ r.1.1.length ∧ bg ≤ r.1.2.1
  cd : 0 ≤ r.1.2.2 ∧ r.1.2.2 ≤ 4
def NdOk (nd : List PT → Nat → Nat → Nat → NdR) (m : Nat) : Prop := ∀ out bg a en, bg ≤ 60 → a ≤ en → en ≤ m → NdG out bg a en (nd out bg a en)
structure LpG (out : List PT) (bg : Nat) (r : (List PT × Nat × Int) × List Int) : Prop where
  rel : r.1.1.length + bg ≤ r.1.2.1 + out.length
  top : r.1.2.1 ≤ 60
  up : out.length ≤ r.1.1.length ∧ bg ≤ r.1.2.1
  cd : 0 ≤ r.1.2.2 ∧ r.1.2.2 ≤ 4
theorem loop_good {nd : List PT → Nat → Nat → Nat → NdR} {m : Nat} (h : NdOk nd m) : ∀ (f : Nat) (out : List PT) (bg : Nat) (ks : List Int) (fr to : Nat), bg ≤ 60 → fr ≤ to → to ≤ m → LpG out bg (loopN nd f out bg ks fr to)
  | 0, out, bg, ks, fr, to, h1, h2, h3 => ⟨by simp only [loopN]; omega, h1, ⟨Nat.le_refl _, Nat.le_refl _⟩, by simp [loopN]⟩
  | f + 1, out, bg, ks, fr, to, h1, h2, h3 => by
    unfold loopN
    by_cases hlt : fr < to
    · rw [if_pos hlt]
      have g := h out bg fr to h1 h2 h3
      by_cases hc : (nd out bg fr to).1.2.2 = 0
      · rw [if_pos hc]
        have gk := g.ok hc
        have l := loop_good h f (nd out bg fr to).1.1 (nd out bg fr to).1.2.1 (ks ++ [(((nd out bg fr to).1.1.length : Nat) : Int) - 1]) (nd out bg fr to).2 to g.top gk.2.1 h3
        exact ⟨by have := l.rel; have := g.rel; omega, l.top, ⟨Nat.le_trans g.up.1 l.up.1, Nat.le_trans g.up.2 l.up.2⟩, l.cd⟩
      · rw [if_neg hc]
        exact ⟨g.rel, g.top, g.up, g.cd⟩
    · rw [if_neg hlt]
      exact ⟨by dsimp only; omega, h1, ⟨Nat.le_refl _, Nat.le_refl _⟩, by dsimp only; omega⟩
theorem step_good {s : ByteArray} {b : Bool} {nd : List PT → Nat → Nat → Nat → NdR} (h : NdOk nd s.size) : NdOk (stepN s b nd) s.size := by
  intro out bg a en h1 h2 h3
  unfold stepN
  split
  · exact ⟨by dsimp only; omega, h1, (fun e => by cases e), fun _ => rfl, ⟨Nat.le_refl _, Nat.le_refl _⟩, by dsimp only; omega⟩
  · split
    · exact ⟨by dsimp only; omega, by dsimp only; omega, (fun e => by cases e), fun _ => rfl, ⟨Nat.le_refl _, by dsimp only; omega⟩, by dsimp only; omega⟩
    · split
      · exact ⟨by dsimp only; omega, by dsimp only; omega, (fun e => by cases e), fun _ => rfl, ⟨Nat.le_refl _, by dsimp only; omega⟩, by dsimp only; omega⟩
      · split
        · exact ⟨by dsimp only; omega, by dsimp only; omega, (fun e => by cases e), fun _ => rfl, ⟨Nat.le_refl _, by dsimp only; omega⟩, by dsimp only; omega⟩
        · split
          · exact ⟨by dsimp only; omega, by dsimp only; omega, (fun e => by cases e), fun _ => rfl, ⟨Nat.le_refl _, by dsimp only; omega⟩, by dsimp only; omega⟩
          · rename_i hv
            have hv1 : 1 ≤ vrN s a en := by omega
            have hv2 : a + 1 + vrN s a en + lnN s a en ≤ en := by omega
            split
            · exact ⟨by dsimp only; rw [List.length_append, List.length_singleton]; omega, by dsimp only; omega, fun _ => ⟨by dsimp only; omega, hv2, by dsimp only; rw [List.length_append, List.length_singleton]; omega⟩, fun e => absurd rfl e, ⟨by dsimp only; rw [List.length_append]; omega, by dsimp only; omega⟩, by dsimp only; omega⟩
            · have l := loop_good h (lnN s a en) out (bg + 1) [] (a + 1 + vrN s a en) (a + 1 + vrN s a en + lnN s a en) (by omega) (by omega) (by omega)
              split
              · exact ⟨by dsimp only; rw [List.length_append, List.length_singleton]; have := l.rel; omega, l.top, fun _ => ⟨by dsimp only; omega, hv2, by dsimp only; rw [List.length_append, List.length_singleton]; have := l.up.1; omega⟩, fun e => absurd rfl e, ⟨by dsimp only; rw [List.length_append]; have := l.up.1; omega, by have := l.up.2; dsimp only; omega⟩, by dsimp only; omega⟩
              · rename_i hc
                exact ⟨by dsimp only; have := l.rel; omega, l.top, fun e => absurd e hc, fun _ => rfl, ⟨l.up.1, by dsimp only; have := l.up.2; omega⟩, l.cd⟩
theorem node_good (s : ByteArray) : ∀ f, NdOk (nodeN s f) s.size
  | 0 => by
    intro out bg a en h1 h2 h3
    unfold nodeN stepN
    split
    · exact ⟨by dsimp only; omega, h1, (fun e => by cases e), fun _ => rfl, ⟨Nat.le_refl _, Nat.le_refl _⟩, by dsimp only; omega⟩
    · split
      · exact ⟨by dsimp only; omega, by dsimp only; omega, (fun e => by cases e), fun _ => rfl, ⟨Nat.le_refl _, by dsimp only; omega⟩, by dsimp only; omega⟩
      · split
        · exact ⟨by dsimp only; omega, by dsimp only; omega, (fun e => by cases e), fun _ => rfl, ⟨Nat.le_refl _, by dsimp only; omega⟩, by dsimp only; omega⟩
        · rw [if_pos rfl]
          exact ⟨by dsimp only; omega, by dsimp only; omega, (fun e => by cases e), fun _ => rfl, ⟨Nat.le_refl _, by dsimp only; omega⟩, by dsimp only; omega⟩
  | f + 1 => step_good (node_good s f)
end Go.Proofs.YtengggpobhibcaaDoor.Nd
