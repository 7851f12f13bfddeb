/- What is read is small. -/
import Derived.Test.YtengggpobhibcaaDoorTd3
set_option linter.unusedVariables false
set_option maxRecDepth 100000
namespace Go.Proofs.YtengggpobhibcaaDoor.Nd
open Go Go.RowKit Go.Joins Own Draw Var

def Small (m : Nat) (p : PT) : Prop := p.2.2.1.size ≤ m ∧ p.2.2.2.length ≤ 60
def NdS (nd : List PT → Nat → Nat → Nat → NdR) (m : Nat) : Prop := ∀ out bg a en, bg ≤ 60 → out.length ≤ bg → a ≤ en → en ≤ m → (∀ p ∈ out, Small m p) → ∀ p ∈ (nd out bg a en).1.1, Small m p
theorem loop_small {nd : List PT → Nat → Nat → Nat → NdR} {m : Nat} (h : NdOk nd m) (hs : NdS nd m) : ∀ (f : Nat) (out : List PT) (bg : Nat) (ks : List Int) (fr to : Nat), bg ≤ 60 → out.length ≤ bg → fr ≤ to → to ≤ m → (∀ p ∈ out, Small m p) →
    (∀ p ∈ (loopN nd f out bg ks fr to).1.1, Small m p) ∧ (loopN nd f out bg ks fr to).2.length + out.length ≤ ks.length + (loopN nd f out bg ks fr to).1.1.length
  | 0, out, bg, ks, fr, to, h1, h2, h3, h4, h5 => ⟨h5, by simp only [loopN]; omega⟩
  | f + 1, out, bg, ks, fr, to, h1, h2, h3, h4, h5 => by
    unfold loopN
    by_cases hlt : fr < to
    · rw [if_pos hlt]
      have g := h out bg fr to h1 h3 h4
      have gs := hs out bg fr to h1 h2 h3 h4 h5
      by_cases hc : (nd out bg fr to).1.2.2 = 0
      · rw [if_pos hc]
        have gk := g.ok hc
        have l := loop_small h hs f (nd out bg fr to).1.1 (nd out bg fr to).1.2.1 (ks ++ [(((nd out bg fr to).1.1.length : Nat) : Int) - 1]) (nd out bg fr to).2 to g.top (by have := g.rel; omega) gk.2.1 h4 gs
        refine ⟨l.1, ?_⟩
        have := l.2
        rw [List.length_append, List.length_singleton] at this
        omega
      · rw [if_neg hc]
        exact ⟨gs, by have := g.up.1; dsimp only; omega⟩
    · rw [if_neg hlt]
      exact ⟨h5, by dsimp only; omega⟩
theorem step_small {s : ByteArray} {b : Bool} {nd : List PT → Nat → Nat → Nat → NdR} (h : NdOk nd s.size) (hs : NdS nd s.size) : NdS (stepN s b nd) s.size := by
  intro out bg a en h1 h2 h3 h4 h5
  unfold stepN
  split
  · exact h5
  · split
    · exact h5
    · split
      · exact h5
      · split
        · exact h5
        · split
          · exact h5
          · rename_i hv
            split
            · intro p hp
              rcases List.mem_append.1 hp with hp | hp
              · exact h5 p hp
              · rw [List.mem_singleton] at hp
                subst hp
                exact ⟨by dsimp only; rw [ByteArray.size_extract]; omega, by simp⟩
            · have l := loop_good h (lnN s a en) out (bg + 1) [] (a + 1 + vrN s a en) (a + 1 + vrN s a en + lnN s a en) (by omega) (by omega) (by omega)
              have ls := loop_small h hs (lnN s a en) out (bg + 1) [] (a + 1 + vrN s a en) (a + 1 + vrN s a en + lnN s a en) (by omega) (by omega) (by omega) (by omega) h5
              split
              · intro p hp
                rcases List.mem_append.1 hp with hp | hp
                · exact ls.1 p hp
                · rw [List.mem_singleton] at hp
                  subst hp
                  refine ⟨Nat.zero_le _, ?_⟩
                  have h6 := ls.2
                  have h7 := l.rel
                  have h8 := l.top
                  simp only [List.length_nil] at h6
                  dsimp only
                  omega
              · exact ls.1
theorem node_small (s : ByteArray) : ∀ f, NdS (nodeN s f) s.size
  | 0 => by
    intro out bg a en h1 h2 h3 h4 h5
    unfold nodeN stepN
    split
    · exact h5
    · split
      · exact h5
      · split
        · exact h5
        · rw [if_pos rfl]; exact h5
  | f + 1 => step_small (node_good s f) (node_small s f)
theorem rd_small (s : ByteArray) : (rdT s).1.length ≤ 60 ∧ ∀ p ∈ (rdT s).1, Small 900 p := by
  unfold rdT
  split
  · exact ⟨Nat.zero_le _, fun p hp => by cases hp⟩
  · rename_i h9
    split
    · exact ⟨Nat.zero_le _, fun p hp => by cases hp⟩
    · split
      · exact ⟨Nat.zero_le _, fun p hp => by cases hp⟩
      · have g := node_good s 8 [] 0 0 s.size (by omega) (Nat.zero_le _) (Nat.le_refl _)
        have gs := node_small s 8 [] 0 0 s.size (by omega) (Nat.le_refl _) (Nat.zero_le _) (Nat.le_refl _) (fun p hp => by cases hp)
        refine ⟨by have := g.rel; have := g.top; simp only [List.length_nil] at *; (try dsimp only); omega, fun p hp => ⟨Nat.le_trans (gs p hp).1 (by omega), (gs p hp).2⟩⟩
theorem sum_small {α : Type} (f : α → Nat) (m : Nat) : ∀ (xs : List α), (∀ x ∈ xs, f x ≤ m) → (xs.map f).sum ≤ xs.length * m
  | [], _ => by simp
  | x :: xs, h => by
    have := sum_small f m xs (fun y hy => h y (List.mem_cons_of_mem _ hy))
    have h1 := h x (List.mem_cons_self ..)
    rw [List.map_cons, List.sum_cons, List.length_cons, Nat.succ_mul]
    omega
theorem rt_small {q : Rw TT} (h1 : (rsT q).length ≤ 60) (h2 : ∀ p ∈ rsT q, Small 900 p) : rtT q ≤ 1048576 ∧ q.2.2.length ≤ 60 ∧ ∀ x ∈ q.2.2, x.2.2.2.2.2.length ≤ 60 := by
  have hl : q.2.2.length ≤ 60 := by simpa [rsT] using h1
  have hx : ∀ x ∈ q.2.2, x.2.2.1.size ≤ 900 ∧ x.2.2.2.2.2.length ≤ 60 := fun x hx => h2 (stT x) (List.mem_map_of_mem hx)
  refine ⟨?_, hl, fun x h => (hx x h).2⟩
  have hs := sum_small totT 960 q.2.2 (fun x h => by have := hx x h; unfold totT rtI; omega)
  have : q.2.2.length * 960 ≤ 60 * 960 := Nat.mul_le_mul_right _ hl
  unfold rtT
  omega
end Go.Proofs.YtengggpobhibcaaDoor.Nd
