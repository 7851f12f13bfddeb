/- A message shown by the model: the text, how long it is, and the stack. -/
import Derived.Test.YtengggpobhibcaaSh2
set_option linter.unusedVariables false
set_option maxRecDepth 100000
namespace Go.Proofs.Ytengggpobhibcaa.Nd
open Go Go.RowKit Go.Joins Own Draw Var

def caS (ts : List ByteArray) : ByteArray := ts.foldl (fun a t => a ++ t) ⟨#[]⟩
/-- What l14Show says. -/
def shF (m : List PT) : Nat → Nat → ByteArray
  | 0, _ => ⟨#[]⟩
  | f + 1, i => match m[i]? with
    | none => ⟨#[]⟩
    | some x => txS x (if x.2.1 = true then x.2.2.1 else caS (x.2.2.2.map (fun k => shF m f k.toNat)))
/-- Kids stand ahead. -/
def KdB (m : List PT) : Prop := ∀ (i : Nat) (x : PT), m[i]? = some x → ∀ k ∈ x.2.2.2, 0 ≤ k ∧ k < (i : Int)
theorem shF_same {m : List PT} (hK : KdB m) : ∀ (f g i : Nat), i < f → i < g → shF m f i = shF m g i
  | 0, g, i, h1, h2 => by omega
  | f + 1, 0, i, h1, h2 => by omega
  | f + 1, g + 1, i, h1, h2 => by
    unfold shF
    cases hx : m[i]? with
    | none => rfl
    | some x =>
      dsimp only
      have : x.2.2.2.map (fun k => shF m f k.toNat) = x.2.2.2.map (fun k => shF m g k.toNat) := by
        apply List.map_congr_left
        intro k hk
        have := hK i x hx k hk
        exact shF_same hK f g k.toNat (by omega) (by omega)
      rw [this]
def shT (m : List PT) (i : Nat) : ByteArray := shF m (i + 1) i
theorem shT_eq {m : List PT} (hK : KdB m) {i : Nat} {x : PT} (hx : m[i]? = some x) : shT m i = txS x (if x.2.1 = true then x.2.2.1 else caS (x.2.2.2.map (fun k => shT m k.toNat))) := by
  unfold shT
  rw [shF, hx]
  dsimp only
  have : x.2.2.2.map (fun k => shF m i k.toNat) = x.2.2.2.map (fun k => shF m (k.toNat + 1) k.toNat) := by
    apply List.map_congr_left
    intro k hk
    have := hK i x hx k hk
    exact shF_same hK i (k.toNat + 1) k.toNat (by omega) (by omega)
  rw [this]
theorem caS_size : ∀ (ts : List ByteArray) (d : ByteArray), (ts.foldl (fun a t => a ++ t) d).size = d.size + (ts.map ByteArray.size).sum
  | [], d => by simp
  | t :: ts, d => by rw [List.foldl_cons, caS_size ts, ByteArray.size_append, List.map_cons, List.sum_cons]; omega
theorem caS_snoc (ts : List ByteArray) (t : ByteArray) : caS (ts ++ [t]) = caS ts ++ t := by unfold caS; rw [List.foldl_append]; rfl
theorem txS_size (x : PT) (t : ByteArray) : (txS x t).size = 1 + (varB t.size).length + t.size := by
  unfold txS
  rw [ByteArray.size_append, ByteArray.size_append, vaS_size]
  rfl
theorem sum_ind (g : Nat → Nat) (k : Nat) : ∀ n, ((List.range n).map (fun j => if j = k then g j else 0)).sum = if k < n then g k else 0
  | 0 => by simp
  | n + 1 => by
    rw [List.range_succ, List.map_append, List.sum_append, sum_ind g k n]
    simp only [List.map_cons, List.map_nil, List.sum_cons, List.sum_nil]
    by_cases h1 : k < n
    · rw [if_pos h1, if_neg (by omega), if_pos (by omega)]; omega
    · by_cases h2 : n = k
      · subst h2
        rw [if_neg h1, if_pos rfl, if_pos (by omega)]; omega
      · rw [if_neg h1, if_neg h2, if_neg (by omega)]; rfl
theorem sum_add (f g : Nat → Nat) : ∀ (l : List Nat), (l.map (fun j => f j + g j)).sum = (l.map f).sum + (l.map g).sum
  | [] => rfl
  | x :: l => by simp only [List.map_cons, List.sum_cons]; rw [sum_add f g l]; omega
theorem sum_le {f g : Nat → Nat} : ∀ (l : List Nat), (∀ j ∈ l, f j ≤ g j) → (l.map f).sum ≤ (l.map g).sum
  | [], _ => Nat.le_refl _
  | x :: l, h => by
    simp only [List.map_cons, List.sum_cons]
    have := h x (by simp)
    have := sum_le l (fun j hj => h j (by simp [hj]))
    omega
theorem sum_zero : ∀ n, ((List.range n).map (fun _ => 0)).sum = 0
  | 0 => rfl
  | n + 1 => by rw [List.range_succ, List.map_append, List.sum_append, sum_zero n]; rfl
/-- What stands in a row without a number twice is no more than all there is. -/
theorem sum_count (g : Nat → Nat) (n : Nat) : ∀ (K : List Nat), (∀ k ∈ K, k < n) → (K.map g).sum = ((List.range n).map (fun j => K.count j * g j)).sum
  | [], _ => by
    simp only [List.map_nil, List.sum_nil, List.count_nil, Nat.zero_mul]
    exact (sum_zero n).symm
  | k :: K, h => by
    have hk := h k (by simp)
    rw [List.map_cons, List.sum_cons, sum_count g n K (fun x hx => h x (by simp [hx]))]
    have e : (fun j => (k :: K).count j * g j) = (fun j => K.count j * g j + (if j = k then g j else 0)) := by
      funext j
      rw [List.count_cons]
      by_cases hj : j = k
      · subst hj
        rw [if_pos (by simp), if_pos rfl, Nat.add_mul, Nat.one_mul]
      · rw [if_neg (by simp; omega), if_neg hj, Nat.add_zero, Nat.add_zero]
    rw [e, sum_add, sum_ind, if_pos hk]
    omega
theorem sum_once (g : Nat → Nat) (n : Nat) (K : List Nat) (h : ∀ k ∈ K, k < n) (h1 : ∀ j, j < n → K.count j ≤ 1) : (K.map g).sum ≤ ((List.range n).map g).sum := by
  rw [sum_count g n K h]
  exact sum_le _ (fun j hj => by
    have := h1 j (List.mem_range.1 hj)
    have h2 : K.count j * g j ≤ 1 * g j := Nat.mul_le_mul_right _ this
    omega)
end Go.Proofs.Ytengggpobhibcaa.Nd
