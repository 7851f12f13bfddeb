/- A message shown by the model is not too long. -/
import Derived.Test.YtengggpobhibcaaSh3
set_option linter.unusedVariables false
set_option maxRecDepth 100000
namespace Go.Proofs.Ytengggpobhibcaa.Nd
open Go Go.RowKit Go.Joins Own Draw Var

def ndN (m : List PT) (i : Nat) : PT := m.getD i (0, false, ⟨#[]⟩, [])
theorem ndN_eq {m : List PT} {i : Nat} (h : i < m.length) : m[i]? = some (ndN m i) := by unfold ndN; rw [List.getD_eq_getElem?_getD, List.getElem?_eq_getElem h]; rfl
def kiN (m : List PT) (i : Nat) : List Nat := (ndN m i).2.2.2.map Int.toNat
def kdN (m : List PT) (n : Nat) : List Nat := ((List.range n).map (kiN m)).flatten
theorem kdN_succ (m : List PT) (n : Nat) : kdN m (n + 1) = kdN m n ++ kiN m n := by unfold kdN; rw [List.range_succ, List.map_append, List.flatten_append]; simp
theorem kdN_le (m : List PT) (j : Nat) : ∀ (n d : Nat), (kdN m n).count j ≤ (kdN m (n + d)).count j
  | n, 0 => Nat.le_refl _
  | n, d + 1 => by rw [show n + (d + 1) = (n + d) + 1 by omega, kdN_succ, List.count_append]; have := kdN_le m j n d; omega
def szN (m : List PT) (i : Nat) : Nat := (shT m i).size
def smN (m : List PT) (n : Nat) : Nat := ((List.range n).map (szN m)).sum
theorem smN_succ (m : List PT) (n : Nat) : smN m (n + 1) = smN m n + szN m n := by unfold smN; rw [List.range_succ, List.map_append, List.sum_append]; simp
def daN (m : List PT) (n : Nat) : Nat := ((List.range n).map (fun i => 8 + (ndN m i).2.2.1.size)).sum
theorem daN_succ (m : List PT) (n : Nat) : daN m (n + 1) = daN m n + (8 + (ndN m n).2.2.1.size) := by unfold daN; rw [List.range_succ, List.map_append, List.sum_append]; simp
theorem kids_sum (m : List PT) (i : Nat) : (((ndN m i).2.2.2.map (fun k => shT m k.toNat)).map ByteArray.size).sum = ((kiN m i).map (szN m)).sum := by
  unfold kiN
  rw [List.map_map, List.map_map]
  rfl
theorem small_all {m : List PT} (hK : KdB m) (hc : ∀ j, j + 1 < m.length → (kdN m m.length).count j ≤ 1) (hl : m.length ≤ 60) {C : Nat} (hC : C ≤ 100000000) (hd : ∀ n, n ≤ m.length → daN m n ≤ C) :
    ∀ n, n ≤ m.length → smN m n ≤ daN m n + ((kdN m n).map (szN m)).sum ∧ smN m n ≤ n * C ∧ ∀ i, i < n → ((kiN m i).map (szN m)).sum ≤ 60 * C
  | 0, _ => ⟨Nat.zero_le _, Nat.zero_le _, fun i h => by omega⟩
  | n + 1, h => by
    obtain ⟨a1, a2, a3⟩ := small_all hK hc hl hC hd n (by omega)
    have hx := ndN_eq (m := m) (i := n) (by omega)
    have hks : ∀ k ∈ kiN m n, k < n := by
      intro k hk
      unfold kiN at hk
      obtain ⟨v, hv, rfl⟩ := List.mem_map.1 hk
      have := hK n _ hx v hv
      omega
    have hkl : ∀ k ∈ kdN m (n + 1), k < n := by
      intro k hk
      unfold kdN at hk
      obtain ⟨l, hl1, hl2⟩ := List.mem_flatten.1 hk
      obtain ⟨i, hi, rfl⟩ := List.mem_map.1 hl1
      have hi2 := List.mem_range.1 hi
      unfold kiN at hl2
      obtain ⟨v, hv, rfl⟩ := List.mem_map.1 hl2
      have := hK i _ (ndN_eq (by omega)) v hv
      omega
    have hc1 : ∀ j, j < n → (kdN m (n + 1)).count j ≤ 1 := by
      intro j hj
      have h1 := kdN_le m j (n + 1) (m.length - (n + 1))
      rw [show n + 1 + (m.length - (n + 1)) = m.length by omega] at h1
      have := hc j (by omega)
      omega
    have hki : ((kiN m n).map (szN m)).sum ≤ smN m n := sum_once (szN m) n _ hks (fun j hj => by
      have := hc1 j hj
      rw [kdN_succ, List.count_append] at this
      omega)
    have hall : ((kdN m (n + 1)).map (szN m)).sum ≤ smN m n := sum_once (szN m) n _ hkl hc1
    have hnC : n * C ≤ 60 * C := Nat.mul_le_mul_right _ (by omega)
    have hsz : szN m n ≤ 8 + (ndN m n).2.2.1.size + ((kiN m n).map (szN m)).sum := by
      show (shT m n).size ≤ _
      rw [shT_eq hK hx, txS_size]
      have hin : (if (ndN m n).2.1 = true then (ndN m n).2.2.1 else caS ((ndN m n).2.2.2.map (fun k => shT m k.toNat))).size ≤ (ndN m n).2.2.1.size + ((kiN m n).map (szN m)).sum := by
        split
        · omega
        · unfold caS
          rw [caS_size, kids_sum]
          show 0 + _ ≤ _
          omega
      have hdn := hd (n + 1) h
      rw [daN_succ] at hdn
      have := varB_seven (if (ndN m n).2.1 = true then (ndN m n).2.2.1 else caS ((ndN m n).2.2.2.map (fun k => shT m k.toNat))).size (by omega)
      omega
    have hdn := hd (n + 1) h
    have b1 : smN m (n + 1) ≤ daN m (n + 1) + ((kdN m (n + 1)).map (szN m)).sum := by
      rw [smN_succ, daN_succ, kdN_succ, List.map_append, List.sum_append]
      omega
    refine ⟨b1, ?_, fun i hi => ?_⟩
    · rw [Nat.add_mul, Nat.one_mul]; omega
    · rcases Nat.lt_or_ge i n with h1 | h1
      · exact a3 i h1
      · have e : i = n := by omega
        subst e
        omega
end Go.Proofs.Ytengggpobhibcaa.Nd
