/- The parts of a list: the program and the model, one contract each. -/
import Derived.Test.YtcaieniddnhkbaaNums
import Derived.RegionCalls
set_option linter.unusedVariables false
namespace Go.Proofs.Ytcaieniddnhkbaa
open Go.RowKit Own Var Term

/-- So many terms, one behind the other. -/
def psL : Nat → ByteArray → List ByteArray
  | 0, _ => []
  | n + 1, r => match bh 8 r with
    | some r' => r.extract 0 (r.size - r'.size) :: psL n r'
    | none => []
theorem psL_succ {n : Nat} {r r' : ByteArray} (h : bh 8 r = some r') : psL (n + 1) r = r.extract 0 (r.size - r'.size) :: psL n r' := by rw [psL, h]
theorem rep_succ {g : ByteArray → Option ByteArray} {n : Nat} {r E : ByteArray} (h : rep g (n + 1) r = some E) : ∃ r', g r = some r' ∧ rep g n r' = some E := by
  rw [rep] at h
  cases hg : g r with
  | none => rw [hg] at h; simp at h
  | some r' => rw [hg] at h; exact ⟨r', rfl, h⟩
theorem psL_len (n : Nat) : ∀ r E, rep (bh 7) n r = some E → (psL n r).length = n := by
  induction n with
  | zero => intro r E _; rfl
  | succ n ih =>
    intro r E h
    obtain ⟨r', h1, h2⟩ := rep_succ h
    rw [psL_succ (bh_mono 7 r r' h1), List.length_cons, ih r' E h2]
/-- A list's head: as many parts as it says. -/
theorem rk_list {s r : ByteArray} {n : Nat} (h : rk s 108 = some (n, r)) : n ≤ 12 ∧ ∃ E, rep (bh 7) n r = some E := by
  obtain ⟨hT, _, hk, hc, _, _⟩ := rk_facts h
  obtain ⟨_, E, hb, _⟩ := (isT_iff s).1 hT
  rw [bh_some hc, if_neg (by omega), if_pos hk] at hb
  refine ⟨?_, E, hb⟩
  unfold cut at hc
  split at hc
  · rename_i c
    simp only [Option.some.injEq, Prod.mk.injEq] at hc
    have h3 := c.2.2
    rw [hc.1, hk] at h3
    simpa [hdOk] using h3
  · simp at hc
/-- What Parts tells. -/
def partsR (s : ByteArray) : List ByteArray × Bool := match rk s 108 with
  | some (n, r) => (psL n r, true)
  | none => ([], false)
/-- The cells of a row that is not yet full. -/
def rowP (done : List ByteArray) (n : Nat) : List Value := done.map Value.string ++ (madeCells #[Value.string ⟨#[]⟩] n).toList.drop done.length
theorem rowP_zero (n : Nat) : rowP [] n = (madeCells #[Value.string ⟨#[]⟩] n).toList := rfl
theorem rowP_len (done : List ByteArray) (n : Nat) (h : done.length ≤ n) : (rowP done n).length = n := by
  unfold rowP; rw [List.length_append, List.length_map, List.length_drop]; simp [size_madeCells]; omega
theorem rowP_set (done : List ByteArray) (n : Nat) (x : ByteArray) (h : done.length < n) : (rowP done n).set done.length (.string x) = rowP (done ++ [x]) n := by
  unfold rowP
  have hlm : (madeCells #[Value.string ⟨#[]⟩] n).toList.length = n := by simp [size_madeCells]
  rw [List.set_append_right _ _ (by simp), List.length_map, Nat.sub_self, List.drop_eq_getElem_cons (by omega), List.map_append, List.append_assoc, List.length_append]
  rfl
theorem rowP_full (done : List ByteArray) (n : Nat) (h : done.length = n) : rowP done n = done.map Value.string := by
  unfold rowP
  rw [List.drop_of_length_le (by simp [size_madeCells]; omega), List.append_nil]
theorem extract_list (s : ByteArray) (i j : Nat) : (s.extract i j).data.toList = (s.data.toList.drop i).take (j - i) := by simp [ByteArray.data_extract, List.extract]
theorem ext_size (r : ByteArray) (k : Nat) : (r.extract 0 k).size ≤ r.size := by simp [ByteArray.size_extract]; omega

/-- The cells of texts. -/
def strV (xs : List ByteArray) : List Value := xs.map Value.string
end Go.Proofs.Ytcaieniddnhkbaa
