/- A message shown by the model: the text, how long it is, and the stack. -/
import Derived.Test.YtengggpobhibcaaDoorSh0
set_option linter.unusedVariables false
set_option maxRecDepth 100000
namespace Go.Proofs.YtengggpobhibcaaDoor.Nd
open Go Go.RowKit Go.Joins Own Draw Var

def caS (ts : List ByteArray) : ByteArray := ts.foldl (fun a t => a ++ t) ⟨#[]⟩
/-- What l14Show says. -/
def shF (m : List PT) : Nat → Nat → ByteArray
  | 0, _ => ⟨#[]⟩
  | f + 1, i => match m[i]? with
    | none => ⟨#[]⟩
    | some x => txS x (if x.2.1 = true then x.2.2.1 else caS (x.2.2.2.map (fun k => shF m f k.toNat)))
/-- Kids stand ahead. -/
def KdB (m : List PT) : Prop := ∀ (i : Nat) (x : PT), m[i]? = some x → ∀ k ∈ x.2.2.2, 0 ≤ k ∧ k < (i : Int)
theorem shF_same {m : List PT} (hK : KdB m) : ∀ (f g i : Nat), i < f → i < g → shF m f i = shF m g i
  | 0, g, i, h1, h2 => by omega
  | f + 1, 0, i, h1, h2 => by omega
  | f + 1, g + 1, i, h1, h2 => by
    unfold shF
    cases hx : m[i]? with
    | none => rfl
    | some x =>
      dsimp only
      have : x.2.2.2.map (fun k => shF m f k.toNat) = x.2.2.2.map (fun k => shF m g k.toNat) := by
        apply List.map_congr_left
        intro k hk
        have := hK i x hx k hk
        exact shF_same hK f g k.toNat (by omega) (by omega)
      rw [this]
def shT (m : List PT) (i : Nat) : ByteArray := shF m (i + 1) i
theorem shT_eq {m : List PT} (hK : KdB m) {i : Nat} {x : PT} (hx : m[i]? = some x) : shT m i = txS x (if x.2.1 = true then x.2.2.1 else caS (x.2.2.2.map (fun k => shT m k.toNat))) := by
  unfold shT
  rw [shF, hx]
  dsimp only
  have : x.2.2.2.map (fun k => shF m i k.toNat) = x.2.2.2.map (fun k => shF m (k.toNat + 1) k.toNat) := by
    apply List.map_congr_left
    intro k hk
    have := hK i x hx k hk
    exact shF_same hK i (k.toNat + 1) k.toNat (by omega) (by omega)
  rw [this]
theorem caS_size : ∀ (ts : List ByteArray) (d : ByteArray), (ts.foldl (fun a t => a ++ t) d).size = d.size + (ts.map ByteArray.size).sum
  | [], d => by simp
  | t :: ts, d => by rw [List.foldl_cons, caS_size ts, ByteArray.size_append, List.map_cons, List.sum_cons]; omega
theorem caS_snoc (ts : List ByteArray) (t : ByteArray) : caS (ts ++ [t]) = caS ts ++ t := by unfold caS; rw [List.foldl_append]; rfl
theorem txS_size (x : PT) (t : ByteArray) : (txS x t).size = 1 + (varB t.size).length + t.size := by
  unfold txS
  rw [ByteArray.size_append, ByteArray.size_append, vaS_size]
  rfl
theorem sum_ind (g : Nat → Nat) (k : Nat) : ∀ n, ((List.range n).map (fun j => if j = k then g j else 0)).sum = if k < n then g k else 0
  | 0 => by simp
  | n + 1 => by
    rw [List.range_succ, List.map_append, List.sum_append, sum_ind g k n]
    simp only [List.map_cons, List.map_nil, List.sum_cons, List.sum_nil]
    by_cases h1 : k < n
    · rw [if_pos h1, if_neg (by omega), if_pos (by omega)]; omega
    · by_cases h2 : n = k
      · subst h2
        rw [if_neg h1, if_pos rfl, if_pos (by omega)]; omega
      · rw [if_neg h1, if_neg h2, if_neg (by omega)]; rfl
theorem sum_add (f g : Nat → Nat) : ∀ (l : List Nat), (l.map (fun j => f j + g j)).sum = (l.map f).sum + (l.map g).sum
  | [] => rfl
  | x :: l => by simp only [List.map_cons, List.sum_cons]; rw [sum_add f g l]; omega
theorem sum_le {f g : Nat → Nat} : ∀ (l : List Nat), (∀ j ∈ l, f j ≤ g j) → (l.map f).sum ≤ (l.map g).sum
  | [], _ => Nat.le_refl _
  | x :: l, h => by
    simp only [List.map_cons, List.sum_cons]
    have := h x (by simp)
    have := sum_le l (fun j hj => h j (by simp [hj]))
    omega
theorem sum_zero : ∀ n, ((List.range n).map (fun _ => 0)).sum = 0
  | 0 => rfl
  | n + 1 => by rw [List.range_succ, List.map_append, List.sum_append, sum_zero n]; rfl
/-- What stands in a row without a number twice is no more than all there is. -/
theorem sum_count (g : Nat → Nat) (n : Nat) : ∀ (K : List Nat), (∀ k ∈ K, k < n) → (K.map g).sum = ((List.range n).map (fun j => K.count j * g j)).sum
  | [], _ => by
    simp only [List.map_nil, List.sum_nil, List.count_nil, Nat.zero_mul]
    exact (sum_zero n).symm
  | k :: K, h => by
    have hk := h k (by simp)
    rw [List.map_cons, List.sum_cons, sum_count g n K (fun x hx => h x (by simp [hx]))]
    have e : (fun j => (k :: K).count j * g j) = (fun j => K.count j * g j + (if j = k then g j else 0)) := by
      funext j
      rw [List.count_cons]
      by_cases hj : j = k
      · subst hj
        rw [if_pos (by simp), if_pos rfl, Nat.add_mul, Nat.one_mul]
      · rw [if_neg (by simp; omega), if_neg hj, Nat.add_zero, Nat.add_zero]
    rw [e, sum_add, sum_ind, if_pos hk]
    omega
theorem sum_once (g : Nat → Nat) (n : Nat) (K : List Nat) (h : ∀ k ∈ K, k < n) (h1 : ∀ j, j < n → K.count j ≤ 1) : (K.map g).sum ≤ ((List.range n).map g).sum := by
  rw [sum_count g n K h]
  exact sum_le _ (fun j hj => by
    have := h1 j (List.mem_range.1 hj)
    have h2 : K.count j * g j ≤ 1 * g j := Nat.mul_le_mul_right _ this
    omega)
end Go.Proofs.YtengggpobhibcaaDoor.Nd

set_option linter.unusedVariables false
set_option maxRecDepth 100000
namespace Go.Proofs.YtengggpobhibcaaDoor.Nd
open Go Go.RowKit Go.Joins Own Draw Var

def ndN (m : List PT) (i : Nat) : PT := m.getD i (0, false, ⟨#[]⟩, [])
theorem ndN_eq {m : List PT} {i : Nat} (h : i < m.length) : m[i]? = some (ndN m i) := by unfold ndN; rw [List.getD_eq_getElem?_getD, List.getElem?_eq_getElem h]; rfl
def kiN (m : List PT) (i : Nat) : List Nat := (ndN m i).2.2.2.map Int.toNat
def kdN (m : List PT) (n : Nat) : List Nat := ((List.range n).map (kiN m)).flatten
theorem kdN_succ (m : List PT) (n : Nat) : kdN m (n + 1) = kdN m n ++ kiN m n := by unfold kdN; rw [List.range_succ, List.map_append, List.flatten_append]; simp
theorem kdN_le (m : List PT) (j : Nat) : ∀ (n d : Nat), (kdN m n).count j ≤ (kdN m (n + d)).count j
  | n, 0 => Nat.le_refl _
  | n, d + 1 => by rw [show n + (d + 1) = (n + d) + 1 by omega, kdN_succ, List.count_append]; have := kdN_le m j n d; omega
def szN (m : List PT) (i : Nat) : Nat := (shT m i).size
def smN (m : List PT) (n : Nat) : Nat := ((List.range n).map (szN m)).sum
theorem smN_succ (m : List PT) (n : Nat) : smN m (n + 1) = smN m n + szN m n := by unfold smN; rw [List.range_succ, List.map_append, List.sum_append]; simp
def daN (m : List PT) (n : Nat) : Nat := ((List.range n).map (fun i => 8 + (ndN m i).2.2.1.size)).sum
theorem daN_succ (m : List PT) (n : Nat) : daN m (n + 1) = daN m n + (8 + (ndN m n).2.2.1.size) := by unfold daN; rw [List.range_succ, List.map_append, List.sum_append]; simp
theorem kids_sum (m : List PT) (i : Nat) : (((ndN m i).2.2.2.map (fun k => shT m k.toNat)).map ByteArray.size).sum = ((kiN m i).map (szN m)).sum := by
  unfold kiN
  rw [List.map_map, List.map_map]
  rfl
theorem small_all {m : List PT} (hK : KdB m) (hc : ∀ j, j + 1 < m.length → (kdN m m.length).count j ≤ 1) (hl : m.length ≤ 60) {C : Nat} (hC : C ≤ 100000000) (hd : ∀ n, n ≤ m.length → daN m n ≤ C) :
    ∀ n, n ≤ m.length → smN m n ≤ daN m n + ((kdN m n).map (szN m)).sum ∧ smN m n ≤ n * C ∧ ∀ i, i < n → ((kiN m i).map (szN m)).sum ≤ 60 * C
  | 0, _ => ⟨Nat.zero_le _, Nat.zero_le _, fun i h => by omega⟩
  | n + 1, h => by
    obtain ⟨a1, a2, a3⟩ := small_all hK hc hl hC hd n (by omega)
    have hx := ndN_eq (m := m) (i := n) (by omega)
    have hks : ∀ k ∈ kiN m n, k < n := by
      intro k hk
      unfold kiN at hk
      obtain ⟨v, hv, rfl⟩ := List.mem_map.1 hk
      have := hK n _ hx v hv
      omega
    have hkl : ∀ k ∈ kdN m (n + 1), k < n := by
      intro k hk
      unfold kdN at hk
      obtain ⟨l, hl1, hl2⟩ := List.mem_flatten.1 hk
      obtain ⟨i, hi, rfl⟩ := List.mem_map.1 hl1
      have hi2 := List.mem_range.1 hi
      unfold kiN at hl2
      obtain ⟨v, hv, rfl⟩ := List.mem_map.1 hl2
      have := hK i _ (ndN_eq (by omega)) v hv
      omega
    have hc1 : ∀ j, j < n → (kdN m (n + 1)).count j ≤ 1 := by
      intro j hj
      have h1 := kdN_le m j (n + 1) (m.length - (n + 1))
      rw [show n + 1 + (m.length - (n + 1)) = m.length by omega] at h1
      have := hc j (by omega)
      omega
    have hki : ((kiN m n).map (szN m)).sum ≤ smN m n := sum_once (szN m) n _ hks (fun j hj => by
      have := hc1 j hj
      rw [kdN_succ, List.count_append] at this
      omega)
    have hall : ((kdN m (n + 1)).map (szN m)).sum ≤ smN m n := sum_once (szN m) n _ hkl hc1
    have hnC : n * C ≤ 60 * C := Nat.mul_le_mul_right _ (by omega)
    have hsz : szN m n ≤ 8 + (ndN m n).2.2.1.size + ((kiN m n).map (szN m)).sum := by
      show (shT m n).size ≤ _
      rw [shT_eq hK hx, txS_size]
      have hin : (if (ndN m n).2.1 = true then (ndN m n).2.2.1 else caS ((ndN m n).2.2.2.map (fun k => shT m k.toNat))).size ≤ (ndN m n).2.2.1.size + ((kiN m n).map (szN m)).sum := by
        split
        · omega
        · unfold caS
          rw [caS_size, kids_sum]
          show 0 + _ ≤ _
          omega
      have hdn := hd (n + 1) h
      rw [daN_succ] at hdn
      have := varB_seven (if (ndN m n).2.1 = true then (ndN m n).2.2.1 else caS ((ndN m n).2.2.2.map (fun k => shT m k.toNat))).size (by omega)
      omega
    have hdn := hd (n + 1) h
    have b1 : smN m (n + 1) ≤ daN m (n + 1) + ((kdN m (n + 1)).map (szN m)).sum := by
      rw [smN_succ, daN_succ, kdN_succ, List.map_append, List.sum_append]
      omega
    refine ⟨b1, ?_, fun i hi => ?_⟩
    · rw [Nat.add_mul, Nat.one_mul]; omega
    · rcases Nat.lt_or_ge i n with h1 | h1
      · exact a3 i h1
      · have e : i = n := by omega
        subst e
        omega
end Go.Proofs.YtengggpobhibcaaDoor.Nd

set_option linter.unusedVariables false
set_option maxRecDepth 100000
namespace Go.Proofs.YtengggpobhibcaaDoor.Nd
open Go Go.RowKit Go.Joins Own Draw Var

/-- What the stack keeps: each number once, as a Kid so far or on it; Kids ahead; right ones; texts. -/
structure StK (m : List PT) (i : Nat) (st : List En) : Prop where
  kd : ∀ j, j < i → ∀ k ∈ (ndN m j).2.2.2, 0 ≤ k ∧ k < (j : Int)
  ri : ∀ j, j < i → riS (ndN m j)
  ct : ∀ v, (kdN m i).count v + (st.map (·.1)).count v = if v < i then 1 else 0
  tx : KdB m → ∀ e ∈ st, shT m e.1 = e.2.1
  lt : ∀ e ∈ st, e.1 < i
theorem map_toNat (es : List En) : (es.map (fun e => (e.1 : Int))).map Int.toNat = es.map (·.1) := by
  rw [List.map_map]
  apply List.map_congr_left
  intro e _
  simp
theorem inS_caS : ∀ (es : List En) (d : ByteArray), inS d es = (es.map (fun e => e.2.1)).foldl (fun a t => a ++ t) d
  | [], d => rfl
  | e :: es, d => by rw [inS_cons, inS_caS es]; rfl
theorem stk_step {m : List PT} {i : Nat} (hi : i < m.length) {st st' : List En} (h : StK m i st) (hs : stS i (ndN m i) st = some st') : StK m (i + 1) st' := by
  obtain ⟨t, es, rfl, hri, hfi, rfl⟩ := stS_some hs
  have hk := hfi.1
  have hle : ∀ e ∈ es, e.1 < i := fun e he => h.lt e (by simp [he])
  have hki : kiN m i = es.map (·.1) := by unfold kiN; rw [hk, map_toNat]
  refine ⟨fun j hj k hkm => ?_, fun j hj => ?_, fun v => ?_, fun hK e he => ?_, fun e he => ?_⟩
  · by_cases e : j = i
    · subst e
      rw [hk] at hkm
      obtain ⟨e, he, rfl⟩ := List.mem_map.1 hkm
      have := hle e he
      omega
    · exact h.kd j (by omega) k hkm
  · by_cases e : j = i
    · subst e; exact hri
    · exact h.ri j (by omega)
  · have hc := h.ct v
    rw [kdN_succ, List.count_append, hki]
    rw [List.map_append, List.count_append] at hc ⊢
    have h1 : (([(i, txS (ndN m i) (inS (ndN m i).2.2.1 es), neS es)] : List En).map (·.1)).count v = if v = i then 1 else 0 := by
      simp only [List.map_cons, List.map_nil, List.count_singleton]
      by_cases e : v = i
      · subst e; simp
      · rw [if_neg e, if_neg (by simp; omega)]
    rw [h1]
    by_cases e : v = i
    · rw [if_pos e]
      rw [if_neg (by omega)] at hc
      rw [if_pos (by omega)]
      omega
    · rw [if_neg e]
      by_cases e2 : v < i
      · rw [if_pos e2] at hc
        rw [if_pos (by omega)]
        omega
      · rw [if_neg e2] at hc
        rw [if_neg (by omega)]
        omega
  · rcases List.mem_append.1 he with h1 | h1
    · exact h.tx hK e (by simp [h1])
    · rw [List.mem_singleton] at h1
      subst h1
      dsimp only
      rw [shT_eq hK (ndN_eq hi)]
      congr 1
      have hr2 := hri.2
      by_cases hl : (ndN m i).2.1 = true
      · rw [if_pos hl] at hr2 ⊢
        have he0 : es = [] := by
          have := congrArg List.length hk
          rw [List.length_map, hr2.1] at this
          exact List.eq_nil_of_length_eq_zero this.symm
        rw [he0]
        rfl
      · rw [if_neg hl] at hr2 ⊢
        rw [hr2, inS_caS, hk, List.map_map]
        unfold caS
        congr 1
        apply List.map_congr_left
        intro e he2
        show shT m (Int.toNat (e.1 : Int)) = e.2.1
        rw [Int.toNat_natCast]
        exact h.tx hK e (by simp [he2])
  · rcases List.mem_append.1 he with h1 | h1
    · have := h.lt e (by simp [h1]); omega
    · rw [List.mem_singleton] at h1
      subst h1
      dsimp only
      omega
theorem stk_run {m : List PT} : ∀ (rest : List PT) (i : Nat) (st st' : List En), i ≤ m.length → StK m i st → m.drop i = rest → ruS i rest st = some st' → StK m m.length st'
  | [], i, st, st', hi, hC, hd, h => by
    have e : st = st' := Option.some.inj h
    subst e
    have hl := List.drop_eq_nil_iff.1 hd
    have : i = m.length := by omega
    rw [← this]
    exact hC
  | x :: rest, i, st, st', hil, hC, hd, h => by
    have hi : i < m.length := by
      rcases Nat.lt_or_ge i m.length with h | h
      · exact h
      · rw [List.drop_of_length_le h] at hd; cases hd
    have hd2 := List.drop_eq_getElem_cons hi
    rw [hd] at hd2
    injection hd2 with e1 e2
    have hx : ndN m i = x := by rw [e1]; exact Option.some.inj ((ndN_eq hi).symm.trans (List.getElem?_eq_getElem hi))
    unfold ruS at h
    cases hs : stS i x st with
    | none => rw [hs] at h; cases h
    | some t =>
      rw [hs] at h
      exact stk_run rest (i + 1) t st' (by omega) (stk_step hi hC (by rw [hx]; exact hs)) e2.symm h
theorem stk_zero (m : List PT) : StK m 0 [] := ⟨fun j h => by omega, fun j h => by omega, fun v => by simp [kdN], fun _ e h => (by cases h), fun e h => (by cases h)⟩
/-- What a message that the stack shows is. -/
theorem shM_tree {m : List PT} {T : ByteArray} (h : shM m = some T) : 1 ≤ m.length ∧ m.length ≤ 60 ∧ KdB m ∧ (∀ j, j < m.length → riS (ndN m j)) ∧ (∀ v, v + 1 < m.length → (kdN m m.length).count v = 1) ∧ shT m (m.length - 1) = T := by
  obtain ⟨hl, e, hr, rfl⟩ := shM_some h
  have hC := run_b m 0 [] [e] rfl rfl hr
  have he : e.1 + 1 = m.length := hC.2
  have hS := stk_run m 0 [] [e] (Nat.zero_le _) (stk_zero m) rfl hr
  have hK : KdB m := by
    intro i x hx k hk
    have hi : i < m.length := by
      rcases Nat.lt_or_ge i m.length with h | h
      · exact h
      · rw [List.getElem?_eq_none h] at hx; cases hx
    have e1 : x = ndN m i := Option.some.inj (hx.symm.trans (ndN_eq hi))
    subst e1
    exact hS.kd i hi k hk
  refine ⟨by omega, hl, hK, hS.ri, fun v hv => ?_, ?_⟩
  · have := hS.ct v
    rw [if_pos (by omega)] at this
    have h0 : (([e] : List En).map (·.1)).count v = 0 := by
      rw [List.count_eq_zero]
      simp
      omega
    omega
  · rw [← hS.tx hK e (by simp), ← he]
    rfl
end Go.Proofs.YtengggpobhibcaaDoor.Nd

set_option linter.unusedVariables false
set_option maxRecDepth 100000
namespace Go.Proofs.YtengggpobhibcaaDoor.Nd
open Go Go.RowKit Go.Joins Own Draw Var

theorem cnt_nat (v : Nat) : ∀ (ks : List Int), (∀ k ∈ ks, 0 ≤ k) → (ks.map Int.toNat).count v = ks.count (v : Int)
  | [], _ => rfl
  | k :: ks, h => by
    rw [List.map_cons, List.count_cons, List.count_cons, cnt_nat v ks (fun x hx => h x (by simp [hx]))]
    have hk := h k (by simp)
    congr 1
    by_cases e : k = (v : Int)
    · rw [e]; simp
    · rw [if_neg (by simp; omega), if_neg (by simpa using e)]
theorem ndN_map {xs : List TT} {i : Nat} (h : i < xs.length) : ndN (xs.map stT) i = stT xs[i] :=
  Option.some.inj ((ndN_eq (by rw [List.length_map]; exact h)).symm.trans (by rw [List.getElem?_map, List.getElem?_eq_getElem h]; rfl))
theorem cnt_eq {xs : List TT} (hK : KdB (xs.map stT)) (v : Nat) : ∀ n, n ≤ xs.length → (kdN (xs.map stT) n).count v = ((xs.take n).map (fun x => x.2.2.2.2.2.count (v : Int))).sum
  | 0, _ => by simp [kdN]
  | n + 1, h => by
    rw [kdN_succ, List.count_append, cnt_eq hK v n (by omega), List.take_succ_eq_append_getElem (by omega), List.map_append, List.sum_append]
    congr 1
    unfold kiN
    rw [ndN_map (by omega)]
    have hx : (xs.map stT)[n]? = some (stT xs[n]) := by rw [List.getElem?_map, List.getElem?_eq_getElem (by omega)]; rfl
    rw [cnt_nat v _ (fun k hk => (hK n _ hx k hk).1)]
    simp [stT, rsI]
theorem cnt_all {xs : List TT} (hK : KdB (xs.map stT)) (v : Nat) : (kdN (xs.map stT) (xs.map stT).length).count v = cnT xs v := by
  rw [List.length_map, cnt_eq hK v xs.length (Nat.le_refl _), List.take_length]
  rfl
theorem kd_of {xs : List TT} (h : ∀ i (h : i < xs.length), NdK i xs[i]) : KdB (xs.map stT) := by
  intro i x hx k hk
  have hi : i < xs.length := by
    rcases Nat.lt_or_ge i xs.length with h | h
    · exact h
    · rw [List.getElem?_eq_none (by rw [List.length_map]; exact h)] at hx; cases hx
  have e : x = stT xs[i] := by rw [List.getElem?_map, List.getElem?_eq_getElem hi] at hx; exact (Option.some.inj hx).symm
  subst e
  exact (h i hi).2 k hk
/-- What the model asks. -/
def OkP (xs : List TT) : Prop := TreeP xs ∧ rdT (shT (xs.map stT) (xs.length - 1)) = (xs.map stT, 0)
theorem ok_shows {xs : List TT} (h : OkP xs) : shM (xs.map stT) = some (shT (xs.map stT) (xs.length - 1)) := read_shows h.2
theorem shows_ok {xs : List TT} {T : ByteArray} (h : shM (xs.map stT) = some T) : OkP xs ∧ shT (xs.map stT) (xs.length - 1) = T := by
  obtain ⟨h1, h2, hK, hr, hc, ht⟩ := shM_tree h
  rw [List.length_map] at h1 h2 ht
  have hT := shows_read h
  refine ⟨⟨⟨⟨h1, h2⟩, fun i hi => ⟨?_, ?_⟩, fun i hi => ?_⟩, by rw [ht]; exact hT⟩, ht⟩
  · have := hr i (by rw [List.length_map]; exact hi)
    rw [ndN_map hi] at this
    refine ⟨this.1, fun c => ?_, fun c => ?_⟩
    · have h2 := this.2
      rw [if_pos (show (stT xs[i]).2.1 = true from c.1)] at h2
      have h3 : xs[i].2.2.2.2.2.length = 0 := h2.1
      omega
    · have h2 := this.2
      rw [if_neg (show ¬ (stT xs[i]).2.1 = true by rw [show (stT xs[i]).2.1 = false from c.1]; simp)] at h2
      exact c.2 h2
  · intro k hk
    exact hK i _ (by rw [List.getElem?_map, List.getElem?_eq_getElem hi]; rfl) k hk
  · have := hc i (by rw [List.length_map]; exact hi)
    rw [cnt_all hK] at this
    exact this
theorem da_le {xs : List TT} : ∀ n, n ≤ xs.length → daN (xs.map stT) n ≤ 8 * n + (xs.map (fun x => x.2.2.1.size)).sum
  | n, h => by
    have key : ∀ n, n ≤ xs.length → daN (xs.map stT) n = 8 * n + ((xs.take n).map (fun x => x.2.2.1.size)).sum := by
      intro n
      induction n with
      | zero => intro _; simp [daN]
      | succ n ih =>
        intro h
        rw [daN_succ, ih (by omega), List.take_succ_eq_append_getElem (by omega), List.map_append, List.sum_append, ndN_map (by omega)]
        simp [stT]
        omega
    rw [key n h]
    have e : (xs.map (fun x => x.2.2.1.size)).sum = ((xs.take n).map (fun x => x.2.2.1.size)).sum + ((xs.drop n).map (fun x => x.2.2.1.size)).sum := by rw [← List.sum_append, ← List.map_append, List.take_append_drop]
    omega
/-- What l14Show wants of a tree. -/
theorem tree_small {xs : List TT} (h : TreeP xs) (hd : (xs.map (fun x => x.2.2.1.size)).sum ≤ 1048576) : KdB (xs.map stT) ∧ (∀ x ∈ xs, 1 ≤ x.1 ∧ x.1 ≤ 100) ∧ ∀ i, i < xs.length → ((kiN (xs.map stT) i).map (szN (xs.map stT))).sum ≤ 6000000000 := by
  have hK := kd_of h.2.1
  refine ⟨hK, fun x hx => ?_, fun i hi => ?_⟩
  · obtain ⟨i, hi, rfl⟩ := List.getElem_of_mem hx
    have := (h.2.1 i hi).1.1
    unfold tgOk at this
    rw [Bool.and_eq_true] at this
    exact ⟨of_decide_eq_true this.1, of_decide_eq_true this.2⟩
  · have hs := small_all hK (fun j hj => by rw [cnt_all hK]; rw [List.length_map] at hj; have := h.2.2 j hj; omega) (by rw [List.length_map]; exact h.1.2) (C := 1049056) (by omega) (fun n hn => by
      rw [List.length_map] at hn
      have := da_le (xs := xs) n hn
      have := h.1.2
      omega) xs.length (by rw [List.length_map]; exact Nat.le_refl _)
    have := hs.2.2 i hi
    omega
end Go.Proofs.YtengggpobhibcaaDoor.Nd
