/- A row of texts that is taken from at its head and appended to at its end. -/
import Derived.Test.YtkekfogepdhjhaaParts
import Derived.Deep.AppendSrc
import Derived.Deep.Upon
set_option linter.unusedVariables false
namespace Go.Proofs.Ytkekfogepdhjhaa
open Go.RowKit Own Var Term

/-- The texts lie in a block from B on, with room behind them that may be written. -/
def QRow (B : Nat) (w : World) (v : Value) (xs : List ByteArray) : Prop :=
  ∃ cap, xs.length ≤ cap ∧ cap ≤ maxLen ∧ ((v = .slice none 0 0 ∧ xs = [] ∧ cap = 0) ∨ ∃ b off, v = .slice (some ⟨b, off, none⟩) xs.length cap ∧ B ≤ b ∧ b < w.heap.size ∧
    (∀ j (h : j < xs.length), w.cell? ⟨b, off + j, none⟩ = some (.string xs[j])) ∧ ∀ j, j < cap → (w.cell? ⟨b, off + j, none⟩).isSome = true ∧ w.frozen? ⟨b, off + j, none⟩ = false)

theorem QRow.nil (B : Nat) (w : World) : QRow B w (.slice none 0 0) [] := ⟨0, Nat.le_refl _, Nat.zero_le _, .inl ⟨rfl, rfl, rfl⟩⟩
theorem QRow.shape {B : Nat} {w : World} {v : Value} {xs : List ByteArray} (h : QRow B w v xs) : ∃ a cap, v = .slice a xs.length cap ∧ xs.length ≤ cap := by
  obtain ⟨cap, h1, h2, h | ⟨b, off, h, _⟩⟩ := h
  · obtain ⟨rfl, rfl, rfl⟩ := h; exact ⟨none, 0, rfl, Nat.le_refl _⟩
  · exact ⟨_, cap, h, h1⟩
theorem QRow.lt {B : Nat} {w : World} {v : Value} {xs : List ByteArray} (h : QRow B w v xs) {k : Nat} (hk : v.ownBlock = some k) : B ≤ k ∧ k < w.heap.size := by
  obtain ⟨cap, h1, h2, h | ⟨b, off, h, hb, hl, _⟩⟩ := h
  · obtain ⟨rfl, rfl, rfl⟩ := h; cases hk
  · subst h; cases hk; exact ⟨hb, hl⟩
/-- It stays what it is while its own block does. -/
theorem QRow.kept {B : Nat} {w w' : World} {v : Value} {xs : List ByteArray} (h : QRow B w v xs) (hs : w.heap.size ≤ w'.heap.size) (hg : ∀ k, v.ownBlock = some k → w'.heap[k]? = w.heap[k]?) : QRow B w' v xs := by
  obtain ⟨cap, h1, h2, h | ⟨b, off, h, hb, hl, hc, hf⟩⟩ := h
  · exact ⟨cap, h1, h2, .inl h⟩
  · have e : w'.heap[b]? = w.heap[b]? := hg b (by rw [h]; rfl)
    refine ⟨cap, h1, h2, .inr ⟨b, off, h, hb, Nat.lt_of_lt_of_le hl hs, fun j hj => ?_, fun j hj => ?_⟩⟩
    · rw [World.cell?_of_block (a := ⟨b, off + j, none⟩) e]; exact hc j hj
    · rw [World.cell?_of_block (a := ⟨b, off + j, none⟩) e, World.frozen?_of_block (a := ⟨b, off + j, none⟩) e]; exact hf j hj
theorem QRow.grown {B : Nat} {w w' : World} {v : Value} {xs : List ByteArray} {row : Option Nat} (h : QRow B w v xs) (hg : w.grownBy w' row) (hn : ∀ k, row = some k → v.ownBlock ≠ some k) : QRow B w' v xs :=
  h.kept hg.size fun k hk => hg.block k (h.lt hk).2 fun e => hn k e.symm hk
theorem QRow.row {B : Nat} {w : World} {v : Value} {xs : List ByteArray} (h : QRow B w v xs) : ∃ a cap, v = .slice a xs.length cap ∧ xs.length ≤ cap ∧ RowAt Value.string w a xs := by
  obtain ⟨cap, h1, h2, h | ⟨b, off, h, hb, hl, hc, hf⟩⟩ := h
  · obtain ⟨rfl, rfl, rfl⟩ := h; exact ⟨none, 0, rfl, Nat.le_refl _, RowAt.nil _ _⟩
  · exact ⟨_, cap, h, h1, fun j hj => ⟨b, off, rfl, hl, hc j hj⟩⟩
theorem QRow.own {B n : Nat} {w : World} {v : Value} {xs : List ByteArray} (h : w.ownsRow B 9 1 v n (strV xs)) : QRow B w v xs := by
  have hl : xs.length = n := by have := h.1; simpa [strV] using this
  subst hl
  rcases h.2 with ⟨rfl, h0⟩ | ⟨g, cap, cur, rfl, e2, e3, e4, e5, e6, e7⟩
  · have : xs = [] := List.length_eq_zero_iff.1 h0
    subst this
    exact QRow.nil _ _
  · refine ⟨cap, e4, e5, .inr ⟨g, 0, rfl, e2, (h.lt g rfl).2, fun j hj => ?_, fun j hj => ?_⟩⟩
    · obtain ⟨b, off, e, _, hc⟩ := RowAt.own (f := Value.string) h j hj
      simp only [Option.some.injEq, Addr.mk.injEq] at e
      obtain ⟨rfl, rfl, _⟩ := e
      exact hc
    · have hc : w.cell? ⟨g, 0 + j, none⟩ = cur[j]? := by simp [World.cell?, e3]
      refine ⟨by rw [hc]; simp; omega, by simp [World.frozen?, e3]⟩

theorem tape_setCells (b : Nat) : ∀ (vs : List Value) (o : Nat) (w : World), (w.setCells b o vs).tape = w.tape
  | [], _, _ => rfl
  | v :: r, o, w => by show ((w.setCell ⟨b, o, none⟩ v).setCells b (o + 1) r).tape = _; rw [tape_setCells b r]; simp
theorem size_setCells (b : Nat) : ∀ (vs : List Value) (o : Nat) (w : World), (w.setCells b o vs).heap.size = w.heap.size
  | [], _, _ => rfl
  | v :: r, o, w => by show ((w.setCell ⟨b, o, none⟩ v).setCells b (o + 1) r).heap.size = _; rw [size_setCells b r]; simp
theorem grown_setCells (b : Nat) (vs : List Value) (o : Nat) (w : World) : w.grownBy (w.setCells b o vs) (some b) :=
  ⟨World.os_setCells _ _ _ _, tape_setCells _ _ _ _, World.output_setCells _ _ _ _, Nat.le_of_eq (size_setCells _ _ _ _).symm, fun k hk hn => World.heap_setCells_other w b o vs hk (fun e => hn (by rw [e]))⟩

/-- The first one is taken away. -/
theorem QRow.tail {B : Nat} {w : World} {x : ByteArray} {xs : List ByteArray} {b off cap : Nat} (h : QRow B w (.slice (some ⟨b, off, none⟩) (x :: xs).length cap) (x :: xs)) :
    QRow B w (.slice (if cap = 1 then some ⟨b, off, none⟩ else some ⟨b, off + 1, none⟩) xs.length (cap - 1)) xs := by
  obtain ⟨cap', h1, h2, h | ⟨b', off', hv, hb, hlt, hc, hf⟩⟩ := h
  · obtain ⟨h, _⟩ := h; cases h
  · simp only [Value.slice.injEq, Option.some.injEq, Addr.mk.injEq] at hv
    obtain ⟨⟨rfl, rfl, _⟩, _, rfl⟩ := hv
    simp only [List.length_cons] at h1
    refine ⟨cap - 1, by omega, Nat.le_trans (Nat.sub_le _ _) h2, .inr ?_⟩
    by_cases h0 : cap = 1
    · rw [if_pos h0]
      have : xs = [] := List.length_eq_zero_iff.1 (by omega)
      subst this
      exact ⟨b, off, rfl, hb, hlt, fun j hj => by simp at hj, fun j hj => by omega⟩
    · rw [if_neg h0]
      refine ⟨b, off + 1, rfl, hb, hlt, fun j hj => ?_, fun j hj => ?_⟩
      · have := hc (j + 1) (by simp; omega)
        rw [show off + (j + 1) = off + 1 + j by omega] at this
        simpa using this
      · have := hf (j + 1) (by omega)
        rwa [show off + (j + 1) = off + 1 + j by omega] at this

/-- The texts that a call appends. -/
theorem src_row (w : World) (a : Option Addr) (cap : Nat) (ys : List ByteArray) (h : RowAt Value.string w a ys) : Src Try.prog 1 24 (.slice a ys.length cap) ys.length (strV ys) w := by
  by_cases h0 : ys = []
  · subst h0
    cases a with
    | none => exact Src.ofNil w Try.underlying24 cap
    | some a => exact Src.ofSlice w Try.underlying24 a 0 cap [] rfl (fun j u hj => by simp at hj) (fun u hu => by cases hu)
  · obtain ⟨b, off, rfl, _, _⟩ := h 0 (List.length_pos_iff.2 h0)
    refine Src.ofSlice w Try.underlying24 ⟨b, off, none⟩ ys.length cap (strV ys) (by simp [strV]) (fun j u hj => ?_) (fun u hu => ?_)
    · unfold strV at hj
      rw [List.getElem?_map] at hj
      obtain ⟨y, hy, rfl⟩ := Option.map_eq_some_iff.1 hj
      obtain ⟨hj', rfl⟩ := List.getElem?_eq_some_iff.1 hy
      obtain ⟨b', off', e, _, hc⟩ := h j hj'
      simp only [Option.some.injEq, Addr.mk.injEq] at e
      obtain ⟨rfl, rfl, _⟩ := e
      rw [Addr.add_lit]
      exact hc
    · unfold strV at hu
      obtain ⟨y, _, rfl⟩ := List.mem_map.1 hu
      rfl

theorem new_cells (w : World) (L : List Value) (M : Array Value) (e : TypeId) (j : Nat) : (w.drew.alloc (.cells (L.toArray ++ M) e)).cell? ⟨w.heap.size, j, none⟩ = (L.toArray ++ M)[j]? ∧ (w.drew.alloc (.cells (L.toArray ++ M) e)).frozen? ⟨w.heap.size, j, none⟩ = false := by
  have h : (w.drew.alloc (.cells (L.toArray ++ M) e)).heap[w.heap.size]? = some (.cells (L.toArray ++ M) e) := heap_alloc_new w.drew _
  constructor
  · simp only [World.cell?, h]; rfl
  · simp only [World.frozen?, h]; simp

/-- Texts are appended: behind it they lie in the same block, or in a new one. -/
theorem QRow.append {B : Nat} {w : World} {v : Value} {xs : List ByteArray} (h : QRow B w v xs) (hB : B ≤ w.heap.size) (ty : TypeId) {x : Value} {ys : List ByteArray} (hs : Src Try.prog 1 24 x ys.length (strV ys) w) (hl : xs.length + ys.length ≤ 8589934592) :
    ∃ v' w', (Builtin.append_ #[24, 24] ty #[v, x]).run Try.prog w = .ok v' w' ∧ QRow B w' v' (xs ++ ys) ∧ w.grownBy w' v.ownBlock ∧ (v'.ownBlock = v.ownBlock ∨ v'.ownBlock = some w.heap.size) ∧ QRow B w' v xs := by
  obtain ⟨i0, hi, hz0, hz1, hz2⟩ := info_parts infoStr
  have hq0 := h
  have h63 : xs.length + ys.length ≤ maxLen := by unfold maxLen; omega
  have hsI : Src Try.prog i0.size 24 x ys.length (strV ys) w := by rw [hz1]; exact hs
  have grow : ∀ (base : Option Addr) (cap : Nat), v = .slice base xs.length cap → cap < xs.length + ys.length → (Builtin.firstCells i0.size xs.length (.slice base xs.length cap)).run Try.prog w.drew = .ok (strV xs).toArray w.drew →
      ∃ v' w', (Builtin.append_ #[24, 24] ty #[v, x]).run Try.prog w = .ok v' w' ∧ QRow B w' v' (xs ++ ys) ∧ w.grownBy w' v.ownBlock ∧ (v'.ownBlock = v.ownBlock ∨ v'.ownBlock = some w.heap.size) ∧ QRow B w' v xs := by
    intro base cap hv hg hold
    have hrun := run_append_grow_src (P := Try.prog) w 24 24 ty 9 i0 (.string ⟨#[]⟩) Try.underlying24 hi hz0 base xs.length cap (strV xs) hold x ys.length (strV ys) hsI hg (by omega) (growslice_fits hg (by rw [hz2]; omega))
    have hge := grownCap_ge w (xs.length + ys.length) cap 9
    have hcm : grownCap w (xs.length + ys.length) cap 9 ≤ maxLen := grownCap_le_maxLen w _ _ _ h63
    subst hv
    refine ⟨_, _, hrun, ?_, ⟨rfl, rfl, rfl, by simp, fun k hk _ => Below.heap_alloc w.drew _ k hk⟩, Or.inr rfl, hq0.kept (by simp) fun k hk => Below.heap_alloc w.drew _ k (hq0.lt hk).2⟩
    generalize grownCap w (xs.length + ys.length) cap 9 = c' at hge hcm ⊢
    have e1 : strV xs ++ strV ys = strV (xs ++ ys) := by simp [strV]
    rw [e1]
    refine ⟨c', by simpa using hge, hcm, .inr ⟨w.heap.size, 0, by simp, hB, by simp, fun j hj => ?_, fun j hj => ?_⟩⟩
    · rw [Nat.zero_add, (new_cells w _ _ 9 j).1, Array.getElem?_append_left (by simpa [strV] using hj)]
      simp only [List.getElem?_toArray, strV, List.getElem?_map, List.getElem?_eq_getElem hj, Option.map_some]
    · rw [Nat.zero_add, (new_cells w _ _ 9 j).1, (new_cells w _ _ 9 j).2]
      refine ⟨?_, rfl⟩
      have : j < ((strV (xs ++ ys)).toArray ++ Builtin.zeroCells (Value.string ⟨#[]⟩).cells (c' - (xs.length + ys.length))).size := by
        rw [Array.size_append, size_zeroCells]
        simp only [List.size_toArray, strV, List.length_map, List.length_append]
        show j < xs.length + ys.length + (c' - (xs.length + ys.length)) * 1
        omega
      rw [Array.getElem?_eq_getElem this]; rfl
  obtain ⟨cap, h1, h2, h | ⟨b, off, hv, hb, hlt, hc, hf⟩⟩ := h
  · obtain ⟨rfl, rfl, rfl⟩ := h
    by_cases h0 : ys = []
    · subst h0
      exact ⟨_, w, run_append_nothing w 24 24 ty 9 i0 Try.underlying24 hi none 0 0 (Nat.le_refl _) x hsI, QRow.nil _ _, ⟨rfl, rfl, rfl, Nat.le_refl _, fun _ _ _ => rfl⟩, Or.inl rfl, QRow.nil _ _⟩
    · exact grow none 0 rfl (by have := List.length_pos_iff.2 h0; simpa using this) (run_firstCells_none w.drew _ _ _ _)
  · subst hv
    by_cases hroom : xs.length + ys.length ≤ cap
    · have hrun := run_append_room_src (P := Try.prog) w 24 24 ty 9 i0 Try.underlying24 hi b off xs.length cap x ys.length (strV ys) hsI hroom
        (fun j hj => by rw [hz1, Nat.mul_one, Nat.add_assoc]; exact (hf _ (by simp [strV] at hj; omega)).1) (fun j hj => by rw [hz1, Nat.mul_one, Nat.add_assoc]; exact (hf _ (by simp [strV] at hj; omega)).2)
      rw [hz1, Nat.mul_one] at hrun
      have hgr := grown_setCells b (strV ys) (off + xs.length) w
      have hin : ∀ j, xs.length ≤ j → j < xs.length + ys.length → (w.setCells b (off + xs.length) (strV ys)).cell? ⟨b, off + j, none⟩ = (strV ys)[j - xs.length]? := by
        intro j h3 h4
        have hjy : j - xs.length < (strV ys).length := by simp [strV]; omega
        have := World.cell?_setCells_in b (strV ys) (off + xs.length) w (fun i hi => by rw [Nat.add_assoc]; exact (hf _ (by simp [strV] at hi; omega)).1) (j - xs.length) hjy
        rw [show off + xs.length + (j - xs.length) = off + j by omega] at this
        rw [this, List.getElem?_eq_getElem hjy]
      have hout : ∀ j, (j < xs.length ∨ xs.length + ys.length ≤ j) → (w.setCells b (off + xs.length) (strV ys)).cell? ⟨b, off + j, none⟩ = w.cell? ⟨b, off + j, none⟩ := by
        intro j h3
        exact World.cell?_setCells_out b (strV ys) _ w ⟨b, off + j, none⟩ (fun _ _ => by show off + j < off + xs.length ∨ off + xs.length + (strV ys).length ≤ off + j; simp [strV]; omega)
      have hall : ∀ j, j < cap → ((w.setCells b (off + xs.length) (strV ys)).cell? ⟨b, off + j, none⟩).isSome = true ∧ (w.setCells b (off + xs.length) (strV ys)).frozen? ⟨b, off + j, none⟩ = false := by
        intro j hj
        rw [World.frozen?_setCells]
        refine ⟨?_, (hf j hj).2⟩
        by_cases h3 : xs.length ≤ j ∧ j < xs.length + ys.length
        · rw [hin j h3.1 h3.2, List.getElem?_eq_getElem (by simp [strV]; omega)]; rfl
        · rw [hout j (by omega)]; exact (hf j hj).1
      refine ⟨_, _, hrun, ⟨cap, by simpa using hroom, h2, .inr ⟨b, off, by simp, hb, by rw [size_setCells]; exact hlt, fun j hj => ?_, hall⟩⟩, hgr, Or.inl rfl, ⟨cap, h1, h2, .inr ⟨b, off, rfl, hb, by rw [size_setCells]; exact hlt, fun j hj => ?_, hall⟩⟩⟩
      · by_cases hjx : j < xs.length
        · rw [hout j (Or.inl hjx), List.getElem_append_left hjx]
          exact hc j hjx
        · simp only [List.length_append] at hj
          rw [hin j (by omega) hj, List.getElem_append_right (by omega)]
          simp [strV]
      · rw [hout j (Or.inl hj)]; exact hc j hj
    · refine grow _ cap rfl (by omega) ?_
      refine run_firstCells_some w.drew _ _ ⟨b, off, none⟩ _ _ (strV xs) (by rw [hz1]; simp [strV]) (fun j u hj => ?_)
      unfold strV at hj
      rw [List.getElem?_map] at hj
      obtain ⟨y, hy, rfl⟩ := Option.map_eq_some_iff.1 hj
      obtain ⟨hj', rfl⟩ := List.getElem?_eq_some_iff.1 hy
      rw [Addr.add_lit]
      exact hc j hj'
end Go.Proofs.Ytkekfogepdhjhaa
