/- Chapter 18 as plain data: names shown. -/
import Derived.Test.YtbpodcfbijhboaaNf0
import Derived.WalkLawsBesides
import Derived.Laws.RangeAny
set_option linter.unusedVariables false
set_option maxRecDepth 100000
namespace Go.Proofs.Ytbpodcfbijhboaa.Nd
open Go Go.RowKit Go.Joins Own Draw

def sgB (b : UInt8) : Bool := decide (b.toNat = 47) || (decide (b.toNat = 64) || decide (b.toNat = 92))
def escL : List UInt8 → List UInt8
  | [] => []
  | b :: t => if sgB b then 92 :: b :: escL t else b :: escL t
def escB (s : ByteArray) : ByteArray := ⟨(escL s.data.toList).toArray⟩
theorem escL_app : ∀ (l : List UInt8) (b : UInt8), escL (l ++ [b]) = escL l ++ (if sgB b then [92, b] else [b])
  | [], b => by
    show (if sgB b then 92 :: b :: escL [] else b :: escL []) = _
    split <;> rfl
  | x :: t, b => by
    rw [List.cons_append]
    show (if sgB x then 92 :: x :: escL (t ++ [b]) else x :: escL (t ++ [b])) = (if sgB x then 92 :: x :: escL t else x :: escL t) ++ _
    rw [escL_app t b]
    split <;> simp
theorem escL_len : ∀ l : List UInt8, (escL l).length ≤ 2 * l.length
  | [] => Nat.le_refl _
  | b :: t => by
    have := escL_len t
    unfold escL
    split <;> simp only [List.length_cons] <;> omega
def tk (s : ByteArray) (k : Nat) : List UInt8 := s.data.toList.take k
theorem tk_succ {s : ByteArray} {k : Nat} (h : k < s.size) : tk s (k + 1) = tk s k ++ [s[k]] := by
  unfold tk
  rw [List.take_succ_eq_append_getElem (by simpa using h)]
  congr 1
theorem tk_all (s : ByteArray) : tk s s.size = s.data.toList := by
  unfold tk
  have e : s.data.toList.length = s.size := Array.length_toList.trans rfl
  exact List.take_of_length_le (by omega)
theorem tk_len (s : ByteArray) (k : Nat) : (tk s k).length ≤ k := by unfold tk; rw [List.length_take]; omega
theorem escB_size (s : ByteArray) : (escB s).size ≤ 2 * s.size := by
  have := escL_len s.data.toList
  have e : s.data.toList.length = s.size := Array.length_toList.trans rfl
  rw [e] at this
  have e2 : (escB s).size = (escL s.data.toList).length := List.size_toArray ..
  omega
abbrev slash : ByteArray := ⟨#[47]⟩
abbrev atB : ByteArray := ⟨#[64]⟩
/-- The first parts with a sign between. -/
def jo (xs : List ByteArray) : Nat → ByteArray
  | 0 => ByteArray.empty
  | k + 1 => (if k = 0 then ByteArray.empty else jo xs k ++ slash) ++ escB (xs.getD k ByteArray.empty)
def showN (p : PT) : ByteArray := if okN p = true then (if p.2 = ByteArray.empty then jo p.1 p.1.length else jo p.1 p.1.length ++ atB ++ escB p.2) else ByteArray.empty
theorem getD_at {xs : List ByteArray} {k : Nat} (h : k < xs.length) : xs.getD k ByteArray.empty = xs[k] := by simp [List.getD, h]
theorem jo_first {xs : List ByteArray} (h : 0 < xs.length) : jo xs 1 = escB xs[0] := by
  show (if 0 = 0 then ByteArray.empty else _) ++ escB (xs.getD 0 ByteArray.empty) = _
  rw [if_pos rfl, getD_at h, ByteArray.empty_append]
theorem jo_next {xs : List ByteArray} {k : Nat} (h : k < xs.length) (h0 : k ≠ 0) : jo xs (k + 1) = jo xs k ++ slash ++ escB xs[k] := by
  show (if k = 0 then ByteArray.empty else jo xs k ++ slash) ++ escB (xs.getD k ByteArray.empty) = _
  rw [if_neg h0, getD_at h]
theorem jo_size {xs : List ByteArray} (h : ∀ x ∈ xs, x.size ≤ 20) : ∀ k, k ≤ xs.length → (jo xs k).size ≤ 41 * k
  | 0, _ => by show ByteArray.empty.size ≤ _; exact Nat.le_refl 0
  | k + 1, hk => by
    have ih := jo_size h k (by omega)
    have hx := h xs[k] (List.getElem_mem (by omega))
    have he := escB_size xs[k]
    show ((if k = 0 then ByteArray.empty else jo xs k ++ slash) ++ escB (xs.getD k ByteArray.empty)).size ≤ _
    rw [ByteArray.size_append, getD_at (show k < xs.length by omega)]
    have : (if k = 0 then ByteArray.empty else jo xs k ++ slash).size ≤ 41 * k + 1 := by
      split
      · show ByteArray.empty.size ≤ _; exact Nat.zero_le _
      · rw [ByteArray.size_append]; have : slash.size = 1 := rfl; omega
    omega
theorem ok_parts {p : PT} (h : okN p = true) : (1 ≤ p.1.length ∧ p.1.length ≤ 4) ∧ (∀ x ∈ p.1, 1 ≤ x.size ∧ x.size ≤ 20 ∧ allB x = true) ∧ p.2.size ≤ 20 ∧ allB p.2 = true := by
  unfold okN at h
  simp only [Bool.and_eq_true, decide_eq_true_eq, List.all_eq_true] at h
  obtain ⟨⟨h1, h2⟩, h3, h4⟩ := h
  unfold pcB at h3 h4
  simp only [Bool.and_eq_true, decide_eq_true_eq] at h3 h4
  exact ⟨⟨h1, h2⟩, fun x hx => ⟨by have := (h3 x hx).1; omega, (h3 x hx).2.1, (h3 x hx).2.2⟩, h4.2.1, h4.2.2⟩
theorem showN_size (p : PT) : (showN p).size ≤ 205 := by
  unfold showN
  split
  · next h =>
    obtain ⟨⟨h1, h2⟩, h3, h4, _⟩ := ok_parts h
    have hj := jo_size (fun x hx => (h3 x hx).2.1) p.1.length (Nat.le_refl _)
    split
    · omega
    · rw [ByteArray.size_append, ByteArray.size_append]
      have := escB_size p.2
      have : atB.size = 1 := rfl
      omega
  · show ByteArray.empty.size ≤ _; exact Nat.zero_le _
theorem allB_at {s : ByteArray} (h : allB s = true) {j : Nat} (hj : j < s.size) : 33 ≤ (s[j]'hj).toNat ∧ (s[j]'hj).toNat ≤ 126 := by
  unfold allB at h
  rw [List.all_eq_true] at h
  have := h s[j] (List.mem_iff_getElem.2 ⟨j, by simpa using hj, rfl⟩)
  unfold inB at this
  simp only [Bool.and_eq_true, decide_eq_true_eq] at this
  exact this
/-- Runes that are bytes. -/
def runL (l : List UInt8) : List Value := l.map fun b => Value.int .i32 (b.toNat : Int)
theorem runL_length (l : List UInt8) : (runL l).length = l.length := by simp [runL]
theorem runL_append (l m : List UInt8) : runL (l ++ m) = runL l ++ runL m := by simp [runL]
theorem enc_ascii (b : UInt8) (h : b.toNat < 128) : Utf8.encode (b.toNat : Int) = ⟨#[b]⟩ := by
  have : ∀ n : Nat, n < 128 → Utf8.encode (n : Int) = ⟨#[UInt8.ofNat n]⟩ := by decide +kernel
  rw [this b.toNat h]
  rw [UInt8.ofNat_toNat]
theorem run_bytes : ∀ (l : List UInt8) (s : ByteArray), (∀ b ∈ l, b.toNat < 128) → (l.map fun b => (b.toNat : Int)).foldl (fun r n => r ++ Utf8.encode n) s = s ++ ⟨l.toArray⟩
  | [], s, _ => by
    show s = s ++ ByteArray.empty
    rw [ByteArray.append_empty]
  | b :: t, s, h => by
    rw [List.map_cons, List.foldl_cons, run_bytes t _ (fun x hx => h x (List.mem_cons_of_mem _ hx)), enc_ascii b (h b (List.mem_cons_self ..)), ByteArray.append_assoc]
    congr 1
theorem runes_bytes (l : List UInt8) (h : ∀ b ∈ l, b.toNat < 128) : runesBytes (l.map fun b => (b.toNat : Int)) = ⟨l.toArray⟩ := by
  unfold runesBytes
  rw [run_bytes l _ h, ByteArray.empty_append]
/-- 'string(l)' where l is nil or the call's own row of runes that are bytes. -/
theorem conv_runes {P : Program} (src dst e : TypeId) (hs : P.underlying src = some (.slice e)) (he : P.underlying e = some (.int .i32)) (hd : P.underlying dst = some .string)
    {W : World} {base : Nat} {v : Value} {n : Nat} {l : List UInt8} (h : W.ownsRow base e 1 v n (runL l)) (ha : ∀ b ∈ l, b.toNat < 128) :
    (convert src dst v).run P W = .ok (.string ⟨l.toArray⟩) W := by
  have hn : l.length = n := by have := h.1; simpa [runL] using this
  subst hn
  rcases h.2 with ⟨rfl, h0⟩ | ⟨g, cap, cur, rfl, _⟩
  · have : l = [] := List.length_eq_zero_iff.1 h0
    subst this
    rw [run_convert_runes_nil W src dst e _ _ hs he hd]
    rfl
  · have hh := run_convert_runes W src dst e ⟨g, 0, none⟩ l.length cap (l.map fun b => (b.toNat : Int)) (by simp) hs he hd (fun j hj => by
      rw [List.length_map] at hj
      have h1 := h.cellAt j (by simpa using hj)
      have h2 : (runL l)[j]? = some (Value.int .i32 ((l[j]'hj).toNat : Int)) := by simp [runL, hj]
      rw [h2] at h1
      rw [show (⟨g, 0, none⟩ : Addr).add j = ⟨g, j, none⟩ by simp only [Addr.add]; split <;> simp_all, h1]
      simp [List.getD, hj])
    rw [hh, List.take_of_length_le (by simp), runes_bytes l ha]
/-! The iterator over a text, wherever it lies. -/
def setIter (w : World) (g : Nat) (s : ByteArray) (p : Nat) : World := { w with heap := w.heap.setIfInBounds g (.stringIter s p) }
theorem setIter_grown (w : World) (g : Nat) (s : ByteArray) (p : Nat) : w.grownBy (setIter w g s p) (some g) :=
  ⟨rfl, rfl, rfl, by simp [setIter], fun k _ hk => by
    show (w.heap.setIfInBounds g (.stringIter s p))[k]? = w.heap[k]?
    rw [Array.getElem?_setIfInBounds_ne (fun e => hk (by rw [e]))]⟩
theorem setIter_at {w : World} {g : Nat} {o : Obj} (h : w.heap[g]? = some o) (s : ByteArray) (p : Nat) : (setIter w g s p).heap[g]? = some (.stringIter s p) := by
  have hl : g < w.heap.size := (Array.getElem?_eq_some_iff.1 h).1
  show (w.heap.setIfInBounds g (.stringIter s p))[g]? = _
  simp [hl]
theorem setIter_size (w : World) (g : Nat) (s : ByteArray) (p : Nat) : (setIter w g s p).heap.size = w.heap.size := by simp [setIter]
theorem next_at {P : Program} {w : World} {g pos : Nat} {s : ByteArray} (ty : TypeId) (hg : w.heap[g]? = some (.stringIter s pos)) (h : pos < s.size) :
    (Instr.next (.pointer (some ⟨g, 0, none⟩)) true ty).run P w = .ok (.tuple #[.bool true, .int .i64 pos, .int .i32 (Utf8.decode s pos).1]) (setIter w g s (pos + (Utf8.decode s pos).2)) := by
  simp only [Instr.next, getObj, setObj, Sem.run_bind, Sem.run, hg, Result.andThen, h, if_true]
  simp [goInt, setIter]
theorem next_ascii {P : Program} {w : World} {g pos : Nat} {s : ByteArray} (ty : TypeId) (hg : w.heap[g]? = some (.stringIter s pos)) (h : pos < s.size) (ha : (s[pos]'h).toNat < 128) :
    (Instr.next (.pointer (some ⟨g, 0, none⟩)) true ty).run P w = .ok (.tuple #[.bool true, .int .i64 pos, .int .i32 ((s[pos]'h).toNat : Nat)]) (setIter w g s (pos + 1)) := by
  have := next_at (P := P) ty hg h
  rw [decode_ascii s pos h ha] at this
  exact this
theorem next_end {P : Program} {w : World} {g pos : Nat} {s : ByteArray} (ty : TypeId) (hg : w.heap[g]? = some (.stringIter s pos)) (h : ¬ pos < s.size) :
    (Instr.next (.pointer (some ⟨g, 0, none⟩)) true ty).run P w = .ok (.tuple #[.bool false]) w := by
  simp [Instr.next, getObj, Sem.run, hg, h]
theorem iterPos_of {w : World} {g pos : Nat} {s : ByteArray} (hg : w.heap[g]? = some (.stringIter s pos)) : w.iterPos g = pos := by unfold World.iterPos; rw [hg]
end Go.Proofs.Ytbpodcfbijhboaa.Nd
