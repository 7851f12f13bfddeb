/- Rules and their text, drawn. -/
import Derived.Test.YtjbbhegijlnndaaDs1
import Derived.Test.YtjbbhegijlnndaaDrawText
import Derived.Test.YtjbbhegijlnndaaSh1
set_option linter.unusedVariables false
set_option maxRecDepth 100000
namespace Go.Proofs.Ytjbbhegijlnndaa.Nd
open Go Go.RowKit Go.Joins Own Draw Go.Proofs.Ytjbbhegijlnndaa Go.Proofs.Ytjbbhegijlnndaa.Var

theorem newW (a : Option Addr) (len cap : Nat) (zs : List Int) (W : World) (hz : CodeAt W W.heap.size a len zs) :
    Calls Try.prog 41 #[.slice a len cap] W fun e w' => e = .returned (.pointer (some ⟨W.heap.size, 0, none⟩)) ∧ Cu W.heap.size a len cap zs w' w' ∧ Below W.heap.size W w' := by
  refine (new_go a len cap zs W hz).mono ?_
  rintro e w' ⟨rfl, h1, h2, h3⟩
  exact ⟨rfl, Cu.start ⟨h1, hz.below h2, Nat.zero_le _⟩, h2⟩
theorem spoilW {p : Nat} {a : Option Addr} {len cap : Nat} {zs : List Int} {w : World} (t : ByteArray) (h : Cu p a len cap zs w w) (ht : t.size ≤ 1000) :
    Calls Try.prog 64 #[.pointer (some ⟨p, 0, none⟩), .string t] w fun e w' => ∃ s : ByteArray, e = .returned (.string s) ∧ s.size ≤ 1004 ∧ Cu p a len cap zs w w' := by
  obtain ⟨⟨s, h⟩, _⟩ := h
  refine (spoilD p a len cap zs s w t h ht).mono ?_
  rintro e w' ⟨rfl, ⟨s', d⟩, o⟩
  exact ⟨_, rfl, Nat.le_trans (spoilV_size zs len t s) (by omega), ⟨s', d⟩, o⟩
theorem varOf_one {n : Int} (h0 : 0 ≤ n) (h1 : n ≤ 127) : (varOf n).size = 1 := by
  unfold varOf
  rw [if_pos (by omega), varB_small _ (by omega)]
  rfl
theorem shN_small : ∀ (xs : List Int) (s : ByteArray), (∀ x ∈ xs, 0 ≤ x ∧ x ≤ 127) → (shN s xs).size = s.size + xs.length
  | [], s, _ => rfl
  | x :: xs, s, h => by
    have h1 := shN_small xs (s ++ varOf x) (fun y hy => h y (List.mem_cons_of_mem _ hy))
    have h2 := varOf_one (h x (List.mem_cons_self ..)).1 (h x (List.mem_cons_self ..)).2
    rw [ba_size, h2] at h1
    show (shN (s ++ varOf x) xs).size = _
    rw [List.length_cons]
    omega
theorem okP_small {p : PT} (h : okP p = true) (hl : p.2.1.length ≤ 6) : (shH p).size ≤ 9 ∧ ∀ x ∈ p.2.1, 0 ≤ x ∧ x ≤ 127 := by
  have hk : 1 ≤ p.1 ∧ p.1 ≤ 5 := by
    unfold okP at h
    split at h
    · rename_i c
      simp [btw] at c
      omega
    · simp [btw] at h
      omega
  refine ⟨?_, fun x hx => ?_⟩
  · unfold shH
    rw [ba_size, ba_size]
    have h1 := varOf_one (n := p.1) (by omega) (by omega)
    have h2 := varOf_size p.2.2
    have h3 := varOf_one (n := (p.2.1.length : Int)) (by omega) (by omega)
    omega
  · have := ri_mem (okP_set h) x hx
    omega
theorem shS_small : ∀ (l : List PT) (s : ByteArray), (∀ p ∈ l, okP p = true ∧ p.2.1.length ≤ 6) → (shS s l).size ≤ s.size + 15 * l.length
  | [], s, _ => by show s.size ≤ _; omega
  | p :: l, s, h => by
    have h1 := shS_small l (shN (s ++ shH p) p.2.1) (fun q hq => h q (List.mem_cons_of_mem _ hq))
    have h4 := h p (List.mem_cons_self ..)
    have h3 := okP_small h4.1 h4.2
    have h2 := shN_small p.2.1 (s ++ shH p) h3.2
    rw [ba_size] at h2
    show (shS (shN (s ++ shH p) p.2.1) l).size ≤ _
    rw [List.length_cons]
    omega
theorem show_small {l : List PT} (h : ∀ p ∈ l, p.2.1.length ≤ 6) : (showP l).size ≤ 1000 := by
  unfold showP
  split
  · rename_i c
    have hc := okL_mem c
    have h1 := shS_small l (varOf (l.length : Int)) (fun p hp => ⟨hc.2 p hp, h p hp⟩)
    have h2 := varOf_size (l.length : Int)
    omega
  · exact Nat.zero_le _
theorem sumT_le {c : Nat} : ∀ (l : List TT), (∀ x ∈ l, totT x ≤ c) → (l.map totT).sum ≤ l.length * c
  | [], _ => Nat.zero_le _
  | x :: l, h => by
    have h1 := h x (List.mem_cons_self ..)
    have h2 := sumT_le l (fun y hy => h y (List.mem_cons_of_mem _ hy))
    simp only [List.map_cons, List.sum_cons, List.length_cons, Nat.add_mul, Nat.one_mul]
    omega
theorem Sm.rt {B n : Nat} {w : World} {q : Rw TT} (h : Sm B n w q) (hn : n ≤ 100) : rtT q ≤ 1048576 := by
  have := sumT_le (c := 6) q.2.2 (fun x hx => h.set x hx)
  have h3 : q.2.2.length * 6 ≤ n * 6 := Nat.mul_le_mul_right _ h.len
  have h4 := h.len
  unfold rtT
  omega
theorem Sm.show {B n : Nat} {w : World} {q : Rw TT} (h : Sm B n w q) : (showP (rsT q)).size ≤ 1000 := show_small (fun p hp => by
  obtain ⟨x, hx, rfl⟩ := List.mem_map.1 hp
  exact h.set x hx)
theorem drawShow_is (ad : Option Addr) (len cap : Nat) (zs : List Int) (W : World) (hz : CodeAt W W.heap.size ad len zs) :
    Calls Try.prog 25 #[.slice ad len cap] W fun e w' => ∃ q : Rw TT, e = .returned (.slice q.1 q.2.2.length q.2.1) ∧ Sm W.heap.size 21 w' q ∧ Below W.heap.size W w' := by
  go_enter Try.func25, Try.ntmps25
  go_wp2_with fail
  refine (newW ad len cap zs W hz).mono ?_
  rintro e w1 ⟨rfl, C1, b1⟩
  clear hz
  obtain ⟨pc, hpc⟩ : ∃ n, W.heap.size = n := ⟨_, rfl⟩
  rw [hpc] at C1 b1 ⊢
  have S := some_is 6 w1 C1 (by omega) (by omega)
  have l1 := C1.lt
  go_wp2_with fail
  refine S.mono ?_
  clear S
  rintro e w2 ⟨q, rfl, sm, C2⟩
  have B2 := b1.trans (C2.2.below (Nat.le_refl _) l1)
  have sm2 : Sm pc 21 w2 q := ⟨sm.ro.le (Nat.le_of_lt l1), sm.ap, sm.len, sm.set⟩
  clear sm C2 C1 b1
  go_wp2
  go_ret
  exact ⟨q, rfl, by rw [hpc]; exact sm2, by rw [hpc]; exact B2⟩
set_option maxHeartbeats 3200000 in
theorem drawRead_is (ad : Option Addr) (len cap : Nat) (zs : List Int) (W : World) (hz : CodeAt W W.heap.size ad len zs) :
    Calls Try.prog 27 #[.slice ad len cap] W fun e w' => ∃ s : ByteArray, e = .returned (.string s) ∧ s.size ≤ 1004 ∧ Below W.heap.size W w' := by
  go_enter Try.func27, Try.ntmps27
  go_wp2_with fail
  refine (newW ad len cap zs W hz).mono ?_
  rintro e w1 ⟨rfl, C1, b1⟩
  clear hz
  obtain ⟨pc, hpc⟩ : ∃ n, W.heap.size = n := ⟨_, rfl⟩
  rw [hpc] at C1 b1 ⊢
  have S := some_is 6 w1 C1 (by omega) (by omega)
  have l1 := C1.lt
  go_wp2_with fail
  refine S.mono ?_
  clear S
  rintro e w2 ⟨q, rfl, sm, C2⟩
  have B2 := b1.trans (C2.2.below (Nat.le_refl _) l1)
  replace C2 := C2.here
  have KS := specShow_is q w2 sm.ro.dp (sm.rt (by omega))
  have hsz := sm.show
  clear C1 b1 sm
  generalize showP (rsT q) = t at *
  go_wp2_with fail
  refine KS.mono ?_
  clear KS
  rintro e w3 ⟨rfl, b3⟩
  have C3 := (C2.under b3).here
  have B3 := B2.trans (b3.mono (by have := B2.size; omega))
  clear C2 B2 b3
  go_wp2_with fail
  refine (onceW 3 C3 (by omega)).mono ?_
  rintro e w4 ⟨b, rfl, c4⟩
  have B4 := B3.trans (c4.2.below (Nat.le_refl _) C3.lt)
  have C4 := c4.here
  clear C3 B3 c4
  cases b with
  | true =>
    go_wp2_with fail
    refine (spoilW t C4 (by omega)).mono ?_
    rintro e w5 ⟨s, rfl, hs, c5⟩
    have B5 := B4.trans (c5.2.below (Nat.le_refl _) C4.lt)
    clear c5 C4 B4
    go_wp2
    go_ret
    exact ⟨s, rfl, hs, by rw [hpc]; exact B5⟩
  | false =>
    clear C4
    go_wp2
    go_ret
    exact ⟨t, rfl, by omega, by rw [hpc]; exact B4⟩
end Go.Proofs.Ytjbbhegijlnndaa.Nd
