/- A text that is a message is none when it is cut short, or made longer. -/
import Derived.Test.YtengggpobhibcaaDoorTd3
import Derived.Test.YtengggpobhibcaaDoorSh0
set_option linter.unusedVariables false
set_option maxRecDepth 100000
namespace Go.Proofs.YtengggpobhibcaaDoor.Nd
open Go Go.RowKit Go.Joins Own Draw Var

theorem rvm_ans {u : ByteArray} (h : (rvP u).2 ≠ 0) : Ans u (rvP u).1 (rvP u).2 := by
  by_cases hx : ∃ p : Nat × Nat, Ans u p.1 p.2
  · obtain ⟨p, hp⟩ := hx
    rw [rv_of hp]
    exact hp
  · unfold rvP at h
    rw [dif_neg hx] at h
    exact absurd rfl h
/-- What the first byte and the length behind it say of the whole. -/
theorem root_of {s : ByteArray} (h : (rdT s).2 = 0) : s.size ≤ 900 ∧ vrN s 0 s.size ≠ 0 ∧ 1 + vrN s 0 s.size + lnN s 0 s.size = s.size := by
  unfold rdT at h
  split at h
  · cases h
  · rename_i h9
    split at h
    · rename_i hc
      exact absurd h hc
    · rename_i hc
      have hc : (nodeN s 8 [] 0 0 s.size).1.2.2 = 0 := Classical.not_not.1 hc
      split at h
      · cases h
      · rename_i he
        have he : (nodeN s 8 [] 0 0 s.size).2 = s.size := Classical.not_not.1 he
        have e : nodeN s 8 [] 0 0 s.size = stepN s true (nodeN s 7) [] 0 0 s.size := rfl
        rw [e] at hc he
        clear e h
        unfold stepN at hc he
        split at hc
        · cases hc
        · rename_i t1
          rw [if_neg t1] at he
          split at hc
          · cases hc
          · rename_i t2
            rw [if_neg t2] at he
            split at hc
            · cases hc
            · rename_i t3
              rw [if_neg t3] at he
              split at hc
              · cases hc
              · rename_i t4
                rw [if_neg t4] at he
                split at hc
                · cases hc
                · rename_i t5
                  rw [if_neg t5] at he
                  refine ⟨by omega, by omega, ?_⟩
                  split at hc
                  · rename_i t6
                    rw [if_pos t6] at he
                    simpa using he
                  · rename_i t6
                    rw [if_neg t6] at he
                    split at hc
                    · rename_i t7
                      rw [if_pos t7] at he
                      simpa using he
                    · rename_i t7
                      exact absurd hc t7
theorem list_ext {s x : ByteArray} (a : Nat) : (s ++ x).data.toList = s.data.toList ++ x.data.toList := by
  simp
theorem ext_list (s : ByteArray) (a b : Nat) : (s.extract a b).data.toList = (s.data.toList.drop a).take (b - a) := by
  simp [List.extract_eq_take_drop]
/-- A length that a text says, a longer text says too. -/
theorem ans_more {u v : ByteArray} {n k : Nat} {l : List UInt8} (hv : v.data.toList = u.data.toList ++ l) (h : Ans u n k) (hk : k ≠ 0) : Ans v n k := by
  rcases h with ⟨_, e, _⟩ | ⟨h1, h2, h3, h4, h5⟩
  · exact absurd e hk
  · have hu : u.data.toList.length = u.size := rfl
    have hs : v.size = u.size + l.length := by have := congrArg List.length hv; rw [List.length_append] at this; exact this
    have ha : ∀ j, j < u.size → at_ v j = at_ u j := by
      intro j hj
      unfold at_
      rw [hv, List.getD_eq_getElem?_getD, List.getD_eq_getElem?_getD, List.getElem?_append_left (by omega)]
    refine Or.inr ⟨h1, h2, by omega, ?_, ?_⟩
    · obtain ⟨c1, c2, c3⟩ := h4
      unfold canonK
      rw [ha _ (by omega)]
      exact ⟨fun j hj => by rw [ha _ (by omega)]; exact c1 j hj, c2, c3⟩
    · rw [h5, hv, List.take_append_of_le_length (by omega)]
theorem not_both {s z : ByteArray} (hz : 1 ≤ z.size) (h : (rdT (s ++ z)).2 = 0) (h' : (rdT s).2 = 0) : False := by
  obtain ⟨_, a1, a2⟩ := root_of h
  obtain ⟨_, b1, b2⟩ := root_of h'
  unfold vrN at a1 b1
  unfold vrN lnN at a2 b2
  have A := rvm_ans a1
  have B := rvm_ans b1
  have hl : s.data.toList.length = s.size := rfl
  have hz1 : z.data.toList.length = z.size := rfl
  have e : ((s ++ z).extract (0 + 1) (s ++ z).size).data.toList = (s.extract (0 + 1) s.size).data.toList ++ z.data.toList := by
    rw [ext_list, ext_list, list_ext 0, ByteArray.size_append, List.drop_append_of_le_length (by omega)]
    rw [List.take_of_length_le (by rw [List.length_append, List.length_drop]; omega), List.take_of_length_le (by rw [List.length_drop]; omega)]
  have C := ans_more e B b1
  obtain ⟨e1, e2⟩ := ans_one A C
  rw [ByteArray.size_append] at a2
  rw [ByteArray.size_append] at e1 e2
  omega
/-- Cut short by its last byte. -/
theorem cut_short {s : ByteArray} (h : (rdT s).2 = 0) : (rdT (s.extract 0 (s.size - 1))).2 ≠ 0 := by
  intro h'
  obtain ⟨_, a1, a2⟩ := root_of h
  have hs : 1 ≤ s.size := by omega
  refine not_both (s := s.extract 0 (s.size - 1)) (z := s.extract (s.size - 1) s.size) (by rw [ByteArray.size_extract]; omega) ?_ h'
  have e : s.extract 0 (s.size - 1) ++ s.extract (s.size - 1) s.size = s := by
    rw [ByteArray.extract_append_extract]
    rw [Nat.min_eq_left (Nat.zero_le _), Nat.max_eq_right (by omega)]
    exact ByteArray.extract_zero_size
  rw [e]
  exact h
theorem made_long {s : ByteArray} (h : (rdT s).2 = 0) : (rdT (s ++ ⟨#[120]⟩)).2 ≠ 0 := fun h' => not_both (s := s) (z := ⟨#[120]⟩) (by decide) h' h
end Go.Proofs.YtengggpobhibcaaDoor.Nd
