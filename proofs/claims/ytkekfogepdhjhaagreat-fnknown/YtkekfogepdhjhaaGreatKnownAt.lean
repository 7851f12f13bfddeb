/- Plain facts and small functions of the law on what is known. -/
import Derived.Test.YtkekfogepdhjhaaGreatKnownMath
import Derived.Test.YtkekfogepdhjhaaGreatKeys3
import Derived.Test.YtkekfogepdhjhaaGreatLearn4
import Derived.Test.YtkekfogepdhjhaaGreatImplReach
import Derived.Test.YtkekfogepdhjhaaGreatDrawBuild
set_option linter.unusedVariables false
namespace Go.Proofs.YtkekfogepdhjhaaGreat
open Go.RowKit Go.Proofs.YtkekfogepdhjhaaGreat.Own Var Term Draw

theorem rise_len : ∀ (K : List Int) (lo hi : Int), K.Pairwise (· < ·) → (∀ k, k ∈ K → lo ≤ k ∧ k ≤ hi) → (K.length : Int) ≤ max 0 (hi - lo + 1) := by
  intro K
  induction K with
  | nil => intro lo hi _ _; simp; omega
  | cons x K ih =>
    intro lo hi hp h
    rw [List.pairwise_cons] at hp
    have hx := h x (by simp)
    have := ih (lo + 1) hi hp.2 (fun k hk => ⟨by have := hp.1 k hk; omega, (h k (by simp [hk])).2⟩)
    simp only [List.length_cons]
    omega
theorem keys_len {xs : List ByteArray} {ks K : List Int} (h : kOk xs ks = true) (hK : (∀ k, k ∈ K ↔ kOk xs ks = true ∧ ReachT xs ks k) ∧ K.Pairwise (· < ·)) : K.length ≤ 1048576 := by
  have := rise_len K 1 1000000 hK.2 (fun k hk => reach_range (kOk_facts h).2.2 ((hK.1 k).1 hk).2)
  omega
theorem putK_ok {xs : List ByteArray} {ks : List Int} (h : kOk xs ks = true) (x : Int) : kOk xs (putK ks x) = true := by
  unfold putK
  split
  · rename_i c
    have c1 := c.1
    rw [Bool.and_eq_true, decide_eq_true_eq, decide_eq_true_eq] at c1
    refine putL_ok h c1 (fun hx => ?_) c.2.2
    have := c.2.1
    rw [(hasB_iff _ _).2 hx] at this
    cases this
  · exact h
theorem putK_sub {ks : List Int} {x k : Int} (h : k ∈ ks) : k ∈ putK ks x := by
  unfold putK
  split
  · exact (putL_mem _ _ _).2 (Or.inr h)
  · exact h
theorem seen_built {xs : List ByteArray} {ks : List Int} {t : ByteArray} (h : kOk xs ks = true) (hs : SeenT xs ks t) : isT t = true ∧ CanB xs ks t := by
  refine ⟨seen_isT (kOk_facts h).1 hs, ?_⟩
  obtain ⟨S, K, hS, hK⟩ := seen_lists h
  rw [canB_iff hS hK]
  exact bld_seen ((inB_iff _ _).2 ((hS t).2 hs))
theorem big_go (a : Option Addr) (len cap : Nat) (W : World) (h : len ≤ 1048576) :
    Calls Tryz.prog 4 #[.slice a len cap] W fun e w' => e = .returned (.bool false) ∧ W = w' := by
  have hd : decide ((1048576 : Int) < (len : Int)) = false := by simp; omega
  go_enter Tryz.func4, Tryz.ntmps4
  go_wp2
  go_ret
  exact ⟨rfl, rfl⟩
theorem big_yes (a : Option Addr) (len cap : Nat) (W : World) (h : 1048576 < len) (h2 : len ≤ maxLen) :
    Calls Tryz.prog 4 #[.slice a len cap] W fun e w' => e = .returned (.bool true) ∧ W = w' := by
  unfold maxLen at h2
  have hd : decide ((1048576 : Int) < (len : Int)) = true := by simp; omega
  go_enter Tryz.func4, Tryz.ntmps4
  go_wp2
  go_ret
  exact ⟨rfl, rfl⟩
set_option maxRecDepth 100000 in
set_option maxHeartbeats 1600000 in
theorem at_go (a : Option Addr) (len cap : Nat) (zs : List Int) (W : World) (hz : CodeAt W W.heap.size a len zs) :
    Calls Tryz.prog 15 #[.slice a len cap, .int .i64 0] W fun e w' => ∃ z : Int, e = .returned (.int .i64 z) ∧ 0 ≤ z ∧ z ≤ 255 ∧ W = w' := by
  have hl := hz.1
  by_cases h : 0 < len
  · obtain ⟨⟨h1, h2⟩, b, off, e, hp, hc⟩ := hz.2 0 h
    subst e
    rw [Nat.add_zero] at hc
    generalize zs.getD 0 0 = z at h1 h2 hc
    have hd : decide ((0 : Int) < (len : Int)) = true := by simp; omega
    go_enter Tryz.func15, Tryz.ntmps15
    go_wp2
    go_ret
    exact ⟨z, by go_num, h1, h2, rfl⟩
  · obtain rfl : len = 0 := by omega
    go_enter Tryz.func15, Tryz.ntmps15
    go_wp2
    go_ret
    exact ⟨0, by go_num, by omega, by omega, rfl⟩
set_option maxRecDepth 100000 in
set_option maxHeartbeats 1600000 in
theorem same_is (a b : Option Addr) (ca cb : Nat) (xs : List Int) (w : World) (ha : RowAt (Value.int .i64) w a xs) (hb : RowAt (Value.int .i64) w b xs) (hl : xs.length ≤ 1048576) :
    Calls Tryz.prog 13 #[.slice a xs.length ca, .slice b xs.length cb] w fun e w' => e = .returned (.bool true) ∧ Below w.heap.size w w' := by
  go_enter Tryz.func13, Tryz.ntmps13
  go_wp2
  go_loopw [5] (fun i wr => ∃ k : Nat, k ≤ xs.length ∧ i = .int .i64 k ∧ Below w.heap.size w wr) (fun i _ => xs.length - (intOf i).toNat)
  case atStart => exact ⟨0, by omega, rfl, Below.refl _ _⟩
  case round =>
    obtain ⟨k, hk, rfl, hbel⟩ := hrel
    by_cases hlt : k < xs.length
    · obtain ⟨b1, o1, rfl, l1, hc1⟩ := ha k hlt
      obtain ⟨b2, o2, rfl, l2, hc2⟩ := hb k hlt
      rw [← hbel.cell (p := ⟨b1, o1 + k, none⟩) l1] at hc1
      rw [← hbel.cell (p := ⟨b2, o2 + k, none⟩) l2] at hc2
      generalize xs[k] = x at hc1 hc2
      go_wp2
      go_region
      all_goals
        go_wp2
        go_roundw
        case rel => exact ⟨k + 1, by omega, by go_num, hbel.drew⟩
        case measure => simp [intOf]; omega
    · go_wp2
      go_ret
      exact ⟨rfl, hbel⟩
theorem bool_of {v : Bool} {p q : Prop} (h : v = true ↔ p) (k : p ↔ q) {b : Bool} (hb : b = true ↔ q) : v = b := by
  rw [Bool.eq_iff_iff, h, k, hb]
theorem false_of {v : Bool} {p : Prop} (h : v = true ↔ p) (n : ¬ p) : v = false := by
  cases v with
  | false => rfl
  | true => exact absurd (h.1 rfl) n
theorem true_of {v : Bool} {p : Prop} (h : v = true ↔ p) (n : p) : v = true := h.2 n
theorem own_len {w : World} {base n c : Nat} {e : TypeId} {a : Option Addr} {xs : List Value} (h : w.ownsRow base e 1 (.slice a n c) n xs) : n ≤ c := by
  rcases h.2 with h0 | ⟨g, cap, cur, e1, e2, e3, e4⟩
  · simp_all
  · simp_all
/-- What a call learned: rows of its own. -/
theorem keep_rows {B : Nat} {w : World} {v : Value} {xs : List ByteArray} {ks : List Int} (h : KeepK B w v xs ks) : ∃ (a b : Option Addr) (c d : Nat), v = .agg #[.slice a xs.length c, .slice b ks.length d] ∧ RowAt Value.string w a xs ∧ RowAt (Value.int .i64) w b ks ∧ xs.length ≤ c := by
  obtain ⟨a, b, c, d, e, h1, h2⟩ := h
  exact ⟨a, b, c, d, e, own_rowAt (f := Value.string) h1, own_rowAt (f := Value.int .i64) h2, own_len h1⟩
theorem own_far {w : World} {base n c g : Nat} {e : TypeId} {a : Option Addr} {xs : List Value} (h : w.ownsRow base e 1 (.slice a n c) n xs) (hg : g < base) : ∀ p : Addr, a = some p → p.block ≠ g := by
  intro p e
  have := own_block h p e
  omega
theorem keep_far {B g : Nat} {w : World} {v : Value} {xs : List ByteArray} {ks : List Int} (h : KeepK B w v xs ks) (hg : g < B) : ∃ (a b : Option Addr) (c d : Nat), v = .agg #[.slice a xs.length c, .slice b ks.length d] ∧ RowAt Value.string w a xs ∧ RowAt (Value.int .i64) w b ks ∧ xs.length ≤ c ∧ (∀ p : Addr, a = some p → p.block ≠ g) ∧ (∀ p : Addr, b = some p → p.block ≠ g) := by
  obtain ⟨a, b, c, d, e, h1, h2⟩ := h
  exact ⟨a, b, c, d, e, own_rowAt (f := Value.string) h1, own_rowAt (f := Value.int .i64) h2, own_len h1, own_far h1 hg, own_far h2 hg⟩

end Go.Proofs.YtkekfogepdhjhaaGreat
