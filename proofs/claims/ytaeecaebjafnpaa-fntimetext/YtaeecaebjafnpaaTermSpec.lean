/- The document's model of terms: a term that stands at a place. -/
import Derived.Test.YtaeecaebjafnpaaBase
import Derived.Test.YtaeecaebjafnpaaRows
import Derived.Test.YtaeecaebjafnpaaTermMath
import Derived.Test.YtaeecaebjafnpaaReadVarSpec
import Derived.WalkKit
import Derived.WalkSpells
import Derived.WalkLawsBesides
import Derived.WalkMore
set_option linter.unusedVariables false
namespace Go.Proofs.Ytaeecaebjafnpaa
open Go.RowKit Own Var Term

theorem spec_rvf (s : ByteArray) (w : World) (h : s.size ≤ 1048576) (n k : Nat) (hn : rvN s = n) (hk : rvK s = k) :
    Calls Try.prog 72 #[.string s] w fun e w' => e = .returned (.tuple #[.int .i64 n, .int .i64 k]) ∧ Below w.heap.size w w' := by
  refine (spec_rv s w h).mono ?_
  rintro e w' ⟨n, k, rfl, ha, hb⟩
  obtain ⟨rfl, rfl⟩ := rv_one ha
  subst hn hk
  exact ⟨rfl, hb⟩
/-- What the model answers of a term that stands at a place. -/
def TA (s : ByteArray) (at_ : Nat) (o : Option ByteArray) (left n d : Nat) : Prop :=
  (o = none ∧ n = 0 ∧ d = 0) ∨ (1 ≤ n ∧ at_ + n ≤ s.size ∧ o = some (suf s (at_ + n)) ∧ d ≤ left)
theorem TA.no (s : ByteArray) (a left : Nat) {o : Option ByteArray} (h : o = none) : TA s a o left 0 0 := Or.inl ⟨h, rfl, rfl⟩
theorem ret2 {a b c d : Int} (h : a = b) (k : c = d) : Ending.returned (.tuple #[.int .i64 a, .int .i64 c]) = .returned (.tuple #[.int .i64 b, .int .i64 d]) := by rw [h, k]

set_option maxRecDepth 100000 in
set_option maxHeartbeats 3200000 in
theorem term_is (s : ByteArray) (hs : s.size ≤ 1048576) : ∀ (f : Nat) (a : Nat) (L : Int) (w : World), L = (f : Int) → f ≤ 8 → a ≤ s.size →
    Calls Try.prog 73 #[.string s, .int .i64 a, .int .i64 L] w fun e w' => ∃ n d : Nat, e = .returned (.tuple #[.int .i64 n, .int .i64 d]) ∧ TA s a (bh f (suf s a)) f n d ∧ Below w.heap.size w w' := by
  intro f
  induction f with
  | zero =>
    intro a L w hL _ ha
    by_cases h : a < s.size
    · have hL1 : L < 1 := by omega
      go_enter Try.func73, Try.ntmps73
      go_wp2
      go_ret2
      exact ⟨0, 0, rfl, TA.no s a 0 rfl, Below.refl _ _⟩
    · have h' : s.size ≤ a := by omega
      go_enter Try.func73, Try.ntmps73
      go_wp2
      go_ret2
      exact ⟨0, 0, rfl, TA.no s a 0 rfl, Below.refl _ _⟩
  | succ f ih =>
    intro a L w hL hf ha
    have hL1 : 1 ≤ L := by omega
    have hL8 : L ≤ 8 := by omega
    have HL : Hid (L - 1 = (f : Int)) := (by omega : L - 1 = (f : Int))
    clear hL
    by_cases h : a < s.size
    · obtain ⟨N, hN⟩ : ∃ N, rvN (suf s (a + 1)) = N := ⟨_, rfl⟩
      obtain ⟨K, hK⟩ : ∃ K, rvK (suf s (a + 1)) = K := ⟨_, rfl⟩
      have hKs := (rvK_le (suf s (a + 1))).2
      have hNle := rvN_le (suf s (a + 1))
      rw [hK, suf_size] at hKs
      rw [hN] at hNle
      have hat := at_eq s a h
      have hcut : cut (suf s a) = (if 1 ≤ K ∧ hdOk s[a].toNat N = true then some (N, suf s (a + 1 + K)) else none) := by
        unfold cut
        rw [suf_suf, suf_suf, suf_at, hN, hK, suf_size, ← hat]
        have e : (1 ≤ s.size - a ∧ 1 ≤ K ∧ hdOk s[a].toNat N = true) ↔ (1 ≤ K ∧ hdOk s[a].toNat N = true) := by constructor <;> (intro hh; first | exact hh.2 | exact ⟨by omega, hh⟩)
        by_cases c : 1 ≤ K ∧ hdOk s[a].toNat N = true
        · rw [if_pos c, if_pos (e.2 c)]; rw [Nat.add_assoc]
        · rw [if_neg c, if_neg (fun x => c (e.1 x))]
      have HN : Hid (rvN (suf s (a + 1)) = N) := hN
      have HK : Hid (rvK (suf s (a + 1)) = K) := hK
      have hbn : ¬ (1 ≤ K ∧ hdOk s[a].toNat N = true) → bh (f + 1) (suf s a) = none := fun c => bh_none (by rw [hcut, if_neg c])
      have hby : 1 ≤ K ∧ hdOk s[a].toNat N = true → bh (f + 1) (suf s a) = (if s[a].toNat = 97 then (if N ≤ (suf s (a + 1 + K)).size then some (suf (suf s (a + 1 + K)) N) else none) else if s[a].toNat = 108 then rep (bh f) N (suf s (a + 1 + K)) else if s[a].toNat = 115 then bh f (suf s (a + 1 + K)) else some (suf s (a + 1 + K))) := fun c => by
        have := bh_some (f := f) (by rw [hcut, if_pos c] : cut (suf s a) = some (N, suf s (a + 1 + K)))
        rw [suf_at, ← hat] at this
        exact this
      have hRV := fun w => spec_rvf (suf s (a + 1)) w (by rw [suf_size]; omega) N K hN hK
      clear hN hK hat hcut
      by_cases hK0 : K = 0
      · have HB : Hid (bh (f + 1) (suf s a) = none) := hbn (by omega)
        subst hK0
        clear hby hbn
        go_enter Try.func73, Try.ntmps73
        go_wp2_with fail
        refine (hRV w).mono ?_
        rintro e w1 ⟨rfl, hb1⟩
        go_wp2
        go_ret2
        exact ⟨0, 0, rfl, TA.no s a (f + 1) HB.out, hb1⟩
      · have hK1 : 1 ≤ K := by omega
        have hKn : ((K : Int) == 0) = false := by simp; omega
        by_cases h97 : s[a].toNat = 97
        · have e97 : ((s[a].toNat : Int) == 97) = true := by simp; omega
          by_cases hN4 : N ≤ 40
          · have hy := hby ⟨hK1, by rw [h97]; simp [hdOk]; omega⟩
            rw [if_pos h97, suf_size, suf_suf] at hy
            by_cases hNr : N ≤ s.size - (a + 1 + K)
            · rw [if_pos hNr] at hy
              have HB : Hid (bh (f + 1) (suf s a) = some (suf s (a + 1 + K + N))) := hy
              clear hby hbn hy
              go_enter Try.func73, Try.ntmps73
              go_wp2_with fail
              refine (hRV w).mono ?_
              rintro e w1 ⟨rfl, hb1⟩
              go_wp2
              go_ret2
              refine ⟨1 + K + N, 1, ret2 (by omega) rfl, Or.inr ⟨by omega, by omega, ?_, by omega⟩, hb1⟩
              rw [HB.out, (by omega : a + 1 + K + N = a + (1 + K + N))]
            · rw [if_neg hNr] at hy
              have HB : Hid (bh (f + 1) (suf s a) = none) := hy
              clear hby hbn hy
              go_enter Try.func73, Try.ntmps73
              go_wp2_with fail
              refine (hRV w).mono ?_
              rintro e w1 ⟨rfl, hb1⟩
              go_wp2
              go_ret2
              exact ⟨0, 0, rfl, TA.no s a (f + 1) HB.out, hb1⟩
          · have HB : Hid (bh (f + 1) (suf s a) = none) := hbn (by rw [h97]; simp [hdOk]; omega)
            clear hby hbn
            go_enter Try.func73, Try.ntmps73
            go_wp2_with fail
            refine (hRV w).mono ?_
            rintro e w1 ⟨rfl, hb1⟩
            go_wp2
            go_ret2
            exact ⟨0, 0, rfl, TA.no s a (f + 1) HB.out, hb1⟩
        · have e97 : ((s[a].toNat : Int) == 97) = false := by simp; omega
          rw [if_neg h97] at hby
          by_cases h107 : s[a].toNat = 107
          · have e107 : ((s[a].toNat : Int) == 107) = true := by simp; omega
            by_cases hNk : 1 ≤ N ∧ N ≤ 1000000
            · have hy := hby ⟨hK1, by rw [h107]; simp [hdOk]; omega⟩
              rw [if_neg (by omega), if_neg (by omega)] at hy
              have HB : Hid (bh (f + 1) (suf s a) = some (suf s (a + 1 + K))) := hy
              have hin : (decide ((1 : Int) ≤ (N : Int)) && decide ((N : Int) ≤ 1000000)) = true := by simp; omega
              clear hby hbn hy
              go_enter Try.func73, Try.ntmps73
              go_wp2_with fail
              refine (hRV w).mono ?_
              rintro e w1 ⟨rfl, hb1⟩
              go_wp2_with fail
              refine (in_is _ _ _ _).mono ?_
              rw [hin]
              rintro e w2 ⟨rfl, rfl⟩
              go_wp2
              go_ret2
              refine ⟨1 + K, 1, ret2 (by omega) rfl, Or.inr ⟨by omega, by omega, ?_, by omega⟩, hb1⟩
              rw [HB.out, (by omega : a + 1 + K = a + (1 + K))]
            · have HB : Hid (bh (f + 1) (suf s a) = none) := hbn (by rw [h107]; simp [hdOk]; omega)
              have hin : (decide ((1 : Int) ≤ (N : Int)) && decide ((N : Int) ≤ 1000000)) = false := by rw [Bool.eq_false_iff]; simp; omega
              clear hby hbn
              go_enter Try.func73, Try.ntmps73
              go_wp2_with fail
              refine (hRV w).mono ?_
              rintro e w1 ⟨rfl, hb1⟩
              go_wp2_with fail
              refine (in_is _ _ _ _).mono ?_
              rw [hin]
              rintro e w2 ⟨rfl, rfl⟩
              go_wp2
              go_ret2
              exact ⟨0, 0, rfl, TA.no s a (f + 1) HB.out, hb1⟩
          · have e107 : ((s[a].toNat : Int) == 107) = false := by simp; omega
            by_cases h115 : s[a].toNat = 115
            · have e115 : ((s[a].toNat : Int) == 115) = true := by simp; omega
              have hih := fun w => ih (a + 1 + K) (L - 1) w HL.out (by omega) (by omega)
              by_cases hNk : 1 ≤ N ∧ N ≤ 1000000
              · have hy := hby ⟨hK1, by rw [h115]; simp [hdOk]; omega⟩
                rw [if_neg (by omega), if_pos h115] at hy
                have HB : Hid (bh (f + 1) (suf s a) = bh f (suf s (a + 1 + K))) := hy
                have hin : (decide ((1 : Int) ≤ (N : Int)) && decide ((N : Int) ≤ 1000000)) = true := by simp; omega
                clear hby hbn hy
                go_enter Try.func73, Try.ntmps73
                go_wp2_with fail
                refine (hRV w).mono ?_
                rintro e w1 ⟨rfl, hb1⟩
                go_wp2_with fail
                rw [(by omega : (a : Int) + 1 + (K : Int) = ((a + 1 + K : Nat) : Int))]
                refine (hih w1).mono ?_
                rintro e w2 ⟨m, d, rfl, hTA, hb2⟩
                have hb3 := hb1.trans (hb2.mono hb1.size)
                rcases hTA with ⟨hn, rfl, rfl⟩ | ⟨hm1, hm2, hso, hd⟩
                · go_wp2
                  go_ret2
                  exact ⟨0, 0, rfl, TA.no s a (f + 1) (by rw [HB.out, hn]), hb3⟩
                · have hmn : ((m : Int) == 0) = false := by simp; omega
                  go_wp2_with fail
                  refine (in_is _ _ _ _).mono ?_
                  rw [hin]
                  rintro e w3 ⟨rfl, rfl⟩
                  go_wp2
                  go_ret2
                  refine ⟨1 + K + m, 1 + d, ret2 (by omega) (by omega), Or.inr ⟨by omega, by omega, ?_, by omega⟩, hb3⟩
                  rw [HB.out, hso, (by omega : a + 1 + K + m = a + (1 + K + m))]
              · have HB : Hid (bh (f + 1) (suf s a) = none) := hbn (by rw [h115]; simp [hdOk]; omega)
                have hin : (decide ((1 : Int) ≤ (N : Int)) && decide ((N : Int) ≤ 1000000)) = false := by rw [Bool.eq_false_iff]; simp; omega
                clear hby hbn
                go_enter Try.func73, Try.ntmps73
                go_wp2_with fail
                refine (hRV w).mono ?_
                rintro e w1 ⟨rfl, hb1⟩
                go_wp2_with fail
                rw [(by omega : (a : Int) + 1 + (K : Int) = ((a + 1 + K : Nat) : Int))]
                refine (hih w1).mono ?_
                rintro e w2 ⟨m, d, rfl, hTA, hb2⟩
                have hb3 := hb1.trans (hb2.mono hb1.size)
                rcases hTA with ⟨hn, rfl, rfl⟩ | ⟨hm1, hm2, hso, hd⟩
                · go_wp2
                  go_ret2
                  exact ⟨0, 0, rfl, TA.no s a (f + 1) HB.out, hb3⟩
                · have hmn : ((m : Int) == 0) = false := by simp; omega
                  go_wp2_with fail
                  refine (in_is _ _ _ _).mono ?_
                  rw [hin]
                  rintro e w3 ⟨rfl, rfl⟩
                  go_wp2
                  go_ret2
                  exact ⟨0, 0, rfl, TA.no s a (f + 1) HB.out, hb3⟩
            · have e115 : ((s[a].toNat : Int) == 115) = false := by simp; omega
              by_cases h108 : s[a].toNat = 108
              · have e108 : ((s[a].toNat : Int) == 108) = true := by simp; omega
                by_cases hN12 : N ≤ 12
                · have hy := hby ⟨hK1, by rw [h108]; simp [hdOk]; omega⟩
                  rw [if_pos h108] at hy
                  have HB : Hid (bh (f + 1) (suf s a) = rep (bh f) N (suf s (a + 1 + K))) := hy
                  have hih := fun E hE w => ih E (L - 1) w HL.out (by omega) hE
                  clear hby hbn hy
                  go_enter Try.func73, Try.ntmps73
                  go_wp2_with fail
                  refine (hRV w).mono ?_
                  rintro e w1 ⟨rfl, hb1⟩
                  go_wp2_with fail
                  go_loopw [10, 13, 14] (fun e dp i wr => ∃ k E D : Nat, k ≤ N ∧ a + 1 + K ≤ E ∧ E ≤ s.size ∧ D ≤ f ∧ i = .int .i64 k ∧ e = .int .i64 E ∧ dp = .int .i64 D ∧ Hid (rep (bh f) N (suf s (a + 1 + K)) = rep (bh f) (N - k) (suf s E)) ∧ Below w.heap.size w wr) (fun _ _ i _ => N - (intOf i).toNat)
                  case atStart => exact ⟨0, a + 1 + K, 0, by omega, by omega, by omega, by omega, rfl, by go_num, rfl, rfl, hb1⟩
                  case round =>
                    obtain ⟨k, E, D, hk, hE1, hE2, hD, rfl, rfl, rfl, HR, hbel⟩ := hrel
                    by_cases hkN : k < N
                    · obtain ⟨q, hq⟩ : ∃ q, N - k = q + 1 := ⟨N - k - 1, by omega⟩
                      have hq2 : N - (k + 1) = q := by omega
                      go_wp2_with fail
                      refine (hih E hE2 wr).mono ?_
                      rintro e w2 ⟨m, d, rfl, hTA, hb2⟩
                      have hb3 := hbel.trans (hb2.mono hbel.size)
                      rcases hTA with ⟨hno, rfl, rfl⟩ | ⟨hm1, hm2, hso, hd⟩
                      · have HB2 : Hid (bh (f + 1) (suf s a) = none) := (by rw [HB.out, HR.out, hq, rep, hno] : bh (f + 1) (suf s a) = none)
                        go_wp2
                        go_ret2
                        exact ⟨0, 0, rfl, TA.no s a (f + 1) HB2.out, hb3⟩
                      · have hmn : ((m : Int) == 0) = false := by simp; omega
                        have HR2 : Hid (rep (bh f) N (suf s (a + 1 + K)) = rep (bh f) (N - (k + 1)) (suf s (E + m))) := (by rw [HR.out, hq, rep, hso, hq2] : rep (bh f) N (suf s (a + 1 + K)) = rep (bh f) (N - (k + 1)) (suf s (E + m)))
                        by_cases hdd : D < d
                        · have hdd' : (D : Int) < (d : Int) := by omega
                          go_wp2
                          go_roundw
                          case rel =>
                            have R : ∃ k' E' D' : Nat, k' ≤ N ∧ a + 1 + K ≤ E' ∧ E' ≤ s.size ∧ D' ≤ f ∧ Value.int .i64 ((k : Int) + 1) = .int .i64 k' ∧ Value.int .i64 ((E : Int) + (m : Int)) = .int .i64 E' ∧ Value.int .i64 (d : Int) = .int .i64 D' ∧ Hid (rep (bh f) N (suf s (a + 1 + K)) = rep (bh f) (N - k') (suf s E')) ∧ Below w.heap.size w w2 :=
                              ⟨k + 1, E + m, d, by omega, by omega, by omega, by omega, by go_num, by go_num, rfl, HR2, hb3⟩
                            first | exact R | ((repeat apply Exists.intro); exact ⟨R, rfl⟩)
                          case measure => simp [intOf]; omega
                        · have hdd' : (d : Int) ≤ (D : Int) := by omega
                          go_wp2
                          go_roundw
                          case rel =>
                            have R : ∃ k' E' D' : Nat, k' ≤ N ∧ a + 1 + K ≤ E' ∧ E' ≤ s.size ∧ D' ≤ f ∧ Value.int .i64 ((k : Int) + 1) = .int .i64 k' ∧ Value.int .i64 ((E : Int) + (m : Int)) = .int .i64 E' ∧ Value.int .i64 (D : Int) = .int .i64 D' ∧ Hid (rep (bh f) N (suf s (a + 1 + K)) = rep (bh f) (N - k') (suf s E')) ∧ Below w.heap.size w w2 :=
                              ⟨k + 1, E + m, D, by omega, by omega, by omega, by omega, by go_num, by go_num, rfl, HR2, hb3⟩
                            first | exact R | ((repeat apply Exists.intro); exact ⟨R, rfl⟩)
                          case measure => simp [intOf]; omega
                    · have HB2 : Hid (bh (f + 1) (suf s a) = some (suf s E)) := (by rw [HB.out, HR.out, (by omega : N - k = 0), rep] : bh (f + 1) (suf s a) = some (suf s E))
                      go_wp2
                      go_ret2
                      refine ⟨E - a, 1 + D, ret2 (by omega) (by omega), Or.inr ⟨by omega, by omega, ?_, by omega⟩, hbel⟩
                      rw [HB2.out, (by omega : a + (E - a) = E)]
                · have HB : Hid (bh (f + 1) (suf s a) = none) := hbn (by rw [h108]; simp [hdOk]; omega)
                  clear hby hbn
                  go_enter Try.func73, Try.ntmps73
                  go_wp2_with fail
                  refine (hRV w).mono ?_
                  rintro e w1 ⟨rfl, hb1⟩
                  go_wp2
                  go_ret2
                  exact ⟨0, 0, rfl, TA.no s a (f + 1) HB.out, hb1⟩
              · have e108 : ((s[a].toNat : Int) == 108) = false := by simp; omega
                have HB : Hid (bh (f + 1) (suf s a) = none) := hbn (by simp [hdOk, h97, h107, h108, h115])
                clear hby hbn
                go_enter Try.func73, Try.ntmps73
                go_wp2_with fail
                refine (hRV w).mono ?_
                rintro e w1 ⟨rfl, hb1⟩
                go_wp2
                go_ret2
                exact ⟨0, 0, rfl, TA.no s a (f + 1) HB.out, hb1⟩
    · have h' : s.size ≤ a := by omega
      have HB : Hid (bh (f + 1) (suf s a) = none) := (by
        rw [bh]; simp only
        have e : cut (suf s a) = none := by unfold cut; rw [if_neg]; rw [suf_size]; omega
        rw [e] : bh (f + 1) (suf s a) = none)
      go_enter Try.func73, Try.ntmps73
      go_wp2
      go_ret2
      exact ⟨0, 0, rfl, TA.no s a (f + 1) HB.out, Below.refl _ _⟩
end Go.Proofs.Ytaeecaebjafnpaa
