/- The program's terms: what stands behind the term with which a text begins. -/
import Derived.Test.YtaeecaebjafnpaaTermImpl
set_option linter.unusedVariables false
namespace Go.Proofs.Ytaeecaebjafnpaa
open Go.RowKit Own Var Term

/-- What 'behind' ends with. -/
def ansB : Option ByteArray → Ending
  | some r => .returned (.string r)
  | none => .panicked noT

set_option maxRecDepth 100000 in
set_option maxHeartbeats 1600000 in
theorem behind_is (p : Addr) : ∀ (f : Nat) (s : ByteArray) (L : Int) (w : World), L = 9 - (f : Int) → f ≤ 8 → s.size ≤ 1048576 → p.block < w.heap.size → w.cell? p = some (.func (.func 81) #[] #[.pointer (some p)]) →
    Calls Try.prog 81 #[.string s, .int .i64 L, .pointer (some p)] w fun e w' => e = ansB (bh f s) ∧ Below w.heap.size w w' := by
  intro f
  induction f with
  | zero =>
    intro s L w hL _ hs hp hc
    have hL8 : 8 < L := by omega
    go_enter Try.func81, Try.ntmps81
    go_wp2_with fail
    refine (must_no _).mono ?_
    rintro e w' ⟨rfl, rfl⟩
    go_wp2
    exact ⟨rfl, rfl, Below.refl _ _⟩
  | succ f ih =>
    intro s L w hL hf hs hp hc
    have hL8 : L ≤ 8 := by omega
    have hL0 : 0 ≤ L := by omega
    have HL : Hid (L + 1 = 9 - (f : Int)) := (by omega : L + 1 = 9 - (f : Int))
    clear hL
    cases hcut : Term.cut s with
    | none =>
      have HB : Hid (bh (f + 1) s = none) := (by rw [bh]; simp only [hcut] : bh (f + 1) s = none)
      go_enter Try.func81, Try.ntmps81
      go_wp2_with fail
      refine (must_yes _).mono ?_
      rintro e w' ⟨rfl, rfl⟩
      go_wp2_with fail
      refine (cutHead_no s _ hs hcut).mono ?_
      rintro e w1 ⟨rfl, hb1⟩
      go_wp2
      exact ⟨rfl, by rw [HB.out]; rfl, hb1⟩
    | some q =>
      obtain ⟨n, r⟩ := q
      obtain ⟨hz, hn, j, hj, hj2, hr⟩ := cut_size hcut
      have hB : bh (f + 1) s = (if at_ s 0 = 97 then (if n ≤ r.size then some (suf r n) else none) else if at_ s 0 = 108 then rep (bh f) n r else if at_ s 0 = 115 then bh f r else some r) := by rw [bh]; simp only [hcut]
      have hat := at_eq s 0 (by omega)
      rw [← hat] at hB
      clear hr hat
      by_cases h97 : s[0].toNat = 97
      · have e97 : ((s[0].toNat : Int) == 97) = true := by simp; omega
        rw [if_pos h97] at hB
        by_cases hnr : n ≤ r.size
        · rw [if_pos hnr] at hB
          have HB : Hid (bh (f + 1) s = some (suf r n)) := hB
          clear hB
          go_enter Try.func81, Try.ntmps81
          go_wp2_with fail
          refine (must_yes _).mono ?_
          rintro e w' ⟨rfl, rfl⟩
          go_wp2_with fail
          refine (cutHead_yes s r n _ hs hcut).mono ?_
          rintro e w1 ⟨rfl, hb1⟩
          go_wp2_with fail
          refine (must_yes _).mono ?_
          rintro e w' ⟨rfl, rfl⟩
          go_wp2
          go_ret
          exact ⟨by rw [HB.out]; rfl, hb1⟩
        · rw [if_neg hnr] at hB
          have HB : Hid (bh (f + 1) s = none) := hB
          clear hB
          go_enter Try.func81, Try.ntmps81
          go_wp2_with fail
          refine (must_yes _).mono ?_
          rintro e w' ⟨rfl, rfl⟩
          go_wp2_with fail
          refine (cutHead_yes s r n _ hs hcut).mono ?_
          rintro e w1 ⟨rfl, hb1⟩
          go_wp2_with fail
          refine (must_no _).mono ?_
          rintro e w' ⟨rfl, rfl⟩
          go_wp2
          exact ⟨rfl, by rw [HB.out]; rfl, hb1⟩
      · rw [if_neg h97] at hB
        have e97 : ((s[0].toNat : Int) == 97) = false := by simp; omega
        by_cases h108 : s[0].toNat = 108
        · rw [if_pos h108] at hB
          have e108 : ((s[0].toNat : Int) == 108) = true := by simp; omega
          have HB : Hid (bh (f + 1) s = rep (bh f) n r) := hB
          clear hB
          go_enter Try.func81, Try.ntmps81
          go_wp2_with fail
          refine (must_yes _).mono ?_
          rintro e w' ⟨rfl, rfl⟩
          go_wp2_with fail
          refine (cutHead_yes s r n _ hs hcut).mono ?_
          rintro e w1 ⟨rfl, hb1⟩
          go_wp2_with fail
          go_loopw [7, 31] (fun x i wr => ∃ (k : Nat) (t : ByteArray), k ≤ n ∧ i = .int .i64 k ∧ x = .string t ∧ t.size ≤ 1048576 ∧ Hid (rep (bh f) n r = rep (bh f) (n - k) t) ∧ Below w.heap.size w wr) (fun _ i _ => n - (intOf i).toNat)
          case atStart => exact ⟨0, r, by omega, rfl, rfl, by omega, rfl, hb1⟩
          case round =>
            obtain ⟨k, t, hk, rfl, rfl, ht, HR, hbel⟩ := hrel
            have hcr := (hbel.cell hp).trans hc
            by_cases hkn : k < n
            · obtain ⟨m, hm⟩ : ∃ m, n - k = m + 1 := ⟨n - k - 1, by omega⟩
              have hm2 : n - (k + 1) = m := by omega
              cases hg : bh f t with
              | none =>
                have HB2 : Hid (bh (f + 1) s = none) := (by rw [HB.out, HR.out, hm, rep, hg] : bh (f + 1) s = none)
                go_wp2_with fail
                refine (ih t (L + 1) wr HL.out (by omega) ht (by have := hbel.size; omega) hcr).mono ?_
                simp only [hg, ansB]
                rintro e w2 ⟨rfl, hb2⟩
                go_wp2
                exact ⟨rfl, by rw [HB2.out]; rfl, hbel.trans (hb2.mono hbel.size)⟩
              | some t' =>
                have HR2 : Hid (rep (bh f) n r = rep (bh f) (n - (k + 1)) t') := (by rw [HR.out, hm, rep, hg, hm2] : rep (bh f) n r = rep (bh f) (n - (k + 1)) t')
                go_wp2_with fail
                refine (ih t (L + 1) wr HL.out (by omega) ht (by have := hbel.size; omega) hcr).mono ?_
                simp only [hg, ansB]
                rintro e w2 ⟨rfl, hb2⟩
                obtain ⟨j', _, hj', rfl⟩ := bh_suf f t t' hg
                have ht' : (suf t j').size ≤ 1048576 := by rw [suf_size]; omega
                have hb3 := hbel.trans (hb2.mono hbel.size)
                go_wp2
                go_roundw
                case rel =>
                  have R : ∃ (k' : Nat) (t' : ByteArray), k' ≤ n ∧ Value.int .i64 ((k : Int) + 1) = .int .i64 k' ∧ Value.string (suf t j') = .string t' ∧ t'.size ≤ 1048576 ∧ Hid (rep (bh f) n r = rep (bh f) (n - k') t') ∧ Below w.heap.size w w2 :=
                    ⟨k + 1, _, by omega, by go_num, rfl, ht', HR2, hb3⟩
                  first | exact R | ((repeat apply Exists.intro); exact ⟨R, rfl⟩)
                case measure => simp [intOf]; omega
            · have HB2 : Hid (bh (f + 1) s = some t) := (by rw [HB.out, HR.out, (by omega : n - k = 0), rep] : bh (f + 1) s = some t)
              go_wp2
              go_ret
              exact ⟨by rw [HB2.out]; rfl, hbel⟩
        · rw [if_neg h108] at hB
          have e108 : ((s[0].toNat : Int) == 108) = false := by simp; omega
          by_cases h115 : s[0].toNat = 115
          · rw [if_pos h115] at hB
            have e115 : ((s[0].toNat : Int) == 115) = true := by simp; omega
            have HB : Hid (bh (f + 1) s = bh f r) := hB
            clear hB
            cases hbr : bh f r with
            | none =>
              go_enter Try.func81, Try.ntmps81
              go_wp2_with fail
              refine (must_yes _).mono ?_
              rintro e w' ⟨rfl, rfl⟩
              go_wp2_with fail
              refine (cutHead_yes s r n _ hs hcut).mono ?_
              rintro e w1 ⟨rfl, hb1⟩
              have hc1 := (hb1.cell hp).trans hc
              go_wp2_with fail
              refine (ih r (L + 1) w1 HL.out (by omega) (by omega) (by have := hb1.size; omega) hc1).mono ?_
              simp only [hbr, ansB]
              rintro e w2 ⟨rfl, hb2⟩
              go_wp2
              exact ⟨rfl, by rw [HB.out, hbr]; rfl, hb1.trans (hb2.mono hb1.size)⟩
            | some r' =>
              go_enter Try.func81, Try.ntmps81
              go_wp2_with fail
              refine (must_yes _).mono ?_
              rintro e w' ⟨rfl, rfl⟩
              go_wp2_with fail
              refine (cutHead_yes s r n _ hs hcut).mono ?_
              rintro e w1 ⟨rfl, hb1⟩
              have hc1 := (hb1.cell hp).trans hc
              go_wp2_with fail
              refine (ih r (L + 1) w1 HL.out (by omega) (by omega) (by have := hb1.size; omega) hc1).mono ?_
              simp only [hbr, ansB]
              rintro e w2 ⟨rfl, hb2⟩
              go_wp2
              go_ret
              exact ⟨by rw [HB.out, hbr]; rfl, hb1.trans (hb2.mono hb1.size)⟩
          · rw [if_neg h115] at hB
            have e115 : ((s[0].toNat : Int) == 115) = false := by simp; omega
            have HB : Hid (bh (f + 1) s = some r) := hB
            clear hB
            go_enter Try.func81, Try.ntmps81
            go_wp2_with fail
            refine (must_yes _).mono ?_
            rintro e w' ⟨rfl, rfl⟩
            go_wp2_with fail
            refine (cutHead_yes s r n _ hs hcut).mono ?_
            rintro e w1 ⟨rfl, hb1⟩
            go_wp2
            go_ret
            exact ⟨by rw [HB.out]; rfl, hb1⟩
end Go.Proofs.Ytaeecaebjafnpaa
