/- The program's terms: the head of a term, one contract each. -/
import Derived.Test.YtkekfogepdhjhaaGreatRows
import Derived.Test.YtkekfogepdhjhaaGreatOwn
import Derived.Test.YtkekfogepdhjhaaGreatVarWalks
import Derived.WalkKit
import Derived.WalkSpells
import Derived.WalkLawsBesides
import Derived.WalkMore
import Derived.Defers
import Derived.Recover
import Derived.Laws.EntriesVeiled
set_option linter.unusedVariables false
namespace Go.Proofs.YtkekfogepdhjhaaGreat
open Go.RowKit Own Var Term

/-- What 'no term' panics with. -/
def noT : List PanicEntry := [{ v := .iface 9 (.string ⟨#[110, 111, 32, 116, 101, 114, 109]⟩), recovered := false }]

theorem must_yes (w : World) : Calls Tryz.prog 86 #[.bool true] w fun e w' => e = .returned (.tuple #[]) ∧ w = w' := by
  go_enter Tryz.func86, Tryz.ntmps86
  go_wp2
  go_end0
  exact ⟨rfl, rfl⟩
theorem must_no (w : World) : Calls Tryz.prog 86 #[.bool false] w fun e w' => e = .panicked noT ∧ w = w' := by
  go_enter Tryz.func86, Tryz.ntmps86
  go_wp2
  exact ⟨rfl, rfl, rfl⟩

theorem impl_rvf (s : ByteArray) (w : World) (h : s.size ≤ 1048576) (n k : Nat) (hn : rvN s = n) (hk : rvK s = k) :
    Calls Tryz.prog 88 #[.string s] w fun e w' => e = .returned (.tuple #[.int .i64 n, .int .i64 k]) ∧ w = w' := by
  refine (impl_rv s w h).mono ?_
  rintro e w' ⟨n, k, rfl, ha, rfl⟩
  obtain ⟨rfl, rfl⟩ := rv_one ha
  subst hn hk
  exact ⟨rfl, rfl⟩

theorem keyOk_is (n : Int) (w : World) : Calls Tryz.prog 44 #[.int .i64 n] w fun e w' => e = .returned (.bool (decide (1 ≤ n) && decide (n ≤ 1000000))) ∧ w = w' := by
  by_cases h : 1 ≤ n
  · go_enter Tryz.func44, Tryz.ntmps44
    go_wp2
    go_ret
    refine ⟨?_, rfl⟩
    simp [h]
  · go_enter Tryz.func44, Tryz.ntmps44
    go_wp2
    go_ret
    refine ⟨?_, rfl⟩
    simp
    omega
theorem key_same (n : Nat) : (decide (1 ≤ (n : Int)) && decide ((n : Int) ≤ 1000000)) = decide (1 ≤ n ∧ n ≤ 1000000) := by
  rw [Bool.eq_iff_iff]; simp; omega
theorem ne_nil (s : ByteArray) (h : 1 ≤ s.size) : (s.toList == []) = false := by
  rw [Bool.eq_false_iff]; intro hh; simp at hh
  rw [ByteArray.toList_eq] at hh
  have h1 := congrArg List.length hh
  have h2 : s.data.toList.length = s.size := rfl
  simp only [List.length_nil] at h1
  omega

theorem headOk_is (c n : Nat) (w : World) : Calls Tryz.prog 89 #[.int .u8 c, .int .i64 n] w fun e w' => e = .returned (.bool (hdOk c n)) ∧ w = w' := by
  by_cases h1 : c = 97
  · subst h1
    go_enter Tryz.func89, Tryz.ntmps89
    go_wp2
    go_ret
    exact ⟨by simp [hdOk]; omega, rfl⟩
  · have e1 : ((c : Int) == 97) = false := by simp; omega
    by_cases h2 : c = 108
    · subst h2
      go_enter Tryz.func89, Tryz.ntmps89
      go_wp2
      go_ret
      exact ⟨by simp [hdOk]; omega, rfl⟩
    · have e2 : ((c : Int) == 108) = false := by simp; omega
      by_cases h3 : c = 107
      · subst h3
        go_enter Tryz.func89, Tryz.ntmps89
        go_wp2_with (go_at_call 44; refine (keyOk_is _ _).mono ?_; rintro e w' ⟨rfl, rfl⟩)
        go_ret
        refine ⟨?_, rfl⟩
        rw [key_same]; rfl
      · have e3 : ((c : Int) == 107) = false := by simp; omega
        by_cases h4 : c = 115
        · subst h4
          go_enter Tryz.func89, Tryz.ntmps89
          go_wp2_with (go_at_call 44; refine (keyOk_is _ _).mono ?_; rintro e w' ⟨rfl, rfl⟩)
          go_ret
          refine ⟨?_, rfl⟩
          rw [key_same]; rfl
        · have e4 : ((c : Int) == 115) = false := by simp; omega
          go_enter Tryz.func89, Tryz.ntmps89
          go_wp2
          go_ret
          exact ⟨by simp [hdOk, h1, h2, h3, h4], rfl⟩

theorem cutHead_yes (s r : ByteArray) (n : Nat) (w : World) (hs : s.size ≤ 1048576) (h : Term.cut s = some (n, r)) :
    Calls Tryz.prog 63 #[.string s] w fun e w' => e = .returned (.tuple #[.int .i64 n, .string r]) ∧ Below w.heap.size w w' := by
  unfold Term.cut at h
  have hK := rvK_le (suf s 1)
  have hz := suf_size s 1
  generalize hn : rvN (suf s 1) = N at h
  generalize hk : rvK (suf s 1) = K at h hK
  split at h
  · rename_i hc
    simp only [Option.some.injEq, Prod.mk.injEq] at h
    obtain ⟨rfl, rfl⟩ := h
    obtain ⟨h1, h2, h3⟩ := hc
    have hb := at_eq s 0 (by omega)
    rw [← hb] at h3
    have hne := ne_nil s h1
    have HN : Hid (rvN (suf s 1) = N) := hn
    have HK : Hid (rvK (suf s 1) = K) := hk
    have hKz : K + 1 ≤ s.size := by omega
    generalize hB : hdOk s[0].toNat N = B at h3
    have HB : Hid (hdOk s[0].toNat N = B) := hB
    subst h3
    clear hn hk hb hz hK hB
    go_enter Tryz.func63, Tryz.ntmps63
    go_wp2_with fail
    refine (must_yes _).mono ?_
    rintro e w' ⟨rfl, rfl⟩
    go_wp2_with fail
    refine (impl_rvf (suf s 1) _ (by rw [suf_size]; omega) N K HN.out HK.out).mono ?_
    rintro e w'' ⟨rfl, rfl⟩
    go_wp2_with fail
    refine (headOk_is s[0].toNat N _).mono ?_
    rintro e w' ⟨rfl, rfl⟩
    rw [HB.out]
    go_wp2_with fail
    refine (must_yes _).mono ?_
    rintro e w' ⟨rfl, rfl⟩
    go_wp2
    go_region
    all_goals
      go_wp2
      go_ret2
      exact ⟨rfl, by first | exact Below.refl _ _ | exact (Below.refl _ _).drew⟩
  · simp at h

theorem nil_size (s : ByteArray) (h : s.size = 0) : (s.toList == []) = true := by
  rw [empty_of s h, ByteArray.toList_eq]; rfl
theorem cutHead_no (s : ByteArray) (w : World) (hs : s.size ≤ 1048576) (h : Term.cut s = none) :
    Calls Tryz.prog 63 #[.string s] w fun e w' => e = .panicked noT ∧ Below w.heap.size w w' := by
  by_cases h1 : 1 ≤ s.size
  · unfold Term.cut at h
    have hK := rvK_le (suf s 1)
    have hz := suf_size s 1
    generalize hn : rvN (suf s 1) = N at h
    generalize hk : rvK (suf s 1) = K at h hK
    split at h
    · simp at h
    · rename_i hc
      clear h
      have hb := at_eq s 0 (by omega)
      rw [← hb] at hc
      have hne := ne_nil s h1
      have HN : Hid (rvN (suf s 1) = N) := hn
      have HK : Hid (rvK (suf s 1) = K) := hk
      have hKz : K + 1 ≤ s.size := by omega
      generalize hB : hdOk s[0].toNat N = B at hc
      have HB : Hid (hdOk s[0].toNat N = B) := hB
      clear hn hk hb hz hK hB
      by_cases h2 : 1 ≤ K
      · have h3 : B = false := by
          rcases Bool.eq_false_or_eq_true B with e | e
          · exact absurd ⟨h1, h2, e⟩ hc
          · exact e
        subst h3
        clear hc
        go_enter Tryz.func63, Tryz.ntmps63
        go_wp2_with fail
        refine (must_yes _).mono ?_
        rintro e w' ⟨rfl, rfl⟩
        go_wp2_with fail
        refine (impl_rvf (suf s 1) _ (by rw [suf_size]; omega) N K HN.out HK.out).mono ?_
        rintro e w'' ⟨rfl, rfl⟩
        go_wp2_with fail
        refine (headOk_is s[0].toNat N _).mono ?_
        rintro e w' ⟨rfl, rfl⟩
        rw [HB.out]
        go_wp2_with fail
        refine (must_no _).mono ?_
        rintro e w' ⟨rfl, rfl⟩
        go_wp2
        exact ⟨rfl, rfl, Below.refl _ _⟩
      · obtain rfl : K = 0 := by omega
        clear hc
        go_enter Tryz.func63, Tryz.ntmps63
        go_wp2_with fail
        refine (must_yes _).mono ?_
        rintro e w' ⟨rfl, rfl⟩
        go_wp2_with fail
        refine (impl_rvf (suf s 1) _ (by rw [suf_size]; omega) N 0 HN.out HK.out).mono ?_
        rintro e w'' ⟨rfl, rfl⟩
        go_wp2_with fail
        refine (must_no _).mono ?_
        rintro e w' ⟨rfl, rfl⟩
        go_wp2
        exact ⟨rfl, rfl, Below.refl _ _⟩
  · have hne := nil_size s (by omega)
    clear h
    go_enter Tryz.func63, Tryz.ntmps63
    go_wp2_with fail
    refine (must_no _).mono ?_
    rintro e w' ⟨rfl, rfl⟩
    go_wp2
    exact ⟨rfl, rfl, Below.refl _ _⟩
end Go.Proofs.YtkekfogepdhjhaaGreat

set_option linter.unusedVariables false
namespace Go.Proofs.YtkekfogepdhjhaaGreat
open Go.RowKit Own Var Term

/-- What 'behind' ends with. -/
def ansB : Option ByteArray → Ending
  | some r => .returned (.string r)
  | none => .panicked noT

set_option maxRecDepth 100000 in
set_option maxHeartbeats 1600000 in
theorem behind_is (p : Addr) : ∀ (f : Nat) (s : ByteArray) (L : Int) (w : World), L = 9 - (f : Int) → f ≤ 8 → s.size ≤ 1048576 → p.block < w.heap.size → w.cell? p = some (.func (.func 105) #[] #[.pointer (some p)]) →
    Calls Tryz.prog 105 #[.string s, .int .i64 L, .pointer (some p)] w fun e w' => e = ansB (bh f s) ∧ Below w.heap.size w w' := by
  intro f
  induction f with
  | zero =>
    intro s L w hL _ hs hp hc
    have hL8 : 8 < L := by omega
    go_enter Tryz.func105, Tryz.ntmps105
    go_wp2_with fail
    refine (must_no _).mono ?_
    rintro e w' ⟨rfl, rfl⟩
    go_wp2
    exact ⟨rfl, rfl, Below.refl _ _⟩
  | succ f ih =>
    intro s L w hL hf hs hp hc
    have hL8 : L ≤ 8 := by omega
    have hL0 : 0 ≤ L := by omega
    have HL : Hid (L + 1 = 9 - (f : Int)) := (by omega : L + 1 = 9 - (f : Int))
    clear hL
    cases hcut : Term.cut s with
    | none =>
      have HB : Hid (bh (f + 1) s = none) := (by rw [bh]; simp only [hcut] : bh (f + 1) s = none)
      go_enter Tryz.func105, Tryz.ntmps105
      go_wp2_with fail
      refine (must_yes _).mono ?_
      rintro e w' ⟨rfl, rfl⟩
      go_wp2_with fail
      refine (cutHead_no s _ hs hcut).mono ?_
      rintro e w1 ⟨rfl, hb1⟩
      go_wp2
      exact ⟨rfl, by rw [HB.out]; rfl, hb1⟩
    | some q =>
      obtain ⟨n, r⟩ := q
      obtain ⟨hz, hn, j, hj, hj2, hr⟩ := cut_size hcut
      have hB : bh (f + 1) s = (if at_ s 0 = 97 then (if n ≤ r.size then some (suf r n) else none) else if at_ s 0 = 108 then rep (bh f) n r else if at_ s 0 = 115 then bh f r else some r) := by rw [bh]; simp only [hcut]
      have hat := at_eq s 0 (by omega)
      rw [← hat] at hB
      clear hr hat
      by_cases h97 : s[0].toNat = 97
      · have e97 : ((s[0].toNat : Int) == 97) = true := by simp; omega
        rw [if_pos h97] at hB
        by_cases hnr : n ≤ r.size
        · rw [if_pos hnr] at hB
          have HB : Hid (bh (f + 1) s = some (suf r n)) := hB
          clear hB
          go_enter Tryz.func105, Tryz.ntmps105
          go_wp2_with fail
          refine (must_yes _).mono ?_
          rintro e w' ⟨rfl, rfl⟩
          go_wp2_with fail
          refine (cutHead_yes s r n _ hs hcut).mono ?_
          rintro e w1 ⟨rfl, hb1⟩
          go_wp2_with fail
          refine (must_yes _).mono ?_
          rintro e w' ⟨rfl, rfl⟩
          go_wp2
          go_ret
          exact ⟨by rw [HB.out]; rfl, hb1⟩
        · rw [if_neg hnr] at hB
          have HB : Hid (bh (f + 1) s = none) := hB
          clear hB
          go_enter Tryz.func105, Tryz.ntmps105
          go_wp2_with fail
          refine (must_yes _).mono ?_
          rintro e w' ⟨rfl, rfl⟩
          go_wp2_with fail
          refine (cutHead_yes s r n _ hs hcut).mono ?_
          rintro e w1 ⟨rfl, hb1⟩
          go_wp2_with fail
          refine (must_no _).mono ?_
          rintro e w' ⟨rfl, rfl⟩
          go_wp2
          exact ⟨rfl, by rw [HB.out]; rfl, hb1⟩
      · rw [if_neg h97] at hB
        have e97 : ((s[0].toNat : Int) == 97) = false := by simp; omega
        by_cases h108 : s[0].toNat = 108
        · rw [if_pos h108] at hB
          have e108 : ((s[0].toNat : Int) == 108) = true := by simp; omega
          have HB : Hid (bh (f + 1) s = rep (bh f) n r) := hB
          clear hB
          go_enter Tryz.func105, Tryz.ntmps105
          go_wp2_with fail
          refine (must_yes _).mono ?_
          rintro e w' ⟨rfl, rfl⟩
          go_wp2_with fail
          refine (cutHead_yes s r n _ hs hcut).mono ?_
          rintro e w1 ⟨rfl, hb1⟩
          go_wp2_with fail
          go_loopw [7, 31] (fun x i wr => ∃ (k : Nat) (t : ByteArray), k ≤ n ∧ i = .int .i64 k ∧ x = .string t ∧ t.size ≤ 1048576 ∧ Hid (rep (bh f) n r = rep (bh f) (n - k) t) ∧ Below w.heap.size w wr) (fun _ i _ => n - (intOf i).toNat)
          case atStart => exact ⟨0, r, by omega, rfl, rfl, by omega, rfl, hb1⟩
          case round =>
            obtain ⟨k, t, hk, rfl, rfl, ht, HR, hbel⟩ := hrel
            have hcr := (hbel.cell hp).trans hc
            by_cases hkn : k < n
            · obtain ⟨m, hm⟩ : ∃ m, n - k = m + 1 := ⟨n - k - 1, by omega⟩
              have hm2 : n - (k + 1) = m := by omega
              cases hg : bh f t with
              | none =>
                have HB2 : Hid (bh (f + 1) s = none) := (by rw [HB.out, HR.out, hm, rep, hg] : bh (f + 1) s = none)
                go_wp2_with fail
                refine (ih t (L + 1) wr HL.out (by omega) ht (by have := hbel.size; omega) hcr).mono ?_
                simp only [hg, ansB]
                rintro e w2 ⟨rfl, hb2⟩
                go_wp2
                exact ⟨rfl, by rw [HB2.out]; rfl, hbel.trans (hb2.mono hbel.size)⟩
              | some t' =>
                have HR2 : Hid (rep (bh f) n r = rep (bh f) (n - (k + 1)) t') := (by rw [HR.out, hm, rep, hg, hm2] : rep (bh f) n r = rep (bh f) (n - (k + 1)) t')
                go_wp2_with fail
                refine (ih t (L + 1) wr HL.out (by omega) ht (by have := hbel.size; omega) hcr).mono ?_
                simp only [hg, ansB]
                rintro e w2 ⟨rfl, hb2⟩
                obtain ⟨j', _, hj', rfl⟩ := bh_suf f t t' hg
                have ht' : (suf t j').size ≤ 1048576 := by rw [suf_size]; omega
                have hb3 := hbel.trans (hb2.mono hbel.size)
                go_wp2
                go_roundw
                case rel =>
                  have R : ∃ (k' : Nat) (t' : ByteArray), k' ≤ n ∧ Value.int .i64 ((k : Int) + 1) = .int .i64 k' ∧ Value.string (suf t j') = .string t' ∧ t'.size ≤ 1048576 ∧ Hid (rep (bh f) n r = rep (bh f) (n - k') t') ∧ Below w.heap.size w w2 :=
                    ⟨k + 1, _, by omega, by go_num, rfl, ht', HR2, hb3⟩
                  first | exact R | ((repeat apply Exists.intro); exact ⟨R, rfl⟩)
                case measure => simp [intOf]; omega
            · have HB2 : Hid (bh (f + 1) s = some t) := (by rw [HB.out, HR.out, (by omega : n - k = 0), rep] : bh (f + 1) s = some t)
              go_wp2
              go_ret
              exact ⟨by rw [HB2.out]; rfl, hbel⟩
        · rw [if_neg h108] at hB
          have e108 : ((s[0].toNat : Int) == 108) = false := by simp; omega
          by_cases h115 : s[0].toNat = 115
          · rw [if_pos h115] at hB
            have e115 : ((s[0].toNat : Int) == 115) = true := by simp; omega
            have HB : Hid (bh (f + 1) s = bh f r) := hB
            clear hB
            cases hbr : bh f r with
            | none =>
              go_enter Tryz.func105, Tryz.ntmps105
              go_wp2_with fail
              refine (must_yes _).mono ?_
              rintro e w' ⟨rfl, rfl⟩
              go_wp2_with fail
              refine (cutHead_yes s r n _ hs hcut).mono ?_
              rintro e w1 ⟨rfl, hb1⟩
              have hc1 := (hb1.cell hp).trans hc
              go_wp2_with fail
              refine (ih r (L + 1) w1 HL.out (by omega) (by omega) (by have := hb1.size; omega) hc1).mono ?_
              simp only [hbr, ansB]
              rintro e w2 ⟨rfl, hb2⟩
              go_wp2
              exact ⟨rfl, by rw [HB.out, hbr]; rfl, hb1.trans (hb2.mono hb1.size)⟩
            | some r' =>
              go_enter Tryz.func105, Tryz.ntmps105
              go_wp2_with fail
              refine (must_yes _).mono ?_
              rintro e w' ⟨rfl, rfl⟩
              go_wp2_with fail
              refine (cutHead_yes s r n _ hs hcut).mono ?_
              rintro e w1 ⟨rfl, hb1⟩
              have hc1 := (hb1.cell hp).trans hc
              go_wp2_with fail
              refine (ih r (L + 1) w1 HL.out (by omega) (by omega) (by have := hb1.size; omega) hc1).mono ?_
              simp only [hbr, ansB]
              rintro e w2 ⟨rfl, hb2⟩
              go_wp2
              go_ret
              exact ⟨by rw [HB.out, hbr]; rfl, hb1.trans (hb2.mono hb1.size)⟩
          · rw [if_neg h115] at hB
            have e115 : ((s[0].toNat : Int) == 115) = false := by simp; omega
            have HB : Hid (bh (f + 1) s = some r) := hB
            clear hB
            go_enter Tryz.func105, Tryz.ntmps105
            go_wp2_with fail
            refine (must_yes _).mono ?_
            rintro e w' ⟨rfl, rfl⟩
            go_wp2_with fail
            refine (cutHead_yes s r n _ hs hcut).mono ?_
            rintro e w1 ⟨rfl, hb1⟩
            go_wp2
            go_ret
            exact ⟨by rw [HB.out]; rfl, hb1⟩
end Go.Proofs.YtkekfogepdhjhaaGreat

set_option linter.unusedVariables false
namespace Go.Proofs.YtkekfogepdhjhaaGreat
open Go.RowKit Own Var Term

set_option maxRecDepth 100000 in
set_option maxHeartbeats 800000 in
theorem behindTerm_is (s : ByteArray) (w : World) (hs : s.size ≤ 1048576) :
    Calls Tryz.prog 87 #[.string s] w fun e w' => e = ansB (bh 8 s) ∧ Below w.heap.size w w' := by
  have hmf : ∀ (fn : Fn) (first cap : Array Value) (w : World), (Instr.makeFunc fn first cap).run Tryz.prog w = .ok (.func fn first cap) w := fun _ _ _ _ => rfl
  have HC := behind_is ⟨w.heap.size, 0, none⟩ 8 s 1 (w.alloc (.cells #[.func (.func 105) #[] #[.pointer (some ⟨w.heap.size, 0, none⟩)]] 125)) (by omega) (by omega) hs (by simp) (by simp [go_sem])
  cases hB : bh 8 s with
  | none =>
    simp only [hB, ansB] at HC
    go_enter Tryz.func87, Tryz.ntmps87
    go_wp2_with fail
    refine HC.mono ?_
    rintro e w1 ⟨rfl, hb1⟩
    go_wp2
    exact ⟨rfl, rfl, ((Below.refl _ _).alloc (Nat.le_refl _) _).trans (hb1.mono (by simp))⟩
  | some r =>
    simp only [hB, ansB] at HC
    go_enter Tryz.func87, Tryz.ntmps87
    go_wp2_with fail
    refine HC.mono ?_
    rintro e w1 ⟨rfl, hb1⟩
    go_wp2
    go_ret
    exact ⟨rfl, ((Below.refl _ _).alloc (Nat.le_refl _) _).trans (hb1.mono (by simp))⟩

theorem catch96_idle (w : World) :
    CallsD Tryz.prog 85 #[] .returning w fun e u' w' => e = .returned (.tuple #[]) ∧ u' = .returning ∧ w = w' := by
  refine callsD_of_wpS Tryz.func85 rfl fun c₀ cs hu => ?_
  apply wpS_region
  simp [wpOpsS, go_sem, recoverD, hu, Tryz.ntmps85, bodyPostS, results, Tryz.results85]
  cases c₀; simp_all
theorem catch96 (w : World) :
    CallsD Tryz.prog 85 #[] (.panicking noT) w fun e u' w' => e = .returned (.tuple #[]) ∧ u' = .panicking [{ v := .iface 9 (.string ⟨#[110, 111, 32, 116, 101, 114, 109]⟩), recovered := true }] ∧ w = w' := by
  refine callsD_of_wpS Tryz.func85 rfl fun c₀ cs hu => ?_
  apply wpS_region
  simp [wpOpsS, go_sem, recoverD, hu, Tryz.ntmps85, bodyPostS, results, Tryz.results85, noT]

set_option maxRecDepth 100000 in
set_option maxHeartbeats 1600000 in
theorem rkI_no (s : ByteArray) (kind : Nat) (F : Value) (w : World) (hs : s.size ≤ 2097152) (hr : rk s kind = none) :
    Calls Tryz.prog 58 #[.string s, .int .u8 kind, F] w fun e w' => e = .returned (.tuple #[.int .i64 0, .bool false]) ∧ Below w.heap.size w w' := by
  have hmf : ∀ (fn : Fn) (first cap : Array Value) (w : World), (Instr.makeFunc fn first cap).run Tryz.prog w = .ok (.func fn first cap) w := fun _ _ _ _ => rfl
  by_cases h : s.size ≤ 900
  · have HC := behindTerm_is s w (by omega)
    cases hB : bh 8 s with
    | none =>
      simp only [hB, ansB] at HC
      clear hr hB
      go_enter_defers Tryz.func58, Tryz.ntmps58
      go_wp2_with fail
      refine HC.mono ?_
      rintro e w1 ⟨rfl, hb⟩
      go_wp2
      refine leaves_cons (f := 85) (args := #[]) (by simp) (by simp [go_sem]) ?_
      refine (catch96 _).mono ?_
      rintro e u' w'' ⟨rfl, rfl, rfl⟩
      simp [Leaves, settle, results, Tryz.results58, go_sem]
      exact hb
    | some r =>
      simp only [hB, ansB] at HC
      by_cases h0 : r.size = 0
      · have hT : IsT s := ⟨h, r, hB, h0⟩
        have h2 := not_empty hT
        have hne := nil_size r h0
        have hat := at_eq s 0 (by omega)
        have hk : ((s[0].toNat : Int) == (kind : Int)) = false := by
          rw [Bool.eq_false_iff]; intro hh; simp at hh
          obtain ⟨n, t, hc⟩ := hT.cut
          rw [rk_yes hT (by omega), hc] at hr
          simp at hr
        clear hr hB hT hat
        go_enter_defers Tryz.func58, Tryz.ntmps58
        go_wp2_with fail
        refine HC.mono ?_
        rintro e w1 ⟨rfl, hb⟩
        go_wp2_with fail
        refine (must_no _).mono ?_
        rintro e w2 ⟨rfl, rfl⟩
        go_wp2
        refine leaves_cons (f := 85) (args := #[]) (by simp) (by simp [go_sem]) ?_
        refine (catch96 _).mono ?_
        rintro e u' w'' ⟨rfl, rfl, rfl⟩
        simp [Leaves, settle, results, Tryz.results58, go_sem]
        exact hb
      · have hne := ne_nil r (by omega)
        clear hr hB
        go_enter_defers Tryz.func58, Tryz.ntmps58
        go_wp2_with fail
        refine HC.mono ?_
        rintro e w1 ⟨rfl, hb⟩
        go_wp2_with fail
        refine (must_no _).mono ?_
        rintro e w2 ⟨rfl, rfl⟩
        go_wp2
        refine leaves_cons (f := 85) (args := #[]) (by simp) (by simp [go_sem]) ?_
        refine (catch96 _).mono ?_
        rintro e u' w'' ⟨rfl, rfl, rfl⟩
        simp [Leaves, settle, results, Tryz.results58, go_sem]
        exact hb
  · have h' : 900 < s.size := by omega
    clear hr
    go_enter_defers Tryz.func58, Tryz.ntmps58
    go_wp2_with fail
    refine (must_no _).mono ?_
    rintro e w1 ⟨rfl, rfl⟩
    go_wp2
    refine leaves_cons (f := 85) (args := #[]) (by simp) (by simp [go_sem]) ?_
    refine (catch96 _).mono ?_
    rintro e u' w'' ⟨rfl, rfl, rfl⟩
    simp [Leaves, settle, results, Tryz.results58, go_sem]
    exact Below.refl _ _

set_option maxRecDepth 100000 in
set_option maxHeartbeats 1600000 in
theorem rkI_yes (s r : ByteArray) (kind n : Nat) (k : FuncId) (cap : Array Value) (w : World) (Q : Value → World → Prop) (hs : s.size ≤ 1048576) (hr : rk s kind = some (n, r)) (hen : ∀ args w, (callFunc k args).run Tryz.prog w = .ok (.enter k args) w)
    (ht : ∀ w1, Below w.heap.size w w1 → Calls Tryz.prog k (#[.int .i64 n, .string r] ++ cap) w1 fun e w2 => ∃ v, e = .returned v ∧ Q v w2) :
    Calls Tryz.prog 58 #[.string s, .int .u8 kind, .func (.func k) #[] cap] w fun e w' => ∃ v, e = .returned (.tuple #[v, .bool true]) ∧ Q v w' := by
  have hmf : ∀ (fn : Fn) (first cap : Array Value) (w : World), (Instr.makeFunc fn first cap).run Tryz.prog w = .ok (.func fn first cap) w := fun _ _ _ _ => rfl
  have hT : IsT s ∧ at_ s 0 = kind := by
    by_cases c : IsT s ∧ at_ s 0 = kind
    · exact c
    · rw [rk_no c] at hr; simp at hr
  rw [rk_yes hT.1 hT.2] at hr
  obtain ⟨hT, hk⟩ := hT
  have h2 := not_empty hT
  have hat := at_eq s 0 (by omega)
  obtain ⟨h9, r0, hB, h0⟩ := hT
  have hne := nil_size r0 h0
  have hk : ((s[0].toNat : Int) == (kind : Int)) = true := by simp; omega
  have HC := behindTerm_is s w hs
  simp only [hB, ansB] at HC
  clear hB hat
  go_enter_defers Tryz.func58, Tryz.ntmps58
  go_wp2_with fail
  refine HC.mono ?_
  rintro e w1 ⟨rfl, hb⟩
  go_wp2_with fail
  refine (must_yes _).mono ?_
  rintro e w2 ⟨rfl, rfl⟩
  go_wp2_with fail
  refine (cutHead_yes s r n _ hs hr).mono ?_
  rintro e w2 ⟨rfl, hb2⟩
  go_wp2_with fail
  refine (ht _ (hb.trans (hb2.mono hb.size))).mono ?_
  rintro e w3 ⟨v, rfl, hq⟩
  go_wp2
  refine leaves_cons (f := 85) (args := #[]) (by simp) (by simp [go_sem]) ?_
  refine (catch96_idle _).mono ?_
  rintro e u' w'' ⟨rfl, rfl, rfl⟩
  simp [Leaves, settle, results, Tryz.results58, go_sem]
  exact hq

set_option maxRecDepth 100000 in
set_option maxHeartbeats 1600000 in
theorem rkI_told (s r : ByteArray) (kind n : Nat) (k : FuncId) (cap : Array Value) (w : World) (hs : s.size ≤ 1048576) (hr : rk s kind = some (n, r)) (hen : ∀ args w, (callFunc k args).run Tryz.prog w = .ok (.enter k args) w)
    (ht : ∀ w1, Below w.heap.size w w1 → Calls Tryz.prog k (#[.int .i64 n, .string r] ++ cap) w1 fun e w2 => e = .panicked noT ∧ Below w1.heap.size w1 w2) :
    Calls Tryz.prog 58 #[.string s, .int .u8 kind, .func (.func k) #[] cap] w fun e w' => e = .returned (.tuple #[.int .i64 0, .bool false]) ∧ Below w.heap.size w w' := by
  have hmf : ∀ (fn : Fn) (first cap : Array Value) (w : World), (Instr.makeFunc fn first cap).run Tryz.prog w = .ok (.func fn first cap) w := fun _ _ _ _ => rfl
  have hT : IsT s ∧ at_ s 0 = kind := by
    by_cases c : IsT s ∧ at_ s 0 = kind
    · exact c
    · rw [rk_no c] at hr; simp at hr
  rw [rk_yes hT.1 hT.2] at hr
  obtain ⟨hT, hk⟩ := hT
  have h2 := not_empty hT
  have hat := at_eq s 0 (by omega)
  obtain ⟨h9, r0, hB, h0⟩ := hT
  have hne := nil_size r0 h0
  have hk : ((s[0].toNat : Int) == (kind : Int)) = true := by simp; omega
  have HC := behindTerm_is s w hs
  simp only [hB, ansB] at HC
  clear hB hat
  go_enter_defers Tryz.func58, Tryz.ntmps58
  go_wp2_with fail
  refine HC.mono ?_
  rintro e w1 ⟨rfl, hb⟩
  go_wp2_with fail
  refine (must_yes _).mono ?_
  rintro e w2 ⟨rfl, rfl⟩
  go_wp2_with fail
  refine (cutHead_yes s r n _ hs hr).mono ?_
  rintro e w2 ⟨rfl, hb2⟩
  have hb12 := hb.trans (hb2.mono hb.size)
  go_wp2_with fail
  refine (ht _ hb12).mono ?_
  rintro e w3 ⟨rfl, hb3⟩
  go_wp2
  refine leaves_cons (f := 85) (args := #[]) (by simp) (by simp [go_sem]) ?_
  refine (catch96 _).mono ?_
  rintro e u' w'' ⟨rfl, rfl, rfl⟩
  simp [Leaves, settle, results, Tryz.results58, go_sem]
  exact hb12.trans (hb3.mono hb12.size)

theorem catch101_idle (w : World) :
    CallsD Tryz.prog 106 #[] .returning w fun e u' w' => e = .returned (.tuple #[]) ∧ u' = .returning ∧ w = w' := by
  refine callsD_of_wpS Tryz.func106 rfl fun c₀ cs hu => ?_
  apply wpS_region
  simp [wpOpsS, go_sem, recoverD, hu, Tryz.ntmps106, bodyPostS, results, Tryz.results106]
  cases c₀; simp_all
theorem catch101 (w : World) :
    CallsD Tryz.prog 106 #[] (.panicking noT) w fun e u' w' => e = .returned (.tuple #[]) ∧ u' = .panicking [{ v := .iface 9 (.string ⟨#[110, 111, 32, 116, 101, 114, 109]⟩), recovered := true }] ∧ w = w' := by
  refine callsD_of_wpS Tryz.func106 rfl fun c₀ cs hu => ?_
  apply wpS_region
  simp [wpOpsS, go_sem, recoverD, hu, Tryz.ntmps106, bodyPostS, results, Tryz.results106, noT]

set_option maxRecDepth 100000 in
set_option maxHeartbeats 1600000 in
theorem rkL_no (s : ByteArray) (kind : Nat) (F : Value) (w : World) (hs : s.size ≤ 2097152) (hr : rk s kind = none) :
    Calls Tryz.prog 90 #[.string s, .int .u8 kind, F] w fun e w' => e = .returned (.tuple #[.slice none 0 0, .bool false]) ∧ Below w.heap.size w w' := by
  have hmf : ∀ (fn : Fn) (first cap : Array Value) (w : World), (Instr.makeFunc fn first cap).run Tryz.prog w = .ok (.func fn first cap) w := fun _ _ _ _ => rfl
  by_cases h : s.size ≤ 900
  · have HC := behindTerm_is s w (by omega)
    cases hB : bh 8 s with
    | none =>
      simp only [hB, ansB] at HC
      clear hr hB
      go_enter_defers Tryz.func90, Tryz.ntmps90
      go_wp2_with fail
      refine HC.mono ?_
      rintro e w1 ⟨rfl, hb⟩
      go_wp2
      refine leaves_cons (f := 106) (args := #[]) (by simp) (by simp [go_sem]) ?_
      refine (catch101 _).mono ?_
      rintro e u' w'' ⟨rfl, rfl, rfl⟩
      simp [Leaves, settle, results, Tryz.results90, go_sem]
      exact hb
    | some r =>
      simp only [hB, ansB] at HC
      by_cases h0 : r.size = 0
      · have hT : IsT s := ⟨h, r, hB, h0⟩
        have h2 := not_empty hT
        have hne := nil_size r h0
        have hat := at_eq s 0 (by omega)
        have hk : ((s[0].toNat : Int) == (kind : Int)) = false := by
          rw [Bool.eq_false_iff]; intro hh; simp at hh
          obtain ⟨n, t, hc⟩ := hT.cut
          rw [rk_yes hT (by omega), hc] at hr
          simp at hr
        clear hr hB hT hat
        go_enter_defers Tryz.func90, Tryz.ntmps90
        go_wp2_with fail
        refine HC.mono ?_
        rintro e w1 ⟨rfl, hb⟩
        go_wp2_with fail
        refine (must_no _).mono ?_
        rintro e w2 ⟨rfl, rfl⟩
        go_wp2
        refine leaves_cons (f := 106) (args := #[]) (by simp) (by simp [go_sem]) ?_
        refine (catch101 _).mono ?_
        rintro e u' w'' ⟨rfl, rfl, rfl⟩
        simp [Leaves, settle, results, Tryz.results90, go_sem]
        exact hb
      · have hne := ne_nil r (by omega)
        clear hr hB
        go_enter_defers Tryz.func90, Tryz.ntmps90
        go_wp2_with fail
        refine HC.mono ?_
        rintro e w1 ⟨rfl, hb⟩
        go_wp2_with fail
        refine (must_no _).mono ?_
        rintro e w2 ⟨rfl, rfl⟩
        go_wp2
        refine leaves_cons (f := 106) (args := #[]) (by simp) (by simp [go_sem]) ?_
        refine (catch101 _).mono ?_
        rintro e u' w'' ⟨rfl, rfl, rfl⟩
        simp [Leaves, settle, results, Tryz.results90, go_sem]
        exact hb
  · have h' : 900 < s.size := by omega
    clear hr
    go_enter_defers Tryz.func90, Tryz.ntmps90
    go_wp2_with fail
    refine (must_no _).mono ?_
    rintro e w1 ⟨rfl, rfl⟩
    go_wp2
    refine leaves_cons (f := 106) (args := #[]) (by simp) (by simp [go_sem]) ?_
    refine (catch101 _).mono ?_
    rintro e u' w'' ⟨rfl, rfl, rfl⟩
    simp [Leaves, settle, results, Tryz.results90, go_sem]
    exact Below.refl _ _

set_option maxRecDepth 100000 in
set_option maxHeartbeats 1600000 in
theorem rkL_yes (s r : ByteArray) (kind n : Nat) (k : FuncId) (cap : Array Value) (w : World) (Q : Value → World → Prop) (hs : s.size ≤ 1048576) (hr : rk s kind = some (n, r)) (hen : ∀ args w, (callFunc k args).run Tryz.prog w = .ok (.enter k args) w)
    (ht : ∀ w1, Below w.heap.size w w1 → Calls Tryz.prog k (#[.int .i64 n, .string r] ++ cap) w1 fun e w2 => ∃ v, e = .returned v ∧ Q v w2) :
    Calls Tryz.prog 90 #[.string s, .int .u8 kind, .func (.func k) #[] cap] w fun e w' => ∃ v, e = .returned (.tuple #[v, .bool true]) ∧ Q v w' := by
  have hmf : ∀ (fn : Fn) (first cap : Array Value) (w : World), (Instr.makeFunc fn first cap).run Tryz.prog w = .ok (.func fn first cap) w := fun _ _ _ _ => rfl
  have hT : IsT s ∧ at_ s 0 = kind := by
    by_cases c : IsT s ∧ at_ s 0 = kind
    · exact c
    · rw [rk_no c] at hr; simp at hr
  rw [rk_yes hT.1 hT.2] at hr
  obtain ⟨hT, hk⟩ := hT
  have h2 := not_empty hT
  have hat := at_eq s 0 (by omega)
  obtain ⟨h9, r0, hB, h0⟩ := hT
  have hne := nil_size r0 h0
  have hk : ((s[0].toNat : Int) == (kind : Int)) = true := by simp; omega
  have HC := behindTerm_is s w hs
  simp only [hB, ansB] at HC
  clear hB hat
  go_enter_defers Tryz.func90, Tryz.ntmps90
  go_wp2_with fail
  refine HC.mono ?_
  rintro e w1 ⟨rfl, hb⟩
  go_wp2_with fail
  refine (must_yes _).mono ?_
  rintro e w2 ⟨rfl, rfl⟩
  go_wp2_with fail
  refine (cutHead_yes s r n _ hs hr).mono ?_
  rintro e w2 ⟨rfl, hb2⟩
  go_wp2_with fail
  refine (ht _ (hb.trans (hb2.mono hb.size))).mono ?_
  rintro e w3 ⟨v, rfl, hq⟩
  go_wp2
  refine leaves_cons (f := 106) (args := #[]) (by simp) (by simp [go_sem]) ?_
  refine (catch101_idle _).mono ?_
  rintro e u' w'' ⟨rfl, rfl, rfl⟩
  simp [Leaves, settle, results, Tryz.results90, go_sem]
  exact hq

set_option maxRecDepth 100000 in
set_option maxHeartbeats 1600000 in
theorem rkL_told (s r : ByteArray) (kind n : Nat) (k : FuncId) (cap : Array Value) (w : World) (hs : s.size ≤ 1048576) (hr : rk s kind = some (n, r)) (hen : ∀ args w, (callFunc k args).run Tryz.prog w = .ok (.enter k args) w)
    (ht : ∀ w1, Below w.heap.size w w1 → Calls Tryz.prog k (#[.int .i64 n, .string r] ++ cap) w1 fun e w2 => e = .panicked noT ∧ Below w1.heap.size w1 w2) :
    Calls Tryz.prog 90 #[.string s, .int .u8 kind, .func (.func k) #[] cap] w fun e w' => e = .returned (.tuple #[.slice none 0 0, .bool false]) ∧ Below w.heap.size w w' := by
  have hmf : ∀ (fn : Fn) (first cap : Array Value) (w : World), (Instr.makeFunc fn first cap).run Tryz.prog w = .ok (.func fn first cap) w := fun _ _ _ _ => rfl
  have hT : IsT s ∧ at_ s 0 = kind := by
    by_cases c : IsT s ∧ at_ s 0 = kind
    · exact c
    · rw [rk_no c] at hr; simp at hr
  rw [rk_yes hT.1 hT.2] at hr
  obtain ⟨hT, hk⟩ := hT
  have h2 := not_empty hT
  have hat := at_eq s 0 (by omega)
  obtain ⟨h9, r0, hB, h0⟩ := hT
  have hne := nil_size r0 h0
  have hk : ((s[0].toNat : Int) == (kind : Int)) = true := by simp; omega
  have HC := behindTerm_is s w hs
  simp only [hB, ansB] at HC
  clear hB hat
  go_enter_defers Tryz.func90, Tryz.ntmps90
  go_wp2_with fail
  refine HC.mono ?_
  rintro e w1 ⟨rfl, hb⟩
  go_wp2_with fail
  refine (must_yes _).mono ?_
  rintro e w2 ⟨rfl, rfl⟩
  go_wp2_with fail
  refine (cutHead_yes s r n _ hs hr).mono ?_
  rintro e w2 ⟨rfl, hb2⟩
  have hb12 := hb.trans (hb2.mono hb.size)
  go_wp2_with fail
  refine (ht _ hb12).mono ?_
  rintro e w3 ⟨rfl, hb3⟩
  go_wp2
  refine leaves_cons (f := 106) (args := #[]) (by simp) (by simp [go_sem]) ?_
  refine (catch101 _).mono ?_
  rintro e u' w'' ⟨rfl, rfl, rfl⟩
  simp [Leaves, settle, results, Tryz.results90, go_sem]
  exact hb12.trans (hb3.mono hb12.size)
end Go.Proofs.YtkekfogepdhjhaaGreat
