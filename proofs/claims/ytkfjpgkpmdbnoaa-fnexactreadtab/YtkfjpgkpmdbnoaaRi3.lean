/- ReadTab of the program. -/
import Derived.Test.YtkfjpgkpmdbnoaaRi2
import Derived.Test.YtkfjpgkpmdbnoaaOk0
import Derived.Test.YtkfjpgkpmdbnoaaTr1
import Derived.Test.YtkfjpgkpmdbnoaaAppRow
set_option linter.unusedVariables false
set_option maxRecDepth 100000
namespace Go.Proofs.Ytkfjpgkpmdbnoaa
open Go Go.RowKit Go.Joins Own Draw Go.Proofs.Ytkfjpgkpmdbnoaa.Var

theorem mt_of_list {t : ByteArray} (h : t.toList = []) : t = ⟨#[]⟩ := by
  apply ext_list
  rw [ByteArray.toList_eq] at h
  rw [h]
theorem not_nil_list {t : ByteArray} (h : ¬ t = ⟨#[]⟩) : (t.toList == []) = false := by
  cases e : t.toList with
  | nil => exact absurd (mt_of_list e) h
  | cons a b => rfl
theorem not_empty_list {t : ByteArray} (h : ¬ t = ⟨#[]⟩) : t.toList.isEmpty = false := by
  cases e : t.toList with
  | nil => exact absurd (mt_of_list e) h
  | cons a b => rfl
theorem mt_list : (⟨#[]⟩ : ByteArray).toList = [] := by rw [ByteArray.toList_eq]
theorem not_mt_list {t : ByteArray} (h : ¬ t = ⟨#[]⟩) : (t.toList == (⟨#[]⟩ : ByteArray).toList) = false := by rw [mt_list]; exact not_nil_list h
set_option maxRecDepth 100000 in
set_option maxHeartbeats 6400000 in
theorem implRead_is (s : ByteArray) (w : World) (hs : s.size ≤ 1048576) :
    Calls Try.prog 22 #[.string s] w fun e w' => RdQ (rdT s) w.heap.size e w' ∧ Below w.heap.size w w' := by
  rw [← rd_same]
  have HE : Hid (rdJ s = endJ (itJ (upF 20 (some s)).1.toNat (upF 20 (some s)).2)) := (rfl : rdJ s = _)
  generalize rdJ s = fin at HE ⊢
  obtain ⟨i0, hi, hz0, hz1, hz2⟩ := info_parts infoS
  obtain ⟨V0, hV0⟩ : ∃ V, w.alloc (.cells #[.string s, .bool false] 67) = V := ⟨_, rfl⟩
  have BC : Below w.heap.size w V0 := by rw [← hV0]; exact (Below.refl _ _).alloc (Nat.le_refl _) _
  have SV : StV w.heap.size (some s) V0 := by rw [← hV0]; exact ⟨hs, Blk.new _ _ _⟩
  have K := upTo_is w.heap.size (some s) 20 V0 SV
  have hb20 := upF_bound 20 (by omega) (some s)
  clear SV
  generalize upF 20 (some s) = a1 at K HE hb20
  obtain ⟨c, st⟩ := a1
  obtain ⟨m, rfl⟩ := Int.eq_ofNat_of_zero_le hb20.1
  dsimp only at K HE hb20
  have hm : m ≤ 20 := by have := hb20.2; omega
  rw [Int.toNat_natCast] at HE
  clear hb20
  go_enter Try.func22, Try.ntmps22
  go_wp2_with fail
  try rw [hV0]
  refine K.mono ?_
  clear K hV0
  rintro en W1 ⟨rfl, SV, hov⟩
  replace BC := BC.grown hov.gr BC.size (fun k e => by injection e with e; omega)
  clear hov
  go_wp2
  go_loopw [5, 11] (fun lv iv wr => ∃ (j : Nat) (oa : Option Addr) (oc : Nat) (ys : List TS), j ≤ m ∧ iv = .int .i64 (j : Int) ∧ lv = .slice oa ys.length oc ∧ Hid (ys.length = j ∧ ys = (itJ j st).1) ∧ StV w.heap.size (itJ j st).2 wr ∧ FOwn 31 3 cS (w.heap.size + 1) oa oc ys wr ∧ Below w.heap.size w wr) (fun _ iv _ => m - (intOf iv).toNat)
  case atStart => exact ⟨0, none, 0, [], Nat.zero_le _, rfl, rfl, ⟨rfl, rfl⟩, SV, World.ownsRow_nil _ _ _ _, BC⟩
  case round =>
    clear SV BC
    obtain ⟨j, oa, oc, ys, hj, rfl, rfl, HQ, SV, ro, BC⟩ := hrel
    have hq20 : ys.length ≤ 20 := by have := HQ.out.1; omega
    by_cases hlt : j < m
    · have hlt2 : (j : Int) < (m : Int) := by omega
      have K := slot_is w.heap.size (itJ j st).2 wr SV
      have HS : Hid ((itJ (j + 1) st).1 = (itJ j st).1 ++ [(rdS (itJ j st).2).1] ∧ (itJ (j + 1) st).2 = (rdS (itJ j st).2).2) := ⟨rfl, rfl⟩
      have hvs := SV.lt
      clear SV
      generalize rdS (itJ j st).2 = f at K HS
      obtain ⟨x, st2⟩ := f
      dsimp only at HS
      go_wp2_with fail
      refine K.mono ?_
      clear K
      rintro en W2 ⟨rfl, SV, hkb⟩
      dsimp only at SV
      replace ro : FOwn 31 3 cS (w.heap.size + 1) oa oc ys W2 := World.ownsRow.kept ro hkb (by
        cases e : (Value.slice oa ys.length oc).ownBlock with
        | none => exact Or.inl rfl
        | some q => exact Or.inr (fun c => by have := (World.ownsRow.lt ro q e).1; injection c with c; omega))
      replace BC := BC.grown hkb BC.size (fun k e => by injection e with e; omega)
      clear hkb hvs
      have HQ2 : Hid (ys ++ [x] = (itJ (j + 1) st).1 ∧ (itJ (j + 1) st).2 = st2 ∧ ys.length + 1 = j + 1) := ⟨by rw [HS.out.1, ← HQ.out.2], HS.out.2, by rw [HQ.out.1]⟩
      clear HS HQ
      have nw := news3 W2 (.int .i64 x.1) (.int .i64 x.2.1) (.int .i64 x.2.2) 31
      obtain ⟨U, hU⟩ : ∃ U, W2.alloc (.cells #[.int .i64 x.1, .int .i64 x.2.1, .int .i64 x.2.2] 31) = U := ⟨_, rfl⟩
      have XA : Below W2.heap.size W2 U := by rw [← hU]; exact (Below.refl _ _).alloc (Nat.le_refl _) _
      rw [hU] at nw
      replace ro := own_later ro XA
      replace SV := SV.later XA
      replace BC := BC.trans (XA.mono BC.size)
      have hBU : w.heap.size + 1 ≤ U.heap.size := SV.lt
      clear XA
      go_wp2_with (first | (at_builtin; first | refine wpList_append_row _ rfl _ _ 24 rfl (w.heap.size + 1) 31 i0 (.agg #[.int .i64 0, .int .i64 0, .int .i64 0]) 3 24 Try.underlying24 hi hz0 hz1 hz2 rfl (by decide) _ _ _ rfl ro (some ⟨W2.heap.size, 0, none⟩) 1 1 [.int .i64 x.1, .int .i64 x.2.1, .int .i64 x.2.2] rfl rfl (fun ad e => by injection e with e; subst e; exact nw) (fun u hu => by simp at hu; rcases hu with rfl | rfl | rfl <;> rfl) (by unfold maxLen; omega) (by omega) hBU (fun c => by cases c) ?_ | (rw [hU]; refine wpList_append_row _ rfl _ _ 24 rfl (w.heap.size + 1) 31 i0 (.agg #[.int .i64 0, .int .i64 0, .int .i64 0]) 3 24 Try.underlying24 hi hz0 hz1 hz2 rfl (by decide) _ _ _ rfl ro (some ⟨W2.heap.size, 0, none⟩) 1 1 [.int .i64 x.1, .int .i64 x.2.1, .int .i64 x.2.2] rfl rfl (fun ad e => by injection e with e; subst e; exact nw) (fun u hu => by simp at hu; rcases hu with rfl | rfl | rfl <;> rfl) (by unfold maxLen; omega) (by omega) hBU (fun c => by cases c) ?_)) | fail)
      intro v3 w3 ho3 hg3
      obtain ⟨na, nc, rfl, _⟩ := own_shape ho3
      have B3 : Below w.heap.size w w3 := BC.grown hg3 BC.size (fun k e => by have := (World.ownsRow.lt ro k e).1; omega)
      have S3 : StV w.heap.size st2 w3 := SV.kept hg3 (fun e => by have := (World.ownsRow.lt ro _ e.symm).1; omega)
      have hle2 : (ys ++ [x]).length = ys.length + 1 := by simp
      have R3 : FOwn 31 3 cS (w.heap.size + 1) na nc (ys ++ [x]) w3 := by unfold FOwn; rw [hle2, fl_snoc]; exact ho3
      have HR : ∃ (j' : Nat) (oa' : Option Addr) (oc' : Nat) (ys' : List TS), j' ≤ m ∧ Value.int .i64 ((j : Int) + 1) = .int .i64 (j' : Int) ∧ Value.slice na (ys.length + 1) nc = .slice oa' ys'.length oc' ∧ Hid (ys'.length = j' ∧ ys' = (itJ j' st).1) ∧ StV w.heap.size (itJ j' st).2 w3 ∧ FOwn 31 3 cS (w.heap.size + 1) oa' oc' ys' w3 ∧ Below w.heap.size w w3 :=
        ⟨j + 1, na, nc, ys ++ [x], by omega, by go_num, by rw [hle2], ⟨hle2.trans HQ2.out.2.2, HQ2.out.1⟩, by rw [HQ2.out.2.1]; exact S3, R3, B3⟩
      clear ho3 hg3 ro BC nw hU SV HQ2 R3 B3 S3 hle2
      go_wp2
      go_roundw
      case rel => exact HR
      case measure => simp [intOf]; omega
    · obtain rfl : j = m := by omega
      have hlt2 : ¬ (j : Int) < (j : Int) := by omega
      have HF : Hid (fin = if (itJ j st).2 = some ⟨#[]⟩ ∧ tabB (itJ j st).1 = true then ((itJ j st).1, true) else ([], false)) := HE
      have HY : Hid ((itJ j st).1 = ys) := HQ.out.2.symm
      clear HE HQ
      rw [HY.out] at HF
      clear HY
      generalize (itJ j st).2 = s4 at SV HF
      have hnl : RdQ ([], false) w.heap.size (.returned (.tuple #[.slice none 0 0, .bool false])) wr := ⟨none, 0, rfl, World.ownsRow_nil _ _ _ _⟩
      cases s4 with
      | none =>
        have HF2 : Hid (fin = ([], false)) := by show _ = _; rw [HF.out, if_neg (fun c => by cases c.1)]
        have SB : Blk w.heap.size [.string ⟨#[]⟩, .bool true] wr := SV
        have k0 := SB.at 0 rfl
        have k1 := SB.at 1 rfl
        clear HF
        go_wp2
        refine bodyPost_ret (results_tmp2 rfl _ _ _) rfl ?_
        exact ⟨by rw [HF2.out]; exact hnl, BC⟩
      | some t =>
        have k0 := SV.2.at 0 rfl
        have k1 := SV.2.at 1 rfl
        by_cases ht : t = ⟨#[]⟩
        · subst ht
          have K := implTab_is oa oc ys wr (FOwn.row lS ro) (by omega)
          cases hok : tabB ys with
          | true =>
            rw [hok] at K
            have HF2 : Hid (fin = (ys, true)) := by show _ = _; rw [HF.out, if_pos ⟨rfl, hok⟩]
            clear HF hok hnl
            go_wp2_with fail
            refine K.mono ?_
            clear K k0 k1 SV
            rintro en W3 ⟨rfl, hb⟩
            go_wp2
            refine bodyPost_ret (results_tmp2 rfl _ _ _) rfl ?_
            exact ⟨⟨oa, oc, by rw [HF2.out]; rfl, by rw [HF2.out]; exact ownsRow_le (own_later ro hb) (by omega)⟩, BC.trans (hb.mono BC.size)⟩
          | false =>
            rw [hok] at K
            have HF2 : Hid (fin = ([], false)) := by show _ = _; rw [HF.out, if_neg (fun c => by rw [hok] at c; cases c.2)]
            clear HF hok
            go_wp2_with fail
            refine K.mono ?_
            clear K k0 k1 SV
            rintro en W3 ⟨rfl, hb⟩
            go_wp2
            refine bodyPost_ret (results_tmp2 rfl _ _ _) rfl ?_
            exact ⟨⟨none, 0, by rw [HF2.out]; rfl, by rw [HF2.out]; exact World.ownsRow_nil _ _ _ _⟩, BC.trans (hb.mono BC.size)⟩
        · have HF2 : Hid (fin = ([], false)) := by show _ = _; rw [HF.out, if_neg (fun c => ht (by injection c.1))]
          have hne : t.toList.isEmpty = false := not_empty_list ht
          have hne2 : (t.toList == []) = false := not_nil_list ht
          have hne3 : (t.toList == (⟨#[]⟩ : ByteArray).toList) = false := not_mt_list ht
          clear HF ht
          go_wp2
          refine bodyPost_ret (results_tmp2 rfl _ _ _) rfl ?_
          exact ⟨by rw [HF2.out]; exact hnl, BC⟩
end Go.Proofs.Ytkfjpgkpmdbnoaa
