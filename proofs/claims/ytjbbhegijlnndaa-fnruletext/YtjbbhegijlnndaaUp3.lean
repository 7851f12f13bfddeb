/- ReadRules of the program. -/
import Derived.Test.YtjbbhegijlnndaaUp2
import Derived.Test.YtjbbhegijlnndaaRn2
import Derived.Test.YtjbbhegijlnndaaRu2
import Derived.Test.YtjbbhegijlnndaaLr1
set_option linter.unusedVariables false
set_option maxRecDepth 100000
namespace Go.Proofs.Ytjbbhegijlnndaa.Nd
open Go Go.RowKit Go.Joins Own Draw Go.Proofs.Ytjbbhegijlnndaa Go.Proofs.Ytjbbhegijlnndaa.Var

theorem kb_gr {b : Nat} {w w' : World} (h : KB b w.heap.size w w') : w.grownBy w' (some b) := ⟨h.os, h.tape, h.output, h.size, fun k hk hn => h.block k hk (fun e => hn (by rw [e]))⟩
theorem off_lt {B g : Nat} {w : World} {q : Rw TT} (h : RoT B w q) (hg : g < B) : Off g q :=
  ⟨fun e => by have := (World.ownsRow.lt h.1 g e).1; omega, fun x hx e => by have := (World.ownsRow.lt (h.2 x hx) g e).1; omega⟩
theorem mt_of_list {t : ByteArray} (h : t.toList = []) : t = ⟨#[]⟩ := by
  apply ext_list
  rw [ByteArray.toList_eq] at h
  rw [h]
theorem not_nil_list {t : ByteArray} (h : ¬ t = ⟨#[]⟩) : (t.toList == []) = false := by
  cases e : t.toList with
  | nil => exact absurd (mt_of_list e) h
  | cons a b => rfl
theorem not_empty_list {t : ByteArray} (h : ¬ t = ⟨#[]⟩) : t.toList.isEmpty = false := by
  cases e : t.toList with
  | nil => exact absurd (mt_of_list e) h
  | cons a b => rfl
theorem mt_list : (⟨#[]⟩ : ByteArray).toList = [] := by rw [ByteArray.toList_eq]
theorem not_mt_list {t : ByteArray} (h : ¬ t = ⟨#[]⟩) : (t.toList == (⟨#[]⟩ : ByteArray).toList) = false := by rw [mt_list]; exact not_nil_list h
theorem itN_31 (st : Option ByteArray) : (rdR st).1.2.1.length ≤ 31 := by
  show (itN _ _).1.length ≤ 31
  rw [itN_len]
  have := upF_bound 31 (by omega) (upF 100000 (upF 5 st).2).2
  omega
theorem itR_31 (st : Option ByteArray) : ∀ i, ∀ p ∈ (itR i st).1, p.2.1.length ≤ 31
  | 0, p, hp => by cases hp
  | i + 1, p, hp => by
    have hp : p ∈ (itR i st).1 ++ [(rdR (itR i st).2).1] := hp
    rcases List.mem_append.1 hp with hp | hp
    · exact itR_31 st i p hp
    · rw [List.mem_singleton] at hp; subst hp; exact itN_31 _
/-- What a reader of rules answers: a row in memory of the call's own, no two with their Sets in one place; and is there one. -/
def RdP (f : List PT × Bool) (B : Nat) (e : Ending) (w : World) : Prop := ∃ q : Rw TT, e = .returned (.tuple #[.slice q.1 q.2.2.length q.2.1, .bool f.2]) ∧ rsT q = f.1 ∧ RoT B w q ∧ ApT q
set_option maxHeartbeats 6400000 in
theorem implRead_is (s : ByteArray) (w : World) (hs : s.size ≤ 1048576) :
    Calls Try.prog 26 #[.string s] w fun e w' => RdP (rdI s) w.heap.size e w' ∧ Below w.heap.size w w' := by
  have HE : Hid (rdI s = endI (itR (upF 20 (some s)).1.toNat (upF 20 (some s)).2)) := (rfl : rdI s = _)
  generalize rdI s = fin at HE ⊢
  obtain ⟨V0, hV0⟩ : ∃ V, w.alloc (.cells #[.string s, .bool false] 81) = V := ⟨_, rfl⟩
  have BC : Below w.heap.size w V0 := by rw [← hV0]; exact (Below.refl _ _).alloc (Nat.le_refl _) _
  have SV : StV w.heap.size (some s) V0 := by rw [← hV0]; exact ⟨hs, Blk.new _ _ _⟩
  have K := upTo_is w.heap.size (some s) 20 V0 SV
  have hb20 := upF_bound 20 (by omega) (some s)
  clear SV
  generalize upF 20 (some s) = a1 at K HE hb20
  obtain ⟨c, st⟩ := a1
  obtain ⟨m, rfl⟩ := Int.eq_ofNat_of_zero_le hb20.1
  dsimp only at K HE hb20
  have hm : m ≤ 20 := by have := hb20.2; omega
  rw [Int.toNat_natCast] at HE
  clear hb20
  go_enter Try.func26, Try.ntmps26
  go_wp2_with fail
  try rw [hV0]
  refine K.mono ?_
  clear K hV0
  rintro en W1 ⟨rfl, SV, hov⟩
  replace BC := BC.grown hov.gr BC.size (fun k e => by injection e with e; omega)
  clear hov
  go_wp2
  go_loopw [5, 11] (fun lv iv wr => ∃ (j : Nat) (q : Rw TT), j ≤ m ∧ iv = .int .i64 (j : Int) ∧ lv = .slice q.1 q.2.2.length q.2.1 ∧ Hid (q.2.2.length = j) ∧ Hid (rsT q = (itR j st).1) ∧ StV w.heap.size (itR j st).2 wr ∧ RoT (w.heap.size + 1) wr q ∧ Hid (ApT q) ∧ Below w.heap.size w wr) (fun _ iv _ => m - (intOf iv).toNat)
  case atStart => exact ⟨0, (none, 0, []), Nat.zero_le _, rfl, rfl, rfl, rfl, SV, RoT.nil _ _, ApT.nil _ _, BC⟩
  case round =>
    clear SV BC
    obtain ⟨j, q, hj, rfl, rfl, hql, HQ, SV, ro, HA, BC⟩ := hrel
    have hq20 : q.2.2.length ≤ 20 := by have := hql.out; omega
    by_cases hlt : j < m
    · have hlt2 : (j : Int) < (m : Int) := by omega
      have K := rule_is w.heap.size (itR j st).2 wr SV
      have HS : Hid ((itR (j + 1) st).1 = (itR j st).1 ++ [(rdR (itR j st).2).1] ∧ (itR (j + 1) st).2 = (rdR (itR j st).2).2) := ⟨rfl, rfl⟩
      have hvs := SV.lt
      clear SV
      generalize rdR (itR j st).2 = f at K HS
      obtain ⟨p, st2⟩ := f
      dsimp only at HS
      go_wp2_with fail
      refine K.mono ?_
      clear K
      rintro en W2 ⟨x, rfl, hx, SV, ox, hkb⟩
      dsimp only at hx SV
      have HNEW : Hid (∀ k, kbT x = some k → ∀ z ∈ q.2.2, kbT z ≠ some k) := ap_new ro ox (Nat.le_refl _)
      replace ro := ro.off (kb_gr hkb) (off_lt ro (by omega))
      replace ox := ox.le (show w.heap.size + 1 ≤ wr.heap.size by omega)
      replace BC := BC.grown (kb_gr hkb) BC.size (fun k e => by injection e with e; omega)
      clear hkb hvs
      have HQ2 : Hid (rsT (q.1, q.2.1, q.2.2 ++ [x]) = (itR (j + 1) st).1) := by
        show _ = _
        rw [HS.out.1, ← HQ.out, ← hx]
        unfold rsT
        dsimp only
        rw [List.map_append]; rfl
      have HT : Hid ((itR (j + 1) st).2 = st2) := HS.out.2
      clear HS HQ hx
      obtain ⟨VA, hVA⟩ : ∃ Z, W2.alloc (.cells #[.int .i64 x.1, .slice x.2.1.1 x.2.1.2.2.length x.2.1.2.1, .int .i64 x.2.2] 59) = Z := ⟨_, rfl⟩
      have XA : Below W2.heap.size W2 VA := by rw [← hVA]; exact (Below.refl _ _).alloc (Nat.le_refl _) _
      have TA : Blk W2.heap.size [.int .i64 x.1, .slice x.2.1.1 x.2.1.2.2.length x.2.1.2.1, .int .i64 x.2.2] VA := by rw [← hVA]; exact Blk.new _ _ _
      replace ro := ro.later XA
      replace ox := ox.later XA
      replace SV := SV.later XA
      have hvl : w.heap.size < VA.heap.size := SV.lt
      replace BC := BC.trans (XA.mono BC.size)
      clear XA
      obtain ⟨jt, hjt, hjz, hjs, hjb⟩ := parts_of info59
      have hBA : w.heap.size + 1 ≤ VA.heap.size := hvl
      go_wp2_with (first | (at_builtin; first | refine wpList_append_where _ rfl _ _ 24 rfl (w.heap.size + 1) 59 jt _ 3 40 Try.underlying24 hjt hjz hjs hjb rfl (by decide) _ _ _ rfl ro.1 ⟨W2.heap.size, 0, none⟩ 1 1 [.int .i64 x.1, .slice x.2.1.1 x.2.1.2.2.length x.2.1.2.1, .int .i64 x.2.2] rfl rfl (news_box TA) (fun u hu => by simp at hu; rcases hu with rfl | rfl | rfl <;> rfl) ?c3 ?c4 hBA (by decide) ?_ | (rw [hVA]; refine wpList_append_where _ rfl _ _ 24 rfl (w.heap.size + 1) 59 jt _ 3 40 Try.underlying24 hjt hjz hjs hjb rfl (by decide) _ _ _ rfl ro.1 ⟨W2.heap.size, 0, none⟩ 1 1 [.int .i64 x.1, .slice x.2.1.1 x.2.1.2.2.length x.2.1.2.1, .int .i64 x.2.2] rfl rfl (news_box TA) (fun u hu => by simp at hu; rcases hu with rfl | rfl | rfl <;> rfl) ?c3 ?c4 hBA (by decide) ?_)) | fail)
      case c3 => unfold maxLen; omega
      case c4 => omega
      intro vA wA ownA hgA hwA
      obtain ⟨na, nc, rfl, _⟩ := own_shape ownA
      obtain ⟨RA, CA, OA⟩ := put_mem (x := x) ro ox ownA hgA hwA
      have APF : Hid (ApT (na, nc, q.2.2 ++ [x])) := ap_put HA.out HNEW.out
      have SF : StV w.heap.size st2 wA := SV.kept hgA (fun e => by have := (World.ownsRow.lt ro.1 _ e.symm).1; omega)
      have BF : Below w.heap.size w wA := BC.grown hgA BC.size (fun k e => by have := (World.ownsRow.lt ro.1 k e).1; omega)
      have hqe : (q.2.2 ++ [x]).length = q.2.2.length + 1 := by simp
      have HR : ∃ (j' : Nat) (q' : Rw TT), j' ≤ m ∧ Value.int .i64 ((j : Int) + 1) = .int .i64 (j' : Int) ∧ Value.slice na (q.2.2.length + 1) nc = .slice q'.1 q'.2.2.length q'.2.1 ∧ Hid (q'.2.2.length = j') ∧ Hid (rsT q' = (itR j' st).1) ∧ StV w.heap.size (itR j' st).2 wA ∧ RoT (w.heap.size + 1) wA q' ∧ Hid (ApT q') ∧ Below w.heap.size w wA :=
        ⟨j + 1, (na, nc, q.2.2 ++ [x]), by omega, by go_num, by dsimp only; rw [hqe], (by show (q.2.2 ++ [x]).length = j + 1; rw [hqe, hql.out]), HQ2, by rw [HT.out]; exact SF, RA, APF, BF⟩
      clear RA OA CA APF BF SF HQ2 HT HNEW HA ro ox BC SV hgA hwA ownA TA hVA hqe hql
      go_wp2
      go_roundw
      case rel => exact HR
      case measure => simp [intOf]; omega
    · obtain rfl : j = m := by omega
      have hlt2 : ¬ (j : Int) < (j : Int) := by omega
      have h31 := itR_31 st j
      have HF : Hid (fin = if (itR j st).2 = some ⟨#[]⟩ ∧ okL (itR j st).1 = true then ((itR j st).1, true) else ([], false)) := HE
      clear HE
      generalize (itR j st).1 = L at HQ HF h31
      generalize (itR j st).2 = s4 at SV HF
      have hqx : ∀ x ∈ q.2.2, x.2.1.2.2.length ≤ 1048576 := fun x hx => by
        have h_ := h31 (stT x) (by rw [← HQ.out]; exact List.mem_map_of_mem hx)
        have h2_ : (stT x).2.1.length = x.2.1.2.2.length := rfl
        omega
      cases s4 with
      | none =>
        have HF2 : Hid (fin = ([], false)) := by show _ = _; rw [HF.out, if_neg (fun c => by cases c.1)]
        have SB : Blk w.heap.size [.string ⟨#[]⟩, .bool true] wr := SV
        have k0 := SB.at 0 rfl
        have k1 := SB.at 1 rfl
        clear HF h31 hqx
        go_wp2
        refine bodyPost_ret (results_tmp2 rfl _ _ _) rfl ?_
        exact ⟨⟨(none, 0, []), by rw [HF2.out]; rfl, by rw [HF2.out]; rfl, RoT.nil _ _, ApT.nil _ _⟩, BC⟩
      | some t =>
        have k0 := SV.2.at 0 rfl
        have k1 := SV.2.at 1 rfl
        by_cases ht : t = ⟨#[]⟩
        · subst ht
          have K := implRulesOk_is q wr ro.dp hqx (by omega)
          rw [HQ.out] at K
          clear h31 hqx
          cases hok : okL L with
          | true =>
            rw [hok] at K
            have HF2 : Hid (fin = (L, true)) := by show _ = _; rw [HF.out, if_pos ⟨rfl, hok⟩]
            clear HF hok
            go_wp2_with fail
            refine K.mono ?_
            clear K k0 k1 SV
            rintro en W3 ⟨rfl, hb⟩
            go_wp2
            refine bodyPost_ret (results_tmp2 rfl _ _ _) rfl ?_
            exact ⟨⟨q, by rw [HF2.out]; rfl, by rw [HF2.out]; exact HQ.out, (ro.later hb).le (by omega), HA.out⟩, BC.trans (hb.mono BC.size)⟩
          | false =>
            rw [hok] at K
            have HF2 : Hid (fin = ([], false)) := by show _ = _; rw [HF.out, if_neg (fun c => by rw [hok] at c; cases c.2)]
            clear HF hok
            go_wp2_with fail
            refine K.mono ?_
            clear K k0 k1 SV
            rintro en W3 ⟨rfl, hb⟩
            go_wp2
            refine bodyPost_ret (results_tmp2 rfl _ _ _) rfl ?_
            exact ⟨⟨(none, 0, []), by rw [HF2.out]; rfl, by rw [HF2.out]; rfl, RoT.nil _ _, ApT.nil _ _⟩, BC.trans (hb.mono BC.size)⟩
        · have HF2 : Hid (fin = ([], false)) := by show _ = _; rw [HF.out, if_neg (fun c => ht (by injection c.1))]
          have hne : t.toList.isEmpty = false := not_empty_list ht
          have hne2 : (t.toList == []) = false := not_nil_list ht
          have hne3 : (t.toList == (⟨#[]⟩ : ByteArray).toList) = false := not_mt_list ht
          clear HF h31 hqx ht
          go_wp2
          refine bodyPost_ret (results_tmp2 rfl _ _ _) rfl ?_
          exact ⟨⟨(none, 0, []), by rw [HF2.out]; rfl, by rw [HF2.out]; rfl, RoT.nil _ _, ApT.nil _ _⟩, BC⟩
end Go.Proofs.Ytjbbhegijlnndaa.Nd
