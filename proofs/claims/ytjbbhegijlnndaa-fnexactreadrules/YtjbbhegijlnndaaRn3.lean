/- Normal of the program. -/
import Derived.Test.YtjbbhegijlnndaaRn2
set_option linter.unusedVariables false
set_option maxRecDepth 100000
namespace Go.Proofs.Ytjbbhegijlnndaa.Nd
open Go Go.RowKit Go.Joins Own Draw Go.Proofs.Ytjbbhegijlnndaa

/-- A row of rules in memory of the call's own, no two with their Sets in one place. -/
def NrmP (l : List PT) (B : Nat) (e : Ending) (w : World) : Prop := ∃ q : Rw TT, e = .returned (.slice q.1 q.2.2.length q.2.1) ∧ rsT q = l ∧ RoT B w q ∧ ApT q
theorem ap_new {B B' : Nat} {w w' : World} {q : Rw TT} {y : TT} (hq : RoT B w q) (hy : OwT B' w' y) (h : w.heap.size ≤ B') : ∀ k, kbT y = some k → ∀ z ∈ q.2.2, kbT z ≠ some k := fun k hk z hz e => by
  have h1 := (World.ownsRow.lt (hq.2 z hz) k e).2
  have h2 := (World.ownsRow.lt hy k hk).1
  omega
theorem RoT.nil (B : Nat) (w : World) : RoT B w (none, 0, []) := ⟨World.ownsRow_nil _ _ _ _, fun x hx => by cases hx⟩
theorem ApT.nil (a : Option Addr) (c : Nat) : ApT (a, c, []) := List.Pairwise.nil
set_option maxHeartbeats 3200000 in
theorem implNormal_is (r : Rw TT) (w : World) (hr : RpT w r) (hl : ∀ x ∈ r.2.2, x.2.1.2.2.length ≤ 1048576) (hx : r.2.2.length ≤ 1048576) :
    Calls Try.prog 14 #[.slice r.1 r.2.2.length r.2.1] w fun e w' => NrmP (nrmP (rsT r)) w.heap.size e w' ∧ Below w.heap.size w w' := by
  have K0 := implRulesOk_is r w hr hl hx
  have HN : Hid (nrmP (rsT r) = if okL (rsT r) = true then nrmK (rsT r) 5 else []) := (rfl : nrmP (rsT r) = _)
  generalize nrmP (rsT r) = nv at HN ⊢
  go_enter Try.func14, Try.ntmps14
  go_wp2_with fail
  refine K0.mono ?_
  clear K0
  rintro en w1 ⟨rfl, BC⟩
  by_cases hok : okL (rsT r) = true
  · rw [hok]
    have HOK : Hid (okL (rsT r) = true) := hok
    have HN2 : Hid (nv = nrmK (rsT r) 5) := by show _ = _; rw [HN.out, if_pos hok]
    clear HN hok hl hx
    go_wp2
    go_loopw [3, 4] (fun sv kv wr => ∃ (i : Nat) (q : Rw TT), i ≤ 5 ∧ kv = .int .i64 ((i : Int) + 1) ∧ sv = .slice q.1 q.2.2.length q.2.1 ∧ Hid (rsT q = nrmK (rsT r) i) ∧ RoT w.heap.size wr q ∧ Hid (ApT q) ∧ q.2.2.length ≤ i ∧ Below w.heap.size w wr) (fun _ kv _ => 6 - (intOf kv).toNat)
    case atStart => exact ⟨0, (none, 0, []), by omega, rfl, rfl, rfl, RoT.nil _ _, ApT.nil _ _, Nat.le_refl _, BC⟩
    case round =>
      clear BC
      obtain ⟨i, q, hi, rfl, rfl, HQ, ro, HA, hql, BC⟩ := hrel
      by_cases hlt : i < 5
      · have hlt2 : (i : Int) + 1 ≤ 5 := by omega
        have K := ofKind_is r ((i : Int) + 1) wr (hr.later BC) HOK.out
        have HS : Hid (nrmK (rsT r) (i + 1) = nrmK (rsT r) i ++ if (ofK ((i : Int) + 1) (rsT r)).2 = true then [(ofK ((i : Int) + 1) (rsT r)).1] else []) := (rfl : nrmK (rsT r) (i + 1) = _)
        generalize ofK ((i : Int) + 1) (rsT r) = f at K HS
        obtain ⟨p, b⟩ := f
        go_wp2_with fail
        refine K.mono ?_
        clear K
        rintro en W1 ⟨⟨y, rfl, hy, oy⟩, hb⟩
        dsimp only at hy ⊢
        have HNEW : Hid (∀ k, kbT y = some k → ∀ z ∈ q.2.2, kbT z ≠ some k) := ap_new ro oy (Nat.le_refl _)
        have hwW : w.heap.size ≤ wr.heap.size := BC.size
        replace ro := ro.later hb
        replace oy := oy.le hwW
        replace BC := BC.trans (hb.mono BC.size)
        clear hb
        obtain ⟨V, hV⟩ : ∃ V, W1.alloc (.cells #[.int .i64 y.1, .slice y.2.1.1 y.2.1.2.2.length y.2.1.2.1, .int .i64 y.2.2] 59) = V := ⟨_, rfl⟩
        have XA : Below W1.heap.size W1 V := by rw [← hV]; exact (Below.refl _ _).alloc (Nat.le_refl _) _
        have TV : Blk W1.heap.size [.int .i64 y.1, .slice y.2.1.1 y.2.1.2.2.length y.2.1.2.1, .int .i64 y.2.2] V := by rw [← hV]; exact Blk.new _ _ _
        replace ro := ro.later XA
        replace oy := oy.later XA
        replace BC := BC.trans (XA.mono BC.size)
        clear XA
        cases b with
        | false =>
          have HQ2 : Hid (rsT q = nrmK (rsT r) (i + 1)) := by show _ = _; rw [HS.out, HQ.out]; simp
          clear HS HQ TV
          go_wp2
          try rw [hV]
          go_roundw
          case rel => exact ⟨i + 1, q, by omega, by go_num, rfl, HQ2, ro, HA, by omega, BC⟩
          case measure => simp [intOf]; omega
        | true =>
          have HQ2 : Hid (rsT (q.1, q.2.1, q.2.2 ++ [y]) = nrmK (rsT r) (i + 1)) := by
            show _ = _
            rw [HS.out, ← HQ.out]
            unfold rsT
            dsimp only
            rw [List.map_append, List.map_cons, List.map_nil, hy]
            rfl
          clear HS HQ hy
          obtain ⟨VA, hVA⟩ : ∃ Z, V.alloc (.cells #[.int .i64 y.1, .slice y.2.1.1 y.2.1.2.2.length y.2.1.2.1, .int .i64 y.2.2] 59) = Z := ⟨_, rfl⟩
          have XA : Below V.heap.size V VA := by rw [← hVA]; exact (Below.refl _ _).alloc (Nat.le_refl _) _
          have TA : Blk V.heap.size [.int .i64 y.1, .slice y.2.1.1 y.2.1.2.2.length y.2.1.2.1, .int .i64 y.2.2] VA := by rw [← hVA]; exact Blk.new _ _ _
          replace ro := ro.later XA
          replace oy := oy.later XA
          replace BC := BC.trans (XA.mono BC.size)
          clear XA
          obtain ⟨jt, hjt, hjz, hjs, hjb⟩ := parts_of info59
          have hBA := BC.size
          have u0 := TV.at 0 rfl
          have u1 := TV.at 1 rfl
          have u2 := TV.at 2 rfl
          go_wp2_with (first | (at_builtin; first | refine wpList_append_where _ rfl _ _ 24 rfl (w.heap.size) 59 jt _ 3 40 Try.underlying24 hjt hjz hjs hjb rfl (by decide) _ _ _ rfl ro.1 ⟨V.heap.size, 0, none⟩ 1 1 [.int .i64 y.1, .slice y.2.1.1 y.2.1.2.2.length y.2.1.2.1, .int .i64 y.2.2] rfl rfl (news_box TA) (fun u hu => by simp at hu; rcases hu with rfl | rfl | rfl <;> rfl) ?c3 ?c4 hBA (by decide) ?_ | (rw [hVA]; refine wpList_append_where _ rfl _ _ 24 rfl (w.heap.size) 59 jt _ 3 40 Try.underlying24 hjt hjz hjs hjb rfl (by decide) _ _ _ rfl ro.1 ⟨V.heap.size, 0, none⟩ 1 1 [.int .i64 y.1, .slice y.2.1.1 y.2.1.2.2.length y.2.1.2.1, .int .i64 y.2.2] rfl rfl (news_box TA) (fun u hu => by simp at hu; rcases hu with rfl | rfl | rfl <;> rfl) ?c3 ?c4 hBA (by decide) ?_)) | go_in)
          case c3 => unfold maxLen; omega
          case c4 => omega
          intro vA wA ownA hgA hwA
          obtain ⟨na, nc, rfl, _⟩ := own_shape ownA
          obtain ⟨RA, CA, OA⟩ := put_mem (x := y) ro oy ownA hgA hwA
          have APF : Hid (ApT (na, nc, q.2.2 ++ [y])) := ap_put HA.out HNEW.out
          have BF : Below w.heap.size w wA := BC.grown hgA BC.size (fun k e => (World.ownsRow.lt ro.1 k e).1)
          have hqe : (q.2.2 ++ [y]).length = q.2.2.length + 1 := by simp
          have HR : ∃ (i' : Nat) (q' : Rw TT), i' ≤ 5 ∧ Value.int .i64 ((i : Int) + 1 + 1) = .int .i64 ((i' : Int) + 1) ∧ Value.slice na (q.2.2.length + 1) nc = .slice q'.1 q'.2.2.length q'.2.1 ∧ Hid (rsT q' = nrmK (rsT r) i') ∧ RoT w.heap.size wA q' ∧ Hid (ApT q') ∧ q'.2.2.length ≤ i' ∧ Below w.heap.size w wA :=
            ⟨i + 1, (na, nc, q.2.2 ++ [y]), by omega, by go_num, by dsimp only; rw [hqe], HQ2, RA, APF, by dsimp only; rw [hqe]; omega, BF⟩
          clear RA OA CA APF BF HQ2 HNEW HA ro oy BC hgA hwA ownA TV TA hV hVA hqe u0 u1 u2
          go_wp2
          go_roundw
          case rel => exact HR
          case measure => simp [intOf]; omega
      · obtain rfl : i = 5 := by omega
        go_wp2
        go_ret
        exact ⟨⟨q, rfl, by rw [HQ.out, HN2.out], ro, HA.out⟩, BC⟩
  · have HN2 : Hid (nv = []) := by show _ = _; rw [HN.out, if_neg hok]
    rw [Bool.not_eq_true] at hok
    rw [hok]
    clear HN hok
    go_wp2
    go_ret
    exact ⟨⟨(none, 0, []), rfl, by rw [HN2.out]; rfl, RoT.nil _ _, ApT.nil _ _⟩, BC⟩
end Go.Proofs.Ytjbbhegijlnndaa.Nd
