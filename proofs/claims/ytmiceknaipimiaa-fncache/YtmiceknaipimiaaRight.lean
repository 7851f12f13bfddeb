/- What is right of a Cache, program and model. -/
import Derived.Test.YtmiceknaipimiaaCount
set_option linter.unusedVariables false
namespace Go.Proofs.Ytmiceknaipimiaa
open Go Go.RowKit Draw

def allA (xs : List A3) : Bool := xs.all fun p => aOk p.1 p.2.1 p.2.2
theorem allA_yes {xs : List A3} (h : ∀ j (hj : j < xs.length), aOk xs[j].1 xs[j].2.1 xs[j].2.2 = true) : allA xs = true := by
  unfold allA
  rw [List.all_eq_true]
  intro x hx
  obtain ⟨j, hj, rfl⟩ := List.mem_iff_getElem.1 hx
  exact h j hj
theorem allA_no {xs : List A3} {j : Nat} (hj : j < xs.length) (h : aOk xs[j].1 xs[j].2.1 xs[j].2.2 = false) : allA xs = false := by
  cases hh : allA xs with
  | false => rfl
  | true => unfold allA at hh; rw [List.all_eq_true] at hh; rw [hh _ (List.getElem_mem hj)] at h; cases h
theorem aOk_iff {a b c : Int} : aOk a b c = true ↔ (0 ≤ a ∧ a ≤ 5) ∧ (0 ≤ b ∧ b ≤ 100000) ∧ 0 ≤ c ∧ c ≤ 1000000 := by
  unfold aOk
  rw [Bool.and_eq_true, Bool.and_eq_true, btw_iff, btw_iff, btw_iff]
theorem aOk_i3 {p : A3} (h : aOk p.1 p.2.1 p.2.2 = true) : I3 p := by
  have := aOk_iff.1 h
  unfold I3 i64
  omega
theorem allA_i3 {xs : List A3} (h : allA xs = true) : ∀ p ∈ xs, I3 p := by
  unfold allA at h
  rw [List.all_eq_true] at h
  exact fun p hp => aOk_i3 (h p hp)
/-- What is right of what was seen. -/
def snB (xs : List A3) : Bool := allA xs && decide xs.Nodup

set_option maxRecDepth 100000 in
set_option maxHeartbeats 3200000 in
theorem seenOk_is (q : Int) (a : Option Addr) (cap : Nat) (xs : List A3) (w : World) (hr : ARow w a xs) (hl : xs.length ≤ 6) :
    Calls Try.prog 49 #[cv q a xs.length cap] w fun e w' => e = .returned (.bool (snB xs)) ∧ Below w.heap.size w w' := by
  have hl2 : (xs.length : Int) ≤ 6 := by omega
  go_enter Try.func49, Try.ntmps49
  go_wp2
  go_loopw [8] (fun i wr => ∃ k : Nat, k ≤ xs.length ∧ i = .int .i64 k ∧ (∀ j (hj : j < xs.length), j < k → aOk xs[j].1 xs[j].2.1 xs[j].2.2 = true) ∧ Blk w.heap.size [.int .i64 q, .slice a xs.length cap] wr ∧ Below w.heap.size w wr) (fun i _ => xs.length - (intOf i).toNat)
  case atStart => exact ⟨0, by omega, rfl, fun j hj h => absurd h (by omega), Blk.new _ _ _, (Below.refl _ _).alloc (Nat.le_refl _) _⟩
  case round =>
    obtain ⟨k, hk, rfl, hall, T, hbel⟩ := hrel
    by_cases hlt : k < xs.length
    · obtain ⟨b, off, rfl, hbl, h0, h1, h2⟩ := hr k hlt
      rw [← hbel.cell (p := ⟨b, off + k * 3, none⟩) hbl] at h0
      rw [← hbel.cell (p := ⟨b, off + k * 3 + 1, none⟩) hbl] at h1
      rw [← hbel.cell (p := ⟨b, off + k * 3 + 2, none⟩) hbl] at h2
      have hlt2 : (k : Int) < (xs.length : Int) := by omega
      have H := fun (h : aOk xs[k].1 xs[k].2.1 xs[k].2.2 = true) => fun j (hj : j < xs.length) (hjk : j < k + 1) => (if e : j = k then by subst e; exact h else hall j hj (by omega) : aOk xs[j].1 xs[j].2.1 xs[j].2.2 = true)
      have HN := allA_no (xs := xs) hlt
      generalize hx : xs[k].1 = x at h0 H HN
      generalize hy : xs[k].2.1 = y at h1 H HN
      generalize hz : xs[k].2.2 = z at h2 H HN
      clear hx hy hz hall
      obtain ⟨V, hV⟩ : ∃ V, wr.alloc (.cells #[.int .i64 x, .int .i64 y, .int .i64 z] 28) = V := ⟨_, rfl⟩
      have TV : Blk wr.heap.size [.int .i64 x, .int .i64 y, .int .i64 z] V := by rw [← hV]; exact Blk.new _ _ _
      have BV : Below wr.heap.size wr V := by rw [← hV]; exact (Below.refl _ _).alloc (Nat.le_refl _) _
      replace T := T.later BV T.lt
      replace hbel := hbel.trans (BV.mono hbel.size)
      have d0 := TV.at 0 rfl
      have d1 := TV.at 1 rfl
      have d2 := TV.at 2 rfl
      have g0 := TV.fz 0 rfl
      have g1 := TV.fz 1 rfl
      have g2 := TV.fz 2 rfl
      clear TV BV
      have HX := authOk_is x y z V
      go_wp2_with fail
      try rw [hV]
      refine HX.mono ?_
      clear HX hV h0 h1 h2 d0 d1 d2 g0 g1 g2
      rintro e w2 ⟨rfl, hb2⟩
      replace T := T.later hb2 T.lt
      replace hbel := hbel.trans (hb2.mono hbel.size)
      clear hb2
      by_cases hA : aOk x y z = true
      · rw [hA]
        have H1 := H hA
        clear H HN hA
        go_wp2
        go_roundw
        case rel => exact ⟨k + 1, by omega, by go_num, H1, T, hbel⟩
        case measure => simp [intOf]; omega
      · rw [Bool.not_eq_true] at hA
        rw [hA]
        have H1 := HN hA
        clear H HN hA
        go_wp2
        go_ret
        exact ⟨by unfold snB; rw [H1]; rfl, hbel⟩
    · obtain rfl : k = xs.length := by omega
      have hA : allA xs = true := allA_yes (fun j hj => hall j hj hj)
      have hin := allA_i3 hA
      have hrd : ARow wr.drew a xs := (hr.later hbel).drew
      have BD := hbel.drew
      have d0 : wr.drew.cell? ⟨w.heap.size, 0, none⟩ = some (.int .i64 q) := T.drew.at 0 rfl
      have d1 : wr.drew.cell? ⟨w.heap.size, 1, none⟩ = some (.slice a xs.length cap) := T.drew.at 1 rfl
      have hlt0 : w.heap.size < wr.drew.heap.size := T.lt
      clear hall T hbel
      go_wp2_with fail
      refine wp_region_held_drew (S := (fun V : World => V.cell? ⟨w.heap.size, 0, none⟩ = some (.int .i64 q) ∧ V.cell? ⟨w.heap.size, 1, none⟩ = some (.slice a xs.length cap))) (by kernel_rfl) ⟨d0, d1⟩ (fun hHeld => ?_)
      refine take_one 0 16 (v := ?_) rfl rfl (by kernel_rfl) (by kernel_rfl) (by kernel_rfl) (fun _ _ _ h => h) (Or.inl ⟨by rfl, ?_⟩) hHeld ?_
      rotate_left
      · intro w' hSw; (try dsimp only at hSw); obtain ⟨c0, c1⟩ := hSw; go_simp; try with_reducible rfl
      try simp only [Act.put, List.setIfInBounds_toArray, List.set_cons_zero, List.set_cons_succ]
      refine take_one 3 19 (v := ?_) rfl rfl (by kernel_rfl) (by kernel_rfl) (by kernel_rfl) (fun _ _ _ h => h) (Or.inl ⟨by rfl, ?_⟩) hHeld ?_
      rotate_left
      · intro w' hSw; (try dsimp only at hSw); obtain ⟨c0, c1⟩ := hSw; go_simp; try with_reducible rfl
      try simp only [Act.put, List.setIfInBounds_toArray, List.set_cons_zero, List.set_cons_succ]
      refine take_one 4 20 (v := ?_) rfl rfl (by kernel_rfl) (by kernel_rfl) (by kernel_rfl) (fun _ _ _ h => h) (Or.inl ⟨by rfl, ?_⟩) hHeld ?_
      rotate_left
      · intro w' hSw; (try dsimp only at hSw); obtain ⟨c0, c1⟩ := hSw; go_simp; try with_reducible rfl
      try simp only [Act.put, List.setIfInBounds_toArray, List.set_cons_zero, List.set_cons_succ]
      refine take_one 5 21 (v := ?_) rfl rfl (by kernel_rfl) (by kernel_rfl) (by kernel_rfl) (fun _ _ _ h => h) (Or.inl ⟨by rfl, ?_⟩) hHeld ?_
      rotate_left
      · intro w' hSw; (try dsimp only at hSw); obtain ⟨c0, c1⟩ := hSw; go_simp; try with_reducible rfl
      try simp only [Act.put, List.setIfInBounds_toArray, List.set_cons_zero, List.set_cons_succ]
      refine wpAnyH_ready (rs := [1]) (by kernel_rfl) (by simp) ?_
      refine AllReadyH.cons (i := 1) rfl (fun K hK => ?_) AllReadyH.nil
      go_simp
      refine (counts_is q a cap xs _ hrd hl hin).mono ?_
      rintro e w2 ⟨m, rfl, hM, hm, hb2⟩
      have d0n := (hb2.cell (p := ⟨w.heap.size, 0, none⟩) hlt0).trans d0
      have d1n := (hb2.cell (p := ⟨w.heap.size, 1, none⟩) hlt0).trans d1
      have BN := BD.trans (hb2.mono BD.size)
      obtain ⟨s, hs, hs1, hs2⟩ := hM.len 3
      clear hb2 d0 d1 hrd
      go_wp2_with fail
      refine hK.out _ _ ⟨d0n, d1n⟩ (fun hHeld2 => ?_)
      clear hK K hHeld
      have hHeld := hHeld2
      clear hHeld2
      try simp only [Act.put, List.setIfInBounds_toArray, List.set_cons_zero, List.set_cons_succ]
      refine wpAnyH_ready (rs := [2]) (by kernel_rfl) (by simp) ?_
      refine AllReadyH.cons (i := 2) rfl (fun K hK => ?_) AllReadyH.nil
      go_simp
      refine hK.out _ _ ⟨d0n, d1n⟩ (fun hHeld2 => ?_)
      clear hK K hHeld
      have hHeld := hHeld2
      clear hHeld2
      try simp only [Act.put, List.setIfInBounds_toArray, List.set_cons_zero, List.set_cons_succ]
      refine take_one 6 22 (v := ?_) rfl rfl (by kernel_rfl) (by kernel_rfl) (by kernel_rfl) (fun _ _ _ h => h) (Or.inl ⟨by rfl, ?_⟩) hHeld ?_
      rotate_left
      · intro w' hSw; (try dsimp only at hSw); obtain ⟨c0, c1⟩ := hSw; go_simp; try with_reducible rfl
      try simp only [Act.put, List.setIfInBounds_toArray, List.set_cons_zero, List.set_cons_succ]
      refine take_one 7 2 (v := ?_) rfl rfl (by kernel_rfl) (by kernel_rfl) (by kernel_rfl) (fun _ _ _ h => h) (Or.inl ⟨by rfl, ?_⟩) hHeld ?_
      rotate_left
      · intro w' hSw; (try dsimp only at hSw); obtain ⟨c0, c1⟩ := hSw; go_simp; try with_reducible rfl
      try simp only [Act.put, List.setIfInBounds_toArray, List.set_cons_zero, List.set_cons_succ]
      refine wpAnyH_done (by kernel_rfl) ?_ _
      by_cases hn : xs.Nodup
      · have e := hs2.2 hn
        subst e
        clear hHeld hs hs1 hs2 d0n d1n
        go_wp2
        go_ret
        exact ⟨by unfold snB; rw [hA, decide_eq_true hn]; simp, BN⟩
      · have e : ¬ s = xs.length := fun e => hn (hs2.1 e)
        have e2 : ¬ (s : Int) = (xs.length : Int) := by omega
        clear hHeld hs hs1 hs2 d0n d1n
        go_wp2
        go_ret
        exact ⟨by unfold snB; rw [hA, decide_eq_false hn]; simp [e2], BN⟩


/-- What is right of a Cache. -/
def cOk (q : Int) (xs : List A3) : Bool := btw q (-1) 200000 && (decide (xs.length ≤ 6) && snB xs)
set_option maxRecDepth 100000 in
set_option maxHeartbeats 1600000 in
theorem right_is (q : Int) (a : Option Addr) (cap : Nat) (xs : List A3) (w : World) (hr : ARow w a xs) (hm : xs.length ≤ 1048576) :
    Calls Try.prog 32 #[cv q a xs.length cap] w fun e w' => e = .returned (.bool (cOk q xs)) ∧ Below w.heap.size w w' := by
  have hb0 : Below w.heap.size w (w.alloc (.cells #[.int .i64 q, .slice a xs.length cap] 26)) := (Below.refl _ _).alloc (Nat.le_refl _) _
  by_cases h0 : -1 ≤ q
  · by_cases h1 : q ≤ 200000
    · have hq : btw q (-1) 200000 = true := (btw_iff _ _ _).2 ⟨h0, h1⟩
      by_cases h2 : xs.length ≤ 6
      · have h2d : decide ((xs.length : Int) ≤ 6) = true := decide_eq_true (by omega)
        have HX := fun W (h : ARow W a xs) => seenOk_is q a cap xs W h h2
        have hd : decide (xs.length ≤ 6) = true := decide_eq_true h2
        have ec : cOk q xs = snB xs := by unfold cOk; rw [hq, hd]; rfl
        rw [ec]
        generalize snB xs = r at HX ⊢
        go_enter Try.func32, Try.ntmps32
        go_wp2_with fail
        refine (HX _ (hr.later hb0)).mono ?_
        rintro e w1 ⟨rfl, hb1⟩
        have b1 := hb0.trans (hb1.mono hb0.size)
        clear HX hb1
        go_wp2
        go_ret
        exact ⟨rfl, b1⟩
      · have h2d : decide ((xs.length : Int) ≤ 6) = false := decide_eq_false (by omega)
        have hd : decide (xs.length ≤ 6) = false := decide_eq_false h2
        have ec : cOk q xs = false := by unfold cOk; rw [hq, hd]; rfl
        rw [ec]
        go_enter Try.func32, Try.ntmps32
        go_wp2
        go_ret
        exact ⟨rfl, hb0⟩
    · have hq : btw q (-1) 200000 = false := by unfold btw; rw [decide_eq_false h1, Bool.and_false]
      have ec : cOk q xs = false := by unfold cOk; rw [hq]; rfl
      rw [ec]
      go_enter Try.func32, Try.ntmps32
      go_wp2
      go_ret
      exact ⟨rfl, hb0⟩
  · have hq : btw q (-1) 200000 = false := by unfold btw; rw [decide_eq_false h0, Bool.false_and]
    have ec : cOk q xs = false := by unfold cOk; rw [hq]; rfl
    rw [ec]
    go_enter Try.func32, Try.ntmps32
    go_wp2
    go_ret
    exact ⟨rfl, hb0⟩
set_option maxRecDepth 100000 in
theorem implOk_is (q : Int) (a : Option Addr) (cap : Nat) (xs : List A3) (w : World) (hr : ARow w a xs) (hm : xs.length ≤ 1048576) :
    Calls Try.prog 17 #[cv q a xs.length cap] w fun e w' => e = .returned (.bool (cOk q xs)) ∧ Below w.heap.size w w' := by
  have hb0 : Below w.heap.size w (w.alloc (.cells #[.int .i64 q, .slice a xs.length cap] 26)) := (Below.refl _ _).alloc (Nat.le_refl _) _
  have HX := right_is q a cap xs _ (hr.later hb0) hm
  go_enter Try.func17, Try.ntmps17
  go_wp2_with fail
  refine HX.mono ?_
  clear HX
  rintro e w1 ⟨rfl, hb1⟩
  have b1 := hb0.trans (hb1.mono hb0.size)
  clear hb1
  go_wp2
  go_ret
  exact ⟨rfl, b1⟩
end Go.Proofs.Ytmiceknaipimiaa
