/- An Auth tried at a Cache: the model. -/
import Derived.Test.YtmiceknaipimiaaITry
import Derived.Test.YtmiceknaipimiaaSpecOk
set_option linter.unusedVariables false
namespace Go.Proofs.Ytmiceknaipimiaa
open Go Go.RowKit Go.Joins Own

theorem tk_code {q : Int} {xs : List A3} {x y z n k c : Int} (hc : cOk q xs = true) (h : cdV q xs x y z n k = c) (h0 : c ≠ 0) : tkV q xs x y z n k = c ∧ tlV q xs x y z n k = xs := by
  have e : tkV q xs x y z n k = c := by unfold tkV; rw [if_pos hc, h, if_neg h0]
  exact ⟨e, by unfold tlV; rw [if_pos hc, e, if_neg h0]⟩
theorem one_row (w : World) (x y z : Int) : ARow (w.alloc (.cells #[.int .i64 x, .int .i64 y, .int .i64 z] 28)) (some ⟨w.heap.size, 0, none⟩) [(x, y, z)] := by
  intro j hj
  obtain rfl : j = 0 := by simp at hj; omega
  have B9 := Blk.new w #[.int .i64 x, .int .i64 y, .int .i64 z] 28
  exact ⟨w.heap.size, 0, rfl, by simp, B9.at 0 rfl, B9.at 1 rfl, B9.at 2 rfl⟩
theorem stay_all (n k : Int) (xs : List A3) : stay n k (xs.take xs.length) = stay n k xs := by rw [List.take_length]

set_option maxRecDepth 100000 in
set_option maxHeartbeats 6400000 in
theorem specTry_is (q : Int) (a : Option Addr) (cap : Nat) (xs : List A3) (x y z n k : Int) (w : World) (hr : ARow w a xs) (hm : xs.length ≤ 1048576) (hcap : xs.length ≤ cap) :
    Calls Try.prog 11 #[cv q a xs.length cap, av x y z, .int .i64 n, .int .i64 k] w fun e w' => ∃ g c, e = .returned (.tuple #[cv (tqV q xs) g (tlV q xs x y z n k).length c, .int .i64 (tkV q xs x y z n k)]) ∧ Own3 w.heap.size g c (tlV q xs x y z n k) w' ∧ Below w.heap.size w w' := by
  obtain ⟨W, hW⟩ : ∃ W, ((w.alloc (.cells #[.int .i64 q, .slice a xs.length cap] 26)).alloc (.cells #[.int .i64 x, .int .i64 y, .int .i64 z] 28)).alloc (.cells #[.int .i64 0, .slice none 0 0] 26) = W := ⟨_, rfl⟩
  have BW : Below w.heap.size w W := by rw [← hW]; exact (((Below.refl _ _).alloc (Nat.le_refl _) _).alloc (by simp) _).alloc (by simp; omega) _
  have sW : Hid (w.heap.size + 3 = W.heap.size) := by show _ = _; rw [← hW]; simp
  have T0 : Blk w.heap.size [.int .i64 q, .slice a xs.length cap] W := by rw [← hW]; exact ((Blk.new _ _ _).alloc (by simp) _).alloc (by simp; omega) _
  have T1 : Blk (w.heap.size + 1) [.int .i64 x, .int .i64 y, .int .i64 z] W := by rw [← hW]; have h := Blk.new (w.alloc (.cells #[.int .i64 q, .slice a xs.length cap] 26)) #[.int .i64 x, .int .i64 y, .int .i64 z] 28; rw [World.size_alloc] at h; exact h.alloc (by simp) _
  have T2 : Blk (w.heap.size + 1 + 1) [.int .i64 0, .slice none 0 0] W := by rw [← hW]; have h := Blk.new ((w.alloc (.cells #[.int .i64 q, .slice a xs.length cap] 26)).alloc (.cells #[.int .i64 x, .int .i64 y, .int .i64 z] 28)) #[.int .i64 0, .slice none 0 0] 26; rw [World.size_alloc, World.size_alloc] at h; exact h
  have HR := specOk_is q a cap xs W (hr.later BW) hm hcap
  have c0 := T0.at 0 rfl
  have c1 := T0.at 1 rfl
  by_cases hc : cOk q xs = true
  · rw [hc] at HR
    obtain ⟨hq, h6, hA6, hnd⟩ := cOk_parts hc
    have eq : tqV q xs = q := if_pos hc
    rw [eq]
    have HD := fun W (h : ARow W a xs) => specCopy_is q a cap xs W h hm
    have HA := fun W => spec_authOk x y z W
    have HN := fun W => in_is n 0 100000 W
    have HK := fun W => in_is k 0 20 W
    by_cases hA : aOk x y z = true
    · simp only [hA] at HA
      by_cases hn : btw n 0 100000 = true
      · have hn' : (decide (0 ≤ n) && decide (n ≤ 100000)) = true := hn
        simp only [hn'] at HN
        by_cases hk : btw k 0 20 = true
        · have hk' : (decide (0 ≤ k) && decide (k ≤ 20)) = true := hk
          simp only [hk'] at HK
          have hmo : moB n k = true := by unfold moB; rw [hn, hk]; rfl
          obtain ⟨gn, gk⟩ := moB_iff.1 hmo
          obtain ⟨gx, gy, gz⟩ := aOk_iff.1 hA
          have HP := fun W => specApart_is n y k W gn gy gk
          have ec : cdV q xs x y z n k = (if k < apV n y then 2 else if n ≤ q then 3 else if (x, y, z) ∈ xs then 4 else 0) := by unfold cdV; rw [hA, hmo]; rfl
          by_cases h2 : k < apV n y
          · simp only [decide_eq_true h2] at HP
            rw [if_pos h2] at ec
            obtain ⟨ek, el⟩ := tk_code hc ec (by decide)
            rw [ek, el]
            clear ek el ec hn' hk' h2
            go_enter Try.func11, Try.ntmps11
            go_wp2_with fail
            try rw [hW]
            refine HR.mono ?_
            clear HR hW c0 c1
            rintro e w1 ⟨rfl, hb1⟩
            replace T0 := T0.later hb1 T0.lt
            replace T1 := T1.later hb1 T1.lt
            replace T2 := T2.later hb1 T2.lt
            replace BW := BW.trans (hb1.mono BW.size)
            have sz1 : Hid (w.heap.size + 3 ≤ w1.heap.size) := by show _ ≤ _; have := sW.out; have := hb1.size; omega
            clear hb1
            have c0 := T0.at 0 rfl
            have c1 := T0.at 1 rfl
            go_wp2_with fail
            refine (HD _ (hr.later BW)).mono ?_
            clear HD c0 c1
            rintro e w2 ⟨g5, c5, rfl, o5, hb2⟩
            replace T0 := T0.later hb2 T0.lt
            replace T1 := T1.later hb2 T1.lt
            replace T2 := T2.later hb2 T2.lt
            replace BW := BW.trans (hb2.mono BW.size)
            have sz2 : Hid (w.heap.size + 3 ≤ w2.heap.size) := by show _ ≤ _; have := sz1.out; have := hb2.size; omega
            clear hb2
            obtain ⟨V, hV⟩ : ∃ V, (w2.setCell ⟨w.heap.size, 0, none⟩ (.int .i64 q)).setCell ⟨w.heap.size, 1, none⟩ (.slice g5 xs.length c5) = V := ⟨_, rfl⟩
            have c0 := T0.at 0 rfl
            have c1 := T0.at 1 rfl
            have f0 := T0.fz 0 rfl
            have f1 := T0.fz 1 rfl
            have U0 : Blk w.heap.size [.int .i64 q, .slice g5 xs.length c5] V := by rw [← hV]; exact (T0.set 0 (.int .i64 q)).set 1 (.slice g5 xs.length c5)
            have U1 : Blk (w.heap.size + 1) [.int .i64 x, .int .i64 y, .int .i64 z] V := by rw [← hV]; exact (T1.far (by omega) 0 _).far (by omega) 1 _
            have U2 : Blk (w.heap.size + 1 + 1) [.int .i64 0, .slice none 0 0] V := by rw [← hV]; exact (T2.far (by omega) 0 _).far (by omega) 1 _
            have BV : Below w.heap.size w V := by rw [← hV]; exact (BW.setCell (by dsimp only; omega) _).setCell (by dsimp only; omega) _
            have szV : Hid (w.heap.size + 3 ≤ V.heap.size) := by show _ ≤ _; rw [← hV]; have := sz2.out; simpa using this
            have o6 : Own3 (w.heap.size + 3) g5 c5 xs V := by rw [← hV]; exact ownsRow_le (ownsRow_setCell_below (ownsRow_setCell_below o5 (by dsimp only; have := sz1.out; omega) _) (by dsimp only; have := sz1.out; omega) _) sz1.out
            have d0 := U1.at 0 rfl
            have d1 := U1.at 1 rfl
            have d2 := U1.at 2 rfl
            clear T0 T1 T2 BW o5 sz1
            go_wp2_with fail
            try rw [hV]
            refine (HA _).mono ?_
            clear HA hV c0 c1 f0 f1 d0 d1 d2 sz2
            rintro e w3 ⟨rfl, hb3⟩
            replace U0 := U0.later hb3 U0.lt
            replace U1 := U1.later hb3 U1.lt
            replace U2 := U2.later hb3 U2.lt
            replace BV := BV.trans (hb3.mono BV.size)
            replace o6 := o6.later hb3
            have sz3 : Hid (w.heap.size + 3 ≤ w3.heap.size) := by show _ ≤ _; have := szV.out; have := hb3.size; omega
            clear hb3 szV
            go_wp2_with fail
            refine (HN _).mono ?_
            rintro e w9 ⟨rfl, rfl⟩
            clear HN
            go_wp2_with fail
            refine (HK _).mono ?_
            rintro e w9 ⟨rfl, rfl⟩
            clear HK
            have d1 := U1.at 1 rfl
            go_wp2_with fail
            refine (HP _).mono ?_
            rintro e w9 ⟨rfl, rfl⟩
            clear HP d1
            have c0 := U0.at 0 rfl
            have c1 := U0.at 1 rfl
            have e0 := U2.at 0 rfl
            have e1 := U2.at 1 rfl
            have f0 := U2.fz 0 rfl
            have f1 := U2.fz 1 rfl
            have R3 := (U2.set 0 (.int .i64 q)).set 1 (.slice g5 xs.length c5)
            have hb9 : Below w.heap.size w ((w3.setCell ⟨w.heap.size + 1 + 1, 0, none⟩ (.int .i64 q)).setCell ⟨w.heap.size + 1 + 1, 1, none⟩ (.slice g5 xs.length c5)) := (BV.setCell (by dsimp only; omega) _).setCell (by dsimp only; omega) _
            have ho9 : Own3 w.heap.size g5 c5 xs ((w3.setCell ⟨w.heap.size + 1 + 1, 0, none⟩ (.int .i64 q)).setCell ⟨w.heap.size + 1 + 1, 1, none⟩ (.slice g5 xs.length c5)) := ownsRow_le (ownsRow_setCell_below (ownsRow_setCell_below o6 (by dsimp only; omega) _) (by dsimp only; omega) _) (by omega)
            clear U0 U1 U2 BV o6
            go_wp2
            exact bodyPost_ret (res_c2 rfl _ _ (w.heap.size + 1 + 1) _ _ _ rfl rfl (R3.at 0 rfl) (R3.at 1 rfl)) rfl ⟨g5, c5, rfl, ho9, hb9⟩
          · simp only [decide_eq_false h2] at HP
            rw [if_neg h2] at ec
            by_cases h3 : n ≤ q
            · rw [if_pos h3] at ec
              obtain ⟨ek, el⟩ := tk_code hc ec (by decide)
              rw [ek, el]
              clear ek el ec hn' hk' h2
              go_enter Try.func11, Try.ntmps11
              go_wp2_with fail
              try rw [hW]
              refine HR.mono ?_
              clear HR hW c0 c1
              rintro e w1 ⟨rfl, hb1⟩
              replace T0 := T0.later hb1 T0.lt
              replace T1 := T1.later hb1 T1.lt
              replace T2 := T2.later hb1 T2.lt
              replace BW := BW.trans (hb1.mono BW.size)
              have sz1 : Hid (w.heap.size + 3 ≤ w1.heap.size) := by show _ ≤ _; have := sW.out; have := hb1.size; omega
              clear hb1
              have c0 := T0.at 0 rfl
              have c1 := T0.at 1 rfl
              go_wp2_with fail
              refine (HD _ (hr.later BW)).mono ?_
              clear HD c0 c1
              rintro e w2 ⟨g5, c5, rfl, o5, hb2⟩
              replace T0 := T0.later hb2 T0.lt
              replace T1 := T1.later hb2 T1.lt
              replace T2 := T2.later hb2 T2.lt
              replace BW := BW.trans (hb2.mono BW.size)
              have sz2 : Hid (w.heap.size + 3 ≤ w2.heap.size) := by show _ ≤ _; have := sz1.out; have := hb2.size; omega
              clear hb2
              obtain ⟨V, hV⟩ : ∃ V, (w2.setCell ⟨w.heap.size, 0, none⟩ (.int .i64 q)).setCell ⟨w.heap.size, 1, none⟩ (.slice g5 xs.length c5) = V := ⟨_, rfl⟩
              have c0 := T0.at 0 rfl
              have c1 := T0.at 1 rfl
              have f0 := T0.fz 0 rfl
              have f1 := T0.fz 1 rfl
              have U0 : Blk w.heap.size [.int .i64 q, .slice g5 xs.length c5] V := by rw [← hV]; exact (T0.set 0 (.int .i64 q)).set 1 (.slice g5 xs.length c5)
              have U1 : Blk (w.heap.size + 1) [.int .i64 x, .int .i64 y, .int .i64 z] V := by rw [← hV]; exact (T1.far (by omega) 0 _).far (by omega) 1 _
              have U2 : Blk (w.heap.size + 1 + 1) [.int .i64 0, .slice none 0 0] V := by rw [← hV]; exact (T2.far (by omega) 0 _).far (by omega) 1 _
              have BV : Below w.heap.size w V := by rw [← hV]; exact (BW.setCell (by dsimp only; omega) _).setCell (by dsimp only; omega) _
              have szV : Hid (w.heap.size + 3 ≤ V.heap.size) := by show _ ≤ _; rw [← hV]; have := sz2.out; simpa using this
              have o6 : Own3 (w.heap.size + 3) g5 c5 xs V := by rw [← hV]; exact ownsRow_le (ownsRow_setCell_below (ownsRow_setCell_below o5 (by dsimp only; have := sz1.out; omega) _) (by dsimp only; have := sz1.out; omega) _) sz1.out
              have d0 := U1.at 0 rfl
              have d1 := U1.at 1 rfl
              have d2 := U1.at 2 rfl
              clear T0 T1 T2 BW o5 sz1
              go_wp2_with fail
              try rw [hV]
              refine (HA _).mono ?_
              clear HA hV c0 c1 f0 f1 d0 d1 d2 sz2
              rintro e w3 ⟨rfl, hb3⟩
              replace U0 := U0.later hb3 U0.lt
              replace U1 := U1.later hb3 U1.lt
              replace U2 := U2.later hb3 U2.lt
              replace BV := BV.trans (hb3.mono BV.size)
              replace o6 := o6.later hb3
              have sz3 : Hid (w.heap.size + 3 ≤ w3.heap.size) := by show _ ≤ _; have := szV.out; have := hb3.size; omega
              clear hb3 szV
              go_wp2_with fail
              refine (HN _).mono ?_
              rintro e w9 ⟨rfl, rfl⟩
              clear HN
              go_wp2_with fail
              refine (HK _).mono ?_
              rintro e w9 ⟨rfl, rfl⟩
              clear HK
              have d1 := U1.at 1 rfl
              go_wp2_with fail
              refine (HP _).mono ?_
              rintro e w9 ⟨rfl, rfl⟩
              clear HP d1
              have c0 := U0.at 0 rfl
              have c1 := U0.at 1 rfl
              have e0 := U2.at 0 rfl
              have e1 := U2.at 1 rfl
              have f0 := U2.fz 0 rfl
              have f1 := U2.fz 1 rfl
              have R3 := (U2.set 0 (.int .i64 q)).set 1 (.slice g5 xs.length c5)
              have hb9 : Below w.heap.size w ((w3.setCell ⟨w.heap.size + 1 + 1, 0, none⟩ (.int .i64 q)).setCell ⟨w.heap.size + 1 + 1, 1, none⟩ (.slice g5 xs.length c5)) := (BV.setCell (by dsimp only; omega) _).setCell (by dsimp only; omega) _
              have ho9 : Own3 w.heap.size g5 c5 xs ((w3.setCell ⟨w.heap.size + 1 + 1, 0, none⟩ (.int .i64 q)).setCell ⟨w.heap.size + 1 + 1, 1, none⟩ (.slice g5 xs.length c5)) := ownsRow_le (ownsRow_setCell_below (ownsRow_setCell_below o6 (by dsimp only; omega) _) (by dsimp only; omega) _) (by omega)
              clear U0 U1 U2 BV o6
              go_wp2
              exact bodyPost_ret (res_c2 rfl _ _ (w.heap.size + 1 + 1) _ _ _ rfl rfl (R3.at 0 rfl) (R3.at 1 rfl)) rfl ⟨g5, c5, rfl, ho9, hb9⟩
            · rw [if_neg h3] at ec
              have HS := fun g c W (h : ARow W g xs) => saw_is g c xs x y z W h (by omega)
              by_cases h4 : (x, y, z) ∈ xs
              · simp only [decide_eq_true h4] at HS
                rw [if_pos h4] at ec
                obtain ⟨ek, el⟩ := tk_code hc ec (by decide)
                rw [ek, el]
                clear ek el ec hn' hk' h2 h4
                go_enter Try.func11, Try.ntmps11
                go_wp2_with fail
                try rw [hW]
                refine HR.mono ?_
                clear HR hW c0 c1
                rintro e w1 ⟨rfl, hb1⟩
                replace T0 := T0.later hb1 T0.lt
                replace T1 := T1.later hb1 T1.lt
                replace T2 := T2.later hb1 T2.lt
                replace BW := BW.trans (hb1.mono BW.size)
                have sz1 : Hid (w.heap.size + 3 ≤ w1.heap.size) := by show _ ≤ _; have := sW.out; have := hb1.size; omega
                clear hb1
                have c0 := T0.at 0 rfl
                have c1 := T0.at 1 rfl
                go_wp2_with fail
                refine (HD _ (hr.later BW)).mono ?_
                clear HD c0 c1
                rintro e w2 ⟨g5, c5, rfl, o5, hb2⟩
                replace T0 := T0.later hb2 T0.lt
                replace T1 := T1.later hb2 T1.lt
                replace T2 := T2.later hb2 T2.lt
                replace BW := BW.trans (hb2.mono BW.size)
                have sz2 : Hid (w.heap.size + 3 ≤ w2.heap.size) := by show _ ≤ _; have := sz1.out; have := hb2.size; omega
                clear hb2
                obtain ⟨V, hV⟩ : ∃ V, (w2.setCell ⟨w.heap.size, 0, none⟩ (.int .i64 q)).setCell ⟨w.heap.size, 1, none⟩ (.slice g5 xs.length c5) = V := ⟨_, rfl⟩
                have c0 := T0.at 0 rfl
                have c1 := T0.at 1 rfl
                have f0 := T0.fz 0 rfl
                have f1 := T0.fz 1 rfl
                have U0 : Blk w.heap.size [.int .i64 q, .slice g5 xs.length c5] V := by rw [← hV]; exact (T0.set 0 (.int .i64 q)).set 1 (.slice g5 xs.length c5)
                have U1 : Blk (w.heap.size + 1) [.int .i64 x, .int .i64 y, .int .i64 z] V := by rw [← hV]; exact (T1.far (by omega) 0 _).far (by omega) 1 _
                have U2 : Blk (w.heap.size + 1 + 1) [.int .i64 0, .slice none 0 0] V := by rw [← hV]; exact (T2.far (by omega) 0 _).far (by omega) 1 _
                have BV : Below w.heap.size w V := by rw [← hV]; exact (BW.setCell (by dsimp only; omega) _).setCell (by dsimp only; omega) _
                have szV : Hid (w.heap.size + 3 ≤ V.heap.size) := by show _ ≤ _; rw [← hV]; have := sz2.out; simpa using this
                have o6 : Own3 (w.heap.size + 3) g5 c5 xs V := by rw [← hV]; exact ownsRow_le (ownsRow_setCell_below (ownsRow_setCell_below o5 (by dsimp only; have := sz1.out; omega) _) (by dsimp only; have := sz1.out; omega) _) sz1.out
                have d0 := U1.at 0 rfl
                have d1 := U1.at 1 rfl
                have d2 := U1.at 2 rfl
                clear T0 T1 T2 BW o5 sz1
                go_wp2_with fail
                try rw [hV]
                refine (HA _).mono ?_
                clear HA hV c0 c1 f0 f1 d0 d1 d2 sz2
                rintro e w3 ⟨rfl, hb3⟩
                replace U0 := U0.later hb3 U0.lt
                replace U1 := U1.later hb3 U1.lt
                replace U2 := U2.later hb3 U2.lt
                replace BV := BV.trans (hb3.mono BV.size)
                replace o6 := o6.later hb3
                have sz3 : Hid (w.heap.size + 3 ≤ w3.heap.size) := by show _ ≤ _; have := szV.out; have := hb3.size; omega
                clear hb3 szV
                go_wp2_with fail
                refine (HN _).mono ?_
                rintro e w9 ⟨rfl, rfl⟩
                clear HN
                go_wp2_with fail
                refine (HK _).mono ?_
                rintro e w9 ⟨rfl, rfl⟩
                clear HK
                have d1 := U1.at 1 rfl
                go_wp2_with fail
                refine (HP _).mono ?_
                rintro e w9 ⟨rfl, rfl⟩
                clear HP d1
                have c0 := U0.at 0 rfl
                have c1 := U0.at 1 rfl
                have d0 := U1.at 0 rfl
                have d1 := U1.at 1 rfl
                have d2 := U1.at 2 rfl
                go_wp2_with fail
                refine (HS g5 c5 _ o6.row).mono ?_
                clear HS c0 c1 d0 d1 d2
                rintro e w4 ⟨rfl, hb4⟩
                replace U0 := U0.later hb4 U0.lt
                replace U1 := U1.later hb4 U1.lt
                replace U2 := U2.later hb4 U2.lt
                replace BV := BV.trans (hb4.mono BV.size)
                replace o6 := o6.later hb4
                have sz4 : Hid (w.heap.size + 3 ≤ w4.heap.size) := by show _ ≤ _; have := sz3.out; have := hb4.size; omega
                clear hb4
                have c0 := U0.at 0 rfl
                have c1 := U0.at 1 rfl
                have e0 := U2.at 0 rfl
                have e1 := U2.at 1 rfl
                have f0 := U2.fz 0 rfl
                have f1 := U2.fz 1 rfl
                have R3 := (U2.set 0 (.int .i64 q)).set 1 (.slice g5 xs.length c5)
                have hb9 : Below w.heap.size w ((w4.setCell ⟨w.heap.size + 1 + 1, 0, none⟩ (.int .i64 q)).setCell ⟨w.heap.size + 1 + 1, 1, none⟩ (.slice g5 xs.length c5)) := (BV.setCell (by dsimp only; omega) _).setCell (by dsimp only; omega) _
                have ho9 : Own3 w.heap.size g5 c5 xs ((w4.setCell ⟨w.heap.size + 1 + 1, 0, none⟩ (.int .i64 q)).setCell ⟨w.heap.size + 1 + 1, 1, none⟩ (.slice g5 xs.length c5)) := ownsRow_le (ownsRow_setCell_below (ownsRow_setCell_below o6 (by dsimp only; omega) _) (by dsimp only; omega) _) (by omega)
                clear U0 U1 U2 BV o6
                go_wp2
                exact bodyPost_ret (res_c2 rfl _ _ (w.heap.size + 1 + 1) _ _ _ rfl rfl (R3.at 0 rfl) (R3.at 1 rfl)) rfl ⟨g5, c5, rfl, ho9, hb9⟩
              · simp only [decide_eq_false h4] at HS
                rw [if_neg h4] at ec
                by_cases hf : (stay n k xs).length < 6
                · have ek : tkV q xs x y z n k = 0 := by unfold tkV; rw [if_pos hc, if_pos ec, if_pos hf]
                  have el : tlV q xs x y z n k = stay n k xs ++ [(x, y, z)] := by unfold tlV; rw [if_pos hc, ek]; rfl
                  rw [ek]
                  have ES : tlV q xs x y z n k = stay n k xs ++ [(x, y, z)] := el
                  clear ek el ec hn' hk' h2 h4
                  go_enter Try.func11, Try.ntmps11
                  go_wp2_with fail
                  try rw [hW]
                  refine HR.mono ?_
                  clear HR hW c0 c1
                  rintro e w1 ⟨rfl, hb1⟩
                  replace T0 := T0.later hb1 T0.lt
                  replace T1 := T1.later hb1 T1.lt
                  replace T2 := T2.later hb1 T2.lt
                  replace BW := BW.trans (hb1.mono BW.size)
                  have sz1 : Hid (w.heap.size + 3 ≤ w1.heap.size) := by show _ ≤ _; have := sW.out; have := hb1.size; omega
                  clear hb1
                  have c0 := T0.at 0 rfl
                  have c1 := T0.at 1 rfl
                  go_wp2_with fail
                  refine (HD _ (hr.later BW)).mono ?_
                  clear HD c0 c1
                  rintro e w2 ⟨g5, c5, rfl, o5, hb2⟩
                  replace T0 := T0.later hb2 T0.lt
                  replace T1 := T1.later hb2 T1.lt
                  replace T2 := T2.later hb2 T2.lt
                  replace BW := BW.trans (hb2.mono BW.size)
                  have sz2 : Hid (w.heap.size + 3 ≤ w2.heap.size) := by show _ ≤ _; have := sz1.out; have := hb2.size; omega
                  clear hb2
                  obtain ⟨V, hV⟩ : ∃ V, (w2.setCell ⟨w.heap.size, 0, none⟩ (.int .i64 q)).setCell ⟨w.heap.size, 1, none⟩ (.slice g5 xs.length c5) = V := ⟨_, rfl⟩
                  have c0 := T0.at 0 rfl
                  have c1 := T0.at 1 rfl
                  have f0 := T0.fz 0 rfl
                  have f1 := T0.fz 1 rfl
                  have U0 : Blk w.heap.size [.int .i64 q, .slice g5 xs.length c5] V := by rw [← hV]; exact (T0.set 0 (.int .i64 q)).set 1 (.slice g5 xs.length c5)
                  have U1 : Blk (w.heap.size + 1) [.int .i64 x, .int .i64 y, .int .i64 z] V := by rw [← hV]; exact (T1.far (by omega) 0 _).far (by omega) 1 _
                  have U2 : Blk (w.heap.size + 1 + 1) [.int .i64 0, .slice none 0 0] V := by rw [← hV]; exact (T2.far (by omega) 0 _).far (by omega) 1 _
                  have BV : Below w.heap.size w V := by rw [← hV]; exact (BW.setCell (by dsimp only; omega) _).setCell (by dsimp only; omega) _
                  have szV : Hid (w.heap.size + 3 ≤ V.heap.size) := by show _ ≤ _; rw [← hV]; have := sz2.out; simpa using this
                  have o6 : Own3 (w.heap.size + 3) g5 c5 xs V := by rw [← hV]; exact ownsRow_le (ownsRow_setCell_below (ownsRow_setCell_below o5 (by dsimp only; have := sz1.out; omega) _) (by dsimp only; have := sz1.out; omega) _) sz1.out
                  have d0 := U1.at 0 rfl
                  have d1 := U1.at 1 rfl
                  have d2 := U1.at 2 rfl
                  clear T0 T1 T2 BW o5 sz1
                  go_wp2_with fail
                  try rw [hV]
                  refine (HA _).mono ?_
                  clear HA hV c0 c1 f0 f1 d0 d1 d2 sz2
                  rintro e w3 ⟨rfl, hb3⟩
                  replace U0 := U0.later hb3 U0.lt
                  replace U1 := U1.later hb3 U1.lt
                  replace U2 := U2.later hb3 U2.lt
                  replace BV := BV.trans (hb3.mono BV.size)
                  replace o6 := o6.later hb3
                  have sz3 : Hid (w.heap.size + 3 ≤ w3.heap.size) := by show _ ≤ _; have := szV.out; have := hb3.size; omega
                  clear hb3 szV
                  go_wp2_with fail
                  refine (HN _).mono ?_
                  rintro e w9 ⟨rfl, rfl⟩
                  clear HN
                  go_wp2_with fail
                  refine (HK _).mono ?_
                  rintro e w9 ⟨rfl, rfl⟩
                  clear HK
                  have d1 := U1.at 1 rfl
                  go_wp2_with fail
                  refine (HP _).mono ?_
                  rintro e w9 ⟨rfl, rfl⟩
                  clear HP d1
                  have c0 := U0.at 0 rfl
                  have c1 := U0.at 1 rfl
                  have d0 := U1.at 0 rfl
                  have d1 := U1.at 1 rfl
                  have d2 := U1.at 2 rfl
                  go_wp2_with fail
                  refine (HS g5 c5 _ o6.row).mono ?_
                  clear HS c0 c1 d0 d1 d2
                  rintro e w4 ⟨rfl, hb4⟩
                  replace U0 := U0.later hb4 U0.lt
                  replace U1 := U1.later hb4 U1.lt
                  replace U2 := U2.later hb4 U2.lt
                  replace BV := BV.trans (hb4.mono BV.size)
                  replace o6 := o6.later hb4
                  have sz4 : Hid (w.heap.size + 3 ≤ w4.heap.size) := by show _ ≤ _; have := sz3.out; have := hb4.size; omega
                  clear hb4
                  have U40 : Hid (Blk w.heap.size [.int .i64 q, .slice g5 xs.length c5] w4) := U0
                  have U42 : Hid (Blk (w.heap.size + 1 + 1) [.int .i64 0, .slice none 0 0] w4) := U2
                  have BW4 : Hid (Below w.heap.size w w4) := BV
                  have hlit : (w4.alloc (.cells #[] 28)).ownsRow w4.heap.size 28 3 (.slice (some ⟨w4.heap.size, 0, none⟩) 0 0) 0 (trV []) := World.ownsRow_lit _ _ _ (Nat.le_refl _) (by unfold maxLen; omega) rfl
                  have hbl : Below w4.heap.size w4 (w4.alloc (.cells #[] 28)) := (Below.refl _ _).alloc (Nat.le_refl _) _
                  go_wp2
                  go_loopw [10, 11] (fun v i wr => ∃ (j : Nat) (ys : List A3), j ≤ xs.length ∧ i = .int .i64 j ∧ ys = stay n k (xs.take j) ∧ wr.ownsRow w4.heap.size 28 3 v ys.length (trV ys) ∧ Below w4.heap.size w4 wr) (fun _ i _ => xs.length - (intOf i).toNat)
                  case atStart => exact ⟨0, [], Nat.zero_le _, rfl, rfl, hlit, hbl⟩
                  case round =>
                    clear hlit hbl
                    obtain ⟨j, ys, hj, rfl, hys, hown, hbel⟩ := hrel
                    have L0 := U0.later hbel U0.lt
                    have L1 := U1.later hbel U1.lt
                    have L2 := U2.later hbel U2.lt
                    have BL := BV.trans (hbel.mono BV.size)
                    have o7 := o6.later hbel
                    have szr : Hid (w4.heap.size ≤ wr.heap.size) := hbel.size
                    clear U0 U1 U2
                    have yl : Hid (ys.length ≤ 6) := by show _ ≤ _; rw [hys]; have := stay_len n k (xs.take j); rw [List.length_take] at this; omega
                    by_cases hlt : j < xs.length
                    · obtain ⟨b, off, hg5, hbl5, e0, e1, e2⟩ := o7.row j hlt
                      subst hg5
                      have HH := stay_hit (n := n) (k := k) hlt
                      have HM := stay_miss (n := n) (k := k) hlt
                      generalize xs[j].1 = x1 at e0 HH
                      generalize xs[j].2.1 = y1 at e1 HH HM
                      generalize xs[j].2.2 = z1 at e2 HH
                      have q1 := L0.at 1 rfl
                      have hlt2 : (j : Int) < (xs.length : Int) := by omega
                      clear L0 L1 L2 BL o7 BV
                      by_cases hy : n - k ≤ y1
                      · have HS1 := HH hy
                        rw [← hys] at HS1
                        clear HH HM hys o6
                        have hr9 : ARow (wr.alloc (.cells #[.int .i64 x1, .int .i64 y1, .int .i64 z1] 28)) (some ⟨wr.heap.size, 0, none⟩) [(x1, y1, z1)] := one_row wr x1 y1 z1
                        go_wp2_with (first | (at_builtin; refine wpList_app_trips _ rfl _ _ rfl w4.heap.size _ ys.length ys rfl (World.ownsRow.alloc hown _) (some ⟨wr.heap.size, 0, none⟩) 1 [(x1, y1, z1)] rfl hr9 ?c3 ?c5 ?_) | go_in)
                        case c3 => have := yl.out; show ys.length + 1 ≤ _; omega
                        case c5 => have := szr.out; simp; omega
                        intro v' w9 hown9 hg9
                        have hb9 := below_app hbel (Nat.le_refl _) hown hg9
                        have hown9' : w9.ownsRow w4.heap.size 28 3 v' (ys ++ [(x1, y1, z1)]).length (trV (ys ++ [(x1, y1, z1)])) := by rw [show (ys ++ [(x1, y1, z1)]).length = ys.length + 1 by simp]; exact hown9
                        have R : Hid (∃ (j' : Nat) (ys' : List A3), j' ≤ xs.length ∧ Value.int .i64 ((j : Int) + 1) = .int .i64 j' ∧ ys' = stay n k (xs.take j') ∧ w9.ownsRow w4.heap.size 28 3 v' ys'.length (trV ys') ∧ Below w4.heap.size w4 w9) := ⟨j + 1, _, by omega, by go_num, HS1.symm, hown9', hb9⟩
                        clear hown9 hown9' hg9 hb9 HS1 hown hbel e0 e1 e2 q1 hr9
                        go_wp2
                        go_roundw
                        case rel => exact R.out
                        case measure => simp [intOf]; omega
                      · have HS1 := HM hy
                        rw [← hys] at HS1
                        clear HH HM hys o6
                        go_wp2
                        go_roundw
                        case rel => exact ⟨j + 1, ys, by omega, by go_num, HS1.symm, hown, hbel⟩
                        case measure => simp [intOf]; omega
                    · obtain rfl : j = xs.length := by omega
                      rw [List.take_length] at hys
                      obtain ⟨g8, c8, rfl, _⟩ := own_shape hown
                      rw [← hys] at hf ES
                      clear hys o6 BV
                      have q0 := L0.at 0 rfl
                      have q1 := L0.at 1 rfl
                      have hd6 : decide (6 ≤ (ys.length : Int)) = false := decide_eq_false (by omega)
                      have d0 := L1.at 0 rfl
                      have d1 := L1.at 1 rfl
                      have d2 := L1.at 2 rfl
                      have hr9 : ARow (wr.alloc (.cells #[.int .i64 x, .int .i64 y, .int .i64 z] 28)) (some ⟨wr.heap.size, 0, none⟩) [(x, y, z)] := one_row wr x y z
                      go_wp2_with (first | (at_builtin; refine wpList_app_trips _ rfl _ _ rfl w4.heap.size _ ys.length ys rfl (World.ownsRow.alloc hown _) (some ⟨wr.heap.size, 0, none⟩) 1 [(x, y, z)] rfl hr9 ?c3 ?c5 ?_) | go_in)
                      case c3 => have := yl.out; show ys.length + 1 ≤ _; omega
                      case c5 => have := szr.out; simp; omega
                      intro v' w9 hown9 hg9
                      have hb9 := below_app hbel (Nat.le_refl _) hown hg9
                      have hown9' : w9.ownsRow w4.heap.size 28 3 v' (ys ++ [(x, y, z)]).length (trV (ys ++ [(x, y, z)])) := by rw [show (ys ++ [(x, y, z)]).length = ys.length + 1 by simp]; exact hown9
                      have hb9r : Below w.heap.size w w9 := BW4.out.trans (hb9.mono BW4.out.size)
                      clear hown9 hg9 q0 q1 d0 d1 d2 L0 L1 L2 hr9
                      obtain ⟨g9, c9, rfl, _⟩ := own_shape hown9'
                      have M0 := U40.out.later hb9 U40.out.lt
                      have M2 := U42.out.later hb9 U42.out.lt
                      have q0 := M0.at 0 rfl
                      have q1 := M0.at 1 rfl
                      have e0 := M2.at 0 rfl
                      have e1 := M2.at 1 rfl
                      have p1 := M0.fz 1 rfl
                      have f0 := M2.fz 0 rfl
                      have f1 := M2.fz 1 rfl
                      generalize hn9 : (ys ++ [(x, y, z)]).length = n9 at hown9' ⊢
                      have R3 := (((M2.far (g' := w.heap.size) (by omega) 1 (.slice g9 n9 c9)).set 0 (.int .i64 q)).set 1 (.slice g9 n9 c9))
                      have hb10 : Below w.heap.size w (((w9.setCell ⟨w.heap.size, 1, none⟩ (.slice g9 n9 c9)).setCell ⟨w.heap.size + 1 + 1, 0, none⟩ (.int .i64 q)).setCell ⟨w.heap.size + 1 + 1, 1, none⟩ (.slice g9 n9 c9)) := ((hb9r.setCell (by dsimp only; omega) _).setCell (by dsimp only; omega) _).setCell (by dsimp only; omega) _
                      have ho10 : Own3 w.heap.size g9 c9 (ys ++ [(x, y, z)]) (((w9.setCell ⟨w.heap.size, 1, none⟩ (.slice g9 n9 c9)).setCell ⟨w.heap.size + 1 + 1, 0, none⟩ (.int .i64 q)).setCell ⟨w.heap.size + 1 + 1, 1, none⟩ (.slice g9 n9 c9)) := by
                        unfold Own3
                        rw [hn9]
                        exact ownsRow_le (ownsRow_setCell_below (ownsRow_setCell_below (ownsRow_setCell_below hown9' (by dsimp only; have := sz4.out; omega) _) (by dsimp only; have := sz4.out; omega) _) (by dsimp only; have := sz4.out; omega) _) (by have := sz4.out; omega)
                      clear hown9' M0 M2 hb9 hb9r hown hbel BL o7
                      go_wp2
                      exact bodyPost_ret (res_c2 rfl _ _ (w.heap.size + 1 + 1) _ _ _ rfl rfl (R3.at 0 rfl) (R3.at 1 rfl)) rfl ⟨g9, c9, by rw [ES, hn9]; rfl, by rw [ES]; exact ho10, hb10⟩
                · have ek : tkV q xs x y z n k = 5 := by unfold tkV; rw [if_pos hc, if_pos ec, if_neg hf]
                  have el : tlV q xs x y z n k = xs := by unfold tlV; rw [if_pos hc, ek]; rfl
                  rw [ek, el]
                  have ES : tlV q xs x y z n k = stay n k xs ++ [(x, y, z)] ∨ True := Or.inr trivial
                  clear ek el ec hn' hk' h2 h4
                  go_enter Try.func11, Try.ntmps11
                  go_wp2_with fail
                  try rw [hW]
                  refine HR.mono ?_
                  clear HR hW c0 c1
                  rintro e w1 ⟨rfl, hb1⟩
                  replace T0 := T0.later hb1 T0.lt
                  replace T1 := T1.later hb1 T1.lt
                  replace T2 := T2.later hb1 T2.lt
                  replace BW := BW.trans (hb1.mono BW.size)
                  have sz1 : Hid (w.heap.size + 3 ≤ w1.heap.size) := by show _ ≤ _; have := sW.out; have := hb1.size; omega
                  clear hb1
                  have c0 := T0.at 0 rfl
                  have c1 := T0.at 1 rfl
                  go_wp2_with fail
                  refine (HD _ (hr.later BW)).mono ?_
                  clear HD c0 c1
                  rintro e w2 ⟨g5, c5, rfl, o5, hb2⟩
                  replace T0 := T0.later hb2 T0.lt
                  replace T1 := T1.later hb2 T1.lt
                  replace T2 := T2.later hb2 T2.lt
                  replace BW := BW.trans (hb2.mono BW.size)
                  have sz2 : Hid (w.heap.size + 3 ≤ w2.heap.size) := by show _ ≤ _; have := sz1.out; have := hb2.size; omega
                  clear hb2
                  obtain ⟨V, hV⟩ : ∃ V, (w2.setCell ⟨w.heap.size, 0, none⟩ (.int .i64 q)).setCell ⟨w.heap.size, 1, none⟩ (.slice g5 xs.length c5) = V := ⟨_, rfl⟩
                  have c0 := T0.at 0 rfl
                  have c1 := T0.at 1 rfl
                  have f0 := T0.fz 0 rfl
                  have f1 := T0.fz 1 rfl
                  have U0 : Blk w.heap.size [.int .i64 q, .slice g5 xs.length c5] V := by rw [← hV]; exact (T0.set 0 (.int .i64 q)).set 1 (.slice g5 xs.length c5)
                  have U1 : Blk (w.heap.size + 1) [.int .i64 x, .int .i64 y, .int .i64 z] V := by rw [← hV]; exact (T1.far (by omega) 0 _).far (by omega) 1 _
                  have U2 : Blk (w.heap.size + 1 + 1) [.int .i64 0, .slice none 0 0] V := by rw [← hV]; exact (T2.far (by omega) 0 _).far (by omega) 1 _
                  have BV : Below w.heap.size w V := by rw [← hV]; exact (BW.setCell (by dsimp only; omega) _).setCell (by dsimp only; omega) _
                  have szV : Hid (w.heap.size + 3 ≤ V.heap.size) := by show _ ≤ _; rw [← hV]; have := sz2.out; simpa using this
                  have o6 : Own3 (w.heap.size + 3) g5 c5 xs V := by rw [← hV]; exact ownsRow_le (ownsRow_setCell_below (ownsRow_setCell_below o5 (by dsimp only; have := sz1.out; omega) _) (by dsimp only; have := sz1.out; omega) _) sz1.out
                  have d0 := U1.at 0 rfl
                  have d1 := U1.at 1 rfl
                  have d2 := U1.at 2 rfl
                  clear T0 T1 T2 BW o5 sz1
                  go_wp2_with fail
                  try rw [hV]
                  refine (HA _).mono ?_
                  clear HA hV c0 c1 f0 f1 d0 d1 d2 sz2
                  rintro e w3 ⟨rfl, hb3⟩
                  replace U0 := U0.later hb3 U0.lt
                  replace U1 := U1.later hb3 U1.lt
                  replace U2 := U2.later hb3 U2.lt
                  replace BV := BV.trans (hb3.mono BV.size)
                  replace o6 := o6.later hb3
                  have sz3 : Hid (w.heap.size + 3 ≤ w3.heap.size) := by show _ ≤ _; have := szV.out; have := hb3.size; omega
                  clear hb3 szV
                  go_wp2_with fail
                  refine (HN _).mono ?_
                  rintro e w9 ⟨rfl, rfl⟩
                  clear HN
                  go_wp2_with fail
                  refine (HK _).mono ?_
                  rintro e w9 ⟨rfl, rfl⟩
                  clear HK
                  have d1 := U1.at 1 rfl
                  go_wp2_with fail
                  refine (HP _).mono ?_
                  rintro e w9 ⟨rfl, rfl⟩
                  clear HP d1
                  have c0 := U0.at 0 rfl
                  have c1 := U0.at 1 rfl
                  have d0 := U1.at 0 rfl
                  have d1 := U1.at 1 rfl
                  have d2 := U1.at 2 rfl
                  go_wp2_with fail
                  refine (HS g5 c5 _ o6.row).mono ?_
                  clear HS c0 c1 d0 d1 d2
                  rintro e w4 ⟨rfl, hb4⟩
                  replace U0 := U0.later hb4 U0.lt
                  replace U1 := U1.later hb4 U1.lt
                  replace U2 := U2.later hb4 U2.lt
                  replace BV := BV.trans (hb4.mono BV.size)
                  replace o6 := o6.later hb4
                  have sz4 : Hid (w.heap.size + 3 ≤ w4.heap.size) := by show _ ≤ _; have := sz3.out; have := hb4.size; omega
                  clear hb4
                  have hlit : (w4.alloc (.cells #[] 28)).ownsRow w4.heap.size 28 3 (.slice (some ⟨w4.heap.size, 0, none⟩) 0 0) 0 (trV []) := World.ownsRow_lit _ _ _ (Nat.le_refl _) (by unfold maxLen; omega) rfl
                  have hbl : Below w4.heap.size w4 (w4.alloc (.cells #[] 28)) := (Below.refl _ _).alloc (Nat.le_refl _) _
                  go_wp2
                  go_loopw [10, 11] (fun v i wr => ∃ (j : Nat) (ys : List A3), j ≤ xs.length ∧ i = .int .i64 j ∧ ys = stay n k (xs.take j) ∧ wr.ownsRow w4.heap.size 28 3 v ys.length (trV ys) ∧ Below w4.heap.size w4 wr) (fun _ i _ => xs.length - (intOf i).toNat)
                  case atStart => exact ⟨0, [], Nat.zero_le _, rfl, rfl, hlit, hbl⟩
                  case round =>
                    clear hlit hbl
                    obtain ⟨j, ys, hj, rfl, hys, hown, hbel⟩ := hrel
                    have L0 := U0.later hbel U0.lt
                    have L1 := U1.later hbel U1.lt
                    have L2 := U2.later hbel U2.lt
                    have BL := BV.trans (hbel.mono BV.size)
                    have o7 := o6.later hbel
                    have szr : Hid (w4.heap.size ≤ wr.heap.size) := hbel.size
                    clear U0 U1 U2
                    have yl : Hid (ys.length ≤ 6) := by show _ ≤ _; rw [hys]; have := stay_len n k (xs.take j); rw [List.length_take] at this; omega
                    by_cases hlt : j < xs.length
                    · obtain ⟨b, off, hg5, hbl5, e0, e1, e2⟩ := o7.row j hlt
                      subst hg5
                      have HH := stay_hit (n := n) (k := k) hlt
                      have HM := stay_miss (n := n) (k := k) hlt
                      generalize xs[j].1 = x1 at e0 HH
                      generalize xs[j].2.1 = y1 at e1 HH HM
                      generalize xs[j].2.2 = z1 at e2 HH
                      have q1 := L0.at 1 rfl
                      have hlt2 : (j : Int) < (xs.length : Int) := by omega
                      clear L0 L1 L2 BL o7 BV
                      by_cases hy : n - k ≤ y1
                      · have HS1 := HH hy
                        rw [← hys] at HS1
                        clear HH HM hys o6
                        have hr9 : ARow (wr.alloc (.cells #[.int .i64 x1, .int .i64 y1, .int .i64 z1] 28)) (some ⟨wr.heap.size, 0, none⟩) [(x1, y1, z1)] := one_row wr x1 y1 z1
                        go_wp2_with (first | (at_builtin; refine wpList_app_trips _ rfl _ _ rfl w4.heap.size _ ys.length ys rfl (World.ownsRow.alloc hown _) (some ⟨wr.heap.size, 0, none⟩) 1 [(x1, y1, z1)] rfl hr9 ?c3 ?c5 ?_) | go_in)
                        case c3 => have := yl.out; show ys.length + 1 ≤ _; omega
                        case c5 => have := szr.out; simp; omega
                        intro v' w9 hown9 hg9
                        have hb9 := below_app hbel (Nat.le_refl _) hown hg9
                        have hown9' : w9.ownsRow w4.heap.size 28 3 v' (ys ++ [(x1, y1, z1)]).length (trV (ys ++ [(x1, y1, z1)])) := by rw [show (ys ++ [(x1, y1, z1)]).length = ys.length + 1 by simp]; exact hown9
                        have R : Hid (∃ (j' : Nat) (ys' : List A3), j' ≤ xs.length ∧ Value.int .i64 ((j : Int) + 1) = .int .i64 j' ∧ ys' = stay n k (xs.take j') ∧ w9.ownsRow w4.heap.size 28 3 v' ys'.length (trV ys') ∧ Below w4.heap.size w4 w9) := ⟨j + 1, _, by omega, by go_num, HS1.symm, hown9', hb9⟩
                        clear hown9 hown9' hg9 hb9 HS1 hown hbel e0 e1 e2 q1 hr9
                        go_wp2
                        go_roundw
                        case rel => exact R.out
                        case measure => simp [intOf]; omega
                      · have HS1 := HM hy
                        rw [← hys] at HS1
                        clear HH HM hys o6
                        go_wp2
                        go_roundw
                        case rel => exact ⟨j + 1, ys, by omega, by go_num, HS1.symm, hown, hbel⟩
                        case measure => simp [intOf]; omega
                    · obtain rfl : j = xs.length := by omega
                      rw [List.take_length] at hys
                      obtain ⟨g8, c8, rfl, _⟩ := own_shape hown
                      rw [← hys] at hf
                      clear hys o6 BV
                      have q0 := L0.at 0 rfl
                      have q1 := L0.at 1 rfl
                      have hd6 : decide (6 ≤ (ys.length : Int)) = true := decide_eq_true (by omega)
                      have e0 := L2.at 0 rfl
                      have e1 := L2.at 1 rfl
                      have f0 := L2.fz 0 rfl
                      have f1 := L2.fz 1 rfl
                      have R3 := (L2.set 0 (.int .i64 q)).set 1 (.slice g5 xs.length c5)
                      have hb9 : Below w.heap.size w ((wr.setCell ⟨w.heap.size + 1 + 1, 0, none⟩ (.int .i64 q)).setCell ⟨w.heap.size + 1 + 1, 1, none⟩ (.slice g5 xs.length c5)) := (BL.setCell (by dsimp only; omega) _).setCell (by dsimp only; omega) _
                      have ho9 : Own3 w.heap.size g5 c5 xs ((wr.setCell ⟨w.heap.size + 1 + 1, 0, none⟩ (.int .i64 q)).setCell ⟨w.heap.size + 1 + 1, 1, none⟩ (.slice g5 xs.length c5)) := ownsRow_le (ownsRow_setCell_below (ownsRow_setCell_below o7 (by dsimp only; omega) _) (by dsimp only; omega) _) (by omega)
                      clear L0 L1 L2 BL o7
                      go_wp2
                      exact bodyPost_ret (res_c2 rfl _ _ (w.heap.size + 1 + 1) _ _ _ rfl rfl (R3.at 0 rfl) (R3.at 1 rfl)) rfl ⟨g5, c5, rfl, ho9, hb9⟩
        · rw [Bool.not_eq_true] at hk
          have hk' : (decide (0 ≤ k) && decide (k ≤ 20)) = false := hk
          simp only [hk'] at HK
          have ec : cdV q xs x y z n k = 1 := by unfold cdV moB; rw [hk, Bool.and_false, Bool.and_false]; rfl
          obtain ⟨ek, el⟩ := tk_code hc ec (by decide)
          rw [ek, el]
          clear ek el ec hn' hk'
          go_enter Try.func11, Try.ntmps11
          go_wp2_with fail
          try rw [hW]
          refine HR.mono ?_
          clear HR hW c0 c1
          rintro e w1 ⟨rfl, hb1⟩
          replace T0 := T0.later hb1 T0.lt
          replace T1 := T1.later hb1 T1.lt
          replace T2 := T2.later hb1 T2.lt
          replace BW := BW.trans (hb1.mono BW.size)
          have sz1 : Hid (w.heap.size + 3 ≤ w1.heap.size) := by show _ ≤ _; have := sW.out; have := hb1.size; omega
          clear hb1
          have c0 := T0.at 0 rfl
          have c1 := T0.at 1 rfl
          go_wp2_with fail
          refine (HD _ (hr.later BW)).mono ?_
          clear HD c0 c1
          rintro e w2 ⟨g5, c5, rfl, o5, hb2⟩
          replace T0 := T0.later hb2 T0.lt
          replace T1 := T1.later hb2 T1.lt
          replace T2 := T2.later hb2 T2.lt
          replace BW := BW.trans (hb2.mono BW.size)
          have sz2 : Hid (w.heap.size + 3 ≤ w2.heap.size) := by show _ ≤ _; have := sz1.out; have := hb2.size; omega
          clear hb2
          obtain ⟨V, hV⟩ : ∃ V, (w2.setCell ⟨w.heap.size, 0, none⟩ (.int .i64 q)).setCell ⟨w.heap.size, 1, none⟩ (.slice g5 xs.length c5) = V := ⟨_, rfl⟩
          have c0 := T0.at 0 rfl
          have c1 := T0.at 1 rfl
          have f0 := T0.fz 0 rfl
          have f1 := T0.fz 1 rfl
          have U0 : Blk w.heap.size [.int .i64 q, .slice g5 xs.length c5] V := by rw [← hV]; exact (T0.set 0 (.int .i64 q)).set 1 (.slice g5 xs.length c5)
          have U1 : Blk (w.heap.size + 1) [.int .i64 x, .int .i64 y, .int .i64 z] V := by rw [← hV]; exact (T1.far (by omega) 0 _).far (by omega) 1 _
          have U2 : Blk (w.heap.size + 1 + 1) [.int .i64 0, .slice none 0 0] V := by rw [← hV]; exact (T2.far (by omega) 0 _).far (by omega) 1 _
          have BV : Below w.heap.size w V := by rw [← hV]; exact (BW.setCell (by dsimp only; omega) _).setCell (by dsimp only; omega) _
          have szV : Hid (w.heap.size + 3 ≤ V.heap.size) := by show _ ≤ _; rw [← hV]; have := sz2.out; simpa using this
          have o6 : Own3 (w.heap.size + 3) g5 c5 xs V := by rw [← hV]; exact ownsRow_le (ownsRow_setCell_below (ownsRow_setCell_below o5 (by dsimp only; have := sz1.out; omega) _) (by dsimp only; have := sz1.out; omega) _) sz1.out
          have d0 := U1.at 0 rfl
          have d1 := U1.at 1 rfl
          have d2 := U1.at 2 rfl
          clear T0 T1 T2 BW o5 sz1
          go_wp2_with fail
          try rw [hV]
          refine (HA _).mono ?_
          clear HA hV c0 c1 f0 f1 d0 d1 d2 sz2
          rintro e w3 ⟨rfl, hb3⟩
          replace U0 := U0.later hb3 U0.lt
          replace U1 := U1.later hb3 U1.lt
          replace U2 := U2.later hb3 U2.lt
          replace BV := BV.trans (hb3.mono BV.size)
          replace o6 := o6.later hb3
          have sz3 : Hid (w.heap.size + 3 ≤ w3.heap.size) := by show _ ≤ _; have := szV.out; have := hb3.size; omega
          clear hb3 szV
          go_wp2_with fail
          refine (HN _).mono ?_
          rintro e w9 ⟨rfl, rfl⟩
          clear HN
          go_wp2_with fail
          refine (HK _).mono ?_
          rintro e w9 ⟨rfl, rfl⟩
          clear HK
          have c0 := U0.at 0 rfl
          have c1 := U0.at 1 rfl
          have e0 := U2.at 0 rfl
          have e1 := U2.at 1 rfl
          have f0 := U2.fz 0 rfl
          have f1 := U2.fz 1 rfl
          have R3 := (U2.set 0 (.int .i64 q)).set 1 (.slice g5 xs.length c5)
          have hb9 : Below w.heap.size w ((w3.setCell ⟨w.heap.size + 1 + 1, 0, none⟩ (.int .i64 q)).setCell ⟨w.heap.size + 1 + 1, 1, none⟩ (.slice g5 xs.length c5)) := (BV.setCell (by dsimp only; omega) _).setCell (by dsimp only; omega) _
          have ho9 : Own3 w.heap.size g5 c5 xs ((w3.setCell ⟨w.heap.size + 1 + 1, 0, none⟩ (.int .i64 q)).setCell ⟨w.heap.size + 1 + 1, 1, none⟩ (.slice g5 xs.length c5)) := ownsRow_le (ownsRow_setCell_below (ownsRow_setCell_below o6 (by dsimp only; omega) _) (by dsimp only; omega) _) (by omega)
          clear U0 U1 U2 BV o6
          go_wp2
          exact bodyPost_ret (res_c2 rfl _ _ (w.heap.size + 1 + 1) _ _ _ rfl rfl (R3.at 0 rfl) (R3.at 1 rfl)) rfl ⟨g5, c5, rfl, ho9, hb9⟩
      · rw [Bool.not_eq_true] at hn
        have hn' : (decide (0 ≤ n) && decide (n ≤ 100000)) = false := hn
        simp only [hn'] at HN
        have ec : cdV q xs x y z n k = 1 := by unfold cdV moB; rw [hn, Bool.false_and, Bool.and_false]; rfl
        obtain ⟨ek, el⟩ := tk_code hc ec (by decide)
        rw [ek, el]
        clear ek el ec hn'
        go_enter Try.func11, Try.ntmps11
        go_wp2_with fail
        try rw [hW]
        refine HR.mono ?_
        clear HR hW c0 c1
        rintro e w1 ⟨rfl, hb1⟩
        replace T0 := T0.later hb1 T0.lt
        replace T1 := T1.later hb1 T1.lt
        replace T2 := T2.later hb1 T2.lt
        replace BW := BW.trans (hb1.mono BW.size)
        have sz1 : Hid (w.heap.size + 3 ≤ w1.heap.size) := by show _ ≤ _; have := sW.out; have := hb1.size; omega
        clear hb1
        have c0 := T0.at 0 rfl
        have c1 := T0.at 1 rfl
        go_wp2_with fail
        refine (HD _ (hr.later BW)).mono ?_
        clear HD c0 c1
        rintro e w2 ⟨g5, c5, rfl, o5, hb2⟩
        replace T0 := T0.later hb2 T0.lt
        replace T1 := T1.later hb2 T1.lt
        replace T2 := T2.later hb2 T2.lt
        replace BW := BW.trans (hb2.mono BW.size)
        have sz2 : Hid (w.heap.size + 3 ≤ w2.heap.size) := by show _ ≤ _; have := sz1.out; have := hb2.size; omega
        clear hb2
        obtain ⟨V, hV⟩ : ∃ V, (w2.setCell ⟨w.heap.size, 0, none⟩ (.int .i64 q)).setCell ⟨w.heap.size, 1, none⟩ (.slice g5 xs.length c5) = V := ⟨_, rfl⟩
        have c0 := T0.at 0 rfl
        have c1 := T0.at 1 rfl
        have f0 := T0.fz 0 rfl
        have f1 := T0.fz 1 rfl
        have U0 : Blk w.heap.size [.int .i64 q, .slice g5 xs.length c5] V := by rw [← hV]; exact (T0.set 0 (.int .i64 q)).set 1 (.slice g5 xs.length c5)
        have U1 : Blk (w.heap.size + 1) [.int .i64 x, .int .i64 y, .int .i64 z] V := by rw [← hV]; exact (T1.far (by omega) 0 _).far (by omega) 1 _
        have U2 : Blk (w.heap.size + 1 + 1) [.int .i64 0, .slice none 0 0] V := by rw [← hV]; exact (T2.far (by omega) 0 _).far (by omega) 1 _
        have BV : Below w.heap.size w V := by rw [← hV]; exact (BW.setCell (by dsimp only; omega) _).setCell (by dsimp only; omega) _
        have szV : Hid (w.heap.size + 3 ≤ V.heap.size) := by show _ ≤ _; rw [← hV]; have := sz2.out; simpa using this
        have o6 : Own3 (w.heap.size + 3) g5 c5 xs V := by rw [← hV]; exact ownsRow_le (ownsRow_setCell_below (ownsRow_setCell_below o5 (by dsimp only; have := sz1.out; omega) _) (by dsimp only; have := sz1.out; omega) _) sz1.out
        have d0 := U1.at 0 rfl
        have d1 := U1.at 1 rfl
        have d2 := U1.at 2 rfl
        clear T0 T1 T2 BW o5 sz1
        go_wp2_with fail
        try rw [hV]
        refine (HA _).mono ?_
        clear HA hV c0 c1 f0 f1 d0 d1 d2 sz2
        rintro e w3 ⟨rfl, hb3⟩
        replace U0 := U0.later hb3 U0.lt
        replace U1 := U1.later hb3 U1.lt
        replace U2 := U2.later hb3 U2.lt
        replace BV := BV.trans (hb3.mono BV.size)
        replace o6 := o6.later hb3
        have sz3 : Hid (w.heap.size + 3 ≤ w3.heap.size) := by show _ ≤ _; have := szV.out; have := hb3.size; omega
        clear hb3 szV
        go_wp2_with fail
        refine (HN _).mono ?_
        rintro e w9 ⟨rfl, rfl⟩
        clear HN
        have c0 := U0.at 0 rfl
        have c1 := U0.at 1 rfl
        have e0 := U2.at 0 rfl
        have e1 := U2.at 1 rfl
        have f0 := U2.fz 0 rfl
        have f1 := U2.fz 1 rfl
        have R3 := (U2.set 0 (.int .i64 q)).set 1 (.slice g5 xs.length c5)
        have hb9 : Below w.heap.size w ((w3.setCell ⟨w.heap.size + 1 + 1, 0, none⟩ (.int .i64 q)).setCell ⟨w.heap.size + 1 + 1, 1, none⟩ (.slice g5 xs.length c5)) := (BV.setCell (by dsimp only; omega) _).setCell (by dsimp only; omega) _
        have ho9 : Own3 w.heap.size g5 c5 xs ((w3.setCell ⟨w.heap.size + 1 + 1, 0, none⟩ (.int .i64 q)).setCell ⟨w.heap.size + 1 + 1, 1, none⟩ (.slice g5 xs.length c5)) := ownsRow_le (ownsRow_setCell_below (ownsRow_setCell_below o6 (by dsimp only; omega) _) (by dsimp only; omega) _) (by omega)
        clear U0 U1 U2 BV o6
        go_wp2
        exact bodyPost_ret (res_c2 rfl _ _ (w.heap.size + 1 + 1) _ _ _ rfl rfl (R3.at 0 rfl) (R3.at 1 rfl)) rfl ⟨g5, c5, rfl, ho9, hb9⟩
    · rw [Bool.not_eq_true] at hA
      simp only [hA] at HA
      have ec : cdV q xs x y z n k = 1 := by unfold cdV; rw [hA]; rfl
      obtain ⟨ek, el⟩ := tk_code hc ec (by decide)
      rw [ek, el]
      clear ek el ec
      go_enter Try.func11, Try.ntmps11
      go_wp2_with fail
      try rw [hW]
      refine HR.mono ?_
      clear HR hW c0 c1
      rintro e w1 ⟨rfl, hb1⟩
      replace T0 := T0.later hb1 T0.lt
      replace T1 := T1.later hb1 T1.lt
      replace T2 := T2.later hb1 T2.lt
      replace BW := BW.trans (hb1.mono BW.size)
      have sz1 : Hid (w.heap.size + 3 ≤ w1.heap.size) := by show _ ≤ _; have := sW.out; have := hb1.size; omega
      clear hb1
      have c0 := T0.at 0 rfl
      have c1 := T0.at 1 rfl
      go_wp2_with fail
      refine (HD _ (hr.later BW)).mono ?_
      clear HD c0 c1
      rintro e w2 ⟨g5, c5, rfl, o5, hb2⟩
      replace T0 := T0.later hb2 T0.lt
      replace T1 := T1.later hb2 T1.lt
      replace T2 := T2.later hb2 T2.lt
      replace BW := BW.trans (hb2.mono BW.size)
      have sz2 : Hid (w.heap.size + 3 ≤ w2.heap.size) := by show _ ≤ _; have := sz1.out; have := hb2.size; omega
      clear hb2
      obtain ⟨V, hV⟩ : ∃ V, (w2.setCell ⟨w.heap.size, 0, none⟩ (.int .i64 q)).setCell ⟨w.heap.size, 1, none⟩ (.slice g5 xs.length c5) = V := ⟨_, rfl⟩
      have c0 := T0.at 0 rfl
      have c1 := T0.at 1 rfl
      have f0 := T0.fz 0 rfl
      have f1 := T0.fz 1 rfl
      have U0 : Blk w.heap.size [.int .i64 q, .slice g5 xs.length c5] V := by rw [← hV]; exact (T0.set 0 (.int .i64 q)).set 1 (.slice g5 xs.length c5)
      have U1 : Blk (w.heap.size + 1) [.int .i64 x, .int .i64 y, .int .i64 z] V := by rw [← hV]; exact (T1.far (by omega) 0 _).far (by omega) 1 _
      have U2 : Blk (w.heap.size + 1 + 1) [.int .i64 0, .slice none 0 0] V := by rw [← hV]; exact (T2.far (by omega) 0 _).far (by omega) 1 _
      have BV : Below w.heap.size w V := by rw [← hV]; exact (BW.setCell (by dsimp only; omega) _).setCell (by dsimp only; omega) _
      have szV : Hid (w.heap.size + 3 ≤ V.heap.size) := by show _ ≤ _; rw [← hV]; have := sz2.out; simpa using this
      have o6 : Own3 (w.heap.size + 3) g5 c5 xs V := by rw [← hV]; exact ownsRow_le (ownsRow_setCell_below (ownsRow_setCell_below o5 (by dsimp only; have := sz1.out; omega) _) (by dsimp only; have := sz1.out; omega) _) sz1.out
      have d0 := U1.at 0 rfl
      have d1 := U1.at 1 rfl
      have d2 := U1.at 2 rfl
      clear T0 T1 T2 BW o5 sz1
      go_wp2_with fail
      try rw [hV]
      refine (HA _).mono ?_
      clear HA hV c0 c1 f0 f1 d0 d1 d2 sz2
      rintro e w3 ⟨rfl, hb3⟩
      replace U0 := U0.later hb3 U0.lt
      replace U1 := U1.later hb3 U1.lt
      replace U2 := U2.later hb3 U2.lt
      replace BV := BV.trans (hb3.mono BV.size)
      replace o6 := o6.later hb3
      have sz3 : Hid (w.heap.size + 3 ≤ w3.heap.size) := by show _ ≤ _; have := szV.out; have := hb3.size; omega
      clear hb3 szV
      have c0 := U0.at 0 rfl
      have c1 := U0.at 1 rfl
      have e0 := U2.at 0 rfl
      have e1 := U2.at 1 rfl
      have f0 := U2.fz 0 rfl
      have f1 := U2.fz 1 rfl
      have R3 := (U2.set 0 (.int .i64 q)).set 1 (.slice g5 xs.length c5)
      have hb9 : Below w.heap.size w ((w3.setCell ⟨w.heap.size + 1 + 1, 0, none⟩ (.int .i64 q)).setCell ⟨w.heap.size + 1 + 1, 1, none⟩ (.slice g5 xs.length c5)) := (BV.setCell (by dsimp only; omega) _).setCell (by dsimp only; omega) _
      have ho9 : Own3 w.heap.size g5 c5 xs ((w3.setCell ⟨w.heap.size + 1 + 1, 0, none⟩ (.int .i64 q)).setCell ⟨w.heap.size + 1 + 1, 1, none⟩ (.slice g5 xs.length c5)) := ownsRow_le (ownsRow_setCell_below (ownsRow_setCell_below o6 (by dsimp only; omega) _) (by dsimp only; omega) _) (by omega)
      clear U0 U1 U2 BV o6
      go_wp2
      exact bodyPost_ret (res_c2 rfl _ _ (w.heap.size + 1 + 1) _ _ _ rfl rfl (R3.at 0 rfl) (R3.at 1 rfl)) rfl ⟨g5, c5, rfl, ho9, hb9⟩
  · rw [Bool.not_eq_true] at hc
    rw [hc] at HR
    have eq : tqV q xs = 0 := if_neg (by rw [hc]; simp)
    have ek : tkV q xs x y z n k = 1 := if_neg (by rw [hc]; simp)
    have el : tlV q xs x y z n k = [] := if_neg (by rw [hc]; simp)
    rw [eq, ek, el]
    go_enter Try.func11, Try.ntmps11
    go_wp2_with fail
    try rw [hW]
    refine HR.mono ?_
    clear HR hW c0 c1
    rintro e w1 ⟨rfl, hb1⟩
    replace T2 := T2.later hb1 T2.lt
    replace BW := BW.trans (hb1.mono BW.size)
    clear hb1
    have e0 := T2.at 0 rfl
    have e1 := T2.at 1 rfl
    have f0 := T2.fz 0 rfl
    have f1 := T2.fz 1 rfl
    have R3 := (T2.set 0 (.int .i64 0)).set 1 (.slice none 0 0)
    have hb3 : Below w.heap.size w ((w1.setCell ⟨w.heap.size + 1 + 1, 0, none⟩ (.int .i64 0)).setCell ⟨w.heap.size + 1 + 1, 1, none⟩ (.slice none 0 0)) := (BW.setCell (by dsimp only; omega) _).setCell (by dsimp only; omega) _
    clear T0 T1 T2 BW
    go_wp2
    exact bodyPost_ret (res_c2 rfl _ _ (w.heap.size + 1 + 1) _ _ _ rfl rfl (R3.at 0 rfl) (R3.at 1 rfl)) rfl ⟨none, 0, rfl, Own3.nil _ _, hb3⟩
end Go.Proofs.Ytmiceknaipimiaa
