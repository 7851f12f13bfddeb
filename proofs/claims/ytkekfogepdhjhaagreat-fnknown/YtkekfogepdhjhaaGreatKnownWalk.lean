/- The law on what is known, step by step. -/
import Derived.Test.YtkekfogepdhjhaaGreatKnownAt
import Derived.Test.YtkekfogepdhjhaaGreatSpecNil
import Derived.Test.YtkekfogepdhjhaaGreatImplReach
import Derived.Test.YtkekfogepdhjhaaGreatKnow4
set_option linter.unusedVariables false
namespace Go.Proofs.YtkekfogepdhjhaaGreat
open Go.RowKit Go.Proofs.YtkekfogepdhjhaaGreat.Own Var Term Draw

set_option maxRecDepth 100000 in
set_option maxHeartbeats 12800000 in
theorem known_at (ad : Option Addr) (len cap : Nat) (zs : List Int) (W : World) (hl : len ≤ 1048576) (hz : CodeAt W W.heap.size ad len zs) :
    Calls Tryz.prog 3 #[.slice ad len cap] W fun e w' => e = .returned (.bool true) ∧ Below W.heap.size W w' := by
  have HZ : Hid (CodeAt W W.heap.size ad len zs) := hz
  clear hz
  have BB := Below.refl W.heap.size W
  go_enter Tryz.func3, Tryz.ntmps3
  go_wp2_with fail
  refine (big_go ad len cap W hl).mono ?_
  rintro e w0 ⟨rfl, rfl⟩
  have HX := drawBuild ad len cap zs W hl ((HZ.out.below BB).lt BB.size)
  go_wp2_with fail
  refine HX.mono ?_
  clear HX
  rintro en w1 ⟨a1, b1, c1, d1, xs, ks, t, rfl, xr, kr, hc1, lx, lk, hs, tz, hb⟩
  have BBN := BB.trans (hb.mono BB.size)
  clear BB
  have BB := BBN
  clear BBN
  clear hb
  obtain ⟨w2, hw2⟩ : ∃ v, w1.alloc (.cells #[.slice a1 xs.length c1, .slice b1 ks.length d1] 27) = v := ⟨_, rfl⟩
  have hb : Below w1.heap.size w1 w2 := by rw [← hw2]; exact (Below.refl _ _).alloc (Nat.le_refl _) _
  have QB : Blk w1.heap.size [.slice a1 xs.length c1, .slice b1 ks.length d1] w2 := by rw [← hw2]; exact Blk.new _ _ _
  have xrN := RowAt.later xr hb
  have krN := RowAt.later kr hb
  have BBN := BB.trans (hb.mono BB.size)
  clear xr kr BB
  have xr := xrN
  have kr := krN
  have BB := BBN
  clear xrN krN BBN
  clear hb
  have lx2 : xs.length ≤ 1048576 := by omega
  have lk2 : ks.length ≤ 1048576 := by omega
  have hs2 : ∀ x ∈ xs, x.size ≤ 1048576 := fun x hx => Nat.le_trans (hs x hx) (by omega)
  have tz2 : t.size ≤ 1048576 := by omega
  clear hs lx lk tz
  have u0 := QB.at 0 rfl
  have u1 := QB.at 1 rfl
  have HX := spec_knownOk a1 b1 c1 d1 xs ks w2 xr kr lx2 lk2 hc1 hs2
  go_wp2_with fail
  try rw [hw2]
  refine HX.mono ?_
  clear HX hw2 u0 u1
  rintro en w3 ⟨rfl, hb⟩
  have QBN := QB.later hb QB.lt
  have xrN := RowAt.later xr hb
  have krN := RowAt.later kr hb
  have BBN := BB.trans (hb.mono BB.size)
  clear QB xr kr BB
  have QB := QBN
  have xr := xrN
  have kr := krN
  have BB := BBN
  clear QBN xrN krN BBN
  clear hb
  by_cases h0 : kOk xs ks = true
  · rw [h0]
    have u0 := QB.at 0 rfl
    have u1 := QB.at 1 rfl
    have HX := impl_reach a1 b1 c1 d1 xs ks w3 xr kr lx2 lk2 hc1 hs2
    go_wp2_with fail
    refine HX.mono ?_
    clear HX u0 u1
    rintro en w4 ⟨eK, fK, K, rfl, OK, HK, hb⟩
    have QBN := QB.later hb QB.lt
    have xrN := RowAt.later xr hb
    have krN := RowAt.later kr hb
    have BBN := BB.trans (hb.mono BB.size)
    clear QB xr kr BB
    have QB := QBN
    have xr := xrN
    have kr := krN
    have BB := BBN
    clear QBN xrN krN BBN
    clear hb
    have kK := own_rowAt (f := Value.int .i64) OK
    clear OK
    have lK : K.length ≤ 1048576 := keys_len h0 HK.out
    have u0 := QB.at 0 rfl
    have u1 := QB.at 1 rfl
    have HX0 := impl_learn a1 b1 c1 d1 xs ks t w4 xr kr lx2 lk2 hc1 hs2 tz2
    unfold lrnT lrnK at HX0
    rw [if_pos h0, if_pos h0] at HX0
    have HX := HX0
    go_wp2_with fail
    refine HX.mono ?_
    clear HX u0 u1
    rintro en w5 ⟨v2, rfl, KV, hb⟩
    have QBN := QB.later hb QB.lt
    have xrN := RowAt.later xr hb
    have krN := RowAt.later kr hb
    have kKN := RowAt.later kK hb
    have BBN := BB.trans (hb.mono BB.size)
    clear QB xr kr kK BB
    have QB := QBN
    have xr := xrN
    have kr := krN
    have kK := kKN
    have BB := BBN
    clear QBN xrN krN kKN BBN
    clear hb
    clear HX0
    obtain ⟨a2, b2, c2, d2, rfl, xr2, kr2, hc2⟩ := keep_rows KV
    clear KV
    have hkx := putT_ok h0 t
    have lx3 : (putT xs t).length ≤ 1048576 := by have := (kOk_len hkx).1; omega
    have hs3 : ∀ x ∈ putT xs t, x.size ≤ 1048576 := fun x hx => by have := ((isT_iff x).1 ((kOk_facts hkx).1 x hx)).1; omega
    obtain ⟨w6, hw6⟩ : ∃ v, w5.alloc (.cells #[.slice a2 (putT xs t).length c2, .slice b2 ks.length d2] 27) = v := ⟨_, rfl⟩
    have hb : Below w5.heap.size w5 w6 := by rw [← hw6]; exact (Below.refl _ _).alloc (Nat.le_refl _) _
    have XB : Blk w5.heap.size [.slice a2 (putT xs t).length c2, .slice b2 ks.length d2] w6 := by rw [← hw6]; exact Blk.new _ _ _
    have QBN := QB.later hb QB.lt
    have xrN := RowAt.later xr hb
    have krN := RowAt.later kr hb
    have kKN := RowAt.later kK hb
    have xr2N := RowAt.later xr2 hb
    have kr2N := RowAt.later kr2 hb
    have BBN := BB.trans (hb.mono BB.size)
    clear QB xr kr kK xr2 kr2 BB
    have QB := QBN
    have xr := xrN
    have kr := krN
    have kK := kKN
    have xr2 := xr2N
    have kr2 := kr2N
    have BB := BBN
    clear QBN xrN krN kKN xr2N kr2N BBN
    clear hb
    have u0 := XB.at 0 rfl
    have u1 := XB.at 1 rfl
    have HX := impl_reach a2 b2 c2 d2 (putT xs t) ks w6 xr2 kr2 lx3 lk2 hc2 hs3
    go_wp2_with fail
    try rw [hw6]
    refine HX.mono ?_
    clear HX hw6 u0 u1
    rintro en w7 ⟨eM, fM, M, rfl, OK, HM, hb⟩
    have QBN := QB.later hb QB.lt
    have XBN := XB.later hb XB.lt
    have xrN := RowAt.later xr hb
    have krN := RowAt.later kr hb
    have kKN := RowAt.later kK hb
    have xr2N := RowAt.later xr2 hb
    have kr2N := RowAt.later kr2 hb
    have BBN := BB.trans (hb.mono BB.size)
    clear QB XB xr kr kK xr2 kr2 BB
    have QB := QBN
    have XB := XBN
    have xr := xrN
    have kr := krN
    have kK := kKN
    have xr2 := xr2N
    have kr2 := kr2N
    have BB := BBN
    clear QBN XBN xrN krN kKN xr2N kr2N BBN
    clear hb
    have kM := own_rowAt (f := Value.int .i64) OK
    clear OK
    have lM : M.length ≤ 1048576 := keys_len hkx HM.out
    have HS1 : Hid (∀ k, k ∈ K → hasB M k = true) := fun k hk => (hasB_iff _ _).2 ((HM.out.1 k).2 ⟨hkx, reach_more (fun x hx => putT_sub hx) (fun _ h => h) ((HK.out.1 k).1 hk).2⟩)
    have HS2 : Hid (∀ k, k ∈ ks → hasB K k = true) := fun k hk => (hasB_iff _ _).2 ((HK.out.1 k).2 ⟨h0, (closed_least xs ks).2.1 k hk⟩)
    have HS3 : Hid (isT t = true ∧ CanB xs ks t → K = M) := fun hb => rise_eq HK.out.2 HM.out.2 (fun k => by rw [HK.out.1, HM.out.1, put_no_more h0 hb]; exact ⟨fun h => ⟨hkx, h.2⟩, fun h => ⟨h0, h.2⟩⟩)
    clear HM
    go_wp2
    go_loop [8] (fun i => ∃ m : Nat, i = .int .i64 (m : Int) ∧ m ≤ K.length) (fun i => K.length - (intOf i).toNat)
    case atStart => exact ⟨0, rfl, by omega⟩
    case round =>
      obtain ⟨m, rfl, hm⟩ := hrel
      by_cases hlt : m < K.length
      · have hmi : ((m : Int) < (K.length : Int)) := by omega
        obtain ⟨bb, oo, ee, ll, cc⟩ := kK m hlt
        have hh := HS1.out _ (List.getElem_mem hlt)
        generalize K[m] = z at cc hh
        subst ee
        have HX0 := has_is eM fM M z w7 kM lM
        rw [hh] at HX0
        go_wp2_with fail
        refine HX0.mono ?_
        clear HX0
        rintro en wx ⟨rfl, rfl⟩
        go_wp2
        go_round
        case rel => exact ⟨m + 1, by go_num, by omega⟩
        case measure => simp [intOf]; omega
      · obtain rfl : m = K.length := by omega
        have hmd : decide (((K.length : Nat) : Int) < (K.length : Int)) = false := by simp
        go_wp2
        go_loop [9] (fun i => ∃ m : Nat, i = .int .i64 (m : Int) ∧ m ≤ ks.length) (fun i => ks.length - (intOf i).toNat)
        case atStart => exact ⟨0, rfl, by omega⟩
        case round =>
          obtain ⟨m, rfl, hm⟩ := hrel
          by_cases hlt : m < ks.length
          · have hmi : ((m : Int) < (ks.length : Int)) := by omega
            obtain ⟨bb, oo, ee, ll, cc⟩ := kr m hlt
            have hh := HS2.out _ (List.getElem_mem hlt)
            generalize ks[m] = z at cc hh
            have u1 := QB.at 1 rfl
            subst ee
            have HX0 := has_is eK fK K z w7 kK lK
            rw [hh] at HX0
            go_wp2_with fail
            refine HX0.mono ?_
            clear HX0
            rintro en wx ⟨rfl, rfl⟩
            go_wp2
            go_round
            case rel => exact ⟨m + 1, by go_num, by omega⟩
            case measure => simp [intOf]; omega
          · obtain rfl : m = ks.length := by omega
            have hmd : decide (((ks.length : Nat) : Int) < (ks.length : Int)) = false := by simp
            have u1 := QB.at 1 rfl
            clear u1
            have u0 := QB.at 0 rfl
            have u1 := QB.at 1 rfl
            have HX := impl_build a1 b1 c1 d1 xs ks t w7 xr kr lx2 lk2 hc1 hs2 tz2
            go_wp2_with fail
            refine HX.mono ?_
            clear HX u0 u1
            rintro en w8 ⟨v, rfl, hv, hb⟩
            have QBN := QB.later hb QB.lt
            have XBN := XB.later hb XB.lt
            have xrN := RowAt.later xr hb
            have krN := RowAt.later kr hb
            have kKN := RowAt.later kK hb
            have xr2N := RowAt.later xr2 hb
            have kr2N := RowAt.later kr2 hb
            have kMN := RowAt.later kM hb
            have BBN := BB.trans (hb.mono BB.size)
            clear QB XB xr kr kK xr2 kr2 kM BB
            have QB := QBN
            have XB := XBN
            have xr := xrN
            have kr := krN
            have kK := kKN
            have xr2 := xr2N
            have kr2 := kr2N
            have kM := kMN
            have BB := BBN
            clear QBN XBN xrN krN kKN xr2N kr2N kMN BBN
            clear hb
            have HV : Hid (v = true ↔ isT t = true ∧ CanB xs ks t) := ⟨fun h => (hv.1 h).2, fun h => hv.2 ⟨h0, h⟩⟩
            clear hv
            have u0 := QB.at 0 rfl
            have u1 := QB.at 1 rfl
            have HX := spec_buildN a1 b1 c1 d1 xs ks t w8 xr kr lx2 lk2 hc1 hs2 tz2
            go_wp2_with fail
            refine HX.mono ?_
            clear HX u0 u1
            rintro en w9 ⟨b4, rfl, hb4, hb⟩
            have QBN := QB.later hb QB.lt
            have XBN := XB.later hb XB.lt
            have xrN := RowAt.later xr hb
            have krN := RowAt.later kr hb
            have kKN := RowAt.later kK hb
            have xr2N := RowAt.later xr2 hb
            have kr2N := RowAt.later kr2 hb
            have kMN := RowAt.later kM hb
            have BBN := BB.trans (hb.mono BB.size)
            clear QB XB xr kr kK xr2 kr2 kM BB
            have QB := QBN
            have XB := XBN
            have xr := xrN
            have kr := krN
            have kK := kKN
            have xr2 := xr2N
            have kr2 := kr2N
            have kM := kMN
            have BB := BBN
            clear QBN XBN xrN krN kKN xr2N kr2N kMN BBN
            clear hb
            obtain rfl : v = b4 := by rw [Bool.eq_iff_iff, HV.out, hb4.out]; exact ⟨fun h => ⟨h0, h⟩, fun h => h.2⟩
            clear hb4
            have hvv : decide (¬ v = v) = false := by simp
            have u0 := QB.at 0 rfl
            have u1 := QB.at 1 rfl
            have HX := impl_sees a1 b1 c1 d1 xs ks t w9 xr kr lx2 lk2 hc1 hs2
            go_wp2_with fail
            refine HX.mono ?_
            clear HX u0 u1
            rintro en w10 ⟨b5, rfl, hb5, hb⟩
            have QBN := QB.later hb QB.lt
            have XBN := XB.later hb XB.lt
            have xrN := RowAt.later xr hb
            have krN := RowAt.later kr hb
            have kKN := RowAt.later kK hb
            have xr2N := RowAt.later xr2 hb
            have kr2N := RowAt.later kr2 hb
            have kMN := RowAt.later kM hb
            have BBN := BB.trans (hb.mono BB.size)
            clear QB XB xr kr kK xr2 kr2 kM BB
            have QB := QBN
            have XB := XBN
            have xr := xrN
            have kr := krN
            have kK := kKN
            have xr2 := xr2N
            have kr2 := kr2N
            have kM := kMN
            have BB := BBN
            clear QBN XBN xrN krN kKN xr2N kr2N kMN BBN
            clear hb
            have HB5 : Hid (b5 = true → v = true) := fun h => HV.out.2 (seen_built h0 (hb5.1 h).2)
            clear hb5
            cases hcv : v with
            | false =>
              subst hcv
              obtain rfl : b5 = false := by cases b5 with | false => rfl | true => have := HB5.out rfl; cases this
              have QBD := QB.drew
              have XBD := XB.drew
              have BBD := BB.drew
              have xrD : RowAt _ w10.drew _ _ := xr
              have krD : RowAt _ w10.drew _ _ := kr
              have kKD : RowAt _ w10.drew _ _ := kK
              have xr2D : RowAt _ w10.drew _ _ := xr2
              have kr2D : RowAt _ w10.drew _ _ := kr2
              have kMD : RowAt _ w10.drew _ _ := kM
              clear QB XB BB xr kr kK xr2 kr2 kM
              have QB := QBD
              have XB := XBD
              have BB := BBD
              have xr := xrD
              have kr := krD
              have kK := kKD
              have xr2 := xr2D
              have kr2 := kr2D
              have kM := kMD
              clear QBD XBD BBD xrD krD kKD xr2D kr2D kMD
              go_wp2_with fail
              refine wp_region_held_drew (S := (fun Vw => Blk w1.heap.size [.slice a1 xs.length c1, .slice b1 ks.length d1] Vw)) (by kernel_rfl) QB (fun hHeld => ?_)
              refine take_one 0 95 (v := ?_) rfl rfl (by kernel_rfl) (by kernel_rfl) (by kernel_rfl) (fun _ _ _ h => h) (Or.inl ⟨by rfl, ?_⟩) hHeld ?_
              rotate_left
              · intro w' hSw; (try dsimp only at hSw); have u0 := hSw.at 0 rfl; have u1 := hSw.at 1 rfl; go_simp; try with_reducible rfl
              try simp only [Act.put, List.setIfInBounds_toArray, List.set_cons_zero, List.set_cons_succ]
              refine take_one 1 96 (v := ?_) rfl rfl (by kernel_rfl) (by kernel_rfl) (by kernel_rfl) (fun _ _ _ h => h) (Or.inl ⟨by rfl, ?_⟩) hHeld ?_
              rotate_left
              · intro w' hSw; (try dsimp only at hSw); have u0 := hSw.at 0 rfl; have u1 := hSw.at 1 rfl; go_simp; try with_reducible rfl
              try simp only [Act.put, List.setIfInBounds_toArray, List.set_cons_zero, List.set_cons_succ]
              refine wpAnyH_ready (rs := [2, 6]) (by kernel_rfl) (by simp) ?_
              refine AllReadyH.cons (i := 2) rfl (fun K2 hK => ?_) (AllReadyH.cons (i := 6) rfl (fun K2 hK => ?_) AllReadyH.nil)
              · go_simp
                refine (at_go ad len cap zs _ ((HZ.out.below BB).lt BB.size)).mono ?_
                rintro en vv ⟨z, rfl, z0, z1, rfl⟩
                go_wp2_with fail
                refine hK.out _ _ QB (fun hHeld2 => ?_)
                clear hK K2 hHeld
                have hHeld := hHeld2
                clear hHeld2
                try simp only [Act.put, List.setIfInBounds_toArray, List.set_cons_zero, List.set_cons_succ]
                obtain ⟨x, hx⟩ : ∃ x : Int, x = 1 + z % 6 := ⟨_, rfl⟩
                refine take_one 3 98 (v := .int .i64 (z % 6)) rfl rfl (by kernel_rfl) (by kernel_rfl) (by kernel_rfl) (fun _ _ _ h => h) (Or.inl ⟨by rfl, ?_⟩) hHeld ?_
                · intro w' hSw; (try dsimp only at hSw); go_simp; all_goals (rw [Int.tmod_eq_emod_of_nonneg z0])
                try simp only [Act.put, List.setIfInBounds_toArray, List.set_cons_zero, List.set_cons_succ]
                refine take_one 4 99 (v := .int .i64 x) rfl rfl (by kernel_rfl) (by kernel_rfl) (by kernel_rfl) (fun _ _ _ h => h) (Or.inl ⟨by rfl, ?_⟩) hHeld ?_
                · intro w' hSw; (try dsimp only at hSw); go_simp; all_goals (subst hx; rw [IntKind.wrap_i64]; omega)
                try simp only [Act.put, List.setIfInBounds_toArray, List.set_cons_zero, List.set_cons_succ]
                clear hx z0 z1
                refine wpAnyH_ready (rs := [5, 6]) (by kernel_rfl) (by simp) ?_
                refine AllReadyH.cons (i := 5) rfl (fun K2 hK => ?_) (AllReadyH.cons (i := 6) rfl (fun K2 hK => ?_) AllReadyH.nil)
                · have HL := impl_learnKey a1 b1 c1 d1 xs ks x _ xr kr lx2 lk2 hc1 hs2
                  unfold lrkT lrkK at HL
                  rw [if_pos h0, if_pos h0] at HL
                  go_simp
                  refine HL.mono ?_
                  clear HL
                  rintro en p91 ⟨v3, rfl, KV, hb5⟩
                  have QBN := QB.later hb5 QB.lt
                  have XBN := XB.later hb5 XB.lt
                  have xrN := RowAt.later xr hb5
                  have krN := RowAt.later kr hb5
                  have kKN := RowAt.later kK hb5
                  have xr2N := RowAt.later xr2 hb5
                  have kr2N := RowAt.later kr2 hb5
                  have kMN := RowAt.later kM hb5
                  have BBN := BB.trans (hb5.mono BB.size)
                  clear QB XB xr kr kK xr2 kr2 kM BB
                  have QB := QBN
                  have XB := XBN
                  have xr := xrN
                  have kr := krN
                  have kK := kKN
                  have xr2 := xr2N
                  have kr2 := kr2N
                  have kM := kMN
                  have BB := BBN
                  clear QBN XBN xrN krN kKN xr2N kr2N kMN BBN
                  clear hb5
                  obtain ⟨a3, b3, c3, d3, rfl, xr3, kr3, hc3⟩ := keep_rows KV
                  clear KV
                  go_wp2_with fail
                  refine hK.out _ _ QB (fun hHeld2 => ?_)
                  clear hK K2 hHeld
                  have hHeld := hHeld2
                  clear hHeld2
                  try simp only [Act.put, List.setIfInBounds_toArray, List.set_cons_zero, List.set_cons_succ]
                  refine wpAnyH_ready (rs := [6]) (by kernel_rfl) (by simp) ?_
                  refine AllReadyH.cons (i := 6) rfl (fun K2 hK => ?_) AllReadyH.nil
                  obtain ⟨p92, hp92⟩ : ∃ v, (p91).alloc (.cells #[.slice none 0 0, .slice none 0 0] 27) = v := ⟨_, rfl⟩
                  obtain ⟨g3, hg3⟩ : ∃ g, (p91).heap.size = g := ⟨_, rfl⟩
                  have hC : Below (p91).heap.size (p91) p92 := by rw [← hp92]; exact (Below.refl _ _).alloc (Nat.le_refl _) _
                  have YB : Blk g3 [.slice none 0 0, .slice none 0 0] p92 := by rw [← hp92, ← hg3]; exact Blk.new _ _ _
                  go_simp
                  (try rw [hp92]); (try rw [hg3])
                  refine hK.out _ _ (QB.later hC QB.lt) (fun hHeld2 => ?_)
                  clear hK K2 hHeld
                  have hHeld := hHeld2
                  clear hHeld2
                  try simp only [Act.put, List.setIfInBounds_toArray, List.set_cons_zero, List.set_cons_succ]
                  try rw [hp92]
                  try rw [hg3]
                  clear hp92
                  refine wpAnyH_ready (rs := [7]) (by kernel_rfl) (by simp) ?_
                  refine AllReadyH.cons (i := 7) rfl (fun K2 hK => ?_) AllReadyH.nil
                  obtain ⟨FF, hFF⟩ : ∃ v, (p92.setCell ⟨g3, 0, none⟩ (.slice a3 xs.length c3)).setCell ⟨g3, 1, none⟩ (.slice b3 (putK ks x).length d3) = v := ⟨_, rfl⟩
                  have hF : Below (p91).heap.size (p91) FF := by rw [← hFF]; exact (hC.setCell (by rw [hg3]; exact Nat.le_refl _) _).setCell (by rw [hg3]; exact Nat.le_refl _) _
                  have ZB : Blk g3 [.slice a3 xs.length c3, .slice b3 (putK ks x).length d3] FF := by rw [← hFF]; exact (YB.set 0 (.slice a3 xs.length c3)).set 1 (.slice b3 (putK ks x).length d3)
                  have y0 := YB.at 0 rfl
                  have q0 := YB.fz 0 rfl
                  have y1 := YB.at 1 rfl
                  have q1 := YB.fz 1 rfl
                  go_simp
                  try rw [hFF]
                  clear y0 y1 q0 q1 YB hC
                  have QBN := QB.later hF QB.lt
                  have XBN := XB.later hF XB.lt
                  have xrN := RowAt.later xr hF
                  have krN := RowAt.later kr hF
                  have kKN := RowAt.later kK hF
                  have xr2N := RowAt.later xr2 hF
                  have kr2N := RowAt.later kr2 hF
                  have kMN := RowAt.later kM hF
                  have xr3N := RowAt.later xr3 hF
                  have kr3N := RowAt.later kr3 hF
                  have BBN := BB.trans (hF.mono BB.size)
                  clear QB XB xr kr kK xr2 kr2 kM xr3 kr3 BB
                  have QB := QBN
                  have XB := XBN
                  have xr := xrN
                  have kr := krN
                  have kK := kKN
                  have xr2 := xr2N
                  have kr2 := kr2N
                  have kM := kMN
                  have xr3 := xr3N
                  have kr3 := kr3N
                  have BB := BBN
                  clear QBN XBN xrN krN kKN xr2N kr2N kMN xr3N kr3N BBN
                  clear hF
                  refine hK.out _ _ QB (fun hHeld2 => ?_)
                  clear hK K2 hHeld
                  have hHeld := hHeld2
                  clear hHeld2
                  try simp only [Act.put, List.setIfInBounds_toArray, List.set_cons_zero, List.set_cons_succ]
                  refine wpAnyH_done (by kernel_rfl) ?_ _
                  clear hHeld hFF hg3
                  have hky := putK_ok h0 x
                  have lk3 : (putK ks x).length ≤ 1048576 := by have := (kOk_len hky).2; omega
                  have u0 := ZB.at 0 rfl
                  have u1 := ZB.at 1 rfl
                  have HX := impl_reach a3 b3 c3 d3 xs (putK ks x) FF xr3 kr3 lx2 lk3 hc3 hs2
                  go_wp2_with fail
                  refine HX.mono ?_
                  clear HX u0 u1
                  rintro en w93 ⟨eA, fA, A, rfl, OK, HA, hb⟩
                  have QBN := QB.later hb QB.lt
                  have XBN := XB.later hb XB.lt
                  have ZBN := ZB.later hb ZB.lt
                  have xrN := RowAt.later xr hb
                  have krN := RowAt.later kr hb
                  have kKN := RowAt.later kK hb
                  have xr2N := RowAt.later xr2 hb
                  have kr2N := RowAt.later kr2 hb
                  have kMN := RowAt.later kM hb
                  have xr3N := RowAt.later xr3 hb
                  have kr3N := RowAt.later kr3 hb
                  have BBN := BB.trans (hb.mono BB.size)
                  clear QB XB ZB xr kr kK xr2 kr2 kM xr3 kr3 BB
                  have QB := QBN
                  have XB := XBN
                  have ZB := ZBN
                  have xr := xrN
                  have kr := krN
                  have kK := kKN
                  have xr2 := xr2N
                  have kr2 := kr2N
                  have kM := kMN
                  have xr3 := xr3N
                  have kr3 := kr3N
                  have BB := BBN
                  clear QBN XBN ZBN xrN krN kKN xr2N kr2N kMN xr3N kr3N BBN
                  clear hb
                  have kA := own_rowAt (f := Value.int .i64) OK
                  clear OK
                  have lA : A.length ≤ 1048576 := keys_len hky HA.out
                  have HS4 : Hid (∀ k, k ∈ K → hasB A k = true) := fun k hk => (hasB_iff _ _).2 ((HA.out.1 k).2 ⟨hky, reach_more (fun _ h => h) (fun _ h => putK_sub h) ((HK.out.1 k).1 hk).2⟩)
                  clear HA
                  go_wp2
                  go_loop [13] (fun i => ∃ m : Nat, i = .int .i64 (m : Int) ∧ m ≤ K.length) (fun i => K.length - (intOf i).toNat)
                  case atStart => exact ⟨0, rfl, by omega⟩
                  case round =>
                    obtain ⟨m, rfl, hm⟩ := hrel
                    by_cases hlt : m < K.length
                    · have hmi : ((m : Int) < (K.length : Int)) := by omega
                      obtain ⟨bb, oo, ee, ll, cc⟩ := kK m hlt
                      have hh := HS4.out _ (List.getElem_mem hlt)
                      generalize K[m] = z at cc hh
                      subst ee
                      have HX0 := has_is eA fA A z w93 kA lA
                      rw [hh] at HX0
                      go_wp2_with fail
                      refine HX0.mono ?_
                      clear HX0
                      rintro en wx ⟨rfl, rfl⟩
                      go_wp2
                      go_round
                      case rel => exact ⟨m + 1, by go_num, by omega⟩
                      case measure => simp [intOf]; omega
                    · obtain rfl : m = K.length := by omega
                      have hmd : decide (((K.length : Nat) : Int) < (K.length : Int)) = false := by simp
                      have u0 := XB.at 0 rfl
                      have u1 := XB.at 1 rfl
                      have HX := spec_knownOk a2 b2 c2 d2 (putT xs t) ks w93 xr2 kr2 lx3 lk2 hc2 hs3
                      go_wp2_with fail
                      refine HX.mono ?_
                      clear HX u0 u1
                      rintro en w94 ⟨rfl, hb⟩
                      have QBN := QB.later hb QB.lt
                      have XBN := XB.later hb XB.lt
                      have ZBN := ZB.later hb ZB.lt
                      have xrN := RowAt.later xr hb
                      have krN := RowAt.later kr hb
                      have kKN := RowAt.later kK hb
                      have xr2N := RowAt.later xr2 hb
                      have kr2N := RowAt.later kr2 hb
                      have kMN := RowAt.later kM hb
                      have xr3N := RowAt.later xr3 hb
                      have kr3N := RowAt.later kr3 hb
                      have kAN := RowAt.later kA hb
                      have BBN := BB.trans (hb.mono BB.size)
                      clear QB XB ZB xr kr kK xr2 kr2 kM xr3 kr3 kA BB
                      have QB := QBN
                      have XB := XBN
                      have ZB := ZBN
                      have xr := xrN
                      have kr := krN
                      have kK := kKN
                      have xr2 := xr2N
                      have kr2 := kr2N
                      have kM := kMN
                      have xr3 := xr3N
                      have kr3 := kr3N
                      have kA := kAN
                      have BB := BBN
                      clear QBN XBN ZBN xrN krN kKN xr2N kr2N kMN xr3N kr3N kAN BBN
                      clear hb
                      rw [hkx]
                      have u0 := ZB.at 0 rfl
                      have u1 := ZB.at 1 rfl
                      have HX := spec_knownOk a3 b3 c3 d3 xs (putK ks x) w94 xr3 kr3 lx2 lk3 hc3 hs2
                      go_wp2_with fail
                      refine HX.mono ?_
                      clear HX u0 u1
                      rintro en w95 ⟨rfl, hb⟩
                      have QBN := QB.later hb QB.lt
                      have XBN := XB.later hb XB.lt
                      have ZBN := ZB.later hb ZB.lt
                      have xrN := RowAt.later xr hb
                      have krN := RowAt.later kr hb
                      have kKN := RowAt.later kK hb
                      have xr2N := RowAt.later xr2 hb
                      have kr2N := RowAt.later kr2 hb
                      have kMN := RowAt.later kM hb
                      have xr3N := RowAt.later xr3 hb
                      have kr3N := RowAt.later kr3 hb
                      have kAN := RowAt.later kA hb
                      have BBN := BB.trans (hb.mono BB.size)
                      clear QB XB ZB xr kr kK xr2 kr2 kM xr3 kr3 kA BB
                      have QB := QBN
                      have XB := XBN
                      have ZB := ZBN
                      have xr := xrN
                      have kr := krN
                      have kK := kKN
                      have xr2 := xr2N
                      have kr2 := kr2N
                      have kM := kMN
                      have xr3 := xr3N
                      have kr3 := kr3N
                      have kA := kAN
                      have BB := BBN
                      clear QBN XBN ZBN xrN krN kKN xr2N kr2N kMN xr3N kr3N kAN BBN
                      clear hb
                      rw [hky]
                      go_wp2
                      go_ret
                      exact ⟨rfl, BB⟩
                · obtain ⟨p91, hp91⟩ : ∃ v, (w10.drew).alloc (.cells #[.slice none 0 0, .slice none 0 0] 27) = v := ⟨_, rfl⟩
                  obtain ⟨g3, hg3⟩ : ∃ g, (w10.drew).heap.size = g := ⟨_, rfl⟩
                  have hC : Below (w10.drew).heap.size (w10.drew) p91 := by rw [← hp91]; exact (Below.refl _ _).alloc (Nat.le_refl _) _
                  have YB : Blk g3 [.slice none 0 0, .slice none 0 0] p91 := by rw [← hp91, ← hg3]; exact Blk.new _ _ _
                  go_simp
                  (try rw [hp91]); (try rw [hg3])
                  refine hK.out _ _ (QB.later hC QB.lt) (fun hHeld2 => ?_)
                  clear hK K2 hHeld
                  have hHeld := hHeld2
                  clear hHeld2
                  try simp only [Act.put, List.setIfInBounds_toArray, List.set_cons_zero, List.set_cons_succ]
                  try rw [hp91]
                  try rw [hg3]
                  clear hp91
                  refine wpAnyH_ready (rs := [5]) (by kernel_rfl) (by simp) ?_
                  refine AllReadyH.cons (i := 5) rfl (fun K2 hK => ?_) AllReadyH.nil
                  have HL := impl_learnKey a1 b1 c1 d1 xs ks x _ (RowAt.later xr hC) (RowAt.later kr hC) lx2 lk2 hc1 hs2
                  unfold lrkT lrkK at HL
                  rw [if_pos h0, if_pos h0] at HL
                  go_simp
                  refine HL.mono ?_
                  clear HL
                  rintro en p92 ⟨v3, rfl, KV, hb5⟩
                  obtain ⟨a3, b3, c3, d3, rfl, xr3, kr3, hc3, na3, nb3⟩ := keep_far KV (by have := YB.lt; omega : g3 < _)
                  clear KV
                  have hCN := hC.trans (hb5.mono hC.size)
                  have YBN := YB.later hb5 YB.lt
                  clear hC YB hb5
                  have hC := hCN
                  have YB := YBN
                  clear hCN YBN
                  go_wp2_with fail
                  refine hK.out _ _ (QB.later hC QB.lt) (fun hHeld2 => ?_)
                  clear hK K2 hHeld
                  have hHeld := hHeld2
                  clear hHeld2
                  try simp only [Act.put, List.setIfInBounds_toArray, List.set_cons_zero, List.set_cons_succ]
                  refine wpAnyH_ready (rs := [7]) (by kernel_rfl) (by simp) ?_
                  refine AllReadyH.cons (i := 7) rfl (fun K2 hK => ?_) AllReadyH.nil
                  obtain ⟨FF, hFF⟩ : ∃ v, (p92.setCell ⟨g3, 0, none⟩ (.slice a3 xs.length c3)).setCell ⟨g3, 1, none⟩ (.slice b3 (putK ks x).length d3) = v := ⟨_, rfl⟩
                  have hF : Below (w10.drew).heap.size (w10.drew) FF := by rw [← hFF]; exact (hC.setCell (by rw [hg3]; exact Nat.le_refl _) _).setCell (by rw [hg3]; exact Nat.le_refl _) _
                  have ZB : Blk g3 [.slice a3 xs.length c3, .slice b3 (putK ks x).length d3] FF := by rw [← hFF]; exact (YB.set 0 (.slice a3 xs.length c3)).set 1 (.slice b3 (putK ks x).length d3)
                  have y0 := YB.at 0 rfl
                  have q0 := YB.fz 0 rfl
                  have y1 := YB.at 1 rfl
                  have q1 := YB.fz 1 rfl
                  have xr3N : RowAt Value.string FF a3 xs := by rw [← hFF]; exact (xr3.put na3 0 _).put na3 1 _
                  have kr3N : RowAt (Value.int .i64) FF b3 (putK ks x) := by rw [← hFF]; exact (kr3.put nb3 0 _).put nb3 1 _
                  clear xr3 kr3 na3 nb3
                  have xr3 := xr3N
                  have kr3 := kr3N
                  clear xr3N kr3N
                  go_simp
                  try rw [hFF]
                  clear y0 y1 q0 q1 YB hC
                  have QBN := QB.later hF QB.lt
                  have XBN := XB.later hF XB.lt
                  have xrN := RowAt.later xr hF
                  have krN := RowAt.later kr hF
                  have kKN := RowAt.later kK hF
                  have xr2N := RowAt.later xr2 hF
                  have kr2N := RowAt.later kr2 hF
                  have kMN := RowAt.later kM hF
                  have BBN := BB.trans (hF.mono BB.size)
                  clear QB XB xr kr kK xr2 kr2 kM BB
                  have QB := QBN
                  have XB := XBN
                  have xr := xrN
                  have kr := krN
                  have kK := kKN
                  have xr2 := xr2N
                  have kr2 := kr2N
                  have kM := kMN
                  have BB := BBN
                  clear QBN XBN xrN krN kKN xr2N kr2N kMN BBN
                  clear hF
                  refine hK.out _ _ QB (fun hHeld2 => ?_)
                  clear hK K2 hHeld
                  have hHeld := hHeld2
                  clear hHeld2
                  try simp only [Act.put, List.setIfInBounds_toArray, List.set_cons_zero, List.set_cons_succ]
                  refine wpAnyH_done (by kernel_rfl) ?_ _
                  clear hHeld hFF hg3
                  have hky := putK_ok h0 x
                  have lk3 : (putK ks x).length ≤ 1048576 := by have := (kOk_len hky).2; omega
                  have u0 := ZB.at 0 rfl
                  have u1 := ZB.at 1 rfl
                  have HX := impl_reach a3 b3 c3 d3 xs (putK ks x) FF xr3 kr3 lx2 lk3 hc3 hs2
                  go_wp2_with fail
                  refine HX.mono ?_
                  clear HX u0 u1
                  rintro en w93 ⟨eA, fA, A, rfl, OK, HA, hb⟩
                  have QBN := QB.later hb QB.lt
                  have XBN := XB.later hb XB.lt
                  have ZBN := ZB.later hb ZB.lt
                  have xrN := RowAt.later xr hb
                  have krN := RowAt.later kr hb
                  have kKN := RowAt.later kK hb
                  have xr2N := RowAt.later xr2 hb
                  have kr2N := RowAt.later kr2 hb
                  have kMN := RowAt.later kM hb
                  have xr3N := RowAt.later xr3 hb
                  have kr3N := RowAt.later kr3 hb
                  have BBN := BB.trans (hb.mono BB.size)
                  clear QB XB ZB xr kr kK xr2 kr2 kM xr3 kr3 BB
                  have QB := QBN
                  have XB := XBN
                  have ZB := ZBN
                  have xr := xrN
                  have kr := krN
                  have kK := kKN
                  have xr2 := xr2N
                  have kr2 := kr2N
                  have kM := kMN
                  have xr3 := xr3N
                  have kr3 := kr3N
                  have BB := BBN
                  clear QBN XBN ZBN xrN krN kKN xr2N kr2N kMN xr3N kr3N BBN
                  clear hb
                  have kA := own_rowAt (f := Value.int .i64) OK
                  clear OK
                  have lA : A.length ≤ 1048576 := keys_len hky HA.out
                  have HS4 : Hid (∀ k, k ∈ K → hasB A k = true) := fun k hk => (hasB_iff _ _).2 ((HA.out.1 k).2 ⟨hky, reach_more (fun _ h => h) (fun _ h => putK_sub h) ((HK.out.1 k).1 hk).2⟩)
                  clear HA
                  go_wp2
                  go_loop [13] (fun i => ∃ m : Nat, i = .int .i64 (m : Int) ∧ m ≤ K.length) (fun i => K.length - (intOf i).toNat)
                  case atStart => exact ⟨0, rfl, by omega⟩
                  case round =>
                    obtain ⟨m, rfl, hm⟩ := hrel
                    by_cases hlt : m < K.length
                    · have hmi : ((m : Int) < (K.length : Int)) := by omega
                      obtain ⟨bb, oo, ee, ll, cc⟩ := kK m hlt
                      have hh := HS4.out _ (List.getElem_mem hlt)
                      generalize K[m] = z at cc hh
                      subst ee
                      have HX0 := has_is eA fA A z w93 kA lA
                      rw [hh] at HX0
                      go_wp2_with fail
                      refine HX0.mono ?_
                      clear HX0
                      rintro en wx ⟨rfl, rfl⟩
                      go_wp2
                      go_round
                      case rel => exact ⟨m + 1, by go_num, by omega⟩
                      case measure => simp [intOf]; omega
                    · obtain rfl : m = K.length := by omega
                      have hmd : decide (((K.length : Nat) : Int) < (K.length : Int)) = false := by simp
                      have u0 := XB.at 0 rfl
                      have u1 := XB.at 1 rfl
                      have HX := spec_knownOk a2 b2 c2 d2 (putT xs t) ks w93 xr2 kr2 lx3 lk2 hc2 hs3
                      go_wp2_with fail
                      refine HX.mono ?_
                      clear HX u0 u1
                      rintro en w94 ⟨rfl, hb⟩
                      have QBN := QB.later hb QB.lt
                      have XBN := XB.later hb XB.lt
                      have ZBN := ZB.later hb ZB.lt
                      have xrN := RowAt.later xr hb
                      have krN := RowAt.later kr hb
                      have kKN := RowAt.later kK hb
                      have xr2N := RowAt.later xr2 hb
                      have kr2N := RowAt.later kr2 hb
                      have kMN := RowAt.later kM hb
                      have xr3N := RowAt.later xr3 hb
                      have kr3N := RowAt.later kr3 hb
                      have kAN := RowAt.later kA hb
                      have BBN := BB.trans (hb.mono BB.size)
                      clear QB XB ZB xr kr kK xr2 kr2 kM xr3 kr3 kA BB
                      have QB := QBN
                      have XB := XBN
                      have ZB := ZBN
                      have xr := xrN
                      have kr := krN
                      have kK := kKN
                      have xr2 := xr2N
                      have kr2 := kr2N
                      have kM := kMN
                      have xr3 := xr3N
                      have kr3 := kr3N
                      have kA := kAN
                      have BB := BBN
                      clear QBN XBN ZBN xrN krN kKN xr2N kr2N kMN xr3N kr3N kAN BBN
                      clear hb
                      rw [hkx]
                      have u0 := ZB.at 0 rfl
                      have u1 := ZB.at 1 rfl
                      have HX := spec_knownOk a3 b3 c3 d3 xs (putK ks x) w94 xr3 kr3 lx2 lk3 hc3 hs2
                      go_wp2_with fail
                      refine HX.mono ?_
                      clear HX u0 u1
                      rintro en w95 ⟨rfl, hb⟩
                      have QBN := QB.later hb QB.lt
                      have XBN := XB.later hb XB.lt
                      have ZBN := ZB.later hb ZB.lt
                      have xrN := RowAt.later xr hb
                      have krN := RowAt.later kr hb
                      have kKN := RowAt.later kK hb
                      have xr2N := RowAt.later xr2 hb
                      have kr2N := RowAt.later kr2 hb
                      have kMN := RowAt.later kM hb
                      have xr3N := RowAt.later xr3 hb
                      have kr3N := RowAt.later kr3 hb
                      have kAN := RowAt.later kA hb
                      have BBN := BB.trans (hb.mono BB.size)
                      clear QB XB ZB xr kr kK xr2 kr2 kM xr3 kr3 kA BB
                      have QB := QBN
                      have XB := XBN
                      have ZB := ZBN
                      have xr := xrN
                      have kr := krN
                      have kK := kKN
                      have xr2 := xr2N
                      have kr2 := kr2N
                      have kM := kMN
                      have xr3 := xr3N
                      have kr3 := kr3N
                      have kA := kAN
                      have BB := BBN
                      clear QBN XBN ZBN xrN krN kKN xr2N kr2N kMN xr3N kr3N kAN BBN
                      clear hb
                      rw [hky]
                      go_wp2
                      go_ret
                      exact ⟨rfl, BB⟩
              · obtain ⟨p91, hp91⟩ : ∃ v, (w10.drew).alloc (.cells #[.slice none 0 0, .slice none 0 0] 27) = v := ⟨_, rfl⟩
                obtain ⟨g3, hg3⟩ : ∃ g, (w10.drew).heap.size = g := ⟨_, rfl⟩
                have hC : Below (w10.drew).heap.size (w10.drew) p91 := by rw [← hp91]; exact (Below.refl _ _).alloc (Nat.le_refl _) _
                have YB : Blk g3 [.slice none 0 0, .slice none 0 0] p91 := by rw [← hp91, ← hg3]; exact Blk.new _ _ _
                go_simp
                (try rw [hp91]); (try rw [hg3])
                refine hK.out _ _ (QB.later hC QB.lt) (fun hHeld2 => ?_)
                clear hK K2 hHeld
                have hHeld := hHeld2
                clear hHeld2
                try simp only [Act.put, List.setIfInBounds_toArray, List.set_cons_zero, List.set_cons_succ]
                try rw [hp91]
                try rw [hg3]
                clear hp91
                refine wpAnyH_ready (rs := [2]) (by kernel_rfl) (by simp) ?_
                refine AllReadyH.cons (i := 2) rfl (fun K2 hK => ?_) AllReadyH.nil
                go_simp
                refine (at_go ad len cap zs _ ((HZ.out.below (BB.trans (hC.mono BB.size))).lt (Nat.le_trans BB.size hC.size))).mono ?_
                rintro en vv ⟨z, rfl, z0, z1, rfl⟩
                go_wp2_with fail
                refine hK.out _ _ (QB.later hC QB.lt) (fun hHeld2 => ?_)
                clear hK K2 hHeld
                have hHeld := hHeld2
                clear hHeld2
                try simp only [Act.put, List.setIfInBounds_toArray, List.set_cons_zero, List.set_cons_succ]
                obtain ⟨x, hx⟩ : ∃ x : Int, x = 1 + z % 6 := ⟨_, rfl⟩
                refine take_one 3 98 (v := .int .i64 (z % 6)) rfl rfl (by kernel_rfl) (by kernel_rfl) (by kernel_rfl) (fun _ _ _ h => h) (Or.inl ⟨by rfl, ?_⟩) hHeld ?_
                · intro w' hSw; (try dsimp only at hSw); go_simp; all_goals (rw [Int.tmod_eq_emod_of_nonneg z0])
                try simp only [Act.put, List.setIfInBounds_toArray, List.set_cons_zero, List.set_cons_succ]
                refine take_one 4 99 (v := .int .i64 x) rfl rfl (by kernel_rfl) (by kernel_rfl) (by kernel_rfl) (fun _ _ _ h => h) (Or.inl ⟨by rfl, ?_⟩) hHeld ?_
                · intro w' hSw; (try dsimp only at hSw); go_simp; all_goals (subst hx; rw [IntKind.wrap_i64]; omega)
                try simp only [Act.put, List.setIfInBounds_toArray, List.set_cons_zero, List.set_cons_succ]
                clear hx z0 z1
                refine wpAnyH_ready (rs := [5]) (by kernel_rfl) (by simp) ?_
                refine AllReadyH.cons (i := 5) rfl (fun K2 hK => ?_) AllReadyH.nil
                have HL := impl_learnKey a1 b1 c1 d1 xs ks x _ (RowAt.later xr hC) (RowAt.later kr hC) lx2 lk2 hc1 hs2
                unfold lrkT lrkK at HL
                rw [if_pos h0, if_pos h0] at HL
                go_simp
                refine HL.mono ?_
                clear HL
                rintro en p92 ⟨v3, rfl, KV, hb5⟩
                obtain ⟨a3, b3, c3, d3, rfl, xr3, kr3, hc3, na3, nb3⟩ := keep_far KV (by have := YB.lt; omega : g3 < _)
                clear KV
                have hCN := hC.trans (hb5.mono hC.size)
                have YBN := YB.later hb5 YB.lt
                clear hC YB hb5
                have hC := hCN
                have YB := YBN
                clear hCN YBN
                go_wp2_with fail
                refine hK.out _ _ (QB.later hC QB.lt) (fun hHeld2 => ?_)
                clear hK K2 hHeld
                have hHeld := hHeld2
                clear hHeld2
                try simp only [Act.put, List.setIfInBounds_toArray, List.set_cons_zero, List.set_cons_succ]
                refine wpAnyH_ready (rs := [7]) (by kernel_rfl) (by simp) ?_
                refine AllReadyH.cons (i := 7) rfl (fun K2 hK => ?_) AllReadyH.nil
                obtain ⟨FF, hFF⟩ : ∃ v, (p92.setCell ⟨g3, 0, none⟩ (.slice a3 xs.length c3)).setCell ⟨g3, 1, none⟩ (.slice b3 (putK ks x).length d3) = v := ⟨_, rfl⟩
                have hF : Below (w10.drew).heap.size (w10.drew) FF := by rw [← hFF]; exact (hC.setCell (by rw [hg3]; exact Nat.le_refl _) _).setCell (by rw [hg3]; exact Nat.le_refl _) _
                have ZB : Blk g3 [.slice a3 xs.length c3, .slice b3 (putK ks x).length d3] FF := by rw [← hFF]; exact (YB.set 0 (.slice a3 xs.length c3)).set 1 (.slice b3 (putK ks x).length d3)
                have y0 := YB.at 0 rfl
                have q0 := YB.fz 0 rfl
                have y1 := YB.at 1 rfl
                have q1 := YB.fz 1 rfl
                have xr3N : RowAt Value.string FF a3 xs := by rw [← hFF]; exact (xr3.put na3 0 _).put na3 1 _
                have kr3N : RowAt (Value.int .i64) FF b3 (putK ks x) := by rw [← hFF]; exact (kr3.put nb3 0 _).put nb3 1 _
                clear xr3 kr3 na3 nb3
                have xr3 := xr3N
                have kr3 := kr3N
                clear xr3N kr3N
                go_simp
                try rw [hFF]
                clear y0 y1 q0 q1 YB hC
                have QBN := QB.later hF QB.lt
                have XBN := XB.later hF XB.lt
                have xrN := RowAt.later xr hF
                have krN := RowAt.later kr hF
                have kKN := RowAt.later kK hF
                have xr2N := RowAt.later xr2 hF
                have kr2N := RowAt.later kr2 hF
                have kMN := RowAt.later kM hF
                have BBN := BB.trans (hF.mono BB.size)
                clear QB XB xr kr kK xr2 kr2 kM BB
                have QB := QBN
                have XB := XBN
                have xr := xrN
                have kr := krN
                have kK := kKN
                have xr2 := xr2N
                have kr2 := kr2N
                have kM := kMN
                have BB := BBN
                clear QBN XBN xrN krN kKN xr2N kr2N kMN BBN
                clear hF
                refine hK.out _ _ QB (fun hHeld2 => ?_)
                clear hK K2 hHeld
                have hHeld := hHeld2
                clear hHeld2
                try simp only [Act.put, List.setIfInBounds_toArray, List.set_cons_zero, List.set_cons_succ]
                refine wpAnyH_done (by kernel_rfl) ?_ _
                clear hHeld hFF hg3
                have hky := putK_ok h0 x
                have lk3 : (putK ks x).length ≤ 1048576 := by have := (kOk_len hky).2; omega
                have u0 := ZB.at 0 rfl
                have u1 := ZB.at 1 rfl
                have HX := impl_reach a3 b3 c3 d3 xs (putK ks x) FF xr3 kr3 lx2 lk3 hc3 hs2
                go_wp2_with fail
                refine HX.mono ?_
                clear HX u0 u1
                rintro en w93 ⟨eA, fA, A, rfl, OK, HA, hb⟩
                have QBN := QB.later hb QB.lt
                have XBN := XB.later hb XB.lt
                have ZBN := ZB.later hb ZB.lt
                have xrN := RowAt.later xr hb
                have krN := RowAt.later kr hb
                have kKN := RowAt.later kK hb
                have xr2N := RowAt.later xr2 hb
                have kr2N := RowAt.later kr2 hb
                have kMN := RowAt.later kM hb
                have xr3N := RowAt.later xr3 hb
                have kr3N := RowAt.later kr3 hb
                have BBN := BB.trans (hb.mono BB.size)
                clear QB XB ZB xr kr kK xr2 kr2 kM xr3 kr3 BB
                have QB := QBN
                have XB := XBN
                have ZB := ZBN
                have xr := xrN
                have kr := krN
                have kK := kKN
                have xr2 := xr2N
                have kr2 := kr2N
                have kM := kMN
                have xr3 := xr3N
                have kr3 := kr3N
                have BB := BBN
                clear QBN XBN ZBN xrN krN kKN xr2N kr2N kMN xr3N kr3N BBN
                clear hb
                have kA := own_rowAt (f := Value.int .i64) OK
                clear OK
                have lA : A.length ≤ 1048576 := keys_len hky HA.out
                have HS4 : Hid (∀ k, k ∈ K → hasB A k = true) := fun k hk => (hasB_iff _ _).2 ((HA.out.1 k).2 ⟨hky, reach_more (fun _ h => h) (fun _ h => putK_sub h) ((HK.out.1 k).1 hk).2⟩)
                clear HA
                go_wp2
                go_loop [13] (fun i => ∃ m : Nat, i = .int .i64 (m : Int) ∧ m ≤ K.length) (fun i => K.length - (intOf i).toNat)
                case atStart => exact ⟨0, rfl, by omega⟩
                case round =>
                  obtain ⟨m, rfl, hm⟩ := hrel
                  by_cases hlt : m < K.length
                  · have hmi : ((m : Int) < (K.length : Int)) := by omega
                    obtain ⟨bb, oo, ee, ll, cc⟩ := kK m hlt
                    have hh := HS4.out _ (List.getElem_mem hlt)
                    generalize K[m] = z at cc hh
                    subst ee
                    have HX0 := has_is eA fA A z w93 kA lA
                    rw [hh] at HX0
                    go_wp2_with fail
                    refine HX0.mono ?_
                    clear HX0
                    rintro en wx ⟨rfl, rfl⟩
                    go_wp2
                    go_round
                    case rel => exact ⟨m + 1, by go_num, by omega⟩
                    case measure => simp [intOf]; omega
                  · obtain rfl : m = K.length := by omega
                    have hmd : decide (((K.length : Nat) : Int) < (K.length : Int)) = false := by simp
                    have u0 := XB.at 0 rfl
                    have u1 := XB.at 1 rfl
                    have HX := spec_knownOk a2 b2 c2 d2 (putT xs t) ks w93 xr2 kr2 lx3 lk2 hc2 hs3
                    go_wp2_with fail
                    refine HX.mono ?_
                    clear HX u0 u1
                    rintro en w94 ⟨rfl, hb⟩
                    have QBN := QB.later hb QB.lt
                    have XBN := XB.later hb XB.lt
                    have ZBN := ZB.later hb ZB.lt
                    have xrN := RowAt.later xr hb
                    have krN := RowAt.later kr hb
                    have kKN := RowAt.later kK hb
                    have xr2N := RowAt.later xr2 hb
                    have kr2N := RowAt.later kr2 hb
                    have kMN := RowAt.later kM hb
                    have xr3N := RowAt.later xr3 hb
                    have kr3N := RowAt.later kr3 hb
                    have kAN := RowAt.later kA hb
                    have BBN := BB.trans (hb.mono BB.size)
                    clear QB XB ZB xr kr kK xr2 kr2 kM xr3 kr3 kA BB
                    have QB := QBN
                    have XB := XBN
                    have ZB := ZBN
                    have xr := xrN
                    have kr := krN
                    have kK := kKN
                    have xr2 := xr2N
                    have kr2 := kr2N
                    have kM := kMN
                    have xr3 := xr3N
                    have kr3 := kr3N
                    have kA := kAN
                    have BB := BBN
                    clear QBN XBN ZBN xrN krN kKN xr2N kr2N kMN xr3N kr3N kAN BBN
                    clear hb
                    rw [hkx]
                    have u0 := ZB.at 0 rfl
                    have u1 := ZB.at 1 rfl
                    have HX := spec_knownOk a3 b3 c3 d3 xs (putK ks x) w94 xr3 kr3 lx2 lk3 hc3 hs2
                    go_wp2_with fail
                    refine HX.mono ?_
                    clear HX u0 u1
                    rintro en w95 ⟨rfl, hb⟩
                    have QBN := QB.later hb QB.lt
                    have XBN := XB.later hb XB.lt
                    have ZBN := ZB.later hb ZB.lt
                    have xrN := RowAt.later xr hb
                    have krN := RowAt.later kr hb
                    have kKN := RowAt.later kK hb
                    have xr2N := RowAt.later xr2 hb
                    have kr2N := RowAt.later kr2 hb
                    have kMN := RowAt.later kM hb
                    have xr3N := RowAt.later xr3 hb
                    have kr3N := RowAt.later kr3 hb
                    have kAN := RowAt.later kA hb
                    have BBN := BB.trans (hb.mono BB.size)
                    clear QB XB ZB xr kr kK xr2 kr2 kM xr3 kr3 kA BB
                    have QB := QBN
                    have XB := XBN
                    have ZB := ZBN
                    have xr := xrN
                    have kr := krN
                    have kK := kKN
                    have xr2 := xr2N
                    have kr2 := kr2N
                    have kM := kMN
                    have xr3 := xr3N
                    have kr3 := kr3N
                    have kA := kAN
                    have BB := BBN
                    clear QBN XBN ZBN xrN krN kKN xr2N kr2N kMN xr3N kr3N kAN BBN
                    clear hb
                    rw [hky]
                    go_wp2
                    go_ret
                    exact ⟨rfl, BB⟩
            | true =>
              subst hcv
              obtain rfl := HS3.out (HV.out.1 rfl)
              cases b5 with
              | true =>
                have HX := same_is eK eM fK fM K w10 kK kM lK
                go_wp2_with fail
                refine HX.mono ?_
                clear HX
                rintro en w11 ⟨rfl, hb⟩
                have QBN := QB.later hb QB.lt
                have XBN := XB.later hb XB.lt
                have xrN := RowAt.later xr hb
                have krN := RowAt.later kr hb
                have kKN := RowAt.later kK hb
                have xr2N := RowAt.later xr2 hb
                have kr2N := RowAt.later kr2 hb
                have kMN := RowAt.later kM hb
                have BBN := BB.trans (hb.mono BB.size)
                clear QB XB xr kr kK xr2 kr2 kM BB
                have QB := QBN
                have XB := XBN
                have xr := xrN
                have kr := krN
                have kK := kKN
                have xr2 := xr2N
                have kr2 := kr2N
                have kM := kMN
                have BB := BBN
                clear QBN XBN xrN krN kKN xr2N kr2N kMN BBN
                clear hb
                have QBD := QB.drew
                have XBD := XB.drew
                have BBD := BB.drew
                have xrD : RowAt _ w11.drew _ _ := xr
                have krD : RowAt _ w11.drew _ _ := kr
                have kKD : RowAt _ w11.drew _ _ := kK
                have xr2D : RowAt _ w11.drew _ _ := xr2
                have kr2D : RowAt _ w11.drew _ _ := kr2
                have kMD : RowAt _ w11.drew _ _ := kM
                clear QB XB BB xr kr kK xr2 kr2 kM
                have QB := QBD
                have XB := XBD
                have BB := BBD
                have xr := xrD
                have kr := krD
                have kK := kKD
                have xr2 := xr2D
                have kr2 := kr2D
                have kM := kMD
                clear QBD XBD BBD xrD krD kKD xr2D kr2D kMD
                go_wp2_with fail
                refine wp_region_held_drew (S := (fun Vw => Blk w1.heap.size [.slice a1 xs.length c1, .slice b1 ks.length d1] Vw)) (by kernel_rfl) QB (fun hHeld => ?_)
                refine take_one 0 95 (v := ?_) rfl rfl (by kernel_rfl) (by kernel_rfl) (by kernel_rfl) (fun _ _ _ h => h) (Or.inl ⟨by rfl, ?_⟩) hHeld ?_
                rotate_left
                · intro w' hSw; (try dsimp only at hSw); have u0 := hSw.at 0 rfl; have u1 := hSw.at 1 rfl; go_simp; try with_reducible rfl
                try simp only [Act.put, List.setIfInBounds_toArray, List.set_cons_zero, List.set_cons_succ]
                refine take_one 1 96 (v := ?_) rfl rfl (by kernel_rfl) (by kernel_rfl) (by kernel_rfl) (fun _ _ _ h => h) (Or.inl ⟨by rfl, ?_⟩) hHeld ?_
                rotate_left
                · intro w' hSw; (try dsimp only at hSw); have u0 := hSw.at 0 rfl; have u1 := hSw.at 1 rfl; go_simp; try with_reducible rfl
                try simp only [Act.put, List.setIfInBounds_toArray, List.set_cons_zero, List.set_cons_succ]
                refine wpAnyH_ready (rs := [2, 6]) (by kernel_rfl) (by simp) ?_
                refine AllReadyH.cons (i := 2) rfl (fun K2 hK => ?_) (AllReadyH.cons (i := 6) rfl (fun K2 hK => ?_) AllReadyH.nil)
                · go_simp
                  refine (at_go ad len cap zs _ ((HZ.out.below BB).lt BB.size)).mono ?_
                  rintro en vv ⟨z, rfl, z0, z1, rfl⟩
                  go_wp2_with fail
                  refine hK.out _ _ QB (fun hHeld2 => ?_)
                  clear hK K2 hHeld
                  have hHeld := hHeld2
                  clear hHeld2
                  try simp only [Act.put, List.setIfInBounds_toArray, List.set_cons_zero, List.set_cons_succ]
                  obtain ⟨x, hx⟩ : ∃ x : Int, x = 1 + z % 6 := ⟨_, rfl⟩
                  refine take_one 3 98 (v := .int .i64 (z % 6)) rfl rfl (by kernel_rfl) (by kernel_rfl) (by kernel_rfl) (fun _ _ _ h => h) (Or.inl ⟨by rfl, ?_⟩) hHeld ?_
                  · intro w' hSw; (try dsimp only at hSw); go_simp; all_goals (rw [Int.tmod_eq_emod_of_nonneg z0])
                  try simp only [Act.put, List.setIfInBounds_toArray, List.set_cons_zero, List.set_cons_succ]
                  refine take_one 4 99 (v := .int .i64 x) rfl rfl (by kernel_rfl) (by kernel_rfl) (by kernel_rfl) (fun _ _ _ h => h) (Or.inl ⟨by rfl, ?_⟩) hHeld ?_
                  · intro w' hSw; (try dsimp only at hSw); go_simp; all_goals (subst hx; rw [IntKind.wrap_i64]; omega)
                  try simp only [Act.put, List.setIfInBounds_toArray, List.set_cons_zero, List.set_cons_succ]
                  clear hx z0 z1
                  refine wpAnyH_ready (rs := [5, 6]) (by kernel_rfl) (by simp) ?_
                  refine AllReadyH.cons (i := 5) rfl (fun K2 hK => ?_) (AllReadyH.cons (i := 6) rfl (fun K2 hK => ?_) AllReadyH.nil)
                  · have HL := impl_learnKey a1 b1 c1 d1 xs ks x _ xr kr lx2 lk2 hc1 hs2
                    unfold lrkT lrkK at HL
                    rw [if_pos h0, if_pos h0] at HL
                    go_simp
                    refine HL.mono ?_
                    clear HL
                    rintro en p91 ⟨v3, rfl, KV, hb5⟩
                    have QBN := QB.later hb5 QB.lt
                    have XBN := XB.later hb5 XB.lt
                    have xrN := RowAt.later xr hb5
                    have krN := RowAt.later kr hb5
                    have kKN := RowAt.later kK hb5
                    have xr2N := RowAt.later xr2 hb5
                    have kr2N := RowAt.later kr2 hb5
                    have kMN := RowAt.later kM hb5
                    have BBN := BB.trans (hb5.mono BB.size)
                    clear QB XB xr kr kK xr2 kr2 kM BB
                    have QB := QBN
                    have XB := XBN
                    have xr := xrN
                    have kr := krN
                    have kK := kKN
                    have xr2 := xr2N
                    have kr2 := kr2N
                    have kM := kMN
                    have BB := BBN
                    clear QBN XBN xrN krN kKN xr2N kr2N kMN BBN
                    clear hb5
                    obtain ⟨a3, b3, c3, d3, rfl, xr3, kr3, hc3⟩ := keep_rows KV
                    clear KV
                    go_wp2_with fail
                    refine hK.out _ _ QB (fun hHeld2 => ?_)
                    clear hK K2 hHeld
                    have hHeld := hHeld2
                    clear hHeld2
                    try simp only [Act.put, List.setIfInBounds_toArray, List.set_cons_zero, List.set_cons_succ]
                    refine wpAnyH_ready (rs := [6]) (by kernel_rfl) (by simp) ?_
                    refine AllReadyH.cons (i := 6) rfl (fun K2 hK => ?_) AllReadyH.nil
                    obtain ⟨p92, hp92⟩ : ∃ v, (p91).alloc (.cells #[.slice none 0 0, .slice none 0 0] 27) = v := ⟨_, rfl⟩
                    obtain ⟨g3, hg3⟩ : ∃ g, (p91).heap.size = g := ⟨_, rfl⟩
                    have hC : Below (p91).heap.size (p91) p92 := by rw [← hp92]; exact (Below.refl _ _).alloc (Nat.le_refl _) _
                    have YB : Blk g3 [.slice none 0 0, .slice none 0 0] p92 := by rw [← hp92, ← hg3]; exact Blk.new _ _ _
                    go_simp
                    (try rw [hp92]); (try rw [hg3])
                    refine hK.out _ _ (QB.later hC QB.lt) (fun hHeld2 => ?_)
                    clear hK K2 hHeld
                    have hHeld := hHeld2
                    clear hHeld2
                    try simp only [Act.put, List.setIfInBounds_toArray, List.set_cons_zero, List.set_cons_succ]
                    try rw [hp92]
                    try rw [hg3]
                    clear hp92
                    refine wpAnyH_ready (rs := [7]) (by kernel_rfl) (by simp) ?_
                    refine AllReadyH.cons (i := 7) rfl (fun K2 hK => ?_) AllReadyH.nil
                    obtain ⟨FF, hFF⟩ : ∃ v, (p92.setCell ⟨g3, 0, none⟩ (.slice a3 xs.length c3)).setCell ⟨g3, 1, none⟩ (.slice b3 (putK ks x).length d3) = v := ⟨_, rfl⟩
                    have hF : Below (p91).heap.size (p91) FF := by rw [← hFF]; exact (hC.setCell (by rw [hg3]; exact Nat.le_refl _) _).setCell (by rw [hg3]; exact Nat.le_refl _) _
                    have ZB : Blk g3 [.slice a3 xs.length c3, .slice b3 (putK ks x).length d3] FF := by rw [← hFF]; exact (YB.set 0 (.slice a3 xs.length c3)).set 1 (.slice b3 (putK ks x).length d3)
                    have y0 := YB.at 0 rfl
                    have q0 := YB.fz 0 rfl
                    have y1 := YB.at 1 rfl
                    have q1 := YB.fz 1 rfl
                    go_simp
                    try rw [hFF]
                    clear y0 y1 q0 q1 YB hC
                    have QBN := QB.later hF QB.lt
                    have XBN := XB.later hF XB.lt
                    have xrN := RowAt.later xr hF
                    have krN := RowAt.later kr hF
                    have kKN := RowAt.later kK hF
                    have xr2N := RowAt.later xr2 hF
                    have kr2N := RowAt.later kr2 hF
                    have kMN := RowAt.later kM hF
                    have xr3N := RowAt.later xr3 hF
                    have kr3N := RowAt.later kr3 hF
                    have BBN := BB.trans (hF.mono BB.size)
                    clear QB XB xr kr kK xr2 kr2 kM xr3 kr3 BB
                    have QB := QBN
                    have XB := XBN
                    have xr := xrN
                    have kr := krN
                    have kK := kKN
                    have xr2 := xr2N
                    have kr2 := kr2N
                    have kM := kMN
                    have xr3 := xr3N
                    have kr3 := kr3N
                    have BB := BBN
                    clear QBN XBN xrN krN kKN xr2N kr2N kMN xr3N kr3N BBN
                    clear hF
                    refine hK.out _ _ QB (fun hHeld2 => ?_)
                    clear hK K2 hHeld
                    have hHeld := hHeld2
                    clear hHeld2
                    try simp only [Act.put, List.setIfInBounds_toArray, List.set_cons_zero, List.set_cons_succ]
                    refine wpAnyH_done (by kernel_rfl) ?_ _
                    clear hHeld hFF hg3
                    have hky := putK_ok h0 x
                    have lk3 : (putK ks x).length ≤ 1048576 := by have := (kOk_len hky).2; omega
                    have u0 := ZB.at 0 rfl
                    have u1 := ZB.at 1 rfl
                    have HX := impl_reach a3 b3 c3 d3 xs (putK ks x) FF xr3 kr3 lx2 lk3 hc3 hs2
                    go_wp2_with fail
                    refine HX.mono ?_
                    clear HX u0 u1
                    rintro en w93 ⟨eA, fA, A, rfl, OK, HA, hb⟩
                    have QBN := QB.later hb QB.lt
                    have XBN := XB.later hb XB.lt
                    have ZBN := ZB.later hb ZB.lt
                    have xrN := RowAt.later xr hb
                    have krN := RowAt.later kr hb
                    have kKN := RowAt.later kK hb
                    have xr2N := RowAt.later xr2 hb
                    have kr2N := RowAt.later kr2 hb
                    have kMN := RowAt.later kM hb
                    have xr3N := RowAt.later xr3 hb
                    have kr3N := RowAt.later kr3 hb
                    have BBN := BB.trans (hb.mono BB.size)
                    clear QB XB ZB xr kr kK xr2 kr2 kM xr3 kr3 BB
                    have QB := QBN
                    have XB := XBN
                    have ZB := ZBN
                    have xr := xrN
                    have kr := krN
                    have kK := kKN
                    have xr2 := xr2N
                    have kr2 := kr2N
                    have kM := kMN
                    have xr3 := xr3N
                    have kr3 := kr3N
                    have BB := BBN
                    clear QBN XBN ZBN xrN krN kKN xr2N kr2N kMN xr3N kr3N BBN
                    clear hb
                    have kA := own_rowAt (f := Value.int .i64) OK
                    clear OK
                    have lA : A.length ≤ 1048576 := keys_len hky HA.out
                    have HS4 : Hid (∀ k, k ∈ K → hasB A k = true) := fun k hk => (hasB_iff _ _).2 ((HA.out.1 k).2 ⟨hky, reach_more (fun _ h => h) (fun _ h => putK_sub h) ((HK.out.1 k).1 hk).2⟩)
                    clear HA
                    go_wp2
                    go_loop [13] (fun i => ∃ m : Nat, i = .int .i64 (m : Int) ∧ m ≤ K.length) (fun i => K.length - (intOf i).toNat)
                    case atStart => exact ⟨0, rfl, by omega⟩
                    case round =>
                      obtain ⟨m, rfl, hm⟩ := hrel
                      by_cases hlt : m < K.length
                      · have hmi : ((m : Int) < (K.length : Int)) := by omega
                        obtain ⟨bb, oo, ee, ll, cc⟩ := kK m hlt
                        have hh := HS4.out _ (List.getElem_mem hlt)
                        generalize K[m] = z at cc hh
                        subst ee
                        have HX0 := has_is eA fA A z w93 kA lA
                        rw [hh] at HX0
                        go_wp2_with fail
                        refine HX0.mono ?_
                        clear HX0
                        rintro en wx ⟨rfl, rfl⟩
                        go_wp2
                        go_round
                        case rel => exact ⟨m + 1, by go_num, by omega⟩
                        case measure => simp [intOf]; omega
                      · obtain rfl : m = K.length := by omega
                        have hmd : decide (((K.length : Nat) : Int) < (K.length : Int)) = false := by simp
                        have u0 := XB.at 0 rfl
                        have u1 := XB.at 1 rfl
                        have HX := spec_knownOk a2 b2 c2 d2 (putT xs t) ks w93 xr2 kr2 lx3 lk2 hc2 hs3
                        go_wp2_with fail
                        refine HX.mono ?_
                        clear HX u0 u1
                        rintro en w94 ⟨rfl, hb⟩
                        have QBN := QB.later hb QB.lt
                        have XBN := XB.later hb XB.lt
                        have ZBN := ZB.later hb ZB.lt
                        have xrN := RowAt.later xr hb
                        have krN := RowAt.later kr hb
                        have kKN := RowAt.later kK hb
                        have xr2N := RowAt.later xr2 hb
                        have kr2N := RowAt.later kr2 hb
                        have kMN := RowAt.later kM hb
                        have xr3N := RowAt.later xr3 hb
                        have kr3N := RowAt.later kr3 hb
                        have kAN := RowAt.later kA hb
                        have BBN := BB.trans (hb.mono BB.size)
                        clear QB XB ZB xr kr kK xr2 kr2 kM xr3 kr3 kA BB
                        have QB := QBN
                        have XB := XBN
                        have ZB := ZBN
                        have xr := xrN
                        have kr := krN
                        have kK := kKN
                        have xr2 := xr2N
                        have kr2 := kr2N
                        have kM := kMN
                        have xr3 := xr3N
                        have kr3 := kr3N
                        have kA := kAN
                        have BB := BBN
                        clear QBN XBN ZBN xrN krN kKN xr2N kr2N kMN xr3N kr3N kAN BBN
                        clear hb
                        rw [hkx]
                        have u0 := ZB.at 0 rfl
                        have u1 := ZB.at 1 rfl
                        have HX := spec_knownOk a3 b3 c3 d3 xs (putK ks x) w94 xr3 kr3 lx2 lk3 hc3 hs2
                        go_wp2_with fail
                        refine HX.mono ?_
                        clear HX u0 u1
                        rintro en w95 ⟨rfl, hb⟩
                        have QBN := QB.later hb QB.lt
                        have XBN := XB.later hb XB.lt
                        have ZBN := ZB.later hb ZB.lt
                        have xrN := RowAt.later xr hb
                        have krN := RowAt.later kr hb
                        have kKN := RowAt.later kK hb
                        have xr2N := RowAt.later xr2 hb
                        have kr2N := RowAt.later kr2 hb
                        have kMN := RowAt.later kM hb
                        have xr3N := RowAt.later xr3 hb
                        have kr3N := RowAt.later kr3 hb
                        have kAN := RowAt.later kA hb
                        have BBN := BB.trans (hb.mono BB.size)
                        clear QB XB ZB xr kr kK xr2 kr2 kM xr3 kr3 kA BB
                        have QB := QBN
                        have XB := XBN
                        have ZB := ZBN
                        have xr := xrN
                        have kr := krN
                        have kK := kKN
                        have xr2 := xr2N
                        have kr2 := kr2N
                        have kM := kMN
                        have xr3 := xr3N
                        have kr3 := kr3N
                        have kA := kAN
                        have BB := BBN
                        clear QBN XBN ZBN xrN krN kKN xr2N kr2N kMN xr3N kr3N kAN BBN
                        clear hb
                        rw [hky]
                        go_wp2
                        go_ret
                        exact ⟨rfl, BB⟩
                  · obtain ⟨p91, hp91⟩ : ∃ v, (w11.drew).alloc (.cells #[.slice none 0 0, .slice none 0 0] 27) = v := ⟨_, rfl⟩
                    obtain ⟨g3, hg3⟩ : ∃ g, (w11.drew).heap.size = g := ⟨_, rfl⟩
                    have hC : Below (w11.drew).heap.size (w11.drew) p91 := by rw [← hp91]; exact (Below.refl _ _).alloc (Nat.le_refl _) _
                    have YB : Blk g3 [.slice none 0 0, .slice none 0 0] p91 := by rw [← hp91, ← hg3]; exact Blk.new _ _ _
                    go_simp
                    (try rw [hp91]); (try rw [hg3])
                    refine hK.out _ _ (QB.later hC QB.lt) (fun hHeld2 => ?_)
                    clear hK K2 hHeld
                    have hHeld := hHeld2
                    clear hHeld2
                    try simp only [Act.put, List.setIfInBounds_toArray, List.set_cons_zero, List.set_cons_succ]
                    try rw [hp91]
                    try rw [hg3]
                    clear hp91
                    refine wpAnyH_ready (rs := [5]) (by kernel_rfl) (by simp) ?_
                    refine AllReadyH.cons (i := 5) rfl (fun K2 hK => ?_) AllReadyH.nil
                    have HL := impl_learnKey a1 b1 c1 d1 xs ks x _ (RowAt.later xr hC) (RowAt.later kr hC) lx2 lk2 hc1 hs2
                    unfold lrkT lrkK at HL
                    rw [if_pos h0, if_pos h0] at HL
                    go_simp
                    refine HL.mono ?_
                    clear HL
                    rintro en p92 ⟨v3, rfl, KV, hb5⟩
                    obtain ⟨a3, b3, c3, d3, rfl, xr3, kr3, hc3, na3, nb3⟩ := keep_far KV (by have := YB.lt; omega : g3 < _)
                    clear KV
                    have hCN := hC.trans (hb5.mono hC.size)
                    have YBN := YB.later hb5 YB.lt
                    clear hC YB hb5
                    have hC := hCN
                    have YB := YBN
                    clear hCN YBN
                    go_wp2_with fail
                    refine hK.out _ _ (QB.later hC QB.lt) (fun hHeld2 => ?_)
                    clear hK K2 hHeld
                    have hHeld := hHeld2
                    clear hHeld2
                    try simp only [Act.put, List.setIfInBounds_toArray, List.set_cons_zero, List.set_cons_succ]
                    refine wpAnyH_ready (rs := [7]) (by kernel_rfl) (by simp) ?_
                    refine AllReadyH.cons (i := 7) rfl (fun K2 hK => ?_) AllReadyH.nil
                    obtain ⟨FF, hFF⟩ : ∃ v, (p92.setCell ⟨g3, 0, none⟩ (.slice a3 xs.length c3)).setCell ⟨g3, 1, none⟩ (.slice b3 (putK ks x).length d3) = v := ⟨_, rfl⟩
                    have hF : Below (w11.drew).heap.size (w11.drew) FF := by rw [← hFF]; exact (hC.setCell (by rw [hg3]; exact Nat.le_refl _) _).setCell (by rw [hg3]; exact Nat.le_refl _) _
                    have ZB : Blk g3 [.slice a3 xs.length c3, .slice b3 (putK ks x).length d3] FF := by rw [← hFF]; exact (YB.set 0 (.slice a3 xs.length c3)).set 1 (.slice b3 (putK ks x).length d3)
                    have y0 := YB.at 0 rfl
                    have q0 := YB.fz 0 rfl
                    have y1 := YB.at 1 rfl
                    have q1 := YB.fz 1 rfl
                    have xr3N : RowAt Value.string FF a3 xs := by rw [← hFF]; exact (xr3.put na3 0 _).put na3 1 _
                    have kr3N : RowAt (Value.int .i64) FF b3 (putK ks x) := by rw [← hFF]; exact (kr3.put nb3 0 _).put nb3 1 _
                    clear xr3 kr3 na3 nb3
                    have xr3 := xr3N
                    have kr3 := kr3N
                    clear xr3N kr3N
                    go_simp
                    try rw [hFF]
                    clear y0 y1 q0 q1 YB hC
                    have QBN := QB.later hF QB.lt
                    have XBN := XB.later hF XB.lt
                    have xrN := RowAt.later xr hF
                    have krN := RowAt.later kr hF
                    have kKN := RowAt.later kK hF
                    have xr2N := RowAt.later xr2 hF
                    have kr2N := RowAt.later kr2 hF
                    have kMN := RowAt.later kM hF
                    have BBN := BB.trans (hF.mono BB.size)
                    clear QB XB xr kr kK xr2 kr2 kM BB
                    have QB := QBN
                    have XB := XBN
                    have xr := xrN
                    have kr := krN
                    have kK := kKN
                    have xr2 := xr2N
                    have kr2 := kr2N
                    have kM := kMN
                    have BB := BBN
                    clear QBN XBN xrN krN kKN xr2N kr2N kMN BBN
                    clear hF
                    refine hK.out _ _ QB (fun hHeld2 => ?_)
                    clear hK K2 hHeld
                    have hHeld := hHeld2
                    clear hHeld2
                    try simp only [Act.put, List.setIfInBounds_toArray, List.set_cons_zero, List.set_cons_succ]
                    refine wpAnyH_done (by kernel_rfl) ?_ _
                    clear hHeld hFF hg3
                    have hky := putK_ok h0 x
                    have lk3 : (putK ks x).length ≤ 1048576 := by have := (kOk_len hky).2; omega
                    have u0 := ZB.at 0 rfl
                    have u1 := ZB.at 1 rfl
                    have HX := impl_reach a3 b3 c3 d3 xs (putK ks x) FF xr3 kr3 lx2 lk3 hc3 hs2
                    go_wp2_with fail
                    refine HX.mono ?_
                    clear HX u0 u1
                    rintro en w93 ⟨eA, fA, A, rfl, OK, HA, hb⟩
                    have QBN := QB.later hb QB.lt
                    have XBN := XB.later hb XB.lt
                    have ZBN := ZB.later hb ZB.lt
                    have xrN := RowAt.later xr hb
                    have krN := RowAt.later kr hb
                    have kKN := RowAt.later kK hb
                    have xr2N := RowAt.later xr2 hb
                    have kr2N := RowAt.later kr2 hb
                    have kMN := RowAt.later kM hb
                    have xr3N := RowAt.later xr3 hb
                    have kr3N := RowAt.later kr3 hb
                    have BBN := BB.trans (hb.mono BB.size)
                    clear QB XB ZB xr kr kK xr2 kr2 kM xr3 kr3 BB
                    have QB := QBN
                    have XB := XBN
                    have ZB := ZBN
                    have xr := xrN
                    have kr := krN
                    have kK := kKN
                    have xr2 := xr2N
                    have kr2 := kr2N
                    have kM := kMN
                    have xr3 := xr3N
                    have kr3 := kr3N
                    have BB := BBN
                    clear QBN XBN ZBN xrN krN kKN xr2N kr2N kMN xr3N kr3N BBN
                    clear hb
                    have kA := own_rowAt (f := Value.int .i64) OK
                    clear OK
                    have lA : A.length ≤ 1048576 := keys_len hky HA.out
                    have HS4 : Hid (∀ k, k ∈ K → hasB A k = true) := fun k hk => (hasB_iff _ _).2 ((HA.out.1 k).2 ⟨hky, reach_more (fun _ h => h) (fun _ h => putK_sub h) ((HK.out.1 k).1 hk).2⟩)
                    clear HA
                    go_wp2
                    go_loop [13] (fun i => ∃ m : Nat, i = .int .i64 (m : Int) ∧ m ≤ K.length) (fun i => K.length - (intOf i).toNat)
                    case atStart => exact ⟨0, rfl, by omega⟩
                    case round =>
                      obtain ⟨m, rfl, hm⟩ := hrel
                      by_cases hlt : m < K.length
                      · have hmi : ((m : Int) < (K.length : Int)) := by omega
                        obtain ⟨bb, oo, ee, ll, cc⟩ := kK m hlt
                        have hh := HS4.out _ (List.getElem_mem hlt)
                        generalize K[m] = z at cc hh
                        subst ee
                        have HX0 := has_is eA fA A z w93 kA lA
                        rw [hh] at HX0
                        go_wp2_with fail
                        refine HX0.mono ?_
                        clear HX0
                        rintro en wx ⟨rfl, rfl⟩
                        go_wp2
                        go_round
                        case rel => exact ⟨m + 1, by go_num, by omega⟩
                        case measure => simp [intOf]; omega
                      · obtain rfl : m = K.length := by omega
                        have hmd : decide (((K.length : Nat) : Int) < (K.length : Int)) = false := by simp
                        have u0 := XB.at 0 rfl
                        have u1 := XB.at 1 rfl
                        have HX := spec_knownOk a2 b2 c2 d2 (putT xs t) ks w93 xr2 kr2 lx3 lk2 hc2 hs3
                        go_wp2_with fail
                        refine HX.mono ?_
                        clear HX u0 u1
                        rintro en w94 ⟨rfl, hb⟩
                        have QBN := QB.later hb QB.lt
                        have XBN := XB.later hb XB.lt
                        have ZBN := ZB.later hb ZB.lt
                        have xrN := RowAt.later xr hb
                        have krN := RowAt.later kr hb
                        have kKN := RowAt.later kK hb
                        have xr2N := RowAt.later xr2 hb
                        have kr2N := RowAt.later kr2 hb
                        have kMN := RowAt.later kM hb
                        have xr3N := RowAt.later xr3 hb
                        have kr3N := RowAt.later kr3 hb
                        have kAN := RowAt.later kA hb
                        have BBN := BB.trans (hb.mono BB.size)
                        clear QB XB ZB xr kr kK xr2 kr2 kM xr3 kr3 kA BB
                        have QB := QBN
                        have XB := XBN
                        have ZB := ZBN
                        have xr := xrN
                        have kr := krN
                        have kK := kKN
                        have xr2 := xr2N
                        have kr2 := kr2N
                        have kM := kMN
                        have xr3 := xr3N
                        have kr3 := kr3N
                        have kA := kAN
                        have BB := BBN
                        clear QBN XBN ZBN xrN krN kKN xr2N kr2N kMN xr3N kr3N kAN BBN
                        clear hb
                        rw [hkx]
                        have u0 := ZB.at 0 rfl
                        have u1 := ZB.at 1 rfl
                        have HX := spec_knownOk a3 b3 c3 d3 xs (putK ks x) w94 xr3 kr3 lx2 lk3 hc3 hs2
                        go_wp2_with fail
                        refine HX.mono ?_
                        clear HX u0 u1
                        rintro en w95 ⟨rfl, hb⟩
                        have QBN := QB.later hb QB.lt
                        have XBN := XB.later hb XB.lt
                        have ZBN := ZB.later hb ZB.lt
                        have xrN := RowAt.later xr hb
                        have krN := RowAt.later kr hb
                        have kKN := RowAt.later kK hb
                        have xr2N := RowAt.later xr2 hb
                        have kr2N := RowAt.later kr2 hb
                        have kMN := RowAt.later kM hb
                        have xr3N := RowAt.later xr3 hb
                        have kr3N := RowAt.later kr3 hb
                        have kAN := RowAt.later kA hb
                        have BBN := BB.trans (hb.mono BB.size)
                        clear QB XB ZB xr kr kK xr2 kr2 kM xr3 kr3 kA BB
                        have QB := QBN
                        have XB := XBN
                        have ZB := ZBN
                        have xr := xrN
                        have kr := krN
                        have kK := kKN
                        have xr2 := xr2N
                        have kr2 := kr2N
                        have kM := kMN
                        have xr3 := xr3N
                        have kr3 := kr3N
                        have kA := kAN
                        have BB := BBN
                        clear QBN XBN ZBN xrN krN kKN xr2N kr2N kMN xr3N kr3N kAN BBN
                        clear hb
                        rw [hky]
                        go_wp2
                        go_ret
                        exact ⟨rfl, BB⟩
                · obtain ⟨p91, hp91⟩ : ∃ v, (w11.drew).alloc (.cells #[.slice none 0 0, .slice none 0 0] 27) = v := ⟨_, rfl⟩
                  obtain ⟨g3, hg3⟩ : ∃ g, (w11.drew).heap.size = g := ⟨_, rfl⟩
                  have hC : Below (w11.drew).heap.size (w11.drew) p91 := by rw [← hp91]; exact (Below.refl _ _).alloc (Nat.le_refl _) _
                  have YB : Blk g3 [.slice none 0 0, .slice none 0 0] p91 := by rw [← hp91, ← hg3]; exact Blk.new _ _ _
                  go_simp
                  (try rw [hp91]); (try rw [hg3])
                  refine hK.out _ _ (QB.later hC QB.lt) (fun hHeld2 => ?_)
                  clear hK K2 hHeld
                  have hHeld := hHeld2
                  clear hHeld2
                  try simp only [Act.put, List.setIfInBounds_toArray, List.set_cons_zero, List.set_cons_succ]
                  try rw [hp91]
                  try rw [hg3]
                  clear hp91
                  refine wpAnyH_ready (rs := [2]) (by kernel_rfl) (by simp) ?_
                  refine AllReadyH.cons (i := 2) rfl (fun K2 hK => ?_) AllReadyH.nil
                  go_simp
                  refine (at_go ad len cap zs _ ((HZ.out.below (BB.trans (hC.mono BB.size))).lt (Nat.le_trans BB.size hC.size))).mono ?_
                  rintro en vv ⟨z, rfl, z0, z1, rfl⟩
                  go_wp2_with fail
                  refine hK.out _ _ (QB.later hC QB.lt) (fun hHeld2 => ?_)
                  clear hK K2 hHeld
                  have hHeld := hHeld2
                  clear hHeld2
                  try simp only [Act.put, List.setIfInBounds_toArray, List.set_cons_zero, List.set_cons_succ]
                  obtain ⟨x, hx⟩ : ∃ x : Int, x = 1 + z % 6 := ⟨_, rfl⟩
                  refine take_one 3 98 (v := .int .i64 (z % 6)) rfl rfl (by kernel_rfl) (by kernel_rfl) (by kernel_rfl) (fun _ _ _ h => h) (Or.inl ⟨by rfl, ?_⟩) hHeld ?_
                  · intro w' hSw; (try dsimp only at hSw); go_simp; all_goals (rw [Int.tmod_eq_emod_of_nonneg z0])
                  try simp only [Act.put, List.setIfInBounds_toArray, List.set_cons_zero, List.set_cons_succ]
                  refine take_one 4 99 (v := .int .i64 x) rfl rfl (by kernel_rfl) (by kernel_rfl) (by kernel_rfl) (fun _ _ _ h => h) (Or.inl ⟨by rfl, ?_⟩) hHeld ?_
                  · intro w' hSw; (try dsimp only at hSw); go_simp; all_goals (subst hx; rw [IntKind.wrap_i64]; omega)
                  try simp only [Act.put, List.setIfInBounds_toArray, List.set_cons_zero, List.set_cons_succ]
                  clear hx z0 z1
                  refine wpAnyH_ready (rs := [5]) (by kernel_rfl) (by simp) ?_
                  refine AllReadyH.cons (i := 5) rfl (fun K2 hK => ?_) AllReadyH.nil
                  have HL := impl_learnKey a1 b1 c1 d1 xs ks x _ (RowAt.later xr hC) (RowAt.later kr hC) lx2 lk2 hc1 hs2
                  unfold lrkT lrkK at HL
                  rw [if_pos h0, if_pos h0] at HL
                  go_simp
                  refine HL.mono ?_
                  clear HL
                  rintro en p92 ⟨v3, rfl, KV, hb5⟩
                  obtain ⟨a3, b3, c3, d3, rfl, xr3, kr3, hc3, na3, nb3⟩ := keep_far KV (by have := YB.lt; omega : g3 < _)
                  clear KV
                  have hCN := hC.trans (hb5.mono hC.size)
                  have YBN := YB.later hb5 YB.lt
                  clear hC YB hb5
                  have hC := hCN
                  have YB := YBN
                  clear hCN YBN
                  go_wp2_with fail
                  refine hK.out _ _ (QB.later hC QB.lt) (fun hHeld2 => ?_)
                  clear hK K2 hHeld
                  have hHeld := hHeld2
                  clear hHeld2
                  try simp only [Act.put, List.setIfInBounds_toArray, List.set_cons_zero, List.set_cons_succ]
                  refine wpAnyH_ready (rs := [7]) (by kernel_rfl) (by simp) ?_
                  refine AllReadyH.cons (i := 7) rfl (fun K2 hK => ?_) AllReadyH.nil
                  obtain ⟨FF, hFF⟩ : ∃ v, (p92.setCell ⟨g3, 0, none⟩ (.slice a3 xs.length c3)).setCell ⟨g3, 1, none⟩ (.slice b3 (putK ks x).length d3) = v := ⟨_, rfl⟩
                  have hF : Below (w11.drew).heap.size (w11.drew) FF := by rw [← hFF]; exact (hC.setCell (by rw [hg3]; exact Nat.le_refl _) _).setCell (by rw [hg3]; exact Nat.le_refl _) _
                  have ZB : Blk g3 [.slice a3 xs.length c3, .slice b3 (putK ks x).length d3] FF := by rw [← hFF]; exact (YB.set 0 (.slice a3 xs.length c3)).set 1 (.slice b3 (putK ks x).length d3)
                  have y0 := YB.at 0 rfl
                  have q0 := YB.fz 0 rfl
                  have y1 := YB.at 1 rfl
                  have q1 := YB.fz 1 rfl
                  have xr3N : RowAt Value.string FF a3 xs := by rw [← hFF]; exact (xr3.put na3 0 _).put na3 1 _
                  have kr3N : RowAt (Value.int .i64) FF b3 (putK ks x) := by rw [← hFF]; exact (kr3.put nb3 0 _).put nb3 1 _
                  clear xr3 kr3 na3 nb3
                  have xr3 := xr3N
                  have kr3 := kr3N
                  clear xr3N kr3N
                  go_simp
                  try rw [hFF]
                  clear y0 y1 q0 q1 YB hC
                  have QBN := QB.later hF QB.lt
                  have XBN := XB.later hF XB.lt
                  have xrN := RowAt.later xr hF
                  have krN := RowAt.later kr hF
                  have kKN := RowAt.later kK hF
                  have xr2N := RowAt.later xr2 hF
                  have kr2N := RowAt.later kr2 hF
                  have kMN := RowAt.later kM hF
                  have BBN := BB.trans (hF.mono BB.size)
                  clear QB XB xr kr kK xr2 kr2 kM BB
                  have QB := QBN
                  have XB := XBN
                  have xr := xrN
                  have kr := krN
                  have kK := kKN
                  have xr2 := xr2N
                  have kr2 := kr2N
                  have kM := kMN
                  have BB := BBN
                  clear QBN XBN xrN krN kKN xr2N kr2N kMN BBN
                  clear hF
                  refine hK.out _ _ QB (fun hHeld2 => ?_)
                  clear hK K2 hHeld
                  have hHeld := hHeld2
                  clear hHeld2
                  try simp only [Act.put, List.setIfInBounds_toArray, List.set_cons_zero, List.set_cons_succ]
                  refine wpAnyH_done (by kernel_rfl) ?_ _
                  clear hHeld hFF hg3
                  have hky := putK_ok h0 x
                  have lk3 : (putK ks x).length ≤ 1048576 := by have := (kOk_len hky).2; omega
                  have u0 := ZB.at 0 rfl
                  have u1 := ZB.at 1 rfl
                  have HX := impl_reach a3 b3 c3 d3 xs (putK ks x) FF xr3 kr3 lx2 lk3 hc3 hs2
                  go_wp2_with fail
                  refine HX.mono ?_
                  clear HX u0 u1
                  rintro en w93 ⟨eA, fA, A, rfl, OK, HA, hb⟩
                  have QBN := QB.later hb QB.lt
                  have XBN := XB.later hb XB.lt
                  have ZBN := ZB.later hb ZB.lt
                  have xrN := RowAt.later xr hb
                  have krN := RowAt.later kr hb
                  have kKN := RowAt.later kK hb
                  have xr2N := RowAt.later xr2 hb
                  have kr2N := RowAt.later kr2 hb
                  have kMN := RowAt.later kM hb
                  have xr3N := RowAt.later xr3 hb
                  have kr3N := RowAt.later kr3 hb
                  have BBN := BB.trans (hb.mono BB.size)
                  clear QB XB ZB xr kr kK xr2 kr2 kM xr3 kr3 BB
                  have QB := QBN
                  have XB := XBN
                  have ZB := ZBN
                  have xr := xrN
                  have kr := krN
                  have kK := kKN
                  have xr2 := xr2N
                  have kr2 := kr2N
                  have kM := kMN
                  have xr3 := xr3N
                  have kr3 := kr3N
                  have BB := BBN
                  clear QBN XBN ZBN xrN krN kKN xr2N kr2N kMN xr3N kr3N BBN
                  clear hb
                  have kA := own_rowAt (f := Value.int .i64) OK
                  clear OK
                  have lA : A.length ≤ 1048576 := keys_len hky HA.out
                  have HS4 : Hid (∀ k, k ∈ K → hasB A k = true) := fun k hk => (hasB_iff _ _).2 ((HA.out.1 k).2 ⟨hky, reach_more (fun _ h => h) (fun _ h => putK_sub h) ((HK.out.1 k).1 hk).2⟩)
                  clear HA
                  go_wp2
                  go_loop [13] (fun i => ∃ m : Nat, i = .int .i64 (m : Int) ∧ m ≤ K.length) (fun i => K.length - (intOf i).toNat)
                  case atStart => exact ⟨0, rfl, by omega⟩
                  case round =>
                    obtain ⟨m, rfl, hm⟩ := hrel
                    by_cases hlt : m < K.length
                    · have hmi : ((m : Int) < (K.length : Int)) := by omega
                      obtain ⟨bb, oo, ee, ll, cc⟩ := kK m hlt
                      have hh := HS4.out _ (List.getElem_mem hlt)
                      generalize K[m] = z at cc hh
                      subst ee
                      have HX0 := has_is eA fA A z w93 kA lA
                      rw [hh] at HX0
                      go_wp2_with fail
                      refine HX0.mono ?_
                      clear HX0
                      rintro en wx ⟨rfl, rfl⟩
                      go_wp2
                      go_round
                      case rel => exact ⟨m + 1, by go_num, by omega⟩
                      case measure => simp [intOf]; omega
                    · obtain rfl : m = K.length := by omega
                      have hmd : decide (((K.length : Nat) : Int) < (K.length : Int)) = false := by simp
                      have u0 := XB.at 0 rfl
                      have u1 := XB.at 1 rfl
                      have HX := spec_knownOk a2 b2 c2 d2 (putT xs t) ks w93 xr2 kr2 lx3 lk2 hc2 hs3
                      go_wp2_with fail
                      refine HX.mono ?_
                      clear HX u0 u1
                      rintro en w94 ⟨rfl, hb⟩
                      have QBN := QB.later hb QB.lt
                      have XBN := XB.later hb XB.lt
                      have ZBN := ZB.later hb ZB.lt
                      have xrN := RowAt.later xr hb
                      have krN := RowAt.later kr hb
                      have kKN := RowAt.later kK hb
                      have xr2N := RowAt.later xr2 hb
                      have kr2N := RowAt.later kr2 hb
                      have kMN := RowAt.later kM hb
                      have xr3N := RowAt.later xr3 hb
                      have kr3N := RowAt.later kr3 hb
                      have kAN := RowAt.later kA hb
                      have BBN := BB.trans (hb.mono BB.size)
                      clear QB XB ZB xr kr kK xr2 kr2 kM xr3 kr3 kA BB
                      have QB := QBN
                      have XB := XBN
                      have ZB := ZBN
                      have xr := xrN
                      have kr := krN
                      have kK := kKN
                      have xr2 := xr2N
                      have kr2 := kr2N
                      have kM := kMN
                      have xr3 := xr3N
                      have kr3 := kr3N
                      have kA := kAN
                      have BB := BBN
                      clear QBN XBN ZBN xrN krN kKN xr2N kr2N kMN xr3N kr3N kAN BBN
                      clear hb
                      rw [hkx]
                      have u0 := ZB.at 0 rfl
                      have u1 := ZB.at 1 rfl
                      have HX := spec_knownOk a3 b3 c3 d3 xs (putK ks x) w94 xr3 kr3 lx2 lk3 hc3 hs2
                      go_wp2_with fail
                      refine HX.mono ?_
                      clear HX u0 u1
                      rintro en w95 ⟨rfl, hb⟩
                      have QBN := QB.later hb QB.lt
                      have XBN := XB.later hb XB.lt
                      have ZBN := ZB.later hb ZB.lt
                      have xrN := RowAt.later xr hb
                      have krN := RowAt.later kr hb
                      have kKN := RowAt.later kK hb
                      have xr2N := RowAt.later xr2 hb
                      have kr2N := RowAt.later kr2 hb
                      have kMN := RowAt.later kM hb
                      have xr3N := RowAt.later xr3 hb
                      have kr3N := RowAt.later kr3 hb
                      have kAN := RowAt.later kA hb
                      have BBN := BB.trans (hb.mono BB.size)
                      clear QB XB ZB xr kr kK xr2 kr2 kM xr3 kr3 kA BB
                      have QB := QBN
                      have XB := XBN
                      have ZB := ZBN
                      have xr := xrN
                      have kr := krN
                      have kK := kKN
                      have xr2 := xr2N
                      have kr2 := kr2N
                      have kM := kMN
                      have xr3 := xr3N
                      have kr3 := kr3N
                      have kA := kAN
                      have BB := BBN
                      clear QBN XBN ZBN xrN krN kKN xr2N kr2N kMN xr3N kr3N kAN BBN
                      clear hb
                      rw [hky]
                      go_wp2
                      go_ret
                      exact ⟨rfl, BB⟩
              | false =>
                have HX := same_is eK eM fK fM K w10 kK kM lK
                go_wp2_with fail
                refine HX.mono ?_
                clear HX
                rintro en w11 ⟨rfl, hb⟩
                have QBN := QB.later hb QB.lt
                have XBN := XB.later hb XB.lt
                have xrN := RowAt.later xr hb
                have krN := RowAt.later kr hb
                have kKN := RowAt.later kK hb
                have xr2N := RowAt.later xr2 hb
                have kr2N := RowAt.later kr2 hb
                have kMN := RowAt.later kM hb
                have BBN := BB.trans (hb.mono BB.size)
                clear QB XB xr kr kK xr2 kr2 kM BB
                have QB := QBN
                have XB := XBN
                have xr := xrN
                have kr := krN
                have kK := kKN
                have xr2 := xr2N
                have kr2 := kr2N
                have kM := kMN
                have BB := BBN
                clear QBN XBN xrN krN kKN xr2N kr2N kMN BBN
                clear hb
                have QBD := QB.drew
                have XBD := XB.drew
                have BBD := BB.drew
                have xrD : RowAt _ w11.drew _ _ := xr
                have krD : RowAt _ w11.drew _ _ := kr
                have kKD : RowAt _ w11.drew _ _ := kK
                have xr2D : RowAt _ w11.drew _ _ := xr2
                have kr2D : RowAt _ w11.drew _ _ := kr2
                have kMD : RowAt _ w11.drew _ _ := kM
                clear QB XB BB xr kr kK xr2 kr2 kM
                have QB := QBD
                have XB := XBD
                have BB := BBD
                have xr := xrD
                have kr := krD
                have kK := kKD
                have xr2 := xr2D
                have kr2 := kr2D
                have kM := kMD
                clear QBD XBD BBD xrD krD kKD xr2D kr2D kMD
                go_wp2_with fail
                refine wp_region_held_drew (S := (fun Vw => Blk w1.heap.size [.slice a1 xs.length c1, .slice b1 ks.length d1] Vw)) (by kernel_rfl) QB (fun hHeld => ?_)
                refine take_one 0 95 (v := ?_) rfl rfl (by kernel_rfl) (by kernel_rfl) (by kernel_rfl) (fun _ _ _ h => h) (Or.inl ⟨by rfl, ?_⟩) hHeld ?_
                rotate_left
                · intro w' hSw; (try dsimp only at hSw); have u0 := hSw.at 0 rfl; have u1 := hSw.at 1 rfl; go_simp; try with_reducible rfl
                try simp only [Act.put, List.setIfInBounds_toArray, List.set_cons_zero, List.set_cons_succ]
                refine take_one 1 96 (v := ?_) rfl rfl (by kernel_rfl) (by kernel_rfl) (by kernel_rfl) (fun _ _ _ h => h) (Or.inl ⟨by rfl, ?_⟩) hHeld ?_
                rotate_left
                · intro w' hSw; (try dsimp only at hSw); have u0 := hSw.at 0 rfl; have u1 := hSw.at 1 rfl; go_simp; try with_reducible rfl
                try simp only [Act.put, List.setIfInBounds_toArray, List.set_cons_zero, List.set_cons_succ]
                refine wpAnyH_ready (rs := [2, 6]) (by kernel_rfl) (by simp) ?_
                refine AllReadyH.cons (i := 2) rfl (fun K2 hK => ?_) (AllReadyH.cons (i := 6) rfl (fun K2 hK => ?_) AllReadyH.nil)
                · go_simp
                  refine (at_go ad len cap zs _ ((HZ.out.below BB).lt BB.size)).mono ?_
                  rintro en vv ⟨z, rfl, z0, z1, rfl⟩
                  go_wp2_with fail
                  refine hK.out _ _ QB (fun hHeld2 => ?_)
                  clear hK K2 hHeld
                  have hHeld := hHeld2
                  clear hHeld2
                  try simp only [Act.put, List.setIfInBounds_toArray, List.set_cons_zero, List.set_cons_succ]
                  obtain ⟨x, hx⟩ : ∃ x : Int, x = 1 + z % 6 := ⟨_, rfl⟩
                  refine take_one 3 98 (v := .int .i64 (z % 6)) rfl rfl (by kernel_rfl) (by kernel_rfl) (by kernel_rfl) (fun _ _ _ h => h) (Or.inl ⟨by rfl, ?_⟩) hHeld ?_
                  · intro w' hSw; (try dsimp only at hSw); go_simp; all_goals (rw [Int.tmod_eq_emod_of_nonneg z0])
                  try simp only [Act.put, List.setIfInBounds_toArray, List.set_cons_zero, List.set_cons_succ]
                  refine take_one 4 99 (v := .int .i64 x) rfl rfl (by kernel_rfl) (by kernel_rfl) (by kernel_rfl) (fun _ _ _ h => h) (Or.inl ⟨by rfl, ?_⟩) hHeld ?_
                  · intro w' hSw; (try dsimp only at hSw); go_simp; all_goals (subst hx; rw [IntKind.wrap_i64]; omega)
                  try simp only [Act.put, List.setIfInBounds_toArray, List.set_cons_zero, List.set_cons_succ]
                  clear hx z0 z1
                  refine wpAnyH_ready (rs := [5, 6]) (by kernel_rfl) (by simp) ?_
                  refine AllReadyH.cons (i := 5) rfl (fun K2 hK => ?_) (AllReadyH.cons (i := 6) rfl (fun K2 hK => ?_) AllReadyH.nil)
                  · have HL := impl_learnKey a1 b1 c1 d1 xs ks x _ xr kr lx2 lk2 hc1 hs2
                    unfold lrkT lrkK at HL
                    rw [if_pos h0, if_pos h0] at HL
                    go_simp
                    refine HL.mono ?_
                    clear HL
                    rintro en p91 ⟨v3, rfl, KV, hb5⟩
                    have QBN := QB.later hb5 QB.lt
                    have XBN := XB.later hb5 XB.lt
                    have xrN := RowAt.later xr hb5
                    have krN := RowAt.later kr hb5
                    have kKN := RowAt.later kK hb5
                    have xr2N := RowAt.later xr2 hb5
                    have kr2N := RowAt.later kr2 hb5
                    have kMN := RowAt.later kM hb5
                    have BBN := BB.trans (hb5.mono BB.size)
                    clear QB XB xr kr kK xr2 kr2 kM BB
                    have QB := QBN
                    have XB := XBN
                    have xr := xrN
                    have kr := krN
                    have kK := kKN
                    have xr2 := xr2N
                    have kr2 := kr2N
                    have kM := kMN
                    have BB := BBN
                    clear QBN XBN xrN krN kKN xr2N kr2N kMN BBN
                    clear hb5
                    obtain ⟨a3, b3, c3, d3, rfl, xr3, kr3, hc3⟩ := keep_rows KV
                    clear KV
                    go_wp2_with fail
                    refine hK.out _ _ QB (fun hHeld2 => ?_)
                    clear hK K2 hHeld
                    have hHeld := hHeld2
                    clear hHeld2
                    try simp only [Act.put, List.setIfInBounds_toArray, List.set_cons_zero, List.set_cons_succ]
                    refine wpAnyH_ready (rs := [6]) (by kernel_rfl) (by simp) ?_
                    refine AllReadyH.cons (i := 6) rfl (fun K2 hK => ?_) AllReadyH.nil
                    obtain ⟨p92, hp92⟩ : ∃ v, (p91).alloc (.cells #[.slice none 0 0, .slice none 0 0] 27) = v := ⟨_, rfl⟩
                    obtain ⟨g3, hg3⟩ : ∃ g, (p91).heap.size = g := ⟨_, rfl⟩
                    have hC : Below (p91).heap.size (p91) p92 := by rw [← hp92]; exact (Below.refl _ _).alloc (Nat.le_refl _) _
                    have YB : Blk g3 [.slice none 0 0, .slice none 0 0] p92 := by rw [← hp92, ← hg3]; exact Blk.new _ _ _
                    go_simp
                    (try rw [hp92]); (try rw [hg3])
                    refine hK.out _ _ (QB.later hC QB.lt) (fun hHeld2 => ?_)
                    clear hK K2 hHeld
                    have hHeld := hHeld2
                    clear hHeld2
                    try simp only [Act.put, List.setIfInBounds_toArray, List.set_cons_zero, List.set_cons_succ]
                    try rw [hp92]
                    try rw [hg3]
                    clear hp92
                    refine wpAnyH_ready (rs := [7]) (by kernel_rfl) (by simp) ?_
                    refine AllReadyH.cons (i := 7) rfl (fun K2 hK => ?_) AllReadyH.nil
                    obtain ⟨FF, hFF⟩ : ∃ v, (p92.setCell ⟨g3, 0, none⟩ (.slice a3 xs.length c3)).setCell ⟨g3, 1, none⟩ (.slice b3 (putK ks x).length d3) = v := ⟨_, rfl⟩
                    have hF : Below (p91).heap.size (p91) FF := by rw [← hFF]; exact (hC.setCell (by rw [hg3]; exact Nat.le_refl _) _).setCell (by rw [hg3]; exact Nat.le_refl _) _
                    have ZB : Blk g3 [.slice a3 xs.length c3, .slice b3 (putK ks x).length d3] FF := by rw [← hFF]; exact (YB.set 0 (.slice a3 xs.length c3)).set 1 (.slice b3 (putK ks x).length d3)
                    have y0 := YB.at 0 rfl
                    have q0 := YB.fz 0 rfl
                    have y1 := YB.at 1 rfl
                    have q1 := YB.fz 1 rfl
                    go_simp
                    try rw [hFF]
                    clear y0 y1 q0 q1 YB hC
                    have QBN := QB.later hF QB.lt
                    have XBN := XB.later hF XB.lt
                    have xrN := RowAt.later xr hF
                    have krN := RowAt.later kr hF
                    have kKN := RowAt.later kK hF
                    have xr2N := RowAt.later xr2 hF
                    have kr2N := RowAt.later kr2 hF
                    have kMN := RowAt.later kM hF
                    have xr3N := RowAt.later xr3 hF
                    have kr3N := RowAt.later kr3 hF
                    have BBN := BB.trans (hF.mono BB.size)
                    clear QB XB xr kr kK xr2 kr2 kM xr3 kr3 BB
                    have QB := QBN
                    have XB := XBN
                    have xr := xrN
                    have kr := krN
                    have kK := kKN
                    have xr2 := xr2N
                    have kr2 := kr2N
                    have kM := kMN
                    have xr3 := xr3N
                    have kr3 := kr3N
                    have BB := BBN
                    clear QBN XBN xrN krN kKN xr2N kr2N kMN xr3N kr3N BBN
                    clear hF
                    refine hK.out _ _ QB (fun hHeld2 => ?_)
                    clear hK K2 hHeld
                    have hHeld := hHeld2
                    clear hHeld2
                    try simp only [Act.put, List.setIfInBounds_toArray, List.set_cons_zero, List.set_cons_succ]
                    refine wpAnyH_done (by kernel_rfl) ?_ _
                    clear hHeld hFF hg3
                    have hky := putK_ok h0 x
                    have lk3 : (putK ks x).length ≤ 1048576 := by have := (kOk_len hky).2; omega
                    have u0 := ZB.at 0 rfl
                    have u1 := ZB.at 1 rfl
                    have HX := impl_reach a3 b3 c3 d3 xs (putK ks x) FF xr3 kr3 lx2 lk3 hc3 hs2
                    go_wp2_with fail
                    refine HX.mono ?_
                    clear HX u0 u1
                    rintro en w93 ⟨eA, fA, A, rfl, OK, HA, hb⟩
                    have QBN := QB.later hb QB.lt
                    have XBN := XB.later hb XB.lt
                    have ZBN := ZB.later hb ZB.lt
                    have xrN := RowAt.later xr hb
                    have krN := RowAt.later kr hb
                    have kKN := RowAt.later kK hb
                    have xr2N := RowAt.later xr2 hb
                    have kr2N := RowAt.later kr2 hb
                    have kMN := RowAt.later kM hb
                    have xr3N := RowAt.later xr3 hb
                    have kr3N := RowAt.later kr3 hb
                    have BBN := BB.trans (hb.mono BB.size)
                    clear QB XB ZB xr kr kK xr2 kr2 kM xr3 kr3 BB
                    have QB := QBN
                    have XB := XBN
                    have ZB := ZBN
                    have xr := xrN
                    have kr := krN
                    have kK := kKN
                    have xr2 := xr2N
                    have kr2 := kr2N
                    have kM := kMN
                    have xr3 := xr3N
                    have kr3 := kr3N
                    have BB := BBN
                    clear QBN XBN ZBN xrN krN kKN xr2N kr2N kMN xr3N kr3N BBN
                    clear hb
                    have kA := own_rowAt (f := Value.int .i64) OK
                    clear OK
                    have lA : A.length ≤ 1048576 := keys_len hky HA.out
                    have HS4 : Hid (∀ k, k ∈ K → hasB A k = true) := fun k hk => (hasB_iff _ _).2 ((HA.out.1 k).2 ⟨hky, reach_more (fun _ h => h) (fun _ h => putK_sub h) ((HK.out.1 k).1 hk).2⟩)
                    clear HA
                    go_wp2
                    go_loop [13] (fun i => ∃ m : Nat, i = .int .i64 (m : Int) ∧ m ≤ K.length) (fun i => K.length - (intOf i).toNat)
                    case atStart => exact ⟨0, rfl, by omega⟩
                    case round =>
                      obtain ⟨m, rfl, hm⟩ := hrel
                      by_cases hlt : m < K.length
                      · have hmi : ((m : Int) < (K.length : Int)) := by omega
                        obtain ⟨bb, oo, ee, ll, cc⟩ := kK m hlt
                        have hh := HS4.out _ (List.getElem_mem hlt)
                        generalize K[m] = z at cc hh
                        subst ee
                        have HX0 := has_is eA fA A z w93 kA lA
                        rw [hh] at HX0
                        go_wp2_with fail
                        refine HX0.mono ?_
                        clear HX0
                        rintro en wx ⟨rfl, rfl⟩
                        go_wp2
                        go_round
                        case rel => exact ⟨m + 1, by go_num, by omega⟩
                        case measure => simp [intOf]; omega
                      · obtain rfl : m = K.length := by omega
                        have hmd : decide (((K.length : Nat) : Int) < (K.length : Int)) = false := by simp
                        have u0 := XB.at 0 rfl
                        have u1 := XB.at 1 rfl
                        have HX := spec_knownOk a2 b2 c2 d2 (putT xs t) ks w93 xr2 kr2 lx3 lk2 hc2 hs3
                        go_wp2_with fail
                        refine HX.mono ?_
                        clear HX u0 u1
                        rintro en w94 ⟨rfl, hb⟩
                        have QBN := QB.later hb QB.lt
                        have XBN := XB.later hb XB.lt
                        have ZBN := ZB.later hb ZB.lt
                        have xrN := RowAt.later xr hb
                        have krN := RowAt.later kr hb
                        have kKN := RowAt.later kK hb
                        have xr2N := RowAt.later xr2 hb
                        have kr2N := RowAt.later kr2 hb
                        have kMN := RowAt.later kM hb
                        have xr3N := RowAt.later xr3 hb
                        have kr3N := RowAt.later kr3 hb
                        have kAN := RowAt.later kA hb
                        have BBN := BB.trans (hb.mono BB.size)
                        clear QB XB ZB xr kr kK xr2 kr2 kM xr3 kr3 kA BB
                        have QB := QBN
                        have XB := XBN
                        have ZB := ZBN
                        have xr := xrN
                        have kr := krN
                        have kK := kKN
                        have xr2 := xr2N
                        have kr2 := kr2N
                        have kM := kMN
                        have xr3 := xr3N
                        have kr3 := kr3N
                        have kA := kAN
                        have BB := BBN
                        clear QBN XBN ZBN xrN krN kKN xr2N kr2N kMN xr3N kr3N kAN BBN
                        clear hb
                        rw [hkx]
                        have u0 := ZB.at 0 rfl
                        have u1 := ZB.at 1 rfl
                        have HX := spec_knownOk a3 b3 c3 d3 xs (putK ks x) w94 xr3 kr3 lx2 lk3 hc3 hs2
                        go_wp2_with fail
                        refine HX.mono ?_
                        clear HX u0 u1
                        rintro en w95 ⟨rfl, hb⟩
                        have QBN := QB.later hb QB.lt
                        have XBN := XB.later hb XB.lt
                        have ZBN := ZB.later hb ZB.lt
                        have xrN := RowAt.later xr hb
                        have krN := RowAt.later kr hb
                        have kKN := RowAt.later kK hb
                        have xr2N := RowAt.later xr2 hb
                        have kr2N := RowAt.later kr2 hb
                        have kMN := RowAt.later kM hb
                        have xr3N := RowAt.later xr3 hb
                        have kr3N := RowAt.later kr3 hb
                        have kAN := RowAt.later kA hb
                        have BBN := BB.trans (hb.mono BB.size)
                        clear QB XB ZB xr kr kK xr2 kr2 kM xr3 kr3 kA BB
                        have QB := QBN
                        have XB := XBN
                        have ZB := ZBN
                        have xr := xrN
                        have kr := krN
                        have kK := kKN
                        have xr2 := xr2N
                        have kr2 := kr2N
                        have kM := kMN
                        have xr3 := xr3N
                        have kr3 := kr3N
                        have kA := kAN
                        have BB := BBN
                        clear QBN XBN ZBN xrN krN kKN xr2N kr2N kMN xr3N kr3N kAN BBN
                        clear hb
                        rw [hky]
                        go_wp2
                        go_ret
                        exact ⟨rfl, BB⟩
                  · obtain ⟨p91, hp91⟩ : ∃ v, (w11.drew).alloc (.cells #[.slice none 0 0, .slice none 0 0] 27) = v := ⟨_, rfl⟩
                    obtain ⟨g3, hg3⟩ : ∃ g, (w11.drew).heap.size = g := ⟨_, rfl⟩
                    have hC : Below (w11.drew).heap.size (w11.drew) p91 := by rw [← hp91]; exact (Below.refl _ _).alloc (Nat.le_refl _) _
                    have YB : Blk g3 [.slice none 0 0, .slice none 0 0] p91 := by rw [← hp91, ← hg3]; exact Blk.new _ _ _
                    go_simp
                    (try rw [hp91]); (try rw [hg3])
                    refine hK.out _ _ (QB.later hC QB.lt) (fun hHeld2 => ?_)
                    clear hK K2 hHeld
                    have hHeld := hHeld2
                    clear hHeld2
                    try simp only [Act.put, List.setIfInBounds_toArray, List.set_cons_zero, List.set_cons_succ]
                    try rw [hp91]
                    try rw [hg3]
                    clear hp91
                    refine wpAnyH_ready (rs := [5]) (by kernel_rfl) (by simp) ?_
                    refine AllReadyH.cons (i := 5) rfl (fun K2 hK => ?_) AllReadyH.nil
                    have HL := impl_learnKey a1 b1 c1 d1 xs ks x _ (RowAt.later xr hC) (RowAt.later kr hC) lx2 lk2 hc1 hs2
                    unfold lrkT lrkK at HL
                    rw [if_pos h0, if_pos h0] at HL
                    go_simp
                    refine HL.mono ?_
                    clear HL
                    rintro en p92 ⟨v3, rfl, KV, hb5⟩
                    obtain ⟨a3, b3, c3, d3, rfl, xr3, kr3, hc3, na3, nb3⟩ := keep_far KV (by have := YB.lt; omega : g3 < _)
                    clear KV
                    have hCN := hC.trans (hb5.mono hC.size)
                    have YBN := YB.later hb5 YB.lt
                    clear hC YB hb5
                    have hC := hCN
                    have YB := YBN
                    clear hCN YBN
                    go_wp2_with fail
                    refine hK.out _ _ (QB.later hC QB.lt) (fun hHeld2 => ?_)
                    clear hK K2 hHeld
                    have hHeld := hHeld2
                    clear hHeld2
                    try simp only [Act.put, List.setIfInBounds_toArray, List.set_cons_zero, List.set_cons_succ]
                    refine wpAnyH_ready (rs := [7]) (by kernel_rfl) (by simp) ?_
                    refine AllReadyH.cons (i := 7) rfl (fun K2 hK => ?_) AllReadyH.nil
                    obtain ⟨FF, hFF⟩ : ∃ v, (p92.setCell ⟨g3, 0, none⟩ (.slice a3 xs.length c3)).setCell ⟨g3, 1, none⟩ (.slice b3 (putK ks x).length d3) = v := ⟨_, rfl⟩
                    have hF : Below (w11.drew).heap.size (w11.drew) FF := by rw [← hFF]; exact (hC.setCell (by rw [hg3]; exact Nat.le_refl _) _).setCell (by rw [hg3]; exact Nat.le_refl _) _
                    have ZB : Blk g3 [.slice a3 xs.length c3, .slice b3 (putK ks x).length d3] FF := by rw [← hFF]; exact (YB.set 0 (.slice a3 xs.length c3)).set 1 (.slice b3 (putK ks x).length d3)
                    have y0 := YB.at 0 rfl
                    have q0 := YB.fz 0 rfl
                    have y1 := YB.at 1 rfl
                    have q1 := YB.fz 1 rfl
                    have xr3N : RowAt Value.string FF a3 xs := by rw [← hFF]; exact (xr3.put na3 0 _).put na3 1 _
                    have kr3N : RowAt (Value.int .i64) FF b3 (putK ks x) := by rw [← hFF]; exact (kr3.put nb3 0 _).put nb3 1 _
                    clear xr3 kr3 na3 nb3
                    have xr3 := xr3N
                    have kr3 := kr3N
                    clear xr3N kr3N
                    go_simp
                    try rw [hFF]
                    clear y0 y1 q0 q1 YB hC
                    have QBN := QB.later hF QB.lt
                    have XBN := XB.later hF XB.lt
                    have xrN := RowAt.later xr hF
                    have krN := RowAt.later kr hF
                    have kKN := RowAt.later kK hF
                    have xr2N := RowAt.later xr2 hF
                    have kr2N := RowAt.later kr2 hF
                    have kMN := RowAt.later kM hF
                    have BBN := BB.trans (hF.mono BB.size)
                    clear QB XB xr kr kK xr2 kr2 kM BB
                    have QB := QBN
                    have XB := XBN
                    have xr := xrN
                    have kr := krN
                    have kK := kKN
                    have xr2 := xr2N
                    have kr2 := kr2N
                    have kM := kMN
                    have BB := BBN
                    clear QBN XBN xrN krN kKN xr2N kr2N kMN BBN
                    clear hF
                    refine hK.out _ _ QB (fun hHeld2 => ?_)
                    clear hK K2 hHeld
                    have hHeld := hHeld2
                    clear hHeld2
                    try simp only [Act.put, List.setIfInBounds_toArray, List.set_cons_zero, List.set_cons_succ]
                    refine wpAnyH_done (by kernel_rfl) ?_ _
                    clear hHeld hFF hg3
                    have hky := putK_ok h0 x
                    have lk3 : (putK ks x).length ≤ 1048576 := by have := (kOk_len hky).2; omega
                    have u0 := ZB.at 0 rfl
                    have u1 := ZB.at 1 rfl
                    have HX := impl_reach a3 b3 c3 d3 xs (putK ks x) FF xr3 kr3 lx2 lk3 hc3 hs2
                    go_wp2_with fail
                    refine HX.mono ?_
                    clear HX u0 u1
                    rintro en w93 ⟨eA, fA, A, rfl, OK, HA, hb⟩
                    have QBN := QB.later hb QB.lt
                    have XBN := XB.later hb XB.lt
                    have ZBN := ZB.later hb ZB.lt
                    have xrN := RowAt.later xr hb
                    have krN := RowAt.later kr hb
                    have kKN := RowAt.later kK hb
                    have xr2N := RowAt.later xr2 hb
                    have kr2N := RowAt.later kr2 hb
                    have kMN := RowAt.later kM hb
                    have xr3N := RowAt.later xr3 hb
                    have kr3N := RowAt.later kr3 hb
                    have BBN := BB.trans (hb.mono BB.size)
                    clear QB XB ZB xr kr kK xr2 kr2 kM xr3 kr3 BB
                    have QB := QBN
                    have XB := XBN
                    have ZB := ZBN
                    have xr := xrN
                    have kr := krN
                    have kK := kKN
                    have xr2 := xr2N
                    have kr2 := kr2N
                    have kM := kMN
                    have xr3 := xr3N
                    have kr3 := kr3N
                    have BB := BBN
                    clear QBN XBN ZBN xrN krN kKN xr2N kr2N kMN xr3N kr3N BBN
                    clear hb
                    have kA := own_rowAt (f := Value.int .i64) OK
                    clear OK
                    have lA : A.length ≤ 1048576 := keys_len hky HA.out
                    have HS4 : Hid (∀ k, k ∈ K → hasB A k = true) := fun k hk => (hasB_iff _ _).2 ((HA.out.1 k).2 ⟨hky, reach_more (fun _ h => h) (fun _ h => putK_sub h) ((HK.out.1 k).1 hk).2⟩)
                    clear HA
                    go_wp2
                    go_loop [13] (fun i => ∃ m : Nat, i = .int .i64 (m : Int) ∧ m ≤ K.length) (fun i => K.length - (intOf i).toNat)
                    case atStart => exact ⟨0, rfl, by omega⟩
                    case round =>
                      obtain ⟨m, rfl, hm⟩ := hrel
                      by_cases hlt : m < K.length
                      · have hmi : ((m : Int) < (K.length : Int)) := by omega
                        obtain ⟨bb, oo, ee, ll, cc⟩ := kK m hlt
                        have hh := HS4.out _ (List.getElem_mem hlt)
                        generalize K[m] = z at cc hh
                        subst ee
                        have HX0 := has_is eA fA A z w93 kA lA
                        rw [hh] at HX0
                        go_wp2_with fail
                        refine HX0.mono ?_
                        clear HX0
                        rintro en wx ⟨rfl, rfl⟩
                        go_wp2
                        go_round
                        case rel => exact ⟨m + 1, by go_num, by omega⟩
                        case measure => simp [intOf]; omega
                      · obtain rfl : m = K.length := by omega
                        have hmd : decide (((K.length : Nat) : Int) < (K.length : Int)) = false := by simp
                        have u0 := XB.at 0 rfl
                        have u1 := XB.at 1 rfl
                        have HX := spec_knownOk a2 b2 c2 d2 (putT xs t) ks w93 xr2 kr2 lx3 lk2 hc2 hs3
                        go_wp2_with fail
                        refine HX.mono ?_
                        clear HX u0 u1
                        rintro en w94 ⟨rfl, hb⟩
                        have QBN := QB.later hb QB.lt
                        have XBN := XB.later hb XB.lt
                        have ZBN := ZB.later hb ZB.lt
                        have xrN := RowAt.later xr hb
                        have krN := RowAt.later kr hb
                        have kKN := RowAt.later kK hb
                        have xr2N := RowAt.later xr2 hb
                        have kr2N := RowAt.later kr2 hb
                        have kMN := RowAt.later kM hb
                        have xr3N := RowAt.later xr3 hb
                        have kr3N := RowAt.later kr3 hb
                        have kAN := RowAt.later kA hb
                        have BBN := BB.trans (hb.mono BB.size)
                        clear QB XB ZB xr kr kK xr2 kr2 kM xr3 kr3 kA BB
                        have QB := QBN
                        have XB := XBN
                        have ZB := ZBN
                        have xr := xrN
                        have kr := krN
                        have kK := kKN
                        have xr2 := xr2N
                        have kr2 := kr2N
                        have kM := kMN
                        have xr3 := xr3N
                        have kr3 := kr3N
                        have kA := kAN
                        have BB := BBN
                        clear QBN XBN ZBN xrN krN kKN xr2N kr2N kMN xr3N kr3N kAN BBN
                        clear hb
                        rw [hkx]
                        have u0 := ZB.at 0 rfl
                        have u1 := ZB.at 1 rfl
                        have HX := spec_knownOk a3 b3 c3 d3 xs (putK ks x) w94 xr3 kr3 lx2 lk3 hc3 hs2
                        go_wp2_with fail
                        refine HX.mono ?_
                        clear HX u0 u1
                        rintro en w95 ⟨rfl, hb⟩
                        have QBN := QB.later hb QB.lt
                        have XBN := XB.later hb XB.lt
                        have ZBN := ZB.later hb ZB.lt
                        have xrN := RowAt.later xr hb
                        have krN := RowAt.later kr hb
                        have kKN := RowAt.later kK hb
                        have xr2N := RowAt.later xr2 hb
                        have kr2N := RowAt.later kr2 hb
                        have kMN := RowAt.later kM hb
                        have xr3N := RowAt.later xr3 hb
                        have kr3N := RowAt.later kr3 hb
                        have kAN := RowAt.later kA hb
                        have BBN := BB.trans (hb.mono BB.size)
                        clear QB XB ZB xr kr kK xr2 kr2 kM xr3 kr3 kA BB
                        have QB := QBN
                        have XB := XBN
                        have ZB := ZBN
                        have xr := xrN
                        have kr := krN
                        have kK := kKN
                        have xr2 := xr2N
                        have kr2 := kr2N
                        have kM := kMN
                        have xr3 := xr3N
                        have kr3 := kr3N
                        have kA := kAN
                        have BB := BBN
                        clear QBN XBN ZBN xrN krN kKN xr2N kr2N kMN xr3N kr3N kAN BBN
                        clear hb
                        rw [hky]
                        go_wp2
                        go_ret
                        exact ⟨rfl, BB⟩
                · obtain ⟨p91, hp91⟩ : ∃ v, (w11.drew).alloc (.cells #[.slice none 0 0, .slice none 0 0] 27) = v := ⟨_, rfl⟩
                  obtain ⟨g3, hg3⟩ : ∃ g, (w11.drew).heap.size = g := ⟨_, rfl⟩
                  have hC : Below (w11.drew).heap.size (w11.drew) p91 := by rw [← hp91]; exact (Below.refl _ _).alloc (Nat.le_refl _) _
                  have YB : Blk g3 [.slice none 0 0, .slice none 0 0] p91 := by rw [← hp91, ← hg3]; exact Blk.new _ _ _
                  go_simp
                  (try rw [hp91]); (try rw [hg3])
                  refine hK.out _ _ (QB.later hC QB.lt) (fun hHeld2 => ?_)
                  clear hK K2 hHeld
                  have hHeld := hHeld2
                  clear hHeld2
                  try simp only [Act.put, List.setIfInBounds_toArray, List.set_cons_zero, List.set_cons_succ]
                  try rw [hp91]
                  try rw [hg3]
                  clear hp91
                  refine wpAnyH_ready (rs := [2]) (by kernel_rfl) (by simp) ?_
                  refine AllReadyH.cons (i := 2) rfl (fun K2 hK => ?_) AllReadyH.nil
                  go_simp
                  refine (at_go ad len cap zs _ ((HZ.out.below (BB.trans (hC.mono BB.size))).lt (Nat.le_trans BB.size hC.size))).mono ?_
                  rintro en vv ⟨z, rfl, z0, z1, rfl⟩
                  go_wp2_with fail
                  refine hK.out _ _ (QB.later hC QB.lt) (fun hHeld2 => ?_)
                  clear hK K2 hHeld
                  have hHeld := hHeld2
                  clear hHeld2
                  try simp only [Act.put, List.setIfInBounds_toArray, List.set_cons_zero, List.set_cons_succ]
                  obtain ⟨x, hx⟩ : ∃ x : Int, x = 1 + z % 6 := ⟨_, rfl⟩
                  refine take_one 3 98 (v := .int .i64 (z % 6)) rfl rfl (by kernel_rfl) (by kernel_rfl) (by kernel_rfl) (fun _ _ _ h => h) (Or.inl ⟨by rfl, ?_⟩) hHeld ?_
                  · intro w' hSw; (try dsimp only at hSw); go_simp; all_goals (rw [Int.tmod_eq_emod_of_nonneg z0])
                  try simp only [Act.put, List.setIfInBounds_toArray, List.set_cons_zero, List.set_cons_succ]
                  refine take_one 4 99 (v := .int .i64 x) rfl rfl (by kernel_rfl) (by kernel_rfl) (by kernel_rfl) (fun _ _ _ h => h) (Or.inl ⟨by rfl, ?_⟩) hHeld ?_
                  · intro w' hSw; (try dsimp only at hSw); go_simp; all_goals (subst hx; rw [IntKind.wrap_i64]; omega)
                  try simp only [Act.put, List.setIfInBounds_toArray, List.set_cons_zero, List.set_cons_succ]
                  clear hx z0 z1
                  refine wpAnyH_ready (rs := [5]) (by kernel_rfl) (by simp) ?_
                  refine AllReadyH.cons (i := 5) rfl (fun K2 hK => ?_) AllReadyH.nil
                  have HL := impl_learnKey a1 b1 c1 d1 xs ks x _ (RowAt.later xr hC) (RowAt.later kr hC) lx2 lk2 hc1 hs2
                  unfold lrkT lrkK at HL
                  rw [if_pos h0, if_pos h0] at HL
                  go_simp
                  refine HL.mono ?_
                  clear HL
                  rintro en p92 ⟨v3, rfl, KV, hb5⟩
                  obtain ⟨a3, b3, c3, d3, rfl, xr3, kr3, hc3, na3, nb3⟩ := keep_far KV (by have := YB.lt; omega : g3 < _)
                  clear KV
                  have hCN := hC.trans (hb5.mono hC.size)
                  have YBN := YB.later hb5 YB.lt
                  clear hC YB hb5
                  have hC := hCN
                  have YB := YBN
                  clear hCN YBN
                  go_wp2_with fail
                  refine hK.out _ _ (QB.later hC QB.lt) (fun hHeld2 => ?_)
                  clear hK K2 hHeld
                  have hHeld := hHeld2
                  clear hHeld2
                  try simp only [Act.put, List.setIfInBounds_toArray, List.set_cons_zero, List.set_cons_succ]
                  refine wpAnyH_ready (rs := [7]) (by kernel_rfl) (by simp) ?_
                  refine AllReadyH.cons (i := 7) rfl (fun K2 hK => ?_) AllReadyH.nil
                  obtain ⟨FF, hFF⟩ : ∃ v, (p92.setCell ⟨g3, 0, none⟩ (.slice a3 xs.length c3)).setCell ⟨g3, 1, none⟩ (.slice b3 (putK ks x).length d3) = v := ⟨_, rfl⟩
                  have hF : Below (w11.drew).heap.size (w11.drew) FF := by rw [← hFF]; exact (hC.setCell (by rw [hg3]; exact Nat.le_refl _) _).setCell (by rw [hg3]; exact Nat.le_refl _) _
                  have ZB : Blk g3 [.slice a3 xs.length c3, .slice b3 (putK ks x).length d3] FF := by rw [← hFF]; exact (YB.set 0 (.slice a3 xs.length c3)).set 1 (.slice b3 (putK ks x).length d3)
                  have y0 := YB.at 0 rfl
                  have q0 := YB.fz 0 rfl
                  have y1 := YB.at 1 rfl
                  have q1 := YB.fz 1 rfl
                  have xr3N : RowAt Value.string FF a3 xs := by rw [← hFF]; exact (xr3.put na3 0 _).put na3 1 _
                  have kr3N : RowAt (Value.int .i64) FF b3 (putK ks x) := by rw [← hFF]; exact (kr3.put nb3 0 _).put nb3 1 _
                  clear xr3 kr3 na3 nb3
                  have xr3 := xr3N
                  have kr3 := kr3N
                  clear xr3N kr3N
                  go_simp
                  try rw [hFF]
                  clear y0 y1 q0 q1 YB hC
                  have QBN := QB.later hF QB.lt
                  have XBN := XB.later hF XB.lt
                  have xrN := RowAt.later xr hF
                  have krN := RowAt.later kr hF
                  have kKN := RowAt.later kK hF
                  have xr2N := RowAt.later xr2 hF
                  have kr2N := RowAt.later kr2 hF
                  have kMN := RowAt.later kM hF
                  have BBN := BB.trans (hF.mono BB.size)
                  clear QB XB xr kr kK xr2 kr2 kM BB
                  have QB := QBN
                  have XB := XBN
                  have xr := xrN
                  have kr := krN
                  have kK := kKN
                  have xr2 := xr2N
                  have kr2 := kr2N
                  have kM := kMN
                  have BB := BBN
                  clear QBN XBN xrN krN kKN xr2N kr2N kMN BBN
                  clear hF
                  refine hK.out _ _ QB (fun hHeld2 => ?_)
                  clear hK K2 hHeld
                  have hHeld := hHeld2
                  clear hHeld2
                  try simp only [Act.put, List.setIfInBounds_toArray, List.set_cons_zero, List.set_cons_succ]
                  refine wpAnyH_done (by kernel_rfl) ?_ _
                  clear hHeld hFF hg3
                  have hky := putK_ok h0 x
                  have lk3 : (putK ks x).length ≤ 1048576 := by have := (kOk_len hky).2; omega
                  have u0 := ZB.at 0 rfl
                  have u1 := ZB.at 1 rfl
                  have HX := impl_reach a3 b3 c3 d3 xs (putK ks x) FF xr3 kr3 lx2 lk3 hc3 hs2
                  go_wp2_with fail
                  refine HX.mono ?_
                  clear HX u0 u1
                  rintro en w93 ⟨eA, fA, A, rfl, OK, HA, hb⟩
                  have QBN := QB.later hb QB.lt
                  have XBN := XB.later hb XB.lt
                  have ZBN := ZB.later hb ZB.lt
                  have xrN := RowAt.later xr hb
                  have krN := RowAt.later kr hb
                  have kKN := RowAt.later kK hb
                  have xr2N := RowAt.later xr2 hb
                  have kr2N := RowAt.later kr2 hb
                  have kMN := RowAt.later kM hb
                  have xr3N := RowAt.later xr3 hb
                  have kr3N := RowAt.later kr3 hb
                  have BBN := BB.trans (hb.mono BB.size)
                  clear QB XB ZB xr kr kK xr2 kr2 kM xr3 kr3 BB
                  have QB := QBN
                  have XB := XBN
                  have ZB := ZBN
                  have xr := xrN
                  have kr := krN
                  have kK := kKN
                  have xr2 := xr2N
                  have kr2 := kr2N
                  have kM := kMN
                  have xr3 := xr3N
                  have kr3 := kr3N
                  have BB := BBN
                  clear QBN XBN ZBN xrN krN kKN xr2N kr2N kMN xr3N kr3N BBN
                  clear hb
                  have kA := own_rowAt (f := Value.int .i64) OK
                  clear OK
                  have lA : A.length ≤ 1048576 := keys_len hky HA.out
                  have HS4 : Hid (∀ k, k ∈ K → hasB A k = true) := fun k hk => (hasB_iff _ _).2 ((HA.out.1 k).2 ⟨hky, reach_more (fun _ h => h) (fun _ h => putK_sub h) ((HK.out.1 k).1 hk).2⟩)
                  clear HA
                  go_wp2
                  go_loop [13] (fun i => ∃ m : Nat, i = .int .i64 (m : Int) ∧ m ≤ K.length) (fun i => K.length - (intOf i).toNat)
                  case atStart => exact ⟨0, rfl, by omega⟩
                  case round =>
                    obtain ⟨m, rfl, hm⟩ := hrel
                    by_cases hlt : m < K.length
                    · have hmi : ((m : Int) < (K.length : Int)) := by omega
                      obtain ⟨bb, oo, ee, ll, cc⟩ := kK m hlt
                      have hh := HS4.out _ (List.getElem_mem hlt)
                      generalize K[m] = z at cc hh
                      subst ee
                      have HX0 := has_is eA fA A z w93 kA lA
                      rw [hh] at HX0
                      go_wp2_with fail
                      refine HX0.mono ?_
                      clear HX0
                      rintro en wx ⟨rfl, rfl⟩
                      go_wp2
                      go_round
                      case rel => exact ⟨m + 1, by go_num, by omega⟩
                      case measure => simp [intOf]; omega
                    · obtain rfl : m = K.length := by omega
                      have hmd : decide (((K.length : Nat) : Int) < (K.length : Int)) = false := by simp
                      have u0 := XB.at 0 rfl
                      have u1 := XB.at 1 rfl
                      have HX := spec_knownOk a2 b2 c2 d2 (putT xs t) ks w93 xr2 kr2 lx3 lk2 hc2 hs3
                      go_wp2_with fail
                      refine HX.mono ?_
                      clear HX u0 u1
                      rintro en w94 ⟨rfl, hb⟩
                      have QBN := QB.later hb QB.lt
                      have XBN := XB.later hb XB.lt
                      have ZBN := ZB.later hb ZB.lt
                      have xrN := RowAt.later xr hb
                      have krN := RowAt.later kr hb
                      have kKN := RowAt.later kK hb
                      have xr2N := RowAt.later xr2 hb
                      have kr2N := RowAt.later kr2 hb
                      have kMN := RowAt.later kM hb
                      have xr3N := RowAt.later xr3 hb
                      have kr3N := RowAt.later kr3 hb
                      have kAN := RowAt.later kA hb
                      have BBN := BB.trans (hb.mono BB.size)
                      clear QB XB ZB xr kr kK xr2 kr2 kM xr3 kr3 kA BB
                      have QB := QBN
                      have XB := XBN
                      have ZB := ZBN
                      have xr := xrN
                      have kr := krN
                      have kK := kKN
                      have xr2 := xr2N
                      have kr2 := kr2N
                      have kM := kMN
                      have xr3 := xr3N
                      have kr3 := kr3N
                      have kA := kAN
                      have BB := BBN
                      clear QBN XBN ZBN xrN krN kKN xr2N kr2N kMN xr3N kr3N kAN BBN
                      clear hb
                      rw [hkx]
                      have u0 := ZB.at 0 rfl
                      have u1 := ZB.at 1 rfl
                      have HX := spec_knownOk a3 b3 c3 d3 xs (putK ks x) w94 xr3 kr3 lx2 lk3 hc3 hs2
                      go_wp2_with fail
                      refine HX.mono ?_
                      clear HX u0 u1
                      rintro en w95 ⟨rfl, hb⟩
                      have QBN := QB.later hb QB.lt
                      have XBN := XB.later hb XB.lt
                      have ZBN := ZB.later hb ZB.lt
                      have xrN := RowAt.later xr hb
                      have krN := RowAt.later kr hb
                      have kKN := RowAt.later kK hb
                      have xr2N := RowAt.later xr2 hb
                      have kr2N := RowAt.later kr2 hb
                      have kMN := RowAt.later kM hb
                      have xr3N := RowAt.later xr3 hb
                      have kr3N := RowAt.later kr3 hb
                      have kAN := RowAt.later kA hb
                      have BBN := BB.trans (hb.mono BB.size)
                      clear QB XB ZB xr kr kK xr2 kr2 kM xr3 kr3 kA BB
                      have QB := QBN
                      have XB := XBN
                      have ZB := ZBN
                      have xr := xrN
                      have kr := krN
                      have kK := kKN
                      have xr2 := xr2N
                      have kr2 := kr2N
                      have kM := kMN
                      have xr3 := xr3N
                      have kr3 := kr3N
                      have kA := kAN
                      have BB := BBN
                      clear QBN XBN ZBN xrN krN kKN xr2N kr2N kMN xr3N kr3N kAN BBN
                      clear hb
                      rw [hky]
                      go_wp2
                      go_ret
                      exact ⟨rfl, BB⟩
  · rw [Bool.not_eq_true] at h0
    rw [h0]
    have u0 := QB.at 0 rfl
    have u1 := QB.at 1 rfl
    have HX := impl_build a1 b1 c1 d1 xs ks t w3 xr kr lx2 lk2 hc1 hs2 tz2
    go_wp2_with fail
    refine HX.mono ?_
    clear HX u0 u1
    rintro en w4 ⟨v, rfl, hv, hb⟩
    have QBN := QB.later hb QB.lt
    have xrN := RowAt.later xr hb
    have krN := RowAt.later kr hb
    have BBN := BB.trans (hb.mono BB.size)
    clear QB xr kr BB
    have QB := QBN
    have xr := xrN
    have kr := krN
    have BB := BBN
    clear QBN xrN krN BBN
    clear hb
    obtain rfl := false_of hv (by rintro ⟨k, _, _⟩; rw [h0] at k; cases k)
    clear hv
    have u0 := QB.at 0 rfl
    have u1 := QB.at 1 rfl
    have HX := impl_reach a1 b1 c1 d1 xs ks w4 xr kr lx2 lk2 hc1 hs2
    go_wp2_with fail
    refine HX.mono ?_
    clear HX u0 u1
    rintro en w5 ⟨eK, fK, K, rfl, OK, HK, hb⟩
    have QBN := QB.later hb QB.lt
    have xrN := RowAt.later xr hb
    have krN := RowAt.later kr hb
    have BBN := BB.trans (hb.mono BB.size)
    clear QB xr kr BB
    have QB := QBN
    have xr := xrN
    have kr := krN
    have BB := BBN
    clear QBN xrN krN BBN
    clear hb
    obtain rfl : K = [] := List.eq_nil_iff_forall_not_mem.2 (fun k hk => by have := ((HK.out.1 k).1 hk).1; rw [h0] at this; cases this)
    clear OK HK
    go_wp2
    go_ret
    exact ⟨rfl, BB⟩

end Go.Proofs.YtkekfogepdhjhaaGreat
