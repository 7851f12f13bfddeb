/- The law on what is built, step by step. -/
import Derived.Test.YtkekfogepdhjhaaDrawBuild
import Derived.Test.YtkekfogepdhjhaaBuiltMath
import Derived.Test.YtkekfogepdhjhaaBuilds
import Derived.Test.YtkekfogepdhjhaaSpecNil
import Derived.Test.YtkekfogepdhjhaaKnow3
import Derived.Test.YtkekfogepdhjhaaFaces1
set_option linter.unusedVariables false
namespace Go.Proofs.Ytkekfogepdhjhaa
open Go.RowKit Go.Proofs.Ytkekfogepdhjhaa.Own Var Term Draw

theorem big_go (a : Option Addr) (len cap : Nat) (W : World) (h : len ≤ 1048576) :
    Calls Try.prog 10 #[.slice a len cap] W fun e w' => e = .returned (.bool false) ∧ W = w' := by
  have hd : decide ((1048576 : Int) < (len : Int)) = false := by simp; omega
  go_enter Try.func10, Try.ntmps10
  go_wp2
  go_ret
  exact ⟨rfl, rfl⟩
theorem big_yes (a : Option Addr) (len cap : Nat) (W : World) (h : 1048576 < len) (h2 : len ≤ maxLen) :
    Calls Try.prog 10 #[.slice a len cap] W fun e w' => e = .returned (.bool true) ∧ W = w' := by
  unfold maxLen at h2
  have hd : decide ((1048576 : Int) < (len : Int)) = true := by simp; omega
  go_enter Try.func10, Try.ntmps10
  go_wp2
  go_ret
  exact ⟨rfl, rfl⟩
theorem bool_of {v : Bool} {p q : Prop} (h : v = true ↔ p) (k : p ↔ q) {b : Bool} (hb : b = true ↔ q) : v = b := by
  rw [Bool.eq_iff_iff, h, k, hb]
theorem false_of {v : Bool} {p : Prop} (h : v = true ↔ p) (n : ¬ p) : v = false := by
  cases v with
  | false => rfl
  | true => exact absurd (h.1 rfl) n
theorem true_of {v : Bool} {p : Prop} (h : v = true ↔ p) (n : p) : v = true := h.2 n
def xT : ByteArray := ⟨#[120]⟩
theorem xT_is : isT (atomT xT) = true ∧ at_ (atomT xT) 0 = 97 ∧ (atomT xT).size ≤ 900 := by
  have hT := atom_isT xT (by decide)
  have e : atomT xT = hdT 97 xT.size ++ xT := okOr_yes hT
  rw [e]
  exact ⟨hT, at_one 97 _ _, ((isT_iff _).1 hT).1⟩
theorem sealT_size (k : Int) (t : ByteArray) : (sealT k t).size ≤ 900 := by
  unfold sealT
  split
  · cases h : isT (hdT 115 k ++ t) with
    | false => rw [okOr_no h]; show 0 ≤ 900; omega
    | true => rw [okOr_yes h]; exact ((isT_iff _).1 h).1
  · show 0 ≤ 900; omega

set_option maxRecDepth 100000 in
set_option maxHeartbeats 12800000 in
theorem built_at (ad : Option Addr) (len cap : Nat) (zs : List Int) (W : World) (hl : len ≤ 1048576) (hz : CodeAt W W.heap.size ad len zs) :
    Calls Try.prog 3 #[.slice ad len cap] W fun e w' => e = .returned (.bool true) ∧ Below W.heap.size W w' := by
  have HZ : Hid (CodeAt W W.heap.size ad len zs) := hz
  clear hz
  have BB := Below.refl W.heap.size W
  go_enter Try.func3, Try.ntmps3
  go_wp2_with fail
  refine (big_go ad len cap W hl).mono ?_
  rintro e w0 ⟨rfl, rfl⟩
  have HX := drawBuild ad len cap zs W hl ((HZ.out.below BB).lt BB.size)
  go_wp2_with fail
  refine HX.mono ?_
  clear HX
  rintro en w1 ⟨a1, b1, c1, d1, xs, ks, t, rfl, xr, kr, hc1, lx, lk, hs, tz, hb⟩
  have BBN := BB.trans (hb.mono BB.size)
  clear BB
  have BB := BBN
  clear BBN
  clear hb
  obtain ⟨w2, hw2⟩ : ∃ v, w1.alloc (.cells #[.slice a1 xs.length c1, .slice b1 ks.length d1] 27) = v := ⟨_, rfl⟩
  have hb : Below w1.heap.size w1 w2 := by rw [← hw2]; exact (Below.refl _ _).alloc (Nat.le_refl _) _
  have QB : Blk w1.heap.size [.slice a1 xs.length c1, .slice b1 ks.length d1] w2 := by rw [← hw2]; exact Blk.new _ _ _
  have xrN := RowAt.later xr hb
  have krN := RowAt.later kr hb
  have BBN := BB.trans (hb.mono BB.size)
  clear xr kr BB
  have xr := xrN
  have kr := krN
  have BB := BBN
  clear xrN krN BBN
  clear hb
  have lx2 : xs.length ≤ 1048576 := by omega
  have lk2 : ks.length ≤ 1048576 := by omega
  have hs2 : ∀ x ∈ xs, x.size ≤ 1048576 := fun x hx => Nat.le_trans (hs x hx) (by omega)
  have tz2 : t.size ≤ 1048576 := by omega
  clear hs lx lk tz
  have u0 := QB.at 0 rfl
  have u1 := QB.at 1 rfl
  have HX := spec_knownOk a1 b1 c1 d1 xs ks w2 xr kr lx2 lk2 hc1 hs2
  go_wp2_with fail
  try rw [hw2]
  refine HX.mono ?_
  clear HX hw2 u0 u1
  rintro en w3 ⟨rfl, hb⟩
  have QBN := QB.later hb QB.lt
  have xrN := RowAt.later xr hb
  have krN := RowAt.later kr hb
  have BBN := BB.trans (hb.mono BB.size)
  clear QB xr kr BB
  have QB := QBN
  have xr := xrN
  have kr := krN
  have BB := BBN
  clear QBN xrN krN BBN
  clear hb
  by_cases h0 : kOk xs ks = true
  · rw [h0]
    have HX := spec_ok t w3 tz2
    go_wp2_with fail
    refine HX.mono ?_
    clear HX
    rintro en w4 ⟨rfl, hb⟩
    have QBN := QB.later hb QB.lt
    have xrN := RowAt.later xr hb
    have krN := RowAt.later kr hb
    have BBN := BB.trans (hb.mono BB.size)
    clear QB xr kr BB
    have QB := QBN
    have xr := xrN
    have kr := krN
    have BB := BBN
    clear QBN xrN krN BBN
    clear hb
    by_cases h1 : isT t = true
    · rw [h1]
      have u0 := QB.at 0 rfl
      have u1 := QB.at 1 rfl
      have HX := spec_reachN a1 b1 c1 d1 xs ks w4 xr kr lx2 lk2 hc1 hs2
      go_wp2_with fail
      refine HX.mono ?_
      clear HX u0 u1
      rintro en w5 ⟨b9, kb, K, rfl, OK9, HK9, hb⟩
      have QBN := QB.later hb QB.lt
      have xrN := RowAt.later xr hb
      have krN := RowAt.later kr hb
      have BBN := BB.trans (hb.mono BB.size)
      clear QB xr kr BB
      have QB := QBN
      have xr := xrN
      have kr := krN
      have BB := BBN
      clear QBN xrN krN BBN
      clear hb
      have kk := own_rowAt (f := Value.int .i64) OK9
      clear OK9
      have lK : K.length ≤ 1048576 := by have := HK9.out.2.2; omega
      have HKi : Hid (∀ i : Int, hasB K i = true ↔ ReachT xs ks i) := fun i => by rw [hasB_iff, HK9.out.1]; exact ⟨fun h => h.2, fun h => ⟨h0, h⟩⟩
      clear HK9
      go_wp2
      go_loopw [6] (fun i wr => ∃ m : Nat, i = .int .i64 (m : Int) ∧ 1 ≤ m ∧ m ≤ 8 ∧ Blk w1.heap.size [.slice a1 xs.length c1, .slice b1 ks.length d1] wr ∧ RowAt Value.string wr a1 xs ∧ RowAt (Value.int .i64) wr b1 ks ∧ RowAt (Value.int .i64) wr b9 K ∧ Below W.heap.size W wr) (fun i _ => 8 - (intOf i).toNat)
      case atStart => exact ⟨1, rfl, by omega, by omega, QB, xr, kr, kk, BB⟩
      case round =>
        clear QB xr kr kk BB
        obtain ⟨m, rfl, hm1, hm8, QB, xr, kr, kk, BB⟩ := hrel
        by_cases hm : m < 8
        · have hmi : ((m : Int) < 8) := by omega
          obtain ⟨sl, hsl⟩ : ∃ x, sealT (m : Int) t = x := ⟨_, rfl⟩
          have zs : sl.size ≤ 1048576 := by rw [← hsl]; exact Nat.le_trans (sealT_size _ _) (by omega)
          have HX0 := spec_seal (m : Int) t wr tz2
          rw [hsl] at HX0
          have HX := HX0
          go_wp2_with fail
          refine HX.mono ?_
          clear HX
          rintro en w41 ⟨rfl, hb⟩
          have QBN := QB.later hb QB.lt
          have xrN := RowAt.later xr hb
          have krN := RowAt.later kr hb
          have kkN := RowAt.later kk hb
          have BBN := BB.trans (hb.mono BB.size)
          clear QB xr kr kk BB
          have QB := QBN
          have xr := xrN
          have kr := krN
          have kk := kkN
          have BB := BBN
          clear QBN xrN krN kkN BBN
          clear hb
          clear HX0
          by_cases h2 : sl.size = 0
          · have hne := nil_size sl h2
            go_wp2
            go_roundw
            case rel => exact ⟨m + 1, by go_num, by omega, by omega, QB, xr, kr, kk, BB⟩
            case measure => simp [intOf]; omega
          · have hne := ne_nil sl (by omega)
            have HB : Hid ((isT sl = true ∧ CanB xs ks sl) ↔ SeenT xs ks sl ∨ (ReachT xs ks (m : Int) ∧ CanB xs ks t)) := by have := built_seal (i := (m : Int)) h0 h1 (by rw [hsl]; exact h2); rw [hsl] at this; exact this
            have u0 := QB.at 0 rfl
            have u1 := QB.at 1 rfl
            have HX := spec_seesN a1 b1 c1 d1 xs ks sl w41 xr kr lx2 lk2 hc1 hs2
            go_wp2_with fail
            refine HX.mono ?_
            clear HX u0 u1
            rintro en w42 ⟨b2, rfl, hb2, hb⟩
            have QBN := QB.later hb QB.lt
            have xrN := RowAt.later xr hb
            have krN := RowAt.later kr hb
            have kkN := RowAt.later kk hb
            have BBN := BB.trans (hb.mono BB.size)
            clear QB xr kr kk BB
            have QB := QBN
            have xr := xrN
            have kr := krN
            have kk := kkN
            have BB := BBN
            clear QBN xrN krN kkN BBN
            clear hb
            have HS2 : Hid (b2 = true ↔ SeenT xs ks sl) := ⟨fun h => (hb2.1 h).2, fun h => hb2.2 ⟨h0, h⟩⟩
            clear hb2
            cases b2 with
            | true =>
              have u0 := QB.at 0 rfl
              have u1 := QB.at 1 rfl
              have HX := impl_build a1 b1 c1 d1 xs ks sl w42 xr kr lx2 lk2 hc1 hs2 zs
              go_wp2_with fail
              refine HX.mono ?_
              clear HX u0 u1
              rintro en w43 ⟨v, rfl, hv, hb⟩
              have QBN := QB.later hb QB.lt
              have xrN := RowAt.later xr hb
              have krN := RowAt.later kr hb
              have kkN := RowAt.later kk hb
              have BBN := BB.trans (hb.mono BB.size)
              clear QB xr kr kk BB
              have QB := QBN
              have xr := xrN
              have kr := krN
              have kk := kkN
              have BB := BBN
              clear QBN xrN krN kkN BBN
              clear hb
              obtain rfl := true_of hv ⟨h0, HB.out.2 (Or.inl (HS2.out.1 (by trivial)))⟩
              clear hv HB HS2 hne
              go_wp2
              go_roundw
              case rel => exact ⟨m + 1, by go_num, by omega, by omega, QB, xr, kr, kk, BB⟩
              case measure => simp [intOf]; omega
            | false =>
              have HX0 := has_is b9 kb K (m : Int) w42 kk lK
              go_wp2_with fail
              refine HX0.mono ?_
              clear HX0
              rintro en wx ⟨rfl, rfl⟩
              by_cases h3 : hasB K (m : Int) = true
              · rw [h3]
                have u0 := QB.at 0 rfl
                have u1 := QB.at 1 rfl
                have HX := spec_buildN a1 b1 c1 d1 xs ks t w42 xr kr lx2 lk2 hc1 hs2 tz2
                go_wp2_with fail
                refine HX.mono ?_
                clear HX u0 u1
                rintro en w43 ⟨b4, rfl, hb4, hb⟩
                have QBN := QB.later hb QB.lt
                have xrN := RowAt.later xr hb
                have krN := RowAt.later kr hb
                have kkN := RowAt.later kk hb
                have BBN := BB.trans (hb.mono BB.size)
                clear QB xr kr kk BB
                have QB := QBN
                have xr := xrN
                have kr := krN
                have kk := kkN
                have BB := BBN
                clear QBN xrN krN kkN BBN
                clear hb
                have u0 := QB.at 0 rfl
                have u1 := QB.at 1 rfl
                have HX := impl_build a1 b1 c1 d1 xs ks sl w43 xr kr lx2 lk2 hc1 hs2 zs
                go_wp2_with fail
                refine HX.mono ?_
                clear HX u0 u1
                rintro en w44 ⟨v, rfl, hv, hb⟩
                have QBN := QB.later hb QB.lt
                have xrN := RowAt.later xr hb
                have krN := RowAt.later kr hb
                have kkN := RowAt.later kk hb
                have BBN := BB.trans (hb.mono BB.size)
                clear QB xr kr kk BB
                have QB := QBN
                have xr := xrN
                have kr := krN
                have kk := kkN
                have BB := BBN
                clear QBN xrN krN kkN BBN
                clear hb
                obtain rfl : v = b4 := by
                  rw [Bool.eq_iff_iff, hv, hb4.out]
                  constructor
                  · intro h
                    rcases HB.out.1 h.2 with k | k
                    · have := HS2.out.2 k; cases this
                    · exact ⟨h0, h1, k.2⟩
                  · intro h
                    exact ⟨h0, HB.out.2 (Or.inr ⟨(HKi.out _).1 h3, h.2.2⟩)⟩
                clear hv hb4 HB HS2 hne
                cases v with
                | true =>
                  go_wp2
                  go_roundw
                  case rel => exact ⟨m + 1, by go_num, by omega, by omega, QB, xr, kr, kk, BB⟩
                  case measure => simp [intOf]; omega
                | false =>
                  go_wp2
                  go_roundw
                  case rel => exact ⟨m + 1, by go_num, by omega, by omega, QB, xr, kr, kk, BB⟩
                  case measure => simp [intOf]; omega
              · rw [Bool.not_eq_true] at h3
                rw [h3]
                have u0 := QB.at 0 rfl
                have u1 := QB.at 1 rfl
                have HX := impl_build a1 b1 c1 d1 xs ks sl w42 xr kr lx2 lk2 hc1 hs2 zs
                go_wp2_with fail
                refine HX.mono ?_
                clear HX u0 u1
                rintro en w43 ⟨v, rfl, hv, hb⟩
                have QBN := QB.later hb QB.lt
                have xrN := RowAt.later xr hb
                have krN := RowAt.later kr hb
                have kkN := RowAt.later kk hb
                have BBN := BB.trans (hb.mono BB.size)
                clear QB xr kr kk BB
                have QB := QBN
                have xr := xrN
                have kr := krN
                have kk := kkN
                have BB := BBN
                clear QBN xrN krN kkN BBN
                clear hb
                obtain rfl : v = false := false_of hv (by
                  rintro ⟨_, h⟩
                  rcases HB.out.1 h with k | k
                  · have := HS2.out.2 k; cases this
                  · have := (HKi.out _).2 k.1; rw [h3] at this; cases this)
                clear hv HB HS2 hne
                go_wp2
                go_roundw
                case rel => exact ⟨m + 1, by go_num, by omega, by omega, QB, xr, kr, kk, BB⟩
                case measure => simp [intOf]; omega
        · obtain rfl : m = 8 := by omega
          have hmd : decide (((8 : Nat) : Int) < 8) = false := by simp
          obtain ⟨ax, hax⟩ : ∃ x, atomT xT = x := ⟨_, rfl⟩
          obtain ⟨ia, k97, za⟩ := xT_is
          rw [hax] at ia k97 za
          have HX0 := spec_atom xT wr (by decide)
          rw [hax] at HX0
          unfold xT at HX0
          have HX := HX0
          go_wp2_with fail
          refine HX.mono ?_
          clear HX
          rintro en w41 ⟨rfl, hb⟩
          have QBN := QB.later hb QB.lt
          have xrN := RowAt.later xr hb
          have krN := RowAt.later kr hb
          have kkN := RowAt.later kk hb
          have BBN := BB.trans (hb.mono BB.size)
          clear QB xr kr kk BB
          have QB := QBN
          have xr := xrN
          have kr := krN
          have kk := kkN
          have BB := BBN
          clear QBN xrN krN kkN BBN
          clear hb
          clear HX0
          obtain ⟨ll, hll⟩ : ∃ x, listT [t, ax] = x := ⟨_, rfl⟩
          have zl : ll.size ≤ 1048576 := by rw [← hll]; exact Nat.le_trans (listT_size _) (by omega)
          have HX0 := spec_list (some ⟨w41.heap.size, 0, none⟩) 2 [t, ax] _ (row_two w41 t ax) (by simp) (by intro x hx; simp only [List.mem_cons, List.not_mem_nil, or_false] at hx; rcases hx with rfl | rfl <;> omega)
          rw [hll] at HX0
          go_wp2_with fail
          refine HX0.mono ?_
          clear HX0
          rintro en w42 ⟨rfl, hb0⟩
          have hb : Below w41.heap.size w41 w42 := ((Below.refl w41.heap.size w41).alloc (Nat.le_refl _) (.cells #[.string t, .string ax] 9)).trans (hb0.mono (by simp))
          clear hb0
          have QBN := QB.later hb QB.lt
          have xrN := RowAt.later xr hb
          have krN := RowAt.later kr hb
          have kkN := RowAt.later kk hb
          have BBN := BB.trans (hb.mono BB.size)
          clear QB xr kr kk BB
          have QB := QBN
          have xr := xrN
          have kr := krN
          have kk := kkN
          have BB := BBN
          clear QBN xrN krN kkN BBN
          clear hb
          by_cases h2 : ll.size = 0
          · have hne := nil_size ll h2
            have QBD := QB.drew
            have BBD := BB.drew
            have xrD : RowAt _ w42.drew _ _ := xr
            have krD : RowAt _ w42.drew _ _ := kr
            clear QB BB xr kr kk
            have QB := QBD
            have BB := BBD
            have xr := xrD
            have kr := krD
            clear QBD BBD xrD krD
            go_wp2_with fail
            refine wp_region_held_drew (S := (fun Vw => Blk w1.heap.size [.slice a1 xs.length c1, .slice b1 ks.length d1] Vw)) (by kernel_rfl) QB (fun hHeld => ?_)
            refine take_one 0 62 (v := ?_) rfl rfl (by kernel_rfl) (by kernel_rfl) (by kernel_rfl) (fun _ _ _ h => h) (Or.inl ⟨by rfl, ?_⟩) hHeld ?_
            rotate_left
            · intro w' hSw; (try dsimp only at hSw); have u0 := hSw.at 0 rfl; have u1 := hSw.at 1 rfl; go_simp; try with_reducible rfl
            try simp only [Act.put, List.setIfInBounds_toArray, List.set_cons_zero, List.set_cons_succ]
            refine take_one 1 63 (v := ?_) rfl rfl (by kernel_rfl) (by kernel_rfl) (by kernel_rfl) (fun _ _ _ h => h) (Or.inl ⟨by rfl, ?_⟩) hHeld ?_
            rotate_left
            · intro w' hSw; (try dsimp only at hSw); have u0 := hSw.at 0 rfl; have u1 := hSw.at 1 rfl; go_simp; try with_reducible rfl
            try simp only [Act.put, List.setIfInBounds_toArray, List.set_cons_zero, List.set_cons_succ]
            refine take_one 2 64 (v := ?_) rfl rfl (by kernel_rfl) (by kernel_rfl) (by kernel_rfl) (fun _ _ _ h => h) (Or.inl ⟨by rfl, ?_⟩) hHeld ?_
            rotate_left
            · intro w' hSw; (try dsimp only at hSw); have u0 := hSw.at 0 rfl; have u1 := hSw.at 1 rfl; go_simp; try with_reducible rfl
            try simp only [Act.put, List.setIfInBounds_toArray, List.set_cons_zero, List.set_cons_succ]
            refine skip_one 3 65 rfl rfl (by kernel_rfl) (by kernel_rfl) (by kernel_rfl) (fun _ _ _ h => h) (unwanted (c := true) rfl rfl (by simp) rfl) hHeld ?_
            try simp only [Act.put, List.setIfInBounds_toArray, List.set_cons_zero, List.set_cons_succ]
            refine skip_one 4 66 rfl rfl (by kernel_rfl) (by kernel_rfl) (by kernel_rfl) (fun _ _ _ h => h) (unwanted (c := true) rfl rfl (by simp) rfl) hHeld ?_
            try simp only [Act.put, List.setIfInBounds_toArray, List.set_cons_zero, List.set_cons_succ]
            refine skip_one 5 67 rfl rfl (by kernel_rfl) (by kernel_rfl) (by kernel_rfl) (fun _ _ _ h => h) (unwanted (c := true) rfl rfl (by simp) rfl) hHeld ?_
            try simp only [Act.put, List.setIfInBounds_toArray, List.set_cons_zero, List.set_cons_succ]
            refine skip_one 6 68 rfl rfl (by kernel_rfl) (by kernel_rfl) (by kernel_rfl) (fun _ _ _ h => h) (unwanted (c := true) rfl rfl (by simp) rfl) hHeld ?_
            try simp only [Act.put, List.setIfInBounds_toArray, List.set_cons_zero, List.set_cons_succ]
            refine skip_one 7 69 rfl rfl (by kernel_rfl) (by kernel_rfl) (by kernel_rfl) (fun _ _ _ h => h) (unwanted (c := true) rfl rfl (by simp) rfl) hHeld ?_
            try simp only [Act.put, List.setIfInBounds_toArray, List.set_cons_zero, List.set_cons_succ]
            refine skip_one 8 70 rfl rfl (by kernel_rfl) (by kernel_rfl) (by kernel_rfl) (fun _ _ _ h => h) (unwanted (c := true) rfl rfl (by simp) rfl) hHeld ?_
            try simp only [Act.put, List.setIfInBounds_toArray, List.set_cons_zero, List.set_cons_succ]
            refine skip_one 9 71 rfl rfl (by kernel_rfl) (by kernel_rfl) (by kernel_rfl) (fun _ _ _ h => h) (unwanted (c := true) rfl rfl (by simp) rfl) hHeld ?_
            try simp only [Act.put, List.setIfInBounds_toArray, List.set_cons_zero, List.set_cons_succ]
            refine skip_one 10 72 rfl rfl (by kernel_rfl) (by kernel_rfl) (by kernel_rfl) (fun _ _ _ h => h) (unwanted_undef rfl rfl (by simp)) hHeld ?_
            try simp only [Act.put, List.setIfInBounds_toArray, List.set_cons_zero, List.set_cons_succ]
            refine skip_one 11 73 rfl rfl (by kernel_rfl) (by kernel_rfl) (by kernel_rfl) (fun _ _ _ h => h) (unwanted_undef rfl rfl (by simp)) hHeld ?_
            try simp only [Act.put, List.setIfInBounds_toArray, List.set_cons_zero, List.set_cons_succ]
            refine skip_one 12 74 rfl rfl (by kernel_rfl) (by kernel_rfl) (by kernel_rfl) (fun _ _ _ h => h) (unwanted_undef rfl rfl (by simp)) hHeld ?_
            try simp only [Act.put, List.setIfInBounds_toArray, List.set_cons_zero, List.set_cons_succ]
            refine skip_one 13 75 rfl rfl (by kernel_rfl) (by kernel_rfl) (by kernel_rfl) (fun _ _ _ h => h) (unwanted (c := true) rfl rfl (by simp) rfl) hHeld ?_
            try simp only [Act.put, List.setIfInBounds_toArray, List.set_cons_zero, List.set_cons_succ]
            refine skip_one 14 76 rfl rfl (by kernel_rfl) (by kernel_rfl) (by kernel_rfl) (fun _ _ _ h => h) (unwanted (c := true) rfl rfl (by simp) rfl) hHeld ?_
            try simp only [Act.put, List.setIfInBounds_toArray, List.set_cons_zero, List.set_cons_succ]
            refine take_one 15 77 (v := ?_) rfl rfl (by kernel_rfl) (by kernel_rfl) (by kernel_rfl) (fun _ _ _ h => h) (Or.inl ⟨by rfl, ?_⟩) hHeld ?_
            rotate_left
            · intro w' hSw; (try dsimp only at hSw); have u0 := hSw.at 0 rfl; have u1 := hSw.at 1 rfl; go_simp; try with_reducible rfl
            try simp only [Act.put, List.setIfInBounds_toArray, List.set_cons_zero, List.set_cons_succ]
            refine take_one 16 2 (v := ?_) rfl rfl (by kernel_rfl) (by kernel_rfl) (by kernel_rfl) (fun _ _ _ h => h) (Or.inl ⟨by rfl, ?_⟩) hHeld ?_
            rotate_left
            · intro w' hSw; (try dsimp only at hSw); have u0 := hSw.at 0 rfl; have u1 := hSw.at 1 rfl; go_simp; try with_reducible rfl
            try simp only [Act.put, List.setIfInBounds_toArray, List.set_cons_zero, List.set_cons_succ]
            refine wpAnyH_done (by kernel_rfl) ?_ _
            clear hHeld
            go_wp2
            go_ret
            exact ⟨rfl, BB⟩
          · have hne := ne_nil ll (by omega)
            have HB : Hid ((isT ll = true ∧ CanB xs ks ll) ↔ SeenT xs ks ll ∨ CanB xs ks t) := by have := built_list h0 h1 ia k97 (by rw [hll]; exact h2); rw [hll] at this; exact this
            have QBD := QB.drew
            have BBD := BB.drew
            have xrD : RowAt _ w42.drew _ _ := xr
            have krD : RowAt _ w42.drew _ _ := kr
            clear QB BB xr kr kk
            have QB := QBD
            have BB := BBD
            have xr := xrD
            have kr := krD
            clear QBD BBD xrD krD
            go_wp2_with fail
            refine wp_region_held_drew (S := (fun Vw => Blk w1.heap.size [.slice a1 xs.length c1, .slice b1 ks.length d1] Vw)) (by kernel_rfl) QB (fun hHeld => ?_)
            refine take_one 0 62 (v := ?_) rfl rfl (by kernel_rfl) (by kernel_rfl) (by kernel_rfl) (fun _ _ _ h => h) (Or.inl ⟨by rfl, ?_⟩) hHeld ?_
            rotate_left
            · intro w' hSw; (try dsimp only at hSw); have u0 := hSw.at 0 rfl; have u1 := hSw.at 1 rfl; go_simp; try with_reducible rfl
            try simp only [Act.put, List.setIfInBounds_toArray, List.set_cons_zero, List.set_cons_succ]
            refine take_one 1 63 (v := ?_) rfl rfl (by kernel_rfl) (by kernel_rfl) (by kernel_rfl) (fun _ _ _ h => h) (Or.inl ⟨by rfl, ?_⟩) hHeld ?_
            rotate_left
            · intro w' hSw; (try dsimp only at hSw); have u0 := hSw.at 0 rfl; have u1 := hSw.at 1 rfl; go_simp; try with_reducible rfl
            try simp only [Act.put, List.setIfInBounds_toArray, List.set_cons_zero, List.set_cons_succ]
            refine take_one 2 64 (v := ?_) rfl rfl (by kernel_rfl) (by kernel_rfl) (by kernel_rfl) (fun _ _ _ h => h) (Or.inl ⟨by rfl, ?_⟩) hHeld ?_
            rotate_left
            · intro w' hSw; (try dsimp only at hSw); have u0 := hSw.at 0 rfl; have u1 := hSw.at 1 rfl; go_simp; try with_reducible rfl
            try simp only [Act.put, List.setIfInBounds_toArray, List.set_cons_zero, List.set_cons_succ]
            refine take_one 3 65 (v := ?_) rfl rfl (by kernel_rfl) (by kernel_rfl) (by kernel_rfl) (fun _ _ _ h => h) (Or.inl ⟨by rfl, ?_⟩) hHeld ?_
            rotate_left
            · intro w' hSw; (try dsimp only at hSw); have u0 := hSw.at 0 rfl; have u1 := hSw.at 1 rfl; go_simp; try with_reducible rfl
            try simp only [Act.put, List.setIfInBounds_toArray, List.set_cons_zero, List.set_cons_succ]
            refine take_one 4 66 (v := ?_) rfl rfl (by kernel_rfl) (by kernel_rfl) (by kernel_rfl) (fun _ _ _ h => h) (Or.inl ⟨by rfl, ?_⟩) hHeld ?_
            rotate_left
            · intro w' hSw; (try dsimp only at hSw); have u0 := hSw.at 0 rfl; have u1 := hSw.at 1 rfl; go_simp; try with_reducible rfl
            try simp only [Act.put, List.setIfInBounds_toArray, List.set_cons_zero, List.set_cons_succ]
            refine take_one 6 68 (v := ?_) rfl rfl (by kernel_rfl) (by kernel_rfl) (by kernel_rfl) (fun _ _ _ h => h) (Or.inl ⟨by rfl, ?_⟩) hHeld ?_
            rotate_left
            · intro w' hSw; (try dsimp only at hSw); have u0 := hSw.at 0 rfl; have u1 := hSw.at 1 rfl; go_simp; try with_reducible rfl
            try simp only [Act.put, List.setIfInBounds_toArray, List.set_cons_zero, List.set_cons_succ]
            refine take_one 7 69 (v := ?_) rfl rfl (by kernel_rfl) (by kernel_rfl) (by kernel_rfl) (fun _ _ _ h => h) (Or.inl ⟨by rfl, ?_⟩) hHeld ?_
            rotate_left
            · intro w' hSw; (try dsimp only at hSw); have u0 := hSw.at 0 rfl; have u1 := hSw.at 1 rfl; go_simp; try with_reducible rfl
            try simp only [Act.put, List.setIfInBounds_toArray, List.set_cons_zero, List.set_cons_succ]
            refine wpAnyH_ready (rs := [5]) (by kernel_rfl) (by simp) ?_
            refine AllReadyH.cons (i := 5) rfl (fun K hK => ?_) AllReadyH.nil
            go_simp
            refine (impl_build a1 b1 c1 d1 xs ks ll _ xr kr lx2 lk2 hc1 hs2 zl).mono ?_
            rintro en v1 ⟨v, rfl, hv, hbv1⟩
            have QBN := QB.later hbv1 QB.lt
            have xrN := xr.later hbv1
            have krN := kr.later hbv1
            have BBN := BB.trans (hbv1.mono BB.size)
            clear QB xr kr BB hbv1
            have QB := QBN
            have xr := xrN
            have kr := krN
            have BB := BBN
            clear QBN xrN krN BBN
            go_wp2_with fail
            refine hK.out _ _ QB (fun hHeld2 => ?_)
            clear hK K hHeld
            have hHeld := hHeld2
            clear hHeld2
            try simp only [Act.put, List.setIfInBounds_toArray, List.set_cons_zero, List.set_cons_succ]
            refine wpAnyH_ready (rs := [8]) (by kernel_rfl) (by simp) ?_
            refine AllReadyH.cons (i := 8) rfl (fun K hK => ?_) AllReadyH.nil
            go_simp
            refine (spec_seesN a1 b1 c1 d1 xs ks ll _ xr kr lx2 lk2 hc1 hs2).mono ?_
            rintro en v2 ⟨b2, rfl, hb2, hbv2⟩
            have QBN := QB.later hbv2 QB.lt
            have xrN := xr.later hbv2
            have krN := kr.later hbv2
            have BBN := BB.trans (hbv2.mono BB.size)
            clear QB xr kr BB hbv2
            have QB := QBN
            have xr := xrN
            have kr := krN
            have BB := BBN
            clear QBN xrN krN BBN
            have HS2 : Hid (b2 = true ↔ SeenT xs ks ll) := ⟨fun h => (hb2.1 h).2, fun h => hb2.2 ⟨h0, h⟩⟩
            clear hb2
            go_wp2_with fail
            refine hK.out _ _ QB (fun hHeld2 => ?_)
            clear hK K hHeld
            have hHeld := hHeld2
            clear hHeld2
            try simp only [Act.put, List.setIfInBounds_toArray, List.set_cons_zero, List.set_cons_succ]
            cases b2 with
            | true =>
              obtain rfl := true_of hv ⟨h0, HB.out.2 (Or.inl (HS2.out.1 (by trivial)))⟩
              clear hv
              refine take_one 9 71 (v := ?_) rfl rfl (by kernel_rfl) (by kernel_rfl) (by kernel_rfl) (fun _ _ _ h => h) (Or.inl ⟨by rfl, ?_⟩) hHeld ?_
              rotate_left
              · intro w' hSw; (try dsimp only at hSw); have u0 := hSw.at 0 rfl; have u1 := hSw.at 1 rfl; go_simp; try with_reducible rfl
              try simp only [Act.put, List.setIfInBounds_toArray, List.set_cons_zero, List.set_cons_succ]
              refine skip_one 10 72 rfl rfl (by kernel_rfl) (by kernel_rfl) (by kernel_rfl) (fun _ _ _ h => h) (unwanted (c := true) rfl rfl (by simp) rfl) hHeld ?_
              try simp only [Act.put, List.setIfInBounds_toArray, List.set_cons_zero, List.set_cons_succ]
              refine skip_one 11 73 rfl rfl (by kernel_rfl) (by kernel_rfl) (by kernel_rfl) (fun _ _ _ h => h) (unwanted (c := true) rfl rfl (by simp) rfl) hHeld ?_
              try simp only [Act.put, List.setIfInBounds_toArray, List.set_cons_zero, List.set_cons_succ]
              refine skip_one 12 74 rfl rfl (by kernel_rfl) (by kernel_rfl) (by kernel_rfl) (fun _ _ _ h => h) (unwanted (c := true) rfl rfl (by simp) rfl) hHeld ?_
              try simp only [Act.put, List.setIfInBounds_toArray, List.set_cons_zero, List.set_cons_succ]
              refine take_one 13 75 (v := ?_) rfl rfl (by kernel_rfl) (by kernel_rfl) (by kernel_rfl) (fun _ _ _ h => h) (Or.inl ⟨by rfl, ?_⟩) hHeld ?_
              rotate_left
              · intro w' hSw; (try dsimp only at hSw); have u0 := hSw.at 0 rfl; have u1 := hSw.at 1 rfl; go_simp; try with_reducible rfl
              try simp only [Act.put, List.setIfInBounds_toArray, List.set_cons_zero, List.set_cons_succ]
              refine take_one 14 76 (v := ?_) rfl rfl (by kernel_rfl) (by kernel_rfl) (by kernel_rfl) (fun _ _ _ h => h) (Or.inl ⟨by rfl, ?_⟩) hHeld ?_
              rotate_left
              · intro w' hSw; (try dsimp only at hSw); have u0 := hSw.at 0 rfl; have u1 := hSw.at 1 rfl; go_simp; try with_reducible rfl
              try simp only [Act.put, List.setIfInBounds_toArray, List.set_cons_zero, List.set_cons_succ]
              refine take_one 15 77 (v := ?_) rfl rfl (by kernel_rfl) (by kernel_rfl) (by kernel_rfl) (fun _ _ _ h => h) (Or.inl ⟨by rfl, ?_⟩) hHeld ?_
              rotate_left
              · intro w' hSw; (try dsimp only at hSw); have u0 := hSw.at 0 rfl; have u1 := hSw.at 1 rfl; go_simp; try with_reducible rfl
              try simp only [Act.put, List.setIfInBounds_toArray, List.set_cons_zero, List.set_cons_succ]
              refine take_one 16 2 (v := ?_) rfl rfl (by kernel_rfl) (by kernel_rfl) (by kernel_rfl) (fun _ _ _ h => h) (Or.inl ⟨by rfl, ?_⟩) hHeld ?_
              rotate_left
              · intro w' hSw; (try dsimp only at hSw); have u0 := hSw.at 0 rfl; have u1 := hSw.at 1 rfl; go_simp; try with_reducible rfl
              try simp only [Act.put, List.setIfInBounds_toArray, List.set_cons_zero, List.set_cons_succ]
              refine wpAnyH_done (by kernel_rfl) ?_ _
              clear hHeld
              go_wp2
              go_ret
              exact ⟨rfl, BB⟩
            | false =>
              refine take_one 9 71 (v := ?_) rfl rfl (by kernel_rfl) (by kernel_rfl) (by kernel_rfl) (fun _ _ _ h => h) (Or.inl ⟨by rfl, ?_⟩) hHeld ?_
              rotate_left
              · intro w' hSw; (try dsimp only at hSw); have u0 := hSw.at 0 rfl; have u1 := hSw.at 1 rfl; go_simp; try with_reducible rfl
              try simp only [Act.put, List.setIfInBounds_toArray, List.set_cons_zero, List.set_cons_succ]
              refine take_one 10 72 (v := ?_) rfl rfl (by kernel_rfl) (by kernel_rfl) (by kernel_rfl) (fun _ _ _ h => h) (Or.inl ⟨by rfl, ?_⟩) hHeld ?_
              rotate_left
              · intro w' hSw; (try dsimp only at hSw); have u0 := hSw.at 0 rfl; have u1 := hSw.at 1 rfl; go_simp; try with_reducible rfl
              try simp only [Act.put, List.setIfInBounds_toArray, List.set_cons_zero, List.set_cons_succ]
              refine take_one 11 73 (v := ?_) rfl rfl (by kernel_rfl) (by kernel_rfl) (by kernel_rfl) (fun _ _ _ h => h) (Or.inl ⟨by rfl, ?_⟩) hHeld ?_
              rotate_left
              · intro w' hSw; (try dsimp only at hSw); have u0 := hSw.at 0 rfl; have u1 := hSw.at 1 rfl; go_simp; try with_reducible rfl
              try simp only [Act.put, List.setIfInBounds_toArray, List.set_cons_zero, List.set_cons_succ]
              refine wpAnyH_ready (rs := [12]) (by kernel_rfl) (by simp) ?_
              refine AllReadyH.cons (i := 12) rfl (fun K hK => ?_) AllReadyH.nil
              go_simp
              refine (spec_buildN a1 b1 c1 d1 xs ks t _ xr kr lx2 lk2 hc1 hs2 tz2).mono ?_
              rintro en v3 ⟨b4, rfl, hb4, hbv3⟩
              have QBN := QB.later hbv3 QB.lt
              have xrN := xr.later hbv3
              have krN := kr.later hbv3
              have BBN := BB.trans (hbv3.mono BB.size)
              clear QB xr kr BB hbv3
              have QB := QBN
              have xr := xrN
              have kr := krN
              have BB := BBN
              clear QBN xrN krN BBN
              obtain rfl : v = b4 := by
                rw [Bool.eq_iff_iff, hv, hb4.out]
                constructor
                · intro h
                  rcases HB.out.1 h.2 with k | k
                  · have := HS2.out.2 k; cases this
                  · exact ⟨h0, h1, k⟩
                · intro h
                  exact ⟨h0, HB.out.2 (Or.inr h.2.2)⟩
              clear hv hb4
              go_wp2_with fail
              refine hK.out _ _ QB (fun hHeld2 => ?_)
              clear hK K hHeld
              have hHeld := hHeld2
              clear hHeld2
              try simp only [Act.put, List.setIfInBounds_toArray, List.set_cons_zero, List.set_cons_succ]
              refine take_one 13 75 (v := ?_) rfl rfl (by kernel_rfl) (by kernel_rfl) (by kernel_rfl) (fun _ _ _ h => h) (Or.inl ⟨by rfl, ?_⟩) hHeld ?_
              rotate_left
              · intro w' hSw; (try dsimp only at hSw); have u0 := hSw.at 0 rfl; have u1 := hSw.at 1 rfl; go_simp; try with_reducible rfl
              try simp only [Act.put, List.setIfInBounds_toArray, List.set_cons_zero, List.set_cons_succ]
              refine take_one 14 76 (v := .bool true) rfl rfl (by kernel_rfl) (by kernel_rfl) (by kernel_rfl) (fun _ _ _ h => h) (Or.inl ⟨by rfl, ?_⟩) hHeld ?_
              · intro w' hSw; (try dsimp only at hSw); go_simp; all_goals (cases v <;> rfl)
              try simp only [Act.put, List.setIfInBounds_toArray, List.set_cons_zero, List.set_cons_succ]
              refine take_one 15 77 (v := ?_) rfl rfl (by kernel_rfl) (by kernel_rfl) (by kernel_rfl) (fun _ _ _ h => h) (Or.inl ⟨by rfl, ?_⟩) hHeld ?_
              rotate_left
              · intro w' hSw; (try dsimp only at hSw); have u0 := hSw.at 0 rfl; have u1 := hSw.at 1 rfl; go_simp; try with_reducible rfl
              try simp only [Act.put, List.setIfInBounds_toArray, List.set_cons_zero, List.set_cons_succ]
              refine take_one 16 2 (v := ?_) rfl rfl (by kernel_rfl) (by kernel_rfl) (by kernel_rfl) (fun _ _ _ h => h) (Or.inl ⟨by rfl, ?_⟩) hHeld ?_
              rotate_left
              · intro w' hSw; (try dsimp only at hSw); have u0 := hSw.at 0 rfl; have u1 := hSw.at 1 rfl; go_simp; try with_reducible rfl
              try simp only [Act.put, List.setIfInBounds_toArray, List.set_cons_zero, List.set_cons_succ]
              refine wpAnyH_done (by kernel_rfl) ?_ _
              clear hHeld
              go_wp2
              go_ret
              exact ⟨rfl, BB⟩
    · rw [Bool.not_eq_true] at h1
      rw [h1]
      have u0 := QB.at 0 rfl
      have u1 := QB.at 1 rfl
      have HX := impl_build a1 b1 c1 d1 xs ks t w4 xr kr lx2 lk2 hc1 hs2 tz2
      go_wp2_with fail
      refine HX.mono ?_
      clear HX u0 u1
      rintro en w5 ⟨v, rfl, hv, hb⟩
      have QBN := QB.later hb QB.lt
      have xrN := RowAt.later xr hb
      have krN := RowAt.later kr hb
      have BBN := BB.trans (hb.mono BB.size)
      clear QB xr kr BB
      have QB := QBN
      have xr := xrN
      have kr := krN
      have BB := BBN
      clear QBN xrN krN BBN
      clear hb
      obtain rfl := false_of hv (by rintro ⟨_, k, _⟩; rw [h1] at k; cases k)
      clear hv
      go_wp2
      go_ret
      exact ⟨rfl, BB⟩
  · rw [Bool.not_eq_true] at h0
    rw [h0]
    have u0 := QB.at 0 rfl
    have u1 := QB.at 1 rfl
    have HX := impl_build a1 b1 c1 d1 xs ks t w3 xr kr lx2 lk2 hc1 hs2 tz2
    go_wp2_with fail
    refine HX.mono ?_
    clear HX u0 u1
    rintro en w4 ⟨v, rfl, hv, hb⟩
    have QBN := QB.later hb QB.lt
    have xrN := RowAt.later xr hb
    have krN := RowAt.later kr hb
    have BBN := BB.trans (hb.mono BB.size)
    clear QB xr kr BB
    have QB := QBN
    have xr := xrN
    have kr := krN
    have BB := BBN
    clear QBN xrN krN BBN
    clear hb
    obtain rfl := false_of hv (by rintro ⟨k, _, _⟩; rw [h0] at k; cases k)
    clear hv
    go_wp2
    go_ret
    exact ⟨rfl, BB⟩

end Go.Proofs.Ytkekfogepdhjhaa
