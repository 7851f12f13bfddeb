/- Tables that are drawn. -/
import Derived.Test.YtkfjpgkpmdbnoaaTd1
import Derived.Test.YtkfjpgkpmdbnoaaTk1
import Derived.Test.YtkfjpgkpmdbnoaaAd0
import Derived.Test.YtkfjpgkpmdbnoaaDrawSpoil
import Derived.Test.YtkfjpgkpmdbnoaaCu
import Derived.Test.YtkfjpgkpmdbnoaaReg
import Derived.Test.YtkfjpgkpmdbnoaaRg1
import Derived.Maps.AppendAt
set_option linter.unusedVariables false
set_option maxRecDepth 100000
namespace Go.Proofs.Ytkfjpgkpmdbnoaa
open Go Go.RowKit Go.Joins Own Draw

theorem cu_grown {p len cap : Nat} {a : Option Addr} {zs : List Int} {W w w' : World} {row : Option Nat} (h : Cu p a len cap zs W w) (hp : p < W.heap.size) (hg : w.grownBy w' row) (hr : ∀ k, row = some k → W.heap.size ≤ k) : Cu p a len cap zs W w' := by
  obtain ⟨⟨s, h⟩, k⟩ := h
  exact ⟨⟨s, h.grown hg (fun j hj => by have := hr j hj; omega)⟩, hg.os.trans k.os, hg.tape.trans k.tape, hg.output.trans k.output, Nat.le_trans k.size hg.size, fun j hj hn => (hg.block j (Nat.lt_of_lt_of_le hj k.size) (fun e => by have := hr j e.symm; omega)).trans (k.block j hj hn)⟩
theorem newW (a : Option Addr) (len cap : Nat) (zs : List Int) (W : World) (hz : CodeAt W W.heap.size a len zs) :
    Calls Try.prog 36 #[.slice a len cap] W fun e w' => e = .returned (.pointer (some ⟨W.heap.size, 0, none⟩)) ∧ Cu W.heap.size a len cap zs w' w' ∧ Below W.heap.size W w' := by
  refine (new_go a len cap zs W hz).mono ?_
  rintro e w' ⟨rfl, h1, h2, h3⟩
  exact ⟨rfl, Cu.start ⟨h1, hz.below h2, Nat.zero_le _⟩, h2⟩
theorem spoilW {p : Nat} {a : Option Addr} {len cap : Nat} {zs : List Int} {w : World} (t : ByteArray) (h : Cu p a len cap zs w w) (ht : t.size ≤ 1000) :
    Calls Try.prog 50 #[.pointer (some ⟨p, 0, none⟩), .string t] w fun e w' => ∃ s : ByteArray, e = .returned (.string s) ∧ s.size ≤ 1004 ∧ Cu p a len cap zs w w' := by
  obtain ⟨⟨s, h⟩, _⟩ := h
  refine (spoilD p a len cap zs s w t h ht).mono ?_
  rintro e w' ⟨rfl, ⟨s', d⟩, o⟩
  exact ⟨_, rfl, Nat.le_trans (spoilV_size zs len t s) (by omega), ⟨s', d⟩, o⟩
theorem ad_one (xs : List TS) (who key : Int) : (adT xs who key).1.length ≤ xs.length + 1 := by
  cases ht : tabB xs with
  | true =>
    have hp := pu_len xs (nwS xs who key)
    rw [ad_same ht]
    split
    · show (puT xs (nwS xs who key)).length ≤ xs.length + 1; omega
    · exact Nat.le_succ _
  | false =>
    rw [adT_bad ht]
    exact Nat.zero_le _
theorem fl_set {α : Type} {s : Nat} {f : α → List Value} (hs : ∀ x, (f x).length = s) : ∀ (xs : List α) (k : Nat) (h : k < xs.length) (i : Nat) (hi : i < s) (v : Value) (y : α), f y = (f xs[k]).set i v → (fl f xs).set (k * s + i) v = fl f (xs.set k y)
  | x :: xs, 0, h, i, hi, v, y, hy => by
    rw [fl_cons, Nat.zero_mul, Nat.zero_add, List.set_append_left _ _ (by rw [hs]; exact hi)]
    show (f x).set i v ++ fl f xs = fl f (y :: xs)
    rw [fl_cons, hy]
    rfl
  | x :: xs, k + 1, h, i, hi, v, y, hy => by
    have e : (k + 1) * s + i = s + (k * s + i) := by rw [Nat.succ_mul]; omega
    rw [fl_cons, e, List.set_append_right _ _ (by rw [hs]; omega), hs, Nat.add_sub_cancel_left, fl_set hs xs k (by simpa using h) i hi v y hy]
    rfl
/-- One field of one slot is another one. -/
theorem put_own {W : World} {B cap : Nat} {oa : Option Addr} {ys : List TS} (ro : FOwn 31 3 cS B oa cap ys W) (k : Nat) (hk : k < ys.length) (i : Nat) (hi : i < 3) (y : TS) (z : Int) (hy : cS y = (cS ys[k]).set i (.int .i64 z)) :
    ∃ g, oa = some ⟨g, 0, none⟩ ∧ B ≤ g ∧ (∃ v, W.cell? ⟨g, k * 3 + i, none⟩ = some v) ∧ W.frozen? ⟨g, k * 3 + i, none⟩ = false ∧ FOwn 31 3 cS B oa cap (ys.set k y) (W.setCell ⟨g, k * 3 + i, none⟩ (.int .i64 z)) := by
  rcases ro.2 with ⟨_, e0⟩ | ⟨g, c, cur, e, _⟩
  · omega
  · injection e with e1 _ e3
    subst e1 e3
    have hl : (fl cS ys).length = ys.length * 3 := fl_len lS ys
    have hb := (ro.lt g rfl).1
    refine ⟨g, rfl, hb, ?_, World.ownsRow.frozenAt ro _, ?_⟩
    · rw [World.ownsRow.cellAt ro _ (by omega)]
      exact ⟨_, List.getElem?_eq_getElem (by omega)⟩
    · have h1 := (World.ownsRow.stored ro (k * 3 + i) (.int .i64 z)).1
      rw [fl_set lS ys k hk i hi _ y hy] at h1
      unfold FOwn
      rw [List.length_set]
      exact h1
/-- A table that is drawn: right or not, in memory of its own, small. -/
def SomeP (p : Nat) (ad : Option Addr) (len cap : Nat) (zs : List Int) (W : World) (e : Ending) (w' : World) : Prop :=
  ∃ (ra : Option Addr) (rc : Nat) (ys : List TS), e = .returned (.slice ra ys.length rc) ∧ ys.length ≤ 11 ∧ FOwn 31 3 cS W.heap.size ra rc ys w' ∧ Cu p ad len cap zs W w'
set_option maxRecDepth 100000 in
set_option maxHeartbeats 25600000 in
theorem some_is {p len cap : Nat} {ad : Option Addr} {zs : List Int} (W : World) (h : Cu p ad len cap zs W W) :
    Calls Try.prog 38 #[.pointer (some ⟨p, 0, none⟩)] W fun e w' => SomeP p ad len cap zs W e w' := by
  have hpW := h.lt
  obtain ⟨V0, hV0⟩ : ∃ V, W.alloc (.cells #[] 31) = V := ⟨_, rfl⟩
  have ro : FOwn 31 3 cS W.heap.size (some ⟨W.heap.size, 0, none⟩) 0 [] V0 := by rw [← hV0]; exact World.ownsRow_lit _ _ _ (Nat.le_refl _) (by simp [maxLen]) rfl
  have CC : Cu p ad len cap zs W V0 := by rw [← hV0]; exact h.alloc _
  clear h
  go_enter Try.func38, Try.ntmps38
  have HX := belowW 12 CC.here (by omega) (by omega)
  go_wp2_with fail
  try rw [hV0]
  refine HX.mono ?_
  clear HX hV0
  rintro en w1 ⟨x, rfl, xa, xb, C⟩
  replace ro := own_only ro C.2 (by omega)
  replace CC := CC.next C
  clear C
  obtain ⟨m, rfl⟩ := Int.eq_ofNat_of_zero_le xa
  have hm : m ≤ 11 := by omega
  clear xa xb
  go_wp2
  go_loopw [3, 4, 5] (fun tv kv nv wr => ∃ (n key : Nat) (oa : Option Addr) (oc : Nat) (ys : List TS), kv = .int .i64 (key : Int) ∧ nv = .int .i64 (n : Int) ∧ tv = .slice oa ys.length oc ∧ ys.length + n ≤ 11 ∧ key + 2 * n ≤ 27 ∧ FOwn 31 3 cS W.heap.size oa oc ys wr ∧ Cu p ad len cap zs W wr) (fun _ _ nv _ => (intOf nv).toNat)
  case atStart => exact ⟨m, 5, some ⟨W.heap.size, 0, none⟩, 0, [], rfl, rfl, rfl, by simpa using hm, by omega, ro, CC⟩
  case round =>
    clear ro CC hm
    obtain ⟨n, key, oa, oc, ys, rfl, rfl, rfl, hle, hkey, ro, CC⟩ := hrel
    cases n with
    | succ n =>
      have hn0 : (0 : Int) < ((n + 1 : Nat) : Int) := by omega
      have HX := belowW 4 CC.here (by omega) (by omega)
      go_wp2_with fail
      refine HX.mono ?_
      clear HX
      rintro en w2 ⟨x, rfl, xa, xb, C⟩
      replace ro : FOwn 31 3 cS W.heap.size oa oc ys w2 := own_only ro C.2 (by omega)
      replace CC := CC.next C
      clear C
      have K := specAdd_is oa oc ys x (key : Int) w2 (FOwn.row lS ro) (by omega)
      have hl := ad_one ys x (key : Int)
      generalize adT ys x (key : Int) = f at K hl
      obtain ⟨zs2, ub⟩ := f
      dsimp only at K hl
      go_wp2_with fail
      refine K.mono ?_
      clear K
      rintro en w3 ⟨na, nc, rfl, rn, hb⟩
      have hws : W.heap.size ≤ w2.heap.size := CC.size
      replace rn : FOwn 31 3 cS W.heap.size na nc zs2 w3 := ownsRow_le rn hws
      replace CC := CC.under hb
      clear hb ro xa xb hws
      have HX := belowW 2 CC.here (by omega) (by omega)
      go_wp2_with fail
      refine HX.mono ?_
      clear HX
      rintro en w4 ⟨y, rfl, ya, yb, C⟩
      replace rn : FOwn 31 3 cS W.heap.size na nc zs2 w4 := own_only rn C.2 (by omega)
      replace CC := CC.next C
      clear C
      obtain ⟨y, rfl⟩ := Int.eq_ofNat_of_zero_le ya
      go_wp2
      go_roundw
      case rel => exact ⟨n, key + 1 + y, na, nc, zs2, by go_num, by go_num, rfl, by omega, by omega, rn, CC⟩
      case measure => simp [intOf]
    | zero =>
      have hn0 : ¬ (0 : Int) < ((0 : Nat) : Int) := by omega
      clear hkey
      have HX := onceW 4 CC.here (by omega)
      go_wp2_with fail
      refine HX.mono ?_
      rintro en w21 ⟨bk, rfl, C⟩
      replace ro : FOwn 31 3 cS W.heap.size oa oc ys w21 := own_only ro C.2 (by omega)
      replace CC := CC.next C
      clear C HX
      cases bk with
      | false =>
        by_cases h0 : ys.length = 0
        · have hz0 : ¬ (0 : Int) < (ys.length : Int) := by omega
          clear h0
          go_wp2
          go_ret
          exact ⟨_, _, ys, rfl, hle, ro, CC⟩
        have hz0 : (0 : Int) < (ys.length : Int) := by omega
        have HX := onceW 10 CC.here (by omega)
        go_wp2_with fail
        refine HX.mono ?_
        rintro en w31 ⟨bs, rfl, C⟩
        replace ro : FOwn 31 3 cS W.heap.size oa oc ys w31 := own_only ro C.2 (by omega)
        replace CC := CC.next C
        clear C HX
        cases bs with
        | false =>
          go_wp2
          go_ret
          exact ⟨_, _, ys, rfl, hle, ro, CC⟩
        | true =>
          have HX := belowW (ys.length : Int) CC.here (by omega) (by omega)
          go_wp2_with fail
          refine HX.mono ?_
          rintro en w32 ⟨kk, rfl, kka, kkb, C⟩
          replace ro : FOwn 31 3 cS W.heap.size oa oc ys w32 := own_only ro C.2 (by omega)
          replace CC := CC.next C
          clear C HX
          obtain ⟨k, rfl⟩ := Int.eq_ofNat_of_zero_le kka
          have hk : k < ys.length := by omega
          have HX := belowW 3 CC.here (by omega) (by omega)
          go_wp2_with fail
          refine HX.mono ?_
          rintro en w33 ⟨c, rfl, ca, cb, C⟩
          replace ro : FOwn 31 3 cS W.heap.size oa oc ys w33 := own_only ro C.2 (by omega)
          replace CC := CC.next C
          clear C HX
          by_cases h1 : c = 0
          · have q0 : (c == 0) = true := by rw [beq_iff_eq]; exact h1
            clear h1
            obtain ⟨qL, hqL⟩ : ∃ q_, w33.heap.size = q_ := ⟨_, rfl⟩
            obtain ⟨V34, hV34⟩ : ∃ v, w33.alloc (.cells #[.int .i64 (-1), .int .i64 1, .int .i64 99, .int .i64 100] 3) = v := ⟨_, rfl⟩
            have qLp : p < qL := by have h_ := CC.lt; omega
            have qLW : W.heap.size ≤ qL := by have h_ := CC.size; omega
            have LB : Blk qL [.int .i64 (-1), .int .i64 1, .int .i64 99, .int .i64 100] V34 := by rw [← hV34, ← hqL]; exact Blk.new _ _ _
            replace CC := CC.alloc (.cells #[.int .i64 (-1), .int .i64 1, .int .i64 99, .int .i64 100] 3)
            rw [hV34] at CC
            have HV34 : Hid (w33.alloc (.cells #[.int .i64 (-1), .int .i64 1, .int .i64 99, .int .i64 100] 3) = V34) := hV34
            have HqL : Hid (w33.heap.size = qL) := hqL
            clear hV34 hqL
            replace ro : FOwn 31 3 cS W.heap.size oa oc ys V34 := by rw [← HV34.out]; exact World.ownsRow.alloc ro _
            have HX := pickI qL 4 [-1, 1, 99, 100] CC.here (by omega) (by omega) qLp LB.lt (by decide) LB (by decide)
            go_wp2_with fail
            try rw [HV34.out]
            try rw [HqL.out]
            refine HX.mono ?_
            rintro en w35 ⟨z, rfl, zi, C⟩
            replace LB := LB.only C.2 LB.lt (by omega)
            replace ro : FOwn 31 3 cS W.heap.size oa oc ys w35 := own_only ro C.2 (by omega)
            replace CC := CC.next C
            clear C HX
            clear HV34 HqL
            clear LB
            obtain ⟨g, rfl, hB, ⟨v0, hv0⟩, hf0, RN⟩ := put_own ro k hk 0 (by omega) (z, ys[k].2.1, ys[k].2.2) z rfl
            rw [Nat.add_zero] at hv0 hf0 RN
            have CN := CC.setCell hpW hB (k * 3) (.int .i64 z)
            have HR : SomeP p ad len cap zs W (.returned (.slice (some ⟨g, 0, none⟩) ys.length oc)) (w35.setCell ⟨g, k * 3, none⟩ (.int .i64 z)) := ⟨some ⟨g, 0, none⟩, oc, ys.set k (z, ys[k].2.1, ys[k].2.2), by rw [List.length_set], by rw [List.length_set]; exact hle, RN, CN⟩
            clear RN CN ro CC
            go_wp2
            go_ret
            exact HR
          have q0 : (c == 0) = false := by rw [beq_eq_false_iff_ne]; exact h1
          by_cases h2 : c = 1
          · have q1 : (c == 1) = true := by rw [beq_iff_eq]; exact h2
            clear h1 h2
            obtain ⟨qL, hqL⟩ : ∃ q_, w33.heap.size = q_ := ⟨_, rfl⟩
            obtain ⟨V34, hV34⟩ : ∃ v, w33.alloc (.cells #[.int .i64 0, .int .i64 1, .int .i64 1000, .int .i64 1001] 3) = v := ⟨_, rfl⟩
            have qLp : p < qL := by have h_ := CC.lt; omega
            have qLW : W.heap.size ≤ qL := by have h_ := CC.size; omega
            have LB : Blk qL [.int .i64 0, .int .i64 1, .int .i64 1000, .int .i64 1001] V34 := by rw [← hV34, ← hqL]; exact Blk.new _ _ _
            replace CC := CC.alloc (.cells #[.int .i64 0, .int .i64 1, .int .i64 1000, .int .i64 1001] 3)
            rw [hV34] at CC
            have HV34 : Hid (w33.alloc (.cells #[.int .i64 0, .int .i64 1, .int .i64 1000, .int .i64 1001] 3) = V34) := hV34
            have HqL : Hid (w33.heap.size = qL) := hqL
            clear hV34 hqL
            replace ro : FOwn 31 3 cS W.heap.size oa oc ys V34 := by rw [← HV34.out]; exact World.ownsRow.alloc ro _
            have HX := pickI qL 4 [0, 1, 1000, 1001] CC.here (by omega) (by omega) qLp LB.lt (by decide) LB (by decide)
            go_wp2_with fail
            try rw [HV34.out]
            try rw [HqL.out]
            refine HX.mono ?_
            rintro en w35 ⟨z, rfl, zi, C⟩
            replace LB := LB.only C.2 LB.lt (by omega)
            replace ro : FOwn 31 3 cS W.heap.size oa oc ys w35 := own_only ro C.2 (by omega)
            replace CC := CC.next C
            clear C HX
            clear HV34 HqL
            clear LB
            obtain ⟨g, rfl, hB, ⟨v0, hv0⟩, hf0, RN⟩ := put_own ro k hk 1 (by omega) (ys[k].1, z, ys[k].2.2) z rfl
            have CN := CC.setCell hpW hB (k * 3 + 1) (.int .i64 z)
            have HR : SomeP p ad len cap zs W (.returned (.slice (some ⟨g, 0, none⟩) ys.length oc)) (w35.setCell ⟨g, k * 3 + 1, none⟩ (.int .i64 z)) := ⟨some ⟨g, 0, none⟩, oc, ys.set k (ys[k].1, z, ys[k].2.2), by rw [List.length_set], by rw [List.length_set]; exact hle, RN, CN⟩
            clear RN CN ro CC
            go_wp2
            go_ret
            exact HR
          have q1 : (c == 1) = false := by rw [beq_eq_false_iff_ne]; exact h2
          clear h1 h2
          obtain ⟨qL, hqL⟩ : ∃ q_, w33.heap.size = q_ := ⟨_, rfl⟩
          obtain ⟨V34, hV34⟩ : ∃ v, w33.alloc (.cells #[.int .i64 0, .int .i64 6, .int .i64 1000001] 3) = v := ⟨_, rfl⟩
          have qLp : p < qL := by have h_ := CC.lt; omega
          have qLW : W.heap.size ≤ qL := by have h_ := CC.size; omega
          have LB : Blk qL [.int .i64 0, .int .i64 6, .int .i64 1000001] V34 := by rw [← hV34, ← hqL]; exact Blk.new _ _ _
          replace CC := CC.alloc (.cells #[.int .i64 0, .int .i64 6, .int .i64 1000001] 3)
          rw [hV34] at CC
          have HV34 : Hid (w33.alloc (.cells #[.int .i64 0, .int .i64 6, .int .i64 1000001] 3) = V34) := hV34
          have HqL : Hid (w33.heap.size = qL) := hqL
          clear hV34 hqL
          replace ro : FOwn 31 3 cS W.heap.size oa oc ys V34 := by rw [← HV34.out]; exact World.ownsRow.alloc ro _
          have HX := pickI qL 3 [0, 6, 1000001] CC.here (by omega) (by omega) qLp LB.lt (by decide) LB (by decide)
          go_wp2_with fail
          try rw [HV34.out]
          try rw [HqL.out]
          refine HX.mono ?_
          rintro en w35 ⟨z, rfl, zi, C⟩
          replace LB := LB.only C.2 LB.lt (by omega)
          replace ro : FOwn 31 3 cS W.heap.size oa oc ys w35 := own_only ro C.2 (by omega)
          replace CC := CC.next C
          clear C HX
          clear HV34 HqL
          clear LB
          obtain ⟨g, rfl, hB, ⟨v0, hv0⟩, hf0, RN⟩ := put_own ro k hk 2 (by omega) (ys[k].1, ys[k].2.1, z) z rfl
          have CN := CC.setCell hpW hB (k * 3 + 2) (.int .i64 z)
          have HR : SomeP p ad len cap zs W (.returned (.slice (some ⟨g, 0, none⟩) ys.length oc)) (w35.setCell ⟨g, k * 3 + 2, none⟩ (.int .i64 z)) := ⟨some ⟨g, 0, none⟩, oc, ys.set k (ys[k].1, ys[k].2.1, z), by rw [List.length_set], by rw [List.length_set]; exact hle, RN, CN⟩
          clear RN CN ro CC
          go_wp2
          go_ret
          exact HR
      | true =>
        have HX := belowW 2 CC.here (by omega) (by omega)
        go_wp2_with fail
        refine HX.mono ?_
        rintro en w61 ⟨kx, rfl, kxa, kxb, C⟩
        replace ro : FOwn 31 3 cS W.heap.size oa oc ys w61 := own_only ro C.2 (by omega)
        replace CC := CC.next C
        clear C HX
        have K := specKeep_is oa oc ys (1 + kx) w61 (FOwn.row lS ro) (by omega)
        have hkl := keT_len ys (1 + kx)
        generalize keT ys (1 + kx) = ys2 at K hkl
        go_wp2_with fail
        refine K.mono ?_
        clear K
        rintro en wk ⟨na, nc, rfl, rn, hb⟩
        have hws : W.heap.size ≤ w61.heap.size := CC.size
        replace rn : FOwn 31 3 cS W.heap.size na nc ys2 wk := ownsRow_le rn hws
        replace CC := CC.under hb
        replace hle : ys2.length + 0 ≤ 11 := by omega
        clear hb ro hws hkl
        generalize ys2 = ys at rn hle ⊢
        generalize na = oa at rn ⊢
        generalize nc = oc at rn ⊢
        have ro := rn
        clear rn
        by_cases h0 : ys.length = 0
        · have hz0 : ¬ (0 : Int) < (ys.length : Int) := by omega
          clear h0
          go_wp2
          go_ret
          exact ⟨_, _, ys, rfl, hle, ro, CC⟩
        have hz0 : (0 : Int) < (ys.length : Int) := by omega
        have HX := onceW 10 CC.here (by omega)
        go_wp2_with fail
        refine HX.mono ?_
        rintro en w62 ⟨bs, rfl, C⟩
        replace ro : FOwn 31 3 cS W.heap.size oa oc ys w62 := own_only ro C.2 (by omega)
        replace CC := CC.next C
        clear C HX
        cases bs with
        | false =>
          go_wp2
          go_ret
          exact ⟨_, _, ys, rfl, hle, ro, CC⟩
        | true =>
          have HX := belowW (ys.length : Int) CC.here (by omega) (by omega)
          go_wp2_with fail
          refine HX.mono ?_
          rintro en w63 ⟨kk, rfl, kka, kkb, C⟩
          replace ro : FOwn 31 3 cS W.heap.size oa oc ys w63 := own_only ro C.2 (by omega)
          replace CC := CC.next C
          clear C HX
          obtain ⟨k, rfl⟩ := Int.eq_ofNat_of_zero_le kka
          have hk : k < ys.length := by omega
          have HX := belowW 3 CC.here (by omega) (by omega)
          go_wp2_with fail
          refine HX.mono ?_
          rintro en w64 ⟨c, rfl, ca, cb, C⟩
          replace ro : FOwn 31 3 cS W.heap.size oa oc ys w64 := own_only ro C.2 (by omega)
          replace CC := CC.next C
          clear C HX
          by_cases h1 : c = 0
          · have q0 : (c == 0) = true := by rw [beq_iff_eq]; exact h1
            clear h1
            obtain ⟨qL, hqL⟩ : ∃ q_, w64.heap.size = q_ := ⟨_, rfl⟩
            obtain ⟨V65, hV65⟩ : ∃ v, w64.alloc (.cells #[.int .i64 (-1), .int .i64 1, .int .i64 99, .int .i64 100] 3) = v := ⟨_, rfl⟩
            have qLp : p < qL := by have h_ := CC.lt; omega
            have qLW : W.heap.size ≤ qL := by have h_ := CC.size; omega
            have LB : Blk qL [.int .i64 (-1), .int .i64 1, .int .i64 99, .int .i64 100] V65 := by rw [← hV65, ← hqL]; exact Blk.new _ _ _
            replace CC := CC.alloc (.cells #[.int .i64 (-1), .int .i64 1, .int .i64 99, .int .i64 100] 3)
            rw [hV65] at CC
            have HV65 : Hid (w64.alloc (.cells #[.int .i64 (-1), .int .i64 1, .int .i64 99, .int .i64 100] 3) = V65) := hV65
            have HqL : Hid (w64.heap.size = qL) := hqL
            clear hV65 hqL
            replace ro : FOwn 31 3 cS W.heap.size oa oc ys V65 := by rw [← HV65.out]; exact World.ownsRow.alloc ro _
            have HX := pickI qL 4 [-1, 1, 99, 100] CC.here (by omega) (by omega) qLp LB.lt (by decide) LB (by decide)
            go_wp2_with fail
            try rw [HV65.out]
            try rw [HqL.out]
            refine HX.mono ?_
            rintro en w66 ⟨z, rfl, zi, C⟩
            replace LB := LB.only C.2 LB.lt (by omega)
            replace ro : FOwn 31 3 cS W.heap.size oa oc ys w66 := own_only ro C.2 (by omega)
            replace CC := CC.next C
            clear C HX
            clear HV65 HqL
            clear LB
            obtain ⟨g, rfl, hB, ⟨v0, hv0⟩, hf0, RN⟩ := put_own ro k hk 0 (by omega) (z, ys[k].2.1, ys[k].2.2) z rfl
            rw [Nat.add_zero] at hv0 hf0 RN
            have CN := CC.setCell hpW hB (k * 3) (.int .i64 z)
            have HR : SomeP p ad len cap zs W (.returned (.slice (some ⟨g, 0, none⟩) ys.length oc)) (w66.setCell ⟨g, k * 3, none⟩ (.int .i64 z)) := ⟨some ⟨g, 0, none⟩, oc, ys.set k (z, ys[k].2.1, ys[k].2.2), by rw [List.length_set], by rw [List.length_set]; exact hle, RN, CN⟩
            clear RN CN ro CC
            go_wp2
            go_ret
            exact HR
          have q0 : (c == 0) = false := by rw [beq_eq_false_iff_ne]; exact h1
          by_cases h2 : c = 1
          · have q1 : (c == 1) = true := by rw [beq_iff_eq]; exact h2
            clear h1 h2
            obtain ⟨qL, hqL⟩ : ∃ q_, w64.heap.size = q_ := ⟨_, rfl⟩
            obtain ⟨V65, hV65⟩ : ∃ v, w64.alloc (.cells #[.int .i64 0, .int .i64 1, .int .i64 1000, .int .i64 1001] 3) = v := ⟨_, rfl⟩
            have qLp : p < qL := by have h_ := CC.lt; omega
            have qLW : W.heap.size ≤ qL := by have h_ := CC.size; omega
            have LB : Blk qL [.int .i64 0, .int .i64 1, .int .i64 1000, .int .i64 1001] V65 := by rw [← hV65, ← hqL]; exact Blk.new _ _ _
            replace CC := CC.alloc (.cells #[.int .i64 0, .int .i64 1, .int .i64 1000, .int .i64 1001] 3)
            rw [hV65] at CC
            have HV65 : Hid (w64.alloc (.cells #[.int .i64 0, .int .i64 1, .int .i64 1000, .int .i64 1001] 3) = V65) := hV65
            have HqL : Hid (w64.heap.size = qL) := hqL
            clear hV65 hqL
            replace ro : FOwn 31 3 cS W.heap.size oa oc ys V65 := by rw [← HV65.out]; exact World.ownsRow.alloc ro _
            have HX := pickI qL 4 [0, 1, 1000, 1001] CC.here (by omega) (by omega) qLp LB.lt (by decide) LB (by decide)
            go_wp2_with fail
            try rw [HV65.out]
            try rw [HqL.out]
            refine HX.mono ?_
            rintro en w66 ⟨z, rfl, zi, C⟩
            replace LB := LB.only C.2 LB.lt (by omega)
            replace ro : FOwn 31 3 cS W.heap.size oa oc ys w66 := own_only ro C.2 (by omega)
            replace CC := CC.next C
            clear C HX
            clear HV65 HqL
            clear LB
            obtain ⟨g, rfl, hB, ⟨v0, hv0⟩, hf0, RN⟩ := put_own ro k hk 1 (by omega) (ys[k].1, z, ys[k].2.2) z rfl
            have CN := CC.setCell hpW hB (k * 3 + 1) (.int .i64 z)
            have HR : SomeP p ad len cap zs W (.returned (.slice (some ⟨g, 0, none⟩) ys.length oc)) (w66.setCell ⟨g, k * 3 + 1, none⟩ (.int .i64 z)) := ⟨some ⟨g, 0, none⟩, oc, ys.set k (ys[k].1, z, ys[k].2.2), by rw [List.length_set], by rw [List.length_set]; exact hle, RN, CN⟩
            clear RN CN ro CC
            go_wp2
            go_ret
            exact HR
          have q1 : (c == 1) = false := by rw [beq_eq_false_iff_ne]; exact h2
          clear h1 h2
          obtain ⟨qL, hqL⟩ : ∃ q_, w64.heap.size = q_ := ⟨_, rfl⟩
          obtain ⟨V65, hV65⟩ : ∃ v, w64.alloc (.cells #[.int .i64 0, .int .i64 6, .int .i64 1000001] 3) = v := ⟨_, rfl⟩
          have qLp : p < qL := by have h_ := CC.lt; omega
          have qLW : W.heap.size ≤ qL := by have h_ := CC.size; omega
          have LB : Blk qL [.int .i64 0, .int .i64 6, .int .i64 1000001] V65 := by rw [← hV65, ← hqL]; exact Blk.new _ _ _
          replace CC := CC.alloc (.cells #[.int .i64 0, .int .i64 6, .int .i64 1000001] 3)
          rw [hV65] at CC
          have HV65 : Hid (w64.alloc (.cells #[.int .i64 0, .int .i64 6, .int .i64 1000001] 3) = V65) := hV65
          have HqL : Hid (w64.heap.size = qL) := hqL
          clear hV65 hqL
          replace ro : FOwn 31 3 cS W.heap.size oa oc ys V65 := by rw [← HV65.out]; exact World.ownsRow.alloc ro _
          have HX := pickI qL 3 [0, 6, 1000001] CC.here (by omega) (by omega) qLp LB.lt (by decide) LB (by decide)
          go_wp2_with fail
          try rw [HV65.out]
          try rw [HqL.out]
          refine HX.mono ?_
          rintro en w66 ⟨z, rfl, zi, C⟩
          replace LB := LB.only C.2 LB.lt (by omega)
          replace ro : FOwn 31 3 cS W.heap.size oa oc ys w66 := own_only ro C.2 (by omega)
          replace CC := CC.next C
          clear C HX
          clear HV65 HqL
          clear LB
          obtain ⟨g, rfl, hB, ⟨v0, hv0⟩, hf0, RN⟩ := put_own ro k hk 2 (by omega) (ys[k].1, ys[k].2.1, z) z rfl
          have CN := CC.setCell hpW hB (k * 3 + 2) (.int .i64 z)
          have HR : SomeP p ad len cap zs W (.returned (.slice (some ⟨g, 0, none⟩) ys.length oc)) (w66.setCell ⟨g, k * 3 + 2, none⟩ (.int .i64 z)) := ⟨some ⟨g, 0, none⟩, oc, ys.set k (ys[k].1, ys[k].2.1, z), by rw [List.length_set], by rw [List.length_set]; exact hle, RN, CN⟩
          clear RN CN ro CC
          go_wp2
          go_ret
          exact HR
end Go.Proofs.Ytkfjpgkpmdbnoaa
