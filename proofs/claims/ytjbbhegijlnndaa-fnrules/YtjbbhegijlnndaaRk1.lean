/- Two rules of a kind, joined: the model. -/
import Derived.Test.YtjbbhegijlnndaaRu4
import Derived.Test.YtjbbhegijlnndaaRn0
import Derived.Test.YtjbbhegijlnndaaRd0
import Derived.Lib.MinMax
set_option linter.unusedVariables false
set_option maxRecDepth 100000
namespace Go.Proofs.Ytjbbhegijlnndaa.Nd
open Go Go.RowKit Go.Joins Own Draw Go.Proofs.Ytjbbhegijlnndaa

theorem least_is (a b : Int) (w : World) : Calls Try.prog 101 #[.int .i64 a, .int .i64 b] w fun e w' => e = .returned (.int .i64 (min a b)) ∧ w = w' := by
  by_cases h : a < b
  · have HM : Hid (min a b = a) := by show _ = _; omega
    generalize min a b = m at HM ⊢
    go_enter Try.func101, Try.ntmps101
    go_wp2
    go_ret
    exact ⟨by rw [HM.out]; rfl, rfl⟩
  · have HM : Hid (min a b = b) := by show _ = _; omega
    generalize min a b = m at HM ⊢
    go_enter Try.func101, Try.ntmps101
    go_wp2
    go_ret
    exact ⟨by rw [HM.out]; rfl, rfl⟩
/-- What was met of the numbers below i. -/
def metU (k : Int) (xs ys : List Int) (i : Nat) : List Int := ((List.range i).map Int.ofNat).filter fun n => (xs.contains n && ys.contains n) || (decide (k = 3) && (xs.contains n || ys.contains n))
theorem metU_end (k : Int) (xs ys : List Int) : metU k xs ys 31 = metP k xs ys := rfl
theorem metU_yes {k : Int} {xs ys : List Int} {i : Nat} (h : ((xs.contains (i : Int) && ys.contains (i : Int)) || (decide (k = 3) && (xs.contains (i : Int) || ys.contains (i : Int)))) = true) : metU k xs ys (i + 1) = metU k xs ys i ++ [(i : Int)] := by
  unfold metU
  rw [List.range_succ, List.map_append, List.filter_append]
  congr 1
  show List.filter _ [(i : Int)] = _
  simp only [List.filter_cons, List.filter_nil, h, if_true]
theorem metU_no {k : Int} {xs ys : List Int} {i : Nat} (h : ((xs.contains (i : Int) && ys.contains (i : Int)) || (decide (k = 3) && (xs.contains (i : Int) || ys.contains (i : Int)))) = false) : metU k xs ys (i + 1) = metU k xs ys i := by
  unfold metU
  rw [List.range_succ, List.map_append, List.filter_append]
  show _ ++ List.filter _ [(i : Int)] = _
  simp only [List.filter_cons, List.filter_nil, h, Bool.false_eq_true, if_false, List.append_nil]
theorem metU_len (k : Int) (xs ys : List Int) (i : Nat) : (metU k xs ys i).length ≤ i := by
  unfold metU
  exact Nat.le_trans (List.length_filter_le _ _) (by simp)
theorem news_one (w : World) (v : Value) (t : TypeId) : ∀ j u, [v][j]? = some u → (w.alloc (.cells #[v] t)).cell? ((⟨w.heap.size, 0, none⟩ : Addr).add j) = some u := news_box (Blk.new w #[v] t)
set_option maxHeartbeats 6400000 in
theorem meet_spec (x y : TT) (w : World) (hx : DpT w x) (hy : DpT w y) (okx : okP (stT x) = true) (oky : okP (stT y) = true) (he : y.1 = x.1) :
    Calls Try.prog 83 #[vT x, vT y] w fun e w' => ∃ z : TT, e = .returned (vT z) ∧ stT z = joinP (stT x) (stT y) ∧ OwT w.heap.size w' z ∧ Below w.heap.size w w' := by
  obtain ⟨k, ⟨a, ca, xs⟩, n⟩ := x
  obtain ⟨k2, ⟨b, cb, ys⟩, m⟩ := y
  obtain ⟨rfl⟩ : k2 = k := he
  have hr : RowAt (Value.int .i64) w a xs := hx
  have hg : RowAt (Value.int .i64) w b ys := hy
  clear hx hy
  have lx := ri_len (show riB (-1) xs = true from okP_set okx)
  have ly := ri_len (show riB (-1) ys = true from okP_set oky)
  obtain ⟨ie, hie, his⟩ := info_T
  obtain ⟨i0, hi0, hz0, hz1, hz2⟩ := info_parts infoInt
  have HJ : Hid (joinP (stT (k, (a, ca, xs), n)) (stT (k, (b, cb, ys), m)) = if 4 ≤ k then (k, [], min n m) else (k, metP k xs ys, 0)) := (rfl : joinP (stT (k, (a, ca, xs), n)) (stT (k, (b, cb, ys), m)) = _)
  clear okx oky
  generalize joinP (stT (k, (a, ca, xs), n)) (stT (k, (b, cb, ys), m)) = jv at HJ ⊢
  obtain ⟨V0, hV0⟩ : ∃ V, ((((w.alloc (.cells #[.int .i64 k, .slice a xs.length ca, .int .i64 n] 59)).alloc (.cells #[.int .i64 k, .slice b ys.length cb, .int .i64 m] 59)).alloc (.cells #[.int .i64 0, .slice none 0 0, .int .i64 0] 59)).alloc (.cells #[.int .i64 0, .slice none 0 0, .int .i64 0] 59)) = V := ⟨_, rfl⟩
  have HV0 : Hid (((((w.alloc (.cells #[.int .i64 k, .slice a xs.length ca, .int .i64 n] 59)).alloc (.cells #[.int .i64 k, .slice b ys.length cb, .int .i64 m] 59)).alloc (.cells #[.int .i64 0, .slice none 0 0, .int .i64 0] 59)).alloc (.cells #[.int .i64 0, .slice none 0 0, .int .i64 0] 59)) = V0) := hV0
  have hsV : V0.heap.size = w.heap.size + 4 := by rw [← hV0]; simp
  have TC0 : Blk w.heap.size [.int .i64 k, .slice a xs.length ca, .int .i64 n] V0 := by rw [← hV0]; exact (((Blk.new w #[.int .i64 k, .slice a xs.length ca, .int .i64 n] 59).alloc (by simp) _).alloc (by simp; omega) _).alloc (by simp; omega) _
  have UC0 : Blk (w.heap.size + 1) [.int .i64 k, .slice b ys.length cb, .int .i64 m] V0 := by rw [← hV0]; have h_ := ((Blk.new (w.alloc (.cells #[.int .i64 k, .slice a xs.length ca, .int .i64 n] 59)) #[.int .i64 k, .slice b ys.length cb, .int .i64 m] 59).alloc (by simp) (.cells #[.int .i64 0, .slice none 0 0, .int .i64 0] 59)).alloc (by simp) (.cells #[.int .i64 0, .slice none 0 0, .int .i64 0] 59); simpa using h_
  have RC0 : Blk (w.heap.size + 1 + 1) [.int .i64 0, .slice none 0 0, .int .i64 0] V0 := by rw [← hV0]; have h_ := (Blk.new ((w.alloc (.cells #[.int .i64 k, .slice a xs.length ca, .int .i64 n] 59)).alloc (.cells #[.int .i64 k, .slice b ys.length cb, .int .i64 m] 59)) #[.int .i64 0, .slice none 0 0, .int .i64 0] 59).alloc (by simp) (.cells #[.int .i64 0, .slice none 0 0, .int .i64 0] 59); simpa using h_
  have XC0 : Blk (w.heap.size + 1 + 1 + 1) [.int .i64 0, .slice none 0 0, .int .i64 0] V0 := by rw [← hV0]; have h_ := Blk.new (((w.alloc (.cells #[.int .i64 k, .slice a xs.length ca, .int .i64 n] 59)).alloc (.cells #[.int .i64 k, .slice b ys.length cb, .int .i64 m] 59)).alloc (.cells #[.int .i64 0, .slice none 0 0, .int .i64 0] 59)) #[.int .i64 0, .slice none 0 0, .int .i64 0] 59; simpa using h_
  have BC0 : Below w.heap.size w V0 := by rw [← hV0]; exact ((((Below.refl _ _).alloc (Nat.le_refl _) _).alloc (by simp) _).alloc (by simp; omega) _).alloc (by simp; omega) _
  clear hV0
  obtain ⟨V, hV⟩ : ∃ V, World.setCells V0 (w.heap.size + 1 + 1 + 1) 0 [.int .i64 k, .slice none 0 0, .int .i64 0] = V := ⟨_, rfl⟩
  have TC : Blk w.heap.size [.int .i64 k, .slice a xs.length ca, .int .i64 n] V := by rw [← hV]; exact Blk.farS (by omega) _ 0 _ TC0
  have UC : Blk (w.heap.size + 1) [.int .i64 k, .slice b ys.length cb, .int .i64 m] V := by rw [← hV]; exact Blk.farS (by omega) _ 0 _ UC0
  have RC : Blk (w.heap.size + 1 + 1) [.int .i64 0, .slice none 0 0, .int .i64 0] V := by rw [← hV]; exact Blk.farS (by omega) _ 0 _ RC0
  have XC : Blk (w.heap.size + 1 + 1 + 1) [.int .i64 k, .slice none 0 0, .int .i64 0] V := by rw [← hV]; exact XC0.sets [.int .i64 k, .slice none 0 0, .int .i64 0] rfl
  have BC : Below w.heap.size w V := by rw [← hV]; exact below_sets (by omega) _ 0 _ BC0
  have q0 := (Blk.new w #[.int .i64 k, .slice a xs.length ca, .int .i64 n] 59).at 0 rfl
  have q0b := ((Blk.new w #[.int .i64 k, .slice a xs.length ca, .int .i64 n] 59).alloc (by simp) (.cells #[.int .i64 k, .slice b ys.length cb, .int .i64 m] 59)).at 0 rfl
  have q0c := (((Blk.new w #[.int .i64 k, .slice a xs.length ca, .int .i64 n] 59).alloc (by simp) (.cells #[.int .i64 k, .slice b ys.length cb, .int .i64 m] 59)).alloc (by simp; omega) (.cells #[.int .i64 0, .slice none 0 0, .int .i64 0] 59)).at 0 rfl
  have t0 := TC.at 0 rfl
  have t1 := TC.at 1 rfl
  have t2 := TC.at 2 rfl
  have u0 := UC.at 0 rfl
  have u1 := UC.at 1 rfl
  have u2 := UC.at 2 rfl
  by_cases hk : 4 ≤ k
  · have HJ2 : Hid (jv = (k, [], min n m)) := by show _ = _; rw [HJ.out, if_pos hk]
    clear HJ
    go_enter Try.func83, Try.ntmps83
    go_wp2_with (first | (rw [HV0.out]; refine wpList_stB 59 _ _ (w.heap.size + 1 + 1 + 1) 0 [.int .i64 0, .slice none 0 0, .int .i64 0] [.int .i64 k, .slice none 0 0, .int .i64 0] ie hie XC0 (by rw [his]; rfl) (by simp) rfl rfl rfl rfl rfl ?_; try simp only [Act.put]; rw [hV]) | fail)
    refine (least_is n m _).mono ?_
    rintro en w1 ⟨rfl, rfl⟩
    have xz := XC.fz 2 rfl
    have x2 := XC.at 2 rfl
    obtain ⟨V2, hV2⟩ : ∃ Z, V.setCell ⟨w.heap.size + 1 + 1 + 1, 2, none⟩ (.int .i64 (min n m)) = Z := ⟨_, rfl⟩
    have X2 : Blk (w.heap.size + 1 + 1 + 1) [.int .i64 k, .slice none 0 0, .int .i64 (min n m)] V2 := by rw [← hV2]; exact XC.set 2 _
    replace RC : Blk (w.heap.size + 1 + 1) [.int .i64 0, .slice none 0 0, .int .i64 0] V2 := by rw [← hV2]; exact RC.far (by omega) 2 _
    replace BC : Below w.heap.size w V2 := by rw [← hV2]; exact BC.setCell (p := ⟨w.heap.size + 1 + 1 + 1, 2, none⟩) (by dsimp only; omega) _
    have x_0 := X2.at 0 rfl
    have x_1 := X2.at 1 rfl
    have x_2 := X2.at 2 rfl
    obtain ⟨V9, hV9⟩ : ∃ Z, World.setCells V2 (w.heap.size + 1 + 1) 0 [.int .i64 k, .slice none 0 0, .int .i64 (min n m)] = Z := ⟨_, rfl⟩
    have TF : Blk (w.heap.size + 1 + 1) [.int .i64 k, .slice none 0 0, .int .i64 (min n m)] V9 := by rw [← hV9]; exact RC.sets [.int .i64 k, .slice none 0 0, .int .i64 (min n m)] rfl
    have BF : Below w.heap.size w V9 := by rw [← hV9]; exact below_sets (by omega) [.int .i64 k, .slice none 0 0, .int .i64 (min n m)] 0 _ BC
    skip
    go_wp2_with (first | (refine wpList_stB 59 _ _ (w.heap.size + 1 + 1) 0 [.int .i64 0, .slice none 0 0, .int .i64 0] [.int .i64 k, .slice none 0 0, .int .i64 (min n m)] ie hie RC (by rw [his]; rfl) (by simp) rfl rfl rfl rfl rfl ?_; try simp only [Act.put]; rw [hV9]) | fail)
    refine bodyPost_ret (res_B1 rfl _ _ (w.heap.size + 1 + 1) [.int .i64 k, .slice none 0 0, .int .i64 (min n m)] ie hie (Try.isAgg59) TF his.symm rfl) rfl ?_
    exact ⟨(k, (none, 0, []), min n m), rfl, by rw [HJ2.out]; rfl, World.ownsRow_nil _ _ _ _, BF⟩
  · have HJ2 : Hid (jv = (k, metP k xs ys, 0)) := by show _ = _; rw [HJ.out, if_neg hk]
    clear HJ
    have hkk : ¬ (4 ≤ k) := hk
    have hd4 : decide (4 ≤ k) = false := decide_eq_false hk
    go_enter Try.func83, Try.ntmps83
    go_wp2_with (first | (rw [HV0.out]; refine wpList_stB 59 _ _ (w.heap.size + 1 + 1 + 1) 0 [.int .i64 0, .slice none 0 0, .int .i64 0] [.int .i64 k, .slice none 0 0, .int .i64 0] ie hie XC0 (by rw [his]; rfl) (by simp) rfl rfl rfl rfl rfl ?_; try simp only [Act.put]; rw [hV]) | fail)
    clear t0 t1 t2 q0 q0b q0c
    go_loopw [6] (fun iv wr => ∃ (i : Nat) (va : Option Addr) (vc : Nat), i ≤ 31 ∧ iv = .int .i64 (i : Int) ∧ Blk (w.heap.size + 1 + 1 + 1) [.int .i64 k, .slice va (metU k xs ys i).length vc, .int .i64 0] wr ∧ Blk w.heap.size [.int .i64 k, .slice a xs.length ca, .int .i64 n] wr ∧ Blk (w.heap.size + 1) [.int .i64 k, .slice b ys.length cb, .int .i64 m] wr ∧ Blk (w.heap.size + 1 + 1) [.int .i64 0, .slice none 0 0, .int .i64 0] wr ∧ wr.ownsRow (w.heap.size + 4) 3 1 (.slice va (metU k xs ys i).length vc) (metU k xs ys i).length ((metU k xs ys i).map (Value.int .i64)) ∧ Below w.heap.size w wr) (fun iv _ => 32 - (intOf iv).toNat)
    case atStart => exact ⟨0, none, 0, by omega, rfl, XC, TC, UC, RC, World.ownsRow_nil _ _ _ _, BC⟩
    case round =>
      clear XC TC UC RC BC hV
      obtain ⟨i, va, vc, hi, rfl, XC, TC, UC, RC, ro, BC⟩ := hrel
      by_cases hlt : i < 31
      · have hlt2 : (i : Int) ≤ 30 := by omega
        have K1 := l3Has_is a ca xs (i : Int) wr (hr.later BC) (by omega)
        have K2 := l3Has_is b cb ys (i : Int) wr (hg.later BC) (by omega)
        have hsw : w.heap.size + 4 ≤ wr.heap.size := by have := XC.lt; omega
        have XA0 : Below wr.heap.size wr (wr.alloc (.cells #[.int .i64 (i : Int)] 3)) := (Below.refl _ _).alloc (Nat.le_refl _) _
        have HMY : Hid (((xs.contains (i : Int) && ys.contains (i : Int)) || (decide (k = 3) && (xs.contains (i : Int) || ys.contains (i : Int)))) = true → metU k xs ys (i + 1) = metU k xs ys i ++ [(i : Int)]) := metU_yes
        have HMN : Hid (((xs.contains (i : Int) && ys.contains (i : Int)) || (decide (k = 3) && (xs.contains (i : Int) || ys.contains (i : Int)))) = false → metU k xs ys (i + 1) = metU k xs ys i) := metU_no
        have HLN := metU_len k xs ys i
        generalize xs.contains (i : Int) = b1 at K1 HMY HMN
        generalize ys.contains (i : Int) = b2 at K2 HMY HMN
        have t0 := TC.at 0 rfl
        have t1 := TC.at 1 rfl
        have t2 := TC.at 2 rfl
        have u0 := UC.at 0 rfl
        have u1 := UC.at 1 rfl
        have u2 := UC.at 2 rfl
        go_wp2_with fail
        refine K1.mono ?_
        rintro en v1 ⟨rfl, rfl⟩
        clear K1
        go_wp2_with fail
        refine K2.mono ?_
        rintro en v2 ⟨rfl, rfl⟩
        clear K2
        have hk3 : (k == 3) = decide (k = 3) := by by_cases e : k = 3 <;> simp [e]
        generalize decide (k = 3) = b3 at HMY HMN hk3
        have z1 := XC.at 1 rfl
        have HNX : Hid (∀ (W : World) (na : Option Addr) (ln nc : Nat), (metU k xs ys (i + 1)).length = ln → ∀ ux, (metU k xs ys (i + 1)).map (Value.int .i64) = ux → Blk (w.heap.size + 1 + 1 + 1) [.int .i64 k, .slice na ln nc, .int .i64 0] W → Blk w.heap.size [.int .i64 k, .slice a xs.length ca, .int .i64 n] W → Blk (w.heap.size + 1) [.int .i64 k, .slice b ys.length cb, .int .i64 m] W → Blk (w.heap.size + 1 + 1) [.int .i64 0, .slice none 0 0, .int .i64 0] W → W.ownsRow (w.heap.size + 4) 3 1 (.slice na ln nc) ln ux → Below w.heap.size w W →
            ∃ (i' : Nat) (va' : Option Addr) (vc' : Nat), i' ≤ 31 ∧ Value.int .i64 ((i : Int) + 1) = .int .i64 (i' : Int) ∧ Blk (w.heap.size + 1 + 1 + 1) [.int .i64 k, .slice va' (metU k xs ys i').length vc', .int .i64 0] W ∧ Blk w.heap.size [.int .i64 k, .slice a xs.length ca, .int .i64 n] W ∧ Blk (w.heap.size + 1) [.int .i64 k, .slice b ys.length cb, .int .i64 m] W ∧ Blk (w.heap.size + 1 + 1) [.int .i64 0, .slice none 0 0, .int .i64 0] W ∧ W.ownsRow (w.heap.size + 4) 3 1 (.slice va' (metU k xs ys i').length vc') (metU k xs ys i').length ((metU k xs ys i').map (Value.int .i64)) ∧ Below w.heap.size w W) :=
          fun W na ln nc h1 ux h2 x1 x2 x3 x4 x5 x6 => ⟨i + 1, na, nc, by omega, by go_num, by rw [h1]; exact x1, x2, x3, x4, by rw [h1, h2]; exact x5, x6⟩
        generalize metU k xs ys i = U at XC ro HMY HMN HLN z1
        generalize metU k xs ys (i + 1) = U2 at HMY HMN HNX
        cases b1 with
        | true => cases b2 with
          | true =>
            have HS : Hid (U2 = U ++ [(i : Int)]) := HMY.out rfl
            have hUw : wr.ownsRow (w.heap.size + 4) 3 1 (.slice va U.length vc) U.length (U.map (Value.int .i64)) := ro
            have roA := own_later ro XA0
            clear HMY HMN
            go_wp2_with (first | (at_builtin; refine wpList_append_own_at _ rfl _ _ 32 rfl (w.heap.size + 4) 3 i0 (.int .i64 0) 1 8 Try.underlying32 hi0 hz0 hz1 hz2 rfl (by decide) _ _ _ rfl roA ⟨wr.heap.size, 0, none⟩ 1 1 [.int .i64 (i : Int)] rfl rfl (news_one _ _ _) ?c2 ?c3 ?c4 ?c5 ?_) | go_in)
            case c2 => intro u hu; simp at hu; subst hu; rfl
            case c3 => unfold maxLen; omega
            case c4 => omega
            case c5 => first | omega | (simp; omega)
            intro v' wA hown' hgrow _ _
            obtain ⟨na, nc, rfl, _⟩ := own_shape hown'
            have hnb : ∀ g, g < w.heap.size + 4 → some g ≠ (Value.slice va U.length vc).ownBlock := fun g hg e => by have := (World.ownsRow.lt ro g e.symm).1; omega
            have XA := blk_kept (XC.later XA0 XC.lt) hgrow (hnb _ (by omega)) (by simp; omega)
            have TA := blk_kept (TC.later XA0 TC.lt) hgrow (hnb _ (by omega)) (by simp; omega)
            have UA := blk_kept (UC.later XA0 UC.lt) hgrow (hnb _ (by omega)) (by simp; omega)
            have RA := blk_kept (RC.later XA0 RC.lt) hgrow (hnb _ (by omega)) (by simp; omega)
            have BA : Below w.heap.size w wA := (BC.trans (XA0.mono BC.size)).grown hgrow (by simp; omega) (fun g e => by have := (World.ownsRow.lt ro g e).1; omega)
            have x1 := XA.at 1 rfl
            have xz := XA.fz 1 rfl
            obtain ⟨V5, hV5⟩ : ∃ Z, wA.setCell ⟨w.heap.size + 1 + 1 + 1, 1, none⟩ (.slice na (U.length + 1) nc) = Z := ⟨_, rfl⟩
            have XB : Blk (w.heap.size + 1 + 1 + 1) [.int .i64 k, .slice na (U.length + 1) nc, .int .i64 0] V5 := by rw [← hV5]; exact XA.set 1 _
            have TB : Blk w.heap.size [.int .i64 k, .slice a xs.length ca, .int .i64 n] V5 := by rw [← hV5]; exact TA.far (by omega) 1 _
            have UB : Blk (w.heap.size + 1) [.int .i64 k, .slice b ys.length cb, .int .i64 m] V5 := by rw [← hV5]; exact UA.far (by omega) 1 _
            have RB : Blk (w.heap.size + 1 + 1) [.int .i64 0, .slice none 0 0, .int .i64 0] V5 := by rw [← hV5]; exact RA.far (by omega) 1 _
            have BB : Below w.heap.size w V5 := by rw [← hV5]; exact BA.setCell (p := ⟨w.heap.size + 1 + 1 + 1, 1, none⟩) (by dsimp only; omega) _
            have roB : V5.ownsRow (w.heap.size + 4) 3 1 (.slice na (U.length + 1) nc) (U.length + 1) (U.map (Value.int .i64) ++ [.int .i64 (i : Int)]) := by
              rw [← hV5]
              exact World.ownsRow.kept hown' (set_grown wA _ 1 _) (by
                cases e : (Value.slice na (U.length + 1) nc).ownBlock with
                | none => exact Or.inl rfl
                | some g => exact Or.inr (fun c => by have := (World.ownsRow.lt hown' g e).1; injection c with c; omega))
            have HR := HNX.out V5 na (U.length + 1) nc (by rw [HS.out]; simp) _ (by rw [HS.out, List.map_append]; rfl) XB TB UB RB roB BB
            clear HS HNX roB XB TB UB RB BB XA TA UA RA BA hgrow hown' ro roA hUw TC UC RC XC BC XA0 hnb z1 HLN
            go_wp2
            try rw [hV5]
            go_roundw
            case rel => exact HR
            case measure => simp [intOf]; omega
          | false => cases b3 with
            | true =>
              have HS : Hid (U2 = U ++ [(i : Int)]) := HMY.out rfl
              have hUw : wr.ownsRow (w.heap.size + 4) 3 1 (.slice va U.length vc) U.length (U.map (Value.int .i64)) := ro
              have roA := own_later ro XA0
              clear HMY HMN
              go_wp2_with (first | (at_builtin; refine wpList_append_own_at _ rfl _ _ 32 rfl (w.heap.size + 4) 3 i0 (.int .i64 0) 1 8 Try.underlying32 hi0 hz0 hz1 hz2 rfl (by decide) _ _ _ rfl roA ⟨wr.heap.size, 0, none⟩ 1 1 [.int .i64 (i : Int)] rfl rfl (news_one _ _ _) ?c2 ?c3 ?c4 ?c5 ?_) | go_in)
              case c2 => intro u hu; simp at hu; subst hu; rfl
              case c3 => unfold maxLen; omega
              case c4 => omega
              case c5 => first | omega | (simp; omega)
              intro v' wA hown' hgrow _ _
              obtain ⟨na, nc, rfl, _⟩ := own_shape hown'
              have hnb : ∀ g, g < w.heap.size + 4 → some g ≠ (Value.slice va U.length vc).ownBlock := fun g hg e => by have := (World.ownsRow.lt ro g e.symm).1; omega
              have XA := blk_kept (XC.later XA0 XC.lt) hgrow (hnb _ (by omega)) (by simp; omega)
              have TA := blk_kept (TC.later XA0 TC.lt) hgrow (hnb _ (by omega)) (by simp; omega)
              have UA := blk_kept (UC.later XA0 UC.lt) hgrow (hnb _ (by omega)) (by simp; omega)
              have RA := blk_kept (RC.later XA0 RC.lt) hgrow (hnb _ (by omega)) (by simp; omega)
              have BA : Below w.heap.size w wA := (BC.trans (XA0.mono BC.size)).grown hgrow (by simp; omega) (fun g e => by have := (World.ownsRow.lt ro g e).1; omega)
              have x1 := XA.at 1 rfl
              have xz := XA.fz 1 rfl
              obtain ⟨V5, hV5⟩ : ∃ Z, wA.setCell ⟨w.heap.size + 1 + 1 + 1, 1, none⟩ (.slice na (U.length + 1) nc) = Z := ⟨_, rfl⟩
              have XB : Blk (w.heap.size + 1 + 1 + 1) [.int .i64 k, .slice na (U.length + 1) nc, .int .i64 0] V5 := by rw [← hV5]; exact XA.set 1 _
              have TB : Blk w.heap.size [.int .i64 k, .slice a xs.length ca, .int .i64 n] V5 := by rw [← hV5]; exact TA.far (by omega) 1 _
              have UB : Blk (w.heap.size + 1) [.int .i64 k, .slice b ys.length cb, .int .i64 m] V5 := by rw [← hV5]; exact UA.far (by omega) 1 _
              have RB : Blk (w.heap.size + 1 + 1) [.int .i64 0, .slice none 0 0, .int .i64 0] V5 := by rw [← hV5]; exact RA.far (by omega) 1 _
              have BB : Below w.heap.size w V5 := by rw [← hV5]; exact BA.setCell (p := ⟨w.heap.size + 1 + 1 + 1, 1, none⟩) (by dsimp only; omega) _
              have roB : V5.ownsRow (w.heap.size + 4) 3 1 (.slice na (U.length + 1) nc) (U.length + 1) (U.map (Value.int .i64) ++ [.int .i64 (i : Int)]) := by
                rw [← hV5]
                exact World.ownsRow.kept hown' (set_grown wA _ 1 _) (by
                  cases e : (Value.slice na (U.length + 1) nc).ownBlock with
                  | none => exact Or.inl rfl
                  | some g => exact Or.inr (fun c => by have := (World.ownsRow.lt hown' g e).1; injection c with c; omega))
              have HR := HNX.out V5 na (U.length + 1) nc (by rw [HS.out]; simp) _ (by rw [HS.out, List.map_append]; rfl) XB TB UB RB roB BB
              clear HS HNX roB XB TB UB RB BB XA TA UA RA BA hgrow hown' ro roA hUw TC UC RC XC BC XA0 hnb z1 HLN
              go_wp2
              try rw [hV5]
              go_roundw
              case rel => exact HR
              case measure => simp [intOf]; omega
            | false =>
              have HS : Hid (U2 = U) := HMN.out (by first | rfl | (cases b3 <;> rfl))
              have HR := HNX.out wr va U.length vc (by rw [HS.out]) _ (by rw [HS.out]) XC TC UC RC ro BC
              clear HS HNX HMY HMN XC TC UC RC ro BC XA0 HLN
              go_wp2
              go_roundw
              case rel => exact HR
              case measure => simp [intOf]; omega
        | false => cases b2 with
          | true => cases b3 with
            | true =>
              have HS : Hid (U2 = U ++ [(i : Int)]) := HMY.out rfl
              have hUw : wr.ownsRow (w.heap.size + 4) 3 1 (.slice va U.length vc) U.length (U.map (Value.int .i64)) := ro
              have roA := own_later ro XA0
              clear HMY HMN
              go_wp2_with (first | (at_builtin; refine wpList_append_own_at _ rfl _ _ 32 rfl (w.heap.size + 4) 3 i0 (.int .i64 0) 1 8 Try.underlying32 hi0 hz0 hz1 hz2 rfl (by decide) _ _ _ rfl roA ⟨wr.heap.size, 0, none⟩ 1 1 [.int .i64 (i : Int)] rfl rfl (news_one _ _ _) ?c2 ?c3 ?c4 ?c5 ?_) | go_in)
              case c2 => intro u hu; simp at hu; subst hu; rfl
              case c3 => unfold maxLen; omega
              case c4 => omega
              case c5 => first | omega | (simp; omega)
              intro v' wA hown' hgrow _ _
              obtain ⟨na, nc, rfl, _⟩ := own_shape hown'
              have hnb : ∀ g, g < w.heap.size + 4 → some g ≠ (Value.slice va U.length vc).ownBlock := fun g hg e => by have := (World.ownsRow.lt ro g e.symm).1; omega
              have XA := blk_kept (XC.later XA0 XC.lt) hgrow (hnb _ (by omega)) (by simp; omega)
              have TA := blk_kept (TC.later XA0 TC.lt) hgrow (hnb _ (by omega)) (by simp; omega)
              have UA := blk_kept (UC.later XA0 UC.lt) hgrow (hnb _ (by omega)) (by simp; omega)
              have RA := blk_kept (RC.later XA0 RC.lt) hgrow (hnb _ (by omega)) (by simp; omega)
              have BA : Below w.heap.size w wA := (BC.trans (XA0.mono BC.size)).grown hgrow (by simp; omega) (fun g e => by have := (World.ownsRow.lt ro g e).1; omega)
              have x1 := XA.at 1 rfl
              have xz := XA.fz 1 rfl
              obtain ⟨V5, hV5⟩ : ∃ Z, wA.setCell ⟨w.heap.size + 1 + 1 + 1, 1, none⟩ (.slice na (U.length + 1) nc) = Z := ⟨_, rfl⟩
              have XB : Blk (w.heap.size + 1 + 1 + 1) [.int .i64 k, .slice na (U.length + 1) nc, .int .i64 0] V5 := by rw [← hV5]; exact XA.set 1 _
              have TB : Blk w.heap.size [.int .i64 k, .slice a xs.length ca, .int .i64 n] V5 := by rw [← hV5]; exact TA.far (by omega) 1 _
              have UB : Blk (w.heap.size + 1) [.int .i64 k, .slice b ys.length cb, .int .i64 m] V5 := by rw [← hV5]; exact UA.far (by omega) 1 _
              have RB : Blk (w.heap.size + 1 + 1) [.int .i64 0, .slice none 0 0, .int .i64 0] V5 := by rw [← hV5]; exact RA.far (by omega) 1 _
              have BB : Below w.heap.size w V5 := by rw [← hV5]; exact BA.setCell (p := ⟨w.heap.size + 1 + 1 + 1, 1, none⟩) (by dsimp only; omega) _
              have roB : V5.ownsRow (w.heap.size + 4) 3 1 (.slice na (U.length + 1) nc) (U.length + 1) (U.map (Value.int .i64) ++ [.int .i64 (i : Int)]) := by
                rw [← hV5]
                exact World.ownsRow.kept hown' (set_grown wA _ 1 _) (by
                  cases e : (Value.slice na (U.length + 1) nc).ownBlock with
                  | none => exact Or.inl rfl
                  | some g => exact Or.inr (fun c => by have := (World.ownsRow.lt hown' g e).1; injection c with c; omega))
              have HR := HNX.out V5 na (U.length + 1) nc (by rw [HS.out]; simp) _ (by rw [HS.out, List.map_append]; rfl) XB TB UB RB roB BB
              clear HS HNX roB XB TB UB RB BB XA TA UA RA BA hgrow hown' ro roA hUw TC UC RC XC BC XA0 hnb z1 HLN
              go_wp2
              try rw [hV5]
              go_roundw
              case rel => exact HR
              case measure => simp [intOf]; omega
            | false =>
              have HS : Hid (U2 = U) := HMN.out (by first | rfl | (cases b3 <;> rfl))
              have HR := HNX.out wr va U.length vc (by rw [HS.out]) _ (by rw [HS.out]) XC TC UC RC ro BC
              clear HS HNX HMY HMN XC TC UC RC ro BC XA0 HLN
              go_wp2
              go_roundw
              case rel => exact HR
              case measure => simp [intOf]; omega
          | false => cases b3 with
            | true =>
              have HS : Hid (U2 = U) := HMN.out (by first | rfl | (cases b3 <;> rfl))
              have HR := HNX.out wr va U.length vc (by rw [HS.out]) _ (by rw [HS.out]) XC TC UC RC ro BC
              clear HS HNX HMY HMN XC TC UC RC ro BC XA0 HLN
              go_wp2
              go_roundw
              case rel => exact HR
              case measure => simp [intOf]; omega
            | false =>
              have HS : Hid (U2 = U) := HMN.out (by first | rfl | (cases b3 <;> rfl))
              have HR := HNX.out wr va U.length vc (by rw [HS.out]) _ (by rw [HS.out]) XC TC UC RC ro BC
              clear HS HNX HMY HMN XC TC UC RC ro BC XA0 HLN
              go_wp2
              go_roundw
              case rel => exact HR
              case measure => simp [intOf]; omega
      · obtain rfl : i = 31 := by omega
        have HJ3 : Hid (jv = (k, metU k xs ys 31, 0)) := HJ2
        generalize metU k xs ys 31 = U at XC ro HJ3
        have x_0 := XC.at 0 rfl
        have x_1 := XC.at 1 rfl
        have x_2 := XC.at 2 rfl
        clear HJ2
        obtain ⟨V9, hV9⟩ : ∃ Z, World.setCells wr (w.heap.size + 1 + 1) 0 [.int .i64 k, .slice va U.length vc, .int .i64 0] = Z := ⟨_, rfl⟩
        have TF : Blk (w.heap.size + 1 + 1) [.int .i64 k, .slice va U.length vc, .int .i64 0] V9 := by rw [← hV9]; exact RC.sets [.int .i64 k, .slice va U.length vc, .int .i64 0] rfl
        have BF : Below w.heap.size w V9 := by rw [← hV9]; exact below_sets (by omega) [.int .i64 k, .slice va U.length vc, .int .i64 0] 0 _ BC
        have oF : V9.ownsRow (w.heap.size + 4) 3 1 (.slice va U.length vc) U.length (U.map (Value.int .i64)) := by rw [← hV9]; exact own_far ro (sets_grown _ _ 0 _) (by omega)
        go_wp2_with (first | (refine wpList_stB 59 _ _ (w.heap.size + 1 + 1) 0 [.int .i64 0, .slice none 0 0, .int .i64 0] [.int .i64 k, .slice va U.length vc, .int .i64 0] ie hie RC (by rw [his]; rfl) (by simp) rfl rfl rfl rfl rfl ?_; try simp only [Act.put]; rw [hV9]) | fail)
        refine bodyPost_ret (res_B1 rfl _ _ (w.heap.size + 1 + 1) [.int .i64 k, .slice va U.length vc, .int .i64 0] ie hie (Try.isAgg59) TF his.symm rfl) rfl ?_
        exact ⟨(k, (va, vc, U), 0), rfl, by rw [HJ3.out]; rfl, ownsRow_le oF (by omega), BF⟩
end Go.Proofs.Ytjbbhegijlnndaa.Nd
