/- The program: a message shown. -/
import Derived.Test.YtengggpobhibcaaDoorSw2
set_option linter.unusedVariables false
set_option maxRecDepth 100000
namespace Go.Proofs.YtengggpobhibcaaDoor.Nd
open Go Go.RowKit Go.Joins Own Draw Var

def shV (o : Option ByteArray) : Value := match o with
  | some T => .tuple #[.string T, .bool true]
  | none => .tuple #[.string ⟨#[]⟩, .bool false]
/-- What stands on the stack is not too great. -/
def SmS (st : List En) : Prop := ∀ e ∈ st, e.2.1.size ≤ 900 ∧ e.2.2 ≤ 8
theorem ruS_take {m : List PT} {i : Nat} (hi : i < m.length) {st : List En} (h : ruS 0 (m.take i) [] = some st) : ruS 0 (m.take (i + 1)) [] = stS i m[i] st := by
  rw [List.take_succ_eq_append_getElem hi, ruS_app, h]
  dsimp only
  rw [List.length_take_of_le (by omega), Nat.zero_add]
  show ruS i [m[i]] st = _
  unfold ruS
  cases stS i m[i] st with
  | none => rfl
  | some t => rfl
theorem ruS_no {m : List PT} {i : Nat} (hi : i ≤ m.length) (h : ruS 0 (m.take i) [] = none) : shM m = none := by
  unfold shM
  have e : ruS 0 m [] = none := by
    rw [← List.take_append_drop i m, ruS_app, h]
  rw [e]
  split <;> rfl
theorem stS_len {i : Nat} {x : PT} {st : List En} (h : st.length < x.2.2.2.length) : stS i x st = none := by unfold stS; rw [if_pos h]
theorem stS_ri {i : Nat} {x : PT} {st : List En} (h : ¬ riS x) : stS i x st = none := by unfold stS; split <;> first | rfl | rw [if_pos h]
theorem stS_fi {i : Nat} {x : PT} {st : List En} (h : ¬ fiS x (st.drop (st.length - x.2.2.2.length))) : stS i x st = none := by
  unfold stS
  split
  · rfl
  · split
    · rfl
    · first | rfl | rw [if_neg h]
theorem stS_yes {i : Nat} {x : PT} {st : List En} (h0 : ¬ st.length < x.2.2.2.length) (h1 : riS x) (h2 : fiS x (st.drop (st.length - x.2.2.2.length))) : stS i x st = some (st.take (st.length - x.2.2.2.length) ++ [(i, txS x (inS x.2.2.1 (st.drop (st.length - x.2.2.2.length))), neS (st.drop (st.length - x.2.2.2.length)))]) := by
  unfold stS
  rw [if_neg h0, if_neg (fun c => c h1), if_pos h2]
theorem fl_take {es : List En} : ∀ (t : Nat), (fl cE es).take (t * 3) = fl cE (es.take t) := by
  intro t
  induction es generalizing t with
  | nil => simp [fl]
  | cons e es ih =>
    cases t with
    | zero => simp [fl]
    | succ t =>
      have : fl cE (e :: es) = cE e ++ fl cE es := by simp [fl]
      rw [this, List.take_succ_cons]
      have h2 : fl cE (e :: es.take t) = cE e ++ fl cE (es.take t) := by simp [fl]
      rw [h2, ← ih t, List.take_append, List.take_of_length_le (by show 3 ≤ _; omega), show (t + 1) * 3 - (cE e).length = t * 3 by show (t + 1) * 3 - 3 = _; omega]
/-- The first ones of a row that the call owns. -/
theorem own_take {B c : Nat} {a : Option Addr} {es : List En} {w : World} (h : FOwn 65 3 cE B a c es w) {t : Nat} (ht : t ≤ es.length) : FOwn 65 3 cE B a c (es.take t) w := by
  have hl : (es.take t).length = t := List.length_take_of_le ht
  refine ⟨by rw [← fl_take, List.length_take, h.1, hl]; exact Nat.min_eq_left (Nat.mul_le_mul_right _ ht), ?_⟩
  rcases h.2 with ⟨e, h0⟩ | ⟨g, cap, cur, e, e2, e3, e4, e5, e6, e7⟩
  · left
    injection e with x1 x2 x3
    refine ⟨?_, by rw [hl]; omega⟩
    rw [hl, x1, x3, show t = 0 by omega]
  · right
    injection e with x1 x2 x3
    refine ⟨g, cap, cur, by rw [x1, x3], e2, e3, by rw [hl]; omega, e5, e6, ?_⟩
    rw [hl, ← fl_take, ← e7, List.take_take, Nat.min_eq_left (Nat.mul_le_mul_right _ ht)]
theorem row_drop {w : World} {b o : Nat} {es : List En} (h : FRow 3 cE w (some ⟨b, o, none⟩) es) (t : Nat) : FRow 3 cE w (some ⟨b, o + t * 3, none⟩) (es.drop t) := by
  intro j hj
  have hj2 : t + j < es.length := by rw [List.length_drop] at hj; omega
  obtain ⟨b1, o1, e1, l1, h1⟩ := h (t + j) hj2
  injection e1 with e1
  injection e1 with x1 x2 x3
  refine ⟨b, o + t * 3, rfl, by omega, fun i v e => ?_⟩
  have := h1 i v (by rw [List.getElem_drop] at e; exact e)
  rw [← x1, ← x2] at this
  rw [← this]
  congr 2
  omega
theorem drop_row {B sc : Nat} {sa : Option Addr} {st : List En} {w : World} (h : FOwn 65 3 cE B sa sc st w) {d : Nat} (hd : d ≤ st.length) {la : Option Addr} (hla : (if sc = d then sa else Option.map (fun x_1 => x_1.add (d * 3)) sa) = la) : FRow 3 cE w la (st.drop d) := by
  have hrow := FOwn.row lE h
  rcases h.2 with ⟨e, h0⟩ | ⟨g, cap, cur, e, e2, e3, e4, e5, e6, e7⟩
  · intro j hj
    rw [List.length_drop] at hj
    omega
  · injection e with x1 x2 x3
    by_cases hs : sc = d
    · intro j hj
      rw [List.length_drop] at hj
      omega
    · rw [if_neg hs, x1] at hla
      rw [x1] at hrow
      rw [← hla]
      have := row_drop hrow d
      show FRow 3 cE w (some ((⟨g, 0, none⟩ : Addr).add (d * 3))) _
      rw [Addr.add_lit]
      exact this
theorem info60 : (Tryd.prog.info? 65).map (fun i => (i.zero, i.size, i.bytes)) = some (some (.agg #[.int .i64 0, .string ⟨#[]⟩, .int .i64 0]), 3, 32) := by kernel_rfl
set_option maxRecDepth 100000 in
set_option maxHeartbeats 3200000 in
theorem msg_is (a : Option Addr) (ca : Nat) (xs : List TT) (w : World) (hr : RpT w (a, ca, xs)) (hxl : xs.length ≤ 1048576) (hdl : ∀ x ∈ xs, x.2.2.1.size ≤ 1048576) (hkl : ∀ x ∈ xs, x.2.2.2.2.2.length ≤ 1048576) :
    Calls Tryd.prog 15 #[.slice a xs.length ca] w fun e w' => e = .returned (shV (shM (xs.map stT))) ∧ Below w.heap.size w w' := by
  obtain ⟨it, hit, hits⟩ := info_T
  obtain ⟨ie, hie, hies⟩ := info_E
  obtain ⟨je, hje, hjz, hjs, hjb⟩ := parts_of info60
  go_enter Tryd.func15, Tryd.ntmps15
  by_cases h60 : 60 < xs.length
  · have c60 : (60 : Int) < (xs.length : Int) := by omega
    have HV : Hid (shM (xs.map stT) = none) := by show _ = _; unfold shM; rw [if_pos (by rw [List.length_map]; exact h60)]
    go_wp2
    go_ret2
    exact ⟨by rw [HV.out]; rfl, Below.refl _ _⟩
  have c60 : ¬ (60 : Int) < (xs.length : Int) := by omega
  have hrow := hr.1
  dsimp only at hrow
  go_wp2
  go_loopw [4, 15] (fun s k wr => ∃ (i : Nat) (st : List En) (sa : Option Addr) (sc : Nat), i ≤ xs.length ∧ s = .slice sa st.length sc ∧ k = .int .i64 i ∧ Hid (ruS 0 ((xs.map stT).take i) [] = some st) ∧ Hid (SmS st) ∧ Hid (FOwn 65 3 cE w.heap.size sa sc st wr) ∧ st.length ≤ i ∧ Below w.heap.size w wr) (fun _ k _ => xs.length - (intOf k).toNat)
  case atStart => exact ⟨0, [], none, 0, Nat.zero_le _, rfl, rfl, rfl, (fun e h => by cases h), World.ownsRow_nil _ _ _ _, Nat.le_refl _, Below.refl _ _⟩
  case round =>
    obtain ⟨i, st, sa, sc, hi, rfl, rfl, HR, HS, HO, hsl, bw⟩ := hrel
    by_cases hlt : i < xs.length
    rotate_left
    · have hie2 : i = xs.length := by omega
      have hltI : ¬ (i : Int) < (xs.length : Int) := by omega
      have hR := HR.out
      rw [List.take_of_length_le (by rw [List.length_map]; omega)] at hR
      have hrow2 := FOwn.row lE HO.out
      by_cases h1 : st.length = 1
      · obtain ⟨e, rfl⟩ := List.length_eq_one_iff.1 h1
        have HV : Hid (shM (xs.map stT) = some e.2.1) := by show _ = _; unfold shM; rw [if_neg (by rw [List.length_map]; omega), hR]
        obtain ⟨b2, o2, rfl, l2, hc2⟩ := hrow2 0 (by simp)
        have hc3 := hc2 1 (.string e.2.1) rfl
        clear hR HR HS HO hrow hr hc2 hrow2 h1
        go_wp2
        go_ret2
        exact ⟨by rw [HV.out]; rfl, bw⟩
      · have HV : Hid (shM (xs.map stT) = none) := by
          show _ = _
          unfold shM
          rw [if_neg (by rw [List.length_map]; omega), hR]
          match st, h1 with
          | [], _ => rfl
          | [e], h1 => exact absurd rfl h1
          | _ :: _ :: _, _ => rfl
        have c1 : ((st.length : Int) != 1) = true := by simp; omega
        clear hR HR HS HO hrow hr hrow2 h1
        go_wp2
        go_ret2
        exact ⟨by rw [HV.out]; rfl, bw⟩
    have hltI : (i : Int) < (xs.length : Int) := by omega
    obtain ⟨b1, o1, rfl, l1, hc1⟩ := hrow i hlt
    have hd1 : ∀ k v, (cT xs[i])[k]? = some v → wr.cell? ⟨b1, o1 + i * 4 + k, none⟩ = some v := fun k v e => (bw.cell (p := ⟨b1, o1 + i * 4 + k, none⟩) l1).trans (hc1 k v e)
    have ld1 := ld_T it hit hits hd1
    have hkw : RowAt (Value.int .i64) w xs[i].2.2.2.1 xs[i].2.2.2.2.2 := hr.2 xs[i] (List.getElem_mem hlt)
    have hkx := hkl xs[i] (List.getElem_mem hlt)
    have hdx := hdl xs[i] (List.getElem_mem hlt)
    have hml : i < (xs.map stT).length := by rw [List.length_map]; exact hlt
    have HST : Hid (ruS 0 ((xs.map stT).take (i + 1)) [] = stS i (stT xs[i]) st) := by show _ = _; rw [ruS_take hml HR.out]; simp
    generalize xs[i] = x at ld1 hkw hkx hdx HST
    clear hc1 hd1
    obtain ⟨A0, hA0⟩ : ∃ Y, wr.alloc (.cells #[.int .i64 0, .bool false, .string ⟨#[]⟩, .slice none 0 0] 61) = Y := ⟨_, rfl⟩
    have TX0 : Blk wr.heap.size [.int .i64 0, .bool false, .string ⟨#[]⟩, .slice none 0 0] A0 := by rw [← hA0]; exact Blk.new _ _ _
    have B0 : Below wr.heap.size wr A0 := by rw [← hA0]; exact (Below.refl _ _).alloc (Nat.le_refl _) _
    obtain ⟨A1, hA1⟩ : ∃ Y, A0.setCells wr.heap.size 0 [.int .i64 x.1, .bool x.2.1, .string x.2.2.1, .slice x.2.2.2.1 x.2.2.2.2.2.length x.2.2.2.2.1] = Y := ⟨_, rfl⟩
    have TX1 : Blk wr.heap.size [.int .i64 x.1, .bool x.2.1, .string x.2.2.1, .slice x.2.2.2.1 x.2.2.2.2.2.length x.2.2.2.2.1] A1 := by rw [← hA1]; exact TX0.sets _ rfl
    have B1 : Below wr.heap.size wr A1 := by rw [← hA1]; exact below_sets (Nat.le_refl _) _ _ _ B0
    have bA := bw.trans (B1.mono bw.size)
    have p0 := TX1.at 0 rfl
    have p1 := TX1.at 1 rfl
    have p2 := TX1.at 2 rfl
    have p3 := TX1.at 3 rfl
    by_cases hlen : st.length < x.2.2.2.2.2.length
    · have HN : Hid (shM (xs.map stT) = none) := ruS_no hml (HST.out.trans (stS_len hlen))
      have cl : (st.length : Int) - (x.2.2.2.2.2.length : Int) < 0 := by omega
      clear HST HR HS HO
      go_wp2_with (first | (refine wpList_ldV 61 _ b1 (o1 + i * 4) _ ld1 rfl rfl rfl ?_) | (refine wpList_stB 61 _ _ wr.heap.size 0 _ [.int .i64 x.1, .bool x.2.1, .string x.2.2.1, .slice x.2.2.2.1 x.2.2.2.2.2.length x.2.2.2.2.1] it hit TX0 hits.symm (by simp) rfl rfl rfl rfl rfl ?_; rw [hA1]))
      go_ret2
      exact ⟨by rw [HN.out]; rfl, bA⟩
    have cl : ¬ (st.length : Int) - (x.2.2.2.2.2.length : Int) < 0 := by omega
    have KR := rig_is x A1 hkx hdx
    go_wp2_with (first | (refine wpList_ldV 61 _ b1 (o1 + i * 4) _ ld1 rfl rfl rfl ?_) | (refine wpList_stB 61 _ _ wr.heap.size 0 _ [.int .i64 x.1, .bool x.2.1, .string x.2.2.1, .slice x.2.2.2.1 x.2.2.2.2.2.length x.2.2.2.2.1] it hit TX0 hits.symm (by simp) rfl rfl rfl rfl rfl ?_; rw [hA1]))
    refine KR.mono ?_
    clear KR
    rintro ex u1 ⟨⟨rb, rfl, hrb⟩, hbu⟩
    have TX2 := TX1.later hbu TX1.lt
    have bU := bA.trans (hbu.mono bA.size)
    cases rb with
    | false =>
      have HN : Hid (shM (xs.map stT) = none) := ruS_no hml (HST.out.trans (stS_ri (fun c => by have := hrb.2 c; cases this)))
      clear HST HR HS HO p0 p1 p2 p3
      go_wp2
      go_ret2
      exact ⟨by rw [HN.out]; rfl, bU⟩
    | true =>
      have hri : riS (stT x) := hrb.1 rfl
      have htg := (riS_hb hri).2.2.2
      have HRI : Hid (riS (stT x)) := hri
      clear p0 p1 p2 p3 ld1 TX0 B0 hA0 hA1 hri hrb hr hrow hdl hkl TX1
      go_wp2
      have hcond : x.2.2.2.2.2.length ≤ st.length ∧ (st.length : Int) - (x.2.2.2.2.2.length : Int) ≤ (st.length : Int) := ⟨by omega, by omega⟩
      obtain ⟨d, hd⟩ : ∃ d, st.length - x.2.2.2.2.2.length = d := ⟨_, rfl⟩
      obtain ⟨la, hla⟩ : ∃ l, (if sc = d then sa else Option.map (fun x_1 => x_1.add (d * 3)) sa) = l := ⟨_, rfl⟩
      have hdle : d ≤ st.length := by omega
      have HOU : Hid (FOwn 65 3 cE w.heap.size sa sc st u1) := own_later HO.out (B1.trans (hbu.mono B1.size))
      have HRW : Hid (FRow 3 cE u1 la (st.drop d)) := drop_row HOU.out hdle hla
      have hes : (st.drop d).length = st.length - d := List.length_drop
      have HSD : Hid (SmS (st.drop d)) := fun e h => HS.out e (List.mem_of_mem_drop h)
      have HKW : Hid (RowAt (Value.int .i64) u1 x.2.2.2.1 x.2.2.2.2.2) := RowAt.later hkw bU
      have hdx9 : x.2.2.1.size ≤ 900 := by
        have h2 := HRI.out.2
        by_cases hlf : x.2.1 = true
        · rw [if_pos (show (stT x).2.1 = true from hlf)] at h2
          exact h2.2
        · rw [if_neg (show ¬ (stT x).2.1 = true from hlf)] at h2
          have h3 : x.2.2.1 = ⟨#[]⟩ := h2
          rw [h3]
          decide
      have KS : ∀ W, Below u1.heap.size u1 W → Calls Tryd.prog 30 #[.agg #[.int .i64 x.1, .bool x.2.1, .string x.2.2.1, .slice x.2.2.2.1 x.2.2.2.2.2.length x.2.2.2.2.1], .int .i64 (i : Int), .slice la (st.length - d) (sc - d)] W fun e w' => ShoP x i (st.drop d) W e w' := fun W hW => by
        have := sho_is x i (st.drop d) la (sc - d) W (HRW.out.later hW) (RowAt.later HKW.out hW) (by omega) htg hdx9 HSD.out (by omega)
        rw [hes] at this
        exact this
      have HKS : Hid (∀ W, Below u1.heap.size u1 W → Calls Tryd.prog 30 #[.agg #[.int .i64 x.1, .bool x.2.1, .string x.2.2.1, .slice x.2.2.2.1 x.2.2.2.2.2.length x.2.2.2.2.1], .int .i64 (i : Int), .slice la (st.length - d) (sc - d)] W fun e w' => ShoP x i (st.drop d) W e w') := KS
      have sX : wr.heap.size < u1.heap.size := TX2.lt
      have hsc : st.length ≤ sc := by
        rcases HOU.out.2 with ⟨e, h0⟩ | ⟨g, cap, cur, e, e2, e3, e4, _⟩
        · omega
        · injection e with x1 x2 x3; omega
      have hob : ∀ k, (Value.slice sa st.length sc).ownBlock = some k → k < u1.heap.size := fun k e => (World.ownsRow.lt HOU.out k e).2
      clear KS hes hkw
      refine wp_region_held_drew (S := (fun w' : World => Blk wr.heap.size [.int .i64 x.1, .bool x.2.1, .string x.2.2.1, .slice x.2.2.2.1 x.2.2.2.2.2.length x.2.2.2.2.1] w')) (by kernel_rfl) TX2.drew (fun hHeld => ?_)
      refine take_one 0 34 (v := ?_) rfl rfl (by kernel_rfl) (by kernel_rfl) (by kernel_rfl) (fun _ _ _ h => h) (Or.inl ⟨by rfl, ?_⟩) hHeld ?_
      rotate_left
      · intro w' hSw; (try dsimp only at hSw); have c0 := hSw.at 0 rfl; have c1 := hSw.at 1 rfl; have c2 := hSw.at 2 rfl; have c3 := hSw.at 3 rfl; go_simp; try with_reducible rfl
      try simp only [Act.put, List.setIfInBounds_toArray, List.set_cons_zero, List.set_cons_succ]
      refine take_one 1 35 (v := ?_) rfl rfl (by kernel_rfl) (by kernel_rfl) (by kernel_rfl) (fun _ _ _ h => h) (Or.inl ⟨by rfl, ?_⟩) hHeld ?_
      rotate_left
      · intro w' hSw; (try dsimp only at hSw); go_simp; try with_reducible rfl
      try simp only [Act.put, List.setIfInBounds_toArray, List.set_cons_zero, List.set_cons_succ]
      refine take_one 2 36 (v := ?_) rfl rfl (by kernel_rfl) (by kernel_rfl) (by kernel_rfl) (fun _ _ _ h => h) (Or.inl ⟨by rfl, ?_⟩) hHeld ?_
      rotate_left
      · intro w' hSw; (try dsimp only at hSw); go_simp; try with_reducible rfl
      try simp only [Act.put, List.setIfInBounds_toArray, List.set_cons_zero, List.set_cons_succ]
      refine take_one 3 37 (v := ?_) rfl rfl (by kernel_rfl) (by kernel_rfl) (by kernel_rfl) (fun _ _ _ h => h) (Or.inl ⟨by rfl, ?_⟩) hHeld ?_
      rotate_left
      · intro w' hSw; (try dsimp only at hSw); go_simp; try with_reducible rfl
      try simp only [Act.put, List.setIfInBounds_toArray, List.set_cons_zero, List.set_cons_succ]
      refine take_one 4 38 (v := ?_) rfl rfl (by kernel_rfl) (by kernel_rfl) (by kernel_rfl) (fun _ _ _ h => h) (Or.inl ⟨by rfl, ?_⟩) hHeld ?_
      rotate_left
      · intro w' hSw; (try dsimp only at hSw); go_simp; try with_reducible rfl
      try simp only [Act.put, List.setIfInBounds_toArray, List.set_cons_zero, List.set_cons_succ]
      refine wpAnyH_ready (rs := [5, 9]) (by kernel_rfl) (by simp) ?_
      refine AllReadyH.cons (i := 5) rfl (fun K hK => ?_) (AllReadyH.cons (i := 9) rfl (fun K hK => ?_) AllReadyH.nil)
      ·
        go_simp
        refine (HKS.out _ ((Below.refl _ _).drew)).mono ?_
        rintro e w2 ⟨n, b, rfl, hbi, hbn, hb⟩
        have HBI : Hid (b = true ↔ fiS (stT x) (st.drop d)) := hbi
        have HBN : Hid (b = true → n = (i, txS (stT x) (inS x.2.2.1 (st.drop d)), neS (st.drop d))) := hbn
        clear hbi hbn
        go_wp2_with fail
        refine hK.out _ _ (hHeld.later hb hHeld.lt) (fun hHeld2 => ?_)
        clear hK K hHeld
        have hHeld := hHeld2
        clear hHeld2
        try simp only [Act.put, List.setIfInBounds_toArray, List.set_cons_zero, List.set_cons_succ]
        refine take_one 6 33 (v := ?_) rfl rfl (by kernel_rfl) (by kernel_rfl) (by kernel_rfl) (fun _ _ _ h => h) (Or.inl ⟨by rfl, ?_⟩) hHeld ?_
        rotate_left
        · intro w' hSw; (try dsimp only at hSw); go_simp; try with_reducible rfl
        try simp only [Act.put, List.setIfInBounds_toArray, List.set_cons_zero, List.set_cons_succ]
        refine take_one 7 40 (v := ?_) rfl rfl (by kernel_rfl) (by kernel_rfl) (by kernel_rfl) (fun _ _ _ h => h) (Or.inl ⟨by rfl, ?_⟩) hHeld ?_
        rotate_left
        · intro w' hSw; (try dsimp only at hSw); go_simp; try with_reducible rfl
        try simp only [Act.put, List.setIfInBounds_toArray, List.set_cons_zero, List.set_cons_succ]
        refine take_one 8 41 (v := ?_) rfl rfl (by kernel_rfl) (by kernel_rfl) (by kernel_rfl) (fun _ _ _ h => h) (Or.inl ⟨by rfl, ?_⟩) hHeld ?_
        rotate_left
        · intro w' hSw; (try dsimp only at hSw); go_simp; try with_reducible rfl
        try simp only [Act.put, List.setIfInBounds_toArray, List.set_cons_zero, List.set_cons_succ]
        have hX2 := hHeld
        refine wpAnyH_ready (rs := [9]) (by kernel_rfl) (by simp) ?_
        refine AllReadyH.cons (i := 9) rfl (fun K hK => ?_) AllReadyH.nil
        go_simp
        refine hK.out _ _ (hHeld.alloc hHeld.lt _) (fun hHeld2 => ?_)
        clear hK K hHeld
        have hHeld := hHeld2
        clear hHeld2
        try simp only [Act.put, List.setIfInBounds_toArray, List.set_cons_zero, List.set_cons_succ]
        refine wpAnyH_ready (rs := [10]) (by kernel_rfl) (by simp) ?_
        refine AllReadyH.cons (i := 10) rfl (fun K hK => ?_) AllReadyH.nil
        go_simp
        refine hK.out _ _ (hX2.alloc hX2.lt _) (fun hHeld2 => ?_)
        clear hK K hHeld
        have hHeld := hHeld2
        clear hHeld2
        try simp only [Act.put, List.setIfInBounds_toArray, List.set_cons_zero, List.set_cons_succ]
        refine take_one 11 9 (v := ?_) rfl rfl (by kernel_rfl) (by kernel_rfl) (by kernel_rfl) (fun _ _ _ h => h) (Or.inl ⟨by rfl, ?_⟩) hHeld ?_
        rotate_left
        · intro w' hSw; (try dsimp only at hSw); go_simp; try with_reducible rfl
        try simp only [Act.put, List.setIfInBounds_toArray, List.set_cons_zero, List.set_cons_succ]
        refine wpAnyH_done (by kernel_rfl) ?_ _
        have TE : Blk w2.heap.size [.int .i64 (n.1 : Int), .string n.2.1, .int .i64 (n.2.2 : Int)] (w2.alloc (.cells #[.int .i64 (n.1 : Int), .string n.2.1, .int .i64 (n.2.2 : Int)] 65)) := Blk.new _ _ _
        have BF : Below u1.heap.size u1 (w2.alloc (.cells #[.int .i64 (n.1 : Int), .string n.2.1, .int .i64 (n.2.2 : Int)] 65)) := (((Below.refl _ _).drew).trans hb).alloc hb.size _
        obtain ⟨F, hF⟩ : ∃ Y, w2.alloc (.cells #[.int .i64 (n.1 : Int), .string n.2.1, .int .i64 (n.2.2 : Int)] 65) = Y := ⟨_, rfl⟩
        rw [hF] at TE BF ⊢
        obtain ⟨g8, hg⟩ : ∃ y, w2.heap.size = y := ⟨_, rfl⟩
        have hg8 : u1.heap.size ≤ g8 := by rw [← hg]; first | exact Nat.le_refl _ | exact hb.size
        rw [hg] at TE ⊢
        have bF := bU.trans (BF.mono bU.size)
        clear hHeld hF hg
        cases b with
        | false =>
          have HN : Hid (shM (xs.map stT) = none) := ruS_no hml (HST.out.trans (stS_fi (by show ¬ fiS (stT x) (st.drop (st.length - x.2.2.2.2.2.length)); rw [hd]; exact fun c => by have := HBI.out.2 c; cases this)))
          clear HST HR HS HO HOU HBI HBN HRW HKS HSD HKW
          go_wp2
          go_ret2
          exact ⟨by rw [HN.out]; rfl, bF⟩
        | true =>
          have HNX : Hid (ruS 0 ((xs.map stT).take (i + 1)) [] = some (st.take d ++ [n])) := HST.out.trans ((stS_yes (by show ¬ st.length < x.2.2.2.2.2.length; omega) HRI.out (by show fiS (stT x) (st.drop (st.length - x.2.2.2.2.2.length)); rw [hd]; exact HBI.out.1 rfl)).trans (by have hd2 : st.length - (stT x).2.2.2.length = d := hd; rw [HBN.out rfl, hd2]; rfl))
          have HSX : Hid (SmS (st.take d ++ [n])) := fun y hy => by
            rcases List.mem_append.1 hy with h | h
            · exact HS.out y (List.mem_of_mem_take h)
            · rw [List.mem_singleton] at h
              rw [h, HBN.out rfl]
              exact ⟨(HBI.out.1 rfl).2.2, (HBI.out.1 rfl).2.1⟩
          have HOT : Hid (FOwn 65 3 cE w.heap.size sa sc (st.take d) F) := own_take (own_later HOU.out BF) hdle
          have htl : (st.take d).length = d := List.length_take_of_le hdle
          have hcond2 : x.2.2.2.2.2.length ≤ st.length ∧ (st.length : Int) - (x.2.2.2.2.2.length : Int) ≤ (sc : Int) := ⟨by omega, by omega⟩
          clear HST HR HS HO HOU HBI HBN HRW HKS HSD HKW hcond
          go_wp2
          refine wp_region_held_drew (S := (fun w' : World => Blk g8 [.int .i64 (n.1 : Int), .string n.2.1, .int .i64 (n.2.2 : Int)] w')) (by kernel_rfl) TE.drew (fun hHeld => ?_)
          refine take_one 0 44 (v := ?_) rfl rfl (by kernel_rfl) (by kernel_rfl) (by kernel_rfl) (fun _ _ _ h => h) (Or.inl ⟨by rfl, ?_⟩) hHeld ?_
          rotate_left
          · intro w' hSw; (try dsimp only at hSw); go_simp; try with_reducible rfl
          try simp only [Act.put, List.setIfInBounds_toArray, List.set_cons_zero, List.set_cons_succ]
          refine take_one 1 45 (v := ?_) rfl rfl (by kernel_rfl) (by kernel_rfl) (by kernel_rfl) (fun _ _ _ h => h) (Or.inl ⟨by rfl, ?_⟩) hHeld ?_
          rotate_left
          · intro w' hSw; (try dsimp only at hSw); go_simp; try with_reducible rfl
          try simp only [Act.put, List.setIfInBounds_toArray, List.set_cons_zero, List.set_cons_succ]
          refine take_one 2 46 (v := ?_) rfl rfl (by kernel_rfl) (by kernel_rfl) (by kernel_rfl) (fun _ _ _ h => h) (Or.inl ⟨by rfl, ?_⟩) hHeld ?_
          rotate_left
          · intro w' hSw; (try dsimp only at hSw); go_simp; try with_reducible rfl
          try simp only [Act.put, List.setIfInBounds_toArray, List.set_cons_zero, List.set_cons_succ]
          refine take_one 3 47 (v := ?_) rfl rfl (by kernel_rfl) (by kernel_rfl) (by kernel_rfl) (fun _ _ _ h => h) (Or.inl ⟨by rfl, ?_⟩) hHeld ?_
          rotate_left
          · intro w' hSw; (try dsimp only at hSw); have c0 := hSw.at 0 rfl; have c1 := hSw.at 1 rfl; have c2 := hSw.at 2 rfl; go_simp; try with_reducible rfl
          try simp only [Act.put, List.setIfInBounds_toArray, List.set_cons_zero, List.set_cons_succ]
          refine wpAnyH_ready (rs := [4]) (by kernel_rfl) (by simp) ?_
          refine AllReadyH.cons (i := 4) rfl (fun K hK => ?_) AllReadyH.nil
          go_simp
          refine hK.out _ _ (hHeld.alloc hHeld.lt _) (fun hHeld2 => ?_)
          clear hK K hHeld
          have hHeld := hHeld2
          clear hHeld2
          try simp only [Act.put, List.setIfInBounds_toArray, List.set_cons_zero, List.set_cons_succ]
          have TA : Blk F.heap.size [.int .i64 (n.1 : Int), .string n.2.1, .int .i64 (n.2.2 : Int)] ((F.alloc (.cells #[.int .i64 (n.1 : Int), .string n.2.1, .int .i64 (n.2.2 : Int)] 65)).drew) := (Blk.new _ _ _).drew
          have BA : Below F.heap.size F ((F.alloc (.cells #[.int .i64 (n.1 : Int), .string n.2.1, .int .i64 (n.2.2 : Int)] 65)).drew) := ((Below.refl _ _).alloc (Nat.le_refl _) _).drew
          have OWN : World.ownsRow ((F.alloc (.cells #[.int .i64 (n.1 : Int), .string n.2.1, .int .i64 (n.2.2 : Int)] 65)).drew) w.heap.size 65 3 (.slice sa d sc) d (fl cE (st.take d)) := by have := own_later HOT.out BA; rw [htl] at this; exact this
          have hob2 : ∀ k, (Value.slice sa d sc).ownBlock = some k → k < u1.heap.size := fun k e => hob k (by cases sa <;> exact e)
          have hsF : u1.heap.size ≤ F.heap.size := BF.size
          refine wpAnyH_ready (rs := [5]) (by kernel_rfl) (by simp) ?_
          refine AllReadyH.cons (i := 5) rfl (fun K hK => ?_) AllReadyH.nil
          refine step_own_at 49 rfl rfl _ _ 62 rfl w.heap.size 65 je _ 3 32 Tryd.underlying62 hje hjz hjs hjb rfl (by decide) (.slice sa d sc) d (fl cE (st.take d)) rfl OWN ⟨F.heap.size, 0, none⟩ 1 1 [.int .i64 (n.1 : Int), .string n.2.1, .int .i64 (n.2.2 : Int)] rfl rfl (news_box TA) (fun u hu => by simp at hu; rcases hu with rfl | rfl | rfl <;> rfl) (by unfold maxLen; omega) (by omega) (Nat.le_trans bF.size BA.size) ?_
          intro v3 w3 own3 gr3 wh3
          obtain ⟨na, nc, rfl, _⟩ := own_shape own3
          refine hK.out _ _ (blk_kept hHeld gr3 (fun e => by have := hob2 g8 e.symm; omega) hHeld.lt) (fun hHeld2 => ?_)
          clear hK K hHeld
          have hHeld := hHeld2
          clear hHeld2
          try simp only [Act.put, List.setIfInBounds_toArray, List.set_cons_zero, List.set_cons_succ]
          have HOX : Hid (FOwn 65 3 cE w.heap.size na nc (st.take d ++ [n]) w3) := by show World.ownsRow _ _ _ _ _ _ _; rw [List.length_append, htl, fl_snoc]; exact own3
          have bA3 := bF.trans (BA.mono bF.size)
          have bw3 : Below w.heap.size w w3 := ⟨gr3.os.trans bA3.os, gr3.tape.trans bA3.tape, gr3.output.trans bA3.output, Nat.le_trans bA3.size gr3.size, fun k hk => (gr3.block k (Nat.lt_of_lt_of_le hk bA3.size) (fun e => by have := (World.ownsRow.lt OWN k e.symm).1; omega)).trans (bA3.block k hk)⟩
          have HRR : Hid (∃ (i2 : Nat) (st2 : List En) (sa2 : Option Addr) (sc2 : Nat), i2 ≤ xs.length ∧ Value.slice na (d + 1) nc = .slice sa2 st2.length sc2 ∧ Value.int .i64 ((i : Int) + 1) = .int .i64 i2 ∧ Hid (ruS 0 ((xs.map stT).take i2) [] = some st2) ∧ Hid (SmS st2) ∧ Hid (FOwn 65 3 cE w.heap.size sa2 sc2 st2 w3) ∧ st2.length ≤ i2 ∧ Below w.heap.size w w3) := ⟨i + 1, st.take d ++ [n], na, nc, by omega, by rw [List.length_append, htl]; rfl, by rfl, HNX, HSX, HOX, by rw [List.length_append, htl, List.length_singleton]; omega, bw3⟩
          refine take_one 6 4 (v := ?_) rfl rfl (by kernel_rfl) (by kernel_rfl) (by kernel_rfl) (fun _ _ _ h => h) (Or.inl ⟨by rfl, ?_⟩) hHeld ?_
          rotate_left
          · intro w' hSw; (try dsimp only at hSw); go_simp; try with_reducible rfl
          try simp only [Act.put, List.setIfInBounds_toArray, List.set_cons_zero, List.set_cons_succ]
          refine wpAnyH_done (by kernel_rfl) ?_ _
          clear own3 gr3 wh3 OWN TA BA HOT HNX HSX HOX hHeld TE BF bA3 bw3 bF
          go_wp2
          go_roundw
          case rel =>
            first | exact HRR.out | ((repeat apply Exists.intro); exact ⟨HRR.out, rfl⟩) | ((repeat apply Exists.intro); exact ⟨HRR.out, rfl, rfl, rfl, rfl, rfl, rfl⟩) | (trace_state; sorry)
          case measure => simp [intOf]; omega
      ·
        go_simp
        refine hK.out _ _ (hHeld.alloc hHeld.lt _) (fun hHeld2 => ?_)
        clear hK K hHeld
        have hHeld := hHeld2
        clear hHeld2
        try simp only [Act.put, List.setIfInBounds_toArray, List.set_cons_zero, List.set_cons_succ]
        refine wpAnyH_ready (rs := [5]) (by kernel_rfl) (by simp) ?_
        refine AllReadyH.cons (i := 5) rfl (fun K hK => ?_) AllReadyH.nil
        have TE1 : Blk u1.heap.size [.int .i64 0, .string ⟨#[]⟩, .int .i64 0] ((u1.alloc (.cells #[.int .i64 0, .string ⟨#[]⟩, .int .i64 0] 65)).drew) := (Blk.new _ _ _).drew
        go_simp
        refine (HKS.out _ (((Below.refl _ _).alloc (Nat.le_refl _) _).drew)).mono ?_
        rintro e w2 ⟨n, b, rfl, hbi, hbn, hb⟩
        have HBI : Hid (b = true ↔ fiS (stT x) (st.drop d)) := hbi
        have HBN : Hid (b = true → n = (i, txS (stT x) (inS x.2.2.1 (st.drop d)), neS (st.drop d))) := hbn
        clear hbi hbn
        go_wp2_with fail
        refine hK.out _ _ (hHeld.later hb hHeld.lt) (fun hHeld2 => ?_)
        clear hK K hHeld
        have hHeld := hHeld2
        clear hHeld2
        try simp only [Act.put, List.setIfInBounds_toArray, List.set_cons_zero, List.set_cons_succ]
        refine take_one 6 33 (v := ?_) rfl rfl (by kernel_rfl) (by kernel_rfl) (by kernel_rfl) (fun _ _ _ h => h) (Or.inl ⟨by rfl, ?_⟩) hHeld ?_
        rotate_left
        · intro w' hSw; (try dsimp only at hSw); go_simp; try with_reducible rfl
        try simp only [Act.put, List.setIfInBounds_toArray, List.set_cons_zero, List.set_cons_succ]
        refine take_one 7 40 (v := ?_) rfl rfl (by kernel_rfl) (by kernel_rfl) (by kernel_rfl) (fun _ _ _ h => h) (Or.inl ⟨by rfl, ?_⟩) hHeld ?_
        rotate_left
        · intro w' hSw; (try dsimp only at hSw); go_simp; try with_reducible rfl
        try simp only [Act.put, List.setIfInBounds_toArray, List.set_cons_zero, List.set_cons_succ]
        refine take_one 8 41 (v := ?_) rfl rfl (by kernel_rfl) (by kernel_rfl) (by kernel_rfl) (fun _ _ _ h => h) (Or.inl ⟨by rfl, ?_⟩) hHeld ?_
        rotate_left
        · intro w' hSw; (try dsimp only at hSw); go_simp; try with_reducible rfl
        try simp only [Act.put, List.setIfInBounds_toArray, List.set_cons_zero, List.set_cons_succ]
        have TE2 := TE1.later hb TE1.lt
        have a0 := TE2.at 0 rfl
        have z0 := TE2.fz 0 rfl
        have a1 := TE2.at 1 rfl
        have z1 := TE2.fz 1 rfl
        have a2 := TE2.at 2 rfl
        have z2 := TE2.fz 2 rfl
        refine wpAnyH_ready (rs := [10]) (by kernel_rfl) (by simp) ?_
        refine AllReadyH.cons (i := 10) rfl (fun K hK => ?_) AllReadyH.nil
        go_simp
        refine hK.out _ _ (((hHeld.far (by omega) 0 _).far (by omega) 1 _).far (by omega) 2 _) (fun hHeld2 => ?_)
        clear hK K hHeld
        have hHeld := hHeld2
        clear hHeld2
        try simp only [Act.put, List.setIfInBounds_toArray, List.set_cons_zero, List.set_cons_succ]
        clear a0 a1 a2 z0 z1 z2
        refine take_one 11 9 (v := ?_) rfl rfl (by kernel_rfl) (by kernel_rfl) (by kernel_rfl) (fun _ _ _ h => h) (Or.inl ⟨by rfl, ?_⟩) hHeld ?_
        rotate_left
        · intro w' hSw; (try dsimp only at hSw); go_simp; try with_reducible rfl
        try simp only [Act.put, List.setIfInBounds_toArray, List.set_cons_zero, List.set_cons_succ]
        refine wpAnyH_done (by kernel_rfl) ?_ _
        have TE : Blk u1.heap.size [.int .i64 (n.1 : Int), .string n.2.1, .int .i64 (n.2.2 : Int)] (((w2.setCell ⟨u1.heap.size, 0, none⟩ (.int .i64 (n.1 : Int))).setCell ⟨u1.heap.size, 1, none⟩ (.string n.2.1)).setCell ⟨u1.heap.size, 2, none⟩ (.int .i64 (n.2.2 : Int))) := ((TE2.set 0 _).set 1 _).set 2 _
        have BF : Below u1.heap.size u1 (((w2.setCell ⟨u1.heap.size, 0, none⟩ (.int .i64 (n.1 : Int))).setCell ⟨u1.heap.size, 1, none⟩ (.string n.2.1)).setCell ⟨u1.heap.size, 2, none⟩ (.int .i64 (n.2.2 : Int))) := ((((((Below.refl _ _).alloc (Nat.le_refl _) _).drew).trans (hb.mono (by simp))).setCell (Nat.le_refl _) _).setCell (Nat.le_refl _) _).setCell (Nat.le_refl _) _
        obtain ⟨F, hF⟩ : ∃ Y, ((w2.setCell ⟨u1.heap.size, 0, none⟩ (.int .i64 (n.1 : Int))).setCell ⟨u1.heap.size, 1, none⟩ (.string n.2.1)).setCell ⟨u1.heap.size, 2, none⟩ (.int .i64 (n.2.2 : Int)) = Y := ⟨_, rfl⟩
        rw [hF] at TE BF ⊢
        obtain ⟨g8, hg⟩ : ∃ y, u1.heap.size = y := ⟨_, rfl⟩
        have hg8 : u1.heap.size ≤ g8 := by rw [← hg]; first | exact Nat.le_refl _ | exact hb.size
        rw [hg] at TE ⊢
        have bF := bU.trans (BF.mono bU.size)
        clear hHeld hF hg
        cases b with
        | false =>
          have HN : Hid (shM (xs.map stT) = none) := ruS_no hml (HST.out.trans (stS_fi (by show ¬ fiS (stT x) (st.drop (st.length - x.2.2.2.2.2.length)); rw [hd]; exact fun c => by have := HBI.out.2 c; cases this)))
          clear HST HR HS HO HOU HBI HBN HRW HKS HSD HKW
          go_wp2
          go_ret2
          exact ⟨by rw [HN.out]; rfl, bF⟩
        | true =>
          have HNX : Hid (ruS 0 ((xs.map stT).take (i + 1)) [] = some (st.take d ++ [n])) := HST.out.trans ((stS_yes (by show ¬ st.length < x.2.2.2.2.2.length; omega) HRI.out (by show fiS (stT x) (st.drop (st.length - x.2.2.2.2.2.length)); rw [hd]; exact HBI.out.1 rfl)).trans (by have hd2 : st.length - (stT x).2.2.2.length = d := hd; rw [HBN.out rfl, hd2]; rfl))
          have HSX : Hid (SmS (st.take d ++ [n])) := fun y hy => by
            rcases List.mem_append.1 hy with h | h
            · exact HS.out y (List.mem_of_mem_take h)
            · rw [List.mem_singleton] at h
              rw [h, HBN.out rfl]
              exact ⟨(HBI.out.1 rfl).2.2, (HBI.out.1 rfl).2.1⟩
          have HOT : Hid (FOwn 65 3 cE w.heap.size sa sc (st.take d) F) := own_take (own_later HOU.out BF) hdle
          have htl : (st.take d).length = d := List.length_take_of_le hdle
          have hcond2 : x.2.2.2.2.2.length ≤ st.length ∧ (st.length : Int) - (x.2.2.2.2.2.length : Int) ≤ (sc : Int) := ⟨by omega, by omega⟩
          clear HST HR HS HO HOU HBI HBN HRW HKS HSD HKW hcond
          go_wp2
          refine wp_region_held_drew (S := (fun w' : World => Blk g8 [.int .i64 (n.1 : Int), .string n.2.1, .int .i64 (n.2.2 : Int)] w')) (by kernel_rfl) TE.drew (fun hHeld => ?_)
          refine take_one 0 44 (v := ?_) rfl rfl (by kernel_rfl) (by kernel_rfl) (by kernel_rfl) (fun _ _ _ h => h) (Or.inl ⟨by rfl, ?_⟩) hHeld ?_
          rotate_left
          · intro w' hSw; (try dsimp only at hSw); go_simp; try with_reducible rfl
          try simp only [Act.put, List.setIfInBounds_toArray, List.set_cons_zero, List.set_cons_succ]
          refine take_one 1 45 (v := ?_) rfl rfl (by kernel_rfl) (by kernel_rfl) (by kernel_rfl) (fun _ _ _ h => h) (Or.inl ⟨by rfl, ?_⟩) hHeld ?_
          rotate_left
          · intro w' hSw; (try dsimp only at hSw); go_simp; try with_reducible rfl
          try simp only [Act.put, List.setIfInBounds_toArray, List.set_cons_zero, List.set_cons_succ]
          refine take_one 2 46 (v := ?_) rfl rfl (by kernel_rfl) (by kernel_rfl) (by kernel_rfl) (fun _ _ _ h => h) (Or.inl ⟨by rfl, ?_⟩) hHeld ?_
          rotate_left
          · intro w' hSw; (try dsimp only at hSw); go_simp; try with_reducible rfl
          try simp only [Act.put, List.setIfInBounds_toArray, List.set_cons_zero, List.set_cons_succ]
          refine take_one 3 47 (v := ?_) rfl rfl (by kernel_rfl) (by kernel_rfl) (by kernel_rfl) (fun _ _ _ h => h) (Or.inl ⟨by rfl, ?_⟩) hHeld ?_
          rotate_left
          · intro w' hSw; (try dsimp only at hSw); have c0 := hSw.at 0 rfl; have c1 := hSw.at 1 rfl; have c2 := hSw.at 2 rfl; go_simp; try with_reducible rfl
          try simp only [Act.put, List.setIfInBounds_toArray, List.set_cons_zero, List.set_cons_succ]
          refine wpAnyH_ready (rs := [4]) (by kernel_rfl) (by simp) ?_
          refine AllReadyH.cons (i := 4) rfl (fun K hK => ?_) AllReadyH.nil
          go_simp
          refine hK.out _ _ (hHeld.alloc hHeld.lt _) (fun hHeld2 => ?_)
          clear hK K hHeld
          have hHeld := hHeld2
          clear hHeld2
          try simp only [Act.put, List.setIfInBounds_toArray, List.set_cons_zero, List.set_cons_succ]
          have TA : Blk F.heap.size [.int .i64 (n.1 : Int), .string n.2.1, .int .i64 (n.2.2 : Int)] ((F.alloc (.cells #[.int .i64 (n.1 : Int), .string n.2.1, .int .i64 (n.2.2 : Int)] 65)).drew) := (Blk.new _ _ _).drew
          have BA : Below F.heap.size F ((F.alloc (.cells #[.int .i64 (n.1 : Int), .string n.2.1, .int .i64 (n.2.2 : Int)] 65)).drew) := ((Below.refl _ _).alloc (Nat.le_refl _) _).drew
          have OWN : World.ownsRow ((F.alloc (.cells #[.int .i64 (n.1 : Int), .string n.2.1, .int .i64 (n.2.2 : Int)] 65)).drew) w.heap.size 65 3 (.slice sa d sc) d (fl cE (st.take d)) := by have := own_later HOT.out BA; rw [htl] at this; exact this
          have hob2 : ∀ k, (Value.slice sa d sc).ownBlock = some k → k < u1.heap.size := fun k e => hob k (by cases sa <;> exact e)
          have hsF : u1.heap.size ≤ F.heap.size := BF.size
          refine wpAnyH_ready (rs := [5]) (by kernel_rfl) (by simp) ?_
          refine AllReadyH.cons (i := 5) rfl (fun K hK => ?_) AllReadyH.nil
          refine step_own_at 49 rfl rfl _ _ 62 rfl w.heap.size 65 je _ 3 32 Tryd.underlying62 hje hjz hjs hjb rfl (by decide) (.slice sa d sc) d (fl cE (st.take d)) rfl OWN ⟨F.heap.size, 0, none⟩ 1 1 [.int .i64 (n.1 : Int), .string n.2.1, .int .i64 (n.2.2 : Int)] rfl rfl (news_box TA) (fun u hu => by simp at hu; rcases hu with rfl | rfl | rfl <;> rfl) (by unfold maxLen; omega) (by omega) (Nat.le_trans bF.size BA.size) ?_
          intro v3 w3 own3 gr3 wh3
          obtain ⟨na, nc, rfl, _⟩ := own_shape own3
          refine hK.out _ _ (blk_kept hHeld gr3 (fun e => by have := hob2 g8 e.symm; omega) hHeld.lt) (fun hHeld2 => ?_)
          clear hK K hHeld
          have hHeld := hHeld2
          clear hHeld2
          try simp only [Act.put, List.setIfInBounds_toArray, List.set_cons_zero, List.set_cons_succ]
          have HOX : Hid (FOwn 65 3 cE w.heap.size na nc (st.take d ++ [n]) w3) := by show World.ownsRow _ _ _ _ _ _ _; rw [List.length_append, htl, fl_snoc]; exact own3
          have bA3 := bF.trans (BA.mono bF.size)
          have bw3 : Below w.heap.size w w3 := ⟨gr3.os.trans bA3.os, gr3.tape.trans bA3.tape, gr3.output.trans bA3.output, Nat.le_trans bA3.size gr3.size, fun k hk => (gr3.block k (Nat.lt_of_lt_of_le hk bA3.size) (fun e => by have := (World.ownsRow.lt OWN k e.symm).1; omega)).trans (bA3.block k hk)⟩
          have HRR : Hid (∃ (i2 : Nat) (st2 : List En) (sa2 : Option Addr) (sc2 : Nat), i2 ≤ xs.length ∧ Value.slice na (d + 1) nc = .slice sa2 st2.length sc2 ∧ Value.int .i64 ((i : Int) + 1) = .int .i64 i2 ∧ Hid (ruS 0 ((xs.map stT).take i2) [] = some st2) ∧ Hid (SmS st2) ∧ Hid (FOwn 65 3 cE w.heap.size sa2 sc2 st2 w3) ∧ st2.length ≤ i2 ∧ Below w.heap.size w w3) := ⟨i + 1, st.take d ++ [n], na, nc, by omega, by rw [List.length_append, htl]; rfl, by rfl, HNX, HSX, HOX, by rw [List.length_append, htl, List.length_singleton]; omega, bw3⟩
          refine take_one 6 4 (v := ?_) rfl rfl (by kernel_rfl) (by kernel_rfl) (by kernel_rfl) (fun _ _ _ h => h) (Or.inl ⟨by rfl, ?_⟩) hHeld ?_
          rotate_left
          · intro w' hSw; (try dsimp only at hSw); go_simp; try with_reducible rfl
          try simp only [Act.put, List.setIfInBounds_toArray, List.set_cons_zero, List.set_cons_succ]
          refine wpAnyH_done (by kernel_rfl) ?_ _
          clear own3 gr3 wh3 OWN TA BA HOT HNX HSX HOX hHeld TE BF bA3 bw3 bF
          go_wp2
          go_roundw
          case rel =>
            first | exact HRR.out | ((repeat apply Exists.intro); exact ⟨HRR.out, rfl⟩) | ((repeat apply Exists.intro); exact ⟨HRR.out, rfl, rfl, rfl, rfl, rfl, rfl⟩) | (trace_state; sorry)
          case measure => simp [intOf]; omega
end Go.Proofs.YtengggpobhibcaaDoor.Nd
