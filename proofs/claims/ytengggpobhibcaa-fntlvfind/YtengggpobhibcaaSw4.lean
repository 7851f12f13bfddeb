/- The program: a node with its Kids that have ended. -/
import Derived.Test.YtengggpobhibcaaSw3
set_option linter.unusedVariables false
set_option maxRecDepth 100000
namespace Go.Proofs.Ytengggpobhibcaa.Nd
open Go Go.RowKit Go.Joins Own Draw Var

abbrev cE (e : En) : List Value := [.int .i64 (e.1 : Int), .string e.2.1, .int .i64 (e.2.2 : Int)]
theorem lE (e : En) : (cE e).length = 3 := rfl
theorem info_E : ∃ ie, Try.prog.info? 56 = some ie ∧ ie.size = 3 := by
  have h : (Try.prog.info? 56).map (fun i => i.size) = some 3 := by kernel_rfl
  cases e : Try.prog.info? 56 with
  | none => rw [e] at h; cases h
  | some i => rw [e] at h; exact ⟨i, rfl, by simpa using h⟩
theorem ld_E {U : World} {b o j : Nat} {x : En} (ie : TypeInfo) (hie : Try.prog.info? 56 = some ie) (his : ie.size = 3) (hc : ∀ i v, (cE x)[i]? = some v → U.cell? ⟨b, o + j * 3 + i, none⟩ = some v) : LdV Try.prog 56 b (o + j * 3) (.agg #[.int .i64 (x.1 : Int), .string x.2.1, .int .i64 (x.2.2 : Int)]) U := by
  refine ⟨?_⟩
  refine Go.Lib.rl_loadVar_cells 56 ie hie Try.isAgg56 b (o + j * 3) (cE x) (by rw [his]; rfl) U ?_
  intro k v e
  exact hc k v e
theorem blk_dN {g : Nat} {vs : List Value} {W : World} (h : Blk g vs W) (n : Nat) : Blk g vs (W.drewN n) := ⟨fun i v e => h.out i v e⟩
theorem bel_dN {B : Nat} {a w : World} (h : Below B a w) (n : Nat) : Below B a (w.drewN n) := ⟨h.os, h.tape, h.output, h.size, h.block⟩
theorem inS_snoc (d : ByteArray) (es : List En) (e : En) : inS d (es ++ [e]) = inS d es ++ e.2.1 := by unfold inS; rw [List.foldl_append]; rfl
theorem neS_snoc (es : List En) (e : En) : neS (es ++ [e]) = max (neS es) (e.2.2 + 1) := by unfold neS; rw [List.foldl_append]; rfl
theorem inS_size (d : ByteArray) : ∀ (es : List En), (∀ e ∈ es, e.2.1.size ≤ 900) → (inS d es).size ≤ d.size + 900 * es.length := by
  intro es h
  induction es generalizing d with
  | nil => simp [inS]
  | cons e es ih =>
    rw [inS_cons]
    have h1 := ih (d ++ e.2.1) (fun x hx => h x (by simp [hx]))
    have h2 := h e (by simp)
    rw [ByteArray.size_append] at h1
    rw [List.length_cons]
    omega
theorem neS_small (es : List En) (h : ∀ e ∈ es, e.2.2 ≤ 8) : neS es ≤ 9 := neS_le es 1 8 (by omega) h
def ShoP (x : TT) (i : Nat) (es : List En) (w : World) (e : Ending) (w' : World) : Prop := ∃ (n : En) (b : Bool), e = .returned (.tuple #[.agg #[.int .i64 (n.1 : Int), .string n.2.1, .int .i64 (n.2.2 : Int)], .bool b]) ∧ (b = true ↔ fiS (stT x) es) ∧ (b = true → n = (i, txS (stT x) (inS x.2.2.1 es), neS es)) ∧ Below w.heap.size w w'
set_option maxRecDepth 100000 in
set_option maxHeartbeats 3200000 in
theorem sho_is (x : TT) (i : Nat) (es : List En) (a : Option Addr) (ca : Nat) (w : World) (hrow : FRow 3 cE w a es) (hkw : RowAt (Value.int .i64) w x.2.2.2.1 x.2.2.2.2.2) (hl : es.length = x.2.2.2.2.2.length) (hx : 1 ≤ x.1 ∧ x.1 ≤ 100) (hd : x.2.2.1.size ≤ 900) (he : ∀ e ∈ es, e.2.1.size ≤ 900 ∧ e.2.2 ≤ 8) (hes : es.length ≤ 60) :
    Calls Try.prog 28 #[.agg #[.int .i64 x.1, .bool x.2.1, .string x.2.2.1, .slice x.2.2.2.1 x.2.2.2.2.2.length x.2.2.2.2.1], .int .i64 (i : Int), .slice a es.length ca] w fun e w' => ShoP x i es w e w' := by
  obtain ⟨it, hit, hits⟩ := info_T
  obtain ⟨ie, hie, hies⟩ := info_E
  obtain ⟨A0, hA0⟩ : ∃ Y, w.alloc (.cells #[.int .i64 x.1, .bool x.2.1, .string x.2.2.1, .slice x.2.2.2.1 x.2.2.2.2.2.length x.2.2.2.2.1] 31) = Y := ⟨_, rfl⟩
  have TX0 : Blk w.heap.size [.int .i64 x.1, .bool x.2.1, .string x.2.2.1, .slice x.2.2.2.1 x.2.2.2.2.2.length x.2.2.2.2.1] A0 := by rw [← hA0]; exact Blk.new _ _ _
  have B0 : Below w.heap.size w A0 := by rw [← hA0]; exact (Below.refl _ _).alloc (Nat.le_refl _) _
  have s0 : A0.heap.size = w.heap.size + 1 := by rw [← hA0]; simp
  obtain ⟨A1, hA1⟩ : ∃ Y, A0.alloc (.cells #[.int .i64 0, .string ⟨#[]⟩, .int .i64 0] 56) = Y := ⟨_, rfl⟩
  have TR : Blk (w.heap.size + 1) [.int .i64 0, .string ⟨#[]⟩, .int .i64 0] A1 := by rw [← hA1, ← s0]; exact Blk.new _ _ _
  have TX : Blk w.heap.size [.int .i64 x.1, .bool x.2.1, .string x.2.2.1, .slice x.2.2.2.1 x.2.2.2.2.2.length x.2.2.2.2.1] A1 := by rw [← hA1]; exact TX0.alloc TX0.lt _
  have B1 : Below w.heap.size w A1 := by rw [← hA1]; exact B0.alloc B0.size _
  have s1 : w.heap.size + 1 < A1.heap.size := TR.lt
  have p2 := TX.at 2 rfl
  have HL : Hid (es.length = x.2.2.2.2.2.length) := hl
  clear TX0 B0 hl
  go_enter Try.func28, Try.ntmps28
  go_wp2
  go_loopw [8, 9, 17] (fun s n k wr => ∃ (j : Nat), j ≤ es.length ∧ s = .string (inS x.2.2.1 (es.take j)) ∧ n = .int .i64 ((neS (es.take j) : Nat) : Int) ∧ k = .int .i64 j ∧ Hid (x.2.2.2.2.2.take j = (es.map (fun e => (e.1 : Int))).take j) ∧ Below w.heap.size w wr ∧ Below A1.heap.size A1 wr) (fun _ _ k _ => es.length - (intOf k).toNat)
  case atStart => exact ⟨0, Nat.zero_le _, rfl, rfl, rfl, rfl, B1, Below.refl _ _⟩
  case round =>
    obtain ⟨j, hj, rfl, rfl, rfl, HP, bw, ba⟩ := hrel
    have TXr := TX.later ba TX.lt
    have TRr := TR.later ba TR.lt
    have hst : (inS x.2.2.1 (es.take j)).size ≤ 54900 := by have := inS_size x.2.2.1 (es.take j) (fun e h => (he e (List.mem_of_mem_take h)).1); rw [List.length_take] at this; omega
    have hnt : neS (es.take j) ≤ 9 := neS_small _ (fun e h => (he e (List.mem_of_mem_take h)).2)
    by_cases hlt : j < es.length
    · have hltI : (j : Int) < (es.length : Int) := by omega
      have hltM : j < x.2.2.2.2.2.length := by have := HL.out; omega
      have hltN : (j : Int) < (x.2.2.2.2.2.length : Int) := by omega
      obtain ⟨b1, o1, rfl, l1, hc1⟩ := hrow j hlt
      have hd1 : ∀ i v, (cE es[j])[i]? = some v → wr.cell? ⟨b1, o1 + j * 3 + i, none⟩ = some v := fun i v e => (bw.cell (p := ⟨b1, o1 + j * 3 + i, none⟩) l1).trans (hc1 i v e)
      have ld1 := ld_E ie hie hies hd1
      obtain ⟨b2, o2, e2, l2, hc2⟩ := hkw j hltM
      have hej := he es[j] (List.getElem_mem hlt)
      have HTK : Hid (es.take (j + 1) = es.take j ++ [es[j]]) := List.take_succ_eq_append_getElem hlt
      have HTM : Hid (x.2.2.2.2.2.take (j + 1) = x.2.2.2.2.2.take j ++ [x.2.2.2.2.2[j]]) := List.take_succ_eq_append_getElem hltM
      have HNO : Hid (¬ x.2.2.2.2.2[j] = (es[j].1 : Int) → ¬ fiS (stT x) es) := fun hn c => hn (by have := c.1; have h1 : x.2.2.2.2.2 = es.map (fun e => (e.1 : Int)) := this; simp only [h1, List.getElem_map])
      generalize es[j] = e at ld1 hej HTK HNO
      generalize x.2.2.2.2.2[j] = v at hc2 HTM HNO
      clear hc1 hd1
      obtain ⟨C0, hC0⟩ : ∃ Y, wr.alloc (.cells #[.int .i64 0, .string ⟨#[]⟩, .int .i64 0] 56) = Y := ⟨_, rfl⟩
      have TC0 : Blk wr.heap.size [.int .i64 0, .string ⟨#[]⟩, .int .i64 0] C0 := by rw [← hC0]; exact Blk.new _ _ _
      have BC0 : Below wr.heap.size wr C0 := by rw [← hC0]; exact (Below.refl _ _).alloc (Nat.le_refl _) _
      obtain ⟨C1, hC1⟩ : ∃ Y, C0.setCells wr.heap.size 0 [.int .i64 (e.1 : Int), .string e.2.1, .int .i64 (e.2.2 : Int)] = Y := ⟨_, rfl⟩
      have TE : Blk wr.heap.size [.int .i64 (e.1 : Int), .string e.2.1, .int .i64 (e.2.2 : Int)] C1 := by rw [← hC1]; exact TC0.sets _ rfl
      have BC : Below wr.heap.size wr C1 := by rw [← hC1]; exact below_sets (Nat.le_refl _) _ _ _ BC0
      have TXc := TXr.later BC TXr.lt
      have p3 := TXc.at 3 rfl
      rw [e2] at p3
      have bwC := bw.trans (BC.mono bw.size)
      have hc3 : C1.cell? ⟨b2, o2 + j, none⟩ = some (.int .i64 v) := (bwC.cell (p := ⟨b2, o2 + j, none⟩) l2).trans hc2
      have t0 := TE.at 0 rfl
      clear hc2
      go_wp2_with (first | (refine wpList_ldV 56 _ b1 (o1 + j * 3) _ ld1 rfl rfl rfl ?_) | (refine wpList_stB 56 _ _ wr.heap.size 0 _ [.int .i64 (e.1 : Int), .string e.2.1, .int .i64 (e.2.2 : Int)] ie hie TC0 hies.symm (by simp) rfl rfl rfl rfl rfl ?_; rw [hC1]))
      clear ld1 TC0 BC0 hC0 hC1
      go_quiet (fail)
      have TEd := blk_dN TE nq
      have TRd := blk_dN (TRr.later BC TRr.lt) nq
      have baC := bel_dN (ba.trans (BC.mono ba.size)) nq
      have bwD := bel_dN bwC nq
      obtain ⟨D, hD⟩ : ∃ Y, C1.drewN nq = Y := ⟨_, rfl⟩
      rw [hD] at TEd TRd baC bwD ⊢
      clear hD
      clear p3 hc3 t0 TXc TE BC TXr TRr
      by_cases hm : v = (e.1 : Int)
      · have cm : (v != (e.1 : Int)) = false := by rw [hm]; simp
        have t1 := TEd.at 1 rfl
        have t2 := TEd.at 2 rfl
        have hs : ¬ 9223372036854775807 < (inS x.2.2.1 (es.take j)).size + e.2.1.size := by omega
        have HI : Hid (inS x.2.2.1 (es.take (j + 1)) = inS x.2.2.1 (es.take j) ++ e.2.1) := by show _ = _; rw [HTK.out, inS_snoc]
        have HN : Hid (neS (es.take (j + 1)) = max (neS (es.take j)) (e.2.2 + 1)) := by show _ = _; rw [HTK.out, neS_snoc]
        have HP2 : Hid (x.2.2.2.2.2.take (j + 1) = (es.map (fun e => (e.1 : Int))).take (j + 1)) := by show _ = _; rw [← List.map_take, HTM.out, HTK.out, List.map_append, HP.out, ← List.map_take, hm]; rfl
        have HR : Hid (∀ nv : Int, nv = ((neS (es.take (j + 1)) : Nat) : Int) → ∃ j' : Nat, j' ≤ es.length ∧ Value.string (inS x.2.2.1 (es.take j) ++ e.2.1) = .string (inS x.2.2.1 (es.take j')) ∧ Value.int .i64 nv = .int .i64 ((neS (es.take j') : Nat) : Int) ∧ Value.int .i64 ((j : Int) + 1) = .int .i64 (j' : Int) ∧ Hid (x.2.2.2.2.2.take j' = (es.map (fun e => (e.1 : Int))).take j')) := fun nv hnv => ⟨j + 1, by omega, by rw [HI.out], by rw [hnv], by rfl, HP2⟩
        clear HTK HTM HNO hm HP HP2 HI
        go_wp2
        all_goals
          go_roundw
          case rel =>
            (repeat apply Exists.intro)
            refine ⟨HR.out _ ?_, rfl, rfl, rfl, rfl, rfl, rfl⟩
            rw [HN.out]; omega
          case measure => simp [intOf]; omega
      · have cm : (v != (e.1 : Int)) = true := by simpa using hm
        have HN : Hid (¬ fiS (stT x) es) := HNO.out hm
        obtain ⟨F, hF⟩ : ∃ Y, D.setCells (w.heap.size + 1) 0 [.int .i64 0, .string ⟨#[]⟩, .int .i64 0] = Y := ⟨_, rfl⟩
        have TF : Blk (w.heap.size + 1) [.int .i64 0, .string ⟨#[]⟩, .int .i64 0] F := by rw [← hF]; exact TRd.sets _ rfl
        have BF : Below w.heap.size w F := by rw [← hF]; exact below_sets (by omega) _ _ _ bwD
        clear HTK HTM HNO hm HP
        go_wp2_with (first | (refine wpList_stB 56 _ _ (w.heap.size + 1) 0 _ [.int .i64 0, .string ⟨#[]⟩, .int .i64 0] ie hie TRd hies.symm (by simp) rfl rfl rfl rfl rfl ?_; rw [hF]))
        exact bodyPost_ret (res_B2 rfl _ _ (w.heap.size + 1) [.int .i64 0, .string ⟨#[]⟩, .int .i64 0] (.bool false) ie hie (Try.isAgg56) TF hies.symm rfl rfl) rfl ⟨(0, ⟨#[]⟩, 0), false, rfl, ⟨fun c => (by cases c), fun c => absurd c HN.out⟩, (fun c => (by cases c)), BF⟩
    · have hje : j = es.length := by omega
      have hltI : ¬ (j : Int) < (es.length : Int) := by omega
      have hta : es.take j = es := by rw [hje, List.take_length]
      have htm : x.2.2.2.2.2.take j = x.2.2.2.2.2 := by rw [hje, HL.out, List.take_length]
      have hP := HP.out
      rw [← List.map_take] at hP
      rw [hta] at hP hst hnt ⊢
      rw [htm] at hP
      have KA := aro_is x (inS x.2.2.1 es) wr hx (by omega)
      have HF : Hid (fiS (stT x) es ↔ neS es ≤ 8 ∧ (txS (stT x) (inS x.2.2.1 es)).size ≤ 900) := ⟨fun c => c.2, fun c => ⟨hP, c⟩⟩
      clear HP hP hta htm hrow hkw p2
      go_wp2_with (first | (refine wpList_ldB 31 _ w.heap.size 0 _ [.int .i64 x.1, .bool x.2.1, .string x.2.2.1, .slice x.2.2.2.1 x.2.2.2.2.2.length x.2.2.2.2.1] it hit (Try.isAgg31) TXr hits.symm rfl rfl rfl rfl ?_))
      refine KA.mono ?_
      clear KA
      rintro ex w2 ⟨rfl, hb⟩
      have TR2 := TRr.later hb TRr.lt
      have bw2 := bw.trans (hb.mono bw.size)
      clear bw hb TRr TXr ba
      obtain ⟨tx, htx⟩ : ∃ t, txS (stT x) (inS x.2.2.1 es) = t := ⟨_, rfl⟩
      rw [htx] at HF ⊢
      obtain ⟨F, hF⟩ : ∃ Y, w2.setCells (w.heap.size + 1) 0 [.int .i64 (i : Int), .string tx, .int .i64 ((neS es : Nat) : Int)] = Y := ⟨_, rfl⟩
      have TF : Blk (w.heap.size + 1) [.int .i64 (i : Int), .string tx, .int .i64 ((neS es : Nat) : Int)] F := by rw [← hF]; exact TR2.sets _ rfl
      have BF : Below w.heap.size w F := by rw [← hF]; exact below_sets (by omega) _ _ _ bw2
      have HT : Hid (txS (stT x) (inS x.2.2.1 es) = tx) := htx
      clear htx
      by_cases h8 : neS es ≤ 8
      · have c8 : ((neS es : Nat) : Int) ≤ 8 := by omega
        go_wp2_with (first | (refine wpList_stB 56 _ _ (w.heap.size + 1) 0 _ [.int .i64 (i : Int), .string tx, .int .i64 ((neS es : Nat) : Int)] ie hie TR2 hies.symm (by simp) rfl rfl rfl rfl rfl ?_; rw [hF]))
        exact bodyPost_ret (res_B2 rfl _ _ (w.heap.size + 1) [.int .i64 (i : Int), .string tx, .int .i64 ((neS es : Nat) : Int)] (.bool (decide ((tx.size : Int) ≤ 900))) ie hie (Try.isAgg56) TF hies.symm rfl rfl) rfl ⟨(i, tx, neS es), decide ((tx.size : Int) ≤ 900), rfl, ⟨fun c => HF.out.2 ⟨by omega, by have := of_decide_eq_true c; omega⟩, fun c => decide_eq_true (by have := (HF.out.1 c).2; omega)⟩, (fun _ => by rw [HT.out]), BF⟩
      · have c8 : ¬ ((neS es : Nat) : Int) ≤ 8 := by omega
        have HN : Hid (¬ fiS (stT x) es) := fun c => h8 (HF.out.1 c).1
        go_wp2_with (first | (refine wpList_stB 56 _ _ (w.heap.size + 1) 0 _ [.int .i64 (i : Int), .string tx, .int .i64 ((neS es : Nat) : Int)] ie hie TR2 hies.symm (by simp) rfl rfl rfl rfl rfl ?_; rw [hF]))
        exact bodyPost_ret (res_B2 rfl _ _ (w.heap.size + 1) [.int .i64 (i : Int), .string tx, .int .i64 ((neS es : Nat) : Int)] (.bool false) ie hie (Try.isAgg56) TF hies.symm rfl rfl) rfl ⟨(i, tx, neS es), false, rfl, ⟨fun c => (by cases c), fun c => absurd c HN.out⟩, (fun c => (by cases c)), BF⟩
end Go.Proofs.Ytengggpobhibcaa.Nd
