/- Pieces of a text: the program. -/
import Derived.Test.YtbpodcfbijhboaaNh2
import Derived.WalkMore
set_option linter.unusedVariables false
set_option maxRecDepth 100000
namespace Go.Proofs.Ytbpodcfbijhboaa.Nd
open Go Go.RowKit Go.Joins Own Draw

abbrev sv2 (y : TT) : Value := .slice y.1.1 y.1.2.2.length y.1.2.1
def InP (B : Nat) (s : ByteArray) (e : Ending) (w' : World) : Prop := ∃ z, NmP B z e w' ∧ ((∀ b ∈ byL s, b.toNat < 128) → z = fI s)
theorem news_one (w : World) (v : Value) (e : TypeId) : ∀ j u, [v][j]? = some u → (w.alloc (.cells #[v] e)).cell? ((⟨w.heap.size, 0, none⟩ : Addr).add j) = some u := cell_one_new _ _ _
theorem build_nil (w : World) : (Instr.buildSlice 65 1 #[(0, .slice none 0 0)]).run Try.prog w = .ok (.slice (some ⟨w.heap.size, 0, none⟩) 1 1) (w.alloc (.cells #[.slice none 0 0] 63)) := by kernel_rfl
theorem wpList_bn {ops : Array Oper} {rest : List Oper} {o : Oper} {a : Act} {w : World} {Q : Exit → Act → World → Prop} (hgd : o.guard = none) (ho : o.op = .buildSlice 65 1 #[(0, .const (.slice none 0 0))])
    (hn : wpList Try.prog ops Q rest (a.put o.dst (.slice (some ⟨w.heap.size, 0, none⟩) 1 1)) (w.alloc (.cells #[.slice none 0 0] 63))) : wpList Try.prog ops Q (o :: rest) a w := by
  refine wpList_plain hgd fun K hK => ?_
  unfold Oper.wp execOp
  simp only [ho]
  have he : a.eval (.const (.slice none 0 0)) = .slice none 0 0 := rfl
  simp only [List.map_toArray, List.map_cons, List.map_nil, he, Sem.run_bind, build_nil, Result.andThen_ok]
  exact hK _ _ hn
theorem infoP63 : (Try.prog.info? 63).map (fun i => (i.zero, i.size, i.bytes)) = some (some (.slice none 0 0), 1, 24) := by kernel_rfl
set_option maxHeartbeats 3200000 in
theorem sign_r (r : Int) (w : World) : Calls Try.prog 52 #[.int .i32 r] w fun e w' => e = .returned (.bool (sgR r)) ∧ w = w' := by
  have HE : Hid (sgR r = (decide (r = 47) || (decide (r = 64) || decide (r = 92)))) := (rfl : sgR r = _)
  generalize sgR r = z at HE ⊢
  go_enter Try.func52, Try.ntmps52
  by_cases c1 : r = 47
  · have q1 : (r == 47) = true := by rw [beq_iff_eq]; exact c1
    have HV : Hid (z = true) := by show _ = _; rw [HE.out, decide_eq_true c1]; rfl
    clear HE c1
    go_wp2
    go_ret
    exact ⟨by rw [HV.out]; rfl, rfl⟩
  · have q1 : (r == 47) = false := by rw [beq_eq_false_iff_ne]; exact c1
    by_cases c2 : r = 64
    · have q2 : (r == 64) = true := by rw [beq_iff_eq]; exact c2
      have HV : Hid (z = true) := by show _ = _; rw [HE.out, decide_eq_true c2, Bool.true_or, Bool.or_true]
      clear HE c1 c2
      go_wp2
      go_ret
      exact ⟨by rw [HV.out]; rfl, rfl⟩
    · have q2 : (r == 64) = false := by rw [beq_eq_false_iff_ne]; exact c2
      by_cases c3 : r = 92
      · have q3 : (r == 92) = true := by rw [beq_iff_eq]; exact c3
        have HV : Hid (z = true) := by show _ = _; rw [HE.out, decide_eq_true c3, Bool.or_true, Bool.or_true]
        clear HE c1 c2 c3
        go_wp2
        go_ret
        exact ⟨by rw [HV.out]; rfl, rfl⟩
      · have q3 : (r == 92) = false := by rw [beq_eq_false_iff_ne]; exact c3
        have HV : Hid (z = false) := by show _ = _; rw [HE.out, decide_eq_false c1, decide_eq_false c2, decide_eq_false c3]; rfl
        clear HE c1 c2 c3
        go_wp2
        go_ret
        exact ⟨by rw [HV.out]; rfl, rfl⟩
set_option maxHeartbeats 6400000 in
theorem nameIn_is (s : ByteArray) (w : World) (hs : s.size ≤ 204) : Calls Try.prog 33 #[.string s] w fun e w' => InP w.heap.size s e w' ∧ Below w.heap.size w w' := by
  obtain ⟨ie, hie, his⟩ := info_T
  obtain ⟨i0, hi, hz0, hz1, hz2⟩ := info_parts infoR32
  obtain ⟨j0, hj, hy0, hy1, hy2⟩ := info_parts infoP63
  obtain ⟨V0, hV0⟩ : ∃ V, w.alloc (.cells #[.slice none 0 0, .string ⟨#[]⟩] 26) = V := ⟨_, rfl⟩
  have s0 : V0.heap.size = w.heap.size + 1 := by rw [← hV0]; simp
  have T0 : Blk w.heap.size [.slice none 0 0, .string ⟨#[]⟩] V0 := by rw [← hV0]; exact Blk.new _ _ _
  have B0 : Below w.heap.size w V0 := by rw [← hV0]; exact (Below.refl _ _).alloc (Nat.le_refl _) _
  have OV : (V0.alloc (.cells #[.slice none 0 0] 63)).ownsRow (w.heap.size + 1) 63 1 (.slice (some ⟨V0.heap.size, 0, none⟩) 1 1) 1 [.slice none 0 0] := World.ownsRow_lit V0 #[.slice none 0 0] 1 (by omega) (by unfold maxLen; omega) rfl
  obtain ⟨V1, hV1⟩ : ∃ V, V0.alloc (.cells #[.slice none 0 0] 63) = V := ⟨_, rfl⟩
  rw [hV1] at OV
  rw [s0] at OV
  have s1 : V1.heap.size = w.heap.size + 2 := by rw [← hV1]; simp; omega
  have T1 : Blk w.heap.size [.slice none 0 0, .string ⟨#[]⟩] V1 := by rw [← hV1]; exact T0.alloc (by omega) _
  have B1 : Below w.heap.size w V1 := by rw [← hV1]; exact B0.alloc (by omega) _
  have hit0 : (V1.iter s 0).heap[w.heap.size + 2]? = some (.stringIter s 0) := by have h_ := World.iter_heap V1 s 0; rw [s1] at h_; exact h_
  have P0 : Pcs (w.heap.size + 2) (w.heap.size + 1) (V1.iter s 0) (.slice (some ⟨w.heap.size + 1, 0, none⟩) (([] : List (Rw Int)).length + 1) 1) [] ((none, 0, []) : Rw Int) :=
    ⟨OV.alloc _, (fun x hx => by
      have hx2 : x = (none, 0, []) := by simpa using hx
      subst hx2
      exact World.ownsRow_nil _ _ _ _), (fun x hx => by cases hx), (fun x hx => by
      have hx2 : x = (none, 0, []) := by simpa using hx
      subst hx2
      exact Or.inl rfl), (by intro c; injection c with c; have c2 : w.heap.size + 1 = w.heap.size + 2 := c; omega)⟩
  have TI : Blk w.heap.size [.slice none 0 0, .string ⟨#[]⟩] (V1.iter s 0) := T1.alloc (by omega) _
  have BI : Below w.heap.size w (V1.iter s 0) := B1.alloc (by omega) _
  go_enter Try.func33, Try.ntmps33
  go_wp2
  go_step3
  go_wp2
  go_step3
  go_wp2
  try rw [hV0]
  try rw [hV1]
  try rw [s1]
  try rw [s0]
  clear hV0 hV1 T0 T1 B0 B1 OV
  go_loopw [3, 4, 5] (fun v r q wr => ∃ (k : Nat) (init : List (Rw Int)) (last : Rw Int) (g cap : Nat) (rb qb : Bool), v = .slice (some ⟨g, 0, none⟩) (init.length + 1) cap ∧ r = .bool rb ∧ q = .bool qb ∧ init.length ≤ k ∧ init.length ≤ 204 ∧ Hid (∀ x ∈ init ++ [last], x.2.2.length ≤ k ∧ x.2.2.length ≤ 204) ∧ wr.heap[w.heap.size + 2]? = some (.stringIter s k) ∧ Blk w.heap.size [.slice none 0 0, .string ⟨#[]⟩] wr ∧ Pcs (w.heap.size + 2) (w.heap.size + 1) wr (.slice (some ⟨g, 0, none⟩) (init.length + 1) cap) init last ∧ Hid (DatP s k init last rb qb) ∧ Below w.heap.size w wr) (fun _ _ _ wr => s.size + 1 - wr.iterPos (w.heap.size + 2))
  case atStart => exact ⟨0, [], (none, 0, []), w.heap.size + 1, 1, false, false, rfl, rfl, rfl, Nat.zero_le _, Nat.zero_le _, (fun x hx => by
      have hx2 : x = (none, 0, []) := by simpa using hx
      subst hx2
      exact ⟨Nat.zero_le _, Nat.zero_le _⟩), hit0, TI, P0, dat_start s, BI⟩
  case round =>
    clear P0 hit0 TI BI
    obtain ⟨k, init, last, g, cap, rb, qb, rfl, rfl, rfl, hik, hi204, HLE0, hit, TR, HP, HD, BC⟩ := hrel
    have hwr : w.heap.size + 2 < wr.heap.size := (Array.getElem?_eq_some_iff.1 hit).1
    by_cases hlt : k < s.size
    · have hnx := fun ty => next_at (P := Try.prog) ty hit hlt
      have hd1 := decode_pos s k hlt
      have HD1 : Hid (∀ na nc, (qb = true ∨ sgR ((Utf8.decode s k).1 : Int) = false) → DatP s (k + (Utf8.decode s k).2) init (na, nc, last.2.2 ++ [((Utf8.decode s k).1 : Int)]) rb false) := fun na nc hq => dat_push hlt HD.out hq na nc
      have HD2 : Hid (qb = false → ((Utf8.decode s k).1 : Int) = 92 → DatP s (k + (Utf8.decode s k).2) init last rb true) := fun h1 h2 => dat_quote hlt (h1 ▸ HD.out) h2
      have HD3 : Hid (qb = false → rb = true → sgR ((Utf8.decode s k).1 : Int) = true → ¬ ((Utf8.decode s k).1 : Int) = 92 → EndP s init last rb) := fun h1 h0 h2 h3 => by subst h1 h0; exact dat_stop hlt HD.out h2 h3
      have HD4 : Hid (qb = false → rb = false → sgR ((Utf8.decode s k).1 : Int) = true → ¬ ((Utf8.decode s k).1 : Int) = 92 → DatP s (k + (Utf8.decode s k).2) (init ++ [last]) (none, 0, []) (decide (((Utf8.decode s k).1 : Int) = 64)) false) := fun h1 h0 h2 h3 => by subst h1 h0; exact dat_part hlt HD.out h2 h3
      have hit1 := setIter_at hit s (k + (Utf8.decode s k).2)
      have gr := setIter_grown wr (w.heap.size + 2) s (k + (Utf8.decode s k).2)
      have HPi := HP.iter s (k + (Utf8.decode s k).2)
      have hsz1 := setIter_size wr (w.heap.size + 2) s (k + (Utf8.decode s k).2)
      have TRi := blk_gr TR gr TR.lt (by intro c; injection c with c; omega)
      have BCi := BC.grown gr (by omega) (by intro q hq; injection hq with e; omega)
      have HIP : Hid (wr.iterPos (w.heap.size + 2) = k) := iterPos_of hit
      generalize hk2 : k + (Utf8.decode s k).2 = k2 at *
      generalize ((Utf8.decode s k).1 : Int) = rr at *
      generalize setIter wr (w.heap.size + 2) s k2 = wi at *
      have hk3 : k + 1 ≤ k2 := by omega
      have hwi : w.heap.size + 2 < wi.heap.size := by omega
      have HLE : Hid (∀ x ∈ init ++ [last], x.2.2.length ≤ k ∧ x.2.2.length ≤ 204) := HLE0
      have HLL : Hid (last.2.2.length ≤ k ∧ last.2.2.length ≤ 204) := HLE0.out last (by simp)
      have HGB : Hid (w.heap.size + 1 ≤ g ∧ g < wi.heap.size) := HPi.ov.lt g rfl
      clear hk2 hd1 HD HLE0 hit TR HP BC gr hsz1
      cases qb with
      | true =>
        have HPU := HPi.alloc (.cells #[.int .i32 rr] 21)
        have hc := HPi.last_cell
        have hcl := hc.1
        have hcf := hc.2
        clear hc
        have hgiU : (w.heap.size + 2) < (wi.alloc (.cells #[.int .i32 rr] 21)).heap.size := by simp; omega
        have ol := HPU.orr last (by simp)
        obtain ⟨U, hU⟩ : ∃ U, wi.alloc (.cells #[.int .i32 rr] 21) = U := ⟨_, rfl⟩
        rw [hU] at HPU hgiU ol
        have nw : ∀ j u, [Value.int .i32 rr][j]? = some u → U.cell? ((⟨wi.heap.size, 0, none⟩ : Addr).add j) = some u := by rw [← hU]; exact news_one _ _ _
        have hitU : U.heap[(w.heap.size + 2)]? = some (.stringIter s k2) := by rw [← hU, Below.heap_alloc _ _ _ (by omega)]; exact hit1
        have TRU : Blk w.heap.size [.slice none 0 0, .string ⟨#[]⟩] U := by rw [← hU]; exact TRi.alloc (by omega) _
        have BCU : Below w.heap.size w U := by rw [← hU]; exact BCi.alloc (by omega) _
        have hllp := HLL.out
        obtain ⟨la, lc, ll⟩ := last
        dsimp only at hcl ol hllp
        go_wp2_with (first | (at_builtin; (try rw [hU]); refine wpList_append_where _ rfl _ _ 63 rfl ((w.heap.size + 2) + 1) 21 i0 (.int .i32 0) 1 4 Try.underlying63 hi hz0 hz1 hz2 rfl (by decide) _ _ _ rfl ol ⟨wi.heap.size, 0, none⟩ 1 1 [.int .i32 rr] rfl rfl nw ?c2 ?c3 ?c4 ?c5 (by omega) ?_) | go_in)
        case c2 => first | rfl | (intro u hu; simp at hu; subst hu; rfl)
        case c3 => unfold maxLen; omega
        case c4 => omega
        case c5 => omega
        intro v' w1 own hg hw
        obtain ⟨na, nc, rfl, _⟩ := own_shape own
        have hys : (ll ++ [rr]).length = ll.length + 1 := by simp
        have own2 : w1.ownsRow ((w.heap.size + 2) + 1) 21 1 (.slice na (ll ++ [rr]).length nc) (ll ++ [rr]).length ((ll ++ [rr]).map (Value.int .i32)) := by rw [hys, List.map_append]; exact own
        have hw2 : (Value.slice na (ll ++ [rr]).length nc).ownBlock = (sv ((la, lc, ll) : Rw Int)).ownBlock ∨ (Value.slice na (ll ++ [rr]).length nc).ownBlock = some U.heap.size := by rw [hys]; exact hw
        have HP2 := HPU.push hgiU own2 hg hw2
        have hgs := hg.size
        have hrow : ∀ q, q < w.heap.size + 3 → some q ≠ (sv ((la, lc, ll) : Rw Int)).ownBlock := fun q hq e => by have := (ol.lt q e.symm).1; omega
        have hgg : some g ≠ (sv ((la, lc, ll) : Rw Int)).ownBlock := fun e => by
          rcases HPU.nv (la, lc, ll) (by simp) with c | c
          · rw [c] at e; cases e
          · exact c e.symm
        have ov1 := HPU.ov.kept hg (Or.inr hgg)
        have e0 : w1.cell? ⟨g, init.length, none⟩ = some (.slice la ll.length lc) := by rw [ov1.cellAt _ (by omega)]; simp
        have z0 : w1.frozen? ⟨g, init.length, none⟩ = false := ov1.frozenAt _
        have TR1 := blk_gr TRU hg TRU.lt (hrow _ (by omega))
        have hit2 : w1.heap[(w.heap.size + 2)]? = some (.stringIter s k2) := (hg.block (w.heap.size + 2) hgiU (hrow _ (by omega))).trans hitU
        have BC1 : Below w.heap.size w w1 := BCU.grown hg (by have := BCU.size; omega) (fun q e => by have := (ol.lt q e).1; omega)
        obtain ⟨w2, hw2_⟩ : ∃ W, w1.setCell ⟨g, init.length, none⟩ (.slice na (ll.length + 1) nc) = W := ⟨_, rfl⟩
        rw [hys, hw2_] at HP2
        have hgne : g ≠ (w.heap.size + 2) := fun e => HPU.ng (by rw [e]; rfl)
        have hgB := (HPU.ov.lt g rfl).1
        have HR : ∃ (k' : Nat) (init' : List (Rw Int)) (last' : Rw Int) (g' cap' : Nat) (rb' qb' : Bool), Value.slice (some ⟨g, 0, none⟩) (init.length + 1) cap = .slice (some ⟨g', 0, none⟩) (init'.length + 1) cap' ∧ Value.bool rb = .bool rb' ∧ Value.bool false = .bool qb' ∧ init'.length ≤ k' ∧ init'.length ≤ 204 ∧ Hid (∀ x ∈ init' ++ [last'], x.2.2.length ≤ k' ∧ x.2.2.length ≤ 204) ∧ w2.heap[(w.heap.size + 2)]? = some (.stringIter s k') ∧ Blk w.heap.size [.slice none 0 0, .string ⟨#[]⟩] w2 ∧ Pcs (w.heap.size + 2) (w.heap.size + 1) w2 (.slice (some ⟨g', 0, none⟩) (init'.length + 1) cap') init' last' ∧ Hid (DatP s k' init' last' rb' qb') ∧ Below w.heap.size w w2 :=
          ⟨k2, init, (na, nc, ll ++ [rr]), g, cap, rb, false, rfl, rfl, rfl, by omega, by omega, (fun x hx => by
            rcases List.mem_append.1 hx with hx | hx
            · have := HLE.out x (List.mem_append_left _ hx); omega
            · rw [List.mem_singleton] at hx
              subst hx
              show (ll ++ [rr]).length ≤ k2 ∧ (ll ++ [rr]).length ≤ 204
              rw [hys]; omega),
            by rw [← hw2_]; exact ((set_grown w1 g init.length (.slice na (ll.length + 1) nc)).block (w.heap.size + 2) (by omega) (fun e => hgne (by injection e with e; exact e.symm))).trans hit2, by rw [← hw2_]; exact TR1.far (by omega) _ _, HP2, HD1.out na nc (by first | exact Or.inl rfl | exact Or.inl trivial | simp), by rw [← hw2_]; exact sets_below (by omega) _ _ _ BC1⟩
        have HITR : Hid (w2.heap[(w.heap.size + 2)]? = some (.stringIter s k2)) := by show _ = _; rw [← hw2_]; exact ((set_grown w1 g init.length (.slice na (ll.length + 1) nc)).block (w.heap.size + 2) (by omega) (fun e => hgne (by injection e with e; exact e.symm))).trans hit2
        clear HP2 own2 hw2 own hg hw hrow hgg ov1 TR1 hit2 BC1 HPU ol nw hitU TRU BCU hU HLE HLL HPi hit1 TRi BCi HD1 HD2 HD3 HD4 hcl hcf hys hgs hgB hgiU
        go_wp2
        try rw [hw2_]
        go_roundw
        case rel => exact HR
        case measure => rw [HIP.out, iterPos_of HITR.out]; omega
      | false =>
        have KS := fun w' => sign_r rr w'
        by_cases hsg : sgR rr = true
        rotate_left
        · rw [Bool.not_eq_true] at hsg
          rw [hsg] at KS
          have HSG : Hid (sgR rr = false) := hsg
          clear hsg
          have HPU := HPi.alloc (.cells #[.int .i32 rr] 21)
          have hc := HPi.last_cell
          have hcl := hc.1
          have hcf := hc.2
          clear hc
          have hgiU : (w.heap.size + 2) < (wi.alloc (.cells #[.int .i32 rr] 21)).heap.size := by simp; omega
          have ol := HPU.orr last (by simp)
          obtain ⟨U, hU⟩ : ∃ U, wi.alloc (.cells #[.int .i32 rr] 21) = U := ⟨_, rfl⟩
          rw [hU] at HPU hgiU ol
          have nw : ∀ j u, [Value.int .i32 rr][j]? = some u → U.cell? ((⟨wi.heap.size, 0, none⟩ : Addr).add j) = some u := by rw [← hU]; exact news_one _ _ _
          have hitU : U.heap[(w.heap.size + 2)]? = some (.stringIter s k2) := by rw [← hU, Below.heap_alloc _ _ _ (by omega)]; exact hit1
          have TRU : Blk w.heap.size [.slice none 0 0, .string ⟨#[]⟩] U := by rw [← hU]; exact TRi.alloc (by omega) _
          have BCU : Below w.heap.size w U := by rw [← hU]; exact BCi.alloc (by omega) _
          have hllp := HLL.out
          obtain ⟨la, lc, ll⟩ := last
          dsimp only at hcl ol hllp
          go_wp2_with fail
          refine (KS _).mono ?_
          rintro en w0 ⟨rfl, rfl⟩
          clear KS hnx
          go_wp2_with (first | (at_builtin; (try rw [hU]); refine wpList_append_where _ rfl _ _ 63 rfl ((w.heap.size + 2) + 1) 21 i0 (.int .i32 0) 1 4 Try.underlying63 hi hz0 hz1 hz2 rfl (by decide) _ _ _ rfl ol ⟨wi.heap.size, 0, none⟩ 1 1 [.int .i32 rr] rfl rfl nw ?c2 ?c3 ?c4 ?c5 (by omega) ?_) | go_in)
          case c2 => first | rfl | (intro u hu; simp at hu; subst hu; rfl)
          case c3 => unfold maxLen; omega
          case c4 => omega
          case c5 => omega
          intro v' w1 own hg hw
          obtain ⟨na, nc, rfl, _⟩ := own_shape own
          have hys : (ll ++ [rr]).length = ll.length + 1 := by simp
          have own2 : w1.ownsRow ((w.heap.size + 2) + 1) 21 1 (.slice na (ll ++ [rr]).length nc) (ll ++ [rr]).length ((ll ++ [rr]).map (Value.int .i32)) := by rw [hys, List.map_append]; exact own
          have hw2 : (Value.slice na (ll ++ [rr]).length nc).ownBlock = (sv ((la, lc, ll) : Rw Int)).ownBlock ∨ (Value.slice na (ll ++ [rr]).length nc).ownBlock = some U.heap.size := by rw [hys]; exact hw
          have HP2 := HPU.push hgiU own2 hg hw2
          have hgs := hg.size
          have hrow : ∀ q, q < w.heap.size + 3 → some q ≠ (sv ((la, lc, ll) : Rw Int)).ownBlock := fun q hq e => by have := (ol.lt q e.symm).1; omega
          have hgg : some g ≠ (sv ((la, lc, ll) : Rw Int)).ownBlock := fun e => by
            rcases HPU.nv (la, lc, ll) (by simp) with c | c
            · rw [c] at e; cases e
            · exact c e.symm
          have ov1 := HPU.ov.kept hg (Or.inr hgg)
          have e0 : w1.cell? ⟨g, init.length, none⟩ = some (.slice la ll.length lc) := by rw [ov1.cellAt _ (by omega)]; simp
          have z0 : w1.frozen? ⟨g, init.length, none⟩ = false := ov1.frozenAt _
          have TR1 := blk_gr TRU hg TRU.lt (hrow _ (by omega))
          have hit2 : w1.heap[(w.heap.size + 2)]? = some (.stringIter s k2) := (hg.block (w.heap.size + 2) hgiU (hrow _ (by omega))).trans hitU
          have BC1 : Below w.heap.size w w1 := BCU.grown hg (by have := BCU.size; omega) (fun q e => by have := (ol.lt q e).1; omega)
          obtain ⟨w2, hw2_⟩ : ∃ W, w1.setCell ⟨g, init.length, none⟩ (.slice na (ll.length + 1) nc) = W := ⟨_, rfl⟩
          rw [hys, hw2_] at HP2
          have hgne : g ≠ (w.heap.size + 2) := fun e => HPU.ng (by rw [e]; rfl)
          have hgB := (HPU.ov.lt g rfl).1
          have HR : ∃ (k' : Nat) (init' : List (Rw Int)) (last' : Rw Int) (g' cap' : Nat) (rb' qb' : Bool), Value.slice (some ⟨g, 0, none⟩) (init.length + 1) cap = .slice (some ⟨g', 0, none⟩) (init'.length + 1) cap' ∧ Value.bool rb = .bool rb' ∧ Value.bool false = .bool qb' ∧ init'.length ≤ k' ∧ init'.length ≤ 204 ∧ Hid (∀ x ∈ init' ++ [last'], x.2.2.length ≤ k' ∧ x.2.2.length ≤ 204) ∧ w2.heap[(w.heap.size + 2)]? = some (.stringIter s k') ∧ Blk w.heap.size [.slice none 0 0, .string ⟨#[]⟩] w2 ∧ Pcs (w.heap.size + 2) (w.heap.size + 1) w2 (.slice (some ⟨g', 0, none⟩) (init'.length + 1) cap') init' last' ∧ Hid (DatP s k' init' last' rb' qb') ∧ Below w.heap.size w w2 :=
            ⟨k2, init, (na, nc, ll ++ [rr]), g, cap, rb, false, rfl, rfl, rfl, by omega, by omega, (fun x hx => by
              rcases List.mem_append.1 hx with hx | hx
              · have := HLE.out x (List.mem_append_left _ hx); omega
              · rw [List.mem_singleton] at hx
                subst hx
                show (ll ++ [rr]).length ≤ k2 ∧ (ll ++ [rr]).length ≤ 204
                rw [hys]; omega),
              by rw [← hw2_]; exact ((set_grown w1 g init.length (.slice na (ll.length + 1) nc)).block (w.heap.size + 2) (by omega) (fun e => hgne (by injection e with e; exact e.symm))).trans hit2, by rw [← hw2_]; exact TR1.far (by omega) _ _, HP2, HD1.out na nc (Or.inr HSG.out), by rw [← hw2_]; exact sets_below (by omega) _ _ _ BC1⟩
          have HITR : Hid (w2.heap[(w.heap.size + 2)]? = some (.stringIter s k2)) := by show _ = _; rw [← hw2_]; exact ((set_grown w1 g init.length (.slice na (ll.length + 1) nc)).block (w.heap.size + 2) (by omega) (fun e => hgne (by injection e with e; exact e.symm))).trans hit2
          clear HP2 own2 hw2 own hg hw hrow hgg ov1 TR1 hit2 BC1 HPU ol nw hitU TRU BCU hU HLE HLL HPi hit1 TRi BCi HD1 HD2 HD3 HD4 hcl hcf hys hgs hgB hgiU
          go_wp2
          try rw [hw2_]
          go_roundw
          case rel => exact HR
          case measure => rw [HIP.out, iterPos_of HITR.out]; omega
        rw [hsg] at KS
        have HSG : Hid (sgR rr = true) := hsg
        clear hsg
        by_cases c92 : rr = 92
        · have q92 : (rr == 92) = true := by rw [beq_iff_eq]; exact c92
          have DD : Hid (DatP s k2 init last rb true) := HD2.out rfl c92
          have HLE2 : Hid (∀ x ∈ init ++ [last], x.2.2.length ≤ k2 ∧ x.2.2.length ≤ 204) := fun x hx => by have := HLE.out x hx; omega
          clear HD1 HD2 HD3 HD4 HLE HLL c92
          go_wp2_with fail
          refine (KS _).mono ?_
          rintro en w0 ⟨rfl, rfl⟩
          clear KS hnx
          go_wp2
          go_roundw
          case rel => exact ⟨k2, init, last, g, cap, rb, true, rfl, rfl, rfl, by omega, by omega, HLE2, hit1, TRi, HPi, DD, BCi⟩
          case measure => rw [HIP.out, iterPos_of hit1]; omega
        · have q92 : (rr == 92) = false := by rw [beq_eq_false_iff_ne]; exact c92
          cases rb with
          | true =>
            have HEND : Hid (EndP s init last true) := HD3.out rfl rfl HSG.out c92
            clear HD1 HD2 HD3 HD4 HLL c92
            go_wp2_with fail
            refine (KS _).mono ?_
            rintro en w0 ⟨rfl, rfl⟩
            clear KS hnx
            have HPW := HPi
            have TRW := TRi
            have BCW := BCi
            have hwW := hwi
            have HLE3 : Hid (∀ x ∈ init ++ [last], x.2.2.length ≤ 204) := fun x hx => (HLE.out x hx).2
            clear HLE HPi TRi BCi hit1
            have HLE := HLE3
            clear HLE3
            have hlen : (init ++ [last]).length = init.length + 1 := by simp
            have KT := nameOf_is (some ⟨g, 0, none⟩) cap (init ++ [last]) true wi (by have h_ := HPW.ov; rw [← hlen] at h_; exact row_own h_) (fun x hx => row_own (HPW.orr x hx)) (by rw [hlen]; omega) (by rw [hlen]; omega) (fun x hx => Nat.le_trans (HLE.out x hx) (by omega))
            rw [hlen] at KT
            generalize hzz : nmR ((init ++ [last]).map (fun x => x.2.2)) true = zz at KT
            have HZZ : Hid ((∀ b ∈ byL s, b.toNat < 128) → zz = fI s) := fun ha => by rw [← hzz]; exact HEND.out ha
            clear hzz HLE hlen HEND
            go_wp2_with fail
            refine KT.mono ?_
            clear KT
            rintro en w9 ⟨⟨y, rfl, ey, oy, sy⟩, hb9⟩
            have TR9 := TRW.later hb9 TRW.lt
            have BC9 := BCW.trans (hb9.mono BCW.size)
            have oy9 : OwT w.heap.size w9 y := oy.le BCW.size
            have hww := hwW
            obtain ⟨VF, hVF⟩ : ∃ V, w9.setCells w.heap.size 0 [sv2 y, .string y.2] = V := ⟨_, rfl⟩
            have TF : Blk w.heap.size [sv2 y, .string y.2] VF := by rw [← hVF]; exact TR9.sets _ rfl
            have BF : Below w.heap.size w VF := by rw [← hVF]; exact below_sets (by omega) _ _ _ BC9
            have oF : OwT w.heap.size VF y := by rw [← hVF]; exact (oy.far (sets_grown w.heap.size _ 0 w9) (by omega)).le (by omega)
            clear oy oy9 BC9 hb9 HPW TRW BCW
            go_wp2_with (first | (refine wpList_stB 26 _ _ w.heap.size 0 _ [sv2 y, .string y.2] ie hie TR9 his.symm (by simp) rfl rfl rfl rfl rfl ?_; rw [hVF]) | go_in)
            try simp only [Exit.inBlock, Exit.then]
            try rw [Exit.noGoto_ret]
            exact bodyPost_ret (res_B1 rfl _ _ w.heap.size [sv2 y, .string y.2] ie hie (Try.isAgg26) TF his.symm rfl) rfl ⟨⟨zz, ⟨y, rfl, ey, oF, sy⟩, HZZ.out⟩, BF⟩
          | false =>
            have DD : Hid (DatP s k2 (init ++ [last]) (none, 0, []) (decide (rr = 64)) false) := HD4.out rfl rfl HSG.out c92
            have HLE2 : Hid (∀ x ∈ (init ++ [last]) ++ [((none, 0, []) : Rw Int)], x.2.2.length ≤ k2 ∧ x.2.2.length ≤ 204) := fun x hx => by
              rcases List.mem_append.1 hx with hx | hx
              · have := HLE.out x hx; omega
              · rw [List.mem_singleton] at hx
                subst hx
                exact ⟨Nat.zero_le _, Nat.zero_le _⟩
            have HPU := HPi.alloc (.cells #[.slice none 0 0] 63)
            obtain ⟨U, hU⟩ : ∃ U, wi.alloc (.cells #[.slice none 0 0] 63) = U := ⟨_, rfl⟩
            have hgiU : w.heap.size + 2 < U.heap.size := by rw [← hU]; simp; omega
            rw [hU] at HPU
            have ol := HPU.ov
            have nw : ∀ j u, [Value.slice none 0 0][j]? = some u → U.cell? ((⟨wi.heap.size, 0, none⟩ : Addr).add j) = some u := by rw [← hU]; exact news_one _ _ _
            have hitU : U.heap[w.heap.size + 2]? = some (.stringIter s k2) := by rw [← hU, Below.heap_alloc _ _ _ (by omega)]; exact hit1
            have TRU : Blk w.heap.size [.slice none 0 0, .string ⟨#[]⟩] U := by rw [← hU]; exact TRi.alloc (by omega) _
            have BCU : Below w.heap.size w U := by rw [← hU]; exact BCi.alloc (by omega) _
            have hb203 : init.length ≤ 203 := by omega
            clear HD1 HD2 HD3 HD4 HLE HLL c92
            go_wp2_with fail
            refine (KS _).mono ?_
            rintro en w0 ⟨rfl, rfl⟩
            clear KS hnx
            go_wp2_with (first | (at_builtin; (try rw [hU]); refine wpList_append_where _ rfl _ _ 65 rfl (w.heap.size + 1) 63 j0 (.slice none 0 0) 1 24 Try.underlying65 hj hy0 hy1 hy2 rfl (by decide) _ _ _ rfl ol ⟨wi.heap.size, 0, none⟩ 1 1 [.slice none 0 0] rfl rfl nw ?c2 ?c3 ?c4 ?c5 (by omega) ?_) | go_in)
            case c2 => first | rfl | (intro u hu; simp at hu; subst hu; rfl)
            case c3 => unfold maxLen; omega
            case c4 => omega
            case c5 => omega
            intro v' w1 own hg hw
            have own2 : w1.ownsRow (w.heap.size + 1) 63 1 v' (init.length + 1 + 1) ((init ++ [last]).map sv ++ [.slice none 0 0]) := by first | exact own | (rw [List.map_append, List.append_assoc]; exact own)
            have HP2 := HPU.more hgiU own2 hg hw
            obtain ⟨g2, cap2, rfl, _, hg2⟩ := HP2.form
            have hrow : ∀ q, q < w.heap.size + 1 → some q ≠ (Value.slice (some ⟨g, 0, none⟩) (init.length + 1) cap).ownBlock := fun q hq e => by have := (ol.lt q e.symm).1; omega
            have TR1 := blk_gr TRU hg TRU.lt (hrow _ (by omega))
            have hit2 : w1.heap[w.heap.size + 2]? = some (.stringIter s k2) := (hg.block (w.heap.size + 2) hgiU (fun e => HPU.ng e.symm)).trans hitU
            have BC1 : Below w.heap.size w w1 := BCU.grown hg (by have := BCU.size; omega) (fun q e => by have := (ol.lt q e).1; omega)
            have hli : (init ++ [last]).length = init.length + 1 := by simp
            have HR : ∀ b, decide (rr = 64) = b → ∃ (k' : Nat) (init' : List (Rw Int)) (last' : Rw Int) (g' cap' : Nat) (rb' qb' : Bool), Value.slice (some ⟨g2, 0, none⟩) ((init ++ [last]).length + 1) cap2 = .slice (some ⟨g', 0, none⟩) (init'.length + 1) cap' ∧ Value.bool b = .bool rb' ∧ Value.bool false = .bool qb' ∧ init'.length ≤ k' ∧ init'.length ≤ 204 ∧ Hid (∀ x ∈ init' ++ [last'], x.2.2.length ≤ k' ∧ x.2.2.length ≤ 204) ∧ w1.heap[w.heap.size + 2]? = some (.stringIter s k') ∧ Blk w.heap.size [.slice none 0 0, .string ⟨#[]⟩] w1 ∧ Pcs (w.heap.size + 2) (w.heap.size + 1) w1 (.slice (some ⟨g', 0, none⟩) (init'.length + 1) cap') init' last' ∧ Hid (DatP s k' init' last' rb' qb') ∧ Below w.heap.size w w1 :=
              fun b hb => ⟨k2, init ++ [last], (none, 0, []), g2, cap2, b, false, rfl, rfl, rfl, by omega, by omega, HLE2, hit2, TR1, HP2, hb ▸ DD, BC1⟩
            have HIT : Hid (w1.heap[w.heap.size + 2]? = some (.stringIter s k2)) := hit2
            have HRH : Hid _ := HR
            clear HP2 own own2 hg hw hrow TR1 hit2 BC1 HPU ol nw hitU TRU BCU hU HPi hit1 TRi BCi HR DD HLE2
            by_cases c64 : rr = 64
            · have q64 : (rr == 64) = true := by rw [beq_iff_eq]; exact c64
              have HRR := HRH.out true (decide_eq_true c64)
              have HRQ : Hid _ := HRR
              clear c64 HRR HRH
              go_wp2
              go_roundw
              case rel => exact HRQ.out
              case measure => rw [HIP.out, iterPos_of HIT.out]; omega
            · have q64 : (rr == 64) = false := by rw [beq_eq_false_iff_ne]; exact c64
              have HRR := HRH.out false (decide_eq_false c64)
              have HRQ : Hid _ := HRR
              clear c64 HRR HRH
              go_wp2
              go_roundw
              case rel => exact HRQ.out
              case measure => rw [HIP.out, iterPos_of HIT.out]; omega
    · have hnx := fun ty => next_end (P := Try.prog) ty hit hlt
      have HEND : Hid (EndP s init last rb) := dat_end HD.out hlt
      have HPW := HP
      have TRW := TR
      have BCW := BC
      have hwW := hwr
      have HLE : Hid (∀ x ∈ init ++ [last], x.2.2.length ≤ 204) := fun x hx => (HLE0.out x hx).2
      clear HLE0 HP TR BC HD
      have hlen : (init ++ [last]).length = init.length + 1 := by simp
      have KT := nameOf_is (some ⟨g, 0, none⟩) cap (init ++ [last]) rb wr (by have h_ := HPW.ov; rw [← hlen] at h_; exact row_own h_) (fun x hx => row_own (HPW.orr x hx)) (by rw [hlen]; omega) (by rw [hlen]; omega) (fun x hx => Nat.le_trans (HLE.out x hx) (by omega))
      rw [hlen] at KT
      generalize hzz : nmR ((init ++ [last]).map (fun x => x.2.2)) rb = zz at KT
      have HZZ : Hid ((∀ b ∈ byL s, b.toNat < 128) → zz = fI s) := fun ha => by rw [← hzz]; exact HEND.out ha
      clear hzz HLE hlen HEND
      go_wp2_with fail
      refine KT.mono ?_
      clear KT
      rintro en w9 ⟨⟨y, rfl, ey, oy, sy⟩, hb9⟩
      have TR9 := TRW.later hb9 TRW.lt
      have BC9 := BCW.trans (hb9.mono BCW.size)
      have oy9 : OwT w.heap.size w9 y := oy.le BCW.size
      have hww := hwW
      obtain ⟨VF, hVF⟩ : ∃ V, w9.setCells w.heap.size 0 [sv2 y, .string y.2] = V := ⟨_, rfl⟩
      have TF : Blk w.heap.size [sv2 y, .string y.2] VF := by rw [← hVF]; exact TR9.sets _ rfl
      have BF : Below w.heap.size w VF := by rw [← hVF]; exact below_sets (by omega) _ _ _ BC9
      have oF : OwT w.heap.size VF y := by rw [← hVF]; exact (oy.far (sets_grown w.heap.size _ 0 w9) (by omega)).le (by omega)
      clear oy oy9 BC9 hb9 HPW TRW BCW
      go_wp2_with (first | (refine wpList_stB 26 _ _ w.heap.size 0 _ [sv2 y, .string y.2] ie hie TR9 his.symm (by simp) rfl rfl rfl rfl rfl ?_; rw [hVF]) | go_in)
      try simp only [Exit.inBlock, Exit.then]
      try rw [Exit.noGoto_ret]
      exact bodyPost_ret (res_B1 rfl _ _ w.heap.size [sv2 y, .string y.2] ie hie (Try.isAgg26) TF his.symm rfl) rfl ⟨⟨zz, ⟨y, rfl, ey, oF, sy⟩, HZZ.out⟩, BF⟩
end Go.Proofs.Ytbpodcfbijhboaa.Nd
