/- Pieces made a name. -/
import Derived.Test.YtbpodcfbijhboaaNh0
import Derived.Test.YtbpodcfbijhboaaNg1
import Derived.Test.YtbpodcfbijhboaaBig
import Derived.Test.YtbpodcfbijhboaaAppRow
import Derived.Test.YtbpodcfbijhboaaAw
import Derived.Test.YtbpodcfbijhboaaNo1
set_option linter.unusedVariables false
set_option maxRecDepth 100000
namespace Go.Proofs.Ytbpodcfbijhboaa.Nd
open Go Go.RowKit Go.Joins Own Draw

abbrev sv (r : Rw Int) : Value := .slice r.1 r.2.2.length r.2.1
/-- Pieces of runes as a name. -/
def nmR (l : List (List Int)) (r : Bool) : PT := if r = true then ((l.take (l.length - 1)).map runesBytes, runesBytes (l.getD (l.length - 1) [])) else (l.map runesBytes, ByteArray.empty)
theorem conv_row {P : Program} (src dst e : TypeId) (hs : P.underlying src = some (.slice e)) (he : P.underlying e = some (.int .i32)) (hd : P.underlying dst = some .string)
    {w : World} {a : Option Addr} {xs : List Int} (cap : Nat) (h : RowAt (Value.int .i32) w a xs) : (convert src dst (.slice a xs.length cap)).run P w = .ok (.string (runesBytes xs)) w := by
  cases a with
  | none =>
    have h0 : xs = [] := List.length_eq_zero_iff.1 (row_nil h rfl)
    subst h0
    rw [run_convert_runes_nil w src dst e _ _ hs he hd]
    rfl
  | some ad =>
    have hh := run_convert_runes w src dst e ad xs.length cap xs (Nat.le_refl _) hs he hd (fun j hj => by
      obtain ⟨b, off, e1, _, hc⟩ := h j hj
      injection e1 with e1
      subst e1
      rw [add_spot, hc]
      simp [List.getD, hj])
    rw [hh, List.take_of_length_le (Nat.le_refl _)]
theorem sets_below {g : Nat} {w : World} {B : Nat} (h : B ≤ g) (i : Nat) (v : Value) (W : World) (hb : Below B w W) : Below B w (W.setCell ⟨g, i, none⟩ v) := hb.setCell h _
theorem grown_bel {B : Nat} {wr w1 : World} {e : TypeId} {s n : Nat} {v : Value} {xs : List Value} {o : Obj} (hB : B ≤ wr.heap.size) (hown : wr.ownsRow B e s v n xs) (hg : (wr.alloc o).grownBy w1 v.ownBlock) : Below B wr w1 :=
  ((Below.refl B wr).alloc hB o).grown hg (by simp; omega) (fun k hk => (hown.lt k hk).1)
theorem own_set {B g i e s n : Nat} {W : World} {v u : Value} {xs : List Value} (h : W.ownsRow B e s v n xs) (hg : g < B) : (W.setCell ⟨g, i, none⟩ u).ownsRow B e s v n xs := own_far h (set_grown W g i u) hg
theorem own_less {B g e m n cap : Nat} {W : World} {xs : List Value} (h : W.ownsRow B e 1 (.slice (some ⟨g, 0, none⟩) n cap) n xs) (hm : m ≤ n) : W.ownsRow B e 1 (.slice (some ⟨g, 0, none⟩) m cap) m (xs.take m) := by
  have hl : xs.length = n := by have := h.1; simpa using this
  refine ⟨by rw [List.length_take, hl]; omega, ?_⟩
  rcases h.2 with ⟨e1, _⟩ | ⟨g1, c1, cur, e1, h1, h2, h3, h4, h5, h6⟩
  · cases e1
  · injection e1 with e1 e2 e3
    refine Or.inr ⟨g1, c1, cur, by rw [e1, e3], h1, h2, by omega, h4, h5, ?_⟩
    rw [← h6, List.take_take]
    congr 1
    omega
theorem getD_runes {l : List (List Int)} {k : Nat} (h : k < l.length) : (l.map runesBytes).getD k ByteArray.empty = runesBytes (l.getD k []) := by simp [List.getD, h]
def NmP (B : Nat) (z : PT) (e : Ending) (w' : World) : Prop := ∃ y : TT, e = .returned (vT y) ∧ stT y = z ∧ OwT B w' y ∧ SmT y
theorem infoS9 : (Try.prog.info? 9).map (fun i => (i.zero, i.size, i.bytes)) = some (some (.string ⟨#[]⟩), 1, 16) := by kernel_rfl
theorem runes_small {l : List Int} {n : Nat} (h : l.length ≤ n) : (runesBytes l).size ≤ 4 * n := by have := runesBytes_size_le l; omega
set_option maxHeartbeats 6400000 in
theorem nameOf_is (a : Option Addr) (cap : Nat) (rows : List (Rw Int)) (r : Bool) (w : World) (hr : RowAt sv w a rows) (he : ∀ x ∈ rows, RowAt (Value.int .i32) w x.1 x.2.2) (hl : rows.length ≤ 1024) (hn : 0 < rows.length) (hx : ∀ x ∈ rows, x.2.2.length ≤ 1024) :
    Calls Try.prog 53 #[.slice a rows.length cap, .bool r] w fun e w' => NmP w.heap.size (nmR (rows.map (fun x => x.2.2)) r) e w' ∧ Below w.heap.size w w' := by
  have HNM : Hid (nmR (rows.map (fun x => x.2.2)) r = if r = true then (((rows.map (fun x => x.2.2)).take ((rows.map (fun x => x.2.2)).length - 1)).map runesBytes, runesBytes ((rows.map (fun x => x.2.2)).getD ((rows.map (fun x => x.2.2)).length - 1) [])) else ((rows.map (fun x => x.2.2)).map runesBytes, ByteArray.empty)) := (rfl : nmR _ r = _)
  generalize nmR (rows.map (fun x => x.2.2)) r = z at HNM ⊢
  obtain ⟨ie, hie, his⟩ := info_T
  obtain ⟨i0, hi, hz0, hz1, hz2⟩ := info_parts infoS9
  obtain ⟨V0, hV0⟩ : ∃ V, (w.alloc (.cells #[.slice none 0 0, .string ⟨#[]⟩] 26)).alloc (.cells #[.slice none 0 0, .string ⟨#[]⟩] 26) = V := ⟨_, rfl⟩
  have BC : Below w.heap.size w V0 := by rw [← hV0]; exact ((Below.refl _ _).alloc (Nat.le_refl _) _).alloc (by simp) _
  have TR : Blk w.heap.size [.slice none 0 0, .string ⟨#[]⟩] V0 := by rw [← hV0]; exact (Blk.new w #[.slice none 0 0, .string ⟨#[]⟩] 26).alloc (by simp) _
  have TO : Blk (w.heap.size + 1) [.slice none 0 0, .string ⟨#[]⟩] V0 := by rw [← hV0]; have := Blk.new (w.alloc (.cells #[.slice none 0 0, .string ⟨#[]⟩] 26)) #[.slice none 0 0, .string ⟨#[]⟩] 26; simpa using this
  have ZS : w.heap.size + 2 ≤ V0.heap.size := by rw [← hV0]; simp
  go_enter Try.func53, Try.ntmps53
  go_wp2
  try rw [hV0]
  clear hV0
  go_loopw [11] (fun i wr => ∃ (k : Nat) (na : Option Addr) (nc : Nat), k ≤ rows.length ∧ i = .int .i64 k ∧ Blk w.heap.size [.slice none 0 0, .string ⟨#[]⟩] wr ∧ Blk (w.heap.size + 1) [.slice na k nc, .string ⟨#[]⟩] wr ∧ wr.ownsRow (w.heap.size + 2) 9 1 (.slice na k nc) k (((rows.take k).map (fun x => runesBytes x.2.2)).map Value.string) ∧ w.heap.size + 2 ≤ wr.heap.size ∧ Below w.heap.size w wr) (fun i _ => rows.length - (intOf i).toNat)
  case atStart => exact ⟨0, none, 0, Nat.zero_le _, rfl, TR, TO, World.ownsRow_nil _ _ _ _, ZS, BC⟩
  case round =>
    clear TR TO ZS BC
    obtain ⟨k, na, nc, hk, rfl, TR, TO, ho, ZS, BC⟩ := hrel
    by_cases hlt : k < rows.length
    · have q1 : (k : Int) < (rows.length : Int) := by omega
      obtain ⟨b1, o1, rfl, l1, c1⟩ := hr k hlt
      rw [← BC.cell (p := ⟨b1, o1 + k, none⟩) l1] at c1
      have hrow := (he rows[k] (List.getElem_mem hlt)).later BC
      have hcv := conv_row (P := Try.prog) 63 9 21 Try.underlying63 Try.underlying21 Try.underlying9 rows[k].2.1 hrow
      have HT : Hid ((rows.take (k + 1)).map (fun x => runesBytes x.2.2) = (rows.take k).map (fun x => runesBytes x.2.2) ++ [runesBytes rows[k].2.2]) := by show _ = _; rw [List.take_succ_eq_append_getElem hlt, List.map_append]; rfl
      have hsz := runes_small (hx rows[k] (List.getElem_mem hlt))
      generalize runesBytes rows[k].2.2 = sb at *
      generalize rows[k] = x at *
      obtain ⟨pa, pc, pl⟩ := x
      dsimp only at c1 hcv
      clear hrow
      obtain ⟨L, hL⟩ : ∃ L, (rows.take k).map (fun x => runesBytes x.2.2) = L := ⟨_, rfl⟩
      rw [hL] at ho HT
      clear hL
      have d0 := TO.at 0 rfl
      have TO2 := TO.alloc TO.lt (.cells #[.string sb] 9)
      go_wp2_with (first | (at_builtin; refine wpList_append_own _ rfl _ _ 24 rfl (w.heap.size + 2) 9 i0 (.string ⟨#[]⟩) 1 16 Try.underlying24 hi hz0 hz1 hz2 rfl (by decide) _ _ _ rfl (ho.alloc _) ⟨wr.heap.size, 0, none⟩ 1 1 [.string sb] rfl rfl (cell_one_new _ _ _) ?c2 ?c3 ?c4 ?c5 ?_) | go_in)
      case c2 => intro u hu; simp at hu; subst hu; rfl
      case c3 => unfold maxLen; omega
      case c4 => omega
      case c5 => simp; omega
      intro v1 w1 ho1 hg1 _
      obtain ⟨na2, nc2, rfl, _⟩ := own_shape ho1
      have hb1 := grown_bel ZS ho hg1
      have TR1 := TR.lower hb1 (by omega)
      have TO1 := TO.lower hb1 (by omega)
      have ZS1 : w.heap.size + 2 ≤ w1.heap.size := Nat.le_trans ZS hb1.size
      have BC1 := BC.trans (hb1.mono (by omega))
      clear hg1 ho TO2 d0 c1 TR TO ZS BC hb1
      have e0 := TO1.at 0 rfl
      have z0 := TO1.fz 0 rfl
      obtain ⟨w2, hw2⟩ : ∃ W, w1.setCell ⟨w.heap.size + 1, 0, none⟩ (.slice na2 (k + 1) nc2) = W := ⟨_, rfl⟩
      have HR : ∃ (k' : Nat) (na' : Option Addr) (nc' : Nat), k' ≤ rows.length ∧ Value.int .i64 ((k : Int) + 1) = .int .i64 (k' : Int) ∧ Blk w.heap.size [.slice none 0 0, .string ⟨#[]⟩] w2 ∧ Blk (w.heap.size + 1) [.slice na' k' nc', .string ⟨#[]⟩] w2 ∧ w2.ownsRow (w.heap.size + 2) 9 1 (.slice na' k' nc') k' (((rows.take k').map (fun x => runesBytes x.2.2)).map Value.string) ∧ w.heap.size + 2 ≤ w2.heap.size ∧ Below w.heap.size w w2 :=
        ⟨k + 1, na2, nc2, by omega, by go_num, by rw [← hw2]; exact TR1.far (by omega) _ _, by rw [← hw2]; exact TO1.set 0 _, by rw [← hw2, HT.out, List.map_append]; exact own_set ho1 (by omega), by rw [← hw2]; simpa using ZS1, by rw [← hw2]; exact sets_below (by omega) _ _ _ BC1⟩
      clear ho1 TR1 TO1 ZS1 BC1 HT
      go_wp2
      try rw [hw2]
      go_roundw
      case rel => exact HR
      case measure => simp [intOf]; omega
    · obtain rfl : k = rows.length := by omega
      have q1 : ¬ (rows.length : Int) < (rows.length : Int) := by omega
      rw [List.take_length] at ho
      have HX : Hid (∀ s ∈ rows.map (fun x => runesBytes x.2.2), s.size ≤ maxLen) := fun s hs => by
        obtain ⟨x, hxm, rfl⟩ := List.mem_map.1 hs
        have := runes_small (hx x hxm)
        unfold maxLen; omega
      obtain ⟨L, hL⟩ : ∃ L, rows.map (fun x => runesBytes x.2.2) = L := ⟨_, rfl⟩
      have HL : Hid (L.length = rows.length) := by show _ = _; rw [← hL, List.length_map]
      have HMM : Hid ((rows.map (fun x => x.2.2)).map runesBytes = L) := by show _ = _; rw [← hL, List.map_map]; rfl
      rw [hL] at ho HX
      clear hL he hx hr
      cases r with
      | false =>
        have HZ : Hid (z = (L, ByteArray.empty)) := by show _ = _; rw [HNM.out, if_neg (by decide), HMM.out]
        have oF : OwT w.heap.size wr ((na, nc, L), ByteArray.empty) := by
          show wr.ownsRow w.heap.size 9 1 (.slice na L.length nc) L.length (L.map Value.string)
          rw [HL.out]; exact ownsRow_le ho (by omega)
        obtain ⟨VF, hVF⟩ : ∃ V, wr.setCells w.heap.size 0 [.slice na rows.length nc, .string ⟨#[]⟩] = V := ⟨_, rfl⟩
        have TF : Blk w.heap.size [.slice na rows.length nc, .string ⟨#[]⟩] VF := by rw [← hVF]; exact TR.sets _ rfl
        have BF : Below w.heap.size w VF := by rw [← hVF]; exact below_sets (by omega) _ _ _ BC
        have oG : OwT w.heap.size VF ((na, nc, L), ByteArray.empty) := by
          show VF.ownsRow w.heap.size 9 1 (.slice na L.length nc) L.length (L.map Value.string)
          rw [← hVF, HL.out]
          exact ownsRow_le (own_far ho (sets_grown w.heap.size _ 0 wr) (by omega)) (by omega)
        have HV : Hid (vT ((na, nc, L), ByteArray.empty) = .agg #[.slice na rows.length nc, .string ⟨#[]⟩]) := by show _ = _; rw [← HL.out]; rfl
        clear oF ho HNM HMM BC
        go_wp2_with (first | (refine wpList_ldB 26 _ (w.heap.size + 1) 0 _ [.slice na rows.length nc, .string ⟨#[]⟩] ie hie (Try.isAgg26) TO his.symm rfl rfl rfl rfl ?_) | (refine wpList_stB 26 _ _ w.heap.size 0 _ [.slice na rows.length nc, .string ⟨#[]⟩] ie hie TR his.symm (by simp) rfl rfl rfl rfl rfl ?_; rw [hVF]) | go_in)
        exact bodyPost_ret (res_B1 rfl _ _ w.heap.size [.slice na rows.length nc, .string ⟨#[]⟩] ie hie (Try.isAgg26) TF his.symm rfl) rfl ⟨⟨((na, nc, L), ByteArray.empty), by rw [HV.out], by rw [HZ.out]; rfl, oG, ⟨by show L.length ≤ _; rw [HL.out]; omega, HX.out, by show (0 : Nat) ≤ _; omega⟩⟩, BF⟩
      | true =>
        have HZ : Hid (z = (L.take (rows.length - 1), L.getD (rows.length - 1) ByteArray.empty)) := by
          show _ = _
          have e1 := HNM.out
          rw [if_pos rfl] at e1
          rw [e1, ← HMM.out, List.length_map, List.map_take]
          congr 1
          exact (getD_runes (by rw [List.length_map]; omega)).symm
        clear HNM HMM
        generalize rows.length = n at *
        obtain ⟨m, rfl⟩ : ∃ m, n = m + 1 := ⟨n - 1, by omega⟩
        have hLm : m < L.length := by have := HL.out; omega
        have HZ2 : Hid (z = (L.take m, L[m])) := by
          show _ = _
          rw [HZ.out]
          simp [List.getD, hLm]
        rcases ho.2 with ⟨_, h0⟩ | ⟨g, c0, cur, e0, hg0, _⟩
        · omega
        injection e0 with e0 _ e1
        subst e0 e1
        have c1 := ho.cellAt m (by omega)
        have hcL : (L.map Value.string)[m]? = some (Value.string L[m]) := by simp [hLm]
        rw [hcL] at c1
        have hcap : m + 1 ≤ nc := by
          obtain ⟨_, _, e2, h2⟩ := own_shape ho
          injection e2 with _ _ e3
          omega
        have hsl := HX.out L[m] (List.getElem_mem hLm)
        have oL := own_less ho (show m ≤ m + 1 by omega)
        rw [← List.map_take] at oL
        have HTL : Hid ((L.take m).length = m) := by show _ = _; rw [List.length_take]; omega
        have HXT : Hid (∀ s ∈ L.take m, s.size ≤ maxLen) := fun s hs => HX.out s (List.mem_of_mem_take hs)
        clear hcL HZ HX
        generalize L[m] = lb at *
        generalize L.take m = LT at *
        have CC1 : Hid (wr.cell? ⟨g, m, none⟩ = some (.string lb)) := c1
        have d0 := TO.at 0 rfl
        have d1 := TO.at 1 rfl
        have f0 := TO.fz 0 rfl
        have f1 := TO.fz 1 rfl
        have q1 : (m : Int) ≤ (nc : Int) := by omega
        obtain ⟨W2, hW2⟩ : ∃ W, ((wr.setCell ⟨w.heap.size + 1, 0, none⟩ (.slice (some ⟨g, 0, none⟩) m nc)).setCell ⟨w.heap.size + 1, 1, none⟩ (.string lb)).drew = W := ⟨_, rfl⟩
        have TR2 : Blk w.heap.size [.slice none 0 0, .string ⟨#[]⟩] W2 := by rw [← hW2]; exact ((TR.far (by omega) _ _).far (by omega) _ _).drew
        have TO2 : Blk (w.heap.size + 1) [.slice (some ⟨g, 0, none⟩) m nc, .string lb] W2 := by rw [← hW2]; exact ((TO.set 0 _).set 1 _).drew
        have oL2 : W2.ownsRow (w.heap.size + 2) 9 1 (.slice (some ⟨g, 0, none⟩) m nc) m (LT.map Value.string) := by rw [← hW2]; exact (own_set (own_set oL (by omega)) (by omega)).drew
        have BC2 : Below w.heap.size w W2 := by rw [← hW2]; exact (sets_below (by omega) _ _ _ (sets_below (by omega) _ _ _ BC)).drew
        clear oL ho c1
        obtain ⟨VF, hVF⟩ : ∃ V, W2.setCells w.heap.size 0 [.slice (some ⟨g, 0, none⟩) m nc, .string lb] = V := ⟨_, rfl⟩
        have TF : Blk w.heap.size [.slice (some ⟨g, 0, none⟩) m nc, .string lb] VF := by rw [← hVF]; exact TR2.sets _ rfl
        have BF : Below w.heap.size w VF := by rw [← hVF]; exact below_sets (by omega) _ _ _ BC2
        have oG : OwT w.heap.size VF ((some ⟨g, 0, none⟩, nc, LT), lb) := by
          show VF.ownsRow w.heap.size 9 1 (.slice (some ⟨g, 0, none⟩) LT.length nc) LT.length (LT.map Value.string)
          rw [← hVF, HTL.out]
          exact ownsRow_le (own_far oL2 (sets_grown w.heap.size _ 0 W2) (by omega)) (by omega)
        have HV : Hid (vT ((some ⟨g, 0, none⟩, nc, LT), lb) = .agg #[.slice (some ⟨g, 0, none⟩) m nc, .string lb]) := by show _ = _; rw [← HTL.out]
        clear oL2 BC2 BC TR
        have c1 : wr.cell? ⟨g, m, none⟩ = some (.string lb) := CC1.out
        go_wp2
        go_region
        try rw [hW2]
        clear d0 d1 f0 f1 c1 hW2 TO
        go_wp2_with (first | (refine wpList_ldB 26 _ (w.heap.size + 1) 0 _ [.slice (some ⟨g, 0, none⟩) m nc, .string lb] ie hie (Try.isAgg26) TO2 his.symm rfl rfl rfl rfl ?_) | (refine wpList_stB 26 _ _ w.heap.size 0 _ [.slice (some ⟨g, 0, none⟩) m nc, .string lb] ie hie TR2 his.symm (by simp) rfl rfl rfl rfl rfl ?_; rw [hVF]) | go_in)
        exact bodyPost_ret (res_B1 rfl _ _ w.heap.size [.slice (some ⟨g, 0, none⟩) m nc, .string lb] ie hie (Try.isAgg26) TF his.symm rfl) rfl ⟨⟨((some ⟨g, 0, none⟩, nc, LT), lb), by rw [HV.out], by rw [HZ2.out] <;> rfl, oG, ⟨by show LT.length ≤ _; rw [HTL.out]; omega, HXT.out, hsl⟩⟩, BF⟩
end Go.Proofs.Ytbpodcfbijhboaa.Nd
