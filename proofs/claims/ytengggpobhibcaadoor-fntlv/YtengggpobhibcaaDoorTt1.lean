/- A message as a tree: the model's call. -/
import Derived.Test.YtengggpobhibcaaDoorTt0
import Derived.Test.YtengggpobhibcaaDoorNc1
set_option linter.unusedVariables false
set_option maxRecDepth 100000
namespace Go.Proofs.YtengggpobhibcaaDoor.Nd
open Go Go.RowKit Go.Joins Own Draw Var

theorem no_empty {s : ByteArray} (h : ¬ s = ⟨#[]⟩) : s.toList.isEmpty = false := by
  rw [Bool.eq_false_iff]
  intro c
  apply h
  rw [ByteArray.toList_eq, List.isEmpty_iff] at c
  cases s
  simp at c
  rw [c]
set_option maxRecDepth 100000 in
set_option maxHeartbeats 6400000 in
theorem tree_is (a : Option Addr) (ca : Nat) (xs : List TT) (w : World) (hr : RpT w (a, ca, xs)) (hl : xs.length ≤ 1048576) (hk : ∀ x ∈ xs, x.2.2.2.2.2.length ≤ 1048576) :
    Calls Tryd.prog 18 #[.slice a xs.length ca] w fun e w' => BiF (TreeP xs) e ∧ Below w.heap.size w w' := by
  obtain ⟨it, hit, hits⟩ := info_T
  obtain ⟨i0, hi, hz0, hz1, hz2⟩ := info_parts infoCI
  have KI := in_is (xs.length : Int) 1 60 w
  go_enter Tryd.func18, Tryd.ntmps18
  go_wp2_with fail
  refine KI.mono ?_
  clear KI
  rintro ex ux ⟨rfl, rfl⟩
  by_cases h60 : 1 ≤ xs.length ∧ xs.length ≤ 60
  rotate_left
  · have hv : (decide ((1 : Int) ≤ (xs.length : Int)) && decide ((xs.length : Int) ≤ 60)) = false := by
      rw [Bool.eq_false_iff]; intro c; simp at c; omega
    have HN : Hid (¬ TreeP xs) := fun t => h60 t.1
    rw [hv]
    go_wp2
    go_ret
    exact ⟨⟨false, rfl, ⟨fun e => by (cases e), fun e => absurd e HN.out⟩⟩, Below.refl _ _⟩
  have hv : (decide ((1 : Int) ≤ (xs.length : Int)) && decide ((xs.length : Int) ≤ 60)) = true := by simp; omega
  rw [hv]
  clear hv
  go_wp2_with (first | (at_make; refine wpList_make_full _ rfl _ _ 59 rfl w.heap.size 3 i0 (.int .i64 0) 1 Tryd.underlying59 hi hz0 hz1 .i64 .i64 xs.length xs.length xs.length rfl rfl rfl rfl (by rw [hz2]; omega) (by unfold maxLen; omega) (Nat.le_refl _) ?_) | go_in)
  intro w1 hown hgrow
  have hbel := (Below.refl w.heap.size w).grown hgrow (Nat.le_refl _) (by simp)
  have ho0 : w1.ownsRow w.heap.size 3 1 (.slice (some ⟨w.heap.size, 0, none⟩) xs.length xs.length) xs.length ((cnV xs.length [] []).map (Value.int .i64)) := by
    have e : (madeCells #[.int .i64 0] xs.length).toList = (cnV xs.length [] []).map (Value.int .i64) := by
      refine List.ext_getElem (by simp [size_madeCells, cnV_len]) (fun i h1 h2 => ?_)
      simp [madeCells, cnV, cnT]
      rw [Nat.mod_one]
      rfl
    rw [← e]
    exact hown
  have hrow := hr.1
  dsimp only at hrow
  clear hown hgrow
  go_wp2
  go_loopw [4] (fun iv wr => ∃ j : Nat, j ≤ xs.length ∧ iv = .int .i64 j ∧ Hid (∀ t (h : t < xs.length), t < j → NdK t xs[t]) ∧ wr.ownsRow w.heap.size 3 1 (.slice (some ⟨w.heap.size, 0, none⟩) xs.length xs.length) xs.length ((cnV xs.length (xs.take j) []).map (Value.int .i64)) ∧ Below w.heap.size w wr) (fun iv _ => xs.length - (intOf iv).toNat)
  case atStart => exact ⟨0, by omega, rfl, fun t h hj => absurd hj (by omega), by simpa using ho0, hbel⟩
  case round =>
    clear ho0 hbel
    obtain ⟨j, hj, rfl, hno, hown, hbl⟩ := hrel
    by_cases hlt : j < xs.length
    rotate_left
    · obtain rfl : j = xs.length := by omega
      have hlt2 : ¬ ((xs.length : Nat) : Int) < (xs.length : Int) := by omega
      rw [List.take_length] at hown
      have hcn : cnT xs 0 = cnT xs 0 := rfl
      have HC : Hid (∀ i, i < xs.length → wr.cell? ⟨w.heap.size, i, none⟩ = some (.int .i64 ((cnT xs i : Nat) : Int))) := fun i hi => by
        rw [World.ownsRow.cellAt hown i (by omega), List.getElem?_map, cnV_get _ _ _ _ hi]
        simp
      have HT : Hid ((∀ i, i + 1 < xs.length → cnT xs i = 1) → TreeP xs) := fun hc => ⟨h60, fun i h => hno.out i h h, hc⟩
      have HT2 : Hid (TreeP xs → ∀ i, i + 1 < xs.length → cnT xs i = 1) := fun t => t.2.2
      clear hown hno hcn
      go_wp2
      go_loopw [7] (fun iv wq => ∃ i : Nat, i + 1 ≤ xs.length ∧ iv = .int .i64 i ∧ Hid (∀ t, t < i → cnT xs t = 1) ∧ wr = wq) (fun iv _ => xs.length - (intOf iv).toNat)
      case atStart => exact ⟨0, h60.1, rfl, fun t ht => absurd ht (by omega), rfl⟩
      case round =>
        obtain ⟨i, hi1, rfl, hni, rfl⟩ := hrel
        by_cases hil : i + 1 < xs.length
        rotate_left
        · have hil2 : ¬ (i : Int) < (xs.length : Int) - 1 := by omega
          have HTT : Hid (TreeP xs) := HT.out (fun t h => hni.out t (by omega))
          clear HT HT2
          go_wp2
          go_ret
          exact ⟨⟨true, rfl, ⟨fun _ => HTT.out, fun _ => rfl⟩⟩, hbl⟩
        have hil2 : (i : Int) < (xs.length : Int) - 1 := by omega
        have hii : (i : Int) < (xs.length : Int) := by omega
        have hci := HC.out i (by omega)
        by_cases h1 : cnT xs i = 1
        rotate_left
        · have m1 : (((cnT xs i : Nat) : Int) != 1) = true := by simp; omega
          have HN : Hid (¬ TreeP xs) := fun t => h1 (HT2.out t i hil)
          generalize cnT xs i = cc at hci m1
          clear HT HT2 HC hni h1
          go_wp2
          go_ret
          exact ⟨⟨false, rfl, ⟨fun e => by (cases e), fun e => absurd e HN.out⟩⟩, hbl⟩
        have HR : Hid (∃ i' : Nat, i' + 1 ≤ xs.length ∧ Value.int .i64 ((i : Int) + 1) = .int .i64 i' ∧ Hid (∀ t, t < i' → cnT xs t = 1) ∧ True) := ⟨i + 1, by omega, by go_num, fun t ht => by
          by_cases e : t = i
          · subst e; exact h1
          · exact hni.out t (by omega), trivial⟩
        rw [h1] at hci
        clear HT HT2 HC hni h1
        go_wp2
        go_roundw
        case rel => first | exact HR.out | ((repeat apply Exists.intro); exact ⟨HR.out, rfl⟩)
        case measure => simp [intOf]; omega
    have hlt2 : (j : Int) < (xs.length : Int) := by omega
    obtain ⟨b1, o1, rfl, l1, hc1⟩ := hrow j hlt
    have hd1 : ∀ i v, (cT xs[j])[i]? = some v → wr.cell? ⟨b1, o1 + j * 4 + i, none⟩ = some v := fun i v e => (hbl.cell (p := ⟨b1, o1 + j * 4 + i, none⟩) l1).trans (hc1 i v e)
    have ld1 := ld_T it hit hits hd1
    have hkw : RowAt (Value.int .i64) w xs[j].2.2.2.1 xs[j].2.2.2.2.2 := hr.2 xs[j] (List.getElem_mem hlt)
    have hkl := hk xs[j] (List.getElem_mem hlt)
    have HNO : Hid (¬ NdK j xs[j] → ¬ TreeP xs) := fun hn t => hn (t.2.1 j hlt)
    have HYES : Hid (NdK j xs[j] → ∀ t (h : t < xs.length), t < j + 1 → NdK t xs[t]) := fun he t h ht => by
      by_cases e : t = j
      · subst e; exact he
      · exact hno.out t h (by omega)
    have HTK : Hid (xs.take (j + 1) = xs.take j ++ [xs[j]]) := List.take_succ_eq_append_getElem hlt
    generalize xs[j] = x at HNO HYES HTK ld1 hkw hkl
    clear hc1 hd1 hno
    have hsw : w.heap.size < wr.heap.size := (World.ownsRow.lt hown w.heap.size rfl).2
    obtain ⟨A0, hA0⟩ : ∃ Y, wr.alloc (.cells #[.int .i64 0, .bool false, .string ⟨#[]⟩, .slice none 0 0] 61) = Y := ⟨_, rfl⟩
    have TX0 : Blk wr.heap.size [.int .i64 0, .bool false, .string ⟨#[]⟩, .slice none 0 0] A0 := by rw [← hA0]; exact Blk.new _ _ _
    have B0 : Below wr.heap.size wr A0 := by rw [← hA0]; exact (Below.refl _ _).alloc (Nat.le_refl _) _
    obtain ⟨A1, hA1⟩ : ∃ Y, A0.setCells wr.heap.size 0 [.int .i64 x.1, .bool x.2.1, .string x.2.2.1, .slice x.2.2.2.1 x.2.2.2.2.2.length x.2.2.2.2.1] = Y := ⟨_, rfl⟩
    have TX1 : Blk wr.heap.size [.int .i64 x.1, .bool x.2.1, .string x.2.2.1, .slice x.2.2.2.1 x.2.2.2.2.2.length x.2.2.2.2.1] A1 := by rw [← hA1]; exact TX0.sets _ rfl
    have B1 : Below wr.heap.size wr A1 := by rw [← hA1]; exact below_sets (Nat.le_refl _) _ _ _ B0
    have BW := hbl.trans (B1.mono hbl.size)
    have hownA := own_later hown B1
    have KJ := in_is x.1 1 100 A1
    have p0 := TX1.at 0 rfl
    clear hown
    go_wp2_with (first | (refine wpList_ldV 61 _ b1 (o1 + j * 4) _ ld1 rfl rfl rfl ?_) | (refine wpList_stB 61 _ _ wr.heap.size 0 _ [.int .i64 x.1, .bool x.2.1, .string x.2.2.1, .slice x.2.2.2.1 x.2.2.2.2.2.length x.2.2.2.2.1] it hit TX0 hits.symm (by simp) rfl rfl rfl rfl rfl ?_; rw [hA1]))
    refine KJ.mono ?_
    clear KJ ld1 TX0 B0 hA0 hA1
    rintro ex ux ⟨rfl, rfl⟩
    have p1 := TX1.at 1 rfl
    have p2 := TX1.at 2 rfl
    have p3 := TX1.at 3 rfl
    cases hb : (decide (1 ≤ x.1) && decide (x.1 ≤ 100)) with
    | false =>
      have HN : Hid (¬ TreeP xs) := HNO.out (fun h => by have := h.1.1; unfold tgOk at this; rw [hb] at this; cases this)
      clear HNO HYES HTK hownA TX1 hkw B1 p0 p1 p2 p3
      go_wp2
      go_ret
      exact ⟨⟨false, rfl, ⟨fun e => by (cases e), fun e => absurd e HN.out⟩⟩, BW⟩
    | true =>
      by_cases hh : hdOk x
      rotate_left
      · have HN : Hid (¬ TreeP xs) := HNO.out (fun h => hh h.1)
        have hbad : (x.2.1 = true ∧ 0 < x.2.2.2.2.2.length) ∨ (x.2.1 = false ∧ ¬ x.2.2.1 = ⟨#[]⟩) := by
          refine Classical.byContradiction (fun c => hh ⟨hb, fun d => c (Or.inl d), fun d => c (Or.inr d)⟩)
        clear HNO HYES HTK hownA TX1 hkw B1 hb hh p0
        rcases hbad with ⟨e1, e2⟩ | ⟨e1, e2⟩
        · have e3 : (0 : Int) < (x.2.2.2.2.2.length : Int) := by omega
          rw [e1] at p1
          clear e1
          go_wp2
          go_ret
          exact ⟨⟨false, rfl, ⟨fun e => by (cases e), fun e => absurd e HN.out⟩⟩, BW⟩
        · have e3 := no_empty e2
          rw [e1] at p1
          clear e1 e2
          go_wp2
          go_ret
          exact ⟨⟨false, rfl, ⟨fun e => by (cases e), fun e => absurd e HN.out⟩⟩, BW⟩
      have hgd : (x.2.1 = true ∧ x.2.2.2.2.2.length = 0) ∨ (x.2.1 = false ∧ x.2.2.1 = ⟨#[]⟩) := by
        cases e : x.2.1 with
        | true => exact Or.inl ⟨rfl, Classical.byContradiction (fun c => hh.2.1 ⟨e, by omega⟩)⟩
        | false => exact Or.inr ⟨rfl, Classical.byContradiction (fun c => hh.2.2 ⟨e, c⟩)⟩
      have hkid : ∀ u (h : u < x.2.2.2.2.2.length), ∃ (d1 f1 : Nat), x.2.2.2.1 = some ⟨d1, f1, none⟩ ∧ d1 < w.heap.size ∧ w.cell? ⟨d1, f1 + u, none⟩ = some (.int .i64 x.2.2.2.2.2[u]) := fun u h => by
        obtain ⟨d1, f1, e1, g1, z1⟩ := hkw u h
        exact ⟨d1, f1, e1, g1, z1⟩
      have HH : Hid (hdOk x) := hh
      clear hh hb hkw
      have hsA : wr.heap.size < A1.heap.size := TX1.lt
      have HTX : Hid (∀ W : World, A1.grownBy W (some w.heap.size) → Blk wr.heap.size [.int .i64 x.1, .bool x.2.1, .string x.2.2.1, .slice x.2.2.2.1 x.2.2.2.2.2.length x.2.2.2.2.1] W) := fun W hg => blk_kept TX1 hg (fun e => by injection e with e; omega) TX1.lt
      clear TX1 B1
      rcases hgd with ⟨e1, e2⟩ | ⟨e1, e2⟩
      · rw [e1] at p1
        have hnil : x.2.2.2.2.2 = [] := List.eq_nil_of_length_eq_zero e2
        rw [e2] at p3
        have HR : Hid (∃ j' : Nat, j' ≤ xs.length ∧ Value.int .i64 ((j : Int) + 1) = .int .i64 j' ∧ Hid (∀ t (h : t < xs.length), t < j' → NdK t xs[t]) ∧ A1.ownsRow w.heap.size 3 1 (.slice (some ⟨w.heap.size, 0, none⟩) xs.length xs.length) xs.length ((cnV xs.length (xs.take j') []).map (Value.int .i64)) ∧ Below w.heap.size w A1) := ⟨j + 1, by omega, by go_num, HYES.out ⟨HH.out, fun k hk => by rw [hnil] at hk; cases hk⟩, by
          have h := hownA
          rw [← hnil, cnV_next, ← HTK.out] at h
          exact h, BW⟩
        clear HYES HNO HTK HTX hkid hnil hownA e1 e2
        go_wp2
        go_loopw [6] (fun iv wq => iv = .int .i64 0 ∧ A1 = wq) (fun _ _ => 0)
        case atStart => exact ⟨rfl, rfl⟩
        case round =>
          obtain ⟨rfl, rfl⟩ := hrel
          go_wp2
          go_roundw
          case rel => first | exact HR.out | ((repeat apply Exists.intro); exact ⟨HR.out, rfl⟩)
          case measure => simp [intOf]; omega
      · rw [e1] at p1
        try rw [e2] at p2
        clear e1 e2
        go_wp2
        clear p0 p1 p2 p3
        go_loopw [6] (fun iv wq => ∃ u : Nat, u ≤ x.2.2.2.2.2.length ∧ iv = .int .i64 u ∧ Hid (∀ v (h : v < x.2.2.2.2.2.length), v < u → 0 ≤ x.2.2.2.2.2[v] ∧ x.2.2.2.2.2[v] < (j : Int)) ∧ wq.ownsRow w.heap.size 3 1 (.slice (some ⟨w.heap.size, 0, none⟩) xs.length xs.length) xs.length ((cnV xs.length (xs.take j) (x.2.2.2.2.2.take u)).map (Value.int .i64)) ∧ A1.grownBy wq (some w.heap.size)) (fun iv _ => x.2.2.2.2.2.length - (intOf iv).toNat)
        case atStart => exact ⟨0, Nat.zero_le _, rfl, fun v h hv => absurd hv (by omega), by simpa using hownA, World.grownBy.refl _ _⟩
        case round =>
          clear hownA
          obtain ⟨u, hu, rfl, hnu, hou, hgu⟩ := hrel
          have p3 := (HTX.out wr hgu).at 3 rfl
          have BE : Below w.heap.size w wr := BW.grown hgu (by omega) (fun k e => by injection e with e; omega)
          by_cases hul : u < x.2.2.2.2.2.length
          rotate_left
          · have hul2 : ¬ (u : Int) < (x.2.2.2.2.2.length : Int) := by omega
            obtain rfl : u = x.2.2.2.2.2.length := by omega
            rw [List.take_length, cnV_next, ← HTK.out] at hou
            have HR : Hid (∃ j' : Nat, j' ≤ xs.length ∧ Value.int .i64 ((j : Int) + 1) = .int .i64 j' ∧ Hid (∀ t (h : t < xs.length), t < j' → NdK t xs[t]) ∧ wr.ownsRow w.heap.size 3 1 (.slice (some ⟨w.heap.size, 0, none⟩) xs.length xs.length) xs.length ((cnV xs.length (xs.take j') []).map (Value.int .i64)) ∧ Below w.heap.size w wr) := ⟨j + 1, by omega, by go_num, HYES.out ⟨HH.out, fun k hk => by obtain ⟨v, hv, rfl⟩ := List.getElem_of_mem hk; exact hnu.out v hv hv⟩, hou, BE⟩
            clear HYES HNO HTK hnu hou HTX hkid
            go_wp2
            go_roundw
            case rel => first | exact HR.out | ((repeat apply Exists.intro); exact ⟨HR.out, rfl⟩)
            case measure => simp [intOf]; omega
          have hul2 : (u : Int) < (x.2.2.2.2.2.length : Int) := by omega
          obtain ⟨d1, f1, ea, g1, z1⟩ := hkid u hul
          have z1b : wr.cell? ⟨d1, f1 + u, none⟩ = some (.int .i64 x.2.2.2.2.2[u]) := World.grownBy.cell hgu ((BW.cell (p := ⟨d1, f1 + u, none⟩) g1).trans z1) (fun e => by injection e with e; have e2 : d1 = w.heap.size := e; omega)
          rw [ea] at p3
          have HKB : Hid (¬ (0 ≤ x.2.2.2.2.2[u] ∧ x.2.2.2.2.2[u] < (j : Int)) → ¬ TreeP xs) := fun hn => HNO.out (fun h => hn (h.2 _ (List.getElem_mem hul)))
          have HTU : Hid (x.2.2.2.2.2.take (u + 1) = x.2.2.2.2.2.take u ++ [x.2.2.2.2.2[u]]) := List.take_succ_eq_append_getElem hul
          have HNU : Hid ((0 ≤ x.2.2.2.2.2[u] ∧ x.2.2.2.2.2[u] < (j : Int)) → ∀ v (h : v < x.2.2.2.2.2.length), v < u + 1 → 0 ≤ x.2.2.2.2.2[v] ∧ x.2.2.2.2.2[v] < (j : Int)) := fun he v h hv => by
            by_cases e : v = u
            · subst e; exact he
            · exact hnu.out v h (by omega)
          generalize x.2.2.2.2.2[u] = kv at z1b HKB HTU HNU
          clear hnu z1
          by_cases hk0 : kv < 0
          · have HN : Hid (¬ TreeP xs) := HKB.out (fun c => by omega)
            clear HYES HNO HTK hou HTX hkid HKB HTU HNU
            go_wp2
            go_ret
            exact ⟨⟨false, rfl, ⟨fun e => by (cases e), fun e => absurd e HN.out⟩⟩, BE⟩
          by_cases hkj : (j : Int) ≤ kv
          · have HN : Hid (¬ TreeP xs) := HKB.out (fun c => by omega)
            clear HYES HNO HTK hou HTX hkid HKB HTU HNU
            go_wp2
            go_ret
            exact ⟨⟨false, rfl, ⟨fun e => by (cases e), fun e => absurd e HN.out⟩⟩, BE⟩
          obtain ⟨v, rfl⟩ : ∃ v : Nat, kv = (v : Int) := ⟨kv.toNat, by omega⟩
          have hvn : v < xs.length := by omega
          have hvn2 : (v : Int) < (xs.length : Int) := by omega
          have hput := cnV_put xs.length (xs.take j) (x.2.2.2.2.2.take u) v hvn
          rw [← HTU.out] at hput
          have hst := World.ownsRow.stored hou v (.int .i64 (((cnT (xs.take j) v + (x.2.2.2.2.2.take u).count (v : Int) : Nat) : Int) + 1))
          rw [← List.map_set, hput] at hst
          have hce : wr.cell? ⟨w.heap.size, v, none⟩ = some (.int .i64 (((cnT (xs.take j) v + (x.2.2.2.2.2.take u).count (v : Int) : Nat) : Int))) := by
            rw [World.ownsRow.cellAt hou v (by omega), List.getElem?_map, cnV_get _ _ _ _ hvn]
            rfl
          have hfz := World.ownsRow.frozenAt hou v
          have hcb : cnT (xs.take j) v + (x.2.2.2.2.2.take u).count (v : Int) ≤ 100000000 := by
            have h1 := cn_le (xs.take j) v 1048576 (fun y hy => hk y (List.mem_of_mem_take hy))
            have h2 := List.count_le_length (a := (v : Int)) (l := x.2.2.2.2.2.take u)
            have h3 : (xs.take j).length * 1048576 ≤ 60 * 1048576 := Nat.mul_le_mul_right _ (by rw [List.length_take]; omega)
            rw [List.length_take] at h2
            omega
          generalize cnT (xs.take j) v + (x.2.2.2.2.2.take u).count (v : Int) = cc at hst hce hcb hput
          have hcc : (cc : Int) ≤ 100000000 := by omega
          have HR : Hid (∃ u' : Nat, u' ≤ x.2.2.2.2.2.length ∧ Value.int .i64 ((u : Int) + 1) = .int .i64 u' ∧ Hid (∀ v (h : v < x.2.2.2.2.2.length), v < u' → 0 ≤ x.2.2.2.2.2[v] ∧ x.2.2.2.2.2[v] < (j : Int)) ∧ (wr.setCell ⟨w.heap.size, v, none⟩ (.int .i64 ((cc : Int) + 1))).drew.ownsRow w.heap.size 3 1 (.slice (some ⟨w.heap.size, 0, none⟩) xs.length xs.length) xs.length ((cnV xs.length (xs.take j) (x.2.2.2.2.2.take u')).map (Value.int .i64)) ∧ A1.grownBy (wr.setCell ⟨w.heap.size, v, none⟩ (.int .i64 ((cc : Int) + 1))).drew (some w.heap.size)) := ⟨u + 1, by omega, by go_num, HNU.out (by omega), hst.1, ⟨(grown_to hgu hst.2).os, (grown_to hgu hst.2).tape, (grown_to hgu hst.2).output, (grown_to hgu hst.2).size, (grown_to hgu hst.2).block⟩⟩
          clear HYES HNO HTK hou HTX hkid HKB HTU HNU hput hst hcb
          go_wp2_with fail
          go_region
          go_wp2
          exact ⟨HR.out, by simp [intOf]; omega⟩
end Go.Proofs.YtengggpobhibcaaDoor.Nd
