/- What is known, copied: the program's copy. -/
import Derived.Test.YtkekfogepdhjhaaGreatKnow4
import Derived.Lib.SliceRun
set_option linter.unusedVariables false
namespace Go.Proofs.YtkekfogepdhjhaaGreat
open Go.RowKit Own Var Term

theorem one_str (xs : List ByteArray) : ∀ u ∈ strV xs, u.oneCell' = true := by
  intro u hu; unfold strV at hu; obtain ⟨x, _, rfl⟩ := List.mem_map.1 hu; rfl
theorem one_int (ks : List Int) : ∀ u ∈ intV ks, u.oneCell' = true := by
  intro u hu; unfold intV at hu; obtain ⟨x, _, rfl⟩ := List.mem_map.1 hu; rfl
theorem news_of {α : Type} {f : α → Value} {w : World} {g off : Nat} {xs : List α} (hr : RowAt f w (some ⟨g, off, none⟩) xs) : ∀ j u, (xs.map f)[j]? = some u → w.cell? ((⟨g, off, none⟩ : Addr).add j) = some u := by
  intro j u hu
  rw [List.getElem?_map] at hu
  have hj : j < xs.length := by
    rw [Nat.lt_iff_add_one_le]
    by_cases h : j + 1 ≤ xs.length
    · exact h
    · rw [List.getElem?_eq_none (by omega)] at hu; simp at hu
  rw [List.getElem?_eq_getElem hj] at hu
  simp only [Option.map_some, Option.some.injEq] at hu
  obtain ⟨b, o, e, _, hc⟩ := hr j hj
  simp only [Option.some.injEq, Addr.mk.injEq] at e
  obtain ⟨rfl, rfl, _⟩ := e
  have e2 : (⟨g, off, none⟩ : Addr).add j = ⟨g, off + j, none⟩ := by simp only [Addr.add]; split <;> simp_all
  rw [e2, hc, hu]

set_option maxRecDepth 100000 in
set_option maxHeartbeats 800000 in
theorem cloneI_some (p : Addr) (cap : Nat) (ks : List Int) (w : World) (hr : RowAt (Value.int .i64) w (some p) ks) (hl : ks.length ≤ 1048576) :
    Calls Tryz.prog 71 #[.slice (some p) ks.length cap] w fun e w' => ∃ v, e = .returned v ∧ w'.ownsRow w.heap.size 3 1 v ks.length (intV ks) ∧ Below w.heap.size w w' := by
  obtain ⟨i0, hi, hz0, hz1, hz2⟩ := info_parts infoInt
  have hb0 : Below w.heap.size w (w.alloc (.cells #[] 3)) := (Below.refl _ _).alloc (Nat.le_refl _) _
  have hlit : (w.alloc (.cells #[] 3)).ownsRow w.heap.size 3 1 (.slice (some ⟨w.heap.size, 0, none⟩) 0 0) 0 [] := World.ownsRow_lit _ _ _ (Nat.le_refl _) (by unfold maxLen; omega) rfl
  have hn : ∀ j u, (intV ks)[j]? = some u → (w.alloc (.cells #[] 3)).cell? (p.add j) = some u := by
    cases ks with
    | nil => intro j u h; simp [intV] at h
    | cons k r =>
      obtain ⟨g, off, e, _⟩ := hr 0 (by simp)
      cases e
      exact news_of (hr.later hb0)
  have q25 : ∀ (w : World) (a : Option Addr) (n c n' c' : Nat), (binOp .eql 25 (.slice a n c) (.slice none n' c')).run Tryz.prog w = .ok (.bool a.isNone) w := fun w a n c n' c' => Lib.run_eql_slice_nil w _ _ a n c n' c' Tryz.underlying25
  go_enter Tryz.func71, Tryz.ntmps71
  go_wp2_with (first | (at_builtin; refine wpList_append_own _ rfl _ _ 25 rfl w.heap.size 3 i0 (.int .i64 0) 1 8 Tryz.underlying25 hi hz0 hz1 hz2 rfl (by decide) _ _ _ rfl hlit p ks.length cap (intV ks) rfl ?c1 hn (one_int ks) ?c3 ?c4 ?c5 ?_) | go_in)
  case c1 => simp [intV]
  case c3 => unfold maxLen; omega
  case c4 => omega
  case c5 => simp
  intro v' w4 hown' hgrow _
  have hb4 := hb0.grown hgrow (by simp) (by intro k hk; simp [Value.ownBlock] at hk; omega)
  go_wp2
  go_ret
  exact ⟨_, rfl, hown', hb4⟩

set_option maxRecDepth 100000 in
set_option maxHeartbeats 800000 in
theorem cloneI_is (a : Option Addr) (cap : Nat) (ks : List Int) (w : World) (hr : RowAt (Value.int .i64) w a ks) (hl : ks.length ≤ 1048576) :
    Calls Tryz.prog 71 #[.slice a ks.length cap] w fun e w' => ∃ v, e = .returned v ∧ w'.ownsRow w.heap.size 3 1 v ks.length (intV ks) ∧ Below w.heap.size w w' := by
  cases a with
  | some p => exact cloneI_some p cap ks w hr hl
  | none =>
    cases ks with
    | cons k r => obtain ⟨g, off, e, _⟩ := hr 0 (by simp); cases e
    | nil =>
      have q25 : ∀ (w : World) (a : Option Addr) (n c n' c' : Nat), (binOp .eql 25 (.slice a n c) (.slice none n' c')).run Tryz.prog w = .ok (.bool a.isNone) w := fun w a n c n' c' => Lib.run_eql_slice_nil w _ _ a n c n' c' Tryz.underlying25
      go_enter Tryz.func71, Tryz.ntmps71
      go_wp2
      go_ret
      exact ⟨_, rfl, World.ownsRow_nil _ _ _ _, Below.refl _ _⟩

/-- A value of two rows, each nil or the call's own. -/
def KeepK (base : Nat) (w : World) (v : Value) (xs : List ByteArray) (ks : List Int) : Prop :=
  ∃ (a b : Option Addr) (ca cb : Nat), v = .agg #[.slice a xs.length ca, .slice b ks.length cb] ∧ w.ownsRow base 9 1 (.slice a xs.length ca) xs.length (strV xs) ∧ w.ownsRow base 3 1 (.slice b ks.length cb) ks.length (intV ks)
theorem strV_take {xs : List ByteArray} {k : Nat} (h : k < xs.length) : strV (xs.take k) ++ [.string xs[k]] = strV (xs.take (k + 1)) := by
  unfold strV; rw [List.take_succ_eq_append_getElem h, List.map_append]; rfl
/-- The result of a call, in the two cells of its own block. -/
theorem res_two {fn : Func} {p : Tmp} (hres : fn.results = #[.cell p 27]) (tmps : Array Value) (w : World) (g : Nat) (v0 v1 : Value) (hp : tmps.getD p undef = .pointer (some ⟨g, 0, none⟩)) (h0 : w.cell? ⟨g, 0, none⟩ = some v0) (h1 : w.cell? ⟨g, 1, none⟩ = some v1) :
    (results fn tmps).run Tryz.prog w = .ok (.agg #[v0, v1]) w := by
  have hp' : tmps[p]?.getD undef = .pointer (some ⟨g, 0, none⟩) := by simpa using hp
  simp [results, hres, hp', asAddr, go_sem, h0, h1, loadVar, Tryz.isAgg27, Tryz.sizeOf27]

set_option maxRecDepth 100000 in
set_option maxHeartbeats 1600000 in
theorem copyKnown_is (a9 b9 : Option Addr) (ca cb : Nat) (xs : List ByteArray) (ks : List Int) (w : World) (hr : RowAt Value.string w a9 xs) (hq : RowAt (Value.int .i64) w b9 ks) (hl : xs.length ≤ 1048576) (hl2 : ks.length ≤ 1048576) (hs : ∀ x ∈ xs, x.size ≤ 1048576) :
    Calls Tryz.prog 36 #[.agg #[.slice a9 xs.length ca, .slice b9 ks.length cb]] w fun e w' => ∃ v, e = .returned v ∧ KeepK w.heap.size w' v xs ks ∧ Below w.heap.size w w' := by
  obtain ⟨i0, hi, hz0, hz1, hz2⟩ := info_parts infoStr
  obtain ⟨W2, hW2⟩ : ∃ W2, (w.alloc (.cells #[.slice a9 xs.length ca, .slice b9 ks.length cb] 27)).alloc (.cells #[.slice none 0 0, .slice none 0 0] 27) = W2 := ⟨_, rfl⟩
  have hb0 : Below w.heap.size w W2 := by rw [← hW2]; exact ((Below.refl _ _).alloc (Nat.le_refl _) _).alloc (by simp) _
  have hz : Hid (W2.heap.size = w.heap.size + 2) := by show W2.heap.size = w.heap.size + 2; rw [← hW2]; simp
  have c0 : W2.cell? ⟨w.heap.size, 0, none⟩ = some (.slice a9 xs.length ca) := by rw [← hW2]; simp [go_sem]
  have c1 : W2.cell? ⟨w.heap.size, 1, none⟩ = some (.slice b9 ks.length cb) := by rw [← hW2]; simp [go_sem]
  have c2 : W2.cell? ⟨w.heap.size + 1, 0, none⟩ = some (.slice none 0 0) := by rw [← hW2]; simp [go_sem]
  have c3 : W2.cell? ⟨w.heap.size + 1, 1, none⟩ = some (.slice none 0 0) := by rw [← hW2]; simp [go_sem]
  have f2 : W2.frozen? ⟨w.heap.size + 1, 0, none⟩ = false := by rw [← hW2]; simp [go_sem]
  have f3 : W2.frozen? ⟨w.heap.size + 1, 1, none⟩ = false := by rw [← hW2]; simp [go_sem]
  have L0 : ∀ o, (⟨w.heap.size, o, none⟩ : Addr).block < W2.heap.size := fun o => by have := hz.out; show w.heap.size < _; omega
  have L1 : ∀ o, (⟨w.heap.size + 1, o, none⟩ : Addr).block < W2.heap.size := fun o => by have := hz.out; show w.heap.size + 1 < _; omega
  have hr2 := hr.later hb0
  go_enter Tryz.func36, Tryz.ntmps36
  go_wp2_with (first | (at_make; refine wpList_make_own _ rfl _ _ 24 rfl W2.heap.size 9 i0 (.string ⟨#[]⟩) 1 Tryz.underlying24 hi hz0 hz1 .i64 .i64 xs.length xs.length rfl rfl rfl (by rw [hz2]; omega) (by unfold maxLen; omega) (by first | exact Nat.le_refl _ | (rw [hW2]; exact Nat.le_refl _)) ?_) | go_in)
  intro w0 hown0 hgrow0
  try rw [hW2] at hgrow0
  clear hW2
  have hbel0 := (Below.refl W2.heap.size W2).grown hgrow0 (Nat.le_refl _) (by simp)
  clear hgrow0
  have e0 := (hbel0.cell (L0 0)).trans c0
  go_wp2
  go_loopw [3, 13] (fun v i wr => ∃ k : Nat, k ≤ xs.length ∧ i = .int .i64 k ∧ wr.ownsRow W2.heap.size 9 1 v k (strV (xs.take k)) ∧ Below W2.heap.size W2 wr) (fun _ i _ => xs.length - (intOf i).toNat)
  case atStart => exact ⟨0, by omega, rfl, hown0, hbel0⟩
  case round =>
    clear hown0 hbel0 e0
    obtain ⟨k, hk, rfl, hown, hbel⟩ := hrel
    by_cases hlt : k < xs.length
    · obtain ⟨b, off, e9, hbl, hcell⟩ := hr2 k hlt
      subst e9
      rw [← hbel.cell (p := ⟨b, off + k, none⟩) hbl] at hcell
      have HP : Hid (strV (xs.take k) ++ [.string xs[k]] = strV (xs.take (k + 1))) := strV_take hlt
      have hx := hs _ (List.getElem_mem hlt)
      generalize xs[k] = z at hcell HP hx
      go_wp2_with fail
      refine (clone_is z _ hx).mono ?_
      rintro e w1 ⟨rfl, hb1⟩
      have hb2 := hbel.trans (hb1.mono hbel.size)
      have hown1 := own_later hown hb1
      clear hown hbel hb1 hcell
      go_wp2_with (first | (at_builtin; refine wpList_append_own _ rfl _ _ 24 rfl W2.heap.size 9 i0 (.string ⟨#[]⟩) 1 16 Tryz.underlying24 hi hz0 hz1 hz2 rfl (by decide) _ _ _ rfl (hown1.alloc _) ⟨w1.heap.size, 0, none⟩ 1 1 [.string z] rfl rfl (cell_one_new _ _ _) ?c2 ?c3 ?c4 ?c5 ?_) | go_in)
      case c2 => intro u hu; simp at hu; subst hu; rfl
      case c3 => unfold maxLen; omega
      case c4 => omega
      case c5 => have := hb2.size; simp; omega
      intro v' w2 hown' hgrow _
      have hb3 := below_app hb2 (Nat.le_refl _) hown1 hgrow
      rw [HP.out] at hown'
      clear hgrow hown1 hb2
      go_wp2
      go_roundw
      case rel =>
        have R : ∃ k' : Nat, k' ≤ xs.length ∧ Value.int .i64 ((k : Int) + 1) = .int .i64 k' ∧ w2.ownsRow W2.heap.size 9 1 v' k' (strV (xs.take k')) ∧ Below W2.heap.size W2 w2 :=
          ⟨k + 1, by omega, by go_num, hown', hb3⟩
        first | exact R | ((repeat apply Exists.intro); exact ⟨R, rfl⟩)
      case measure => simp [intOf]; omega
    · obtain rfl : k = xs.length := by omega
      rw [List.take_length] at hown
      obtain ⟨a', cap', rfl, hcap, hrow⟩ := own_row hown
      have hb1 := hb0.trans (hbel.mono hb0.size)
      have e1 := (hbel.cell (L0 1)).trans c1
      have H2 := cloneI_is b9 cb ks wr (hq.later hb1) hl2
      go_wp2_with fail
      refine H2.mono ?_
      rintro e w3 ⟨v3, rfl, ho3, hb3⟩
      obtain ⟨b', cap2, rfl, hcap2, hrow2⟩ := own_row ho3
      have hb4 := hbel.trans (hb3.mono hbel.size)
      have ho4 := own_later hown hb3
      have d2 := (hb4.cell (L1 0)).trans c2
      have d3 := (hb4.cell (L1 1)).trans c3
      have g2' := (hb4.frozen (L1 0)).trans f2
      have g3' := (hb4.frozen (L1 1)).trans f3
      have hz3 := hbel.size
      have hb5 := hb0.trans (hb4.mono hb0.size)
      obtain ⟨W4, hW4⟩ : ∃ W4, (w3.setCell ⟨w.heap.size + 1, 0, none⟩ (.slice a' xs.length cap')).setCell ⟨w.heap.size + 1, 1, none⟩ (.slice b' ks.length cap2) = W4 := ⟨_, rfl⟩
      have y0 : W4.cell? ⟨w.heap.size + 1, 0, none⟩ = some (.slice a' xs.length cap') := by
        rw [← hW4, World.cell?_setCell_other _ _ _ _ (by simp)]
        exact World.cell?_setCell_same' _ _ _ (by rw [d2]; rfl)
      have y1 : W4.cell? ⟨w.heap.size + 1, 1, none⟩ = some (.slice b' ks.length cap2) := by
        rw [← hW4]
        exact World.cell?_setCell_same' _ _ _ (by rw [World.cell?_setCell_other _ _ _ _ (by simp), d3]; rfl)
      have HF : KeepK w.heap.size W4 (.agg #[.slice a' xs.length cap', .slice b' ks.length cap2]) xs ks ∧ Below w.heap.size w W4 := by
        rw [← hW4]
        refine ⟨⟨a', b', cap', cap2, rfl, ?_, ?_⟩, (hb5.setCell (by show w.heap.size ≤ w.heap.size + 1; omega) _).setCell (by show w.heap.size ≤ w.heap.size + 1; omega) _⟩
        · exact own_base (ownsRow_setCell_below (ownsRow_setCell_below ho4 (L1 0) _) (L1 1) _) hb0.size
        · exact own_base (ownsRow_setCell_below (ownsRow_setCell_below ho3 (Nat.lt_of_lt_of_le (L1 0) hz3) _) (Nat.lt_of_lt_of_le (L1 1) hz3) _) (Nat.le_trans hb0.size hz3)
      clear H2 hown hrow hrow2 ho3 ho4 hb3 hb4 hb5 hb1 hbel
      go_wp2
      try rw [hW4]
      refine bodyPost_ret (res_two rfl _ W4 (w.heap.size + 1) _ _ rfl y0 y1) rfl ⟨_, rfl, HF.1, HF.2⟩
end Go.Proofs.YtkekfogepdhjhaaGreat
