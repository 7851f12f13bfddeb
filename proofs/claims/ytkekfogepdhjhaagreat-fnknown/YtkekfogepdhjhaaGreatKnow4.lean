/- What is known as it comes in: counted, copied, compared. -/
import Derived.Test.YtkekfogepdhjhaaGreatSeek
import Derived.Test.YtkekfogepdhjhaaGreatLists
import Derived.Lib.SliceRun
import Derived.BigQuiet
set_option linter.unusedVariables false
namespace Go.Proofs.YtkekfogepdhjhaaGreat
open Go.RowKit Own Var Term

/-- A value of two rows that the call itself has made. -/
def OwnK (base : Nat) (w : World) (v : Value) (xs : List ByteArray) (ks : List Int) : Prop :=
  ∃ g1 g2 : Nat, v = .agg #[.slice (some ⟨g1, 0, none⟩) xs.length xs.length, .slice (some ⟨g2, 0, none⟩) ks.length ks.length] ∧
    w.ownsRow base 9 1 (.slice (some ⟨g1, 0, none⟩) xs.length xs.length) xs.length (xs.map Value.string) ∧
    w.ownsRow base 3 1 (.slice (some ⟨g2, 0, none⟩) ks.length ks.length) ks.length (ks.map (Value.int .i64))
theorem own_base {w : World} {base base' : Nat} {e : TypeId} {sz n : Nat} {v : Value} {xs : List Value} (h : w.ownsRow base e sz v n xs) (hb : base' ≤ base) : w.ownsRow base' e sz v n xs := by
  refine ⟨h.1, ?_⟩
  rcases h.2 with h0 | ⟨g, cap, cur, e1, e2, e3⟩
  · exact Or.inl h0
  · exact Or.inr ⟨g, cap, cur, e1, Nat.le_trans hb e2, e3⟩
end Go.Proofs.YtkekfogepdhjhaaGreat

set_option linter.unusedVariables false
namespace Go.Proofs.YtkekfogepdhjhaaGreat
open Go.RowKit Own Var Term

theorem one_str (xs : List ByteArray) : ∀ u ∈ strV xs, u.oneCell' = true := by
  intro u hu; unfold strV at hu; obtain ⟨x, _, rfl⟩ := List.mem_map.1 hu; rfl
theorem one_int (ks : List Int) : ∀ u ∈ intV ks, u.oneCell' = true := by
  intro u hu; unfold intV at hu; obtain ⟨x, _, rfl⟩ := List.mem_map.1 hu; rfl
theorem news_of {α : Type} {f : α → Value} {w : World} {g off : Nat} {xs : List α} (hr : RowAt f w (some ⟨g, off, none⟩) xs) : ∀ j u, (xs.map f)[j]? = some u → w.cell? ((⟨g, off, none⟩ : Addr).add j) = some u := by
  intro j u hu
  rw [List.getElem?_map] at hu
  have hj : j < xs.length := by
    rw [Nat.lt_iff_add_one_le]
    by_cases h : j + 1 ≤ xs.length
    · exact h
    · rw [List.getElem?_eq_none (by omega)] at hu; simp at hu
  rw [List.getElem?_eq_getElem hj] at hu
  simp only [Option.map_some, Option.some.injEq] at hu
  obtain ⟨b, o, e, _, hc⟩ := hr j hj
  simp only [Option.some.injEq, Addr.mk.injEq] at e
  obtain ⟨rfl, rfl, _⟩ := e
  have e2 : (⟨g, off, none⟩ : Addr).add j = ⟨g, off + j, none⟩ := by simp only [Addr.add]; split <;> simp_all
  rw [e2, hc, hu]

set_option maxRecDepth 100000 in
set_option maxHeartbeats 800000 in
theorem cloneI_some (p : Addr) (cap : Nat) (ks : List Int) (w : World) (hr : RowAt (Value.int .i64) w (some p) ks) (hl : ks.length ≤ 1048576) :
    Calls Tryz.prog 71 #[.slice (some p) ks.length cap] w fun e w' => ∃ v, e = .returned v ∧ w'.ownsRow w.heap.size 3 1 v ks.length (intV ks) ∧ Below w.heap.size w w' := by
  obtain ⟨i0, hi, hz0, hz1, hz2⟩ := info_parts infoInt
  have hb0 : Below w.heap.size w (w.alloc (.cells #[] 3)) := (Below.refl _ _).alloc (Nat.le_refl _) _
  have hlit : (w.alloc (.cells #[] 3)).ownsRow w.heap.size 3 1 (.slice (some ⟨w.heap.size, 0, none⟩) 0 0) 0 [] := World.ownsRow_lit _ _ _ (Nat.le_refl _) (by unfold maxLen; omega) rfl
  have hn : ∀ j u, (intV ks)[j]? = some u → (w.alloc (.cells #[] 3)).cell? (p.add j) = some u := by
    cases ks with
    | nil => intro j u h; simp [intV] at h
    | cons k r =>
      obtain ⟨g, off, e, _⟩ := hr 0 (by simp)
      cases e
      exact news_of (hr.later hb0)
  have q25 : ∀ (w : World) (a : Option Addr) (n c n' c' : Nat), (binOp .eql 25 (.slice a n c) (.slice none n' c')).run Tryz.prog w = .ok (.bool a.isNone) w := fun w a n c n' c' => Lib.run_eql_slice_nil w _ _ a n c n' c' Tryz.underlying25
  go_enter Tryz.func71, Tryz.ntmps71
  go_wp2_with (first | (at_builtin; refine wpList_append_own _ rfl _ _ 25 rfl w.heap.size 3 i0 (.int .i64 0) 1 8 Tryz.underlying25 hi hz0 hz1 hz2 rfl (by decide) _ _ _ rfl hlit p ks.length cap (intV ks) rfl ?c1 hn (one_int ks) ?c3 ?c4 ?c5 ?_) | go_in)
  case c1 => simp [intV]
  case c3 => unfold maxLen; omega
  case c4 => omega
  case c5 => simp
  intro v' w4 hown' hgrow _
  have hb4 := hb0.grown hgrow (by simp) (by intro k hk; simp [Value.ownBlock] at hk; omega)
  go_wp2
  go_ret
  exact ⟨_, rfl, hown', hb4⟩

set_option maxRecDepth 100000 in
set_option maxHeartbeats 800000 in
theorem cloneI_is (a : Option Addr) (cap : Nat) (ks : List Int) (w : World) (hr : RowAt (Value.int .i64) w a ks) (hl : ks.length ≤ 1048576) :
    Calls Tryz.prog 71 #[.slice a ks.length cap] w fun e w' => ∃ v, e = .returned v ∧ w'.ownsRow w.heap.size 3 1 v ks.length (intV ks) ∧ Below w.heap.size w w' := by
  cases a with
  | some p => exact cloneI_some p cap ks w hr hl
  | none =>
    cases ks with
    | cons k r => obtain ⟨g, off, e, _⟩ := hr 0 (by simp); cases e
    | nil =>
      have q25 : ∀ (w : World) (a : Option Addr) (n c n' c' : Nat), (binOp .eql 25 (.slice a n c) (.slice none n' c')).run Tryz.prog w = .ok (.bool a.isNone) w := fun w a n c n' c' => Lib.run_eql_slice_nil w _ _ a n c n' c' Tryz.underlying25
      go_enter Tryz.func71, Tryz.ntmps71
      go_wp2
      go_ret
      exact ⟨_, rfl, World.ownsRow_nil _ _ _ _, Below.refl _ _⟩

/-- A value of two rows, each nil or the call's own. -/
def KeepK (base : Nat) (w : World) (v : Value) (xs : List ByteArray) (ks : List Int) : Prop :=
  ∃ (a b : Option Addr) (ca cb : Nat), v = .agg #[.slice a xs.length ca, .slice b ks.length cb] ∧ w.ownsRow base 9 1 (.slice a xs.length ca) xs.length (strV xs) ∧ w.ownsRow base 3 1 (.slice b ks.length cb) ks.length (intV ks)
theorem strV_take {xs : List ByteArray} {k : Nat} (h : k < xs.length) : strV (xs.take k) ++ [.string xs[k]] = strV (xs.take (k + 1)) := by
  unfold strV; rw [List.take_succ_eq_append_getElem h, List.map_append]; rfl
/-- The result of a call, in the two cells of its own block. -/
theorem res_two {fn : Func} {p : Tmp} (hres : fn.results = #[.cell p 27]) (tmps : Array Value) (w : World) (g : Nat) (v0 v1 : Value) (hp : tmps.getD p undef = .pointer (some ⟨g, 0, none⟩)) (h0 : w.cell? ⟨g, 0, none⟩ = some v0) (h1 : w.cell? ⟨g, 1, none⟩ = some v1) :
    (results fn tmps).run Tryz.prog w = .ok (.agg #[v0, v1]) w := by
  have hp' : tmps[p]?.getD undef = .pointer (some ⟨g, 0, none⟩) := by simpa using hp
  simp [results, hres, hp', asAddr, go_sem, h0, h1, loadVar, Tryz.isAgg27, Tryz.sizeOf27]

set_option maxRecDepth 100000 in
set_option maxHeartbeats 1600000 in
theorem copyKnown_is (a9 b9 : Option Addr) (ca cb : Nat) (xs : List ByteArray) (ks : List Int) (w : World) (hr : RowAt Value.string w a9 xs) (hq : RowAt (Value.int .i64) w b9 ks) (hl : xs.length ≤ 1048576) (hl2 : ks.length ≤ 1048576) (hs : ∀ x ∈ xs, x.size ≤ 1048576) :
    Calls Tryz.prog 36 #[.agg #[.slice a9 xs.length ca, .slice b9 ks.length cb]] w fun e w' => ∃ v, e = .returned v ∧ KeepK w.heap.size w' v xs ks ∧ Below w.heap.size w w' := by
  obtain ⟨i0, hi, hz0, hz1, hz2⟩ := info_parts infoStr
  obtain ⟨W2, hW2⟩ : ∃ W2, (w.alloc (.cells #[.slice a9 xs.length ca, .slice b9 ks.length cb] 27)).alloc (.cells #[.slice none 0 0, .slice none 0 0] 27) = W2 := ⟨_, rfl⟩
  have hb0 : Below w.heap.size w W2 := by rw [← hW2]; exact ((Below.refl _ _).alloc (Nat.le_refl _) _).alloc (by simp) _
  have hz : Hid (W2.heap.size = w.heap.size + 2) := by show W2.heap.size = w.heap.size + 2; rw [← hW2]; simp
  have c0 : W2.cell? ⟨w.heap.size, 0, none⟩ = some (.slice a9 xs.length ca) := by rw [← hW2]; simp [go_sem]
  have c1 : W2.cell? ⟨w.heap.size, 1, none⟩ = some (.slice b9 ks.length cb) := by rw [← hW2]; simp [go_sem]
  have c2 : W2.cell? ⟨w.heap.size + 1, 0, none⟩ = some (.slice none 0 0) := by rw [← hW2]; simp [go_sem]
  have c3 : W2.cell? ⟨w.heap.size + 1, 1, none⟩ = some (.slice none 0 0) := by rw [← hW2]; simp [go_sem]
  have f2 : W2.frozen? ⟨w.heap.size + 1, 0, none⟩ = false := by rw [← hW2]; simp [go_sem]
  have f3 : W2.frozen? ⟨w.heap.size + 1, 1, none⟩ = false := by rw [← hW2]; simp [go_sem]
  have L0 : ∀ o, (⟨w.heap.size, o, none⟩ : Addr).block < W2.heap.size := fun o => by have := hz.out; show w.heap.size < _; omega
  have L1 : ∀ o, (⟨w.heap.size + 1, o, none⟩ : Addr).block < W2.heap.size := fun o => by have := hz.out; show w.heap.size + 1 < _; omega
  have hr2 := hr.later hb0
  go_enter Tryz.func36, Tryz.ntmps36
  go_wp2_with (first | (at_make; refine wpList_make_own _ rfl _ _ 24 rfl W2.heap.size 9 i0 (.string ⟨#[]⟩) 1 Tryz.underlying24 hi hz0 hz1 .i64 .i64 xs.length xs.length rfl rfl rfl (by rw [hz2]; omega) (by unfold maxLen; omega) (by first | exact Nat.le_refl _ | (rw [hW2]; exact Nat.le_refl _)) ?_) | go_in)
  intro w0 hown0 hgrow0
  try rw [hW2] at hgrow0
  clear hW2
  have hbel0 := (Below.refl W2.heap.size W2).grown hgrow0 (Nat.le_refl _) (by simp)
  clear hgrow0
  have e0 := (hbel0.cell (L0 0)).trans c0
  go_wp2
  go_loopw [3, 13] (fun v i wr => ∃ k : Nat, k ≤ xs.length ∧ i = .int .i64 k ∧ wr.ownsRow W2.heap.size 9 1 v k (strV (xs.take k)) ∧ Below W2.heap.size W2 wr) (fun _ i _ => xs.length - (intOf i).toNat)
  case atStart => exact ⟨0, by omega, rfl, hown0, hbel0⟩
  case round =>
    clear hown0 hbel0 e0
    obtain ⟨k, hk, rfl, hown, hbel⟩ := hrel
    by_cases hlt : k < xs.length
    · obtain ⟨b, off, e9, hbl, hcell⟩ := hr2 k hlt
      subst e9
      rw [← hbel.cell (p := ⟨b, off + k, none⟩) hbl] at hcell
      have HP : Hid (strV (xs.take k) ++ [.string xs[k]] = strV (xs.take (k + 1))) := strV_take hlt
      have hx := hs _ (List.getElem_mem hlt)
      generalize xs[k] = z at hcell HP hx
      go_wp2_with fail
      refine (clone_is z _ hx).mono ?_
      rintro e w1 ⟨rfl, hb1⟩
      have hb2 := hbel.trans (hb1.mono hbel.size)
      have hown1 := own_later hown hb1
      clear hown hbel hb1 hcell
      go_wp2_with (first | (at_builtin; refine wpList_append_own _ rfl _ _ 24 rfl W2.heap.size 9 i0 (.string ⟨#[]⟩) 1 16 Tryz.underlying24 hi hz0 hz1 hz2 rfl (by decide) _ _ _ rfl (hown1.alloc _) ⟨w1.heap.size, 0, none⟩ 1 1 [.string z] rfl rfl (cell_one_new _ _ _) ?c2 ?c3 ?c4 ?c5 ?_) | go_in)
      case c2 => intro u hu; simp at hu; subst hu; rfl
      case c3 => unfold maxLen; omega
      case c4 => omega
      case c5 => have := hb2.size; simp; omega
      intro v' w2 hown' hgrow _
      have hb3 := below_app hb2 (Nat.le_refl _) hown1 hgrow
      rw [HP.out] at hown'
      clear hgrow hown1 hb2
      go_wp2
      go_roundw
      case rel =>
        have R : ∃ k' : Nat, k' ≤ xs.length ∧ Value.int .i64 ((k : Int) + 1) = .int .i64 k' ∧ w2.ownsRow W2.heap.size 9 1 v' k' (strV (xs.take k')) ∧ Below W2.heap.size W2 w2 :=
          ⟨k + 1, by omega, by go_num, hown', hb3⟩
        first | exact R | ((repeat apply Exists.intro); exact ⟨R, rfl⟩)
      case measure => simp [intOf]; omega
    · obtain rfl : k = xs.length := by omega
      rw [List.take_length] at hown
      obtain ⟨a', cap', rfl, hcap, hrow⟩ := own_row hown
      have hb1 := hb0.trans (hbel.mono hb0.size)
      have e1 := (hbel.cell (L0 1)).trans c1
      have H2 := cloneI_is b9 cb ks wr (hq.later hb1) hl2
      go_wp2_with fail
      refine H2.mono ?_
      rintro e w3 ⟨v3, rfl, ho3, hb3⟩
      obtain ⟨b', cap2, rfl, hcap2, hrow2⟩ := own_row ho3
      have hb4 := hbel.trans (hb3.mono hbel.size)
      have ho4 := own_later hown hb3
      have d2 := (hb4.cell (L1 0)).trans c2
      have d3 := (hb4.cell (L1 1)).trans c3
      have g2' := (hb4.frozen (L1 0)).trans f2
      have g3' := (hb4.frozen (L1 1)).trans f3
      have hz3 := hbel.size
      have hb5 := hb0.trans (hb4.mono hb0.size)
      obtain ⟨W4, hW4⟩ : ∃ W4, (w3.setCell ⟨w.heap.size + 1, 0, none⟩ (.slice a' xs.length cap')).setCell ⟨w.heap.size + 1, 1, none⟩ (.slice b' ks.length cap2) = W4 := ⟨_, rfl⟩
      have y0 : W4.cell? ⟨w.heap.size + 1, 0, none⟩ = some (.slice a' xs.length cap') := by
        rw [← hW4, World.cell?_setCell_other _ _ _ _ (by simp)]
        exact World.cell?_setCell_same' _ _ _ (by rw [d2]; rfl)
      have y1 : W4.cell? ⟨w.heap.size + 1, 1, none⟩ = some (.slice b' ks.length cap2) := by
        rw [← hW4]
        exact World.cell?_setCell_same' _ _ _ (by rw [World.cell?_setCell_other _ _ _ _ (by simp), d3]; rfl)
      have HF : KeepK w.heap.size W4 (.agg #[.slice a' xs.length cap', .slice b' ks.length cap2]) xs ks ∧ Below w.heap.size w W4 := by
        rw [← hW4]
        refine ⟨⟨a', b', cap', cap2, rfl, ?_, ?_⟩, (hb5.setCell (by show w.heap.size ≤ w.heap.size + 1; omega) _).setCell (by show w.heap.size ≤ w.heap.size + 1; omega) _⟩
        · exact own_base (ownsRow_setCell_below (ownsRow_setCell_below ho4 (L1 0) _) (L1 1) _) hb0.size
        · exact own_base (ownsRow_setCell_below (ownsRow_setCell_below ho3 (Nat.lt_of_lt_of_le (L1 0) hz3) _) (Nat.lt_of_lt_of_le (L1 1) hz3) _) (Nat.le_trans hb0.size hz3)
      clear H2 hown hrow hrow2 ho3 ho4 hb3 hb4 hb5 hb1 hbel
      go_wp2
      try rw [hW4]
      refine bodyPost_ret (res_two rfl _ W4 (w.heap.size + 1) _ _ rfl y0 y1) rfl ⟨_, rfl, HF.1, HF.2⟩
end Go.Proofs.YtkekfogepdhjhaaGreat

set_option linter.unusedVariables false
namespace Go.Proofs.YtkekfogepdhjhaaGreat
open Go.RowKit Own Var Term

theorem below_drewN {B : Nat} {a w : World} (h : Below B a w) (n : Nat) : Below B a (w.drewN n) := ⟨h.os, h.tape, h.output, h.size, h.block⟩
theorem unwanted {ops : Array Oper} {tmps : Array Value} {o : Oper} {j d : Nat} {b c : Bool} (hg : o.guard = some (j, b)) (hd : (ops[j]?).bind (·.dst) = some d) (ht : tmps[d]? = some (.bool c)) (hc : (c == b) = false) : Region.wanted o (yielded ops tmps) = false := by
  have hy : yielded ops tmps j = some c := by unfold yielded; rw [hd]; simp only [Option.bind_some, ht]
  unfold Region.wanted
  rw [hg]
  simp only [hy]
  simpa using hc
theorem unwanted_undef {ops : Array Oper} {tmps : Array Value} {o : Oper} {j d : Nat} {b : Bool} (hg : o.guard = some (j, b)) (hd : (ops[j]?).bind (·.dst) = some d) (ht : tmps[d]? = some undef) : Region.wanted o (yielded ops tmps) = false := by
  have hy : yielded ops tmps j = none := by unfold yielded; rw [hd]; simp only [Option.bind_some, ht]; rfl
  unfold Region.wanted
  rw [hg]
  simp only [hy]
  rfl
/-- An operation of a drawn region that yields its value wherever S holds is taken first. -/
theorem take_one {P : Program} {ops : Array Oper} {Q : Exit → Act → World → Prop} {md : Region.Mode} {S : World → Prop} (i d : Nat) {oi : Oper} {v : Value} {fuel : Nat} {listed : Array Bool} {a : Act} {w : World} (hi : ops[i]? = some oi) (hd : oi.dst = some d)
    (hs : Region.noSelect ops = true) (hf : Region.free md ops listed i = true) (hr : (Region.ready md ops listed).contains i = true) (hQ : ∀ c a w, Q (.panic c) (a.put (some d) v) w → Q (.panic c) a w)
    (hy : YieldsIf P ops S oi v a) (hS : S w) (h : wpAnyH P md ops Q S fuel (listed.setIfInBounds i true) (a.put (some d) v) w) : wpAnyH P md ops Q S (fuel + 1) listed a w :=
  wpAnyH_take hi hs hf hr (by rw [hd]; exact hQ) hy hS (by rw [hd]; exact h)
/-- An operation of a drawn region that its guard passes over is taken first. -/
theorem skip_one {P : Program} {ops : Array Oper} {Q : Exit → Act → World → Prop} {md : Region.Mode} {S : World → Prop} (i d : Nat) {oi : Oper} {fuel : Nat} {listed : Array Bool} {a : Act} {w : World} (hi : ops[i]? = some oi) (hd : oi.dst = some d)
    (hs : Region.noSelect ops = true) (hf : Region.free md ops listed i = true) (hr : (Region.ready md ops listed).contains i = true) (hQ : ∀ c a w, Q (.panic c) (a.put (some d) undef) w → Q (.panic c) a w)
    (hw : Region.wanted oi (yielded ops a.tmps) = false) (hS : S w) (h : wpAnyH P md ops Q S fuel (listed.setIfInBounds i true) (a.put (some d) undef) w) : wpAnyH P md ops Q S (fuel + 1) listed a w :=
  take_one i d hi hd hs hf hr hQ (Or.inr ⟨hw, rfl⟩) hS h

set_option maxRecDepth 100000 in
set_option maxHeartbeats 6400000 in
theorem spec_knownOk (a b : Option Addr) (ca cb : Nat) (xs : List ByteArray) (ks : List Int) (w : World) (hr : RowAt Value.string w a xs) (hq : RowAt (Value.int .i64) w b ks)
    (hl : xs.length ≤ 1048576) (hl2 : ks.length ≤ 1048576) (hcap : xs.length ≤ ca) (hs : ∀ x ∈ xs, x.size ≤ 1048576) :
    Calls Tryz.prog 6 #[.agg #[.slice a xs.length ca, .slice b ks.length cb]] w fun e w' => e = .returned (.bool (kOk xs ks)) ∧ Below w.heap.size w w' := by
  have hb0 : Below w.heap.size w (w.alloc (.cells #[.slice a xs.length ca, .slice b ks.length cb] 27)) := (Below.refl _ _).alloc (Nat.le_refl _) _
  by_cases h1 : xs.length ≤ 60
  · have h1' : decide ((xs.length : Int) > 60) = false := by simp; omega
    by_cases h2 : ks.length ≤ 40
    · have h2' : decide ((ks.length : Int) > 40) = false := by simp; omega
      obtain ⟨W1, hW1⟩ : ∃ W1, w.alloc (.cells #[.slice a xs.length ca, .slice b ks.length cb] 27) = W1 := ⟨_, rfl⟩
      have hc0 : W1.cell? ⟨w.heap.size, 0, none⟩ = some (.slice a xs.length ca) := by rw [← hW1]; simp [go_sem]
      have hc1 : W1.cell? ⟨w.heap.size, 1, none⟩ = some (.slice b ks.length cb) := by rw [← hW1]; simp [go_sem]
      have hz1 : W1.heap.size = w.heap.size + 1 := by rw [← hW1]; simp
      rw [hW1] at hb0
      have hr1 := hr.later hb0
      have hq1 := hq.later hb0
      go_enter Tryz.func6, Tryz.ntmps6
      go_wp2
      try rw [hW1]
      go_loopw [3] (fun i wr => ∃ k : Nat, k ≤ xs.length ∧ i = .int .i64 k ∧ Hid (∀ j, j < k → goodT xs j = true) ∧ Below W1.heap.size W1 wr) (fun i _ => xs.length - (intOf i).toNat)
      case atStart => exact ⟨0, by omega, rfl, fun j hj => absurd hj (by omega), Below.refl _ _⟩
      case round =>
        obtain ⟨k, hk, rfl, hx, hbel⟩ := hrel
        have d0 : wr.cell? ⟨w.heap.size, 0, none⟩ = some (.slice a xs.length ca) := (hbel.cell (p := ⟨w.heap.size, 0, none⟩) (by show w.heap.size < _; omega)).trans hc0
        have d1 : wr.cell? ⟨w.heap.size, 1, none⟩ = some (.slice b ks.length cb) := (hbel.cell (p := ⟨w.heap.size, 1, none⟩) (by show w.heap.size < _; omega)).trans hc1
        by_cases hlt : k < xs.length
        · obtain ⟨b1, o1, rfl, l1, he⟩ := hr1 k hlt
          rw [← hbel.cell (p := ⟨b1, o1 + k, none⟩) l1] at he
          have hG := goodT_at hlt
          have hz := hs _ (List.getElem_mem hlt)
          have htk : (xs.take k).length = k := by rw [List.length_take]; omega
          have hC := fun w' (hb : Below W1.heap.size W1 w') => l3In_is (some ⟨b1, o1, none⟩) ca (xs.take k) xs[k] w' ((hr1.later hb).take k) (by omega)
          rw [htk] at hC
          generalize xs[k] = y at he hG hz hC
          have hO := fun w' => spec_ok y w' (by omega)
          cases hT : isT y with
          | false =>
            rw [hT] at hG hO
            have hF : kTerms xs = false := kTerms_no hlt (by rw [hG]; rfl)
            have hF2 : kOk xs ks = false := by unfold kOk; rw [hF]; simp
            clear hG hT hC hF
            go_wp2_with fail
            refine wp_region_held_drew (S := (fun W => Below W1.heap.size W1 W ∧ W.cell? ⟨w.heap.size, 0, none⟩ = some (.slice (some ⟨b1, o1, none⟩) xs.length ca) ∧ W.cell? ⟨b1, o1 + k, none⟩ = some (.string y))) (by kernel_rfl) ⟨hbel.drew, by simpa using d0, by simpa using he⟩ (fun hHeld => ?_)
            refine take_one 0 22 (v := ?_) rfl rfl (by kernel_rfl) (by kernel_rfl) (by kernel_rfl) (fun _ _ _ h => h) (Or.inl ⟨by rfl, ?_⟩) hHeld ?_
            rotate_left
            · intro w' hSw; (try dsimp only at hSw); go_simp; try with_reducible rfl
            try simp only [Act.put, List.setIfInBounds_toArray, List.set_cons_zero, List.set_cons_succ]
            refine take_one 1 23 (v := ?_) rfl rfl (by kernel_rfl) (by kernel_rfl) (by kernel_rfl) (fun _ _ _ h => h) (Or.inl ⟨by rfl, ?_⟩) hHeld ?_
            rotate_left
            · intro w' hSw; (try dsimp only at hSw); go_simp; try with_reducible rfl
            try simp only [Act.put, List.setIfInBounds_toArray, List.set_cons_zero, List.set_cons_succ]
            refine take_one 2 24 (v := ?_) rfl rfl (by kernel_rfl) (by kernel_rfl) (by kernel_rfl) (fun _ _ _ h => h) (Or.inl ⟨by rfl, ?_⟩) hHeld ?_
            rotate_left
            · intro w' hSw; (try dsimp only at hSw); go_simp; try with_reducible rfl
            try simp only [Act.put, List.setIfInBounds_toArray, List.set_cons_zero, List.set_cons_succ]
            refine take_one 3 25 (v := ?_) rfl rfl (by kernel_rfl) (by kernel_rfl) (by kernel_rfl) (fun _ _ _ h => h) (Or.inl ⟨by rfl, ?_⟩) hHeld ?_
            rotate_left
            · intro w' hSw; (try dsimp only at hSw); go_simp; try with_reducible rfl
            try simp only [Act.put, List.setIfInBounds_toArray, List.set_cons_zero, List.set_cons_succ]
            refine take_one 4 26 (v := ?_) rfl rfl (by kernel_rfl) (by kernel_rfl) (by kernel_rfl) (fun _ _ _ h => h) (Or.inl ⟨by rfl, ?_⟩) hHeld ?_
            rotate_left
            · intro w' hSw; (try dsimp only at hSw); go_simp; try with_reducible rfl
            try simp only [Act.put, List.setIfInBounds_toArray, List.set_cons_zero, List.set_cons_succ]
            refine wpAnyH_ready (rs := [5]) (by kernel_rfl) (by simp) ?_
            refine AllReadyH.cons (i := 5) rfl (fun K hK => ?_) AllReadyH.nil
            go_simp
            refine (hO _).mono ?_
            rintro e w3 ⟨rfl, hb3⟩
            go_wp2_with fail
            refine hK.out _ _ ⟨hbel.drew.trans (hb3.mono hbel.size), (hb3.cell (p := ⟨w.heap.size, 0, none⟩) (by have := hbel.size; show w.heap.size < wr.heap.size; omega)).trans (by simpa using d0), (hb3.cell (p := ⟨b1, o1 + k, none⟩) (by have := hbel.size; show b1 < wr.heap.size; omega)).trans (by simpa using he)⟩ (fun hHeld2 => ?_)
            clear hK K hHeld
            have hHeld := hHeld2
            clear hHeld2
            try simp only [Act.put, List.setIfInBounds_toArray, List.set_cons_zero, List.set_cons_succ]
            refine take_one 6 28 (v := ?_) rfl rfl (by kernel_rfl) (by kernel_rfl) (by kernel_rfl) (fun _ _ _ h => h) (Or.inl ⟨by rfl, ?_⟩) hHeld ?_
            rotate_left
            · intro w' hSw; (try dsimp only at hSw); go_simp; try with_reducible rfl
            try simp only [Act.put, List.setIfInBounds_toArray, List.set_cons_zero, List.set_cons_succ]
            refine take_one 7 29 (v := ?_) rfl rfl (by kernel_rfl) (by kernel_rfl) (by kernel_rfl) (fun _ _ _ h => h) (Or.inl ⟨by rfl, ?_⟩) hHeld ?_
            rotate_left
            · intro w' hSw; (try dsimp only at hSw); go_simp; try with_reducible rfl
            try simp only [Act.put, List.setIfInBounds_toArray, List.set_cons_zero, List.set_cons_succ]
            refine skip_one 8 30 rfl rfl (by kernel_rfl) (by kernel_rfl) (by kernel_rfl) (fun _ _ _ h => h) (unwanted (c := true) rfl rfl (by simp) rfl) hHeld ?_
            try simp only [Act.put, List.setIfInBounds_toArray, List.set_cons_zero, List.set_cons_succ]
            refine skip_one 9 31 rfl rfl (by kernel_rfl) (by kernel_rfl) (by kernel_rfl) (fun _ _ _ h => h) (unwanted (c := true) rfl rfl (by simp) rfl) hHeld ?_
            try simp only [Act.put, List.setIfInBounds_toArray, List.set_cons_zero, List.set_cons_succ]
            refine skip_one 10 32 rfl rfl (by kernel_rfl) (by kernel_rfl) (by kernel_rfl) (fun _ _ _ h => h) (unwanted (c := true) rfl rfl (by simp) rfl) hHeld ?_
            try simp only [Act.put, List.setIfInBounds_toArray, List.set_cons_zero, List.set_cons_succ]
            refine skip_one 11 33 rfl rfl (by kernel_rfl) (by kernel_rfl) (by kernel_rfl) (fun _ _ _ h => h) (unwanted (c := true) rfl rfl (by simp) rfl) hHeld ?_
            try simp only [Act.put, List.setIfInBounds_toArray, List.set_cons_zero, List.set_cons_succ]
            refine skip_one 12 34 rfl rfl (by kernel_rfl) (by kernel_rfl) (by kernel_rfl) (fun _ _ _ h => h) (unwanted (c := true) rfl rfl (by simp) rfl) hHeld ?_
            try simp only [Act.put, List.setIfInBounds_toArray, List.set_cons_zero, List.set_cons_succ]
            refine skip_one 13 35 rfl rfl (by kernel_rfl) (by kernel_rfl) (by kernel_rfl) (fun _ _ _ h => h) (unwanted (c := true) rfl rfl (by simp) rfl) hHeld ?_
            try simp only [Act.put, List.setIfInBounds_toArray, List.set_cons_zero, List.set_cons_succ]
            refine skip_one 14 36 rfl rfl (by kernel_rfl) (by kernel_rfl) (by kernel_rfl) (fun _ _ _ h => h) (unwanted (c := true) rfl rfl (by simp) rfl) hHeld ?_
            try simp only [Act.put, List.setIfInBounds_toArray, List.set_cons_zero, List.set_cons_succ]
            refine skip_one 15 37 rfl rfl (by kernel_rfl) (by kernel_rfl) (by kernel_rfl) (fun _ _ _ h => h) (unwanted (c := true) rfl rfl (by simp) rfl) hHeld ?_
            try simp only [Act.put, List.setIfInBounds_toArray, List.set_cons_zero, List.set_cons_succ]
            refine skip_one 16 38 rfl rfl (by kernel_rfl) (by kernel_rfl) (by kernel_rfl) (fun _ _ _ h => h) (unwanted (c := true) rfl rfl (by simp) rfl) hHeld ?_
            try simp only [Act.put, List.setIfInBounds_toArray, List.set_cons_zero, List.set_cons_succ]
            refine skip_one 17 39 rfl rfl (by kernel_rfl) (by kernel_rfl) (by kernel_rfl) (fun _ _ _ h => h) (unwanted (c := true) rfl rfl (by simp) rfl) hHeld ?_
            try simp only [Act.put, List.setIfInBounds_toArray, List.set_cons_zero, List.set_cons_succ]
            refine take_one 18 40 (v := ?_) rfl rfl (by kernel_rfl) (by kernel_rfl) (by kernel_rfl) (fun _ _ _ h => h) (Or.inl ⟨by rfl, ?_⟩) hHeld ?_
            rotate_left
            · intro w' hSw; (try dsimp only at hSw); go_simp; try with_reducible rfl
            try simp only [Act.put, List.setIfInBounds_toArray, List.set_cons_zero, List.set_cons_succ]
            refine wpAnyH_done (by kernel_rfl) ?_ _
            have hb4 : Below W1.heap.size W1 w3 := hHeld.1
            clear hHeld hO hb3 hbel d0 d1 he
            go_wp2
            go_ret
            exact ⟨by rw [hF2]; rfl, hb0.trans (hb4.mono hb0.size)⟩
          | true =>
            rw [hT] at hG hO
            clear hT
            have i0 : (0 : Int) ≤ (k : Int) := by omega
            have i1 : (k : Int) < (xs.length : Int) := by omega
            have i2 : (k : Int) ≤ (ca : Int) := by omega
            cases hI : inB (xs.take k) y with
            | true =>
              rw [hI] at hG
              simp only [hI] at hC
              have hF : kTerms xs = false := kTerms_no hlt (by rw [hG]; rfl)
              have hF2 : kOk xs ks = false := by unfold kOk; rw [hF]; simp
              clear hG hI hF
              go_wp2_with fail
              go_region_held3 (fun W => Below W1.heap.size W1 W ∧ W.cell? ⟨w.heap.size, 0, none⟩ = some (.slice (some ⟨b1, o1, none⟩) xs.length ca) ∧ W.cell? ⟨b1, o1 + k, none⟩ = some (.string y))
                (first | exact ⟨hbel.drew, by simpa using d0, by simpa using he⟩ | exact hS1)
                ((first
                  | (go_at_call 24; refine (hO _).mono ?_; rintro e w3 ⟨rfl, hb3⟩; have hS1 : Below W1.heap.size W1 w3 ∧ w3.cell? ⟨w.heap.size, 0, none⟩ = some (.slice (some ⟨b1, o1, none⟩) xs.length ca) ∧ w3.cell? ⟨b1, o1 + k, none⟩ = some (.string y) := ⟨hbel.drew.trans (hb3.mono hbel.size), (hb3.cell (p := ⟨w.heap.size, 0, none⟩) (by have := hbel.size; show w.heap.size < wr.heap.size; omega)).trans (by simpa using d0), (hb3.cell (p := ⟨b1, o1 + k, none⟩) (by have := hbel.size; show b1 < wr.heap.size; omega)).trans (by simpa using he)⟩)
                  | (go_at_call 25; refine (hC _ hS1.1).mono ?_; rintro e w4 ⟨rfl, rfl⟩)))
              all_goals
                have hb4 := hS1.1
                go_wp2
                go_ret
                exact ⟨by first | rfl | (rw [hF2]; rfl), hb0.trans (hb4.mono hb0.size)⟩
            | false =>
              rw [hI] at hG
              simp only [hI] at hC
              have HN : Hid (∀ j, j < k + 1 → goodT xs j = true) := by
                intro j hj
                by_cases e : j = k
                · subst e; rw [hG]; rfl
                · exact hx.out j (by omega)
              clear hG hI
              go_wp2_with fail
              go_region_held3 (fun W => Below W1.heap.size W1 W ∧ W.cell? ⟨w.heap.size, 0, none⟩ = some (.slice (some ⟨b1, o1, none⟩) xs.length ca) ∧ W.cell? ⟨b1, o1 + k, none⟩ = some (.string y))
                (first | exact ⟨hbel.drew, by simpa using d0, by simpa using he⟩ | exact hS1)
                ((first
                  | (go_at_call 24; refine (hO _).mono ?_; rintro e w3 ⟨rfl, hb3⟩; have hS1 : Below W1.heap.size W1 w3 ∧ w3.cell? ⟨w.heap.size, 0, none⟩ = some (.slice (some ⟨b1, o1, none⟩) xs.length ca) ∧ w3.cell? ⟨b1, o1 + k, none⟩ = some (.string y) := ⟨hbel.drew.trans (hb3.mono hbel.size), (hb3.cell (p := ⟨w.heap.size, 0, none⟩) (by have := hbel.size; show w.heap.size < wr.heap.size; omega)).trans (by simpa using d0), (hb3.cell (p := ⟨b1, o1 + k, none⟩) (by have := hbel.size; show b1 < wr.heap.size; omega)).trans (by simpa using he)⟩)
                  | (go_at_call 25; refine (hC _ hS1.1).mono ?_; rintro e w4 ⟨rfl, rfl⟩)))
              all_goals
                have hb4 := hS1.1
                go_wp2
                go_roundw
                case rel => exact ⟨k + 1, by omega, by go_num, HN, hb4⟩
                case measure => simp [intOf]; omega
        · have hTT : kTerms xs = true := kTerms_yes (fun j hj => hx.out j (by omega))
          have HKO : Hid (kOk xs ks = kKeys ks) := by show kOk xs ks = kKeys ks; unfold kOk; rw [hTT, decide_eq_true h1, decide_eq_true h2]; simp
          clear hx hTT
          go_wp2
          go_loopw [4] (fun i wr => ∃ q : Nat, q ≤ ks.length ∧ i = .int .i64 q ∧ Hid (∀ j, j < q → goodK ks j = true) ∧ Below W1.heap.size W1 wr) (fun i _ => ks.length - (intOf i).toNat)
          case atStart => exact ⟨0, by omega, rfl, fun j hj => absurd hj (by omega), hbel⟩
          case round =>
            clear d0 d1
            obtain ⟨q, hqk, rfl, hy, hbel2⟩ := hrel
            have d1 : wr.cell? ⟨w.heap.size, 1, none⟩ = some (.slice b ks.length cb) := (hbel2.cell (p := ⟨w.heap.size, 1, none⟩) (by show w.heap.size < _; omega)).trans hc1
            by_cases hlt2 : q < ks.length
            · obtain ⟨b2, o2, rfl, l2, hf⟩ := hq1 q hlt2
              rw [← hbel2.cell (p := ⟨b2, o2 + q, none⟩) l2] at hf
              have hG := goodK_at hlt2
              have hO2 := fun w' => in_is ks[q] 1 1000000 w'
              have i0 : (0 : Int) ≤ (q : Int) := by omega
              have i1 : (q : Int) < (ks.length : Int) := by omega
              have hLK : ∀ p, q = p + 1 → ∃ v, lastK ks q = v ∧ wr.cell? ⟨b2, o2 + p, none⟩ = some (.int .i64 v) := by
                rintro p rfl
                obtain ⟨b3, o3, e3, l3, hf3⟩ := hq1 p (by omega)
                simp only [Option.some.injEq, Addr.mk.injEq] at e3
                obtain ⟨rfl, rfl, _⟩ := e3
                rw [← hbel2.cell (p := ⟨b2, o2 + p, none⟩) l3] at hf3
                refine ⟨_, rfl, ?_⟩
                rw [hf3]
                unfold lastK
                rw [if_neg (by omega), Nat.add_sub_cancel, getD_at (by omega)]
              generalize ks[q] = y at hf hG hO2
              cases hT : (decide (1 ≤ y) && decide (y ≤ 1000000)) with
              | false =>
                rw [hT] at hG hO2
                have hF : kKeys ks = false := kKeys_no hlt2 (by rw [hG]; rfl)
                clear hG hT hLK
                go_wp2_with fail
                refine wp_region_held_drew (S := (fun W => Below W1.heap.size W1 W ∧ W.cell? ⟨w.heap.size, 1, none⟩ = some (.slice (some ⟨b2, o2, none⟩) ks.length cb) ∧ W.cell? ⟨b2, o2 + q, none⟩ = some (.int .i64 y))) (by kernel_rfl) ⟨hbel2.drew, by simpa using d1, by simpa using hf⟩ (fun hHeld => ?_)
                refine take_one 0 48 (v := ?_) rfl rfl (by kernel_rfl) (by kernel_rfl) (by kernel_rfl) (fun _ _ _ h => h) (Or.inl ⟨by rfl, ?_⟩) hHeld ?_
                rotate_left
                · intro w' hSw; (try dsimp only at hSw); go_simp; try with_reducible rfl
                simp only [Act.put, List.setIfInBounds_toArray, List.set_cons_zero, List.set_cons_succ]
                refine take_one 1 49 (v := ?_) rfl rfl (by kernel_rfl) (by kernel_rfl) (by kernel_rfl) (fun _ _ _ h => h) (Or.inl ⟨by rfl, ?_⟩) hHeld ?_
                rotate_left
                · intro w' hSw; (try dsimp only at hSw); go_simp; try with_reducible rfl
                simp only [Act.put, List.setIfInBounds_toArray, List.set_cons_zero, List.set_cons_succ]
                refine take_one 2 50 (v := ?_) rfl rfl (by kernel_rfl) (by kernel_rfl) (by kernel_rfl) (fun _ _ _ h => h) (Or.inl ⟨by rfl, ?_⟩) hHeld ?_
                rotate_left
                · intro w' hSw; (try dsimp only at hSw); go_simp; try with_reducible rfl
                simp only [Act.put, List.setIfInBounds_toArray, List.set_cons_zero, List.set_cons_succ]
                refine take_one 3 51 (v := ?_) rfl rfl (by kernel_rfl) (by kernel_rfl) (by kernel_rfl) (fun _ _ _ h => h) (Or.inl ⟨by rfl, ?_⟩) hHeld ?_
                rotate_left
                · intro w' hSw; (try dsimp only at hSw); go_simp; try with_reducible rfl
                simp only [Act.put, List.setIfInBounds_toArray, List.set_cons_zero, List.set_cons_succ]
                refine take_one 4 52 (v := ?_) rfl rfl (by kernel_rfl) (by kernel_rfl) (by kernel_rfl) (fun _ _ _ h => h) (Or.inl ⟨by rfl, ?_⟩) hHeld ?_
                rotate_left
                · intro w' hSw; (try dsimp only at hSw); go_simp; try with_reducible rfl
                simp only [Act.put, List.setIfInBounds_toArray, List.set_cons_zero, List.set_cons_succ]
                refine wpAnyH_ready (rs := [5]) (by kernel_rfl) (by simp) ?_
                refine AllReadyH.cons (i := 5) rfl (fun K hK => ?_) AllReadyH.nil
                go_simp
                refine (hO2 _).mono ?_
                rintro e w3 ⟨rfl, rfl⟩
                go_wp2_with fail
                refine hK.out _ _ hHeld (fun hHeld2 => ?_)
                clear hK K hHeld2
                try simp only [Act.put, List.setIfInBounds_toArray, List.set_cons_zero, List.set_cons_succ]
                refine take_one 6 54 (v := ?_) rfl rfl (by kernel_rfl) (by kernel_rfl) (by kernel_rfl) (fun _ _ _ h => h) (Or.inl ⟨by rfl, ?_⟩) hHeld ?_
                rotate_left
                · intro w' hSw; (try dsimp only at hSw); go_simp; try with_reducible rfl
                simp only [Act.put, List.setIfInBounds_toArray, List.set_cons_zero, List.set_cons_succ]
                refine take_one 7 55 (v := ?_) rfl rfl (by kernel_rfl) (by kernel_rfl) (by kernel_rfl) (fun _ _ _ h => h) (Or.inl ⟨by rfl, ?_⟩) hHeld ?_
                rotate_left
                · intro w' hSw; (try dsimp only at hSw); go_simp; try with_reducible rfl
                simp only [Act.put, List.setIfInBounds_toArray, List.set_cons_zero, List.set_cons_succ]
                refine skip_one 8 56 rfl rfl (by kernel_rfl) (by kernel_rfl) (by kernel_rfl) (fun _ _ _ h => h) (unwanted (c := true) rfl rfl (by simp) rfl) hHeld ?_
                try simp only [Act.put, List.setIfInBounds_toArray, List.set_cons_zero, List.set_cons_succ]
                refine skip_one 9 57 rfl rfl (by kernel_rfl) (by kernel_rfl) (by kernel_rfl) (fun _ _ _ h => h) (unwanted (c := true) rfl rfl (by simp) rfl) hHeld ?_
                try simp only [Act.put, List.setIfInBounds_toArray, List.set_cons_zero, List.set_cons_succ]
                refine skip_one 10 58 rfl rfl (by kernel_rfl) (by kernel_rfl) (by kernel_rfl) (fun _ _ _ h => h) (unwanted (c := true) rfl rfl (by simp) rfl) hHeld ?_
                try simp only [Act.put, List.setIfInBounds_toArray, List.set_cons_zero, List.set_cons_succ]
                refine skip_one 11 59 rfl rfl (by kernel_rfl) (by kernel_rfl) (by kernel_rfl) (fun _ _ _ h => h) (unwanted_undef rfl rfl (by simp)) hHeld ?_
                try simp only [Act.put, List.setIfInBounds_toArray, List.set_cons_zero, List.set_cons_succ]
                refine skip_one 12 60 rfl rfl (by kernel_rfl) (by kernel_rfl) (by kernel_rfl) (fun _ _ _ h => h) (unwanted_undef rfl rfl (by simp)) hHeld ?_
                try simp only [Act.put, List.setIfInBounds_toArray, List.set_cons_zero, List.set_cons_succ]
                refine skip_one 13 61 rfl rfl (by kernel_rfl) (by kernel_rfl) (by kernel_rfl) (fun _ _ _ h => h) (unwanted_undef rfl rfl (by simp)) hHeld ?_
                try simp only [Act.put, List.setIfInBounds_toArray, List.set_cons_zero, List.set_cons_succ]
                refine skip_one 14 62 rfl rfl (by kernel_rfl) (by kernel_rfl) (by kernel_rfl) (fun _ _ _ h => h) (unwanted_undef rfl rfl (by simp)) hHeld ?_
                try simp only [Act.put, List.setIfInBounds_toArray, List.set_cons_zero, List.set_cons_succ]
                refine skip_one 15 63 rfl rfl (by kernel_rfl) (by kernel_rfl) (by kernel_rfl) (fun _ _ _ h => h) (unwanted_undef rfl rfl (by simp)) hHeld ?_
                try simp only [Act.put, List.setIfInBounds_toArray, List.set_cons_zero, List.set_cons_succ]
                refine skip_one 16 64 rfl rfl (by kernel_rfl) (by kernel_rfl) (by kernel_rfl) (fun _ _ _ h => h) (unwanted_undef rfl rfl (by simp)) hHeld ?_
                try simp only [Act.put, List.setIfInBounds_toArray, List.set_cons_zero, List.set_cons_succ]
                refine skip_one 17 65 rfl rfl (by kernel_rfl) (by kernel_rfl) (by kernel_rfl) (fun _ _ _ h => h) (unwanted_undef rfl rfl (by simp)) hHeld ?_
                try simp only [Act.put, List.setIfInBounds_toArray, List.set_cons_zero, List.set_cons_succ]
                refine skip_one 18 66 rfl rfl (by kernel_rfl) (by kernel_rfl) (by kernel_rfl) (fun _ _ _ h => h) (unwanted_undef rfl rfl (by simp)) hHeld ?_
                try simp only [Act.put, List.setIfInBounds_toArray, List.set_cons_zero, List.set_cons_succ]
                refine skip_one 19 67 rfl rfl (by kernel_rfl) (by kernel_rfl) (by kernel_rfl) (fun _ _ _ h => h) (unwanted_undef rfl rfl (by simp)) hHeld ?_
                try simp only [Act.put, List.setIfInBounds_toArray, List.set_cons_zero, List.set_cons_succ]
                refine skip_one 20 68 rfl rfl (by kernel_rfl) (by kernel_rfl) (by kernel_rfl) (fun _ _ _ h => h) (unwanted_undef rfl rfl (by simp)) hHeld ?_
                try simp only [Act.put, List.setIfInBounds_toArray, List.set_cons_zero, List.set_cons_succ]
                refine skip_one 21 69 rfl rfl (by kernel_rfl) (by kernel_rfl) (by kernel_rfl) (fun _ _ _ h => h) (unwanted_undef rfl rfl (by simp)) hHeld ?_
                try simp only [Act.put, List.setIfInBounds_toArray, List.set_cons_zero, List.set_cons_succ]
                refine skip_one 22 70 rfl rfl (by kernel_rfl) (by kernel_rfl) (by kernel_rfl) (fun _ _ _ h => h) (unwanted_undef rfl rfl (by simp)) hHeld ?_
                try simp only [Act.put, List.setIfInBounds_toArray, List.set_cons_zero, List.set_cons_succ]
                refine skip_one 23 71 rfl rfl (by kernel_rfl) (by kernel_rfl) (by kernel_rfl) (fun _ _ _ h => h) (unwanted (c := true) rfl rfl (by simp) rfl) hHeld ?_
                try simp only [Act.put, List.setIfInBounds_toArray, List.set_cons_zero, List.set_cons_succ]
                refine take_one 24 72 (v := ?_) rfl rfl (by kernel_rfl) (by kernel_rfl) (by kernel_rfl) (fun _ _ _ h => h) (Or.inl ⟨by rfl, ?_⟩) hHeld ?_
                rotate_left
                · intro w' hSw; (try dsimp only at hSw); go_simp; try with_reducible rfl
                simp only [Act.put, List.setIfInBounds_toArray, List.set_cons_zero, List.set_cons_succ]
                refine wpAnyH_done (by kernel_rfl) ?_ _
                have hb5 : Below W1.heap.size W1 wr.drew := hHeld.1
                clear hHeld hO2 hf d1 hbel2
                go_wp2
                go_ret
                exact ⟨by rw [HKO.out, hF]; rfl, hb0.trans (hb5.mono hb0.size)⟩
              | true =>
                rw [hT] at hG hO2
                have hT0 := hT
                clear hT
                by_cases hq0 : q = 0
                · subst hq0
                  have HN : Hid (∀ j, j < 0 + 1 → goodK ks j = true) := by
                    intro j hj
                    obtain rfl : j = 0 := by omega
                    rw [hG]
                    have h1y : 1 ≤ y := by simp at hT0; exact hT0.1
                    simp [lastK]
                    omega
                  clear hG hLK
                  go_wp2_with fail
                  refine wp_region_held_drew (S := (fun W => Below W1.heap.size W1 W ∧ W.cell? ⟨w.heap.size, 1, none⟩ = some (.slice (some ⟨b2, o2, none⟩) ks.length cb) ∧ W.cell? ⟨b2, o2, none⟩ = some (.int .i64 y))) (by kernel_rfl) ⟨hbel2.drew, by simpa using d1, by simpa using hf⟩ (fun hHeld => ?_)
                  refine take_one 0 48 (v := ?_) rfl rfl (by kernel_rfl) (by kernel_rfl) (by kernel_rfl) (fun _ _ _ h => h) (Or.inl ⟨by rfl, ?_⟩) hHeld ?_
                  rotate_left
                  · intro w' hSw; (try dsimp only at hSw); go_simp; try with_reducible rfl
                  simp only [Act.put, List.setIfInBounds_toArray, List.set_cons_zero, List.set_cons_succ]
                  refine take_one 1 49 (v := ?_) rfl rfl (by kernel_rfl) (by kernel_rfl) (by kernel_rfl) (fun _ _ _ h => h) (Or.inl ⟨by rfl, ?_⟩) hHeld ?_
                  rotate_left
                  · intro w' hSw; (try dsimp only at hSw); go_simp; try with_reducible rfl
                  simp only [Act.put, List.setIfInBounds_toArray, List.set_cons_zero, List.set_cons_succ]
                  refine take_one 2 50 (v := ?_) rfl rfl (by kernel_rfl) (by kernel_rfl) (by kernel_rfl) (fun _ _ _ h => h) (Or.inl ⟨by rfl, ?_⟩) hHeld ?_
                  rotate_left
                  · intro w' hSw; (try dsimp only at hSw); go_simp; try with_reducible rfl
                  simp only [Act.put, List.setIfInBounds_toArray, List.set_cons_zero, List.set_cons_succ]
                  refine take_one 3 51 (v := ?_) rfl rfl (by kernel_rfl) (by kernel_rfl) (by kernel_rfl) (fun _ _ _ h => h) (Or.inl ⟨by rfl, ?_⟩) hHeld ?_
                  rotate_left
                  · intro w' hSw; (try dsimp only at hSw); go_simp; try with_reducible rfl
                  simp only [Act.put, List.setIfInBounds_toArray, List.set_cons_zero, List.set_cons_succ]
                  refine take_one 4 52 (v := ?_) rfl rfl (by kernel_rfl) (by kernel_rfl) (by kernel_rfl) (fun _ _ _ h => h) (Or.inl ⟨by rfl, ?_⟩) hHeld ?_
                  rotate_left
                  · intro w' hSw; (try dsimp only at hSw); go_simp; try with_reducible rfl
                  simp only [Act.put, List.setIfInBounds_toArray, List.set_cons_zero, List.set_cons_succ]
                  refine wpAnyH_ready (rs := [5]) (by kernel_rfl) (by simp) ?_
                  refine AllReadyH.cons (i := 5) rfl (fun K hK => ?_) AllReadyH.nil
                  go_simp
                  refine (hO2 _).mono ?_
                  rintro e w3 ⟨rfl, rfl⟩
                  go_wp2_with fail
                  refine hK.out _ _ hHeld (fun hHeld2 => ?_)
                  clear hK K hHeld2
                  try simp only [Act.put, List.setIfInBounds_toArray, List.set_cons_zero, List.set_cons_succ]
                  refine take_one 6 54 (v := ?_) rfl rfl (by kernel_rfl) (by kernel_rfl) (by kernel_rfl) (fun _ _ _ h => h) (Or.inl ⟨by rfl, ?_⟩) hHeld ?_
                  rotate_left
                  · intro w' hSw; (try dsimp only at hSw); go_simp; try with_reducible rfl
                  simp only [Act.put, List.setIfInBounds_toArray, List.set_cons_zero, List.set_cons_succ]
                  refine take_one 7 55 (v := ?_) rfl rfl (by kernel_rfl) (by kernel_rfl) (by kernel_rfl) (fun _ _ _ h => h) (Or.inl ⟨by rfl, ?_⟩) hHeld ?_
                  rotate_left
                  · intro w' hSw; (try dsimp only at hSw); go_simp; try with_reducible rfl
                  simp only [Act.put, List.setIfInBounds_toArray, List.set_cons_zero, List.set_cons_succ]
                  refine take_one 8 56 (v := ?_) rfl rfl (by kernel_rfl) (by kernel_rfl) (by kernel_rfl) (fun _ _ _ h => h) (Or.inl ⟨by rfl, ?_⟩) hHeld ?_
                  rotate_left
                  · intro w' hSw; (try dsimp only at hSw); go_simp; try with_reducible rfl
                  simp only [Act.put, List.setIfInBounds_toArray, List.set_cons_zero, List.set_cons_succ]
                  refine take_one 9 57 (v := ?_) rfl rfl (by kernel_rfl) (by kernel_rfl) (by kernel_rfl) (fun _ _ _ h => h) (Or.inl ⟨by rfl, ?_⟩) hHeld ?_
                  rotate_left
                  · intro w' hSw; (try dsimp only at hSw); go_simp; try with_reducible rfl
                  simp only [Act.put, List.setIfInBounds_toArray, List.set_cons_zero, List.set_cons_succ]
                  refine take_one 10 58 (v := ?_) rfl rfl (by kernel_rfl) (by kernel_rfl) (by kernel_rfl) (fun _ _ _ h => h) (Or.inl ⟨by rfl, ?_⟩) hHeld ?_
                  rotate_left
                  · intro w' hSw; (try dsimp only at hSw); go_simp; try with_reducible rfl
                  simp only [Act.put, List.setIfInBounds_toArray, List.set_cons_zero, List.set_cons_succ]
                  refine skip_one 11 59 rfl rfl (by kernel_rfl) (by kernel_rfl) (by kernel_rfl) (fun _ _ _ h => h) (unwanted (c := false) rfl rfl (by simp) rfl) hHeld ?_
                  try simp only [Act.put, List.setIfInBounds_toArray, List.set_cons_zero, List.set_cons_succ]
                  refine skip_one 12 60 rfl rfl (by kernel_rfl) (by kernel_rfl) (by kernel_rfl) (fun _ _ _ h => h) (unwanted (c := false) rfl rfl (by simp) rfl) hHeld ?_
                  try simp only [Act.put, List.setIfInBounds_toArray, List.set_cons_zero, List.set_cons_succ]
                  refine skip_one 13 61 rfl rfl (by kernel_rfl) (by kernel_rfl) (by kernel_rfl) (fun _ _ _ h => h) (unwanted (c := false) rfl rfl (by simp) rfl) hHeld ?_
                  try simp only [Act.put, List.setIfInBounds_toArray, List.set_cons_zero, List.set_cons_succ]
                  refine skip_one 14 62 rfl rfl (by kernel_rfl) (by kernel_rfl) (by kernel_rfl) (fun _ _ _ h => h) (unwanted (c := false) rfl rfl (by simp) rfl) hHeld ?_
                  try simp only [Act.put, List.setIfInBounds_toArray, List.set_cons_zero, List.set_cons_succ]
                  refine skip_one 15 63 rfl rfl (by kernel_rfl) (by kernel_rfl) (by kernel_rfl) (fun _ _ _ h => h) (unwanted (c := false) rfl rfl (by simp) rfl) hHeld ?_
                  try simp only [Act.put, List.setIfInBounds_toArray, List.set_cons_zero, List.set_cons_succ]
                  refine skip_one 16 64 rfl rfl (by kernel_rfl) (by kernel_rfl) (by kernel_rfl) (fun _ _ _ h => h) (unwanted (c := false) rfl rfl (by simp) rfl) hHeld ?_
                  try simp only [Act.put, List.setIfInBounds_toArray, List.set_cons_zero, List.set_cons_succ]
                  refine skip_one 17 65 rfl rfl (by kernel_rfl) (by kernel_rfl) (by kernel_rfl) (fun _ _ _ h => h) (unwanted (c := false) rfl rfl (by simp) rfl) hHeld ?_
                  try simp only [Act.put, List.setIfInBounds_toArray, List.set_cons_zero, List.set_cons_succ]
                  refine skip_one 18 66 rfl rfl (by kernel_rfl) (by kernel_rfl) (by kernel_rfl) (fun _ _ _ h => h) (unwanted (c := false) rfl rfl (by simp) rfl) hHeld ?_
                  try simp only [Act.put, List.setIfInBounds_toArray, List.set_cons_zero, List.set_cons_succ]
                  refine skip_one 19 67 rfl rfl (by kernel_rfl) (by kernel_rfl) (by kernel_rfl) (fun _ _ _ h => h) (unwanted (c := false) rfl rfl (by simp) rfl) hHeld ?_
                  try simp only [Act.put, List.setIfInBounds_toArray, List.set_cons_zero, List.set_cons_succ]
                  refine skip_one 20 68 rfl rfl (by kernel_rfl) (by kernel_rfl) (by kernel_rfl) (fun _ _ _ h => h) (unwanted (c := false) rfl rfl (by simp) rfl) hHeld ?_
                  try simp only [Act.put, List.setIfInBounds_toArray, List.set_cons_zero, List.set_cons_succ]
                  refine skip_one 21 69 rfl rfl (by kernel_rfl) (by kernel_rfl) (by kernel_rfl) (fun _ _ _ h => h) (unwanted (c := false) rfl rfl (by simp) rfl) hHeld ?_
                  try simp only [Act.put, List.setIfInBounds_toArray, List.set_cons_zero, List.set_cons_succ]
                  refine skip_one 22 70 rfl rfl (by kernel_rfl) (by kernel_rfl) (by kernel_rfl) (fun _ _ _ h => h) (unwanted (c := false) rfl rfl (by simp) rfl) hHeld ?_
                  try simp only [Act.put, List.setIfInBounds_toArray, List.set_cons_zero, List.set_cons_succ]
                  refine take_one 23 71 (v := ?_) rfl rfl (by kernel_rfl) (by kernel_rfl) (by kernel_rfl) (fun _ _ _ h => h) (Or.inl ⟨by rfl, ?_⟩) hHeld ?_
                  rotate_left
                  · intro w' hSw; (try dsimp only at hSw); go_simp; try with_reducible rfl
                  simp only [Act.put, List.setIfInBounds_toArray, List.set_cons_zero, List.set_cons_succ]
                  refine take_one 24 72 (v := ?_) rfl rfl (by kernel_rfl) (by kernel_rfl) (by kernel_rfl) (fun _ _ _ h => h) (Or.inl ⟨by rfl, ?_⟩) hHeld ?_
                  rotate_left
                  · intro w' hSw; (try dsimp only at hSw); go_simp; try with_reducible rfl
                  simp only [Act.put, List.setIfInBounds_toArray, List.set_cons_zero, List.set_cons_succ]
                  refine wpAnyH_done (by kernel_rfl) ?_ _
                  have hb5 : Below W1.heap.size W1 wr.drew := hHeld.1
                  clear hHeld hO2 hf d1 hbel2
                  go_wp2
                  go_roundw
                  case rel => exact ⟨1, by omega, by go_num, HN, hb5⟩
                  case measure => simp [intOf]; omega
                · obtain ⟨p, rfl⟩ : ∃ p, q = p + 1 := ⟨q - 1, by omega⟩
                  obtain ⟨v, hLv, hfv⟩ := hLK p rfl
                  rw [hLv] at hG
                  have j0 : (0 : Int) ≤ (p : Int) := by omega
                  have j1 : (p : Int) < (ks.length : Int) := by omega
                  have e1 : ((p + 1 : Nat) : Int) = (p : Int) + 1 := by omega
                  rw [e1] at i0 i1
                  have hwr : IntKind.i64.wrap (p : Int) = (p : Int) := by rw [IntKind.wrap_i64]; omega
                  have hg0 : decide ((p : Int) + 1 > 0) = true := decide_eq_true (by omega)
                  clear hT0 hLK
                  by_cases hI : v < y
                  · have hI' : decide (v ≥ y) = false := by simp; omega
                    rw [decide_eq_true hI] at hG
                    have HN : Hid (∀ j, j < p + 1 + 1 → goodK ks j = true) := by
                      intro j hj
                      by_cases e : j = p + 1
                      · subst e; rw [hG]; rfl
                      · exact hy.out j (by omega)
                    clear hG
                    go_wp2_with fail
                    go_region_held3 (fun W => Below W1.heap.size W1 W ∧ W.cell? ⟨w.heap.size, 1, none⟩ = some (.slice (some ⟨b2, o2, none⟩) ks.length cb) ∧ W.cell? ⟨b2, o2 + (p + 1), none⟩ = some (.int .i64 y) ∧ W.cell? ⟨b2, o2 + p, none⟩ = some (.int .i64 v))
                      (first | exact ⟨hbel2.drew, by simpa using d1, by simpa using hf, by simpa using hfv⟩ | assumption)
                      ((go_at_call 26; refine (hO2 _).mono ?_; rintro e w3 ⟨rfl, rfl⟩))
                    all_goals
                      go_wp2
                      go_roundw
                      case rel => exact ⟨p + 1 + 1, by omega, by go_num, HN, hbel2.drew⟩
                      case measure => simp [intOf]; omega
                  · have hI' : decide (v ≥ y) = true := by simp; omega
                    rw [decide_eq_false hI] at hG
                    have hF : kKeys ks = false := kKeys_no hlt2 (by rw [hG]; rfl)
                    clear hG
                    go_wp2_with fail
                    go_region_held3 (fun W => Below W1.heap.size W1 W ∧ W.cell? ⟨w.heap.size, 1, none⟩ = some (.slice (some ⟨b2, o2, none⟩) ks.length cb) ∧ W.cell? ⟨b2, o2 + (p + 1), none⟩ = some (.int .i64 y) ∧ W.cell? ⟨b2, o2 + p, none⟩ = some (.int .i64 v))
                      (first | exact ⟨hbel2.drew, by simpa using d1, by simpa using hf, by simpa using hfv⟩ | assumption)
                      ((go_at_call 26; refine (hO2 _).mono ?_; rintro e w3 ⟨rfl, rfl⟩))
                    all_goals
                      go_wp2
                      go_ret
                      exact ⟨by rw [HKO.out, hF]; rfl, hb0.trans (hbel2.drew.mono hb0.size)⟩
            · have hF : kKeys ks = true := kKeys_yes (fun j hj => hy.out j (by omega))
              go_wp2
              go_ret
              exact ⟨by rw [HKO.out, hF]; rfl, hb0.trans (hbel2.mono hb0.size)⟩
    · have h2' : decide ((ks.length : Int) > 40) = true := by simp; omega
      have hF2 : kOk xs ks = false := by unfold kOk; rw [decide_eq_false h2]; simp
      go_enter Tryz.func6, Tryz.ntmps6
      go_wp2
      go_ret
      exact ⟨by rw [hF2]; rfl, hb0⟩
  · have h1' : decide ((xs.length : Int) > 60) = true := by simp; omega
    have hF2 : kOk xs ks = false := by unfold kOk; rw [decide_eq_false h1]; simp
    go_enter Tryz.func6, Tryz.ntmps6
    go_wp2
    go_ret
    exact ⟨by rw [hF2]; rfl, hb0⟩
end Go.Proofs.YtkekfogepdhjhaaGreat

set_option linter.unusedVariables false
namespace Go.Proofs.YtkekfogepdhjhaaGreat
open Go.RowKit Own Var Term

/-- A step of a drawn region: 'append' onto a row of the call's own. -/
theorem step_own {P : Program} {ops : Array Oper} {o : Oper} {a : Act} {w : World} {K : Act → World → Prop} {Q : Exit → Act → World → Prop} {E : Prop} (d : Nat) (hd : o.dst = some d) (hgd : o.guard = none) (s x : Operand) (t : TypeId)
    (ho : o.op = .call { callee := .builtin .append, args := #[s, x], argTypes := #[t, t] })
    (base : Nat) (e : TypeId) (i : TypeInfo) (z : Value) (size bytes : Nat) (ht : P.underlying t = some (.slice e)) (hi : P.info? e = some i) (hz : i.zero = some z)
    (hsize : i.size = size) (hby : i.bytes = bytes) (hzs : z.cells.size = size) (hsz : 0 < size)
    (v : Value) (n : Nat) (xs : List Value) (hs : a.eval s = v) (hown : w.ownsRow base e size v n xs)
    (ad : Addr) (m c : Nat) (news : List Value) (hx : a.eval x = .slice (some ad) m c) (hl : news.length = m * size) (hnews : ∀ j u, news[j]? = some u → w.cell? (ad.add j) = some u) (h1 : ∀ u ∈ news, u.oneCell' = true)
    (h63 : n + m ≤ maxLen) (hbytes : (n + m) * bytes ≤ 140737488355328) (hbase : base ≤ w.heap.size)
    (h : ∀ v' w', w'.ownsRow base e size v' (n + m) (xs ++ news) → w.grownBy w' v.ownBlock → K (a.put (some d) v') w') :
    if Region.wanted o (yielded ops a.tmps) = true then Oper.wp P o a w K Q else E := by
  have hw : Region.wanted o (yielded ops a.tmps) = true := by simp [Region.wanted, hgd]
  rw [if_pos hw]
  exact wp_append_own w s x t ho base e i z size bytes ht hi hz hsize hby hzs hsz v n xs hs hown ad m c news hx hl hnews h1 h63 hbytes hbase (fun v' w' h2 h3 _ => by rw [hd]; exact h v' w' h2 h3)
theorem own_ne' {w : World} {b b' n n' : Nat} {v v' : Value} {xs xs' : List Value} (h : w.ownsRow b 9 1 v n xs) (h' : w.ownsRow b' 3 1 v' n' xs') : v'.ownBlock = none ∨ v'.ownBlock ≠ v.ownBlock := by
  rcases hh : v'.ownBlock with _ | k
  · exact Or.inl rfl
  · right
    intro e
    rcases own_ne h h' with h2 | h2
    · rw [h2] at e; cases e
    · rw [hh] at h2; exact h2 e.symm
end Go.Proofs.YtkekfogepdhjhaaGreat
