/- What a flag needs of a ticket, by kinds: the map that the program makes, in whatever order its entries are laid. -/
import Derived.Test.YtcilgmofhkpkpaaFg1
import Derived.Test.YtcilgmofhkpkpaaReg
import Derived.Maps.Own
import Derived.Maps.OwnSet
import Derived.Maps.Views
import Derived.WideKeyPair
import Derived.WideKeyEntry
import Derived.DeepKeys4
set_option linter.unusedVariables false
namespace Go.Proofs.Ytcilgmofhkpkpaa
open Go Go.RowKit Go.WideMaps Go.Maps Go.WideElems

abbrev pv (a b : Int) : Value := .agg #[.int .i64 a, .int .i64 b]
abbrev dv (n t s : Int) : Value := .agg #[.int .i64 n, .int .i64 t, .int .i64 s]
theorem lkLaid : laidOutB Try.prog = true := by kernel_rfl
theorem row46 : (46 : TypeId) < Try.prog.types.size := of_decide_eq_true (by kernel_rfl)
theorem cells46 : Try.prog.cellsOf 46 = 2 := by kernel_rfl
theorem arr46 : ArrKey Try.prog 46 3 2 := ⟨Try.underlying46, by kernel_rfl, by kernel_rfl, cells46⟩
theorem wide46 : (match Try.prog.underlying 46 with | some (.array _ _) | some (.struct _) => true | _ => false) = true := by rw [Try.underlying46]
theorem klaw : KeyLaw Try.prog 46 := deep_law_laid lkLaid (m := 2) (by omega) row46 (by kernel_rfl) wide46
theorem keyd : Keyed Try.prog 46 := Keyed.of_law klaw
theorem typesS : ∃ m, Try.prog.types.size = m + 1 := ⟨_, show Try.prog.types.size = 76 + 1 by kernel_rfl⟩
theorem zero42 (w : World) : (zeroValue 42).run Try.prog w = .ok (dv 0 0 0) w := by kernel_rfl
/-- The key of a pair. -/
def kl (a b : Int) : Lit := .string (keyBytes [.int .i64 a, .int .i64 b])
theorem wf_of (a : Int) (h : i64 a) : (Lit.int .i64 a).wf = true := by
  unfold i64 at h
  simp [Lit.wf, IntKind.min, IntKind.max, IntKind.signed, IntKind.bits]
  omega
theorem kl_of {a b : Int} (ha : i64 a) (hb : i64 b) : keyOf Try.prog 46 (pv a b) = some (kl a b) := keyOf_pair arr46 Try.underlying3 typesS (wf_of a ha) (wf_of b hb)
theorem kl_inj {a b c d : Int} (ha : i64 a) (hb : i64 b) (hc : i64 c) (hd : i64 d) (h : kl a b = kl c d) : (a, b) = (c, d) := by
  have h1 := kl_of ha hb
  have h2 := kl_of hc hd
  rw [← h] at h2
  have := klaw.inj h1 h2
  injection this with e
  injection e with e
  simp only [List.cons.injEq, Value.int.injEq, true_and, and_true] at e
  rw [e.1, e.2]
theorem kl_key (a b : Int) : WideAt.IsKeyLit (kl a b) := True.intro
/-- An element reads as itself. -/
def selfR : Value → Option (DataW Value × List MemPlace) := fun v => some (.held v, [])
/-- The entries, in the order of the text. -/
def ent : Nat → (Int × Int) × Value
  | 0 => ((1, 0), dv 0 0 0)
  | 1 => ((2, 0), dv 1 0 64)
  | 2 => ((3, 0), dv 2 0 128)
  | 3 => ((4, 0), dv 4 15 0)
  | 4 => ((5, 0), dv 8 0 16)
  | _ => ((6, 16), dv 0 15 0)
/-- What the entries that s names say of a pair. -/
def tab (s : Nat) (p : Int × Int) : Option Value := ((List.range 6).find? fun i => s.testBit i && ((ent i).1 == p)).map fun i => (ent i).2
theorem ent_inj : ∀ i < 6, ∀ j < 6, (ent i).1 = (ent j).1 → i = j := by decide
theorem bit_or (s i j : Nat) : (s ||| 2 ^ i).testBit j = (s.testBit j || decide (i = j)) := by rw [Nat.testBit_or, Nat.testBit_two_pow]
theorem tab_hit (s i : Nat) (hi : i < 6) : tab (s ||| 2 ^ i) (ent i).1 = some (ent i).2 := by
  have h : ∀ j ∈ List.range 6, ((s ||| 2 ^ i).testBit j && ((ent j).1 == (ent i).1)) = (j == i) := by
    intro j hj
    rw [List.mem_range] at hj
    rw [bit_or, Bool.eq_iff_iff]
    simp only [Bool.and_eq_true, Bool.or_eq_true, decide_eq_true_eq, beq_iff_eq]
    exact ⟨fun ⟨_, e⟩ => ent_inj j hj i hi e, fun e => ⟨Or.inr e.symm, by rw [e]⟩⟩
  unfold tab
  have e : (List.range 6).find? (fun j => (s ||| 2 ^ i).testBit j && ((ent j).1 == (ent i).1)) = (List.range 6).find? (fun j => j == i) := by
    generalize List.range 6 = l at h
    induction l with
    | nil => rfl
    | cons x l ih =>
      rw [List.find?_cons, List.find?_cons, h x (by simp), ih (fun j hj => h j (by simp [hj]))]
  rw [e]
  match i, hi with
  | 0, _ => rfl
  | 1, _ => rfl
  | 2, _ => rfl
  | 3, _ => rfl
  | 4, _ => rfl
  | 5, _ => rfl
theorem tab_miss (s i : Nat) (p : Int × Int) (hp : (ent i).1 ≠ p) : tab (s ||| 2 ^ i) p = tab s p := by
  unfold tab
  congr 2
  funext j
  rw [bit_or]
  by_cases e : i = j
  · subst e
    rw [show ((ent i).1 == p) = false by simpa using hp, Bool.and_false, Bool.and_false]
  · rw [show decide (i = j) = false by simpa using e, Bool.or_false]
theorem ent_i64 (i : Nat) : i64 (ent i).1.1 ∧ i64 (ent i).1.2 := by
  unfold ent i64
  split <;> decide
/-- Block m is a map that holds just the entries that s names. -/
def DM (m s : Nat) (w : World) : Prop := ∃ (n : Nat) (D : DataW Value), n ≤ s ∧ w.ownsMap Try.prog 46 selfR m n D ∧
  ∀ a b, i64 a → i64 b → has D (kl a b) = (tab s (a, b)).isSome ∧ D.atKey (kl a b) (.held (dv 0 0 0)) = .held ((tab s (a, b)).getD (dv 0 0 0))
theorem DM.made (w : World) : DM w.heap.size 0 (w.alloc (.map #[] 0)) := by
  refine ⟨0, _, Nat.le_refl _, World.ownsMap_made w Try.prog 46 selfR, fun a b ha hb => ?_⟩
  have e : tab 0 (a, b) = none := by
    unfold tab
    rw [Option.map_eq_none_iff, List.find?_eq_none]
    intro j hj
    simp
  rw [e]
  exact ⟨rfl, rfl⟩
theorem DM.lt {m s : Nat} {w : World} (h : DM m s w) : m < w.heap.size := by
  obtain ⟨n, D, _, h, _⟩ := h
  exact h.lt
theorem DM.put {m s i : Nat} {w : World} (h : DM m s w) (hs : s < 64) (hi : i < 6) (hn : s.testBit i = false) :
    ∃ w', (Instr.mapUpdate 44 (.map (some m)) (pv (ent i).1.1 (ent i).1.2) (ent i).2).run Try.prog w = .ok () w' ∧ DM m (s ||| 2 ^ i) w' ∧ w.mapTurned w' m := by
  obtain ⟨n, D, hle, ho, hL⟩ := h
  obtain ⟨i1, i2⟩ := ent_i64 i
  obtain ⟨w', h1, h2, h3⟩ := ho.store keyd Try.underlying44 (by unfold maxLen; omega) (kl_of i1 i2) (val := (ent i).2) rfl
  have grow : s + 1 ≤ s ||| 2 ^ i := by
    have h0 : s ≤ s ||| 2 ^ i := Nat.left_le_or
    have h1 : s ≠ s ||| 2 ^ i := fun e => by
      have := congrArg (fun x => x.testBit i) e
      simp only [bit_or, hn, decide_true, Bool.or_true] at this
      cases this
    omega
  refine ⟨w', h1, ⟨n + 1, _, by omega, h2, fun a b ha hb => ?_⟩, h3⟩
  obtain ⟨l1, l2⟩ := hL a b ha hb
  by_cases e : (ent i).1 = (a, b)
  · have e1 : (ent i).1.1 = a := by rw [e]
    have e2 : (ent i).1.2 = b := by rw [e]
    have t := tab_hit s i hi
    rw [e] at t
    rw [t, e1, e2]
    exact ⟨has_put_same ho.isMap (kl_key _ _) _, atKey_put_same ho.isMap (kl_key _ _) _ _⟩
  · have ne : kl a b ≠ kl (ent i).1.1 (ent i).1.2 := fun q => e (kl_inj i1 i2 ha hb q.symm)
    rw [tab_miss s i _ e]
    exact ⟨(has_put_other ne _).trans l1, (atKey_put_other ne _ _).trans l2⟩
/-- What a look-up says. -/
theorem DM.look {m s : Nat} {w : World} (h : DM m s w) {a b : Int} (ha : i64 a) (hb : i64 b) :
    (Instr.lookup 44 (.map (some m)) (pv a b) true).run Try.prog w = .ok (.tuple #[(tab s (a, b)).getD (dv 0 0 0), .bool (tab s (a, b)).isSome]) w := by
  obtain ⟨n, D, hle, ho, hL⟩ := h
  obtain ⟨l1, l2⟩ := hL a b ha hb
  obtain ⟨v, ps, h1, h2⟩ := ho.look_ok keyd Try.underlying44 (zero42 w) (zd := .held (dv 0 0 0)) (zp := []) rfl (kl_of ha hb)
  rw [l1] at h1
  have : (DataW.held v : DataW Value) = .held ((tab s (a, b)).getD (dv 0 0 0)) := by
    rw [← l2]
    have := h2
    unfold selfR at this
    injection this with this
    exact congrArg Prod.fst this
  injection this with this
  rw [h1, this]
def opsD : Array Oper := #[{ dst := some 1, op := Op.makeMap 44 none, type := 44, pos := "l15_flag.go:44", after := #[], guard := none }, { dst := some 2, op := Op.build 46 #[(0, Operand.const (Value.int IntKind.i64 1)), (1, Operand.const (Value.int IntKind.i64 0))], type := 46, pos := "l15_flag.go:44", after := #[], guard := none }, { dst := some 3, op := Op.build 42 #[], type := 42, pos := "l15_flag.go:44", after := #[], guard := none }, { dst := none, op := Op.insert 44 (Operand.tmp 1) (Operand.tmp 2) (Operand.tmp 3), type := 0, pos := "l15_flag.go:44", after := #[{ on := 0, ground := Ground.data }, { on := 1, ground := Ground.data }, { on := 2, ground := Ground.data }], guard := none }, { dst := some 4, op := Op.build 46 #[(0, Operand.const (Value.int IntKind.i64 2)), (1, Operand.const (Value.int IntKind.i64 0))], type := 46, pos := "l15_flag.go:44", after := #[], guard := none }, { dst := some 5, op := Op.build 42 #[(0, Operand.const (Value.int IntKind.i64 1)), (2, Operand.const (Value.int IntKind.i64 64))], type := 42, pos := "l15_flag.go:44", after := #[], guard := none }, { dst := none, op := Op.insert 44 (Operand.tmp 1) (Operand.tmp 4) (Operand.tmp 5), type := 0, pos := "l15_flag.go:44", after := #[{ on := 0, ground := Ground.data }, { on := 4, ground := Ground.data }, { on := 5, ground := Ground.data }], guard := none }, { dst := some 6, op := Op.build 46 #[(0, Operand.const (Value.int IntKind.i64 3)), (1, Operand.const (Value.int IntKind.i64 0))], type := 46, pos := "l15_flag.go:44", after := #[], guard := none }, { dst := some 7, op := Op.build 42 #[(0, Operand.const (Value.int IntKind.i64 2)), (2, Operand.const (Value.int IntKind.i64 128))], type := 42, pos := "l15_flag.go:44", after := #[], guard := none }, { dst := none, op := Op.insert 44 (Operand.tmp 1) (Operand.tmp 6) (Operand.tmp 7), type := 0, pos := "l15_flag.go:44", after := #[{ on := 0, ground := Ground.data }, { on := 7, ground := Ground.data }, { on := 8, ground := Ground.data }], guard := none }, { dst := some 8, op := Op.build 46 #[(0, Operand.const (Value.int IntKind.i64 4)), (1, Operand.const (Value.int IntKind.i64 0))], type := 46, pos := "l15_flag.go:44", after := #[], guard := none }, { dst := some 9, op := Op.build 42 #[(0, Operand.const (Value.int IntKind.i64 4)), (1, Operand.const (Value.int IntKind.i64 15))], type := 42, pos := "l15_flag.go:44", after := #[], guard := none }, { dst := none, op := Op.insert 44 (Operand.tmp 1) (Operand.tmp 8) (Operand.tmp 9), type := 0, pos := "l15_flag.go:44", after := #[{ on := 0, ground := Ground.data }, { on := 10, ground := Ground.data }, { on := 11, ground := Ground.data }], guard := none }, { dst := some 10, op := Op.build 46 #[(0, Operand.const (Value.int IntKind.i64 5)), (1, Operand.const (Value.int IntKind.i64 0))], type := 46, pos := "l15_flag.go:44", after := #[], guard := none }, { dst := some 11, op := Op.build 42 #[(0, Operand.const (Value.int IntKind.i64 8)), (2, Operand.const (Value.int IntKind.i64 16))], type := 42, pos := "l15_flag.go:44", after := #[], guard := none }, { dst := none, op := Op.insert 44 (Operand.tmp 1) (Operand.tmp 10) (Operand.tmp 11), type := 0, pos := "l15_flag.go:44", after := #[{ on := 0, ground := Ground.data }, { on := 13, ground := Ground.data }, { on := 14, ground := Ground.data }], guard := none }, { dst := some 12, op := Op.build 46 #[(0, Operand.const (Value.int IntKind.i64 6)), (1, Operand.const (Value.int IntKind.i64 16))], type := 46, pos := "l15_flag.go:44", after := #[], guard := none }, { dst := some 13, op := Op.build 42 #[(1, Operand.const (Value.int IntKind.i64 15))], type := 42, pos := "l15_flag.go:44", after := #[], guard := none }, { dst := none, op := Op.insert 44 (Operand.tmp 1) (Operand.tmp 12) (Operand.tmp 13), type := 0, pos := "l15_flag.go:44", after := #[{ on := 0, ground := Ground.data }, { on := 16, ground := Ground.data }, { on := 17, ground := Ground.data }], guard := none }, { dst := some 14, op := Op.move (Operand.tmp 1), type := 44, pos := "l15_flag.go:44", after := #[{ on := 0, ground := Ground.data }, { on := 1, ground := Ground.data }, { on := 2, ground := Ground.data }, { on := 3, ground := Ground.data }, { on := 4, ground := Ground.data }, { on := 5, ground := Ground.data }, { on := 6, ground := Ground.data }, { on := 7, ground := Ground.data }, { on := 8, ground := Ground.data }, { on := 9, ground := Ground.data }, { on := 10, ground := Ground.data }, { on := 11, ground := Ground.data }, { on := 12, ground := Ground.data }, { on := 13, ground := Ground.data }, { on := 14, ground := Ground.data }, { on := 15, ground := Ground.data }, { on := 16, ground := Ground.data }, { on := 17, ground := Ground.data }, { on := 18, ground := Ground.data }], guard := none }, { dst := some 0, op := Op.assign (Operand.tmp 14), type := 44, pos := "l15_flag.go:44", after := #[{ on := 19, ground := Ground.data }, { on := 0, ground := Ground.phase }, { on := 1, ground := Ground.phase }, { on := 2, ground := Ground.phase }, { on := 3, ground := Ground.phase }, { on := 4, ground := Ground.phase }, { on := 5, ground := Ground.phase }, { on := 6, ground := Ground.phase }, { on := 7, ground := Ground.phase }, { on := 8, ground := Ground.phase }, { on := 9, ground := Ground.phase }, { on := 10, ground := Ground.phase }, { on := 11, ground := Ground.phase }, { on := 12, ground := Ground.phase }, { on := 13, ground := Ground.phase }, { on := 14, ground := Ground.phase }, { on := 15, ground := Ground.phase }, { on := 16, ground := Ground.phase }, { on := 17, ground := Ground.phase }, { on := 18, ground := Ground.phase }, { on := 19, ground := Ground.phase }], guard := none }]
def insD (i : Nat) : Oper := { dst := none, op := Op.insert 44 (Operand.tmp 1) (Operand.tmp (2 * i + 2)) (Operand.tmp (2 * i + 3)), type := 0, pos := "l15_flag.go:44", after := #[{ on := 0, ground := Ground.data }, { on := 3 * i + 1, ground := Ground.data }, { on := 3 * i + 2, ground := Ground.data }], guard := none }
def LD (s : Nat) : Array Bool := #[true, true, true, s.testBit 0, true, true, s.testBit 1, true, true, s.testBit 2, true, true, s.testBit 3, true, true, s.testBit 4, true, true, s.testBit 5, false, false]
def left (s : Nat) : Nat := ((List.range 6).filter fun i => !s.testBit i).length
theorem ins_at (i : Nat) (hi : i < 6) : opsD[3 * i + 3]? = some (insD i) := by
  match i, hi with
  | 0, _ => rfl
  | 1, _ => rfl
  | 2, _ => rfl
  | 3, _ => rfl
  | 4, _ => rfl
  | 5, _ => rfl
theorem ready_at : ∀ s < 63, Region.ready Region.Mode.any opsD (LD s) = ((List.range 6).filter fun i => !s.testBit i).map fun i => 3 * i + 3 := by decide +kernel
theorem left_pos : ∀ s < 63, 0 < left s := by decide +kernel
theorem left_step : ∀ s < 64, ∀ i < 6, s.testBit i = false → left (s ||| 2 ^ i) + 1 = left s ∧ s ||| 2 ^ i < 64 := by decide +kernel
theorem LD_step : ∀ s < 64, ∀ i < 6, (LD s).setIfInBounds (3 * i + 3) true = LD (s ||| 2 ^ i) := by decide +kernel
def actD (m : Nat) : Act := { tmps := #[.map none, .map (some m), pv 1 0, dv 0 0 0, pv 2 0, dv 1 0 64, pv 3 0, dv 2 0 128, pv 4 0, dv 4 15 0, pv 5 0, dv 8 0 16, pv 6 16, dv 0 15 0, undef], defers := [] }
theorem key_at (m i : Nat) (hi : i < 6) : (actD m).eval (.tmp (2 * i + 2)) = pv (ent i).1.1 (ent i).1.2 ∧ (actD m).eval (.tmp (2 * i + 3)) = (ent i).2 := by
  match i, hi with
  | 0, _ => exact ⟨rfl, rfl⟩
  | 1, _ => exact ⟨rfl, rfl⟩
  | 2, _ => exact ⟨rfl, rfl⟩
  | 3, _ => exact ⟨rfl, rfl⟩
  | 4, _ => exact ⟨rfl, rfl⟩
  | 5, _ => exact ⟨rfl, rfl⟩
theorem ins_all (Q : Exit → Act → World → Prop) (m : Nat) (w0 : World) (hm : w0.heap.size ≤ m) (HQ : ∀ w, DM m 63 w → Below w0.heap.size w0 w → Q .normal { tmps := #[.map (some m), .map (some m), pv 1 0, dv 0 0 0, pv 2 0, dv 1 0 64, pv 3 0, dv 2 0 128, pv 4 0, dv 4 15 0, pv 5 0, dv 8 0 16, pv 6 16, dv 0 15 0, .map (some m)], defers := [] } w) :
    ∀ (n s : Nat) (w : World), left s = n → s < 64 → DM m s w → Below w0.heap.size w0 w → wpAny Try.prog Region.Mode.any opsD Q (n + 2) (LD s) (actD m) w := by
  intro n
  induction n with
  | zero =>
    intro s w hl hs hd hb
    obtain rfl : s = 63 := by
      refine Classical.byContradiction fun c => ?_
      have := left_pos s (by omega)
      omega
    have q := HQ w hd hb
    refine wpAny_ready (rs := [19]) (by kernel_rfl) (by simp) ?_
    refine AllReady.cons (i := 19) rfl (fun K hK => ?_) AllReady.nil
    rw [if_pos (by rfl)]
    unfold Oper.wp
    simp only [execOp]
    refine hK _ _ ?_
    refine wpAny_ready (rs := [20]) (by kernel_rfl) (by simp) ?_
    refine AllReady.cons (i := 20) rfl (fun K hK => ?_) AllReady.nil
    rw [if_pos (by rfl)]
    unfold Oper.wp
    simp only [execOp]
    refine hK _ _ ?_
    exact wpAny_done (by kernel_rfl) q _
  | succ n ih =>
    intro s w hl hs hd hb
    have h63 : s < 63 := by
      refine Classical.byContradiction fun c => ?_
      obtain rfl : s = 63 := by omega
      have e : left 63 = 0 := by kernel_rfl
      omega
    refine wpAny_ready (ready_at s h63) ?_ ?_
    · intro e
      have h1 := left_pos s h63
      have h2 := congrArg List.length e
      rw [List.length_map] at h2
      unfold left at h1
      simp only [List.length_nil] at h2
      omega
    · intro j hj
      obtain ⟨i, hi, rfl⟩ := List.mem_map.1 hj
      obtain ⟨hi, hbit⟩ := List.mem_filter.1 hi
      rw [List.mem_range] at hi
      have hn : s.testBit i = false := by simpa using hbit
      obtain ⟨l1, l2⟩ := left_step s hs i hi hn
      obtain ⟨w', r1, r2, r3⟩ := hd.put hs hi hn
      obtain ⟨k1, k2⟩ := key_at m i hi
      refine wpOp_step (ins_at i hi) (fun K hK => ?_)
      rw [if_pos (by rfl)]
      unfold Oper.wp
      have k0 : (actD m).eval (.tmp 1) = .map (some m) := rfl
      simp only [insD, execOp, k0, k1, k2, Sem.run_bind, r1, Result.andThen_ok, Sem.run_pure]
      refine hK _ _ ?_
      rw [LD_step s hs i hi]
      refine ih _ _ (by omega) l2 r2 ?_
      refine hb.grown r3.grown hb.size (fun k hk => ?_)
      cases hk
      exact hm
set_option maxRecDepth 100000 in
theorem deriv_is (w : World) : Calls Try.prog 29 #[] w fun e w' => ∃ m, e = .returned (.map (some m)) ∧ DM m 63 w' ∧ Below w.heap.size w w' := by
  go_enter Try.func29, Try.ntmps29
  go_wp2_with fail
  refine wp_region_any (by kernel_rfl) ?_
  refine take_any 1 2 (v := ?_) rfl rfl (by kernel_rfl) (by kernel_rfl) (by kernel_rfl) (fun _ _ _ h => h) (Or.inl ⟨by rfl, ?_⟩) ?_
  rotate_left
  · intro w'; go_simp; try with_reducible rfl
  try simp only [Act.put, List.setIfInBounds_toArray, List.set_cons_zero, List.set_cons_succ]
  refine take_any 2 3 (v := ?_) rfl rfl (by kernel_rfl) (by kernel_rfl) (by kernel_rfl) (fun _ _ _ h => h) (Or.inl ⟨by rfl, ?_⟩) ?_
  rotate_left
  · intro w'; go_simp; try with_reducible rfl
  try simp only [Act.put, List.setIfInBounds_toArray, List.set_cons_zero, List.set_cons_succ]
  refine take_any 4 4 (v := ?_) rfl rfl (by kernel_rfl) (by kernel_rfl) (by kernel_rfl) (fun _ _ _ h => h) (Or.inl ⟨by rfl, ?_⟩) ?_
  rotate_left
  · intro w'; go_simp; try with_reducible rfl
  try simp only [Act.put, List.setIfInBounds_toArray, List.set_cons_zero, List.set_cons_succ]
  refine take_any 5 5 (v := ?_) rfl rfl (by kernel_rfl) (by kernel_rfl) (by kernel_rfl) (fun _ _ _ h => h) (Or.inl ⟨by rfl, ?_⟩) ?_
  rotate_left
  · intro w'; go_simp; try with_reducible rfl
  try simp only [Act.put, List.setIfInBounds_toArray, List.set_cons_zero, List.set_cons_succ]
  refine take_any 7 6 (v := ?_) rfl rfl (by kernel_rfl) (by kernel_rfl) (by kernel_rfl) (fun _ _ _ h => h) (Or.inl ⟨by rfl, ?_⟩) ?_
  rotate_left
  · intro w'; go_simp; try with_reducible rfl
  try simp only [Act.put, List.setIfInBounds_toArray, List.set_cons_zero, List.set_cons_succ]
  refine take_any 8 7 (v := ?_) rfl rfl (by kernel_rfl) (by kernel_rfl) (by kernel_rfl) (fun _ _ _ h => h) (Or.inl ⟨by rfl, ?_⟩) ?_
  rotate_left
  · intro w'; go_simp; try with_reducible rfl
  try simp only [Act.put, List.setIfInBounds_toArray, List.set_cons_zero, List.set_cons_succ]
  refine take_any 10 8 (v := ?_) rfl rfl (by kernel_rfl) (by kernel_rfl) (by kernel_rfl) (fun _ _ _ h => h) (Or.inl ⟨by rfl, ?_⟩) ?_
  rotate_left
  · intro w'; go_simp; try with_reducible rfl
  try simp only [Act.put, List.setIfInBounds_toArray, List.set_cons_zero, List.set_cons_succ]
  refine take_any 11 9 (v := ?_) rfl rfl (by kernel_rfl) (by kernel_rfl) (by kernel_rfl) (fun _ _ _ h => h) (Or.inl ⟨by rfl, ?_⟩) ?_
  rotate_left
  · intro w'; go_simp; try with_reducible rfl
  try simp only [Act.put, List.setIfInBounds_toArray, List.set_cons_zero, List.set_cons_succ]
  refine take_any 13 10 (v := ?_) rfl rfl (by kernel_rfl) (by kernel_rfl) (by kernel_rfl) (fun _ _ _ h => h) (Or.inl ⟨by rfl, ?_⟩) ?_
  rotate_left
  · intro w'; go_simp; try with_reducible rfl
  try simp only [Act.put, List.setIfInBounds_toArray, List.set_cons_zero, List.set_cons_succ]
  refine take_any 14 11 (v := ?_) rfl rfl (by kernel_rfl) (by kernel_rfl) (by kernel_rfl) (fun _ _ _ h => h) (Or.inl ⟨by rfl, ?_⟩) ?_
  rotate_left
  · intro w'; go_simp; try with_reducible rfl
  try simp only [Act.put, List.setIfInBounds_toArray, List.set_cons_zero, List.set_cons_succ]
  refine take_any 16 12 (v := ?_) rfl rfl (by kernel_rfl) (by kernel_rfl) (by kernel_rfl) (fun _ _ _ h => h) (Or.inl ⟨by rfl, ?_⟩) ?_
  rotate_left
  · intro w'; go_simp; try with_reducible rfl
  try simp only [Act.put, List.setIfInBounds_toArray, List.set_cons_zero, List.set_cons_succ]
  refine take_any 17 13 (v := ?_) rfl rfl (by kernel_rfl) (by kernel_rfl) (by kernel_rfl) (fun _ _ _ h => h) (Or.inl ⟨by rfl, ?_⟩) ?_
  rotate_left
  · intro w'; go_simp; try with_reducible rfl
  try simp only [Act.put, List.setIfInBounds_toArray, List.set_cons_zero, List.set_cons_succ]
  refine wpAny_ready (rs := [0]) (by kernel_rfl) (by simp) ?_
  refine AllReady.cons (i := 0) rfl (fun K hK => ?_) AllReady.nil
  rw [if_pos (by rfl)]
  unfold Oper.wp
  simp only [execOp]
  refine hK _ _ ?_
  have e0 : ({ w with drawn := w.drawn + 1 } : World) = w.drew := rfl
  refine ins_all _ w.heap.size w (Nat.le_refl _) ?_ 6 0 _ (by kernel_rfl) (by omega) (DM.made w.drew) (((Below.refl _ _).drew).alloc (Nat.le_refl _) _)
  intro w' hd hb
  go_wp2
  go_ret
  exact ⟨_, rfl, hd, hb⟩
end Go.Proofs.Ytcilgmofhkpkpaa
