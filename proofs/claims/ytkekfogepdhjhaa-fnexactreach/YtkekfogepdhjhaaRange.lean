/- A range over what is seen. -/
import Derived.Test.YtkekfogepdhjhaaIter
import Derived.Test.YtkekfogepdhjhaaSeek
set_option linter.unusedVariables false
namespace Go.Proofs.Ytkekfogepdhjhaa
open Go.RowKit Var Term
attribute [local go_sem] Oper.semAt_some

theorem Keep.putObj {X : Nat → Prop} {w : World} {l : Nat} (o : Obj) (hl : ¬ X l) : Keep X w (w.putObj l o) :=
  ⟨rfl, rfl, rfl, by simp [World.putObj], fun k hk => World.putObj_heap_other (fun e => hl (e ▸ hk))⟩
theorem Out.putObj {X : Nat → Prop} {w : World} {l : Nat} (o : Obj) (hl : X l) : Out X w (w.putObj l o) :=
  ⟨by simp [World.putObj], fun k _ hk => World.putObj_heap_other (fun e => hk (e ▸ hl))⟩
theorem Out.trans {X : Nat → Prop} {a b c : World} (h : Out X a b) (k : Out X b c) : Out X a c :=
  ⟨Nat.le_trans h.size k.size, fun i hi hx => (k.block i (Nat.lt_of_lt_of_le hi h.size) hx).trans (h.block i hi hx)⟩
theorem Out.mono {X Y : Nat → Prop} {a b : World} (h : Out X a b) (hy : ∀ k, X k → Y k) : Out Y a b := ⟨h.size, fun i hi hx => h.block i hi (fun e => hx (hy i e))⟩

/-- How a round may be left: by its end, or by 'return'. -/
def RPost (X : Nat → Prop) (l D : Nat) (I Ix : List ByteArray → World → Prop) (pre : List ByteArray) (Wb : World) : Exit → Act → World → Prop
  | .normal, _, W' => Out X Wb W' ∧ (∀ k, k = l ∨ k = D → W'.heap[k]? = Wb.heap[k]?) ∧ I pre W'
  | .ret, _, W' => Out X Wb W' ∧ (∀ k, k = l ∨ k = D → W'.heap[k]? = Wb.heap[k]?) ∧ Ix pre W'
  | _, _, _ => False

theorem range_seen {X : Nat → Prop} {p bx N0 M n : Nat} {xs : List ByteArray} {ks kd0 : List Int} {s0 : VS} {g : Operand} {q : Tmp} {assign body : Code} {Q : Exit → Act → World → Prop} {a : Act} {w : World}
    (hg : a.eval g = .func (.func 108) #[] #[.pointer (some ⟨bx, 0, none⟩)]) (hn : 3 ≤ n)
    (hxs : ∀ x, x ∈ xs → isT x = true) (hM : (allInf xs).length ≤ M) (hM2 : M ≤ 50000000) (hx60 : xs.length ≤ 60) (hN0 : N0 ≤ 1000000) (hXb : X bx) (hT0 : s0.T = []) (h0 : AI xs ks kd0 s0) (hv : ViewAt X p N0 s0 w)
    (I Ix : List ByteArray → World → Prop) (hI : ∀ pre W W', I pre W → Keep X W W' → I pre W') (hIx : ∀ pre W W', Ix pre W → Keep X W W' → Ix pre W') (hIb : ∀ pre W, I pre W → W.cell? ⟨bx, 0, none⟩ = some (.pointer (some ⟨p, 0, none⟩))) (hi0 : I [] w)
    (hround : ∀ (l D : Nat) (pre : List ByteArray) (x : ByteArray) (W : World), SeenT xs ks x → I pre W → ¬ X l → ¬ X D → (∀ k, X k → k < W.heap.size) →
      assign.wpIn (Fence.wide.inRound l) (n - 1 - 1) Try.prog (Exit.then (fun a₁ w₁ => w₁ = W ∧ ∀ Wb, I pre Wb → (∀ k, X k → k < Wb.heap.size) → body.wpIn (Fence.wide.inRound l) (n - 1 - 1) Try.prog (RPost X l D I Ix (pre ++ [x]) Wb) a₁ Wb) (fun _ _ _ => False)) { tmps := a.tmps.setIfInBounds q (.string x), defers := [] } W)
    (hdone : ∀ (D : Nat) T F kd N W, w.heap.size ≤ D → (∀ k, k ∈ kd0 → k ∈ kd) → AI xs ks kd ⟨[], T, F⟩ → ViewAt (fun k => X k ∨ k = D) p N ⟨[], T, F⟩ W → I T W → W.heap[D]? = some (.deferred (some [])) → Q .normal { a with defers := { target := .collected D, args := #[] } :: a.defers } W)
    (hstop : ∀ (D : Nat) s kd N W, w.heap.size ≤ D → AI xs ks kd s → ViewAt (fun k => X k ∨ k = D) p N s W → Ix s.T W → W.heap[D]? = some (.deferred (some [])) → Code.ret.wpIn Fence.wide n Try.prog Q { a with defers := { target := .collected D, args := #[] } :: a.defers } W) :
    (Code.rangeFunc g #[q] assign body).wpIn Fence.wide n Try.prog Q a w := by
  have eg : ∀ args w, (callFunc 108 args).run Try.prog w = .ok (.enter 108 args) w := enters_of Try.func108 (by kernel_rfl) rfl
  refine wpIn_rangeFunc ?_
  intro fn hfn
  obtain ⟨rec, hrec⟩ : ∃ rec : LoopState → Option Code → Loop, rec = fun st pe => { state := st, pending := pe, fn, tmps := a.tmps, params := #[q], assign, body, defers := w.heap.size } := ⟨_, rfl⟩
  obtain ⟨W1, hW1⟩ : ∃ W1, (w.alloc (.deferred (some []))).alloc (.loop (rec .ready none)) = W1 := ⟨_, rfl⟩
  have hL1 : W1.heap[w.heap.size + 1]? = some (.loop (rec .ready none)) := by
    rw [← hW1]; have := World.alloc_heap_new (w.alloc (.deferred (some []))) (.loop (rec .ready none)); rwa [World.size_alloc] at this
  have hK1 : W1.heap[w.heap.size]? = some (.deferred (some [])) := by
    rw [← hW1]; exact (Below.heap_alloc _ _ _ (by simp)).trans (World.alloc_heap_new w _)
  have hB1 : Below w.heap.size w W1 := by rw [← hW1]; exact ((Below.refl _ w).alloc (Nat.le_refl _) _).alloc (by simp) _
  have hI1 : I [] W1 := hI _ _ _ hi0 (Keep.ofBelow hB1 hv.xlt)
  have nl : ¬ X (w.heap.size + 1) := fun h => by have := hv.xlt _ h; omega
  have nD : ¬ X w.heap.size := fun h => by have := hv.xlt _ h; omega
  have hV1 : ViewAt (fun k => X k ∨ k = w.heap.size ∨ k = w.heap.size + 1) p N0 s0 W1 := by
    have := (hv.apart (.deferred (some []))).apart (.loop (rec .ready none))
    rw [hW1] at this
    refine this.less (fun k hk => ?_)
    rcases hk with h | h | h
    · exact Or.inl (Or.inl h)
    · exact Or.inl (Or.inr h)
    · exact Or.inr (by rw [World.size_alloc]; exact h)
  refine ⟨w.heap.size + 1, [{ target := .collected w.heap.size, args := #[] }], W1, { target := .fn (.func 108) #[.pointer (some ⟨bx, 0, none⟩)], args := #[.func (.yield (w.heap.size + 1)) #[] #[]] }, W1, 108,
    #[.func (.yield (w.heap.size + 1)) #[] #[]] ++ #[.pointer (some ⟨bx, 0, none⟩)], W1, ?_, ?_, ?_, ?_, fun _ => by omega, ?_⟩
  · rw [← hW1, hrec]; exact run_enterLoop_outer _ _ _ _ _
  · simp only [resolve, hg]
    simp [go_sem]
  · intro f' hf'; trivial
  · simp [invoke, go_sem, eg]
  · refine callsIn_wide.2 ?_
    refine (seen_iter (X := fun k => X k ∨ k = w.heap.size ∨ k = w.heap.size + 1) (l := w.heap.size + 1) (bx := bx) (M := M) (xs := xs) (ks := ks) (kd0 := kd0)
      (fun pre W => I pre W ∧ W.heap[w.heap.size + 1]? = some (.loop (rec .ready none)) ∧ W.heap[w.heap.size]? = some (.deferred (some [])))
      (fun pre W => Ix pre W ∧ W.heap[w.heap.size + 1]? = some (.loop (rec .done (some .ret))) ∧ W.heap[w.heap.size]? = some (.deferred (some [])))
      hxs hM hM2 hx60 hN0 (Or.inl hXb) ?_ (fun pre W h => hIb pre W h.1) ?_ W1 s0 hT0 h0 hV1 ⟨hI1, hL1, hK1⟩).mono ?_
    · intro pre W W' h hk
      exact ⟨hI _ _ _ h.1 (hk.mono (fun k hk => Or.inl hk)), (hk.block _ (Or.inr (Or.inr rfl))).trans h.2.1, (hk.block _ (Or.inr (Or.inl rfl))).trans h.2.2⟩
    · intro m pre x W hst ⟨hi, hl, hk⟩
      have hlt : w.heap.size + 1 < W.heap.size := (Array.getElem?_eq_some_iff.1 hl).1
      have hlD : w.heap.size < W.heap.size := by omega
      have hxW : ∀ k, X k → k < W.heap.size := fun k hk => by have := hv.xlt k hk; omega
      have hy := run_yield (P := Try.prog) (args := #[.string x]) hl (by rw [hrec]; rfl)
      rw [hrec] at hy
      have et : ((#[q] : Array Tmp).zip #[Value.string x]).foldl (fun t (p, v) => t.setIfInBounds p v) a.tmps = a.tmps.setIfInBounds q (.string x) := by simp
      simp only [et] at hy
      refine ⟨fn, _, assign, body, hy, ?_⟩
      have HR := hround (w.heap.size + 1) w.heap.size pre x W hst hi nl nD hxW
      have HR2 : RoundIn Fence.wide (n - 1 - 1) Try.prog (w.heap.size + 1) fn (a.tmps.setIfInBounds q (.string x)) assign body W fun e W' => Out (fun k => X k ∨ k = w.heap.size ∨ k = w.heap.size + 1) W W' ∧
          ((e = .returned (.bool true) ∧ (I (pre ++ [x]) W' ∧ W'.heap[w.heap.size + 1]? = some (.loop (rec .ready none)) ∧ W'.heap[w.heap.size]? = some (.deferred (some [])))) ∨ (e = .returned (.bool false) ∧ (Ix (pre ++ [x]) W' ∧ W'.heap[w.heap.size + 1]? = some (.loop (rec .done (some .ret))) ∧ W'.heap[w.heap.size]? = some (.deferred (some []))))) := by
        refine roundIn_of_wpIn trivial (wpIn_mono HR ?_)
        intro e a1 w1 h1
        cases e with
        | normal =>
          obtain ⟨rfl, hb⟩ := h1
          refine ⟨_, run_beginRound hl (by rw [hrec]), ?_⟩
          have hl2 : (w1.putObj (w.heap.size + 1) (.loop { rec .ready none with state := .busy })).heap[w.heap.size + 1]? = some (.loop { rec .ready none with state := .busy }) := World.putObj_heap_same hlt
          have hk2 : (w1.putObj (w.heap.size + 1) (.loop { rec .ready none with state := .busy })).heap[w.heap.size]? = some (.deferred (some [])) := (World.putObj_heap_other (by omega)).trans hk
          have hsz2 : (w1.putObj (w.heap.size + 1) (.loop { rec .ready none with state := .busy })).heap.size = w1.heap.size := by simp [World.putObj]
          have hB := hb (w1.putObj (w.heap.size + 1) (.loop { rec .ready none with state := .busy })) (hI _ _ _ hi (Keep.putObj _ nl)) (fun k hk => by rw [hsz2]; exact hxW k hk)
          refine wpIn_mono hB ?_
          intro e3 a3 W3 hp
          have fin : ∀ (jump : Option Code), Out X (w1.putObj (w.heap.size + 1) (.loop { rec .ready none with state := .busy })) W3 → (∀ k, k = w.heap.size + 1 ∨ k = w.heap.size → W3.heap[k]? = (w1.putObj (w.heap.size + 1) (.loop { rec .ready none with state := .busy })).heap[k]?) →
              (Instr.endRound (w.heap.size + 1) jump).run Try.prog W3 = .ok (.bool jump.isNone) (W3.putObj (w.heap.size + 1) (.loop (rec (if jump.isNone then .ready else .done) jump))) ∧
              Out (fun k => X k ∨ k = w.heap.size ∨ k = w.heap.size + 1) w1 (W3.putObj (w.heap.size + 1) (.loop (rec (if jump.isNone then .ready else .done) jump))) ∧
              (W3.putObj (w.heap.size + 1) (.loop (rec (if jump.isNone then .ready else .done) jump))).heap[w.heap.size + 1]? = some (.loop (rec (if jump.isNone then .ready else .done) jump)) ∧
              (W3.putObj (w.heap.size + 1) (.loop (rec (if jump.isNone then .ready else .done) jump))).heap[w.heap.size]? = some (.deferred (some [])) := by
            intro jump ho hsame
            have hl3 := (hsame _ (Or.inl rfl)).trans hl2
            have hk3 := (hsame _ (Or.inr rfl)).trans hk2
            have hr := run_endRound (P := Try.prog) jump hl3
            refine ⟨by rw [hrec] at hr ⊢; exact hr, ?_, World.putObj_heap_same (Array.getElem?_eq_some_iff.1 hl3).1, (World.putObj_heap_other (by omega)).trans hk3⟩
            exact (Out.putObj _ (Or.inr (Or.inr rfl))).trans ((ho.mono (fun k hk => Or.inl hk)).trans (Out.putObj _ (Or.inr (Or.inr rfl))))
          cases e3 with
          | normal =>
            obtain ⟨ho, hsame, hi3⟩ := hp
            obtain ⟨hr, ho4, hl4, hk4⟩ := fin none ho hsame
            exact ⟨_, _, hr, ho4, Or.inl ⟨rfl, hI _ _ _ hi3 (Keep.putObj _ nl), hl4, hk4⟩⟩
          | ret =>
            obtain ⟨ho, hsame, hi3⟩ := hp
            obtain ⟨hr, ho4, hl4, hk4⟩ := fin (some .ret) ho hsame
            exact ⟨_, _, hr, ho4, Or.inr ⟨rfl, hIx _ _ _ hi3 (Keep.putObj _ nl), hl4, hk4⟩⟩
          | exit id => exact hp.elim
          | goto t => exact hp.elim
          | panic ch => exact hp.elim
          | outgrown => exact hp.elim
        | ret => exact h1
        | exit id => exact h1
        | goto t => exact h1
        | panic ch => exact h1
        | outgrown => exact h1
      exact ⟨HR2.1, fun c cs _ => HR2.2 c cs (room_wide _)⟩
    · rintro e W2 ⟨rfl, hpost⟩
      rcases hpost with ⟨T, F, kd, N, hkd, hAI, hV, hi, hl, hk⟩ | ⟨s, kd, N, hAI, hV, hi, hl, hk⟩
      · have hV2 : ViewAt (fun k => X k ∨ k = w.heap.size) p N ⟨[], T, F⟩ (W2.putObj (w.heap.size + 1) (.loop { rec .ready none with state := .exhausted })) := (hV.out (Out.putObj _ (Or.inr (Or.inr rfl)))).less (fun k hk => hk.elim Or.inl (fun h => Or.inr (Or.inl h)))
        exact ⟨none, _, by have := run_endLoop (P := Try.prog) hl (by rw [hrec]; simp); rw [hrec] at this ⊢; exact this, hdone _ T F kd N _ (Nat.le_refl _) hkd hAI hV2 (hI _ _ _ hi (Keep.putObj _ nl)) ((World.putObj_heap_other (by omega)).trans hk)⟩
      · have hV2 : ViewAt (fun k => X k ∨ k = w.heap.size) p N s (W2.putObj (w.heap.size + 1) (.loop { rec .done (some .ret) with state := .exhausted })) := (hV.out (Out.putObj _ (Or.inr (Or.inr rfl)))).less (fun k hk => hk.elim Or.inl (fun h => Or.inr (Or.inl h)))
        exact ⟨some .ret, _, by have := run_endLoop (P := Try.prog) hl (by rw [hrec]; simp); rw [hrec] at this ⊢; exact this, hstop _ s kd N _ (Nat.le_refl _) hAI hV2 (hIx _ _ _ hi (Keep.putObj _ nl)) ((World.putObj_heap_other (by omega)).trans hk)⟩
end Go.Proofs.Ytkekfogepdhjhaa

set_option linter.unusedVariables false
namespace Go.Proofs.Ytkekfogepdhjhaa
open Go.RowKit Var Term
attribute [local go_sem] Oper.semAt_some

theorem seen79 (p : Nat) (w : World) : Calls Try.prog 79 #[.pointer (some ⟨p, 0, none⟩)] w fun e w' => e = .returned (.func (.func 108) #[] #[.pointer (some ⟨w.heap.size, 0, none⟩)]) ∧ w' = w.alloc (.cells #[.pointer (some ⟨p, 0, none⟩)] 63) := by
  have hmf : ∀ (fn : Fn) (first cap : Array Value) (w : World), (Instr.makeFunc fn first cap).run Try.prog w = .ok (.func fn first cap) w := fun _ _ _ _ => rfl
  go_enter Try.func79, Try.ntmps79
  go_wp2
  go_ret
  exact ⟨rfl, rfl⟩

theorem Out.refl (X : Nat → Prop) (w : World) : Out X w w := ⟨Nat.le_refl _, fun _ _ _ => rfl⟩

set_option maxRecDepth 100000 in
set_option maxHeartbeats 3200000 in
theorem seeAll_is {X : Nat → Prop} {p N0 M : Nat} {xs : List ByteArray} {ks kd0 : List Int} {s0 : VS} {w : World} (hxs : ∀ x, x ∈ xs → isT x = true) (hM : (allInf xs).length ≤ M) (hM2 : M ≤ 50000000) (hx60 : xs.length ≤ 60) (hN0 : N0 ≤ 1000000) (hT0 : s0.T = []) (h0 : AI xs ks kd0 s0) (hv : ViewAt X p N0 s0 w) :
    Calls Try.prog 50 #[.pointer (some ⟨p, 0, none⟩)] w fun e w' => e = .returned (.tuple #[]) ∧ ∃ T F kd N, (∀ k, k ∈ kd0 → k ∈ kd) ∧ AI xs ks kd ⟨[], T, F⟩ ∧ ViewAt X p N ⟨[], T, F⟩ w' ∧ Keep X w w' := by
  obtain ⟨W1, hW1⟩ : ∃ W1, w.alloc (.cells #[.pointer (some ⟨p, 0, none⟩)] 63) = W1 := ⟨_, rfl⟩
  have hb1 : Below w.heap.size w W1 := by rw [← hW1]; exact (Below.refl _ _).alloc (Nat.le_refl _) _
  have hc1 : W1.cell? ⟨w.heap.size, 0, none⟩ = some (.pointer (some ⟨p, 0, none⟩)) := by rw [← hW1]; simp [go_sem]
  have hv1 : ViewAt (fun k => X k ∨ k = w.heap.size) p N0 s0 W1 := by rw [← hW1]; exact hv.apart _
  have hk1 : Keep X w W1 := Keep.ofBelow hb1 hv.xlt
  refine (callsIn_wide (n := 9)).1 ?_
  refine callsIn_of_wp_marks Try.func50 rfl trivial ?_ rfl
  simp only [Try.ntmps50, List.size_toArray, List.length_cons, List.length_nil, Nat.reduceAdd, Nat.reduceSub, Array.replicate_succ, Array.replicate_zero, List.push_toArray, List.append_toArray, List.nil_append, List.cons_append]
  gi_wp2_with (refine ⟨trivial, ?_⟩; gi_at_call 79; refine (callsIn_wide.2 (seen79 p w)).mono ?_; rintro e w' ⟨rfl, rfl⟩)
  try rw [hW1]
  refine range_seen (X := fun k => X k ∨ k = w.heap.size) (p := p) (bx := w.heap.size) (N0 := N0) (M := M) (xs := xs) (ks := ks) (kd0 := kd0) (s0 := s0) rfl (by omega) hxs hM hM2 hx60 hN0 (Or.inr rfl) hT0 h0 hv1
    (fun pre W => Keep X w W ∧ W.cell? ⟨w.heap.size, 0, none⟩ = some (.pointer (some ⟨p, 0, none⟩))) (fun _ _ => False)
    (fun pre W W' h hk => ⟨h.1.trans (hk.mono (fun k hk => Or.inl hk)), (hk.cell (Or.inr rfl) 0).trans h.2⟩) (fun _ _ _ h _ => h) (fun pre W h => h.2) ⟨hk1, hc1⟩ ?round ?done ?stop
  case round =>
    intro l D pre x W hst hi nl nD hx
    refine wpIn_skip ?_
    refine ⟨rfl, fun Wb hb hxb => ?_⟩
    refine wpIn_block (wpIn_skip ?_)
    exact ⟨Out.refl _ _, fun _ _ => rfl, hb⟩
  case done =>
    intro D T F kd N W hD hkd hAI hV hi hK
    have hDX : ¬ X D := fun h => by have := hv.xlt D h; have := hb1.size; omega
    have HP : Hid (∃ T F kd N, (∀ k, k ∈ kd0 → k ∈ kd) ∧ AI xs ks kd ⟨[], T, F⟩ ∧ ViewAt X p N ⟨[], T, F⟩ (W.putObj D (.deferred none)) ∧ Keep X w (W.putObj D (.deferred none))) :=
      ⟨T, F, kd, N, hkd, hAI, (hV.out (Out.putObj _ (Or.inr rfl))).less (fun k hk => Or.inl (Or.inl hk)), hi.1.trans (Keep.putObj _ hDX)⟩
    clear hAI hV hi
    gi_wp2
    refine ⟨by simp, .inl ⟨_, _, rfl, run_takeDeferred hK, ?_⟩⟩
    exact ⟨_, results_none rfl _ _ _, rfl, HP.out⟩
  case stop =>
    intro D s kd N W _ _ _ h _
    exact h.elim
end Go.Proofs.Ytkekfogepdhjhaa

set_option linter.unusedVariables false
namespace Go.Proofs.Ytkekfogepdhjhaa
open Go.RowKit Var Term
attribute [local go_sem] Oper.semAt_some

theorem res_cell4 {fn : Func} {p : Tmp} (hres : fn.results = #[.cell p 4]) (tmps : Array Value) (w : World) (g : Nat) (v0 : Value) (hp : tmps.getD p undef = .pointer (some ⟨g, 0, none⟩)) (h0 : w.cell? ⟨g, 0, none⟩ = some v0) :
    (results fn tmps).run Try.prog w = .ok v0 w := by
  have hp' : tmps[p]?.getD undef = .pointer (some ⟨g, 0, none⟩) := by simpa using hp
  simp [results, hres, hp', asAddr, go_sem, h0, loadVar, Try.isAgg4]

/-- What the question leaves. -/
def AskPost (X : Nat → Prop) (p : Nat) (w : World) (B : Bool → Prop) (e : Ending) (w' : World) : Prop := ∃ b, e = .returned (.bool b) ∧ B b ∧ Keep X w w' ∧ ∃ s N, ViewAt X p N s w'

set_option maxRecDepth 100000 in
set_option maxHeartbeats 3200000 in
theorem sees1_is {X : Nat → Prop} {p N0 M tb : Nat} {t : ByteArray} {xs : List ByteArray} {ks kd0 : List Int} {s0 : VS} {w : World} (hxs : ∀ x, x ∈ xs → isT x = true) (hM : (allInf xs).length ≤ M) (hM2 : M ≤ 50000000) (hx60 : xs.length ≤ 60) (hN0 : N0 ≤ 1000000) (hT0 : s0.T = []) (h0 : AI xs ks kd0 s0) (hkd0 : ∀ k, k ∈ ks → k ∈ kd0) (hv : ViewAt X p N0 s0 w)
    (hXt : X tb) (ht : w.cell? ⟨tb, 0, none⟩ = some (.string t)) :
    Calls Try.prog 78 #[.pointer (some ⟨p, 0, none⟩), .pointer (some ⟨tb, 0, none⟩)] w (AskPost X p w (fun b => b = true ↔ SeenT xs ks t)) := by
  obtain ⟨W0, hW0⟩ : ∃ W0, w.alloc (.cells #[.bool false] 4) = W0 := ⟨_, rfl⟩
  have z0 : W0.heap.size = w.heap.size + 1 := by rw [← hW0]; simp
  have hb0 : Below w.heap.size w W0 := by rw [← hW0]; exact (Below.refl _ _).alloc (Nat.le_refl _) _
  have hr0 : W0.cell? ⟨w.heap.size, 0, none⟩ = some (.bool false) := by rw [← hW0]; simp [go_sem]
  have hf0 : W0.frozen? ⟨w.heap.size, 0, none⟩ = false := by rw [← hW0]; simp [go_sem]
  have hv0 : ViewAt (fun k => X k ∨ k = w.heap.size) p N0 s0 W0 := by rw [← hW0]; exact hv.apart _
  obtain ⟨W1, hW1⟩ : ∃ W1, W0.alloc (.cells #[.pointer (some ⟨p, 0, none⟩)] 63) = W1 := ⟨_, rfl⟩
  have hb1 : Below W0.heap.size W0 W1 := by rw [← hW1]; exact (Below.refl _ _).alloc (Nat.le_refl _) _
  have hc1 : W1.cell? ⟨W0.heap.size, 0, none⟩ = some (.pointer (some ⟨p, 0, none⟩)) := by rw [← hW1]; simp [go_sem]
  have hv1 : ViewAt (fun k => (X k ∨ k = w.heap.size) ∨ k = W0.heap.size) p N0 s0 W1 := by rw [← hW1]; exact hv0.apart _
  have hk1 : Keep X w W1 := (Keep.ofBelow hb0 hv.xlt).trans (Keep.ofBelow hb1 (fun k hk => by have := hv.xlt k hk; omega))
  have hr1 : W1.cell? ⟨w.heap.size, 0, none⟩ = some (.bool false) := (hb1.cell (p := ⟨w.heap.size, 0, none⟩) (by show w.heap.size < _; omega)).trans hr0
  have hf1 : W1.frozen? ⟨w.heap.size, 0, none⟩ = false := (hb1.frozen (p := ⟨w.heap.size, 0, none⟩) (by show w.heap.size < _; omega)).trans hf0
  have hcX : ¬ X w.heap.size := fun h => Nat.lt_irrefl _ (hv.xlt _ h)
  have Z0 : Hid (W0.heap.size = w.heap.size + 1) := z0
  have ZB : Hid (W0.heap.size ≤ W1.heap.size) := hb1.size
  clear z0 hv0 hb0 hb1
  refine (callsIn_wide (n := 9)).1 ?_
  refine callsIn_of_wp_marks Try.func78 rfl trivial ?_ rfl
  simp only [Try.ntmps78, List.size_toArray, List.length_cons, List.length_nil, Nat.reduceAdd, Nat.reduceSub, Array.replicate_succ, Array.replicate_zero, List.push_toArray, List.append_toArray, List.nil_append, List.cons_append]
  gi_wp2_with (refine ⟨trivial, ?_⟩; gi_at_call 79; refine (callsIn_wide.2 (seen79 p _)).mono ?_; rintro e w' ⟨rfl, rfl⟩)
  try rw [hW0]
  try rw [hW1]
  refine range_seen (X := fun k => (X k ∨ k = w.heap.size) ∨ k = W0.heap.size) (p := p) (bx := W0.heap.size) (N0 := N0) (M := M) (xs := xs) (ks := ks) (kd0 := kd0) (s0 := s0) rfl (by omega) hxs hM hM2 hx60 hN0 (Or.inr rfl) hT0 h0 hv1
    (fun pre W => (Keep X w W ∧ ¬ t ∈ pre) ∧ W.cell? ⟨w.heap.size, 0, none⟩ = some (.bool false) ∧ W.frozen? ⟨w.heap.size, 0, none⟩ = false ∧ W.cell? ⟨W0.heap.size, 0, none⟩ = some (.pointer (some ⟨p, 0, none⟩)))
    (fun pre W => Keep X w W ∧ t ∈ pre ∧ W.cell? ⟨w.heap.size, 0, none⟩ = some (.bool true))
    (fun pre W W' h hk => ⟨⟨h.1.1.trans (hk.mono (fun k hk => Or.inl (Or.inl hk))), h.1.2⟩, (hk.cell (Or.inl (Or.inr rfl)) 0).trans h.2.1, (hk.frozen (Or.inl (Or.inr rfl)) 0).trans h.2.2.1, (hk.cell (Or.inr rfl) 0).trans h.2.2.2⟩)
    (fun pre W W' h hk => ⟨h.1.trans (hk.mono (fun k hk => Or.inl (Or.inl hk))), h.2.1, (hk.cell (Or.inl (Or.inr rfl)) 0).trans h.2.2⟩)
    (fun pre W h => h.2.2.2) ⟨⟨hk1, by simp⟩, hr1, hf1, hc1⟩ ?round ?done ?stop
  case round =>
    intro l D pre x W hst hi nl nD hx
    gi_wp2
    refine ⟨by first | trivial | rfl, fun Wb hb hxb => ?_⟩
    obtain ⟨⟨kb, hnt⟩, c1, f1, b1⟩ := hb
    have tc : Wb.cell? ⟨tb, 0, none⟩ = some (.string t) := (kb.cell hXt 0).trans ht
    have lc : w.heap.size < Wb.heap.size := hxb _ (Or.inl (Or.inr rfl))
    by_cases hxt : x = t
    · subst hxt
      have hd : (x.toList == x.toList) = true := beq_self_eq_true _
      gi_wp2
      refine ⟨⟨by simp, fun k hk hn => Below.heap_setCell Wb ⟨w.heap.size, 0, none⟩ (.bool true) k (fun e => hn (Or.inl (Or.inr e)))⟩, fun k hk => Below.heap_setCell Wb ⟨w.heap.size, 0, none⟩ (.bool true) k (fun e => ?_), ?_, by simp, ?_⟩
      · rcases hk with rfl | rfl
        · exact nl (Or.inl (Or.inr e))
        · exact nD (Or.inl (Or.inr e))
      · have hB := (Below.refl 0 Wb).setCell (p := ⟨w.heap.size, 0, none⟩) (Nat.zero_le _) (.bool true)
        exact kb.trans ⟨hB.os, hB.tape, hB.output, hB.size, fun k hk => Below.heap_setCell Wb ⟨w.heap.size, 0, none⟩ (.bool true) k (fun e => hcX (by have e2 : k = w.heap.size := e; rw [← e2]; exact hk))⟩
      · exact World.cell?_setCell_same' _ _ _ (by rw [c1]; rfl)
    · have hxt' := same_list hxt
      gi_wp2
      exact ⟨Out.refl _ _, fun _ _ => rfl, ⟨kb, by simp; exact ⟨hnt, fun e => hxt e.symm⟩⟩, c1, f1, b1⟩
  case done =>
    intro D T F kd N W hD hkd hAI hV hi hK
    obtain ⟨⟨kb, hnt⟩, c1, f1, b1⟩ := hi
    have hD1 : w.heap.size + 1 < D := by
      have h1 := Z0.out
      have h2 := ZB.out
      have h3 : W0.heap.size < W1.heap.size := by rw [← hW1]; simp
      omega
    have hS := (hAI.done (fun k hk => hkd k (hkd0 k hk))).1 t
    have hDX : ¬ X D := fun h => by have := hv.xlt D h; omega
    have es : ∀ k, k ≠ w.heap.size → k ≠ D → ((W.setCell ⟨w.heap.size, 0, none⟩ (.bool false)).putObj D (.deferred none)).heap[k]? = W.heap[k]? := fun k h1 h2 =>
      (World.putObj_heap_other h2).trans (Below.heap_setCell W ⟨w.heap.size, 0, none⟩ (.bool false) k (fun e => h1 e))
    have hz : ((W.setCell ⟨w.heap.size, 0, none⟩ (.bool false)).putObj D (.deferred none)).heap.size = W.heap.size := by simp [World.putObj]
    have hK2 : (W.setCell ⟨w.heap.size, 0, none⟩ (.bool false)).heap[D]? = some (.deferred (some [])) := (Below.heap_setCell W ⟨w.heap.size, 0, none⟩ (.bool false) D (fun e => by have : D = w.heap.size := e; omega)).trans hK
    have HP : Hid (AskPost X p w (fun b => b = true ↔ SeenT xs ks t) (.returned (.bool false)) ((W.setCell ⟨w.heap.size, 0, none⟩ (.bool false)).putObj D (.deferred none))) := by
      refine ⟨false, rfl, ⟨(fun h => by cases h), fun h => absurd (hS.2 h) hnt⟩, ?_, _, N, (hV.out (w' := (W.setCell ⟨w.heap.size, 0, none⟩ (.bool false)).putObj D (.deferred none)) ⟨Nat.le_of_eq hz.symm, fun k hk hn => es k (fun e => hn (Or.inl (Or.inl (Or.inr e)))) (fun e => hn (Or.inr e))⟩).less (fun k hk => Or.inl (Or.inl (Or.inl hk)))⟩
      have hB := (Below.refl 0 W).setCell (p := ⟨w.heap.size, 0, none⟩) (Nat.zero_le _) (.bool false)
      exact kb.trans ⟨hB.os, hB.tape, hB.output, Nat.le_of_eq hz.symm, fun k hk => es k (fun e => hcX (e ▸ hk)) (fun e => hDX (e ▸ hk))⟩
    have hR : ((W.setCell ⟨w.heap.size, 0, none⟩ (.bool false)).putObj D (.deferred none)).cell? ⟨w.heap.size, 0, none⟩ = some (.bool false) := by
      rw [World.cell?_of_block (w := W.setCell ⟨w.heap.size, 0, none⟩ (.bool false)) (a := ⟨w.heap.size, 0, none⟩) (World.putObj_heap_other (by show w.heap.size ≠ D; omega))]
      exact World.cell?_setCell_same' _ _ _ (by rw [c1]; rfl)
    clear hAI hV kb hS es hz
    gi_wp2
    refine ⟨by simp, .inl ⟨_, _, rfl, run_takeDeferred hK2, ?_⟩⟩
    exact ⟨_, res_cell4 rfl _ _ w.heap.size _ rfl hR, HP.out⟩
  case stop =>
    intro D s kd N W hD hAI hV h hK
    obtain ⟨kb, hmem, c1⟩ := h
    have hD1 : w.heap.size + 1 < D := by
      have h1 := Z0.out
      have h3 : W0.heap.size < W1.heap.size := by rw [← hW1]; simp
      omega
    have hDX : ¬ X D := fun h => by have := hv.xlt D h; omega
    have HP : Hid (AskPost X p w (fun b => b = true ↔ SeenT xs ks t) (.returned (.bool true)) (W.putObj D (.deferred none))) := by
      refine ⟨true, rfl, ⟨fun _ => hAI.seenT t hmem, fun _ => rfl⟩, kb.trans (Keep.putObj _ hDX), s, N, (hV.out (Out.putObj _ (Or.inr rfl))).less (fun k hk => Or.inl (Or.inl (Or.inl hk)))⟩
    have hR : (W.putObj D (.deferred none)).cell? ⟨w.heap.size, 0, none⟩ = some (.bool true) := by
      rw [World.cell?_of_block (w := W) (a := ⟨w.heap.size, 0, none⟩) (World.putObj_heap_other (by show w.heap.size ≠ D; omega))]
      exact c1
    clear hAI hV kb
    gi_wp2
    refine ⟨by simp, .inl ⟨_, _, rfl, run_takeDeferred hK, ?_⟩⟩
    exact ⟨_, res_cell4 rfl _ _ w.heap.size _ rfl hR, HP.out⟩
end Go.Proofs.Ytkekfogepdhjhaa
