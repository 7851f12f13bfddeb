/- Links in a map by an array of two: what stands in it. -/
import Derived.Test.YtflajkbbggmdjaaKeys
import Derived.Maps.Own
import Derived.Maps.OwnSet
import Derived.Maps.Views
import Derived.WideKeyPair
import Derived.WideKeyEntry
import Derived.DeepKeys4
set_option linter.unusedVariables false
set_option maxRecDepth 100000
namespace Go.Proofs.Ytflajkbbggmdjaa
open Go Go.RowKit Go.WideMaps Go.Maps Go.WideElems

abbrev pv (a b : Int) : Value := .agg #[.int .i64 a, .int .i64 b]
theorem lkLaid : laidOutB Try.prog = true := by kernel_rfl
theorem row79 : (137 : TypeId) < Try.prog.types.size := of_decide_eq_true (by kernel_rfl)
theorem cells79 : Try.prog.cellsOf 137 = 2 := by kernel_rfl
theorem arr79 : ArrKey Try.prog 137 3 2 := ⟨Try.underlying137, by kernel_rfl, by kernel_rfl, cells79⟩
theorem wide79 : (match Try.prog.underlying 137 with | some (.array _ _) | some (.struct _) => true | _ => false) = true := by rw [Try.underlying137]
theorem klaw : KeyLaw Try.prog 137 := deep_law_laid lkLaid (m := 2) (by omega) row79 (by kernel_rfl) wide79
theorem keyd : Keyed Try.prog 137 := Keyed.of_law klaw
theorem typesS : ∃ m, Try.prog.types.size = m + 1 := ⟨_, show Try.prog.types.size = 155 + 1 by kernel_rfl⟩
theorem zero3 (w : World) : (zeroValue 3).run Try.prog w = .ok (.int .i64 0) w := by kernel_rfl
/-- The key of a pair. -/
def kl (a b : Int) : Lit := .string (keyBytes [.int .i64 a, .int .i64 b])
theorem wf_of (a : Int) (h : i64 a) : (Lit.int .i64 a).wf = true := by
  unfold i64 at h
  simp [Lit.wf, IntKind.min, IntKind.max, IntKind.signed, IntKind.bits]
  omega
theorem kl_of {a b : Int} (ha : i64 a) (hb : i64 b) : keyOf Try.prog 137 (pv a b) = some (kl a b) := keyOf_pair arr79 Try.underlying3 typesS (wf_of a ha) (wf_of b hb)
theorem kl_inj {a b c d : Int} (ha : i64 a) (hb : i64 b) (hc : i64 c) (hd : i64 d) (h : kl a b = kl c d) : (a, b) = (c, d) := by
  have h1 := kl_of ha hb
  have h2 := kl_of hc hd
  rw [← h] at h2
  have := klaw.inj h1 h2
  injection this with e
  injection e with e
  simp only [List.cons.injEq, Value.int.injEq, true_and, and_true] at e
  rw [e.1, e.2]
theorem kl_key (a b : Int) : WideAt.IsKeyLit (kl a b) := True.intro

/-- Where a step changes nothing at the one place, nothing changes. -/
theorem modify_same {α : Type} (l : Array α) (j : Nat) (f : α → α) {x : α} (h : l[j]? = some x) (hf : f x = x) : l.modify j f = l := by
  refine Array.ext (Array.size_modify ..) (fun i h1 h2 => ?_)
  rw [Array.getElem_modify]
  by_cases c : j = i
  · rw [if_pos c]
    have hx : l[i] = x := by
      have := Array.getElem?_eq_some_iff.1 h
      obtain ⟨_, hx⟩ := this
      subst c
      exact hx
    rw [hx, hf]
  · rw [if_neg c]
section
variable {H : Type} {P : Program} {w : World} {t k e : TypeId} {R : Value → Option (DataW H × List MemPlace)} {b : Nat} {es : Array MapEntry} {clock : Nat}
/-- An entry that is begun leaves the map as a store of what is there (or of the zero value) does; and that is what is read. -/
theorem entry_upd (K : KeyLaw P k) (ht : P.underlying t = some (.map k e)) {z : Value} (hz : ∀ u : World, (zeroValue e).run P u = .ok z u) (hb : w.heap[b]? = some (.map es clock)) (F : Fit P k R es clock) {key : Value} {kl : Lit} (hkey : keyOf P k key = some kl) :
    ∃ (v0 : Value) (st : Nat) (W2 : World), (Instr.mapEntry t (.map (some b)) key).run P w = .ok (.tuple #[v0, goInt st]) W2 ∧ (Instr.mapUpdate t (.map (some b)) key v0).run P w = .ok () W2 ∧ (Instr.lookup t (.map (some b)) key false).run P w = .ok v0 w := by
  have tU := run_underlying ht (w := w)
  have oG := MapKept.run_getObj_map (P := P) hb
  have oS := fun o => MapKept.run_setObj_map (P := P) o hb
  have kC := fun em => K.check w em hkey
  have kS := K.stays w hkey
  obtain ⟨nf, _⟩ | ⟨j, x, yf, hx, ek⟩ := K.find w hkey es.toList F.keys
  · refine ⟨z, clock, ChangeMaps.setBlock w b (.map (es.push ⟨key, z, clock⟩) (clock + 1)), ?_, ?_, ?_⟩
    · unfold Instr.mapEntry ChangeMaps.setBlock
      simp [tU, oG, kC, nf, hz, oS, Result.andThen]
    · unfold Instr.mapUpdate ChangeMaps.setBlock
      simp [tU, oG, kC, nf, oS, Result.andThen]
    · unfold Instr.lookup
      simp [tU, oG, kC, nf, hz, Result.andThen]
  · have hxa : es[j]? = some x := by simpa using hx
    have same : ∀ f : MapEntry → MapEntry, f x = x → es.modify j f = es := fun f hf => modify_same es j f hxa hf
    subst ek
    refine ⟨x.val, x.born, ChangeMaps.setBlock w b (.map es clock), ?_, ?_, ?_⟩
    · unfold Instr.mapEntry ChangeMaps.setBlock
      simp [tU, oG, kC, yf, hxa, kS, oS, Result.andThen, same (fun y => { y with key := x.key }) rfl]
    · unfold Instr.mapUpdate ChangeMaps.setBlock
      simp [tU, oG, kC, yf, hxa, kS, oS, Result.andThen, same (fun y => { y with key := x.key, val := x.val }) rfl]
    · unfold Instr.lookup
      simp [tU, oG, kC, yf, Result.andThen]
end

/-- The map at block m holds how often each pair stands in xs. -/
def LinkD (xs : List (Int × Int)) (D : DataW Value) : Prop :=
  (∀ a b, i64 a → i64 b → D.atKey (kl a b) (.lit (.int .i64 0)) = .lit (.int .i64 ((xs.count (a, b) : Nat) : Int))) ∧
  (∀ a b, i64 a → i64 b → has D (kl a b) = decide ((a, b) ∈ xs)) ∧ size D ≤ xs.length ∧ (size D = xs.length ↔ xs.Nodup)
def LinkM (m n : Nat) (xs : List (Int × Int)) (w : World) : Prop := ∃ D : DataW Value, w.ownsMap Try.prog 137 (plainElem Try.prog 3) m n D ∧ LinkD xs D
theorem LinkM.kept {m n : Nat} {xs : List (Int × Int)} {w w' : World} (h : LinkM m n xs w) (hb : Below w.heap.size w w') : LinkM m n xs w' := by
  obtain ⟨D, ⟨es, clock, hb', F, hs, hD⟩, hL⟩ := h
  have hlt : m < w.heap.size := (Array.getElem?_eq_some_iff.1 hb').1
  exact ⟨D, ⟨es, clock, (hb.block m hlt).trans hb', F, hs, hD⟩, hL⟩
theorem LinkM.lt {m n : Nat} {xs : List (Int × Int)} {w : World} (h : LinkM m n xs w) : m < w.heap.size := by
  obtain ⟨D, h, _⟩ := h
  exact h.lt
theorem LinkM.made (w : World) : LinkM w.heap.size 0 [] (w.alloc (.map #[] 0)) := by
  refine ⟨_, World.ownsMap_made w Try.prog 137 (plainElem Try.prog 3), ?_, ?_, ?_, ?_⟩
  · intro a b ha hb; rfl
  · intro a b ha hb; rfl
  · exact Nat.le_refl _
  · simp [size]
theorem LinkM.look {m n : Nat} {xs : List (Int × Int)} {w : World} (h : LinkM m n xs w) {a b : Int} (ha : i64 a) (hb : i64 b) :
    (Instr.lookup 130 (.map (some m)) (pv a b) false).run Try.prog w = .ok (.int .i64 ((xs.count (a, b) : Nat) : Int)) w := by
  obtain ⟨D, h, hL⟩ := h
  obtain ⟨c, hrun, hat, hwc⟩ := h.lookup_int keyd Try.underlying130 Try.underlying3 (zero3 w) (kl_of ha hb)
  rw [hL.1 a b ha hb] at hat
  injection hat with e
  injection e with _ e
  rw [hrun, e]
theorem LinkM.len {m n : Nat} {xs : List (Int × Int)} {w : World} (h : LinkM m n xs w) (ty : TypeId) :
    ∃ s : Nat, (Builtin.len_ #[130] ty #[.map (some m)]).run Try.prog w = .ok (.int .i64 s) w ∧ s ≤ xs.length ∧ (s = xs.length ↔ xs.Nodup) := by
  obtain ⟨D, h, hL⟩ := h
  exact ⟨_, h.len Try.underlying130 ty, hL.2.2.1, hL.2.2.2⟩
theorem nodup_snoc {xs : List (Int × Int)} {p : Int × Int} : (xs ++ [p]).Nodup ↔ xs.Nodup ∧ p ∉ xs := by
  rw [List.nodup_append]
  simp only [List.nodup_cons, List.not_mem_nil, not_false_eq_true, List.nodup_nil, and_self, List.mem_cons, or_false, true_and]
  constructor
  · rintro ⟨h, k⟩
    exact ⟨h, fun hp => k p hp p rfl rfl⟩
  · rintro ⟨h, k⟩
    exact ⟨h, fun a ha b hb e => k (by rw [← hb, ← e]; exact ha)⟩
/-- One more of a pair: the entry, what is read of it ahead and behind, and what is stored. -/
theorem LinkM.more {m n : Nat} {xs : List (Int × Int)} {w : World} (h : LinkM m n xs w) (hn : n + 1 < maxLen) {a b : Int} (ha : i64 a) (hb : i64 b) (hx : ∀ p ∈ xs, i64 p.1 ∧ i64 p.2) (hl : xs.length ≤ 1000) :
    ∃ (c st : Nat) (W2 W3 : World), (Instr.lookup 130 (.map (some m)) (pv a b) false).run Try.prog w = .ok (.int .i64 (c : Int)) w ∧
      (Instr.mapEntry 130 (.map (some m)) (pv a b)).run Try.prog w = .ok (.tuple #[.int .i64 (c : Int), goInt st]) W2 ∧
      (Instr.lookup 130 (.map (some m)) (pv a b) false).run Try.prog W2 = .ok (.int .i64 (c : Int)) W2 ∧
      (Instr.entryStore 130 (.map (some m)) (goInt st) (.int .i64 ((c : Int) + 1))).run Try.prog W2 = .ok () W3 ∧
      LinkM m (n + 1) (xs ++ [(a, b)]) W3 ∧ w.grownBy W3 (some m) ∧ c ≤ 1000 := by
  have hlook := h.look ha hb
  obtain ⟨D, ho, hL⟩ := h
  obtain ⟨es, clock, hbk, F, hs, hD⟩ := ho
  have hkey := kl_of ha hb
  obtain ⟨v0, st, W2, e1, e2, e3⟩ := entry_upd klaw Try.underlying130 zero3 hbk F hkey
  rw [hlook] at e3
  injection e3 with e3 _
  subst e3
  have hc : xs.count (a, b) ≤ 1000 := Nat.le_trans List.count_le_length hl
  have hwc : (Lit.int .i64 ((xs.count (a, b) : Nat) : Int)).wf = true := wf_of _ (by unfold i64; omega)
  have hwd : (Lit.int .i64 (((xs.count (a, b) : Nat) : Int) + 1)).wf = true := wf_of _ (by unfold i64; omega)
  have ho : w.ownsMap Try.prog 137 (plainElem Try.prog 3) m n D := ⟨es, clock, hbk, F, hs, hD⟩
  obtain ⟨W2', u1, u2, u3⟩ := ho.update keyd Try.underlying130 (by omega) hkey (plainElem_int Try.underlying3 hwc)
  rw [e2] at u1
  injection u1 with _ u1
  subst u1
  obtain ⟨c2, l1, l2, _⟩ := u2.lookup_int keyd Try.underlying130 Try.underlying3 (zero3 W2) hkey
  rw [atKey_put_same (ho.isMap) (kl_key a b)] at l2
  injection l2 with l2
  injection l2 with _ l2
  subst l2
  obtain ⟨v1, st1, es1, clock1, f1, _, f3⟩ := entry_then_store klaw Try.underlying130 zero3 hbk F hkey
  rw [e1] at f1
  injection f1 with f1 f1w
  injection f1 with f1
  injection f1 with f1
  simp only [List.cons.injEq, and_true] at f1
  obtain ⟨_, f1⟩ := f1
  obtain ⟨es', clock', g1, g2⟩ := f3 W2 (.int .i64 (((xs.count (a, b) : Nat) : Int) + 1)) (by rw [f1w]; exact ChangeMaps.heap_setBlock_same hbk _)
  rw [← f1] at g1
  obtain ⟨W3', v1', v2, v3⟩ := ho.update keyd Try.underlying130 (by omega) hkey (plainElem_int Try.underlying3 hwd)
  rw [g2] at v1'
  injection v1' with _ v1'
  have hW3 : ChangeMaps.setBlock W2 m (.map es' clock') = W3' := by
    rw [← v1', f1w]
    simp [ChangeMaps.setBlock]
  rw [hW3] at g1
  refine ⟨_, st, W2, W3', hlook, e1, l1, g1, ⟨_, v2, ?_, ?_, ?_, ?_⟩, v3, hc⟩
  · intro x y hx1 hy1
    by_cases e : (x, y) = (a, b)
    · simp only [Prod.mk.injEq] at e
      obtain ⟨rfl, rfl⟩ := e
      rw [atKey_put_same ho.isMap (kl_key _ _), List.count_append]
      simp
    · rw [atKey_put_other (fun h => e (kl_inj hx1 hy1 ha hb h)), hL.1 x y hx1 hy1, List.count_append]
      have : List.count (x, y) [(a, b)] = 0 := List.count_eq_zero.2 (by simpa using fun h1 h2 => e (by rw [h1, h2]))
      rw [this]; rfl
  · intro x y hx1 hy1
    by_cases e : (x, y) = (a, b)
    · simp only [Prod.mk.injEq] at e
      obtain ⟨rfl, rfl⟩ := e
      rw [has_put_same ho.isMap (kl_key _ _)]
      simp
    · rw [has_put_other (fun h => e (kl_inj hx1 hy1 ha hb h)), hL.2.1 x y hx1 hy1]
      rw [decide_eq_decide, List.mem_append, List.mem_singleton]
      exact ⟨Or.inl, fun h => h.resolve_right e⟩
  · rw [size_put (ho.tidy keyd), List.length_append]
    have := hL.2.2.1
    split
    · simp; omega
    · simp; omega
  · rw [size_put (ho.tidy keyd), hL.2.1 a b ha hb, List.length_append, nodup_snoc, ← hL.2.2.2]
    have := hL.2.2.1
    by_cases e : (a, b) ∈ xs
    · simp [e]; omega
    · simp [e]
end Go.Proofs.Ytflajkbbggmdjaa
