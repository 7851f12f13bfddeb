/- Requests in a map: what stands in it. -/
import Derived.Test.YtjcmbbnklfemcaaGreatRow3
set_option linter.unusedVariables false
namespace Go.Proofs.YtjcmbbnklfemcaaGreat.Rq
open Go Go.RowKit Go.WideMaps Go.Maps Go.WideElems
set_option maxRecDepth 100000

abbrev A4 := Int × Int × Int × Int
abbrev rv (p : A4) : Value := .agg #[.int .i64 p.1, .int .i64 p.2.1, .int .i64 p.2.2.1, .int .i64 p.2.2.2]
def K4 (p : A4) : Prop := i64 p.1 ∧ i64 p.2.1 ∧ i64 p.2.2.1 ∧ i64 p.2.2.2
theorem rowR : (113 : TypeId) < Tryz.prog.types.size := of_decide_eq_true (by kernel_rfl)
theorem cellsR : Tryz.prog.cellsOf 113 = 4 := by kernel_rfl
theorem ktR : Tryz.prog.keyType 113 = true := by kernel_rfl
theorem wideR : (match Tryz.prog.underlying 113 with | some (.array _ _) | some (.struct _) => true | _ => false) = true := by rw [Tryz.underlying113]
theorem klaw : KeyLaw Tryz.prog 113 := deep_law_laid Ch.smLaid (m := 3) (by omega) rowR (by kernel_rfl) wideR
theorem keyd : Keyed Tryz.prog 113 := Keyed.of_law klaw
def kl (p : A4) : Lit := .string (keyBytes [.int .i64 p.1, .int .i64 p.2.1, .int .i64 p.2.2.1, .int .i64 p.2.2.2])
theorem kl_of {p : A4} (h : K4 p) : keyOf Tryz.prog 113 (rv p) = some (kl p) := by
  obtain ⟨s, a, b, c⟩ := p
  obtain ⟨hs, ha, hb, hc⟩ := h
  dsimp only at hs ha hb hc
  have hlit : ∀ (f : Nat) (n : Int), (Lit.int .i64 n).wf = true → Tryz.prog.keyLits (f + 1) 3 [.int .i64 n] = some [.int .i64 n] := by
    intro f n hn
    unfold Program.keyLits
    simp only [Tryz.underlying3]
    rw [if_pos ⟨trivial, hn⟩]
  have ls := hlit 254 s (Ch.wf_of s hs)
  have la := hlit 253 a (Ch.wf_of a ha)
  have lb := hlit 253 b (Ch.wf_of b hb)
  have lc := hlit 253 c (Ch.wf_of c hc)
  have lau : Tryz.prog.keyLits (254 + 1) 80 [.int .i64 a, .int .i64 b, .int .i64 c] = some [.int .i64 a, .int .i64 b, .int .i64 c] := by
    unfold Program.keyLits
    simp only [Tryz.underlying80]
    rw [if_pos (by rw [Ch.cells28]; exact ⟨rfl, by kernel_rfl⟩), List.mapM_cons, List.mapM_cons, List.mapM_cons, List.mapM_nil]
    simp [Ch.one3, la, lb, lc]
  have hf : (rv (s, a, b, c)).formed Tryz.prog 113 = true := by simp [Value.formed, Tryz.underlying113, cellsR]
  unfold keyOf
  simp only [Tryz.underlying113]
  rw [if_pos (by rw [Bool.and_eq_true]; exact ⟨ktR, hf⟩), Ch.typesS]
  unfold Program.keyLits
  simp only [Tryz.underlying113, Value.cells]
  rw [if_pos (by rw [cellsR]; exact ⟨rfl, by kernel_rfl⟩), List.mapM_cons, List.mapM_cons, List.mapM_nil]
  simp [Ch.one3, Ch.cells28, ls, lau, kl]
theorem kl_inj {p q : A4} (hp : K4 p) (hq : K4 q) (h : kl p = kl q) : p = q := by
  have h1 := kl_of hp
  have h2 := kl_of hq
  rw [← h] at h2
  have := klaw.inj h1 h2
  injection this with e
  injection e with e
  simp only [List.cons.injEq, Value.int.injEq, true_and, and_true] at e
  obtain ⟨a, b, c, d⟩ := p
  obtain ⟨x, y, z, u⟩ := q
  simp only at e
  rw [e.1, e.2.1, e.2.2.1, e.2.2.2]
theorem kl_key (p : A4) : WideAt.IsKeyLit (kl p) := True.intro
def SeenD (xs : List A4) (D : DataW Value) : Prop :=
  (∀ p, K4 p → D.atKey (kl p) (.lit (.int .i64 0)) = .lit (.int .i64 ((xs.count p : Nat) : Int))) ∧
  (∀ p, K4 p → has D (kl p) = decide (p ∈ xs)) ∧ size D ≤ xs.length ∧ (size D = xs.length ↔ xs.Nodup)
def SeenM (m n : Nat) (xs : List A4) (w : World) : Prop := ∃ D : DataW Value, w.ownsMap Tryz.prog 113 (plainElem Tryz.prog 3) m n D ∧ SeenD xs D
theorem SeenM.kept {m n : Nat} {xs : List A4} {w w' : World} (h : SeenM m n xs w) (hb : Below w.heap.size w w') : SeenM m n xs w' := by
  obtain ⟨D, ⟨es, clock, hb', F, hs, hD⟩, hL⟩ := h
  have hlt : m < w.heap.size := (Array.getElem?_eq_some_iff.1 hb').1
  exact ⟨D, ⟨es, clock, (hb.block m hlt).trans hb', F, hs, hD⟩, hL⟩
theorem SeenM.lt {m n : Nat} {xs : List A4} {w : World} (h : SeenM m n xs w) : m < w.heap.size := by
  obtain ⟨D, h, _⟩ := h
  exact h.lt
theorem SeenM.made (w : World) : SeenM w.heap.size 0 [] (w.alloc (.map #[] 0)) := by
  refine ⟨_, World.ownsMap_made w Tryz.prog 113 (plainElem Tryz.prog 3), ?_, ?_, ?_, ?_⟩
  · intro p hp; rfl
  · intro p hp; rfl
  · exact Nat.le_refl _
  · simp [size]
theorem SeenM.look {m n : Nat} {xs : List A4} {w : World} (h : SeenM m n xs w) {p : A4} (hp : K4 p) :
    (Instr.lookup 111 (.map (some m)) (rv p) false).run Tryz.prog w = .ok (.int .i64 ((xs.count p : Nat) : Int)) w := by
  obtain ⟨D, h, hL⟩ := h
  obtain ⟨r, hrun, hat, hwc⟩ := h.lookup_int keyd Tryz.underlying111 Tryz.underlying3 (Ch.zero3 w) (kl_of hp)
  rw [hL.1 p hp] at hat
  injection hat with e
  injection e with _ e
  rw [hrun, e]
theorem SeenM.len {m n : Nat} {xs : List A4} {w : World} (h : SeenM m n xs w) (ty : TypeId) :
    ∃ s : Nat, (Builtin.len_ #[111] ty #[.map (some m)]).run Tryz.prog w = .ok (.int .i64 s) w ∧ s ≤ xs.length ∧ (s = xs.length ↔ xs.Nodup) := by
  obtain ⟨D, h, hL⟩ := h
  exact ⟨_, h.len Tryz.underlying111 ty, hL.2.2.1, hL.2.2.2⟩
theorem nodup_snoc {xs : List A4} {p : A4} : (xs ++ [p]).Nodup ↔ xs.Nodup ∧ p ∉ xs := by
  rw [List.nodup_append]
  simp only [List.nodup_cons, List.not_mem_nil, not_false_eq_true, List.nodup_nil, and_self, List.mem_cons, or_false, true_and]
  constructor
  · rintro ⟨h, k⟩
    exact ⟨h, fun hp => k p hp p rfl rfl⟩
  · rintro ⟨h, k⟩
    exact ⟨h, fun a ha b hb e => k (by rw [← hb, ← e]; exact ha)⟩
theorem SeenM.more {m n : Nat} {xs : List A4} {w : World} (h : SeenM m n xs w) (hn : n + 1 < maxLen) {p : A4} (hp : K4 p) (hl : xs.length ≤ 1000) :
    ∃ (d st : Nat) (W2 W3 : World), (Instr.lookup 111 (.map (some m)) (rv p) false).run Tryz.prog w = .ok (.int .i64 (d : Int)) w ∧
      (Instr.mapEntry 111 (.map (some m)) (rv p)).run Tryz.prog w = .ok (.tuple #[.int .i64 (d : Int), goInt st]) W2 ∧
      (Instr.lookup 111 (.map (some m)) (rv p) false).run Tryz.prog W2 = .ok (.int .i64 (d : Int)) W2 ∧
      (Instr.entryStore 111 (.map (some m)) (goInt st) (.int .i64 ((d : Int) + 1))).run Tryz.prog W2 = .ok () W3 ∧
      SeenM m (n + 1) (xs ++ [p]) W3 ∧ w.grownBy W3 (some m) ∧ w.grownBy W2 (some m) ∧ d ≤ 1000 := by
  have hlook := h.look hp
  obtain ⟨D, ho, hL⟩ := h
  obtain ⟨es, clock, hbk, F, hs, hD⟩ := ho
  have hkey := kl_of hp
  obtain ⟨v0, st, W2, e1, e2, e3⟩ := Ch.entry_upd klaw Tryz.underlying111 Ch.zero3 hbk F hkey
  rw [hlook] at e3
  injection e3 with e3 _
  subst e3
  have hcn : xs.count p ≤ 1000 := Nat.le_trans List.count_le_length hl
  have hwc : (Lit.int .i64 ((xs.count p : Nat) : Int)).wf = true := Ch.wf_of _ (by unfold i64; omega)
  have hwd : (Lit.int .i64 (((xs.count p : Nat) : Int) + 1)).wf = true := Ch.wf_of _ (by unfold i64; omega)
  have ho : w.ownsMap Tryz.prog 113 (plainElem Tryz.prog 3) m n D := ⟨es, clock, hbk, F, hs, hD⟩
  obtain ⟨W2', u1, u2, u3⟩ := ho.update keyd Tryz.underlying111 (by omega) hkey (plainElem_int Tryz.underlying3 hwc)
  rw [e2] at u1
  injection u1 with _ u1
  subst u1
  obtain ⟨c2, l1, l2, _⟩ := u2.lookup_int keyd Tryz.underlying111 Tryz.underlying3 (Ch.zero3 W2) hkey
  rw [atKey_put_same (ho.isMap) (kl_key p)] at l2
  injection l2 with l2
  injection l2 with _ l2
  subst l2
  obtain ⟨v1, st1, es1, clock1, f1, _, f3⟩ := entry_then_store klaw Tryz.underlying111 Ch.zero3 hbk F hkey
  rw [e1] at f1
  injection f1 with f1 f1w
  injection f1 with f1
  injection f1 with f1
  simp only [List.cons.injEq, and_true] at f1
  obtain ⟨_, f1⟩ := f1
  obtain ⟨es', clock', g1, g2⟩ := f3 W2 (.int .i64 (((xs.count p : Nat) : Int) + 1)) (by rw [f1w]; exact ChangeMaps.heap_setBlock_same hbk _)
  rw [← f1] at g1
  obtain ⟨W3', v1', v2, v3⟩ := ho.update keyd Tryz.underlying111 (by omega) hkey (plainElem_int Tryz.underlying3 hwd)
  rw [g2] at v1'
  injection v1' with _ v1'
  have hW3 : ChangeMaps.setBlock W2 m (.map es' clock') = W3' := by
    rw [← v1', f1w]
    simp [ChangeMaps.setBlock]
  rw [hW3] at g1
  refine ⟨_, st, W2, W3', hlook, e1, l1, g1, ⟨_, v2, ?_, ?_, ?_, ?_⟩, v3, u3, hcn⟩
  · intro q hq
    by_cases e : q = p
    · subst e
      rw [atKey_put_same ho.isMap (kl_key _), List.count_append]
      simp
    · rw [atKey_put_other (fun h => e (kl_inj hq hp h)), hL.1 q hq, List.count_append]
      have : List.count q [p] = 0 := List.count_eq_zero.2 (by simpa using e)
      rw [this]; rfl
  · intro q hq
    by_cases e : q = p
    · subst e
      rw [has_put_same ho.isMap (kl_key _)]
      simp
    · rw [has_put_other (fun h => e (kl_inj hq hp h)), hL.2.1 q hq]
      rw [decide_eq_decide, List.mem_append, List.mem_singleton]
      exact ⟨Or.inl, fun h => h.resolve_right e⟩
  · rw [size_put (ho.tidy keyd), List.length_append]
    have := hL.2.2.1
    split
    · simp; omega
    · simp; omega
  · rw [size_put (ho.tidy keyd), hL.2.1 p hp, List.length_append, nodup_snoc, ← hL.2.2.2]
    have := hL.2.2.1
    by_cases e : p ∈ xs
    · simp [e]; omega
    · simp [e]
end Go.Proofs.YtjcmbbnklfemcaaGreat.Rq
