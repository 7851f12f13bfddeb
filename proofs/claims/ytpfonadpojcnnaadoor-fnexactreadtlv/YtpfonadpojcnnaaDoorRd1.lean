/- The program: what the reader of nodes keeps. -/
import Derived.Test.YtpfonadpojcnnaaDoorRd0
import Derived.Test.YtpfonadpojcnnaaDoorClone
set_option linter.unusedVariables false
set_option maxRecDepth 100000
namespace Go.Proofs.YtpfonadpojcnnaaDoor.Nd
open Go Go.RowKit Go.Joins Own Draw Var

/-- Of what was there, only two blocks and what o names have changed. -/
structure Ch (gb gm : Nat) (o : Option Nat) (w w' : World) : Prop where
  os : w'.os = w.os
  tape : w'.tape = w.tape
  output : w'.output = w.output
  size : w.heap.size ≤ w'.heap.size
  block : ∀ j, j < w.heap.size → j ≠ gb → j ≠ gm → some j ≠ o → w'.heap[j]? = w.heap[j]?
theorem Ch.refl (gb gm : Nat) (o : Option Nat) (w : World) : Ch gb gm o w w := ⟨rfl, rfl, rfl, Nat.le_refl _, fun _ _ _ _ _ => rfl⟩
theorem Ch.below {gb gm : Nat} {o : Option Nat} {w W W' : World} (h : Ch gb gm o w W) (k : Below W.heap.size W W') : Ch gb gm o w W' :=
  ⟨k.os.trans h.os, k.tape.trans h.tape, k.output.trans h.output, Nat.le_trans h.size k.size, fun j hj a b c => (k.block j (Nat.lt_of_lt_of_le hj h.size)).trans (h.block j hj a b c)⟩
theorem Ch.grown {gb gm : Nat} {o o' : Option Nat} {w W W' : World} (h : Ch gb gm o w W) (k : W.grownBy W' o') (ho : ∀ j, o' = some j → j = gb ∨ j = gm ∨ some j = o ∨ w.heap.size ≤ j) : Ch gb gm o w W' :=
  ⟨k.os.trans h.os, k.tape.trans h.tape, k.output.trans h.output, Nat.le_trans h.size k.size, fun j hj a b c => (k.block j (Nat.lt_of_lt_of_le hj h.size) (fun e => by
    rcases ho j e.symm with x | x | x | x
    · exact a x
    · exact b x
    · exact c x
    · omega)).trans (h.block j hj a b c)⟩
theorem Ch.trans {gb gm : Nat} {o o' : Option Nat} {w W W' : World} (h : Ch gb gm o w W) (k : Ch gb gm o' W W') (ho : o' = o ∨ ∃ j, o' = some j ∧ w.heap.size ≤ j) : Ch gb gm o w W' :=
  ⟨k.os.trans h.os, k.tape.trans h.tape, k.output.trans h.output, Nat.le_trans h.size k.size, fun j hj a b c => (k.block j (Nat.lt_of_lt_of_le hj h.size) a b (by
    rcases ho with rfl | ⟨i, rfl, hi⟩
    · exact c
    · intro e; injection e with e; omega)).trans (h.block j hj a b c)⟩
theorem Ch.blk {gb gm g : Nat} {o : Option Nat} {w w' : World} {vs : List Value} (h : Ch gb gm o w w') (t : Blk g vs w) (hl : g < w.heap.size) (h1 : g ≠ gb) (h2 : g ≠ gm) (h3 : some g ≠ o) : Blk g vs w' :=
  ⟨fun i v e => ⟨(World.cell?_of_block (a := ⟨g, i, none⟩) (h.block g hl h1 h2 h3)).trans (t.out i v e).1, (World.frozen?_of_block (a := ⟨g, i, none⟩) (h.block g hl h1 h2 h3)).trans (t.out i v e).2⟩⟩
theorem Ch.rowI {gb gm B : Nat} {o : Option Nat} {w w' : World} {r : Rw Int} (h : Ch gb gm o w w') (hr : RoI B w r) (hb : gb < B) (hm : gm < B) (hn : ∀ j, kB r = some j → some j ≠ o) : RoI B w' r := by
  refine ⟨hr.1, ?_⟩
  rcases hr.2 with e | ⟨g, cap, cur, e, hB, hg, rest⟩
  · exact Or.inl e
  · refine Or.inr ⟨g, cap, cur, e, hB, ?_, rest⟩
    rw [h.block g (Array.getElem?_eq_some_iff.1 hg).1 (by omega) (by omega) (hn g (by unfold kB; rw [e]; rfl))]
    exact hg
/-- The closure that reads. -/
abbrev cloV (gb gr gm : Nat) : Value := .func (.func 18) #[] #[.pointer (some ⟨gb, 0, none⟩), .pointer (some ⟨gr, 0, none⟩), .pointer (some ⟨gm, 0, none⟩)]
def errV (c : Int) : Value := if c = 0 then .nilIface else misV c
def behS (s : ByteArray) (c : Int) (p en : Nat) : ByteArray := if c = 0 then s.extract p en else ⟨#[]⟩
theorem errV_no {c : Int} (h : ¬ c = 0) : errV c = misV c := if_neg h
theorem errV_ok {c : Int} (h : c = 0) : errV c = .nilIface := if_pos h
theorem behS_no {s : ByteArray} {c : Int} {p en : Nat} (h : ¬ c = 0) : behS s c p en = ⟨#[]⟩ := if_neg h
theorem behS_ok {s : ByteArray} {c : Int} {p en : Nat} (h : c = 0) : behS s c p en = s.extract p en := if_pos h
abbrev slT (q : Rw TT) : Value := .slice q.1 q.2.2.length q.2.1
/-- What a call of the reader leaves. -/
def ReadP (s : ByteArray) (R : NdR) (en B gb gm : Nat) (r : Rw TT) (w : World) (e : Ending) (w' : World) : Prop :=
  ∃ q : Rw TT, e = .returned (.tuple #[.string (behS s R.1.2.2 R.2 en), errV R.1.2.2]) ∧ rsT q = R.1.1 ∧ RoT B w' q ∧ Blk gb [.int .i64 R.1.2.1] w' ∧ Blk gm [slT q] w' ∧ Ch gb gm (obT r) w w' ∧ (obT q = obT r ∨ ∃ k, obT q = some k ∧ w.heap.size ≤ k) ∧ (∀ g, g < w.heap.size → Off g r → Off g q) ∧ ApT q
structure LpJ (s : ByteArray) (nd : List PT → Nat → Nat → Nat → NdR) (R : (List PT × Nat × Int) × List Int) (B gb gm gr : Nat) (r0 : Rw TT) (w : World) (gx : Nat) (tg : Int) (to m fr : Nat) (q : Rw TT) (bq : Nat) (kr : Rw Int) (W : World) : Prop where
  fl : fr ≤ to
  fm : to ≤ fr + m
  eq : loopN nd m (rsT q) bq kr.2.2 fr to = R
  bb : Blk gb [.int .i64 bq] W
  bm : Blk gm [slT q] W
  bf : Blk gr [cloV gb gr gm] W
  tx : Blk gx [.int .i64 tg, .bool false, .string ⟨#[]⟩, .slice kr.1 kr.2.2.length kr.2.1] W
  ro : RoT B W q
  ko : RoI B W kr
  ch : Ch gb gm (obT r0) w W
  cu : obT q = obT r0 ∨ ∃ k, obT q = some k ∧ w.heap.size ≤ k
  oX : Off gx q
  ok : ∀ k, kB kr = some k → Off k q ∧ w.heap.size ≤ k ∧ k ≠ gx
  of : ∀ g, g < w.heap.size → Off g r0 → Off g q
  ln : q.2.2.length + 1 ≤ bq
  bt : bq ≤ 60
  ap : ApT q
  kl : kr.2.2.length ≤ fr
theorem ext_size {s : ByteArray} {a en : Nat} (h : en ≤ s.size) : (s.extract a en).size = en - a := by rw [ByteArray.size_extract, Nat.min_eq_left h]
theorem ext_at {s : ByteArray} {a en : Nat} (h : en ≤ s.size) (ha : a < en) : at_ (s.extract a en) 0 = at_ s a := by
  rw [at_is (by rw [ext_size h]; omega), at_is (by omega : a < s.size)]
  congr 1
  rw [ByteArray.getElem_extract]
  congr 1
theorem ext_ext {s : ByteArray} {a en i j : Nat} (h : a + j ≤ en) : (s.extract a en).extract i j = s.extract (a + i) (a + j) := by
  rw [ByteArray.extract_extract, Nat.min_eq_left h]
theorem cut_vr {s : ByteArray} {a en : Nat} (h : en ≤ s.size) (ha : a < en) : vrN (s.extract a en) 0 (s.extract a en).size = vrN s a en ∧ lnN (s.extract a en) 0 (s.extract a en).size = lnN s a en := by
  unfold vrN lnN
  rw [ext_size h, ext_ext (by omega), Nat.zero_add, show a + (en - a) = en by omega]
  exact ⟨rfl, rfl⟩
theorem cut_tg {s : ByteArray} {a en : Nat} (h : en ≤ s.size) (ha : a < en) : tgN (s.extract a en) 0 = tgN s a ∧ lfB (s.extract a en) 0 = lfB s a := by
  unfold tgN lfB
  rw [ext_at h ha]
  exact ⟨rfl, rfl⟩
/-- What is cut, and the step. -/
theorem step_cut (s : ByteArray) (deep : Nat) (nd : List PT → Nat → Nat → Nat → NdR) (out : List PT) (bg a en : Nat) (h60 : ¬ 60 ≤ bg) (he : en ≤ s.size) :
    (cutC (s.extract a en) ((deep : Int) + 1) ≠ 0 → stepN s (decide (deep < 8)) nd out bg a en = ((out, bg + 1, cutC (s.extract a en) ((deep : Int) + 1)), a)) ∧
    (cutC (s.extract a en) ((deep : Int) + 1) = 0 → deep < 8 ∧ a < en ∧ 1 ≤ vrN s a en ∧ a + 1 + vrN s a en + lnN s a en ≤ en ∧
      stepN s (decide (deep < 8)) nd out bg a en = if lfB s a = true then ((out ++ [(tgN s a, true, s.extract (a + 1 + vrN s a en) (a + 1 + vrN s a en + lnN s a en), [])], bg + 1, 0), a + 1 + vrN s a en + lnN s a en)
        else if (loopN nd (lnN s a en) out (bg + 1) [] (a + 1 + vrN s a en) (a + 1 + vrN s a en + lnN s a en)).1.2.2 = 0 then
    (((loopN nd (lnN s a en) out (bg + 1) [] (a + 1 + vrN s a en) (a + 1 + vrN s a en + lnN s a en)).1.1 ++ [(tgN s a, false, ⟨#[]⟩, (loopN nd (lnN s a en) out (bg + 1) [] (a + 1 + vrN s a en) (a + 1 + vrN s a en + lnN s a en)).2)], (loopN nd (lnN s a en) out (bg + 1) [] (a + 1 + vrN s a en) (a + 1 + vrN s a en + lnN s a en)).1.2.1, 0), a + 1 + vrN s a en + lnN s a en)
  else ((loopN nd (lnN s a en) out (bg + 1) [] (a + 1 + vrN s a en) (a + 1 + vrN s a en + lnN s a en)).1, a)) := by
  unfold cutC stepN
  rw [if_neg h60]
  by_cases ha : en ≤ a
  · have h0 : (s.extract a en).size = 0 := by rw [ext_size he]; omega
    rw [if_pos h0, if_pos ha]
    exact ⟨fun _ => rfl, fun c => by cases c⟩
  have ha' : a < en := by omega
  have h0 : ¬ (s.extract a en).size = 0 := by rw [ext_size he]; omega
  rw [if_neg h0, if_neg ha, (cut_tg he ha').1, (cut_vr he ha').1, (cut_vr he ha').2, ext_size he]
  by_cases hb : (decide (1 ≤ tgN s a) && decide (tgN s a ≤ 100)) = false
  · rw [if_pos hb, if_pos hb]
    exact ⟨fun _ => rfl, fun c => by cases c⟩
  rw [if_neg hb, if_neg hb]
  by_cases h8 : deep < 8
  · rw [if_neg (show ¬ 8 < (deep : Int) + 1 by omega), if_neg (show ¬ decide (deep < 8) = false by rw [decide_eq_true h8]; simp)]
    by_cases hv : vrN s a en = 0 ∨ en < a + 1 + vrN s a en + lnN s a en
    · rw [if_pos (show vrN s a en = 0 ∨ en - a < 1 + vrN s a en + lnN s a en by omega), if_pos hv]
      exact ⟨fun _ => rfl, fun c => by cases c⟩
    · rw [if_neg (show ¬ (vrN s a en = 0 ∨ en - a < 1 + vrN s a en + lnN s a en) by omega), if_neg hv]
      exact ⟨fun c => absurd rfl c, fun _ => ⟨h8, ha', by omega, by omega, rfl⟩⟩
  · rw [if_pos (show 8 < (deep : Int) + 1 by omega), if_pos (decide_eq_false h8)]
    exact ⟨fun _ => rfl, fun c => by cases c⟩
end Go.Proofs.YtpfonadpojcnnaaDoor.Nd
