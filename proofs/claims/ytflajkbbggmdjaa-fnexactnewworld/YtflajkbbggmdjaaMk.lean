/- Marks of a Config: what they leave alone. -/
import Derived.Test.YtflajkbbggmdjaaNm1
import Derived.Test.YtflajkbbggmdjaaRe4
set_option linter.unusedVariables false
set_option maxRecDepth 100000
namespace Go.Proofs.Ytflajkbbggmdjaa.Nd
open Go Go.RowKit Go.Joins Own Draw

/-- Only blocks from B on, ahead of T, changed. -/
structure Spn (B T : Nat) (w w' : World) : Prop where
  os : w'.os = w.os
  tape : w'.tape = w.tape
  output : w'.output = w.output
  size : w.heap.size ≤ w'.heap.size
  block : ∀ k, k < w.heap.size → (k < B ∨ T ≤ k) → w'.heap[k]? = w.heap[k]?
theorem Spn.of {B T : Nat} {w w' : World} {r : Option Nat} (h : w.grownBy w' r) (hr : ∀ k, r = some k → B ≤ k ∧ k < T) : Spn B T w w' :=
  ⟨h.os, h.tape, h.output, h.size, fun k hk ho => h.block k hk (fun e => by have := hr k e.symm; omega)⟩
theorem Spn.trans {B T : Nat} {w w1 w2 : World} (h : Spn B T w w1) (k : Spn B T w1 w2) : Spn B T w w2 :=
  ⟨k.os.trans h.os, k.tape.trans h.tape, k.output.trans h.output, Nat.le_trans h.size k.size, fun j hj ho => (k.block j (Nat.lt_of_lt_of_le hj h.size) ho).trans (h.block j hj ho)⟩
theorem Spn.ofBelow {B T : Nat} {w w' : World} (h : Below w.heap.size w w') : Spn B T w w' := ⟨h.os, h.tape, h.output, h.size, fun k hk _ => h.block k hk⟩
theorem Spn.below {B T n : Nat} {w w' : World} (h : Spn B T w w') (hn : n ≤ B) (hw : n ≤ w.heap.size) : Below n w w' := ⟨h.os, h.tape, h.output, h.size, fun k hk => h.block k (by omega) (Or.inl (by omega))⟩
theorem own_spn {B T B' e s n : Nat} {w w' : World} {v : Value} {xs : List Value} (h : w.ownsRow B' e s v n xs) (hs : Spn B T w w') (hk : ∀ k, v.ownBlock = some k → k < B ∨ T ≤ k) : w'.ownsRow B' e s v n xs := by
  refine ⟨h.1, ?_⟩
  rcases h.2 with h0 | ⟨g, cap, cur, e1, e2, e3, e4⟩
  · exact Or.inl h0
  · exact Or.inr ⟨g, cap, cur, e1, e2, (hs.block g (by subst e1; exact (h.lt g rfl).2) (hk g (by subst e1; rfl))).trans e3, e4⟩
theorem Blk.spn {B T g : Nat} {vs : List Value} {w w' : World} (h : Blk g vs w) (hs : Spn B T w w') (hg : g < w.heap.size) (hk : g < B ∨ T ≤ g) : Blk g vs w' :=
  ⟨fun i v e => ⟨(World.cell?_of_block (a := ⟨g, i, none⟩) (hs.block g hg hk)).trans (h.out i v e).1, (World.frozen?_of_block (a := ⟨g, i, none⟩) (hs.block g hg hk)).trans (h.out i v e).2⟩⟩
/-- A row that the call owns stays its own while another is marked, whatever it holds then. -/
theorem own_any {B e s n n' c c' : Nat} {a a' : Option Addr} {w w' : World} {vs us us' : List Value} {e' s' : Nat} (hse : e = e' → s = s') (hs : 0 < s) (h : w.ownsRow B e s (.slice a n c) n vs) (h0 : w.ownsRow B e' s' (.slice a' n' c') n' us) (h1 : w'.ownsRow B e' s' (.slice a' n' c') n' us') (hg : w.grownBy w' (Value.slice a' n' c').ownBlock) : ∃ vs', w'.ownsRow B e s (.slice a n c) n vs' := by
  rcases h.2 with ⟨e1, e2⟩ | ⟨g, cap, cur, e1, hbg, hblk, hnc, hcm, hcs, htk⟩
  · exact ⟨vs, h.1, Or.inl ⟨e1, e2⟩⟩
  · rcases h0.2 with ⟨f1, f2⟩ | ⟨g', cap', cur', f1, hbg', hblk', hnc', hcm', hcs', htk'⟩
    · refine ⟨vs, h.1, Or.inr ⟨g, cap, cur, e1, hbg, ?_, hnc, hcm, hcs, htk⟩⟩
      have hlt := (h.lt g (by rw [e1]; rfl)).2
      rw [f1] at hg
      exact (hg.block g hlt (by simp [Value.ownBlock])).trans hblk
    · rcases h1.2 with ⟨k1, k2⟩ | ⟨g2, cap2, cur2, k1, hbg2, hblk2, hnc2, hcm2, hcs2, htk2⟩
      · rw [f1] at k1; cases k1
      · have hlt := (h.lt g (by rw [e1]; rfl)).2
        rw [f1] at k1 hg
        simp only [Value.slice.injEq, Option.some.injEq, Addr.mk.injEq, true_and, and_true] at k1
        obtain ⟨rfl, rfl⟩ := k1
        by_cases eg : g = g'
        · subst eg
          rw [hblk] at hblk'
          simp only [Option.some.injEq, Obj.cells.injEq, and_true] at hblk'
          obtain ⟨rfl, rfl⟩ := hblk'
          have hss := hse rfl
          subst hss
          have hcc : cap = cap' := by
            have : cap * s = cap' * s := by rw [← hcs, ← hcs']
            exact Nat.eq_of_mul_eq_mul_right hs this
          subst hcc
          refine ⟨cur2.toList.take (n * s), ?_, Or.inr ⟨g, cap, cur2, e1, hbg, hblk2, hnc, hcm, hcs2, rfl⟩⟩
          rw [List.length_take, Array.length_toList, hcs2, Nat.min_eq_left (Nat.mul_le_mul_right _ hnc)]
        · refine ⟨vs, h.1, Or.inr ⟨g, cap, cur, e1, hbg, ?_, hnc, hcm, hcs, htk⟩⟩
          exact (hg.block g hlt (by simp [Value.ownBlock]; exact eg)).trans hblk
set_option maxRecDepth 100000 in
set_option maxHeartbeats 3200000 in
theorem markF_is (B T : Nat) (y : TF) (w : World) (h : OwF B w y) (hT : w.heap.size ≤ T ∨ ∀ v ∈ cF y, ∀ k, v.ownBlock = some k → k < T) (hl : totF y ≤ 1048576) :
    Calls Try.prog 15 #[vF y, .int .i64 1] w fun e w' => (∃ k : Nat, e = .returned (.int .i64 (k : Int)) ∧ 1 ≤ k ∧ k ≤ 10000000) ∧ Spn B T w w' := by
  obtain ⟨⟨ua, uc, us⟩, ⟨sa, sc, ss⟩, ⟨la, lc, ls⟩, ⟨xa, xc, xs⟩, kk⟩ := y
  obtain ⟨hu, hs, hL, hx⟩ := h
  have h1 : us.length ≤ 1048576 ∧ ss.length ≤ 1048576 ∧ ls.length ≤ 1048576 ∧ xs.length ≤ 1048576 := by
    unfold totF rtI rtP at hl
    dsimp only at hl
    omega
  obtain ⟨l1, l2, l3, l4⟩ := h1
  have hT0 : ∀ v ∈ [Value.slice ua us.length uc, .slice sa ss.length sc, .slice la ls.length lc, .slice xa xs.length xc], ∀ k, v.ownBlock = some k → B ≤ k ∧ k < T ∧ k < w.heap.size := by
    intro v hv k hk
    have q : B ≤ k ∧ k < w.heap.size := by
      simp only [List.mem_cons, List.not_mem_nil, or_false] at hv
      rcases hv with rfl | rfl | rfl | rfl
      · exact hu.lt k hk
      · exact hs.lt k hk
      · exact hL.lt k hk
      · exact hx.lt k hk
    refine ⟨q.1, ?_, q.2⟩
    rcases hT with hT | hT
    · omega
    · refine hT v ?_ k hk
      simp only [List.mem_cons, List.not_mem_nil, or_false] at hv
      rcases hv with rfl | rfl | rfl | rfl <;> simp [cF]
  clear hT hl
  have t1 := hT0 _ (by simp : Value.slice ua us.length uc ∈ _)
  have t2 := hT0 _ (by simp : Value.slice sa ss.length sc ∈ _)
  have t3 := hT0 _ (by simp : Value.slice la ls.length lc ∈ _)
  have t4 := hT0 _ (by simp : Value.slice xa xs.length xc ∈ _)
  clear hT0
  obtain ⟨V, hV⟩ : ∃ V, w.alloc (.cells #[.slice ua us.length uc, .slice sa ss.length sc, .slice la ls.length lc, .slice xa xs.length xc, .int .i64 kk] 30) = V := ⟨_, rfl⟩
  have TV : Blk w.heap.size [.slice ua us.length uc, .slice sa ss.length sc, .slice la ls.length lc, .slice xa xs.length xc, .int .i64 kk] V := by rw [← hV]; exact Blk.new _ _ _
  have BC : Below w.heap.size w V := by rw [← hV]; exact (Below.refl _ _).alloc (Nat.le_refl _) _
  have SP : Spn B T w V := Spn.ofBelow BC
  have sV : w.heap.size < V.heap.size := TV.lt
  replace hu := own_later hu BC
  replace hs := own_later hs BC
  replace hL := own_later hL BC
  replace hx := own_later hx BC
  clear BC
  have d0 := TV.at 0 rfl
  go_enter Try.func15, Try.ntmps15
  go_wp2_with fail
  try rw [hV]
  refine (markI_is B 1 _ _ _ _ V hu (by omega) (by omega)).mono ?_
  clear hV d0
  rintro e w1 ⟨rfl, m1, g1⟩
  obtain ⟨_, hsn⟩ := own_any (fun _ => rfl) (by decide) hs hu m1 g1
  obtain ⟨_, hLn⟩ := own_any (fun e => absurd e (by decide)) (by decide) hL hu m1 g1
  obtain ⟨_, hxn⟩ := own_any (fun e => absurd e (by decide)) (by decide) hx hu m1 g1
  clear hu hs hL hx m1
  have hs := hsn
  clear hsn
  have hL := hLn
  clear hLn
  have hx := hxn
  clear hxn
  replace TV := Blk.spn TV (Spn.of (B := B) (T := w.heap.size) g1 (fun k e => ⟨(t1 k e).1, (t1 k e).2.2⟩)) TV.lt (Or.inr (Nat.le_refl _))
  replace SP := SP.trans (Spn.of g1 (fun k e => ⟨(t1 k e).1, (t1 k e).2.1⟩))
  clear g1 t1
  have d1 := TV.at 1 rfl
  go_wp2_with fail
  refine (markI_is B (1 + us.length) _ _ _ _ w1 hs (by omega) (by omega)).mono ?_
  clear d1
  rintro e w2 ⟨rfl, m2, g2⟩
  obtain ⟨_, hLn⟩ := own_any (fun e => absurd e (by decide)) (by decide) hL hs m2 g2
  obtain ⟨_, hxn⟩ := own_any (fun e => absurd e (by decide)) (by decide) hx hs m2 g2
  clear hs hL hx m2
  have hL := hLn
  clear hLn
  have hx := hxn
  clear hxn
  replace TV := Blk.spn TV (Spn.of (B := B) (T := w.heap.size) g2 (fun k e => ⟨(t2 k e).1, (t2 k e).2.2⟩)) TV.lt (Or.inr (Nat.le_refl _))
  replace SP := SP.trans (Spn.of g2 (fun k e => ⟨(t2 k e).1, (t2 k e).2.1⟩))
  clear g2 t2
  have d2 := TV.at 2 rfl
  go_wp2_with fail
  refine (markP_is B (1 + us.length + ss.length) _ _ _ _ w2 hL (by omega) (by omega)).mono ?_
  clear d2
  rintro e w3 ⟨rfl, m3, g3⟩
  obtain ⟨_, hxn⟩ := own_any (fun _ => rfl) (by decide) hx hL m3 g3
  clear hL hx m3
  have hx := hxn
  clear hxn
  replace TV := Blk.spn TV (Spn.of (B := B) (T := w.heap.size) g3 (fun k e => ⟨(t3 k e).1, (t3 k e).2.2⟩)) TV.lt (Or.inr (Nat.le_refl _))
  replace SP := SP.trans (Spn.of g3 (fun k e => ⟨(t3 k e).1, (t3 k e).2.1⟩))
  clear g3 t3
  have d3 := TV.at 3 rfl
  go_wp2_with fail
  refine (markP_is B (1 + us.length + ss.length + ls.length * 2) _ _ _ _ w3 hx (by omega) (by omega)).mono ?_
  clear d3
  rintro e w4 ⟨rfl, m4, g4⟩
  clear hx m4
  replace TV := Blk.spn TV (Spn.of (B := B) (T := w.heap.size) g4 (fun k e => ⟨(t4 k e).1, (t4 k e).2.2⟩)) TV.lt (Or.inr (Nat.le_refl _))
  replace SP := SP.trans (Spn.of g4 (fun k e => ⟨(t4 k e).1, (t4 k e).2.1⟩))
  clear g4 t4
  have HK : Hid (1 ≤ 1 + us.length + ss.length + ls.length * 2 + xs.length * 2 ∧ 1 + us.length + ss.length + ls.length * 2 + xs.length * 2 ≤ 10000000) := by show _ ∧ _; omega
  go_wp2
  go_ret
  exact ⟨⟨_, rfl, HK.out⟩, SP⟩
end Go.Proofs.Ytflajkbbggmdjaa.Nd
