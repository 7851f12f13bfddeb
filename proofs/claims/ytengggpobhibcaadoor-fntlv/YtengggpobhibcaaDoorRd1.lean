/- The program: what the reader of nodes keeps. -/
import Derived.Test.YtengggpobhibcaaDoorRd0
import Derived.Test.YtengggpobhibcaaDoorClone
import Derived.Test.YtengggpobhibcaaDoorTd3
set_option linter.unusedVariables false
set_option maxRecDepth 100000
namespace Go.Proofs.YtengggpobhibcaaDoor.Nd
open Go Go.RowKit Go.Joins Own Draw Var

/-- Of what was there, only two blocks and what o names have changed. -/
structure ChR (gb gm : Nat) (o : Option Nat) (w w' : World) : Prop where
  os : w'.os = w.os
  tape : w'.tape = w.tape
  output : w'.output = w.output
  size : w.heap.size ≤ w'.heap.size
  block : ∀ j, j < w.heap.size → j ≠ gb → j ≠ gm → some j ≠ o → w'.heap[j]? = w.heap[j]?
theorem ChR.refl (gb gm : Nat) (o : Option Nat) (w : World) : ChR gb gm o w w := ⟨rfl, rfl, rfl, Nat.le_refl _, fun _ _ _ _ _ => rfl⟩
theorem ChR.below {gb gm : Nat} {o : Option Nat} {w W W' : World} (h : ChR gb gm o w W) (k : Below W.heap.size W W') : ChR gb gm o w W' :=
  ⟨k.os.trans h.os, k.tape.trans h.tape, k.output.trans h.output, Nat.le_trans h.size k.size, fun j hj a b c => (k.block j (Nat.lt_of_lt_of_le hj h.size)).trans (h.block j hj a b c)⟩
theorem ChR.grown {gb gm : Nat} {o o' : Option Nat} {w W W' : World} (h : ChR gb gm o w W) (k : W.grownBy W' o') (ho : ∀ j, o' = some j → j = gb ∨ j = gm ∨ some j = o ∨ w.heap.size ≤ j) : ChR gb gm o w W' :=
  ⟨k.os.trans h.os, k.tape.trans h.tape, k.output.trans h.output, Nat.le_trans h.size k.size, fun j hj a b c => (k.block j (Nat.lt_of_lt_of_le hj h.size) (fun e => by
    rcases ho j e.symm with x | x | x | x
    · exact a x
    · exact b x
    · exact c x
    · omega)).trans (h.block j hj a b c)⟩
theorem ChR.trans {gb gm : Nat} {o o' : Option Nat} {w W W' : World} (h : ChR gb gm o w W) (k : ChR gb gm o' W W') (ho : o' = o ∨ ∃ j, o' = some j ∧ w.heap.size ≤ j) : ChR gb gm o w W' :=
  ⟨k.os.trans h.os, k.tape.trans h.tape, k.output.trans h.output, Nat.le_trans h.size k.size, fun j hj a b c => (k.block j (Nat.lt_of_lt_of_le hj h.size) a b (by
    rcases ho with rfl | ⟨i, rfl, hi⟩
    · exact c
    · intro e; injection e with e; omega)).trans (h.block j hj a b c)⟩
theorem ChR.blk {gb gm g : Nat} {o : Option Nat} {w w' : World} {vs : List Value} (h : ChR gb gm o w w') (t : Blk g vs w) (hl : g < w.heap.size) (h1 : g ≠ gb) (h2 : g ≠ gm) (h3 : some g ≠ o) : Blk g vs w' :=
  ⟨fun i v e => ⟨(World.cell?_of_block (a := ⟨g, i, none⟩) (h.block g hl h1 h2 h3)).trans (t.out i v e).1, (World.frozen?_of_block (a := ⟨g, i, none⟩) (h.block g hl h1 h2 h3)).trans (t.out i v e).2⟩⟩
theorem ChR.rowI {gb gm B : Nat} {o : Option Nat} {w w' : World} {r : Rw Int} (h : ChR gb gm o w w') (hr : RoI B w r) (hb : gb < B) (hm : gm < B) (hn : ∀ j, kB r = some j → some j ≠ o) : RoI B w' r := by
  refine ⟨hr.1, ?_⟩
  rcases hr.2 with e | ⟨g, cap, cur, e, hB, hg, rest⟩
  · exact Or.inl e
  · refine Or.inr ⟨g, cap, cur, e, hB, ?_, rest⟩
    rw [h.block g (Array.getElem?_eq_some_iff.1 hg).1 (by omega) (by omega) (hn g (by unfold kB; rw [e]; rfl))]
    exact hg
/-- The closure that reads. -/
abbrev cloV (gb gr gm : Nat) : Value := .func (.func 31) #[] #[.pointer (some ⟨gb, 0, none⟩), .pointer (some ⟨gr, 0, none⟩), .pointer (some ⟨gm, 0, none⟩)]
def errV (c : Int) : Value := if c = 0 then .nilIface else misV c
def behS (s : ByteArray) (c : Int) (p en : Nat) : ByteArray := if c = 0 then s.extract p en else ⟨#[]⟩
theorem errV_no {c : Int} (h : ¬ c = 0) : errV c = misV c := if_neg h
theorem errV_ok {c : Int} (h : c = 0) : errV c = .nilIface := if_pos h
theorem behS_no {s : ByteArray} {c : Int} {p en : Nat} (h : ¬ c = 0) : behS s c p en = ⟨#[]⟩ := if_neg h
theorem behS_ok {s : ByteArray} {c : Int} {p en : Nat} (h : c = 0) : behS s c p en = s.extract p en := if_pos h
abbrev slR (q : Rw TT) : Value := .slice q.1 q.2.2.length q.2.1
/-- What a call of the reader leaves. -/
def ReadP (s : ByteArray) (R : NdR) (en B gb gm : Nat) (r : Rw TT) (w : World) (e : Ending) (w' : World) : Prop :=
  ∃ q : Rw TT, e = .returned (.tuple #[.string (behS s R.1.2.2 R.2 en), errV R.1.2.2]) ∧ rsT q = R.1.1 ∧ RoT B w' q ∧ Blk gb [.int .i64 R.1.2.1] w' ∧ Blk gm [slR q] w' ∧ ChR gb gm (obT r) w w' ∧ (obT q = obT r ∨ ∃ k, obT q = some k ∧ w.heap.size ≤ k) ∧ (∀ g, g < w.heap.size → Off g r → Off g q) ∧ ApT q
structure LpJ (s : ByteArray) (nd : List PT → Nat → Nat → Nat → NdR) (R : (List PT × Nat × Int) × List Int) (B gb gm gr : Nat) (r0 : Rw TT) (w : World) (gx : Nat) (tg : Int) (to m fr : Nat) (q : Rw TT) (bq : Nat) (kr : Rw Int) (W : World) : Prop where
  fl : fr ≤ to
  fm : to ≤ fr + m
  eq : loopN nd m (rsT q) bq kr.2.2 fr to = R
  bb : Blk gb [.int .i64 bq] W
  bm : Blk gm [slR q] W
  bf : Blk gr [cloV gb gr gm] W
  tx : Blk gx [.int .i64 tg, .bool false, .string ⟨#[]⟩, .slice kr.1 kr.2.2.length kr.2.1] W
  ro : RoT B W q
  ko : RoI B W kr
  ch : ChR gb gm (obT r0) w W
  cu : obT q = obT r0 ∨ ∃ k, obT q = some k ∧ w.heap.size ≤ k
  oX : Off gx q
  ok : ∀ k, kB kr = some k → Off k q ∧ w.heap.size ≤ k ∧ k ≠ gx
  of : ∀ g, g < w.heap.size → Off g r0 → Off g q
  ln : q.2.2.length + 1 ≤ bq
  bt : bq ≤ 60
  ap : ApT q
  kl : kr.2.2.length ≤ fr
theorem ext_size {s : ByteArray} {a en : Nat} (h : en ≤ s.size) : (s.extract a en).size = en - a := by rw [ByteArray.size_extract, Nat.min_eq_left h]
theorem ext_at {s : ByteArray} {a en : Nat} (h : en ≤ s.size) (ha : a < en) : at_ (s.extract a en) 0 = at_ s a := by
  rw [at_is (by rw [ext_size h]; omega), at_is (by omega : a < s.size)]
  congr 1
  rw [ByteArray.getElem_extract]
  congr 1
theorem ext_ext {s : ByteArray} {a en i j : Nat} (h : a + j ≤ en) : (s.extract a en).extract i j = s.extract (a + i) (a + j) := by
  rw [ByteArray.extract_extract, Nat.min_eq_left h]
theorem cut_vr {s : ByteArray} {a en : Nat} (h : en ≤ s.size) (ha : a < en) : vrN (s.extract a en) 0 (s.extract a en).size = vrN s a en ∧ lnN (s.extract a en) 0 (s.extract a en).size = lnN s a en := by
  unfold vrN lnN
  rw [ext_size h, ext_ext (by omega), Nat.zero_add, show a + (en - a) = en by omega]
  exact ⟨rfl, rfl⟩
theorem cut_tg {s : ByteArray} {a en : Nat} (h : en ≤ s.size) (ha : a < en) : tgN (s.extract a en) 0 = tgN s a ∧ lfB (s.extract a en) 0 = lfB s a := by
  unfold tgN lfB
  rw [ext_at h ha]
  exact ⟨rfl, rfl⟩
/-- What is cut, and the step. -/
theorem step_cut (s : ByteArray) (deep : Nat) (nd : List PT → Nat → Nat → Nat → NdR) (out : List PT) (bg a en : Nat) (h60 : ¬ 60 ≤ bg) (he : en ≤ s.size) :
    (cutC (s.extract a en) ((deep : Int) + 1) ≠ 0 → stepN s (decide (deep < 8)) nd out bg a en = ((out, bg + 1, cutC (s.extract a en) ((deep : Int) + 1)), a)) ∧
    (cutC (s.extract a en) ((deep : Int) + 1) = 0 → deep < 8 ∧ a < en ∧ 1 ≤ vrN s a en ∧ a + 1 + vrN s a en + lnN s a en ≤ en ∧
      stepN s (decide (deep < 8)) nd out bg a en = if lfB s a = true then ((out ++ [(tgN s a, true, s.extract (a + 1 + vrN s a en) (a + 1 + vrN s a en + lnN s a en), [])], bg + 1, 0), a + 1 + vrN s a en + lnN s a en)
        else if (loopN nd (lnN s a en) out (bg + 1) [] (a + 1 + vrN s a en) (a + 1 + vrN s a en + lnN s a en)).1.2.2 = 0 then
    (((loopN nd (lnN s a en) out (bg + 1) [] (a + 1 + vrN s a en) (a + 1 + vrN s a en + lnN s a en)).1.1 ++ [(tgN s a, false, ⟨#[]⟩, (loopN nd (lnN s a en) out (bg + 1) [] (a + 1 + vrN s a en) (a + 1 + vrN s a en + lnN s a en)).2)], (loopN nd (lnN s a en) out (bg + 1) [] (a + 1 + vrN s a en) (a + 1 + vrN s a en + lnN s a en)).1.2.1, 0), a + 1 + vrN s a en + lnN s a en)
  else ((loopN nd (lnN s a en) out (bg + 1) [] (a + 1 + vrN s a en) (a + 1 + vrN s a en + lnN s a en)).1, a)) := by
  unfold cutC stepN
  rw [if_neg h60]
  by_cases ha : en ≤ a
  · have h0 : (s.extract a en).size = 0 := by rw [ext_size he]; omega
    rw [if_pos h0, if_pos ha]
    exact ⟨fun _ => rfl, fun c => by cases c⟩
  have ha' : a < en := by omega
  have h0 : ¬ (s.extract a en).size = 0 := by rw [ext_size he]; omega
  rw [if_neg h0, if_neg ha, (cut_tg he ha').1, (cut_vr he ha').1, (cut_vr he ha').2, ext_size he]
  by_cases hb : (decide (1 ≤ tgN s a) && decide (tgN s a ≤ 100)) = false
  · rw [if_pos hb, if_pos hb]
    exact ⟨fun _ => rfl, fun c => by cases c⟩
  rw [if_neg hb, if_neg hb]
  by_cases h8 : deep < 8
  · rw [if_neg (show ¬ 8 < (deep : Int) + 1 by omega), if_neg (show ¬ decide (deep < 8) = false by rw [decide_eq_true h8]; simp)]
    by_cases hv : vrN s a en = 0 ∨ en < a + 1 + vrN s a en + lnN s a en
    · rw [if_pos (show vrN s a en = 0 ∨ en - a < 1 + vrN s a en + lnN s a en by omega), if_pos hv]
      exact ⟨fun _ => rfl, fun c => by cases c⟩
    · rw [if_neg (show ¬ (vrN s a en = 0 ∨ en - a < 1 + vrN s a en + lnN s a en) by omega), if_neg hv]
      exact ⟨fun c => absurd rfl c, fun _ => ⟨h8, ha', by omega, by omega, rfl⟩⟩
  · rw [if_pos (show 8 < (deep : Int) + 1 by omega), if_pos (decide_eq_false h8)]
    exact ⟨fun _ => rfl, fun c => by cases c⟩
end Go.Proofs.YtengggpobhibcaaDoor.Nd

set_option linter.unusedVariables false
set_option maxRecDepth 100000
namespace Go.Proofs.YtengggpobhibcaaDoor.Nd
open Go Go.RowKit Go.Joins Own Draw Var

def szOf : Value → Nat
  | .string b => b.size
  | _ => 0
theorem szOf_ext {s : ByteArray} {a en : Nat} (h : en ≤ s.size) : szOf (.string (s.extract a en)) = en - a := ext_size h
set_option maxRecDepth 100000 in
set_option maxHeartbeats 6400000 in
theorem rstep_is (s : ByteArray) (hs : s.size ≤ 900) (deep : Nat) (hd8 : deep ≤ 8) (B gb gm gr : Nat) (hgb : gb < B) (hgm : gm < B) (hgr : gr < B) (n1 : gb ≠ gm) (n2 : gb ≠ gr) (n3 : gm ≠ gr) (nd : List PT → Nat → Nat → Nat → NdR) (hok : deep < 8 → NdOk nd s.size)
    (hnd : deep < 8 → ∀ (r : Rw TT) (bg a en : Nat) (w : World), B ≤ w.heap.size → RoT B w r → ApT r → r.2.2.length ≤ bg → bg ≤ 60 → a ≤ en → en ≤ s.size → Blk gb [.int .i64 bg] w → Blk gm [slR r] w → Blk gr [cloV gb gr gm] w → Calls Tryd.prog 31 #[.string (s.extract a en), .int .i64 ((deep : Int) + 1 + 1), .pointer (some ⟨gb, 0, none⟩), .pointer (some ⟨gr, 0, none⟩), .pointer (some ⟨gm, 0, none⟩)] w fun e w' => ReadP s (nd (rsT r) bg a en) en B gb gm r w e w')
    (r : Rw TT) (bg a en : Nat) (w : World) (hB : B ≤ w.heap.size) (hr : RoT B w r) (hap : ApT r) (hl : r.2.2.length ≤ bg) (hb : bg ≤ 60) (ha : a ≤ en) (he : en ≤ s.size) (bb : Blk gb [.int .i64 bg] w) (bm : Blk gm [slR r] w) (bf : Blk gr [cloV gb gr gm] w) :
    Calls Tryd.prog 31 #[.string (s.extract a en), .int .i64 ((deep : Int) + 1), .pointer (some ⟨gb, 0, none⟩), .pointer (some ⟨gr, 0, none⟩), .pointer (some ⟨gm, 0, none⟩)] w fun e w' => ReadP s (stepN s (decide (deep < 8)) nd (rsT r) bg a en) en B gb gm r w e w' := by
  obtain ⟨it, hit, hits⟩ := info_T
  obtain ⟨oa, oc, xs⟩ := r
  dsimp only [slR] at hl bm ⊢
  have q0 := bb.at 0 rfl
  have fq := bb.fz 0 rfl
  go_enter Tryd.func31, Tryd.ntmps31
  by_cases h60 : bg = 60
  · have c60 : ((bg : Int) == 60) = true := by rw [h60]; rfl
    have HV : Hid (stepN s (decide (deep < 8)) nd (rsT (oa, oc, xs)) bg a en = ((rsT (oa, oc, xs), bg, 4), a)) := by show _ = _; unfold stepN; rw [if_pos (show 60 ≤ bg by omega)]
    clear hok hnd h60
    go_wp2
    go_ret2
    exact ⟨(oa, oc, xs), by rw [HV.out]; rfl, by rw [HV.out], hr, by rw [HV.out]; exact bb, bm, ChR.refl _ _ _ _, Or.inl rfl, fun _ _ h => h, hap⟩
  have h6n : ¬ 60 ≤ bg := by omega
  have c60 : ((bg : Int) == 60) = false := by rw [beq_eq_false_iff_ne]; omega
  obtain ⟨U, hU⟩ : ∃ U, w.setCell ⟨gb, 0, none⟩ (.int .i64 ((bg : Int) + 1)) = U := ⟨_, rfl⟩
  have bb1 : Blk gb [.int .i64 ((bg : Int) + 1)] U := by rw [← hU]; exact bb.set 0 _
  have bm1 : Blk gm [.slice oa xs.length oc] U := by rw [← hU]; exact bm.far (by omega) 0 _
  have bf1 : Blk gr [cloV gb gr gm] U := by rw [← hU]; exact bf.far (by omega) 0 _
  have hr1 : RoT B U (oa, oc, xs) := by rw [← hU]; exact hr.far (set_grown w gb 0 _) hgb
  have ch1 : ChR gb gm (obT (oa, oc, xs)) w U := by rw [← hU]; exact (ChR.refl _ _ _ _).grown (set_grown w gb 0 _) (fun j e => by injection e with e; exact Or.inl e.symm)
  have sU : U.heap.size = w.heap.size := by rw [← hU]; simp
  have KC := cut_is (s.extract a en) (by rw [ext_size he]; omega) ((deep : Int) + 1) U
  go_wp2_with fail
  try rw [hU]
  refine KC.mono ?_
  clear KC
  rintro ex u1 ⟨hcase, hbu⟩
  have bb2 := bb1.later hbu bb1.lt
  have bm2 := bm1.later hbu bm1.lt
  have bf2 := bf1.later hbu bf1.lt
  have hr2 := RoT.later hr1 hbu
  have ch2 := ch1.below hbu
  have s2 : w.heap.size ≤ u1.heap.size := by rw [← sU]; exact hbu.size
  clear bb1 bm1 bf1 hr1 ch1 hbu hU q0 fq
  have SC := step_cut s deep nd (rsT (oa, oc, xs)) bg a en (by omega) he
  rcases hcase with ⟨hc, rfl⟩ | ⟨hc, rfl⟩
  · obtain ⟨c, hcE⟩ : ∃ c, cutC (s.extract a en) ((deep : Int) + 1) = c := ⟨_, rfl⟩
    have HVa := SC.1 hc
    rw [hcE] at hc HVa ⊢
    have HV : Hid (stepN s (decide (deep < 8)) nd (rsT (oa, oc, xs)) bg a en = ((rsT (oa, oc, xs), bg + 1, c), a)) := HVa
    obtain ⟨X0, hX0⟩ : ∃ Y, u1.alloc (.cells #[.int .i64 0, .bool false, .string ⟨#[]⟩, .slice none 0 0] 61) = Y := ⟨_, rfl⟩
    have TX0 : Blk u1.heap.size zC X0 := by rw [← hX0]; exact Blk.new _ _ _
    have BX0 : Below u1.heap.size u1 X0 := by rw [← hX0]; exact (Below.refl _ _).alloc (Nat.le_refl _) _
    obtain ⟨X, hX⟩ : ∃ Y, X0.setCells u1.heap.size 0 zC = Y := ⟨_, rfl⟩
    have BX : Below u1.heap.size u1 X := by rw [← hX]; exact below_sets (Nat.le_refl _) _ _ _ BX0
    clear hok hnd SC HVa hcE
    go_wp2_with (first | (refine wpList_stB 61 _ _ u1.heap.size 0 _ zC it hit TX0 hits.symm (by simp) rfl rfl rfl rfl rfl ?_; rw [hX]))
    go_ret2
    exact ⟨(oa, oc, xs), by rw [HV.out]; dsimp only; rw [errV_no hc, behS_no hc]; rfl, by rw [HV.out], RoT.later hr2 BX, by rw [HV.out]; exact bb2.later BX bb2.lt, bm2.later BX bm2.lt, ch2.below BX, Or.inl rfl, fun _ _ h => h, hap⟩
  obtain ⟨h8, hae, hv1, hv2, HST0⟩ := SC.2 hc
  clear SC hc c60
  obtain ⟨k, hk⟩ : ∃ k, vrN s a en = k := ⟨_, rfl⟩
  obtain ⟨n, hn⟩ : ∃ n, lnN s a en = n := ⟨_, rfl⟩
  rw [hk, hn] at hv2 HST0
  rw [hk] at hv1
  have e1 : (s.extract a en).extract (1 + k) (1 + k + n) = s.extract (a + 1 + k) (a + 1 + k + n) := by rw [ext_ext (by omega)]; congr 1 <;> omega
  have e2 : (s.extract a en).extract (1 + k + n) (s.extract a en).size = s.extract (a + 1 + k + n) en := by rw [ext_size he, ext_ext (by omega)]; congr 1 <;> omega
  rw [(cut_vr he hae).1, (cut_vr he hae).2, (cut_tg he hae).1, (cut_tg he hae).2, hk, hn, e1, e2]
  clear e1 e2 hk hn
  have hobw : ∀ j, obT (oa, oc, xs) = some j → B ≤ j ∧ j < u1.heap.size := fun j e => World.ownsRow.lt hr2.1 j e
  obtain ⟨X0, hX0⟩ : ∃ Y, u1.alloc (.cells #[.int .i64 0, .bool false, .string ⟨#[]⟩, .slice none 0 0] 61) = Y := ⟨_, rfl⟩
  have TX0 : Blk u1.heap.size zC X0 := by rw [← hX0]; exact Blk.new _ _ _
  have BX0 : Below u1.heap.size u1 X0 := by rw [← hX0]; exact (Below.refl _ _).alloc (Nat.le_refl _) _
  by_cases hlf : lfB s a = true
  · rw [hlf]
    rw [if_pos hlf] at HST0
    have HV : Hid (stepN s (decide (deep < 8)) nd (rsT (oa, oc, xs)) bg a en = ((rsT (oa, oc, xs) ++ [stT ((tgN s a, true, s.extract (a + 1 + k) (a + 1 + k + n), (none, 0, [])) : TT)], bg + 1, 0), a + 1 + k + n)) := HST0
    have HVt := show Hid (_ = _) from (by have := HV.out; rw [decide_eq_true h8] at this; exact this)
    obtain ⟨X, hX⟩ : ∃ Y, X0.setCells u1.heap.size 0 [.int .i64 (tgN s a), .bool true, .string ⟨#[]⟩, .slice none 0 0] = Y := ⟨_, rfl⟩
    have TX : Blk u1.heap.size [.int .i64 (tgN s a), .bool true, .string ⟨#[]⟩, .slice none 0 0] X := by rw [← hX]; exact TX0.sets _ rfl
    have BX : Below u1.heap.size u1 X := by rw [← hX]; exact below_sets (Nat.le_refl _) _ _ _ BX0
    have x1 := TX.at 1 rfl
    have KS := Tryd.strings_Clone (s.extract (a + 1 + k) (a + 1 + k + n)) X (by rw [ext_size (by omega)]; omega)
    clear hok hnd HST0
    go_wp2_with (first | (refine wpList_stB 61 _ _ u1.heap.size 0 _ [.int .i64 (tgN s a), .bool true, .string ⟨#[]⟩, .slice none 0 0] it hit TX0 hits.symm (by simp) rfl rfl rfl rfl rfl ?_; rw [hX]))
    refine KS.mono ?_
    clear KS x1
    rintro ex u2 ⟨rfl, hb3⟩
    have TX2 := TX.later hb3 TX.lt
    have B2 : Below u1.heap.size u1 u2 := BX.trans (hb3.mono BX.size)
    have x2 := TX2.at 2 rfl
    have z2 := TX2.fz 2 rfl
    obtain ⟨Y, hY⟩ : ∃ Y, u2.setCell ⟨u1.heap.size, 2, none⟩ (.string (s.extract (a + 1 + k) (a + 1 + k + n))) = Y := ⟨_, rfl⟩
    have TY : Blk u1.heap.size [.int .i64 (tgN s a), .bool true, .string (s.extract (a + 1 + k) (a + 1 + k + n)), .slice none 0 0] Y := by rw [← hY]; exact TX2.set 2 _
    have BY : Below u1.heap.size u1 Y := by rw [← hY]; exact B2.setCell (Nat.le_refl _) _
    have sY : u1.heap.size < Y.heap.size := TY.lt
    have bbY := bb2.later BY bb2.lt
    have bmY := bm2.later BY bm2.lt
    have chY := ch2.below BY
    have roY := RoT.later hr2 BY
    go_wp2
    try rw [hY]
    obtain ⟨YA, hYA⟩ : ∃ Z, Y.alloc (.cells #[.int .i64 (tgN s a), .bool true, .string (s.extract (a + 1 + k) (a + 1 + k + n)), .slice none 0 0] 61) = Z := ⟨_, rfl⟩
    have TA : Blk Y.heap.size [.int .i64 (tgN s a), .bool true, .string (s.extract (a + 1 + k) (a + 1 + k + n)), .slice none 0 0] YA := by rw [← hYA]; exact Blk.new _ _ _
    have BYA : Below Y.heap.size Y YA := by rw [← hYA]; exact (Below.refl _ _).alloc (Nat.le_refl _) _
    have ROA : RoT B YA (oa, oc, xs) := RoT.later roY BYA
    have KOA : RoI B YA (none, 0, []) := World.ownsRow_nil _ _ _ _
    have BBA := bbY.later BYA bbY.lt
    have BMA := bmY.later BYA bmY.lt
    have CHA := chY.below BYA
    obtain ⟨jt, hjt, hjz, hjs, hjb⟩ := parts_of info44
    have sYA : Y.heap.size < YA.heap.size := TA.lt
    have hBA : B ≤ YA.heap.size := by omega
    have m0 := bmY.at 0 rfl
    refine wp_loop_rounds 1 ?_
    rw [rounds_succ]
    go_wp2_with (first | (refine wpList_ldB 61 _ u1.heap.size 0 _ [.int .i64 (tgN s a), .bool true, .string (s.extract (a + 1 + k) (a + 1 + k + n)), .slice none 0 0] it hit (Tryd.isAgg61) TY hits.symm rfl rfl rfl rfl ?_) | (at_builtin; first | refine wpList_append_where _ rfl _ _ 24 rfl B 61 jt _ 4 56 Tryd.underlying24 hjt hjz hjs hjb rfl (by decide) _ _ _ rfl ROA.1 ⟨Y.heap.size, 0, none⟩ 1 1 [.int .i64 (tgN s a), .bool true, .string (s.extract (a + 1 + k) (a + 1 + k + n)), .slice none 0 0] rfl rfl (news_box TA) (fun u hu => by simp at hu; rcases hu with rfl | rfl | rfl | rfl <;> rfl) ?c3 ?c4 hBA (by decide) ?_ | (rw [hYA]; refine wpList_append_where _ rfl _ _ 24 rfl B 61 jt _ 4 56 Tryd.underlying24 hjt hjz hjs hjb rfl (by decide) _ _ _ rfl ROA.1 ⟨Y.heap.size, 0, none⟩ 1 1 [.int .i64 (tgN s a), .bool true, .string (s.extract (a + 1 + k) (a + 1 + k + n)), .slice none 0 0] rfl rfl (news_box TA) (fun u hu => by simp at hu; rcases hu with rfl | rfl | rfl | rfl <;> rfl) ?c3 ?c4 hBA (by decide) ?_)))
    case c3 => unfold maxLen; (try dsimp only); omega
    case c4 => (try dsimp only); omega
    intro vA wA ownA hgA hwA
    obtain ⟨na, nc, rfl, _⟩ := own_shape ownA
    try dsimp only at ownA hwA ⊢
    obtain ⟨RA, CA, OA⟩ := put_mem (x := ((tgN s a, true, s.extract (a + 1 + k) (a + 1 + k + n), (none, 0, [])) : TT)) ROA KOA ownA hgA hwA
    dsimp only at RA CA OA
    have hlo : ∀ j, obT (oa, oc, xs) = some j → B ≤ j := fun j e => (World.ownsRow.lt ROA.1 j e).1
    have BMB := blk_kept BMA hgA (fun e => by have := hlo gm e.symm; omega) BMA.lt
    have BBB := blk_kept BBA hgA (fun e => by have := hlo gb e.symm; omega) BBA.lt
    have b0 := BMB.at 0 rfl
    have bz := BMB.fz 0 rfl
    have BMF := BMB.set 0 (.slice na (xs.length + 1) nc)
    have BBF := BBB.far (g' := gm) (by omega) 0 (.slice na (xs.length + 1) nc)
    have RF := RA.far (set_grown wA gm 0 (.slice na (xs.length + 1) nc)) hgm
    have CHF := (CHA.grown hgA (fun j e => by
        rcases (Or.inl rfl : obT (oa, oc, xs) = obT (oa, oc, xs) ∨ ∃ k, obT (oa, oc, xs) = some k ∧ w.heap.size ≤ k) with c | ⟨i, c, hi⟩
        · exact Or.inr (Or.inr (Or.inl (e.symm.trans c)))
        · exact Or.inr (Or.inr (Or.inr (by have e3 := e.symm.trans c; injection e3 with e3; omega))))).grown (set_grown wA gm 0 (.slice na (xs.length + 1) nc)) (fun j e => by injection e with e; exact Or.inr (Or.inl e.symm))
    have CUF : obT (na, nc, xs ++ [((tgN s a, true, s.extract (a + 1 + k) (a + 1 + k + n), (none, 0, [])) : TT)]) = obT (oa, oc, xs) ∨ ∃ j, obT (na, nc, xs ++ [((tgN s a, true, s.extract (a + 1 + k) (a + 1 + k + n), (none, 0, [])) : TT)]) = some j ∧ w.heap.size ≤ j := by
      rcases CA with e | e
      · rw [e]; exact (Or.inl rfl : obT (oa, oc, xs) = obT (oa, oc, xs) ∨ ∃ k, obT (oa, oc, xs) = some k ∧ w.heap.size ≤ k)
      · exact Or.inr ⟨_, e, by omega⟩
    have OFF : ∀ g, g < w.heap.size → Off g (oa, oc, xs) → Off g (na, nc, xs ++ [((tgN s a, true, s.extract (a + 1 + k) (a + 1 + k + n), (none, 0, [])) : TT)]) := fun g hg ho => OA g (by omega) (ho) (fun e => by cases e)
    have APF : ApT (na, nc, xs ++ [((tgN s a, true, s.extract (a + 1 + k) (a + 1 + k + n), (none, 0, [])) : TT)]) := ap_put (r := (oa, oc, xs)) hap (fun j e => by cases e)
    go_wp2
    go_ret2
    exact ⟨(na, nc, xs ++ [((tgN s a, true, s.extract (a + 1 + k) (a + 1 + k + n), (none, 0, [])) : TT)]), by first | (rw [HV.out]; rfl) | (rw [HVt.out]; rfl), by first | (rw [HV.out]; simp [rsT]) | (rw [HVt.out]; simp [rsT]), RF, by first | (rw [HV.out]; exact BBF) | (rw [HVt.out]; exact BBF), by simpa [slR, List.length_append] using BMF, CHF, CUF, OFF, APF⟩
  rw [Bool.eq_false_iff.2 hlf]
  rw [if_neg hlf] at HST0
  obtain ⟨R, hR⟩ : ∃ R, (loopN nd n (rsT (oa, oc, xs)) (bg + 1) [] (a + 1 + k) (a + 1 + k + n)) = R := ⟨_, rfl⟩
  rw [hR] at HST0
  have HST : Hid (stepN s (decide (deep < 8)) nd (rsT (oa, oc, xs)) bg a en = if R.1.2.2 = 0 then ((R.1.1 ++ [(tgN s a, false, ⟨#[]⟩, R.2)], R.1.2.1, 0), a + 1 + k + n) else (R.1, a)) := HST0
  obtain ⟨X, hX⟩ : ∃ Y, X0.setCells u1.heap.size 0 [.int .i64 (tgN s a), .bool false, .string ⟨#[]⟩, .slice none 0 0] = Y := ⟨_, rfl⟩
  have TX : Blk u1.heap.size [.int .i64 (tgN s a), .bool false, .string ⟨#[]⟩, .slice none 0 0] X := by rw [← hX]; exact TX0.sets _ rfl
  have BX : Below u1.heap.size u1 X := by rw [← hX]; exact below_sets (Nat.le_refl _) _ _ _ BX0
  have x1 := TX.at 1 rfl
  have hsX : u1.heap.size < X.heap.size := TX.lt
  have HI : Hid (LpJ s nd R B gb gm gr (oa, oc, xs) w u1.heap.size (tgN s a) (a + 1 + k + n) n (a + 1 + k) (oa, oc, xs) (bg + 1) (none, 0, []) X) := {
    fl := by omega
    fm := Nat.le_refl _
    eq := hR
    bb := bb2.later BX bb2.lt
    bm := bm2.later BX bm2.lt
    bf := bf2.later BX bf2.lt
    tx := TX
    ro := RoT.later hr2 BX
    ko := World.ownsRow_nil _ _ _ _
    ch := ch2.below BX
    cu := Or.inl rfl
    oX := off_ge hr2 (Nat.le_refl _)
    ok := fun j e => by cases e
    of := fun _ _ h => h
    ln := by dsimp only; omega
    bt := by omega
    ap := hap
    kl := Nat.zero_le _
    }
  clear HST0 hR bb2 bm2 bf2 hr2 ch2 BX0 bb bm bf hr h60 h6n
  go_wp2_with (first | (refine wpList_stB 61 _ _ u1.heap.size 0 _ [.int .i64 (tgN s a), .bool false, .string ⟨#[]⟩, .slice none 0 0] it hit TX0 hits.symm (by simp) rfl rfl rfl rfl rfl ?_; rw [hX]))
  clear TX TX0 BX hX x1 hX0
  go_loopw [10] (fun iv wr => ∃ (m fr : Nat) (q : Rw TT) (bq : Nat) (kr : Rw Int), iv = .string (s.extract fr (a + 1 + k + n)) ∧ Hid (LpJ s nd R B gb gm gr (oa, oc, xs) w u1.heap.size (tgN s a) (a + 1 + k + n) m fr q bq kr wr) ∧ u1.heap.size < wr.heap.size) (fun iv _ => szOf iv)
  case atStart => exact ⟨n, a + 1 + k, (oa, oc, xs), bg + 1, (none, 0, []), rfl, HI, hsX⟩
  case round =>
    obtain ⟨m, fr, ⟨qa, qc, ys⟩, bq, ⟨ka, kc, ks⟩, rfl, hI, hgx⟩ := hrel
    have i_bb := hI.out.bb
    have i_bm := hI.out.bm
    have i_bf := hI.out.bf
    have i_tx := hI.out.tx
    have i_ro := hI.out.ro
    have i_ko := hI.out.ko
    have i_ch := hI.out.ch
    have i_cu := hI.out.cu
    have i_oX := hI.out.oX
    have i_ok := hI.out.ok
    have i_of := hI.out.of
    have i_ln := hI.out.ln
    have i_bt := hI.out.bt
    have i_ap := hI.out.ap
    have i_kl := hI.out.kl
    have i_fl := hI.out.fl
    have i_fm := hI.out.fm
    have i_eq := hI.out.eq
    dsimp only [slR] at i_bm i_tx i_ln i_kl i_eq
    clear hI HI
    have hBw : B ≤ wr.heap.size := by omega
    have hts : a + 1 + k + n ≤ s.size := by omega
    have hsz2 : (s.extract fr (a + 1 + k + n)).size = a + 1 + k + n - fr := ext_size hts
    have hlo : ∀ j, obT (qa, qc, ys) = some j → B ≤ j := fun j e => (World.ownsRow.lt i_ro.1 j e).1
    by_cases hlt : fr < a + 1 + k + n
    · have hne := neR_nil (s.extract fr (a + 1 + k + n)) (by rw [hsz2]; omega)
      cases m with
      | zero => exfalso; omega
      | succ m =>
        unfold loopN at i_eq
        rw [if_pos hlt] at i_eq
        have KC := hnd h8 (qa, qc, ys) bq fr (a + 1 + k + n) wr hBw i_ro i_ap (by dsimp only; omega) i_bt i_fl hts i_bb i_bm i_bf
        have gN := hok h8 (rsT (qa, qc, ys)) bq fr (a + 1 + k + n) i_bt i_fl hts
        generalize hN : nd (rsT (qa, qc, ys)) bq fr (a + 1 + k + n) = N1 at KC gN i_eq
        clear hN hnd hok
        have f0 := i_bf.at 0 rfl
        have HS : Hid (_ = _) := hsz2
        clear hsz2
        go_wp2_with fail
        refine KC.mono ?_
        clear KC f0
        rintro ex W1 ⟨⟨pa, pc, zs⟩, rfl, hz, ro1, bb1, bm1, ch1, cu1, of1, ap1⟩
        try dsimp only [slR] at hz bm1
        have hzl : N1.1.1.length = zs.length := by rw [← hz]; simp [rsT]
        have hs1 : wr.heap.size ≤ W1.heap.size := ch1.size
        have tx1 := ch1.blk i_tx hgx (by omega) (by omega) (fun e => i_oX.1 e.symm)
        have bf1 := ch1.blk i_bf i_bf.lt (by omega) (by omega) (fun e => by have := hlo gr e.symm; omega)
        have ko1 := ch1.rowI i_ko hgb hgm (fun j e c => (i_ok j e).1.1 c.symm)
        have oX1 := of1 u1.heap.size hgx i_oX
        have ok1 : ∀ j, kB (ka, kc, ks) = some j → Off j (pa, pc, zs) ∧ w.heap.size ≤ j ∧ j ≠ u1.heap.size := fun j e => ⟨of1 j (World.ownsRow.lt i_ko j e).2 (i_ok j e).1, (i_ok j e).2⟩
        have chw := i_ch.trans ch1 i_cu
        have cuw : obT (pa, pc, zs) = obT (oa, oc, xs) ∨ ∃ j, obT (pa, pc, zs) = some j ∧ w.heap.size ≤ j := by
          rcases cu1 with e | ⟨j, e, hj⟩
          · rw [e]; exact i_cu
          · exact Or.inr ⟨j, e, by omega⟩
        have ofw : ∀ g, g < w.heap.size → Off g (oa, oc, xs) → Off g (pa, pc, zs) := fun g hg ho => of1 g (by omega) (i_of g hg ho)
        clear i_bb i_bm i_bf i_tx i_ro i_ko i_ok i_of hlo ch1 i_ch i_cu cu1 of1 i_oX
        by_cases hc : N1.1.2.2 = 0
        rotate_left
        · rw [if_neg hc] at i_eq
          have HV : Hid (stepN s (decide (deep < 8)) nd (rsT (oa, oc, xs)) bg a en = (N1.1, a)) := by show _ = _; rw [HST.out, ← i_eq]; exact if_neg hc
          have HVt := show Hid (_ = _) from (by have := HV.out; rw [decide_eq_true h8] at this; exact this)
          have he0 := errV_no hc
          have hb0 : behS s N1.1.2.2 a en = ⟨#[]⟩ := behS_no hc
          rw [errV_no hc, behS_no hc]
          have HE : Hid (_ = _) := he0
          have HB0 : Hid (_ = _) := hb0
          clear HST i_eq hc he0 hb0 gN
          go_wp2
          go_ret2
          exact ⟨(pa, pc, zs), by first | (rw [HV.out]; dsimp only; rw [HE.out, HB0.out]; rfl) | (rw [HVt.out]; dsimp only; rw [HE.out, HB0.out]; rfl), by first | (rw [HV.out]; exact hz) | (rw [HVt.out]; exact hz), ro1, by first | (rw [HV.out]; exact bb1) | (rw [HVt.out]; exact bb1), bm1, chw, cuw, ofw, ap1⟩
        rw [if_pos hc, hzl, ← hz] at i_eq
        have gk := gN.ok hc
        have gz : 1 ≤ zs.length := by have := gk.2.2; omega
        have gr3 := gN.rel
        have gtop := gN.top
        rw [hzl] at gr3
        have gl2 : (rsT (qa, qc, ys)).length = ys.length := by simp [rsT]
        have hz60 : zs.length ≤ 60 := by omega
        have hzi : (1 : Int) ≤ (zs.length : Int) ∧ (zs.length : Int) ≤ 60 := by omega
        obtain ⟨W5, hW5⟩ : ∃ Y, W1.alloc (.cells #[.int .i64 ((zs.length : Int) - 1)] 3) = Y := ⟨_, rfl⟩
        have tk5 : Blk W1.heap.size [.int .i64 ((zs.length : Int) - 1)] W5 := by rw [← hW5]; exact Blk.new _ _ _
        have b5 : Below W1.heap.size W1 W5 := by rw [← hW5]; exact (Below.refl _ _).alloc (Nat.le_refl _) _
        have s5 : W1.heap.size < W5.heap.size := tk5.lt
        have bb5 := bb1.later b5 bb1.lt
        have bm5 := bm1.later b5 bm1.lt
        have bf5 := bf1.later b5 bf1.lt
        have tx5 := tx1.later b5 tx1.lt
        have ro5 := RoT.later ro1 b5
        have ko5 : RoI B W5 (ka, kc, ks) := RoI.later ko1 b5
        have x3 := tx1.at 3 rfl
        have q1 := bm1.at 0 rfl
        obtain ⟨j3, hj3, hjz, hjs, hjb⟩ := parts_of info3
        have hB5 : B ≤ W5.heap.size := by omega
        rw [errV_ok hc, behS_ok hc]
        have HC : Hid (N1.1.2.2 = 0) := hc
        clear hc
        go_wp2_with (first | (at_builtin; first | refine wpList_append_where _ rfl _ _ 59 rfl B 3 j3 _ 1 8 Tryd.underlying59 hj3 hjz hjs hjb rfl (by decide) _ _ _ rfl ko5 ⟨W1.heap.size, 0, none⟩ 1 1 [.int .i64 ((zs.length : Int) - 1)] rfl rfl (news_box tk5) (fun u hu => by simp at hu; subst hu; rfl) ?c3 ?c4 hB5 (by decide) ?_ | (rw [hW5]; refine wpList_append_where _ rfl _ _ 59 rfl B 3 j3 _ 1 8 Tryd.underlying59 hj3 hjz hjs hjb rfl (by decide) _ _ _ rfl ko5 ⟨W1.heap.size, 0, none⟩ 1 1 [.int .i64 ((zs.length : Int) - 1)] rfl rfl (news_box tk5) (fun u hu => by simp at hu; subst hu; rfl) ?c3 ?c4 hB5 (by decide) ?_)))
        case c3 => unfold maxLen; omega
        case c4 => omega
        intro vK wK ownK hgK hwK
        obtain ⟨na, nc, rfl, _⟩ := own_shape ownK
        try dsimp only at ownK hwK ⊢
        have rk : RoI B wK (na, nc, ks ++ [((zs.length : Int) - 1)]) := kput (kr := (ka, kc, ks)) ownK
        have hkb : kB (na, nc, ks ++ [((zs.length : Int) - 1)]) = (Value.slice na (ks.length + 1) nc).ownBlock := by unfold kB; dsimp only; rw [List.length_append, List.length_singleton]
        have ok6 : ∀ j, kB (na, nc, ks ++ [((zs.length : Int) - 1)]) = some j → Off j (pa, pc, zs) ∧ w.heap.size ≤ j ∧ j ≠ u1.heap.size := fun j e => by
          rw [hkb] at e
          rcases hwK with h | h
          · exact ok1 j (h.symm.trans e)
          · have e2 := h.symm.trans e
            injection e2 with e2
            subst e2
            exact ⟨off_ge ro5 (Nat.le_refl _), by omega, by omega⟩
        have hkl : ∀ j, kB (ka, kc, ks) = some j → B ≤ j := fun j e => (World.ownsRow.lt ko1 j e).1
        have bb6 := blk_keptO bb5 hgK (fun j e => by have := hkl j e; omega) bb5.lt
        have bm6 := blk_keptO bm5 hgK (fun j e => by have := hkl j e; omega) bm5.lt
        have bf6 := blk_keptO bf5 hgK (fun j e => by have := hkl j e; omega) bf5.lt
        have tx6 := blk_keptO tx5 hgK (fun j e => (ok1 j e).2.2) tx5.lt
        have ro6 := ro5.offO hgK (fun j e => (ok1 j e).1)
        have ch6 := (chw.below b5).grown hgK (fun j e => Or.inr (Or.inr (Or.inr (ok1 j e).2.1)))
        have y3 := tx6.at 3 rfl
        have yz := tx6.fz 3 rfl
        have tx7 := tx6.set 3 (.slice na (ks.length + 1) nc)
        have bb7 := bb6.far (g' := u1.heap.size) (by omega) 3 (.slice na (ks.length + 1) nc)
        have bm7 := bm6.far (g' := u1.heap.size) (by omega) 3 (.slice na (ks.length + 1) nc)
        have bf7 := bf6.far (g' := u1.heap.size) (by omega) 3 (.slice na (ks.length + 1) nc)
        have ro7 := ro6.off (set_grown wK u1.heap.size 3 (.slice na (ks.length + 1) nc)) oX1
        have rk7 := set_far (g := u1.heap.size) rk (.slice na (ks.length + 1) nc) 3 (fun j e => (ok6 j e).2.2)
        have ch7 := ch6.grown (set_grown wK u1.heap.size 3 (.slice na (ks.length + 1) nc)) (fun j e => by injection e with e; exact Or.inr (Or.inr (Or.inr (by omega))))
        have s7 : u1.heap.size < (wK.setCell ⟨u1.heap.size, 3, none⟩ (.slice na (ks.length + 1) nc)).heap.size := tx7.lt
        obtain ⟨W7, hW7⟩ : ∃ Y, wK.setCell ⟨u1.heap.size, 3, none⟩ (.slice na (ks.length + 1) nc) = Y := ⟨_, rfl⟩
        rw [hW7] at tx7 bb7 bm7 bf7 ro7 rk7 ch7 s7
        have HJ : Hid (LpJ s nd R B gb gm gr (oa, oc, xs) w u1.heap.size (tgN s a) (a + 1 + k + n) m N1.2 (pa, pc, zs) N1.1.2.1 (na, nc, ks ++ [((zs.length : Int) - 1)]) W7) := {
          fl := gk.2.1
          fm := by have := gk.1; omega
          eq := i_eq
          bb := bb7
          bm := bm7
          bf := bf7
          tx := by simpa [List.length_append] using tx7
          ro := ro7
          ko := rk7
          ch := ch7
          cu := cuw
          oX := oX1
          ok := ok6
          of := ofw
          ln := by dsimp only; omega
          bt := gtop
          ap := ap1
          kl := by have := gk.1; simp; omega
          }
        have hms : szOf (.string (s.extract N1.2 (a + 1 + k + n))) < szOf (.string (s.extract fr (a + 1 + k + n))) := by rw [szOf_ext hts, szOf_ext hts]; have := gk.1; omega
        clear tx7 bb7 bm7 bf7 ro7 rk7 ch7 tx6 bb6 bm6 bf6 ro6 ch6 tx5 bb5 bm5 bf5 ro5 ko5 tx1 bb1 bm1 bf1 ro1 ko1 rk ok6 ok1 ofw cuw oX1 i_eq HST hgK ownK hwK tk5 b5 gN chw hkl hkb
        go_wp2
        exact ⟨⟨m, N1.2, _, _, _, rfl, HJ, s7⟩, hms⟩
    · have hfe : fr = a + 1 + k + n := by omega
      have hne := nil_size (s.extract fr (a + 1 + k + n)) (by rw [hsz2]; omega)
      have hRe : R = ((rsT (qa, qc, ys), bq, 0), ks) := by
        rw [← i_eq]
        cases m with
        | zero => rfl
        | succ m => unfold loopN; rw [if_neg hlt]
      have HV : Hid (stepN s (decide (deep < 8)) nd (rsT (oa, oc, xs)) bg a en = ((rsT (qa, qc, ys) ++ [stT ((tgN s a, false, ⟨#[]⟩, (ka, kc, ks)) : TT)], bq, 0), a + 1 + k + n)) := by show _ = _; rw [HST.out, hRe]; rfl
      have HVt := show Hid (_ = _) from (by have := HV.out; rw [decide_eq_true h8] at this; exact this)
      clear HST i_eq hRe hsz2 hlo
      obtain ⟨YA, hYA⟩ : ∃ Z, wr.alloc (.cells #[.int .i64 (tgN s a), .bool false, .string ⟨#[]⟩, .slice ka ks.length kc] 61) = Z := ⟨_, rfl⟩
      have TA : Blk wr.heap.size [.int .i64 (tgN s a), .bool false, .string ⟨#[]⟩, .slice ka ks.length kc] YA := by rw [← hYA]; exact Blk.new _ _ _
      have BYA : Below wr.heap.size wr YA := by rw [← hYA]; exact (Below.refl _ _).alloc (Nat.le_refl _) _
      have ROA : RoT B YA (qa, qc, ys) := RoT.later i_ro BYA
      have KOA : RoI B YA (ka, kc, ks) := RoI.later i_ko BYA
      have BBA := i_bb.later BYA i_bb.lt
      have BMA := i_bm.later BYA i_bm.lt
      have CHA := i_ch.below BYA
      obtain ⟨jt, hjt, hjz, hjs, hjb⟩ := parts_of info44
      have sYA : wr.heap.size < YA.heap.size := TA.lt
      have hBA : B ≤ YA.heap.size := by omega
      have m0 := i_bm.at 0 rfl
      clear hnd hok
      go_wp2_with (first | (refine wpList_ldB 61 _ u1.heap.size 0 _ [.int .i64 (tgN s a), .bool false, .string ⟨#[]⟩, .slice ka ks.length kc] it hit (Tryd.isAgg61) i_tx hits.symm rfl rfl rfl rfl ?_) | (at_builtin; first | refine wpList_append_where _ rfl _ _ 24 rfl B 61 jt _ 4 56 Tryd.underlying24 hjt hjz hjs hjb rfl (by decide) _ _ _ rfl ROA.1 ⟨wr.heap.size, 0, none⟩ 1 1 [.int .i64 (tgN s a), .bool false, .string ⟨#[]⟩, .slice ka ks.length kc] rfl rfl (news_box TA) (fun u hu => by simp at hu; rcases hu with rfl | rfl | rfl | rfl <;> rfl) ?c3 ?c4 hBA (by decide) ?_ | (rw [hYA]; refine wpList_append_where _ rfl _ _ 24 rfl B 61 jt _ 4 56 Tryd.underlying24 hjt hjz hjs hjb rfl (by decide) _ _ _ rfl ROA.1 ⟨wr.heap.size, 0, none⟩ 1 1 [.int .i64 (tgN s a), .bool false, .string ⟨#[]⟩, .slice ka ks.length kc] rfl rfl (news_box TA) (fun u hu => by simp at hu; rcases hu with rfl | rfl | rfl | rfl <;> rfl) ?c3 ?c4 hBA (by decide) ?_)))
      case c3 => unfold maxLen; (try dsimp only); omega
      case c4 => (try dsimp only); omega
      intro vA wA ownA hgA hwA
      obtain ⟨na, nc, rfl, _⟩ := own_shape ownA
      try dsimp only at ownA hwA ⊢
      obtain ⟨RA, CA, OA⟩ := put_mem (x := ((tgN s a, false, ⟨#[]⟩, (ka, kc, ks)) : TT)) ROA KOA ownA hgA hwA
      dsimp only at RA CA OA
      have hlo : ∀ j, obT (qa, qc, ys) = some j → B ≤ j := fun j e => (World.ownsRow.lt ROA.1 j e).1
      have BMB := blk_kept BMA hgA (fun e => by have := hlo gm e.symm; omega) BMA.lt
      have BBB := blk_kept BBA hgA (fun e => by have := hlo gb e.symm; omega) BBA.lt
      have b0 := BMB.at 0 rfl
      have bz := BMB.fz 0 rfl
      have BMF := BMB.set 0 (.slice na (ys.length + 1) nc)
      have BBF := BBB.far (g' := gm) (by omega) 0 (.slice na (ys.length + 1) nc)
      have RF := RA.far (set_grown wA gm 0 (.slice na (ys.length + 1) nc)) hgm
      have CHF := (CHA.grown hgA (fun j e => by
        rcases i_cu with c | ⟨i, c, hi⟩
        · exact Or.inr (Or.inr (Or.inl (e.symm.trans c)))
        · exact Or.inr (Or.inr (Or.inr (by have e3 := e.symm.trans c; injection e3 with e3; omega))))).grown (set_grown wA gm 0 (.slice na (ys.length + 1) nc)) (fun j e => by injection e with e; exact Or.inr (Or.inl e.symm))
      have CUF : obT (na, nc, ys ++ [((tgN s a, false, ⟨#[]⟩, (ka, kc, ks)) : TT)]) = obT (oa, oc, xs) ∨ ∃ j, obT (na, nc, ys ++ [((tgN s a, false, ⟨#[]⟩, (ka, kc, ks)) : TT)]) = some j ∧ w.heap.size ≤ j := by
        rcases CA with e | e
        · rw [e]; exact i_cu
        · exact Or.inr ⟨_, e, by omega⟩
      have OFF : ∀ g, g < w.heap.size → Off g (oa, oc, xs) → Off g (na, nc, ys ++ [((tgN s a, false, ⟨#[]⟩, (ka, kc, ks)) : TT)]) := fun g hg ho => OA g (by omega) (i_of g hg ho) (fun e => by have := (i_ok g e).2.1; omega)
      have APF : ApT (na, nc, ys ++ [((tgN s a, false, ⟨#[]⟩, (ka, kc, ks)) : TT)]) := ap_put (r := (qa, qc, ys)) i_ap (fun j e => (i_ok j e).1.2)
      go_wp2
      go_ret2
      exact ⟨(na, nc, ys ++ [((tgN s a, false, ⟨#[]⟩, (ka, kc, ks)) : TT)]), by first | (rw [HV.out]; rfl) | (rw [HVt.out]; rfl), by first | (rw [HV.out]; simp [rsT]) | (rw [HVt.out]; simp [rsT]), RF, by first | (rw [HV.out]; exact BBF) | (rw [HVt.out]; exact BBF), by simpa [slR, List.length_append] using BMF, CHF, CUF, OFF, APF⟩
end Go.Proofs.YtengggpobhibcaaDoor.Nd

set_option linter.unusedVariables false
set_option maxRecDepth 100000
namespace Go.Proofs.YtengggpobhibcaaDoor.Nd
open Go Go.RowKit Go.Joins Own Draw Var

theorem rnode_is (s : ByteArray) (hs : s.size ≤ 900) (B gb gm gr : Nat) (hgb : gb < B) (hgm : gm < B) (hgr : gr < B) (n1 : gb ≠ gm) (n2 : gb ≠ gr) (n3 : gm ≠ gr) : ∀ (f deep : Nat), deep + f = 8 → ∀ (r : Rw TT) (bg a en : Nat) (w : World), B ≤ w.heap.size → RoT B w r → ApT r → r.2.2.length ≤ bg → bg ≤ 60 → a ≤ en → en ≤ s.size → Blk gb [.int .i64 bg] w → Blk gm [slR r] w → Blk gr [cloV gb gr gm] w →
    Calls Tryd.prog 31 #[.string (s.extract a en), .int .i64 ((deep : Int) + 1), .pointer (some ⟨gb, 0, none⟩), .pointer (some ⟨gr, 0, none⟩), .pointer (some ⟨gm, 0, none⟩)] w fun e w' => ReadP s (nodeN s f (rsT r) bg a en) en B gb gm r w e w'
  | 0, deep, hd, r, bg, a, en, w, h1, h2, h3, h4, h5, h6, h7, k1, k2, k3 => by
    have := rstep_is s hs deep (by omega) B gb gm gr hgb hgm hgr n1 n2 n3 (fun _ _ _ _ => (([], 0, 0), 0)) (fun h => by omega) (fun h => by omega) r bg a en w h1 h2 h3 h4 h5 h6 h7 k1 k2 k3
    rw [decide_eq_false (by omega)] at this
    exact this
  | f + 1, deep, hd, r, bg, a, en, w, h1, h2, h3, h4, h5, h6, h7, k1, k2, k3 => by
    have := rstep_is s hs deep (by omega) B gb gm gr hgb hgm hgr n1 n2 n3 (nodeN s f) (fun _ => node_good s f) (fun h r bg a en w g1 g2 g3 g4 g5 g6 g7 j1 j2 j3 => by
      have := rnode_is s hs B gb gm gr hgb hgm hgr n1 n2 n3 f (deep + 1) (by omega) r bg a en w g1 g2 g3 g4 g5 g6 g7 j1 j2 j3
      rw [show (((deep + 1 : Nat)) : Int) = (deep : Int) + 1 by omega] at this
      exact this) r bg a en w h1 h2 h3 h4 h5 h6 h7 k1 k2 k3
    rw [decide_eq_true (by omega)] at this
    exact this
theorem info_49 : ∃ ie, Tryd.prog.info? 68 = some ie ∧ ie.size = 1 := by
  have h : (Tryd.prog.info? 68).map (fun i => i.size) = some 1 := by kernel_rfl
  cases e : Tryd.prog.info? 68 with
  | none => rw [e] at h; cases h
  | some i => rw [e] at h; exact ⟨i, rfl, by simpa using h⟩
theorem rd_no (s : ByteArray) (h : ¬ (rdT s).2 = 0) : (rdT s).1 = [] := by
  unfold rdT at h ⊢
  split
  · rfl
  · split
    · rfl
    · split
      · rfl
      · rename_i a b c
        rw [if_neg a, if_neg b, if_neg c] at h
        exact absurd rfl h
theorem ext_all (s : ByteArray) : s.extract 0 s.size = s := by
  apply ByteArray.ext
  simp
theorem ch_below {gb gm : Nat} {w W W' : World} (h : Below w.heap.size w W) (k : ChR gb gm none W W') (hb : w.heap.size ≤ gb) (hm : w.heap.size ≤ gm) : Below w.heap.size w W' :=
  ⟨k.os.trans h.os, k.tape.trans h.tape, k.output.trans h.output, Nat.le_trans h.size k.size, fun j hj => (k.block j (Nat.lt_of_lt_of_le hj h.size) (by omega) (by omega) (by simp)).trans (h.block j hj)⟩
set_option maxRecDepth 100000 in
set_option maxHeartbeats 3200000 in
theorem msgR_is (s : ByteArray) (w : World) : Calls Tryd.prog 16 #[.string s] w fun e w' => ∃ q : Rw TT, e = .returned (.tuple #[slR q, errV (rdT s).2]) ∧ ((rdT s).2 = 0 → rsT q = (rdT s).1 ∧ RoT w.heap.size w' q ∧ ApT q) ∧ Below w.heap.size w w' := by
  go_enter Tryd.func16, Tryd.ntmps16
  by_cases h9 : 900 < s.size
  · have c9 : (900 : Int) < (s.size : Int) := by omega
    have HV : Hid (rdT s = ([], 4)) := if_pos h9
    go_wp2
    go_ret2
    exact ⟨(none, 0, []), by rw [HV.out]; rfl, (fun c => by rw [HV.out] at c; cases c), Below.refl _ _⟩
  have c9 : ¬ (900 : Int) < (s.size : Int) := by omega
  have HV : Hid (rdT s = if (nodeN s 8 [] 0 0 s.size).1.2.2 ≠ 0 then ([], (nodeN s 8 [] 0 0 s.size).1.2.2) else if (nodeN s 8 [] 0 0 s.size).2 ≠ s.size then ([], 5) else ((nodeN s 8 [] 0 0 s.size).1.1, 0)) := if_neg h9
  obtain ⟨V, hV⟩ : ∃ Y, ((w.alloc (.cells #[.slice none 0 0] 24)).alloc (.cells #[.int .i64 0] 3)).alloc (.cells #[.nilFunc] 68) = Y := ⟨_, rfl⟩
  have BV : Below w.heap.size w V := by rw [← hV]; exact (((Below.refl _ _).alloc (Nat.le_refl _) _).alloc (by simp) _).alloc (by simp; omega) _
  have TF : Blk (w.heap.size + 1 + 1) [.nilFunc] V := by rw [← hV]; have := Blk.new ((w.alloc (.cells #[.slice none 0 0] 24)).alloc (.cells #[.int .i64 0] 3)) #[.nilFunc] 68; simpa using this
  have TM : Blk w.heap.size [.slice none 0 0] V := by rw [← hV]; exact ((Blk.new _ _ _).alloc (by simp) _).alloc (by simp; omega) _
  have TB : Blk (w.heap.size + 1) [.int .i64 0] V := by rw [← hV]; have := (Blk.new (w.alloc (.cells #[.slice none 0 0] 24)) #[.int .i64 0] 3).alloc (by simp) (.cells #[.nilFunc] 68); simpa using this
  obtain ⟨i49, hi49, hs49⟩ := info_49
  obtain ⟨U, hU⟩ : ∃ Y, V.setCells (w.heap.size + 1 + 1) 0 [cloV (w.heap.size + 1) (w.heap.size + 1 + 1) w.heap.size] = Y := ⟨_, rfl⟩
  have BU : Below w.heap.size w U := by rw [← hU]; exact below_sets (by omega) _ _ _ BV
  have UF : Blk (w.heap.size + 1 + 1) [cloV (w.heap.size + 1) (w.heap.size + 1 + 1) w.heap.size] U := by rw [← hU]; exact TF.sets _ rfl
  have UM : Blk w.heap.size [.slice none 0 0] U := by rw [← hU]; exact Blk.farS (by omega) _ _ _ TM
  have UB : Blk (w.heap.size + 1) [.int .i64 0] U := by rw [← hU]; exact Blk.farS (by omega) _ _ _ TB
  have sU : w.heap.size + 1 + 1 + 1 ≤ U.heap.size := UF.lt
  have KC : Calls Tryd.prog 31 #[.string s, .int .i64 1, .pointer (some ⟨w.heap.size + 1, 0, none⟩), .pointer (some ⟨w.heap.size + 1 + 1, 0, none⟩), .pointer (some ⟨w.heap.size, 0, none⟩)] U fun e w' => ReadP s (nodeN s 8 [] 0 0 s.size) s.size (w.heap.size + 1 + 1 + 1) (w.heap.size + 1) w.heap.size (none, 0, []) U e w' := by
    have := rnode_is s (by omega) (w.heap.size + 1 + 1 + 1) (w.heap.size + 1) w.heap.size (w.heap.size + 1 + 1) (by omega) (by omega) (by omega) (by omega) (by omega) (by omega) 8 0 rfl (none, 0, []) 0 0 s.size U sU ⟨FOwn.nil _ _ _ _ _, fun x hx => by cases hx⟩ List.Pairwise.nil (Nat.le_refl _) (by omega) (Nat.zero_le _) (Nat.le_refl _) UB UM UF
    rw [ext_all] at this
    exact this
  have gN := node_good s 8 [] 0 0 s.size (by omega) (Nat.zero_le _) (Nat.le_refl _)
  generalize nodeN s 8 [] 0 0 s.size = R at KC HV gN
  have f0 := UF.at 0 rfl
  have hmf : ∀ (fn : Fn) (first cap : Array Value) (w : World), (Instr.makeFunc fn first cap).run Tryd.prog w = .ok (.func fn first cap) w := fun _ _ _ _ => rfl
  have fc : (((w.alloc (.cells #[.slice none 0 0] 24)).alloc (.cells #[.int .i64 0] 3)).alloc (.cells #[.nilFunc] 68)).cell? ⟨w.heap.size + 1 + 1, 0, none⟩ = some .nilFunc := by rw [hV]; exact TF.at 0 rfl
  have ff : (((w.alloc (.cells #[.slice none 0 0] 24)).alloc (.cells #[.int .i64 0] 3)).alloc (.cells #[.nilFunc] 68)).frozen? ⟨w.heap.size + 1 + 1, 0, none⟩ = false := by rw [hV]; exact TF.fz 0 rfl
  have gc : ((((w.alloc (.cells #[.slice none 0 0] 24)).alloc (.cells #[.int .i64 0] 3)).alloc (.cells #[.nilFunc] 68)).setCell ⟨w.heap.size + 1 + 1, 0, none⟩ (cloV (w.heap.size + 1) (w.heap.size + 1 + 1) w.heap.size)).cell? ⟨w.heap.size + 1 + 1, 0, none⟩ = some (cloV (w.heap.size + 1) (w.heap.size + 1 + 1) w.heap.size) := by rw [hV]; exact (TF.set 0 _).at 0 rfl
  have hst : (store ⟨w.heap.size + 1 + 1, 0, none⟩ (cloV (w.heap.size + 1) (w.heap.size + 1 + 1) w.heap.size)).run Tryd.prog (((w.alloc (.cells #[.slice none 0 0] 24)).alloc (.cells #[.int .i64 0] 3)).alloc (.cells #[.nilFunc] 68)) = .ok () ((((w.alloc (.cells #[.slice none 0 0] 24)).alloc (.cells #[.int .i64 0] 3)).alloc (.cells #[.nilFunc] 68)).setCell ⟨w.heap.size + 1 + 1, 0, none⟩ (cloV (w.heap.size + 1) (w.heap.size + 1 + 1) w.heap.size)) := by
    rw [run_store Tryd.prog _ _ _ _ (by rfl)]
    simp only [fc, ff]
    rfl
  have hU2 : (((w.alloc (.cells #[.slice none 0 0] 24)).alloc (.cells #[.int .i64 0] 3)).alloc (.cells #[.nilFunc] 68)).setCell ⟨w.heap.size + 1 + 1, 0, none⟩ (cloV (w.heap.size + 1) (w.heap.size + 1 + 1) w.heap.size) = U := by rw [hV]; exact hU
  clear hU fc ff hV
  go_wp2_with fail
  try rw [hU2]
  refine KC.mono ?_
  clear KC f0 UF UM UB TF TM TB hU2 BV gc hst
  rintro ex W1 ⟨⟨pa, pc, zs⟩, rfl, hz, ro, bb, bm, ch, _, _, ap⟩
  dsimp only [slR] at hz bm
  have b1 := ch_below BU ch (by omega) (Nat.le_refl _)
  have m0 := bm.at 0 rfl
  clear ch BU sU
  by_cases hc : R.1.2.2 = 0
  · have hg := gN.ok hc
    rw [errV_ok hc, behS_ok hc]
    by_cases hn : R.2 = s.size
    · have HV2 : Hid (rdT s = (R.1.1, 0)) := by show _ = _; rw [HV.out, if_neg (fun c => c hc), if_neg (fun c => c hn)]
      have hne := nil_size (s.extract R.2 s.size) (by rw [ext_size (Nat.le_refl _)]; omega)
      clear hc hn HV hg gN
      go_wp2
      go_ret2
      exact ⟨(pa, pc, zs), by rw [HV2.out]; rfl, (fun _ => by rw [HV2.out]; exact ⟨hz, RoT.le ro (by omega), ap⟩), b1⟩
    · have HV2 : Hid (rdT s = ([], 5)) := by show _ = _; rw [HV.out, if_neg (fun c => c hc), if_pos hn]
      have hne := neR_nil (s.extract R.2 s.size) (by rw [ext_size (Nat.le_refl _)]; omega)
      clear hc hn HV hg gN
      go_wp2
      go_ret2
      exact ⟨(pa, pc, zs), by rw [HV2.out]; rfl, (fun c => by rw [HV2.out] at c; cases c), b1⟩
  · have HV2 : Hid (rdT s = ([], R.1.2.2)) := by show _ = _; rw [HV.out, if_pos hc]
    have HE : Hid (_ = _) := errV_no hc
    have HC : Hid (¬ R.1.2.2 = 0) := hc
    rw [errV_no hc, behS_no hc]
    clear hc HV gN
    go_wp2
    go_ret2
    exact ⟨(pa, pc, zs), by rw [HV2.out]; dsimp only; rw [HE.out]; rfl, (fun c => by rw [HV2.out] at c; exact absurd c HC.out), b1⟩
end Go.Proofs.YtengggpobhibcaaDoor.Nd
