/- A slot read. -/
import Derived.Test.YtkfjpgkpmdbnoaaRi1
set_option linter.unusedVariables false
set_option maxRecDepth 100000
namespace Go.Proofs.Ytkfjpgkpmdbnoaa
open Go Go.RowKit Go.Joins Own Draw Go.Proofs.Ytkfjpgkpmdbnoaa.Var

theorem gr_none {w w' : World} (h : w.grownBy w' none) (vb : Nat) : w.grownBy w' (some vb) := ⟨h.os, h.tape, h.output, h.size, fun k hk _ => h.block k hk (by simp)⟩
/-- A slot read by the reader: nothing else that was there changed. -/
def SlotP (f : TS × Option ByteArray) (vb : Nat) (w : World) (e : Ending) (w' : World) : Prop := e = .returned (vS f.1) ∧ StV vb f.2 w' ∧ w.grownBy w' (some vb)
set_option maxRecDepth 100000 in
set_option maxHeartbeats 6400000 in
theorem slot_is (vb : Nat) (st : Option ByteArray) (w : World) (h : StV vb st w) :
    Calls Try.prog 47 #[.pointer (some ⟨vb, 0, none⟩)] w fun e w' => SlotP (rdS st) vb w e w' := by
  obtain ⟨ie, hie, _, his, _⟩ := info_parts infoS
  have hvb := h.lt
  obtain ⟨V0, hV0⟩ : ∃ V, w.alloc (.cells #[.int .i64 0, .int .i64 0, .int .i64 0] 31) = V := ⟨_, rfl⟩
  have XA : Below w.heap.size w V0 := by rw [← hV0]; exact (Below.refl _ _).alloc (Nat.le_refl _) _
  have TZ : Blk w.heap.size [.int .i64 0, .int .i64 0, .int .i64 0] V0 := by rw [← hV0]; exact Blk.new _ _ _
  have SV := h.later XA
  have GR : w.grownBy V0 (some vb) := gr_none (grown_of_below XA) vb
  have hs0 : V0.heap.size = w.heap.size + 1 := by rw [← hV0]; simp
  clear XA h
  have HE : Hid (rdS st = (((upF 99 st).1, (upF 1000 (upF 99 st).2).1, (upF 1000000 (upF 1000 (upF 99 st).2).2).1), (upF 1000000 (upF 1000 (upF 99 st).2).2).2)) := (rfl : rdS st = _)
  generalize rdS st = fin at HE ⊢
  have K := upTo_is vb st 99 V0 SV
  clear SV
  generalize upF 99 st = a1 at K HE
  obtain ⟨n0, st1⟩ := a1
  dsimp only at K HE
  go_enter Try.func47, Try.ntmps47
  go_wp2_with fail
  try rw [hV0]
  refine K.mono ?_
  clear K hV0
  rintro en W1 ⟨rfl, SV, hov⟩
  have hs1 : W1.heap.size = w.heap.size + 1 := by rw [hov.sz, hs0]
  replace TZ := blk_kept TZ hov.gr (fun e => by injection e with e; omega) (by omega)
  replace GR := gr_trans GR hov.gr (Or.inl rfl)
  clear hov hs0
  obtain ⟨V1, hV1⟩ : ∃ V, W1.alloc (.cells #[.int .i64 n0, .int .i64 0, .int .i64 0] 31) = V := ⟨_, rfl⟩
  have XA : Below W1.heap.size W1 V1 := by rw [← hV1]; exact (Below.refl _ _).alloc (Nat.le_refl _) _
  have TR : Blk (w.heap.size + 1) [.int .i64 n0, .int .i64 0, .int .i64 0] V1 := by rw [← hV1, ← hs1]; exact Blk.new _ _ _
  replace TZ := TZ.later XA (by omega)
  replace SV := SV.later XA
  replace GR := gr_trans GR (grown_of_below XA) (Or.inr (fun j e => by cases e))
  have HV1 : Hid (W1.alloc (.cells #[.int .i64 n0, .int .i64 0, .int .i64 0] 31) = V1) := hV1
  have HS1 : Hid (W1.heap.size = w.heap.size + 1) := hs1
  clear XA hV1 hs1
  have K := upTo_is vb st1 1000 V1 SV
  clear SV
  generalize upF 1000 st1 = a2 at K HE
  obtain ⟨n1, st2⟩ := a2
  dsimp only at K HE
  go_wp2_with fail
  try rw [HV1.out]
  try rw [HS1.out]
  refine K.mono ?_
  clear K HV1 HS1
  rintro en W2 ⟨rfl, SV, hov⟩
  replace TZ := blk_kept TZ hov.gr (fun e => by injection e with e; omega) TZ.lt
  replace TR := blk_kept TR hov.gr (fun e => by injection e with e; omega) TR.lt
  replace GR := gr_trans GR hov.gr (Or.inl rfl)
  clear hov
  obtain ⟨V3, hV3⟩ : ∃ V, W2.setCell ⟨w.heap.size + 1, 1, none⟩ (.int .i64 n1) = V := ⟨_, rfl⟩
  have t1 := TR.at 1 rfl
  have f1 := TR.fz 1 rfl
  replace TR : Blk (w.heap.size + 1) [.int .i64 n0, .int .i64 n1, .int .i64 0] V3 := by rw [← hV3]; exact TR.set 1 _
  replace TZ : Blk w.heap.size [.int .i64 0, .int .i64 0, .int .i64 0] V3 := by rw [← hV3]; exact TZ.far (by omega) 1 _
  replace SV : StV vb st2 V3 := by rw [← hV3]; exact SV.set (by omega)
  replace GR : w.grownBy V3 (some vb) := by rw [← hV3]; exact gr_trans GR (set_grown W2 (w.heap.size + 1) 1 _) (Or.inr (fun j e => by injection e with e; omega))
  have K := upTo_is vb st2 1000000 V3 SV
  clear SV
  generalize upF 1000000 st2 = a3 at K HE
  obtain ⟨n2, st3⟩ := a3
  dsimp only at K HE
  go_wp2_with fail
  try rw [hV3]
  refine K.mono ?_
  clear K hV3 t1 f1
  rintro en W4 ⟨rfl, SV, hov⟩
  replace TZ := blk_kept TZ hov.gr (fun e => by injection e with e; omega) TZ.lt
  replace TR := blk_kept TR hov.gr (fun e => by injection e with e; omega) TR.lt
  replace GR := gr_trans GR hov.gr (Or.inl rfl)
  clear hov
  obtain ⟨V5, hV5⟩ : ∃ V, W4.setCell ⟨w.heap.size + 1, 2, none⟩ (.int .i64 n2) = V := ⟨_, rfl⟩
  have t2 := TR.at 2 rfl
  have f2 := TR.fz 2 rfl
  replace TR : Blk (w.heap.size + 1) [.int .i64 n0, .int .i64 n1, .int .i64 n2] V5 := by rw [← hV5]; exact TR.set 2 _
  replace TZ : Blk w.heap.size [.int .i64 0, .int .i64 0, .int .i64 0] V5 := by rw [← hV5]; exact TZ.far (by omega) 2 _
  replace SV : StV vb st3 V5 := by rw [← hV5]; exact SV.set (by omega)
  replace GR : w.grownBy V5 (some vb) := by rw [← hV5]; exact gr_trans GR (set_grown W4 (w.heap.size + 1) 2 _) (Or.inr (fun j e => by injection e with e; omega))
  obtain ⟨V9, hV9⟩ : ∃ Z, World.setCells V5 w.heap.size 0 [.int .i64 n0, .int .i64 n1, .int .i64 n2] = Z := ⟨_, rfl⟩
  have TF : Blk w.heap.size [.int .i64 n0, .int .i64 n1, .int .i64 n2] V9 := by rw [← hV9]; exact TZ.sets [.int .i64 n0, .int .i64 n1, .int .i64 n2] rfl
  have SF : StV vb st3 V9 := by rw [← hV9]; exact SV.sets (by omega)
  have GF : w.grownBy V9 (some vb) := by rw [← hV9]; exact gr_trans GR (sets_grown w.heap.size _ 0 V5) (Or.inr (fun j e => by injection e with e; omega))
  have HF : Hid (fin = ((n0, n1, n2), st3)) := HE
  have HV5 : Hid (W4.setCell ⟨w.heap.size + 1, 2, none⟩ (.int .i64 n2) = V5) := hV5
  clear HE hV5
  go_wp2_with (first | (rw [HV5.out]; refine wpList_ldB 31 _ (w.heap.size + 1) 0 [.int .i64 n0, .int .i64 n1, .int .i64 n2] [.int .i64 n0, .int .i64 n1, .int .i64 n2] ie hie (Try.isAgg31) TR (by rw [his]; rfl) rfl rfl rfl rfl ?_; try simp only [Act.put]) | (refine wpList_stB 31 _ _ w.heap.size 0 [.int .i64 0, .int .i64 0, .int .i64 0] [.int .i64 n0, .int .i64 n1, .int .i64 n2] ie hie TZ (by rw [his]; rfl) (by simp) rfl rfl rfl rfl rfl ?_; try simp only [Act.put]; rw [hV9]) | fail)
  refine bodyPost_ret (res_B1 rfl _ _ w.heap.size [.int .i64 n0, .int .i64 n1, .int .i64 n2] ie hie (Try.isAgg31) TF his.symm rfl) rfl ?_
  exact ⟨by rw [HF.out], by rw [HF.out]; exact SF, GF⟩
end Go.Proofs.Ytkfjpgkpmdbnoaa
