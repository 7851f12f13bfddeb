/- A rule read by the reader of Vars. -/
import Derived.Test.YtjbbhegijlnndaaUp1
import Derived.Test.YtjbbhegijlnndaaRk2
set_option linter.unusedVariables false
set_option maxRecDepth 100000
namespace Go.Proofs.Ytjbbhegijlnndaa.Nd
open Go Go.RowKit Go.Joins Own Draw Go.Proofs.Ytjbbhegijlnndaa Go.Proofs.Ytjbbhegijlnndaa.Var

theorem OnlyV.kb' {vb : Nat} {w w' : World} (h : OnlyV vb w w') : KB vb w.heap.size w w' :=
  ⟨h.gr.os, h.gr.tape, h.gr.output, h.gr.size, fun k hk hb => h.gr.block k hk (fun e => hb (by injection e))⟩
theorem StV.lt {vb : Nat} {st : Option ByteArray} {W : World} (h : StV vb st W) : vb < W.heap.size := by
  cases st with
  | none => exact Blk.lt h
  | some t => exact Blk.lt h.2
theorem StV.blk {vb : Nat} {st : Option ByteArray} {W : World} (h : StV vb st W) : ∃ (t : ByteArray) (bb : Bool), Blk vb [.string t, .bool bb] W := by
  cases st with
  | none => exact ⟨_, _, h⟩
  | some t => exact ⟨_, _, h.2⟩
theorem StV.kept {vb : Nat} {st : Option ByteArray} {w w' : World} {r : Option Nat} (h : StV vb st w) (hg : w.grownBy w' r) (hn : some vb ≠ r) : StV vb st w' := by
  have hl := h.lt
  cases st with
  | none => exact blk_kept h hg hn hl
  | some t => exact ⟨h.1, blk_kept h.2 hg hn hl⟩
theorem StV.later {vb : Nat} {st : Option ByteArray} {w w' : World} (h : StV vb st w) (hb : Below w.heap.size w w') : StV vb st w' := h.kept (grown_of_below hb) (by simp)
theorem StV.drew {vb : Nat} {st : Option ByteArray} {w : World} (h : StV vb st w) : StV vb st w.drew := by
  cases st with
  | none => exact Blk.drew h
  | some t => exact ⟨h.1, Blk.drew h.2⟩
theorem StV.set {vb g i : Nat} {st : Option ByteArray} {v : Value} {w : World} (h : StV vb st w) (hn : g ≠ vb) : StV vb st (w.setCell ⟨g, i, none⟩ v) := h.kept (set_grown w g i v) (fun e => hn (by injection e with e; exact e.symm))
theorem StV.sets {vb g i : Nat} {st : Option ByteArray} {vs : List Value} {w : World} (h : StV vb st w) (hn : g ≠ vb) : StV vb st (w.setCells g i vs) := h.kept (sets_grown g vs i w) (fun e => hn (by injection e with e; exact e.symm))
theorem kb_grown {b n : Nat} {v w w' : World} {row : Option Nat} (h : KB b n v w) (hg : w.grownBy w' row) (hn : n ≤ v.heap.size) (hr : ∀ k, row = some k → n ≤ k ∨ k = b) : KB b n v w' := h.grown hg (Nat.le_trans hn h.size) hr
/-- A rule in memory of the call's own, and what the reader has left. -/
def RuleP (f : PT × Option ByteArray) (vb : Nat) (w : World) (e : Ending) (w' : World) : Prop := ∃ x : TT, e = .returned (vT x) ∧ stT x = f.1 ∧ StV vb f.2 w' ∧ OwT w.heap.size w' x ∧ KB vb w.heap.size w w'
set_option maxHeartbeats 6400000 in
theorem rule_is (vb : Nat) (st : Option ByteArray) (w : World) (h : StV vb st w) :
    Calls Try.prog 63 #[.pointer (some ⟨vb, 0, none⟩)] w fun e w' => RuleP (rdR st) vb w e w' := by
  obtain ⟨ie, hie, his⟩ := info_T
  obtain ⟨i0, hi0, hz0, hz1, hz2⟩ := info_parts infoInt
  have hvb := h.lt
  obtain ⟨V0, hV0⟩ : ∃ V, w.alloc (.cells #[.int .i64 0, .slice none 0 0, .int .i64 0] 59) = V := ⟨_, rfl⟩
  have XA : Below w.heap.size w V0 := by rw [← hV0]; exact (Below.refl _ _).alloc (Nat.le_refl _) _
  have TZ : Blk w.heap.size [.int .i64 0, .slice none 0 0, .int .i64 0] V0 := by rw [← hV0]; exact Blk.new _ _ _
  have SV := h.later XA
  have BK : KB vb w.heap.size w V0 := KB.of XA
  have hs0 : V0.heap.size = w.heap.size + 1 := by rw [← hV0]; simp
  clear XA h
  have HE : Hid (rdR st = (((upF 5 st).1, (itN (upF 31 (upF 100000 (upF 5 st).2).2).1.toNat (upF 31 (upF 100000 (upF 5 st).2).2).2).1, (upF 100000 (upF 5 st).2).1), (itN (upF 31 (upF 100000 (upF 5 st).2).2).1.toNat (upF 31 (upF 100000 (upF 5 st).2).2).2).2)) := (rfl : rdR st = _)
  generalize rdR st = fin at HE ⊢
  have K := upTo_is vb st 5 V0 SV
  clear SV
  generalize upF 5 st = a1 at K HE
  obtain ⟨k, st1⟩ := a1
  dsimp only at K HE
  go_enter Try.func63, Try.ntmps63
  go_wp2_with fail
  try rw [hV0]
  refine K.mono ?_
  clear K hV0
  rintro en W1 ⟨rfl, SV, hov⟩
  have hs1 : W1.heap.size = w.heap.size + 1 := by rw [hov.sz, hs0]
  replace TZ := blk_kept TZ hov.gr (fun e => by injection e with e; omega) (by omega)
  replace BK := kb_grown BK hov.gr (Nat.le_refl _) (fun q e => Or.inr (by injection e with e; exact e.symm))
  clear hov
  obtain ⟨V1, hV1⟩ : ∃ V, W1.alloc (.cells #[.int .i64 0, .slice none 0 0, .int .i64 0] 59) = V := ⟨_, rfl⟩
  have XA : Below W1.heap.size W1 V1 := by rw [← hV1]; exact (Below.refl _ _).alloc (Nat.le_refl _) _
  have TR0 : Blk (w.heap.size + 1) [.int .i64 0, .slice none 0 0, .int .i64 0] V1 := by rw [← hV1, ← hs1]; exact Blk.new _ _ _
  replace TZ := TZ.later XA (by omega)
  replace SV := SV.later XA
  replace BK := kb_grown BK (grown_of_below XA) (Nat.le_refl _) (fun q e => by cases e)
  have hsv : V1.heap.size = w.heap.size + 2 := by rw [← hV1]; simp; omega
  clear XA
  obtain ⟨V2, hV2⟩ : ∃ V, World.setCells V1 (w.heap.size + 1) 0 [.int .i64 k, .slice none 0 0, .int .i64 0] = V := ⟨_, rfl⟩
  have TR : Blk (w.heap.size + 1) [.int .i64 k, .slice none 0 0, .int .i64 0] V2 := by rw [← hV2]; exact TR0.sets [.int .i64 k, .slice none 0 0, .int .i64 0] rfl
  replace TZ : Blk w.heap.size [.int .i64 0, .slice none 0 0, .int .i64 0] V2 := by rw [← hV2]; exact Blk.farS (by omega) _ 0 _ TZ
  replace SV : StV vb st1 V2 := by rw [← hV2]; exact SV.sets (by omega)
  replace BK : KB vb w.heap.size w V2 := by rw [← hV2]; exact kb_grown BK (sets_grown (w.heap.size + 1) _ 0 V1) (Nat.le_refl _) (fun q e => Or.inl (by injection e with e; omega))
  have HV1 : Hid (W1.alloc (.cells #[.int .i64 0, .slice none 0 0, .int .i64 0] 59) = V1) := hV1
  have HS1 : Hid (W1.heap.size = w.heap.size + 1) := hs1
  have K := upTo_is vb st1 100000 V2 SV
  clear SV hV1 hs1
  generalize upF 100000 st1 = a2 at K HE
  obtain ⟨n, st2⟩ := a2
  dsimp only at K HE
  go_wp2_with (first | (rw [HV1.out, HS1.out]; refine wpList_stB 59 _ _ (w.heap.size + 1) 0 [.int .i64 0, .slice none 0 0, .int .i64 0] [.int .i64 k, .slice none 0 0, .int .i64 0] ie hie TR0 (by rw [his]; rfl) (by simp) rfl rfl rfl rfl rfl ?_; try simp only [Act.put]; rw [hV2]) | fail)
  refine K.mono ?_
  clear K hV2 TR0
  rintro en W2 ⟨rfl, SV, hov⟩
  have hs2 : w.heap.size + 2 ≤ W2.heap.size := by rw [hov.sz]; have := TR.lt; omega
  replace TZ := blk_kept TZ hov.gr (fun e => by injection e with e; omega) TZ.lt
  replace TR := blk_kept TR hov.gr (fun e => by injection e with e; omega) TR.lt
  replace BK := kb_grown BK hov.gr (Nat.le_refl _) (fun q e => Or.inr (by injection e with e; exact e.symm))
  clear hov
  obtain ⟨V3, hV3⟩ : ∃ V, W2.setCell ⟨w.heap.size + 1, 2, none⟩ (.int .i64 n) = V := ⟨_, rfl⟩
  have t2 := TR.at 2 rfl
  have f2 := TR.fz 2 rfl
  replace TR : Blk (w.heap.size + 1) [.int .i64 k, .slice none 0 0, .int .i64 n] V3 := by rw [← hV3]; exact TR.set 2 _
  replace TZ : Blk w.heap.size [.int .i64 0, .slice none 0 0, .int .i64 0] V3 := by rw [← hV3]; exact TZ.far (by omega) 2 _
  replace SV : StV vb st2 V3 := by rw [← hV3]; exact SV.set (by omega)
  replace BK : KB vb w.heap.size w V3 := by rw [← hV3]; exact kb_grown BK (set_grown W2 (w.heap.size + 1) 2 _) (Nat.le_refl _) (fun q e => Or.inl (by injection e with e; omega))
  have K := upTo_is vb st2 31 V3 SV
  have hb31 := upF_bound 31 (by omega) st2
  clear SV
  generalize upF 31 st2 = a3 at K HE hb31
  obtain ⟨c, st3⟩ := a3
  obtain ⟨m, rfl⟩ := Int.eq_ofNat_of_zero_le hb31.1
  dsimp only at K HE hb31
  have hm : m ≤ 31 := by have := hb31.2; omega
  rw [Int.toNat_natCast] at HE
  clear hb31
  go_wp2_with fail
  try rw [hV3]
  refine K.mono ?_
  clear K hV3 t2 f2
  rintro en W4 ⟨rfl, SV, hov⟩
  replace TZ := blk_kept TZ hov.gr (fun e => by injection e with e; omega) TZ.lt
  replace TR := blk_kept TR hov.gr (fun e => by injection e with e; omega) TR.lt
  replace BK := kb_grown BK hov.gr (Nat.le_refl _) (fun q e => Or.inr (by injection e with e; exact e.symm))
  clear hov
  go_wp2
  go_loopw [12] (fun iv wr => ∃ (j : Nat) (va : Option Addr) (vc : Nat), j ≤ m ∧ iv = .int .i64 (j : Int) ∧ Blk (w.heap.size + 1) [.int .i64 k, .slice va j vc, .int .i64 n] wr ∧ Blk w.heap.size [.int .i64 0, .slice none 0 0, .int .i64 0] wr ∧ StV vb (itN j st3).2 wr ∧ wr.ownsRow (w.heap.size + 2) 3 1 (.slice va j vc) j ((itN j st3).1.map (Value.int .i64)) ∧ KB vb w.heap.size w wr) (fun iv _ => m - (intOf iv).toNat)
  case atStart => exact ⟨0, none, 0, Nat.zero_le _, rfl, TR, TZ, SV, World.ownsRow_nil _ _ _ _, BK⟩
  case round =>
    clear TR TZ SV BK
    obtain ⟨j, va, vc, hj, rfl, TR, TZ, SV, ro, BK⟩ := hrel
    by_cases hlt : j < m
    · have hlt2 : (j : Int) < (m : Int) := by omega
      have HNX : Hid (∀ (W : World) (na : Option Addr) (nc : Nat), Blk (w.heap.size + 1) [.int .i64 k, .slice na (j + 1) nc, .int .i64 n] W → Blk w.heap.size [.int .i64 0, .slice none 0 0, .int .i64 0] W → StV vb (upF 30 (itN j st3).2).2 W → W.ownsRow (w.heap.size + 2) 3 1 (.slice na (j + 1) nc) (j + 1) ((itN j st3).1.map (Value.int .i64) ++ [.int .i64 (upF 30 (itN j st3).2).1]) → KB vb w.heap.size w W →
          ∃ (j' : Nat) (va' : Option Addr) (vc' : Nat), j' ≤ m ∧ Value.int .i64 ((j : Int) + 1) = .int .i64 (j' : Int) ∧ Blk (w.heap.size + 1) [.int .i64 k, .slice va' j' vc', .int .i64 n] W ∧ Blk w.heap.size [.int .i64 0, .slice none 0 0, .int .i64 0] W ∧ StV vb (itN j' st3).2 W ∧ W.ownsRow (w.heap.size + 2) 3 1 (.slice va' j' vc') j' ((itN j' st3).1.map (Value.int .i64)) ∧ KB vb w.heap.size w W) :=
        fun W na nc x1 x2 x3 x4 x5 => ⟨j + 1, na, nc, by omega, by go_num, x1, x2, x3, by show W.ownsRow _ _ _ _ _ (((itN j st3).1 ++ [(upF 30 (itN j st3).2).1]).map (Value.int .i64)); rw [List.map_append]; exact x4, x5⟩
      go_wp2_with fail
      replace TR := TR.drew
      replace TZ := TZ.drew
      replace SV := SV.drew
      replace ro : wr.drew.ownsRow (w.heap.size + 2) 3 1 (.slice va j vc) j ((itN j st3).1.map (Value.int .i64)) := ro
      replace BK : KB vb w.heap.size w wr.drew := kb_grown BK (grown_of_below ((Below.refl _ wr).drew)) (Nat.le_refl _) (fun q e => by cases e)
      refine drew_E 7 ((fun Vw => Blk (w.heap.size + 1) [.int .i64 k, .slice va j vc, .int .i64 n] Vw)) (by kernel_rfl) TR (fun hHeld => ?_)
      refine take_E 0 14 (v := ?_) rfl rfl (by kernel_rfl) (by kernel_rfl) (by kernel_rfl) (by kernel_rfl) (fun _ _ _ h => h) (Or.inl ⟨by rfl, ?_⟩) hHeld ?_
      rotate_left
      · intro w' hSw; (try dsimp only at hSw); have d0 := hSw.at 0 rfl; have d1 := hSw.at 1 rfl; have d2 := hSw.at 2 rfl; go_simp; try with_reducible rfl
      try simp only [Act.put, List.setIfInBounds_toArray, List.set_cons_zero, List.set_cons_succ]
      refine take_E 1 15 (v := ?_) rfl rfl (by kernel_rfl) (by kernel_rfl) (by kernel_rfl) (by kernel_rfl) (fun _ _ _ h => h) (Or.inl ⟨by rfl, ?_⟩) hHeld ?_
      rotate_left
      · intro w' hSw; (try dsimp only at hSw); have d0 := hSw.at 0 rfl; have d1 := hSw.at 1 rfl; have d2 := hSw.at 2 rfl; go_simp; try with_reducible rfl
      try simp only [Act.put, List.setIfInBounds_toArray, List.set_cons_zero, List.set_cons_succ]
      refine take_E 2 16 (v := ?_) rfl rfl (by kernel_rfl) (by kernel_rfl) (by kernel_rfl) (by kernel_rfl) (fun _ _ _ h => h) (Or.inl ⟨by rfl, ?_⟩) hHeld ?_
      rotate_left
      · intro w' hSw; (try dsimp only at hSw); have d0 := hSw.at 0 rfl; have d1 := hSw.at 1 rfl; have d2 := hSw.at 2 rfl; go_simp; try with_reducible rfl
      try simp only [Act.put, List.setIfInBounds_toArray, List.set_cons_zero, List.set_cons_succ]
      refine one_E 3 (by kernel_rfl) rfl (fun K hK => ?_)
      go_simp
      refine (upTo_is vb _ 30 _ SV).mono ?_
      rintro en W1 ⟨rfl, SV1, hov⟩
      replace TR := blk_kept TR hov.gr (fun e => by injection e with e; omega) TR.lt
      replace TZ := blk_kept TZ hov.gr (fun e => by injection e with e; omega) TZ.lt
      replace ro := World.ownsRow.kept ro hov.gr (by cases e : (Value.slice va j vc).ownBlock with | none => exact Or.inl rfl | some q => exact Or.inr (fun c => by have := (World.ownsRow.lt ro q e).1; injection c with c; omega))
      replace BK := kb_grown BK hov.gr (Nat.le_refl _) (fun q e => Or.inr (by injection e with e; exact e.symm))
      clear SV hov
      go_wp2_with fail
      refine hK.out _ _ TR (fun hHeld2 => ?_)
      clear hK K hHeld
      have hHeld := hHeld2
      clear hHeld2
      try simp only [Act.put, List.setIfInBounds_toArray, List.set_cons_zero, List.set_cons_succ]
      refine one_E 4 (by kernel_rfl) rfl (fun K hK => ?_)
      go_simp
      obtain ⟨U, hU⟩ : ∃ Wz, World.alloc W1 (.cells #[.int .i64 (upF 30 (itN j st3).2).1] 3) = Wz := ⟨_, rfl⟩
      have XA : Below W1.heap.size W1 U := by rw [← hU]; exact (Below.refl _ _).alloc (Nat.le_refl _) _
      have nw : ∀ jj u, [Value.int .i64 (upF 30 (itN j st3).2).1][jj]? = some u → U.cell? ((⟨W1.heap.size, 0, none⟩ : Addr).add jj) = some u := by rw [← hU]; exact news_one _ _ _
      rw [hU]
      replace TR := TR.later XA TR.lt
      replace TZ := TZ.later XA TZ.lt
      replace ro := own_later ro XA
      replace SV1 := SV1.later XA
      replace BK := kb_grown BK (grown_of_below XA) (Nat.le_refl _) (fun q e => by cases e)
      have hUs : w.heap.size + 2 ≤ U.heap.size := by have := TR.lt; omega
      clear XA hU
      refine hK.out _ _ TR (fun hHeld2 => ?_)
      clear hK K hHeld
      have hHeld := hHeld2
      clear hHeld2
      try simp only [Act.put, List.setIfInBounds_toArray, List.set_cons_zero, List.set_cons_succ]
      refine one_E 5 (by kernel_rfl) rfl (fun K hK => ?_)
      refine step_app rfl _ _ 32 rfl (w.heap.size + 2) 3 i0 (.int .i64 0) 1 8 Try.underlying32 hi0 hz0 hz1 hz2 rfl (by decide) _ _ _ rfl ro (some ⟨W1.heap.size, 0, none⟩) 1 1 [.int .i64 (upF 30 (itN j st3).2).1] rfl rfl (fun ad e => by injection e with e; subst e; exact nw) (fun u hu => by simp at hu; subst hu; rfl) (by unfold maxLen; omega) (by omega) hUs (fun c => by cases c) ?_
      intro v1 W2 ho1 hg1
      try simp only [Act.put, List.setIfInBounds_toArray]
      obtain ⟨na, nc, rfl, _⟩ := own_shape ho1
      have hnb : ∀ q, q < w.heap.size + 2 → some q ≠ (Value.slice va j vc).ownBlock := fun q hq e => by have := (World.ownsRow.lt ro q e.symm).1; omega
      replace TR := blk_kept TR hg1 (hnb _ (by omega)) TR.lt
      replace TZ := blk_kept TZ hg1 (hnb _ (by omega)) TZ.lt
      replace SV1 := SV1.kept hg1 (hnb _ (by omega))
      replace BK := kb_grown BK hg1 (Nat.le_refl _) (fun q e => Or.inl (by have := (World.ownsRow.lt ro q e).1; omega))
      clear ro hg1 nw hnb
      refine hK.out _ _ TR (fun hHeld2 => ?_)
      clear hK K hHeld
      have hHeld := hHeld2
      clear hHeld2
      try simp only [Act.put, List.setIfInBounds_toArray, List.set_cons_zero, List.set_cons_succ]
      refine take_E 6 20 (v := ?_) rfl rfl (by kernel_rfl) (by kernel_rfl) (by kernel_rfl) (by kernel_rfl) (fun _ _ _ h => h) (Or.inl ⟨by rfl, ?_⟩) hHeld ?_
      rotate_left
      · intro w' hSw; (try dsimp only at hSw); have d0 := hSw.at 0 rfl; have d1 := hSw.at 1 rfl; have d2 := hSw.at 2 rfl; go_simp; try with_reducible rfl
      try simp only [Act.put]
      refine last_E (by kernel_rfl) rfl (by kernel_rfl) (fun K hK => ?_)
      have t1_ := TR.at 1 rfl
      have f1_ := TR.fz 1 rfl
      go_simp
      clear t1_ f1_
      obtain ⟨W3, hW3⟩ : ∃ Wz, W2.setCell ⟨w.heap.size + 1, 1, none⟩ (.slice na (j + 1) nc) = Wz := ⟨_, rfl⟩
      rw [hW3]
      have TR3 : Blk (w.heap.size + 1) [.int .i64 k, .slice na (j + 1) nc, .int .i64 n] W3 := by rw [← hW3]; exact TR.set 1 _
      have TZ3 : Blk w.heap.size [.int .i64 0, .slice none 0 0, .int .i64 0] W3 := by rw [← hW3]; exact TZ.far (by omega) 1 _
      have SV3 : StV vb (upF 30 (itN j st3).2).2 W3 := by rw [← hW3]; exact SV1.set (by omega)
      have BK3 : KB vb w.heap.size w W3 := by rw [← hW3]; exact kb_grown BK (set_grown W2 (w.heap.size + 1) 1 _) (Nat.le_refl _) (fun q e => Or.inl (by injection e with e; omega))
      have ro3 : W3.ownsRow (w.heap.size + 2) 3 1 (.slice na (j + 1) nc) (j + 1) ((itN j st3).1.map (Value.int .i64) ++ [.int .i64 (upF 30 (itN j st3).2).1]) := by
        rw [← hW3]
        exact World.ownsRow.kept ho1 (set_grown W2 _ 1 _) (by
          cases e : (Value.slice na (j + 1) nc).ownBlock with
          | none => exact Or.inl rfl
          | some q => exact Or.inr (fun c => by have := (World.ownsRow.lt ho1 q e).1; injection c with c; omega))
      have HR := HNX.out W3 na nc TR3 TZ3 SV3 ro3 BK3
      clear HNX TR3 TZ3 SV3 ro3 BK3 TR TZ SV1 BK ho1 hW3
      refine hK.out _ _ ?_
      clear hK K hHeld
      go_wp2
      go_roundw
      case rel => exact HR
      case measure => simp [intOf]; omega
    · obtain rfl : j = m := by omega
      have hlt2 : ¬ (j : Int) < (j : Int) := by omega
      have u0 := TR.at 0 rfl
      have u1 := TR.at 1 rfl
      have u2 := TR.at 2 rfl
      have hil := itN_len st3 j
      have HF : Hid (fin.2 = (itN j st3).2 ∧ fin.1 = (k, (itN j st3).1, n)) := by show _ ∧ _; rw [HE.out]; exact ⟨rfl, rfl⟩
      generalize (itN j st3).1 = L at ro hil HF
      generalize (itN j st3).2 = s4 at SV HF
      subst hil
      obtain ⟨V9, hV9⟩ : ∃ Z, World.setCells wr w.heap.size 0 [.int .i64 k, .slice va L.length vc, .int .i64 n] = Z := ⟨_, rfl⟩
      have TF : Blk w.heap.size [.int .i64 k, .slice va L.length vc, .int .i64 n] V9 := by rw [← hV9]; exact TZ.sets [.int .i64 k, .slice va L.length vc, .int .i64 n] rfl
      have SF : StV vb s4 V9 := by rw [← hV9]; exact SV.sets (by omega)
      have BF : KB vb w.heap.size w V9 := by rw [← hV9]; exact kb_grown BK (sets_grown w.heap.size _ 0 wr) (Nat.le_refl _) (fun q e => Or.inl (by injection e with e; omega))
      have oF : OwT w.heap.size V9 (k, (va, vc, L), n) := by rw [← hV9]; exact ownsRow_le (own_far ro (sets_grown _ _ 0 _) (by omega)) (by omega)
      clear HE
      go_wp2_with (first | (refine wpList_stB 59 _ _ w.heap.size 0 [.int .i64 0, .slice none 0 0, .int .i64 0] [.int .i64 k, .slice va L.length vc, .int .i64 n] ie hie TZ (by rw [his]; rfl) (by simp) rfl rfl rfl rfl rfl ?_; try simp only [Act.put]; rw [hV9]) | fail)
      refine bodyPost_ret (res_B1 rfl _ _ w.heap.size [.int .i64 k, .slice va L.length vc, .int .i64 n] ie hie (Try.isAgg59) TF his.symm rfl) rfl ?_
      exact ⟨(k, (va, vc, L), n), rfl, HF.out.2.symm, by rw [HF.out.1]; exact SF, oF, BF⟩
end Go.Proofs.Ytjbbhegijlnndaa.Nd
