/- DrawAllows. -/
import Derived.Test.YtjbbhegijlnndaaDa0
import Derived.Test.YtjbbhegijlnndaaDj0
set_option linter.unusedVariables false
set_option maxRecDepth 100000
namespace Go.Proofs.Ytjbbhegijlnndaa.Nd
open Go Go.RowKit Go.Joins Own Draw Go.Proofs.Ytjbbhegijlnndaa

theorem res_TB {P : Program} {fn : Func} {p x : Tmp} {ty : TypeId} (hres : fn.results = #[.tmp x, .cell p ty]) (tmps : Array Value) (w : World) (g : Nat) (vs : List Value) (u0 : Value) (ie : TypeInfo) (hie : P.info? ty = some ie) (hagg : ∀ w, (isAgg ty).run P w = .ok true w) (h : Blk g vs w) (hs : vs.length = ie.size) (hx : tmps.getD x undef = u0) (hp : tmps.getD p undef = .pointer (some ⟨g, 0, none⟩)) :
    (results fn tmps).run P w = .ok (.tuple #[u0, .agg vs.toArray]) w := by
  have hp' : tmps[p]?.getD undef = .pointer (some ⟨g, 0, none⟩) := by simpa using hp
  have hx' : tmps[x]?.getD undef = u0 := by simpa using hx
  have hl := ldB (P := P) ty ie hie hagg (o := 0) vs h hs (by simp)
  simp [results, hres, hp', hx', asAddr, hl]
set_option maxRecDepth 100000 in
set_option maxHeartbeats 12800000 in
theorem drawAllows_is (ad : Option Addr) (len cap : Nat) (zs : List Int) (W : World) (hz : CodeAt W W.heap.size ad len zs) :
    Calls Try.prog 21 #[.slice ad len cap] W fun e w' => ∃ (q : Rw TT) (x : TA), e = .returned (.tuple #[.slice q.1 q.2.2.length q.2.1, vA x]) ∧ Rs w' q ∧ DpA w' x ∧ AskOk x ∧ Below W.heap.size W w' := by
  obtain ⟨ie, hie, his⟩ := info_A
  obtain ⟨V0, hV0⟩ : ∃ V, W.alloc (.cells #[.int .i64 0, .int .i64 0, .slice none 0 0, .int .i64 0, .int .i64 0] 34) = V := ⟨_, rfl⟩
  have RZ : Blk W.heap.size [.int .i64 0, .int .i64 0, .slice none 0 0, .int .i64 0, .int .i64 0] V0 := by rw [← hV0]; exact Blk.new _ _ _
  have BC : Below W.heap.size W V0 := by rw [← hV0]; exact (Below.refl _ _).alloc (Nat.le_refl _) _
  have hz0 : CodeAt V0 V0.heap.size ad len zs := (hz.below BC).lt BC.size
  clear hz
  go_enter Try.func21, Try.ntmps21
  go_wp2_with fail
  try rw [hV0]
  refine (newW ad len cap zs V0 hz0).mono ?_
  rintro e w1 ⟨rfl, C1, b1⟩
  clear hz0 hV0
  have hzl : W.heap.size < V0.heap.size := RZ.lt
  replace RZ := RZ.later b1 RZ.lt
  replace BC := BC.trans (b1.mono (Nat.le_of_lt hzl))
  obtain ⟨pc, hpc⟩ : ∃ n, V0.heap.size = n := ⟨_, rfl⟩
  rw [hpc] at C1 b1 hzl ⊢
  clear b1 hpc
  have hpc1 : pc < w1.heap.size := C1.lt
  go_wp2_with fail
  refine (ask_is w1 C1).mono ?_
  rintro e w2 ⟨x, rfl, ox, ak, C2⟩
  replace RZ := RZ.only C2.2 RZ.lt (by omega)
  replace BC := BC.trans (C2.2.below (by omega) hpc1)
  clear C1
  have hw12 : w1.heap.size ≤ w2.heap.size := C2.size
  obtain ⟨V1, hV1⟩ : ∃ V, w2.alloc (.cells #[.int .i64 0, .int .i64 0, .slice none 0 0, .int .i64 0, .int .i64 0] 34) = V := ⟨_, rfl⟩
  have XA : Below w2.heap.size w2 V1 := by rw [← hV1]; exact (Below.refl _ _).alloc (Nat.le_refl _) _
  have RB0 : Blk w2.heap.size [.int .i64 0, .int .i64 0, .slice none 0 0, .int .i64 0, .int .i64 0] V1 := by rw [← hV1]; exact Blk.new _ _ _
  replace RZ := RZ.later XA RZ.lt
  have hxl : ∀ k, (Value.slice x.2.2.1.1 x.2.2.1.2.2.length x.2.2.1.2.1).ownBlock = some k → k < w2.heap.size := fun k e => (World.ownsRow.lt ox k e).2
  replace ox := OwA.later ox XA
  have CC := C2.under XA
  replace BC := BC.trans (XA.mono BC.size)
  clear XA C2
  obtain ⟨ab, hab⟩ : ∃ n, w2.heap.size = n := ⟨_, rfl⟩
  rw [hab] at RB0 hxl hw12
  obtain ⟨V2, hV2⟩ : ∃ V, World.setCells V1 ab 0 [.int .i64 x.1, .int .i64 x.2.1, .slice x.2.2.1.1 x.2.2.1.2.2.length x.2.2.1.2.1, .int .i64 x.2.2.2.1, .int .i64 x.2.2.2.2] = V := ⟨_, rfl⟩
  have TA : Blk ab [.int .i64 x.1, .int .i64 x.2.1, .slice x.2.2.1.1 x.2.2.1.2.2.length x.2.2.1.2.1, .int .i64 x.2.2.2.1, .int .i64 x.2.2.2.2] V2 := by rw [← hV2]; exact RB0.sets [.int .i64 x.1, .int .i64 x.2.1, .slice x.2.2.1.1 x.2.2.1.2.2.length x.2.2.1.2.1, .int .i64 x.2.2.2.1, .int .i64 x.2.2.2.2] rfl
  replace RZ : Blk W.heap.size [.int .i64 0, .int .i64 0, .slice none 0 0, .int .i64 0, .int .i64 0] V2 := by rw [← hV2]; exact Blk.farS (by omega) _ 0 _ RZ
  replace CC : Cu pc ad len cap zs w1 V2 := by rw [← hV2]; exact cu_sets CC hpc1 hw12 0 _
  replace BC : Below W.heap.size W V2 := by rw [← hV2]; exact below_sets (by omega) _ 0 _ BC
  replace ox : OwA w1.heap.size V2 x := by
    rw [← hV2]
    exact World.ownsRow.kept ox (sets_grown ab [.int .i64 x.1, .int .i64 x.2.1, .slice x.2.2.1.1 x.2.2.1.2.2.length x.2.2.1.2.1, .int .i64 x.2.2.2.1, .int .i64 x.2.2.2.2] 0 V1) (by
      cases e : (Value.slice x.2.2.1.1 x.2.2.1.2.2.length x.2.2.1.2.1).ownBlock with
      | none => exact Or.inl rfl
      | some k => exact Or.inr (fun c => by have := hxl k e; injection c with c; omega))
  have HV1 : Hid (w2.alloc (.cells #[.int .i64 0, .int .i64 0, .slice none 0 0, .int .i64 0, .int .i64 0] 34) = V1) := hV1
  have HAB : Hid (w2.heap.size = ab) := hab
  clear hV1 hab
  go_wp2_with (first | (rw [HV1.out, HAB.out]; refine wpList_stB 34 _ _ ab 0 [.int .i64 0, .int .i64 0, .slice none 0 0, .int .i64 0, .int .i64 0] [.int .i64 x.1, .int .i64 x.2.1, .slice x.2.2.1.1 x.2.2.1.2.2.length x.2.2.1.2.1, .int .i64 x.2.2.2.1, .int .i64 x.2.2.2.2] ie hie RB0 (by rw [his]; rfl) (by simp) rfl rfl rfl rfl rfl ?_; try simp only [Act.put]; rw [hV2]) | fail)
  clear hV2 RB0 HV1 HAB hxl
  replace TA : Blk ab [.int .i64 x.1, .int .i64 x.2.1, .slice x.2.2.1.1 x.2.2.1.2.2.length x.2.2.1.2.1, .int .i64 x.2.2.2.1, .int .i64 x.2.2.2.2] V2.drew := TA.drew
  replace RZ : Blk W.heap.size [.int .i64 0, .int .i64 0, .slice none 0 0, .int .i64 0, .int .i64 0] V2.drew := RZ.drew
  replace CC : Cu pc ad len cap zs w1 V2.drew := CC.drew
  replace BC : Below W.heap.size W V2.drew := BC.drew
  replace ox : OwA w1.heap.size V2.drew x := OwA.later ox ((Below.refl _ _).drew)
  have hDl : w1.heap.size ≤ V2.drew.heap.size := CC.size
  refine drew_E 4 ((fun Vw => Blk ab [.int .i64 x.1, .int .i64 x.2.1, .slice x.2.2.1.1 x.2.2.1.2.2.length x.2.2.1.2.1, .int .i64 x.2.2.2.1, .int .i64 x.2.2.2.2] Vw)) (by kernel_rfl) TA (fun hHeld => ?_)
  generalize V2.drew = D at *
  refine take_E 0 10 (v := ?_) rfl rfl (by kernel_rfl) (by kernel_rfl) (by kernel_rfl) (by kernel_rfl) (fun _ _ _ h => h) (Or.inl ⟨by rfl, ?_⟩) hHeld ?_
  rotate_left
  · intro w' hSw; (try dsimp only at hSw); have d0 := hSw.at 0 rfl; have d1 := hSw.at 1 rfl; have d2 := hSw.at 2 rfl; have d3 := hSw.at 3 rfl; have d4 := hSw.at 4 rfl; go_simp; try with_reducible rfl
  try simp only [Act.put, List.setIfInBounds_toArray, List.set_cons_zero, List.set_cons_succ]
  refine take_E 2 12 (v := ?_) rfl rfl (by kernel_rfl) (by kernel_rfl) (by kernel_rfl) (by kernel_rfl) (fun _ _ _ h => h) (Or.inl ⟨by rfl, ?_⟩) hHeld ?_
  rotate_left
  · intro w' hSw; (try dsimp only at hSw); have d0 := hSw.at 0 rfl; have d1 := hSw.at 1 rfl; have d2 := hSw.at 2 rfl; have d3 := hSw.at 3 rfl; have d4 := hSw.at 4 rfl; go_simp; try with_reducible rfl
  try simp only [Act.put, List.setIfInBounds_toArray, List.set_cons_zero, List.set_cons_succ]
  refine one_E 1 (by kernel_rfl) rfl (fun K hK => ?_)
  go_simp
  refine ((some_is 4 D CC.here (by omega) (by omega))).mono ?_
  rintro en w5 ⟨q, rfl, sq, C5⟩
  replace TA := TA.only C5.2 TA.lt (by omega)
  replace RZ := RZ.only C5.2 RZ.lt (by omega)
  replace ox := own_only ox C5.2 hpc1
  replace BC := BC.trans (C5.2.below (by omega) CC.lt)
  have rq := sq.rs (by omega)
  have sqr := (RoT.le sq.ro hDl : RoT w1.heap.size w5 q)
  clear C5 sq CC
  go_wp2_with fail
  refine hK.out _ _ TA (fun hHeld2 => ?_)
  clear hK K hHeld
  have hHeld := hHeld2
  clear hHeld2
  try simp only [Act.put, List.setIfInBounds_toArray, List.set_cons_zero, List.set_cons_succ]
  refine take_E 3 2 (v := ?_) rfl rfl (by kernel_rfl) (by kernel_rfl) (by kernel_rfl) (by kernel_rfl) (fun _ _ _ h => h) (Or.inl ⟨by rfl, ?_⟩) hHeld ?_
  rotate_left
  · intro w' hSw; (try dsimp only at hSw); have d0 := hSw.at 0 rfl; have d1 := hSw.at 1 rfl; have d2 := hSw.at 2 rfl; have d3 := hSw.at 3 rfl; have d4 := hSw.at 4 rfl; go_simp; try with_reducible rfl
  try simp only [Act.put, List.setIfInBounds_toArray, List.set_cons_zero, List.set_cons_succ]
  refine last_E (by kernel_rfl) rfl (by kernel_rfl) (fun K hK => ?_)
  refine stepB 34 _ _ W.heap.size 0 [.int .i64 0, .int .i64 0, .slice none 0 0, .int .i64 0, .int .i64 0] [.int .i64 x.1, .int .i64 x.2.1, .slice x.2.2.1.1 x.2.2.1.2.2.length x.2.2.1.2.1, .int .i64 x.2.2.2.1, .int .i64 x.2.2.2.2] ie hie RZ (by rw [his]; rfl) (by simp) rfl rfl rfl rfl rfl ?_
  try simp only [Act.put, List.setIfInBounds_toArray]
  obtain ⟨VF, hVF⟩ : ∃ Wz, World.setCells w5 W.heap.size 0 [.int .i64 x.1, .int .i64 x.2.1, .slice x.2.2.1.1 x.2.2.1.2.2.length x.2.2.1.2.1, .int .i64 x.2.2.2.1, .int .i64 x.2.2.2.2] = Wz := ⟨_, rfl⟩
  rw [hVF]
  have TF : Blk W.heap.size [.int .i64 x.1, .int .i64 x.2.1, .slice x.2.2.1.1 x.2.2.1.2.2.length x.2.2.1.2.1, .int .i64 x.2.2.2.1, .int .i64 x.2.2.2.2] VF := by rw [← hVF]; exact RZ.sets [.int .i64 x.1, .int .i64 x.2.1, .slice x.2.2.1.1 x.2.2.1.2.2.length x.2.2.1.2.1, .int .i64 x.2.2.2.1, .int .i64 x.2.2.2.2] rfl
  have BF : Below W.heap.size W VF := by rw [← hVF]; exact below_sets (Nat.le_refl _) [.int .i64 x.1, .int .i64 x.2.1, .slice x.2.2.1.1 x.2.2.1.2.2.length x.2.2.1.2.1, .int .i64 x.2.2.2.1, .int .i64 x.2.2.2.2] 0 _ BC
  have oF : OwA w1.heap.size VF x := by rw [← hVF]; exact OwA.far ox (sets_grown W.heap.size [.int .i64 x.1, .int .i64 x.2.1, .slice x.2.2.1.1 x.2.2.1.2.2.length x.2.2.1.2.1, .int .i64 x.2.2.2.1, .int .i64 x.2.2.2.2] 0 _) (by omega)
  have rF : Rs VF q := ⟨by rw [← hVF]; exact (RoT.far sqr (sets_grown W.heap.size [.int .i64 x.1, .int .i64 x.2.1, .slice x.2.2.1.1 x.2.2.1.2.2.length x.2.2.1.2.1, .int .i64 x.2.2.2.1, .int .i64 x.2.2.2.2] 0 _) (by omega)).dp, rq.len, rq.set⟩
  clear RZ TA ox BC hVF sqr rq
  refine hK.out _ _ ?_
  clear hK K hHeld
  go_wp2
  refine bodyPost_ret (res_TB rfl _ _ W.heap.size [.int .i64 x.1, .int .i64 x.2.1, .slice x.2.2.1.1 x.2.2.1.2.2.length x.2.2.1.2.1, .int .i64 x.2.2.2.1, .int .i64 x.2.2.2.2] (.slice q.1 q.2.2.length q.2.1) ie hie (Try.isAgg34) TF his.symm rfl rfl) rfl ?_
  exact ⟨q, x, rfl, rF, oF.dp, ak, BF⟩
end Go.Proofs.Ytjbbhegijlnndaa.Nd
