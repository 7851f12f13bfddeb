/- Two names, drawn. -/
import Derived.Test.YtbpodcfbijhboaaDn2
set_option linter.unusedVariables false
set_option maxRecDepth 100000
namespace Go.Proofs.Ytbpodcfbijhboaa.Nd
open Go Go.RowKit Go.Joins Own Draw Go.Proofs.Ytbpodcfbijhboaa

theorem res_BB {P : Program} {fn : Func} {p x : Tmp} {ty : TypeId} (hres : fn.results = #[.cell p ty, .cell x ty]) (tmps : Array Value) (w : World) (g h : Nat) (vs us : List Value) (ie : TypeInfo) (hie : P.info? ty = some ie) (hagg : ∀ w, (isAgg ty).run P w = .ok true w) (hg : Blk g vs w) (hh : Blk h us w) (hs : vs.length = ie.size) (hu : us.length = ie.size) (hx : tmps.getD x undef = .pointer (some ⟨h, 0, none⟩)) (hp : tmps.getD p undef = .pointer (some ⟨g, 0, none⟩)) :
    (results fn tmps).run P w = .ok (.tuple #[.agg vs.toArray, .agg us.toArray]) w := by
  have hp' : tmps[p]?.getD undef = .pointer (some ⟨g, 0, none⟩) := by simpa using hp
  have hx' : tmps[x]?.getD undef = .pointer (some ⟨h, 0, none⟩) := by simpa using hx
  have hl := ldB (P := P) ty ie hie hagg (o := 0) vs hg hs (by simp)
  have hk := ldB (P := P) ty ie hie hagg (o := 0) us hh hu (by simp)
  simp [results, hres, hp', hx', asAddr, hl, hk]
theorem stepB {P : Program} {ops : Array Oper} {o : Oper} {a : Act} {w : World} {K : Act → World → Prop} {Q : Exit → Act → World → Prop} {E : Prop} (ty : TypeId) (x y : Operand) (g off : Nat) (us vs : List Value) (ie : TypeInfo) (hie : P.info? ty = some ie) (h : Blk g us w) (hs : vs.length = ie.size) (hl : off + vs.length ≤ us.length) (h1 : vs.all (·.oneCell') = true)
    (hgd : o.guard = none) (ho : o.op = .store ty x y) (hx : a.eval x = .pointer (some ⟨g, off, none⟩)) (hy : a.eval y = .agg vs.toArray)
    (hn : K (a.put o.dst undef) (w.setCells g off vs)) : if Region.wanted o (yielded ops a.tmps) = true then Oper.wp P o a w K Q else E := by
  rw [if_pos (by simp [Region.wanted, hgd])]
  unfold Oper.wp execOp
  simp only [ho, hx, hy, Instr.storeAt, Instr.sureAddr, Sem.run_bind, Sem.run_pure, Result.andThen_ok, stB ty ie hie vs h hs hl h1]
  exact hn
/-- Two names that are drawn from a code. -/
def DfP (B : Nat) (e : Ending) (w' : World) : Prop := ∃ y1 y2 : TT, e = .returned (.tuple #[vT y1, vT y2]) ∧ OwT B w' y1 ∧ Sn y1 ∧ OwT B w' y2 ∧ Sn y2
theorem own_drew {B : Nat} {w : World} {y : TT} (h : OwT B w y) : OwT B w.drew y := h
set_option maxHeartbeats 12800000 in
theorem drawFits_is (ad : Option Addr) (len cap : Nat) (zs : List Int) (W : World) (hz : CodeAt W W.heap.size ad len zs) :
    Calls Try.prog 17 #[.slice ad len cap] W fun e w' => DfP W.heap.size e w' ∧ Below W.heap.size W w' := by
  obtain ⟨ie, hie, his⟩ := info_T
  obtain ⟨V0, hV0⟩ : ∃ V, (W.alloc (.cells #[.slice none 0 0, .string ⟨#[]⟩] 26)).alloc (.cells #[.slice none 0 0, .string ⟨#[]⟩] 26) = V := ⟨_, rfl⟩
  have s0 : V0.heap.size = W.heap.size + 2 := by rw [← hV0]; simp
  have TR : Blk W.heap.size [.slice none 0 0, .string ⟨#[]⟩] V0 := by rw [← hV0]; exact (Blk.new W #[.slice none 0 0, .string ⟨#[]⟩] 26).alloc (by simp) _
  have TQ : Blk (W.heap.size + 1) [.slice none 0 0, .string ⟨#[]⟩] V0 := by rw [← hV0]; have := Blk.new (W.alloc (.cells #[.slice none 0 0, .string ⟨#[]⟩] 26)) #[.slice none 0 0, .string ⟨#[]⟩] 26; simpa using this
  have BC : Below W.heap.size W V0 := by rw [← hV0]; exact ((Below.refl _ _).alloc (Nat.le_refl _) _).alloc (by simp) _
  have K := newW ad len cap zs V0 ((hz.below BC).lt BC.size)
  clear hz
  go_enter Try.func17, Try.ntmps17
  go_wp2_with fail
  try rw [hV0]
  refine K.mono ?_
  clear K hV0
  rintro e w1 ⟨rfl, C1, b1⟩
  replace TR := TR.later b1 TR.lt
  replace TQ := TQ.later b1 TQ.lt
  replace BC := BC.trans (b1.mono BC.size)
  clear b1
  rw [s0] at C1
  have S := name_is w1 C1
  have l1 := C1.lt
  go_wp2_with fail
  try rw [s0]
  refine S.mono ?_
  clear S
  rintro e w2 ⟨y1, rfl, o1, sn1, C2⟩
  replace TR := TR.only C2.2 TR.lt (by omega)
  replace TQ := TQ.only C2.2 TQ.lt (by omega)
  replace BC := BC.trans (C2.2.below (by omega) l1)
  replace o1 : OwT (W.heap.size + 2 + 1) w2 y1 := o1.le l1
  replace C2 := C2.here
  clear C1
  obtain ⟨VA, hVA⟩ : ∃ V, w2.alloc (.cells #[sv2 y1, .string y1.2] 26) = V := ⟨_, rfl⟩
  have TA : Blk w2.heap.size [sv2 y1, .string y1.2] VA := by rw [← hVA]; exact Blk.new _ _ _
  have hb : Below w2.heap.size w2 VA := by rw [← hVA]; exact (Below.refl _ _).alloc (Nat.le_refl _) _
  have hA : W.heap.size + 2 < w2.heap.size := C2.lt
  replace TR := TR.later hb TR.lt
  replace TQ := TQ.later hb TQ.lt
  replace BC := BC.trans (hb.mono BC.size)
  replace o1 := o1.later hb
  have CA := (C2.under hb).here
  clear hb C2
  obtain ⟨ab, hab⟩ : ∃ n, w2.heap.size = n := ⟨_, rfl⟩
  rw [hab] at TA hA
  have HX := onceW 2 CA (by omega)
  go_wp2_with fail
  try rw [hVA]
  try rw [hab]
  refine HX.mono ?_
  clear HX hVA hab
  rintro e w4 ⟨b, rfl, C⟩
  replace TR := TR.only C.2 TR.lt (by omega)
  replace TQ := TQ.only C.2 TQ.lt (by omega)
  replace TA := TA.only C.2 TA.lt (by omega)
  replace BC := BC.trans (C.2.below (by omega) CA.lt)
  replace o1 : OwT (W.heap.size + 2 + 1) w4 y1 := own_only o1 C.2 (by omega)
  replace CA := C.here
  clear C
  cases b with
  | true =>
    replace TR := TR.drew
    replace TQ := TQ.drew
    replace TA := TA.drew
    replace BC := BC.drew
    replace o1 : OwT (W.heap.size + 2 + 1) w4.drew y1 := own_drew o1
    go_wp2_with fail
    refine drew_E 3 (fun Vw => Blk ab [sv2 y1, .string y1.2] Vw) (by kernel_rfl) TA (fun hHeld => ?_)
    generalize w4.drew = D at *
    refine take_E 0 12 (v := ?_) rfl rfl (by kernel_rfl) (by kernel_rfl) (by kernel_rfl) (by kernel_rfl) (fun _ _ _ h => h) (Or.inl ⟨by rfl, ?_⟩) hHeld ?_
    rotate_left
    · intro w' hSw; (try dsimp only at hSw); have d0 := hSw.at 0 rfl; have d1 := hSw.at 1 rfl; go_simp; try with_reducible rfl
    try simp only [Act.put, List.setIfInBounds_toArray, List.set_cons_zero, List.set_cons_succ]
    refine take_E 1 13 (v := ?_) rfl rfl (by kernel_rfl) (by kernel_rfl) (by kernel_rfl) (by kernel_rfl) (fun _ _ _ h => h) (Or.inl ⟨by rfl, ?_⟩) hHeld ?_
    rotate_left
    · intro w' hSw; (try dsimp only at hSw); have d0 := hSw.at 0 rfl; have d1 := hSw.at 1 rfl; go_simp; try with_reducible rfl
    try simp only [Act.put, List.setIfInBounds_toArray, List.set_cons_zero, List.set_cons_succ]
    refine one_E 2 (by kernel_rfl) rfl (fun K hK => ?_)
    refine stepB 26 _ _ W.heap.size 0 [.slice none 0 0, .string ⟨#[]⟩] [sv2 y1, .string y1.2] ie hie TR his.symm (by simp) rfl rfl rfl rfl rfl ?_
    try simp only [Act.put, List.setIfInBounds_toArray]
    obtain ⟨Wa, hWa⟩ : ∃ V, (World.setCells D W.heap.size 0 [sv2 y1, .string y1.2]) = V := ⟨_, rfl⟩
    rw [hWa]
    replace TR : Blk W.heap.size [sv2 y1, .string y1.2] Wa := by rw [← hWa]; exact TR.sets _ rfl
    replace TQ : Blk (W.heap.size + 1) [.slice none 0 0, .string ⟨#[]⟩] Wa := by rw [← hWa]; exact Blk.farS (by omega) _ _ _ TQ
    replace TA : Blk ab [sv2 y1, .string y1.2] Wa := by rw [← hWa]; exact Blk.farS (by omega) _ _ _ TA
    replace BC : Below W.heap.size W Wa := by rw [← hWa]; exact below_sets (Nat.le_refl _) _ _ _ BC
    replace o1 : OwT (W.heap.size + 2 + 1) Wa y1 := by rw [← hWa]; exact OwT.far o1 (sets_grown W.heap.size _ 0 _) (by omega)
    clear hWa
    refine hK.out _ _ TA (fun hHeld2 => ?_)
    clear hK K hHeld
    have hHeld := hHeld2
    clear hHeld2
    try simp only [Act.put, List.setIfInBounds_toArray, List.set_cons_zero, List.set_cons_succ]
    refine last_E (by kernel_rfl) rfl (by kernel_rfl) (fun K hK => ?_)
    refine stepB 26 _ _ (W.heap.size + 1) 0 [.slice none 0 0, .string ⟨#[]⟩] [sv2 y1, .string y1.2] ie hie TQ his.symm (by simp) rfl rfl rfl rfl rfl ?_
    try simp only [Act.put]
    obtain ⟨Wb, hWb⟩ : ∃ V, World.setCells Wa (W.heap.size + 1) 0 [sv2 y1, .string y1.2] = V := ⟨_, rfl⟩
    rw [hWb]
    have TR2 : Blk W.heap.size [sv2 y1, .string y1.2] Wb := by rw [← hWb]; exact Blk.farS (by omega) _ _ _ TR
    have TQ2 : Blk (W.heap.size + 1) [sv2 y1, .string y1.2] Wb := by rw [← hWb]; exact TQ.sets _ rfl
    have BF : Below W.heap.size W Wb := by rw [← hWb]; exact below_sets (by omega) _ _ _ BC
    have o1F : OwT W.heap.size Wb y1 := by rw [← hWb]; exact (OwT.far o1 (sets_grown (W.heap.size + 1) _ 0 _) (by omega)).le (by omega)
    refine hK.out _ _ ?_
    clear hK K hHeld hWb TR TQ TA BC o1
    go_wp2_with fail
    try simp only [Exit.inBlock, Exit.then]
    exact bodyPost_ret (res_BB rfl _ _ W.heap.size (W.heap.size + 1) [sv2 y1, .string y1.2] [sv2 y1, .string y1.2] ie hie (Try.isAgg26) TR2 TQ2 his.symm his.symm rfl rfl) rfl ⟨⟨y1, y1, rfl, o1F, sn1, o1F, sn1⟩, BF⟩
  | false =>
    replace TR := TR.drew
    replace TQ := TQ.drew
    replace TA := TA.drew
    replace BC := BC.drew
    replace o1 : OwT (W.heap.size + 2 + 1) w4.drew y1 := own_drew o1
    replace CA := CA.drew.here
    go_wp2_with fail
    refine drew_E 4 (fun Vw => Blk ab [sv2 y1, .string y1.2] Vw) (by kernel_rfl) TA (fun hHeld => ?_)
    generalize w4.drew = D at *
    refine take_E 0 14 (v := ?_) rfl rfl (by kernel_rfl) (by kernel_rfl) (by kernel_rfl) (by kernel_rfl) (fun _ _ _ h => h) (Or.inl ⟨by rfl, ?_⟩) hHeld ?_
    rotate_left
    · intro w' hSw; (try dsimp only at hSw); have d0 := hSw.at 0 rfl; have d1 := hSw.at 1 rfl; go_simp; try with_reducible rfl
    try simp only [Act.put, List.setIfInBounds_toArray, List.set_cons_zero, List.set_cons_succ]
    refine take_E 1 15 (v := ?_) rfl rfl (by kernel_rfl) (by kernel_rfl) (by kernel_rfl) (by kernel_rfl) (fun _ _ _ h => h) (Or.inl ⟨by rfl, ?_⟩) hHeld ?_
    rotate_left
    · intro w' hSw; (try dsimp only at hSw); have d0 := hSw.at 0 rfl; have d1 := hSw.at 1 rfl; go_simp; try with_reducible rfl
    try simp only [Act.put, List.setIfInBounds_toArray, List.set_cons_zero, List.set_cons_succ]
    refine one_E 2 (by kernel_rfl) rfl (fun K hK => ?_)
    go_simp
    refine (name_is D CA).mono ?_
    rintro e w6 ⟨y2, rfl, o2, sn2, C⟩
    replace TR := TR.only C.2 TR.lt (by omega)
    replace TQ := TQ.only C.2 TQ.lt (by omega)
    replace TA := TA.only C.2 TA.lt (by omega)
    replace BC := BC.trans (C.2.below (by omega) CA.lt)
    replace o1 : OwT (W.heap.size + 2 + 1) w6 y1 := own_only o1 C.2 (by omega)
    replace o2 : OwT (W.heap.size + 2 + 1) w6 y2 := o2.le CA.lt
    clear C CA
    go_wp2_with fail
    refine hK.out _ _ TA (fun hHeld2 => ?_)
    clear hK K hHeld
    have hHeld := hHeld2
    clear hHeld2
    try simp only [Act.put, List.setIfInBounds_toArray, List.set_cons_zero, List.set_cons_succ]
    refine one_E 3 (by kernel_rfl) rfl (fun K hK => ?_)
    refine stepB 26 _ _ W.heap.size 0 [.slice none 0 0, .string ⟨#[]⟩] [sv2 y1, .string y1.2] ie hie TR his.symm (by simp) rfl rfl rfl rfl rfl ?_
    try simp only [Act.put, List.setIfInBounds_toArray]
    obtain ⟨Wa, hWa⟩ : ∃ V, (World.setCells w6 W.heap.size 0 [sv2 y1, .string y1.2]) = V := ⟨_, rfl⟩
    rw [hWa]
    replace TR : Blk W.heap.size [sv2 y1, .string y1.2] Wa := by rw [← hWa]; exact TR.sets _ rfl
    replace TQ : Blk (W.heap.size + 1) [.slice none 0 0, .string ⟨#[]⟩] Wa := by rw [← hWa]; exact Blk.farS (by omega) _ _ _ TQ
    replace TA : Blk ab [sv2 y1, .string y1.2] Wa := by rw [← hWa]; exact Blk.farS (by omega) _ _ _ TA
    replace BC : Below W.heap.size W Wa := by rw [← hWa]; exact below_sets (Nat.le_refl _) _ _ _ BC
    replace o1 : OwT (W.heap.size + 2 + 1) Wa y1 := by rw [← hWa]; exact OwT.far o1 (sets_grown W.heap.size _ 0 _) (by omega)
    replace o2 : OwT (W.heap.size + 2 + 1) Wa y2 := by rw [← hWa]; exact OwT.far o2 (sets_grown W.heap.size _ 0 _) (by omega)
    clear hWa
    refine hK.out _ _ TA (fun hHeld2 => ?_)
    clear hK K hHeld
    have hHeld := hHeld2
    clear hHeld2
    try simp only [Act.put, List.setIfInBounds_toArray, List.set_cons_zero, List.set_cons_succ]
    refine last_E (by kernel_rfl) rfl (by kernel_rfl) (fun K hK => ?_)
    refine stepB 26 _ _ (W.heap.size + 1) 0 [.slice none 0 0, .string ⟨#[]⟩] [sv2 y2, .string y2.2] ie hie TQ his.symm (by simp) rfl rfl rfl rfl rfl ?_
    try simp only [Act.put]
    obtain ⟨Wb, hWb⟩ : ∃ V, World.setCells Wa (W.heap.size + 1) 0 [sv2 y2, .string y2.2] = V := ⟨_, rfl⟩
    rw [hWb]
    have TR2 : Blk W.heap.size [sv2 y1, .string y1.2] Wb := by rw [← hWb]; exact Blk.farS (by omega) _ _ _ TR
    have TQ2 : Blk (W.heap.size + 1) [sv2 y2, .string y2.2] Wb := by rw [← hWb]; exact TQ.sets _ rfl
    have BF : Below W.heap.size W Wb := by rw [← hWb]; exact below_sets (by omega) _ _ _ BC
    have o1F : OwT W.heap.size Wb y1 := by rw [← hWb]; exact (OwT.far o1 (sets_grown (W.heap.size + 1) _ 0 _) (by omega)).le (by omega)
    have o2F : OwT W.heap.size Wb y2 := by rw [← hWb]; exact (OwT.far o2 (sets_grown (W.heap.size + 1) _ 0 _) (by omega)).le (by omega)
    refine hK.out _ _ ?_
    clear hK K hHeld hWb TR TQ TA BC o1 o2
    go_wp2_with fail
    try simp only [Exit.inBlock, Exit.then]
    exact bodyPost_ret (res_BB rfl _ _ W.heap.size (W.heap.size + 1) [sv2 y1, .string y1.2] [sv2 y2, .string y2.2] ie hie (Try.isAgg26) TR2 TQ2 his.symm his.symm rfl rfl) rfl ⟨⟨y1, y2, rfl, o1F, sn1, o2F, sn2⟩, BF⟩
set_option maxHeartbeats 12800000 in
theorem drawLess_is (ad : Option Addr) (len cap : Nat) (zs : List Int) (W : World) (hz : CodeAt W W.heap.size ad len zs) :
    Calls Try.prog 20 #[.slice ad len cap] W fun e w' => DfP W.heap.size e w' ∧ Below W.heap.size W w' := by
  obtain ⟨ie, hie, his⟩ := info_T
  obtain ⟨V0, hV0⟩ : ∃ V, (W.alloc (.cells #[.slice none 0 0, .string ⟨#[]⟩] 26)).alloc (.cells #[.slice none 0 0, .string ⟨#[]⟩] 26) = V := ⟨_, rfl⟩
  have s0 : V0.heap.size = W.heap.size + 2 := by rw [← hV0]; simp
  have TR : Blk W.heap.size [.slice none 0 0, .string ⟨#[]⟩] V0 := by rw [← hV0]; exact (Blk.new W #[.slice none 0 0, .string ⟨#[]⟩] 26).alloc (by simp) _
  have TQ : Blk (W.heap.size + 1) [.slice none 0 0, .string ⟨#[]⟩] V0 := by rw [← hV0]; have := Blk.new (W.alloc (.cells #[.slice none 0 0, .string ⟨#[]⟩] 26)) #[.slice none 0 0, .string ⟨#[]⟩] 26; simpa using this
  have BC : Below W.heap.size W V0 := by rw [← hV0]; exact ((Below.refl _ _).alloc (Nat.le_refl _) _).alloc (by simp) _
  have K := newW ad len cap zs V0 ((hz.below BC).lt BC.size)
  clear hz
  go_enter Try.func20, Try.ntmps20
  go_wp2_with fail
  try rw [hV0]
  refine K.mono ?_
  clear K hV0
  rintro e w1 ⟨rfl, C1, b1⟩
  replace TR := TR.later b1 TR.lt
  replace TQ := TQ.later b1 TQ.lt
  replace BC := BC.trans (b1.mono BC.size)
  clear b1
  rw [s0] at C1
  have S := name_is w1 C1
  have l1 := C1.lt
  go_wp2_with fail
  try rw [s0]
  refine S.mono ?_
  clear S
  rintro e w2 ⟨y1, rfl, o1, sn1, C2⟩
  replace TR := TR.only C2.2 TR.lt (by omega)
  replace TQ := TQ.only C2.2 TQ.lt (by omega)
  replace BC := BC.trans (C2.2.below (by omega) l1)
  replace o1 : OwT (W.heap.size + 2 + 1) w2 y1 := o1.le l1
  replace C2 := C2.here
  clear C1
  obtain ⟨VA, hVA⟩ : ∃ V, w2.alloc (.cells #[sv2 y1, .string y1.2] 26) = V := ⟨_, rfl⟩
  have TA : Blk w2.heap.size [sv2 y1, .string y1.2] VA := by rw [← hVA]; exact Blk.new _ _ _
  have hb : Below w2.heap.size w2 VA := by rw [← hVA]; exact (Below.refl _ _).alloc (Nat.le_refl _) _
  have hA : W.heap.size + 2 < w2.heap.size := C2.lt
  replace TR := TR.later hb TR.lt
  replace TQ := TQ.later hb TQ.lt
  replace BC := BC.trans (hb.mono BC.size)
  replace o1 := o1.later hb
  have CA := (C2.under hb).here
  clear hb C2
  obtain ⟨ab, hab⟩ : ∃ n, w2.heap.size = n := ⟨_, rfl⟩
  rw [hab] at TA hA
  go_wp2_with fail
  try rw [hVA]
  try rw [hab]
  clear hVA hab
  replace TR := TR.drew
  replace TQ := TQ.drew
  replace TA := TA.drew
  replace BC := BC.drew
  replace o1 : OwT (W.heap.size + 2 + 1) VA.drew y1 := own_drew o1
  replace CA := CA.drew.here
  refine drew_E 4 (fun Vw => Blk ab [sv2 y1, .string y1.2] Vw) (by kernel_rfl) TA (fun hHeld => ?_)
  generalize VA.drew = D at *
  refine take_E 0 10 (v := ?_) rfl rfl (by kernel_rfl) (by kernel_rfl) (by kernel_rfl) (by kernel_rfl) (fun _ _ _ h => h) (Or.inl ⟨by rfl, ?_⟩) hHeld ?_
  rotate_left
  · intro w' hSw; (try dsimp only at hSw); have d0 := hSw.at 0 rfl; have d1 := hSw.at 1 rfl; go_simp; try with_reducible rfl
  try simp only [Act.put, List.setIfInBounds_toArray, List.set_cons_zero, List.set_cons_succ]
  refine take_E 1 11 (v := ?_) rfl rfl (by kernel_rfl) (by kernel_rfl) (by kernel_rfl) (by kernel_rfl) (fun _ _ _ h => h) (Or.inl ⟨by rfl, ?_⟩) hHeld ?_
  rotate_left
  · intro w' hSw; (try dsimp only at hSw); have d0 := hSw.at 0 rfl; have d1 := hSw.at 1 rfl; go_simp; try with_reducible rfl
  try simp only [Act.put, List.setIfInBounds_toArray, List.set_cons_zero, List.set_cons_succ]
  refine one_E 2 (by kernel_rfl) rfl (fun K hK => ?_)
  go_simp
  refine (name_is D CA).mono ?_
  rintro e w6 ⟨y2, rfl, o2, sn2, C⟩
  replace TR := TR.only C.2 TR.lt (by omega)
  replace TQ := TQ.only C.2 TQ.lt (by omega)
  replace TA := TA.only C.2 TA.lt (by omega)
  replace BC := BC.trans (C.2.below (by omega) CA.lt)
  replace o1 : OwT (W.heap.size + 2 + 1) w6 y1 := own_only o1 C.2 (by omega)
  replace o2 : OwT (W.heap.size + 2 + 1) w6 y2 := o2.le CA.lt
  clear C CA
  go_wp2_with fail
  refine hK.out _ _ TA (fun hHeld2 => ?_)
  clear hK K hHeld
  have hHeld := hHeld2
  clear hHeld2
  try simp only [Act.put, List.setIfInBounds_toArray, List.set_cons_zero, List.set_cons_succ]
  refine one_E 3 (by kernel_rfl) rfl (fun K hK => ?_)
  refine stepB 26 _ _ W.heap.size 0 [.slice none 0 0, .string ⟨#[]⟩] [sv2 y1, .string y1.2] ie hie TR his.symm (by simp) rfl rfl rfl rfl rfl ?_
  try simp only [Act.put, List.setIfInBounds_toArray]
  obtain ⟨Wa, hWa⟩ : ∃ V, (World.setCells w6 W.heap.size 0 [sv2 y1, .string y1.2]) = V := ⟨_, rfl⟩
  rw [hWa]
  replace TR : Blk W.heap.size [sv2 y1, .string y1.2] Wa := by rw [← hWa]; exact TR.sets _ rfl
  replace TQ : Blk (W.heap.size + 1) [.slice none 0 0, .string ⟨#[]⟩] Wa := by rw [← hWa]; exact Blk.farS (by omega) _ _ _ TQ
  replace TA : Blk ab [sv2 y1, .string y1.2] Wa := by rw [← hWa]; exact Blk.farS (by omega) _ _ _ TA
  replace BC : Below W.heap.size W Wa := by rw [← hWa]; exact below_sets (Nat.le_refl _) _ _ _ BC
  replace o1 : OwT (W.heap.size + 2 + 1) Wa y1 := by rw [← hWa]; exact OwT.far o1 (sets_grown W.heap.size _ 0 _) (by omega)
  replace o2 : OwT (W.heap.size + 2 + 1) Wa y2 := by rw [← hWa]; exact OwT.far o2 (sets_grown W.heap.size _ 0 _) (by omega)
  clear hWa
  refine hK.out _ _ TA (fun hHeld2 => ?_)
  clear hK K hHeld
  have hHeld := hHeld2
  clear hHeld2
  try simp only [Act.put, List.setIfInBounds_toArray, List.set_cons_zero, List.set_cons_succ]
  refine last_E (by kernel_rfl) rfl (by kernel_rfl) (fun K hK => ?_)
  refine stepB 26 _ _ (W.heap.size + 1) 0 [.slice none 0 0, .string ⟨#[]⟩] [sv2 y2, .string y2.2] ie hie TQ his.symm (by simp) rfl rfl rfl rfl rfl ?_
  try simp only [Act.put]
  obtain ⟨Wb, hWb⟩ : ∃ V, World.setCells Wa (W.heap.size + 1) 0 [sv2 y2, .string y2.2] = V := ⟨_, rfl⟩
  rw [hWb]
  have TR2 : Blk W.heap.size [sv2 y1, .string y1.2] Wb := by rw [← hWb]; exact Blk.farS (by omega) _ _ _ TR
  have TQ2 : Blk (W.heap.size + 1) [sv2 y2, .string y2.2] Wb := by rw [← hWb]; exact TQ.sets _ rfl
  have BF : Below W.heap.size W Wb := by rw [← hWb]; exact below_sets (by omega) _ _ _ BC
  have o1F : OwT W.heap.size Wb y1 := by rw [← hWb]; exact (OwT.far o1 (sets_grown (W.heap.size + 1) _ 0 _) (by omega)).le (by omega)
  have o2F : OwT W.heap.size Wb y2 := by rw [← hWb]; exact (OwT.far o2 (sets_grown (W.heap.size + 1) _ 0 _) (by omega)).le (by omega)
  refine hK.out _ _ ?_
  clear hK K hHeld hWb TR TQ TA BC o1 o2
  go_wp2_with fail
  try simp only [Exit.inBlock, Exit.then]
  exact bodyPost_ret (res_BB rfl _ _ W.heap.size (W.heap.size + 1) [sv2 y1, .string y1.2] [sv2 y2, .string y2.2] ie hie (Try.isAgg26) TR2 TQ2 his.symm his.symm rfl rfl) rfl ⟨⟨y1, y2, rfl, o1F, sn1, o2F, sn2⟩, BF⟩
end Go.Proofs.Ytbpodcfbijhboaa.Nd
