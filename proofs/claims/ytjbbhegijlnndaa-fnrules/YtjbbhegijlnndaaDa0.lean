/- What is asked, drawn. -/
import Derived.Test.YtjbbhegijlnndaaDs2
set_option linter.unusedVariables false
set_option maxRecDepth 100000
namespace Go.Proofs.Ytjbbhegijlnndaa.Nd
open Go Go.RowKit Go.Joins Own Draw Go.Proofs.Ytjbbhegijlnndaa

/-- An Ask that is drawn. -/
structure AskOk (x : TA) : Prop where
  s : 0 ≤ x.1 ∧ x.1 ≤ 20
  o : 0 ≤ x.2.1 ∧ x.2.1 ≤ 20
  n : 0 ≤ x.2.2.2.1 ∧ x.2.2.2.1 ≤ 20
  u : 0 ≤ x.2.2.2.2 ∧ x.2.2.2.2 ≤ 20
  l : x.2.2.1.2.2.length ≤ 5
  g : ∀ y ∈ x.2.2.1.2.2, 0 ≤ y ∧ y ≤ 20
def AskP (p : Nat) (ad : Option Addr) (len cap : Nat) (zs : List Int) (w : World) (e : Ending) (w' : World) : Prop :=
  ∃ x : TA, e = .returned (vA x) ∧ OwA w.heap.size w' x ∧ AskOk x ∧ Cu p ad len cap zs w w'
theorem cu_sets {p len cap : Nat} {a : Option Addr} {zs : List Int} {W w : World} (h : Cu p a len cap zs W w) (hp : p < W.heap.size) {g : Nat} (hg : W.heap.size ≤ g) (i : Nat) (vs : List Value) : Cu p a len cap zs W (w.setCells g i vs) :=
  cu_grown h hp (sets_grown g vs i w) (fun k e => by injection e with e; omega)
set_option maxRecDepth 100000 in
set_option maxHeartbeats 12800000 in
theorem ask_is {p len cap : Nat} {ad : Option Addr} {zs : List Int} (w : World) (h : Cu p ad len cap zs w w) :
    Calls Try.prog 58 #[.pointer (some ⟨p, 0, none⟩)] w fun e w' => AskP p ad len cap zs w e w' := by
  have hpw := h.lt
  obtain ⟨ie, hie, his⟩ := info_A
  obtain ⟨i0, hi0, hz0, hz1, hz2⟩ := info_parts infoInt
  obtain ⟨V0, hV0⟩ : ∃ V, w.alloc (.cells #[.int .i64 0, .int .i64 0, .slice none 0 0, .int .i64 0, .int .i64 0] 34) = V := ⟨_, rfl⟩
  have RZ : Blk w.heap.size [.int .i64 0, .int .i64 0, .slice none 0 0, .int .i64 0, .int .i64 0] V0 := by rw [← hV0]; exact Blk.new _ _ _
  have CC : Cu p ad len cap zs w V0 := by rw [← hV0]; exact h.alloc _
  have HX := belowW 6 CC.here (by omega) (by omega)
  go_enter Try.func58, Try.ntmps58
  go_wp2_with fail
  try rw [hV0]
  refine HX.mono ?_
  clear HX hV0
  rintro en w10 ⟨f0, rfl, a0, b0, C⟩
  replace RZ := RZ.only C.2 RZ.lt (by omega)
  replace CC := CC.next C
  clear C
  have HX := belowW 6 CC.here (by omega) (by omega)
  go_wp2_with fail
  refine HX.mono ?_
  clear HX
  rintro en w11 ⟨f1, rfl, a1, b1, C⟩
  replace RZ := RZ.only C.2 RZ.lt (by omega)
  replace CC := CC.next C
  clear C
  have HX := belowW 14 CC.here (by omega) (by omega)
  go_wp2_with fail
  refine HX.mono ?_
  clear HX
  rintro en w12 ⟨f2, rfl, a2, b2, C⟩
  replace RZ := RZ.only C.2 RZ.lt (by omega)
  replace CC := CC.next C
  clear C
  have HX := belowW 12 CC.here (by omega) (by omega)
  go_wp2_with fail
  refine HX.mono ?_
  clear HX
  rintro en w13 ⟨f3, rfl, a3, b3, C⟩
  replace RZ := RZ.only C.2 RZ.lt (by omega)
  replace CC := CC.next C
  clear C
  obtain ⟨w2, hw2⟩ : ∃ Z, Z = w13 := ⟨_, rfl⟩
  subst hw2
  obtain ⟨V1, hV1⟩ : ∃ V, w2.alloc (.cells #[.int .i64 0, .int .i64 0, .slice none 0 0, .int .i64 0, .int .i64 0] 34) = V := ⟨_, rfl⟩
  have hws : w.heap.size < w2.heap.size := RZ.lt
  have XA : Below w2.heap.size w2 V1 := by rw [← hV1]; exact (Below.refl _ _).alloc (Nat.le_refl _) _
  have RB0 : Blk w2.heap.size [.int .i64 0, .int .i64 0, .slice none 0 0, .int .i64 0, .int .i64 0] V1 := by rw [← hV1]; exact Blk.new _ _ _
  replace RZ := RZ.later XA RZ.lt
  replace CC := CC.under XA
  clear XA
  obtain ⟨rb, hrb⟩ : ∃ rb, w2.heap.size = rb := ⟨_, rfl⟩
  rw [hrb] at RB0 hws
  obtain ⟨V2, hV2⟩ : ∃ V, World.setCells V1 rb 0 [.int .i64 f0, .int .i64 f1, .slice none 0 0, .int .i64 f2, .int .i64 f3] = V := ⟨_, rfl⟩
  have RB : Blk rb [.int .i64 f0, .int .i64 f1, .slice none 0 0, .int .i64 f2, .int .i64 f3] V2 := by rw [← hV2]; exact RB0.sets [.int .i64 f0, .int .i64 f1, .slice none 0 0, .int .i64 f2, .int .i64 f3] rfl
  replace RZ : Blk w.heap.size [.int .i64 0, .int .i64 0, .slice none 0 0, .int .i64 0, .int .i64 0] V2 := by rw [← hV2]; exact Blk.farS (by omega) _ 0 _ RZ
  replace CC : Cu p ad len cap zs w V2 := by rw [← hV2]; exact cu_sets CC hpw (by omega) 0 _
  have HV1 : Hid (w2.alloc (.cells #[.int .i64 0, .int .i64 0, .slice none 0 0, .int .i64 0, .int .i64 0] 34) = V1) := hV1
  have HRB : Hid (w2.heap.size = rb) := hrb
  clear hV1 hrb
  go_wp2_with (first | (rw [HV1.out, HRB.out]; refine wpList_stB 34 _ _ rb 0 [.int .i64 0, .int .i64 0, .slice none 0 0, .int .i64 0, .int .i64 0] [.int .i64 f0, .int .i64 f1, .slice none 0 0, .int .i64 f2, .int .i64 f3] ie hie RB0 (by rw [his]; rfl) (by simp) rfl rfl rfl rfl rfl ?_; try simp only [Act.put]; rw [hV2]) | fail)
  clear hV2 RB0 HV1 HRB
  go_loopw [4] (fun kv wr => ∃ (k : Nat) (va : Option Addr) (vc : Nat) (L : List Int), k ≤ 5 ∧ kv = .int .i64 (k : Int) ∧ L.length ≤ k ∧ (∀ y ∈ L, 0 ≤ y ∧ y ≤ 20) ∧ Blk rb [.int .i64 f0, .int .i64 f1, .slice va L.length vc, .int .i64 f2, .int .i64 f3] wr ∧ wr.ownsRow (rb + 1) 3 1 (.slice va L.length vc) L.length (L.map (Value.int .i64)) ∧ Blk w.heap.size [.int .i64 0, .int .i64 0, .slice none 0 0, .int .i64 0, .int .i64 0] wr ∧ Cu p ad len cap zs w wr) (fun kv _ => 5 - (intOf kv).toNat)
  case atStart => exact ⟨0, none, 0, [], by omega, rfl, Nat.zero_le _, (fun y hy => by cases hy), RB, World.ownsRow_nil _ _ _ _, RZ, CC⟩
  case round =>
    clear RB RZ CC
    obtain ⟨k, va, vc, L, hk5, rfl, hLk, hLb, RB, rs, RZ, CC⟩ := hrel
    have hrw := RB.lt
    by_cases hlt : k < 5
    · have hlt2 : (k : Int) < 5 := by omega
      have HX := onceW 4 CC.here (by omega)
      go_wp2_with fail
      refine HX.mono ?_
      clear HX
      rintro en w4 ⟨b, rfl, C⟩
      replace RB := RB.only C.2 RB.lt (by omega)
      replace RZ := RZ.only C.2 RZ.lt (by omega)
      replace rs := own_only rs C.2 (by omega)
      have hw4 := C.size
      replace CC := CC.next C
      clear C
      cases b with
      | true =>
        go_wp2
        go_roundw
        case rel => exact ⟨k + 1, va, vc, L, by omega, by go_num, by omega, hLb, RB, rs, RZ, CC⟩
        case measure => simp [intOf]; omega
      | false =>
        obtain ⟨U, hU⟩ : ∃ Z, w4.alloc (.cells #[.int .i64 (k : Int)] 3) = Z := ⟨_, rfl⟩
        have XA : Below w4.heap.size w4 U := by rw [← hU]; exact (Below.refl _ _).alloc (Nat.le_refl _) _
        have nw : ∀ j u, [Value.int .i64 (k : Int)][j]? = some u → U.cell? ((⟨w4.heap.size, 0, none⟩ : Addr).add j) = some u := by rw [← hU]; exact news_one _ _ _
        have RBU := RB.later XA RB.lt
        have RZU := RZ.later XA RZ.lt
        have rsU := own_later rs XA
        have CCU := CC.under XA
        have hrU : rb + 1 ≤ U.heap.size := RBU.lt
        have z1 := RB.at 2 rfl
        go_wp2_with (first | (at_builtin; first | refine wpList_append_row _ rfl _ _ 32 rfl (rb + 1) 3 i0 (.int .i64 0) 1 8 Try.underlying32 hi0 hz0 hz1 hz2 rfl (by decide) _ _ _ rfl rsU (some ⟨w4.heap.size, 0, none⟩) 1 1 [.int .i64 (k : Int)] rfl rfl (fun ad e => by injection e with e; subst e; exact nw) (fun u hu => by simp at hu; subst hu; rfl) (by unfold maxLen; omega) (by omega) hrU (fun c => by cases c) ?_ | (rw [hU]; refine wpList_append_row _ rfl _ _ 32 rfl (rb + 1) 3 i0 (.int .i64 0) 1 8 Try.underlying32 hi0 hz0 hz1 hz2 rfl (by decide) _ _ _ rfl rsU (some ⟨w4.heap.size, 0, none⟩) 1 1 [.int .i64 (k : Int)] rfl rfl (fun ad e => by injection e with e; subst e; exact nw) (fun u hu => by simp at hu; subst hu; rfl) (by unfold maxLen; omega) (by omega) hrU (fun c => by cases c) ?_)) | fail)
        intro v3 w5 ho3 hg3
        obtain ⟨na, nc, rfl, _⟩ := own_shape ho3
        have hnb : ∀ g, g < rb + 1 → some g ≠ (Value.slice va L.length vc).ownBlock := fun g hg e => by have := (World.ownsRow.lt rsU g e.symm).1; omega
        have RB5 := blk_kept RBU hg3 (hnb _ (by omega)) RBU.lt
        have RZ5 := blk_kept RZU hg3 (hnb _ (by omega)) RZU.lt
        have CC5 := cu_grown CCU hpw hg3 (fun k e => by have := (World.ownsRow.lt rsU k e).1; omega)
        have tc := RB5.at 2 rfl
        have fc := RB5.fz 2 rfl
        obtain ⟨w6, hw6⟩ : ∃ Z, w5.setCell ⟨rb, 2, none⟩ (.slice na (L.length + 1) nc) = Z := ⟨_, rfl⟩
        have RB6 : Blk rb [.int .i64 f0, .int .i64 f1, .slice na (L.length + 1) nc, .int .i64 f2, .int .i64 f3] w6 := by rw [← hw6]; exact RB5.set 2 _
        have rs6 : w6.ownsRow (rb + 1) 3 1 (.slice na (L.length + 1) nc) (L.length + 1) (L.map (Value.int .i64) ++ [.int .i64 (k : Int)]) := by
          rw [← hw6]
          exact World.ownsRow.kept ho3 (set_grown w5 rb 2 _) (by
            cases e : (Value.slice na (L.length + 1) nc).ownBlock with
            | none => exact Or.inl rfl
            | some g => exact Or.inr (fun c => by have := (World.ownsRow.lt ho3 g e).1; injection c with c; omega))
        have RZ6 : Blk w.heap.size [.int .i64 0, .int .i64 0, .slice none 0 0, .int .i64 0, .int .i64 0] w6 := by rw [← hw6]; exact RZ5.far (by omega) 2 _
        have CC6 : Cu p ad len cap zs w w6 := by rw [← hw6]; exact cu_grown CC5 hpw (set_grown w5 rb 2 _) (fun k e => by injection e with e; omega)
        have hl2 : (L ++ [(k : Int)]).length = L.length + 1 := by simp
        have HR : ∃ (k' : Nat) (va' : Option Addr) (vc' : Nat) (L' : List Int), k' ≤ 5 ∧ Value.int .i64 ((k : Int) + 1) = .int .i64 (k' : Int) ∧ L'.length ≤ k' ∧ (∀ y ∈ L', 0 ≤ y ∧ y ≤ 20) ∧ Blk rb [.int .i64 f0, .int .i64 f1, .slice va' L'.length vc', .int .i64 f2, .int .i64 f3] w6 ∧ w6.ownsRow (rb + 1) 3 1 (.slice va' L'.length vc') L'.length (L'.map (Value.int .i64)) ∧ Blk w.heap.size [.int .i64 0, .int .i64 0, .slice none 0 0, .int .i64 0, .int .i64 0] w6 ∧ Cu p ad len cap zs w w6 :=
          ⟨k + 1, na, nc, L ++ [(k : Int)], by omega, by go_num, by rw [hl2]; omega, (fun y hy => (List.mem_append.1 hy).elim (hLb y) (fun hy => by rw [List.mem_singleton] at hy; omega)), by rw [hl2]; exact RB6, by rw [hl2, List.map_append]; exact rs6, RZ6, CC6⟩
        clear RB6 rs6 RZ6 CC6 CC5 RZ5 RB5 ho3 hg3 hnb rsU RBU RZU CCU CC RB rs RZ nw XA hU z1 hl2
        go_wp2
        try rw [hw6]
        go_roundw
        case rel => exact HR
        case measure => simp [intOf]; omega
    · obtain rfl : k = 5 := by omega
      have hlt2 : ¬ (((5 : Nat) : Int) < 5) := by omega
      obtain ⟨VF, hVF⟩ : ∃ V, wr.setCells w.heap.size 0 [.int .i64 f0, .int .i64 f1, .slice va L.length vc, .int .i64 f2, .int .i64 f3] = V := ⟨_, rfl⟩
      have TF : Blk w.heap.size [.int .i64 f0, .int .i64 f1, .slice va L.length vc, .int .i64 f2, .int .i64 f3] VF := by rw [← hVF]; exact RZ.sets _ rfl
      have CF : Cu p ad len cap zs w VF := by rw [← hVF]; exact cu_sets CC hpw (Nat.le_refl _) 0 _
      have oF : OwA w.heap.size VF (f0, f1, (va, vc, L), f2, f3) := by
        rw [← hVF]
        have h_ : OwA (rb + 1) wr (f0, f1, (va, vc, L), f2, f3) := by
          show wr.ownsRow (rb + 1) 3 1 (.slice va L.length vc) L.length (L.map (Value.int .i64))
          exact rs
        exact OwA.le (OwA.far h_ (sets_grown w.heap.size [.int .i64 f0, .int .i64 f1, .slice va L.length vc, .int .i64 f2, .int .i64 f3] 0 _) (by omega)) (by omega)
      have AK : AskOk (f0, f1, (va, vc, L), f2, f3) := ⟨⟨a0, by dsimp only; omega⟩, ⟨a1, by dsimp only; omega⟩, ⟨a2, by dsimp only; omega⟩, ⟨a3, by dsimp only; omega⟩, hLk, hLb⟩
      clear CC rs
      go_wp2_with (first | (refine wpList_ldB 34 _ rb 0 _ [.int .i64 f0, .int .i64 f1, .slice va L.length vc, .int .i64 f2, .int .i64 f3] ie hie (Try.isAgg34) RB his.symm rfl rfl rfl rfl ?_) | (refine wpList_stB 34 _ _ w.heap.size 0 _ [.int .i64 f0, .int .i64 f1, .slice va L.length vc, .int .i64 f2, .int .i64 f3] ie hie RZ his.symm (by simp) rfl rfl rfl rfl rfl ?_; rw [hVF]) | fail)
      exact bodyPost_ret (res_B1 rfl _ _ w.heap.size [.int .i64 f0, .int .i64 f1, .slice va L.length vc, .int .i64 f2, .int .i64 f3] ie hie (Try.isAgg34) TF his.symm rfl) rfl ⟨(f0, f1, (va, vc, L), f2, f3), rfl, oF, AK, CF⟩
end Go.Proofs.Ytjbbhegijlnndaa.Nd
