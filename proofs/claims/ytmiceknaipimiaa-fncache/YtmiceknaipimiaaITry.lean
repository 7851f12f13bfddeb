/- An Auth tried at a Cache: the program. -/
import Derived.Test.YtmiceknaipimiaaGone
set_option linter.unusedVariables false
namespace Go.Proofs.Ytmiceknaipimiaa
open Go Go.RowKit Go.Joins Own

theorem Own3.low {w : World} {B c : Nat} {a : Option Addr} {xs : List A3} (h : Own3 B a c xs w) : ∀ k, (Value.slice a xs.length c).ownBlock = some k → B ≤ k := fun k hk => (World.ownsRow.lt h k hk).1

set_option maxRecDepth 100000 in
theorem collect_is (Bc Bn Bk : Nat) (q n k : Int) (a : Option Addr) (cap : Nat) (xs : List A3) (hl : xs.length ≤ 1048576) (hn : 0 ≤ n ∧ n ≤ 100000) (hk : 0 ≤ k ∧ k ≤ 20) (w : World) (hr : ARow w a xs) (hBc : Bc < w.heap.size) (hBn : Bn < w.heap.size) (hBk : Bk < w.heap.size)
    (hc : w.cell? ⟨Bc, 1, none⟩ = some (.slice a xs.length cap)) (hcn : w.cell? ⟨Bn, 0, none⟩ = some (.int .i64 n)) (hck : w.cell? ⟨Bk, 0, none⟩ = some (.int .i64 k)) :
    Calls Try.prog 35 #[.func (.func 55) #[] #[.pointer (some ⟨Bc, 0, none⟩), .pointer (some ⟨Bn, 0, none⟩), .pointer (some ⟨Bk, 0, none⟩)]] w fun e w' => ∃ g c, e = .returned (.slice g (stay n k xs).length c) ∧ Own3 w.heap.size g c (stay n k xs) w' ∧ Below w.heap.size w w' := by
  have HX := (callsIn_wide (n := 3)).1 (appSeq_in 3 (by omega) Bc Bn Bk q n k a cap xs hl hn hk w hr hBc hBn hBk hc hcn hck)
  go_enter Try.func35, Try.ntmps35
  go_wp2_with fail
  refine HX.mono ?_
  clear HX
  rintro e w1 ⟨g, c, rfl, ho, hb⟩
  go_wp2
  go_ret
  exact ⟨g, c, rfl, ho, hb⟩
set_option maxRecDepth 100000 in
theorem notGone_is (q n k : Int) (a : Option Addr) (l cap : Nat) (w : World) :
    Calls Try.prog 36 #[cv q a l cap, .int .i64 n, .int .i64 k] w fun e w' => e = .returned (.func (.func 55) #[] #[.pointer (some ⟨w.heap.size, 0, none⟩), .pointer (some ⟨w.heap.size + 1, 0, none⟩), .pointer (some ⟨w.heap.size + 1 + 1, 0, none⟩)]) ∧ Blk w.heap.size [.int .i64 q, .slice a l cap] w' ∧ Blk (w.heap.size + 1) [.int .i64 n] w' ∧ Blk (w.heap.size + 1 + 1) [.int .i64 k] w' ∧ Below w.heap.size w w' := by
  obtain ⟨W, hW⟩ : ∃ W, ((w.alloc (.cells #[.int .i64 q, .slice a l cap] 26)).alloc (.cells #[.int .i64 n] 3)).alloc (.cells #[.int .i64 k] 3) = W := ⟨_, rfl⟩
  have BW : Below w.heap.size w W := by rw [← hW]; exact (((Below.refl _ _).alloc (Nat.le_refl _) _).alloc (by simp) _).alloc (by simp; omega) _
  have T0 : Blk w.heap.size [.int .i64 q, .slice a l cap] W := by rw [← hW]; exact ((Blk.new _ _ _).alloc (by simp) _).alloc (by simp; omega) _
  have T1 : Blk (w.heap.size + 1) [.int .i64 n] W := by rw [← hW]; have h := Blk.new (w.alloc (.cells #[.int .i64 q, .slice a l cap] 26)) #[.int .i64 n] 3; rw [World.size_alloc] at h; exact h.alloc (by simp) _
  have T2 : Blk (w.heap.size + 1 + 1) [.int .i64 k] W := by rw [← hW]; have h := Blk.new ((w.alloc (.cells #[.int .i64 q, .slice a l cap] 26)).alloc (.cells #[.int .i64 n] 3)) #[.int .i64 k] 3; rw [World.size_alloc, World.size_alloc] at h; exact h
  go_enter Try.func36, Try.ntmps36
  go_wp2
  try rw [hW]
  go_ret
  exact ⟨rfl, T0, T1, T2, BW⟩

theorem res_c2 {fn : Func} {p s : Tmp} (hres : fn.results = #[.cell p 26, .tmp s]) (tmps : Array Value) (w : World) (g : Nat) (v0 v1 v2 : Value) (hp : tmps.getD p undef = .pointer (some ⟨g, 0, none⟩)) (hs : tmps.getD s undef = v2) (h0 : w.cell? ⟨g, 0, none⟩ = some v0) (h1 : w.cell? ⟨g, 1, none⟩ = some v1) :
    (results fn tmps).run Try.prog w = .ok (.tuple #[.agg #[v0, v1], v2]) w := by
  have hp' : tmps[p]?.getD undef = .pointer (some ⟨g, 0, none⟩) := by simpa using hp
  have hs' : tmps[s]?.getD undef = v2 := by simpa using hs
  unfold results
  rw [hres]
  go_simp

/-- What a try answers: the Quiet, the row, the code. -/
def tqV (q : Int) (xs : List A3) : Int := if cOk q xs = true then q else 0
def tkV (q : Int) (xs : List A3) (x y z n k : Int) : Int := if cOk q xs = true then (if cdV q xs x y z n k = 0 then (if (stay n k xs).length < 6 then 0 else 5) else cdV q xs x y z n k) else 1
def tlV (q : Int) (xs : List A3) (x y z n k : Int) : List A3 := if cOk q xs = true then (if tkV q xs x y z n k = 0 then stay n k xs ++ [(x, y, z)] else xs) else []
theorem cOk_parts {q : Int} {xs : List A3} (h : cOk q xs = true) : (-1 ≤ q ∧ q ≤ 200000) ∧ xs.length ≤ 6 ∧ allA xs = true ∧ xs.Nodup := by
  unfold cOk snB at h
  rw [Bool.and_eq_true, Bool.and_eq_true, Bool.and_eq_true, btw_iff] at h
  exact ⟨h.1, of_decide_eq_true h.2.1, h.2.2.1, of_decide_eq_true h.2.2.2⟩

set_option maxRecDepth 100000 in
set_option maxHeartbeats 3200000 in
theorem implTry_is (q : Int) (a : Option Addr) (cap : Nat) (xs : List A3) (x y z n k : Int) (w : World) (hr : ARow w a xs) (hm : xs.length ≤ 1048576) :
    Calls Try.prog 10 #[cv q a xs.length cap, av x y z, .int .i64 n, .int .i64 k] w fun e w' => ∃ g c, e = .returned (.tuple #[cv (tqV q xs) g (tlV q xs x y z n k).length c, .int .i64 (tkV q xs x y z n k)]) ∧ Own3 w.heap.size g c (tlV q xs x y z n k) w' ∧ Below w.heap.size w w' := by
  obtain ⟨W, hW⟩ : ∃ W, ((w.alloc (.cells #[.int .i64 q, .slice a xs.length cap] 26)).alloc (.cells #[.int .i64 x, .int .i64 y, .int .i64 z] 28)).alloc (.cells #[.int .i64 0, .slice none 0 0] 26) = W := ⟨_, rfl⟩
  have BW : Below w.heap.size w W := by rw [← hW]; exact (((Below.refl _ _).alloc (Nat.le_refl _) _).alloc (by simp) _).alloc (by simp; omega) _
  have sW : Hid (w.heap.size + 3 = W.heap.size) := by show _ = _; rw [← hW]; simp
  have T0 : Blk w.heap.size [.int .i64 q, .slice a xs.length cap] W := by rw [← hW]; exact ((Blk.new _ _ _).alloc (by simp) _).alloc (by simp; omega) _
  have T1 : Blk (w.heap.size + 1) [.int .i64 x, .int .i64 y, .int .i64 z] W := by rw [← hW]; have h := Blk.new (w.alloc (.cells #[.int .i64 q, .slice a xs.length cap] 26)) #[.int .i64 x, .int .i64 y, .int .i64 z] 28; rw [World.size_alloc] at h; exact h.alloc (by simp) _
  have T2 : Blk (w.heap.size + 1 + 1) [.int .i64 0, .slice none 0 0] W := by rw [← hW]; have h := Blk.new ((w.alloc (.cells #[.int .i64 q, .slice a xs.length cap] 26)).alloc (.cells #[.int .i64 x, .int .i64 y, .int .i64 z] 28)) #[.int .i64 0, .slice none 0 0] 26; rw [World.size_alloc, World.size_alloc] at h; exact h
  have HR := right_is q a cap xs W (hr.later BW) hm
  have c0 := T0.at 0 rfl
  have c1 := T0.at 1 rfl
  by_cases hc : cOk q xs = true
  · rw [hc] at HR
    obtain ⟨hq, h6, hA, hnd⟩ := cOk_parts hc
    have eq : tqV q xs = q := if_pos hc
    rw [eq]
    have HC := fun W (h : ARow W a xs) => check_is q a cap xs x y z n k W h h6 (allA_i3 hA)
    have HD := fun W (h : ARow W a xs) => copied_is q a cap xs W h hm
    by_cases hz : cdV q xs x y z n k = 0
    · rw [hz] at HC
      have hmo : moB n k = true := by
        by_cases h : moB n k = true
        · exact h
        · rw [Bool.not_eq_true] at h
          unfold cdV at hz
          rw [h, Bool.and_false] at hz
          simp at hz
      obtain ⟨hn, hk⟩ := moB_iff.1 hmo
      by_cases hf : (stay n k xs).length < 6
      · have ek : tkV q xs x y z n k = 0 := by unfold tkV; rw [if_pos hc, if_pos hz, if_pos hf]
        have el : tlV q xs x y z n k = stay n k xs ++ [(x, y, z)] := by unfold tlV; rw [if_pos hc, if_pos ek]
        rw [ek, el]
        have HK := fun Bc Bn Bk W (h : ARow W a xs) => collect_is Bc Bn Bk q n k a cap xs hm hn hk W h
        generalize hys : stay n k xs = ys at HK hf
        have hf2 : ¬ (ys.length : Int) = 6 := by omega
        clear ek el eq hz hmo hys hA hnd
        go_enter Try.func10, Try.ntmps10
        go_wp2_with fail
        try rw [hW]
        refine HR.mono ?_
        clear HR hW c0 c1
        rintro e w1 ⟨rfl, hb1⟩
        replace T0 := T0.later hb1 T0.lt
        replace T1 := T1.later hb1 T1.lt
        replace T2 := T2.later hb1 T2.lt
        replace BW := BW.trans (hb1.mono BW.size)
        have sz1 : Hid (w.heap.size + 3 ≤ w1.heap.size) := by show _ ≤ _; have := sW.out; have := hb1.size; omega
        clear hb1
        have c0 := T0.at 0 rfl
        have c1 := T0.at 1 rfl
        have c2 := T1.at 0 rfl
        have c3 := T1.at 1 rfl
        have c4 := T1.at 2 rfl
        go_wp2_with fail
        refine (HC _ (hr.later BW)).mono ?_
        clear HC c0 c1 c2 c3 c4
        rintro e w2 ⟨rfl, hb2⟩
        replace T0 := T0.later hb2 T0.lt
        replace T1 := T1.later hb2 T1.lt
        replace T2 := T2.later hb2 T2.lt
        replace BW := BW.trans (hb2.mono BW.size)
        have sz2 : Hid (w.heap.size + 3 ≤ w2.heap.size) := by show _ ≤ _; have := sz1.out; have := hb2.size; omega
        clear hb2 sz1
        have c0 := T0.at 0 rfl
        have c1 := T0.at 1 rfl
        go_wp2_with fail
        refine (notGone_is q n k a xs.length cap _).mono ?_
        clear c0 c1
        rintro e wg ⟨rfl, G0, G1, G2, hbg⟩
        have szg : Hid (w2.heap.size + 3 ≤ wg.heap.size) := by show _ ≤ _; have := G2.lt; omega
        replace T0 := T0.later hbg T0.lt
        replace T1 := T1.later hbg T1.lt
        replace T2 := T2.later hbg T2.lt
        replace BW := BW.trans (hbg.mono BW.size)
        clear hbg
        go_wp2_with fail
        refine (HK w2.heap.size (w2.heap.size + 1) (w2.heap.size + 1 + 1) _ (hr.later BW) G0.lt G1.lt G2.lt (G0.at 1 rfl) (G1.at 0 rfl) (G2.at 0 rfl)).mono ?_
        clear HK G0 G1 G2
        rintro e w3 ⟨g2, c2, rfl, oK0, hb3⟩
        have sz3 : Hid (w.heap.size + 3 ≤ w3.heap.size) := by show _ ≤ _; have := sz2.out; have := szg.out; have := hb3.size; omega
        have oK := oK0.le (B' := w.heap.size + 3) (by have := sz2.out; have := szg.out; omega)
        clear oK0
        replace T0 := T0.later hb3 T0.lt
        replace T1 := T1.later hb3 T1.lt
        replace T2 := T2.later hb3 T2.lt
        replace BW := BW.trans (hb3.mono BW.size)
        clear hb3 sz2 szg
        have hown9 : (w3.drew.alloc (.cells #[.int .i64 x, .int .i64 y, .int .i64 z] 28)).ownsRow (w.heap.size + 3) 28 3 (.slice g2 ys.length c2) ys.length (trV ys) := World.ownsRow.alloc (World.ownsRow.drew oK) _
        have hr9 : ARow (w3.drew.alloc (.cells #[.int .i64 x, .int .i64 y, .int .i64 z] 28)) (some ⟨w3.heap.size, 0, none⟩) [(x, y, z)] := by
          intro j hj
          obtain rfl : j = 0 := by simp at hj; omega
          have B9 := Blk.new w3.drew #[.int .i64 x, .int .i64 y, .int .i64 z] 28
          exact ⟨w3.heap.size, 0, rfl, by simp, B9.at 0 rfl, B9.at 1 rfl, B9.at 2 rfl⟩
        go_wp2_with fail
        refine wp_region_held_drew (S := (fun V : World => Blk w.heap.size [.int .i64 q, .slice a xs.length cap] V ∧ Blk (w.heap.size + 1) [.int .i64 x, .int .i64 y, .int .i64 z] V)) (by kernel_rfl) ⟨T0.drew, T1.drew⟩ (fun hHeld => ?_)
        refine take_one 0 36 (v := ?_) rfl rfl (by kernel_rfl) (by kernel_rfl) (by kernel_rfl) (fun _ _ _ h => h) (Or.inl ⟨by rfl, ?_⟩) hHeld ?_
        rotate_left
        · intro w' hSw; (try dsimp only at hSw); have c0 := hSw.1.at 0 rfl; have c1 := hSw.1.at 1 rfl; have c2 := hSw.2.at 0 rfl; have c3 := hSw.2.at 1 rfl; have c4 := hSw.2.at 2 rfl; go_simp; try with_reducible rfl
        try simp only [Act.put, List.setIfInBounds_toArray, List.set_cons_zero, List.set_cons_succ]
        refine take_one 1 37 (v := ?_) rfl rfl (by kernel_rfl) (by kernel_rfl) (by kernel_rfl) (fun _ _ _ h => h) (Or.inl ⟨by rfl, ?_⟩) hHeld ?_
        rotate_left
        · intro w' hSw; (try dsimp only at hSw); have c0 := hSw.1.at 0 rfl; have c1 := hSw.1.at 1 rfl; have c2 := hSw.2.at 0 rfl; have c3 := hSw.2.at 1 rfl; have c4 := hSw.2.at 2 rfl; go_simp; try with_reducible rfl
        try simp only [Act.put, List.setIfInBounds_toArray, List.set_cons_zero, List.set_cons_succ]
        refine take_one 2 38 (v := ?_) rfl rfl (by kernel_rfl) (by kernel_rfl) (by kernel_rfl) (fun _ _ _ h => h) (Or.inl ⟨by rfl, ?_⟩) hHeld ?_
        rotate_left
        · intro w' hSw; (try dsimp only at hSw); have c0 := hSw.1.at 0 rfl; have c1 := hSw.1.at 1 rfl; have c2 := hSw.2.at 0 rfl; have c3 := hSw.2.at 1 rfl; have c4 := hSw.2.at 2 rfl; go_simp; try with_reducible rfl
        try simp only [Act.put, List.setIfInBounds_toArray, List.set_cons_zero, List.set_cons_succ]
        refine take_one 3 39 (v := ?_) rfl rfl (by kernel_rfl) (by kernel_rfl) (by kernel_rfl) (fun _ _ _ h => h) (Or.inl ⟨by rfl, ?_⟩) hHeld ?_
        rotate_left
        · intro w' hSw; (try dsimp only at hSw); have c0 := hSw.1.at 0 rfl; have c1 := hSw.1.at 1 rfl; have c2 := hSw.2.at 0 rfl; have c3 := hSw.2.at 1 rfl; have c4 := hSw.2.at 2 rfl; go_simp; try with_reducible rfl
        try simp only [Act.put, List.setIfInBounds_toArray, List.set_cons_zero, List.set_cons_succ]
        refine wpAnyH_ready (rs := [4]) (by kernel_rfl) (by simp) ?_
        refine AllReadyH.cons (i := 4) rfl (fun K hK => ?_) AllReadyH.nil
        go_simp
        refine hK.out _ _ ⟨T0.drew.alloc T0.lt _, T1.drew.alloc T1.lt _⟩ (fun hHeld2 => ?_)
        clear hK K hHeld
        have hHeld := hHeld2
        clear hHeld2
        try simp only [Act.put, List.setIfInBounds_toArray, List.set_cons_zero, List.set_cons_succ]
        refine wpAnyH_ready (rs := [5]) (by kernel_rfl) (by simp) ?_
        refine AllReadyH.cons (i := 5) rfl (fun K hK => ?_) AllReadyH.nil
        refine step_app_trips 41 rfl rfl _ _ rfl (w.heap.size + 3) _ ys.length ys rfl hown9 (some ⟨w3.heap.size, 0, none⟩) 1 [(x, y, z)] rfl hr9 (by show ys.length + 1 ≤ _; omega) (by have := sz3.out; simp; omega) ?_
        intro v' w9 hown hg
        have hl9 : ys.length + [(x, y, z)].length = (ys ++ [(x, y, z)]).length := by simp
        rw [hl9] at hown
        obtain ⟨g9, c9, rfl, _⟩ := own_shape hown
        have hb9 : Below w.heap.size w w9 := (BW.drew.alloc (by have := BW.size; simp; omega) _).grown hg (by have := BW.size; simp; omega) (fun k hk => Nat.le_trans (by omega) (hown9.lt k hk).1)
        have hne : ∀ k, (Value.slice g2 ys.length c2).ownBlock = some k → w.heap.size + 3 ≤ k := fun k hk => (Own3.low oK k hk)
        have hb9b : Below (w.heap.size + 3) w3 w9 := (((Below.refl (w.heap.size + 3) w3).drew.alloc (by have := sz3.out; simp; omega) _).grown hg (by have := sz3.out; simp; omega) hne)
        have T0n := T0.lower hb9b (by omega)
        have T1n := T1.lower hb9b (by omega)
        have T2n := T2.lower hb9b (by omega)
        have e0 := T2n.at 0 rfl
        have e1 := T2n.at 1 rfl
        have f0 := T2n.fz 0 rfl
        have f1 := T2n.fz 1 rfl
        have hb3 : Below w.heap.size w ((w9.setCell ⟨w.heap.size + 1 + 1, 0, none⟩ (.int .i64 q)).setCell ⟨w.heap.size + 1 + 1, 1, none⟩ (.slice g9 (ys ++ [(x, y, z)]).length c9)) := (hb9.setCell (by dsimp only; omega) _).setCell (by dsimp only; omega) _
        have ho3 : Own3 w.heap.size g9 c9 (ys ++ [(x, y, z)]) ((w9.setCell ⟨w.heap.size + 1 + 1, 0, none⟩ (.int .i64 q)).setCell ⟨w.heap.size + 1 + 1, 1, none⟩ (.slice g9 (ys ++ [(x, y, z)]).length c9)) := ownsRow_le (ownsRow_setCell_below (ownsRow_setCell_below hown (by dsimp only; omega) _) (by dsimp only; omega) _) (by omega)
        have R3 := (T2n.set 0 (.int .i64 q)).set 1 (.slice g9 (ys ++ [(x, y, z)]).length c9)
        have K3 : (fun V : World => Blk w.heap.size [.int .i64 q, .slice a xs.length cap] V ∧ Blk (w.heap.size + 1) [.int .i64 x, .int .i64 y, .int .i64 z] V) ((w9.setCell ⟨w.heap.size + 1 + 1, 0, none⟩ (.int .i64 q)).setCell ⟨w.heap.size + 1 + 1, 1, none⟩ (.slice g9 (ys ++ [(x, y, z)]).length c9)) := ⟨(T0n.far (g' := w.heap.size + 1 + 1) (by omega) 0 _).far (g' := w.heap.size + 1 + 1) (by omega) 1 _, (T1n.far (g' := w.heap.size + 1 + 1) (by omega) 0 _).far (g' := w.heap.size + 1 + 1) (by omega) 1 _⟩
        clear hown hb9b hb9 T2n hg
        refine hK.out _ _ ⟨T0n, T1n⟩ (fun hHeld2 => ?_)
        clear hK K hHeld
        have hHeld := hHeld2
        clear hHeld2
        generalize hn9 : (ys ++ [(x, y, z)]).length = n9 at R3 K3 hb3 ho3 ⊢
        try simp only [Act.put, List.setIfInBounds_toArray, List.set_cons_zero, List.set_cons_succ]
        refine take_one 6 42 (v := ?_) rfl rfl (by kernel_rfl) (by kernel_rfl) (by kernel_rfl) (fun _ _ _ h => h) (Or.inl ⟨by rfl, ?_⟩) hHeld ?_
        rotate_left
        · intro w' hSw; (try dsimp only at hSw); have c0 := hSw.1.at 0 rfl; have c1 := hSw.1.at 1 rfl; have c2 := hSw.2.at 0 rfl; have c3 := hSw.2.at 1 rfl; have c4 := hSw.2.at 2 rfl; go_simp; try with_reducible rfl
        try simp only [Act.put, List.setIfInBounds_toArray, List.set_cons_zero, List.set_cons_succ]
        refine wpAnyH_ready (rs := [7]) (by kernel_rfl) (by simp) ?_
        refine AllReadyH.cons (i := 7) rfl (fun K hK => ?_) AllReadyH.nil
        go_simp
        refine hK.out _ _ K3 (fun hHeld2 => ?_)
        clear hK K hHeld
        have hHeld := hHeld2
        clear hHeld2
        try simp only [Act.put, List.setIfInBounds_toArray, List.set_cons_zero, List.set_cons_succ]
        refine take_one 8 9 (v := ?_) rfl rfl (by kernel_rfl) (by kernel_rfl) (by kernel_rfl) (fun _ _ _ h => h) (Or.inl ⟨by rfl, ?_⟩) hHeld ?_
        rotate_left
        · intro w' hSw; (try dsimp only at hSw); have c0 := hSw.1.at 0 rfl; have c1 := hSw.1.at 1 rfl; have c2 := hSw.2.at 0 rfl; have c3 := hSw.2.at 1 rfl; have c4 := hSw.2.at 2 rfl; go_simp; try with_reducible rfl
        try simp only [Act.put, List.setIfInBounds_toArray, List.set_cons_zero, List.set_cons_succ]
        refine wpAnyH_done (by kernel_rfl) ?_ _
        clear hHeld
        go_wp2
        exact bodyPost_ret (res_c2 rfl _ _ (w.heap.size + 1 + 1) _ _ _ rfl rfl (R3.at 0 rfl) (R3.at 1 rfl)) rfl ⟨g9, c9, by rw [hn9]; rfl, ho3, hb3⟩
      · have ek : tkV q xs x y z n k = 5 := by unfold tkV; rw [if_pos hc, if_pos hz, if_neg hf]
        have el : tlV q xs x y z n k = xs := by unfold tlV; rw [if_pos hc, ek]; rfl
        rw [ek, el]
        have HK := fun Bc Bn Bk W (h : ARow W a xs) => collect_is Bc Bn Bk q n k a cap xs hm hn hk W h
        have hle := stay_len n k xs
        generalize hys : stay n k xs = ys at HK hf hle
        have hf2 : (ys.length : Int) = 6 := by omega
        clear ek el eq hz hmo hys hA hnd hle hf
        go_enter Try.func10, Try.ntmps10
        go_wp2_with fail
        try rw [hW]
        refine HR.mono ?_
        clear HR hW c0 c1
        rintro e w1 ⟨rfl, hb1⟩
        replace T0 := T0.later hb1 T0.lt
        replace T1 := T1.later hb1 T1.lt
        replace T2 := T2.later hb1 T2.lt
        replace BW := BW.trans (hb1.mono BW.size)
        have sz1 : Hid (w.heap.size + 3 ≤ w1.heap.size) := by show _ ≤ _; have := sW.out; have := hb1.size; omega
        clear hb1
        have c0 := T0.at 0 rfl
        have c1 := T0.at 1 rfl
        have c2 := T1.at 0 rfl
        have c3 := T1.at 1 rfl
        have c4 := T1.at 2 rfl
        go_wp2_with fail
        refine (HC _ (hr.later BW)).mono ?_
        clear HC c0 c1 c2 c3 c4
        rintro e w2 ⟨rfl, hb2⟩
        replace T0 := T0.later hb2 T0.lt
        replace T1 := T1.later hb2 T1.lt
        replace T2 := T2.later hb2 T2.lt
        replace BW := BW.trans (hb2.mono BW.size)
        have sz2 : Hid (w.heap.size + 3 ≤ w2.heap.size) := by show _ ≤ _; have := sz1.out; have := hb2.size; omega
        clear hb2 sz1
        have c0 := T0.at 0 rfl
        have c1 := T0.at 1 rfl
        go_wp2_with fail
        refine (notGone_is q n k a xs.length cap _).mono ?_
        clear c0 c1
        rintro e wg ⟨rfl, G0, G1, G2, hbg⟩
        have szg : Hid (w2.heap.size + 3 ≤ wg.heap.size) := by show _ ≤ _; have := G2.lt; omega
        replace T0 := T0.later hbg T0.lt
        replace T1 := T1.later hbg T1.lt
        replace T2 := T2.later hbg T2.lt
        replace BW := BW.trans (hbg.mono BW.size)
        clear hbg
        go_wp2_with fail
        refine (HK w2.heap.size (w2.heap.size + 1) (w2.heap.size + 1 + 1) _ (hr.later BW) G0.lt G1.lt G2.lt (G0.at 1 rfl) (G1.at 0 rfl) (G2.at 0 rfl)).mono ?_
        clear HK G0 G1 G2
        rintro e w3 ⟨g2, c2, rfl, oK0, hb3⟩
        have sz3 : Hid (w.heap.size + 3 ≤ w3.heap.size) := by show _ ≤ _; have := sz2.out; have := szg.out; have := hb3.size; omega
        have oK := oK0.le (B' := w.heap.size + 3) (by have := sz2.out; have := szg.out; omega)
        clear oK0
        replace T0 := T0.later hb3 T0.lt
        replace T1 := T1.later hb3 T1.lt
        replace T2 := T2.later hb3 T2.lt
        replace BW := BW.trans (hb3.mono BW.size)
        clear hb3 sz2 szg
        have c0 := T0.at 0 rfl
        have c1 := T0.at 1 rfl
        go_wp2_with fail
        refine (HD _ (hr.later BW)).mono ?_
        clear HD c0 c1
        rintro e w5 ⟨g5, c5, rfl, o5, hb5⟩
        replace T2 := T2.later hb5 T2.lt
        replace BW := BW.trans (hb5.mono BW.size)
        have e0 := T2.at 0 rfl
        have e1 := T2.at 1 rfl
        have f0 := T2.fz 0 rfl
        have f1 := T2.fz 1 rfl
        have R3 := (T2.set 0 (.int .i64 q)).set 1 (.slice g5 xs.length c5)
        have hb3 : Below w.heap.size w ((w5.setCell ⟨w.heap.size + 1 + 1, 0, none⟩ (.int .i64 q)).setCell ⟨w.heap.size + 1 + 1, 1, none⟩ (.slice g5 xs.length c5)) := (BW.setCell (by dsimp only; omega) _).setCell (by dsimp only; omega) _
        have ho3 : Own3 w.heap.size g5 c5 xs ((w5.setCell ⟨w.heap.size + 1 + 1, 0, none⟩ (.int .i64 q)).setCell ⟨w.heap.size + 1 + 1, 1, none⟩ (.slice g5 xs.length c5)) := ownsRow_le (ownsRow_setCell_below (ownsRow_setCell_below o5 (by dsimp only; have := sz3.out; omega) _) (by dsimp only; have := sz3.out; omega) _) (by have := sz3.out; omega)
        clear T0 T1 T2 BW o5 hb5
        go_wp2
        exact bodyPost_ret (res_c2 rfl _ _ (w.heap.size + 1 + 1) _ _ _ rfl rfl (R3.at 0 rfl) (R3.at 1 rfl)) rfl ⟨g5, c5, rfl, ho3, hb3⟩
    · have ek : tkV q xs x y z n k = cdV q xs x y z n k := by unfold tkV; rw [if_pos hc, if_neg hz]
      have el : tlV q xs x y z n k = xs := by unfold tlV; rw [if_pos hc, ek, if_neg hz]
      rw [ek, el]
      generalize cdV q xs x y z n k = cd at HC hz
      clear ek el eq hA hnd
      go_enter Try.func10, Try.ntmps10
      go_wp2_with fail
      try rw [hW]
      refine HR.mono ?_
      clear HR hW c0 c1
      rintro e w1 ⟨rfl, hb1⟩
      replace T0 := T0.later hb1 T0.lt
      replace T1 := T1.later hb1 T1.lt
      replace T2 := T2.later hb1 T2.lt
      replace BW := BW.trans (hb1.mono BW.size)
      have sz1 : Hid (w.heap.size + 3 ≤ w1.heap.size) := by show _ ≤ _; have := sW.out; have := hb1.size; omega
      clear hb1
      have c0 := T0.at 0 rfl
      have c1 := T0.at 1 rfl
      have c2 := T1.at 0 rfl
      have c3 := T1.at 1 rfl
      have c4 := T1.at 2 rfl
      go_wp2_with fail
      refine (HC _ (hr.later BW)).mono ?_
      clear HC c0 c1 c2 c3 c4
      rintro e w2 ⟨rfl, hb2⟩
      replace T0 := T0.later hb2 T0.lt
      replace T1 := T1.later hb2 T1.lt
      replace T2 := T2.later hb2 T2.lt
      replace BW := BW.trans (hb2.mono BW.size)
      have sz2 : Hid (w.heap.size + 3 ≤ w2.heap.size) := by show _ ≤ _; have := sz1.out; have := hb2.size; omega
      clear hb2 sz1
      have c0 := T0.at 0 rfl
      have c1 := T0.at 1 rfl
      go_wp2_with fail
      refine (HD _ (hr.later BW)).mono ?_
      clear HD c0 c1
      rintro e w5 ⟨g5, c5, rfl, o5, hb5⟩
      replace T2 := T2.later hb5 T2.lt
      replace BW := BW.trans (hb5.mono BW.size)
      have e0 := T2.at 0 rfl
      have e1 := T2.at 1 rfl
      have f0 := T2.fz 0 rfl
      have f1 := T2.fz 1 rfl
      have R3 := (T2.set 0 (.int .i64 q)).set 1 (.slice g5 xs.length c5)
      have hb3 : Below w.heap.size w ((w5.setCell ⟨w.heap.size + 1 + 1, 0, none⟩ (.int .i64 q)).setCell ⟨w.heap.size + 1 + 1, 1, none⟩ (.slice g5 xs.length c5)) := (BW.setCell (by dsimp only; omega) _).setCell (by dsimp only; omega) _
      have ho3 : Own3 w.heap.size g5 c5 xs ((w5.setCell ⟨w.heap.size + 1 + 1, 0, none⟩ (.int .i64 q)).setCell ⟨w.heap.size + 1 + 1, 1, none⟩ (.slice g5 xs.length c5)) := ownsRow_le (ownsRow_setCell_below (ownsRow_setCell_below o5 (by dsimp only; have := sz2.out; omega) _) (by dsimp only; have := sz2.out; omega) _) (by have := sz2.out; omega)
      clear T0 T1 T2 BW o5 hb5
      go_wp2
      exact bodyPost_ret (res_c2 rfl _ _ (w.heap.size + 1 + 1) _ _ _ rfl rfl (R3.at 0 rfl) (R3.at 1 rfl)) rfl ⟨g5, c5, rfl, ho3, hb3⟩
  · rw [Bool.not_eq_true] at hc
    rw [hc] at HR
    have eq : tqV q xs = 0 := if_neg (by rw [hc]; simp)
    have ek : tkV q xs x y z n k = 1 := if_neg (by rw [hc]; simp)
    have el : tlV q xs x y z n k = [] := if_neg (by rw [hc]; simp)
    rw [eq, ek, el]
    go_enter Try.func10, Try.ntmps10
    go_wp2_with fail
    try rw [hW]
    refine HR.mono ?_
    clear HR hW c0 c1
    rintro e w1 ⟨rfl, hb1⟩
    replace T2 := T2.later hb1 T2.lt
    replace BW := BW.trans (hb1.mono BW.size)
    clear hb1
    have e0 := T2.at 0 rfl
    have e1 := T2.at 1 rfl
    have f0 := T2.fz 0 rfl
    have f1 := T2.fz 1 rfl
    have R3 := (T2.set 0 (.int .i64 0)).set 1 (.slice none 0 0)
    have hb3 : Below w.heap.size w ((w1.setCell ⟨w.heap.size + 1 + 1, 0, none⟩ (.int .i64 0)).setCell ⟨w.heap.size + 1 + 1, 1, none⟩ (.slice none 0 0)) := (BW.setCell (by dsimp only; omega) _).setCell (by dsimp only; omega) _
    clear T0 T1 T2 BW
    go_wp2
    exact bodyPost_ret (res_c2 rfl _ _ (w.heap.size + 1 + 1) _ _ _ rfl rfl (R3.at 0 rfl) (R3.at 1 rfl)) rfl ⟨none, 0, rfl, Own3.nil _ _, hb3⟩
end Go.Proofs.Ytmiceknaipimiaa
