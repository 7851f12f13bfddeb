/- The program reads a name. -/
import Derived.Test.YtbpodcfbijhboaaNh3
import Derived.Test.YtbpodcfbijhboaaNg3
import Derived.WalkLawsBesides
set_option linter.unusedVariables false
set_option maxRecDepth 100000
namespace Go.Proofs.Ytbpodcfbijhboaa.Nd
open Go Go.RowKit Go.Joins Own Draw

def RdP (B : Nat) (s : ByteArray) (e : Ending) (w' : World) : Prop := ∃ y : TT, e = .returned (.tuple #[vT y, .bool (gdN s)]) ∧ stT y = rdN s ∧ OwT B w' y
theorem rd_none {s : ByteArray} (h : gdN s = false) (W : World) (B : Nat) : RdP B s (.returned (.tuple #[.agg #[.slice none 0 0, .string ⟨#[]⟩], .bool (gdN s)])) W :=
  ⟨((none, 0, []), ByteArray.empty), rfl, by unfold rdN; rw [h]; rfl, World.ownsRow_nil _ _ _ _⟩
theorem own_cap {B : Nat} {w : World} {p : TT} (h : OwT B w p) : p.1.2.2.length ≤ p.1.2.1 := by
  have h1 : RoS B w p.1 := h
  rcases h1.2 with ⟨e, h0⟩ | ⟨g, cap, cur, e, _, _, hnc, _⟩
  · omega
  · injection e with _ _ e3
    omega
set_option maxHeartbeats 6400000 in
theorem implRead_is (s : ByteArray) (w : World) (hs : s.size ≤ 1048576) : Calls Try.prog 12 #[.string s] w fun e w' => RdP w.heap.size s e w' ∧ Below w.heap.size w w' := by
  obtain ⟨ie, hie, his⟩ := info_T
  obtain ⟨V0, hV0⟩ : ∃ V, w.alloc (.cells #[.slice none 0 0, .string ⟨#[]⟩] 26) = V := ⟨_, rfl⟩
  have s0 : w.heap.size < V0.heap.size := by rw [← hV0]; simp
  have T0 : Blk w.heap.size [.slice none 0 0, .string ⟨#[]⟩] V0 := by rw [← hV0]; exact Blk.new _ _ _
  have B0 : Below w.heap.size w V0 := by rw [← hV0]; exact (Below.refl _ _).alloc (Nat.le_refl _) _
  go_enter Try.func12, Try.ntmps12
  by_cases h204 : s.size ≤ 204
  rotate_left
  · have q0 : (s.size : Int) > 204 := by omega
    have HG : Hid (gdN s = false) := by
      show _ = _
      cases e : gdN s with
      | false => rfl
      | true => exact absurd (gd_ascii e).2 h204
    clear h204
    obtain ⟨VF, hVF⟩ : ∃ V, V0.setCells w.heap.size 0 [.slice none 0 0, .string ⟨#[]⟩] = V := ⟨_, rfl⟩
    have TF : Blk w.heap.size [.slice none 0 0, .string ⟨#[]⟩] VF := by rw [← hVF]; exact T0.sets _ rfl
    have BF : Below w.heap.size w VF := by rw [← hVF]; exact below_sets (Nat.le_refl _) _ _ _ B0
    have HANS : Hid (∀ b, b = gdN s → RdP w.heap.size s (.returned (.tuple #[.agg #[.slice none 0 0, .string ⟨#[]⟩], .bool b])) VF) := fun b hb => by subst hb; exact rd_none HG.out VF w.heap.size
    have HRD : Hid (RdP w.heap.size s (.returned (.tuple #[.agg #[.slice none 0 0, .string ⟨#[]⟩], .bool false])) VF) := HANS.out false HG.out.symm
    clear HANS B0
    go_wp2_with (first | ((try rw [hV0]); refine wpList_stB 26 _ _ w.heap.size 0 _ [.slice none 0 0, .string ⟨#[]⟩] ie hie T0 his.symm (by simp) rfl rfl rfl rfl rfl ?_; rw [hVF]) | go_in)
    exact bodyPost_ret (res_B2 rfl _ _ w.heap.size [.slice none 0 0, .string ⟨#[]⟩] (.bool false) ie hie (Try.isAgg26) TF his.symm rfl rfl) rfl ⟨HRD.out, BF⟩
  have q0 : ¬ (s.size : Int) > 204 := by omega
  have K := fun w' => nameIn_is s w' h204
  clear h204
  go_wp2_with fail
  try rw [hV0]
  refine (K _).mono ?_
  clear K
  rintro en w1 ⟨⟨z, ⟨y, rfl, ey, oy, sy⟩, hz⟩, hb⟩
  have HP : Hid (gdN s = true → stT y = fI s) := fun h => by rw [ey]; exact hz (gd_ascii h).1
  have T1 := T0.later hb T0.lt
  have B1 := B0.trans (hb.mono B0.size)
  have cy := own_cap oy
  have oy0 : OwT (w.heap.size + 1) w1 y := oy.le s0
  have hw1 : w.heap.size < w1.heap.size := T1.lt
  have hgi := gd_impl s (stT y) HP.out
  have HGI : Hid ((okN (stT y) && decide (showN (stT y) = s)) = gdN s ∧ (gdN s = true → stT y = rdN s)) := hgi
  clear hgi HP ey hz oy hb T0 B0 hV0
  obtain ⟨V2, hV2⟩ : ∃ V, w1.alloc (.cells #[sv2 y, .string y.2] 26) = V := ⟨_, rfl⟩
  have hb : Below w1.heap.size w1 V2 := by rw [← hV2]; exact (Below.refl _ _).alloc (Nat.le_refl _) _
  have TN : Blk w1.heap.size [sv2 y, .string y.2] V2 := by rw [← hV2]; exact Blk.new _ _ _
  have T2 := T1.later hb T1.lt
  have B2 := B1.trans (hb.mono B1.size)
  have oy2 := oy0.later hb
  have hn2 : w1.heap.size < V2.heap.size := by rw [← hV2]; simp
  obtain ⟨nb, hnb⟩ : ∃ nb, w1.heap.size = nb := ⟨_, rfl⟩
  rw [hnb] at TN hn2 hw1
  clear hb T1 B1 oy0
  have K1 := implNameOk_is y V2 oy2.dp sy.1 sy.2.1 sy.2.2
  have d0 := TN.at 0 rfl
  have d1 := TN.at 1 rfl
  go_wp2_with fail
  try rw [hV2]
  try rw [hnb]
  refine K1.mono ?_
  clear K1 d0 d1
  rintro en w3 ⟨rfl, hb⟩
  have T3 := T2.later hb T2.lt
  have TN3 := TN.later hb TN.lt
  have B3 := B2.trans (hb.mono B2.size)
  have oy3 := oy2.later hb
  clear hb T2 TN B2 oy2 hV2 hnb hn2
  by_cases hok : okN (stT y) = true
  rotate_left
  · rw [Bool.not_eq_true] at hok
    rw [hok]
    have HG : Hid (gdN s = false) := by show _ = _; rw [← HGI.out.1, hok]; rfl
    clear HGI
    obtain ⟨VF, hVF⟩ : ∃ V, w3.setCells w.heap.size 0 [.slice none 0 0, .string ⟨#[]⟩] = V := ⟨_, rfl⟩
    have TF : Blk w.heap.size [.slice none 0 0, .string ⟨#[]⟩] VF := by rw [← hVF]; exact T3.sets _ rfl
    have BF : Below w.heap.size w VF := by rw [← hVF]; exact below_sets (Nat.le_refl _) _ _ _ B3
    have HANS : Hid (∀ b, b = gdN s → RdP w.heap.size s (.returned (.tuple #[.agg #[.slice none 0 0, .string ⟨#[]⟩], .bool b])) VF) := fun b hb => by subst hb; exact rd_none HG.out VF w.heap.size
    have HRD : Hid (RdP w.heap.size s (.returned (.tuple #[.agg #[.slice none 0 0, .string ⟨#[]⟩], .bool false])) VF) := HANS.out false HG.out.symm
    clear HANS B3 oy3
    go_wp2_with (first | (refine wpList_stB 26 _ _ w.heap.size 0 _ [.slice none 0 0, .string ⟨#[]⟩] ie hie T3 his.symm (by simp) rfl rfl rfl rfl rfl ?_; rw [hVF]) | go_in)
    try simp only [Exit.inBlock, Exit.then]
    exact bodyPost_ret (res_B2 rfl _ _ w.heap.size [.slice none 0 0, .string ⟨#[]⟩] (.bool false) ie hie (Try.isAgg26) TF his.symm rfl rfl) rfl ⟨HRD.out, BF⟩
  rw [hok]
  have K2 := implShow_is y w3 oy3.dp sy cy
  have d0 := TN3.at 0 rfl
  have d1 := TN3.at 1 rfl
  go_wp2_with fail
  refine K2.mono ?_
  clear K2 d0 d1
  rintro en w4 ⟨rfl, hb⟩
  have T4 := T3.later hb T3.lt
  have TN4 := TN3.later hb TN3.lt
  have B4 := B3.trans (hb.mono B3.size)
  have oy4 := oy3.later hb
  clear hb T3 TN3 B3 oy3
  by_cases hsh : showN (stT y) = s
  · have q1 := list_eq hsh
    have HG : Hid (gdN s = true) := by show _ = _; rw [← HGI.out.1, hok, decide_eq_true hsh]; rfl
    have HE : Hid (stT y = rdN s) := HGI.out.2 HG.out
    clear HGI hok hsh
    have d0 := TN4.at 0 rfl
    have d1 := TN4.at 1 rfl
    obtain ⟨VF, hVF⟩ : ∃ V, w4.setCells w.heap.size 0 [sv2 y, .string y.2] = V := ⟨_, rfl⟩
    have TF : Blk w.heap.size [sv2 y, .string y.2] VF := by rw [← hVF]; exact T4.sets _ rfl
    have BF : Below w.heap.size w VF := by rw [← hVF]; exact below_sets (Nat.le_refl _) _ _ _ B4
    have oF : OwT w.heap.size VF y := by rw [← hVF]; exact (oy4.far (sets_grown w.heap.size _ 0 w4) (by omega)).le (by omega)
    have HANS : Hid (RdP w.heap.size s (.returned (.tuple #[.agg #[sv2 y, .string y.2], .bool true])) VF) := ⟨y, by rw [HG.out], HE.out, oF⟩
    clear oF oy4 B4 HE
    go_wp2_with (first | (refine wpList_stB 26 _ _ w.heap.size 0 _ [sv2 y, .string y.2] ie hie T4 his.symm (by simp) rfl rfl rfl rfl rfl ?_; rw [hVF]) | go_in)
    try simp only [Exit.inBlock, Exit.then]
    exact bodyPost_ret (res_B2 rfl _ _ w.heap.size [sv2 y, .string y.2] (.bool true) ie hie (Try.isAgg26) TF his.symm rfl rfl) rfl ⟨HANS.out, BF⟩
  · have q1 := list_ne hsh
    have HG : Hid (gdN s = false) := by show _ = _; rw [← HGI.out.1, decide_eq_false hsh, Bool.and_false]
    clear HGI hok hsh
    obtain ⟨VF, hVF⟩ : ∃ V, w4.setCells w.heap.size 0 [.slice none 0 0, .string ⟨#[]⟩] = V := ⟨_, rfl⟩
    have TF : Blk w.heap.size [.slice none 0 0, .string ⟨#[]⟩] VF := by rw [← hVF]; exact T4.sets _ rfl
    have BF : Below w.heap.size w VF := by rw [← hVF]; exact below_sets (Nat.le_refl _) _ _ _ B4
    have HANS : Hid (∀ b, b = gdN s → RdP w.heap.size s (.returned (.tuple #[.agg #[.slice none 0 0, .string ⟨#[]⟩], .bool b])) VF) := fun b hb => by subst hb; exact rd_none HG.out VF w.heap.size
    have HRD : Hid (RdP w.heap.size s (.returned (.tuple #[.agg #[.slice none 0 0, .string ⟨#[]⟩], .bool false])) VF) := HANS.out false HG.out.symm
    clear HANS B4 oy4
    go_wp2_with (first | (refine wpList_stB 26 _ _ w.heap.size 0 _ [.slice none 0 0, .string ⟨#[]⟩] ie hie T4 his.symm (by simp) rfl rfl rfl rfl rfl ?_; rw [hVF]) | go_in)
    try simp only [Exit.inBlock, Exit.then]
    exact bodyPost_ret (res_B2 rfl _ _ w.heap.size [.slice none 0 0, .string ⟨#[]⟩] (.bool false) ie hie (Try.isAgg26) TF his.symm rfl rfl) rfl ⟨HRD.out, BF⟩
end Go.Proofs.Ytbpodcfbijhboaa.Nd
