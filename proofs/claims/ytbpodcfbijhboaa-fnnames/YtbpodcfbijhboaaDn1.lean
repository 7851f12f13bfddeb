/- A name, drawn. -/
import Derived.Test.YtbpodcfbijhboaaDn0
set_option linter.unusedVariables false
set_option maxRecDepth 100000
namespace Go.Proofs.Ytbpodcfbijhboaa.Nd
open Go Go.RowKit Go.Joins Own Draw Go.Proofs.Ytbpodcfbijhboaa

theorem p8_small : ∀ y ∈ ([⟨#[97]⟩, ⟨#[98]⟩, ⟨#[104, 111, 115, 116]⟩, ⟨#[42]⟩, ⟨#[120, 47, 121]⟩, ⟨#[97, 64, 98]⟩, ⟨#[92]⟩, ⟨#[97, 97, 97, 97, 97, 97, 97, 97, 97, 97, 97, 97, 97, 97, 97, 97, 97, 97, 97, 97]⟩] : List ByteArray), y.size ≤ 20 := by decide +kernel
theorem p8_at {k : Nat} {y : ByteArray} (h : k < ([⟨#[97]⟩, ⟨#[98]⟩, ⟨#[104, 111, 115, 116]⟩, ⟨#[42]⟩, ⟨#[120, 47, 121]⟩, ⟨#[97, 64, 98]⟩, ⟨#[92]⟩, ⟨#[97, 97, 97, 97, 97, 97, 97, 97, 97, 97, 97, 97, 97, 97, 97, 97, 97, 97, 97, 97]⟩] : List ByteArray).length) (e : ([⟨#[97]⟩, ⟨#[98]⟩, ⟨#[104, 111, 115, 116]⟩, ⟨#[42]⟩, ⟨#[120, 47, 121]⟩, ⟨#[97, 64, 98]⟩, ⟨#[92]⟩, ⟨#[97, 97, 97, 97, 97, 97, 97, 97, 97, 97, 97, 97, 97, 97, 97, 97, 97, 97, 97, 97]⟩] : List ByteArray)[k] = y) : ([.string ⟨#[97]⟩, .string ⟨#[98]⟩, .string ⟨#[104, 111, 115, 116]⟩, .string ⟨#[42]⟩, .string ⟨#[120, 47, 121]⟩, .string ⟨#[97, 64, 98]⟩, .string ⟨#[92]⟩, .string ⟨#[97, 97, 97, 97, 97, 97, 97, 97, 97, 97, 97, 97, 97, 97, 97, 97, 97, 97, 97, 97]⟩] : List Value)[k]? = some (.string y) := by
  have h2 : ([.string ⟨#[97]⟩, .string ⟨#[98]⟩, .string ⟨#[104, 111, 115, 116]⟩, .string ⟨#[42]⟩, .string ⟨#[120, 47, 121]⟩, .string ⟨#[97, 64, 98]⟩, .string ⟨#[92]⟩, .string ⟨#[97, 97, 97, 97, 97, 97, 97, 97, 97, 97, 97, 97, 97, 97, 97, 97, 97, 97, 97, 97]⟩] : List Value) = ([⟨#[97]⟩, ⟨#[98]⟩, ⟨#[104, 111, 115, 116]⟩, ⟨#[42]⟩, ⟨#[120, 47, 121]⟩, ⟨#[97, 64, 98]⟩, ⟨#[92]⟩, ⟨#[97, 97, 97, 97, 97, 97, 97, 97, 97, 97, 97, 97, 97, 97, 97, 97, 97, 97, 97, 97]⟩] : List ByteArray).map Value.string := rfl
  rw [h2, List.getElem?_map, List.getElem?_eq_getElem h, e]
  rfl
theorem r5_small : ∀ y ∈ ([⟨#[82]⟩, ⟨#[82, 46, 83]⟩, ⟨#[42]⟩, ⟨#[97, 64]⟩, ⟨#[]⟩] : List ByteArray), y.size ≤ 21 := by decide +kernel
theorem q4_small : ∀ y ∈ ([⟨#[]⟩, ⟨#[97, 32, 98]⟩, ⟨#[97, 97, 97, 97, 97, 97, 97, 97, 97, 97, 97, 97, 97, 97, 97, 97, 97, 97, 97, 97, 97]⟩, ⟨#[127]⟩] : List ByteArray), y.size ≤ 21 := by decide +kernel
abbrev c3L : List ByteArray := [⟨#[99]⟩, ⟨#[100]⟩, ⟨#[101]⟩]
theorem c3_small : ∀ y ∈ c3L, y.size ≤ 21 := by decide +kernel
set_option maxHeartbeats 100000000 in
theorem name_is {p len cap : Nat} {ad : Option Addr} {zs : List Int} (w : World) (h : Cu p ad len cap zs w w) :
    Calls Try.prog 31 #[.pointer (some ⟨p, 0, none⟩)] w fun e w' => SnP p ad len cap zs w e w' := by
  obtain ⟨ie, hie, his⟩ := info_T
  obtain ⟨j0, hj, hy0, hy1, hy2⟩ := info_parts infoS9
  have hpw := h.lt
  obtain ⟨V0, hV0⟩ : ∃ V, (w.alloc (.cells #[.slice none 0 0, .string ⟨#[]⟩] 26)).alloc (.cells #[.slice none 0 0, .string ⟨#[]⟩] 26) = V := ⟨_, rfl⟩
  have s0 : V0.heap.size = w.heap.size + 2 := by rw [← hV0]; simp
  have TRa : Blk w.heap.size [.slice none 0 0, .string ⟨#[]⟩] V0 := by rw [← hV0]; exact (Blk.new w #[.slice none 0 0, .string ⟨#[]⟩] 26).alloc (by simp) _
  have TNa : Blk (w.heap.size + 1) [.slice none 0 0, .string ⟨#[]⟩] V0 := by rw [← hV0]; have := Blk.new (w.alloc (.cells #[.slice none 0 0, .string ⟨#[]⟩] 26)) #[.slice none 0 0, .string ⟨#[]⟩] 26; simpa using this
  have Ca : Cu p ad len cap zs w V0 := by rw [← hV0]; exact (h.alloc _).alloc _
  obtain ⟨Vb, hVb⟩ : ∃ V, V0.setCells (w.heap.size + 1) 0 [.slice none 0 0, .string ⟨#[]⟩] = V := ⟨_, rfl⟩
  have sb0 : Vb.heap.size = w.heap.size + 2 := by rw [← hVb]; simp [World.setCells, s0]
  have Gb : Grw p ad len cap zs w Vb none 0 [] ⟨#[]⟩ := ⟨by rw [← hVb]; exact cu_grown Ca hpw (sets_grown (w.heap.size + 1) _ 0 V0) (fun k e => by injection e with e; omega), hpw, by rw [← hVb]; exact Blk.farS (by omega) _ _ _ TRa, by rw [← hVb]; exact TNa.sets _ rfl, World.ownsRow_nil _ _ _ _, by omega⟩
  obtain ⟨V1, hV1⟩ : ∃ V, Vb.alloc (.cells #[.string ⟨#[97]⟩, .string ⟨#[98]⟩, .string ⟨#[104, 111, 115, 116]⟩, .string ⟨#[42]⟩, .string ⟨#[120, 47, 121]⟩, .string ⟨#[97, 64, 98]⟩, .string ⟨#[92]⟩, .string ⟨#[97, 97, 97, 97, 97, 97, 97, 97, 97, 97, 97, 97, 97, 97, 97, 97, 97, 97, 97, 97]⟩] 9) = V := ⟨_, rfl⟩
  have PB1 : Blk (w.heap.size + 2) [.string ⟨#[97]⟩, .string ⟨#[98]⟩, .string ⟨#[104, 111, 115, 116]⟩, .string ⟨#[42]⟩, .string ⟨#[120, 47, 121]⟩, .string ⟨#[97, 64, 98]⟩, .string ⟨#[92]⟩, .string ⟨#[97, 97, 97, 97, 97, 97, 97, 97, 97, 97, 97, 97, 97, 97, 97, 97, 97, 97, 97, 97]⟩] V1 := by rw [← hV1, ← sb0]; exact Blk.new _ _ _
  have G1 := Gb.alloc (.cells #[.string ⟨#[97]⟩, .string ⟨#[98]⟩, .string ⟨#[104, 111, 115, 116]⟩, .string ⟨#[42]⟩, .string ⟨#[120, 47, 121]⟩, .string ⟨#[97, 64, 98]⟩, .string ⟨#[92]⟩, .string ⟨#[97, 97, 97, 97, 97, 97, 97, 97, 97, 97, 97, 97, 97, 97, 97, 97, 97, 97, 97, 97]⟩] 9)
  rw [hV1] at G1
  have HX := belowW 3 G1.cu.here (by omega) (by omega)
  go_enter Try.func31, Try.ntmps31
  go_wp2_with (first | (show wpList Try.prog _ _ ({ dst := none, op := Op.store 26 (Operand.tmp 3) (Operand.tmp 6), type := _, pos := _, after := _, guard := _ } :: _) _ _; (try rw [hV0]); refine wpList_stB 26 _ _ (w.heap.size + 1) 0 _ [.slice none 0 0, .string ⟨#[]⟩] ie hie TNa his.symm (by simp) rfl rfl rfl rfl rfl ?_; rw [hVb]) | fail)
  try rw [hV1]
  try rw [sb0]
  refine HX.mono ?_
  clear HX hV0 hV1 TRa TNa Ca hVb Gb
  rintro en w2 ⟨x, rfl, xa, xb, C⟩
  obtain ⟨M, rfl⟩ : ∃ M : Nat, x = (M : Int) := ⟨x.toNat, by omega⟩
  have G2 := G1.next C
  have PB2 := PB1.only C.2 PB1.lt (by omega)
  clear C G1 PB1 s0 sb0
  go_wp2
  go_loopw [5] (fun k wr => ∃ (m : Nat) (na : Option Addr) (nc : Nat) (L : List ByteArray), k = .int .i64 (m : Int) ∧ m + L.length = 1 + M ∧ Hid (∀ y ∈ L, y.size ≤ 20) ∧ Grw p ad len cap zs w wr na nc L ⟨#[]⟩ ∧ Blk (w.heap.size + 2) [.string ⟨#[97]⟩, .string ⟨#[98]⟩, .string ⟨#[104, 111, 115, 116]⟩, .string ⟨#[42]⟩, .string ⟨#[120, 47, 121]⟩, .string ⟨#[97, 64, 98]⟩, .string ⟨#[92]⟩, .string ⟨#[97, 97, 97, 97, 97, 97, 97, 97, 97, 97, 97, 97, 97, 97, 97, 97, 97, 97, 97, 97]⟩] wr ∧ w.heap.size + 3 ≤ wr.heap.size ∧ wr.ownsRow (w.heap.size + 3) 9 1 (.slice na L.length nc) L.length (L.map Value.string)) (fun k _ => (intOf k).toNat)
  case atStart => exact ⟨1 + M, none, 0, [], by go_num, rfl, (fun y hy => by cases hy), G2, PB2, PB2.lt, World.ownsRow_nil _ _ _ _⟩
  case round =>
    clear G2 PB2
    obtain ⟨m, na, nc, L, rfl, hm, HX0, G, PB, hsz, os3⟩ := hrel
    by_cases hm0 : 0 < m
    · obtain ⟨mm, rfl⟩ : ∃ k, m = k + 1 := ⟨m - 1, by omega⟩
      have hgt : (((mm + 1 : Nat)) : Int) > 0 := by omega
      rw [Int.natCast_add] at hgt ⊢
      replace G := G.drew
      replace PB := PB.drew
      replace os3 : wr.drew.ownsRow (w.heap.size + 3) 9 1 (.slice na L.length nc) L.length (L.map Value.string) := os3.drew
      replace hsz : w.heap.size + 3 ≤ wr.drew.heap.size := hsz
      have q0 := G.tn.at 0 rfl
      go_wp2_with fail
      refine drew_E 12 (fun Vw => Vw.cell? ⟨w.heap.size + 1, 0, none⟩ = some (.slice na L.length nc) ∧ Blk (w.heap.size + 2) [.string ⟨#[97]⟩, .string ⟨#[98]⟩, .string ⟨#[104, 111, 115, 116]⟩, .string ⟨#[42]⟩, .string ⟨#[120, 47, 121]⟩, .string ⟨#[97, 64, 98]⟩, .string ⟨#[92]⟩, .string ⟨#[97, 97, 97, 97, 97, 97, 97, 97, 97, 97, 97, 97, 97, 97, 97, 97, 97, 97, 97, 97]⟩] Vw) (by kernel_rfl) ⟨q0, PB⟩ (fun hHeld => ?_)
      generalize wr.drew = D at *
      refine take_E 0 15 (v := ?_) rfl rfl (by kernel_rfl) (by kernel_rfl) (by kernel_rfl) (by kernel_rfl) (fun _ _ _ h => h) (Or.inl ⟨by rfl, ?_⟩) hHeld ?_
      rotate_left
      · intro w' hSw; (try dsimp only at hSw); obtain ⟨d0, d1⟩ := hSw; have e0 := d1; skip; go_simp; try with_reducible rfl
      try simp only [Act.put, List.setIfInBounds_toArray, List.set_cons_zero, List.set_cons_succ]
      refine take_E 1 16 (v := ?_) rfl rfl (by kernel_rfl) (by kernel_rfl) (by kernel_rfl) (by kernel_rfl) (fun _ _ _ h => h) (Or.inl ⟨by rfl, ?_⟩) hHeld ?_
      rotate_left
      · intro w' hSw; (try dsimp only at hSw); obtain ⟨d0, d1⟩ := hSw; have e0 := d1; skip; go_simp; try with_reducible rfl
      try simp only [Act.put, List.setIfInBounds_toArray, List.set_cons_zero, List.set_cons_succ]
      refine take_E 2 17 (v := ?_) rfl rfl (by kernel_rfl) (by kernel_rfl) (by kernel_rfl) (by kernel_rfl) (fun _ _ _ h => h) (Or.inl ⟨by rfl, ?_⟩) hHeld ?_
      rotate_left
      · intro w' hSw; (try dsimp only at hSw); obtain ⟨d0, d1⟩ := hSw; have e0 := d1; skip; go_simp; try with_reducible rfl
      try simp only [Act.put, List.setIfInBounds_toArray, List.set_cons_zero, List.set_cons_succ]
      refine take_E 3 18 (v := ?_) rfl rfl (by kernel_rfl) (by kernel_rfl) (by kernel_rfl) (by kernel_rfl) (fun _ _ _ h => h) (Or.inl ⟨by rfl, ?_⟩) hHeld ?_
      rotate_left
      · intro w' hSw; (try dsimp only at hSw); obtain ⟨d0, d1⟩ := hSw; have e0 := d1; skip; go_simp; try with_reducible rfl
      try simp only [Act.put, List.setIfInBounds_toArray, List.set_cons_zero, List.set_cons_succ]
      refine take_E 4 19 (v := ?_) rfl rfl (by kernel_rfl) (by kernel_rfl) (by kernel_rfl) (by kernel_rfl) (fun _ _ _ h => h) (Or.inl ⟨by rfl, ?_⟩) hHeld ?_
      rotate_left
      · intro w' hSw; (try dsimp only at hSw); obtain ⟨d0, d1⟩ := hSw; have e0 := d1; skip; go_simp; try with_reducible rfl
      try simp only [Act.put, List.setIfInBounds_toArray, List.set_cons_zero, List.set_cons_succ]
      refine take_E 5 20 (v := ?_) rfl rfl (by kernel_rfl) (by kernel_rfl) (by kernel_rfl) (by kernel_rfl) (fun _ _ _ h => h) (Or.inl ⟨by rfl, ?_⟩) hHeld ?_
      rotate_left
      · intro w' hSw; (try dsimp only at hSw); obtain ⟨d0, d1⟩ := hSw; have e0 := d1; skip; go_simp; try with_reducible rfl
      try simp only [Act.put, List.setIfInBounds_toArray, List.set_cons_zero, List.set_cons_succ]
      refine one_E 6 (by kernel_rfl) rfl (fun K hK => ?_)
      go_simp
      refine (belowW 8 G.cu.here (by omega) (by omega)).mono ?_
      rintro en w3 ⟨z, rfl, za, zb, C⟩
      replace G := G.next C
      replace PB := PB.only C.2 PB.lt (by omega)
      replace hsz : w.heap.size + 3 ≤ w3.heap.size := Nat.le_trans hsz C.size
      replace os3 := own_only os3 C.2 (by omega)
      replace q0 := G.tn.at 0 rfl
      clear C
      obtain ⟨zn, rfl⟩ : ∃ k : Nat, z = (k : Int) := ⟨z.toNat, by omega⟩
      have hz8 : zn < ([⟨#[97]⟩, ⟨#[98]⟩, ⟨#[104, 111, 115, 116]⟩, ⟨#[42]⟩, ⟨#[120, 47, 121]⟩, ⟨#[97, 64, 98]⟩, ⟨#[92]⟩, ⟨#[97, 97, 97, 97, 97, 97, 97, 97, 97, 97, 97, 97, 97, 97, 97, 97, 97, 97, 97, 97]⟩] : List ByteArray).length := by show zn < 8; omega
      go_wp2_with fail
      refine hK.out _ _ ⟨q0, PB⟩ (fun hHeld2 => ?_)
      clear hK K hHeld
      have hHeld := hHeld2
      clear hHeld2
      try simp only [Act.put, List.setIfInBounds_toArray, List.set_cons_zero, List.set_cons_succ]
      obtain ⟨sy, hsy⟩ : ∃ y, ([⟨#[97]⟩, ⟨#[98]⟩, ⟨#[104, 111, 115, 116]⟩, ⟨#[42]⟩, ⟨#[120, 47, 121]⟩, ⟨#[97, 64, 98]⟩, ⟨#[92]⟩, ⟨#[97, 97, 97, 97, 97, 97, 97, 97, 97, 97, 97, 97, 97, 97, 97, 97, 97, 97, 97, 97]⟩] : List ByteArray)[zn] = y := ⟨_, rfl⟩
      have HSY : Hid (sy.size ≤ 20) := by show _ ≤ _; rw [← hsy]; exact p8_small _ (List.getElem_mem hz8)
      have hcell : ∀ Vw : World, Blk (w.heap.size + 2) [.string ⟨#[97]⟩, .string ⟨#[98]⟩, .string ⟨#[104, 111, 115, 116]⟩, .string ⟨#[42]⟩, .string ⟨#[120, 47, 121]⟩, .string ⟨#[97, 64, 98]⟩, .string ⟨#[92]⟩, .string ⟨#[97, 97, 97, 97, 97, 97, 97, 97, 97, 97, 97, 97, 97, 97, 97, 97, 97, 97, 97, 97]⟩] Vw → Vw.cell? ⟨w.heap.size + 2, zn, none⟩ = some (.string sy) := fun Vw hB => hB.at zn (p8_at hz8 hsy)
      have hz9 : (zn : Int) < 8 := by omega
      clear hsy
      refine take_E 7 22 (v := ?_) rfl rfl (by kernel_rfl) (by kernel_rfl) (by kernel_rfl) (by kernel_rfl) (fun _ _ _ h => h) (Or.inl ⟨by rfl, ?_⟩) hHeld ?_
      rotate_left
      · intro w' hSw; (try dsimp only at hSw); have d0 := hcell w' hSw.2; skip; go_simp; try with_reducible rfl
      try simp only [Act.put, List.setIfInBounds_toArray, List.set_cons_zero, List.set_cons_succ]
      refine take_E 8 23 (v := ?_) rfl rfl (by kernel_rfl) (by kernel_rfl) (by kernel_rfl) (by kernel_rfl) (fun _ _ _ h => h) (Or.inl ⟨by rfl, ?_⟩) hHeld ?_
      rotate_left
      · intro w' hSw; (try dsimp only at hSw); have d0 := hcell w' hSw.2; skip; go_simp; try with_reducible rfl
      try simp only [Act.put, List.setIfInBounds_toArray, List.set_cons_zero, List.set_cons_succ]
      refine one_E 9 (by kernel_rfl) rfl (fun K hK => ?_)
      go_simp
      obtain ⟨U, hU⟩ : ∃ Wz, World.alloc w3 (.cells #[.string sy] 9) = Wz := ⟨_, rfl⟩
      have nw : ∀ jj u, [Value.string sy][jj]? = some u → U.cell? ((⟨w3.heap.size, 0, none⟩ : Addr).add jj) = some u := by rw [← hU]; exact news_one _ _ _
      rw [hU]
      have XA : Below w3.heap.size w3 U := by rw [← hU]; exact (Below.refl _ _).alloc (Nat.le_refl _) _
      replace G := G.under XA
      replace PB := PB.later XA PB.lt
      replace hsz : w.heap.size + 3 ≤ U.heap.size := Nat.le_trans hsz XA.size
      replace os3 := own_later os3 XA
      replace q0 := G.tn.at 0 rfl
      clear XA hU
      refine hK.out _ _ ⟨q0, PB⟩ (fun hHeld2 => ?_)
      clear hK K hHeld
      have hHeld := hHeld2
      clear hHeld2
      try simp only [Act.put, List.setIfInBounds_toArray, List.set_cons_zero, List.set_cons_succ]
      refine one_E 10 (by kernel_rfl) rfl (fun K hK => ?_)
      refine step_wh rfl _ _ 24 rfl (w.heap.size + 3) 9 j0 (.string ⟨#[]⟩) 1 16 Try.underlying24 hj hy0 hy1 hy2 rfl (by decide) _ _ _ rfl os3 ⟨w3.heap.size, 0, none⟩ 1 1 [.string sy] rfl rfl nw (fun u hu => by simp at hu; subst hu; rfl) (by unfold maxLen; omega) (by omega) hsz (by decide) ?_
      intro vK wK ownK hgK hwK
      try simp only [Act.put, List.setIfInBounds_toArray]
      obtain ⟨mm2, mc, rfl, _⟩ := own_shape ownK
      have GM := G.more (vs := [sy]) (mm := mm2) (mc := mc) (ownsRow_le ownK (by omega)) hgK
      have hr3 : ∀ q, q < w.heap.size + 3 → some q ≠ (Value.slice na L.length nc).ownBlock := fun q hq e => by have := (os3.lt q e.symm).1; omega
      have PBK := blk_gr PB hgK PB.lt (hr3 _ (by omega))
      have q0K : wK.cell? ⟨w.heap.size + 1, 0, none⟩ = some (.slice na L.length nc) := GM.1.at 0 rfl
      have z0K : wK.frozen? ⟨w.heap.size + 1, 0, none⟩ = false := GM.1.fz 0 rfl
      have GN := GM.2
      have hszK : w.heap.size + 3 ≤ wK.heap.size := Nat.le_trans hsz hgK.size
      have hcl : [sy].length = 1 := rfl
      rw [hcl] at GN
      clear GM G PB os3 hsz hgK hwK nw q0
      refine hK.out _ _ ⟨q0K, PBK⟩ (fun hHeld2 => ?_)
      clear hK K hHeld
      have hHeld := hHeld2
      clear hHeld2
      try simp only [Act.put, List.setIfInBounds_toArray, List.set_cons_zero, List.set_cons_succ]
      refine take_E 11 26 (v := ?_) rfl rfl (by kernel_rfl) (by kernel_rfl) (by kernel_rfl) (by kernel_rfl) (fun _ _ _ h => h) (Or.inl ⟨by rfl, ?_⟩) hHeld ?_
      rotate_left
      · intro w' hSw; (try dsimp only at hSw); skip; go_simp; try with_reducible rfl
      try simp only [Act.put]
      refine last_E (by kernel_rfl) rfl (by kernel_rfl) (fun K hK => ?_)
      go_simp
      try simp only [q0K, z0K]
      obtain ⟨wF, hwF⟩ : ∃ W, wK.setCell ⟨w.heap.size + 1, 0, none⟩ (.slice mm2 (L.length + 1) mc) = W := ⟨_, rfl⟩
      rw [hwF] at GN
      have hLl : (L ++ [sy]).length = L.length + 1 := by simp
      have ownF : wF.ownsRow (w.heap.size + 3) 9 1 (.slice mm2 (L ++ [sy]).length mc) (L ++ [sy]).length ((L ++ [sy]).map Value.string) := by rw [← hwF, hLl, List.map_append]; exact own_set ownK (by omega)
      have PBF : Blk (w.heap.size + 2) [.string ⟨#[97]⟩, .string ⟨#[98]⟩, .string ⟨#[104, 111, 115, 116]⟩, .string ⟨#[42]⟩, .string ⟨#[120, 47, 121]⟩, .string ⟨#[97, 64, 98]⟩, .string ⟨#[92]⟩, .string ⟨#[97, 97, 97, 97, 97, 97, 97, 97, 97, 97, 97, 97, 97, 97, 97, 97, 97, 97, 97, 97]⟩] wF := by rw [← hwF]; exact PBK.far (by omega) _ _
      have HR : ∃ (m : Nat) (na : Option Addr) (nc : Nat) (L : List ByteArray), Value.int .i64 ((mm : Int)) = .int .i64 (m : Int) ∧ m + L.length = 1 + M ∧ Hid (∀ y ∈ L, y.size ≤ 20) ∧ Grw p ad len cap zs w wF na nc L ⟨#[]⟩ ∧ Blk (w.heap.size + 2) [.string ⟨#[97]⟩, .string ⟨#[98]⟩, .string ⟨#[104, 111, 115, 116]⟩, .string ⟨#[42]⟩, .string ⟨#[120, 47, 121]⟩, .string ⟨#[97, 64, 98]⟩, .string ⟨#[92]⟩, .string ⟨#[97, 97, 97, 97, 97, 97, 97, 97, 97, 97, 97, 97, 97, 97, 97, 97, 97, 97, 97, 97]⟩] wF ∧ w.heap.size + 3 ≤ wF.heap.size ∧ wF.ownsRow (w.heap.size + 3) 9 1 (.slice na L.length nc) L.length (L.map Value.string) := ⟨mm, mm2, mc, L ++ [sy], rfl, by rw [hLl]; omega, (fun y hy => by
        rcases List.mem_append.1 hy with hy | hy
        · exact HX0.out y hy
        · rw [List.mem_singleton] at hy; subst hy; exact HSY.out), GN, PBF, by rw [← hwF]; simpa using hszK, ownF⟩
      clear GN ownF PBF ownK PBK hszK hLl HX0 HSY
      refine hK.out _ _ ?_
      clear hK K hHeld
      try rw [hwF]
      go_wp2
      go_roundw
      case rel => exact HR
      case measure => simp [intOf] <;> omega
    · obtain rfl : m = 0 := by omega
      have hgt : ¬ (((0 : Nat) : Int) > 0) := by omega
      have hL3 : L.length ≤ 3 := by omega
      have hL1 : 1 ≤ L.length := by omega
      clear PB hsz os3 hm xa xb
      have HX := onceW 3 G.cu.here (by omega)
      go_wp2_with fail
      refine HX.mono ?_
      clear HX
      rintro en w5 ⟨b, rfl, C⟩
      replace G := G.next C
      clear C
      cases b with
      | true =>
        have HRS : Hid ((⟨#[]⟩ : ByteArray).size ≤ 21) := by show _ ≤ _; decide
        have HX := onceW 10 G.cu.here (by omega)
        go_wp2_with fail
        skip
        refine HX.mono ?_
        clear HX
        rintro en x1 ⟨b2, rfl, C⟩
        replace G := G.next C
        clear C
        cases b2 with
        | false =>
          obtain ⟨VF, hVF⟩ : ∃ V, x1.setCells w.heap.size 0 [.slice na L.length nc, .string ⟨#[]⟩] = V := ⟨_, rfl⟩
          have TF : Blk w.heap.size [.slice na L.length nc, .string ⟨#[]⟩] VF := by rw [← hVF]; exact G.tr.sets _ rfl
          have oF : OwT w.heap.size VF ((na, nc, L), ⟨#[]⟩) := by rw [← hVF]; exact ownsRow_le (own_far G.os (sets_grown w.heap.size _ 0 x1) (by omega)) (by omega)
          have CF : Cu p ad len cap zs w VF := by rw [← hVF]; exact cu_grown G.cu hpw (sets_grown w.heap.size _ 0 x1) (fun k e => by injection e with e; omega)
          have TR0 := G.tr
          have FIN : SnP p ad len cap zs w (.returned (.agg #[.slice na L.length nc, .string ⟨#[]⟩])) VF := ⟨((na, nc, L), ⟨#[]⟩), rfl, oF, ⟨by show L.length ≤ 6; omega, fun y hy => Nat.le_trans (HX0.out y hy) (by omega), HRS.out⟩, CF⟩
          have e0_ := G.tn.at 0 rfl
          have e1_ := G.tn.at 1 rfl
          clear G oF CF
          go_wp2_with (first | (show wpList Try.prog _ _ ({ dst := none, op := Op.store 26 (Operand.tmp 2) (Operand.tmp 54), type := _, pos := _, after := _, guard := _ } :: _) _ _; skip; refine wpList_stB 26 _ _ w.heap.size 0 _ [.slice na L.length nc, .string ⟨#[]⟩] ie hie TR0 his.symm (by simp) rfl rfl rfl rfl rfl ?_; rw [hVF]) | fail)
          exact bodyPost_ret (res_B1 rfl _ _ w.heap.size [.slice na L.length nc, .string ⟨#[]⟩] ie hie (Try.isAgg26) TF his.symm rfl) rfl FIN
        | true =>
          have HX := belowW 3 G.cu.here (by omega) (by omega)
          go_wp2_with fail
          refine HX.mono ?_
          clear HX
          rintro en x2 ⟨c2, rfl, ca, cb, C⟩
          replace G := G.next C
          clear C
          by_cases h0 : c2 = 0
          · have q0 : (c2 == 0) = true := by rw [beq_iff_eq]; exact h0
            clear h0
            obtain ⟨g1, rfl, ⟨v1, hv1⟩, hz1, hset⟩ := G.first (by omega)
            replace G := G.drew
            have d0 := G.tn.at 0 rfl
            have hz2 : x2.drew.frozen? ⟨g1, 0, none⟩ = false := hz1
            have hpos : (0 : Int) < (L.length : Int) := by omega
            have hpn : 0 < L.length := by omega
            have hne : ¬ L.length = 0 := by omega
            go_wp2_with fail
            refine drew_E 6 (fun Vw => Vw.cell? ⟨w.heap.size + 1, 0, none⟩ = some (.slice (some ⟨g1, 0, none⟩) L.length nc)) (by kernel_rfl) d0 (fun hHeld => ?_)
            replace hv1 : x2.drew.cell? ⟨g1, 0, none⟩ = some v1 := hv1
            replace hset : ∀ s : ByteArray, Grw p ad len cap zs w (x2.drew.setCell ⟨g1, 0, none⟩ (.string s)) (some ⟨g1, 0, none⟩) nc (L.set 0 s) ⟨#[]⟩ := fun s => by obtain ⟨g2, e2, _, _, h2⟩ := G.first (by omega); injection e2 with e2; injection e2 with e2; subst e2; exact h2 s
            clear hset hv1 hz1 hz2
            generalize x2.drew = D at *
            refine take_E 0 41 (v := ?_) rfl rfl (by kernel_rfl) (by kernel_rfl) (by kernel_rfl) (by kernel_rfl) (fun _ _ _ h => h) (Or.inl ⟨by rfl, ?_⟩) hHeld ?_
            rotate_left
            · intro w' hSw; (try dsimp only at hSw); skip; go_simp; try with_reducible rfl
            try simp only [Act.put, List.setIfInBounds_toArray, List.set_cons_zero, List.set_cons_succ]
            refine take_E 1 42 (v := ?_) rfl rfl (by kernel_rfl) (by kernel_rfl) (by kernel_rfl) (by kernel_rfl) (fun _ _ _ h => h) (Or.inl ⟨by rfl, ?_⟩) hHeld ?_
            rotate_left
            · intro w' hSw; (try dsimp only at hSw); skip; go_simp; try with_reducible rfl
            try simp only [Act.put, List.setIfInBounds_toArray, List.set_cons_zero, List.set_cons_succ]
            refine take_E 2 43 (v := ?_) rfl rfl (by kernel_rfl) (by kernel_rfl) (by kernel_rfl) (by kernel_rfl) (fun _ _ _ h => h) (Or.inl ⟨by rfl, ?_⟩) hHeld ?_
            rotate_left
            · intro w' hSw; (try dsimp only at hSw); skip; go_simp; try with_reducible rfl
            try simp only [Act.put, List.setIfInBounds_toArray, List.set_cons_zero, List.set_cons_succ]
            refine one_E 3 (by kernel_rfl) rfl (fun K hK => ?_)
            go_simp
            obtain ⟨U, hU⟩ : ∃ Wz, World.alloc D (.cells #[.string ⟨#[]⟩, .string ⟨#[97, 32, 98]⟩, .string ⟨#[97, 97, 97, 97, 97, 97, 97, 97, 97, 97, 97, 97, 97, 97, 97, 97, 97, 97, 97, 97, 97]⟩, .string ⟨#[127]⟩] 9) = Wz := ⟨_, rfl⟩
            have TU : Blk D.heap.size [.string ⟨#[]⟩, .string ⟨#[97, 32, 98]⟩, .string ⟨#[97, 97, 97, 97, 97, 97, 97, 97, 97, 97, 97, 97, 97, 97, 97, 97, 97, 97, 97, 97, 97]⟩, .string ⟨#[127]⟩] U := by rw [← hU]; exact Blk.new _ _ _
            have hDU : D.heap.size < U.heap.size := by rw [← hU]; simp
            have hpD : p < D.heap.size := Nat.lt_of_lt_of_le hpw G.cu.size
            rw [hU]
            replace G : Grw p ad len cap zs w U (some ⟨g1, 0, none⟩) nc L ⟨#[]⟩ := by rw [← hU]; exact G.alloc _
            replace d0 := G.tn.at 0 rfl
            clear hU
            refine hK.out _ _ d0 (fun hHeld2 => ?_)
            clear hK K hHeld
            have hHeld := hHeld2
            clear hHeld2
            try simp only [Act.put, List.setIfInBounds_toArray, List.set_cons_zero, List.set_cons_succ]
            refine one_E 4 (by kernel_rfl) rfl (fun K hK => ?_)
            go_simp
            refine (pickS D.heap.size 4 [⟨#[]⟩, ⟨#[97, 32, 98]⟩, ⟨#[97, 97, 97, 97, 97, 97, 97, 97, 97, 97, 97, 97, 97, 97, 97, 97, 97, 97, 97, 97, 97]⟩, ⟨#[127]⟩] G.cu.here (by omega) (by omega) hpD hDU rfl TU).mono ?_
            rintro en x3 ⟨sy, hsy, rfl, C⟩
            have HSY : Hid (sy.size ≤ 21) := q4_small sy hsy
            replace G := G.next C
            replace d0 := G.tn.at 0 rfl
            clear C hsy TU hDU hpD
            go_wp2_with fail
            refine hK.out _ _ d0 (fun hHeld2 => ?_)
            clear hK K hHeld
            have hHeld := hHeld2
            clear hHeld2
            try simp only [Act.put, List.setIfInBounds_toArray, List.set_cons_zero, List.set_cons_succ]
            refine take_E 5 46 (v := ?_) rfl rfl (by kernel_rfl) (by kernel_rfl) (by kernel_rfl) (by kernel_rfl) (fun _ _ _ h => h) (Or.inl ⟨by rfl, ?_⟩) hHeld ?_
            rotate_left
            · intro w' hSw; (try dsimp only at hSw); skip; go_simp; try with_reducible rfl
            try simp only [Act.put, List.setIfInBounds_toArray, List.set_cons_zero, List.set_cons_succ]
            refine last_E (by kernel_rfl) rfl (by kernel_rfl) (fun K hK => ?_)
            obtain ⟨g2, e2, ⟨v2, hv2⟩, hz2, hset⟩ := G.first (by omega)
            injection e2 with e2
            injection e2 with e2
            subst e2
            go_simp
            try simp only [hv2, hz2]
            have GN := hset sy
            obtain ⟨wF, hwF⟩ : ∃ W, x3.setCell ⟨g1, 0, none⟩ (.string sy) = W := ⟨_, rfl⟩
            rw [hwF] at GN
            have HXN : Hid (∀ y ∈ L.set 0 sy, y.size ≤ 21) := fun y hy => by
              rcases List.mem_or_eq_of_mem_set hy with hy | hy
              · exact Nat.le_trans (HX0.out y hy) (by omega)
              · subst hy; exact HSY.out
            have HLN : Hid ((L.set 0 sy).length ≤ 6) := by show _ ≤ _; rw [List.length_set]; omega
            refine hK.out _ _ ?_
            clear hK K hHeld
            try rw [hwF]
            clear G hset hv2 hz2 d0 hpos HSY
            generalize L.set 0 sy = LN at *
            have G := GN
            clear GN
            obtain ⟨VF, hVF⟩ : ∃ V, wF.setCells w.heap.size 0 [.slice (some ⟨g1, 0, none⟩) LN.length nc, .string ⟨#[]⟩] = V := ⟨_, rfl⟩
            have TF : Blk w.heap.size [.slice (some ⟨g1, 0, none⟩) LN.length nc, .string ⟨#[]⟩] VF := by rw [← hVF]; exact G.tr.sets _ rfl
            have oF : OwT w.heap.size VF ((some ⟨g1, 0, none⟩, nc, LN), ⟨#[]⟩) := by rw [← hVF]; exact ownsRow_le (own_far G.os (sets_grown w.heap.size _ 0 wF) (by omega)) (by omega)
            have CF : Cu p ad len cap zs w VF := by rw [← hVF]; exact cu_grown G.cu hpw (sets_grown w.heap.size _ 0 wF) (fun k e => by injection e with e; omega)
            have TR0 := G.tr
            have FIN : SnP p ad len cap zs w (.returned (.agg #[.slice (some ⟨g1, 0, none⟩) LN.length nc, .string ⟨#[]⟩])) VF := ⟨((some ⟨g1, 0, none⟩, nc, LN), ⟨#[]⟩), rfl, oF, ⟨HLN.out, HXN.out, HRS.out⟩, CF⟩
            have e0_ := G.tn.at 0 rfl
            have e1_ := G.tn.at 1 rfl
            clear G oF CF
            go_wp2_with (first | (show wpList Try.prog _ _ ({ dst := none, op := Op.store 26 (Operand.tmp 2) (Operand.tmp 54), type := _, pos := _, after := _, guard := _ } :: _) _ _; (try rw [hwF]); refine wpList_stB 26 _ _ w.heap.size 0 _ [.slice (some ⟨g1, 0, none⟩) LN.length nc, .string ⟨#[]⟩] ie hie TR0 his.symm (by simp) rfl rfl rfl rfl rfl ?_; rw [hVF]) | fail)
            exact bodyPost_ret (res_B1 rfl _ _ w.heap.size [.slice (some ⟨g1, 0, none⟩) LN.length nc, .string ⟨#[]⟩] ie hie (Try.isAgg26) TF his.symm rfl) rfl FIN
          · have q0 : (c2 == 0) = false := by rw [beq_eq_false_iff_ne]; exact h0
            by_cases h1 : c2 = 1
            · have q1 : (c2 == 1) = true := by rw [beq_iff_eq]; exact h1
              clear h0 h1
              obtain ⟨U, hU⟩ : ∃ U, x2.alloc (.cells #[.string ⟨#[99]⟩, .string ⟨#[100]⟩, .string ⟨#[101]⟩] 9) = U := ⟨_, rfl⟩
              have GU : Grw p ad len cap zs w U na nc L ⟨#[]⟩ := by rw [← hU]; exact G.alloc _
              have TU : Blk x2.heap.size [.string ⟨#[99]⟩, .string ⟨#[100]⟩, .string ⟨#[101]⟩] U := by rw [← hU]; exact Blk.new _ _ _
              have osU := GU.os
              have szU := GU.sz
              have d0 := G.tn.at 0 rfl
              have hl6 : L.length ≤ 3 := by omega
              go_wp2_with (first | (at_builtin; (try rw [hU]); refine wpList_append_where _ rfl _ _ 24 rfl (w.heap.size + 2) 9 j0 (.string ⟨#[]⟩) 1 16 Try.underlying24 hj hy0 hy1 hy2 rfl (by decide) _ _ _ rfl osU ⟨x2.heap.size, 0, none⟩ 3 3 [.string ⟨#[99]⟩, .string ⟨#[100]⟩, .string ⟨#[101]⟩] rfl rfl (news_blk TU) ?f1a ?f1b ?f1c ?f1d (by omega) ?_) | fail)
              case f1a => first | rfl | (intro u hu; simp at hu; rcases hu with rfl | rfl | rfl <;> rfl)
              case f1b => unfold maxLen; omega
              case f1c => omega
              try (case f1d => omega)
              intro vK wK ownK hgK hwK
              obtain ⟨mm2, mc, rfl, _⟩ := own_shape ownK
              have GM := GU.more (vs := c3L) (mm := mm2) (mc := mc) ownK hgK
              have q0K : wK.cell? ⟨w.heap.size + 1, 0, none⟩ = some (.slice na L.length nc) := GM.1.at 0 rfl
              have z0K : wK.frozen? ⟨w.heap.size + 1, 0, none⟩ = false := GM.1.fz 0 rfl
              have GN := GM.2
              have hcl : c3L.length = 3 := rfl
              rw [hcl] at GN
              obtain ⟨wF, hwF⟩ : ∃ W, wK.setCell ⟨w.heap.size + 1, 0, none⟩ (.slice mm2 (L.length + 3) mc) = W := ⟨_, rfl⟩
              rw [hwF] at GN
              have HXN : Hid (∀ y ∈ L ++ c3L, y.size ≤ 21) := fun y hy => by
                rcases List.mem_append.1 hy with hy | hy
                · exact Nat.le_trans (HX0.out y hy) (by omega)
                · exact c3_small y hy
              have HLN : Hid ((L ++ c3L).length ≤ 6) := by show _ ≤ _; rw [List.length_append, hcl]; omega
              clear GM GU G TU osU szU ownK hgK hwK d0 hU
              obtain ⟨LN, hLN⟩ : ∃ z : List ByteArray, L ++ c3L = z := ⟨_, rfl⟩
              rw [hLN] at GN HXN HLN
              clear hLN
              obtain ⟨na, rfl⟩ : ∃ z, z = mm2 := ⟨_, rfl⟩
              obtain ⟨nc, rfl⟩ : ∃ z, z = mc := ⟨_, rfl⟩
              have G := GN
              clear GN
              obtain ⟨VF, hVF⟩ : ∃ V, wF.setCells w.heap.size 0 [.slice na LN.length nc, .string ⟨#[]⟩] = V := ⟨_, rfl⟩
              have TF : Blk w.heap.size [.slice na LN.length nc, .string ⟨#[]⟩] VF := by rw [← hVF]; exact G.tr.sets _ rfl
              have oF : OwT w.heap.size VF ((na, nc, LN), ⟨#[]⟩) := by rw [← hVF]; exact ownsRow_le (own_far G.os (sets_grown w.heap.size _ 0 wF) (by omega)) (by omega)
              have CF : Cu p ad len cap zs w VF := by rw [← hVF]; exact cu_grown G.cu hpw (sets_grown w.heap.size _ 0 wF) (fun k e => by injection e with e; omega)
              have TR0 := G.tr
              have FIN : SnP p ad len cap zs w (.returned (.agg #[.slice na LN.length nc, .string ⟨#[]⟩])) VF := ⟨((na, nc, LN), ⟨#[]⟩), rfl, oF, ⟨HLN.out, HXN.out, HRS.out⟩, CF⟩
              have e0_ := G.tn.at 0 rfl
              have e1_ := G.tn.at 1 rfl
              clear G oF CF
              go_wp2_with (first | (show wpList Try.prog _ _ ({ dst := none, op := Op.store 26 (Operand.tmp 2) (Operand.tmp 54), type := _, pos := _, after := _, guard := _ } :: _) _ _; (try rw [hwF]); refine wpList_stB 26 _ _ w.heap.size 0 _ [.slice na LN.length nc, .string ⟨#[]⟩] ie hie TR0 his.symm (by simp) rfl rfl rfl rfl rfl ?_; rw [hVF]) | fail)
              exact bodyPost_ret (res_B1 rfl _ _ w.heap.size [.slice na LN.length nc, .string ⟨#[]⟩] ie hie (Try.isAgg26) TF his.symm rfl) rfl FIN
            · have q1 : (c2 == 1) = false := by rw [beq_eq_false_iff_ne]; exact h1
              have f1_ := G.tn.at 1 rfl
              have g1_ := G.tn.fz 1 rfl
              obtain ⟨wF, hwF⟩ : ∃ W, x2.setCell ⟨w.heap.size + 1, 1, none⟩ (.string ⟨#[97, 32, 98]⟩) = W := ⟨_, rfl⟩
              have GN := G.realm ⟨#[97, 32, 98]⟩
              rw [hwF] at GN
              clear G h0 h1
              have G := GN
              clear GN
              obtain ⟨VF, hVF⟩ : ∃ V, wF.setCells w.heap.size 0 [.slice na L.length nc, .string ⟨#[97, 32, 98]⟩] = V := ⟨_, rfl⟩
              have TF : Blk w.heap.size [.slice na L.length nc, .string ⟨#[97, 32, 98]⟩] VF := by rw [← hVF]; exact G.tr.sets _ rfl
              have oF : OwT w.heap.size VF ((na, nc, L), ⟨#[97, 32, 98]⟩) := by rw [← hVF]; exact ownsRow_le (own_far G.os (sets_grown w.heap.size _ 0 wF) (by omega)) (by omega)
              have CF : Cu p ad len cap zs w VF := by rw [← hVF]; exact cu_grown G.cu hpw (sets_grown w.heap.size _ 0 wF) (fun k e => by injection e with e; omega)
              have TR0 := G.tr
              have FIN : SnP p ad len cap zs w (.returned (.agg #[.slice na L.length nc, .string ⟨#[97, 32, 98]⟩])) VF := ⟨((na, nc, L), ⟨#[97, 32, 98]⟩), rfl, oF, ⟨by show L.length ≤ 6; omega, fun y hy => Nat.le_trans (HX0.out y hy) (by omega), (show (⟨#[97, 32, 98]⟩ : ByteArray).size ≤ 21 by decide)⟩, CF⟩
              have e0_ := G.tn.at 0 rfl
              have e1_ := G.tn.at 1 rfl
              clear G oF CF
              go_wp2_with (first | (show wpList Try.prog _ _ ({ dst := none, op := Op.store 26 (Operand.tmp 2) (Operand.tmp 54), type := _, pos := _, after := _, guard := _ } :: _) _ _; (try rw [hwF]); refine wpList_stB 26 _ _ w.heap.size 0 _ [.slice na L.length nc, .string ⟨#[97, 32, 98]⟩] ie hie TR0 his.symm (by simp) rfl rfl rfl rfl rfl ?_; rw [hVF]) | fail)
              exact bodyPost_ret (res_B1 rfl _ _ w.heap.size [.slice na L.length nc, .string ⟨#[97, 32, 98]⟩] ie hie (Try.isAgg26) TF his.symm rfl) rfl FIN
      | false =>
        obtain ⟨U5, hU5⟩ : ∃ U, w5.alloc (.cells #[.string ⟨#[82]⟩, .string ⟨#[82, 46, 83]⟩, .string ⟨#[42]⟩, .string ⟨#[97, 64]⟩, .string ⟨#[]⟩] 9) = U := ⟨_, rfl⟩
        have GU : Grw p ad len cap zs w U5 na nc L ⟨#[]⟩ := by rw [← hU5]; exact G.alloc _
        have TU : Blk w5.heap.size [.string ⟨#[82]⟩, .string ⟨#[82, 46, 83]⟩, .string ⟨#[42]⟩, .string ⟨#[97, 64]⟩, .string ⟨#[]⟩] U5 := by rw [← hU5]; exact Blk.new _ _ _
        have hDU : w5.heap.size < U5.heap.size := by rw [← hU5]; simp
        have hpD : p < w5.heap.size := Nat.lt_of_lt_of_le hpw G.cu.size
        have HP := pickS w5.heap.size 5 [⟨#[82]⟩, ⟨#[82, 46, 83]⟩, ⟨#[42]⟩, ⟨#[97, 64]⟩, ⟨#[]⟩] GU.cu.here (by omega) (by omega) hpD hDU rfl TU
        clear G
        go_wp2_with fail
        try rw [hU5]
        refine HP.mono ?_
        clear HP TU hDU hpD hU5
        rintro en w6 ⟨sr, hsr, rfl, C⟩
        have HRS : Hid (sr.size ≤ 21) := r5_small sr hsr
        replace GU := GU.next C
        clear C hsr
        have f1_ := GU.tn.at 1 rfl
        have g1_ := GU.tn.fz 1 rfl
        obtain ⟨w7, hw7⟩ : ∃ W, w6.setCell ⟨w.heap.size + 1, 1, none⟩ (.string sr) = W := ⟨_, rfl⟩
        have G := GU.realm sr
        rw [hw7] at G
        clear GU
        have HX := onceW 10 G.cu.here (by omega)
        go_wp2_with fail
        try rw [hw7]
        clear hw7 f1_ g1_
        refine HX.mono ?_
        clear HX
        rintro en x1 ⟨b2, rfl, C⟩
        replace G := G.next C
        clear C
        cases b2 with
        | false =>
          obtain ⟨VF, hVF⟩ : ∃ V, x1.setCells w.heap.size 0 [.slice na L.length nc, .string sr] = V := ⟨_, rfl⟩
          have TF : Blk w.heap.size [.slice na L.length nc, .string sr] VF := by rw [← hVF]; exact G.tr.sets _ rfl
          have oF : OwT w.heap.size VF ((na, nc, L), sr) := by rw [← hVF]; exact ownsRow_le (own_far G.os (sets_grown w.heap.size _ 0 x1) (by omega)) (by omega)
          have CF : Cu p ad len cap zs w VF := by rw [← hVF]; exact cu_grown G.cu hpw (sets_grown w.heap.size _ 0 x1) (fun k e => by injection e with e; omega)
          have TR0 := G.tr
          have FIN : SnP p ad len cap zs w (.returned (.agg #[.slice na L.length nc, .string sr])) VF := ⟨((na, nc, L), sr), rfl, oF, ⟨by show L.length ≤ 6; omega, fun y hy => Nat.le_trans (HX0.out y hy) (by omega), HRS.out⟩, CF⟩
          have e0_ := G.tn.at 0 rfl
          have e1_ := G.tn.at 1 rfl
          clear G oF CF
          go_wp2_with (first | (show wpList Try.prog _ _ ({ dst := none, op := Op.store 26 (Operand.tmp 2) (Operand.tmp 54), type := _, pos := _, after := _, guard := _ } :: _) _ _; skip; refine wpList_stB 26 _ _ w.heap.size 0 _ [.slice na L.length nc, .string sr] ie hie TR0 his.symm (by simp) rfl rfl rfl rfl rfl ?_; rw [hVF]) | fail)
          exact bodyPost_ret (res_B1 rfl _ _ w.heap.size [.slice na L.length nc, .string sr] ie hie (Try.isAgg26) TF his.symm rfl) rfl FIN
        | true =>
          have HX := belowW 3 G.cu.here (by omega) (by omega)
          go_wp2_with fail
          refine HX.mono ?_
          clear HX
          rintro en x2 ⟨c2, rfl, ca, cb, C⟩
          replace G := G.next C
          clear C
          by_cases h0 : c2 = 0
          · have q0 : (c2 == 0) = true := by rw [beq_iff_eq]; exact h0
            clear h0
            obtain ⟨g1, rfl, ⟨v1, hv1⟩, hz1, hset⟩ := G.first (by omega)
            replace G := G.drew
            have d0 := G.tn.at 0 rfl
            have hz2 : x2.drew.frozen? ⟨g1, 0, none⟩ = false := hz1
            have hpos : (0 : Int) < (L.length : Int) := by omega
            have hpn : 0 < L.length := by omega
            have hne : ¬ L.length = 0 := by omega
            go_wp2_with fail
            refine drew_E 6 (fun Vw => Vw.cell? ⟨w.heap.size + 1, 0, none⟩ = some (.slice (some ⟨g1, 0, none⟩) L.length nc)) (by kernel_rfl) d0 (fun hHeld => ?_)
            replace hv1 : x2.drew.cell? ⟨g1, 0, none⟩ = some v1 := hv1
            replace hset : ∀ s : ByteArray, Grw p ad len cap zs w (x2.drew.setCell ⟨g1, 0, none⟩ (.string s)) (some ⟨g1, 0, none⟩) nc (L.set 0 s) sr := fun s => by obtain ⟨g2, e2, _, _, h2⟩ := G.first (by omega); injection e2 with e2; injection e2 with e2; subst e2; exact h2 s
            clear hset hv1 hz1 hz2
            generalize x2.drew = D at *
            refine take_E 0 41 (v := ?_) rfl rfl (by kernel_rfl) (by kernel_rfl) (by kernel_rfl) (by kernel_rfl) (fun _ _ _ h => h) (Or.inl ⟨by rfl, ?_⟩) hHeld ?_
            rotate_left
            · intro w' hSw; (try dsimp only at hSw); skip; go_simp; try with_reducible rfl
            try simp only [Act.put, List.setIfInBounds_toArray, List.set_cons_zero, List.set_cons_succ]
            refine take_E 1 42 (v := ?_) rfl rfl (by kernel_rfl) (by kernel_rfl) (by kernel_rfl) (by kernel_rfl) (fun _ _ _ h => h) (Or.inl ⟨by rfl, ?_⟩) hHeld ?_
            rotate_left
            · intro w' hSw; (try dsimp only at hSw); skip; go_simp; try with_reducible rfl
            try simp only [Act.put, List.setIfInBounds_toArray, List.set_cons_zero, List.set_cons_succ]
            refine take_E 2 43 (v := ?_) rfl rfl (by kernel_rfl) (by kernel_rfl) (by kernel_rfl) (by kernel_rfl) (fun _ _ _ h => h) (Or.inl ⟨by rfl, ?_⟩) hHeld ?_
            rotate_left
            · intro w' hSw; (try dsimp only at hSw); skip; go_simp; try with_reducible rfl
            try simp only [Act.put, List.setIfInBounds_toArray, List.set_cons_zero, List.set_cons_succ]
            refine one_E 3 (by kernel_rfl) rfl (fun K hK => ?_)
            go_simp
            obtain ⟨U, hU⟩ : ∃ Wz, World.alloc D (.cells #[.string ⟨#[]⟩, .string ⟨#[97, 32, 98]⟩, .string ⟨#[97, 97, 97, 97, 97, 97, 97, 97, 97, 97, 97, 97, 97, 97, 97, 97, 97, 97, 97, 97, 97]⟩, .string ⟨#[127]⟩] 9) = Wz := ⟨_, rfl⟩
            have TU : Blk D.heap.size [.string ⟨#[]⟩, .string ⟨#[97, 32, 98]⟩, .string ⟨#[97, 97, 97, 97, 97, 97, 97, 97, 97, 97, 97, 97, 97, 97, 97, 97, 97, 97, 97, 97, 97]⟩, .string ⟨#[127]⟩] U := by rw [← hU]; exact Blk.new _ _ _
            have hDU : D.heap.size < U.heap.size := by rw [← hU]; simp
            have hpD : p < D.heap.size := Nat.lt_of_lt_of_le hpw G.cu.size
            rw [hU]
            replace G : Grw p ad len cap zs w U (some ⟨g1, 0, none⟩) nc L sr := by rw [← hU]; exact G.alloc _
            replace d0 := G.tn.at 0 rfl
            clear hU
            refine hK.out _ _ d0 (fun hHeld2 => ?_)
            clear hK K hHeld
            have hHeld := hHeld2
            clear hHeld2
            try simp only [Act.put, List.setIfInBounds_toArray, List.set_cons_zero, List.set_cons_succ]
            refine one_E 4 (by kernel_rfl) rfl (fun K hK => ?_)
            go_simp
            refine (pickS D.heap.size 4 [⟨#[]⟩, ⟨#[97, 32, 98]⟩, ⟨#[97, 97, 97, 97, 97, 97, 97, 97, 97, 97, 97, 97, 97, 97, 97, 97, 97, 97, 97, 97, 97]⟩, ⟨#[127]⟩] G.cu.here (by omega) (by omega) hpD hDU rfl TU).mono ?_
            rintro en x3 ⟨sy, hsy, rfl, C⟩
            have HSY : Hid (sy.size ≤ 21) := q4_small sy hsy
            replace G := G.next C
            replace d0 := G.tn.at 0 rfl
            clear C hsy TU hDU hpD
            go_wp2_with fail
            refine hK.out _ _ d0 (fun hHeld2 => ?_)
            clear hK K hHeld
            have hHeld := hHeld2
            clear hHeld2
            try simp only [Act.put, List.setIfInBounds_toArray, List.set_cons_zero, List.set_cons_succ]
            refine take_E 5 46 (v := ?_) rfl rfl (by kernel_rfl) (by kernel_rfl) (by kernel_rfl) (by kernel_rfl) (fun _ _ _ h => h) (Or.inl ⟨by rfl, ?_⟩) hHeld ?_
            rotate_left
            · intro w' hSw; (try dsimp only at hSw); skip; go_simp; try with_reducible rfl
            try simp only [Act.put, List.setIfInBounds_toArray, List.set_cons_zero, List.set_cons_succ]
            refine last_E (by kernel_rfl) rfl (by kernel_rfl) (fun K hK => ?_)
            obtain ⟨g2, e2, ⟨v2, hv2⟩, hz2, hset⟩ := G.first (by omega)
            injection e2 with e2
            injection e2 with e2
            subst e2
            go_simp
            try simp only [hv2, hz2]
            have GN := hset sy
            obtain ⟨wF, hwF⟩ : ∃ W, x3.setCell ⟨g1, 0, none⟩ (.string sy) = W := ⟨_, rfl⟩
            rw [hwF] at GN
            have HXN : Hid (∀ y ∈ L.set 0 sy, y.size ≤ 21) := fun y hy => by
              rcases List.mem_or_eq_of_mem_set hy with hy | hy
              · exact Nat.le_trans (HX0.out y hy) (by omega)
              · subst hy; exact HSY.out
            have HLN : Hid ((L.set 0 sy).length ≤ 6) := by show _ ≤ _; rw [List.length_set]; omega
            refine hK.out _ _ ?_
            clear hK K hHeld
            try rw [hwF]
            clear G hset hv2 hz2 d0 hpos HSY
            generalize L.set 0 sy = LN at *
            have G := GN
            clear GN
            obtain ⟨VF, hVF⟩ : ∃ V, wF.setCells w.heap.size 0 [.slice (some ⟨g1, 0, none⟩) LN.length nc, .string sr] = V := ⟨_, rfl⟩
            have TF : Blk w.heap.size [.slice (some ⟨g1, 0, none⟩) LN.length nc, .string sr] VF := by rw [← hVF]; exact G.tr.sets _ rfl
            have oF : OwT w.heap.size VF ((some ⟨g1, 0, none⟩, nc, LN), sr) := by rw [← hVF]; exact ownsRow_le (own_far G.os (sets_grown w.heap.size _ 0 wF) (by omega)) (by omega)
            have CF : Cu p ad len cap zs w VF := by rw [← hVF]; exact cu_grown G.cu hpw (sets_grown w.heap.size _ 0 wF) (fun k e => by injection e with e; omega)
            have TR0 := G.tr
            have FIN : SnP p ad len cap zs w (.returned (.agg #[.slice (some ⟨g1, 0, none⟩) LN.length nc, .string sr])) VF := ⟨((some ⟨g1, 0, none⟩, nc, LN), sr), rfl, oF, ⟨HLN.out, HXN.out, HRS.out⟩, CF⟩
            have e0_ := G.tn.at 0 rfl
            have e1_ := G.tn.at 1 rfl
            clear G oF CF
            go_wp2_with (first | (show wpList Try.prog _ _ ({ dst := none, op := Op.store 26 (Operand.tmp 2) (Operand.tmp 54), type := _, pos := _, after := _, guard := _ } :: _) _ _; (try rw [hwF]); refine wpList_stB 26 _ _ w.heap.size 0 _ [.slice (some ⟨g1, 0, none⟩) LN.length nc, .string sr] ie hie TR0 his.symm (by simp) rfl rfl rfl rfl rfl ?_; rw [hVF]) | fail)
            exact bodyPost_ret (res_B1 rfl _ _ w.heap.size [.slice (some ⟨g1, 0, none⟩) LN.length nc, .string sr] ie hie (Try.isAgg26) TF his.symm rfl) rfl FIN
          · have q0 : (c2 == 0) = false := by rw [beq_eq_false_iff_ne]; exact h0
            by_cases h1 : c2 = 1
            · have q1 : (c2 == 1) = true := by rw [beq_iff_eq]; exact h1
              clear h0 h1
              obtain ⟨U, hU⟩ : ∃ U, x2.alloc (.cells #[.string ⟨#[99]⟩, .string ⟨#[100]⟩, .string ⟨#[101]⟩] 9) = U := ⟨_, rfl⟩
              have GU : Grw p ad len cap zs w U na nc L sr := by rw [← hU]; exact G.alloc _
              have TU : Blk x2.heap.size [.string ⟨#[99]⟩, .string ⟨#[100]⟩, .string ⟨#[101]⟩] U := by rw [← hU]; exact Blk.new _ _ _
              have osU := GU.os
              have szU := GU.sz
              have d0 := G.tn.at 0 rfl
              have hl6 : L.length ≤ 3 := by omega
              go_wp2_with (first | (at_builtin; (try rw [hU]); refine wpList_append_where _ rfl _ _ 24 rfl (w.heap.size + 2) 9 j0 (.string ⟨#[]⟩) 1 16 Try.underlying24 hj hy0 hy1 hy2 rfl (by decide) _ _ _ rfl osU ⟨x2.heap.size, 0, none⟩ 3 3 [.string ⟨#[99]⟩, .string ⟨#[100]⟩, .string ⟨#[101]⟩] rfl rfl (news_blk TU) ?f2a ?f2b ?f2c ?f2d (by omega) ?_) | fail)
              case f2a => first | rfl | (intro u hu; simp at hu; rcases hu with rfl | rfl | rfl <;> rfl)
              case f2b => unfold maxLen; omega
              case f2c => omega
              try (case f2d => omega)
              intro vK wK ownK hgK hwK
              obtain ⟨mm2, mc, rfl, _⟩ := own_shape ownK
              have GM := GU.more (vs := c3L) (mm := mm2) (mc := mc) ownK hgK
              have q0K : wK.cell? ⟨w.heap.size + 1, 0, none⟩ = some (.slice na L.length nc) := GM.1.at 0 rfl
              have z0K : wK.frozen? ⟨w.heap.size + 1, 0, none⟩ = false := GM.1.fz 0 rfl
              have GN := GM.2
              have hcl : c3L.length = 3 := rfl
              rw [hcl] at GN
              obtain ⟨wF, hwF⟩ : ∃ W, wK.setCell ⟨w.heap.size + 1, 0, none⟩ (.slice mm2 (L.length + 3) mc) = W := ⟨_, rfl⟩
              rw [hwF] at GN
              have HXN : Hid (∀ y ∈ L ++ c3L, y.size ≤ 21) := fun y hy => by
                rcases List.mem_append.1 hy with hy | hy
                · exact Nat.le_trans (HX0.out y hy) (by omega)
                · exact c3_small y hy
              have HLN : Hid ((L ++ c3L).length ≤ 6) := by show _ ≤ _; rw [List.length_append, hcl]; omega
              clear GM GU G TU osU szU ownK hgK hwK d0 hU
              obtain ⟨LN, hLN⟩ : ∃ z : List ByteArray, L ++ c3L = z := ⟨_, rfl⟩
              rw [hLN] at GN HXN HLN
              clear hLN
              obtain ⟨na, rfl⟩ : ∃ z, z = mm2 := ⟨_, rfl⟩
              obtain ⟨nc, rfl⟩ : ∃ z, z = mc := ⟨_, rfl⟩
              have G := GN
              clear GN
              obtain ⟨VF, hVF⟩ : ∃ V, wF.setCells w.heap.size 0 [.slice na LN.length nc, .string sr] = V := ⟨_, rfl⟩
              have TF : Blk w.heap.size [.slice na LN.length nc, .string sr] VF := by rw [← hVF]; exact G.tr.sets _ rfl
              have oF : OwT w.heap.size VF ((na, nc, LN), sr) := by rw [← hVF]; exact ownsRow_le (own_far G.os (sets_grown w.heap.size _ 0 wF) (by omega)) (by omega)
              have CF : Cu p ad len cap zs w VF := by rw [← hVF]; exact cu_grown G.cu hpw (sets_grown w.heap.size _ 0 wF) (fun k e => by injection e with e; omega)
              have TR0 := G.tr
              have FIN : SnP p ad len cap zs w (.returned (.agg #[.slice na LN.length nc, .string sr])) VF := ⟨((na, nc, LN), sr), rfl, oF, ⟨HLN.out, HXN.out, HRS.out⟩, CF⟩
              have e0_ := G.tn.at 0 rfl
              have e1_ := G.tn.at 1 rfl
              clear G oF CF
              go_wp2_with (first | (show wpList Try.prog _ _ ({ dst := none, op := Op.store 26 (Operand.tmp 2) (Operand.tmp 54), type := _, pos := _, after := _, guard := _ } :: _) _ _; (try rw [hwF]); refine wpList_stB 26 _ _ w.heap.size 0 _ [.slice na LN.length nc, .string sr] ie hie TR0 his.symm (by simp) rfl rfl rfl rfl rfl ?_; rw [hVF]) | fail)
              exact bodyPost_ret (res_B1 rfl _ _ w.heap.size [.slice na LN.length nc, .string sr] ie hie (Try.isAgg26) TF his.symm rfl) rfl FIN
            · have q1 : (c2 == 1) = false := by rw [beq_eq_false_iff_ne]; exact h1
              have f1_ := G.tn.at 1 rfl
              have g1_ := G.tn.fz 1 rfl
              obtain ⟨wF, hwF⟩ : ∃ W, x2.setCell ⟨w.heap.size + 1, 1, none⟩ (.string ⟨#[97, 32, 98]⟩) = W := ⟨_, rfl⟩
              have GN := G.realm ⟨#[97, 32, 98]⟩
              rw [hwF] at GN
              clear G h0 h1
              have G := GN
              clear GN
              obtain ⟨VF, hVF⟩ : ∃ V, wF.setCells w.heap.size 0 [.slice na L.length nc, .string ⟨#[97, 32, 98]⟩] = V := ⟨_, rfl⟩
              have TF : Blk w.heap.size [.slice na L.length nc, .string ⟨#[97, 32, 98]⟩] VF := by rw [← hVF]; exact G.tr.sets _ rfl
              have oF : OwT w.heap.size VF ((na, nc, L), ⟨#[97, 32, 98]⟩) := by rw [← hVF]; exact ownsRow_le (own_far G.os (sets_grown w.heap.size _ 0 wF) (by omega)) (by omega)
              have CF : Cu p ad len cap zs w VF := by rw [← hVF]; exact cu_grown G.cu hpw (sets_grown w.heap.size _ 0 wF) (fun k e => by injection e with e; omega)
              have TR0 := G.tr
              have FIN : SnP p ad len cap zs w (.returned (.agg #[.slice na L.length nc, .string ⟨#[97, 32, 98]⟩])) VF := ⟨((na, nc, L), ⟨#[97, 32, 98]⟩), rfl, oF, ⟨by show L.length ≤ 6; omega, fun y hy => Nat.le_trans (HX0.out y hy) (by omega), (show (⟨#[97, 32, 98]⟩ : ByteArray).size ≤ 21 by decide)⟩, CF⟩
              have e0_ := G.tn.at 0 rfl
              have e1_ := G.tn.at 1 rfl
              clear G oF CF
              go_wp2_with (first | (show wpList Try.prog _ _ ({ dst := none, op := Op.store 26 (Operand.tmp 2) (Operand.tmp 54), type := _, pos := _, after := _, guard := _ } :: _) _ _; (try rw [hwF]); refine wpList_stB 26 _ _ w.heap.size 0 _ [.slice na L.length nc, .string ⟨#[97, 32, 98]⟩] ie hie TR0 his.symm (by simp) rfl rfl rfl rfl rfl ?_; rw [hVF]) | fail)
              exact bodyPost_ret (res_B1 rfl _ _ w.heap.size [.slice na L.length nc, .string ⟨#[97, 32, 98]⟩] ie hie (Try.isAgg26) TF his.symm rfl) rfl FIN
end Go.Proofs.Ytbpodcfbijhboaa.Nd
