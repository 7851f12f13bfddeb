/- Rules that are drawn. -/
import Derived.Test.YtjbbhegijlnndaaDs0
import Derived.Test.YtjbbhegijlnndaaJo1
set_option linter.unusedVariables false
set_option maxRecDepth 100000
namespace Go.Proofs.Ytjbbhegijlnndaa.Nd
open Go Go.RowKit Go.Joins Own Draw Go.Proofs.Ytjbbhegijlnndaa

theorem row_some {B : Nat} {w : World} {q : Rw TT} (h : RoT B w q) (hl : 0 < q.2.2.length) : ∃ g, q.1 = some ⟨g, 0, none⟩ ∧ B ≤ g ∧ g < w.heap.size := by
  rcases h.1.2 with ⟨e, h0⟩ | ⟨g, cap, cur, e, hB, hg, _⟩
  · omega
  · injection e with e1 _ _
    exact ⟨g, e1, hB, (Array.getElem?_eq_some_iff.1 hg).1⟩
theorem rule_cell {B g c k : Nat} {w : World} {xs : List TT} (h : RoT B w (some ⟨g, 0, none⟩, c, xs)) (hk : k < xs.length) :
    w.cell? ⟨g, k * 3, none⟩ = some (.int .i64 xs[k].1) ∧ w.cell? ⟨g, k * 3 + 1, none⟩ = some (.slice xs[k].2.1.1 xs[k].2.1.2.2.length xs[k].2.1.2.1) ∧ w.cell? ⟨g, k * 3 + 2, none⟩ = some (.int .i64 xs[k].2.2) ∧ ∀ o, w.frozen? ⟨g, o, none⟩ = false := by
  obtain ⟨bq, oq, eq, lq, cq⟩ := h.dp.1 k hk
  have eb : bq = g ∧ oq = 0 := by injection eq with h; injection h with h1 h2; exact ⟨h1.symm, h2.symm⟩
  obtain ⟨rfl, rfl⟩ := eb
  exact ⟨by have := cq 0 _ rfl; simpa using this, by have := cq 1 _ rfl; simpa using this, by have := cq 2 _ rfl; simpa using this, fun o => World.ownsRow.frozenAt h.1 o⟩
def lnV : Value → Nat | .slice _ n _ => n | _ => 0
theorem step_wh {P : Program} {ops : Array Oper} {o : Oper} {a : Act} {w : World} {K : Act → World → Prop} {Q : Exit → Act → World → Prop} {E : Prop} (hgd : o.guard = none) (s x : Operand) (t : TypeId)
    (ho : o.op = .call { callee := .builtin .append, args := #[s, x], argTypes := #[t, t] })
    (base : Nat) (e : TypeId) (i : TypeInfo) (z : Value) (size bytes : Nat) (ht : P.underlying t = some (.slice e)) (hi : P.info? e = some i) (hz : i.zero = some z)
    (hsize : i.size = size) (hby : i.bytes = bytes) (hzs : z.cells.size = size) (hsz : 0 < size)
    (v : Value) (n : Nat) (xs : List Value) (hs : a.eval s = v) (hown : w.ownsRow base e size v n xs)
    (ad : Addr) (m c : Nat) (news : List Value) (hx : a.eval x = .slice (some ad) m c) (hl : news.length = m * size) (hnews : ∀ j u, news[j]? = some u → w.cell? (ad.add j) = some u) (h1 : ∀ u ∈ news, u.oneCell' = true)
    (h63 : n + m ≤ maxLen) (hbytes : (n + m) * bytes ≤ 140737488355328) (hbase : base ≤ w.heap.size) (hm : 0 < m)
    (h : ∀ v' w', w'.ownsRow base e size v' (n + m) (xs ++ news) → w.grownBy w' v.ownBlock → (v'.ownBlock = v.ownBlock ∨ v'.ownBlock = some w.heap.size) → K (a.put o.dst v') w') : if Region.wanted o (yielded ops a.tmps) = true then Oper.wp P o a w K Q else E := by
  rw [if_pos (by simp [Region.wanted, hgd])]
  obtain ⟨v', w', hr, ho2, hg, hw⟩ := run_append_where w base t o.type e i z size bytes ht hi hz hsize hby hzs hsz v n xs hown ad m c news hl hnews h1 h63 hbytes hbase hm
  unfold Oper.wp execOp
  simp only [ho, resolve, invoke, builtin, Sem.run_bind, Sem.run_pure, Result.andThen_ok, List.map_toArray, List.map_cons, List.map_nil, hs, hx, hr]
  exact h v' w' ho2 hg hw
theorem cu_grown {p len cap : Nat} {a : Option Addr} {zs : List Int} {W w w' : World} {row : Option Nat} (h : Cu p a len cap zs W w) (hp : p < W.heap.size) (hg : w.grownBy w' row) (hr : ∀ k, row = some k → W.heap.size ≤ k) : Cu p a len cap zs W w' := by
  obtain ⟨⟨s, h⟩, k⟩ := h
  exact ⟨⟨s, h.grown hg (fun j hj => by have := hr j hj; omega)⟩, hg.os.trans k.os, hg.tape.trans k.tape, hg.output.trans k.output, Nat.le_trans k.size hg.size, fun j hj hn => (hg.block j (Nat.lt_of_lt_of_le hj k.size) (fun e => by have := hr j e.symm; omega)).trans (k.block j hj hn)⟩
set_option maxHeartbeats 12800000 in
theorem some_is {p len cap : Nat} {ad : Option Addr} {zs : List Int} (most : Int) (w : World) (h : Cu p ad len cap zs w w) (h0 : 0 < most) (h1 : most ≤ 12) :
    Calls Try.prog 42 #[.pointer (some ⟨p, 0, none⟩), .int .i64 most] w fun e w' => SomeP p ad len cap zs w e w' := by
  have hpw := h.lt
  have hbz := build0_run
  obtain ⟨ie, hie, his⟩ := info_T
  obtain ⟨i0, hi0, hz0, hz1, hz2⟩ := info_parts infoInt
  obtain ⟨V0, hV0⟩ : ∃ V, w.alloc (.cells #[] 59) = V := ⟨_, rfl⟩
  have ro : RoT w.heap.size V0 (some ⟨w.heap.size, 0, none⟩, 0, []) := by rw [← hV0]; exact RoT.lit (Nat.le_refl _)
  have CC : Cu p ad len cap zs w V0 := by rw [← hV0]; exact h.alloc _
  have HX := belowW most CC.here h0 (by omega)
  go_enter Try.func42, Try.ntmps42
  go_wp2_with fail
  try rw [hV0]
  refine HX.mono ?_
  clear HX hV0
  rintro en w1 ⟨x, rfl, xa, xb, C⟩
  replace ro := ro.only C.2 hpw
  replace CC := CC.next C
  clear C
  obtain ⟨m, rfl⟩ := Int.eq_ofNat_of_zero_le xa
  clear hbz
  go_wp2
  go_loopw [5, 6] (fun lv nv wr => ∃ (n : Nat) (q : Rw TT), (n : Int) + q.2.2.length ≤ most ∧ nv = .int .i64 (n : Int) ∧ lv = .slice q.1 q.2.2.length q.2.1 ∧ RoT w.heap.size wr q ∧ Hid (ApT q ∧ ∀ x ∈ q.2.2, x.2.1.2.2.length ≤ 5) ∧ Cu p ad len cap zs w wr) (fun _ nv _ => (intOf nv).toNat)
  case atStart => exact ⟨m, (some ⟨w.heap.size, 0, none⟩, 0, []), by show (m : Int) + (0 : Nat) ≤ most; omega, rfl, rfl, ro, ⟨ApT.nil _ _, fun x hx => by cases hx⟩, CC⟩
  case round =>
    clear ro CC xa xb
    obtain ⟨n, q, hn, rfl, rfl, ro, HA, CC⟩ := hrel
    by_cases hn0 : 0 < n
    · obtain ⟨nn, rfl⟩ : ∃ k, n = k + 1 := ⟨n - 1, by omega⟩
      have hgt : (((nn + 1 : Nat)) : Int) > 0 := by omega
      rw [Int.natCast_add] at hgt ⊢
      have HX := belowW 5 CC.here (by omega) (by omega)
      go_wp2_with fail
      refine HX.mono ?_
      clear HX
      rintro en w2 ⟨x, rfl, xa, xb, C⟩
      replace ro := ro.only C.2 hpw
      replace CC := CC.next C
      clear C
      have HQR : Hid (∀ k, obT q = some k → k < w2.heap.size) := fun k e => (World.ownsRow.lt ro.1 k e).2
      have HQB : Hid (∀ z ∈ q.2.2, ∀ k, kbT z = some k → k < w2.heap.size) := fun z hz k e => (World.ownsRow.lt (ro.2 z hz) k e).2
      obtain ⟨V1, hV1⟩ : ∃ V, w2.alloc (.cells #[.int .i64 0, .slice none 0 0, .int .i64 0] 59) = V := ⟨_, rfl⟩
      have hws : w.heap.size ≤ w2.heap.size := CC.size
      have XA : Below w2.heap.size w2 V1 := by rw [← hV1]; exact (Below.refl _ _).alloc (Nat.le_refl _) _
      have RB0 : Blk w2.heap.size [.int .i64 0, .slice none 0 0, .int .i64 0] V1 := by rw [← hV1]; exact Blk.new _ _ _
      replace ro := ro.later XA
      replace CC := CC.under XA
      clear XA
      obtain ⟨rb, hrb⟩ : ∃ rb, w2.heap.size = rb := ⟨_, rfl⟩
      rw [hrb] at RB0 hws HQB HQR
      obtain ⟨V2, hV2⟩ : ∃ V, World.setCells V1 rb 0 [.int .i64 (1 + x), .slice none 0 0, .int .i64 0] = V := ⟨_, rfl⟩
      have RB : Blk rb [.int .i64 (1 + x), .slice none 0 0, .int .i64 0] V2 := by rw [← hV2]; exact RB0.sets [.int .i64 (1 + x), .slice none 0 0, .int .i64 0] rfl
      replace ro : RoT w.heap.size V2 q := by
        rw [← hV2]
        refine ro.off (sets_grown rb _ 0 V1) ⟨fun e => ?_, fun z hz e => by have := HQB.out z hz _ e; omega⟩
        have := HQR.out _ e; omega
      replace CC : Cu p ad len cap zs w V2 := by rw [← hV2]; exact cu_grown CC hpw (sets_grown rb _ 0 V1) (fun k e => by injection e with e; omega)
      have HV1 : Hid (w2.alloc (.cells #[.int .i64 0, .slice none 0 0, .int .i64 0] 59) = V1) := hV1
      have HRB : Hid (w2.heap.size = rb) := hrb
      clear hV1 hrb
      have r0 := RB.at 0 rfl
      by_cases hk : 1 + x ≤ 3
      · go_wp2_with (first | (rw [HV1.out, HRB.out]; refine wpList_stB 59 _ _ rb 0 [.int .i64 0, .slice none 0 0, .int .i64 0] [.int .i64 (1 + x), .slice none 0 0, .int .i64 0] ie hie RB0 (by rw [his]; rfl) (by simp) rfl rfl rfl rfl rfl ?_; try simp only [Act.put]; rw [hV2]) | fail)
        clear r0 hV2 RB0 HV1 HRB
        go_loopw [8] (fun kv wr => ∃ (k : Nat) (va : Option Addr) (vc : Nat) (L : List Int), k ≤ 5 ∧ kv = .int .i64 (k : Int) ∧ L.length ≤ k ∧ Blk rb [.int .i64 (1 + x), .slice va L.length vc, .int .i64 0] wr ∧ wr.ownsRow (rb + 1) 3 1 (.slice va L.length vc) L.length (L.map (Value.int .i64)) ∧ RoT w.heap.size wr q ∧ Cu p ad len cap zs w wr) (fun kv _ => 5 - (intOf kv).toNat)
        case atStart => exact ⟨0, none, 0, [], by omega, rfl, Nat.zero_le _, RB, World.ownsRow_nil _ _ _ _, ro, CC⟩
        case round =>
          clear RB ro CC
          obtain ⟨k, va, vc, L, hk5, rfl, hLk, RB, rs, ro, CC⟩ := hrel
          have hrw := RB.lt
          by_cases hlt : k < 5
          · have hlt2 : (k : Int) < 5 := by omega
            have HX := onceW 3 CC.here (by omega)
            go_wp2_with fail
            refine HX.mono ?_
            clear HX
            rintro en w4 ⟨b, rfl, C⟩
            replace RB := RB.only C.2 RB.lt (by omega)
            replace rs := own_only rs C.2 (by omega)
            replace ro := ro.only C.2 hpw
            have hw4 := C.size
            replace CC := CC.next C
            clear C
            cases b with
            | true =>
              go_wp2
              go_roundw
              case rel => exact ⟨k + 1, va, vc, L, by omega, by go_num, by omega, RB, rs, ro, CC⟩
              case measure => simp [intOf]; omega
            | false =>
              obtain ⟨U, hU⟩ : ∃ Z, w4.alloc (.cells #[.int .i64 (k : Int)] 3) = Z := ⟨_, rfl⟩
              have XA : Below w4.heap.size w4 U := by rw [← hU]; exact (Below.refl _ _).alloc (Nat.le_refl _) _
              have nw : ∀ j u, [Value.int .i64 (k : Int)][j]? = some u → U.cell? ((⟨w4.heap.size, 0, none⟩ : Addr).add j) = some u := by rw [← hU]; exact news_one _ _ _
              have RBU := RB.later XA RB.lt
              have rsU := own_later rs XA
              have roU := ro.later XA
              have CCU := CC.under XA
              have hrU : rb + 1 ≤ U.heap.size := RBU.lt
              have z1 := RB.at 1 rfl
              go_wp2_with (first | (at_builtin; first | refine wpList_append_row _ rfl _ _ 32 rfl (rb + 1) 3 i0 (.int .i64 0) 1 8 Try.underlying32 hi0 hz0 hz1 hz2 rfl (by decide) _ _ _ rfl rsU (some ⟨w4.heap.size, 0, none⟩) 1 1 [.int .i64 (k : Int)] rfl rfl (fun ad e => by injection e with e; subst e; exact nw) (fun u hu => by simp at hu; subst hu; rfl) (by unfold maxLen; omega) (by omega) hrU (fun c => by cases c) ?_ | (rw [hU]; refine wpList_append_row _ rfl _ _ 32 rfl (rb + 1) 3 i0 (.int .i64 0) 1 8 Try.underlying32 hi0 hz0 hz1 hz2 rfl (by decide) _ _ _ rfl rsU (some ⟨w4.heap.size, 0, none⟩) 1 1 [.int .i64 (k : Int)] rfl rfl (fun ad e => by injection e with e; subst e; exact nw) (fun u hu => by simp at hu; subst hu; rfl) (by unfold maxLen; omega) (by omega) hrU (fun c => by cases c) ?_)) | fail)
              intro v3 w5 ho3 hg3
              obtain ⟨na, nc, rfl, _⟩ := own_shape ho3
              have hnb : ∀ g, g < rb + 1 → some g ≠ (Value.slice va L.length vc).ownBlock := fun g hg e => by have := (World.ownsRow.lt rsU g e.symm).1; omega
              have RB5 := blk_kept RBU hg3 (hnb _ (by omega)) RBU.lt
              have ro5 : RoT w.heap.size w5 q := ⟨World.ownsRow.kept roU.1 hg3 (by
                cases e : (Value.slice q.1 q.2.2.length q.2.1).ownBlock with
                | none => exact Or.inl rfl
                | some g => exact Or.inr (fun c => by have h1 := HQR.out g e; have h2 := (World.ownsRow.lt rsU g c.symm).1; omega)), fun z hz => World.ownsRow.kept (roU.2 z hz) hg3 (by
                cases e : (Value.slice z.2.1.1 z.2.1.2.2.length z.2.1.2.1).ownBlock with
                | none => exact Or.inl rfl
                | some g => exact Or.inr (fun c => by have h1 := HQB.out z hz g e; have h2 := (World.ownsRow.lt rsU g c.symm).1; omega))⟩
              have CC5 := cu_grown CCU hpw hg3 (fun k e => by have := (World.ownsRow.lt rsU k e).1; omega)
              have t1 := RB5.at 1 rfl
              have f1 := RB5.fz 1 rfl
              obtain ⟨w6, hw6⟩ : ∃ Z, w5.setCell ⟨rb, 1, none⟩ (.slice na (L.length + 1) nc) = Z := ⟨_, rfl⟩
              have RB6 : Blk rb [.int .i64 (1 + x), .slice na (L.length + 1) nc, .int .i64 0] w6 := by rw [← hw6]; exact RB5.set 1 _
              have rs6 : w6.ownsRow (rb + 1) 3 1 (.slice na (L.length + 1) nc) (L.length + 1) (L.map (Value.int .i64) ++ [.int .i64 (k : Int)]) := by
                rw [← hw6]
                exact World.ownsRow.kept ho3 (set_grown w5 rb 1 _) (by
                  cases e : (Value.slice na (L.length + 1) nc).ownBlock with
                  | none => exact Or.inl rfl
                  | some g => exact Or.inr (fun c => by have := (World.ownsRow.lt ho3 g e).1; injection c with c; omega))
              have ro6 : RoT w.heap.size w6 q := by rw [← hw6]; exact ro5.off (set_grown w5 rb 1 _) ⟨fun e => by have := HQR.out _ e; omega, fun z hz e => by have := HQB.out z hz _ e; omega⟩
              have CC6 : Cu p ad len cap zs w w6 := by rw [← hw6]; exact cu_grown CC5 hpw (set_grown w5 rb 1 _) (fun k e => by injection e with e; omega)
              have hl2 : (L ++ [(k : Int)]).length = L.length + 1 := by simp
              have HR : ∃ (k' : Nat) (va' : Option Addr) (vc' : Nat) (L' : List Int), k' ≤ 5 ∧ Value.int .i64 ((k : Int) + 1) = .int .i64 (k' : Int) ∧ L'.length ≤ k' ∧ Blk rb [.int .i64 (1 + x), .slice va' L'.length vc', .int .i64 0] w6 ∧ w6.ownsRow (rb + 1) 3 1 (.slice va' L'.length vc') L'.length (L'.map (Value.int .i64)) ∧ RoT w.heap.size w6 q ∧ Cu p ad len cap zs w w6 :=
                ⟨k + 1, na, nc, L ++ [(k : Int)], by omega, by go_num, by rw [hl2]; omega, by rw [hl2]; exact RB6, by rw [hl2, List.map_append]; exact rs6, ro6, CC6⟩
              clear RB6 rs6 ro6 CC6 CC5 ro5 RB5 ho3 hg3 hnb roU rsU RBU CCU CC RB rs ro nw XA hU z1 hl2
              go_wp2
              try rw [hw6]
              go_roundw
              case rel => exact HR
              case measure => simp [intOf]; omega
          · obtain rfl : k = 5 := by omega
            have hlt2 : ¬ (((5 : Nat) : Int) < 5) := by omega
            obtain ⟨WB, hWB⟩ : ∃ Z, Z = wr := ⟨_, rfl⟩
            subst hWB
            have HLE : L.length ≤ 5 := hLk
            have ox : OwT w.heap.size WB ((1 + x), (va, vc, L), 0) := ownsRow_le rs (by omega)
            have HNEW : Hid (∀ k, kbT ((1 + x), (va, vc, L), 0) = some k → ∀ z ∈ q.2.2, kbT z ≠ some k) := fun k hk z hz e => by
              have h1 := (World.ownsRow.lt rs k hk).1
              have h2 := HQB.out z hz k e
              omega
            obtain ⟨VA, hVA⟩ : ∃ Z, WB.alloc (.cells #[.int .i64 (1 + x), .slice va L.length vc, .int .i64 0] 59) = Z := ⟨_, rfl⟩
            have TA : Blk WB.heap.size [.int .i64 (1 + x), .slice va L.length vc, .int .i64 0] VA := by rw [← hVA]; exact Blk.new _ _ _
            have XA : Below WB.heap.size WB VA := by rw [← hVA]; exact (Below.refl _ _).alloc (Nat.le_refl _) _
            have roA := ro.later XA
            have oxA := ox.later XA
            have CCA := CC.under XA
            have hBA : w.heap.size ≤ VA.heap.size := CCA.size
            have u0 := RB.at 0 rfl
            have u1 := RB.at 1 rfl
            have u2 := RB.at 2 rfl
            obtain ⟨jt, hjt, hjz, hjs, hjb⟩ := parts_of info59
            go_wp2_with (first | (at_builtin; first | refine wpList_append_where _ rfl _ _ 24 rfl w.heap.size 59 jt _ 3 40 Try.underlying24 hjt hjz hjs hjb rfl (by decide) _ _ _ rfl roA.1 ⟨WB.heap.size, 0, none⟩ 1 1 [.int .i64 (1 + x), .slice va L.length vc, .int .i64 0] rfl rfl (news_box TA) (fun u hu => by simp at hu; rcases hu with rfl | rfl | rfl <;> rfl) ?c3 ?c4 hBA (by decide) ?_ | (rw [hVA]; refine wpList_append_where _ rfl _ _ 24 rfl w.heap.size 59 jt _ 3 40 Try.underlying24 hjt hjz hjs hjb rfl (by decide) _ _ _ rfl roA.1 ⟨WB.heap.size, 0, none⟩ 1 1 [.int .i64 (1 + x), .slice va L.length vc, .int .i64 0] rfl rfl (news_box TA) (fun u hu => by simp at hu; rcases hu with rfl | rfl | rfl <;> rfl) ?c3 ?c4 hBA (by decide) ?_)) | fail)
            case c3 => unfold maxLen; omega
            case c4 => omega
            intro vA wA ownA hgA hwA
            obtain ⟨na, nc, rfl, _⟩ := own_shape ownA
            obtain ⟨RA, _, _⟩ := put_mem (x := ((1 + x), (va, vc, L), 0)) roA oxA ownA hgA hwA
            have APF : ApT (na, nc, q.2.2 ++ [((1 + x), (va, vc, L), 0)]) := ap_put HA.out.1 HNEW.out
            have CF : Cu p ad len cap zs w wA := cu_grown CCA hpw hgA (fun k e => (World.ownsRow.lt roA.1 k e).1)
            have hqe : (q.2.2 ++ [((1 + x), (va, vc, L), 0)]).length = q.2.2.length + 1 := by simp
            have HR : ∃ (n' : Nat) (q' : Rw TT), (n' : Int) + q'.2.2.length ≤ most ∧ Value.int .i64 (nn : Int) = .int .i64 (n' : Int) ∧ Value.slice na (q.2.2.length + 1) nc = .slice q'.1 q'.2.2.length q'.2.1 ∧ RoT w.heap.size wA q' ∧ Hid (ApT q' ∧ ∀ x ∈ q'.2.2, x.2.1.2.2.length ≤ 5) ∧ Cu p ad len cap zs w wA :=
              ⟨nn, (na, nc, q.2.2 ++ [((1 + x), (va, vc, L), 0)]), by dsimp only; rw [hqe]; omega, rfl, by dsimp only; rw [hqe], RA, ⟨APF, fun x hx => (List.mem_append.1 hx).elim (HA.out.2 x) (fun hx => by rw [List.mem_singleton] at hx; subst hx; show L.length ≤ 5; exact HLE)⟩, CF⟩
            clear RA APF CF HNEW HA HQB ro ox roA oxA CC CCA hgA hwA ownA TA hVA hqe u0 u1 u2 RB rs
            go_wp2
            go_roundw
            case rel => exact HR
            case measure => simp [intOf] <;> omega
      · have HX := belowW 12 CC.here (by omega) (by omega)
        go_wp2_with (first | (rw [HV1.out, HRB.out]; refine wpList_stB 59 _ _ rb 0 [.int .i64 0, .slice none 0 0, .int .i64 0] [.int .i64 (1 + x), .slice none 0 0, .int .i64 0] ie hie RB0 (by rw [his]; rfl) (by simp) rfl rfl rfl rfl rfl ?_; try simp only [Act.put]; rw [hV2]) | fail)
        clear r0 hV2 RB0 HV1 HRB
        refine HX.mono ?_
        clear HX
        rintro en w4 ⟨y, rfl, ya, yb, C⟩
        replace RB := RB.only C.2 RB.lt (by have := CC.lt; omega)
        replace ro := ro.only C.2 hpw
        replace CC := CC.next C
        clear C
        have t2 := RB.at 2 rfl
        have f2 := RB.fz 2 rfl
        obtain ⟨WB, hWB⟩ : ∃ Z, w4.setCell ⟨rb, 2, none⟩ (.int .i64 y) = Z := ⟨_, rfl⟩
        replace RB : Blk rb [.int .i64 (1 + x), .slice none 0 0, .int .i64 y] WB := by rw [← hWB]; exact RB.set 2 _
        replace ro : RoT w.heap.size WB q := by rw [← hWB]; exact ro.off (set_grown w4 rb 2 _) ⟨fun e => by have := HQR.out _ e; omega, fun z hz e => by have := HQB.out z hz _ e; omega⟩
        replace CC : Cu p ad len cap zs w WB := by rw [← hWB]; exact cu_grown CC hpw (set_grown w4 rb 2 _) (fun k e => by injection e with e; omega)
        have HLE : ([] : List Int).length ≤ 5 := Nat.zero_le _
        have rs0 : WB.ownsRow (rb + 1) 3 1 (.slice none 0 0) 0 [] := World.ownsRow_nil _ _ _ _
        have ox : OwT w.heap.size WB ((1 + x), (none, 0, ([] : List Int)), y) := ownsRow_le rs0 (by omega)
        have HNEW : Hid (∀ k, kbT ((1 + x), (none, 0, ([] : List Int)), y) = some k → ∀ z ∈ q.2.2, kbT z ≠ some k) := fun k hk z hz e => by
          have h1 := (World.ownsRow.lt rs0 k hk).1
          have h2 := HQB.out z hz k e
          omega
        obtain ⟨VA, hVA⟩ : ∃ Z, WB.alloc (.cells #[.int .i64 (1 + x), .slice none 0 0, .int .i64 y] 59) = Z := ⟨_, rfl⟩
        have TA : Blk WB.heap.size [.int .i64 (1 + x), .slice none 0 0, .int .i64 y] VA := by rw [← hVA]; exact Blk.new _ _ _
        have XA : Below WB.heap.size WB VA := by rw [← hVA]; exact (Below.refl _ _).alloc (Nat.le_refl _) _
        have roA := ro.later XA
        have oxA := ox.later XA
        have CCA := CC.under XA
        have hBA : w.heap.size ≤ VA.heap.size := CCA.size
        have u0 := RB.at 0 rfl
        have u1 := RB.at 1 rfl
        have u2 := RB.at 2 rfl
        obtain ⟨jt, hjt, hjz, hjs, hjb⟩ := parts_of info59
        go_wp2_with (first | (at_builtin; first | refine wpList_append_where _ rfl _ _ 24 rfl w.heap.size 59 jt _ 3 40 Try.underlying24 hjt hjz hjs hjb rfl (by decide) _ _ _ rfl roA.1 ⟨WB.heap.size, 0, none⟩ 1 1 [.int .i64 (1 + x), .slice none 0 0, .int .i64 y] rfl rfl (news_box TA) (fun u hu => by simp at hu; rcases hu with rfl | rfl | rfl <;> rfl) ?c3 ?c4 hBA (by decide) ?_ | (rw [hVA]; refine wpList_append_where _ rfl _ _ 24 rfl w.heap.size 59 jt _ 3 40 Try.underlying24 hjt hjz hjs hjb rfl (by decide) _ _ _ rfl roA.1 ⟨WB.heap.size, 0, none⟩ 1 1 [.int .i64 (1 + x), .slice none 0 0, .int .i64 y] rfl rfl (news_box TA) (fun u hu => by simp at hu; rcases hu with rfl | rfl | rfl <;> rfl) ?c3 ?c4 hBA (by decide) ?_)) | fail)
        case c3 => unfold maxLen; omega
        case c4 => omega
        intro vA wA ownA hgA hwA
        obtain ⟨na, nc, rfl, _⟩ := own_shape ownA
        obtain ⟨RA, _, _⟩ := put_mem (x := ((1 + x), (none, 0, ([] : List Int)), y)) roA oxA ownA hgA hwA
        have APF : ApT (na, nc, q.2.2 ++ [((1 + x), (none, 0, ([] : List Int)), y)]) := ap_put HA.out.1 HNEW.out
        have CF : Cu p ad len cap zs w wA := cu_grown CCA hpw hgA (fun k e => (World.ownsRow.lt roA.1 k e).1)
        have hqe : (q.2.2 ++ [((1 + x), (none, 0, ([] : List Int)), y)]).length = q.2.2.length + 1 := by simp
        have HR : ∃ (n' : Nat) (q' : Rw TT), (n' : Int) + q'.2.2.length ≤ most ∧ Value.int .i64 (nn : Int) = .int .i64 (n' : Int) ∧ Value.slice na (q.2.2.length + 1) nc = .slice q'.1 q'.2.2.length q'.2.1 ∧ RoT w.heap.size wA q' ∧ Hid (ApT q' ∧ ∀ x ∈ q'.2.2, x.2.1.2.2.length ≤ 5) ∧ Cu p ad len cap zs w wA :=
          ⟨nn, (na, nc, q.2.2 ++ [((1 + x), (none, 0, ([] : List Int)), y)]), by dsimp only; rw [hqe]; omega, rfl, by dsimp only; rw [hqe], RA, ⟨APF, fun x hx => (List.mem_append.1 hx).elim (HA.out.2 x) (fun hx => by rw [List.mem_singleton] at hx; subst hx; show ([] : List Int).length ≤ 5; exact HLE)⟩, CF⟩
        clear RA APF CF HNEW HA HQB ro ox roA oxA CC CCA hgA hwA ownA TA hVA hqe u0 u1 u2 RB rs0
        go_wp2
        go_roundw
        case rel => exact HR
        case measure => simp [intOf] <;> omega
    · obtain rfl : n = 0 := by omega
      have hgt : ¬ (((0 : Nat) : Int) > 0) := by omega
      obtain ⟨wo, hwo⟩ : ∃ Z, Z = wr := ⟨_, rfl⟩
      subst hwo
      obtain ⟨qa, qc, ys⟩ := q
      dsimp only at hn ro ⊢
      have hy12 : ys.length ≤ 12 := by omega
      by_cases hl0 : 0 < ys.length
      · have hl1 : (ys.length : Int) > 0 := by omega
        obtain ⟨g, hga, hBg, _⟩ := row_some ro hl0
        dsimp only at hga
        subst hga
        have HX := onceW 10 CC.here (by omega)
        go_wp2_with fail
        refine HX.mono ?_
        clear HX
        rintro en w2 ⟨b, rfl, C⟩
        replace ro := ro.only C.2 hpw
        replace CC := CC.next C
        clear C
        cases b with
        | false =>
          have FIN : SomeP p ad len cap zs w (.returned (.slice (some ⟨g, 0, none⟩) ys.length qc)) w2 := ⟨(some ⟨g, 0, none⟩, qc, ys), rfl, ⟨ro, HA.out.1, by show ys.length ≤ 21; omega, fun x hx => Nat.le_trans (HA.out.2 x hx) (by omega)⟩, CC⟩
          clear ro CC HA
          go_wp2
          go_ret
          exact FIN
        | true =>
          have HX := belowW ys.length CC.here (by omega) (by omega)
          go_wp2_with fail
          refine HX.mono ?_
          clear HX
          rintro en w3 ⟨k0, rfl, k0a, k0b, C⟩
          obtain ⟨k, rfl⟩ := Int.eq_ofNat_of_zero_le k0a
          have hk : k < ys.length := by omega
          have hkl : (k : Int) < (ys.length : Int) := by omega
          replace ro := ro.only C.2 hpw
          replace CC := CC.next C
          clear C k0a k0b
          have HX := belowW 4 CC.here (by omega) (by omega)
          go_wp2_with fail
          refine HX.mono ?_
          clear HX
          rintro en w4 ⟨v, rfl, va, vb, C⟩
          replace ro := ro.only C.2 hpw
          replace CC := CC.next C
          clear C
          obtain rfl | rfl | rfl | rfl : v = 0 ∨ v = 1 ∨ v = 2 ∨ v = 3 := by omega
          · obtain ⟨V5, hV5⟩ : ∃ V, w4.alloc (.cells #[.int .i64 0, .int .i64 6, .int .i64 3, .int .i64 4] 3) = V := ⟨_, rfl⟩
            have T5 : Blk w4.heap.size [.int .i64 0, .int .i64 6, .int .i64 3, .int .i64 4] V5 := by rw [← hV5]; exact Blk.new _ _ _
            have XA : Below w4.heap.size w4 V5 := by rw [← hV5]; exact (Below.refl _ _).alloc (Nat.le_refl _) _
            have hpl : p < w4.heap.size := CC.lt
            have ro5 := ro.later XA
            have CC5 := CC.under XA
            have KP := pickI w4.heap.size 4 [0, 6, 3, 4] CC5.here (by omega) (by omega) hpl T5.lt rfl T5 (by decide)
            clear ro CC
            go_wp2_with fail
            try rw [hV5]
            refine KP.mono ?_
            clear KP hV5
            rintro en w6 ⟨y, rfl, hy, C⟩
            have ro := ro5.only C.2 hpw
            have CC := CC5.next C
            clear ro5 CC5 T5 XA C hy
            obtain ⟨q0, q1, q2, zf⟩ := rule_cell ro hk
            have pf := zf (k * 3)
            have RF := (ro.num hk y).1
            have AF := apT_set HA.out.1 hk (x := (y, ys[k].2)) (Or.inl rfl)
            have CF := cu_grown CC hpw (set_grown w6 g (k * 3 + 0) (.int .i64 y)) (fun j e => by injection e with e; omega)
            have FIN : SomeP p ad len cap zs w (.returned (.slice (some ⟨g, 0, none⟩) ys.length qc)) (w6.setCell ⟨g, k * 3, none⟩ (.int .i64 y)) := ⟨(some ⟨g, 0, none⟩, qc, ys.set k (y, ys[k].2)), by simp, ⟨RF, AF, by show (ys.set k _).length ≤ 21; rw [List.length_set]; omega, fun x hx => by
              rcases List.mem_or_eq_of_mem_set hx with h' | h'
              · exact Nat.le_trans (HA.out.2 x h') (by omega)
              · subst h'; exact Nat.le_trans (HA.out.2 ys[k] (List.getElem_mem hk)) (by omega)⟩, CF⟩
            clear RF AF CF zf ro CC
            go_wp2
            go_ret
            exact FIN
          · obtain ⟨V5, hV5⟩ : ∃ V, w4.alloc (.cells #[.int .i64 (-1), .int .i64 1, .int .i64 100001] 3) = V := ⟨_, rfl⟩
            have T5 : Blk w4.heap.size [.int .i64 (-1), .int .i64 1, .int .i64 100001] V5 := by rw [← hV5]; exact Blk.new _ _ _
            have XA : Below w4.heap.size w4 V5 := by rw [← hV5]; exact (Below.refl _ _).alloc (Nat.le_refl _) _
            have hpl : p < w4.heap.size := CC.lt
            have ro5 := ro.later XA
            have CC5 := CC.under XA
            have KP := pickI w4.heap.size 3 [-1, 1, 100001] CC5.here (by omega) (by omega) hpl T5.lt rfl T5 (by decide)
            clear ro CC
            go_wp2_with fail
            try rw [hV5]
            refine KP.mono ?_
            clear KP hV5
            rintro en w6 ⟨y, rfl, hy, C⟩
            have ro := ro5.only C.2 hpw
            have CC := CC5.next C
            clear ro5 CC5 T5 XA C hy
            obtain ⟨q0, q1, q2, zf⟩ := rule_cell ro hk
            have pf := zf (k * 3 + 2)
            have RF := (ro.num hk y).2
            have AF := apT_set HA.out.1 hk (x := (ys[k].1, ys[k].2.1, y)) (Or.inl rfl)
            have CF := cu_grown CC hpw (set_grown w6 g (k * 3 + 2) (.int .i64 y)) (fun j e => by injection e with e; omega)
            have FIN : SomeP p ad len cap zs w (.returned (.slice (some ⟨g, 0, none⟩) ys.length qc)) (w6.setCell ⟨g, k * 3 + 2, none⟩ (.int .i64 y)) := ⟨(some ⟨g, 0, none⟩, qc, ys.set k (ys[k].1, ys[k].2.1, y)), by simp, ⟨RF, AF, by show (ys.set k _).length ≤ 21; rw [List.length_set]; omega, fun x hx => by
              rcases List.mem_or_eq_of_mem_set hx with h' | h'
              · exact Nat.le_trans (HA.out.2 x h') (by omega)
              · subst h'; exact Nat.le_trans (HA.out.2 ys[k] (List.getElem_mem hk)) (by omega)⟩, CF⟩
            clear RF AF CF zf ro CC
            go_wp2
            go_ret
            exact FIN
          · replace ro : RoT w.heap.size w4.drew (some ⟨g, 0, none⟩, qc, ys) := ro.later ((Below.refl _ _).drew)
            replace CC : Cu p ad len cap zs w w4.drew := CC.drew
            have q1 := (rule_cell ro hk).2.1
            have hLk : ys[k].2.1.2.2.length ≤ 5 := HA.out.2 ys[k] (List.getElem_mem hk)
            go_wp2_with fail
            refine drew_E 14 ((fun Vw => Vw.cell? ⟨g, k * 3 + 1, none⟩ = some (.slice ys[k].2.1.1 ys[k].2.1.2.2.length ys[k].2.1.2.1))) (by kernel_rfl) q1 (fun hHeld => ?_)
            generalize w4.drew = D at *
            refine take_E 0 90 (v := ?_) rfl rfl (by kernel_rfl) (by kernel_rfl) (by kernel_rfl) (by kernel_rfl) (fun _ _ _ h => h) (Or.inl ⟨by rfl, ?_⟩) hHeld ?_
            rotate_left
            · intro w' hSw; (try dsimp only at hSw); skip; go_simp; try with_reducible rfl
            try simp only [Act.put, List.setIfInBounds_toArray, List.set_cons_zero, List.set_cons_succ]
            refine take_E 1 91 (v := ?_) rfl rfl (by kernel_rfl) (by kernel_rfl) (by kernel_rfl) (by kernel_rfl) (fun _ _ _ h => h) (Or.inl ⟨by rfl, ?_⟩) hHeld ?_
            rotate_left
            · intro w' hSw; (try dsimp only at hSw); skip; go_simp; try with_reducible rfl
            try simp only [Act.put, List.setIfInBounds_toArray, List.set_cons_zero, List.set_cons_succ]
            refine take_E 2 92 (v := ?_) rfl rfl (by kernel_rfl) (by kernel_rfl) (by kernel_rfl) (by kernel_rfl) (fun _ _ _ h => h) (Or.inl ⟨by rfl, ?_⟩) hHeld ?_
            rotate_left
            · intro w' hSw; (try dsimp only at hSw); skip; go_simp; try with_reducible rfl
            try simp only [Act.put, List.setIfInBounds_toArray, List.set_cons_zero, List.set_cons_succ]
            refine take_E 3 93 (v := ?_) rfl rfl (by kernel_rfl) (by kernel_rfl) (by kernel_rfl) (by kernel_rfl) (fun _ _ _ h => h) (Or.inl ⟨by rfl, ?_⟩) hHeld ?_
            rotate_left
            · intro w' hSw; (try dsimp only at hSw); skip; go_simp; try with_reducible rfl
            try simp only [Act.put, List.setIfInBounds_toArray, List.set_cons_zero, List.set_cons_succ]
            refine take_E 4 94 (v := ?_) rfl rfl (by kernel_rfl) (by kernel_rfl) (by kernel_rfl) (by kernel_rfl) (fun _ _ _ h => h) (Or.inl ⟨by rfl, ?_⟩) hHeld ?_
            rotate_left
            · intro w' hSw; (try dsimp only at hSw); skip; go_simp; try with_reducible rfl
            try simp only [Act.put, List.setIfInBounds_toArray, List.set_cons_zero, List.set_cons_succ]
            refine take_E 5 95 (v := ?_) rfl rfl (by kernel_rfl) (by kernel_rfl) (by kernel_rfl) (by kernel_rfl) (fun _ _ _ h => h) (Or.inl ⟨by rfl, ?_⟩) hHeld ?_
            rotate_left
            · intro w' hSw; (try dsimp only at hSw); skip; go_simp; try with_reducible rfl
            try simp only [Act.put, List.setIfInBounds_toArray, List.set_cons_zero, List.set_cons_succ]
            refine take_E 6 96 (v := ?_) rfl rfl (by kernel_rfl) (by kernel_rfl) (by kernel_rfl) (by kernel_rfl) (fun _ _ _ h => h) (Or.inl ⟨by rfl, ?_⟩) hHeld ?_
            rotate_left
            · intro w' hSw; (try dsimp only at hSw); skip; go_simp; try with_reducible rfl
            try simp only [Act.put, List.setIfInBounds_toArray, List.set_cons_zero, List.set_cons_succ]
            refine take_E 7 97 (v := ?_) rfl rfl (by kernel_rfl) (by kernel_rfl) (by kernel_rfl) (by kernel_rfl) (fun _ _ _ h => h) (Or.inl ⟨by rfl, ?_⟩) hHeld ?_
            rotate_left
            · intro w' hSw; (try dsimp only at hSw); skip; go_simp; try with_reducible rfl
            try simp only [Act.put, List.setIfInBounds_toArray, List.set_cons_zero, List.set_cons_succ]
            refine one_E 8 (by kernel_rfl) rfl (fun K hK => ?_)
            go_simp
            obtain ⟨V5, hV5⟩ : ∃ V, D.alloc (.cells #[.int .i64 2, .int .i64 30, .int .i64 31] 3) = V := ⟨_, rfl⟩
            have T5 : Blk D.heap.size [.int .i64 2, .int .i64 30, .int .i64 31] V5 := by rw [← hV5]; exact Blk.new _ _ _
            have XA : Below D.heap.size D V5 := by rw [← hV5]; exact (Below.refl _ _).alloc (Nat.le_refl _) _
            have hpD : p < D.heap.size := CC.lt
            rw [hV5]
            replace ro := ro.later XA
            replace CC := CC.under XA
            replace q1 := (rule_cell ro hk).2.1
            clear XA hV5
            refine hK.out _ _ q1 (fun hHeld2 => ?_)
            clear hK K hHeld
            have hHeld := hHeld2
            clear hHeld2
            try simp only [Act.put, List.setIfInBounds_toArray, List.set_cons_zero, List.set_cons_succ]
            refine one_E 9 (by kernel_rfl) rfl (fun K hK => ?_)
            go_simp
            refine ((pickI D.heap.size 3 [2, 30, 31] CC.here (by omega) (by omega) hpD T5.lt rfl T5 (by decide))).mono ?_
            rintro en w6 ⟨y, rfl, hy, C⟩
            replace ro := ro.only C.2 hpw
            replace CC := CC.next C
            replace q1 := (rule_cell ro hk).2.1
            clear T5 C hy
            go_wp2_with fail
            refine hK.out _ _ q1 (fun hHeld2 => ?_)
            clear hK K hHeld
            have hHeld := hHeld2
            clear hHeld2
            try simp only [Act.put, List.setIfInBounds_toArray, List.set_cons_zero, List.set_cons_succ]
            refine one_E 10 (by kernel_rfl) rfl (fun K hK => ?_)
            go_simp
            obtain ⟨U, hU⟩ : ∃ Wz, World.alloc w6 (.cells #[.int .i64 y] 3) = Wz := ⟨_, rfl⟩
            have XA : Below w6.heap.size w6 U := by rw [← hU]; exact (Below.refl _ _).alloc (Nat.le_refl _) _
            have nw : ∀ jj u, [Value.int .i64 y][jj]? = some u → U.cell? ((⟨w6.heap.size, 0, none⟩ : Addr).add jj) = some u := by rw [← hU]; exact news_one _ _ _
            rw [hU]
            replace ro := ro.later XA
            have hws : w.heap.size ≤ w6.heap.size := CC.size
            replace CC := CC.under XA
            replace q1 := (rule_cell ro hk).2.1
            have hUs : w.heap.size ≤ U.heap.size := CC.size
            clear XA hU
            refine hK.out _ _ q1 (fun hHeld2 => ?_)
            clear hK K hHeld
            have hHeld := hHeld2
            clear hHeld2
            try simp only [Act.put, List.setIfInBounds_toArray, List.set_cons_zero, List.set_cons_succ]
            refine one_E 11 (by kernel_rfl) rfl (fun K hK => ?_)
            have KO : U.ownsRow w.heap.size 3 1 (.slice ys[k].2.1.1 ys[k].2.1.2.2.length ys[k].2.1.2.1) ys[k].2.1.2.2.length (ys[k].2.1.2.2.map (Value.int .i64)) := ro.2 ys[k] (List.getElem_mem hk)
            refine step_wh rfl _ _ 32 rfl w.heap.size 3 i0 (.int .i64 0) 1 8 Try.underlying32 hi0 hz0 hz1 hz2 rfl (by decide) _ _ _ rfl KO ⟨w6.heap.size, 0, none⟩ 1 1 [.int .i64 y] rfl rfl nw (fun u hu => by simp at hu; subst hu; rfl) (by unfold maxLen; omega) (by omega) hUs (by decide) ?_
            intro vK wK ownK hgK hwK
            try simp only [Act.put, List.setIfInBounds_toArray]
            obtain ⟨na, nc, rfl, _⟩ := own_shape ownK
            have rk : RoI w.heap.size wK (na, nc, ys[k].2.1.2.2 ++ [y]) := kput (kr := ys[k].2.1) ownK
            have RF := ro.setk HA.out.1 hk (na, nc, ys[k].2.1.2.2 ++ [y]) hgK rk
            have hne : kbT ys[k] ≠ some g := by
              intro e
              rcases own_ne KO ro.1 with h | h
              · have h2 : kbT ys[k] = none := h
                rw [h2] at e; cases e
              · exact h e
            have hzl : ∀ z ∈ ys, ∀ j, kbT z = some j → j < U.heap.size := fun z hz j e => (World.ownsRow.lt (ro.2 z hz) j e).2
            have AF : ApT (some ⟨g, 0, none⟩, qc, ys.set k (ys[k].1, (na, nc, ys[k].2.1.2.2 ++ [y]), ys[k].2.2)) := apT_set HA.out.1 hk (by
              have hkb : kbT (ys[k].1, (na, nc, ys[k].2.1.2.2 ++ [y]), ys[k].2.2) = (Value.slice na (ys[k].2.1.2.2.length + 1) nc).ownBlock := by cases na <;> rfl
              rcases hwK with h | h
              · exact Or.inl (hkb.trans h)
              · exact Or.inr (fun j e z hz c => by
                  have h1 := hzl z hz j c
                  have h2 := (hkb.symm.trans e).symm.trans h
                  injection h2 with h2
                  omega))
            have hgl : g < U.heap.size := (World.ownsRow.lt ro.1 g rfl).2
            have CK := cu_grown CC hpw hgK (fun j e => (World.ownsRow.lt KO j e).1)
            have CF := cu_grown CK hpw (set_grown wK g (k * 3 + 1) (.slice na (ys[k].2.1.2.2.length + 1) nc)) (fun j e => by injection e with e; omega)
            have zf := (rule_cell ro hk).2.2.2 (k * 3 + 1)
            replace q1 : wK.cell? ⟨g, k * 3 + 1, none⟩ = some (.slice ys[k].2.1.1 ys[k].2.1.2.2.length ys[k].2.1.2.1) := (World.cell?_of_block (a := ⟨g, k * 3 + 1, none⟩) (hgK.block g hgl (fun e => hne e.symm))).trans q1
            have nf : wK.frozen? ⟨g, k * 3 + 1, none⟩ = false := (World.frozen?_of_block (a := ⟨g, k * 3 + 1, none⟩) (hgK.block g hgl (fun e => hne e.symm))).trans zf
            have hl6 : (ys[k].2.1.2.2 ++ [y]).length = ys[k].2.1.2.2.length + 1 := by simp
            dsimp only at RF
            rw [hl6] at RF
            have FIN : SomeP p ad len cap zs w (.returned (.slice (some ⟨g, 0, none⟩) ys.length qc)) (wK.setCell ⟨g, k * 3 + 1, none⟩ (.slice na (ys[k].2.1.2.2.length + 1) nc)) := ⟨(some ⟨g, 0, none⟩, qc, ys.set k (ys[k].1, (na, nc, ys[k].2.1.2.2 ++ [y]), ys[k].2.2)), by simp, ⟨RF, AF, by show (ys.set k _).length ≤ 21; rw [List.length_set]; omega, fun x hx => by
              rcases List.mem_or_eq_of_mem_set hx with h2 | h2
              · exact Nat.le_trans (HA.out.2 x h2) (by omega)
              · subst h2; show (ys[k].2.1.2.2 ++ [y]).length ≤ 6; rw [hl6]; have := HA.out.2 ys[k] (List.getElem_mem hk); omega⟩, CF⟩
            clear RF AF CF CK zf rk ownK hgK hwK KO hzl hne ro CC nw hl6
            refine hK.out _ _ q1 (fun hHeld2 => ?_)
            clear hK K hHeld
            have hHeld := hHeld2
            clear hHeld2
            try simp only [Act.put, List.setIfInBounds_toArray, List.set_cons_zero, List.set_cons_succ]
            refine one_E 12 (by kernel_rfl) rfl (fun K hK => ?_)
            go_simp
            refine hK.out _ _ q1 (fun hHeld2 => ?_)
            clear hK K hHeld
            have hHeld := hHeld2
            clear hHeld2
            try simp only [Act.put, List.setIfInBounds_toArray, List.set_cons_zero, List.set_cons_succ]
            refine one_E 13 (by kernel_rfl) rfl (fun K hK => ?_)
            go_simp
            refine hK.out _ _ q1 (fun hHeld2 => ?_)
            clear hK K hHeld
            have hHeld := hHeld2
            clear hHeld2
            try simp only [Act.put, List.setIfInBounds_toArray, List.set_cons_zero, List.set_cons_succ]
            refine last_E (by kernel_rfl) rfl (by kernel_rfl) (fun K hK => ?_)
            go_simp
            refine hK.out _ _ ?_
            clear hK K hHeld
            go_wp2
            go_ret
            exact FIN
          · have HX := belowW 2 CC.here (by omega) (by omega)
            go_wp2_with fail
            refine HX.mono ?_
            clear HX
            rintro en w5 ⟨y0, rfl, ya, yb, C⟩
            replace ro := ro.only C.2 hpw
            replace CC := CC.next C
            clear C
            obtain ⟨y, rfl⟩ := Int.eq_ofNat_of_zero_le ya
            go_wp2
            go_loopw [5] (fun lv wr => ∃ q : Rw TT, q.2.2.length ≤ 20 + y ∧ lv = .slice q.1 q.2.2.length q.2.1 ∧ RoT w.heap.size wr q ∧ Hid (ApT q ∧ ∀ x ∈ q.2.2, x.2.1.2.2.length ≤ 5) ∧ Cu p ad len cap zs w wr) (fun lv _ => 21 - lnV lv)
            case atStart => exact ⟨(some ⟨g, 0, none⟩, qc, ys), by dsimp only; omega, rfl, ro, HA, CC⟩
            case round =>
              clear ro CC HA hn hk hkl hl0 hl1 hy12
              obtain ⟨q, hq, rfl, ro, HA, CC⟩ := hrel
              by_cases hlt : q.2.2.length < 20 + y
              · have hlt2 : (q.2.2.length : Int) < 20 + (y : Int) := by omega
                have HQB : Hid (∀ z ∈ q.2.2, ∀ k, kbT z = some k → k < wr.heap.size) := fun z hz k e => (World.ownsRow.lt (ro.2 z hz) k e).2
                have OX : OwT w.heap.size wr ((4, (none, 0, []), 0) : TT) := World.ownsRow_nil _ _ _ _
                obtain ⟨VA, hVA⟩ : ∃ Z, wr.alloc (.cells #[.int .i64 4, .slice none 0 0, .int .i64 0] 59) = Z := ⟨_, rfl⟩
                have TA : Blk wr.heap.size [.int .i64 4, .slice none 0 0, .int .i64 0] VA := by rw [← hVA]; exact Blk.new _ _ _
                have XA : Below wr.heap.size wr VA := by rw [← hVA]; exact (Below.refl _ _).alloc (Nat.le_refl _) _
                have roA := ro.later XA
                have oxA := OX.later XA
                have CCA := CC.under XA
                have hBA : w.heap.size ≤ VA.heap.size := CCA.size
                obtain ⟨jt, hjt, hjz, hjs, hjb⟩ := parts_of info59
                go_wp2_with (first | (at_builtin; first | refine wpList_append_where _ rfl _ _ 24 rfl w.heap.size 59 jt _ 3 40 Try.underlying24 hjt hjz hjs hjb rfl (by decide) _ _ _ rfl roA.1 ⟨wr.heap.size, 0, none⟩ 1 1 [.int .i64 4, .slice none 0 0, .int .i64 0] rfl rfl (news_box TA) (fun u hu => by simp at hu; rcases hu with rfl | rfl | rfl <;> rfl) ?c3 ?c4 hBA (by decide) ?_ | (rw [hVA]; refine wpList_append_where _ rfl _ _ 24 rfl w.heap.size 59 jt _ 3 40 Try.underlying24 hjt hjz hjs hjb rfl (by decide) _ _ _ rfl roA.1 ⟨wr.heap.size, 0, none⟩ 1 1 [.int .i64 4, .slice none 0 0, .int .i64 0] rfl rfl (news_box TA) (fun u hu => by simp at hu; rcases hu with rfl | rfl | rfl <;> rfl) ?c3 ?c4 hBA (by decide) ?_)) | fail)
                case c3 => unfold maxLen; omega
                case c4 => omega
                intro vA wA ownA hgA hwA
                obtain ⟨na, nc, rfl, _⟩ := own_shape ownA
                obtain ⟨RA, _, _⟩ := put_mem (x := ((4, (none, 0, []), 0) : TT)) roA oxA ownA hgA hwA
                have APF : ApT (na, nc, q.2.2 ++ [((4, (none, 0, []), 0) : TT)]) := ap_put HA.out.1 (fun k e => by cases e)
                have CF : Cu p ad len cap zs w wA := cu_grown CCA hpw hgA (fun k e => (World.ownsRow.lt roA.1 k e).1)
                have hqe : (q.2.2 ++ [((4, (none, 0, []), 0) : TT)]).length = q.2.2.length + 1 := by simp
                have HR : ∃ q' : Rw TT, q'.2.2.length ≤ 20 + y ∧ Value.slice na (q.2.2.length + 1) nc = .slice q'.1 q'.2.2.length q'.2.1 ∧ RoT w.heap.size wA q' ∧ Hid (ApT q' ∧ ∀ x ∈ q'.2.2, x.2.1.2.2.length ≤ 5) ∧ Cu p ad len cap zs w wA :=
                  ⟨(na, nc, q.2.2 ++ [((4, (none, 0, []), 0) : TT)]), by dsimp only; rw [hqe]; omega, by dsimp only; rw [hqe], RA, ⟨APF, fun x hx => (List.mem_append.1 hx).elim (HA.out.2 x) (fun hx => by rw [List.mem_singleton] at hx; subst hx; show ([] : List Int).length ≤ 5; exact Nat.zero_le _)⟩, CF⟩
                clear RA APF CF HA HQB ro roA oxA OX CC CCA hgA hwA ownA TA hVA hqe XA
                go_wp2
                go_roundw
                case rel => exact HR
                case measure => simp [lnV]; omega
              · have hlt2 : ¬ (q.2.2.length : Int) < 20 + (y : Int) := by omega
                have FIN : SomeP p ad len cap zs w (.returned (.slice q.1 q.2.2.length q.2.1)) wr := ⟨q, rfl, ⟨ro, HA.out.1, by omega, fun x hx => Nat.le_trans (HA.out.2 x hx) (by omega)⟩, CC⟩
                clear ro CC HA
                go_wp2
                go_ret
                exact FIN
      · have hl1 : ¬ (ys.length : Int) > 0 := by omega
        have FIN : SomeP p ad len cap zs w (.returned (.slice qa ys.length qc)) wo := ⟨(qa, qc, ys), rfl, ⟨ro, HA.out.1, by show ys.length ≤ 21; omega, fun x hx => Nat.le_trans (HA.out.2 x hx) (by omega)⟩, CC⟩
        clear ro CC HA
        go_wp2
        go_ret
        exact FIN
end Go.Proofs.Ytjbbhegijlnndaa.Nd
