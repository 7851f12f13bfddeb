/- The first event of a key. -/
import Derived.Test.YtjcmbbnklfemcaaGreatNd0
import Derived.Laws.AppendOwn
set_option linter.unusedVariables false
set_option maxRecDepth 100000
namespace Go.Proofs.YtjcmbbnklfemcaaGreat.Nd
open Go Go.RowKit Go.Joins Own Draw

abbrev kyE (p : TE) : Int := p.2.2.2.2.2.1
def findN (xs : List TE) (n : Int) : Int := match xs.findIdx? (fun p => decide (kyE p = n)) with | some i => (i : Int) | none => -1
theorem findN_at {xs : List TE} {n : Int} {k : Nat} (h : k < xs.length) (he : kyE xs[k] = n) (hno : ∀ j (hj : j < k), ¬ kyE xs[j] = n) : findN xs n = (k : Int) := by
  have e : xs.findIdx? (fun p => decide (kyE p = n)) = some k := List.findIdx?_eq_some_iff_getElem.2 ⟨h, by simpa using he, fun j hj => by simpa using hno j hj⟩
  unfold findN
  rw [e]
theorem findN_none {xs : List TE} {n : Int} (hno : ∀ j (hj : j < xs.length), ¬ kyE xs[j] = n) : findN xs n = -1 := by
  have e : xs.findIdx? (fun p => decide (kyE p = n)) = none := by
    rw [List.findIdx?_eq_none_iff]
    intro x hx
    obtain ⟨j, hj, rfl⟩ := List.mem_iff_getElem.1 hx
    simpa using hno j hj
  unfold findN
  rw [e]
set_option maxRecDepth 100000 in
set_option maxHeartbeats 1600000 in
theorem specFind_is (a : Option Addr) (cap : Nat) (xs : List TE) (n : Int) (w : World) (hr : FRow 11 cE w a xs) (hl : xs.length ≤ 1048576) :
    Calls Tryz.prog 96 #[.slice a xs.length cap, .int .i64 n] w fun e w' => e = .returned (.int .i64 (findN xs n)) ∧ Below w.heap.size w w' := by
  go_enter Tryz.func96, Tryz.ntmps96
  go_wp2
  go_loopw [5] (fun i wr => ∃ k : Nat, k ≤ xs.length ∧ i = .int .i64 k ∧ Hid (∀ j (h : j < xs.length), j < k → ¬ kyE xs[j] = n) ∧ Below w.heap.size w wr) (fun i _ => xs.length - (intOf i).toNat)
  case atStart => exact ⟨0, by omega, rfl, fun j h hj => absurd hj (by omega), Below.refl _ _⟩
  case round =>
    obtain ⟨k, hk, rfl, hno, hbel⟩ := hrel
    by_cases hlt : k < xs.length
    · obtain ⟨b1, o1, rfl, l1, hc⟩ := hr k hlt
      have h5 : wr.cell? ⟨b1, o1 + k * 11 + 5, none⟩ = some (.int .i64 (kyE xs[k])) := (hbel.cell (p := ⟨b1, o1 + k * 11 + 5, none⟩) l1).trans (hc 5 _ rfl)
      have hlt2 : (k : Int) < (xs.length : Int) := by omega
      by_cases he : kyE xs[k] = n
      · have HV : Hid (findN xs n = (k : Int)) := findN_at hlt he (fun j hj => hno.out j (by omega) hj)
        rw [he] at h5
        clear hr hc he hno
        go_wp2
        go_ret
        exact ⟨by rw [HV.out]; rfl, hbel⟩
      · have hno2 : Hid (∀ j (h : j < xs.length), j < k + 1 → ¬ kyE xs[j] = n) := fun j h hj => by
          by_cases e : j = k
          · subst e; exact he
          · exact hno.out j h (by omega)
        generalize kyE xs[k] = u at h5 he
        have hd : (u == n) = false := beq_eq_false_iff_ne.2 he
        clear hr hc hno he
        go_wp2
        go_roundw
        case rel => exact ⟨k + 1, by omega, by go_num, hno2, hbel⟩
        case measure => simp [intOf]; omega
    · obtain rfl : k = xs.length := by omega
      have HV : Hid (findN xs n = -1) := findN_none (fun j hj => hno.out j hj hj)
      go_wp2
      go_ret
      exact ⟨by rw [HV.out]; rfl, hbel⟩
end Go.Proofs.YtjcmbbnklfemcaaGreat.Nd

set_option linter.unusedVariables false
namespace Go.Proofs.YtjcmbbnklfemcaaGreat.Nd
open Go Go.RowKit Go.Joins Own

theorem run_append_none {P : Program} {w : World} {base : Nat} (t ty e : TypeId) (i : TypeInfo) {size n : Nat} {v : Value} {xs : List Value} (ht : P.underlying t = some (.slice e)) (hi : P.info? e = some i) (hown : w.ownsRow base e size v n xs) (c : Nat) :
    (Builtin.append_ #[t, t] ty #[v, .slice none 0 c]).run P w = .ok v w := by
  rcases hown.2 with ⟨rfl, rfl⟩ | ⟨g, cap, cur, rfl, hbg, hg, hnc, hcm, hcs, htake⟩
  · simp [Builtin.append_, run_underlying ht, sizeOf, typeInfo, hi, Builtin.lenOf, Builtin.firstCells]
  · simp [Builtin.append_, run_underlying ht, sizeOf, typeInfo, hi, Builtin.lenOf, Builtin.firstCells, loadCells, hnc, storeCells]

theorem wpList_append_row {P : Program} (w : World) {ops : Array Oper} {rest : List Oper} {o : Oper} {a : Act} {Q : Exit → Act → World → Prop} (hgd : o.guard = none) (s x : Operand) (t : TypeId)
    (ho : o.op = .call { callee := .builtin .append, args := #[s, x], argTypes := #[t, t] })
    (base : Nat) (e : TypeId) (i : TypeInfo) (z : Value) (size bytes : Nat) (ht : P.underlying t = some (.slice e)) (hi : P.info? e = some i) (hz : i.zero = some z)
    (hsize : i.size = size) (hby : i.bytes = bytes) (hzs : z.cells.size = size) (hsz : 0 < size)
    (v : Value) (n : Nat) (xs : List Value) (hs : a.eval s = v) (hown : w.ownsRow base e size v n xs)
    (oa : Option Addr) (m c : Nat) (news : List Value) (hx : a.eval x = .slice oa m c) (hl : news.length = m * size) (hnews : ∀ ad, oa = some ad → ∀ j u, news[j]? = some u → w.cell? (ad.add j) = some u) (h1 : ∀ u ∈ news, u.oneCell' = true)
    (h63 : n + m ≤ maxLen) (hbytes : (n + m) * bytes ≤ 140737488355328) (hbase : base ≤ w.heap.size) (hnil : oa = none → m = 0)
    (h : ∀ v' w', w'.ownsRow base e size v' (n + m) (xs ++ news) → w.grownBy w' v.ownBlock → wpList P ops Q rest (a.put o.dst v') w') : wpList P ops Q (o :: rest) a w := by
  cases oa with
  | some ad => exact wpList_append_own w hgd s x t ho base e i z size bytes ht hi hz hsize hby hzs hsz v n xs hs hown ad m c news hx hl (hnews ad rfl) h1 h63 hbytes hbase (fun v' w' h2 h3 _ => h v' w' h2 h3)
  | none =>
    obtain rfl := hnil rfl
    have hn : news = [] := List.eq_nil_of_length_eq_zero (by simpa using hl)
    subst hn
    have hr := run_append_none t o.type e i ht hi hown c
    refine wpList_plain hgd fun K hK => ?_
    unfold Oper.wp execOp
    simp only [ho, resolve, invoke, builtin, Sem.run_bind, Sem.run_pure, Result.andThen_ok, List.map_toArray, List.map_cons, List.map_nil, hs, hx, hr]
    exact hK _ _ (h v w (by simpa using hown) (World.grownBy.refl w _))

theorem row_nil {α : Type} {f : α → Value} {w : World} {a : Option Addr} {xs : List α} (h : RowAt f w a xs) (ha : a = none) : xs.length = 0 := by
  cases xs with
  | nil => rfl
  | cons x xs =>
    obtain ⟨b, off, e, _⟩ := h 0 (by simp)
    rw [ha] at e; cases e
theorem news_row {α : Type} {f : α → Value} {w : World} {a : Option Addr} {xs : List α} (h : RowAt f w a xs) : ∀ ad, a = some ad → ∀ j u, (xs.map f)[j]? = some u → w.cell? (ad.add j) = some u := by
  intro ad ha j u hu
  rw [List.getElem?_map] at hu
  by_cases hj : j < xs.length
  · obtain ⟨b, off, e, _, hc⟩ := h j hj
    rw [ha] at e
    cases e
    have e2 : (⟨b, off, none⟩ : Addr).add j = ⟨b, off + j, none⟩ := by simp only [Addr.add]; split <;> simp_all
    rw [e2, hc]
    rw [List.getElem?_eq_getElem hj] at hu
    simpa using hu
  · rw [List.getElem?_eq_none (by omega)] at hu; cases hu
end Go.Proofs.YtjcmbbnklfemcaaGreat.Nd

set_option linter.unusedVariables false
set_option maxRecDepth 100000
namespace Go.Proofs.YtjcmbbnklfemcaaGreat.Nd
open Go Go.RowKit Go.Joins Own Draw
theorem irow_of {w : World} {B c : Nat} {a : Option Addr} {ys : List Int} (h : w.ownsRow B 3 1 (.slice a ys.length c) ys.length (ys.map (Value.int .i64))) : RowAt (Value.int .i64) w a ys := by
  rcases h.2 with ⟨e, h0⟩ | ⟨g, cap, cur, e, _⟩
  · intro j hj; omega
  · injection e with e1 _ e3
    subst e1 e3
    exact RowAt.own h
abbrev kdE (p : TE) : Int := p.1
abbrev paE (p : TE) : Int := p.2.2.2.2.2.2.1
abbrev evE (p : TE) : Int := p.2.2.2.2.2.2.2.1
/-- The chain, backwards from a key, in so many steps at most. -/
def chG (xs : List TE) : Nat → List Int → Int → List Int
  | 0, _, _ => []
  | f + 1, out, key => if h : 0 ≤ findN xs key ∧ (findN xs key).toNat < xs.length then
      (if kdE xs[(findN xs key).toNat] = 1 then findN xs key :: out
       else if kdE xs[(findN xs key).toNat] = 2 ∨ kdE xs[(findN xs key).toNat] = 3 then chG xs f (findN xs key :: out) (paE xs[(findN xs key).toNat])
       else if kdE xs[(findN xs key).toNat] = 4 then chG xs f (findN xs key :: out) (evE xs[(findN xs key).toNat]) else []) else []
def chainN (xs : List TE) (key : Int) : List Int := chG xs (xs.length + 1) [] key
theorem chG_len (xs : List TE) : ∀ (f : Nat) (out : List Int) (key : Int), (chG xs f out key).length ≤ f + out.length
  | 0, out, key => by simp [chG]
  | f + 1, out, key => by
    unfold chG
    split
    · split
      · simp; omega
      · split
        · have := chG_len xs f (findN xs key :: out) (paE xs[(findN xs key).toNat]); simp at this; omega
        · split
          · have := chG_len xs f (findN xs key :: out) (evE xs[(findN xs key).toNat]); simp at this; omega
          · simp
    · simp
theorem findN_cases (xs : List TE) (n : Int) : findN xs n = -1 ∨ ∃ i : Nat, findN xs n = (i : Int) ∧ i < xs.length := by
  unfold findN
  cases h : xs.findIdx? (fun p => decide (kyE p = n)) with
  | none => left; rfl
  | some i => right; exact ⟨i, rfl, (List.findIdx?_eq_some_iff_getElem.1 h).1⟩
theorem chG_no {xs : List TE} {f : Nat} {out : List Int} {key : Int} (h : findN xs key = -1) : chG xs (f + 1) out key = [] := by
  unfold chG; rw [dif_neg (by omega)]
theorem chG_yes {xs : List TE} {f : Nat} {out : List Int} {key : Int} {i : Nat} (h : findN xs key = (i : Int)) (hi : i < xs.length) : chG xs (f + 1) out key =
    (if kdE xs[i] = 1 then (i : Int) :: out else if kdE xs[i] = 2 ∨ kdE xs[i] = 3 then chG xs f ((i : Int) :: out) (paE xs[i]) else if kdE xs[i] = 4 then chG xs f ((i : Int) :: out) (evE xs[i]) else []) := by
  conv => lhs; unfold chG
  rw [dif_pos ⟨by omega, by rw [h]; simpa using hi⟩]
  simp only [h, Int.toNat_natCast]
theorem infoInt3 : (Tryz.prog.info? 3).map (fun i => (i.zero, i.size, i.bytes)) = some (some (.int .i64 0), 1, 8) := by kernel_rfl
theorem one_ints (ys : List Int) : ∀ u ∈ ys.map (Value.int .i64), u.oneCell' = true := by
  intro u hu
  obtain ⟨x, _, rfl⟩ := List.mem_map.1 hu
  rfl
set_option maxRecDepth 100000 in
set_option maxHeartbeats 3200000 in
theorem specChain_is (a : Option Addr) (cap : Nat) (xs : List TE) (n : Int) (w : World) (hr : FRow 11 cE w a xs) (hl : xs.length ≤ 1048576) :
    Calls Tryz.prog 58 #[.slice a xs.length cap, .int .i64 n] w fun en w' => ∃ (ra : Option Addr) (rc : Nat), en = .returned (.slice ra (chainN xs n).length rc) ∧ w'.ownsRow w.heap.size 3 1 (.slice ra (chainN xs n).length rc) (chainN xs n).length ((chainN xs n).map (Value.int .i64)) ∧ Below w.heap.size w w' := by
  obtain ⟨i0, hi, hz0, hz1, hz2⟩ := info_parts infoInt3
  have hlit : (w.alloc (.cells #[] 3)).ownsRow w.heap.size 3 1 (.slice (some ⟨w.heap.size, 0, none⟩) 0 0) 0 (([] : List Int).map (Value.int .i64)) := World.ownsRow_lit _ _ _ (Nat.le_refl _) (by unfold maxLen; omega) rfl
  have hbl : Below w.heap.size w (w.alloc (.cells #[] 3)) := (Below.refl _ _).alloc (Nat.le_refl _) _
  go_enter Tryz.func58, Tryz.ntmps58
  go_wp2
  go_loopw [1, 5, 6] (fun kv ov i wr => ∃ (k f : Nat) (q : Int) (ys : List Int) (oa : Option Addr) (oc : Nat), k + f = xs.length + 1 ∧ ys.length = k ∧ i = .int .i64 k ∧ kv = .int .i64 q ∧ ov = .slice oa ys.length oc ∧ Hid (chainN xs n = chG xs f ys q) ∧ wr.ownsRow w.heap.size 3 1 (.slice oa ys.length oc) ys.length (ys.map (Value.int .i64)) ∧ Below w.heap.size w wr) (fun _ _ i _ => xs.length + 1 - (intOf i).toNat)
  case atStart => exact ⟨0, xs.length + 1, n, [], _, _, by omega, rfl, rfl, rfl, rfl, rfl, hlit, hbl⟩
  case round =>
    clear hlit hbl
    obtain ⟨k, f, q, ys, oa, oc, hkf, hyl, rfl, rfl, rfl, HC, hown, hbel⟩ := hrel
    have hle : k ≤ xs.length + 1 := by omega
    have hyl2 : ys.length ≤ xs.length + 1 := by omega
    replace hyl : Hid (ys.length = k) := hyl
    cases f with
    | zero =>
      have hgt : ¬ ((k : Int) ≤ (xs.length : Int)) := by omega
      have HV : Hid (chainN xs n = []) := HC.out
      clear hown hyl
      go_wp2
      go_ret
      exact ⟨some ⟨wr.heap.size, 0, none⟩, 0, by rw [HV.out]; rfl, by rw [HV.out]; exact World.ownsRow_lit _ _ _ hbel.size (by simp [maxLen]) rfl, hbel.alloc hbel.size _⟩
    | succ f =>
      have hgt : ((k : Int) ≤ (xs.length : Int)) := by omega
      go_wp2_with fail
      refine (specFind_is a cap xs q wr (hr.later hbel) hl).mono ?_
      rintro en w2 ⟨rfl, hb2⟩
      replace hown := own_later hown hb2
      replace hbel := hbel.trans (hb2.mono hbel.size)
      clear hb2
      rcases findN_cases xs q with hf | ⟨i, hf, hi2⟩
      · have HV : Hid (chainN xs n = []) := HC.out.trans (chG_no hf)
        rw [hf]
        clear hown hyl hf
        go_wp2
        go_ret
        exact ⟨some ⟨w2.heap.size, 0, none⟩, 0, by rw [HV.out]; rfl, by rw [HV.out]; exact World.ownsRow_lit _ _ _ hbel.size (by simp [maxLen]) rfl, hbel.alloc hbel.size _⟩
      · have HC2 := HC.out.trans (chG_yes hf hi2)
        rw [hf]
        have hlitA : (w2.alloc (.cells #[.int .i64 (i : Int)] 3)).ownsRow w.heap.size 3 1 (.slice (some ⟨w2.heap.size, 0, none⟩) 1 1) 1 [.int .i64 (i : Int)] := World.ownsRow_lit _ _ _ hbel.size (by unfold maxLen; omega) rfl
        have hblA : Below w2.heap.size w2 (w2.alloc (.cells #[.int .i64 (i : Int)] 3)) := (Below.refl _ _).alloc (Nat.le_refl _) _
        have hrow := (irow_of hown).later hblA
        have hnw := news_row hrow
        have hnn := row_nil hrow
        have nn : ¬ ((i : Int) < 0) := by omega
        clear hf
        go_wp2_with (first | (at_builtin; refine wpList_append_row _ rfl _ _ 22 rfl w.heap.size 3 i0 (.int .i64 0) 1 8 Tryz.underlying22 hi hz0 hz1 hz2 rfl (by decide) _ _ _ rfl hlitA oa ys.length oc (ys.map (Value.int .i64)) rfl ?c1 hnw (one_ints ys) ?c3 ?c4 ?c5 hnn ?_) | go_in)
        case c1 => simp
        case c3 => unfold maxLen; omega
        case c4 => omega
        case c5 => have := hbel.size; simp; omega
        intro vA wA ownA hgA
        have hbA : Below w.heap.size w wA := (hbel.alloc hbel.size (.cells #[.int .i64 (i : Int)] 3)).grown hgA (by have := hbel.size; simp; omega) (by intro k hk; simp [Value.ownBlock] at hk; have := hbel.size; omega)
        obtain ⟨na, nc, rfl, _⟩ := own_shape ownA
        have hnl : 1 + ys.length = ((i : Int) :: ys).length := by simp [Nat.add_comm]
        rw [hnl] at ownA
        replace ownA : wA.ownsRow w.heap.size 3 1 (.slice na ((i : Int) :: ys).length nc) ((i : Int) :: ys).length (((i : Int) :: ys).map (Value.int .i64)) := ownA
        rw [hnl]
        have hyl3 : Hid (((i : Int) :: ys).length = k + 1) := by show _ = _; simp; exact hyl.out
        generalize ((i : Int) :: ys) = zs at ownA hyl3 HC2
        clear hown hlitA hblA hrow hnw hnn hgA hnl hbel hyl
        obtain ⟨b1, o1, rfl, l1, hc⟩ := hr i hi2
        have h0 : wA.cell? ⟨b1, o1 + i * 11, none⟩ = some (.int .i64 (kdE xs[i])) := (hbA.cell (p := ⟨b1, o1 + i * 11, none⟩) l1).trans (hc 0 _ rfl)
        have h6 : wA.cell? ⟨b1, o1 + i * 11 + 6, none⟩ = some (.int .i64 (paE xs[i])) := (hbA.cell (p := ⟨b1, o1 + i * 11 + 6, none⟩) l1).trans (hc 6 _ rfl)
        have h7 : wA.cell? ⟨b1, o1 + i * 11 + 7, none⟩ = some (.int .i64 (evE xs[i])) := (hbA.cell (p := ⟨b1, o1 + i * 11 + 7, none⟩) l1).trans (hc 7 _ rfl)
        have hlt2 : (i : Int) < (xs.length : Int) := by omega
        have hm2 : Hid (∀ q2 : Int, chainN xs n = chG xs f zs q2 → ∃ (k' f' : Nat) (q' : Int) (ys' : List Int) (oa' : Option Addr) (oc' : Nat), k' + f' = xs.length + 1 ∧ ys'.length = k' ∧ Value.int .i64 ((k : Int) + 1) = .int .i64 k' ∧ Value.int .i64 q2 = .int .i64 q' ∧ Value.slice na zs.length nc = .slice oa' ys'.length oc' ∧ Hid (chainN xs n = chG xs f' ys' q') ∧ wA.ownsRow w.heap.size 3 1 (.slice oa' ys'.length oc') ys'.length (ys'.map (Value.int .i64)) ∧ Below w.heap.size w wA) :=
          fun q2 h => ⟨k + 1, f, q2, zs, na, nc, by omega, hyl3.out, by go_num, rfl, rfl, h, ownA, hbA⟩
        by_cases e1 : kdE xs[i] = 1
        · have HV : Hid (chainN xs n = zs) := by show _ = _; rw [HC2, if_pos e1]
          rw [e1] at h0
          clear HC2 e1 hc hr hyl3 hm2 h6 h7
          go_wp2
          go_ret
          exact ⟨na, nc, by rw [HV.out]; rfl, by rw [HV.out]; exact ownA, hbA⟩
        · rw [if_neg e1] at HC2
          by_cases e2 : kdE xs[i] = 2
          · have HV := hm2.out _ (HC2.trans (if_pos (Or.inl e2)))
            replace HV : Hid _ := HV
            rw [e2] at h0
            generalize paE xs[i] = pp at h6 HV
            clear HC2 e1 e2 hc hr hyl3 hm2 ownA h7
            go_wp2
            go_roundw
            case rel => exact HV.out
            case measure => simp [intOf]; omega
          · by_cases e3 : kdE xs[i] = 3
            · have HV := hm2.out _ (HC2.trans (if_pos (Or.inr e3)))
              replace HV : Hid _ := HV
              rw [e3] at h0
              generalize paE xs[i] = pp at h6 HV
              clear HC2 e1 e2 e3 hc hr hyl3 hm2 ownA h7
              go_wp2
              go_roundw
              case rel => exact HV.out
              case measure => simp [intOf]; omega
            · rw [if_neg (by rintro (h | h); exact e2 h; exact e3 h)] at HC2
              by_cases e4 : kdE xs[i] = 4
              · have HV := hm2.out _ (HC2.trans (if_pos e4))
                replace HV : Hid _ := HV
                rw [e4] at h0
                generalize evE xs[i] = pp at h7 HV
                clear HC2 e1 e2 e3 e4 hc hr hyl3 hm2 ownA h6
                go_wp2
                go_roundw
                case rel => exact HV.out
                case measure => simp [intOf]; omega
              · have HV : Hid (chainN xs n = []) := by show _ = _; rw [HC2, if_neg e4]
                have d1 : (kdE xs[i] == 1) = false := beq_eq_false_iff_ne.2 e1
                have d2 : (kdE xs[i] == 2) = false := beq_eq_false_iff_ne.2 e2
                have d3 : (kdE xs[i] == 3) = false := beq_eq_false_iff_ne.2 e3
                have d4 : (kdE xs[i] == 4) = false := beq_eq_false_iff_ne.2 e4
                generalize kdE xs[i] = kd at h0 d1 d2 d3 d4
                clear HC2 e1 e2 e3 e4 hc hr hyl3 hm2 ownA h6 h7
                go_wp2
                go_ret
                exact ⟨some ⟨wA.heap.size, 0, none⟩, 0, by rw [HV.out]; rfl, by rw [HV.out]; exact World.ownsRow_lit _ _ _ hbA.size (by simp [maxLen]) rfl, hbA.alloc hbA.size _⟩
end Go.Proofs.YtjcmbbnklfemcaaGreat.Nd
