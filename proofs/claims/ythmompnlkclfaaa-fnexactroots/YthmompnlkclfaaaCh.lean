/- The chain of a key. -/
import Derived.Test.YthmompnlkclfaaaFn
import Derived.Test.YthmompnlkclfaaaAppRow
set_option linter.unusedVariables false
set_option maxRecDepth 100000
namespace Go.Proofs.Ythmompnlkclfaaa
open Go Go.RowKit Go.Joins Own Draw

theorem own_kept {w w' : World} {B e s n : Nat} {v : Value} {xs : List Value} {r : Option Nat} (h : w.ownsRow B e s v n xs) (hg : w.grownBy w' r) (hd : ∀ k, v.ownBlock = some k → r ≠ some k) : w'.ownsRow B e s v n xs := by
  refine World.ownsRow.kept h hg ?_
  cases hv : v.ownBlock with
  | none => exact Or.inl rfl
  | some k => right; intro e; exact hd k hv e.symm
theorem irow_of {w : World} {B c : Nat} {a : Option Addr} {ys : List Int} (h : w.ownsRow B 3 1 (.slice a ys.length c) ys.length (ys.map (Value.int .i64))) : RowAt (Value.int .i64) w a ys := by
  rcases h.2 with ⟨e, h0⟩ | ⟨g, cap, cur, e, _⟩
  · intro j hj; omega
  · injection e with e1 _ e3
    subst e1 e3
    exact RowAt.own h
theorem ob_some (g n c : Nat) : (Value.slice (some ⟨g, 0, none⟩) n c).ownBlock = some g := rfl
abbrev kdE (p : TE) : Int := p.1
abbrev paE (p : TE) : Int := p.2.2.2.2.2.2.1
abbrev evE (p : TE) : Int := p.2.2.2.2.2.2.2.1
/-- The chain, backwards from a key, in so many steps at most. -/
def chG (xs : List TE) : Nat → List Int → Int → List Int
  | 0, _, _ => []
  | f + 1, out, key => if h : 0 ≤ findN xs key ∧ (findN xs key).toNat < xs.length then
      (if kdE xs[(findN xs key).toNat] = 1 then findN xs key :: out
       else if kdE xs[(findN xs key).toNat] = 2 ∨ kdE xs[(findN xs key).toNat] = 3 then chG xs f (findN xs key :: out) (paE xs[(findN xs key).toNat])
       else if kdE xs[(findN xs key).toNat] = 4 then chG xs f (findN xs key :: out) (evE xs[(findN xs key).toNat]) else []) else []
def chainN (xs : List TE) (key : Int) : List Int := chG xs (xs.length + 1) [] key
theorem chG_len (xs : List TE) : ∀ (f : Nat) (out : List Int) (key : Int), (chG xs f out key).length ≤ f + out.length
  | 0, out, key => by simp [chG]
  | f + 1, out, key => by
    unfold chG
    split
    · split
      · simp; omega
      · split
        · have := chG_len xs f (findN xs key :: out) (paE xs[(findN xs key).toNat]); simp at this; omega
        · split
          · have := chG_len xs f (findN xs key :: out) (evE xs[(findN xs key).toNat]); simp at this; omega
          · simp
    · simp
theorem findN_cases (xs : List TE) (n : Int) : findN xs n = -1 ∨ ∃ i : Nat, findN xs n = (i : Int) ∧ i < xs.length := by
  unfold findN
  cases h : xs.findIdx? (fun p => decide (kyE p = n)) with
  | none => left; rfl
  | some i => right; exact ⟨i, rfl, (List.findIdx?_eq_some_iff_getElem.1 h).1⟩
theorem chG_no {xs : List TE} {f : Nat} {out : List Int} {key : Int} (h : findN xs key = -1) : chG xs (f + 1) out key = [] := by
  unfold chG; rw [dif_neg (by omega)]
theorem chG_yes {xs : List TE} {f : Nat} {out : List Int} {key : Int} {i : Nat} (h : findN xs key = (i : Int)) (hi : i < xs.length) : chG xs (f + 1) out key =
    (if kdE xs[i] = 1 then (i : Int) :: out else if kdE xs[i] = 2 ∨ kdE xs[i] = 3 then chG xs f ((i : Int) :: out) (paE xs[i]) else if kdE xs[i] = 4 then chG xs f ((i : Int) :: out) (evE xs[i]) else []) := by
  conv => lhs; unfold chG
  rw [dif_pos ⟨by omega, by rw [h]; simpa using hi⟩]
  simp only [h, Int.toNat_natCast]
theorem infoInt3 : (Try.prog.info? 3).map (fun i => (i.zero, i.size, i.bytes)) = some (some (.int .i64 0), 1, 8) := by kernel_rfl
theorem one_ints (ys : List Int) : ∀ u ∈ ys.map (Value.int .i64), u.oneCell' = true := by
  intro u hu
  obtain ⟨x, _, rfl⟩ := List.mem_map.1 hu
  rfl
set_option maxRecDepth 100000 in
set_option maxHeartbeats 3200000 in
theorem specChain_is (a : Option Addr) (cap : Nat) (xs : List TE) (n : Int) (w : World) (hr : FRow 11 cE w a xs) (hl : xs.length ≤ 1048576) :
    Calls Try.prog 11 #[.slice a xs.length cap, .int .i64 n] w fun en w' => ∃ (ra : Option Addr) (rc : Nat), en = .returned (.slice ra (chainN xs n).length rc) ∧ w'.ownsRow w.heap.size 3 1 (.slice ra (chainN xs n).length rc) (chainN xs n).length ((chainN xs n).map (Value.int .i64)) ∧ Below w.heap.size w w' := by
  obtain ⟨i0, hi, hz0, hz1, hz2⟩ := info_parts infoInt3
  have hlit : (w.alloc (.cells #[] 3)).ownsRow w.heap.size 3 1 (.slice (some ⟨w.heap.size, 0, none⟩) 0 0) 0 (([] : List Int).map (Value.int .i64)) := World.ownsRow_lit _ _ _ (Nat.le_refl _) (by unfold maxLen; omega) rfl
  have hbl : Below w.heap.size w (w.alloc (.cells #[] 3)) := (Below.refl _ _).alloc (Nat.le_refl _) _
  go_enter Try.func11, Try.ntmps11
  go_wp2
  go_loopw [1, 5, 6] (fun kv ov i wr => ∃ (k f : Nat) (q : Int) (ys : List Int) (oa : Option Addr) (oc : Nat), k + f = xs.length + 1 ∧ ys.length = k ∧ i = .int .i64 k ∧ kv = .int .i64 q ∧ ov = .slice oa ys.length oc ∧ Hid (chainN xs n = chG xs f ys q) ∧ wr.ownsRow w.heap.size 3 1 (.slice oa ys.length oc) ys.length (ys.map (Value.int .i64)) ∧ Below w.heap.size w wr) (fun _ _ i _ => xs.length + 1 - (intOf i).toNat)
  case atStart => exact ⟨0, xs.length + 1, n, [], _, _, by omega, rfl, rfl, rfl, rfl, rfl, hlit, hbl⟩
  case round =>
    clear hlit hbl
    obtain ⟨k, f, q, ys, oa, oc, hkf, hyl, rfl, rfl, rfl, HC, hown, hbel⟩ := hrel
    have hle : k ≤ xs.length + 1 := by omega
    have hyl2 : ys.length ≤ xs.length + 1 := by omega
    replace hyl : Hid (ys.length = k) := hyl
    cases f with
    | zero =>
      have hgt : ¬ ((k : Int) ≤ (xs.length : Int)) := by omega
      have HV : Hid (chainN xs n = []) := HC.out
      clear hown hyl
      go_wp2
      go_ret
      exact ⟨some ⟨wr.heap.size, 0, none⟩, 0, by rw [HV.out]; rfl, by rw [HV.out]; exact World.ownsRow_lit _ _ _ hbel.size (by simp [maxLen]) rfl, hbel.alloc hbel.size _⟩
    | succ f =>
      have hgt : ((k : Int) ≤ (xs.length : Int)) := by omega
      go_wp2_with fail
      refine (specFind_is a cap xs q wr (hr.later hbel) hl).mono ?_
      rintro en w2 ⟨rfl, hb2⟩
      replace hown := own_later hown hb2
      replace hbel := hbel.trans (hb2.mono hbel.size)
      clear hb2
      rcases findN_cases xs q with hf | ⟨i, hf, hi2⟩
      · have HV : Hid (chainN xs n = []) := HC.out.trans (chG_no hf)
        rw [hf]
        clear hown hyl hf
        go_wp2
        go_ret
        exact ⟨some ⟨w2.heap.size, 0, none⟩, 0, by rw [HV.out]; rfl, by rw [HV.out]; exact World.ownsRow_lit _ _ _ hbel.size (by simp [maxLen]) rfl, hbel.alloc hbel.size _⟩
      · have HC2 := HC.out.trans (chG_yes hf hi2)
        rw [hf]
        have hlitA : (w2.alloc (.cells #[.int .i64 (i : Int)] 3)).ownsRow w.heap.size 3 1 (.slice (some ⟨w2.heap.size, 0, none⟩) 1 1) 1 [.int .i64 (i : Int)] := World.ownsRow_lit _ _ _ hbel.size (by unfold maxLen; omega) rfl
        have hblA : Below w2.heap.size w2 (w2.alloc (.cells #[.int .i64 (i : Int)] 3)) := (Below.refl _ _).alloc (Nat.le_refl _) _
        have hrow := (irow_of hown).later hblA
        have hnw := news_row hrow
        have hnn := row_nil hrow
        have nn : ¬ ((i : Int) < 0) := by omega
        clear hf
        go_wp2_with (first | (at_builtin; refine wpList_append_row _ rfl _ _ 29 rfl w.heap.size 3 i0 (.int .i64 0) 1 8 Try.underlying29 hi hz0 hz1 hz2 rfl (by decide) _ _ _ rfl hlitA oa ys.length oc (ys.map (Value.int .i64)) rfl ?c1 hnw (one_ints ys) ?c3 ?c4 ?c5 hnn ?_) | go_in)
        case c1 => simp
        case c3 => unfold maxLen; omega
        case c4 => omega
        case c5 => have := hbel.size; simp; omega
        intro vA wA ownA hgA
        have hbA : Below w.heap.size w wA := (hbel.alloc hbel.size (.cells #[.int .i64 (i : Int)] 3)).grown hgA (by have := hbel.size; simp; omega) (by intro k hk; simp [Value.ownBlock] at hk; have := hbel.size; omega)
        obtain ⟨na, nc, rfl, _⟩ := own_shape ownA
        have hnl : 1 + ys.length = ((i : Int) :: ys).length := by simp [Nat.add_comm]
        rw [hnl] at ownA
        replace ownA : wA.ownsRow w.heap.size 3 1 (.slice na ((i : Int) :: ys).length nc) ((i : Int) :: ys).length (((i : Int) :: ys).map (Value.int .i64)) := ownA
        rw [hnl]
        have hyl3 : Hid (((i : Int) :: ys).length = k + 1) := by show _ = _; simp; exact hyl.out
        generalize ((i : Int) :: ys) = zs at ownA hyl3 HC2
        clear hown hlitA hblA hrow hnw hnn hgA hnl hbel hyl
        obtain ⟨b1, o1, rfl, l1, hc⟩ := hr i hi2
        have h0 : wA.cell? ⟨b1, o1 + i * 11, none⟩ = some (.int .i64 (kdE xs[i])) := (hbA.cell (p := ⟨b1, o1 + i * 11, none⟩) l1).trans (hc 0 _ rfl)
        have h6 : wA.cell? ⟨b1, o1 + i * 11 + 6, none⟩ = some (.int .i64 (paE xs[i])) := (hbA.cell (p := ⟨b1, o1 + i * 11 + 6, none⟩) l1).trans (hc 6 _ rfl)
        have h7 : wA.cell? ⟨b1, o1 + i * 11 + 7, none⟩ = some (.int .i64 (evE xs[i])) := (hbA.cell (p := ⟨b1, o1 + i * 11 + 7, none⟩) l1).trans (hc 7 _ rfl)
        have hlt2 : (i : Int) < (xs.length : Int) := by omega
        have hm2 : Hid (∀ q2 : Int, chainN xs n = chG xs f zs q2 → ∃ (k' f' : Nat) (q' : Int) (ys' : List Int) (oa' : Option Addr) (oc' : Nat), k' + f' = xs.length + 1 ∧ ys'.length = k' ∧ Value.int .i64 ((k : Int) + 1) = .int .i64 k' ∧ Value.int .i64 q2 = .int .i64 q' ∧ Value.slice na zs.length nc = .slice oa' ys'.length oc' ∧ Hid (chainN xs n = chG xs f' ys' q') ∧ wA.ownsRow w.heap.size 3 1 (.slice oa' ys'.length oc') ys'.length (ys'.map (Value.int .i64)) ∧ Below w.heap.size w wA) :=
          fun q2 h => ⟨k + 1, f, q2, zs, na, nc, by omega, hyl3.out, by go_num, rfl, rfl, h, ownA, hbA⟩
        by_cases e1 : kdE xs[i] = 1
        · have HV : Hid (chainN xs n = zs) := by show _ = _; rw [HC2, if_pos e1]
          rw [e1] at h0
          clear HC2 e1 hc hr hyl3 hm2 h6 h7
          go_wp2
          go_ret
          exact ⟨na, nc, by rw [HV.out]; rfl, by rw [HV.out]; exact ownA, hbA⟩
        · rw [if_neg e1] at HC2
          by_cases e2 : kdE xs[i] = 2
          · have HV := hm2.out _ (HC2.trans (if_pos (Or.inl e2)))
            replace HV : Hid _ := HV
            rw [e2] at h0
            generalize paE xs[i] = pp at h6 HV
            clear HC2 e1 e2 hc hr hyl3 hm2 ownA h7
            go_wp2
            go_roundw
            case rel => exact HV.out
            case measure => simp [intOf]; omega
          · by_cases e3 : kdE xs[i] = 3
            · have HV := hm2.out _ (HC2.trans (if_pos (Or.inr e3)))
              replace HV : Hid _ := HV
              rw [e3] at h0
              generalize paE xs[i] = pp at h6 HV
              clear HC2 e1 e2 e3 hc hr hyl3 hm2 ownA h7
              go_wp2
              go_roundw
              case rel => exact HV.out
              case measure => simp [intOf]; omega
            · rw [if_neg (by rintro (h | h); exact e2 h; exact e3 h)] at HC2
              by_cases e4 : kdE xs[i] = 4
              · have HV := hm2.out _ (HC2.trans (if_pos e4))
                replace HV : Hid _ := HV
                rw [e4] at h0
                generalize evE xs[i] = pp at h7 HV
                clear HC2 e1 e2 e3 e4 hc hr hyl3 hm2 ownA h6
                go_wp2
                go_roundw
                case rel => exact HV.out
                case measure => simp [intOf]; omega
              · have HV : Hid (chainN xs n = []) := by show _ = _; rw [HC2, if_neg e4]
                have d1 : (kdE xs[i] == 1) = false := beq_eq_false_iff_ne.2 e1
                have d2 : (kdE xs[i] == 2) = false := beq_eq_false_iff_ne.2 e2
                have d3 : (kdE xs[i] == 3) = false := beq_eq_false_iff_ne.2 e3
                have d4 : (kdE xs[i] == 4) = false := beq_eq_false_iff_ne.2 e4
                generalize kdE xs[i] = kd at h0 d1 d2 d3 d4
                clear HC2 e1 e2 e3 e4 hc hr hyl3 hm2 ownA h6 h7
                go_wp2
                go_ret
                exact ⟨some ⟨wA.heap.size, 0, none⟩, 0, by rw [HV.out]; rfl, by rw [HV.out]; exact World.ownsRow_lit _ _ _ hbA.size (by simp [maxLen]) rfl, hbA.alloc hbA.size _⟩
end Go.Proofs.Ythmompnlkclfaaa
