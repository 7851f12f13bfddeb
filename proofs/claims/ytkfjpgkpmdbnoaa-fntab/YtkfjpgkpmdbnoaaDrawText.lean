/- Texts drawn from the cursor: l1Text. -/
import Derived.Test.YtkfjpgkpmdbnoaaCu
import Derived.Test.YtkfjpgkpmdbnoaaDrawNum
import Derived.Test.YtkfjpgkpmdbnoaaOwn
set_option linter.unusedVariables false
namespace Go.Proofs.Ytkfjpgkpmdbnoaa.Draw
open Go Go.RowKit Own

theorem infoU8 : (Try.prog.info? 5).map (fun i => (i.zero, i.size, i.bytes)) = some (some (.int .u8 0), 1, 1) := by kernel_rfl

theorem own_only {W w' : World} {p base size n : Nat} {e : TypeId} {v : Value} {xs : List Value} (h : W.ownsRow base e size v n xs) (ho : Only p W w') (hp : p < base) : w'.ownsRow base e size v n xs := by
  refine h.kept ho ?_
  cases hv : v.ownBlock with
  | none => exact Or.inl rfl
  | some k => right; intro e; have := (h.lt k hv).1; simp at e; omega

/-- How the cursor stands behind k bytes. -/
def stN (len : Nat) (s : St) : Nat → St
  | 0 => s
  | k + 1 => byteS len (stN len s k)
/-- A byte in one of the four styles. -/
def styled (style b : Int) : Int := if style = 1 then b % 2 else if style = 2 then 97 + b % 4 else b
theorem styled_bd (style b : Int) (h : 0 ≤ b ∧ b ≤ 255) : 0 ≤ styled style b ∧ styled style b ≤ 255 := by
  unfold styled; split
  · omega
  · split <;> omega
/-- The first k bytes of a text. -/
def textB (zs : List Int) (len : Nat) (style : Int) (s : St) (k : Nat) : List UInt8 := (List.range k).map fun j => UInt8.ofNat (styled style (byteV zs len (stN len s j))).toNat
theorem textB_len (zs : List Int) (len : Nat) (style : Int) (s : St) (k : Nat) : (textB zs len style s k).length = k := by simp [textB]
theorem textB_push (zs : List Int) (len : Nat) (style : Int) (s : St) (k : Nat) : bytesOf (textB zs len style s k) ++ [Value.int .u8 (styled style (byteV zs len (stN len s k)))] = bytesOf (textB zs len style s (k + 1)) := by
  have hb := styled_bd style _ (byteV_bd zs len (stN len s k))
  have e : textB zs len style s (k + 1) = textB zs len style s k ++ [UInt8.ofNat (styled style (byteV zs len (stN len s k))).toNat] := by simp [textB, List.range_succ]
  rw [e, bytesOf_append]
  simp only [bytesOf, List.map_cons, List.map_nil]
  have e2 : (((UInt8.ofNat (styled style (byteV zs len (stN len s k))).toNat).toNat : Nat) : Int) = styled style (byteV zs len (stN len s k)) := by
    generalize styled style (byteV zs len (stN len s k)) = y at *
    rw [UInt8.toNat_ofNat_of_lt' (by show _ < 256; omega)]
    omega
  rw [e2]
/-- The text that is drawn, at most so long. -/
def textV (zs : List Int) (len : Nat) (most : Int) (s : St) : List UInt8 :=
  textB zs len (belowV zs len 4 s) (belowS len (most + 1) (belowS len 4 s)) (belowV zs len (most + 1) (belowS len 4 s)).toNat
def textS (zs : List Int) (len : Nat) (most : Int) (s : St) : St :=
  stN len (belowS len (most + 1) (belowS len 4 s)) (belowV zs len (most + 1) (belowS len 4 s)).toNat
theorem textV_len (zs : List Int) (len : Nat) (most : Int) (s : St) (h : 0 ≤ most) : (textV zs len most s).length ≤ most.toNat := by
  have := belowV_bd zs len (most + 1) (belowS len 4 s) (by omega)
  unfold textV
  rw [textB_len]
  omega

set_option maxRecDepth 100000 in
set_option maxHeartbeats 1600000 in
theorem textD (p : Nat) (a : Option Addr) (len cap : Nat) (zs : List Int) (s : St) (W : World) (most : Int) (h : Dr W p a len cap zs s) (hm0 : 0 ≤ most) (hm : most ≤ 1000) :
    Calls Try.prog 66 #[.pointer (some ⟨p, 0, none⟩), .int .i64 most] W fun e w' => e = .returned (.string ⟨(textV zs len most s).toArray⟩) ∧ Dr w' p a len cap zs (textS zs len most s) ∧ Only p W w' := by
  obtain ⟨i0, hi, hz0, hz1, hz2⟩ := info_parts infoU8
  have hpl := h.cur.lt
  have H : Hid (Dr W p a len cap zs s) := h
  clear h
  obtain ⟨st, hst⟩ : ∃ st, belowV zs len 4 s = st := ⟨_, rfl⟩
  obtain ⟨s2, hs2⟩ : ∃ s2, belowS len (most + 1) (belowS len 4 s) = s2 := ⟨_, rfl⟩
  obtain ⟨b0, b1⟩ := belowV_bd zs len (most + 1) (belowS len 4 s) (by omega)
  obtain ⟨N, hN⟩ : ∃ N : Nat, belowV zs len (most + 1) (belowS len 4 s) = (N : Int) := ⟨_, (Int.toNat_of_nonneg b0).symm⟩
  have HK : Hid (belowV zs len 4 s = st ∧ belowS len (most + 1) (belowS len 4 s) = s2 ∧ belowV zs len (most + 1) (belowS len 4 s) = (N : Int)) := ⟨hst, hs2, hN⟩
  have V : Hid (textV zs len most s = textB zs len st s2 N ∧ textS zs len most s = stN len s2 N) := by
    refine ⟨?_, ?_⟩
    · unfold textV; rw [hst, hs2, hN]; rfl
    · unfold textS; rw [hs2, hN]; rfl
  rw [hN] at b0 b1
  clear hst hs2 hN
  go_enter Try.func66, Try.ntmps66
  go_wp2_with fail
  refine (belowD p a len cap zs s _ 4 (H.out.alloc _) (by omega)).mono ?_
  rw [HK.out.1]
  rintro e w1 ⟨rfl, d1, o1⟩
  have D1 : Hid (Dr w1 p a len cap zs (belowS len 4 s) ∧ Only p W w1) := ⟨d1, ((Only.refl p W).alloc _).trans o1⟩
  have hown1 : w1.ownsRow W.heap.size 5 1 (.slice (some ⟨W.heap.size, 0, none⟩) 0 0) 0 [] := own_only (World.ownsRow_lit W #[] 0 (Nat.le_refl _) (by unfold maxLen; omega) rfl) o1 hpl
  clear d1 o1
  go_wp2_with fail
  refine (belowD p a len cap zs _ _ (most + 1) D1.out.1 (by omega)).mono ?_
  rw [HK.out.2.1, HK.out.2.2]
  rintro e w2 ⟨rfl, d2, o2⟩
  have D2 : Hid (Dr w2 p a len cap zs s2 ∧ Only p W w2) := ⟨d2, D1.out.2.trans o2⟩
  have hown2 := own_only hown1 o2 hpl
  clear d2 o2 hown1 D1
  go_wp2
  go_loopw [5, 7, 8] (fun v i _ wr => ∃ j : Nat, j ≤ N ∧ i = .int .i64 ((N : Int) - (j : Int)) ∧ wr.ownsRow W.heap.size 5 1 v j (bytesOf (textB zs len st s2 j)) ∧ Dr wr p a len cap zs (stN len s2 j) ∧ Only p W wr) (fun _ i _ _ => (intOf i).toNat)
  case atStart => exact ⟨0, by omega, by go_num, hown2, D2.out.1, D2.out.2⟩
  case round =>
    clear hown2 D2
    obtain ⟨j, hj, rfl, hown, hdr, hon⟩ := hrel
    have DR : Hid (Dr wr p a len cap zs (stN len s2 j) ∧ Only p W wr) := ⟨hdr, hon⟩
    clear hdr hon
    by_cases hlt : j < N
    · have bx := byteV_bd zs len (stN len s2 j)
      have P : Hid _ := textB_push zs len st s2 j
      obtain ⟨x, hx⟩ : ∃ x, byteV zs len (stN len s2 j) = x := ⟨_, rfl⟩
      have HX : Hid (byteV zs len (stN len s2 j) = x) := hx
      rw [hx] at bx
      clear hx
      go_wp2_with fail
      refine (byteD p a len cap zs _ _ DR.out.1).mono ?_
      rw [HX.out]
      rintro e w3 ⟨rfl, d3, o3⟩
      have D3 : Hid (Dr w3 p a len cap zs (stN len s2 (j + 1)) ∧ Only p W w3) := ⟨d3, DR.out.2.trans o3⟩
      have hown3 := own_only hown o3 hpl
      clear d3 o3 hown DR
      have hcase : st = 1 ∨ st = 2 ∨ (¬ st = 1 ∧ ¬ st = 2) := by omega
      rcases hcase with t1 | t2 | ⟨t1, t2⟩
      · have u1 : (st == 1) = true := by simpa using t1
        have u2 : (st == 2) = false := by simp; omega
        have t1' : Hid (st = 1) := t1
        clear t1
        have t1 := t1'
        go_wp2_with (at_builtin; refine wpList_append_own _ rfl _ _ 22 rfl W.heap.size 5 i0 (.int .u8 0) 1 1 Try.underlying22 hi hz0 hz1 hz2 rfl (by decide) _ _ _ rfl (hown3.alloc _) ⟨w3.heap.size, 0, none⟩ 1 1 [.int .u8 (x % 2)] rfl rfl (cell_one_new _ _ _) ?c2 ?c3 ?c4 ?c5 ?_)
        case c2 => intro u hu; simp at hu; subst hu; rfl
        case c3 => unfold maxLen; omega
        case c4 => omega
        case c5 => have := D3.out.2.size; simp; omega
        intro v' w4 hown' hgrow _
        have e : styled st (byteV zs len (stN len s2 j)) = x % 2 := by rw [HX.out, styled]; rw [if_pos t1.out]
        rw [← e, P.out] at hown'
        have hr := fun k hk => (hown3.lt k hk).1
        have R : ∃ j' : Nat, j' ≤ N ∧ Value.int .i64 ((N : Int) - (j : Int) - 1) = .int .i64 ((N : Int) - (j' : Int)) ∧ w4.ownsRow W.heap.size 5 1 v' j' (bytesOf (textB zs len st s2 j')) ∧ Dr w4 p a len cap zs (stN len s2 j') ∧ Only p W w4 :=
          ⟨j + 1, by omega, by go_num, hown', (D3.out.1.alloc _).grown hgrow (fun k hk => by have := hr k hk; omega), only_app D3.out.2 hgrow hr⟩
        clear hown' hgrow hown3 hr e
        go_wp2
        go_roundw
        case rel => first | exact R | ((repeat apply Exists.intro); exact ⟨R, rfl⟩)
        case measure => simp [intOf]; omega
      · have u1 : (st == 1) = false := by simp; omega
        have u2 : (st == 2) = true := by simpa using t2
        have T : Hid (¬ st = 1 ∧ st = 2) := ⟨by omega, t2⟩
        clear t2
        go_wp2_with (at_builtin; refine wpList_append_own _ rfl _ _ 22 rfl W.heap.size 5 i0 (.int .u8 0) 1 1 Try.underlying22 hi hz0 hz1 hz2 rfl (by decide) _ _ _ rfl (hown3.alloc _) ⟨w3.heap.size, 0, none⟩ 1 1 [.int .u8 (97 + x % 4)] rfl rfl (cell_one_new _ _ _) ?c2 ?c3 ?c4 ?c5 ?_)
        case c2 => intro u hu; simp at hu; subst hu; rfl
        case c3 => unfold maxLen; omega
        case c4 => omega
        case c5 => have := D3.out.2.size; simp; omega
        intro v' w4 hown' hgrow _
        have e : styled st (byteV zs len (stN len s2 j)) = 97 + x % 4 := by rw [HX.out, styled]; rw [if_neg T.out.1, if_pos T.out.2]
        rw [← e, P.out] at hown'
        have hr := fun k hk => (hown3.lt k hk).1
        have R : ∃ j' : Nat, j' ≤ N ∧ Value.int .i64 ((N : Int) - (j : Int) - 1) = .int .i64 ((N : Int) - (j' : Int)) ∧ w4.ownsRow W.heap.size 5 1 v' j' (bytesOf (textB zs len st s2 j')) ∧ Dr w4 p a len cap zs (stN len s2 j') ∧ Only p W w4 :=
          ⟨j + 1, by omega, by go_num, hown', (D3.out.1.alloc _).grown hgrow (fun k hk => by have := hr k hk; omega), only_app D3.out.2 hgrow hr⟩
        clear hown' hgrow hown3 hr e
        go_wp2
        go_roundw
        case rel => first | exact R | ((repeat apply Exists.intro); exact ⟨R, rfl⟩)
        case measure => simp [intOf]; omega
      · have u1 : (st == 1) = false := by simpa using t1
        have u2 : (st == 2) = false := by simpa using t2
        have T : Hid (¬ st = 1 ∧ ¬ st = 2) := ⟨t1, t2⟩
        clear t1 t2
        go_wp2_with (at_builtin; refine wpList_append_own _ rfl _ _ 22 rfl W.heap.size 5 i0 (.int .u8 0) 1 1 Try.underlying22 hi hz0 hz1 hz2 rfl (by decide) _ _ _ rfl (hown3.alloc _) ⟨w3.heap.size, 0, none⟩ 1 1 [.int .u8 (x)] rfl rfl (cell_one_new _ _ _) ?c2 ?c3 ?c4 ?c5 ?_)
        case c2 => intro u hu; simp at hu; subst hu; rfl
        case c3 => unfold maxLen; omega
        case c4 => omega
        case c5 => have := D3.out.2.size; simp; omega
        intro v' w4 hown' hgrow _
        have e : styled st (byteV zs len (stN len s2 j)) = x := by rw [HX.out, styled]; rw [if_neg T.out.1, if_neg T.out.2]
        rw [← e, P.out] at hown'
        have hr := fun k hk => (hown3.lt k hk).1
        have R : ∃ j' : Nat, j' ≤ N ∧ Value.int .i64 ((N : Int) - (j : Int) - 1) = .int .i64 ((N : Int) - (j' : Int)) ∧ w4.ownsRow W.heap.size 5 1 v' j' (bytesOf (textB zs len st s2 j')) ∧ Dr w4 p a len cap zs (stN len s2 j') ∧ Only p W w4 :=
          ⟨j + 1, by omega, by go_num, hown', (D3.out.1.alloc _).grown hgrow (fun k hk => by have := hr k hk; omega), only_app D3.out.2 hgrow hr⟩
        clear hown' hgrow hown3 hr e
        go_wp2
        go_roundw
        case rel => first | exact R | ((repeat apply Exists.intro); exact ⟨R, rfl⟩)
        case measure => simp [intOf]; omega
    · obtain rfl : j = N := by omega
      have hcv := conv_own (P := Try.prog) 22 9 5 Try.underlying22 Try.underlying5 Try.underlying9 hown
      clear hown
      go_wp2
      go_ret
      rw [V.out.1, V.out.2]
      exact ⟨rfl, DR.out.1, DR.out.2⟩
end Go.Proofs.Ytkfjpgkpmdbnoaa.Draw
