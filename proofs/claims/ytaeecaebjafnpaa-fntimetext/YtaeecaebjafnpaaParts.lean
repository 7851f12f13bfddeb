/- The parts of a list: the program and the model, one contract each. -/
import Derived.Test.YtaeecaebjafnpaaNums
import Derived.RegionCalls
set_option linter.unusedVariables false
namespace Go.Proofs.Ytaeecaebjafnpaa
open Go.RowKit Own Var Term

/-- So many terms, one behind the other. -/
def psL : Nat → ByteArray → List ByteArray
  | 0, _ => []
  | n + 1, r => match bh 8 r with
    | some r' => r.extract 0 (r.size - r'.size) :: psL n r'
    | none => []
theorem psL_succ {n : Nat} {r r' : ByteArray} (h : bh 8 r = some r') : psL (n + 1) r = r.extract 0 (r.size - r'.size) :: psL n r' := by rw [psL, h]
theorem rep_succ {g : ByteArray → Option ByteArray} {n : Nat} {r E : ByteArray} (h : rep g (n + 1) r = some E) : ∃ r', g r = some r' ∧ rep g n r' = some E := by
  rw [rep] at h
  cases hg : g r with
  | none => rw [hg] at h; simp at h
  | some r' => rw [hg] at h; exact ⟨r', rfl, h⟩
theorem psL_len (n : Nat) : ∀ r E, rep (bh 7) n r = some E → (psL n r).length = n := by
  induction n with
  | zero => intro r E _; rfl
  | succ n ih =>
    intro r E h
    obtain ⟨r', h1, h2⟩ := rep_succ h
    rw [psL_succ (bh_mono 7 r r' h1), List.length_cons, ih r' E h2]
/-- A list's head: as many parts as it says. -/
theorem rk_list {s r : ByteArray} {n : Nat} (h : rk s 108 = some (n, r)) : n ≤ 12 ∧ ∃ E, rep (bh 7) n r = some E := by
  obtain ⟨hT, _, hk, hc, _, _⟩ := rk_facts h
  obtain ⟨_, E, hb, _⟩ := (isT_iff s).1 hT
  rw [bh_some hc, if_neg (by omega), if_pos hk] at hb
  refine ⟨?_, E, hb⟩
  unfold cut at hc
  split at hc
  · rename_i c
    simp only [Option.some.injEq, Prod.mk.injEq] at hc
    have h3 := c.2.2
    rw [hc.1, hk] at h3
    simpa [hdOk] using h3
  · simp at hc
/-- What Parts tells. -/
def partsR (s : ByteArray) : List ByteArray × Bool := match rk s 108 with
  | some (n, r) => (psL n r, true)
  | none => ([], false)
/-- The cells of a row that is not yet full. -/
def rowP (done : List ByteArray) (n : Nat) : List Value := done.map Value.string ++ (madeCells #[Value.string ⟨#[]⟩] n).toList.drop done.length
theorem rowP_zero (n : Nat) : rowP [] n = (madeCells #[Value.string ⟨#[]⟩] n).toList := rfl
theorem rowP_len (done : List ByteArray) (n : Nat) (h : done.length ≤ n) : (rowP done n).length = n := by
  unfold rowP; rw [List.length_append, List.length_map, List.length_drop]; simp [size_madeCells]; omega
theorem rowP_set (done : List ByteArray) (n : Nat) (x : ByteArray) (h : done.length < n) : (rowP done n).set done.length (.string x) = rowP (done ++ [x]) n := by
  unfold rowP
  have hlm : (madeCells #[Value.string ⟨#[]⟩] n).toList.length = n := by simp [size_madeCells]
  rw [List.set_append_right _ _ (by simp), List.length_map, Nat.sub_self, List.drop_eq_getElem_cons (by omega), List.map_append, List.append_assoc, List.length_append]
  rfl
theorem rowP_full (done : List ByteArray) (n : Nat) (h : done.length = n) : rowP done n = done.map Value.string := by
  unfold rowP
  rw [List.drop_of_length_le (by simp [size_madeCells]; omega), List.append_nil]
theorem extract_list (s : ByteArray) (i j : Nat) : (s.extract i j).data.toList = (s.data.toList.drop i).take (j - i) := by simp [ByteArray.data_extract, List.extract]
theorem ext_size (r : ByteArray) (k : Nat) : (r.extract 0 k).size ≤ r.size := by simp [ByteArray.size_extract]; omega

set_option maxRecDepth 100000 in
set_option maxHeartbeats 1600000 in
theorem tell81 (n : Nat) (r E : ByteArray) (w : World) (hn : n ≤ 12) (hz : r.size ≤ 900) (hE : rep (bh 7) n r = some E) :
    Calls Try.prog 60 #[.int .i64 n, .string r] w fun e w' => e = .returned (.slice (some ⟨w.heap.size, 0, none⟩) n n) ∧ w'.ownsRow w.heap.size 9 1 (.slice (some ⟨w.heap.size, 0, none⟩) n n) n ((psL n r).map Value.string) ∧ Below w.heap.size w w' := by
  obtain ⟨i0, hi, hz0, hz1, hz2⟩ := info_parts infoStr
  go_enter Try.func60, Try.ntmps60
  go_wp2_with (first | (at_make; refine wpList_make_full _ rfl _ _ 68 rfl w.heap.size 9 i0 (.string ⟨#[]⟩) 1 Try.underlying68 hi hz0 hz1 .i64 .i64 n n n rfl rfl rfl rfl (by rw [hz2]; omega) (by unfold maxLen; omega) (Nat.le_refl _) ?_) | go_in)
  intro w1 hown hgrow
  have hbel := (Below.refl w.heap.size w).grown hgrow (Nat.le_refl _) (by simp)
  clear hgrow
  have HE : Hid (rep (bh 7) n r = some E) := hE
  clear hE
  go_wp2
  go_loopw [1, 12] (fun b i wr => ∃ (R : ByteArray) (done : List ByteArray), done.length ≤ n ∧ i = .int .i64 (done.length : Nat) ∧ b = .string R ∧ R.size ≤ 900 ∧ Hid (psL n r = done ++ psL (n - done.length) R) ∧ Hid (rep (bh 7) (n - done.length) R = some E) ∧ wr.ownsRow w.heap.size 9 1 (.slice (some ⟨w.heap.size, 0, none⟩) n n) n (rowP done n) ∧ Below w.heap.size w wr) (fun _ i _ => n - (intOf i).toNat)
  case atStart => exact ⟨r, [], by simp, rfl, rfl, hz, rfl, HE, hown, hbel⟩
  case round =>
    clear hown hbel
    obtain ⟨R, done, hk, rfl, rfl, hRz, HP, HR, hown, hbel⟩ := hrel
    by_cases hlt : done.length < n
    · obtain ⟨m, hm⟩ : ∃ m, n - done.length = m + 1 := ⟨n - done.length - 1, by omega⟩
      obtain ⟨R', h7, hrep⟩ := rep_succ (by have := HR.out; rwa [hm] at this)
      have h8 := bh_mono 7 R R' h7
      obtain ⟨j, hj2, hjs, hRR⟩ := bh_suf 8 R R' h8
      have hz' : R'.size ≤ R.size := by rw [hRR, suf_size]; omega
      have HP2 : Hid (psL n r = (done ++ [R.extract 0 (R.size - R'.size)]) ++ psL (n - (done.length + 1)) R') := (by
        rw [HP.out, hm, psL_succ h8, (by omega : n - (done.length + 1) = m)]; simp : psL n r = (done ++ [R.extract 0 (R.size - R'.size)]) ++ psL (n - (done.length + 1)) R')
      have HR2 : Hid (rep (bh 7) (n - (done.length + 1)) R' = some E) := (by rw [(by omega : n - (done.length + 1) = m)]; exact hrep : rep (bh 7) (n - (done.length + 1)) R' = some E)
      have hB := fun w => behindTerm_is R w (by omega)
      simp only [h8, ansB] at hB
      have hCl := fun w => clone_is (R.extract 0 (R.size - R'.size)) w (by have := ext_size R (R.size - R'.size); omega)
      obtain ⟨X, hX⟩ : ∃ X, R.extract 0 (R.size - R'.size) = X := ⟨_, rfl⟩
      rw [hX] at hCl HP2
      have hX2 : ∀ k : Nat, (k : Int) = (R.size : Int) - (R'.size : Int) → R.extract 0 k = X := fun k hk => by rw [← hX, (by omega : k = R.size - R'.size)]
      clear HP HR h7 hrep h8 hRR
      generalize hD : done.length = D at *
      go_wp2_with fail
      refine (hB _).mono ?_
      rintro e w2 ⟨rfl, hb2⟩
      have hb3 := hbel.trans (hb2.mono hbel.size)
      have hown2 := own_later hown hb2
      clear hown hbel hb2
      go_wp2_with fail
      refine (hCl w2).mono ?_
      rintro e w3 ⟨rfl, hb4⟩
      have hb5 := hb3.trans (hb4.mono hb3.size)
      have hown3 := own_later hown2 hb4
      clear hown2 hb3 hb4
      have hto : ∃ v, w3.cell? ⟨w.heap.size, D, none⟩ = some v := by
        rw [hown3.cellAt _ (by omega)]
        exact ⟨_, List.getElem?_eq_getElem (by rw [rowP_len done n (by omega)]; omega)⟩
      obtain ⟨v, hto⟩ := hto
      have hfz := hown3.frozenAt D
      have hs := (hown3.stored D (.string X)).1
      rw [← hD, rowP_set done n X (by omega), hD] at hs
      have hb6 := hb5.setCell (p := ⟨w.heap.size, D, none⟩) (Nat.le_refl _) (.string X)
      have HS : Hid (∃ (R₁ : ByteArray) (done₁ : List ByteArray), done₁.length ≤ n ∧ Value.int .i64 ((D : Int) + 1) = .int .i64 (done₁.length : Nat) ∧ Value.string R' = .string R₁ ∧ R₁.size ≤ 900 ∧ Hid (psL n r = done₁ ++ psL (n - done₁.length) R₁) ∧ Hid (rep (bh 7) (n - done₁.length) R₁ = some E) ∧ (w3.setCell ⟨w.heap.size, D, none⟩ (.string X)).ownsRow w.heap.size 9 1 (.slice (some ⟨w.heap.size, 0, none⟩) n n) n (rowP done₁ n) ∧ Below w.heap.size w (w3.setCell ⟨w.heap.size, D, none⟩ (.string X))) := by
        have hl1 : (done ++ [X]).length = D + 1 := by rw [List.length_append, hD]; rfl
        refine ⟨R', done ++ [X], by omega, by rw [hl1]; go_num, rfl, by omega, ?_, ?_, hs, hb6⟩
        · rw [hl1]; exact HP2
        · rw [hl1]; exact HR2
      clear hs hb6 HP2 HR2 hown3 hb5 hX2 hX hCl hB
      go_wp2
      go_roundw
      case rel => first | exact HS.out | (have R := HS.out; (repeat apply Exists.intro); exact ⟨R, rfl⟩)
      case measure => simp [intOf]; omega
    · have hD : done.length = n := by omega
      rw [rowP_full done n hD] at hown
      have hP := HP.out
      rw [hD, Nat.sub_self] at hP
      have hdone : psL n r = done := by rw [hP]; simp [psL]
      rw [← hdone] at hown
      go_wp2
      go_ret
      exact ⟨rfl, hown, hbel⟩
theorem enters81 (args : Array Value) (w : World) : (callFunc 60 args).run Try.prog w = .ok (.enter 60 args) w := by
  simp [callFunc, Try.func60, mark, Try.f60]
/-- The cells of texts. -/
def strV (xs : List ByteArray) : List Value := xs.map Value.string
set_option maxRecDepth 100000 in
theorem impl_parts (s : ByteArray) (w : World) (hs : s.size ≤ 1048576) :
    Calls Try.prog 50 #[.string s] w fun e w' => ∃ v, e = .returned (.tuple #[v, .bool (partsR s).2]) ∧ w'.ownsRow w.heap.size 9 1 v (partsR s).1.length (strV (partsR s).1) ∧ Below w.heap.size w w' := by
  have hmf : ∀ (fn : Fn) (first cap : Array Value) (w : World), (Instr.makeFunc fn first cap).run Try.prog w = .ok (.func fn first cap) w := fun _ _ _ _ => rfl
  unfold partsR
  cases hr : rk s 108 with
  | none =>
    have HC := rkL_no s 108 (.func (.func 60) #[] #[]) w (by omega) hr
    clear hr
    go_enter Try.func50, Try.ntmps50
    go_wp2_with fail
    refine HC.mono ?_
    rintro e w1 ⟨rfl, hb⟩
    go_wp2
    go_ret2
    exact ⟨_, rfl, World.ownsRow_nil _ _ _ _, hb⟩
  | some q =>
    obtain ⟨n, r⟩ := q
    obtain ⟨_, _, _, _, _, hrz⟩ := rk_facts hr
    obtain ⟨hn, E, hE⟩ := rk_list hr
    have hl := psL_len n r E hE
    have HC := rkL_yes s r 108 n 60 #[] w (fun v w' => w'.ownsRow w.heap.size 9 1 v (psL n r).length (strV (psL n r)) ∧ Below w.heap.size w w') hs hr enters81 (fun w1 hb => (tell81 n r E w1 hn hrz hE).mono (by
      rintro e w2 ⟨rfl, ho, hb2⟩
      refine ⟨_, rfl, ?_, hb.trans (hb2.mono hb.size)⟩
      rw [hl]
      refine ⟨ho.1, ?_⟩
      rcases ho.2 with h0 | ⟨g, cap, cur, e1, e2, e3⟩
      · exact Or.inl h0
      · exact Or.inr ⟨g, cap, cur, e1, Nat.le_trans hb.size e2, e3⟩))
    clear hr hE hl
    simp only
    generalize psL n r = xs at *
    go_enter Try.func50, Try.ntmps50
    go_wp2_with fail
    refine HC.mono ?_
    rintro e w1 ⟨v, rfl, ho, hb⟩
    go_wp2
    go_ret2
    exact ⟨_, rfl, ho, hb⟩

set_option maxRecDepth 100000 in
set_option maxHeartbeats 1600000 in
theorem spec_parts (s : ByteArray) (w : World) (hs : s.size ≤ 1048576) :
    Calls Try.prog 55 #[.string s] w fun e w' => ∃ v, e = .returned (.tuple #[v, .bool (partsR s).2]) ∧ w'.ownsRow w.heap.size 9 1 v (partsR s).1.length (strV (partsR s).1) ∧ Below w.heap.size w w' := by
  have hO := fun w => spec_ok s w hs
  have hlit : ∀ W : World, w.heap.size ≤ W.heap.size → (W.alloc (.cells #[] 9)).ownsRow w.heap.size 9 1 (.slice (some ⟨W.heap.size, 0, none⟩) 0 0) 0 [] := fun W hW => World.ownsRow_lit _ _ _ hW (by unfold maxLen; omega) rfl
  unfold partsR
  cases hr : rk s 108 with
  | none =>
    rcases Bool.eq_false_or_eq_true (isT s) with hT | hT
    · have h2 := not_empty ((isT_iff s).1 hT)
      have h0 : 0 < s.size := by omega
      have hb97 := byte_ne h0 hr hT
      rw [hT] at hO
      clear hr hT
      go_enter Try.func55, Try.ntmps55
      go_wp2_with fail
      refine (hO _).mono ?_
      rintro e w1 ⟨rfl, hb⟩
      have ho := own_later (hlit w (Nat.le_refl _)) hb
      have hb0 : Below w.heap.size w (w.alloc (.cells #[] 9)) := (Below.refl _ _).alloc (Nat.le_refl _) _
      go_wp2
      go_ret2
      exact ⟨_, rfl, ho, hb0.trans (hb.mono hb0.size)⟩
    · rw [hT] at hO
      clear hr hT
      go_enter Try.func55, Try.ntmps55
      go_wp2_with fail
      refine (hO _).mono ?_
      rintro e w1 ⟨rfl, hb⟩
      have ho := own_later (hlit w (Nat.le_refl _)) hb
      have hb0 : Below w.heap.size w (w.alloc (.cells #[] 9)) := (Below.refl _ _).alloc (Nat.le_refl _) _
      go_wp2
      go_ret2
      exact ⟨_, rfl, ho, hb0.trans (hb.mono hb0.size)⟩
  | some q =>
    obtain ⟨n, r⟩ := q
    obtain ⟨hT, h2, hkk, hc, hs9, _⟩ := rk_facts hr
    obtain ⟨hn12, E, hE⟩ := rk_list hr
    rw [hT] at hO
    obtain ⟨hn, hrr, hK⟩ := cut_eq hc
    obtain ⟨K, hKe⟩ : ∃ K, rvK (suf s 1) = K := ⟨_, rfl⟩
    rw [hKe] at hrr hK
    have hat := at_eq s 0 (by omega)
    have h0 : 0 < s.size := by omega
    have hb97 : ((s[0].toNat : Int) == 108) = true := by simp; omega
    have hRV := fun w => spec_rvf (suf s 1) w (by rw [suf_size]; omega) n K hn hKe
    subst hrr
    have HE : Hid (rep (bh 7) n (suf s (1 + K)) = some E) := hE
    have hl := psL_len n _ E hE
    obtain ⟨PS, hPS⟩ : ∃ PS, psL n (suf s (1 + K)) = PS := ⟨_, rfl⟩
    have HPS : Hid (psL n (suf s (1 + K)) = PS) := hPS
    simp only
    rw [hPS] at hl ⊢
    clear hr hT hc hat hkk hn hKe hE hPS
    obtain ⟨i0, hi, hz0, hz1, hz2⟩ := info_parts infoStr
    go_enter Try.func55, Try.ntmps55
    go_wp2_with fail
    refine (hO _).mono ?_
    rintro e w1 ⟨rfl, hb⟩
    have hb0 : Below w.heap.size w (w.alloc (.cells #[] 9)) := (Below.refl _ _).alloc (Nat.le_refl _) _
    have ho := own_later (hlit w (Nat.le_refl _)) hb
    go_wp2_with fail
    refine (hRV _).mono ?_
    rintro e w2 ⟨rfl, hb2⟩
    have hb1 := hb0.trans (hb.mono hb0.size)
    have hb3 := hb1.trans (hb2.mono hb1.size)
    have ho2 := own_later ho hb2
    clear hlit ho hb hb2 hb0 hb1
    go_wp2
    go_loopw [4, 7, 8] (fun v a i wr => ∃ (A : Nat) (done : List ByteArray), done.length ≤ n ∧ A ≤ s.size ∧ i = .int .i64 (done.length : Nat) ∧ a = .int .i64 A ∧ Hid (PS = done ++ psL (n - done.length) (suf s A)) ∧ Hid (rep (bh 7) (n - done.length) (suf s A) = some E) ∧ wr.ownsRow w.heap.size 9 1 v done.length (strV done) ∧ Below w.heap.size w wr) (fun _ _ i _ => n - (intOf i).toNat)
    case atStart => exact ⟨1 + K, [], by simp, by omega, rfl, by go_num, HPS.out.symm, HE, ho2, hb3⟩
    case round =>
      clear ho2 hb3
      obtain ⟨A, done, hk, hA, rfl, rfl, HP, HR, hown, hbel⟩ := hrel
      by_cases hlt : done.length < n
      · obtain ⟨m, hm⟩ : ∃ m, n - done.length = m + 1 := ⟨n - done.length - 1, by omega⟩
        obtain ⟨R', h7, hrep⟩ := rep_succ (by have := HR.out; rwa [hm] at this)
        have h8 := bh_mono 7 _ R' h7
        have hT := fun w => term_is s hs 8 A 8 w rfl (by omega) hA
        generalize hD : done.length = D at *
        go_wp2_with fail
        refine (hT _).mono ?_
        rintro e w3 ⟨x, d, rfl, hTA, hb4⟩
        have hb5 := hbel.trans (hb4.mono hbel.size)
        have hown2 := own_later hown hb4
        clear hown hbel hb4 hT
        rcases hTA with ⟨hno, _, _⟩ | ⟨hx1, hx2, hso, hd⟩
        · rw [hno] at h8; cases h8
        · rw [h8] at hso
          simp only [Option.some.injEq] at hso
          have hX : (suf s A).extract 0 ((suf s A).size - R'.size) = s.extract A (A + x) := by
            rw [hso, suf_size, suf_size]
            apply ext_list
            rw [extract_list, extract_list, suf_list, List.drop_zero]
            congr 1
            omega
          obtain ⟨X, hXe⟩ : ∃ X, s.extract A (A + x) = X := ⟨_, rfl⟩
          have HP2 : Hid (PS = (done ++ [X]) ++ psL (n - (D + 1)) (suf s (A + x))) := (by
            rw [HP.out, hm, psL_succ h8, hX, hXe, hso, (by omega : n - (D + 1) = m)]; simp : PS = (done ++ [X]) ++ psL (n - (D + 1)) (suf s (A + x)))
          have HR2 : Hid (rep (bh 7) (n - (D + 1)) (suf s (A + x)) = some E) := (by rw [(by omega : n - (D + 1) = m), ← hso]; exact hrep : rep (bh 7) (n - (D + 1)) (suf s (A + x)) = some E)
          have HV : Hid (strV done ++ [.string X] = strV (done ++ [X])) := (by unfold strV; rw [List.map_append]; rfl : strV done ++ [.string X] = strV (done ++ [X]))
          have hl1 : (done ++ [X]).length = D + 1 := by rw [List.length_append, hD]; rfl
          have HL1 : Hid ((done ++ [X]).length = D + 1) := hl1
          clear HP HR h7 hrep h8 hX hso HPS HE hl1
          go_wp2_with (first | (at_builtin; refine wpList_append_own _ rfl _ _ 68 rfl w.heap.size 9 i0 (.string ⟨#[]⟩) 1 16 Try.underlying68 hi hz0 hz1 hz2 rfl (by decide) _ _ _ rfl (hown2.alloc _) ⟨w3.heap.size, 0, none⟩ 1 1 [.string X] rfl rfl (cell_one_new _ _ _) ?c2 ?c3 ?c4 ?c5 ?_) | go_in)
          case c2 => intro u hu; simp at hu; subst hu; rfl
          case c3 => unfold maxLen; omega
          case c4 => omega
          case c5 => have := hb5.size; simp; omega
          intro v' w4 hown' hgrow _
          have hb6 := below_app hb5 (Nat.le_refl _) hown2 hgrow
          rw [HV.out] at hown'
          clear hgrow hown2 hb5
          go_wp2
          go_roundw
          case rel =>
            have R : ∃ (A₁ : Nat) (done₁ : List ByteArray), done₁.length ≤ n ∧ A₁ ≤ s.size ∧ Value.int .i64 ((D : Int) + 1) = .int .i64 (done₁.length : Nat) ∧ Value.int .i64 ((A : Int) + (x : Int)) = .int .i64 A₁ ∧ Hid (PS = done₁ ++ psL (n - done₁.length) (suf s A₁)) ∧ Hid (rep (bh 7) (n - done₁.length) (suf s A₁) = some E) ∧ w4.ownsRow w.heap.size 9 1 v' done₁.length (strV done₁) ∧ Below w.heap.size w w4 := by
              have hl1 := HL1.out
              refine ⟨A + x, done ++ [X], by omega, by omega, by rw [hl1]; go_num, by go_num, ?_, ?_, ?_, hb6⟩
              · rw [hl1]; exact HP2
              · rw [hl1]; exact HR2
              · rw [hl1]; exact hown'
            first | exact R | ((repeat apply Exists.intro); exact ⟨R, rfl⟩)
          case measure => simp [intOf]; omega
      · have hD : done.length = n := by omega
        have hP := HP.out
        rw [hD, Nat.sub_self] at hP
        have hdone : PS = done := by rw [hP]; simp [psL]
        subst hdone
        clear HP HR HPS hP HE
        go_wp2
        go_ret2
        exact ⟨_, rfl, hown, hbel⟩
end Go.Proofs.Ytaeecaebjafnpaa
