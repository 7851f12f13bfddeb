/- Lists: the program and the model, one contract each. -/
import Derived.Test.YtkekfogepdhjhaaGreatFaces1
import Derived.RegionCalls
set_option linter.unusedVariables false
namespace Go.Proofs.YtkekfogepdhjhaaGreat
open Go.RowKit Own Var Term

/-- Texts one behind the other. -/
def cat (xs : List ByteArray) : ByteArray := ⟨(xs.map (·.data.toList)).flatten.toArray⟩
theorem cat_list (xs : List ByteArray) : (cat xs).data.toList = (xs.map (·.data.toList)).flatten := by simp [cat]
theorem cat_nil : cat [] = ⟨#[]⟩ := rfl
theorem cat_snoc (xs : List ByteArray) (x : ByteArray) : cat (xs ++ [x]) = cat xs ++ x := by
  apply ext_list; rw [data_append, cat_list, cat_list]; simp
theorem cat_size (n : Nat) (xs : List ByteArray) (h : ∀ x ∈ xs, x.size ≤ n) : (cat xs).size ≤ n * xs.length := by
  induction xs with
  | nil => exact Nat.zero_le _
  | cons x xs ih =>
    have h1 : (cat (x :: xs)).size = x.size + (cat xs).size := by rw [size_list, size_list, size_list, cat_list, cat_list]; simp
    have h2 := ih (fun y hy => h y (List.mem_cons_of_mem _ hy))
    have h3 := h x (List.mem_cons_self ..)
    rw [h1, List.length_cons, Nat.mul_succ]
    omega
def listT (xs : List ByteArray) : ByteArray := if xs.length ≤ 12 ∧ xs.all isT = true then okOr (hdT 108 xs.length ++ cat xs) else ⟨#[]⟩
theorem all_take {xs : List ByteArray} (h : ∀ j (hj : j < xs.length), isT xs[j] = true) : xs.all isT = true := by
  rw [List.all_eq_true]
  intro x hx
  obtain ⟨j, hj, rfl⟩ := List.getElem_of_mem hx
  exact h j hj
theorem not_all {xs : List ByteArray} {j : Nat} (hj : j < xs.length) (h : isT xs[j] = false) : ¬ (xs.length ≤ 12 ∧ xs.all isT = true) := by
  rintro ⟨_, h2⟩
  rw [List.all_eq_true] at h2
  rw [h2 _ (List.getElem_mem hj)] at h
  cases h

set_option maxRecDepth 100000 in
set_option maxHeartbeats 1600000 in
theorem spec_list (a : Option Addr) (cap : Nat) (xs : List ByteArray) (w : World) (hr : RowAt Value.string w a xs) (hl : xs.length ≤ 1048576) (hs : ∀ x ∈ xs, x.size ≤ 1048576) :
    Calls Tryz.prog 21 #[.slice a xs.length cap] w fun e w' => e = .returned (.string (listT xs)) ∧ Below w.heap.size w w' := by
  by_cases h12 : xs.length ≤ 12
  · have h12' : (xs.length : Int) ≤ 12 := by omega
    have hv := varOf_size xs.length
    have h1 : ¬ 9223372036854775807 < 1 + (varOf xs.length).size := by omega
    go_enter Tryz.func21, Tryz.ntmps21
    go_wp2_with fail
    refine (spec_var _ _).mono ?_
    rintro e w1 ⟨rfl, hb⟩
    go_wp2
    go_loopw [3, 4] (fun t i wr => ∃ (k : Nat) (T : ByteArray), k ≤ xs.length ∧ i = .int .i64 k ∧ t = .string T ∧ Hid (T = hdT 108 xs.length ++ cat (xs.take k)) ∧ T.size ≤ 8 + 900 * k ∧ Hid (∀ j (h : j < xs.length), j < k → isT xs[j] = true) ∧ Below w.heap.size w wr) (fun _ i _ => xs.length - (intOf i).toNat)
    case atStart => exact ⟨0, hdT 108 xs.length, by omega, rfl, rfl, (by rw [List.take_zero, cat_nil, app_nil] : hdT 108 xs.length = hdT 108 xs.length ++ cat (xs.take 0)), by rw [hdT_size]; omega, fun j h hj => absurd hj (by omega), hb⟩
    case round =>
      obtain ⟨k, T, hk, rfl, rfl, HT, hTz, G, hbel⟩ := hrel
      by_cases hlt : k < xs.length
      · obtain ⟨b, off, rfl, hbl, hcell⟩ := hr k hlt
        rw [← hbel.cell (p := ⟨b, off + k, none⟩) hbl] at hcell
        have hx := hs xs[k] (List.getElem_mem hlt)
        have hI := fun w => spec_ok xs[k] w (by omega)
        have HN : Hid (isT xs[k] = false → listT xs = ⟨#[]⟩) := (fun h => by unfold listT; rw [if_neg (not_all hlt h)] : isT xs[k] = false → listT xs = ⟨#[]⟩)
        have HY : Hid (isT xs[k] = true → ∀ j (h : j < xs.length), j < k + 1 → isT xs[j] = true) := (fun hz j h hj => by
          by_cases e : j = k
          · subst e; exact hz
          · exact G.out j h (by omega) : isT xs[k] = true → ∀ j (h : j < xs.length), j < k + 1 → isT xs[j] = true)
        have HC : Hid (T ++ xs[k] = hdT 108 xs.length ++ cat (xs.take (k + 1))) := (by
          rw [HT.out, List.take_succ_eq_append_getElem hlt, cat_snoc]
          apply ext_list
          simp only [data_append, List.append_assoc] : T ++ xs[k] = hdT 108 xs.length ++ cat (xs.take (k + 1)))
        rcases Bool.eq_false_or_eq_true (isT xs[k]) with hT | hT
        · have HY2 : Hid (∀ j (h : j < xs.length), j < k + 1 → isT xs[j] = true) := HY.out hT
          have h9 := ((isT_iff xs[k]).1 hT).1
          rw [hT] at hI
          clear HN HY hT
          generalize xs[k] = x at hcell hx hI h9 HC
          have h2 : ¬ 9223372036854775807 < T.size + x.size := by omega
          go_wp2_with fail
          refine (hI _).mono ?_
          rintro e w1 ⟨rfl, hb1⟩
          have hb2 := hbel.trans (hb1.mono hbel.size)
          rw [← hb1.cell (p := ⟨b, off + k, none⟩) (Nat.lt_of_lt_of_le hbl hbel.size)] at hcell
          go_wp2
          go_roundw
          case rel => exact ⟨k + 1, T ++ x, by omega, by go_num, rfl, HC, by rw [ByteArray.size_append]; omega, HY2, hb2⟩
          case measure => simp [intOf]; omega
        · have HN2 : Hid (listT xs = ⟨#[]⟩) := HN.out hT
          rw [hT] at hI
          clear HN HY hT HC
          generalize xs[k] = x at hcell hx hI
          go_wp2_with fail
          refine (hI _).mono ?_
          rintro e w1 ⟨rfl, hb1⟩
          have hb2 := hbel.trans (hb1.mono hbel.size)
          go_wp2
          go_ret
          exact ⟨by rw [HN2.out]; rfl, hb2⟩
      · have hall := all_take (xs := xs) (fun j hj => G.out j hj (by omega))
        have HE : Hid (listT xs = okOr T) := (by unfold listT; rw [if_pos ⟨h12, hall⟩, HT.out, List.take_of_length_le (by omega)] : listT xs = okOr T)
        clear hall G hr hs
        go_wp2_with fail
        refine (spec_or T _ (by omega)).mono ?_
        rintro e w3 ⟨rfl, hb3⟩
        go_wp2
        go_ret
        exact ⟨by rw [HE.out]; rfl, hbel.trans (hb3.mono hbel.size)⟩
  · have e : listT xs = ⟨#[]⟩ := by unfold listT; rw [if_neg (fun c => h12 c.1)]
    have h12' : (12 : Int) < (xs.length : Int) := by omega
    rw [e]
    go_enter Tryz.func21, Tryz.ntmps21
    go_wp2
    go_ret
    exact ⟨rfl, Below.refl _ _⟩
end Go.Proofs.YtkekfogepdhjhaaGreat

set_option linter.unusedVariables false
namespace Go.Proofs.YtkekfogepdhjhaaGreat
open Go.RowKit Own Var Term

theorem own_later {w w' : World} {base : Nat} {e : TypeId} {size : Nat} {v : Value} {n : Nat} {xs : List Value} (h : w.ownsRow base e size v n xs) (hb : Below w.heap.size w w') : w'.ownsRow base e size v n xs := by
  refine ⟨h.1, ?_⟩
  rcases h.2 with h0 | ⟨g, cap, cur, e1, e2, e3, e4⟩
  · exact Or.inl h0
  · exact Or.inr ⟨g, cap, cur, e1, e2, (hb.block g (by subst e1; exact (h.lt g rfl).2)).trans e3, e4⟩
theorem own_row {α : Type} {f : α → Value} {w : World} {base n : Nat} {e : TypeId} {v : Value} {xs : List α} (h : w.ownsRow base e 1 v n (xs.map f)) :
    ∃ a cap, v = .slice a xs.length cap ∧ xs.length ≤ cap ∧ RowAt f w a xs := by
  have hl : xs.length = n := by have := h.1; simpa using this
  subst hl
  rcases h.2 with ⟨rfl, h0⟩ | ⟨g, cap, cur, rfl, e2, e3, e4, _⟩
  · have : xs = [] := List.length_eq_zero_iff.1 h0
    subst this
    exact ⟨none, 0, rfl, Nat.le_refl _, RowAt.nil _ _⟩
  · exact ⟨_, cap, rfl, e4, RowAt.own h⟩

theorem numT_size (n : Int) : (numT n).size ≤ 15 := by
  have hv := varOf_size n
  unfold numT
  split
  · show 0 ≤ 15; omega
  · unfold atomT okOr
    split
    · rw [ByteArray.size_append, hdT_size]; have := varOf_size ((varOf n).size : Int); omega
    · show 0 ≤ 15; omega
/-- The cells of the first k numbers' atoms. -/
def rowN (zs : List Int) (k : Nat) : List Value := ((zs.take k).map numT).map Value.string
theorem rowN_zero (zs : List Int) : rowN zs 0 = [] := rfl
theorem rowN_succ (zs : List Int) (k : Nat) (h : k < zs.length) : rowN zs k ++ [.string (numT zs[k])] = rowN zs (k + 1) := by
  unfold rowN; rw [List.take_succ_eq_append_getElem h, List.map_append, List.map_append]; rfl
theorem rowN_full (zs : List Int) : rowN zs zs.length = (zs.map numT).map Value.string := by unfold rowN; rw [List.take_length]
def numsT (zs : List Int) : ByteArray := listT (zs.map numT)

theorem nums_no (zs : List Int) (k : Nat) (hk : k < zs.length) (h : (numT zs[k]).size = 0) : numsT zs = ⟨#[]⟩ := by
  unfold numsT listT
  rw [if_neg]
  rintro ⟨_, h2⟩
  rw [List.all_eq_true] at h2
  have h3 := h2 (numT zs[k]) (List.mem_map.2 ⟨zs[k], List.getElem_mem hk, rfl⟩)
  have := not_empty ((isT_iff _).1 h3)
  omega
theorem nums_many (zs : List Int) (k : Nat) (hk : 12 < k) (hz : k ≤ zs.length) : listT ((zs.take k).map numT) = numsT zs := by
  unfold numsT listT
  rw [if_neg, if_neg]
  · rintro ⟨h, _⟩; rw [List.length_map] at h; omega
  · rintro ⟨h, _⟩; rw [List.length_map, List.length_take] at h; omega
end Go.Proofs.YtkekfogepdhjhaaGreat

set_option linter.unusedVariables false
namespace Go.Proofs.YtkekfogepdhjhaaGreat
open Go.RowKit Own Var Term

/-- So many terms, one behind the other. -/
def psL : Nat → ByteArray → List ByteArray
  | 0, _ => []
  | n + 1, r => match bh 8 r with
    | some r' => r.extract 0 (r.size - r'.size) :: psL n r'
    | none => []
theorem psL_succ {n : Nat} {r r' : ByteArray} (h : bh 8 r = some r') : psL (n + 1) r = r.extract 0 (r.size - r'.size) :: psL n r' := by rw [psL, h]
theorem rep_succ {g : ByteArray → Option ByteArray} {n : Nat} {r E : ByteArray} (h : rep g (n + 1) r = some E) : ∃ r', g r = some r' ∧ rep g n r' = some E := by
  rw [rep] at h
  cases hg : g r with
  | none => rw [hg] at h; simp at h
  | some r' => rw [hg] at h; exact ⟨r', rfl, h⟩
theorem psL_len (n : Nat) : ∀ r E, rep (bh 7) n r = some E → (psL n r).length = n := by
  induction n with
  | zero => intro r E _; rfl
  | succ n ih =>
    intro r E h
    obtain ⟨r', h1, h2⟩ := rep_succ h
    rw [psL_succ (bh_mono 7 r r' h1), List.length_cons, ih r' E h2]
/-- A list's head: as many parts as it says. -/
theorem rk_list {s r : ByteArray} {n : Nat} (h : rk s 108 = some (n, r)) : n ≤ 12 ∧ ∃ E, rep (bh 7) n r = some E := by
  obtain ⟨hT, _, hk, hc, _, _⟩ := rk_facts h
  obtain ⟨_, E, hb, _⟩ := (isT_iff s).1 hT
  rw [bh_some hc, if_neg (by omega), if_pos hk] at hb
  refine ⟨?_, E, hb⟩
  unfold cut at hc
  split at hc
  · rename_i c
    simp only [Option.some.injEq, Prod.mk.injEq] at hc
    have h3 := c.2.2
    rw [hc.1, hk] at h3
    simpa [hdOk] using h3
  · simp at hc
/-- What Parts tells. -/
def partsR (s : ByteArray) : List ByteArray × Bool := match rk s 108 with
  | some (n, r) => (psL n r, true)
  | none => ([], false)
/-- The cells of a row that is not yet full. -/
def rowP (done : List ByteArray) (n : Nat) : List Value := done.map Value.string ++ (madeCells #[Value.string ⟨#[]⟩] n).toList.drop done.length
theorem rowP_zero (n : Nat) : rowP [] n = (madeCells #[Value.string ⟨#[]⟩] n).toList := rfl
theorem rowP_len (done : List ByteArray) (n : Nat) (h : done.length ≤ n) : (rowP done n).length = n := by
  unfold rowP; rw [List.length_append, List.length_map, List.length_drop]; simp [size_madeCells]; omega
theorem rowP_set (done : List ByteArray) (n : Nat) (x : ByteArray) (h : done.length < n) : (rowP done n).set done.length (.string x) = rowP (done ++ [x]) n := by
  unfold rowP
  have hlm : (madeCells #[Value.string ⟨#[]⟩] n).toList.length = n := by simp [size_madeCells]
  rw [List.set_append_right _ _ (by simp), List.length_map, Nat.sub_self, List.drop_eq_getElem_cons (by omega), List.map_append, List.append_assoc, List.length_append]
  rfl
theorem rowP_full (done : List ByteArray) (n : Nat) (h : done.length = n) : rowP done n = done.map Value.string := by
  unfold rowP
  rw [List.drop_of_length_le (by simp [size_madeCells]; omega), List.append_nil]
theorem extract_list (s : ByteArray) (i j : Nat) : (s.extract i j).data.toList = (s.data.toList.drop i).take (j - i) := by simp [ByteArray.data_extract, List.extract]
theorem ext_size (r : ByteArray) (k : Nat) : (r.extract 0 k).size ≤ r.size := by simp [ByteArray.size_extract]; omega

set_option maxRecDepth 100000 in
set_option maxHeartbeats 1600000 in
theorem tell81 (n : Nat) (r E : ByteArray) (w : World) (hn : n ≤ 12) (hz : r.size ≤ 900) (hE : rep (bh 7) n r = some E) :
    Calls Tryz.prog 91 #[.int .i64 n, .string r] w fun e w' => e = .returned (.slice (some ⟨w.heap.size, 0, none⟩) n n) ∧ w'.ownsRow w.heap.size 9 1 (.slice (some ⟨w.heap.size, 0, none⟩) n n) n ((psL n r).map Value.string) ∧ Below w.heap.size w w' := by
  obtain ⟨i0, hi, hz0, hz1, hz2⟩ := info_parts infoStr
  go_enter Tryz.func91, Tryz.ntmps91
  go_wp2_with (first | (at_make; refine wpList_make_full _ rfl _ _ 24 rfl w.heap.size 9 i0 (.string ⟨#[]⟩) 1 Tryz.underlying24 hi hz0 hz1 .i64 .i64 n n n rfl rfl rfl rfl (by rw [hz2]; omega) (by unfold maxLen; omega) (Nat.le_refl _) ?_) | go_in)
  intro w1 hown hgrow
  have hbel := (Below.refl w.heap.size w).grown hgrow (Nat.le_refl _) (by simp)
  clear hgrow
  have HE : Hid (rep (bh 7) n r = some E) := hE
  clear hE
  go_wp2
  go_loopw [1, 12] (fun b i wr => ∃ (R : ByteArray) (done : List ByteArray), done.length ≤ n ∧ i = .int .i64 (done.length : Nat) ∧ b = .string R ∧ R.size ≤ 900 ∧ Hid (psL n r = done ++ psL (n - done.length) R) ∧ Hid (rep (bh 7) (n - done.length) R = some E) ∧ wr.ownsRow w.heap.size 9 1 (.slice (some ⟨w.heap.size, 0, none⟩) n n) n (rowP done n) ∧ Below w.heap.size w wr) (fun _ i _ => n - (intOf i).toNat)
  case atStart => exact ⟨r, [], by simp, rfl, rfl, hz, rfl, HE, hown, hbel⟩
  case round =>
    clear hown hbel
    obtain ⟨R, done, hk, rfl, rfl, hRz, HP, HR, hown, hbel⟩ := hrel
    by_cases hlt : done.length < n
    · obtain ⟨m, hm⟩ : ∃ m, n - done.length = m + 1 := ⟨n - done.length - 1, by omega⟩
      obtain ⟨R', h7, hrep⟩ := rep_succ (by have := HR.out; rwa [hm] at this)
      have h8 := bh_mono 7 R R' h7
      obtain ⟨j, hj2, hjs, hRR⟩ := bh_suf 8 R R' h8
      have hz' : R'.size ≤ R.size := by rw [hRR, suf_size]; omega
      have HP2 : Hid (psL n r = (done ++ [R.extract 0 (R.size - R'.size)]) ++ psL (n - (done.length + 1)) R') := (by
        rw [HP.out, hm, psL_succ h8, (by omega : n - (done.length + 1) = m)]; simp : psL n r = (done ++ [R.extract 0 (R.size - R'.size)]) ++ psL (n - (done.length + 1)) R')
      have HR2 : Hid (rep (bh 7) (n - (done.length + 1)) R' = some E) := (by rw [(by omega : n - (done.length + 1) = m)]; exact hrep : rep (bh 7) (n - (done.length + 1)) R' = some E)
      have hB := fun w => behindTerm_is R w (by omega)
      simp only [h8, ansB] at hB
      have hCl := fun w => clone_is (R.extract 0 (R.size - R'.size)) w (by have := ext_size R (R.size - R'.size); omega)
      obtain ⟨X, hX⟩ : ∃ X, R.extract 0 (R.size - R'.size) = X := ⟨_, rfl⟩
      rw [hX] at hCl HP2
      have hX2 : ∀ k : Nat, (k : Int) = (R.size : Int) - (R'.size : Int) → R.extract 0 k = X := fun k hk => by rw [← hX, (by omega : k = R.size - R'.size)]
      clear HP HR h7 hrep h8 hRR
      generalize hD : done.length = D at *
      go_wp2_with fail
      refine (hB _).mono ?_
      rintro e w2 ⟨rfl, hb2⟩
      have hb3 := hbel.trans (hb2.mono hbel.size)
      have hown2 := own_later hown hb2
      clear hown hbel hb2
      go_wp2_with fail
      refine (hCl w2).mono ?_
      rintro e w3 ⟨rfl, hb4⟩
      have hb5 := hb3.trans (hb4.mono hb3.size)
      have hown3 := own_later hown2 hb4
      clear hown2 hb3 hb4
      have hto : ∃ v, w3.cell? ⟨w.heap.size, D, none⟩ = some v := by
        rw [hown3.cellAt _ (by omega)]
        exact ⟨_, List.getElem?_eq_getElem (by rw [rowP_len done n (by omega)]; omega)⟩
      obtain ⟨v, hto⟩ := hto
      have hfz := hown3.frozenAt D
      have hs := (hown3.stored D (.string X)).1
      rw [← hD, rowP_set done n X (by omega), hD] at hs
      have hb6 := hb5.setCell (p := ⟨w.heap.size, D, none⟩) (Nat.le_refl _) (.string X)
      have HS : Hid (∃ (R₁ : ByteArray) (done₁ : List ByteArray), done₁.length ≤ n ∧ Value.int .i64 ((D : Int) + 1) = .int .i64 (done₁.length : Nat) ∧ Value.string R' = .string R₁ ∧ R₁.size ≤ 900 ∧ Hid (psL n r = done₁ ++ psL (n - done₁.length) R₁) ∧ Hid (rep (bh 7) (n - done₁.length) R₁ = some E) ∧ (w3.setCell ⟨w.heap.size, D, none⟩ (.string X)).ownsRow w.heap.size 9 1 (.slice (some ⟨w.heap.size, 0, none⟩) n n) n (rowP done₁ n) ∧ Below w.heap.size w (w3.setCell ⟨w.heap.size, D, none⟩ (.string X))) := by
        have hl1 : (done ++ [X]).length = D + 1 := by rw [List.length_append, hD]; rfl
        refine ⟨R', done ++ [X], by omega, by rw [hl1]; go_num, rfl, by omega, ?_, ?_, hs, hb6⟩
        · rw [hl1]; exact HP2
        · rw [hl1]; exact HR2
      clear hs hb6 HP2 HR2 hown3 hb5 hX2 hX hCl hB
      go_wp2
      go_roundw
      case rel => first | exact HS.out | (have R := HS.out; (repeat apply Exists.intro); exact ⟨R, rfl⟩)
      case measure => simp [intOf]; omega
    · have hD : done.length = n := by omega
      rw [rowP_full done n hD] at hown
      have hP := HP.out
      rw [hD, Nat.sub_self] at hP
      have hdone : psL n r = done := by rw [hP]; simp [psL]
      rw [← hdone] at hown
      go_wp2
      go_ret
      exact ⟨rfl, hown, hbel⟩
theorem enters81 (args : Array Value) (w : World) : (callFunc 91 args).run Tryz.prog w = .ok (.enter 91 args) w := by
  simp [callFunc, Tryz.func91, mark, Tryz.f91]
/-- The cells of texts. -/
def strV (xs : List ByteArray) : List Value := xs.map Value.string
set_option maxRecDepth 100000 in
theorem impl_parts (s : ByteArray) (w : World) (hs : s.size ≤ 1048576) :
    Calls Tryz.prog 64 #[.string s] w fun e w' => ∃ v, e = .returned (.tuple #[v, .bool (partsR s).2]) ∧ w'.ownsRow w.heap.size 9 1 v (partsR s).1.length (strV (partsR s).1) ∧ Below w.heap.size w w' := by
  have hmf : ∀ (fn : Fn) (first cap : Array Value) (w : World), (Instr.makeFunc fn first cap).run Tryz.prog w = .ok (.func fn first cap) w := fun _ _ _ _ => rfl
  unfold partsR
  cases hr : rk s 108 with
  | none =>
    have HC := rkL_no s 108 (.func (.func 91) #[] #[]) w (by omega) hr
    clear hr
    go_enter Tryz.func64, Tryz.ntmps64
    go_wp2_with fail
    refine HC.mono ?_
    rintro e w1 ⟨rfl, hb⟩
    go_wp2
    go_ret2
    exact ⟨_, rfl, World.ownsRow_nil _ _ _ _, hb⟩
  | some q =>
    obtain ⟨n, r⟩ := q
    obtain ⟨_, _, _, _, _, hrz⟩ := rk_facts hr
    obtain ⟨hn, E, hE⟩ := rk_list hr
    have hl := psL_len n r E hE
    have HC := rkL_yes s r 108 n 91 #[] w (fun v w' => w'.ownsRow w.heap.size 9 1 v (psL n r).length (strV (psL n r)) ∧ Below w.heap.size w w') hs hr enters81 (fun w1 hb => (tell81 n r E w1 hn hrz hE).mono (by
      rintro e w2 ⟨rfl, ho, hb2⟩
      refine ⟨_, rfl, ?_, hb.trans (hb2.mono hb.size)⟩
      rw [hl]
      refine ⟨ho.1, ?_⟩
      rcases ho.2 with h0 | ⟨g, cap, cur, e1, e2, e3⟩
      · exact Or.inl h0
      · exact Or.inr ⟨g, cap, cur, e1, Nat.le_trans hb.size e2, e3⟩))
    clear hr hE hl
    simp only
    generalize psL n r = xs at *
    go_enter Tryz.func64, Tryz.ntmps64
    go_wp2_with fail
    refine HC.mono ?_
    rintro e w1 ⟨v, rfl, ho, hb⟩
    go_wp2
    go_ret2
    exact ⟨_, rfl, ho, hb⟩

set_option maxRecDepth 100000 in
set_option maxHeartbeats 1600000 in
theorem spec_parts (s : ByteArray) (w : World) (hs : s.size ≤ 1048576) :
    Calls Tryz.prog 75 #[.string s] w fun e w' => ∃ v, e = .returned (.tuple #[v, .bool (partsR s).2]) ∧ w'.ownsRow w.heap.size 9 1 v (partsR s).1.length (strV (partsR s).1) ∧ Below w.heap.size w w' := by
  have hO := fun w => spec_ok s w hs
  have hlit : ∀ W : World, w.heap.size ≤ W.heap.size → (W.alloc (.cells #[] 9)).ownsRow w.heap.size 9 1 (.slice (some ⟨W.heap.size, 0, none⟩) 0 0) 0 [] := fun W hW => World.ownsRow_lit _ _ _ hW (by unfold maxLen; omega) rfl
  unfold partsR
  cases hr : rk s 108 with
  | none =>
    rcases Bool.eq_false_or_eq_true (isT s) with hT | hT
    · have h2 := not_empty ((isT_iff s).1 hT)
      have h0 : 0 < s.size := by omega
      have hb97 := byte_ne h0 hr hT
      rw [hT] at hO
      clear hr hT
      go_enter Tryz.func75, Tryz.ntmps75
      go_wp2_with fail
      refine (hO _).mono ?_
      rintro e w1 ⟨rfl, hb⟩
      have ho := own_later (hlit w (Nat.le_refl _)) hb
      have hb0 : Below w.heap.size w (w.alloc (.cells #[] 9)) := (Below.refl _ _).alloc (Nat.le_refl _) _
      go_wp2
      go_ret2
      exact ⟨_, rfl, ho, hb0.trans (hb.mono hb0.size)⟩
    · rw [hT] at hO
      clear hr hT
      go_enter Tryz.func75, Tryz.ntmps75
      go_wp2_with fail
      refine (hO _).mono ?_
      rintro e w1 ⟨rfl, hb⟩
      have ho := own_later (hlit w (Nat.le_refl _)) hb
      have hb0 : Below w.heap.size w (w.alloc (.cells #[] 9)) := (Below.refl _ _).alloc (Nat.le_refl _) _
      go_wp2
      go_ret2
      exact ⟨_, rfl, ho, hb0.trans (hb.mono hb0.size)⟩
  | some q =>
    obtain ⟨n, r⟩ := q
    obtain ⟨hT, h2, hkk, hc, hs9, _⟩ := rk_facts hr
    obtain ⟨hn12, E, hE⟩ := rk_list hr
    rw [hT] at hO
    obtain ⟨hn, hrr, hK⟩ := cut_eq hc
    obtain ⟨K, hKe⟩ : ∃ K, rvK (suf s 1) = K := ⟨_, rfl⟩
    rw [hKe] at hrr hK
    have hat := at_eq s 0 (by omega)
    have h0 : 0 < s.size := by omega
    have hb97 : ((s[0].toNat : Int) == 108) = true := by simp; omega
    have hRV := fun w => spec_rvf (suf s 1) w (by rw [suf_size]; omega) n K hn hKe
    subst hrr
    have HE : Hid (rep (bh 7) n (suf s (1 + K)) = some E) := hE
    have hl := psL_len n _ E hE
    obtain ⟨PS, hPS⟩ : ∃ PS, psL n (suf s (1 + K)) = PS := ⟨_, rfl⟩
    have HPS : Hid (psL n (suf s (1 + K)) = PS) := hPS
    simp only
    rw [hPS] at hl ⊢
    clear hr hT hc hat hkk hn hKe hE hPS
    obtain ⟨i0, hi, hz0, hz1, hz2⟩ := info_parts infoStr
    go_enter Tryz.func75, Tryz.ntmps75
    go_wp2_with fail
    refine (hO _).mono ?_
    rintro e w1 ⟨rfl, hb⟩
    have hb0 : Below w.heap.size w (w.alloc (.cells #[] 9)) := (Below.refl _ _).alloc (Nat.le_refl _) _
    have ho := own_later (hlit w (Nat.le_refl _)) hb
    go_wp2_with fail
    refine (hRV _).mono ?_
    rintro e w2 ⟨rfl, hb2⟩
    have hb1 := hb0.trans (hb.mono hb0.size)
    have hb3 := hb1.trans (hb2.mono hb1.size)
    have ho2 := own_later ho hb2
    clear hlit ho hb hb2 hb0 hb1
    go_wp2
    go_loopw [4, 7, 8] (fun v a i wr => ∃ (A : Nat) (done : List ByteArray), done.length ≤ n ∧ A ≤ s.size ∧ i = .int .i64 (done.length : Nat) ∧ a = .int .i64 A ∧ Hid (PS = done ++ psL (n - done.length) (suf s A)) ∧ Hid (rep (bh 7) (n - done.length) (suf s A) = some E) ∧ wr.ownsRow w.heap.size 9 1 v done.length (strV done) ∧ Below w.heap.size w wr) (fun _ _ i _ => n - (intOf i).toNat)
    case atStart => exact ⟨1 + K, [], by simp, by omega, rfl, by go_num, HPS.out.symm, HE, ho2, hb3⟩
    case round =>
      clear ho2 hb3
      obtain ⟨A, done, hk, hA, rfl, rfl, HP, HR, hown, hbel⟩ := hrel
      by_cases hlt : done.length < n
      · obtain ⟨m, hm⟩ : ∃ m, n - done.length = m + 1 := ⟨n - done.length - 1, by omega⟩
        obtain ⟨R', h7, hrep⟩ := rep_succ (by have := HR.out; rwa [hm] at this)
        have h8 := bh_mono 7 _ R' h7
        have hT := fun w => term_is s hs 8 A 8 w rfl (by omega) hA
        generalize hD : done.length = D at *
        go_wp2_with fail
        refine (hT _).mono ?_
        rintro e w3 ⟨x, d, rfl, hTA, hb4⟩
        have hb5 := hbel.trans (hb4.mono hbel.size)
        have hown2 := own_later hown hb4
        clear hown hbel hb4 hT
        rcases hTA with ⟨hno, _, _⟩ | ⟨hx1, hx2, hso, hd⟩
        · rw [hno] at h8; cases h8
        · rw [h8] at hso
          simp only [Option.some.injEq] at hso
          have hX : (suf s A).extract 0 ((suf s A).size - R'.size) = s.extract A (A + x) := by
            rw [hso, suf_size, suf_size]
            apply ext_list
            rw [extract_list, extract_list, suf_list, List.drop_zero]
            congr 1
            omega
          obtain ⟨X, hXe⟩ : ∃ X, s.extract A (A + x) = X := ⟨_, rfl⟩
          have HP2 : Hid (PS = (done ++ [X]) ++ psL (n - (D + 1)) (suf s (A + x))) := (by
            rw [HP.out, hm, psL_succ h8, hX, hXe, hso, (by omega : n - (D + 1) = m)]; simp : PS = (done ++ [X]) ++ psL (n - (D + 1)) (suf s (A + x)))
          have HR2 : Hid (rep (bh 7) (n - (D + 1)) (suf s (A + x)) = some E) := (by rw [(by omega : n - (D + 1) = m), ← hso]; exact hrep : rep (bh 7) (n - (D + 1)) (suf s (A + x)) = some E)
          have HV : Hid (strV done ++ [.string X] = strV (done ++ [X])) := (by unfold strV; rw [List.map_append]; rfl : strV done ++ [.string X] = strV (done ++ [X]))
          have hl1 : (done ++ [X]).length = D + 1 := by rw [List.length_append, hD]; rfl
          have HL1 : Hid ((done ++ [X]).length = D + 1) := hl1
          clear HP HR h7 hrep h8 hX hso HPS HE hl1
          go_wp2_with (first | (at_builtin; refine wpList_append_own _ rfl _ _ 24 rfl w.heap.size 9 i0 (.string ⟨#[]⟩) 1 16 Tryz.underlying24 hi hz0 hz1 hz2 rfl (by decide) _ _ _ rfl (hown2.alloc _) ⟨w3.heap.size, 0, none⟩ 1 1 [.string X] rfl rfl (cell_one_new _ _ _) ?c2 ?c3 ?c4 ?c5 ?_) | go_in)
          case c2 => intro u hu; simp at hu; subst hu; rfl
          case c3 => unfold maxLen; omega
          case c4 => omega
          case c5 => have := hb5.size; simp; omega
          intro v' w4 hown' hgrow _
          have hb6 := below_app hb5 (Nat.le_refl _) hown2 hgrow
          rw [HV.out] at hown'
          clear hgrow hown2 hb5
          go_wp2
          go_roundw
          case rel =>
            have R : ∃ (A₁ : Nat) (done₁ : List ByteArray), done₁.length ≤ n ∧ A₁ ≤ s.size ∧ Value.int .i64 ((D : Int) + 1) = .int .i64 (done₁.length : Nat) ∧ Value.int .i64 ((A : Int) + (x : Int)) = .int .i64 A₁ ∧ Hid (PS = done₁ ++ psL (n - done₁.length) (suf s A₁)) ∧ Hid (rep (bh 7) (n - done₁.length) (suf s A₁) = some E) ∧ w4.ownsRow w.heap.size 9 1 v' done₁.length (strV done₁) ∧ Below w.heap.size w w4 := by
              have hl1 := HL1.out
              refine ⟨A + x, done ++ [X], by omega, by omega, by rw [hl1]; go_num, by go_num, ?_, ?_, ?_, hb6⟩
              · rw [hl1]; exact HP2
              · rw [hl1]; exact HR2
              · rw [hl1]; exact hown'
            first | exact R | ((repeat apply Exists.intro); exact ⟨R, rfl⟩)
          case measure => simp [intOf]; omega
      · have hD : done.length = n := by omega
        have hP := HP.out
        rw [hD, Nat.sub_self] at hP
        have hdone : PS = done := by rw [hP]; simp [psL]
        subst hdone
        clear HP HR HPS hP HE
        go_wp2
        go_ret2
        exact ⟨_, rfl, hown, hbel⟩
end Go.Proofs.YtkekfogepdhjhaaGreat

set_option linter.unusedVariables false
namespace Go.Proofs.YtkekfogepdhjhaaGreat
open Go.RowKit Own Var Term

/-- The digits of a number; of 0 none; so many at most. -/
def decF : Nat → Nat → List UInt8
  | 0, _ => []
  | f + 1, m => if m = 0 then [] else decF f (m / 10) ++ [UInt8.ofNat (48 + m % 10)]
theorem decF_zero (f : Nat) : decF f 0 = [] := by
  cases f with
  | zero => rfl
  | succ f => rw [decF, if_pos rfl]
theorem decF_same (f : Nat) : ∀ g m, m ≤ f → m ≤ g → decF f m = decF g m := by
  induction f with
  | zero =>
    intro g m h _
    obtain rfl : m = 0 := by omega
    rw [decF_zero, decF_zero]
  | succ f ih =>
    intro g m h1 h2
    cases g with
    | zero =>
      obtain rfl : m = 0 := by omega
      rw [decF_zero, decF_zero]
    | succ g =>
      rw [decF, decF]
      by_cases h : m = 0
      · rw [if_pos h, if_pos h]
      · rw [if_neg h, if_neg h, ih g (m / 10) (by omega) (by omega)]
def decP (m : Nat) : List UInt8 := decF m m
theorem decP_zero : decP 0 = [] := rfl
theorem decP_pos (m : Nat) (h : m ≠ 0) : decP m = decP (m / 10) ++ [UInt8.ofNat (48 + m % 10)] := by
  unfold decP
  rw [decF_same m (m + 1) m (Nat.le_refl _) (by omega), decF, if_neg h, decF_same m (m / 10) (m / 10) (by omega) (Nat.le_refl _)]
theorem text_snoc (m : Nat) (t : List UInt8) (h : m ≠ 0) : decP m ++ t = decP (m / 10) ++ (UInt8.ofNat (48 + m % 10) :: t) := by
  rw [decP_pos m h]; simp
theorem text_add (b : UInt8) (t : List UInt8) : (⟨#[b]⟩ : ByteArray) ++ ⟨t.toArray⟩ = ⟨(b :: t).toArray⟩ := by
  rw [ByteArray.mk_append_mk [b]]; rfl
/-- A mark. -/
def mt (k : Nat) : ByteArray := ⟨(109 :: decP k).toArray⟩

/-- The marks of a row. -/
def mtL (n : Nat) : List ByteArray := (List.range n).map fun i => mt (i + 1)
/-- The cells of a row of which the first k are marked. -/
def rowM (vs : List Value) (k : Nat) : List Value := strV (mtL k) ++ vs.drop k
theorem mtL_len (n : Nat) : (mtL n).length = n := by simp [mtL]
theorem rowM_zero (vs : List Value) : rowM vs 0 = vs := by simp [rowM, mtL, strV]
theorem rowM_full (vs : List Value) : rowM vs vs.length = strV (mtL vs.length) := by simp [rowM]
theorem rowM_len (vs : List Value) (k : Nat) (h : k ≤ vs.length) : (rowM vs k).length = vs.length := by
  unfold rowM strV; rw [List.length_append, List.length_map, mtL_len, List.length_drop]; omega
theorem rowM_set (vs : List Value) (k : Nat) (h : k < vs.length) : (rowM vs k).set k (.string (mt (k + 1))) = rowM vs (k + 1) := by
  unfold rowM strV
  rw [List.set_append_right _ _ (by rw [List.length_map, mtL_len]; exact Nat.le_refl _), List.length_map, mtL_len, Nat.sub_self, List.drop_eq_getElem_cons h]
  unfold mtL
  rw [List.range_succ, List.map_append, List.map_append, List.append_assoc]
  rfl

theorem parts_len (s : ByteArray) : (partsR s).1.length ≤ 12 := by
  unfold partsR
  cases hr : rk s 108 with
  | none => simp
  | some q =>
    obtain ⟨n, r⟩ := q
    obtain ⟨hn, E, hE⟩ := rk_list hr
    show (psL n r).length ≤ 12
    rw [psL_len n r E hE]
    exact hn
end Go.Proofs.YtkekfogepdhjhaaGreat

set_option linter.unusedVariables false
namespace Go.Proofs.YtkekfogepdhjhaaGreat
open Go.RowKit Own Var Term

theorem psL_size (n : Nat) : ∀ r E, rep (bh 7) n r = some E → ∀ x ∈ psL n r, x.size ≤ r.size := by
  induction n with
  | zero => intro r E _ x hx; simp [psL] at hx
  | succ n ih =>
    intro r E h x hx
    obtain ⟨r', h1, h2⟩ := rep_succ h
    rw [psL_succ (bh_mono 7 r r' h1)] at hx
    obtain ⟨j, _, hj, hr⟩ := bh_suf 7 r r' h1
    have hz : r'.size ≤ r.size := by rw [hr, suf_size]; omega
    rcases List.mem_cons.1 hx with rfl | hx
    · exact ext_size _ _
    · exact Nat.le_trans (ih r' E h2 x hx) hz
theorem parts_size (s : ByteArray) : ∀ x ∈ (partsR s).1, x.size ≤ 900 := by
  unfold partsR
  cases hr : rk s 108 with
  | none => intro x hx; simp at hx
  | some q =>
    obtain ⟨n, r⟩ := q
    obtain ⟨hn, E, hE⟩ := rk_list hr
    have hf := rk_facts hr
    intro x hx
    have := psL_size n r E hE x hx
    omega
theorem parts_no (s : ByteArray) (h : (partsR s).2 = false) : (partsR s).1 = [] := by
  unfold partsR at h ⊢
  cases hr : rk s 108 with
  | none => rfl
  | some q => rw [hr] at h; cases h
/-- What ReadNums tells, of the parts. -/
def numsP (xs : List ByteArray) (b : Bool) : List Int × Bool := if (b && xs.all fun x => (numR x).2) = true then (xs.map fun x => (numR x).1, true) else ([], false)
def numsR (s : ByteArray) : List Int × Bool := numsP (partsR s).1 (partsR s).2
/-- The cells of numbers; of the first k parts'. -/
def intV (zs : List Int) : List Value := zs.map (Value.int .i64)
def rowR (xs : List ByteArray) (k : Nat) : List Value := intV ((xs.take k).map fun x => (numR x).1)
theorem rowR_succ (xs : List ByteArray) (k : Nat) (h : k < xs.length) : rowR xs k ++ [.int .i64 (numR xs[k]).1] = rowR xs (k + 1) := by
  unfold rowR intV; rw [List.take_succ_eq_append_getElem h, List.map_append, List.map_append]; rfl
theorem rowR_full (xs : List ByteArray) : rowR xs xs.length = intV (xs.map fun x => (numR x).1) := by unfold rowR; rw [List.take_length]

theorem own_rowAt {α : Type} {f : α → Value} {w : World} {base n c : Nat} {a : Option Addr} {e : TypeId} {xs : List α} (h : w.ownsRow base e 1 (.slice a n c) n (xs.map f)) : RowAt f w a xs := by
  obtain ⟨a', c', e', _, hr⟩ := own_row h
  injection e' with e1 e2 e3
  subst e1
  exact hr
theorem own_ne {w : World} {b b' n n' : Nat} {v v' : Value} {xs xs' : List Value} (h : w.ownsRow b 9 1 v n xs) (h' : w.ownsRow b' 3 1 v' n' xs') : v.ownBlock = none ∨ v.ownBlock ≠ v'.ownBlock := by
  rcases h.2 with ⟨rfl, _⟩ | ⟨g, cap, cur, rfl, _, hg, _⟩
  · exact Or.inl rfl
  · right
    rcases h'.2 with ⟨rfl, _⟩ | ⟨g', cap', cur', rfl, _, hg', _⟩
    · simp [Value.ownBlock]
    · intro e
      simp only [Value.ownBlock, Option.some.injEq] at e
      subst e
      rw [hg] at hg'
      simp at hg'
end Go.Proofs.YtkekfogepdhjhaaGreat

set_option linter.unusedVariables false
namespace Go.Proofs.YtkekfogepdhjhaaGreat
open Go.RowKit Own Var Term

/-- The marks of a row. -/
def miL (n : Nat) : List Int := (List.range n).map fun (i : Nat) => ((i : Int) + 1)
/-- The cells of a row of which the first k are marked. -/
def rowI (vs : List Value) (k : Nat) : List Value := intV (miL k) ++ vs.drop k
theorem miL_len (n : Nat) : (miL n).length = n := by simp [miL]
theorem rowI_zero (vs : List Value) : rowI vs 0 = vs := by simp [rowI, miL, intV]
theorem rowI_full (vs : List Value) : rowI vs vs.length = intV (miL vs.length) := by simp [rowI]
theorem rowI_len (vs : List Value) (k : Nat) (h : k ≤ vs.length) : (rowI vs k).length = vs.length := by
  unfold rowI intV; rw [List.length_append, List.length_map, miL_len, List.length_drop]; omega
theorem rowI_set (vs : List Value) (k : Nat) (h : k < vs.length) : (rowI vs k).set k (.int .i64 ((k : Int) + 1)) = rowI vs (k + 1) := by
  unfold rowI intV
  rw [List.set_append_right _ _ (by rw [List.length_map, miL_len]; exact Nat.le_refl _), List.length_map, miL_len, Nat.sub_self, List.drop_eq_getElem_cons h]
  unfold miL
  rw [List.range_succ, List.map_append, List.map_append, List.append_assoc]
  rfl

theorem numsP_len (xs : List ByteArray) (b : Bool) (h : xs.length ≤ 12) : (numsP xs b).1.length ≤ 12 := by
  unfold numsP
  split
  · rw [List.length_map]; exact h
  · simp
theorem nums_len (s : ByteArray) : (numsR s).1.length ≤ 12 := numsP_len _ _ (parts_len s)
end Go.Proofs.YtkekfogepdhjhaaGreat
