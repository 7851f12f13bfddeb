/- Can a term be put together: the program's way. -/
import Derived.Test.YtkekfogepdhjhaaGreatAsk
import Derived.Test.YtkekfogepdhjhaaGreatSpecAsk
set_option linter.unusedVariables false
namespace Go.Proofs.YtkekfogepdhjhaaGreat
open Go.RowKit Go.Proofs.YtkekfogepdhjhaaGreat.Own Var Term

/-- Can t be put together, of what is there and what is said of the keys? -/
def bdP (T : List ByteArray) (F : Int → Bool) : Nat → ByteArray → Bool
  | 0, _ => false
  | f + 1, t => inB T t || (match cut t with
    | none => false
    | some (n, r) =>
      if at_ t 0 = 97 then true
      else if at_ t 0 = 107 then F n
      else if at_ t 0 = 108 then (psL n r).all (bdP T F f)
      else F n && bdP T F f r)
theorem bdP_seen {T : List ByteArray} {F : Int → Bool} {f : Nat} {t : ByteArray} (h : inB T t = true) : bdP T F (f + 1) t = true := by rw [bdP, h]; rfl
theorem bdP_not {T : List ByteArray} {F : Int → Bool} {f n : Nat} {t r : ByteArray} (h : inB T t = false) (hc : cut t = some (n, r)) : bdP T F (f + 1) t = (if at_ t 0 = 97 then true else if at_ t 0 = 107 then F n else if at_ t 0 = 108 then (psL n r).all (bdP T F f) else F n && bdP T F f r) := by
  rw [bdP, h, hc]; rfl
theorem bdP_bld {T S : List ByteArray} {F : Int → Bool} {K : List Int} (hs : ∀ u, u ∈ T ↔ u ∈ S) (hk : ∀ k, F k = hasB K k) : ∀ (f : Nat) (t : ByteArray), bdP T F f t = bld S K f t := by
  intro f
  induction f with
  | zero => intro t; rfl
  | succ f ih =>
    intro t
    have e : bdP T F f = bld S K f := funext ih
    rw [bdP, bld, inB_same hs t, e]
    cases cut t with
    | none => rfl
    | some q => simp only [hk]

set_option maxRecDepth 100000 in
set_option maxHeartbeats 1600000 in
theorem indexF (bx cap : Nat) (a : Option Addr) (xs : List ByteArray) (w : World) (Pd : ByteArray → Bool) (hr : RowAt Value.string w a xs) (hl : xs.length ≤ 1048576)
    (hP : ∀ x, x ∈ xs → ∀ w', Below w.heap.size w w' → Calls Tryz.prog 66 #[.string x, .pointer (some ⟨bx, 0, none⟩)] w' fun e w'' => e = .returned (.bool (Pd x)) ∧ Below w'.heap.size w' w'') :
    Calls Tryz.prog 92 #[.slice a xs.length cap, .func (.func 66) #[] #[.pointer (some ⟨bx, 0, none⟩)]] w fun e w' => ∃ i : Int, e = .returned (.int .i64 i) ∧ (decide (i ≥ 0) = xs.any Pd) ∧ Below w.heap.size w w' := by
  have HP : Hid (∀ x, x ∈ xs → ∀ w', Below w.heap.size w w' → Calls Tryz.prog 66 #[.string x, .pointer (some ⟨bx, 0, none⟩)] w' fun e w'' => e = .returned (.bool (Pd x)) ∧ Below w'.heap.size w' w'') := hP
  have eg : ∀ args w, (callFunc 66 args).run Tryz.prog w = .ok (.enter 66 args) w := enters_of Tryz.func66 (by kernel_rfl) rfl
  clear hP
  go_enter Tryz.func92, Tryz.ntmps92
  go_wp2
  go_loopw [8] (fun i wr => ∃ k : Nat, k ≤ xs.length ∧ i = .int .i64 k ∧ Hid (∀ j (h : j < xs.length), j < k → Pd xs[j] = false) ∧ Below w.heap.size w wr) (fun i _ => xs.length - (intOf i).toNat)
  case atStart => exact ⟨0, Nat.zero_le _, rfl, fun j _ hj => absurd hj (by omega), Below.refl _ _⟩
  case round =>
    obtain ⟨k, hk, rfl, HN, hb⟩ := hrel
    by_cases hlt : k < xs.length
    · obtain ⟨b, off, rfl, hbl, hcell⟩ := hr k hlt
      have hcw := (hb.cell (p := ⟨b, off + k, none⟩) hbl).trans hcell
      have HC := HP.out xs[k] (List.getElem_mem hlt) wr hb
      have HS : Hid (Pd xs[k] = false → ∀ j (h : j < xs.length), j < k + 1 → Pd xs[j] = false) := by
        intro h1 j h hj
        by_cases e : j = k
        · subst e; exact h1
        · exact HN.out j h (by omega)
      have HA : Hid (Pd xs[k] = true → xs.any Pd = true) := fun h1 => List.any_eq_true.2 ⟨_, List.getElem_mem hlt, h1⟩
      generalize xs[k] = x at hcw HC HS HA
      cases hPx : Pd x with
      | true =>
        rw [hPx] at HC
        have ha := HA.out hPx
        clear HA HS hcell
        go_wp2_with fail
        refine HC.mono ?_
        rintro e w2 ⟨rfl, hb2⟩
        go_wp2
        go_ret
        exact ⟨k, rfl, by rw [ha]; simp, hb.trans (hb2.mono hb.size)⟩
      | false =>
        rw [hPx] at HC
        have HS2 := show Hid _ from HS.out hPx
        clear HA HS hcell
        go_wp2_with fail
        refine HC.mono ?_
        rintro e w2 ⟨rfl, hb2⟩
        have hb3 := hb.trans (hb2.mono hb.size)
        clear hb hb2 hcw HC
        go_wp2
        go_roundw
        case rel =>
          have R : ∃ k' : Nat, k' ≤ xs.length ∧ Value.int .i64 ((k : Int) + 1) = .int .i64 k' ∧ Hid (∀ j (h : j < xs.length), j < k' → Pd xs[j] = false) ∧ Below w.heap.size w w2 := ⟨k + 1, by omega, by go_num, HS2, hb3⟩
          first | exact R | ((repeat apply Exists.intro); exact ⟨R, rfl⟩)
        case measure => simp [intOf]; omega
    · have hall : xs.any Pd = false := by
        rw [List.any_eq_false]
        intro x hx
        obtain ⟨j, hj, rfl⟩ := List.getElem_of_mem hx
        rw [HN.out j hj (by omega)]
        simp
      go_wp2
      go_ret
      exact ⟨-1, rfl, by rw [hall]; simp, hb⟩

set_option maxRecDepth 100000 in
set_option maxHeartbeats 800000 in
theorem containsF (bx cap : Nat) (a : Option Addr) (xs : List ByteArray) (w : World) (Pd : ByteArray → Bool) (hr : RowAt Value.string w a xs) (hl : xs.length ≤ 1048576)
    (hP : ∀ x, x ∈ xs → ∀ w', Below w.heap.size w w' → Calls Tryz.prog 66 #[.string x, .pointer (some ⟨bx, 0, none⟩)] w' fun e w'' => e = .returned (.bool (Pd x)) ∧ Below w'.heap.size w' w'') :
    Calls Tryz.prog 65 #[.slice a xs.length cap, .func (.func 66) #[] #[.pointer (some ⟨bx, 0, none⟩)]] w fun e w' => e = .returned (.bool (xs.any Pd)) ∧ Below w.heap.size w w' := by
  have HI := indexF bx cap a xs w Pd hr hl hP
  clear hP
  go_enter Tryz.func65, Tryz.ntmps65
  go_wp2_with fail
  refine HI.mono ?_
  rintro e w1 ⟨i, rfl, hi, hb⟩
  go_wp2
  go_ret
  exact ⟨by rw [← hi]; rfl, hb⟩

theorem hd_kind {t r : ByteArray} {n : Nat} (h : cut t = some (n, r)) : at_ t 0 = 97 ∨ at_ t 0 = 107 ∨ at_ t 0 = 108 ∨ at_ t 0 = 115 := by
  unfold cut at h
  split at h
  · rename_i hc
    have h3 := hc.2.2
    unfold hdOk at h3
    by_cases h1 : at_ t 0 = 97
    · exact Or.inl h1
    · by_cases h2 : at_ t 0 = 108
      · exact Or.inr (Or.inr (Or.inl h2))
      · by_cases h4 : at_ t 0 = 107
        · exact Or.inr (Or.inl h4)
        · by_cases h5 : at_ t 0 = 115
          · exact Or.inr (Or.inr (Or.inr h5))
          · simp [h1, h2, h4, h5] at h3
  · cases h

set_option maxRecDepth 100000 in
set_option maxHeartbeats 6400000 in
theorem builds_is {X : Nat → Prop} {p N : Nat} {s : VS} : ∀ (f : Nat), f ≤ 8 → ∀ (t r0 : ByteArray) (w : World), ViewAt X p N s w → t.size ≤ 900 → bh f t = some r0 → r0.size = 0 →
    Calls Tryz.prog 31 #[.pointer (some ⟨p, 0, none⟩), .string t] w fun e w' => e = .returned (.bool (bdP s.T (fun k => (s.F k).1) f t)) ∧ Below w.heap.size w w' := by
  intro f
  induction f with
  | zero => intro _ t r0 w _ _ hb _; simp [bh] at hb
  | succ f ih =>
    intro hf t r0 w hv hz hb hr0
    have hT := isT_of hf hz hb hr0
    have h2 := not_empty ((isT_iff t).1 hT)
    obtain ⟨n, r, hc⟩ := ((isT_iff t).1 hT).cut
    obtain ⟨g0, g1, _⟩ := cut_size hc
    have hat := at_eq t 0 (by omega)
    have h00 : 0 < t.size := by omega
    obtain ⟨W1, hW1⟩ : ∃ W1, w.alloc (.cells #[.pointer (some ⟨p, 0, none⟩)] 50) = W1 := ⟨_, rfl⟩
    have hb0 : Below w.heap.size w W1 := by rw [← hW1]; exact (Below.refl _ _).alloc (Nat.le_refl _) _
    have cb : W1.cell? ⟨w.heap.size, 0, none⟩ = some (.pointer (some ⟨p, 0, none⟩)) := by rw [← hW1]; simp [go_sem]
    have LB : w.heap.size < W1.heap.size := by rw [← hW1]; simp
    have hv1 := hv.below hb0
    have H1 := saw_is hv1 (t := t) (by omega)
    have H2 := fun w' => cutHead_yes t r n w' (by omega) hc
    have hk : (Lit.int .i64 (n : Int)).wf = true := by simp [Lit.wf, IntKind.min, IntKind.max, IntKind.signed, IntKind.bits]; omega
    have fr := field_reached
    have hmf : ∀ (fn : Fn) (first cap : Array Value) (w : World), (Instr.makeFunc fn first cap).run Tryz.prog w = .ok (.func fn first cap) w := fun _ _ _ _ => rfl
    rw [bh_some hc] at hb
    generalize hBv : bdP s.T (fun k => (s.F k).1) (f + 1) t = Bv
    have HBv := show Hid (bdP s.T (fun k => (s.F k).1) (f + 1) t = Bv) from hBv
    clear hBv
    go_enter Tryz.func31, Tryz.ntmps31
    go_wp2_with fail
    try rw [hW1]
    refine H1.mono ?_
    clear H1 hW1
    rintro e w1 ⟨sb, rfl, hsb, hv2, hb1⟩
    have hb01 := hb0.trans (hb1.mono hb0.size)
    have cb1 := (hb1.cell (p := ⟨w.heap.size, 0, none⟩) LB).trans cb
    cases sb with
    | true =>
      have hB : Bv = true := by rw [← HBv.out]; exact bdP_seen ((inB_iff _ _).2 (hsb.1 rfl))
      subst hB
      clear hsb hv2 hb ih HBv
      go_wp2
      go_ret
      exact ⟨rfl, hb01⟩
    | false =>
      have hnin : inB s.T t = false := by
        cases hh : inB s.T t with
        | false => rfl
        | true => have := hsb.2 ((inB_iff _ _).1 hh); cases this
      have hB := HBv.out.symm.trans (bdP_not (F := fun k => (s.F k).1) (f := f) hnin hc)
      clear hnin hsb HBv
      go_wp2_with fail
      refine (H2 _).mono ?_
      rintro e w2 ⟨rfl, hb2⟩
      have hb02 := hb01.trans (hb2.mono hb01.size)
      have L1 : w.heap.size < w1.heap.size := Nat.lt_of_lt_of_le LB hb1.size
      have cb2 := (hb2.cell (p := ⟨w.heap.size, 0, none⟩) L1).trans cb1
      have hv3 := hv2.below hb2
      clear H2
      by_cases h97 : at_ t 0 = 97
      · rw [if_pos h97] at hB
        have e1 : ((t[0].toNat : Int) == 107) = false := by simp; omega
        have e2 : ((t[0].toNat : Int) == 108) = false := by simp; omega
        have e3 : ((t[0].toNat : Int) == 115) = false := by simp; omega
        subst hB
        clear hb ih hv3 hv2 hv1 hv
        go_wp2
        go_ret
        exact ⟨rfl, hb02⟩
      · rw [if_neg h97] at hB hb
        by_cases h107 : at_ t 0 = 107
        · rw [if_pos h107] at hB
          have e1 : t[0].toNat = 107 := by omega
          obtain ⟨mT, mL, DT, DL, rv, hm⟩ := hv3
          have e3 := hm.look_at hk (V := w2) rfl
          have d2 := hm.c2
          generalize (s.F n).1 = fb at e3 hB
          subst hB
          clear hb ih hm hv2 hv1 hv
          go_wp2
          go_ret
          exact ⟨rfl, hb02⟩
        · rw [if_neg h107] at hB
          by_cases h108 : at_ t 0 = 108
          · rw [if_pos h108] at hB hb
            have e1 : t[0].toNat = 108 := by omega
            have hpe : partsR t = (psL n r, true) := by unfold partsR; rw [rk_yes ((isT_iff t).1 hT) h108, hc]
            have hdeep := psL_deep (by omega) n r r0 hb
            have hpl := parts_len t
            have hsbz : ∀ q, q ∈ psL n r → q.size ≤ 900 := fun q hq => by
              have := sub_size (sub_parts (l := t) (p := q) (by rw [hpe]; exact hq)); omega
            have HPT := impl_parts t w2 (by omega)
            rw [hpe] at HPT hpl
            simp only at HPT hpl
            clear hb hpe
            go_wp2_with fail
            refine HPT.mono ?_
            clear HPT
            rintro e w3 ⟨v, rfl, ho, hb3⟩
            obtain ⟨a3, c3, rfl, _, hrow⟩ := own_row ho
            have hb03 := hb02.trans (hb3.mono hb02.size)
            have L2 : w.heap.size < w2.heap.size := Nat.lt_of_lt_of_le L1 hb2.size
            have cb3 := (hb3.cell (p := ⟨w.heap.size, 0, none⟩) L2).trans cb2
            have L3 : w.heap.size < w3.heap.size := Nat.lt_of_lt_of_le L2 hb3.size
            have hv4 := hv3.below hb3
            have HCF := containsF w.heap.size c3 a3 (psL n r) w3 (fun x => !(bdP s.T (fun k => (s.F k).1) f x)) hrow (by omega) (fun x hx w' hbw => by
              have hI := ih (by omega) x ⟨#[]⟩ w' (hv4.below hbw) (hsbz x hx) (hdeep x hx) rfl
              have cw := (hbw.cell (p := ⟨w.heap.size, 0, none⟩) L3).trans cb3
              generalize bdP s.T (fun k => (s.F k).1) f x = bb at hI
              clear ih hdeep hsbz
              go_enter Tryz.func66, Tryz.ntmps66
              go_wp2_with fail
              refine hI.mono ?_
              rintro e w'' ⟨rfl, hb''⟩
              go_wp2
              go_ret
              exact ⟨rfl, hb''⟩)
            have hnot : (!((psL n r).any fun x => !(bdP s.T (fun k => (s.F k).1) f x))) = (psL n r).all (bdP s.T (fun k => (s.F k).1) f) := by
              rw [Bool.eq_iff_iff]; simp
            rw [← hnot] at hB
            generalize ((psL n r).any fun x => !(bdP s.T (fun k => (s.F k).1) f x)) = ab at HCF hB
            subst hB
            clear ih hdeep hsbz hnot hrow ho hv4 hv3 hv2 hv1 hv
            go_wp2_with fail
            refine HCF.mono ?_
            rintro e w4 ⟨rfl, hb4⟩
            go_wp2
            go_ret
            exact ⟨rfl, hb03.trans (hb4.mono hb03.size)⟩
          · rw [if_neg h108] at hB hb
            have hkind := hd_kind hc
            have h115 : at_ t 0 = 115 := by omega
            have e1 : t[0].toNat = 115 := by omega
            rw [if_pos h115] at hb
            obtain ⟨mT, mL, DT, DL, rv, hm⟩ := hv3
            have e3 := hm.look_at hk (V := w2) rfl
            have d2 := hm.c2
            have hI := ih (by omega) r r0 w2 ⟨mT, mL, DT, DL, rv, hm⟩ (by omega) (by first | exact hb | simpa using hb) hr0
            generalize bdP s.T (fun k => (s.F k).1) f r = bb at hI hB
            generalize (s.F n).1 = fb at e3 hB
            subst hB
            clear hb ih hm hv2 hv1 hv
            cases fb with
            | true =>
              go_wp2_with fail
              refine hI.mono ?_
              rintro e w3 ⟨rfl, hb3⟩
              go_wp2
              go_ret
              exact ⟨rfl, hb02.trans (hb3.mono hb02.size)⟩
            | false =>
              clear hI
              go_wp2
              go_ret
              exact ⟨rfl, hb02⟩
end Go.Proofs.YtkekfogepdhjhaaGreat

set_option linter.unusedVariables false
namespace Go.Proofs.YtkekfogepdhjhaaGreat
open Go.RowKit Go.Proofs.YtkekfogepdhjhaaGreat.Own Var Term

/-- What Build asks. -/
def CanB (xs : List ByteArray) (ks : List Int) (t : ByteArray) : Prop := ∃ (S : List ByteArray) (K : List Int), (∀ u, u ∈ S ↔ SeenT xs ks u) ∧ (∀ k, k ∈ K ↔ ReachT xs ks k) ∧ bld S K 8 t = true

theorem canB_of {xs T : List ByteArray} {ks : List Int} {F : Int → Bool} (hks : ∀ k, k ∈ ks → 1 ≤ k ∧ k ≤ 1000000) (hT : ∀ t, t ∈ T ↔ SeenT xs ks t) (hF : ∀ k, F k = true ↔ ReachT xs ks k) (t : ByteArray) :
    bdP T F 8 t = true ↔ CanB xs ks t := by
  have hK : ∀ k, k ∈ ((List.range 1000001).map Int.ofNat).filter F ↔ ReachT xs ks k := by
    intro k
    rw [List.mem_filter, hF k]
    constructor
    · exact fun h => h.2
    · intro h
      refine ⟨?_, h⟩
      obtain ⟨h1, h2⟩ := reach_range hks h
      rw [List.mem_map]
      exact ⟨k.toNat, by rw [List.mem_range]; omega, by show (k.toNat : Int) = k; omega⟩
  generalize ((List.range 1000001).map Int.ofNat).filter F = K at hK
  have hFK : ∀ k, F k = hasB K k := fun k => by rw [Bool.eq_iff_iff, hF k, hasB_iff, hK k]
  have hbd := bdP_bld (T := T) (S := T) (F := F) (K := K) (fun _ => Iff.rfl) hFK 8 t
  constructor
  · intro h
    exact ⟨T, K, hT, hK, by rw [← hbd]; exact h⟩
  · rintro ⟨S', K', hS', hK', h⟩
    rw [hbd, bld_same (fun u => (hT u).trans (hS' u).symm) (fun k => (hK k).trans (hK' k).symm) 8 t]
    exact h

set_option maxRecDepth 100000 in
set_option maxHeartbeats 1600000 in
theorem build1_is {X : Nat → Prop} {p N0 M tb : Nat} {t : ByteArray} {xs : List ByteArray} {ks kd0 : List Int} {s0 : VS} {w : World} (hxs : ∀ x, x ∈ xs → isT x = true) (hM : (allInf xs).length ≤ M) (hM2 : M ≤ 50000000) (hx60 : xs.length ≤ 60) (hN0 : N0 ≤ 1000000) (hT0 : s0.T = []) (h0 : AI xs ks kd0 s0) (hkd0 : ∀ k, k ∈ ks → k ∈ kd0) (hv : ViewAt X p N0 s0 w)
    (hks : ∀ k, k ∈ ks → 1 ≤ k ∧ k ≤ 1000000) (hXt : X tb) (ht : w.cell? ⟨tb, 0, none⟩ = some (.string t)) (hI : isT t = true) :
    Calls Tryz.prog 29 #[.pointer (some ⟨p, 0, none⟩), .pointer (some ⟨tb, 0, none⟩)] w (AskPost X p w (fun b => b = true ↔ CanB xs ks t)) := by
  have hS := seeAll_is hxs hM hM2 hx60 hN0 hT0 h0 hv
  obtain ⟨hz, r0, hb8, hr0⟩ := (isT_iff t).1 hI
  go_enter Tryz.func29, Tryz.ntmps29
  go_wp2_with fail
  refine hS.mono ?_
  clear hS
  rintro e w1 ⟨rfl, T, F, kd, N, hkd, hAI, hV, hk⟩
  obtain ⟨hsT, hsF⟩ := hAI.done (fun k hk => hkd k (hkd0 k hk))
  have hc : w1.cell? ⟨tb, 0, none⟩ = some (.string t) := (hk.cell hXt 0).trans ht
  have HB := builds_is 8 (Nat.le_refl _) t r0 w1 hV hz hb8 hr0
  have HC : Hid (bdP T (fun k => (F k).1) 8 t = true ↔ CanB xs ks t) := canB_of hks hsT hsF t
  generalize bdP T (fun k => (F k).1) 8 t = v at HB HC
  clear hAI hsT hsF hv h0 hb8
  go_wp2_with fail
  refine HB.mono ?_
  rintro e w2 ⟨rfl, hb2⟩
  have HE : Hid (∃ s N, ViewAt X p N s w2) := ⟨_, N, hV.below hb2⟩
  have HK : Hid (Keep X w w2) := hk.trans (Keep.ofBelow hb2 hV.xlt)
  clear hV hk HB
  go_wp2
  go_ret
  exact ⟨v, rfl, HC.out, HK.out, HE.out⟩

set_option maxRecDepth 100000 in
set_option maxHeartbeats 1600000 in
theorem impl_build (a b : Option Addr) (ca cb : Nat) (xs : List ByteArray) (ks : List Int) (t : ByteArray) (w : World) (hr : RowAt Value.string w a xs) (hq : RowAt (Value.int .i64) w b ks)
    (hl : xs.length ≤ 1048576) (hl2 : ks.length ≤ 1048576) (hcap : xs.length ≤ ca) (hs : ∀ x ∈ xs, x.size ≤ 1048576) (htz : t.size ≤ 1048576) :
    Calls Tryz.prog 7 #[.agg #[.slice a xs.length ca, .slice b ks.length cb], .string t] w fun e w' => ∃ v, e = .returned (.bool v) ∧ (v = true ↔ kOk xs ks = true ∧ isT t = true ∧ CanB xs ks t) ∧ Below w.heap.size w w' := by
  have hmf : ∀ (fn : Fn) (first cap : Array Value) (w : World), (Instr.makeFunc fn first cap).run Tryz.prog w = .ok (.func fn first cap) w := fun _ _ _ _ => rfl
  obtain ⟨W2, hW2⟩ : ∃ W2, (w.alloc (.cells #[.slice a xs.length ca, .slice b ks.length cb] 27)).alloc (.cells #[.string t] 9) = W2 := ⟨_, rfl⟩
  have hb2 : Below w.heap.size w W2 := by rw [← hW2]; exact ((Below.refl _ _).alloc (Nat.le_refl _) _).alloc (by simp) _
  have z2 : W2.heap.size = w.heap.size + 2 := by rw [← hW2]; simp
  have c0 : W2.cell? ⟨w.heap.size, 0, none⟩ = some (.slice a xs.length ca) := by rw [← hW2]; simp [go_sem]
  have c1 : W2.cell? ⟨w.heap.size, 1, none⟩ = some (.slice b ks.length cb) := by rw [← hW2]; simp [go_sem]
  have ct : W2.cell? ⟨w.heap.size + 1, 0, none⟩ = some (.string t) := by rw [← hW2]; simp [go_sem]
  have hO := impl_ok t W2 (by omega)
  cases hI : isT t with
  | false =>
    rw [hI] at hO
    have HH := show Hid _ from z2
    clear z2
    go_enter Tryz.func7, Tryz.ntmps7
    go_wp2_with fail
    try rw [hW2]
    refine hO.mono ?_
    clear hW2 hO
    rintro e w3 ⟨rfl, hb3⟩
    go_wp2
    go_ret
    exact ⟨false, rfl, by simp, hb2.trans (hb3.mono hb2.size)⟩
  | true =>
    rw [hI] at hO
    have eg : ∀ args w, (callFunc 29 args).run Tryz.prog w = .ok (.enter 29 args) w := enters_of Tryz.func29 (by kernel_rfl) rfl
    have HA := fun (w3 : World) (hb3 : Below W2.heap.size W2 w3) => askB_is 29 #[.pointer (some ⟨w.heap.size + 1, 0, none⟩)] a b ca cb xs ks w3 (hr.later (hb2.trans (hb3.mono hb2.size))) (hq.later (hb2.trans (hb3.mono hb2.size))) hl hl2 hcap hs (fun v _ => v = true ↔ kOk xs ks = true ∧ CanB xs ks t) eg
      (fun hK w' _ => by simp [hK])
      (fun hK B p N0 s0 kd0 W hB hv hN hT hAI hkd hbW => by
        have hz3 := hb3.size
        have ct3 : w3.cell? ⟨w.heap.size + 1, 0, none⟩ = some (.string t) := (hb3.cell (p := ⟨w.heap.size + 1, 0, none⟩) (by show w.heap.size + 1 < W2.heap.size; omega)).trans ct
        have hct : W.cell? ⟨w.heap.size + 1, 0, none⟩ = some (.string t) := (hbW.cell (p := ⟨w.heap.size + 1, 0, none⟩) (by show w.heap.size + 1 < w3.heap.size; omega)).trans ct3
        refine (build1_is (M := (allInf xs).length) (kOk_facts hK).1 (Nat.le_refl _) (inf_bound hK) (kOk_len hK).1 hN hT hAI hkd hv (kOk_facts hK).2.2 (tb := w.heap.size + 1) (t := t) (by show w.heap.size + 1 < B; omega) hct hI).mono ?_
        rintro e w' ⟨v, rfl, hv', hk, hvw⟩
        exact ⟨v, rfl, hk, hvw, fun w'' _ _ => by rw [hv']; simp [hK]⟩)
    have HH := show Hid _ from z2
    have HA' := show Hid _ from HA
    have l0 : (⟨w.heap.size, 0, none⟩ : Addr).block < W2.heap.size := by show w.heap.size < _; omega
    clear z2 HA
    go_enter Tryz.func7, Tryz.ntmps7
    go_wp2_with fail
    try rw [hW2]
    refine hO.mono ?_
    clear hW2 hO
    rintro e w3 ⟨rfl, hb3⟩
    have d0 := (hb3.cell l0).trans c0
    have d1 := (hb3.cell (p := ⟨w.heap.size, 1, none⟩) l0).trans c1
    have HA := HA'.out w3 hb3
    have hb23 := hb2.trans (hb3.mono hb2.size)
    clear HA' c0 c1 hb3
    go_wp2_with fail
    refine HA.mono ?_
    clear HA
    rintro e w4 ⟨v, rfl, hv, hb4⟩
    have HV : Hid (v = true ↔ kOk xs ks = true ∧ CanB xs ks t) := hv
    clear hv
    go_wp2
    go_ret
    exact ⟨v, rfl, by rw [HV.out]; simp, hb23.trans (hb4.mono hb23.size)⟩
end Go.Proofs.YtkekfogepdhjhaaGreat
