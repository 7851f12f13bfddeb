/- The law on what is found along a path. -/
import Derived.Test.YtengggpobhibcaaDm3
import Derived.Test.YtengggpobhibcaaTf1
import Derived.Test.YtengggpobhibcaaTf3
import Derived.BigQuiet
set_option linter.unusedVariables false
set_option maxRecDepth 100000
namespace Go.Proofs.Ytengggpobhibcaa.Nd
open Go Go.RowKit Go.Joins Own Draw Var

theorem big_go (a : Option Addr) (len cap : Nat) (W : World) (h : len ≤ 1048576) :
    Calls Try.prog 4 #[.slice a len cap] W fun e w' => e = .returned (.bool false) ∧ W = w' := by
  have hd : decide ((1048576 : Int) < (len : Int)) = false := by simp; omega
  go_enter Try.func4, Try.ntmps4
  go_wp2
  go_ret
  exact ⟨rfl, rfl⟩
theorem big_yes (a : Option Addr) (len cap : Nat) (W : World) (h : 1048576 < len) (h2 : len ≤ maxLen) :
    Calls Try.prog 4 #[.slice a len cap] W fun e w' => e = .returned (.bool true) ∧ W = w' := by
  unfold maxLen at h2
  have hd : decide ((1048576 : Int) < (len : Int)) = true := by simp; omega
  go_enter Try.func4, Try.ntmps4
  go_wp2
  go_ret
  exact ⟨rfl, rfl⟩
theorem sumT_le {c : Nat} : ∀ (l : List TT), (∀ x ∈ l, totT x ≤ c) → (l.map totT).sum ≤ l.length * c
  | [], _ => Nat.zero_le _
  | x :: l, h => by
    have h1 := h x (List.mem_cons_self ..)
    have h2 := sumT_le l (fun y hy => h y (List.mem_cons_of_mem _ hy))
    simp only [List.map_cons, List.sum_cons, List.length_cons, Nat.add_mul, Nat.one_mul]
    omega
theorem bd_rt {q : Rw TT} (h : BdT q) : rtT q ≤ 1048576 := by
  obtain ⟨h1, h2⟩ := h
  have := sumT_le (c := 1004) q.2.2 (fun x hx => by have := h2 x hx; show x.2.2.1.size + x.2.2.2.2.2.length ≤ 1004; omega)
  have h3 : q.2.2.length * 1004 ≤ 200 * 1004 := Nat.mul_le_mul_right _ h1
  unfold rtT
  omega
/-- Where a path leads to a node, the node has the path's last tag. -/
theorem gp_last (L : List PT) : ∀ (p : List Int) (i j : Nat), gpN L p i = some j → (p = [] ∧ j = i) ∨ p.getLast? = some (ndN L j).1
  | [], i, j, h => by
    left
    unfold gpN at h
    injection h with h
    exact ⟨rfl, h.symm⟩
  | t :: q, i, j, h => by
    right
    unfold gpN at h
    cases hf : fkN L t (ndN L i).2.2.2 with
    | none => rw [hf] at h; cases h
    | some k =>
      rw [hf] at h
      rcases gp_last L q k.toNat j h with ⟨rfl, rfl⟩ | hq
      · have := List.find?_some hf
        have e : (ndN L k.toNat).1 = t := by simpa using this
        rw [e]
        rfl
      · rw [List.getLast?_cons, hq]
        rfl
def HitN (xs : List TT) (p : List Int) (t : ByteArray) (u : Nat) : Prop := ∃ h : u < xs.length, xs[u].2.1 = true ∧ xs[u].2.2.1 = t ∧ (p.length = 0 ∨ p.getLast? = some xs[u].1)
theorem fd_found {xs : List TT} {p : List Int} {t : ByteArray} (h : fdF (xs.map stT) p = (t, true)) : ∃ u, HitN xs p t u := by
  unfold fdF at h
  split at h
  · unfold anO at h
    split at h
    · simp at h
    · rename_i i hi
      split at h
      · rename_i hp
        injection h with h1 _
        have hl : i < xs.length := by
          refine Classical.byContradiction fun hn => ?_
          have : ndN (xs.map stT) i = (0, false, ⟨#[]⟩, []) := by
            unfold ndN
            rw [List.getD_eq_getElem?_getD, List.getElem?_eq_none (by simpa using hn)]
            rfl
          rw [this] at hp
          cases hp
        rw [nd_map hl] at hp h1
        refine ⟨i, hl, hp, h1, ?_⟩
        rcases gp_last _ p _ i hi with ⟨rfl, _⟩ | e
        · exact Or.inl rfl
        · right; rw [e, nd_map hl]; rfl
      · simp at h
  · simp at h
set_option maxHeartbeats 6400000 in
theorem law_ft (ad : Option Addr) (len cap : Nat) (zs : List Int) (W : World) (hl : len ≤ 1048576) (hz : CodeAt W W.heap.size ad len zs) :
    Calls Try.prog 3 #[.slice ad len cap] W fun e w' => e = .returned (.bool true) ∧ Below W.heap.size W w' := by
  go_enter Try.func3, Try.ntmps3
  go_wp2_with fail
  refine (big_go ad len cap W hl).mono ?_
  rintro e w0 ⟨rfl, rfl⟩
  have KD := draw_is ad len cap zs W hz
  go_wp2_with fail
  refine KD.mono ?_
  clear KD hz
  rintro e w1 ⟨⟨a, ca, xs⟩, ⟨pa, pcap, p⟩, rfl, hr1, hp1, bd, hpl, la, b1⟩
  dsimp only at hpl la
  have hrt := bd_rt bd
  have hxl : xs.length ≤ 200 := bd.1
  have hp1' : RowAt (Value.int .i64) w1 pa p := hp1
  clear bd hp1
  obtain ⟨f, hf⟩ : ∃ f, fdF (xs.map stT) p = f := ⟨_, rfl⟩
  have KI := implFind_is a ca xs pa pcap p w1 hr1 hrt hp1' (by omega)
  rw [hf] at KI
  dsimp only [slT]
  go_wp2_with fail
  refine KI.mono ?_
  clear KI
  rintro e w2 ⟨rfl, b2⟩
  have hr2 := RpT.later hr1 b2
  have hp2 := RowAt.later hp1' b2
  have B2 := b1.trans (b2.mono b1.size)
  have KS := specFind_is a ca xs pa pcap p w2 hr2 hrt hp2 (by omega)
  rw [hf] at KS
  clear hr1 hp1' b1 b2
  go_wp2_with fail
  refine KS.mono ?_
  clear KS
  rintro e w3 ⟨rfl, b3⟩
  have HR3 : Hid (RpT w3 (a, ca, xs)) := RpT.later hr2 b3
  have HP3 : Hid (RowAt (Value.int .i64) w3 pa p) := RowAt.later hp2 b3
  have B3 := B2.trans (b3.mono B2.size)
  clear hr2 hp2 b3 B2 hrt
  obtain ⟨t, ok⟩ := f
  have HF : Hid (ok = true → ∃ u, HitN xs p t u) := fun e => fd_found (by rw [hf, e])
  clear hf
  dsimp only
  go_wp2
  go_loopw [9, 10] (fun vb vi wr => ∃ (b : Bool) (i : Nat), vb = .bool b ∧ vi = .int .i64 (i : Int) ∧ i ≤ xs.length ∧ Hid (∀ u, u < i → HitN xs p t u → b = true) ∧ Below w3.heap.size w3 wr) (fun _ vi _ => xs.length - (intOf vi).toNat)
  case atStart => exact ⟨false, 0, rfl, rfl, Nat.zero_le _, fun u hu => absurd hu (Nat.not_lt_zero _), Below.refl _ _⟩
  case round =>
    obtain ⟨b, i, rfl, rfl, hi, HI, hb⟩ := hrel
    have BB := B3.trans (hb.mono B3.size)
    by_cases hlt : i < xs.length
    rotate_left
    · obtain rfl : i = xs.length := by omega
      cases ok with
      | false =>
        go_wp2
        go_ret
        exact ⟨rfl, BB⟩
      | true =>
        obtain ⟨u, hu⟩ := HF.out rfl
        obtain rfl : b = true := HI.out u hu.1 hu
        clear hu
        go_wp2
        go_ret
        exact ⟨rfl, BB⟩
    have hil : (i : Int) < (xs.length : Int) := by omega
    cases b with
    | true =>
      skip
      clear HI
      go_wp2_with fail
      go_quiet (fail)
      have hb3 := below_drewN hb nq
      go_wp2
      go_roundw
      case rel => exact ⟨true, i + 1, rfl, (by first | rfl | go_num | (congr 1; omega)), by omega, fun _ _ _ => rfl, hb3⟩
      case measure => (simp [intOf]) <;> omega
    | false =>
      obtain ⟨bb, oo, ea, ll, hcc⟩ := (RpT.later HR3.out hb).1 i hlt
      try dsimp only at ea
      subst ea
      have q0 : wr.cell? ⟨bb, oo + i * 4, none⟩ = some (.int .i64 xs[i].1) := hcc 0 _ rfl
      have q1 : wr.cell? ⟨bb, oo + i * 4 + 1, none⟩ = some (.bool xs[i].2.1) := hcc 1 _ rfl
      have q2 : wr.cell? ⟨bb, oo + i * 4 + 2, none⟩ = some (.string xs[i].2.2.1) := hcc 2 _ rfl
      clear hcc
      have HS : Hid (∀ b' : Bool, (xs[i].2.1 = true → xs[i].2.2.1 = t → (p.length = 0 ∨ p.getLast? = some xs[i].1) → b' = true) → ∀ u, u < i + 1 → HitN xs p t u → b' = true) := by
        intro b' hb' u hu hh
        rcases Nat.lt_succ_iff_lt_or_eq.1 hu with h | rfl
        · exact absurd (HI.out u h hh) (by simp)
        · obtain ⟨h, h1, h2, h3⟩ := hh
          exact hb' h1 h2 h3
      generalize xs[i].1 = tg at *
      generalize xs[i].2.1 = pr at *
      generalize xs[i].2.2.1 = tx at *
      cases pr with
      | false =>
        have HN : Hid (∀ u, u < i + 1 → HitN xs p t u → false = true) := HS.out false (fun h => by cases h)
        clear HS
        clear HI
        go_wp2_with fail
        go_quiet (fail)
        have hb3 := below_drewN hb nq
        go_wp2
        go_roundw
        case rel => exact ⟨false, i + 1, rfl, (by first | rfl | go_num | (congr 1; omega)), by omega, HN, hb3⟩
        case measure => (simp [intOf]) <;> omega
      | true =>
        by_cases htx : tx = t
        · have htb : (tx.toList == t.toList) = true := by rw [htx]; simp
          by_cases hp0 : p.length = 0
          · have hp0i : (p.length : Int) = 0 := by omega
            have hp0b : ((p.length : Int) == 0) = true := beq_iff_eq.2 hp0i
            skip
            clear HS htx
            clear HI
            go_wp2_with fail
            go_quiet (fail)
            have hb3 := below_drewN hb nq
            go_wp2
            go_roundw
            case rel => exact ⟨true, i + 1, rfl, (by first | rfl | go_num | (congr 1; omega)), by omega, fun _ _ _ => rfl, hb3⟩
            case measure => (simp [intOf]) <;> omega
          · have hp0i : ¬ (p.length : Int) = 0 := by omega
            have hp0b : ((p.length : Int) == 0) = false := beq_eq_false_iff_ne.2 hp0i
            obtain ⟨d, hd⟩ : ∃ d, p.length = d + 1 := ⟨p.length - 1, by omega⟩
            have hdp : d < p.length := by omega
            obtain ⟨pb, po, epa, pl, pcl⟩ := (RowAt.later HP3.out hb) d hdp
            subst epa
            have hidx : (p.length : Int) - 1 = (d : Int) := by omega
            have hidl : (d : Int) < (p.length : Int) := by omega
            have hla : p.getLast? = some p[d] := by rw [List.getLast?_eq_getElem?, hd, Nat.add_sub_cancel, List.getElem?_eq_getElem hdp]
            clear hd
            rw [hla] at HS
            generalize p[d] = lt at *
            by_cases hlg : tg = lt
            · have hlb : (tg == lt) = true := beq_iff_eq.2 hlg
              skip
              clear HS htx hlg hla
              clear HI
              go_wp2_with fail
              go_quiet (fail)
              have hb3 := below_drewN hb nq
              go_wp2
              go_roundw
              case rel => exact ⟨true, i + 1, rfl, (by first | rfl | go_num | (congr 1; omega)), by omega, fun _ _ _ => rfl, hb3⟩
              case measure => (simp [intOf]) <;> omega
            · have hlb : (tg == lt) = false := beq_eq_false_iff_ne.2 hlg
              have HN : Hid (∀ u, u < i + 1 → HitN xs p t u → false = true) := HS.out false (fun _ _ h => by rcases h with h | h; exact absurd h hp0; injection h with h; exact absurd h.symm hlg)
              clear HS htx hlg hla
              clear HI
              go_wp2_with fail
              go_quiet (fail)
              have hb3 := below_drewN hb nq
              go_wp2
              go_roundw
              case rel => exact ⟨false, i + 1, rfl, (by first | rfl | go_num | (congr 1; omega)), by omega, HN, hb3⟩
              case measure => (simp [intOf]) <;> omega
        · have htb : (tx.toList == t.toList) = false := same_list htx
          have HN : Hid (∀ u, u < i + 1 → HitN xs p t u → false = true) := HS.out false (fun _ h => absurd h htx)
          clear HS htx
          clear HI
          go_wp2_with fail
          go_quiet (fail)
          have hb3 := below_drewN hb nq
          go_wp2
          go_roundw
          case rel => exact ⟨false, i + 1, rfl, (by first | rfl | go_num | (congr 1; omega)), by omega, HN, hb3⟩
          case measure => (simp [intOf]) <;> omega
end Go.Proofs.Ytengggpobhibcaa.Nd
