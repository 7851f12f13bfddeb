/- TlvFind as the model has it. -/
import Derived.Test.YtengggpobhibcaaOk1
import Derived.Test.YtengggpobhibcaaTf0
set_option linter.unusedVariables false
set_option maxRecDepth 100000
namespace Go.Proofs.Ytengggpobhibcaa.Nd
open Go Go.RowKit Go.Joins Own Draw Var

set_option maxHeartbeats 3200000 in
theorem specFind_is (a : Option Addr) (ca : Nat) (xs : List TT) (pa : Option Addr) (pc : Nat) (p : List Int) (w : World) (hr : RpT w (a, ca, xs)) (hrt : rtT (a, ca, xs) ≤ 1048576) (hp : RowAt (Value.int .i64) w pa p) (hpl : p.length ≤ 1048576) :
    Calls Try.prog 7 #[.slice a xs.length ca, .slice pa p.length pc] w fun e w' => e = .returned (.tuple #[.string (fdF (xs.map stT) p).1, .bool (fdF (xs.map stT) p).2]) ∧ Below w.heap.size w w' := by
  have hkl := (rt_parts hrt).2.2.1
  have K1 := specOk_is a ca xs w hr hrt
  obtain ⟨z, hz⟩ : ∃ z, (shM (xs.map stT)).isSome = z := ⟨_, rfl⟩
  rw [hz] at K1
  have HF : Hid (fdF (xs.map stT) p = if z = true then anO (xs.map stT) (gpN (xs.map stT) p (xs.length - 1)) else (⟨#[]⟩, false)) := by show _ = _; unfold fdF; rw [hz, List.length_map]
  go_enter Try.func7, Try.ntmps7
  go_wp2_with fail
  refine K1.mono ?_
  clear K1
  rintro e w1 ⟨rfl, b1⟩
  cases z with
  | false =>
    clear hz
    go_wp2
    go_ret2
    exact ⟨ended2 (show ((⟨#[]⟩ : ByteArray), false) = fdF (xs.map stT) p from HF.out.symm), b1⟩
  | true =>
    obtain ⟨hlen, hK⟩ := ok_kids hz
    have HF2 : Hid (fdF (xs.map stT) p = anO (xs.map stT) (gpN (xs.map stT) (p.drop 0) (xs.length - 1))) := HF.out.trans (by rw [if_pos rfl]; rfl)
    clear hz HF
    have hl1 : (xs.length : Int) - 1 = ((xs.length - 1 : Nat) : Int) := by omega
    go_wp2
    try rw [hl1]
    go_loopw [6, 7] (fun t v wr => ∃ i j : Nat, t = .int .i64 (i : Int) ∧ v = .int .i64 (j : Int) ∧ i < xs.length ∧ j ≤ p.length ∧ Hid (fdF (xs.map stT) p = anO (xs.map stT) (gpN (xs.map stT) (p.drop j) i)) ∧ Below w.heap.size w wr) (fun _ v _ => p.length - (intOf v).toNat)
    case atStart => exact ⟨xs.length - 1, 0, by first | rfl | (rw [hl1]), rfl, by omega, by omega, HF2, b1⟩
    case round =>
      clear HF2 b1
      obtain ⟨wo, hwo⟩ : ∃ wo, wo = wr := ⟨_, rfl⟩
      subst hwo
      obtain ⟨i, j, rfl, rfl, hi, hj, HF, hb⟩ := hrel
      have hrow := (RpT.later hr hb).1
      dsimp only at hrow
      obtain ⟨bb, oo, ea, ll, hcc⟩ := hrow i hi
      have hil : (i : Int) < (xs.length : Int) := by omega
      have hnd := nd_map hi
      by_cases hlt : j < p.length
      · obtain ⟨pb, po, epa, pl, pcl⟩ := (RowAt.later hp hb) j hlt
        have hjl : (j : Int) < (p.length : Int) := by omega
        have c3 : wo.cell? ⟨bb, oo + i * 4 + 3, none⟩ = some (.slice xs[i].2.2.2.1 xs[i].2.2.2.2.2.length xs[i].2.2.2.2.1) := hcc 3 _ rfl
        have hkw : RowAt (Value.int .i64) wo xs[i].2.2.2.1 xs[i].2.2.2.2.2 := (RpT.later hr hb).2 xs[i] (List.getElem_mem hi)
        have HK : Hid (∀ k ∈ xs[i].2.2.2.2.2, 0 ≤ k ∧ k < (i : Int)) := (hK i hi).2
        have hkb := hkl xs[i] (List.getElem_mem hi)
        have HG : Hid (gpN (xs.map stT) (p.drop j) i = match fkN (xs.map stT) p[j] xs[i].2.2.2.2.2 with | none => none | some k => gpN (xs.map stT) (p.drop (j + 1)) k.toNat) := by
          show _ = _
          rw [gp_step hlt, hnd]
          rfl
        try dsimp only at ea
        subst ea epa
        clear hcc hnd
        generalize xs[i].2.2.2.1 = ka at *
        generalize xs[i].2.2.2.2.1 = kc at *
        generalize xs[i].2.2.2.2.2 = ks at *
        generalize hpj : p[j] = t at *
        have n0 : nxV (fkN (xs.map stT) t (ks.drop ks.length)) = -1 := by rw [List.drop_length]; rfl
        go_wp2
        go_loopw [8, 9] (fun v8 v9 wq => ∃ d : Nat, d ≤ ks.length ∧ v9 = .int .i64 ((d : Int) - 1) ∧ v8 = .int .i64 (nxV (fkN (xs.map stT) t (ks.drop d))) ∧ Below wo.heap.size wo wq) (fun _ v9 _ => (intOf v9 + 1).toNat)
        case atStart => exact ⟨ks.length, Nat.le_refl _, rfl, by rw [n0], Below.refl _ _⟩
        case round =>
          obtain ⟨d, hd, rfl, rfl, hb2⟩ := hrel
          by_cases hd0 : d = 0
          · subst hd0
            have hn : ks.drop 0 = ks := rfl
            rw [hn]
            have hm1 : ¬ (0 : Int) ≤ ((0 : Nat) : Int) - 1 := by omega
            have BB : Below w.heap.size w wr := hb.trans (hb2.mono hb.size)
            cases hf : fkN (xs.map stT) t ks with
            | none =>
              have HE : Hid (fdF (xs.map stT) p = (⟨#[]⟩, false)) := by show _ = _; rw [HF.out, HG.out, hf]; rfl
              clear hf HG HF n0 c3 pcl hkw
              rw [show nxV none = -1 from rfl]
              go_wp2
              go_ret2
              exact ⟨ended2 (show ((⟨#[]⟩ : ByteArray), false) = fdF (xs.map stT) p from HE.out.symm), BB⟩
            | some k =>
              have hkk := HK.out k (fkN_mem hf)
              obtain ⟨m, rfl⟩ : ∃ m : Nat, k = (m : Int) := ⟨k.toNat, by omega⟩
              have HE : Hid (fdF (xs.map stT) p = anO (xs.map stT) (gpN (xs.map stT) (p.drop (j + 1)) m)) := by show _ = _; rw [HF.out, HG.out, hf]; rfl
              have hmi : m < xs.length := by omega
              clear hf HG HF n0 c3 pcl hkw hkk
              rw [show nxV (some (m : Int)) = (m : Int) from rfl]
              go_wp2
              go_roundw
              case rel => exact ⟨m, j + 1, rfl, by go_num, hmi, by omega, HE, BB⟩
              case measure => simp [intOf]; omega
          · obtain ⟨e, rfl⟩ : ∃ e, d = e + 1 := ⟨d - 1, by omega⟩
            have he : e < ks.length := by omega
            have hel : (e : Int) < (ks.length : Int) := by omega
            rw [show (((e + 1 : Nat)) : Int) - 1 = (e : Int) by omega]
            obtain ⟨kb, ko, eka, kl, kcl⟩ := (RowAt.later hkw hb2) e he
            have hkk := HK.out ks[e] (List.getElem_mem he)
            have HD := fkN_drop (xs.map stT) t ks e he
            obtain ⟨m, em⟩ : ∃ m : Nat, ks[e] = (m : Int) := ⟨(ks[e]).toNat, by omega⟩
            have hmx : m < xs.length := by omega
            have hml : (m : Int) < (xs.length : Int) := by omega
            rw [em, show ((m : Int)).toNat = m from rfl, nd_map hmx] at HD
            have HD2 : Hid (fkN (xs.map stT) t (ks.drop e) = if xs[m].1 == t then some (m : Int) else fkN (xs.map stT) t (ks.drop (e + 1))) := HD
            obtain ⟨b2, o2, ea2, l2, cc⟩ := (FRow.later (FRow.later hr.1 hb) hb2) m hmx
            have eb : b2 = bb ∧ o2 = oo := by injection ea2 with h; injection h with h1 h2; exact ⟨h1.symm, h2.symm⟩
            obtain ⟨rfl, rfl⟩ := eb
            have d0 : wr.cell? ⟨b2, o2 + m * 4, none⟩ = some (.int .i64 xs[m].1) := cc 0 _ rfl
            have d3 := (hb2.cell (p := ⟨b2, o2 + i * 4 + 3, none⟩) ll).trans c3
            have dp := (hb2.cell (p := ⟨pb, po + j, none⟩) pl).trans pcl
            rw [em] at kcl
            have hkx : ka = some ⟨kb, ko, none⟩ := eka
            subst hkx
            clear HD cc ea2 em hkk n0 c3 pcl hkw
            generalize xs[m].1 = y at *
            obtain ⟨b, hbb⟩ : ∃ b, (y == t) = b := ⟨_, rfl⟩
            have HD3 : Hid (fkN (xs.map stT) t (ks.drop e) = if b = true then some (m : Int) else fkN (xs.map stT) t (ks.drop (e + 1))) := by show _ = _; rw [HD2.out, hbb]
            clear HD2
            obtain ⟨X, hX⟩ : ∃ X, fkN (xs.map stT) t (ks.drop (e + 1)) = X := ⟨_, rfl⟩
            rw [hX]
            cases b with
            | true =>
              have HN : Hid (nxV (fkN (xs.map stT) t (ks.drop e)) = (m : Int)) := by show _ = _; rw [HD3.out]; rfl
              clear HD3 hX
              go_wp2_with fail
              go_quiet (fail)
              have hb3 := below_drewN hb2 nq
              go_wp2
              go_roundw
              case rel => exact ⟨e, by omega, rfl, by rw [HN.out], hb3⟩
              case measure => simp [intOf]
            | false =>
              have HN : Hid (nxV (fkN (xs.map stT) t (ks.drop e)) = nxV X) := by show _ = _; rw [HD3.out, hX]; rfl
              clear HD3 hX
              go_wp2_with fail
              go_quiet (fail)
              have hb3 := below_drewN hb2 nq
              go_wp2
              go_roundw
              case rel => exact ⟨e, by omega, rfl, by rw [HN.out], hb3⟩
              case measure => simp [intOf]
      · have hjl : ¬ (j : Int) < (p.length : Int) := by omega
        have c1 : wo.cell? ⟨bb, oo + i * 4 + 1, none⟩ = some (.bool xs[i].2.1) := hcc 1 _ rfl
        have c2 : wo.cell? ⟨bb, oo + i * 4 + 2, none⟩ = some (.string xs[i].2.2.1) := hcc 2 _ rfl
        have HE : Hid (fdF (xs.map stT) p = if xs[i].2.1 = true then (xs[i].2.2.1, true) else (⟨#[]⟩, false)) := by
          show _ = _
          rw [HF.out, List.drop_of_length_le (by omega)]
          show (if (ndN (xs.map stT) i).2.1 = true then ((ndN (xs.map stT) i).2.2.1, true) else ((⟨#[]⟩ : ByteArray), false)) = _
          rw [hnd]
          rfl
        try dsimp only at ea
        subst ea
        clear hcc hnd HF
        generalize xs[i].2.2.1 = dat at *
        generalize xs[i].2.1 = lf at *
        cases lf with
        | true =>
          have HE2 : Hid (fdF (xs.map stT) p = (dat, true)) := HE.out.trans (by rw [if_pos rfl])
          clear HE
          go_wp2
          go_ret2
          exact ⟨ended2 (show (dat, true) = fdF (xs.map stT) p from HE2.out.symm), hb⟩
        | false =>
          have HE2 : Hid (fdF (xs.map stT) p = (⟨#[]⟩, false)) := HE.out.trans (by rw [if_neg (by decide)])
          clear HE
          go_wp2
          go_ret2
          exact ⟨ended2 (show ((⟨#[]⟩ : ByteArray), false) = fdF (xs.map stT) p from HE2.out.symm), hb⟩
end Go.Proofs.Ytengggpobhibcaa.Nd
