/- slices.IndexFunc with the closure that asks for a Kid's tag. -/
import Derived.Test.YtengggpobhibcaaTf0
set_option linter.unusedVariables false
set_option maxRecDepth 100000
namespace Go.Proofs.Ytengggpobhibcaa.Nd
open Go Go.RowKit Go.Joins Own Draw Var

theorem tagK_is (mb tb : Nat) (bb oo ca n m : Nat) (y t : Int) (w : World) (hm : m < n) (hn : n ≤ 1000) (c0 : w.cell? ⟨mb, 0, none⟩ = some (.slice (some ⟨bb, oo, none⟩) n ca)) (c1 : w.cell? ⟨tb, 0, none⟩ = some (.int .i64 t)) (c2 : w.cell? ⟨bb, oo + m * 4, none⟩ = some (.int .i64 y)) :
    Calls Try.prog 15 #[.int .i64 (m : Int), .pointer (some ⟨mb, 0, none⟩), .pointer (some ⟨tb, 0, none⟩)] w fun e w' => e = .returned (.bool (y == t)) ∧ Below w.heap.size w w' := by
  have hml : (m : Int) < (n : Int) := by omega
  go_enter Try.func15, Try.ntmps15
  go_wp2_with fail
  go_quiet (fail)
  go_wp2
  go_ret
  exact ⟨rfl, below_drewN (Below.refl _ _) _⟩
def IxP (L : List PT) (t : Int) (ks : List Int) (e : Ending) : Prop :=
  (fkN L t ks = none ∧ e = .returned (.int .i64 (-1))) ∨ ∃ (j : Nat) (h : j < ks.length), fkN L t ks = some ks[j] ∧ e = .returned (.int .i64 (j : Int))
set_option maxHeartbeats 3200000 in
theorem idx_is (mb tb bb oo ca : Nat) (xs : List TT) (i : Nat) (hi : i ≤ xs.length) (hn : xs.length ≤ 60) (t : Int) (ka : Option Addr) (kc : Nat) (ks : List Int) (hK : ∀ k ∈ ks, 0 ≤ k ∧ k < (i : Int)) (w : World) (hm : mb < w.heap.size) (ht : tb < w.heap.size)
    (c0 : w.cell? ⟨mb, 0, none⟩ = some (.slice (some ⟨bb, oo, none⟩) xs.length ca)) (c1 : w.cell? ⟨tb, 0, none⟩ = some (.int .i64 t)) (hr : FRow 4 cT w (some ⟨bb, oo, none⟩) xs) (hk : RowAt (Value.int .i64) w ka ks) (hl : ks.length ≤ 1048576) :
    Calls Try.prog 14 #[.slice ka ks.length kc, .func (.func 15) #[] #[.pointer (some ⟨mb, 0, none⟩), .pointer (some ⟨tb, 0, none⟩)]] w fun e w' => IxP (xs.map stT) t ks e ∧ Below w.heap.size w w' := by
  go_enter Try.func14, Try.ntmps14
  go_wp2
  go_loopw [8] (fun v wr => ∃ k : Nat, k ≤ ks.length ∧ v = .int .i64 k ∧ Hid (fkN (xs.map stT) t ks = fkN (xs.map stT) t (ks.drop k)) ∧ Below w.heap.size w wr) (fun v _ => ks.length - (intOf v).toNat)
  case atStart => exact ⟨0, by omega, rfl, rfl, Below.refl _ _⟩
  case round =>
    obtain ⟨k, hkl, rfl, HF, hb⟩ := hrel
    by_cases hlt : k < ks.length
    · have hlt2 : (k : Int) < (ks.length : Int) := by omega
      obtain ⟨b1, o1, ea, l1, ck⟩ := (RowAt.later hk hb) k hlt
      have hkb := hK ks[k] (List.getElem_mem hlt)
      have HD := fkN_drop (xs.map stT) t ks k hlt
      obtain ⟨m, em⟩ : ∃ m : Nat, ks[k] = (m : Int) := ⟨(ks[k]).toNat, by omega⟩
      have hml : m < xs.length := by omega
      have hnd := nd_map hml
      rw [em, show ((m : Int)).toNat = m from rfl, hnd] at HD
      obtain ⟨b2, o2, ea2, l2, cc⟩ := (FRow.later hr hb) m hml
      have eb : b2 = bb ∧ o2 = oo := by injection ea2 with h; injection h with h1 h2; exact ⟨h1.symm, h2.symm⟩
      obtain ⟨rfl, rfl⟩ := eb
      have c2 : wr.cell? ⟨b2, o2 + m * 4, none⟩ = some (.int .i64 xs[m].1) := cc 0 _ rfl
      have K1 := tagK_is mb tb b2 o2 ca xs.length m xs[m].1 t wr hml (by omega) ((hb.cell (p := ⟨mb, 0, none⟩) hm).trans c0) ((hb.cell (p := ⟨tb, 0, none⟩) ht).trans c1) c2
      rw [em] at ck
      have HE : Hid (fkN (xs.map stT) t ks = if xs[m].1 == t then some ks[k] else fkN (xs.map stT) t (ks.drop (k + 1))) := HF.out.trans (HD.trans (by rw [em]; rfl))
      subst ea
      clear cc c2 hr hk HD HF hkb em hnd hK
      generalize xs[m].1 = y at *
      obtain ⟨b, hbb⟩ : ∃ b, (y == t) = b := ⟨_, rfl⟩
      rw [hbb] at K1
      have HE2 : Hid (fkN (xs.map stT) t ks = if b = true then some ks[k] else fkN (xs.map stT) t (ks.drop (k + 1))) := by show _ = _; rw [HE.out, hbb]
      clear HE hbb
      go_wp2_with fail
      refine K1.mono ?_
      clear K1
      rintro en w1 ⟨rfl, b1⟩
      have hb2 := hb.trans (b1.mono hb.size)
      clear b1 hb
      cases b with
      | true =>
        have HE3 : Hid (fkN (xs.map stT) t ks = some ks[k]) := HE2.out.trans (by rw [if_pos rfl])
        clear HE2
        go_wp2
        go_ret
        exact ⟨Or.inr ⟨k, hlt, HE3.out, rfl⟩, hb2⟩
      | false =>
        have HE3 : Hid (fkN (xs.map stT) t ks = fkN (xs.map stT) t (ks.drop (k + 1))) := HE2.out.trans (by rw [if_neg (by decide)])
        clear HE2
        go_wp2
        go_roundw
        case rel => exact ⟨k + 1, by omega, by go_num, HE3, hb2⟩
        case measure => simp [intOf]; omega
    · have hlt2 : ¬ (k : Int) < (ks.length : Int) := by omega
      have HE : Hid (fkN (xs.map stT) t ks = none) := by
        show _ = _
        rw [HF.out, List.drop_of_length_le (by omega)]
        rfl
      clear HF hr hk
      go_wp2
      go_ret
      exact ⟨Or.inl ⟨HE.out, rfl⟩, hb⟩
end Go.Proofs.Ytengggpobhibcaa.Nd
