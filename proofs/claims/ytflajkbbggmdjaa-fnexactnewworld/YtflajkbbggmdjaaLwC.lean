/- A Config of the laws: what stands of it. -/
import Derived.Test.YtflajkbbggmdjaaGn
import Derived.Test.YtflajkbbggmdjaaConf3
import Derived.Test.YtflajkbbggmdjaaMk
import Derived.Test.YtflajkbbggmdjaaNc6
import Derived.Test.YtflajkbbggmdjaaNz1
import Derived.Test.YtflajkbbggmdjaaConf2
set_option linter.unusedVariables false
set_option maxRecDepth 100000
namespace Go.Proofs.Ytflajkbbggmdjaa.Nd
open Go Go.RowKit Go.Joins Own Draw

theorem own_kept {w w' : World} {B e s n : Nat} {v : Value} {xs : List Value} {r : Option Nat} (h : w.ownsRow B e s v n xs) (hg : w.grownBy w' r) (hd : ∀ k, v.ownBlock = some k → r ≠ some k) : w'.ownsRow B e s v n xs := by
  refine World.ownsRow.kept h hg ?_
  cases hv : v.ownBlock with
  | none => exact Or.inl rfl
  | some k => right; intro e; exact hd k hv e.symm
def cfOf (p : TF) : Cf := ⟨p.1.1, p.1.2.1, p.1.2.2, p.2.1.1, p.2.1.2.1, p.2.1.2.2, p.2.2.1.1, p.2.2.1.2.1, p.2.2.1.2.2, p.2.2.2.1.1, p.2.2.2.1.2.1, p.2.2.2.1.2.2, p.2.2.2.2⟩
theorem prow_of {w : World} {a : Option Addr} {xs : List TP} (h : FRow 2 cP w a xs) : PRow w a xs := by
  intro j hj
  obtain ⟨b, o, e, hb, hc⟩ := h j hj
  exact ⟨b, o, e, hb, hc 0 _ rfl, hc 1 _ rfl⟩
theorem own_cap {w : World} {B t s n c : Nat} {a : Option Addr} {xs : List Value} (h : w.ownsRow B t s (.slice a n c) n xs) : n ≤ c := by
  rcases h.2 with ⟨e, h0⟩ | ⟨g, cap, cur, e, _, _, hc, _⟩
  · omega
  · injection e with _ _ e3; omega
theorem cf_at {B : Nat} {w : World} {p : TF} (h : OwF B w p) : CfAt (cfOf p) w := ⟨h.1.dp, h.2.1.dp, prow_of h.2.2.1.dp, prow_of h.2.2.2.dp⟩
theorem tot_st {y d : TF} (h : stF y = stF d) : totF y = totF d := by
  obtain ⟨f0, f1, f2, f3, f4⟩ := y
  obtain ⟨g0, g1, g2, g3, g4⟩ := d
  unfold stF at h
  simp only [Prod.mk.injEq] at h
  obtain ⟨e0, e1, e2, e3, e4⟩ := h
  unfold totF rtI rtP
  dsimp only
  rw [rsP_len e2, rsP_len e3]
  unfold rsI at e0 e1
  rw [e0, e1]
theorem cf_ok {B : Nat} {w : World} {p : TF} (h : OwF B w p) (hl : totF p ≤ 1048576) : CfOk (cfOf p) := by
  unfold totF rtI rtP at hl
  exact ⟨by unfold cfOf; dsimp only; omega, by unfold cfOf; dsimp only; omega, by unfold cfOf; dsimp only; omega, by unfold cfOf; dsimp only; omega, own_cap h.2.2.1, own_cap h.2.2.2⟩
theorem conf_st {y d : TF} (h : stF y = stF d) : confB (cfOf y) = confB (cfOf d) := by
  obtain ⟨⟨ua, uc, us⟩, ⟨sa, sc, ss⟩, ⟨la, lc, ls⟩, ⟨xa, xc, xs⟩, kk⟩ := y
  obtain ⟨⟨ua', uc', us'⟩, ⟨sa', sc', ss'⟩, ⟨la', lc', ls'⟩, ⟨xa', xc', xs'⟩, kk'⟩ := d
  unfold stF rsI rsP at h
  simp only [Prod.mk.injEq] at h
  obtain ⟨rfl, rfl, rfl, rfl, rfl⟩ := h
  rfl
theorem tot_conf {d : TF} (h : confB (cfOf d) = true) : 6 ≤ totF d := by
  unfold confB realmB at h
  simp only [Bool.and_eq_true, decide_eq_true_eq] at h
  have h1 := h.1.1
  have h2 := h.2.1.1
  unfold cfOf at h1 h2
  dsimp only at h1 h2
  unfold totF rtI
  omega
theorem Blk.only2 {g p : Nat} {vs : List Value} {w w' : World} (h : Blk g vs w) (hg : w.grownBy w' (some p)) (hl : g < p) (hw : g < w.heap.size := by omega) : Blk g vs w' :=
  ⟨fun i v e => ⟨(World.cell?_of_block (a := ⟨g, i, none⟩) (hg.block g hw (by simp; omega))).trans (h.out i v e).1, (World.frozen?_of_block (a := ⟨g, i, none⟩) (hg.block g hw (by simp; omega))).trans (h.out i v e).2⟩⟩
theorem ow_lt {B : Nat} {w : World} {y : TF} (h : OwF B w y) : ∀ v ∈ cF y, ∀ k, v.ownBlock = some k → k < w.heap.size := by
  intro v hv k hk
  obtain ⟨⟨ua, uc, us⟩, ⟨sa, sc, ss⟩, ⟨la, lc, ls⟩, ⟨xa, xc, xs⟩, kk⟩ := y
  obtain ⟨hu, hs, hL, hx⟩ := h
  simp only [cF, List.mem_cons, List.not_mem_nil, or_false] at hv
  rcases hv with rfl | rfl | rfl | rfl | rfl
  · exact (hu.lt k hk).2
  · exact (hs.lt k hk).2
  · exact (hL.lt k hk).2
  · exact (hx.lt k hk).2
  · simp [Value.ownBlock] at hk
theorem same_st {y d : TF} (h : stF y = stF d) : Same (cfOf d) (cfOf y) := by
  obtain ⟨⟨ua, uc, us⟩, ⟨sa, sc, ss⟩, ⟨la, lc, ls⟩, ⟨xa, xc, xs⟩, kk⟩ := y
  obtain ⟨⟨ua', uc', us'⟩, ⟨sa', sc', ss'⟩, ⟨la', lc', ls'⟩, ⟨xa', xc', xs'⟩, kk'⟩ := d
  unfold stF rsI rsP at h
  simp only [Prod.mk.injEq] at h
  obtain ⟨rfl, rfl, rfl, rfl, rfl⟩ := h
  exact ⟨rfl, rfl, rfl, rfl, rfl⟩
end Go.Proofs.Ytflajkbbggmdjaa.Nd
