/- Worlds that hold the same are as right, and as great. -/
import Derived.Test.YtjcmbbnklfemcaaGreatWs8
import Derived.Test.YtjcmbbnklfemcaaGreatNo1
set_option linter.unusedVariables false
set_option maxRecDepth 100000
namespace Go.Proofs.YtjcmbbnklfemcaaGreat.Nd
open Go Go.RowKit Go.Joins Own Draw Term

theorem sum_map {α β : Type} (f : β → Nat) (g : α → β) (h : α → Nat) (e : ∀ x, h x = f (g x)) (l : List α) : (l.map h).sum = ((l.map g).map f).sum := by
  rw [List.map_map]; congr 1; exact List.map_congr_left (fun x _ => e x)
theorem tot_st {d d' : TD} (h : stD d = stD d') : totD d = totD d' := by
  obtain ⟨f0, f1, f2, f3, f4, f5, f6, f7, f8, f9, f10⟩ := d
  obtain ⟨g0, g1, g2, g3, g4, g5, g6, g7, g8, g9, g10⟩ := d'
  unfold stD at h
  simp only [Prod.mk.injEq] at h
  obtain ⟨e0, e1, e2, e3, e4, e5, e6, e7, e8, e9, e10⟩ := h
  have q0 : totF f0 = totF g0 := by
    unfold stF at e0
    simp only [Prod.mk.injEq] at e0
    obtain ⟨a0, a1, a2, a3, a4⟩ := e0
    unfold totF rtI rtP
    rw [rsI_len a0, rsI_len a1, rsP_len a2, rsP_len a3]
  have q4 : totN f4 = totN g4 := by
    unfold stN at e4
    simp only [Prod.mk.injEq] at e4
    obtain ⟨a0, a1⟩ := e4
    unfold rsS at a0
    unfold totN rtS rtI
    rw [a0, rsI_len a1]
  have q3 : rtS f3 = rtS g3 := by unfold rsS at e3; unfold rtS; rw [e3]
  have q5 : rtW f5 = rtW g5 := rsW_len e5
  have q6 : rtC f6 = rtC g6 := by unfold rsC at e6; unfold rtC; rw [e6]
  have q8 : rtE f8 = rtE g8 := rsE_len e8
  have q10 : rtI f10 = rtI g10 := rsI_len e10
  have q7 : rtK f7 = rtK g7 := by
    have hl := rsK_len e7
    unfold rsK at e7
    unfold rtK
    rw [hl, sum_map (fun q : PK => q.2.length) stK totK (fun x => rfl), sum_map (fun q : PK => q.2.length) stK totK (fun x => rfl), e7]
  have q9 : rtQ f9 = rtQ g9 := by
    have hl := rsQ_len e9
    unfold rsQ at e9
    unfold rtQ
    rw [hl, sum_map (fun q : PQ => q.2.2.2.2.2.2.2.1.length + q.2.2.2.2.2.2.2.2.1.length + q.2.2.2.2.2.2.2.2.2.2.size) stQ totQ (fun x => rfl), sum_map (fun q : PQ => q.2.2.2.2.2.2.2.1.length + q.2.2.2.2.2.2.2.2.1.length + q.2.2.2.2.2.2.2.2.2.2.size) stQ totQ (fun x => rfl), e9]
  unfold totD
  dsimp only
  rw [q0, q3, q4, q5, q6, q7, q8, q9, q10]
theorem all_map_eq {α β : Type} (f : β → Bool) (g : α → β) (h : α → Bool) (e : ∀ x, h x = f (g x)) (l : List α) : (l.all h) = ((l.map g).all f) := by
  rw [List.all_map]; congr 1; funext x; exact e x
theorem wok_st {d d' : TD} (h : stD d = stD d') : wokB d = wokB d' := by
  obtain ⟨f0, f1, f2, f3, f4, f5, f6, f7, f8, f9, f10⟩ := d
  obtain ⟨g0, g1, g2, g3, g4, g5, g6, g7, g8, g9, g10⟩ := d'
  unfold stD at h
  simp only [Prod.mk.injEq] at h
  obtain ⟨e0, e1, e2, e3, e4, e5, e6, e7, e8, e9, e10⟩ := h
  have q0 : confB (cfOf f0) = confB (cfOf g0) := by
    unfold stF rsI rsP at e0
    simp only [Prod.mk.injEq] at e0
    obtain ⟨a0, a1, a2, a3, a4⟩ := e0
    unfold confB cfOf
    dsimp only
    rw [a0, a1, a2, a3, a4]
  have q4 : knB f4 = knB g4 := by
    unfold stN rsS rsI at e4
    simp only [Prod.mk.injEq] at e4
    obtain ⟨a0, a1⟩ := e4
    unfold knB
    rw [a0, a1]
  have l7 := rsK_len e7
  have l8 := rsE_len e8
  have l9 := rsQ_len e9
  have l10 := rsI_len e10
  have q7 : (f7.2.2.all fun x => caB x) = (g7.2.2.all fun x => caB x) := by
    unfold rsK at e7
    rw [all_map_eq (fun q : PK => Ch.cOk q.1 q.2) stK (fun x => caB x) (fun x => rfl), all_map_eq (fun q : PK => Ch.cOk q.1 q.2) stK (fun x => caB x) (fun x => rfl), e7]
  have q9 : ∀ n, (f9.2.2.all fun x => acB n x) = (g9.2.2.all fun x => acB n x) := by
    intro n
    unfold rsQ at e9
    rw [all_map_eq (fun q : PQ => btw q.1 0 2 && (btw q.2.1 0 5 && (btw q.2.2.2.2.2.2.2.2.2.1 0 (n : Int) && (allB q.2.2.2.2.2.2.2.1 6 && allB q.2.2.2.2.2.2.2.2.1 4)))) stQ (fun x => acB n x) (fun x => rfl), all_map_eq (fun q : PQ => btw q.1 0 2 && (btw q.2.1 0 5 && (btw q.2.2.2.2.2.2.2.2.2.1 0 (n : Int) && (allB q.2.2.2.2.2.2.2.1 6 && allB q.2.2.2.2.2.2.2.2.1 4)))) stQ (fun x => acB n x) (fun x => rfl), e9]
  unfold rsS at e3
  unfold rsW at e5
  unfold rsC at e6
  unfold wokB endB recB
  dsimp only
  rw [q0, q4, q7, q9, l7, l8, l9, l10, e1, e2, e3, e5, e6]
theorem wd_of {B : Nat} {w : World} {d y : TD} (ho : OwD B w y) (hs : stD y = stD d) (hl : totD d ≤ 1048576) (hk : OkD d) : WdOk B w y := by
  refine ⟨ho, by rw [tot_st hs]; exact hl, ?_⟩
  have e6 : y.2.2.2.2.2.2.1.2.2 = d.2.2.2.2.2.2.1.2.2 := by
    unfold stD at hs
    simp only [Prod.mk.injEq] at hs
    exact hs.2.2.2.2.2.2.1
  rw [e6]
  intro x hx
  have h6 : RkC d.2.2.2.2.2.2.1 := hk.2.2.2.2.2.1
  exact (h6 x hx).2.2.1
end Go.Proofs.YtjcmbbnklfemcaaGreat.Nd
