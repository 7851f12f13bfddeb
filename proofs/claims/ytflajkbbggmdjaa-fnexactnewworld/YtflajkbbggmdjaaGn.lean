/- Rows that are appended. -/
import Derived.Test.YtflajkbbggmdjaaRe0
import Derived.Test.YtflajkbbggmdjaaAppRow
set_option linter.unusedVariables false
set_option maxRecDepth 100000
namespace Go.Proofs.Ytflajkbbggmdjaa
open Go Go.RowKit Go.Joins Own Draw

theorem Blk.only3 {g : Nat} {r : Option Nat} {vs : List Value} {w w' : World} (h : Blk g vs w) (hg : w.grownBy w' r) (hl : ¬ r = some g) (hw : g < w.heap.size) : Blk g vs w' :=
  ⟨fun i v e => ⟨(World.cell?_of_block (a := ⟨g, i, none⟩) (hg.block g hw (fun e => hl e.symm))).trans (h.out i v e).1, (World.frozen?_of_block (a := ⟨g, i, none⟩) (hg.block g hw (fun e => hl e.symm))).trans (h.out i v e).2⟩⟩
theorem news_blk {g : Nat} {vs : List Value} {W : World} (h : Blk g vs W) : ∀ ad, some (⟨g, 0, none⟩ : Addr) = some ad → ∀ j u, vs[j]? = some u → W.cell? (ad.add j) = some u := by
  intro ad ha j u hu
  cases ha
  have e2 : (⟨g, 0, none⟩ : Addr).add j = ⟨g, j, none⟩ := by simp only [Addr.add]; split <;> simp_all
  rw [e2]
  exact h.at j hu
theorem news_fl {s : Nat} {α : Type} {f : α → List Value} (hs : ∀ x, (f x).length = s) (hp : 0 < s) {w : World} {a : Option Addr} {xs : List α} (h : FRow s f w a xs) : ∀ ad, a = some ad → ∀ j u, (fl f xs)[j]? = some u → w.cell? (ad.add j) = some u := by
  intro ad ha j u hu
  by_cases hj : j / s < xs.length
  · obtain ⟨b, off, e, _, hc⟩ := h (j / s) hj
    rw [ha] at e
    cases e
    have e2 : (⟨b, off, none⟩ : Addr).add j = ⟨b, off + j, none⟩ := by simp only [Addr.add]; split <;> simp_all
    have e3 : j / s * s + j % s = j := Nat.div_add_mod' j s
    have hm : j % s < s := Nat.mod_lt _ hp
    have g := fl_get hs xs (j / s) hj (j % s) hm
    rw [e3, hu] at g
    rw [e2, ← e3, ← Nat.add_assoc]
    exact hc (j % s) u g.symm
  · rw [List.getElem?_eq_none (by rw [fl_len hs]; exact Nat.le_trans (Nat.mul_le_mul_right s (Nat.le_of_not_lt hj)) (Nat.div_mul_le_self j s))] at hu; cases hu
theorem frow_nil {s : Nat} {α : Type} {f : α → List Value} {w : World} {a : Option Addr} {xs : List α} (h : FRow s f w a xs) (ha : a = none) : xs.length = 0 := by
  cases xs with
  | nil => rfl
  | cons x xs =>
    obtain ⟨b, off, e, _⟩ := h 0 (by simp)
    rw [ha] at e; cases e
end Go.Proofs.Ytflajkbbggmdjaa
