/- The first event of a key. -/
import Derived.Test.YtjcmbbnklfemcaaGreatNd0
import Derived.Laws.AppendOwn
set_option linter.unusedVariables false
set_option maxRecDepth 100000
namespace Go.Proofs.YtjcmbbnklfemcaaGreat.Nd
open Go Go.RowKit Go.Joins Own Draw
end Go.Proofs.YtjcmbbnklfemcaaGreat.Nd

set_option linter.unusedVariables false
namespace Go.Proofs.YtjcmbbnklfemcaaGreat.Nd
open Go Go.RowKit Go.Joins Own

theorem run_append_none {P : Program} {w : World} {base : Nat} (t ty e : TypeId) (i : TypeInfo) {size n : Nat} {v : Value} {xs : List Value} (ht : P.underlying t = some (.slice e)) (hi : P.info? e = some i) (hown : w.ownsRow base e size v n xs) (c : Nat) :
    (Builtin.append_ #[t, t] ty #[v, .slice none 0 c]).run P w = .ok v w := by
  rcases hown.2 with ⟨rfl, rfl⟩ | ⟨g, cap, cur, rfl, hbg, hg, hnc, hcm, hcs, htake⟩
  · simp [Builtin.append_, run_underlying ht, sizeOf, typeInfo, hi, Builtin.lenOf, Builtin.firstCells]
  · simp [Builtin.append_, run_underlying ht, sizeOf, typeInfo, hi, Builtin.lenOf, Builtin.firstCells, loadCells, hnc, storeCells]

theorem row_nil {α : Type} {f : α → Value} {w : World} {a : Option Addr} {xs : List α} (h : RowAt f w a xs) (ha : a = none) : xs.length = 0 := by
  cases xs with
  | nil => rfl
  | cons x xs =>
    obtain ⟨b, off, e, _⟩ := h 0 (by simp)
    rw [ha] at e; cases e
theorem news_row {α : Type} {f : α → Value} {w : World} {a : Option Addr} {xs : List α} (h : RowAt f w a xs) : ∀ ad, a = some ad → ∀ j u, (xs.map f)[j]? = some u → w.cell? (ad.add j) = some u := by
  intro ad ha j u hu
  rw [List.getElem?_map] at hu
  by_cases hj : j < xs.length
  · obtain ⟨b, off, e, _, hc⟩ := h j hj
    rw [ha] at e
    cases e
    have e2 : (⟨b, off, none⟩ : Addr).add j = ⟨b, off + j, none⟩ := by simp only [Addr.add]; split <;> simp_all
    rw [e2, hc]
    rw [List.getElem?_eq_getElem hj] at hu
    simpa using hu
  · rw [List.getElem?_eq_none (by omega)] at hu; cases hu
end Go.Proofs.YtjcmbbnklfemcaaGreat.Nd

set_option linter.unusedVariables false
set_option maxRecDepth 100000
namespace Go.Proofs.YtjcmbbnklfemcaaGreat.Nd
open Go Go.RowKit Go.Joins Own Draw
theorem irow_of {w : World} {B c : Nat} {a : Option Addr} {ys : List Int} (h : w.ownsRow B 3 1 (.slice a ys.length c) ys.length (ys.map (Value.int .i64))) : RowAt (Value.int .i64) w a ys := by
  rcases h.2 with ⟨e, h0⟩ | ⟨g, cap, cur, e, _⟩
  · intro j hj; omega
  · injection e with e1 _ e3
    subst e1 e3
    exact RowAt.own h
theorem infoInt3 : (Tryz.prog.info? 3).map (fun i => (i.zero, i.size, i.bytes)) = some (some (.int .i64 0), 1, 8) := by kernel_rfl
theorem one_ints (ys : List Int) : ∀ u ∈ ys.map (Value.int .i64), u.oneCell' = true := by
  intro u hu
  obtain ⟨x, _, rfl⟩ := List.mem_map.1 hu
  rfl
end Go.Proofs.YtjcmbbnklfemcaaGreat.Nd
