/- The straight way: what it is. -/
import Derived.Test.YtflajkbbggmdjaaWay
import Derived.Test.YtflajkbbggmdjaaRealm
import Derived.Test.YtflajkbbggmdjaaRe0
import Derived.Test.YtflajkbbggmdjaaAppRow
set_option linter.unusedVariables false
set_option maxRecDepth 100000
namespace Go.Proofs.Ytflajkbbggmdjaa
open Go Go.RowKit Go.Joins Own Draw


/-- The realms of the way. -/
def wayL (c : Cf) (a b : Int) : List Int := if a = b then [a] else if nhV c a b = -1 then [] else if nhV c a b = b then [a, b] else [a, nhV c a b, b]
theorem wayL_same (c : Cf) (a : Int) : wayL c a a = [a] := by unfold wayL; rw [if_pos rfl]
theorem wayL_none {c : Cf} {a b : Int} (h : ¬ a = b) (h1 : nhV c a b = -1) : wayL c a b = [] := by unfold wayL; rw [if_neg h, if_pos h1]
theorem wayL_one {c : Cf} {a b : Int} (h : ¬ a = b) (h1 : ¬ nhV c a b = -1) (h2 : nhV c a b = b) : wayL c a b = [a, b] := by unfold wayL; rw [if_neg h, if_neg h1, if_pos h2]
theorem wayL_two {c : Cf} {a b : Int} (h : ¬ a = b) (h1 : ¬ nhV c a b = -1) (h2 : ¬ nhV c a b = b) : wayL c a b = [a, nhV c a b, b] := by unfold wayL; rw [if_neg h, if_neg h1, if_neg h2]
theorem hop_on {c : Cf} {a b : Int} (h1 : ¬ nhV c a b = -1) (h2 : ¬ nhV c a b = b) : nhV c (nhV c a b) b = b := by
  rcases nh_cases c a b with ⟨h, _⟩ | ⟨r, h, _, h3 | h3⟩
  · exact absurd h h1
  · exact absurd (h.trans h3) h2
  · rw [h]; exact h3
theorem hop_in (c : Cf) (a b : Int) : nhV c a b = -1 ∨ 0 ≤ nhV c a b := by
  rcases nh_cases c a b with ⟨h, _⟩ | ⟨r, h, _⟩
  · exact Or.inl h
  · exact Or.inr (by omega)
theorem hop_to {c : Cf} {a b : Int} (h : ¬ nhV c a b = -1) : 0 ≤ b := by
  by_cases g : btw b 0 2 = true
  · exact ((btw_iff _ _ _).1 g).1
  · refine absurd ?_ h
    unfold nhV
    rw [if_neg (by rw [Bool.eq_false_iff.2 g]; simp)]
theorem Blk.only3 {g : Nat} {r : Option Nat} {vs : List Value} {w w' : World} (h : Blk g vs w) (hg : w.grownBy w' r) (hl : ¬ r = some g) (hw : g < w.heap.size) : Blk g vs w' :=
  ⟨fun i v e => ⟨(World.cell?_of_block (a := ⟨g, i, none⟩) (hg.block g hw (fun e => hl e.symm))).trans (h.out i v e).1, (World.frozen?_of_block (a := ⟨g, i, none⟩) (hg.block g hw (fun e => hl e.symm))).trans (h.out i v e).2⟩⟩
theorem wayL_len (c : Cf) (a b : Int) : (wayL c a b).length ≤ 3 := by
  unfold wayL
  split
  · simp
  · split
    · simp
    · split <;> simp
/-- An act. -/
abbrev actV (k a b d : Int) (t : TR) : TA := (k, a, b, d, 0, t.1, t.2.1, t.2.2, ⟨#[]⟩)
def headA (p r : Int) : List TA := [actV 2 p 0 0 (0, 0, 0), actV 4 r 0 0 (0, 0, 0), actV 5 p 1 0 (0, 0, 0)]
def stepA (p s : Int) (t : TR) (k : Nat) (r : Int) : List TA := [actV 3 p (k : Int) s t, actV 4 r (2 + 2 * (k : Int)) 0 (0, 0, 0), actV 5 p (2 + 2 * (k : Int) + 1) 0 (0, 0, 0)]
def lastA (p s q : Int) (k : Nat) : List TA := [actV 6 p (k : Int) q (0, 0, 0), actV 7 s (2 + 2 * (k : Int)) 0 (0, 0, 0)]
def stepsA (p s : Int) (t : TR) : Nat → List Int → List TA
  | _, [] => []
  | k, r :: rs => stepA p s t k r ++ stepsA p s t (k + 1) rs
theorem stepsA_len (p s : Int) (t : TR) : ∀ (l : List Int) (k : Nat), (stepsA p s t k l).length = 3 * l.length
  | [], k => rfl
  | r :: rs, k => by rw [stepsA, List.length_append, stepsA_len p s t rs]; simp [stepA]; omega
theorem stepsA_snoc (p s : Int) (t : TR) (r : Int) : ∀ (l : List Int) (k : Nat), stepsA p s t k (l ++ [r]) = stepsA p s t k l ++ stepA p s t (k + l.length) r
  | [], k => by simp [stepsA]
  | x :: xs, k => by
    rw [List.cons_append, stepsA, stepsA, stepsA_snoc p s t r xs, List.append_assoc, List.length_cons, show k + 1 + xs.length = k + (xs.length + 1) by omega]
def restB (t : TR) : Bool := btw t.1 0 7 && (btw t.2.1 0 255 && btw t.2.2 0 100000)
def okF (c : Cf) (p s : Int) (t : TR) (q : Int) : Bool := confB c && (btw p 0 5 && (btw s 0 2 && (restB t && btw q 0 7)))
def actsF (p s : Int) (t : TR) (q : Int) (r : Int) (l : List Int) : List TA := headA p r ++ stepsA p s t 0 l ++ lastA p s q l.length
/-- The acts of the straight way. -/
def flowL (c : Cf) (p s : Int) (t : TR) (q : Int) : List TA :=
  if okF c p s t q = true then (if wayL c (roV c p) (roV c (3 + s)) = [] then [] else actsF p s t q (roV c p) (wayL c (roV c p) (roV c (3 + s)))) else []
theorem flowL_len (c : Cf) (p s : Int) (t : TR) (q : Int) : (flowL c p s t q).length ≤ 14 := by
  unfold flowL
  split
  · split
    · simp
    · have := wayL_len c (roV c p) (roV c (3 + s))
      unfold actsF
      rw [List.length_append, List.length_append, stepsA_len]
      simp [headA, lastA]; omega
  · simp
theorem flow_same {c d : Cf} (E : Same c d) (p s : Int) (t : TR) (q : Int) : flowL d p s t q = flowL c p s t q := by
  have e : ∀ a b, wayL d a b = wayL c a b := by intro a b; unfold wayL; rw [nhV_same E]
  unfold flowL okF
  rw [E.conf, roV_same E, roV_same E, e]
theorem one_acts (xs : List TA) : ∀ u ∈ fl cA xs, u.oneCell' = true := by
  intro u hu
  obtain ⟨x, _, hx⟩ := List.mem_flatMap.1 hu
  simp only [cA, List.mem_cons, List.not_mem_nil, or_false] at hx
  rcases hx with rfl | rfl | rfl | rfl | rfl | rfl | rfl | rfl | rfl <;> rfl
theorem news_blk {g : Nat} {vs : List Value} {W : World} (h : Blk g vs W) : ∀ ad, some (⟨g, 0, none⟩ : Addr) = some ad → ∀ j u, vs[j]? = some u → W.cell? (ad.add j) = some u := by
  intro ad ha j u hu
  cases ha
  have e2 : (⟨g, 0, none⟩ : Addr).add j = ⟨g, j, none⟩ := by simp only [Addr.add]; split <;> simp_all
  rw [e2]
  exact h.at j hu
theorem news_fl {s : Nat} {α : Type} {f : α → List Value} (hs : ∀ x, (f x).length = s) (hp : 0 < s) {w : World} {a : Option Addr} {xs : List α} (h : FRow s f w a xs) : ∀ ad, a = some ad → ∀ j u, (fl f xs)[j]? = some u → w.cell? (ad.add j) = some u := by
  intro ad ha j u hu
  by_cases hj : j / s < xs.length
  · obtain ⟨b, off, e, _, hc⟩ := h (j / s) hj
    rw [ha] at e
    cases e
    have e2 : (⟨b, off, none⟩ : Addr).add j = ⟨b, off + j, none⟩ := by simp only [Addr.add]; split <;> simp_all
    have e3 : j / s * s + j % s = j := Nat.div_add_mod' j s
    have hm : j % s < s := Nat.mod_lt _ hp
    have g := fl_get hs xs (j / s) hj (j % s) hm
    rw [e3, hu] at g
    rw [e2, ← e3, ← Nat.add_assoc]
    exact hc (j % s) u g.symm
  · rw [List.getElem?_eq_none (by rw [fl_len hs]; exact Nat.le_trans (Nat.mul_le_mul_right s (Nat.le_of_not_lt hj)) (Nat.div_mul_le_self j s))] at hu; cases hu
theorem frow_nil {s : Nat} {α : Type} {f : α → List Value} {w : World} {a : Option Addr} {xs : List α} (h : FRow s f w a xs) (ha : a = none) : xs.length = 0 := by
  cases xs with
  | nil => rfl
  | cons x xs =>
    obtain ⟨b, off, e, _⟩ := h 0 (by simp)
    rw [ha] at e; cases e
theorem info71 : (Try.prog.info? 71).map (fun i => (i.zero, i.size, i.bytes)) = some (some (.agg #[.int .i64 0, .int .i64 0, .int .i64 0, .int .i64 0, .int .i64 0, .int .i64 0, .int .i64 0, .int .i64 0, .string ⟨#[]⟩]), 9, 80) := by kernel_rfl
end Go.Proofs.Ytflajkbbggmdjaa
