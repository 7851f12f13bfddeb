/- What a row of rules keeps. -/
import Derived.Test.YtjbbhegijlnndaaNd0
import Derived.Test.YtjbbhegijlnndaaAw
set_option linter.unusedVariables false
set_option maxRecDepth 100000
namespace Go.Proofs.Ytjbbhegijlnndaa.Nd
open Go Go.RowKit Go.Joins Own Draw

theorem info59 : (Try.prog.info? 59).map (fun i => (i.zero, i.size, i.bytes)) = some (some (.agg #[.int .i64 0, .slice none 0 0, .int .i64 0]), 3, 40) := by kernel_rfl
theorem info3 : (Try.prog.info? 3).map (fun i => (i.zero, i.size, i.bytes)) = some (some (.int .i64 0), 1, 8) := by kernel_rfl
theorem gr_trans {w w1 w2 : World} {r r1 : Option Nat} (h : w.grownBy w1 r) (k : w1.grownBy w2 r1) (hr : r1 = r ∨ ∀ j, r1 = some j → w.heap.size ≤ j) : w.grownBy w2 r :=
  ⟨k.os.trans h.os, k.tape.trans h.tape, k.output.trans h.output, Nat.le_trans h.size k.size, fun j hj hne => (k.block j (Nat.lt_of_lt_of_le hj h.size) (by
    rcases hr with rfl | hr
    · exact hne
    · intro e; have := hr j e.symm; omega)).trans (h.block j hj hne)⟩
theorem own_ne {w : World} {B B' n1 n2 : Nat} {v1 v2 : Value} {x1 x2 : List Value} (h1 : w.ownsRow B 3 1 v1 n1 x1) (h2 : w.ownsRow B' 59 3 v2 n2 x2) : v1.ownBlock = none ∨ v1.ownBlock ≠ v2.ownBlock := by
  rcases h1.2 with ⟨rfl, rfl⟩ | ⟨g, cap, cur, rfl, _, hg, _⟩
  · exact Or.inl rfl
  · right
    rcases h2.2 with ⟨rfl, rfl⟩ | ⟨g2, cap2, cur2, rfl, _, hg2, _⟩
    · intro e; cases e
    · intro e
      have e2 : g = g2 := by injection e
      subst e2
      rw [hg] at hg2
      cases hg2
theorem blk_kept {g : Nat} {vs : List Value} {w w' : World} {r : Option Nat} (h : Blk g vs w) (hg : w.grownBy w' r) (hn : some g ≠ r) (hl : g < w.heap.size) : Blk g vs w' :=
  ⟨fun i v e => ⟨(World.cell?_of_block (a := ⟨g, i, none⟩) (hg.block g hl hn)).trans (h.out i v e).1, (World.frozen?_of_block (a := ⟨g, i, none⟩) (hg.block g hl hn)).trans (h.out i v e).2⟩⟩
theorem gr_below {w w' w2 : World} {r : Option Nat} (h : w.grownBy w' r) (hb : Below w'.heap.size w' w2) : w.grownBy w2 r :=
  ⟨hb.os.trans h.os, hb.tape.trans h.tape, hb.output.trans h.output, Nat.le_trans h.size hb.size, fun j hj hn => (hb.block j (Nat.lt_of_lt_of_le hj h.size)).trans (h.block j hj hn)⟩
theorem RoT.kept {B : Nat} {w w' : World} {r : Rw TT} {g : Nat} (h : RoT B w r) (hg : w.grownBy w' (some g)) (hn : (Value.slice r.1 r.2.2.length r.2.1).ownBlock ≠ some g) (hk : ∀ x ∈ r.2.2, (Value.slice x.2.1.1 x.2.1.2.2.length x.2.1.2.1).ownBlock ≠ some g) : RoT B w' r :=
  ⟨World.ownsRow.kept h.1 hg (Or.inr hn), fun x hx => World.ownsRow.kept (h.2 x hx) hg (Or.inr (hk x hx))⟩
def obT (r : Rw TT) : Option Nat := (Value.slice r.1 r.2.2.length r.2.1).ownBlock
def kbT (x : TT) : Option Nat := (Value.slice x.2.1.1 x.2.1.2.2.length x.2.1.2.1).ownBlock
/-- A block that a row of nodes does not lie in. -/
def Off (g : Nat) (r : Rw TT) : Prop := obT r ≠ some g ∧ ∀ x ∈ r.2.2, kbT x ≠ some g
theorem off_ge {B : Nat} {w : World} {r : Rw TT} (h : RoT B w r) {g : Nat} (hg : w.heap.size ≤ g) : Off g r :=
  ⟨fun e => by have := (World.ownsRow.lt h.1 g e).2; omega, fun x hx e => by have := (World.ownsRow.lt (h.2 x hx) g e).2; omega⟩
theorem RoT.off {B : Nat} {w w' : World} {r : Rw TT} {g : Nat} (h : RoT B w r) (hg : w.grownBy w' (some g)) (ho : Off g r) : RoT B w' r := h.kept hg ho.1 ho.2
theorem RoT.old {B : Nat} {w w' : World} {r : Rw TT} (h : RoT B w r) (hg : w.grownBy w' (obT r)) : ∀ x ∈ r.2.2, OwT B w' x := fun x hx => World.ownsRow.kept (h.2 x hx) hg (own_ne (h.2 x hx) h.1)
/-- No two nodes have their Kids in one place. -/
def ApT (r : Rw TT) : Prop := r.2.2.Pairwise (fun x y => ∀ k, kbT x = some k → kbT y ≠ some k)
theorem ap_put {r : Rw TT} {x : TT} {na : Option Addr} {nc : Nat} (h : ApT r) (hx : ∀ k, kbT x = some k → ∀ y ∈ r.2.2, kbT y ≠ some k) : ApT (na, nc, r.2.2 ++ [x]) := by
  unfold ApT
  rw [List.pairwise_append]
  refine ⟨h, by simp, fun y hy z hz k e c => ?_⟩
  rw [List.mem_singleton] at hz
  subst hz
  exact hx k c y hy e
theorem parts_of {t : TypeId} {z : Value} {n b : Nat} (h : (Try.prog.info? t).map (fun i => (i.zero, i.size, i.bytes)) = some (some z, n, b)) : ∃ i, Try.prog.info? t = some i ∧ i.zero = some z ∧ i.size = n ∧ i.bytes = b := by
  cases e : Try.prog.info? t with
  | none => rw [e] at h; cases h
  | some i =>
    rw [e] at h
    simp only [Option.map_some, Option.some.injEq, Prod.mk.injEq] at h
    exact ⟨i, rfl, h.1, h.2.1, h.2.2⟩
/-- The cells of a block of its own, as what is appended. -/
theorem news_box {g : Nat} {vs : List Value} {W : World} (h : Blk g vs W) : ∀ j u, vs[j]? = some u → W.cell? ((⟨g, 0, none⟩ : Addr).add j) = some u := by
  intro j u hu
  rw [Addr.add_lit, Nat.zero_add]
  exact (h.out j u hu).1
/-- A node put behind the others: what the row is then. -/
theorem put_mem {B : Nat} {w w' : World} {r : Rw TT} {x : TT} {na : Option Addr} {nc : Nat} (h : RoT B w r) (hx : OwT B w x) (ho : w'.ownsRow B 59 3 (.slice na (r.2.2.length + 1) nc) (r.2.2.length + 1) (fl cT r.2.2 ++ cT x)) (hg : w.grownBy w' (obT r))
    (hw : (Value.slice na (r.2.2.length + 1) nc).ownBlock = obT r ∨ (Value.slice na (r.2.2.length + 1) nc).ownBlock = some w.heap.size) :
    RoT B w' (na, nc, r.2.2 ++ [x]) ∧ (obT (na, nc, r.2.2 ++ [x]) = obT r ∨ obT (na, nc, r.2.2 ++ [x]) = some w.heap.size) ∧ ∀ g, g < w.heap.size → Off g r → kbT x ≠ some g → Off g (na, nc, r.2.2 ++ [x]) := by
  have hl : r.2.2.length + 1 = (r.2.2 ++ [x]).length := by simp
  have hlt := fun k e => (World.ownsRow.lt h.1 k e).2
  rw [hl] at ho hw
  refine ⟨⟨?_, ?_⟩, hw, fun g hgl hof hk => ⟨?_, ?_⟩⟩
  · show w'.ownsRow B 59 3 (.slice na (r.2.2 ++ [x]).length nc) (r.2.2 ++ [x]).length (fl cT (r.2.2 ++ [x]))
    rw [fl_snoc]
    exact ho
  · intro y hy
    rcases List.mem_append.1 hy with hy | hy
    · exact h.old hg y hy
    · rw [List.mem_singleton] at hy
      subst hy
      exact World.ownsRow.kept hx hg (own_ne hx h.1)
  · intro e
    rcases hw with hw | hw
    · exact hof.1 (hw.symm.trans e)
    · have e2 := hw.symm.trans e
      injection e2 with e2
      omega
  · intro y hy
    rcases List.mem_append.1 hy with hy | hy
    · exact hof.2 y hy
    · rw [List.mem_singleton] at hy
      subst hy
      exact hk
def kB (r : Rw Int) : Option Nat := (Value.slice r.1 r.2.2.length r.2.1).ownBlock
theorem cu_of {q r0 : Rw TT} {n : Nat} (h : obT q = obT r0 ∨ ∃ k, obT q = some k ∧ n ≤ k) : obT q = obT r0 ∨ ∀ j, obT q = some j → n ≤ j :=
  h.imp id (fun ⟨k, e, hk⟩ j e2 => by rw [e] at e2; injection e2 with e2; omega)
theorem sets_far {B g : Nat} {w : World} {kr : Rw Int} (h : RoI B w kr) (vs : List Value) (i : Nat) (hn : ∀ k, kB kr = some k → k ≠ g) : RoI B (w.setCells g i vs) kr := World.ownsRow.kept h (sets_grown g vs i w) (Or.inr (fun e => hn g e rfl))
theorem set_far {B g : Nat} {w : World} {kr : Rw Int} (h : RoI B w kr) (v : Value) (i : Nat) (hn : ∀ k, kB kr = some k → k ≠ g) : RoI B (w.setCell ⟨g, i, none⟩ v) kr := World.ownsRow.kept h (set_grown w g i v) (Or.inr (fun e => hn g e rfl))
theorem RoT.offO {B : Nat} {w w' : World} {r : Rw TT} {o : Option Nat} (h : RoT B w r) (hg : w.grownBy w' o) (ho : ∀ g, o = some g → Off g r) : RoT B w' r := by
  refine ⟨World.ownsRow.kept h.1 hg ?_, fun x hx => World.ownsRow.kept (h.2 x hx) hg ?_⟩
  · cases o with
    | none =>
      cases e : (Value.slice r.1 r.2.2.length r.2.1).ownBlock with
      | none => exact Or.inl rfl
      | some k => exact Or.inr (fun c => by cases c)
    | some g => exact Or.inr (ho g rfl).1
  · cases o with
    | none =>
      cases e : (Value.slice x.2.1.1 x.2.1.2.2.length x.2.1.2.1).ownBlock with
      | none => exact Or.inl rfl
      | some k => exact Or.inr (fun c => by cases c)
    | some g => exact Or.inr ((ho g rfl).2 x hx)
theorem blk_keptO {g : Nat} {vs : List Value} {w w' : World} {o : Option Nat} (h : Blk g vs w) (hg : w.grownBy w' o) (hn : ∀ k, o = some k → k ≠ g) (hl : g < w.heap.size) : Blk g vs w' := blk_kept h hg (fun e => hn g e.symm rfl) hl
theorem kput {B : Nat} {w : World} {kr : Rw Int} {v : Int} {na : Option Addr} {nc : Nat} (h : w.ownsRow B 3 1 (.slice na (kr.2.2.length + 1) nc) (kr.2.2.length + 1) (kr.2.2.map (Value.int .i64) ++ [.int .i64 v])) : RoI B w (na, nc, kr.2.2 ++ [v]) := by
  show w.ownsRow B 3 1 (.slice na (kr.2.2 ++ [v]).length nc) (kr.2.2 ++ [v]).length ((kr.2.2 ++ [v]).map (Value.int .i64))
  rw [List.length_append, List.length_singleton, List.map_append]
  exact h
end Go.Proofs.Ytjbbhegijlnndaa.Nd
