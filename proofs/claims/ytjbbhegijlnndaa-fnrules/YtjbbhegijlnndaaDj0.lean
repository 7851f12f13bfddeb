/- Two rows of rules, drawn. -/
import Derived.Test.YtjbbhegijlnndaaDs2
import Derived.Test.YtjbbhegijlnndaaJo1
import Derived.Test.YtjbbhegijlnndaaSm0
set_option linter.unusedVariables false
set_option maxRecDepth 100000
namespace Go.Proofs.Ytjbbhegijlnndaa.Nd
open Go Go.RowKit Go.Joins Own Draw Go.Proofs.Ytjbbhegijlnndaa

/-- A row that can be read and is small. -/
structure Rs (w : World) (q : Rw TT) : Prop where
  dp : RpT w q
  len : q.2.2.length ≤ 21
  set : ∀ x ∈ q.2.2, x.2.1.2.2.length ≤ 31
theorem Rs.rt {w : World} {q : Rw TT} (h : Rs w q) : rtT q ≤ 1000 := by
  have := sumT_le (c := 31) q.2.2 (fun x hx => h.set x hx)
  have h3 : q.2.2.length * 31 ≤ 21 * 31 := Nat.mul_le_mul_right _ h.len
  have h4 := h.len
  unfold rtT
  omega
theorem Rs.later {w w' : World} {q : Rw TT} (h : Rs w q) (hb : Below w.heap.size w w') : Rs w' q := ⟨h.dp.later hb, h.len, h.set⟩
theorem Sm.rs {B n : Nat} {w : World} {q : Rw TT} (h : Sm B n w q) (hn : n ≤ 21) : Rs w q := ⟨h.ro.dp, Nat.le_trans h.len hn, fun x hx => Nat.le_trans (h.set x hx) (by omega)⟩
theorem rs_of {w : World} {q : Rw TT} (hp : RpT w q) {l : List PT} (e : rsT q = nrmP l) : Rs w q := by
  have h := nrm_small l
  rw [← e] at h
  refine ⟨hp, by have := h.1; have h2 : (rsT q).length = q.2.2.length := by simp [rsT]
                 omega, fun x hx => ?_⟩
  exact ri_len (okP_set (h.2 _ (List.mem_map_of_mem hx)))
set_option maxHeartbeats 3200000 in
theorem drawJoined_is (ad : Option Addr) (len cap : Nat) (zs : List Int) (W : World) (hz : CodeAt W W.heap.size ad len zs) :
    Calls Try.prog 13 #[.slice ad len cap] W fun e w' => ∃ p q : Rw TT, e = .returned (.tuple #[.slice p.1 p.2.2.length p.2.1, .slice q.1 q.2.2.length q.2.1]) ∧ Rs w' p ∧ Rs w' q ∧ Below W.heap.size W w' := by
  go_enter Try.func13, Try.ntmps13
  go_wp2_with fail
  refine (newW ad len cap zs W hz).mono ?_
  rintro e w1 ⟨rfl, C1, b1⟩
  clear hz
  obtain ⟨pc, hpc⟩ : ∃ n, W.heap.size = n := ⟨_, rfl⟩
  rw [hpc] at C1 b1 ⊢
  have l1 := C1.lt
  have S := some_is 6 w1 C1 (by omega) (by omega)
  go_wp2_with fail
  refine S.mono ?_
  clear S
  rintro e w2 ⟨p, rfl, sp, C2⟩
  have B2 := b1.trans (C2.2.below (Nat.le_refl _) l1)
  have l2 := C2.lt
  have S := some_is 6 w2 C2.here (by omega) (by omega)
  go_wp2_with fail
  refine S.mono ?_
  clear S
  rintro e w3 ⟨q, rfl, sq, C3⟩
  have B3 := B2.trans (C3.2.below (Nat.le_refl _) l2)
  have rp : Rs w3 p := ⟨(sp.ro.only C3.2 l1).dp, sp.len, fun x hx => Nat.le_trans (sp.set x hx) (by omega)⟩
  have rq : Rs w3 q := sq.rs (by omega)
  clear sp sq C1 C2 C3 b1 B2
  go_wp2
  refine bodyPost_ret (results_tmp2 rfl _ _ _) rfl ?_
  exact ⟨p, q, rfl, rp, rq, by rw [hpc]; exact B3⟩
set_option maxHeartbeats 3200000 in
theorem drawStricter_is (ad : Option Addr) (len cap : Nat) (zs : List Int) (W : World) (hz : CodeAt W W.heap.size ad len zs) :
    Calls Try.prog 16 #[.slice ad len cap] W fun e w' => ∃ p q : Rw TT, e = .returned (.tuple #[.slice p.1 p.2.2.length p.2.1, .slice q.1 q.2.2.length q.2.1]) ∧ Rs w' p ∧ Rs w' q ∧ Below W.heap.size W w' := by
  go_enter Try.func16, Try.ntmps16
  go_wp2_with fail
  refine (newW ad len cap zs W hz).mono ?_
  rintro e w1 ⟨rfl, C1, b1⟩
  clear hz
  obtain ⟨pc, hpc⟩ : ∃ n, W.heap.size = n := ⟨_, rfl⟩
  rw [hpc] at C1 b1 ⊢
  have l1 := C1.lt
  have S := some_is 6 w1 C1 (by omega) (by omega)
  go_wp2_with fail
  refine S.mono ?_
  clear S
  rintro e w2 ⟨p, rfl, sp, C2⟩
  have B2 := b1.trans (C2.2.below (Nat.le_refl _) l1)
  have l2 := C2.lt
  go_wp2_with fail
  refine (onceW 2 C2.here (by omega)).mono ?_
  rintro e w3 ⟨b, rfl, c3⟩
  have B3 := B2.trans (c3.2.below (Nat.le_refl _) l2)
  have l3 := c3.lt
  have rp3 := sp.ro.only c3.2 l1
  have S := some_is 3 w3 c3.here (by omega) (by omega)
  clear C1 C2 c3 b1 B2
  cases b with
  | true =>
    go_wp2_with fail
    refine S.mono ?_
    clear S
    rintro e w4 ⟨q, rfl, sq, C4⟩
    have B4 := B3.trans (C4.2.below (Nat.le_refl _) l3)
    have rp : Rs w4 p := ⟨(rp3.only C4.2 l1).dp, sp.len, fun x hx => Nat.le_trans (sp.set x hx) (by omega)⟩
    have rq : Rs w4 q := sq.rs (by omega)
    clear sp sq C4 B3 rp3
    have K := specJoined_is p q w4 rp.dp rq.dp (by have h1 := rp.rt; have h2 := rq.rt; omega)
    go_wp2_with fail
    refine K.mono ?_
    clear K
    rintro e w5 ⟨⟨j, rfl, hj, rj, aj⟩, b5⟩
    have B5 := B4.trans (b5.mono (by have := B4.size; omega))
    have rpF := rp.later b5
    have rjF : Rs w5 j := rs_of rj.dp (hj.trans (joP_nrm _ _).symm)
    clear rp rq b5 B4 rj aj hj
    go_wp2
    refine bodyPost_ret (results_tmp2 rfl _ _ _) rfl ?_
    exact ⟨j, p, rfl, rjF, rpF, by rw [hpc]; exact B5⟩
  | false =>
    go_wp2_with fail
    refine S.mono ?_
    clear S
    rintro e w4 ⟨q, rfl, sq, C4⟩
    have B4 := B3.trans (C4.2.below (Nat.le_refl _) l3)
    have rp : Rs w4 p := ⟨(rp3.only C4.2 l1).dp, sp.len, fun x hx => Nat.le_trans (sp.set x hx) (by omega)⟩
    have rq : Rs w4 q := sq.rs (by omega)
    clear sp sq C4 B3 rp3
    go_wp2
    refine bodyPost_ret (results_tmp2 rfl _ _ _) rfl ?_
    exact ⟨p, q, rfl, rp, rq, by rw [hpc]; exact B4⟩
end Go.Proofs.Ytjbbhegijlnndaa.Nd
