/- Texts of a list, drawn. -/
import Derived.Test.YtbpodcfbijhboaaNh3
import Derived.Test.YtbpodcfbijhboaaCu
import Derived.Test.YtbpodcfbijhboaaReg
import Derived.Test.YtbpodcfbijhboaaRge
import Derived.Test.YtbpodcfbijhboaaAw
import Derived.Test.YtbpodcfbijhboaaMn
import Derived.Test.YtbpodcfbijhboaaDrawSpoil
set_option linter.unusedVariables false
set_option maxRecDepth 100000
namespace Go.Proofs.Ytbpodcfbijhboaa.Nd
open Go Go.RowKit Go.Joins Own Draw Go.Proofs.Ytbpodcfbijhboaa

theorem step_wh {P : Program} {ops : Array Oper} {o : Oper} {a : Act} {w : World} {K : Act → World → Prop} {Q : Exit → Act → World → Prop} {E : Prop} (hgd : o.guard = none) (s x : Operand) (t : TypeId)
    (ho : o.op = .call { callee := .builtin .append, args := #[s, x], argTypes := #[t, t] })
    (base : Nat) (e : TypeId) (i : TypeInfo) (z : Value) (size bytes : Nat) (ht : P.underlying t = some (.slice e)) (hi : P.info? e = some i) (hz : i.zero = some z)
    (hsize : i.size = size) (hby : i.bytes = bytes) (hzs : z.cells.size = size) (hsz : 0 < size)
    (v : Value) (n : Nat) (xs : List Value) (hs : a.eval s = v) (hown : w.ownsRow base e size v n xs)
    (ad : Addr) (m c : Nat) (news : List Value) (hx : a.eval x = .slice (some ad) m c) (hl : news.length = m * size) (hnews : ∀ j u, news[j]? = some u → w.cell? (ad.add j) = some u) (h1 : ∀ u ∈ news, u.oneCell' = true)
    (h63 : n + m ≤ maxLen) (hbytes : (n + m) * bytes ≤ 140737488355328) (hbase : base ≤ w.heap.size) (hm : 0 < m)
    (h : ∀ v' w', w'.ownsRow base e size v' (n + m) (xs ++ news) → w.grownBy w' v.ownBlock → (v'.ownBlock = v.ownBlock ∨ v'.ownBlock = some w.heap.size) → K (a.put o.dst v') w') : if Region.wanted o (yielded ops a.tmps) = true then Oper.wp P o a w K Q else E := by
  rw [if_pos (by simp [Region.wanted, hgd])]
  obtain ⟨v', w', hr, ho2, hg, hw⟩ := run_append_where w base t o.type e i z size bytes ht hi hz hsize hby hzs hsz v n xs hown ad m c news hl hnews h1 h63 hbytes hbase hm
  unfold Oper.wp execOp
  simp only [ho, resolve, invoke, builtin, Sem.run_bind, Sem.run_pure, Result.andThen_ok, List.map_toArray, List.map_cons, List.map_nil, hs, hx, hr]
  exact h v' w' ho2 hg hw
theorem cu_grown {p len cap : Nat} {a : Option Addr} {zs : List Int} {W w w' : World} {row : Option Nat} (h : Cu p a len cap zs W w) (hp : p < W.heap.size) (hg : w.grownBy w' row) (hr : ∀ k, row = some k → W.heap.size ≤ k) : Cu p a len cap zs W w' := by
  obtain ⟨⟨s, h⟩, k⟩ := h
  exact ⟨⟨s, h.grown hg (fun j hj => by have := hr j hj; omega)⟩, hg.os.trans k.os, hg.tape.trans k.tape, hg.output.trans k.output, Nat.le_trans k.size hg.size, fun j hj hn => (hg.block j (Nat.lt_of_lt_of_le hj k.size) (fun e => by have := hr j e.symm; omega)).trans (k.block j hj hn)⟩
def PickP (p : Nat) (a : Option Addr) (len cap : Nat) (zs : List Int) (L : List ByteArray) (w : World) (e : Ending) (w' : World) : Prop := ∃ x : ByteArray, x ∈ L ∧ e = .returned (.string x) ∧ Cu p a len cap zs w w'
set_option maxHeartbeats 3200000 in
theorem pickS {p : Nat} {a : Option Addr} {len cap : Nat} {zs : List Int} {w : World} (g m : Nat) (L : List ByteArray) (h : Cu p a len cap zs w w) (hm : 0 < m) (hm2 : m ≤ 1000) (hg : p < g) (hgs : g < w.heap.size) (hl : L.length = m) (hL : Blk g (L.map Value.string) w) :
    Calls Try.prog 38 #[.pointer (some ⟨p, 0, none⟩), .slice (some ⟨g, 0, none⟩) m m] w fun e w' => PickP p a len cap zs L w e w' := by
  have HX := belowW (m : Int) h (by omega) (by omega)
  go_enter Try.func38, Try.ntmps38
  go_wp2_with fail
  refine HX.mono ?_
  clear HX
  rintro en w2 ⟨x, rfl, xa, xb, C⟩
  have hL2 := hL.only C.2 hgs (by omega)
  obtain ⟨k, rfl⟩ : ∃ k : Nat, x = (k : Int) := ⟨x.toNat, by omega⟩
  have hk : k < L.length := by omega
  have c0 := hL2.at k (v := .string L[k]) (by simp [hk])
  have HM : Hid (L[k] ∈ L) := List.getElem_mem hk
  generalize L[k] = y at c0 HM
  clear hL hL2
  go_wp2
  go_ret
  exact ⟨y, HM.out, rfl, C⟩
theorem newW (a : Option Addr) (len cap : Nat) (zs : List Int) (W : World) (hz : CodeAt W W.heap.size a len zs) :
    Calls Try.prog 30 #[.slice a len cap] W fun e w' => e = .returned (.pointer (some ⟨W.heap.size, 0, none⟩)) ∧ Cu W.heap.size a len cap zs w' w' ∧ Below W.heap.size W w' := by
  refine (new_go a len cap zs W hz).mono ?_
  rintro e w' ⟨rfl, h1, h2, h3⟩
  exact ⟨rfl, Cu.start ⟨h1, hz.below h2, Nat.zero_le _⟩, h2⟩
theorem spoilW {p : Nat} {a : Option Addr} {len cap : Nat} {zs : List Int} {w : World} (t : ByteArray) (h : Cu p a len cap zs w w) (ht : t.size ≤ 1000) :
    Calls Try.prog 37 #[.pointer (some ⟨p, 0, none⟩), .string t] w fun e w' => ∃ s : ByteArray, e = .returned (.string s) ∧ s.size ≤ 1004 ∧ Cu p a len cap zs w w' := by
  obtain ⟨⟨s, h⟩, _⟩ := h
  refine (spoilD p a len cap zs s w t h ht).mono ?_
  rintro e w' ⟨rfl, ⟨s', d⟩, o⟩
  exact ⟨_, rfl, Nat.le_trans (spoilV_size zs len t s) (by omega), ⟨s', d⟩, o⟩
/-- A name that is drawn: in memory of its own, small. -/
def SnP (p : Nat) (a : Option Addr) (len cap : Nat) (zs : List Int) (w : World) (e : Ending) (w' : World) : Prop :=
  ∃ y : TT, e = .returned (vT y) ∧ OwT w.heap.size w' y ∧ (y.1.2.2.length ≤ 6 ∧ (∀ x ∈ y.1.2.2, x.size ≤ 21) ∧ y.2.size ≤ 21) ∧ Cu p a len cap zs w w'
/-- The name that grows. -/
structure Grw (p : Nat) (a : Option Addr) (len cap : Nat) (zs : List Int) (w wr : World) (na : Option Addr) (nc : Nat) (L : List ByteArray) (r : ByteArray) : Prop where
  cu : Cu p a len cap zs w wr
  hp : p < w.heap.size
  tr : Blk w.heap.size [.slice none 0 0, .string ⟨#[]⟩] wr
  tn : Blk (w.heap.size + 1) [.slice na L.length nc, .string r] wr
  os : wr.ownsRow (w.heap.size + 2) 9 1 (.slice na L.length nc) L.length (L.map Value.string)
  sz : w.heap.size + 2 ≤ wr.heap.size
theorem news_blk {g : Nat} {vs : List Value} {W : World} (h : Blk g vs W) : ∀ j u, vs[j]? = some u → W.cell? ((⟨g, 0, none⟩ : Addr).add j) = some u := fun j u hu => by rw [add_spot, Nat.zero_add]; exact h.at j hu
section
variable {p len cap : Nat} {a : Option Addr} {zs : List Int} {w wr wr' : World} {na : Option Addr} {nc : Nat} {L : List ByteArray} {r : ByteArray}
theorem Grw.next (h : Grw p a len cap zs w wr na nc L r) (C : Cu p a len cap zs wr wr') : Grw p a len cap zs w wr' na nc L r :=
  ⟨h.cu.next C, h.hp, h.tr.only C.2 h.tr.lt (by have := h.hp; omega), h.tn.only C.2 h.tn.lt (by have := h.hp; omega), own_only h.os C.2 (by have := h.hp; omega), Nat.le_trans h.sz C.size⟩
theorem Grw.under (h : Grw p a len cap zs w wr na nc L r) (hb : Below wr.heap.size wr wr') : Grw p a len cap zs w wr' na nc L r :=
  ⟨h.cu.under hb, h.hp, h.tr.later hb h.tr.lt, h.tn.later hb h.tn.lt, own_later h.os hb, Nat.le_trans h.sz hb.size⟩
theorem Grw.alloc (h : Grw p a len cap zs w wr na nc L r) (o : Obj) : Grw p a len cap zs w (wr.alloc o) na nc L r := h.under ((Below.refl _ _).alloc (Nat.le_refl _) _)
theorem Grw.drew (h : Grw p a len cap zs w wr na nc L r) : Grw p a len cap zs w wr.drew na nc L r := h.under (Below.refl _ _).drew
theorem Grw.realm (h : Grw p a len cap zs w wr na nc L r) (s : ByteArray) : Grw p a len cap zs w (wr.setCell ⟨w.heap.size + 1, 1, none⟩ (.string s)) na nc L s :=
  ⟨cu_grown h.cu h.hp (set_grown wr _ 1 _) (fun k e => by injection e with e; omega), h.hp, h.tr.far (by omega) _ _, h.tn.set 1 _, own_set h.os (by omega), by simpa using h.sz⟩
/-- Parts behind those that are there: the row, then the field. -/
theorem Grw.more {w1 : World} {vs : List ByteArray} {mm : Option Addr} {mc : Nat} (h : Grw p a len cap zs w wr na nc L r) (own : w1.ownsRow (w.heap.size + 2) 9 1 (.slice mm (L.length + vs.length) mc) (L.length + vs.length) (L.map Value.string ++ vs.map Value.string)) (hg : wr.grownBy w1 (Value.slice na L.length nc).ownBlock) :
    Blk (w.heap.size + 1) [.slice na L.length nc, .string r] w1 ∧ Grw p a len cap zs w (w1.setCell ⟨w.heap.size + 1, 0, none⟩ (.slice mm (L.length + vs.length) mc)) mm mc (L ++ vs) r := by
  have hr : ∀ q, q < w.heap.size + 2 → some q ≠ (Value.slice na L.length nc).ownBlock := fun q hq e => by have := (h.os.lt q e.symm).1; omega
  have tn1 := blk_gr h.tn hg h.tn.lt (hr _ (by omega))
  have tr1 := blk_gr h.tr hg h.tr.lt (hr _ (by omega))
  have cu1 := cu_grown h.cu h.hp hg (fun k e => by have := (h.os.lt k e).1; omega)
  have hl : (L ++ vs).length = L.length + vs.length := by simp
  exact ⟨tn1, cu_grown cu1 h.hp (set_grown w1 _ 0 _) (fun k e => by injection e with e; omega), h.hp, tr1.far (by omega) _ _, by rw [hl]; exact tn1.set 0 _, by rw [hl, List.map_append]; exact own_set own (by omega), by have := h.sz; have := hg.size; simpa using (by omega : w.heap.size + 2 ≤ w1.heap.size)⟩
/-- The first part is another one. -/
theorem Grw.first (h : Grw p a len cap zs w wr na nc L r) (h0 : 0 < L.length) : ∃ g, na = some ⟨g, 0, none⟩ ∧ (∃ v, wr.cell? ⟨g, 0, none⟩ = some v) ∧ wr.frozen? ⟨g, 0, none⟩ = false ∧ ∀ s : ByteArray, Grw p a len cap zs w (wr.setCell ⟨g, 0, none⟩ (.string s)) na nc (L.set 0 s) r := by
  rcases h.os.2 with ⟨_, e0⟩ | ⟨g, c, cur, e, hb, _⟩
  · omega
  · injection e with e1 _ e3
    subst e1 e3
    have ho := h.os
    refine ⟨g, rfl, ?_, ho.frozenAt 0, fun s => ?_⟩
    · rw [ho.cellAt 0 (by omega)]
      exact ⟨_, List.getElem?_eq_getElem (by rw [List.length_map]; omega)⟩
    · have h1 := (ho.stored 0 (.string s)).1
      have e : (L.map Value.string).set 0 (.string s) = (L.set 0 s).map Value.string := by rw [List.map_set]
      rw [e] at h1
      have hl : (L.set 0 s).length = L.length := List.length_set
      exact ⟨cu_grown h.cu h.hp (set_grown wr g 0 _) (fun k e => by injection e with e; omega), h.hp, h.tr.far (by omega) _ _, by rw [hl]; exact h.tn.far (by omega) _ _, by rw [hl]; exact h1, by simpa using h.sz⟩
end
end Go.Proofs.Ytbpodcfbijhboaa.Nd
