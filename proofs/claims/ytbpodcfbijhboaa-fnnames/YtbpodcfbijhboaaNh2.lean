/- Pieces in memory. -/
import Derived.Test.YtbpodcfbijhboaaNh1
set_option linter.unusedVariables false
set_option maxRecDepth 100000
namespace Go.Proofs.Ytbpodcfbijhboaa.Nd
open Go Go.RowKit Go.Joins Own Draw

theorem blk_gr {g : Nat} {vs : List Value} {W W' : World} {row : Option Nat} (h : Blk g vs W) (hg : W.grownBy W' row) (hlt : g < W.heap.size) (hn : some g ≠ row) : Blk g vs W' :=
  ⟨fun i v e => by
    have hb := hg.block g hlt hn
    have h0 := h.out i v e
    exact ⟨(World.cell?_of_block (a := ⟨g, i, none⟩) hb).trans h0.1, (World.frozen?_of_block (a := ⟨g, i, none⟩) hb).trans h0.2⟩⟩
/-- Pieces: the ones that are done, and the last one. -/
structure Pcs (gi B : Nat) (w : World) (v : Value) (init : List (Rw Int)) (last : Rw Int) : Prop where
  ov : w.ownsRow B 63 1 v (init.length + 1) ((init ++ [last]).map sv)
  orr : ∀ x ∈ init ++ [last], w.ownsRow (gi + 1) 21 1 (sv x) x.2.2.length (x.2.2.map (Value.int .i32))
  nl : ∀ x ∈ init, (sv x).ownBlock = none ∨ (sv x).ownBlock ≠ (sv last).ownBlock
  nv : ∀ x ∈ init ++ [last], (sv x).ownBlock = none ∨ (sv x).ownBlock ≠ v.ownBlock
  ng : v.ownBlock ≠ some gi
theorem Pcs.iter {gi B : Nat} {w : World} {v : Value} {init : List (Rw Int)} {last : Rw Int} (h : Pcs gi B w v init last) (s : ByteArray) (p : Nat) : Pcs gi B (setIter w gi s p) v init last :=
  ⟨h.ov.kept (setIter_grown w gi s p) (Or.inr h.ng), fun x hx => own_far (h.orr x hx) (setIter_grown w gi s p) (by omega), h.nl, h.nv, h.ng⟩
theorem Pcs.alloc {gi B : Nat} {w : World} {v : Value} {init : List (Rw Int)} {last : Rw Int} (h : Pcs gi B w v init last) (o : Obj) : Pcs gi B (w.alloc o) v init last :=
  ⟨h.ov.alloc o, fun x hx => (h.orr x hx).alloc o, h.nl, h.nv, h.ng⟩
theorem Pcs.form {gi B : Nat} {w : World} {v : Value} {init : List (Rw Int)} {last : Rw Int} (h : Pcs gi B w v init last) : ∃ g cap, v = .slice (some ⟨g, 0, none⟩) (init.length + 1) cap ∧ init.length + 1 ≤ cap ∧ B ≤ g ∧ g < w.heap.size := by
  have hlt := h.ov.lt
  rcases h.ov.2 with ⟨_, h0⟩ | ⟨g, cap, cur, e, h1, _, h3, _⟩
  · omega
  · subst e
    exact ⟨g, cap, rfl, h3, hlt g rfl⟩
theorem Pcs.last_cell {gi B g cap : Nat} {w : World} {init : List (Rw Int)} {last : Rw Int} (h : Pcs gi B w (.slice (some ⟨g, 0, none⟩) (init.length + 1) cap) init last) :
    w.cell? ⟨g, init.length, none⟩ = some (sv last) ∧ w.frozen? ⟨g, init.length, none⟩ = false := by
  refine ⟨?_, h.ov.frozenAt _⟩
  rw [h.ov.cellAt _ (by omega)]
  simp
/-- A rune behind the last piece. -/
theorem Pcs.push {gi B g cap : Nat} {U w1 : World} {init : List (Rw Int)} {last : Rw Int} {na : Option Addr} {nc : Nat} {ys : List Int}
    (h : Pcs gi B U (.slice (some ⟨g, 0, none⟩) (init.length + 1) cap) init last) (hgi : gi < U.heap.size)
    (own : w1.ownsRow (gi + 1) 21 1 (.slice na ys.length nc) ys.length (ys.map (Value.int .i32))) (hg : U.grownBy w1 (sv last).ownBlock)
    (hw : (Value.slice na ys.length nc).ownBlock = (sv last).ownBlock ∨ (Value.slice na ys.length nc).ownBlock = some U.heap.size) :
    Pcs gi B (w1.setCell ⟨g, init.length, none⟩ (.slice na ys.length nc)) (.slice (some ⟨g, 0, none⟩) (init.length + 1) cap) init (na, nc, ys) := by
  have hgl := h.ov.lt g rfl
  have hlm : last ∈ init ++ [last] := by simp
  have hgr := set_grown w1 g init.length (.slice na ys.length nc)
  have hvl : some g ≠ (sv last).ownBlock := by
    rcases h.nv last hlm with e | e
    · rw [e]; simp
    · exact fun c => e c.symm
  have hv' : (Value.slice na ys.length nc).ownBlock ≠ some g := by
    rcases hw with e | e
    · rw [e]; exact fun c => hvl c.symm
    · rw [e]; intro c; injection c with c; omega
  refine ⟨?_, ?_, ?_, ?_, h.ng⟩
  · have h1 := h.ov.kept hg (Or.inr hvl)
    have h2 := (h1.stored init.length (.slice na ys.length nc)).1
    have e : ((init ++ [last]).map sv).set init.length (.slice na ys.length nc) = (init ++ [((na, nc, ys) : Rw Int)]).map sv := by
      rw [List.map_append, List.map_append, List.set_append_right _ _ (by simp)]
      simp
    rw [e] at h2
    exact h2
  · intro x hx
    rcases List.mem_append.1 hx with hx | hx
    · have hxm : x ∈ init ++ [last] := List.mem_append_left _ hx
      have h1 := (h.orr x hxm).kept hg (h.nl x hx)
      exact h1.kept hgr (h.nv x hxm)
    · rw [List.mem_singleton] at hx
      subst hx
      exact own.kept hgr (Or.inr hv')
  · intro x hx
    have hxm : x ∈ init ++ [last] := List.mem_append_left _ hx
    rcases h.nl x hx with e | e
    · exact Or.inl e
    · refine Or.inr fun c => ?_
      rcases hw with e2 | e2
      · exact e (c.trans e2)
      · have := ((h.orr x hxm).lt _ (c.trans e2)).2
        omega
  · intro x hx
    rcases List.mem_append.1 hx with hx | hx
    · exact h.nv x (List.mem_append_left _ hx)
    · rw [List.mem_singleton] at hx
      subst hx
      exact Or.inr hv'
/-- A piece more. -/
theorem Pcs.more {gi B : Nat} {U w1 : World} {v v' : Value} {init : List (Rw Int)} {last : Rw Int} (h : Pcs gi B U v init last) (hgi : gi < U.heap.size)
    (own : w1.ownsRow B 63 1 v' (init.length + 1 + 1) ((init ++ [last]).map sv ++ [.slice none 0 0])) (hg : U.grownBy w1 v.ownBlock) (hw : v'.ownBlock = v.ownBlock ∨ v'.ownBlock = some U.heap.size) :
    Pcs gi B w1 v' (init ++ [last]) ((none, 0, []) : Rw Int) := by
  have hne : ∀ x ∈ init ++ [last], (sv x).ownBlock = none ∨ (sv x).ownBlock ≠ v'.ownBlock := by
    intro x hx
    rcases h.nv x hx with e | e
    · exact Or.inl e
    · refine Or.inr fun c => ?_
      rcases hw with e2 | e2
      · exact e (c.trans e2)
      · have := ((h.orr x hx).lt _ (c.trans e2)).2
        omega
  refine ⟨?_, ?_, ?_, ?_, ?_⟩
  · rw [List.map_append, show [((none, 0, []) : Rw Int)].map sv = [.slice none 0 0] from rfl, List.length_append]
    exact own
  · intro x hx
    rcases List.mem_append.1 hx with hx | hx
    · exact (h.orr x hx).kept hg (h.nv x hx)
    · rw [List.mem_singleton] at hx
      subst hx
      exact World.ownsRow_nil _ _ _ _
  · intro x hx
    cases e : (sv x).ownBlock with
    | none => exact Or.inl rfl
    | some k => exact Or.inr (by intro c; cases c)
  · intro x hx
    rcases List.mem_append.1 hx with hx | hx
    · exact hne x hx
    · rw [List.mem_singleton] at hx
      subst hx
      exact Or.inl rfl
  · rcases hw with e | e
    · rw [e]; exact h.ng
    · rw [e]; intro c; injection c with c; omega
def iL (l : List UInt8) : List Int := l.map fun b => (b.toNat : Int)
theorem nm_pieces {ps : List (List UInt8)} {l : List UInt8} (h : ∀ x ∈ ps ++ [l], ∀ b ∈ x, b.toNat < 128) (r q : Bool) : nmR ((ps ++ [l]).map iL) r = nmI (ps, l, r, q) := by
  have e : ∀ x ∈ ps ++ [l], runesBytes (iL x) = strB x := fun x hx => runes_bytes x (h x hx)
  have e2 : ((ps ++ [l]).map iL).map runesBytes = (ps ++ [l]).map strB := by
    rw [List.map_map]
    exact List.map_congr_left e
  unfold nmR nmI
  cases r with
  | false => rw [if_neg (by decide), if_neg (show ¬ ((false : Bool) = true) by decide), e2]
  | true =>
    rw [if_pos rfl, if_pos rfl, List.map_take, e2]
    have hl : ((ps ++ [l]).map iL).length - 1 = ps.length := by simp
    rw [hl]
    refine Prod.ext ?_ ?_
    · show ((ps ++ [l]).map strB).take ps.length = ps.map strB
      rw [List.map_append]
      simp
    · show runesBytes (((ps ++ [l]).map iL).getD ps.length []) = strB l
      have : ((ps ++ [l]).map iL).getD ps.length [] = iL l := by simp [List.getD]
      rw [this]
      exact e l (by simp)
/-- What the pieces say, where all of the text is plain. -/
def DatP (s : ByteArray) (k : Nat) (init : List (Rw Int)) (last : Rw Int) (r q : Bool) : Prop :=
  (∀ b ∈ byL s, b.toNat < 128) → ∃ (ps : List (List UInt8)) (l : List UInt8), init.map (fun x => x.2.2) = ps.map iL ∧ last.2.2 = iL l ∧ (∀ x ∈ ps ++ [l], ∀ b ∈ x, b.toNat < 128) ∧ pI ((byL s).drop k) (ps, l, r, q) = pI (byL s) ([], [], false, false)
/-- What the pieces make. -/
def EndP (s : ByteArray) (init : List (Rw Int)) (last : Rw Int) (r : Bool) : Prop := (∀ b ∈ byL s, b.toNat < 128) → nmR ((init ++ [last]).map (fun x => x.2.2)) r = fI s
theorem end_of {s : ByteArray} {init : List (Rw Int)} {last : Rw Int} {r : Bool} (ha : ∀ b ∈ byL s, b.toNat < 128) {ps : List (List UInt8)} {l : List UInt8} {q : Bool} (h1 : init.map (fun x => x.2.2) = ps.map iL) (h2 : last.2.2 = iL l)
    (h3 : ∀ x ∈ ps ++ [l], ∀ b ∈ x, b.toNat < 128) (h4 : (ps, l, r, q) = pI (byL s) ([], [], false, false)) : nmR ((init ++ [last]).map (fun x => x.2.2)) r = fI s := by
  have e : (init ++ [last]).map (fun x => x.2.2) = (ps ++ [l]).map iL := by rw [List.map_append, List.map_append, h1]; simp [h2]
  rw [e, nm_pieces h3 r q]
  unfold fI
  rw [show s.data.toList = byL s from rfl, ← h4]
theorem dat_start (s : ByteArray) : DatP s 0 [] (none, 0, []) false false := fun _ => ⟨[], [], rfl, rfl, (fun x hx => by
  have hx2 : x = [] := by simpa using hx
  subst hx2
  intro b hb
  cases hb), rfl⟩
theorem dat_end {s : ByteArray} {k : Nat} {init : List (Rw Int)} {last : Rw Int} {r q : Bool} (h : DatP s k init last r q) (hk : ¬ k < s.size) : EndP s init last r := fun ha => by
  obtain ⟨ps, l, h1, h2, h3, h4⟩ := h ha
  rw [List.drop_of_length_le (show (byL s).length ≤ k by show s.data.toList.length ≤ k; have : s.data.toList.length = s.size := Array.length_toList.trans rfl; omega)] at h4
  exact end_of ha h1 h2 h3 h4
theorem byL_drop {s : ByteArray} {k : Nat} (h : k < s.size) : (byL s).drop k = s[k] :: (byL s).drop (k + 1) := by
  unfold byL
  rw [List.drop_eq_getElem_cons (by have : s.data.toList.length = s.size := Array.length_toList.trans rfl; omega)]
  rfl
def sgR (r : Int) : Bool := decide (r = 47) || (decide (r = 64) || decide (r = 92))
theorem sgR_byte (b : UInt8) : sgR (b.toNat : Int) = sgB b := by
  unfold sgR sgB
  congr 1
  · exact decide_eq_decide.2 (by omega)
  · congr 1 <;> exact decide_eq_decide.2 (by omega)
section
variable {s : ByteArray} {k : Nat} {init : List (Rw Int)} {last : Rw Int} (hk : k < s.size)
include hk
theorem mem_at : s[k] ∈ byL s := by
  unfold byL
  exact List.mem_iff_getElem.2 ⟨k, by have : s.data.toList.length = s.size := Array.length_toList.trans rfl; omega, rfl⟩
/-- Each step, where the text is plain: the rune is the byte, the place behind it the next one. -/
theorem rune_at (ha : ∀ b ∈ byL s, b.toNat < 128) : Utf8.decode s k = ((s[k]'hk).toNat, 1) := decode_ascii s k hk (ha _ (mem_at hk))
theorem dat_push {rr q : Bool} (h : DatP s k init last rr q) (hq : q = true ∨ sgR ((Utf8.decode s k).1 : Int) = false) (na : Option Addr) (nc : Nat) :
    DatP s (k + (Utf8.decode s k).2) init (na, nc, last.2.2 ++ [((Utf8.decode s k).1 : Int)]) rr false := fun ha => by
  obtain ⟨ps, l, h1, h2, h3, h4⟩ := h ha
  have e := rune_at hk ha
  rw [e] at hq ⊢
  dsimp only at hq ⊢
  refine ⟨ps, l ++ [s[k]], h1, ?_, ?_, ?_⟩
  · show last.2.2 ++ [((s[k]).toNat : Int)] = iL (l ++ [s[k]])
    rw [h2]
    unfold iL
    rw [List.map_append]
    rfl
  · intro x hx b hb
    rcases List.mem_append.1 hx with hx | hx
    · exact h3 x (List.mem_append_left _ hx) b hb
    · rw [List.mem_singleton] at hx
      subst hx
      rcases List.mem_append.1 hb with hb | hb
      · exact h3 l (by simp) b hb
      · rw [List.mem_singleton] at hb
        subst hb
        exact ha _ (mem_at hk)
  · rw [byL_drop hk] at h4
    rw [← h4]
    rcases hq with hq | hq
    · subst hq; rw [pI_quoted]
    · rw [sgR_byte] at hq; rw [pI_plain hq]
theorem dat_quote {rr : Bool} (h : DatP s k init last rr false) (hq : ((Utf8.decode s k).1 : Int) = 92) : DatP s (k + (Utf8.decode s k).2) init last rr true := fun ha => by
  obtain ⟨ps, l, h1, h2, h3, h4⟩ := h ha
  have e := rune_at hk ha
  rw [e] at hq ⊢
  dsimp only at hq ⊢
  refine ⟨ps, l, h1, h2, h3, ?_⟩
  rw [byL_drop hk, pI_quote (by omega)] at h4
  exact h4
theorem dat_stop (h : DatP s k init last true false) (hs : sgR ((Utf8.decode s k).1 : Int) = true) (hq : ¬ ((Utf8.decode s k).1 : Int) = 92) : EndP s init last true := fun ha => by
  obtain ⟨ps, l, h1, h2, h3, h4⟩ := h ha
  have e := rune_at hk ha
  rw [e] at hq hs
  dsimp only at hq hs
  rw [sgR_byte] at hs
  rw [byL_drop hk, pI_stop hs (by omega)] at h4
  exact end_of ha h1 h2 h3 h4
theorem dat_part (h : DatP s k init last false false) (hs : sgR ((Utf8.decode s k).1 : Int) = true) (hq : ¬ ((Utf8.decode s k).1 : Int) = 92) : DatP s (k + (Utf8.decode s k).2) (init ++ [last]) (none, 0, []) (decide (((Utf8.decode s k).1 : Int) = 64)) false := fun ha => by
  obtain ⟨ps, l, h1, h2, h3, h4⟩ := h ha
  have e := rune_at hk ha
  rw [e] at hq hs ⊢
  dsimp only at hq hs ⊢
  rw [sgR_byte] at hs
  refine ⟨ps ++ [l], [], ?_, rfl, ?_, ?_⟩
  · rw [List.map_append, List.map_append, h1]; simp [h2]
  · intro x hx b hb
    rcases List.mem_append.1 hx with hx | hx
    · exact h3 x hx b hb
    · rw [List.mem_singleton] at hx
      subst hx; cases hb
  · rw [byL_drop hk, pI_part hs (by omega)] at h4
    rw [← h4]
    congr 4
    exact decide_eq_decide.2 (by omega)
end
theorem decode_pos (s : ByteArray) (k : Nat) (h : k < s.size) : 1 ≤ (Utf8.decode s k).2 := by
  by_cases ha : (s[k]'h).toNat < 128
  · rw [decode_ascii s k h ha]; exact Nat.le_refl 1
  · exact (decode_high s k h (by omega)).2
end Go.Proofs.Ytbpodcfbijhboaa.Nd
