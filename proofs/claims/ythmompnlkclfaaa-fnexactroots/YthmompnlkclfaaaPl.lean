/- Where each key stands first. -/
import Derived.Test.YthmompnlkclfaaaFn
import Derived.Test.YthmompnlkclfaaaBig
import Derived.Test.YthmompnlkclfaaaLinks
import Derived.Maps.OwnSet
import Derived.Maps.OwnOps
set_option linter.unusedVariables false
set_option maxRecDepth 100000
namespace Go.Proofs.Ythmompnlkclfaaa
open Go Go.RowKit Go.Joins Own Draw

theorem keyed3 : Maps.Keyed Try.prog 3 := Maps.int_keyed Try.underlying3
theorem findN_snoc (xs : List TE) (p : TE) (q : Int) : findN (xs ++ [p]) q = if 0 ≤ findN xs q then findN xs q else if kyE p = q then (xs.length : Int) else -1 := by
  unfold findN
  rw [List.findIdx?_append]
  cases h : xs.findIdx? (fun p => decide (kyE p = q)) with
  | some i => simp
  | none =>
    by_cases e : kyE p = q
    · simp [e]
    · simp [e]
theorem findN_lt (xs : List TE) (q : Int) : findN xs q < xs.length := by
  unfold findN
  cases h : xs.findIdx? (fun p => decide (kyE p = q)) with
  | some i =>
    have := (List.findIdx?_eq_some_iff_getElem.1 h).1
    show (i : Int) < _
    omega
  | none => show (-1 : Int) < _; omega
/-- What the map of places says of a key. -/
def plN (xs : List TE) (q : Int) : Int := if 0 ≤ findN xs q then findN xs q else 0
def plB (xs : List TE) (q : Int) : Bool := decide (0 ≤ findN xs q)
def PlD (xs : List TE) (D : DataW Value) : Prop := ∀ q, i64 q → D.atKey (.int .i64 q) (.lit (.int .i64 0)) = .lit (.int .i64 (plN xs q)) ∧ Maps.has D (.int .i64 q) = plB xs q
def PlM (m n : Nat) (xs : List TE) (w : World) : Prop := ∃ D : DataW Value, w.ownsMap Try.prog 3 (plainElem Try.prog 3) m n D ∧ PlD xs D
theorem PlM.kept {m n : Nat} {xs : List TE} {w w' : World} (h : PlM m n xs w) (hb : Below w.heap.size w w') : PlM m n xs w' := by
  obtain ⟨D, ⟨es, clock, hb', F, hs, hD⟩, hL⟩ := h
  have hlt : m < w.heap.size := (Array.getElem?_eq_some_iff.1 hb').1
  exact ⟨D, ⟨es, clock, (hb.block m hlt).trans hb', F, hs, hD⟩, hL⟩
theorem PlM.keptAt {m n c : Nat} {xs : List TE} {w w' : World} (h : PlM m n xs w) (hb : Below c w w') (hm : m < c) : PlM m n xs w' := by
  obtain ⟨D, ⟨es, clock, hb', F, hs, hD⟩, hL⟩ := h
  exact ⟨D, ⟨es, clock, (hb.block m hm).trans hb', F, hs, hD⟩, hL⟩
theorem PlM.lt {m n : Nat} {xs : List TE} {w : World} (h : PlM m n xs w) : m < w.heap.size := by
  obtain ⟨D, h, _⟩ := h
  exact h.lt
theorem PlM.made (w : World) : PlM w.heap.size 0 [] (w.alloc (.map #[] 0)) :=
  ⟨_, World.ownsMap_made w Try.prog 3 (plainElem Try.prog 3), fun q _ => ⟨rfl, rfl⟩⟩
theorem PlM.look {m n : Nat} {xs : List TE} {w : World} (h : PlM m n xs w) {q : Int} (hq : i64 q) :
    (Instr.lookup 80 (.map (some m)) (.int .i64 q) true).run Try.prog w = .ok (.tuple #[.int .i64 (plN xs q), .bool (plB xs q)]) w := by
  obtain ⟨D, h, hL⟩ := h
  obtain ⟨v, ps, hrun, hv⟩ := h.look_ok keyed3 Try.underlying80 (zero3 w) (plainElem_int Try.underlying3 (wf_of 0 (by unfold i64; omega))) (Maps.keyOf_int_mk Try.underlying3 (wf_of q hq))
  obtain ⟨c, rfl, hc, hwc⟩ := plainElem_int_inv Try.underlying3 hv
  have e := congrArg Prod.fst hc
  simp only [(hL q hq).1] at e
  injection e with e
  injection e with _ e
  rw [hrun, (hL q hq).2, e]
theorem PlM.put {m n : Nat} {xs : List TE} {w : World} (h : PlM m n xs w) (hn : n < maxLen) (p : TE) (hp : i64 (kyE p)) (hno : ¬ 0 ≤ findN xs (kyE p)) (hl : xs.length ≤ 1048576) :
    ∃ w', (Instr.mapUpdate 80 (.map (some m)) (.int .i64 (kyE p)) (.int .i64 (xs.length : Int))).run Try.prog w = .ok () w' ∧ PlM m (n + 1) (xs ++ [p]) w' ∧ w.grownBy w' (some m) := by
  obtain ⟨D, ho, hL⟩ := h
  obtain ⟨w', hrun, ho', hg⟩ := ho.update keyed3 Try.underlying80 hn (Maps.keyOf_int_mk Try.underlying3 (wf_of _ hp)) (plainElem_int Try.underlying3 (wf_of (xs.length : Int) (by unfold i64; omega)))
  refine ⟨w', hrun, ⟨_, ho', ?_⟩, hg⟩
  intro q hq
  by_cases e : q = kyE p
  · subst e
    have hkl : WideAt.IsKeyLit (.int .i64 (kyE p)) := True.intro
    rw [Maps.atKey_put_same ho.isMap hkl, Maps.has_put_same ho.isMap hkl]
    unfold plN plB
    rw [findN_snoc, if_neg hno, if_pos rfl]
    simp
  · have hne : (Lit.int .i64 q) ≠ .int .i64 (kyE p) := by
      intro h; injection h with _ h; exact e h
    rw [Maps.atKey_put_other hne, Maps.has_put_other hne, (hL q hq).1, (hL q hq).2]
    unfold plN plB
    rw [findN_snoc]
    by_cases h0 : 0 ≤ findN xs q
    · simp [h0]
    · have e2 : ¬ kyE p = q := fun h => e h.symm
      simp [h0, e2]
theorem PlM.skip {m n : Nat} {xs : List TE} {w : World} (h : PlM m n xs w) (p : TE) (hyes : 0 ≤ findN xs (kyE p)) : PlM m n (xs ++ [p]) w := by
  obtain ⟨D, ho, hL⟩ := h
  refine ⟨D, ho, fun q hq => ?_⟩
  rw [(hL q hq).1, (hL q hq).2]
  unfold plN plB
  rw [findN_snoc]
  by_cases h0 : 0 ≤ findN xs q
  · simp [h0]
  · have e : ¬ kyE p = q := fun e => h0 (e ▸ hyes)
    simp [h0, e]
theorem PlM.more {m n n' : Nat} {xs : List TE} {w : World} (h : PlM m n xs w) (hn : n ≤ n') : PlM m n' xs w := by
  obtain ⟨D, ⟨es, clock, hb', F, hs, hD⟩, hL⟩ := h
  exact ⟨D, ⟨es, clock, hb', F, Nat.le_trans hs hn, hD⟩, hL⟩
set_option maxRecDepth 100000 in
set_option maxHeartbeats 3200000 in
theorem places_is (a : Option Addr) (cap : Nat) (xs : List TE) (w : World) (hr : FRow 11 cE w a xs) (hl : xs.length ≤ 1048576) (hx : ∀ p ∈ xs, i64 (kyE p)) :
    Calls Try.prog 53 #[.slice a xs.length cap] w fun e w' => e = .returned (.map (some w.heap.size)) ∧ PlM w.heap.size xs.length xs w' ∧ Below w.heap.size w w' := by
  obtain ⟨ie, hie, his⟩ := info_event
  have hmm := @run_makeMap Try.prog
  have h0 : PlM w.heap.size 0 (xs.take 0) (w.alloc (.map #[] 0)) := PlM.made w
  have hb0 : Below w.heap.size w (w.alloc (.map #[] 0)) := (Below.refl _ _).alloc (Nat.le_refl _) _
  go_enter Try.func53, Try.ntmps53
  go_wp2
  clear hmm
  go_loopw [11] (fun i wr => ∃ k : Nat, k ≤ xs.length ∧ i = .int .i64 k ∧ PlM w.heap.size k (xs.take k) wr ∧ Below w.heap.size w wr) (fun i _ => xs.length - (intOf i).toNat)
  case atStart => exact ⟨0, by omega, rfl, h0, hb0⟩
  case round =>
    clear h0 hb0
    obtain ⟨k, hk, rfl, hM, hbel⟩ := hrel
    by_cases hlt : k < xs.length
    · obtain ⟨b1, o1, rfl, l1, hcc⟩ := hr k hlt
      have h0 : wr.cell? ⟨b1, o1 + k * 11, none⟩ = some (.int .i64 xs[k].1) := (hbel.cell (p := ⟨b1, o1 + k * 11, none⟩) l1).trans (hcc 0 _ rfl)
      have h1 : wr.cell? ⟨b1, o1 + k * 11 + 1, none⟩ = some (.int .i64 xs[k].2.1) := (hbel.cell (p := ⟨b1, o1 + k * 11 + 1, none⟩) l1).trans (hcc 1 _ rfl)
      have h2 : wr.cell? ⟨b1, o1 + k * 11 + 2, none⟩ = some (.int .i64 xs[k].2.2.1) := (hbel.cell (p := ⟨b1, o1 + k * 11 + 2, none⟩) l1).trans (hcc 2 _ rfl)
      have h3 : wr.cell? ⟨b1, o1 + k * 11 + 3, none⟩ = some (.int .i64 xs[k].2.2.2.1) := (hbel.cell (p := ⟨b1, o1 + k * 11 + 3, none⟩) l1).trans (hcc 3 _ rfl)
      have h4 : wr.cell? ⟨b1, o1 + k * 11 + 4, none⟩ = some (.int .i64 xs[k].2.2.2.2.1) := (hbel.cell (p := ⟨b1, o1 + k * 11 + 4, none⟩) l1).trans (hcc 4 _ rfl)
      have h5 : wr.cell? ⟨b1, o1 + k * 11 + 5, none⟩ = some (.int .i64 xs[k].2.2.2.2.2.1) := (hbel.cell (p := ⟨b1, o1 + k * 11 + 5, none⟩) l1).trans (hcc 5 _ rfl)
      have h6 : wr.cell? ⟨b1, o1 + k * 11 + 6, none⟩ = some (.int .i64 xs[k].2.2.2.2.2.2.1) := (hbel.cell (p := ⟨b1, o1 + k * 11 + 6, none⟩) l1).trans (hcc 6 _ rfl)
      have h7 : wr.cell? ⟨b1, o1 + k * 11 + 7, none⟩ = some (.int .i64 xs[k].2.2.2.2.2.2.2.1) := (hbel.cell (p := ⟨b1, o1 + k * 11 + 7, none⟩) l1).trans (hcc 7 _ rfl)
      have h8 : wr.cell? ⟨b1, o1 + k * 11 + 8, none⟩ = some (.int .i64 xs[k].2.2.2.2.2.2.2.2.1) := (hbel.cell (p := ⟨b1, o1 + k * 11 + 8, none⟩) l1).trans (hcc 8 _ rfl)
      have h9 : wr.cell? ⟨b1, o1 + k * 11 + 9, none⟩ = some (.int .i64 xs[k].2.2.2.2.2.2.2.2.2.1) := (hbel.cell (p := ⟨b1, o1 + k * 11 + 9, none⟩) l1).trans (hcc 9 _ rfl)
      have h10 : wr.cell? ⟨b1, o1 + k * 11 + 10, none⟩ = some (.int .i64 xs[k].2.2.2.2.2.2.2.2.2.2) := (hbel.cell (p := ⟨b1, o1 + k * 11 + 10, none⟩) l1).trans (hcc 10 _ rfl)
      have hlt2 : (k : Int) < (xs.length : Int) := by omega
      have htk : (xs.take k).length = k := by rw [List.length_take]; omega
      have hsn : xs.take (k + 1) = xs.take k ++ [xs[k]] := List.take_succ_eq_append_getElem hlt
      have hik : i64 (kyE xs[k]) := hx _ (List.getElem_mem hlt)
      obtain ⟨V0, hV0⟩ : ∃ V0, wr.alloc (.cells #[.int .i64 0, .int .i64 0, .int .i64 0, .int .i64 0, .int .i64 0, .int .i64 0, .int .i64 0, .int .i64 0, .int .i64 0, .int .i64 0, .int .i64 0] 48) = V0 := ⟨_, rfl⟩
      have T0 : Blk wr.heap.size [.int .i64 0, .int .i64 0, .int .i64 0, .int .i64 0, .int .i64 0, .int .i64 0, .int .i64 0, .int .i64 0, .int .i64 0, .int .i64 0, .int .i64 0] V0 := by rw [← hV0]; exact Blk.new _ _ _
      have bW0 : Below wr.heap.size wr V0 := by rw [← hV0]; exact (Below.refl _ _).alloc (Nat.le_refl _) _
      obtain ⟨V1, hV1⟩ : ∃ V1, V0.setCells wr.heap.size 0 (cE xs[k]) = V1 := ⟨_, rfl⟩
      have T1 : Blk wr.heap.size (cE xs[k]) V1 := by rw [← hV1]; exact T0.sets _ rfl
      have bW1 : Below wr.heap.size wr V1 := by rw [← hV1]; exact below_sets (Nat.le_refl _) _ _ _ bW0
      have M1 := hM.kept bW1
      have B1 := hbel.trans (bW1.mono hbel.size)
      have d5 := T1.at 5 rfl
      have LK := M1.look hik
      clear hM hbel bW1 bW0 hcc hr
      by_cases hf : 0 ≤ findN (xs.take k) (kyE xs[k])
      · have HB : plB (xs.take k) (kyE xs[k]) = true := decide_eq_true hf
        have M2 := (M1.skip _ hf).more (Nat.le_succ k)
        rw [← hsn] at M2
        rw [HB] at LK
        clear M1 HB hf hik hsn htk
        generalize plN (xs.take k) (kyE xs[k]) = pn at LK
        generalize hp : xs[k] = p at LK d5 T1 hV1 h0 h1 h2 h3 h4 h5 h6 h7 h8 h9 h10
        clear hp
        obtain ⟨p0, p1, p2, p3, p4, p5, p6, p7, p8, p9, p10⟩ := p
        go_wp2_with (first | (refine wpList_stB 48 _ _ _ 0 _ [.int .i64 p0, .int .i64 p1, .int .i64 p2, .int .i64 p3, .int .i64 p4, .int .i64 p5, .int .i64 p6, .int .i64 p7, .int .i64 p8, .int .i64 p9, .int .i64 p10] ie hie T0 his.symm (by simp) rfl rfl rfl rfl rfl ?_; rw [hV1]) | go_in)
        go_roundw
        case rel => exact ⟨k + 1, by omega, by go_num, M2, B1⟩
        case measure => simp [intOf]; omega
      · have HB : plB (xs.take k) (kyE xs[k]) = false := decide_eq_false hf
        obtain ⟨W2, UP, M2, G2⟩ := M1.put (by unfold maxLen; omega) xs[k] hik hf (by omega)
        rw [← hsn] at M2
        rw [htk] at UP
        have B2 : Below w.heap.size w W2 := B1.grown G2 B1.size (fun j e => by cases e; exact Nat.le_refl _)
        rw [HB] at LK
        clear M1 HB hf hik hsn htk B1 G2
        generalize plN (xs.take k) (kyE xs[k]) = pn at LK
        generalize hp : xs[k] = p at LK UP d5 T1 hV1 h0 h1 h2 h3 h4 h5 h6 h7 h8 h9 h10
        clear hp
        obtain ⟨p0, p1, p2, p3, p4, p5, p6, p7, p8, p9, p10⟩ := p
        go_wp2_with (first | (refine wpList_stB 48 _ _ _ 0 _ [.int .i64 p0, .int .i64 p1, .int .i64 p2, .int .i64 p3, .int .i64 p4, .int .i64 p5, .int .i64 p6, .int .i64 p7, .int .i64 p8, .int .i64 p9, .int .i64 p10] ie hie T0 his.symm (by simp) rfl rfl rfl rfl rfl ?_; rw [hV1]) | go_in)
        go_roundw
        case rel => exact ⟨k + 1, by omega, by go_num, M2, B2⟩
        case measure => simp [intOf]; omega
    · obtain rfl : k = xs.length := by omega
      rw [List.take_length] at hM
      go_wp2
      go_ret
      exact ⟨rfl, hM, hbel⟩
end Go.Proofs.Ythmompnlkclfaaa
