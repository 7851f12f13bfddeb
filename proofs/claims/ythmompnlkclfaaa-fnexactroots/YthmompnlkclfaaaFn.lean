/- The first event of a key. -/
import Derived.Test.YthmompnlkclfaaaRe0
set_option linter.unusedVariables false
set_option maxRecDepth 100000
namespace Go.Proofs.Ythmompnlkclfaaa
open Go Go.RowKit Go.Joins Own Draw

abbrev kyE (p : TE) : Int := p.2.2.2.2.2.1
def findN (xs : List TE) (n : Int) : Int := match xs.findIdx? (fun p => decide (kyE p = n)) with | some i => (i : Int) | none => -1
theorem findN_at {xs : List TE} {n : Int} {k : Nat} (h : k < xs.length) (he : kyE xs[k] = n) (hno : ∀ j (hj : j < k), ¬ kyE xs[j] = n) : findN xs n = (k : Int) := by
  have e : xs.findIdx? (fun p => decide (kyE p = n)) = some k := List.findIdx?_eq_some_iff_getElem.2 ⟨h, by simpa using he, fun j hj => by simpa using hno j hj⟩
  unfold findN
  rw [e]
theorem findN_none {xs : List TE} {n : Int} (hno : ∀ j (hj : j < xs.length), ¬ kyE xs[j] = n) : findN xs n = -1 := by
  have e : xs.findIdx? (fun p => decide (kyE p = n)) = none := by
    rw [List.findIdx?_eq_none_iff]
    intro x hx
    obtain ⟨j, hj, rfl⟩ := List.mem_iff_getElem.1 hx
    simpa using hno j hj
  unfold findN
  rw [e]
set_option maxRecDepth 100000 in
set_option maxHeartbeats 1600000 in
theorem specFind_is (a : Option Addr) (cap : Nat) (xs : List TE) (n : Int) (w : World) (hr : FRow 11 cE w a xs) (hl : xs.length ≤ 1048576) :
    Calls Try.prog 7 #[.slice a xs.length cap, .int .i64 n] w fun e w' => e = .returned (.int .i64 (findN xs n)) ∧ Below w.heap.size w w' := by
  go_enter Try.func7, Try.ntmps7
  go_wp2
  go_loopw [5] (fun i wr => ∃ k : Nat, k ≤ xs.length ∧ i = .int .i64 k ∧ Hid (∀ j (h : j < xs.length), j < k → ¬ kyE xs[j] = n) ∧ Below w.heap.size w wr) (fun i _ => xs.length - (intOf i).toNat)
  case atStart => exact ⟨0, by omega, rfl, fun j h hj => absurd hj (by omega), Below.refl _ _⟩
  case round =>
    obtain ⟨k, hk, rfl, hno, hbel⟩ := hrel
    by_cases hlt : k < xs.length
    · obtain ⟨b1, o1, rfl, l1, hc⟩ := hr k hlt
      have h5 : wr.cell? ⟨b1, o1 + k * 11 + 5, none⟩ = some (.int .i64 (kyE xs[k])) := (hbel.cell (p := ⟨b1, o1 + k * 11 + 5, none⟩) l1).trans (hc 5 _ rfl)
      have hlt2 : (k : Int) < (xs.length : Int) := by omega
      by_cases he : kyE xs[k] = n
      · have HV : Hid (findN xs n = (k : Int)) := findN_at hlt he (fun j hj => hno.out j (by omega) hj)
        rw [he] at h5
        clear hr hc he hno
        go_wp2
        go_ret
        exact ⟨by rw [HV.out]; rfl, hbel⟩
      · have hno2 : Hid (∀ j (h : j < xs.length), j < k + 1 → ¬ kyE xs[j] = n) := fun j h hj => by
          by_cases e : j = k
          · subst e; exact he
          · exact hno.out j h (by omega)
        generalize kyE xs[k] = u at h5 he
        have hd : (u == n) = false := beq_eq_false_iff_ne.2 he
        clear hr hc hno he
        go_wp2
        go_roundw
        case rel => exact ⟨k + 1, by omega, by go_num, hno2, hbel⟩
        case measure => simp [intOf]; omega
    · obtain rfl : k = xs.length := by omega
      have HV : Hid (findN xs n = -1) := findN_none (fun j hj => hno.out j hj hj)
      go_wp2
      go_ret
      exact ⟨by rw [HV.out]; rfl, hbel⟩
set_option maxRecDepth 100000 in
set_option maxHeartbeats 1600000 in
theorem find1_is (p : TE) (B : Nat) (n : Int) (w : World) (hB : B < w.heap.size) (hc : w.cell? ⟨B, 0, none⟩ = some (.int .i64 n)) :
    Calls Try.prog 25 #[vE p, .pointer (some ⟨B, 0, none⟩)] w fun e w' => e = .returned (.bool (kyE p == n)) ∧ Below w.heap.size w w' := by
  obtain ⟨p0, p1, p2, p3, p4, p5, p6, p7, p8, p9, p10⟩ := p
  obtain ⟨V, hV⟩ : ∃ V, w.alloc (.cells #[.int .i64 p0, .int .i64 p1, .int .i64 p2, .int .i64 p3, .int .i64 p4, .int .i64 p5, .int .i64 p6, .int .i64 p7, .int .i64 p8, .int .i64 p9, .int .i64 p10] 48) = V := ⟨_, rfl⟩
  have TV : Blk w.heap.size [.int .i64 p0, .int .i64 p1, .int .i64 p2, .int .i64 p3, .int .i64 p4, .int .i64 p5, .int .i64 p6, .int .i64 p7, .int .i64 p8, .int .i64 p9, .int .i64 p10] V := by rw [← hV]; exact Blk.new _ _ _
  have bV : Below w.heap.size w V := by rw [← hV]; exact (Below.refl _ _).alloc (Nat.le_refl _) _
  have d5 := TV.at 5 rfl
  have e0 := (bV.cell (p := ⟨B, 0, none⟩) hB).trans hc
  go_enter Try.func25, Try.ntmps25
  go_wp2
  go_ret
  exact ⟨rfl, bV⟩
set_option maxRecDepth 100000 in
set_option maxHeartbeats 1600000 in
theorem index_is (B : Nat) (n : Int) (a : Option Addr) (cap : Nat) (xs : List TE) (w : World) (hr : FRow 11 cE w a xs) (hl : xs.length ≤ 1048576) (hB : B < w.heap.size) (hc : w.cell? ⟨B, 0, none⟩ = some (.int .i64 n)) :
    Calls Try.prog 24 #[.slice a xs.length cap, .func (.func 25) #[] #[.pointer (some ⟨B, 0, none⟩)]] w fun e w' => e = .returned (.int .i64 (findN xs n)) ∧ Below w.heap.size w w' := by
  go_enter Try.func24, Try.ntmps24
  go_wp2
  go_loopw [8] (fun i wr => ∃ k : Nat, k ≤ xs.length ∧ i = .int .i64 k ∧ Hid (∀ j (h : j < xs.length), j < k → ¬ kyE xs[j] = n) ∧ Below w.heap.size w wr) (fun i _ => xs.length - (intOf i).toNat)
  case atStart => exact ⟨0, by omega, rfl, fun j h hj => absurd hj (by omega), Below.refl _ _⟩
  case round =>
    obtain ⟨k, hk, rfl, hno, hbel⟩ := hrel
    by_cases hlt : k < xs.length
    · obtain ⟨b1, o1, rfl, l1, hcc⟩ := hr k hlt
      have h0 : wr.cell? ⟨b1, o1 + k * 11, none⟩ = some (.int .i64 xs[k].1) := (hbel.cell (p := ⟨b1, o1 + k * 11, none⟩) l1).trans (hcc 0 _ rfl)
      have h1 : wr.cell? ⟨b1, o1 + k * 11 + 1, none⟩ = some (.int .i64 xs[k].2.1) := (hbel.cell (p := ⟨b1, o1 + k * 11 + 1, none⟩) l1).trans (hcc 1 _ rfl)
      have h2 : wr.cell? ⟨b1, o1 + k * 11 + 2, none⟩ = some (.int .i64 xs[k].2.2.1) := (hbel.cell (p := ⟨b1, o1 + k * 11 + 2, none⟩) l1).trans (hcc 2 _ rfl)
      have h3 : wr.cell? ⟨b1, o1 + k * 11 + 3, none⟩ = some (.int .i64 xs[k].2.2.2.1) := (hbel.cell (p := ⟨b1, o1 + k * 11 + 3, none⟩) l1).trans (hcc 3 _ rfl)
      have h4 : wr.cell? ⟨b1, o1 + k * 11 + 4, none⟩ = some (.int .i64 xs[k].2.2.2.2.1) := (hbel.cell (p := ⟨b1, o1 + k * 11 + 4, none⟩) l1).trans (hcc 4 _ rfl)
      have h5 : wr.cell? ⟨b1, o1 + k * 11 + 5, none⟩ = some (.int .i64 xs[k].2.2.2.2.2.1) := (hbel.cell (p := ⟨b1, o1 + k * 11 + 5, none⟩) l1).trans (hcc 5 _ rfl)
      have h6 : wr.cell? ⟨b1, o1 + k * 11 + 6, none⟩ = some (.int .i64 xs[k].2.2.2.2.2.2.1) := (hbel.cell (p := ⟨b1, o1 + k * 11 + 6, none⟩) l1).trans (hcc 6 _ rfl)
      have h7 : wr.cell? ⟨b1, o1 + k * 11 + 7, none⟩ = some (.int .i64 xs[k].2.2.2.2.2.2.2.1) := (hbel.cell (p := ⟨b1, o1 + k * 11 + 7, none⟩) l1).trans (hcc 7 _ rfl)
      have h8 : wr.cell? ⟨b1, o1 + k * 11 + 8, none⟩ = some (.int .i64 xs[k].2.2.2.2.2.2.2.2.1) := (hbel.cell (p := ⟨b1, o1 + k * 11 + 8, none⟩) l1).trans (hcc 8 _ rfl)
      have h9 : wr.cell? ⟨b1, o1 + k * 11 + 9, none⟩ = some (.int .i64 xs[k].2.2.2.2.2.2.2.2.2.1) := (hbel.cell (p := ⟨b1, o1 + k * 11 + 9, none⟩) l1).trans (hcc 9 _ rfl)
      have h10 : wr.cell? ⟨b1, o1 + k * 11 + 10, none⟩ = some (.int .i64 xs[k].2.2.2.2.2.2.2.2.2.2) := (hbel.cell (p := ⟨b1, o1 + k * 11 + 10, none⟩) l1).trans (hcc 10 _ rfl)
      have hlt2 : (k : Int) < (xs.length : Int) := by omega
      have K1 := find1_is xs[k] B n wr (Nat.lt_of_lt_of_le hB hbel.size) ((hbel.cell (p := ⟨B, 0, none⟩) hB).trans hc)
      by_cases he : kyE xs[k] = n
      · have HV : Hid (findN xs n = (k : Int)) := findN_at hlt he (fun j hj => hno.out j (by omega) hj)
        have hd : (kyE xs[k] == n) = true := beq_iff_eq.2 he
        rw [hd] at K1
        clear hr hcc he hno hd
        generalize xs[k] = p at K1 h0 h1 h2 h3 h4 h5 h6 h7 h8 h9 h10
        obtain ⟨p0, p1, p2, p3, p4, p5, p6, p7, p8, p9, p10⟩ := p
        go_wp2_with fail
        refine K1.mono ?_
        clear K1
        rintro en w2 ⟨rfl, hb2⟩
        replace hbel := hbel.trans (hb2.mono hbel.size)
        clear hb2 h0 h1 h2 h3 h4 h5 h6 h7 h8 h9 h10
        go_wp2
        go_ret
        exact ⟨by rw [HV.out]; rfl, hbel⟩
      · have hno2 : Hid (∀ j (h : j < xs.length), j < k + 1 → ¬ kyE xs[j] = n) := fun j h hj => by
          by_cases e : j = k
          · subst e; exact he
          · exact hno.out j h (by omega)
        have hd : (kyE xs[k] == n) = false := beq_eq_false_iff_ne.2 he
        rw [hd] at K1
        clear hr hcc he hno hd
        generalize xs[k] = p at K1 h0 h1 h2 h3 h4 h5 h6 h7 h8 h9 h10
        obtain ⟨p0, p1, p2, p3, p4, p5, p6, p7, p8, p9, p10⟩ := p
        go_wp2_with fail
        refine K1.mono ?_
        clear K1
        rintro en w2 ⟨rfl, hb2⟩
        replace hbel := hbel.trans (hb2.mono hbel.size)
        clear hb2 h0 h1 h2 h3 h4 h5 h6 h7 h8 h9 h10
        go_wp2
        go_roundw
        case rel => exact ⟨k + 1, by omega, by go_num, hno2, hbel⟩
        case measure => simp [intOf]; omega
    · obtain rfl : k = xs.length := by omega
      have HV : Hid (findN xs n = -1) := findN_none (fun j hj => hno.out j hj hj)
      go_wp2
      go_ret
      exact ⟨by rw [HV.out]; rfl, hbel⟩
set_option maxRecDepth 100000 in
set_option maxHeartbeats 1600000 in
theorem implFind_is (a : Option Addr) (cap : Nat) (xs : List TE) (n : Int) (w : World) (hr : FRow 11 cE w a xs) (hl : xs.length ≤ 1048576) :
    Calls Try.prog 9 #[.slice a xs.length cap, .int .i64 n] w fun e w' => e = .returned (.int .i64 (findN xs n)) ∧ Below w.heap.size w w' := by
  obtain ⟨V, hV⟩ : ∃ V, w.alloc (.cells #[.int .i64 n] 3) = V := ⟨_, rfl⟩
  have TV : Blk w.heap.size [.int .i64 n] V := by rw [← hV]; exact Blk.new _ _ _
  have bV : Below w.heap.size w V := by rw [← hV]; exact (Below.refl _ _).alloc (Nat.le_refl _) _
  have sV : w.heap.size < V.heap.size := by rw [← hV]; simp
  have K1 := index_is w.heap.size n a cap xs V (hr.later bV) hl sV (TV.at 0 rfl)
  generalize findN xs n = v at K1 ⊢
  go_enter Try.func9, Try.ntmps9
  go_wp2_with fail
  refine K1.mono ?_
  clear K1
  rintro en w2 ⟨rfl, hb2⟩
  replace bV := bV.trans (hb2.mono bV.size)
  clear hb2
  go_wp2
  go_ret
  exact ⟨rfl, bV⟩
end Go.Proofs.Ythmompnlkclfaaa
