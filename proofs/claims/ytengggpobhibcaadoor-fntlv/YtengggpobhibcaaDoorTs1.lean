/- Two messages compared: the model. -/
import Derived.Test.YtengggpobhibcaaDoorTd1
set_option linter.unusedVariables false
set_option maxRecDepth 100000
namespace Go.Proofs.YtengggpobhibcaaDoor.Nd
open Go Go.RowKit Go.Joins Own Draw Var

structure LdV (P : Program) (ty : TypeId) (g off : Nat) (v : Value) (w : World) : Prop where
  out : (loadVar ty ⟨g, off, none⟩).run P w = .ok v w
theorem wpList_ldV {P : Program} {ops : Array Oper} {rest : List Oper} {o : Oper} {a : Act} {w : World} {Q : Exit → Act → World → Prop} (ty : TypeId) (x : Operand) (g off : Nat) (v : Value) (hl : LdV P ty g off v w)
    (hgd : o.guard = none) (ho : o.op = .load ty x) (hx : a.eval x = .pointer (some ⟨g, off, none⟩)) (hn : wpList P ops Q rest (a.put o.dst v) w) : wpList P ops Q (o :: rest) a w := by
  refine wpList_plain hgd fun K hK => ?_
  unfold Oper.wp execOp
  simp only [ho, hx, Instr.loadAt, Instr.sureAddr, Sem.run_bind, Sem.run_pure, Result.andThen_ok, hl.out]
  exact hK _ _ hn
theorem ld_T {U : World} {b o j : Nat} {x : TT} (ie : TypeInfo) (hie : Tryd.prog.info? 61 = some ie) (his : ie.size = 4) (hc : ∀ i v, (cT x)[i]? = some v → U.cell? ⟨b, o + j * 4 + i, none⟩ = some v)   : LdV Tryd.prog 61 b (o + j * 4) (vT x) U := by
  refine ⟨?_⟩
  refine Go.Lib.rl_loadVar_cells 61 ie hie Tryd.isAgg61 b (o + j * 4) (cT x) (by rw [his]; rfl) U ?_
  intro k v e
  exact hc k v e
theorem same_list {x y : ByteArray} (h : ¬ x = y) : (x.toList == y.toList) = false := by
  rw [Bool.eq_false_iff]
  intro hh
  have h2 := eq_of_beq hh
  rw [ByteArray.toList_eq, ByteArray.toList_eq] at h2
  refine h ?_
  cases x
  cases y
  congr 1
  exact Array.ext' h2
def BiF (P : Prop) (e : Ending) : Prop := ∃ b : Bool, e = .returned (.bool b) ∧ (b = true ↔ P)
theorem st_ext {x y : TT} : stT x = stT y ↔ x.1 = y.1 ∧ x.2.1 = y.2.1 ∧ x.2.2.1 = y.2.2.1 ∧ x.2.2.2.2.2 = y.2.2.2.2.2 := by
  unfold stT rsI
  simp only [Prod.mk.injEq]
theorem rs_ext {r q : Rw TT} (hl : r.2.2.length = q.2.2.length) : rsT r = rsT q ↔ ∀ j (h : j < r.2.2.length), stT r.2.2[j] = stT (q.2.2[j]'(hl ▸ h)) := by
  unfold rsT
  constructor
  · intro h j hj
    have := congrArg (fun l => l[j]?) h
    simp only [List.getElem?_map, List.getElem?_eq_getElem hj, List.getElem?_eq_getElem (hl ▸ hj), Option.map_some, Option.some.injEq] at this
    exact this
  · intro h
    refine List.ext_getElem (by simp [hl]) (fun j h1 h2 => ?_)
    simp only [List.getElem_map]
    exact h j (by simpa using h1)
set_option maxRecDepth 100000 in
set_option maxHeartbeats 6400000 in
theorem same_is (a b : Option Addr) (ca cb : Nat) (xs ys : List TT) (w : World) (hr : RpT w (a, ca, xs)) (hq : RpT w (b, cb, ys)) (hl : xs.length ≤ 1048576) (hk : ∀ x ∈ xs, x.2.2.2.2.2.length ≤ 1048576) :
    Calls Tryd.prog 20 #[.slice a xs.length ca, .slice b ys.length cb] w fun e w' => BiF (rsT (a, ca, xs) = rsT (b, cb, ys)) e ∧ Below w.heap.size w w' := by
  obtain ⟨it, hit, hits⟩ := info_T
  go_enter Tryd.func20, Tryd.ntmps20
  by_cases hlen : xs.length = ys.length
  rotate_left
  · have c1 : ((xs.length : Int) != (ys.length : Int)) = true := by simp; omega
    have hne : ¬ rsT (a, ca, xs) = rsT (b, cb, ys) := fun e => hlen (rsT_len e)
    go_wp2
    go_ret
    exact ⟨⟨false, rfl, by simp [hne]⟩, Below.refl _ _⟩
  have HX := rs_ext (r := (a, ca, xs)) (q := (b, cb, ys)) hlen
  dsimp only at HX
  have HX1 : Hid ((∀ t (h : t < xs.length) (h2 : t < ys.length), stT xs[t] = stT ys[t]) → rsT (a, ca, xs) = rsT (b, cb, ys)) := fun h => HX.2 (fun t ht => h t ht _)
  have HX2 : Hid (rsT (a, ca, xs) = rsT (b, cb, ys) → ∀ t (h : t < xs.length) (h2 : t < ys.length), stT xs[t] = stT ys[t]) := fun h t ht _ => HX.1 h t ht
  clear HX
  have hrow := hr.1
  have hqow := hq.1
  dsimp only at hrow hqow
  have hle2 : ys.length ≤ 1048576 := by omega
  have HLN : Hid (xs.length = ys.length) := hlen
  have c1 : ((xs.length : Int) != (ys.length : Int)) = false := by rw [hlen]; simp
  clear hlen
  go_wp2
  go_loopw [5] (fun iv wr => ∃ j : Nat, j ≤ xs.length ∧ iv = .int .i64 j ∧ Hid (∀ t (h : t < xs.length) (h2 : t < ys.length), t < j → stT xs[t] = stT ys[t]) ∧ Below w.heap.size w wr) (fun iv _ => xs.length - (intOf iv).toNat)
  case atStart => exact ⟨0, by omega, rfl, fun t h h2 hj => absurd hj (by omega), Below.refl _ _⟩
  case round =>
    obtain ⟨j, hj, rfl, hno, hbl⟩ := hrel
    by_cases hlt : j < xs.length
    rotate_left
    · have hlt2 : ¬ (j : Int) < (xs.length : Int) := by omega
      have hall : rsT (a, ca, xs) = rsT (b, cb, ys) := HX1.out (fun t h h2 => hno.out t h h2 (by omega))
      go_wp2
      go_ret
      exact ⟨⟨true, rfl, by simp⟩, hbl⟩
    have hlt2 : (j : Int) < (xs.length : Int) := by omega
    have hly : j < ys.length := by have := HLN.out; omega
    have hly2 : (j : Int) < (ys.length : Int) := by omega
    have HNO : Hid (¬ stT xs[j] = stT ys[j] → ¬ rsT (a, ca, xs) = rsT (b, cb, ys)) := fun hn e => hn (HX2.out e j hlt hly)
    have HYES : Hid (stT xs[j] = stT ys[j] → ∀ t (h : t < xs.length) (h2 : t < ys.length), t < j + 1 → stT xs[t] = stT ys[t]) := fun he t h h2 ht => by
      by_cases e : t = j
      · subst e; exact he
      · exact hno.out t h h2 (by omega)
    obtain ⟨b1, o1, rfl, l1, hc1⟩ := hrow j hlt
    obtain ⟨b2, o2, rfl, l2, hc2⟩ := hqow j hly
    have hkx : RowAt (Value.int .i64) wr xs[j].2.2.2.1 xs[j].2.2.2.2.2 := RowAt.later (hr.2 xs[j] (List.getElem_mem hlt)) hbl
    have hky : RowAt (Value.int .i64) wr ys[j].2.2.2.1 ys[j].2.2.2.2.2 := RowAt.later (hq.2 ys[j] (List.getElem_mem hly)) hbl
    have hkl := hk xs[j] (List.getElem_mem hlt)
    have l1w : b1 < wr.heap.size := Nat.lt_of_lt_of_le l1 hbl.size
    have l2w : b2 < wr.heap.size := Nat.lt_of_lt_of_le l2 hbl.size
    have hd1 : ∀ i v, (cT xs[j])[i]? = some v → wr.cell? ⟨b1, o1 + j * 4 + i, none⟩ = some v := fun i v e => (hbl.cell (p := ⟨b1, o1 + j * 4 + i, none⟩) l1).trans (hc1 i v e)
    have hd2 : ∀ i v, (cT ys[j])[i]? = some v → wr.cell? ⟨b2, o2 + j * 4 + i, none⟩ = some v := fun i v e => (hbl.cell (p := ⟨b2, o2 + j * 4 + i, none⟩) l2).trans (hc2 i v e)
    have ld1 := ld_T it hit hits hd1
    generalize xs[j] = x at HNO HYES hkx hkl ld1
    generalize ys[j] = y at HNO HYES hky hd2
    clear hc1 hc2 hno hd1
    obtain ⟨A0, hA0⟩ : ∃ Y, wr.alloc (.cells #[.int .i64 0, .bool false, .string ⟨#[]⟩, .slice none 0 0] 61) = Y := ⟨_, rfl⟩
    have TX0 : Blk wr.heap.size [.int .i64 0, .bool false, .string ⟨#[]⟩, .slice none 0 0] A0 := by rw [← hA0]; exact Blk.new _ _ _
    have B0 : Below wr.heap.size wr A0 := by rw [← hA0]; exact (Below.refl _ _).alloc (Nat.le_refl _) _
    obtain ⟨A1, hA1⟩ : ∃ Y, A0.setCells wr.heap.size 0 [.int .i64 x.1, .bool x.2.1, .string x.2.2.1, .slice x.2.2.2.1 x.2.2.2.2.2.length x.2.2.2.2.1] = Y := ⟨_, rfl⟩
    have TX1 : Blk wr.heap.size [.int .i64 x.1, .bool x.2.1, .string x.2.2.1, .slice x.2.2.2.1 x.2.2.2.2.2.length x.2.2.2.2.1] A1 := by rw [← hA1]; exact TX0.sets _ rfl
    have B1 : Below wr.heap.size wr A1 := by rw [← hA1]; exact below_sets (Nat.le_refl _) _ _ _ B0
    have ld2 := ld_T it hit hits (fun i v e => (B1.cell (p := ⟨b2, o2 + j * 4 + i, none⟩) l2w).trans (hd2 i v e))
    obtain ⟨A2, hA2⟩ : ∃ Y, A1.alloc (.cells #[.int .i64 0, .bool false, .string ⟨#[]⟩, .slice none 0 0] 61) = Y := ⟨_, rfl⟩
    have TY2 : Blk A1.heap.size [.int .i64 0, .bool false, .string ⟨#[]⟩, .slice none 0 0] A2 := by rw [← hA2]; exact Blk.new _ _ _
    have B2 : Below A1.heap.size A1 A2 := by rw [← hA2]; exact (Below.refl _ _).alloc (Nat.le_refl _) _
    obtain ⟨A3, hA3⟩ : ∃ Y, A2.setCells A1.heap.size 0 [.int .i64 y.1, .bool y.2.1, .string y.2.2.1, .slice y.2.2.2.1 y.2.2.2.2.2.length y.2.2.2.2.1] = Y := ⟨_, rfl⟩
    have TY3 : Blk A1.heap.size [.int .i64 y.1, .bool y.2.1, .string y.2.2.1, .slice y.2.2.2.1 y.2.2.2.2.2.length y.2.2.2.2.1] A3 := by rw [← hA3]; exact TY2.sets _ rfl
    have B3 : Below A1.heap.size A1 A3 := by rw [← hA3]; exact below_sets (Nat.le_refl _) _ _ _ B2
    have TX3 := TX1.later B3 TX1.lt
    have BA : Below wr.heap.size wr A3 := B1.trans (B3.mono B1.size)
    have BW := hbl.trans (BA.mono hbl.size)
    have p0 := TX3.at 0 rfl
    have p1 := TX3.at 1 rfl
    have p2 := TX3.at 2 rfl
    have p3 := TX3.at 3 rfl
    have q0 := TY3.at 0 rfl
    have q1 := TY3.at 1 rfl
    have q2 := TY3.at 2 rfl
    have q3 := TY3.at 3 rfl
    have hkx3 := RowAt.later hkx BA
    have hky3 := RowAt.later hky BA
    clear hkx hky B0 B2 hd2
    have HK3 : Hid (RowAt (Value.int .i64) A3 x.2.2.2.1 x.2.2.2.2.2 ∧ RowAt (Value.int .i64) A3 y.2.2.2.1 y.2.2.2.2.2) := ⟨hkx3, hky3⟩
    clear hkx3 hky3 hrow hqow hr hq hk TX1
    go_wp2_with (first | (refine wpList_ldV 61 _ b1 (o1 + j * 4) _ ld1 rfl rfl rfl ?_) | (refine wpList_ldV 61 _ b2 (o2 + j * 4) _ ld2 rfl rfl rfl ?_) | (refine wpList_stB 61 _ _ wr.heap.size 0 _ [.int .i64 x.1, .bool x.2.1, .string x.2.2.1, .slice x.2.2.2.1 x.2.2.2.2.2.length x.2.2.2.2.1] it hit TX0 hits.symm (by simp) rfl rfl rfl rfl rfl ?_; rw [hA1]) | (refine wpList_stB 61 _ _ A1.heap.size 0 _ [.int .i64 y.1, .bool y.2.1, .string y.2.2.1, .slice y.2.2.2.1 y.2.2.2.2.2.length y.2.2.2.2.1] it hit TY2 hits.symm (by simp) rfl rfl rfl rfl rfl ?_; rw [hA3]; refine Hid.out ?_))
    unfold Hid
    clear ld1 ld2 TX0 TY2 hA0 hA1 hA2 hA3 B1 B3
    by_cases t1 : x.1 = y.1
    rotate_left
    · have m1 : (x.1 != y.1) = true := by simp [t1]
      have HN : Hid (¬ rsT (some ⟨b1, o1, none⟩, ca, xs) = rsT (some ⟨b2, o2, none⟩, cb, ys)) := HNO.out (fun e => t1 (st_ext.1 e).1)
      clear HNO HYES HX1 HX2 t1 BA HK3
      go_wp2
      go_ret
      exact ⟨⟨false, rfl, ⟨fun e => by (cases e), fun e => absurd e HN.out⟩⟩, BW⟩
    rw [t1] at p0
    by_cases t2 : x.2.1 = y.2.1
    rotate_left
    · have hb2 : (x.2.1 = true ∧ y.2.1 = false) ∨ (x.2.1 = false ∧ y.2.1 = true) := by
        cases h1 : x.2.1 <;> cases h2 : y.2.1 <;> simp_all
      have HN : Hid (¬ rsT (some ⟨b1, o1, none⟩, ca, xs) = rsT (some ⟨b2, o2, none⟩, cb, ys)) := HNO.out (fun e => t2 (st_ext.1 e).2.1)
      clear HNO HYES HX1 HX2 t1 t2 BA HK3
      rcases hb2 with ⟨e1, e2⟩ | ⟨e1, e2⟩
      all_goals
        rw [e1] at p1
        rw [e2] at q1
        clear e1 e2
        go_wp2
        go_ret
        exact ⟨⟨false, rfl, ⟨fun e => by (cases e), fun e => absurd e HN.out⟩⟩, BW⟩
    rw [t2] at p1
    by_cases t3 : x.2.2.1 = y.2.2.1
    rotate_left
    · have m3 : (x.2.2.1.toList == y.2.2.1.toList) = false := same_list t3
      have HN : Hid (¬ rsT (some ⟨b1, o1, none⟩, ca, xs) = rsT (some ⟨b2, o2, none⟩, cb, ys)) := HNO.out (fun e => t3 (st_ext.1 e).2.2.1)
      clear HNO HYES HX1 HX2 t1 t2 t3 BA HK3
      go_wp2
      go_ret
      exact ⟨⟨false, rfl, ⟨fun e => by (cases e), fun e => absurd e HN.out⟩⟩, BW⟩
    rw [t3] at p2
    by_cases t4 : x.2.2.2.2.2.length = y.2.2.2.2.2.length
    rotate_left
    · have m4 : ((x.2.2.2.2.2.length : Int) != (y.2.2.2.2.2.length : Int)) = true := by simp; omega
      have HN : Hid (¬ rsT (some ⟨b1, o1, none⟩, ca, xs) = rsT (some ⟨b2, o2, none⟩, cb, ys)) := HNO.out (fun e => t4 (congrArg List.length (st_ext.1 e).2.2.2))
      clear HNO HYES HX1 HX2 t1 t2 t3 t4 BA HK3
      go_wp2
      go_ret
      exact ⟨⟨false, rfl, ⟨fun e => by (cases e), fun e => absurd e HN.out⟩⟩, BW⟩
    have m4 : ((x.2.2.2.2.2.length : Int) != (y.2.2.2.2.2.length : Int)) = false := by rw [t4]; simp
    have HLK : Hid (x.2.2.2.2.2.length = y.2.2.2.2.2.length) := t4
    have HEQ : Hid (x.2.2.2.2.2 = y.2.2.2.2.2 → stT x = stT y) := fun e => st_ext.2 ⟨t1, t2, t3, e⟩
    have HNE : Hid (¬ x.2.2.2.2.2 = y.2.2.2.2.2 → ¬ rsT (some ⟨b1, o1, none⟩, ca, xs) = rsT (some ⟨b2, o2, none⟩, cb, ys)) := fun hn => HNO.out (fun e => hn (st_ext.1 e).2.2.2)
    clear HNO t1 t2 t3 t4 HX1 HX2
    go_wp2
    clear p0 p1 p2 q0 q1 q2
    go_loopw [8] (fun iv wq => ∃ u : Nat, u ≤ x.2.2.2.2.2.length ∧ iv = .int .i64 u ∧ Hid (∀ v (h : v < x.2.2.2.2.2.length) (h2 : v < y.2.2.2.2.2.length), v < u → x.2.2.2.2.2[v] = y.2.2.2.2.2[v]) ∧ Below A3.heap.size A3 wq) (fun iv _ => x.2.2.2.2.2.length - (intOf iv).toNat)
    case atStart => exact ⟨0, Nat.zero_le _, rfl, fun v h h2 hv => absurd hv (by omega), Below.refl _ _⟩
    case round =>
      clear p3 q3
      obtain ⟨u, hu, rfl, hnu, hbu⟩ := hrel
      have p3 := (TX3.later hbu TX3.lt).at 3 rfl
      have q3 := (TY3.later hbu TY3.lt).at 3 rfl
      by_cases hul : u < x.2.2.2.2.2.length
      rotate_left
      · have hul2 : ¬ (u : Int) < (x.2.2.2.2.2.length : Int) := by omega
        have hke : x.2.2.2.2.2 = y.2.2.2.2.2 := List.ext_getElem HLK.out (fun v h1 h2 => hnu.out v h1 h2 (by omega))
        have HR : Hid (∃ j' : Nat, j' ≤ xs.length ∧ Value.int .i64 ((j : Int) + 1) = .int .i64 j' ∧ Hid (∀ t (h : t < xs.length) (h2 : t < ys.length), t < j' → stT xs[t] = stT ys[t]) ∧ Below w.heap.size w wr) := ⟨j + 1, by omega, by go_num, HYES.out (HEQ.out hke), BW.trans (hbu.mono BW.size)⟩
        clear HYES HEQ HNE hnu hke HK3 TX3 TY3
        go_wp2
        go_roundw
        case rel => exact HR.out
        case measure => simp [intOf]; omega
      have hul2 : (u : Int) < (x.2.2.2.2.2.length : Int) := by omega
      have huy : u < y.2.2.2.2.2.length := by have := HLK.out; omega
      have huy2 : (u : Int) < (y.2.2.2.2.2.length : Int) := by omega
      obtain ⟨d1, f1, e1, g1, z1⟩ := HK3.out.1 u hul
      obtain ⟨d2, f2, e2, g2, z2⟩ := HK3.out.2 u huy
      have z1b := (hbu.cell (p := ⟨d1, f1 + u, none⟩) g1).trans z1
      have z2b := (hbu.cell (p := ⟨d2, f2 + u, none⟩) g2).trans z2
      rw [e1] at p3
      rw [e2] at q3
      by_cases hk2 : x.2.2.2.2.2[u] = y.2.2.2.2.2[u]
      rotate_left
      · have mk : (x.2.2.2.2.2[u] != y.2.2.2.2.2[u]) = true := by simp [hk2]
        have HN : Hid (¬ rsT (some ⟨b1, o1, none⟩, ca, xs) = rsT (some ⟨b2, o2, none⟩, cb, ys)) := HNE.out (fun e => hk2 (by simp only [e]))
        have BE := BW.trans (hbu.mono BW.size)
        generalize x.2.2.2.2.2[u] = n1 at z1b mk
        generalize y.2.2.2.2.2[u] = n2 at z2b mk
        clear HYES HEQ HNE hnu HK3 TX3 TY3 hk2 z1 z2
        go_wp2_with fail
        go_region
        go_wp2
        go_ret
        exact ⟨⟨false, rfl, ⟨fun e => by (cases e), fun e => absurd e HN.out⟩⟩, by first | exact BE | exact BE.drew⟩
      have HR : Hid (∃ u' : Nat, u' ≤ x.2.2.2.2.2.length ∧ Value.int .i64 ((u : Int) + 1) = .int .i64 u' ∧ Hid (∀ v (h : v < x.2.2.2.2.2.length) (h2 : v < y.2.2.2.2.2.length), v < u' → x.2.2.2.2.2[v] = y.2.2.2.2.2[v]) ∧ Below A3.heap.size A3 wr.drew) := ⟨u + 1, by omega, by go_num, fun v h h2 hv => by
        by_cases e : v = u
        · subst e; exact hk2
        · exact hnu.out v h h2 (by omega), hbu.drew⟩
      rw [hk2] at z1b
      generalize y.2.2.2.2.2[u] = n2 at z1b z2b
      clear HYES HEQ HNE hnu HK3 TX3 TY3 hk2 z1 z2
      go_wp2_with fail
      go_region
      go_wp2
      go_roundw
      case rel => exact HR.out
      case measure => simp [intOf]; omega
end Go.Proofs.YtengggpobhibcaaDoor.Nd
