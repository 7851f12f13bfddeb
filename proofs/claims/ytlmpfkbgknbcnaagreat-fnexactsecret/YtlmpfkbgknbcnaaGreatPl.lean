/- Where each key stands first. -/
import Derived.Test.YtlmpfkbgknbcnaaGreatFn
import Derived.Test.YtlmpfkbgknbcnaaGreatFl
import Derived.Test.YtlmpfkbgknbcnaaGreatRi
import Derived.Maps.OwnSet
import Derived.Maps.OwnOps
import Derived.Test.YtlmpfkbgknbcnaaGreatAb
set_option linter.unusedVariables false
set_option maxRecDepth 100000
namespace Go.Proofs.YtlmpfkbgknbcnaaGreat.Nd
open Go Go.RowKit Go.Joins Own Draw
theorem keyed3 : Maps.Keyed Tryz.prog 3:=Maps.int_keyed Tryz.underlying3
theorem findN_snoc (xs : List TE) (p : TE) (q : Int) : findN (xs ++ [p]) q = if 0 ≤ findN xs q then findN xs q else if kyE p = q then (xs.length : Int) else -1:=by
 unfold findN
 rw [List.findIdx?_append]
 cases h : xs.findIdx? (fun p => decide (kyE p = q)) with
 | some i => simp
 | none =>
  by_cases e : kyE p = q
  ·simp [e]
  ·simp [e]
/-- What the map of places says of a key. -/
def plN (xs : List TE) (q : Int) : Int:=if 0 ≤ findN xs q then findN xs q else 0
def plB (xs : List TE) (q : Int) : Bool:=decide (0 ≤ findN xs q)
def PlD (xs : List TE) (D : DataW Value) : Prop:=∀ q,i64 q → D.atKey (.int .i64 q) (.lit (.int .i64 0)) = .lit (.int .i64 (plN xs q)) ∧ Maps.has D (.int .i64 q) = plB xs q
def PlM (m n : Nat) (xs : List TE) (w : World) : Prop:=∃ D : DataW Value,w.ownsMap Tryz.prog 3 (plainElem Tryz.prog 3) m n D ∧ PlD xs D
theorem PlM.kept {m n : Nat} {xs : List TE} {w w' : World} (h : PlM m n xs w) (hb : Below w.heap.size w w') : PlM m n xs w':=by
 obtain ⟨D,⟨es,clock,hb',F,hs,hD⟩,hL⟩:=h
 have hlt : m < w.heap.size:=(Array.getElem?_eq_some_iff.1 hb').1
 exact ⟨D,⟨es,clock,(hb.block m hlt).trans hb',F,hs,hD⟩,hL⟩
theorem PlM.lt {m n : Nat} {xs : List TE} {w : World} (h : PlM m n xs w) : m < w.heap.size:=by
 obtain ⟨D,h,_⟩:=h
 exact h.lt
theorem PlM.made (w : World) : PlM w.heap.size 0 [] (w.alloc (.map #[] 0)) :=
 ⟨_,World.ownsMap_made w Tryz.prog 3 (plainElem Tryz.prog 3),fun q _ => ⟨rfl,rfl⟩⟩
theorem PlM.look {m n : Nat} {xs : List TE} {w : World} (h : PlM m n xs w) {q : Int} (hq : i64 q) :
  (Instr.lookup 210 (.map (some m)) (.int .i64 q) true).run Tryz.prog w = .ok (.tuple #[.int .i64 (plN xs q),.bool (plB xs q)]) w:=by
 obtain ⟨D,h,hL⟩:=h
 obtain ⟨v,ps,hrun,hv⟩:=h.look_ok keyed3 Tryz.underlying210 (zero3 w) (plainElem_int Tryz.underlying3 (wf_of 0 (by unfold i64; omega))) (Maps.keyOf_int_mk Tryz.underlying3 (wf_of q hq))
 obtain ⟨c,rfl,hc,hwc⟩:=plainElem_int_inv Tryz.underlying3 hv
 have e:=congrArg Prod.fst hc
 simp only [(hL q hq).1] at e
 injection e with e
 injection e with _ e
 rw [hrun,(hL q hq).2,e]
theorem PlM.put {m n : Nat} {xs : List TE} {w : World} (h : PlM m n xs w) (hn : n < maxLen) (p : TE) (hp : i64 (kyE p)) (hno : ¬ 0 ≤ findN xs (kyE p)) (hl : xs.length ≤ 1048576) :
  ∃ w',(Instr.mapUpdate 210 (.map (some m)) (.int .i64 (kyE p)) (.int .i64 (xs.length : Int))).run Tryz.prog w = .ok () w' ∧ PlM m (n + 1) (xs ++ [p]) w' ∧ w.grownBy w' (some m):=by
 obtain ⟨D,ho,hL⟩:=h
 obtain ⟨w',hrun,ho',hg⟩:=ho.update keyed3 Tryz.underlying210 hn (Maps.keyOf_int_mk Tryz.underlying3 (wf_of _ hp)) (plainElem_int Tryz.underlying3 (wf_of (xs.length : Int) (by unfold i64; omega)))
 refine ⟨w',hrun,⟨_,ho',?_⟩,hg⟩
 intro q hq
 by_cases e : q = kyE p
 ·subst e
  have hkl : WideAt.IsKeyLit (.int .i64 (kyE p)):=True.intro
  rw [Maps.atKey_put_same ho.isMap hkl,Maps.has_put_same ho.isMap hkl]
  unfold plN plB
  rw [findN_snoc,if_neg hno,if_pos rfl]
  simp
 ·have hne : (Lit.int .i64 q) ≠ .int .i64 (kyE p):=by
   intro h; injection h with _ h; exact e h
  rw [Maps.atKey_put_other hne,Maps.has_put_other hne,(hL q hq).1,(hL q hq).2]
  unfold plN plB
  rw [findN_snoc]
  by_cases h0 : 0 ≤ findN xs q
  ·simp [h0]
  ·have e2 : ¬ kyE p = q:=fun h => e h.symm
   simp [h0,e2]
theorem PlM.skip {m n : Nat} {xs : List TE} {w : World} (h : PlM m n xs w) (p : TE) (hyes : 0 ≤ findN xs (kyE p)) : PlM m n (xs ++ [p]) w:=by
 obtain ⟨D,ho,hL⟩:=h
 refine ⟨D,ho,fun q hq => ?_⟩
 rw [(hL q hq).1,(hL q hq).2]
 unfold plN plB
 rw [findN_snoc]
 by_cases h0 : 0 ≤ findN xs q
 ·simp [h0]
 ·have e : ¬ kyE p = q:=fun e => h0 (e ▸ hyes)
  simp [h0,e]
theorem PlM.more {m n n' : Nat} {xs : List TE} {w : World} (h : PlM m n xs w) (hn : n ≤ n') : PlM m n' xs w:=by
 obtain ⟨D,⟨es,clock,hb',F,hs,hD⟩,hL⟩:=h
 exact ⟨D,⟨es,clock,hb',F,Nat.le_trans hs hn,hD⟩,hL⟩
set_option maxRecDepth 100000 in
set_option maxHeartbeats 3200000 in
theorem places_is (a : Option Addr) (cap : Nat) (xs : List TE) (w : World) (hr : FRow 11 cE w a xs) (hl : xs.length ≤ 1048576) (hx : ∀ p ∈ xs,i64 (kyE p)) :
  Calls Tryz.prog 152 #[.slice a xs.length cap] w fun e w' => e = .returned (.map (some w.heap.size)) ∧ PlM w.heap.size xs.length xs w' ∧ Below w.heap.size w w':=by
 obtain ⟨ie,hie,his⟩:=info_E
 have hmm:=@run_makeMap Tryz.prog
 have h0 : PlM w.heap.size 0 (xs.take 0) (w.alloc (.map #[] 0)):=PlM.made w
 have hb0 : Below w.heap.size w (w.alloc (.map #[] 0)):=(Below.refl _ _).alloc (Nat.le_refl _) _
 go_enter Tryz.func152,Tryz.ntmps152
 go_wp2
 clear hmm
 go_loopw [11] (fun i wr => ∃ k : Nat,k ≤ xs.length ∧ i = .int .i64 k ∧ PlM w.heap.size k (xs.take k) wr ∧ Below w.heap.size w wr) (fun i _ => xs.length - (intOf i).toNat)
 case atStart => exact ⟨0,by omega,rfl,h0,hb0⟩
 case round =>
  clear h0 hb0
  obtain ⟨k,hk,rfl,hM,hbel⟩:=hrel
  by_cases hlt : k < xs.length
  ·obtain ⟨b1,o1,rfl,l1,hcc⟩:=hr k hlt
   have h0 : wr.cell? ⟨b1,o1 + k * 11,none⟩ = some (.int .i64 xs[k].1):=(hbel.cell (p:=⟨b1,o1 + k * 11,none⟩) l1).trans (hcc 0 _ rfl)
   have h1 : wr.cell? ⟨b1,o1 + k * 11 + 1,none⟩ = some (.int .i64 xs[k].2.1):=(hbel.cell (p:=⟨b1,o1 + k * 11 + 1,none⟩) l1).trans (hcc 1 _ rfl)
   have h2 : wr.cell? ⟨b1,o1 + k * 11 + 2,none⟩ = some (.int .i64 xs[k].2.2.1):=(hbel.cell (p:=⟨b1,o1 + k * 11 + 2,none⟩) l1).trans (hcc 2 _ rfl)
   have h3 : wr.cell? ⟨b1,o1 + k * 11 + 3,none⟩ = some (.int .i64 xs[k].2.2.2.1):=(hbel.cell (p:=⟨b1,o1 + k * 11 + 3,none⟩) l1).trans (hcc 3 _ rfl)
   have h4 : wr.cell? ⟨b1,o1 + k * 11 + 4,none⟩ = some (.int .i64 xs[k].2.2.2.2.1):=(hbel.cell (p:=⟨b1,o1 + k * 11 + 4,none⟩) l1).trans (hcc 4 _ rfl)
   have h5 : wr.cell? ⟨b1,o1 + k * 11 + 5,none⟩ = some (.int .i64 xs[k].2.2.2.2.2.1):=(hbel.cell (p:=⟨b1,o1 + k * 11 + 5,none⟩) l1).trans (hcc 5 _ rfl)
   have h6 : wr.cell? ⟨b1,o1 + k * 11 + 6,none⟩ = some (.int .i64 xs[k].2.2.2.2.2.2.1):=(hbel.cell (p:=⟨b1,o1 + k * 11 + 6,none⟩) l1).trans (hcc 6 _ rfl)
   have h7 : wr.cell? ⟨b1,o1 + k * 11 + 7,none⟩ = some (.int .i64 xs[k].2.2.2.2.2.2.2.1):=(hbel.cell (p:=⟨b1,o1 + k * 11 + 7,none⟩) l1).trans (hcc 7 _ rfl)
   have h8 : wr.cell? ⟨b1,o1 + k * 11 + 8,none⟩ = some (.int .i64 xs[k].2.2.2.2.2.2.2.2.1):=(hbel.cell (p:=⟨b1,o1 + k * 11 + 8,none⟩) l1).trans (hcc 8 _ rfl)
   have h9 : wr.cell? ⟨b1,o1 + k * 11 + 9,none⟩ = some (.int .i64 xs[k].2.2.2.2.2.2.2.2.2.1):=(hbel.cell (p:=⟨b1,o1 + k * 11 + 9,none⟩) l1).trans (hcc 9 _ rfl)
   have h10 : wr.cell? ⟨b1,o1 + k * 11 + 10,none⟩ = some (.int .i64 xs[k].2.2.2.2.2.2.2.2.2.2):=(hbel.cell (p:=⟨b1,o1 + k * 11 + 10,none⟩) l1).trans (hcc 10 _ rfl)
   have hlt2 : (k : Int) < (xs.length : Int):=by omega
   have htk : (xs.take k).length = k:=by rw [List.length_take]; omega
   have hsn : xs.take (k + 1) = xs.take k ++ [xs[k]]:=List.take_succ_eq_append_getElem hlt
   have hik : i64 (kyE xs[k]):=hx _ (List.getElem_mem hlt)
   obtain ⟨V0,hV0⟩ : ∃ V0,wr.alloc (.cells #[.int .i64 0,.int .i64 0,.int .i64 0,.int .i64 0,.int .i64 0,.int .i64 0,.int .i64 0,.int .i64 0,.int .i64 0,.int .i64 0,.int .i64 0] 106) = V0:=⟨_,rfl⟩
   have T0 : Blk wr.heap.size [.int .i64 0,.int .i64 0,.int .i64 0,.int .i64 0,.int .i64 0,.int .i64 0,.int .i64 0,.int .i64 0,.int .i64 0,.int .i64 0,.int .i64 0] V0:=by rw [← hV0]; exact Blk.new _ _ _
   have bW0 : Below wr.heap.size wr V0:=by rw [← hV0]; exact (Below.refl _ _).alloc (Nat.le_refl _) _
   obtain ⟨V1,hV1⟩ : ∃ V1,V0.setCells wr.heap.size 0 (cE xs[k]) = V1:=⟨_,rfl⟩
   have T1 : Blk wr.heap.size (cE xs[k]) V1:=by rw [← hV1]; exact T0.sets _ rfl
   have bW1 : Below wr.heap.size wr V1:=by rw [← hV1]; exact below_sets (Nat.le_refl _) _ _ _ bW0
   have M1:=hM.kept bW1
   have B1:=hbel.trans (bW1.mono hbel.size)
   have d5:=T1.at 5 rfl
   have LK:=M1.look hik
   clear hM hbel bW1 bW0 hcc hr
   by_cases hf : 0 ≤ findN (xs.take k) (kyE xs[k])
   ·have HB : plB (xs.take k) (kyE xs[k]) = true:=decide_eq_true hf
    have M2:=(M1.skip _ hf).more (Nat.le_succ k)
    rw [← hsn] at M2
    rw [HB] at LK
    clear M1 HB hf hik hsn htk
    generalize plN (xs.take k) (kyE xs[k]) = pn at LK
    generalize hp : xs[k] = p at LK d5 T1 hV1 h0 h1 h2 h3 h4 h5 h6 h7 h8 h9 h10
    clear hp
    obtain ⟨p0,p1,p2,p3,p4,p5,p6,p7,p8,p9,p10⟩:=p
    go_wp2_with (first | (refine wpList_stB 106 _ _ _ 0 _ [.int .i64 p0,.int .i64 p1,.int .i64 p2,.int .i64 p3,.int .i64 p4,.int .i64 p5,.int .i64 p6,.int .i64 p7,.int .i64 p8,.int .i64 p9,.int .i64 p10] ie hie T0 his.symm (by simp) rfl rfl rfl rfl rfl ?_; rw [hV1]) | go_in)
    go_roundw
    case rel => exact ⟨k + 1,by omega,by go_num,M2,B1⟩
    case measure => simp [intOf]; omega
   ·have HB : plB (xs.take k) (kyE xs[k]) = false:=decide_eq_false hf
    obtain ⟨W2,UP,M2,G2⟩:=M1.put (by unfold maxLen; omega) xs[k] hik hf (by omega)
    rw [← hsn] at M2
    rw [htk] at UP
    have B2 : Below w.heap.size w W2:=B1.grown G2 B1.size (fun j e => by cases e; exact Nat.le_refl _)
    rw [HB] at LK
    clear M1 HB hf hik hsn htk B1 G2
    generalize plN (xs.take k) (kyE xs[k]) = pn at LK
    generalize hp : xs[k] = p at LK UP d5 T1 hV1 h0 h1 h2 h3 h4 h5 h6 h7 h8 h9 h10
    clear hp
    obtain ⟨p0,p1,p2,p3,p4,p5,p6,p7,p8,p9,p10⟩:=p
    go_wp2_with (first | (refine wpList_stB 106 _ _ _ 0 _ [.int .i64 p0,.int .i64 p1,.int .i64 p2,.int .i64 p3,.int .i64 p4,.int .i64 p5,.int .i64 p6,.int .i64 p7,.int .i64 p8,.int .i64 p9,.int .i64 p10] ie hie T0 his.symm (by simp) rfl rfl rfl rfl rfl ?_; rw [hV1]) | go_in)
    go_roundw
    case rel => exact ⟨k + 1,by omega,by go_num,M2,B2⟩
    case measure => simp [intOf]; omega
  ·obtain rfl : k = xs.length:=by omega
   rw [List.take_length] at hM
   go_wp2
   go_ret
   exact ⟨rfl,hM,hbel⟩
end Go.Proofs.YtlmpfkbgknbcnaaGreat.Nd

set_option linter.unusedVariables false
set_option maxRecDepth 100000
namespace Go.Proofs.YtlmpfkbgknbcnaaGreat.Nd
open Go Go.RowKit Go.Joins Own Draw
/-- What comes ahead of an event: the key of the ticket that was asked with, and of the one that is handed on. -/
def awV (p : TE) : Int × Bool:=if kdE p = 2 ∨ kdE p = 3 ∨ kdE p = 4 then (paE p,true) else (0,false)
def hoV (p : TE) : Int × Bool:=if kdE p = 4 then (evE p,true) else awV p
set_option maxRecDepth 100000 in
set_option maxHeartbeats 1600000 in
theorem asked_is (p : TE) (w : World) :
  Calls Tryz.prog 106 #[vE p] w fun e w' => e = .returned (.tuple #[I (awV p).1,.bool (awV p).2]) ∧ Below w.heap.size w w':=by
 obtain ⟨p0,p1,p2,p3,p4,p5,p6,p7,p8,p9,p10⟩:=p
 obtain ⟨V,hV⟩ : ∃ V,w.alloc (.cells #[I p0,I p1,I p2,I p3,I p4,I p5,I p6,I p7,I p8,I p9,I p10] 106) = V:=⟨_,rfl⟩
 have TV : Blk w.heap.size [I p0,I p1,I p2,I p3,I p4,I p5,I p6,I p7,I p8,I p9,I p10] V:=by rw [← hV]; exact Blk.new _ _ _
 have bV : Below w.heap.size w V:=by rw [← hV]; exact (Below.refl _ _).alloc (Nat.le_refl _) _
 have d0:=TV.at 0 rfl
 have d6:=TV.at 6 rfl
 have d7:=TV.at 7 rfl
 unfold awV kdE paE
 simp only
 go_enter Tryz.func106,Tryz.ntmps106
 by_cases e2 : p0 = 2
 ·subst e2
  rw [if_pos (by omega)]
  go_wp2
  go_ret2
  exact ⟨rfl,bV⟩
 by_cases e3 : p0 = 3
 ·subst e3
  rw [if_pos (by omega)]
  go_wp2
  go_ret2
  exact ⟨rfl,bV⟩
 by_cases e4 : p0 = 4
 ·subst e4
  rw [if_pos (by omega)]
  go_wp2
  go_ret2
  exact ⟨rfl,bV⟩
 rw [if_neg (by omega)]
 have q2 : (p0 == 2) = false:=beq_eq_false_iff_ne.2 e2
 have q3 : (p0 == 3) = false:=beq_eq_false_iff_ne.2 e3
 have q4 : (p0 == 4) = false:=beq_eq_false_iff_ne.2 e4
 clear e2 e3 e4
 go_wp2
 go_ret2
 exact ⟨rfl,bV⟩
end Go.Proofs.YtlmpfkbgknbcnaaGreat.Nd

set_option linter.unusedVariables false
set_option maxRecDepth 100000
namespace Go.Proofs.YtlmpfkbgknbcnaaGreat.Nd
open Go Go.RowKit Go.Joins Own Draw
/-- The chain, from its end to its beginning, in so many steps at most; ah says what comes ahead of an event. -/
def bwL (xs : List TE) (ah : TE → Int × Bool) : Nat → Int → Bool → List Int
 | 0,_,_ => []
 | f + 1,q,m => if h : m = true ∧ 0 ≤ findN xs q ∧ (findN xs q).toNat < xs.length then
   findN xs q :: bwL xs ah f (ah xs[(findN xs q).toNat]).1 (ah xs[(findN xs q).toNat]).2 else []
theorem bwL_false (xs : List TE) (ah : TE → Int × Bool) (f : Nat) (q : Int) : bwL xs ah f q false = []:=by
 cases f with
 | zero => rfl
 | succ f => unfold bwL; rw [dif_neg (by simp)]
theorem bwL_no {xs : List TE} {ah : TE → Int × Bool} {f : Nat} {q : Int} {m : Bool} (h : findN xs q = -1) : bwL xs ah f q m = []:=by
 cases f with
 | zero => rfl
 | succ f => unfold bwL; rw [dif_neg (by omega)]
theorem bwL_yes {xs : List TE} {ah : TE → Int × Bool} {f : Nat} {q : Int} {i : Nat} (h : findN xs q = (i : Int)) (hi : i < xs.length) : bwL xs ah (f + 1) q true = (i : Int) :: bwL xs ah f (ah xs[i]).1 (ah xs[i]).2:=by
 conv => lhs; unfold bwL
 rw [dif_pos ⟨rfl,by omega,by rw [h]; simpa using hi⟩]
 simp only [h,Int.toNat_natCast]
theorem bwL_len (xs : List TE) (ah : TE → Int × Bool) : ∀ (f : Nat) (q : Int) (m : Bool),(bwL xs ah f q m).length ≤ f
 | 0,q,m => by simp [bwL]
 | f + 1,q,m => by
  unfold bwL
  split
  ·have:=bwL_len xs ah f (ah xs[(findN xs q).toNat]).1 (ah xs[(findN xs q).toNat]).2
   simp; omega
  ·simp
/-- Every number of it is that of an event. -/
theorem bwL_in (xs : List TE) (ah : TE → Int × Bool) : ∀ (f : Nat) (q : Int) (m : Bool),∀ z ∈ bwL xs ah f q m,∃ i : Nat,z = (i : Int) ∧ i < xs.length
 | 0,q,m => by simp [bwL]
 | f + 1,q,m => by
  unfold bwL
  split
  ·rename_i h
   intro z hz
   rcases List.mem_cons.1 hz with rfl | hz
   ·exact ⟨(findN xs q).toNat,by omega,h.2.2⟩
   ·exact bwL_in xs ah f _ _ z hz
  ·simp
/-- Does an event's number say a login? -/
def isLog (xs : List TE) (z : Int) : Bool:=match xs[z.toNat]? with | some p => decide (kdE p = 1) | none => false
/-- A chain from its beginning on, where that is a login. -/
def frL (xs : List TE) (l : List Int) : List Int:=match l.getLast? with | none => [] | some z => if isLog xs z then l.reverse else []
theorem isLog_at {xs : List TE} {i : Nat} (hi : i < xs.length) : isLog xs (i : Int) = decide (kdE xs[i] = 1):=by
 unfold isLog
 simp only [Int.toNat_natCast,List.getElem?_eq_getElem hi]
theorem frL_one {xs : List TE} {i : Nat} (hi : i < xs.length) : frL xs [(i : Int)] = if kdE xs[i] = 1 then [(i : Int)] else []:=by
 unfold frL
 simp only [List.getLast?_singleton,isLog_at hi,List.reverse_singleton]
 by_cases h : kdE xs[i] = 1 <;> simp [h]
theorem frL_cons {xs : List TE} {z : Int} {l : List Int} (h : l ≠ []) : frL xs (z :: l) = if frL xs l = [] then [] else frL xs l ++ [z]:=by
 unfold frL
 cases e : l.getLast? with
 | none => exact absurd (List.getLast?_eq_none_iff.1 e) h
 | some y =>
  rw [List.getLast?_cons,e]
  simp only [Option.getD_some]
  by_cases hy : isLog xs y
  ·simp [hy,h]
  ·simp [hy]
theorem ch_bw (xs : List TE) : ∀ (f : Nat) (out : List Int) (key : Int),chG xs f out key = if frL xs (bwL xs hoV f key true) = [] then [] else frL xs (bwL xs hoV f key true) ++ out
 | 0,out,key => by simp [chG,bwL,frL]
 | f + 1,out,key => by
  rcases findN_cases xs key with h | ⟨i,h,hi⟩
  ·rw [chG_no h,bwL_no h]; simp [frL]
  ·rw [chG_yes h hi,bwL_yes h hi]
   have hon : ∀ q,hoV xs[i] = (q,true) → ¬ kdE xs[i] = 1 → chG xs f ((i : Int) :: out) q = if frL xs ((i : Int) :: bwL xs hoV f q true) = [] then [] else frL xs ((i : Int) :: bwL xs hoV f q true) ++ out:=by
    intro q hq hk
    rw [ch_bw xs f ((i : Int) :: out) q]
    by_cases hb : bwL xs hoV f q true = []
    ·rw [hb,frL_one hi,if_neg hk]; simp [frL]
    ·rw [frL_cons hb]
     by_cases hf : frL xs (bwL xs hoV f q true) = []
     ·simp [hf]
     ·simp [hf]
   have hoff : hoV xs[i] = (0,false) → chG xs (f + 1) out key = (if kdE xs[i] = 1 then (i : Int) :: out else []) → (if kdE xs[i] = 1 then (i : Int) :: out else []) = if frL xs ((i : Int) :: bwL xs hoV f (hoV xs[i]).1 (hoV xs[i]).2) = [] then [] else frL xs ((i : Int) :: bwL xs hoV f (hoV xs[i]).1 (hoV xs[i]).2) ++ out:=by
    intro ho _
    rw [ho,bwL_false,frL_one hi]
    by_cases hk : kdE xs[i] = 1 <;> simp [hk]
   by_cases e1 : kdE xs[i] = 1
   ·rw [if_pos e1]
    have ho : hoV xs[i] = (0,false):=by unfold hoV awV; rw [if_neg (by omega),if_neg (by omega)]
    rw [ho]
    show _ = if frL xs ((i : Int) :: bwL xs hoV f 0 false) = [] then [] else frL xs ((i : Int) :: bwL xs hoV f 0 false) ++ out
    rw [bwL_false,frL_one hi,if_pos e1]
    simp
   ·rw [if_neg e1]
    by_cases e2 : kdE xs[i] = 2 ∨ kdE xs[i] = 3
    ·rw [if_pos e2]
     have ho : hoV xs[i] = (paE xs[i],true):=by unfold hoV awV; rw [if_neg (by omega),if_pos (by omega)]
     rw [ho]
     exact hon _ ho e1
    ·rw [if_neg e2]
     by_cases e4 : kdE xs[i] = 4
     ·rw [if_pos e4]
      have ho : hoV xs[i] = (evE xs[i],true):=by unfold hoV; rw [if_pos e4]
      rw [ho]
      exact hon _ ho e1
     ·rw [if_neg e4]
      have ho : hoV xs[i] = (0,false):=by unfold hoV awV; rw [if_neg e4,if_neg (by omega)]
      rw [ho]
      show _ = if frL xs ((i : Int) :: bwL xs hoV f 0 false) = [] then [] else frL xs ((i : Int) :: bwL xs hoV f 0 false) ++ out
      rw [bwL_false,frL_one hi,if_neg e1]
      simp
/-- Of more numbers than there are places two are alike. -/
theorem pigeon : ∀ (L : Nat) (s : Nat → Nat),(∀ j,j ≤ L → s j < L) → ∃ a b,a < b ∧ b ≤ L ∧ s a = s b
 | 0,s,h => absurd (h 0 (Nat.le_refl _)) (by omega)
 | L + 1,s,h => by
  by_cases hx : ∃ a,a ≤ L ∧ s a = s (L + 1)
  ·obtain ⟨a,ha,e⟩:=hx
   exact ⟨a,L + 1,by omega,Nat.le_refl _,e⟩
  ·have hn : ∀ a,a ≤ L → ¬ s a = s (L + 1):=fun a ha e => hx ⟨a,ha,e⟩
   obtain ⟨a,b,hab,hb,e⟩:=pigeon L (fun j => if s j = L then s (L + 1) else s j) (by
    intro j hj
    have h1:=h j (by omega)
    have h2:=h (L + 1) (Nat.le_refl _)
    have h3:=hn j hj
    show (if s j = L then s (L + 1) else s j) < L
    split <;> omega)
   refine ⟨a,b,hab,by omega,?_⟩
   have h1:=hn a (by omega)
   have h2:=hn b hb
   split at e <;> split at e <;> omega
/-- What comes next of a key. -/
def nk (xs : List TE) (q : Int) : Int:=if h : (findN xs q).toNat < xs.length then (hoV xs[(findN xs q).toNat]).1 else 0
def kAt (xs : List TE) (q : Int) : Nat → Int
 | 0 => q
 | j + 1 => kAt xs (nk xs q) j
theorem kAt_succ (xs : List TE) : ∀ (j : Nat) (q : Int),kAt xs q (j + 1) = nk xs (kAt xs q j)
 | 0,q => rfl
 | j + 1,q => kAt_succ xs j (nk xs q)
def On (xs : List TE) (q : Int) : Prop:=∃ i,∃ h : i < xs.length,findN xs q = (i : Int) ∧ ¬ kdE xs[i] = 1
def Log (xs : List TE) (q : Int) : Prop:=∃ i,∃ h : i < xs.length,findN xs q = (i : Int) ∧ kdE xs[i] = 1
theorem nk_at {xs : List TE} {q : Int} {i : Nat} (h : findN xs q = (i : Int)) (hi : i < xs.length) : nk xs q = (hoV xs[i]).1:=by
 unfold nk
 rw [dif_pos (by rw [h]; simpa using hi)]
 simp only [h,Int.toNat_natCast]
theorem ch_step (xs : List TE) : ∀ (n : Nat) (out : List Int) (q : Int),chG xs (n + 1) out q = chG xs n out q ∨ ((∀ j,j < n → On xs (kAt xs q j)) ∧ Log xs (kAt xs q n))
 | 0,out,q => by
  rcases findN_cases xs q with h | ⟨i,h,hi⟩
  ·left; rw [chG_no h]; rfl
  ·by_cases e1 : kdE xs[i] = 1
   ·right; exact ⟨fun j hj => absurd hj (by omega),i,hi,h,e1⟩
   ·left
    rw [chG_yes h hi,if_neg e1]
    simp [chG]
 | n + 1,out,q => by
  rcases findN_cases xs q with h | ⟨i,h,hi⟩
  ·left; rw [chG_no h,chG_no h]
  ·rw [chG_yes h hi,chG_yes h hi]
   by_cases e1 : kdE xs[i] = 1
   ·left; simp [e1]
   ·simp only [if_neg e1]
    have on : On xs (kAt xs q 0):=⟨i,hi,h,e1⟩
    have go : ∀ k,hoV xs[i] = (k,true) → chG xs (n + 1) ((i : Int) :: out) k = chG xs n ((i : Int) :: out) k ∨ ((∀ j,j < n + 1 → On xs (kAt xs q j)) ∧ Log xs (kAt xs q (n + 1))):=by
     intro k hk
     have hnk : nk xs q = k:=by rw [nk_at h hi,hk]
     rcases ch_step xs n ((i : Int) :: out) k with e | ⟨e,l⟩
     ·left; exact e
     ·right
      refine ⟨fun j hj => ?_,?_⟩
      ·cases j with
       | zero => exact on
       | succ j => show On xs (kAt xs (nk xs q) j); rw [hnk]; exact e j (by omega)
      ·show Log xs (kAt xs (nk xs q) n); rw [hnk]; exact l
    by_cases e2 : kdE xs[i] = 2 ∨ kdE xs[i] = 3
    ·simp only [if_pos e2]
     exact go _ (by unfold hoV awV; rw [if_neg (by omega),if_pos (by omega)])
    ·simp only [if_neg e2]
     by_cases e4 : kdE xs[i] = 4
     ·simp only [if_pos e4]
      exact go _ (by unfold hoV; rw [if_pos e4])
     ·left; simp [e4]
/-- A chain that comes to a login at all comes to it in as many steps as there are events. -/
theorem ch_len (xs : List TE) (q : Int) : chG xs (xs.length + 1) [] q = chG xs xs.length [] q:=by
 rcases ch_step xs xs.length [] q with e | ⟨on,lg⟩
 ·exact e
 ·exfalso
  have hlt : ∀ j,j ≤ xs.length → (findN xs (kAt xs q j)).toNat < xs.length:=by
   intro j hj
   by_cases e : j < xs.length
   ·obtain ⟨i,hi,h,_⟩:=on j e
    rw [h]; simpa using hi
   ·obtain rfl : j = xs.length:=by omega
    obtain ⟨i,hi,h,_⟩:=lg
    rw [h]; simpa using hi
  obtain ⟨a,b,hab,hb,e⟩:=pigeon xs.length (fun j => (findN xs (kAt xs q j)).toNat) hlt
  obtain ⟨i,hi,ha,hk⟩:=on a (by omega)
  have hfb : findN xs (kAt xs q b) = (i : Int):=by
   have h1 : (findN xs (kAt xs q a)).toNat = (findN xs (kAt xs q b)).toNat:=e
   rw [ha] at h1
   rcases findN_cases xs (kAt xs q b) with h | ⟨i',h,hi'⟩
   ·exfalso
    by_cases e' : b < xs.length
    ·obtain ⟨i2,_,h2,_⟩:=on b e'
     omega
    ·obtain rfl : b = xs.length:=by omega
     obtain ⟨i2,_,h2,_⟩:=lg
     omega
   ·rw [h] at h1 ⊢
    simp at h1
    omega
  by_cases e' : b < xs.length
  ·have hs : ∀ t,kAt xs q (a + 1 + t) = kAt xs q (b + 1 + t):=by
    intro t
    induction t with
    | zero => rw [Nat.add_zero,Nat.add_zero,kAt_succ,kAt_succ,nk_at ha hi,nk_at hfb hi]
    | succ t ih => rw [← Nat.add_assoc,← Nat.add_assoc,kAt_succ,kAt_succ,ih]
   have h1:=hs (xs.length - b - 1)
   rw [show b + 1 + (xs.length - b - 1) = xs.length by omega] at h1
   obtain ⟨i2,hi2,h2,hk2⟩:=lg
   obtain ⟨i3,hi3,h3,hk3⟩:=on (a + 1 + (xs.length - b - 1)) (by omega)
   rw [h1,h2] at h3
   have : i2 = i3:=by omega
   subst this
   exact hk3 hk2
  ·obtain rfl : b = xs.length:=by omega
   obtain ⟨i2,hi2,h2,hk2⟩:=lg
   rw [h2] at hfb
   have : i2 = i:=by omega
   subst this
   exact hk hk2
end Go.Proofs.YtlmpfkbgknbcnaaGreat.Nd
