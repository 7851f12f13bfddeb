/- The first event of a key. -/
import Derived.Test.YtlmpfkbgknbcnaaGreatAb
import Derived.Test.YtlmpfkbgknbcnaaGreatNd0
import Derived.Laws.AppendOwn
set_option linter.unusedVariables false
set_option maxRecDepth 100000
namespace Go.Proofs.YtlmpfkbgknbcnaaGreat.Nd
open Go Go.RowKit Go.Joins Own Draw
abbrev kyE (p : TE) : Int:=p.2.2.2.2.2.1
def findN (xs : List TE) (n : Int) : Int:=match xs.findIdx? (fun p => decide (kyE p = n)) with | some i => (i : Int) | none => -1
theorem findN_at {xs : List TE} {n : Int} {k : Nat} (h : k < xs.length) (he : kyE xs[k] = n) (hno : ∀ j (hj : j < k),¬ kyE xs[j] = n) : findN xs n = (k : Int):=by
 have e : xs.findIdx? (fun p => decide (kyE p = n)) = some k:=List.findIdx?_eq_some_iff_getElem.2 ⟨h,by simpa using he,fun j hj => by simpa using hno j hj⟩
 unfold findN
 rw [e]
theorem findN_none {xs : List TE} {n : Int} (hno : ∀ j (hj : j < xs.length),¬ kyE xs[j] = n) : findN xs n = -1:=by
 have e : xs.findIdx? (fun p => decide (kyE p = n)) = none:=by
  rw [List.findIdx?_eq_none_iff]
  intro x hx
  obtain ⟨j,hj,rfl⟩:=List.mem_iff_getElem.1 hx
  simpa using hno j hj
 unfold findN
 rw [e]
set_option maxRecDepth 100000 in
set_option maxHeartbeats 1600000 in
theorem specFind_is (a : Option Addr) (cap : Nat) (xs : List TE) (n : Int) (w : World) (hr : FRow 11 cE w a xs) (hl : xs.length ≤ 1048576) :
  Calls Tryz.prog 94 #[.slice a xs.length cap,I n] w fun e w' => e = .returned (I (findN xs n)) ∧ Below w.heap.size w w':=by
 go_enter Tryz.func94,Tryz.ntmps94
 go_wp2
 go_loopw [5] (fun i wr => ∃ k : Nat,k ≤ xs.length ∧ i = I k ∧ Hid (∀ j (h : j < xs.length),j < k → ¬ kyE xs[j] = n) ∧ Below w.heap.size w wr) (fun i _ => xs.length - (intOf i).toNat)
 case atStart => exact ⟨0,by omega,rfl,fun j h hj => absurd hj (by omega),Below.refl _ _⟩
 case round =>
  obtain ⟨k,hk,rfl,hno,hbel⟩:=hrel
  by_cases hlt : k < xs.length
  ·obtain ⟨b1,o1,rfl,l1,hc⟩:=hr k hlt
   have h5 : wr.cell? ⟨b1,o1 + k * 11 + 5,none⟩ = some (I (kyE xs[k])):=(hbel.cell (p:=⟨b1,o1 + k * 11 + 5,none⟩) l1).trans (hc 5 _ rfl)
   have hlt2 : (k : Int) < (xs.length : Int):=by omega
   by_cases he : kyE xs[k] = n
   ·have HV : Hid (findN xs n = (k : Int)):=findN_at hlt he (fun j hj => hno.out j (by omega) hj)
    rw [he] at h5
    clear hr hc he hno
    go_wp2
    go_ret
    exact ⟨by rw [HV.out]; rfl,hbel⟩
   ·have hno2 : Hid (∀ j (h : j < xs.length),j < k + 1 → ¬ kyE xs[j] = n):=fun j h hj => by
     by_cases e : j = k
     ·subst e; exact he
     ·exact hno.out j h (by omega)
    generalize kyE xs[k] = u at h5 he
    have hd : (u == n) = false:=beq_eq_false_iff_ne.2 he
    clear hr hc hno he
    go_wp2
    go_roundw
    case rel => exact ⟨k + 1,by omega,by go_num,hno2,hbel⟩
    case measure => simp [intOf]; omega
  ·obtain rfl : k = xs.length:=by omega
   have HV : Hid (findN xs n = -1):=findN_none (fun j hj => hno.out j hj hj)
   go_wp2
   go_ret
   exact ⟨by rw [HV.out]; rfl,hbel⟩
end Go.Proofs.YtlmpfkbgknbcnaaGreat.Nd

set_option linter.unusedVariables false
namespace Go.Proofs.YtlmpfkbgknbcnaaGreat.Nd
open Go Go.RowKit Go.Joins Own
theorem run_append_none {P : Program} {w : World} {base : Nat} (t ty e : TypeId) (i : TypeInfo) {size n : Nat} {v : Value} {xs : List Value} (ht : P.underlying t = some (.slice e)) (hi : P.info? e = some i) (hown : w.ownsRow base e size v n xs) (c : Nat) :
  (Builtin.append_ #[t,t] ty #[v,.slice none 0 c]).run P w = .ok v w:=by
 rcases hown.2 with ⟨rfl,rfl⟩ | ⟨g,cap,cur,rfl,hbg,hg,hnc,hcm,hcs,htake⟩
 ·simp [Builtin.append_,run_underlying ht,sizeOf,typeInfo,hi,Builtin.lenOf,Builtin.firstCells]
 ·simp [Builtin.append_,run_underlying ht,sizeOf,typeInfo,hi,Builtin.lenOf,Builtin.firstCells,loadCells,hnc,storeCells]
theorem wpList_append_row {P : Program} (w : World) {ops : Array Oper} {rest : List Oper} {o : Oper} {a : Act} {Q : Exit → Act → World → Prop} (hgd : o.guard = none) (s x : Operand) (t : TypeId)
  (ho : o.op = .call { callee:=.builtin .append,args:=#[s,x],argTypes:=#[t,t] })
  (base : Nat) (e : TypeId) (i : TypeInfo) (z : Value) (size bytes : Nat) (ht : P.underlying t = some (.slice e)) (hi : P.info? e = some i) (hz : i.zero = some z)
  (hsize : i.size = size) (hby : i.bytes = bytes) (hzs : z.cells.size = size) (hsz : 0 < size)
  (v : Value) (n : Nat) (xs : List Value) (hs : a.eval s = v) (hown : w.ownsRow base e size v n xs)
  (oa : Option Addr) (m c : Nat) (news : List Value) (hx : a.eval x = .slice oa m c) (hl : news.length = m * size) (hnews : ∀ ad,oa = some ad → ∀ j u,news[j]? = some u → w.cell? (ad.add j) = some u) (h1 : ∀ u ∈ news,u.oneCell' = true)
  (h63 : n + m ≤ maxLen) (hbytes : (n + m) * bytes ≤ 140737488355328) (hbase : base ≤ w.heap.size) (hnil : oa = none → m = 0)
  (h : ∀ v' w',w'.ownsRow base e size v' (n + m) (xs ++ news) → w.grownBy w' v.ownBlock → wpList P ops Q rest (a.put o.dst v') w') : wpList P ops Q (o :: rest) a w:=by
 cases oa with
 | some ad => exact wpList_append_own w hgd s x t ho base e i z size bytes ht hi hz hsize hby hzs hsz v n xs hs hown ad m c news hx hl (hnews ad rfl) h1 h63 hbytes hbase (fun v' w' h2 h3 _ => h v' w' h2 h3)
 | none =>
  obtain rfl:=hnil rfl
  have hn : news = []:=List.eq_nil_of_length_eq_zero (by simpa using hl)
  subst hn
  have hr:=run_append_none t o.type e i ht hi hown c
  refine wpList_plain hgd fun K hK => ?_
  unfold Oper.wp execOp
  simp only [ho,resolve,invoke,builtin,Sem.run_bind,Sem.run_pure,Result.andThen_ok,List.map_toArray,List.map_cons,List.map_nil,hs,hx,hr]
  exact hK _ _ (h v w (by simpa using hown) (World.grownBy.refl w _))
theorem row_nil {α : Type} {f : α → Value} {w : World} {a : Option Addr} {xs : List α} (h : RowAt f w a xs) (ha : a = none) : xs.length = 0:=by
 cases xs with
 | nil => rfl
 | cons x xs =>
  obtain ⟨b,off,e,_⟩:=h 0 (by simp)
  rw [ha] at e; cases e
theorem news_row {α : Type} {f : α → Value} {w : World} {a : Option Addr} {xs : List α} (h : RowAt f w a xs) : ∀ ad,a = some ad → ∀ j u,(xs.map f)[j]? = some u → w.cell? (ad.add j) = some u:=by
 intro ad ha j u hu
 rw [List.getElem?_map] at hu
 by_cases hj : j < xs.length
 ·obtain ⟨b,off,e,_,hc⟩:=h j hj
  rw [ha] at e
  cases e
  have e2 : (⟨b,off,none⟩ : Addr).add j = ⟨b,off + j,none⟩:=by simp only [Addr.add]; split <;> simp_all
  rw [e2,hc]
  rw [List.getElem?_eq_getElem hj] at hu
  simpa using hu
 ·rw [List.getElem?_eq_none (by omega)] at hu; cases hu
end Go.Proofs.YtlmpfkbgknbcnaaGreat.Nd

set_option linter.unusedVariables false
set_option maxRecDepth 100000
namespace Go.Proofs.YtlmpfkbgknbcnaaGreat.Nd
open Go Go.RowKit Go.Joins Own Draw
theorem irow_of {w : World} {B c : Nat} {a : Option Addr} {ys : List Int} (h : w.ownsRow B 3 1 (.slice a ys.length c) ys.length (ys.map (Value.int .i64))) : RowAt (Value.int .i64) w a ys:=by
 rcases h.2 with ⟨e,h0⟩ | ⟨g,cap,cur,e,_⟩
 ·intro j hj; omega
 ·injection e with e1 _ e3
  subst e1 e3
  exact RowAt.own h
abbrev kdE (p : TE) : Int:=p.1
abbrev paE (p : TE) : Int:=p.2.2.2.2.2.2.1
abbrev evE (p : TE) : Int:=p.2.2.2.2.2.2.2.1
/-- The chain, backwards from a key, in so many steps at most. -/
def chG (xs : List TE) : Nat → List Int → Int → List Int
 | 0,_,_ => []
 | f + 1,out,key => if h : 0 ≤ findN xs key ∧ (findN xs key).toNat < xs.length then
   (if kdE xs[(findN xs key).toNat] = 1 then findN xs key :: out
    else if kdE xs[(findN xs key).toNat] = 2 ∨ kdE xs[(findN xs key).toNat] = 3 then chG xs f (findN xs key :: out) (paE xs[(findN xs key).toNat])
    else if kdE xs[(findN xs key).toNat] = 4 then chG xs f (findN xs key :: out) (evE xs[(findN xs key).toNat]) else []) else []
theorem findN_cases (xs : List TE) (n : Int) : findN xs n = -1 ∨ ∃ i : Nat,findN xs n = (i : Int) ∧ i < xs.length:=by
 unfold findN
 cases h : xs.findIdx? (fun p => decide (kyE p = n)) with
 | none => left; rfl
 | some i => right; exact ⟨i,rfl,(List.findIdx?_eq_some_iff_getElem.1 h).1⟩
theorem chG_no {xs : List TE} {f : Nat} {out : List Int} {key : Int} (h : findN xs key = -1) : chG xs (f + 1) out key = []:=by
 unfold chG; rw [dif_neg (by omega)]
theorem chG_yes {xs : List TE} {f : Nat} {out : List Int} {key : Int} {i : Nat} (h : findN xs key = (i : Int)) (hi : i < xs.length) : chG xs (f + 1) out key =
  (if kdE xs[i] = 1 then (i : Int) :: out else if kdE xs[i] = 2 ∨ kdE xs[i] = 3 then chG xs f ((i : Int) :: out) (paE xs[i]) else if kdE xs[i] = 4 then chG xs f ((i : Int) :: out) (evE xs[i]) else []):=by
 conv => lhs; unfold chG
 rw [dif_pos ⟨by omega,by rw [h]; simpa using hi⟩]
 simp only [h,Int.toNat_natCast]
theorem infoInt3 : (Tryz.prog.info? 3).map (fun i => (i.zero,i.size,i.bytes)) = some (some (I 0),1,8):=by kernel_rfl
theorem one_ints (ys : List Int) : ∀ u ∈ ys.map (Value.int .i64),u.oneCell' = true:=by
 intro u hu
 obtain ⟨x,_,rfl⟩:=List.mem_map.1 hu
 rfl
end Go.Proofs.YtlmpfkbgknbcnaaGreat.Nd

set_option linter.unusedVariables false
set_option maxRecDepth 100000
namespace Go.Proofs.YtlmpfkbgknbcnaaGreat.Nd
open Go Go.RowKit Go.Joins Own Draw
theorem mts {α : Type} {xs : List α} {k : Nat} (h : k < xs.length) (x : α) : x ∈ xs.take (k + 1) ↔ x ∈ xs.take k ∨ x = xs[k]:=by
 rw [List.take_succ_eq_append_getElem h,List.mem_append,List.mem_singleton]
/-- x ahead of the first that is greater. -/
def putL : List Int → Int → List Int
 | [],x => [x]
 | y :: r,x => if x < y then x :: y :: r else y :: putL r x
/-- Is x among the numbers? -/
def hasB (ks : List Int) (x : Int) : Bool:=ks.contains x
theorem hasB_iff (ks : List Int) (x : Int) : hasB ks x = true ↔ x ∈ ks:=by unfold hasB; exact List.contains_iff_mem
theorem hasB_no {ks : List Int} {x : Int} (h : ¬ x ∈ ks) : hasB ks x = false:=by
 rw [Bool.eq_false_iff]; intro hh; exact h ((hasB_iff ks x).1 hh)
/-- With x in its place, unless it is there. -/
def putI (ks : List Int) (x : Int) : List Int:=if hasB ks x = true then ks else putL ks x
theorem putL_len (ks : List Int) (x : Int) : (putL ks x).length = ks.length + 1:=by
 induction ks with
 | nil => rfl
 | cons y r ih => rw [putL]; split <;> simp [ih]
theorem putI_len (ks : List Int) (x : Int) : (putI ks x).length ≤ ks.length + 1:=by
 unfold putI; split
 ·omega
 ·rw [putL_len]; omega
theorem putL_pass {y : Int} {r : List Int} {x : Int} (h : ¬ x < y) : putL (y :: r) x = y :: putL r x:=by rw [putL,if_neg h]
theorem putL_stop {y : Int} {r : List Int} {x : Int} (h : x < y) : putL (y :: r) x = x :: y :: r:=by rw [putL,if_pos h]
set_option maxRecDepth 100000 in
set_option maxHeartbeats 800000 in
theorem l3Has_is (a : Option Addr) (cap : Nat) (ks : List Int) (x : Int) (w : World) (hr : RowAt (Value.int .i64) w a ks) (hl : ks.length ≤ 1048576) :
  Calls Tryz.prog 52 #[.slice a ks.length cap,I x] w fun e w' => e = .returned (.bool (hasB ks x)) ∧ w = w':=by
 go_enter Tryz.func52,Tryz.ntmps52
 go_wp2
 go_loop [5] (fun i => ∃ k : Nat,k ≤ ks.length ∧ i = I k ∧ Hid (¬ x ∈ ks.take k)) (fun i => ks.length - (intOf i).toNat)
 case atStart => exact ⟨0,by omega,rfl,by simp [Hid]⟩
 case round =>
  obtain ⟨k,hk,rfl,hx⟩:=hrel
  by_cases hlt : k < ks.length
  ·obtain ⟨b1,o1,rfl,l1,hc1⟩:=hr k hlt
   have HM : Hid (x ∈ ks.take (k + 1) ↔ x ∈ ks.take k ∨ x = ks[k]):=mts hlt x
   have HI : Hid (ks[k] ∈ ks):=List.getElem_mem hlt
   generalize ks[k] = y at hc1 HM HI
   by_cases he : y = x
   ·subst he
    have hT : hasB ks y = true:=(hasB_iff _ _).2 HI.out
    go_wp2
    all_goals
     go_ret
     exact ⟨by first | rfl | (rw [hT]; rfl),rfl⟩
   ·have hd : (y == x) = false:=by simpa using he
    have HN : Hid (¬ x ∈ ks.take (k + 1)):=by
     intro h
     rcases HM.out.1 h with h | h
     ·exact hx.out h
     ·exact he h.symm
    go_wp2
    go_round
    case rel => exact ⟨k + 1,by omega,by go_num,HN⟩
    case measure => simp [intOf]; omega
  ·have hF : hasB ks x = false:=by have:=hx.out; rw [List.take_of_length_le (by omega)] at this; exact hasB_no this
   go_wp2
   go_ret
   exact ⟨by first | rfl | (rw [hF]; rfl),rfl⟩
/-- How far the model's loop has come: what is out so far, and has x been put? -/
def PutAt (ks : List Int) (x : Int) (k : Nat) (out : List Int) (p : Bool) : Prop :=
 (p = false ∧ out = ks.take k ∧ putL ks x = ks.take k ++ putL (ks.drop k) x) ∨ (p = true ∧ out ++ ks.drop k = putL ks x)
theorem PutAt.start (ks : List Int) (x : Int) : PutAt ks x 0 [] false:=Or.inl ⟨rfl,rfl,rfl⟩
theorem drop_at {ks : List Int} {k : Nat} (h : k < ks.length) : ks.drop k = ks[k] :: ks.drop (k + 1):=List.drop_eq_getElem_cons h
theorem PutAt.pass {ks : List Int} {x : Int} {k : Nat} {out : List Int} (h : k < ks.length) (hx : ¬ x < ks[k]) (H : PutAt ks x k out false) : PutAt ks x (k + 1) (out ++ [ks[k]]) false:=by
 rcases H with ⟨_,rfl,e⟩ | ⟨c,_⟩
 ·refine Or.inl ⟨rfl,(List.take_succ_eq_append_getElem h).symm,?_⟩
  rw [e,drop_at h,putL_pass hx,List.take_succ_eq_append_getElem h,List.append_assoc]
  rfl
 ·cases c
theorem PutAt.put {ks : List Int} {x : Int} {k : Nat} {out : List Int} (h : k < ks.length) (hx : x < ks[k]) (H : PutAt ks x k out false) : PutAt ks x (k + 1) (out ++ [x] ++ [ks[k]]) true:=by
 rcases H with ⟨_,rfl,e⟩ | ⟨c,_⟩
 ·refine Or.inr ⟨rfl,?_⟩
  rw [e,drop_at h,putL_stop hx]
  simp
 ·cases c
theorem PutAt.on {ks : List Int} {x : Int} {k : Nat} {out : List Int} (h : k < ks.length) (H : PutAt ks x k out true) : PutAt ks x (k + 1) (out ++ [ks[k]]) true:=by
 rcases H with ⟨c,_⟩ | ⟨_,e⟩
 ·cases c
 ·refine Or.inr ⟨rfl,?_⟩
  rw [← e,drop_at h]
  simp
theorem PutAt.done {ks : List Int} {x : Int} {k : Nat} {out : List Int} (h : ks.length ≤ k) (H : PutAt ks x k out true) : out = putL ks x:=by
 rcases H with ⟨c,_⟩ | ⟨_,e⟩
 ·cases c
 ·rw [← e,List.drop_of_length_le h,List.append_nil]
theorem PutAt.last {ks : List Int} {x : Int} {k : Nat} {out : List Int} (h : ks.length ≤ k) (H : PutAt ks x k out false) : out ++ [x] = putL ks x:=by
 rcases H with ⟨_,rfl,e⟩ | ⟨c,_⟩
 ·rw [e,List.drop_of_length_le h]; rfl
 ·cases c
theorem intV_snoc (xs : List Int) (t : Int) : intV xs ++ [I t] = intV (xs ++ [t]):=by unfold intV; rw [List.map_append]; rfl
set_option maxRecDepth 100000 in
set_option maxHeartbeats 3200000 in
theorem l3Put_no (a : Option Addr) (cap : Nat) (ks : List Int) (x : Int) (w : World) (hr : RowAt (Value.int .i64) w a ks) (hl : ks.length ≤ 1048576) (hH : hasB ks x = false) :
  Calls Tryz.prog 91 #[.slice a ks.length cap,I x] w fun e w' => ∃ v,e = .returned v ∧ w'.ownsRow w.heap.size 3 1 v (putL ks x).length (intV (putL ks x)) ∧ Below w.heap.size w w':=by
 obtain ⟨i0,hi,hz0,hz1,hz2⟩:=info_parts infoInt
 have hC:=l3Has_is a cap ks x w hr hl
 rw [hH] at hC
 have hb0 : Below w.heap.size w (w.alloc (.cells #[] 3)):=(Below.refl _ _).alloc (Nat.le_refl _) _
 have hlit : (w.alloc (.cells #[] 3)).ownsRow w.heap.size 3 1 (.slice (some ⟨w.heap.size,0,none⟩) 0 0) 0 (intV []):=World.ownsRow_lit _ _ _ (Nat.le_refl _) (by unfold maxLen; omega) rfl
 go_enter Tryz.func91,Tryz.ntmps91
 go_wp2_with fail
 refine hC.mono ?_
 rintro e w1 ⟨rfl,rfl⟩
 clear hC
 go_wp2
 go_loopw [5,6,7] (fun v p i wr => ∃ (k : Nat) (out : List Int) (b : Bool),k ≤ ks.length ∧ i = I k ∧ p = .bool b ∧ Hid (PutAt ks x k out b) ∧ Hid (out.length ≤ k + 1) ∧ wr.ownsRow w.heap.size 3 1 v out.length (intV out) ∧ Below w.heap.size w wr) (fun _ _ i _ => ks.length - (intOf i).toNat)
 case atStart => exact ⟨0,[],false,by omega,rfl,rfl,PutAt.start ks x,by show 0 ≤ 0 + 1; omega,hlit,hb0⟩
 case round =>
  clear hlit hb0
  obtain ⟨k,out,p,hk,rfl,rfl,HP,HL,hown,hbel⟩:=hrel
  by_cases hlt : k < ks.length
  ·obtain ⟨b1,o1,rfl,l1,hc⟩:=hr k hlt
   rw [← hbel.cell (p:=⟨b1,o1 + k,none⟩) l1] at hc
   have hol:=HL.out
   cases p with
   | true =>
    have HP2 : Hid (PutAt ks x (k + 1) (out ++ [ks[k]]) true):=PutAt.on hlt HP.out
    have HV : Hid (intV out ++ [I ks[k]] = intV (out ++ [ks[k]])):=intV_snoc _ _
    clear HP
    generalize ks[k] = y at hc HP2 HV
    go_wp2_with (first | (at_builtin; refine wpList_append_own _ rfl _ _ 22 rfl w.heap.size 3 i0 (I 0) 1 8 Tryz.underlying22 hi hz0 hz1 hz2 rfl (by decide) _ _ _ rfl (hown.alloc _) ⟨wr.heap.size,0,none⟩ 1 1 [I y] rfl rfl (cell_one_new _ _ _) ?c2 ?c3 ?c4 ?c5 ?_) | go_in)
    case c2 => first | rfl | (intro u hu; simp at hu; subst hu; rfl)
    case c3 => unfold maxLen; omega
    case c4 => omega
    case c5 => have:=hbel.size; simp; omega
    intro v' w2 hown' hgrow _
    have hb3:=below_app hbel (Nat.le_refl _) hown hgrow
    rw [HV.out] at hown'
    clear hgrow hown hbel
    go_wp2
    go_roundw
    case rel =>
     have R : ∃ (k₁ : Nat) (out₁ : List Int) (b₁ : Bool),k₁ ≤ ks.length ∧ Value.int .i64 ((k : Int) + 1) = I k₁ ∧ Value.bool true = .bool b₁ ∧ Hid (PutAt ks x k₁ out₁ b₁) ∧ Hid (out₁.length ≤ k₁ + 1) ∧ w2.ownsRow w.heap.size 3 1 v' out₁.length (intV out₁) ∧ Below w.heap.size w w2 :=
      ⟨k + 1,out ++ [y],true,by omega,by go_num,rfl,HP2,by show (out ++ [y]).length ≤ _; simp; omega,by rw [List.length_append]; exact hown',hb3⟩
     first | exact R | ((repeat apply Exists.intro); exact ⟨R,rfl⟩)
    case measure => simp [intOf]; omega
   | false =>
    by_cases hlt2 : x < ks[k]
    ·have HP2 : Hid (PutAt ks x (k + 1) (out ++ [x] ++ [ks[k]]) true):=PutAt.put hlt hlt2 HP.out
     have HV : Hid (intV out ++ [I x] = intV (out ++ [x])):=intV_snoc _ _
     have HV2 : Hid (intV (out ++ [x]) ++ [I ks[k]] = intV (out ++ [x] ++ [ks[k]])):=intV_snoc _ _
     have hol2 : out.length ≤ k:=by
      rcases HP.out with ⟨_,e,_⟩ | ⟨c,_⟩
      ·rw [e,List.length_take]; omega
      ·cases c
     clear HP
     generalize ks[k] = y at hc HP2 HV2 hlt2
     have hd : decide (x < y) = true:=decide_eq_true hlt2
     go_wp2_with (first | (at_builtin; refine wpList_append_own _ rfl _ _ 22 rfl w.heap.size 3 i0 (I 0) 1 8 Tryz.underlying22 hi hz0 hz1 hz2 rfl (by decide) _ _ _ rfl (hown.alloc _) ⟨wr.heap.size,0,none⟩ 1 1 [I x] rfl rfl (cell_one_new _ _ _) ?c2 ?c3 ?c4 ?c5 ?_) | go_in)
     case c2 => first | rfl | (intro u hu; simp at hu; subst hu; rfl)
     case c3 => unfold maxLen; omega
     case c4 => omega
     case c5 => have:=hbel.size; simp; omega
     intro v' w2 hown' hgrow _
     have hb3:=below_app hbel (Nat.le_refl _) hown hgrow
     rw [HV.out] at hown'
     have hc2 : w2.cell? ⟨b1,o1 + k,none⟩ = some (I y):=(hb3.cell (p:=⟨b1,o1 + k,none⟩) l1).trans ((hbel.cell (p:=⟨b1,o1 + k,none⟩) l1).symm.trans hc)
     have hln : (out ++ [x]).length = out.length + 1:=by simp
     rw [← hln] at hown'
     have hln2 : (out ++ [x]).length ≤ 1048577:=by omega
     clear hgrow hown hbel hc hln
     go_wp2_with (first | (at_builtin; refine wpList_append_own _ rfl _ _ 22 rfl w.heap.size 3 i0 (I 0) 1 8 Tryz.underlying22 hi hz0 hz1 hz2 rfl (by decide) _ _ _ rfl (hown'.alloc _) ⟨w2.heap.size,0,none⟩ 1 1 [I y] rfl rfl (cell_one_new _ _ _) ?c2 ?c3 ?c4 ?c5 ?_) | go_in)
     case c2 => first | rfl | (intro u hu; simp at hu; subst hu; rfl)
     case c3 => unfold maxLen; omega
     case c4 => omega
     case c5 => have:=hb3.size; simp; omega
     intro v'' w3 hown'' hgrow2 _
     have hb4:=below_app hb3 (Nat.le_refl _) hown' hgrow2
     rw [HV2.out] at hown''
     clear hgrow2 hown' hb3
     go_wp2
     go_roundw
     case rel =>
      have R : ∃ (k₁ : Nat) (out₁ : List Int) (b₁ : Bool),k₁ ≤ ks.length ∧ Value.int .i64 ((k : Int) + 1) = I k₁ ∧ Value.bool true = .bool b₁ ∧ Hid (PutAt ks x k₁ out₁ b₁) ∧ Hid (out₁.length ≤ k₁ + 1) ∧ w3.ownsRow w.heap.size 3 1 v'' out₁.length (intV out₁) ∧ Below w.heap.size w w3 :=
       ⟨k + 1,out ++ [x] ++ [y],true,by omega,by go_num,rfl,HP2,by show (out ++ [x] ++ [y]).length ≤ _; simp; omega,(by simp : (out ++ [x] ++ [y]).length = out.length + 1 + 1) ▸ hown'',hb4⟩
      first | exact R | ((repeat apply Exists.intro); exact ⟨R,rfl⟩)
     case measure => simp [intOf]; omega
    ·have HP2 : Hid (PutAt ks x (k + 1) (out ++ [ks[k]]) false):=PutAt.pass hlt hlt2 HP.out
     have HV : Hid (intV out ++ [I ks[k]] = intV (out ++ [ks[k]])):=intV_snoc _ _
     clear HP
     generalize ks[k] = y at hc HP2 HV hlt2
     have hd : decide (x < y) = false:=decide_eq_false hlt2
     go_wp2_with (first | (at_builtin; refine wpList_append_own _ rfl _ _ 22 rfl w.heap.size 3 i0 (I 0) 1 8 Tryz.underlying22 hi hz0 hz1 hz2 rfl (by decide) _ _ _ rfl (hown.alloc _) ⟨wr.heap.size,0,none⟩ 1 1 [I y] rfl rfl (cell_one_new _ _ _) ?c2 ?c3 ?c4 ?c5 ?_) | go_in)
     case c2 => first | rfl | (intro u hu; simp at hu; subst hu; rfl)
     case c3 => unfold maxLen; omega
     case c4 => omega
     case c5 => have:=hbel.size; simp; omega
     intro v' w2 hown' hgrow _
     have hb3:=below_app hbel (Nat.le_refl _) hown hgrow
     rw [HV.out] at hown'
     clear hgrow hown hbel
     go_wp2
     go_roundw
     case rel =>
      have R : ∃ (k₁ : Nat) (out₁ : List Int) (b₁ : Bool),k₁ ≤ ks.length ∧ Value.int .i64 ((k : Int) + 1) = I k₁ ∧ Value.bool false = .bool b₁ ∧ Hid (PutAt ks x k₁ out₁ b₁) ∧ Hid (out₁.length ≤ k₁ + 1) ∧ w2.ownsRow w.heap.size 3 1 v' out₁.length (intV out₁) ∧ Below w.heap.size w w2 :=
       ⟨k + 1,out ++ [y],false,by omega,by go_num,rfl,HP2,by show (out ++ [y]).length ≤ _; simp; omega,by rw [List.length_append]; exact hown',hb3⟩
      first | exact R | ((repeat apply Exists.intro); exact ⟨R,rfl⟩)
     case measure => simp [intOf]; omega
  ·have hol:=HL.out
   cases p with
   | true =>
    have e:=PutAt.done (by omega) HP.out
    clear HP
    subst e
    go_wp2
    go_ret
    exact ⟨_,rfl,hown,hbel⟩
   | false =>
    have e:=PutAt.last (by omega) HP.out
    clear HP
    have HE : Hid (out ++ [x] = putL ks x):=e
    clear e
    have HV : Hid (intV out ++ [I x] = intV (out ++ [x])):=intV_snoc _ _
    go_wp2_with (first | (at_builtin; refine wpList_append_own _ rfl _ _ 22 rfl w.heap.size 3 i0 (I 0) 1 8 Tryz.underlying22 hi hz0 hz1 hz2 rfl (by decide) _ _ _ rfl (hown.alloc _) ⟨wr.heap.size,0,none⟩ 1 1 [I x] rfl rfl (cell_one_new _ _ _) ?c2 ?c3 ?c4 ?c5 ?_) | go_in)
    case c2 => first | rfl | (intro u hu; simp at hu; subst hu; rfl)
    case c3 => unfold maxLen; omega
    case c4 => omega
    case c5 => have:=hbel.size; simp; omega
    intro v' w2 hown' hgrow _
    have hb3:=below_app hbel (Nat.le_refl _) hown hgrow
    rw [HV.out] at hown'
    go_wp2
    go_ret
    exact ⟨_,rfl,by rw [← HE.out,List.length_append]; exact hown',hb3⟩
theorem base_le {w : World} {B B' e sz n : Nat} {v : Value} {xs : List Value} (h : w.ownsRow B e sz v n xs) (hB : B' ≤ B) : w.ownsRow B' e sz v n xs:=ownsRow_le h hB
set_option maxRecDepth 100000 in
set_option maxHeartbeats 1600000 in
/-- The row with x in its place: the call's own, or the old one. -/
theorem l3Put_is (B : Nat) (v : Value) (ks : List Int) (x : Int) (w : World) (h : w.ownsRow B 3 1 v ks.length (intV ks)) (hB : B ≤ w.heap.size) (hl : ks.length ≤ 1048576) :
  Calls Tryz.prog 91 #[v,I x] w fun e w' => ∃ v',e = .returned v' ∧ w'.ownsRow B 3 1 v' (putI ks x).length (intV (putI ks x)) ∧ Below w.heap.size w w':=by
 obtain ⟨a,cap,rfl,_⟩:=own_shape h
 have hr : RowAt (Value.int .i64) w a ks:=irow_of h
 by_cases hx : hasB ks x = true
 ·have hC:=l3Has_is a cap ks x w hr hl
  have HE : Hid (putI ks x = ks):=by show putI ks x = ks; unfold putI; rw [if_pos hx]
  rw [hx] at hC
  clear hx
  go_enter Tryz.func91,Tryz.ntmps91
  go_wp2_with fail
  refine hC.mono ?_
  rintro e w1 ⟨rfl,rfl⟩
  clear hC
  go_wp2
  go_ret
  rw [HE.out]
  exact ⟨_,rfl,h,Below.refl _ _⟩
 ·rw [Bool.not_eq_true] at hx
  have HE : putI ks x = putL ks x:=by unfold putI; rw [hx]; rfl
  rw [HE]
  refine (l3Put_no a cap ks x w hr hl hx).mono ?_
  rintro e w' ⟨v',rfl,ho,hb⟩
  exact ⟨v',rfl,base_le ho hB,hb⟩
end Go.Proofs.YtlmpfkbgknbcnaaGreat.Nd
