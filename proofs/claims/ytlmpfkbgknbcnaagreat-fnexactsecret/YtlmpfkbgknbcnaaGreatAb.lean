/- A short word for whole numbers as values. -/
import Derived.Test.YtlmpfkbgknbcnaaGreatProg
import Derived.Test.YtlmpfkbgknbcnaaGreatRows
import Derived.WalkKit
import Derived.WalkSpells
import Derived.WalkLawsBesides
import Derived.Deep.QuietTactic
import Derived.BigQuiet
import Derived.WalkSmall
import Derived.Below
import Derived.Laws.IdiomStrings
import Derived.Laws.BitsAllLaws
namespace Go.Proofs.YtlmpfkbgknbcnaaGreat
open Go
abbrev I (n : Int) : Value:=.int .i64 n
end Go.Proofs.YtlmpfkbgknbcnaaGreat

set_option linter.unusedVariables false
namespace Go.Proofs.YtlmpfkbgknbcnaaGreat
open Go Go.RowKit
/-- A number lies between none and g. -/
def inB (n g : Int) : Bool:=decide (0 ≤ n) && decide (n ≤ g)
/-- A rest is right. -/
def rOk (a b c : Int) : Bool:=inB a 7 && (inB b 255 && inB c 100000)
abbrev rv (a b c : Int) : Value:=.agg #[I a,I b,I c]
theorem within_is (n g : Int) (w : World) : Calls Tryz.prog 77 #[I n,I g] w fun e w' => e = .returned (.bool (inB n g)) ∧ w = w':=by
 by_cases h0 : 0 ≤ n
 ·by_cases h1 : n ≤ g
  ·go_enter Tryz.func77,Tryz.ntmps77
   go_wp2
   go_ret
   exact ⟨by simp [inB,h0,h1],rfl⟩
  ·go_enter Tryz.func77,Tryz.ntmps77
   go_wp2
   go_ret
   exact ⟨by simp [inB,h0,h1],rfl⟩
 ·go_enter Tryz.func77,Tryz.ntmps77
  go_wp2
  go_ret
  exact ⟨by unfold inB; rw [show decide (0 ≤ n) = false by simp; omega]; rfl,rfl⟩
theorem in_is (n l g : Int) (w : World) : Calls Tryz.prog 22 #[I n,I l,I g] w fun e w' => e = .returned (.bool (decide (l ≤ n) && decide (n ≤ g))) ∧ w = w':=by
 by_cases h0 : l ≤ n
 ·by_cases h1 : n ≤ g
  ·go_enter Tryz.func22,Tryz.ntmps22
   go_wp2
   go_ret
   exact ⟨by simp [h0,h1],rfl⟩
  ·go_enter Tryz.func22,Tryz.ntmps22
   go_wp2
   go_ret
   exact ⟨by simp [h1],rfl⟩
 ·go_enter Tryz.func22,Tryz.ntmps22
  go_wp2
  go_ret
  exact ⟨by rw [show decide (l ≤ n) = false by simp; omega]; rfl,rfl⟩
set_option maxRecDepth 100000 in
set_option maxHeartbeats 800000 in
theorem right_is (a b c : Int) (w : World) : Calls Tryz.prog 177 #[rv a b c] w fun e w' => e = .returned (.bool (rOk a b c)) ∧ Below w.heap.size w w':=by
 have hb0 : Below w.heap.size w (w.alloc (.cells #[I a,I b,I c] 70)):=(Below.refl _ _).alloc (Nat.le_refl _) _
 go_enter Tryz.func177,Tryz.ntmps177
 go_wp2_with fail
 refine (within_is a 7 _).mono ?_
 rintro e w1 ⟨rfl,rfl⟩
 by_cases h0 : inB a 7 = true
 ·rw [h0]
  go_wp2_with fail
  refine (within_is b 255 _).mono ?_
  rintro e w1 ⟨rfl,rfl⟩
  by_cases h1 : inB b 255 = true
  ·rw [h1]
   go_wp2_with fail
   refine (within_is c 100000 _).mono ?_
   rintro e w1 ⟨rfl,rfl⟩
   go_wp2
   go_ret
   exact ⟨by simp [rOk,h0,h1],hb0⟩
  ·rw [Bool.not_eq_true] at h1
   rw [h1]
   go_wp2
   go_ret
   exact ⟨by simp [rOk,h0,h1],hb0⟩
 ·rw [Bool.not_eq_true] at h0
  rw [h0]
  go_wp2
  go_ret
  exact ⟨by simp [rOk,h0],hb0⟩
set_option maxRecDepth 100000 in
set_option maxHeartbeats 800000 in
theorem specOk_is (a b c : Int) (w : World) : Calls Tryz.prog 67 #[rv a b c] w fun e w' => e = .returned (.bool (rOk a b c)) ∧ Below w.heap.size w w':=by
 have hb0 : Below w.heap.size w (w.alloc (.cells #[I a,I b,I c] 70)):=(Below.refl _ _).alloc (Nat.le_refl _) _
 go_enter Tryz.func67,Tryz.ntmps67
 go_wp2_with fail
 refine (in_is a 0 7 _).mono ?_
 rintro e w1 ⟨rfl,rfl⟩
 rw [show (decide (0 ≤ a) && decide (a ≤ 7)) = inB a 7 from rfl]
 by_cases h0 : inB a 7 = true
 ·rw [h0]
  go_wp2_with fail
  refine (in_is b 0 255 _).mono ?_
  rintro e w1 ⟨rfl,rfl⟩
  rw [show (decide (0 ≤ b) && decide (b ≤ 255)) = inB b 255 from rfl]
  by_cases h1 : inB b 255 = true
  ·rw [h1]
   go_wp2_with fail
   refine (in_is c 0 100000 _).mono ?_
   rintro e w1 ⟨rfl,rfl⟩
   go_wp2
   go_ret
   exact ⟨by unfold rOk; rw [h0,h1]; rfl,hb0⟩
  ·rw [Bool.not_eq_true] at h1
   rw [h1]
   go_wp2
   go_ret
   exact ⟨by simp [rOk,h0,h1],hb0⟩
 ·rw [Bool.not_eq_true] at h0
  rw [h0]
  go_wp2
  go_ret
  exact ⟨by simp [rOk,h0],hb0⟩
/-- The bit at a place is there. -/
def hasB (n i : Int) : Bool:=decide (0 ≤ i) && (bits .and .i64 (n / 2 ^ min i.toNat 64) 1 == 1)
/-- The boxes of two rests, and behind them one more block. -/
structure Two (s : Nat) (a b c x y z : Int) (W : World) : Prop where
 a : W.cell? ⟨s,0,none⟩ = some (I a)
 b : W.cell? ⟨s,1,none⟩ = some (I b)
 c : W.cell? ⟨s,2,none⟩ = some (I c)
 x : W.cell? ⟨s + 1,0,none⟩ = some (I x)
 y : W.cell? ⟨s + 1,1,none⟩ = some (I y)
 z : W.cell? ⟨s + 1,2,none⟩ = some (I z)
theorem Two.later {s : Nat} {a b c x y z : Int} {W W' : World} (h : Two s a b c x y z W) (hb : Below W.heap.size W W') (hs : s + 2 ≤ W.heap.size) : Two s a b c x y z W' :=
 ⟨(hb.cell (p:=⟨s,0,none⟩) (show s < _ by omega)).trans h.a,(hb.cell (p:=⟨s,1,none⟩) (show s < _ by omega)).trans h.b,(hb.cell (p:=⟨s,2,none⟩) (show s < _ by omega)).trans h.c,
  (hb.cell (p:=⟨s + 1,0,none⟩) (show s + 1 < _ by omega)).trans h.x,(hb.cell (p:=⟨s + 1,1,none⟩) (show s + 1 < _ by omega)).trans h.y,(hb.cell (p:=⟨s + 1,2,none⟩) (show s + 1 < _ by omega)).trans h.z⟩
/-- A block of three cells that may be written. -/
structure Out3 (g : Nat) (W : World) : Prop where
 c0 : ∃ v,W.cell? ⟨g,0,none⟩ = some v
 c1 : ∃ v,W.cell? ⟨g,1,none⟩ = some v
 c2 : ∃ v,W.cell? ⟨g,2,none⟩ = some v
 f0 : W.frozen? ⟨g,0,none⟩ = false
 f1 : W.frozen? ⟨g,1,none⟩ = false
 f2 : W.frozen? ⟨g,2,none⟩ = false
theorem Out3.later {g : Nat} {W W' : World} (h : Out3 g W) (hb : Below W.heap.size W W') (hg : g < W.heap.size) : Out3 g W':=by
 obtain ⟨⟨v0,h0⟩,⟨v1,h1⟩,⟨v2,h2⟩,f0,f1,f2⟩:=h
 exact ⟨⟨v0,(hb.cell (p:=⟨g,0,none⟩) hg).trans h0⟩,⟨v1,(hb.cell (p:=⟨g,1,none⟩) hg).trans h1⟩,⟨v2,(hb.cell (p:=⟨g,2,none⟩) hg).trans h2⟩,
  (hb.frozen (p:=⟨g,0,none⟩) hg).trans f0,(hb.frozen (p:=⟨g,1,none⟩) hg).trans f1,(hb.frozen (p:=⟨g,2,none⟩) hg).trans f2⟩
end Go.Proofs.YtlmpfkbgknbcnaaGreat

namespace Go.Proofs.YtlmpfkbgknbcnaaGreat
open Go Go.RowKit
/-! What is right. -/
/-- A number from 0 to a last one, or from a first one on. -/
def btw (n lo hi : Int) : Bool:=decide (lo ≤ n) && decide (n ≤ hi)
def svOk (s : Int) : Bool:=btw s 0 2 || btw s 10 12
def allB (l : List Int) (m : Nat) : Bool:=decide (l.length ≤ m) && l.all fun n => btw n 0 2
def aOk (c t q : Int) : Bool:=btw c 0 5 && (btw t 0 100000 && btw q 0 1000000)
theorem btw_iff (n lo hi : Int) : btw n lo hi = true ↔ lo ≤ n ∧ n ≤ hi:=by unfold btw; simp
end Go.Proofs.YtlmpfkbgknbcnaaGreat

namespace Go.Proofs.YtlmpfkbgknbcnaaGreat.Own
open Go Go.RowKit
/-- Bytes as the cells of a []byte. -/
def bytesOf (l : List UInt8) : List Value:=l.map fun b => Value.int .u8 (b.toNat : Int)
theorem bytesOf_append (l m : List UInt8) : bytesOf (l ++ m) = bytesOf l ++ bytesOf m:=by simp [bytesOf]
theorem bytesOf_get (l : List UInt8) (j : Nat) (h : j < l.length) : (bytesOf l)[j]? = some (Value.int .u8 (l[j].toNat : Int)):=by simp [bytesOf,h]
/-- 'string(b)' where b is nil or the call's own row of the bytes l. -/
theorem conv_own {P : Program} (src dst e : TypeId) (hs : P.underlying src = some (.slice e)) (he : P.underlying e = some (.int .u8)) (hd : P.underlying dst = some .string)
  {W : World} {base : Nat} {v : Value} {n : Nat} {l : List UInt8} (h : W.ownsRow base e 1 v n (bytesOf l)) :
  (convert src dst v).run P W = .ok (.string ⟨l.toArray⟩) W:=by
 have hn : l.length = n:=by have:=h.1; simpa [bytesOf] using this
 subst hn
 rcases h.2 with ⟨rfl,h0⟩ | ⟨g,cap,cur,rfl,_⟩
 ·have : l = []:=List.length_eq_zero_iff.1 h0
  subst this
  rw [run_convert_bytes_string _ src dst e _ _ _ hs he hd]
  rfl
 ·refine run_convert_bytes_back W src dst e _ cap l hs he hd fun j hj => ?_
  have h1:=h.cellAt j (by simpa using hj)
  rw [bytesOf_get l j hj] at h1
  rw [← h1]
  simp only [Addr.add]
  split
  ·rename_i h2; simp [h2]
  ·simp
/-- Behind 'append(out, x)', out the call's own: what lies below B is as it was. -/
theorem below_app {B : Nat} {w wr w1 : World} {e : TypeId} {size n : Nat} {v : Value} {xs : List Value} {o : Obj} (hbel : Below B w wr) (hB : B ≤ w.heap.size)
  (hown : wr.ownsRow B e size v n xs) (hg : (wr.alloc o).grownBy w1 v.ownBlock) : Below B w w1 :=
 (hbel.alloc (Nat.le_trans hB hbel.size) o).grown hg (Nat.le_trans hB (Nat.le_trans hbel.size (by simp))) (fun k hk => (hown.lt k hk).1)
end Go.Proofs.YtlmpfkbgknbcnaaGreat.Own

namespace Go.Proofs.YtlmpfkbgknbcnaaGreat.Var
open Own
/-- The bytes that Var makes of n; so many bytes at most. -/
def varF : Nat → Nat → List UInt8
 | 0,n => [UInt8.ofNat n]
 | f + 1,n => if n < 128 then [UInt8.ofNat n] else UInt8.ofNat (128 + n % 128) :: varF f (n / 128)
theorem varF_zero (f : Nat) : varF f 0 = [UInt8.ofNat 0]:=by
 cases f with
 | zero => rfl
 | succ f => rw [varF,if_pos (by omega)]
theorem varF_same (f : Nat) : ∀ g n,n ≤ f → n ≤ g → varF f n = varF g n:=by
 induction f with
 | zero =>
  intro g n h _
  obtain rfl : n = 0:=by omega
  rw [varF_zero,varF_zero]
 | succ f ih =>
  intro g n h1 h2
  cases g with
  | zero =>
   obtain rfl : n = 0:=by omega
   rw [varF_zero,varF_zero]
  | succ g =>
   rw [varF,varF]
   by_cases h : n < 128
   ·rw [if_pos h,if_pos h]
   ·rw [if_neg h,if_neg h,ih g (n / 128) (by omega) (by omega)]
def varB (n : Nat) : List UInt8:=varF n n
theorem varB_small (n : Nat) (h : n < 128) : varB n = [UInt8.ofNat n]:=by
 unfold varB
 rw [varF_same n (n + 1) n (Nat.le_refl _) (by omega),varF,if_pos h]
theorem varB_great (n : Nat) (h : ¬ n < 128) : varB n = UInt8.ofNat (128 + n % 128) :: varB (n / 128):=by
 unfold varB
 rw [varF_same n (n + 1) n (Nat.le_refl _) (by omega),varF,if_neg h,varF_same n (n / 128) (n / 128) (by omega) (Nat.le_refl _)]
theorem varB_len (k : Nat) : ∀ n,n < 128 ^ (k + 1) → (varB n).length ≤ k + 1:=by
 induction k with
 | zero => intro n h; rw [varB_small n (by simpa using h)]; simp
 | succ k ih =>
  intro n h
  by_cases h1 : n < 128
  ·rw [varB_small n h1]; simp
  ·rw [varB_great n h1]
   have:=ih (n / 128) (by rw [Nat.pow_succ] at h; omega)
   simp only [List.length_cons]; omega
theorem varB_seven (n : Nat) (h : n ≤ 562949953421311) : (varB n).length ≤ 7 :=
 varB_len 6 n (by have : 128 ^ (6 + 1) = 562949953421312:=(by decide); omega)
theorem varB_pos (n : Nat) : 1 ≤ (varB n).length:=by
 by_cases h : n < 128
 ·rw [varB_small n h]; simp
 ·rw [varB_great n h]; simp
theorem push_great (l : List UInt8) (m : Nat) : bytesOf l ++ [Value.int .u8 (128 + (m : Int) % 128)] = bytesOf (l ++ [UInt8.ofNat (128 + m % 128)]):=by
 rw [bytesOf_append]
 simp [bytesOf]
 omega
theorem push_small (l : List UInt8) (m : Nat) (h : m < 128) : bytesOf l ++ [Value.int .u8 (m : Int)] = bytesOf (l ++ [UInt8.ofNat m]):=by
 rw [bytesOf_append]
 simp [bytesOf]
 omega
end Go.Proofs.YtlmpfkbgknbcnaaGreat.Var

namespace Go.Proofs.YtlmpfkbgknbcnaaGreat.Num
theorem take_snoc (s : ByteArray) (k : Nat) (h : k < s.size) : s.data.toList.take (k + 1) = s.data.toList.take k ++ [s[k]]:=by
 rw [List.take_succ_eq_append_getElem (by simpa using h)]; rfl
theorem wrap_i64_small (n : Nat) (h : n < 9223372036854775808) : IntKind.i64.wrap (n : Int) = (n : Int):=by
 rw [IntKind.wrap_i64]
 omega
end Go.Proofs.YtlmpfkbgknbcnaaGreat.Num

namespace Go.Proofs.YtlmpfkbgknbcnaaGreat.Var
open Own
/-- What bytes say, seven bits each, the lowest first. -/
def valB : List UInt8 → Nat
 | [] => 0
 | b :: l => b.toNat % 128 + 128 * valB l
theorem valB_lt (l : List UInt8) : valB l < 128 ^ l.length:=by
 induction l with
 | nil => decide
 | cons b l ih =>
  rw [valB,List.length_cons,Nat.pow_succ]
  generalize 128 ^ l.length = q at *
  omega
theorem valB_snoc (l : List UInt8) (b : UInt8) : valB (l ++ [b]) = valB l + b.toNat % 128 * 128 ^ l.length:=by
 induction l with
 | nil => simp [valB]
 | cons c l ih =>
  rw [List.cons_append,valB,valB,ih,List.length_cons,Nat.pow_succ,Nat.mul_add]
  have : 128 * (b.toNat % 128 * 128 ^ l.length) = b.toNat % 128 * (128 ^ l.length * 128):=by rw [Nat.mul_comm 128,Nat.mul_assoc]
  omega
theorem valB_seven (l : List UInt8) (h : l.length ≤ 7) : valB l ≤ 562949953421311:=by
 have h1:=valB_lt l
 have h2 : 128 ^ l.length ≤ 128 ^ 7:=Nat.pow_le_pow_right (by omega) h
 have h3 : 128 ^ 7 = 562949953421312:=by decide
 omega
/-- A beginning that Var can have made: all but the last byte say 'more', and none is needless. -/
def canon (l : List UInt8) : Prop:=∃ p b,l = p ++ [b] ∧ (∀ x ∈ p,128 ≤ x.toNat) ∧ b.toNat < 128 ∧ (p = [] ∨ b.toNat ≠ 0)
theorem varB_val (p : List UInt8) (b : UInt8) (hp : ∀ x ∈ p,128 ≤ x.toNat) (hb : b.toNat < 128) (h0 : p = [] ∨ b.toNat ≠ 0) :
  varB (valB (p ++ [b])) = p ++ [b] ∧ (b.toNat ≠ 0 → 1 ≤ valB (p ++ [b])):=by
 induction p with
 | nil =>
  have e : valB ([] ++ [b]) = b.toNat:=by simp [valB]; omega
  rw [e,varB_small _ hb]
  exact ⟨by simp,fun h => by omega⟩
 | cons c p ih =>
  have hb0 : b.toNat ≠ 0:=h0.resolve_left (by simp)
  have hc : 128 ≤ c.toNat:=hp c (List.mem_cons_self ..)
  have hc2:=c.toNat_lt
  obtain ⟨i1,i2⟩:=ih (fun x hx => hp x (List.mem_cons_of_mem _ hx)) (Or.inr hb0)
  have hv:=i2 hb0
  have e : valB (c :: p ++ [b]) = c.toNat % 128 + 128 * valB (p ++ [b]):=by rw [List.cons_append,valB]
  refine ⟨?_,fun _ => by rw [e]; omega⟩
  rw [e,varB_great _ (by omega)]
  have e1 : (c.toNat % 128 + 128 * valB (p ++ [b])) % 128 = c.toNat % 128:=by omega
  have e2 : (c.toNat % 128 + 128 * valB (p ++ [b])) / 128 = valB (p ++ [b]):=by omega
  rw [e1,e2,i1]
  have e3 : 128 + c.toNat % 128 = c.toNat:=by omega
  rw [e3]
  simp
theorem canon_varB (n : Nat) : ∃ p b,varB n = p ++ [b] ∧ (∀ x ∈ p,128 ≤ x.toNat) ∧ b.toNat < 128 ∧ (p = [] ∨ b.toNat ≠ 0) ∧ (1 ≤ n → b.toNat ≠ 0):=by
 induction n using Nat.strongRecOn with
 | ind n ih =>
  by_cases h : n < 128
  ·refine ⟨[],UInt8.ofNat n,by rw [varB_small n h]; rfl,by simp,?_,Or.inl rfl,?_⟩
   ·rw [UInt8.toNat_ofNat_of_lt' (by show _ < 256; omega)]; exact h
   ·rw [UInt8.toNat_ofNat_of_lt' (by show _ < 256; omega)]; omega
  ·obtain ⟨p,b,e,hp,hb,h0,h1⟩:=ih (n / 128) (by omega)
   have hb0:=h1 (by omega)
   refine ⟨UInt8.ofNat (128 + n % 128) :: p,b,by rw [varB_great n h,e]; rfl,?_,hb,Or.inr hb0,fun _ => hb0⟩
   intro x hx
   rcases List.mem_cons.1 hx with rfl | hx
   ·rw [UInt8.toNat_ofNat_of_lt' (by show _ < 256; omega)]; omega
   ·exact hp x hx
theorem canon_iff (l : List UInt8) : canon l ↔ varB (valB l) = l:=by
 constructor
 ·rintro ⟨p,b,rfl,hp,hb,h0⟩
  exact (varB_val p b hp hb h0).1
 ·intro h
  obtain ⟨p,b,e,hp,hb,h0,_⟩:=canon_varB (valB l)
  exact ⟨p,b,by rw [← h,e],hp,hb,h0⟩
/-- The byte at place i. -/
def at_ (s : ByteArray) (i : Nat) : Nat:=(s.data.toList.getD i 0).toNat
theorem at_eq (s : ByteArray) (i : Nat) (h : i < s.size) : s[i].toNat = at_ s i:=by
 have hl : i < s.data.toList.length:=h
 unfold at_
 rw [List.getD_eq_getElem?_getD,List.getElem?_eq_getElem hl]
 rfl
theorem mem_take_at (s : ByteArray) (k : Nat) (hk : k ≤ s.size) (P : Nat → Prop) : (∀ x ∈ s.data.toList.take k,P x.toNat) ↔ ∀ j,j < k → P (at_ s j):=by
 have hlen : (s.data.toList.take k).length = k:=by rw [List.length_take]; have : s.data.toList.length = s.size:=rfl; omega
 constructor
 ·intro h j hj
  have hl : j < s.data.toList.length:=by have : s.data.toList.length = s.size:=rfl; omega
  have : s.data.toList[j] ∈ s.data.toList.take k:=by
   rw [List.mem_take_iff_getElem]
   exact ⟨j,by omega,rfl⟩
  have h2:=h _ this
  unfold at_
  rw [List.getD_eq_getElem?_getD,List.getElem?_eq_getElem hl]
  exact h2
 ·intro h x hx
  rw [List.mem_take_iff_getElem] at hx
  obtain ⟨j,hj,rfl⟩:=hx
  have hl : j < s.data.toList.length:=by omega
  have h2:=h j (by omega)
  unfold at_ at h2
  rw [List.getD_eq_getElem?_getD,List.getElem?_eq_getElem hl] at h2
  exact h2
/-- The same by places. -/
def canonK (s : ByteArray) (k : Nat) : Prop:=(∀ j,j < k → 128 ≤ at_ s j) ∧ at_ s k < 128 ∧ (k = 0 ∨ at_ s k ≠ 0)
theorem canonK_iff (s : ByteArray) (k : Nat) (hk : k < s.size) : canonK s k ↔ varB (valB (s.data.toList.take (k + 1))) = s.data.toList.take (k + 1):=by
 rw [← canon_iff,Num.take_snoc s k hk]
 have hlen : (s.data.toList.take k).length = k:=by rw [List.length_take]; have : s.data.toList.length = s.size:=rfl; omega
 unfold canonK
 rw [← mem_take_at s k (by omega) (fun x => 128 ≤ x),← at_eq s k hk]
 constructor
 ·rintro ⟨h1,h2,h3⟩
  refine ⟨_,_,rfl,h1,h2,?_⟩
  rcases h3 with h3 | h3
  ·left; rw [h3]; rfl
  ·exact Or.inr h3
 ·rintro ⟨p,b,e,hp,hb,h0⟩
  obtain ⟨rfl,e2⟩:=List.append_inj' e rfl
  simp only [List.cons.injEq,and_true] at e2
  rw [e2]
  refine ⟨hp,hb,?_⟩
  rcases h0 with h0 | h0
  ·left
   have:=congrArg List.length h0
   rw [hlen] at this
   simpa using this
  ·exact Or.inr h0
/-- What ReadVar may answer: the number and how many bytes it took. -/
def Ans (s : ByteArray) (n k : Nat) : Prop :=
 (n = 0 ∧ k = 0 ∧ ∀ j,j < 7 → j < s.size → ¬ canonK s j) ∨ (1 ≤ k ∧ k ≤ 7 ∧ k ≤ s.size ∧ canonK s (k - 1) ∧ n = valB (s.data.toList.take k))
theorem canonK_one (s : ByteArray) (i j : Nat) (hi : canonK s i) (hj : canonK s j) : i = j:=by
 rcases Nat.lt_trichotomy i j with h | h | h
 ·have:=hj.1 i h; have:=hi.2.1; omega
 ·exact h
 ·have:=hi.1 j h; have:=hj.2.1; omega
theorem Ans_one (s : ByteArray) (n k n' k' : Nat) (h : Ans s n k) (h' : Ans s n' k') : n = n' ∧ k = k':=by
 rcases h with ⟨a,b,c⟩ | ⟨a1,a2,a3,a4,a5⟩ <;> rcases h' with ⟨a',b',c'⟩ | ⟨a1',a2',a3',a4',a5'⟩
 ·omega
 ·exact absurd a4' (c _ (by omega) (by omega))
 ·exact absurd a4 (c' _ (by omega) (by omega))
 ·have:=canonK_one s _ _ a4 a4'
  have e : k = k':=by omega
  subst e
  exact ⟨by rw [a5,a5'],rfl⟩
end Go.Proofs.YtlmpfkbgknbcnaaGreat.Var

set_option linter.unusedVariables false
namespace Go.Proofs.YtlmpfkbgknbcnaaGreat.Term
open Own Var
/-- What stands from place i on. -/
def suf (s : ByteArray) (i : Nat) : ByteArray:=s.extract i s.size
theorem suf_size (s : ByteArray) (i : Nat) : (suf s i).size = s.size - i:=by simp [suf,ByteArray.size_extract]
theorem suf_list (s : ByteArray) (i : Nat) : (suf s i).data.toList = s.data.toList.drop i:=by
 have h : s.data.toList.length = s.size:=rfl
 simp [suf,ByteArray.data_extract,List.extract]
 rw [List.take_of_length_le]
 rw [List.length_drop]; omega
theorem ext_list {a b : ByteArray} (h : a.data.toList = b.data.toList) : a = b:=by
 cases a; cases b; simp at h; simp [h]
theorem suf_suf (s : ByteArray) (i j : Nat) : suf (suf s i) j = suf s (i + j):=by
 apply ext_list; rw [suf_list,suf_list,suf_list,List.drop_drop]
theorem suf_zero (s : ByteArray) : suf s 0 = s:=by apply ext_list; rw [suf_list,List.drop_zero]
theorem suf_at (s : ByteArray) (i : Nat) : at_ (suf s i) 0 = at_ s i:=by
 unfold at_; rw [suf_list]; simp [List.getD_eq_getElem?_getD,List.getElem?_drop]
theorem empty_of (s : ByteArray) (h : s.size = 0) : s = ⟨#[]⟩:=by
 apply ByteArray.ext; exact Array.eq_empty_of_size_eq_zero h
/-- The first place from j on at which a number can end. -/
def find (s : ByteArray) : Nat → Nat → Nat × Nat
 | 0,_ => (0,0)
 | f + 1,j => if j < s.size ∧ (∀ i,i < j → 128 ≤ at_ s i) ∧ at_ s j < 128 ∧ (j = 0 ∨ at_ s j ≠ 0) then (valB (s.data.toList.take (j + 1)),j + 1) else find s f (j + 1)
theorem find_ans (s : ByteArray) : ∀ f j,f + j = 7 → (∀ i,i < j → i < s.size → ¬ canonK s i) → Ans s (find s f j).1 (find s f j).2:=by
 intro f
 induction f with
 | zero => intro j hj h; exact Or.inl ⟨rfl,rfl,fun i h7 hs => h i (by omega) hs⟩
 | succ f ih =>
  intro j hj h
  rw [find]
  split
  ·rename_i hc
   exact Or.inr ⟨by simp,by simp; omega,by simp; omega,by simpa [canonK] using hc.2,rfl⟩
  ·rename_i hc
   refine ih (j + 1) (by omega) fun i hi hs hk => ?_
   by_cases e : i = j
   ·subst e; exact hc ⟨hs,hk⟩
   ·exact h i (by omega) hs hk
/-- The number that Var begins the text with, and how many bytes it takes. -/
def rvN (s : ByteArray) : Nat:=(find s 7 0).1
def rvK (s : ByteArray) : Nat:=(find s 7 0).2
theorem rv_ans (s : ByteArray) : Ans s (rvN s) (rvK s):=find_ans s 7 0 rfl fun i hi => absurd hi (by omega)
theorem rv_one {s : ByteArray} {n k : Nat} (h : Ans s n k) : n = rvN s ∧ k = rvK s:=Ans_one s n k _ _ h (rv_ans s)
theorem rvK_le (s : ByteArray) : rvK s ≤ 7 ∧ rvK s ≤ s.size:=by
 rcases rv_ans s with ⟨_,h,_⟩ | ⟨_,h1,h2,_⟩ <;> omega
theorem rvN_le (s : ByteArray) : rvN s ≤ 562949953421311:=by
 rcases rv_ans s with ⟨h,_,_⟩ | ⟨_,h1,h2,_,h⟩
 ·omega
 ·rw [h]; exact valB_seven _ (by have:=List.length_take_le (rvK s) s.data.toList; omega)
/-- May this number stand behind this letter? -/
def hdOk (c n : Nat) : Bool :=
 if c = 97 then decide (n ≤ 40) else if c = 108 then decide (n ≤ 12) else if c = 107 ∨ c = 115 then decide (1 ≤ n ∧ n ≤ 1000000) else false
/-- The number behind the letter, and what stands behind it. -/
def cut (s : ByteArray) : Option (Nat × ByteArray) :=
 if 1 ≤ s.size ∧ 1 ≤ rvK (suf s 1) ∧ hdOk (at_ s 0) (rvN (suf s 1)) = true then some (rvN (suf s 1),suf s (1 + rvK (suf s 1))) else none
/-- So many, one behind the other. -/
def rep (g : ByteArray → Option ByteArray) : Nat → ByteArray → Option ByteArray
 | 0,r => some r
 | n + 1,r => match g r with
  | none => none
  | some r' => rep g n r'
/-- What stands behind the term with which s begins, of depth f at most. -/
def bh : Nat → ByteArray → Option ByteArray
 | 0 => fun _ => none
 | f + 1 => fun s => match cut s with
  | none => none
  | some (n,r) =>
   if at_ s 0 = 97 then (if n ≤ r.size then some (suf r n) else none)
   else if at_ s 0 = 108 then rep (bh f) n r
   else if at_ s 0 = 115 then bh f r
   else some r
theorem bh_none {f : Nat} {s : ByteArray} (h : cut s = none) : bh (f + 1) s = none:=by rw [bh]; simp only [h]
theorem bh_some {f n : Nat} {s r : ByteArray} (h : cut s = some (n,r)) :
  bh (f + 1) s = (if at_ s 0 = 97 then (if n ≤ r.size then some (suf r n) else none) else if at_ s 0 = 108 then rep (bh f) n r else if at_ s 0 = 115 then bh f r else some r):=by rw [bh]; simp only [h]
theorem rep_mono {g h : ByteArray → Option ByteArray} (H : ∀ x r,g x = some r → h x = some r) : ∀ n x r,rep g n x = some r → rep h n x = some r:=by
 intro n
 induction n with
 | zero => intro x r e; exact e
 | succ n ih =>
  intro x r e
  simp only [rep] at e ⊢
  cases hg : g x with
  | none => rw [hg] at e; simp at e
  | some r' => rw [hg] at e; rw [H x r' hg]; exact ih r' r e
theorem bh_mono (f : Nat) : ∀ x r,bh f x = some r → bh (f + 1) x = some r:=by
 induction f with
 | zero => intro x r e; simp [bh] at e
 | succ f ih =>
  intro x r e
  rw [bh] at e ⊢
  simp only at e ⊢
  cases hc : cut x with
  | none => rw [hc] at e; simp at e
  | some q =>
   obtain ⟨n,t⟩:=q
   rw [hc] at e
   simp only at e ⊢
   by_cases h1 : at_ x 0 = 97
   ·rw [if_pos h1] at e ⊢; exact e
   ·rw [if_neg h1] at e ⊢
    by_cases h2 : at_ x 0 = 108
    ·rw [if_pos h2] at e ⊢; exact rep_mono ih _ _ _ e
    ·rw [if_neg h2] at e ⊢
     by_cases h3 : at_ x 0 = 115
     ·rw [if_pos h3] at e ⊢; exact ih _ _ e
     ·rw [if_neg h3] at e ⊢; exact e
theorem cut_size {s r : ByteArray} {n : Nat} (h : cut s = some (n,r)) : r.size + 2 ≤ s.size ∧ n ≤ 1000000 ∧ ∃ j,2 ≤ j ∧ j ≤ s.size ∧ r = suf s j:=by
 unfold cut at h
 split at h
 ·rename_i hc
  simp only [Option.some.injEq,Prod.mk.injEq] at h
  obtain ⟨rfl,rfl⟩:=h
  have h2:=(rvK_le (suf s 1)).2
  rw [suf_size] at h2
  refine ⟨by rw [suf_size]; omega,?_,_,by omega,by omega,rfl⟩
  have:=hc.2.2
  unfold hdOk at this
  repeat' split at this
  all_goals simp at this
  all_goals omega
 ·simp at h
/-- What stands behind is a part of the text. -/
theorem rep_suf {g : ByteArray → Option ByteArray} (H : ∀ x r,g x = some r → ∃ j,2 ≤ j ∧ j ≤ x.size ∧ r = suf x j) : ∀ n x r,rep g n x = some r → ∃ j,j ≤ x.size ∧ r = suf x j:=by
 intro n
 induction n with
 | zero => intro x r e; simp only [rep,Option.some.injEq] at e; exact ⟨0,by omega,by rw [suf_zero,e]⟩
 | succ n ih =>
  intro x r e
  simp only [rep] at e
  cases hg : g x with
  | none => rw [hg] at e; simp at e
  | some r' =>
   rw [hg] at e
   obtain ⟨j,_,hj,rfl⟩:=H x r' hg
   obtain ⟨i,hi,rfl⟩:=ih _ r e
   rw [suf_size] at hi
   exact ⟨j + i,by omega,suf_suf _ _ _⟩
theorem bh_suf (f : Nat) : ∀ x r,bh f x = some r → ∃ j,2 ≤ j ∧ j ≤ x.size ∧ r = suf x j:=by
 induction f with
 | zero => intro x r e; simp [bh] at e
 | succ f ih =>
  intro x r e
  rw [bh] at e
  simp only at e
  cases hc : cut x with
  | none => rw [hc] at e; simp at e
  | some q =>
   obtain ⟨n,t⟩:=q
   rw [hc] at e
   simp only at e
   obtain ⟨hs,_,j,h2,hj,rfl⟩:=cut_size hc
   split at e
   ·split at e
    ·rename_i hn
     rw [suf_size] at hn
     simp only [Option.some.injEq] at e
     exact ⟨j + n,by omega,by omega,by rw [← e,suf_suf]⟩
    ·simp at e
   ·split at e
    ·obtain ⟨i,hi,rfl⟩:=rep_suf ih n _ r e
     rw [suf_size] at hi
     exact ⟨j + i,by omega,by omega,suf_suf _ _ _⟩
    ·split at e
     ·obtain ⟨i,h3,hi,rfl⟩:=ih _ r e
      rw [suf_size] at hi
      exact ⟨j + i,by omega,by omega,suf_suf _ _ _⟩
     ·simp only [Option.some.injEq] at e
      exact ⟨j,by omega,by omega,e.symm⟩
/-- Just one term. -/
def isT (s : ByteArray) : Bool:=decide (s.size ≤ 900) && (match bh 8 s with
 | some r => r.size == 0
 | none => false)
def IsT (s : ByteArray) : Prop:=s.size ≤ 900 ∧ ∃ r,bh 8 s = some r ∧ r.size = 0
theorem isT_iff (s : ByteArray) : isT s = true ↔ IsT s:=by
 unfold isT IsT
 cases h : bh 8 s with
 | none => simp
 | some r => simp
theorem IsT.cut {s : ByteArray} (h : IsT s) : ∃ n r,cut s = some (n,r):=by
 obtain ⟨_,r,h,_⟩:=h
 rw [bh] at h
 simp only at h
 cases hc : Term.cut s with
 | none => rw [hc] at h; simp at h
 | some q => exact ⟨q.1,q.2,rfl⟩
/-- What a reader of one kind finds: the number behind the letter, and what stands behind it. -/
def rk (s : ByteArray) (kind : Nat) : Option (Nat × ByteArray):=if isT s = true ∧ at_ s 0 = kind then cut s else none
theorem rk_yes {s : ByteArray} {kind : Nat} (h : IsT s) (hk : at_ s 0 = kind) : rk s kind = cut s:=by unfold rk; rw [if_pos ⟨(isT_iff s).2 h,hk⟩]
theorem rk_no {s : ByteArray} {kind : Nat} (h : ¬ (IsT s ∧ at_ s 0 = kind)) : rk s kind = none:=by unfold rk; rw [if_neg (fun c => h ⟨(isT_iff s).1 c.1,c.2⟩)]
theorem not_empty {s : ByteArray} (h : IsT s) : 2 ≤ s.size:=by
 obtain ⟨n,r,h⟩:=h.cut
 have:=(cut_size h).1
 omega
end Go.Proofs.YtlmpfkbgknbcnaaGreat.Term
