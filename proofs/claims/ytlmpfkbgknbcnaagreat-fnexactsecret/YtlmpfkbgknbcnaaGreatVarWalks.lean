/- The walks of Var: the document's model and the program, one contract each. -/
import Derived.Test.YtlmpfkbgknbcnaaGreatAb
import Derived.Test.YtlmpfkbgknbcnaaGreatRows
import Derived.WalkKit
import Derived.WalkSpells
import Derived.WalkLawsBesides
import Derived.WalkMore
import Derived.OwnWalk
import Derived.Laws.OwnMore
import Derived.Deep.RegionHeld3
set_option linter.unusedVariables false
namespace Go.Proofs.YtlmpfkbgknbcnaaGreat
open Go.RowKit Own Var
theorem infoU8 : (Tryz.prog.info? 5).map (fun i => (i.zero,i.size,i.bytes)) = some (some (.int .u8 0),1,1):=by kernel_rfl
set_option maxHeartbeats 400000 in
theorem spec_var_no (n : Int) (w : World) (h : ¬ (0 ≤ n ∧ n ≤ 562949953421311)) :
  Calls Tryz.prog 160 #[I n] w fun e w' => e = .returned (.string ⟨#[]⟩) ∧ w' = w:=by
 by_cases h1 : 0 ≤ n
 ·have h3 : decide (n ≤ 562949953421311) = false:=by simp; omega
  clear h
  go_enter Tryz.func160,Tryz.ntmps160
  go_wp2
  go_ret
  exact ⟨rfl,rfl⟩
 ·clear h
  have h1' : n < 0:=by omega
  go_enter Tryz.func160,Tryz.ntmps160
  go_wp2
  go_ret
  exact ⟨rfl,rfl⟩
set_option maxRecDepth 100000 in
set_option maxHeartbeats 800000 in
theorem spec_var_yes (n : Nat) (w : World) (h : n ≤ 562949953421311) :
  Calls Tryz.prog 160 #[I n] w fun e w' => e = .returned (.string ⟨(varB n).toArray⟩) ∧ Below w.heap.size w w':=by
 obtain ⟨i0,hi,hz0,hz1,hz2⟩:=info_parts infoU8
 have hd : decide ((n : Int) ≤ 562949953421311) = true:=by simp; omega
 have H7 : Hid ((varB n).length ≤ 7):=varB_seven n h
 go_enter Tryz.func160,Tryz.ntmps160
 go_wp2
 go_loopw [0,3] (fun a v wr => ∃ (m : Nat) (l : List UInt8),a = I m ∧ m ≤ n ∧ l ++ varB m = varB n ∧ wr.ownsRow w.heap.size 5 1 v l.length (bytesOf l) ∧ Below w.heap.size w wr) (fun a _ _ => (intOf a).toNat)
 case atStart => exact ⟨n,[],rfl,Nat.le_refl _,rfl,World.ownsRow_lit _ _ _ (Nat.le_refl _) (by unfold maxLen; omega) rfl,(Below.refl _ _).alloc (Nat.le_refl _) _⟩
 case round =>
  obtain ⟨m,l,rfl,hmn,hl,hown,hbel⟩:=hrel
  have H : Hid (l ++ varB m = varB n):=hl
  have hlen : l.length ≤ 6:=by have h1:=congrArg List.length hl; have h2:=H7.out; have h3:=varB_pos m; rw [List.length_append] at h1; omega
  clear hl
  by_cases h1 : m < 128
  ·go_wp2_with (first | (at_builtin; refine wpList_append_own _ rfl _ _ 236 rfl w.heap.size 5 i0 (.int .u8 0) 1 1 Tryz.underlying236 hi hz0 hz1 hz2 rfl (by decide) _ _ _ rfl (hown.alloc _) ⟨wr.heap.size,0,none⟩ 1 1 [.int .u8 (m : Int)] rfl rfl (cell_one_new _ _ _) ?c2 ?c3 ?c4 ?c5 ?_) | go_in)
   case c2 => intro u hu; simp at hu; subst hu; rfl
   case c3 => unfold maxLen; omega
   case c4 => omega
   case c5 => have:=hbel.size; simp; omega
   intro v' w1 hown' hgrow _
   have e : l ++ [UInt8.ofNat m] = varB n:=by rw [← H.out,varB_small m h1]
   rw [push_small l m h1,e] at hown'
   have hb:=below_app hbel (Nat.le_refl _) hown hgrow
   have hcv:=conv_own (P:=Tryz.prog) 236 9 5 Tryz.underlying236 Tryz.underlying5 Tryz.underlying9 hown'
   clear hown' hgrow hown hbel e
   go_wp2
   go_ret
   exact ⟨rfl,hb⟩
  ·have h2 : 128 ≤ m:=by omega
   go_wp2_with (first | (at_builtin; refine wpList_append_own _ rfl _ _ 236 rfl w.heap.size 5 i0 (.int .u8 0) 1 1 Tryz.underlying236 hi hz0 hz1 hz2 rfl (by decide) _ _ _ rfl (hown.alloc _) ⟨wr.heap.size,0,none⟩ 1 1 [.int .u8 (128 + (m : Int) % 128)] rfl rfl (cell_one_new _ _ _) ?d2 ?d3 ?d4 ?d5 ?_) | go_in)
   case d2 => intro u hu; simp at hu; subst hu; rfl
   case d3 => unfold maxLen; omega
   case d4 => omega
   case d5 => have:=hbel.size; simp; omega
   intro v' w1 hown' hgrow _
   have e : (l ++ [UInt8.ofNat (128 + m % 128)]) ++ varB (m / 128) = varB n:=by rw [← H.out,varB_great m h1]; simp
   rw [push_great l m] at hown'
   have hb:=below_app hbel (Nat.le_refl _) hown hgrow
   have E : Hid ((l ++ [UInt8.ofNat (128 + m % 128)]) ++ varB (m / 128) = varB n):=e
   clear hgrow hown hbel e
   go_wp2
   go_roundw
   case rel =>
    have R : ∃ (m' : Nat) (l' : List UInt8),Value.int .i64 ((m : Int) / 128) = I m' ∧ m' ≤ n ∧ l' ++ varB m' = varB n ∧ w1.ownsRow w.heap.size 5 1 v' l'.length (bytesOf l') ∧ Below w.heap.size w w1 :=
     ⟨m / 128,_,by go_num,by omega,E.out,by rw [List.length_append]; exact hown',hb⟩
    first | exact R | ((repeat apply Exists.intro); exact ⟨R,rfl⟩)
   case measure => simp [intOf]; omega
/-- What Var answers. -/
def varOf (n : Int) : ByteArray:=if 0 ≤ n ∧ n ≤ 562949953421311 then ⟨(varB n.toNat).toArray⟩ else ⟨#[]⟩
theorem spec_var (n : Int) (w : World) :
  Calls Tryz.prog 160 #[I n] w fun e w' => e = .returned (.string (varOf n)) ∧ Below w.heap.size w w':=by
 by_cases h : 0 ≤ n ∧ n ≤ 562949953421311
 ·obtain ⟨k,rfl⟩:=Int.eq_ofNat_of_zero_le h.1
  refine (spec_var_yes k w (by omega)).mono ?_
  rintro e w' ⟨rfl,hb⟩
  exact ⟨by rw [varOf,if_pos h]; rfl,hb⟩
 ·refine (spec_var_no n w h).mono ?_
  rintro e w' ⟨rfl,rfl⟩
  exact ⟨by rw [varOf,if_neg h],Below.refl _ _⟩
end Go.Proofs.YtlmpfkbgknbcnaaGreat

set_option linter.unusedVariables false
namespace Go.Proofs.YtlmpfkbgknbcnaaGreat
open Go.RowKit Own Var
theorem ret2i {a b c d : Int} (h : a = b) (k : c = d) : Ending.returned (.tuple #[I a,I c]) = .returned (.tuple #[I b,I d]):=by rw [h,k]
theorem pow_bd (k : Nat) (h : k ≤ 6) : 1 ≤ 128 ^ k ∧ 128 ^ k ≤ 4398046511104 :=
 ⟨Nat.pow_pos (by omega),by have : 128 ^ k ≤ 128 ^ 6:=Nat.pow_le_pow_right (by omega) h; have e : 128 ^ 6 = 4398046511104:=(by decide); omega⟩
/-- No answer: a byte of noughts ends it. -/
theorem ans_needless (s : ByteArray) (k : Nat) (hk : k < s.size) (h0 : 0 < k) (G : ∀ j,j < k → 128 ≤ at_ s j) (hb : s[k].toNat = 0) : Ans s 0 0:=by
 rw [at_eq s k hk] at hb
 refine Or.inl ⟨rfl,rfl,fun j _ _ hc => ?_⟩
 rcases Nat.lt_trichotomy j k with h | h | h
 ·have:=G j h; have:=hc.2.1; omega
 ·subst h; rcases hc.2.2 with h2 | h2 <;> omega
 ·have:=hc.1 k h; omega
/-- No answer: all bytes say 'more'. -/
theorem ans_none (s : ByteArray) (k : Nat) (hk : k = 7 ∨ k = s.size) (G : ∀ j,j < k → 128 ≤ at_ s j) : Ans s 0 0:=by
 refine Or.inl ⟨rfl,rfl,fun j h7 hs hc => ?_⟩
 have:=G j (by omega)
 have:=hc.2.1
 omega
/-- The answer: a byte ends it. -/
theorem ans_some (s : ByteArray) (k : Nat) (hk : k < s.size) (h7 : k < 7) (G : ∀ j,j < k → 128 ≤ at_ s j) (hb : s[k].toNat < 128) (h0 : k = 0 ∨ s[k].toNat ≠ 0) :
  Ans s (valB (s.data.toList.take (k + 1))) (k + 1):=by
 rw [at_eq s k hk] at hb h0
 exact Or.inr ⟨by omega,by omega,by omega,⟨G,hb,h0⟩,rfl⟩
theorem val_step (s : ByteArray) (k : Nat) (hk : k < s.size) : ((valB (s.data.toList.take (k + 1)) : Nat) : Int) = (valB (s.data.toList.take k) : Int) + (s[k].toNat : Int) % 128 * ((128 ^ k : Nat) : Int):=by
 have hlen : (s.data.toList.take k).length = k:=by rw [List.length_take]; have : s.data.toList.length = s.size:=rfl; omega
 rw [Num.take_snoc s k hk,valB_snoc,hlen,Int.natCast_add,Int.natCast_mul]
 rfl
set_option maxRecDepth 100000 in
set_option maxHeartbeats 1600000 in
theorem impl_rv (s : ByteArray) (w : World) (h : s.size ≤ 1048576) :
  Calls Tryz.prog 201 #[.string s] w fun e w' => ∃ n k : Nat,e = .returned (.tuple #[I n,I k]) ∧ Ans s n k ∧ w' = w:=by
 by_cases hm : 7 < s.size
 all_goals
  go_enter Tryz.func201,Tryz.ntmps201
  go_wp2
  go_step3
  go_wp2
  go_step3
  go_wp2
  go_loop [4,5,11] (fun n wt i => ∃ k W : Nat,k ≤ s.size ∧ k ≤ 7 ∧ i = I k ∧ n = I (valB (s.data.toList.take k) : Nat) ∧ wt = I (W : Nat) ∧ Hid (W = 128 ^ k) ∧ Hid (∀ j,j < k → 128 ≤ at_ s j)) (fun _ _ i => 7 - (intOf i).toNat)
  case atStart => exact ⟨0,1,by omega,by omega,rfl,rfl,rfl,rfl,fun j hj => absurd hj (by omega)⟩
  case round =>
   obtain ⟨k,W,hk,hk7,rfl,rfl,rfl,EW,G⟩:=hrel
   by_cases hlt : k < s.size ∧ k < 7
   ·obtain ⟨hlt,hlt7⟩:=hlt
    have hb8:=s[k].toNat_lt
    have hW : 1 ≤ W ∧ W ≤ 4398046511104:=by rw [EW.out]; exact pow_bd k (by omega)
    have hv : valB (s.data.toList.take k) < 4398046511104:=by
     have h1:=valB_lt (s.data.toList.take k)
     have h2 : 128 ^ (s.data.toList.take k).length ≤ 128 ^ 6:=Nat.pow_le_pow_right (by omega) (by have:=List.length_take_le k s.data.toList; omega)
     have e : 128 ^ 6 = 4398046511104:=by decide
     omega
    have hp0 : 0 ≤ (s[k].toNat : Int) % 128 * (W : Int):=Int.mul_nonneg (by omega) (by omega)
    have hp1 : (s[k].toNat : Int) % 128 * (W : Int) ≤ 558551906910208:=by
     have : (s[k].toNat : Int) % 128 * (W : Int) ≤ 127 * 4398046511104:=Int.mul_le_mul (by omega) (by omega) (by omega) (by omega)
     omega
    have VS : Hid (((valB (s.data.toList.take (k + 1)) : Nat) : Int) = (valB (s.data.toList.take k) : Int) + (s[k].toNat : Int) % 128 * (W : Int)):=by rw [EW.out]; exact val_step s k hlt
    by_cases hz : s[k].toNat = 0
    ·have hz' : ((s[k].toNat : Int) == 0) = true:=by simp; omega
     by_cases h0 : 0 < k
     ·have A : Hid (Ans s 0 0):=ans_needless s k hlt h0 G.out hz
      clear hz
      go_wp2
      try rw [Exit.noGoto_ret]
      go_ret2
      exact ⟨0,0,rfl,A.out,rfl⟩
     ·have A : Hid (Ans s (valB (s.data.toList.take (k + 1))) (k + 1)):=ans_some s k hlt hlt7 G.out (by omega) (Or.inl (by omega))
      have hl : (s[k].toNat : Int) < 128:=by omega
      clear hz
      go_wp2
      try rw [Exit.noGoto_ret]
      go_ret2
      exact ⟨_,k + 1,ret2i VS.out.symm (by omega),A.out,rfl⟩
    ·have hz' : ((s[k].toNat : Int) == 0) = false:=by simp; omega
     by_cases h1 : s[k].toNat < 128
     ·have A : Hid (Ans s (valB (s.data.toList.take (k + 1))) (k + 1)):=ans_some s k hlt hlt7 G.out h1 (Or.inr hz)
      go_wp2
      try rw [Exit.noGoto_ret]
      go_ret2
      exact ⟨_,k + 1,ret2i VS.out.symm (by omega),A.out,rfl⟩
     ·have G' : Hid (∀ j,j < k + 1 → 128 ≤ at_ s j):=by
       intro j hj
       by_cases e : j = k
       ·rw [e,← at_eq s k hlt]; omega
       ·exact G.out j (by omega)
      have EW' : Hid (W * 128 = 128 ^ (k + 1)):=by show _ = _; rw [EW.out,Nat.pow_succ]
      clear G EW
      go_wp2
      go_round
      case rel => exact ⟨k + 1,W * 128,by omega,by omega,by go_num,by rw [VS.out],by go_num,EW',G'⟩
      case measure => simp [intOf]; omega
   ·have A : Hid (Ans s 0 0):=ans_none s k (by omega) G.out
    go_wp2
    try rw [Exit.noGoto_ret]
    go_ret2
    exact ⟨0,0,rfl,A.out,rfl⟩
end Go.Proofs.YtlmpfkbgknbcnaaGreat

set_option linter.unusedVariables false
namespace Go.Proofs.YtlmpfkbgknbcnaaGreat
open Go.RowKit Own Var Term
/-- What 'no term' panics with. -/
def noT : List PanicEntry:=[{ v:=.iface 9 (.string ⟨#[110,111,32,116,101,114,109]⟩),recovered:=false }]
theorem must_yes (w : World) : Calls Tryz.prog 167 #[.bool true] w fun e w' => e = .returned (.tuple #[]) ∧ w = w':=by
 go_enter Tryz.func167,Tryz.ntmps167
 go_wp2
 go_end0
 exact ⟨rfl,rfl⟩
theorem must_no (w : World) : Calls Tryz.prog 167 #[.bool false] w fun e w' => e = .panicked noT ∧ w = w':=by
 go_enter Tryz.func167,Tryz.ntmps167
 go_wp2
 exact ⟨rfl,rfl,rfl⟩
theorem impl_rvf (s : ByteArray) (w : World) (h : s.size ≤ 1048576) (n k : Nat) (hn : rvN s = n) (hk : rvK s = k) :
  Calls Tryz.prog 201 #[.string s] w fun e w' => e = .returned (.tuple #[I n,I k]) ∧ w = w':=by
 refine (impl_rv s w h).mono ?_
 rintro e w' ⟨n,k,rfl,ha,rfl⟩
 obtain ⟨rfl,rfl⟩:=rv_one ha
 subst hn hk
 exact ⟨rfl,rfl⟩
theorem keyOk_is (n : Int) (w : World) : Calls Tryz.prog 78 #[I n] w fun e w' => e = .returned (.bool (decide (1 ≤ n) && decide (n ≤ 1000000))) ∧ w = w':=by
 by_cases h : 1 ≤ n
 ·go_enter Tryz.func78,Tryz.ntmps78
  go_wp2
  go_ret
  refine ⟨?_,rfl⟩
  simp [h]
 ·go_enter Tryz.func78,Tryz.ntmps78
  go_wp2
  go_ret
  refine ⟨?_,rfl⟩
  simp
  omega
theorem key_same (n : Nat) : (decide (1 ≤ (n : Int)) && decide ((n : Int) ≤ 1000000)) = decide (1 ≤ n ∧ n ≤ 1000000):=by
 rw [Bool.eq_iff_iff]; simp; omega
theorem ne_nil (s : ByteArray) (h : 1 ≤ s.size) : (s.toList == []) = false:=by
 rw [Bool.eq_false_iff]; intro hh; simp at hh
 rw [ByteArray.toList_eq] at hh
 have h1:=congrArg List.length hh
 have h2 : s.data.toList.length = s.size:=rfl
 simp only [List.length_nil] at h1
 omega
theorem headOk_is (c n : Nat) (w : World) : Calls Tryz.prog 202 #[.int .u8 c,I n] w fun e w' => e = .returned (.bool (hdOk c n)) ∧ w = w':=by
 by_cases h1 : c = 97
 ·subst h1
  go_enter Tryz.func202,Tryz.ntmps202
  go_wp2
  go_ret
  exact ⟨by simp [hdOk]; omega,rfl⟩
 ·have e1 : ((c : Int) == 97) = false:=by simp; omega
  by_cases h2 : c = 108
  ·subst h2
   go_enter Tryz.func202,Tryz.ntmps202
   go_wp2
   go_ret
   exact ⟨by simp [hdOk]; omega,rfl⟩
  ·have e2 : ((c : Int) == 108) = false:=by simp; omega
   by_cases h3 : c = 107
   ·subst h3
    go_enter Tryz.func202,Tryz.ntmps202
    go_wp2_with (go_at_call 78; refine (keyOk_is _ _).mono ?_; rintro e w' ⟨rfl,rfl⟩)
    go_ret
    refine ⟨?_,rfl⟩
    rw [key_same]; rfl
   ·have e3 : ((c : Int) == 107) = false:=by simp; omega
    by_cases h4 : c = 115
    ·subst h4
     go_enter Tryz.func202,Tryz.ntmps202
     go_wp2_with (go_at_call 78; refine (keyOk_is _ _).mono ?_; rintro e w' ⟨rfl,rfl⟩)
     go_ret
     refine ⟨?_,rfl⟩
     rw [key_same]; rfl
    ·have e4 : ((c : Int) == 115) = false:=by simp; omega
     go_enter Tryz.func202,Tryz.ntmps202
     go_wp2
     go_ret
     exact ⟨by simp [hdOk,h1,h2,h3,h4],rfl⟩
theorem cutHead_yes (s r : ByteArray) (n : Nat) (w : World) (hs : s.size ≤ 1048576) (h : Term.cut s = some (n,r)) :
  Calls Tryz.prog 169 #[.string s] w fun e w' => e = .returned (.tuple #[I n,.string r]) ∧ Below w.heap.size w w':=by
 unfold Term.cut at h
 have hK:=rvK_le (suf s 1)
 have hz:=suf_size s 1
 generalize hn : rvN (suf s 1) = N at h
 generalize hk : rvK (suf s 1) = K at h hK
 split at h
 ·rename_i hc
  simp only [Option.some.injEq,Prod.mk.injEq] at h
  obtain ⟨rfl,rfl⟩:=h
  obtain ⟨h1,h2,h3⟩:=hc
  have hb:=at_eq s 0 (by omega)
  rw [← hb] at h3
  have hne:=ne_nil s h1
  have HN : Hid (rvN (suf s 1) = N):=hn
  have HK : Hid (rvK (suf s 1) = K):=hk
  have hKz : K + 1 ≤ s.size:=by omega
  generalize hB : hdOk s[0].toNat N = B at h3
  have HB : Hid (hdOk s[0].toNat N = B):=hB
  subst h3
  clear hn hk hb hz hK hB
  go_enter Tryz.func169,Tryz.ntmps169
  go_wp2_with fail
  refine (must_yes _).mono ?_
  rintro e w' ⟨rfl,rfl⟩
  go_wp2_with fail
  refine (impl_rvf (suf s 1) _ (by rw [suf_size]; omega) N K HN.out HK.out).mono ?_
  rintro e w'' ⟨rfl,rfl⟩
  go_wp2_with fail
  refine (headOk_is s[0].toNat N _).mono ?_
  rintro e w' ⟨rfl,rfl⟩
  rw [HB.out]
  go_wp2_with fail
  refine (must_yes _).mono ?_
  rintro e w' ⟨rfl,rfl⟩
  go_wp2
  go_region
  all_goals
   go_wp2
   go_ret2
   exact ⟨rfl,by first | exact Below.refl _ _ | exact (Below.refl _ _).drew⟩
 ·simp at h
theorem nil_size (s : ByteArray) (h : s.size = 0) : (s.toList == []) = true:=by
 rw [empty_of s h,ByteArray.toList_eq]; rfl
theorem cutHead_no (s : ByteArray) (w : World) (hs : s.size ≤ 1048576) (h : Term.cut s = none) :
  Calls Tryz.prog 169 #[.string s] w fun e w' => e = .panicked noT ∧ Below w.heap.size w w':=by
 by_cases h1 : 1 ≤ s.size
 ·unfold Term.cut at h
  have hK:=rvK_le (suf s 1)
  have hz:=suf_size s 1
  generalize hn : rvN (suf s 1) = N at h
  generalize hk : rvK (suf s 1) = K at h hK
  split at h
  ·simp at h
  ·rename_i hc
   clear h
   have hb:=at_eq s 0 (by omega)
   rw [← hb] at hc
   have hne:=ne_nil s h1
   have HN : Hid (rvN (suf s 1) = N):=hn
   have HK : Hid (rvK (suf s 1) = K):=hk
   have hKz : K + 1 ≤ s.size:=by omega
   generalize hB : hdOk s[0].toNat N = B at hc
   have HB : Hid (hdOk s[0].toNat N = B):=hB
   clear hn hk hb hz hK hB
   by_cases h2 : 1 ≤ K
   ·have h3 : B = false:=by
     rcases Bool.eq_false_or_eq_true B with e | e
     ·exact absurd ⟨h1,h2,e⟩ hc
     ·exact e
    subst h3
    clear hc
    go_enter Tryz.func169,Tryz.ntmps169
    go_wp2_with fail
    refine (must_yes _).mono ?_
    rintro e w' ⟨rfl,rfl⟩
    go_wp2_with fail
    refine (impl_rvf (suf s 1) _ (by rw [suf_size]; omega) N K HN.out HK.out).mono ?_
    rintro e w'' ⟨rfl,rfl⟩
    go_wp2_with fail
    refine (headOk_is s[0].toNat N _).mono ?_
    rintro e w' ⟨rfl,rfl⟩
    rw [HB.out]
    go_wp2_with fail
    refine (must_no _).mono ?_
    rintro e w' ⟨rfl,rfl⟩
    go_wp2
    exact ⟨rfl,rfl,Below.refl _ _⟩
   ·obtain rfl : K = 0:=by omega
    clear hc
    go_enter Tryz.func169,Tryz.ntmps169
    go_wp2_with fail
    refine (must_yes _).mono ?_
    rintro e w' ⟨rfl,rfl⟩
    go_wp2_with fail
    refine (impl_rvf (suf s 1) _ (by rw [suf_size]; omega) N 0 HN.out HK.out).mono ?_
    rintro e w'' ⟨rfl,rfl⟩
    go_wp2_with fail
    refine (must_no _).mono ?_
    rintro e w' ⟨rfl,rfl⟩
    go_wp2
    exact ⟨rfl,rfl,Below.refl _ _⟩
 ·have hne:=nil_size s (by omega)
  clear h
  go_enter Tryz.func169,Tryz.ntmps169
  go_wp2_with fail
  refine (must_no _).mono ?_
  rintro e w' ⟨rfl,rfl⟩
  go_wp2
  exact ⟨rfl,rfl,Below.refl _ _⟩
end Go.Proofs.YtlmpfkbgknbcnaaGreat

set_option linter.unusedVariables false
namespace Go.Proofs.YtlmpfkbgknbcnaaGreat
open Go Go.RowKit
set_option maxRecDepth 100000 in
theorem prin_is (n : Int) (w : World) : Calls Tryz.prog 173 #[I n] w fun e w' => e = .returned (.bool (btw n 0 5)) ∧ w = w':=by
 go_enter Tryz.func173,Tryz.ntmps173
 go_wp2_with fail
 refine (within_is n 5 _).mono ?_
 rintro e w1 ⟨rfl,rfl⟩
 go_wp2
 go_ret
 exact ⟨rfl,rfl⟩
set_option maxRecDepth 100000 in
theorem serv_is (n : Int) (w : World) : Calls Tryz.prog 164 #[I n] w fun e w' => e = .returned (.bool (btw n 0 2)) ∧ w = w':=by
 go_enter Tryz.func164,Tryz.ntmps164
 go_wp2_with fail
 refine (within_is n 2 _).mono ?_
 rintro e w1 ⟨rfl,rfl⟩
 go_wp2
 go_ret
 exact ⟨rfl,rfl⟩
set_option maxRecDepth 100000 in
theorem realm_is (n : Int) (w : World) : Calls Tryz.prog 162 #[I n] w fun e w' => e = .returned (.bool (btw n 0 2)) ∧ w = w':=by
 go_enter Tryz.func162,Tryz.ntmps162
 go_wp2_with fail
 refine (within_is n 2 _).mono ?_
 rintro e w1 ⟨rfl,rfl⟩
 go_wp2
 go_ret
 exact ⟨rfl,rfl⟩
/-- A number of 64 bits. -/
def i64 (n : Int) : Prop:=-9223372036854775808 ≤ n ∧ n ≤ 9223372036854775807
theorem wrap_btw (n : Int) (hn : i64 n) : btw (wrap64 (n - 10)) 0 2 = btw n 10 12:=by
 unfold i64 at hn
 have h : (btw (wrap64 (n - 10)) 0 2 = true) ↔ (btw n 10 12 = true):=by
  rw [btw_iff,btw_iff]
  unfold wrap64
  omega
 exact Bool.eq_iff_iff.2 h
set_option maxRecDepth 100000 in
theorem recv_is (n : Int) (w : World) (hn : i64 n) : Calls Tryz.prog 176 #[I n] w fun e w' => e = .returned (.bool (svOk n)) ∧ w = w':=by
 go_enter Tryz.func176,Tryz.ntmps176
 go_wp2_with fail
 refine (serv_is n _).mono ?_
 rintro e w1 ⟨rfl,rfl⟩
 by_cases h : btw n 0 2 = true
 ·rw [h]
  go_wp2
  go_ret
  exact ⟨by unfold svOk; rw [h]; rfl,rfl⟩
 ·rw [Bool.not_eq_true] at h
  rw [h]
  go_wp2_with fail
  refine (realm_is _ _).mono ?_
  rintro e w1 ⟨rfl,rfl⟩
  go_wp2
  go_ret
  refine ⟨?_,rfl⟩
  unfold svOk
  rw [h,Bool.false_or]
  rw [← wrap_btw n hn]
  rfl
set_option maxRecDepth 100000 in
theorem spec_prin (n : Int) (w : World) : Calls Tryz.prog 28 #[I n] w fun e w' => e = .returned (.bool (btw n 0 5)) ∧ w = w':=by
 have h : btw n 0 5 = (decide (0 ≤ n) && decide (n < 6)):=by unfold btw; congr 1; apply decide_eq_decide.2; omega
 rw [h]
 by_cases h0 : 0 ≤ n
 ·go_enter Tryz.func28,Tryz.ntmps28
  go_wp2
  go_ret
  exact ⟨by simp [h0],rfl⟩
 ·go_enter Tryz.func28,Tryz.ntmps28
  go_wp2
  go_ret
  exact ⟨by simp; omega,rfl⟩
set_option maxRecDepth 100000 in
theorem spec_serv (n : Int) (w : World) : Calls Tryz.prog 66 #[I n] w fun e w' => e = .returned (.bool (svOk n)) ∧ w = w':=by
 go_enter Tryz.func66,Tryz.ntmps66
 go_wp2_with fail
 refine (in_is n 0 2 _).mono ?_
 rintro e w1 ⟨rfl,rfl⟩
 rw [show (decide (0 ≤ n) && decide (n ≤ 2)) = btw n 0 2 from rfl]
 by_cases h : btw n 0 2 = true
 ·rw [h]
  go_wp2
  go_ret
  exact ⟨by unfold svOk; rw [h]; rfl,rfl⟩
 ·rw [Bool.not_eq_true] at h
  rw [h]
  go_wp2_with fail
  refine (in_is n 10 12 _).mono ?_
  rintro e w1 ⟨rfl,rfl⟩
  go_wp2
  go_ret
  exact ⟨by unfold svOk; rw [h]; rfl,rfl⟩
end Go.Proofs.YtlmpfkbgknbcnaaGreat

set_option linter.unusedVariables false
namespace Go.Proofs.YtlmpfkbgknbcnaaGreat
open Go.RowKit Own Var Term
/-- The cells from a on hold the row. -/
def RowAt {α : Type} (f : α → Value) (w : World) (a : Option Addr) (xs : List α) : Prop :=
 ∀ j (h : j < xs.length),∃ b off,a = some ⟨b,off,none⟩ ∧ b < w.heap.size ∧ w.cell? ⟨b,off + j,none⟩ = some (f xs[j])
theorem RowAt.later {α : Type} {f : α → Value} {w w' : World} {a : Option Addr} {xs : List α} (h : RowAt f w a xs) (hb : Below w.heap.size w w') : RowAt f w' a xs:=by
 intro j hj
 obtain ⟨b,off,e,hlt,hc⟩:=h j hj
 exact ⟨b,off,e,Nat.lt_of_lt_of_le hlt hb.size,by rw [hb.cell (p:=⟨b,off + j,none⟩) hlt]; exact hc⟩
theorem RowAt.own {α : Type} {f : α → Value} {w : World} {base g cap n : Nat} {e : TypeId} {xs : List α} (h : w.ownsRow base e 1 (.slice (some ⟨g,0,none⟩) n cap) n (xs.map f)) : RowAt f w (some ⟨g,0,none⟩) xs:=by
 have hl : xs.length = n:=by have:=h.1; simpa using this
 intro j hj
 refine ⟨g,0,rfl,(h.lt g rfl).2,?_⟩
 rw [Nat.zero_add,h.cellAt j (by omega)]
 simp [hj]
theorem RowAt.nil {α : Type} {f : α → Value} (w : World) (a : Option Addr) : RowAt f w a []:=by intro j hj; simp at hj
theorem infoStr : (Tryz.prog.info? 9).map (fun i => (i.zero,i.size,i.bytes)) = some (some (.string ⟨#[]⟩),1,16):=by kernel_rfl
theorem infoInt : (Tryz.prog.info? 3).map (fun i => (i.zero,i.size,i.bytes)) = some (some (I 0),1,8):=by kernel_rfl
end Go.Proofs.YtlmpfkbgknbcnaaGreat

set_option linter.unusedVariables false
namespace Go.Proofs.YtlmpfkbgknbcnaaGreat
open Go Go.RowKit
theorem all_yes {xs : List Int} (h : ∀ j (hj : j < xs.length),btw xs[j] 0 2 = true) : (xs.all fun n => btw n 0 2) = true:=by
 rw [List.all_eq_true]
 intro x hx
 obtain ⟨j,hj,rfl⟩:=List.mem_iff_getElem.1 hx
 exact h j hj
theorem all_no {xs : List Int} {j : Nat} (hj : j < xs.length) (h : btw xs[j] 0 2 = false) : (xs.all fun n => btw n 0 2) = false:=by
 cases hh : xs.all fun n => btw n 0 2 with
 | false => rfl
 | true => rw [List.all_eq_true] at hh; rw [hh _ (List.getElem_mem hj)] at h; cases h
set_option maxRecDepth 100000 in
set_option maxHeartbeats 800000 in
theorem spec_all (a : Option Addr) (cap : Nat) (xs : List Int) (m : Nat) (w : World) (hr : RowAt (Value.int .i64) w a xs) (hl : xs.length ≤ 1048576) (hm : m ≤ 1048576) :
  Calls Tryz.prog 29 #[.slice a xs.length cap,I m,I 3] w fun e w' => e = .returned (.bool (allB xs m)) ∧ Below w.heap.size w w':=by
 by_cases h : xs.length ≤ m
 ·have hd : decide ((m : Int) < (xs.length : Int)) = false:=by simp; omega
  have hA : allB xs m = xs.all fun n => btw n 0 2:=by unfold allB; simp [h]
  rw [hA]
  go_enter Tryz.func29,Tryz.ntmps29
  go_wp2
  go_loopw [7] (fun i wr => ∃ k : Nat,k ≤ xs.length ∧ i = I k ∧ (∀ j (hj : j < xs.length),j < k → btw xs[j] 0 2 = true) ∧ Below w.heap.size w wr) (fun i _ => xs.length - (intOf i).toNat)
  case atStart => exact ⟨0,by omega,rfl,fun j hj h => absurd h (by omega),Below.refl _ _⟩
  case round =>
   obtain ⟨k,hk,rfl,hall,hbel⟩:=hrel
   by_cases hlt : k < xs.length
   ·obtain ⟨b1,o1,rfl,l1,hc1⟩:=hr k hlt
    rw [← hbel.cell (p:=⟨b1,o1 + k,none⟩) l1] at hc1
    have H:=fun (h : btw xs[k] 0 2 = true) => fun j (hj : j < xs.length) (hjk : j < k + 1) => (if e : j = k then by subst e; exact h else hall j hj (by omega) : btw xs[j] 0 2 = true)
    have HN:=all_no (xs:=xs) hlt
    generalize hx : xs[k] = x at hc1 H HN
    by_cases h0 : x < 0
    ·go_wp2
     go_ret
     exact ⟨by rw [HN (by unfold btw; simp; omega)]; rfl,hbel⟩
    ·by_cases h3 : 3 ≤ x
     ·go_wp2
      go_ret
      exact ⟨by rw [HN (by unfold btw; simp; omega)]; rfl,hbel⟩
     ·go_wp2
      go_roundw
      case rel => exact ⟨k + 1,by omega,by go_num,H (by unfold btw; simp; omega),hbel⟩
      case measure => simp [intOf]; omega
   ·go_wp2
    go_ret
    exact ⟨by rw [all_yes (fun j hj => hall j hj (by omega))]; rfl,hbel⟩
 ·have hd : decide ((m : Int) < (xs.length : Int)) = true:=by simp; omega
  have hA : allB xs m = false:=by unfold allB; simp [h]
  rw [hA]
  go_enter Tryz.func29,Tryz.ntmps29
  go_wp2
  go_ret
  exact ⟨rfl,Below.refl _ _⟩
end Go.Proofs.YtlmpfkbgknbcnaaGreat

set_option linter.unusedVariables false
namespace Go.Proofs.YtlmpfkbgknbcnaaGreat
open Go Go.RowKit
theorem enters95 (args : Array Value) (w : World) : (callFunc 162 args).run Tryz.prog w = .ok (.enter 162 args) w:=by
 simp [callFunc,Tryz.func162,mark,Tryz.f162]
theorem enters96 (args : Array Value) (w : World) : (callFunc 164 args).run Tryz.prog w = .ok (.enter 164 args) w:=by
 simp [callFunc,Tryz.func164,mark,Tryz.f164]
set_option maxRecDepth 100000 in
set_option maxHeartbeats 800000 in
theorem listOk_is (f : Nat) (hen : ∀ (args : Array Value) (w : World),(callFunc f args).run Tryz.prog w = .ok (.enter f args) w)
  (hf : ∀ (n : Int) (w : World),Calls Tryz.prog f #[I n] w fun e w' => e = .returned (.bool (btw n 0 2)) ∧ w = w')
  (a : Option Addr) (cap : Nat) (xs : List Int) (m : Nat) (w : World) (hr : RowAt (Value.int .i64) w a xs) (hl : xs.length ≤ 1048576) (hm : m ≤ 1048576) :
  Calls Tryz.prog 161 #[.slice a xs.length cap,I m,.func (.func f) #[] #[]] w fun e w' => e = .returned (.bool (allB xs m)) ∧ Below w.heap.size w w':=by
 by_cases h : xs.length ≤ m
 ·have hd : decide ((m : Int) < (xs.length : Int)) = false:=by simp; omega
  have hd2 : decide (m < xs.length) = false:=by simp; omega
  have hA : allB xs m = xs.all fun n => btw n 0 2:=by unfold allB; simp [h]
  rw [hA]
  go_enter Tryz.func161,Tryz.ntmps161
  go_wp2
  go_loopw [15] (fun i wr => ∃ k : Nat,k ≤ xs.length ∧ i = I k ∧ (∀ j (hj : j < xs.length),j < k → btw xs[j] 0 2 = true) ∧ Below w.heap.size w wr) (fun i _ => xs.length - (intOf i).toNat)
  case atStart => exact ⟨0,by omega,rfl,fun j hj h => absurd h (by omega),Below.refl _ _⟩
  case round =>
   obtain ⟨k,hk,rfl,hall,hbel⟩:=hrel
   by_cases hlt : k < xs.length
   ·obtain ⟨b1,o1,rfl,l1,hc1⟩:=hr k hlt
    rw [← hbel.cell (p:=⟨b1,o1 + k,none⟩) l1] at hc1
    have H:=fun (h : btw xs[k] 0 2 = true) => fun j (hj : j < xs.length) (hjk : j < k + 1) => (if e : j = k then by subst e; exact h else hall j hj (by omega) : btw xs[j] 0 2 = true)
    have HN:=all_no (xs:=xs) hlt
    generalize hx : xs[k] = x at hc1 H HN
    have HC:=hf x wr
    go_wp2_with fail
    refine HC.mono ?_
    rintro e wx ⟨rfl,rfl⟩
    clear HC
    by_cases h1 : btw x 0 2 = true
    ·rw [h1]
     have H1:=H h1
     clear H HN
     go_wp2
     go_roundw
     case rel => exact ⟨k + 1,by omega,by go_num,H1,hbel⟩
     case measure => simp [intOf]; omega
    ·rw [Bool.not_eq_true] at h1
     rw [h1]
     have H1:=HN h1
     clear H HN
     go_wp2
     go_ret
     exact ⟨by rw [H1]; rfl,hbel⟩
   ·go_wp2
    go_ret
    exact ⟨by rw [all_yes (fun j hj => hall j hj (by omega))]; rfl,hbel⟩
 ·have hd : decide ((m : Int) < (xs.length : Int)) = true:=by simp; omega
  have hA : allB xs m = false:=by unfold allB; simp [h]
  rw [hA]
  go_enter Tryz.func161,Tryz.ntmps161
  go_wp2
  go_ret
  exact ⟨rfl,Below.refl _ _⟩
end Go.Proofs.YtlmpfkbgknbcnaaGreat

set_option linter.unusedVariables false
namespace Go.Proofs.YtlmpfkbgknbcnaaGreat
open Go Go.RowKit
theorem Two.six {s : Nat} {a b c x y z : Int} {W : World} (h : Two s a b c x y z W) : W.cell? ⟨s,0,none⟩ = some (I a) ∧ W.cell? ⟨s,1,none⟩ = some (I b) ∧ W.cell? ⟨s,2,none⟩ = some (I c) ∧ W.cell? ⟨s + 1,0,none⟩ = some (I x) ∧ W.cell? ⟨s + 1,1,none⟩ = some (I y) ∧ W.cell? ⟨s + 1,2,none⟩ = some (I z):=⟨h.a,h.b,h.c,h.x,h.y,h.z⟩
theorem Two.drew {s : Nat} {a b c x y z : Int} {W : World} (h : Two s a b c x y z W) : Two s a b c x y z W.drew:=⟨by simpa using h.a,by simpa using h.b,by simpa using h.c,by simpa using h.x,by simpa using h.y,by simpa using h.z⟩
end Go.Proofs.YtlmpfkbgknbcnaaGreat

set_option linter.unusedVariables false
namespace Go.Proofs.YtlmpfkbgknbcnaaGreat
open Go Go.RowKit
end Go.Proofs.YtlmpfkbgknbcnaaGreat
