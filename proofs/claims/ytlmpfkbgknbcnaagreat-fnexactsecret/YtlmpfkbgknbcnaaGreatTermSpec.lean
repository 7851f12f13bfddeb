/- The document's model of terms: a term that stands at a place. -/
import Derived.Test.YtlmpfkbgknbcnaaGreatAb
import Derived.Test.YtlmpfkbgknbcnaaGreatRows
import Derived.Test.YtlmpfkbgknbcnaaGreatBehind
import Derived.WalkKit
import Derived.WalkSpells
import Derived.WalkLawsBesides
import Derived.WalkMore
import Derived.Test.YtlmpfkbgknbcnaaGreatVarWalks
import Derived.Laws.Runes
set_option linter.unusedVariables false
namespace Go.Proofs.YtlmpfkbgknbcnaaGreat
open Go.RowKit Own Var Term
theorem spec_rvf (s : ByteArray) (w : World) (h : s.size ≤ 1048576) (n k : Nat) (hn : rvN s = n) (hk : rvK s = k) :
  Calls Tryz.prog 114 #[.string s] w fun e w' => e = .returned (.tuple #[I n,I k]) ∧ Below w.heap.size w w':=by
 refine (spec_rv s w h).mono ?_
 rintro e w' ⟨n,k,rfl,ha,hb⟩
 obtain ⟨rfl,rfl⟩:=rv_one ha
 subst hn hk
 exact ⟨rfl,hb⟩
/-- What the model answers of a term that stands at a place. -/
def TA (s : ByteArray) (at_ : Nat) (o : Option ByteArray) (left n d : Nat) : Prop :=
 (o = none ∧ n = 0 ∧ d = 0) ∨ (1 ≤ n ∧ at_ + n ≤ s.size ∧ o = some (suf s (at_ + n)) ∧ d ≤ left)
theorem TA.no (s : ByteArray) (a left : Nat) {o : Option ByteArray} (h : o = none) : TA s a o left 0 0:=Or.inl ⟨h,rfl,rfl⟩
theorem ret2 {a b c d : Int} (h : a = b) (k : c = d) : Ending.returned (.tuple #[I a,I c]) = .returned (.tuple #[I b,I d]):=by rw [h,k]
set_option maxRecDepth 100000 in
set_option maxHeartbeats 3200000 in
theorem term_is (s : ByteArray) (hs : s.size ≤ 1048576) : ∀ (f : Nat) (a : Nat) (L : Int) (w : World),L = (f : Int) → f ≤ 8 → a ≤ s.size →
  Calls Tryz.prog 65 #[.string s,I a,I L] w fun e w' => ∃ n d : Nat,e = .returned (.tuple #[I n,I d]) ∧ TA s a (bh f (suf s a)) f n d ∧ Below w.heap.size w w':=by
 intro f
 induction f with
 | zero =>
  intro a L w hL _ ha
  by_cases h : a < s.size
  ·have hL1 : L < 1:=by omega
   go_enter Tryz.func65,Tryz.ntmps65
   go_wp2
   go_ret2
   exact ⟨0,0,rfl,TA.no s a 0 rfl,Below.refl _ _⟩
  ·have h' : s.size ≤ a:=by omega
   go_enter Tryz.func65,Tryz.ntmps65
   go_wp2
   go_ret2
   exact ⟨0,0,rfl,TA.no s a 0 rfl,Below.refl _ _⟩
 | succ f ih =>
  intro a L w hL hf ha
  have hL1 : 1 ≤ L:=by omega
  have hL8 : L ≤ 8:=by omega
  have HL : Hid (L - 1 = (f : Int)):=(by omega : L - 1 = (f : Int))
  clear hL
  by_cases h : a < s.size
  ·obtain ⟨N,hN⟩ : ∃ N,rvN (suf s (a + 1)) = N:=⟨_,rfl⟩
   obtain ⟨K,hK⟩ : ∃ K,rvK (suf s (a + 1)) = K:=⟨_,rfl⟩
   have hKs:=(rvK_le (suf s (a + 1))).2
   have hNle:=rvN_le (suf s (a + 1))
   rw [hK,suf_size] at hKs
   rw [hN] at hNle
   have hat:=at_eq s a h
   have hcut : cut (suf s a) = (if 1 ≤ K ∧ hdOk s[a].toNat N = true then some (N,suf s (a + 1 + K)) else none):=by
    unfold cut
    rw [suf_suf,suf_suf,suf_at,hN,hK,suf_size,← hat]
    have e : (1 ≤ s.size - a ∧ 1 ≤ K ∧ hdOk s[a].toNat N = true) ↔ (1 ≤ K ∧ hdOk s[a].toNat N = true):=by constructor <;> (intro hh; first | exact hh.2 | exact ⟨by omega,hh⟩)
    by_cases c : 1 ≤ K ∧ hdOk s[a].toNat N = true
    ·rw [if_pos c,if_pos (e.2 c)]; rw [Nat.add_assoc]
    ·rw [if_neg c,if_neg (fun x => c (e.1 x))]
   have HN : Hid (rvN (suf s (a + 1)) = N):=hN
   have HK : Hid (rvK (suf s (a + 1)) = K):=hK
   have hbn : ¬ (1 ≤ K ∧ hdOk s[a].toNat N = true) → bh (f + 1) (suf s a) = none:=fun c => bh_none (by rw [hcut,if_neg c])
   have hby : 1 ≤ K ∧ hdOk s[a].toNat N = true → bh (f + 1) (suf s a) = (if s[a].toNat = 97 then (if N ≤ (suf s (a + 1 + K)).size then some (suf (suf s (a + 1 + K)) N) else none) else if s[a].toNat = 108 then rep (bh f) N (suf s (a + 1 + K)) else if s[a].toNat = 115 then bh f (suf s (a + 1 + K)) else some (suf s (a + 1 + K))):=fun c => by
    have:=bh_some (f:=f) (by rw [hcut,if_pos c] : cut (suf s a) = some (N,suf s (a + 1 + K)))
    rw [suf_at,← hat] at this
    exact this
   have hRV:=fun w => spec_rvf (suf s (a + 1)) w (by rw [suf_size]; omega) N K hN hK
   clear hN hK hat hcut
   by_cases hK0 : K = 0
   ·have HB : Hid (bh (f + 1) (suf s a) = none):=hbn (by omega)
    subst hK0
    clear hby hbn
    go_enter Tryz.func65,Tryz.ntmps65
    go_wp2_with fail
    refine (hRV w).mono ?_
    rintro e w1 ⟨rfl,hb1⟩
    go_wp2
    go_ret2
    exact ⟨0,0,rfl,TA.no s a (f + 1) HB.out,hb1⟩
   ·have hK1 : 1 ≤ K:=by omega
    have hKn : ((K : Int) == 0) = false:=by simp; omega
    by_cases h97 : s[a].toNat = 97
    ·have e97 : ((s[a].toNat : Int) == 97) = true:=by simp; omega
     by_cases hN4 : N ≤ 40
     ·have hy:=hby ⟨hK1,by rw [h97]; simp [hdOk]; omega⟩
      rw [if_pos h97,suf_size,suf_suf] at hy
      by_cases hNr : N ≤ s.size - (a + 1 + K)
      ·rw [if_pos hNr] at hy
       have HB : Hid (bh (f + 1) (suf s a) = some (suf s (a + 1 + K + N))):=hy
       clear hby hbn hy
       go_enter Tryz.func65,Tryz.ntmps65
       go_wp2_with fail
       refine (hRV w).mono ?_
       rintro e w1 ⟨rfl,hb1⟩
       go_wp2
       go_ret2
       refine ⟨1 + K + N,1,ret2 (by omega) rfl,Or.inr ⟨by omega,by omega,?_,by omega⟩,hb1⟩
       rw [HB.out,(by omega : a + 1 + K + N = a + (1 + K + N))]
      ·rw [if_neg hNr] at hy
       have HB : Hid (bh (f + 1) (suf s a) = none):=hy
       clear hby hbn hy
       go_enter Tryz.func65,Tryz.ntmps65
       go_wp2_with fail
       refine (hRV w).mono ?_
       rintro e w1 ⟨rfl,hb1⟩
       go_wp2
       go_ret2
       exact ⟨0,0,rfl,TA.no s a (f + 1) HB.out,hb1⟩
     ·have HB : Hid (bh (f + 1) (suf s a) = none):=hbn (by rw [h97]; simp [hdOk]; omega)
      clear hby hbn
      go_enter Tryz.func65,Tryz.ntmps65
      go_wp2_with fail
      refine (hRV w).mono ?_
      rintro e w1 ⟨rfl,hb1⟩
      go_wp2
      go_ret2
      exact ⟨0,0,rfl,TA.no s a (f + 1) HB.out,hb1⟩
    ·have e97 : ((s[a].toNat : Int) == 97) = false:=by simp; omega
     rw [if_neg h97] at hby
     by_cases h107 : s[a].toNat = 107
     ·have e107 : ((s[a].toNat : Int) == 107) = true:=by simp; omega
      by_cases hNk : 1 ≤ N ∧ N ≤ 1000000
      ·have hy:=hby ⟨hK1,by rw [h107]; simp [hdOk]; omega⟩
       rw [if_neg (by omega),if_neg (by omega)] at hy
       have HB : Hid (bh (f + 1) (suf s a) = some (suf s (a + 1 + K))):=hy
       have hin : (decide ((1 : Int) ≤ (N : Int)) && decide ((N : Int) ≤ 1000000)) = true:=by simp; omega
       clear hby hbn hy
       go_enter Tryz.func65,Tryz.ntmps65
       go_wp2_with fail
       refine (hRV w).mono ?_
       rintro e w1 ⟨rfl,hb1⟩
       go_wp2_with fail
       refine (in_is _ _ _ _).mono ?_
       rw [hin]
       rintro e w2 ⟨rfl,rfl⟩
       go_wp2
       go_ret2
       refine ⟨1 + K,1,ret2 (by omega) rfl,Or.inr ⟨by omega,by omega,?_,by omega⟩,hb1⟩
       rw [HB.out,(by omega : a + 1 + K = a + (1 + K))]
      ·have HB : Hid (bh (f + 1) (suf s a) = none):=hbn (by rw [h107]; simp [hdOk]; omega)
       have hin : (decide ((1 : Int) ≤ (N : Int)) && decide ((N : Int) ≤ 1000000)) = false:=by rw [Bool.eq_false_iff]; simp; omega
       clear hby hbn
       go_enter Tryz.func65,Tryz.ntmps65
       go_wp2_with fail
       refine (hRV w).mono ?_
       rintro e w1 ⟨rfl,hb1⟩
       go_wp2_with fail
       refine (in_is _ _ _ _).mono ?_
       rw [hin]
       rintro e w2 ⟨rfl,rfl⟩
       go_wp2
       go_ret2
       exact ⟨0,0,rfl,TA.no s a (f + 1) HB.out,hb1⟩
     ·have e107 : ((s[a].toNat : Int) == 107) = false:=by simp; omega
      by_cases h115 : s[a].toNat = 115
      ·have e115 : ((s[a].toNat : Int) == 115) = true:=by simp; omega
       have hih:=fun w => ih (a + 1 + K) (L - 1) w HL.out (by omega) (by omega)
       by_cases hNk : 1 ≤ N ∧ N ≤ 1000000
       ·have hy:=hby ⟨hK1,by rw [h115]; simp [hdOk]; omega⟩
        rw [if_neg (by omega),if_pos h115] at hy
        have HB : Hid (bh (f + 1) (suf s a) = bh f (suf s (a + 1 + K))):=hy
        have hin : (decide ((1 : Int) ≤ (N : Int)) && decide ((N : Int) ≤ 1000000)) = true:=by simp; omega
        clear hby hbn hy
        go_enter Tryz.func65,Tryz.ntmps65
        go_wp2_with fail
        refine (hRV w).mono ?_
        rintro e w1 ⟨rfl,hb1⟩
        go_wp2_with fail
        rw [(by omega : (a : Int) + 1 + (K : Int) = ((a + 1 + K : Nat) : Int))]
        refine (hih w1).mono ?_
        rintro e w2 ⟨m,d,rfl,hTA,hb2⟩
        have hb3:=hb1.trans (hb2.mono hb1.size)
        rcases hTA with ⟨hn,rfl,rfl⟩ | ⟨hm1,hm2,hso,hd⟩
        ·go_wp2
         go_ret2
         exact ⟨0,0,rfl,TA.no s a (f + 1) (by rw [HB.out,hn]),hb3⟩
        ·have hmn : ((m : Int) == 0) = false:=by simp; omega
         go_wp2_with fail
         refine (in_is _ _ _ _).mono ?_
         rw [hin]
         rintro e w3 ⟨rfl,rfl⟩
         go_wp2
         go_ret2
         refine ⟨1 + K + m,1 + d,ret2 (by omega) (by omega),Or.inr ⟨by omega,by omega,?_,by omega⟩,hb3⟩
         rw [HB.out,hso,(by omega : a + 1 + K + m = a + (1 + K + m))]
       ·have HB : Hid (bh (f + 1) (suf s a) = none):=hbn (by rw [h115]; simp [hdOk]; omega)
        have hin : (decide ((1 : Int) ≤ (N : Int)) && decide ((N : Int) ≤ 1000000)) = false:=by rw [Bool.eq_false_iff]; simp; omega
        clear hby hbn
        go_enter Tryz.func65,Tryz.ntmps65
        go_wp2_with fail
        refine (hRV w).mono ?_
        rintro e w1 ⟨rfl,hb1⟩
        go_wp2_with fail
        rw [(by omega : (a : Int) + 1 + (K : Int) = ((a + 1 + K : Nat) : Int))]
        refine (hih w1).mono ?_
        rintro e w2 ⟨m,d,rfl,hTA,hb2⟩
        have hb3:=hb1.trans (hb2.mono hb1.size)
        rcases hTA with ⟨hn,rfl,rfl⟩ | ⟨hm1,hm2,hso,hd⟩
        ·go_wp2
         go_ret2
         exact ⟨0,0,rfl,TA.no s a (f + 1) HB.out,hb3⟩
        ·have hmn : ((m : Int) == 0) = false:=by simp; omega
         go_wp2_with fail
         refine (in_is _ _ _ _).mono ?_
         rw [hin]
         rintro e w3 ⟨rfl,rfl⟩
         go_wp2
         go_ret2
         exact ⟨0,0,rfl,TA.no s a (f + 1) HB.out,hb3⟩
      ·have e115 : ((s[a].toNat : Int) == 115) = false:=by simp; omega
       by_cases h108 : s[a].toNat = 108
       ·have e108 : ((s[a].toNat : Int) == 108) = true:=by simp; omega
        by_cases hN12 : N ≤ 12
        ·have hy:=hby ⟨hK1,by rw [h108]; simp [hdOk]; omega⟩
         rw [if_pos h108] at hy
         have HB : Hid (bh (f + 1) (suf s a) = rep (bh f) N (suf s (a + 1 + K))):=hy
         have hih:=fun E hE w => ih E (L - 1) w HL.out (by omega) hE
         clear hby hbn hy
         go_enter Tryz.func65,Tryz.ntmps65
         go_wp2_with fail
         refine (hRV w).mono ?_
         rintro e w1 ⟨rfl,hb1⟩
         go_wp2_with fail
         go_loopw [10,13,14] (fun e dp i wr => ∃ k E D : Nat,k ≤ N ∧ a + 1 + K ≤ E ∧ E ≤ s.size ∧ D ≤ f ∧ i = I k ∧ e = I E ∧ dp = I D ∧ Hid (rep (bh f) N (suf s (a + 1 + K)) = rep (bh f) (N - k) (suf s E)) ∧ Below w.heap.size w wr) (fun _ _ i _ => N - (intOf i).toNat)
         case atStart => exact ⟨0,a + 1 + K,0,by omega,by omega,by omega,by omega,rfl,by go_num,rfl,rfl,hb1⟩
         case round =>
          obtain ⟨k,E,D,hk,hE1,hE2,hD,rfl,rfl,rfl,HR,hbel⟩:=hrel
          by_cases hkN : k < N
          ·obtain ⟨q,hq⟩ : ∃ q,N - k = q + 1:=⟨N - k - 1,by omega⟩
           have hq2 : N - (k + 1) = q:=by omega
           go_wp2_with fail
           refine (hih E hE2 wr).mono ?_
           rintro e w2 ⟨m,d,rfl,hTA,hb2⟩
           have hb3:=hbel.trans (hb2.mono hbel.size)
           rcases hTA with ⟨hno,rfl,rfl⟩ | ⟨hm1,hm2,hso,hd⟩
           ·have HB2 : Hid (bh (f + 1) (suf s a) = none):=(by rw [HB.out,HR.out,hq,rep,hno] : bh (f + 1) (suf s a) = none)
            go_wp2
            go_ret2
            exact ⟨0,0,rfl,TA.no s a (f + 1) HB2.out,hb3⟩
           ·have hmn : ((m : Int) == 0) = false:=by simp; omega
            have HR2 : Hid (rep (bh f) N (suf s (a + 1 + K)) = rep (bh f) (N - (k + 1)) (suf s (E + m))):=(by rw [HR.out,hq,rep,hso,hq2] : rep (bh f) N (suf s (a + 1 + K)) = rep (bh f) (N - (k + 1)) (suf s (E + m)))
            by_cases hdd : D < d
            ·have hdd' : (D : Int) < (d : Int):=by omega
             go_wp2
             go_roundw
             case rel =>
              have R : ∃ k' E' D' : Nat,k' ≤ N ∧ a + 1 + K ≤ E' ∧ E' ≤ s.size ∧ D' ≤ f ∧ Value.int .i64 ((k : Int) + 1) = I k' ∧ Value.int .i64 ((E : Int) + (m : Int)) = I E' ∧ Value.int .i64 (d : Int) = I D' ∧ Hid (rep (bh f) N (suf s (a + 1 + K)) = rep (bh f) (N - k') (suf s E')) ∧ Below w.heap.size w w2 :=
               ⟨k + 1,E + m,d,by omega,by omega,by omega,by omega,by go_num,by go_num,rfl,HR2,hb3⟩
              first | exact R | ((repeat apply Exists.intro); exact ⟨R,rfl⟩)
             case measure => simp [intOf]; omega
            ·have hdd' : (d : Int) ≤ (D : Int):=by omega
             go_wp2
             go_roundw
             case rel =>
              have R : ∃ k' E' D' : Nat,k' ≤ N ∧ a + 1 + K ≤ E' ∧ E' ≤ s.size ∧ D' ≤ f ∧ Value.int .i64 ((k : Int) + 1) = I k' ∧ Value.int .i64 ((E : Int) + (m : Int)) = I E' ∧ Value.int .i64 (D : Int) = I D' ∧ Hid (rep (bh f) N (suf s (a + 1 + K)) = rep (bh f) (N - k') (suf s E')) ∧ Below w.heap.size w w2 :=
               ⟨k + 1,E + m,D,by omega,by omega,by omega,by omega,by go_num,by go_num,rfl,HR2,hb3⟩
              first | exact R | ((repeat apply Exists.intro); exact ⟨R,rfl⟩)
             case measure => simp [intOf]; omega
          ·have HB2 : Hid (bh (f + 1) (suf s a) = some (suf s E)):=(by rw [HB.out,HR.out,(by omega : N - k = 0),rep] : bh (f + 1) (suf s a) = some (suf s E))
           go_wp2
           go_ret2
           refine ⟨E - a,1 + D,ret2 (by omega) (by omega),Or.inr ⟨by omega,by omega,?_,by omega⟩,hbel⟩
           rw [HB2.out,(by omega : a + (E - a) = E)]
        ·have HB : Hid (bh (f + 1) (suf s a) = none):=hbn (by rw [h108]; simp [hdOk]; omega)
         clear hby hbn
         go_enter Tryz.func65,Tryz.ntmps65
         go_wp2_with fail
         refine (hRV w).mono ?_
         rintro e w1 ⟨rfl,hb1⟩
         go_wp2
         go_ret2
         exact ⟨0,0,rfl,TA.no s a (f + 1) HB.out,hb1⟩
       ·have e108 : ((s[a].toNat : Int) == 108) = false:=by simp; omega
        have HB : Hid (bh (f + 1) (suf s a) = none):=hbn (by simp [hdOk,h97,h107,h108,h115])
        clear hby hbn
        go_enter Tryz.func65,Tryz.ntmps65
        go_wp2_with fail
        refine (hRV w).mono ?_
        rintro e w1 ⟨rfl,hb1⟩
        go_wp2
        go_ret2
        exact ⟨0,0,rfl,TA.no s a (f + 1) HB.out,hb1⟩
  ·have h' : s.size ≤ a:=by omega
   have HB : Hid (bh (f + 1) (suf s a) = none):=(by
    rw [bh]; simp only
    have e : cut (suf s a) = none:=by unfold cut; rw [if_neg]; rw [suf_size]; omega
    rw [e] : bh (f + 1) (suf s a) = none)
   go_enter Tryz.func65,Tryz.ntmps65
   go_wp2
   go_ret2
   exact ⟨0,0,rfl,TA.no s a (f + 1) HB.out,Below.refl _ _⟩
end Go.Proofs.YtlmpfkbgknbcnaaGreat

set_option linter.unusedVariables false
namespace Go.Proofs.YtlmpfkbgknbcnaaGreat
open Go.RowKit Own Var Term
theorem data_append (a b : ByteArray) : (a ++ b).data.toList = a.data.toList ++ b.data.toList:=by simp [ByteArray.data_append]
theorem size_list (a : ByteArray) : a.size = a.data.toList.length:=rfl
theorem valB_varB (n : Nat) : Var.valB (varB n) = n:=by
 induction n using Nat.strongRecOn with
 | ind n ih =>
  by_cases h : n < 128
  ·rw [varB_small n h]
   simp only [Var.valB]
   rw [UInt8.toNat_ofNat_of_lt' (by show _ < 256; omega)]
   omega
  ·rw [varB_great n h]
   simp only [Var.valB]
   rw [UInt8.toNat_ofNat_of_lt' (by show _ < 256; omega),ih (n / 128) (by omega)]
   omega
theorem ans_made (n : Nat) (h : n ≤ 562949953421311) (t : ByteArray) : Ans (⟨(varB n).toArray⟩ ++ t) n (varB n).length:=by
 have h7:=varB_seven n h
 have h1:=varB_pos n
 have e : (⟨(varB n).toArray⟩ ++ t : ByteArray).data.toList = varB n ++ t.data.toList:=by rw [data_append]
 have hs : (⟨(varB n).toArray⟩ ++ t : ByteArray).size = (varB n).length + t.size:=by rw [size_list,e,List.length_append]; rfl
 have et : (⟨(varB n).toArray⟩ ++ t : ByteArray).data.toList.take (varB n).length = varB n:=by rw [e]; simp
 refine Or.inr ⟨h1,h7,by omega,?_,?_⟩
 ·rw [Var.canonK_iff _ _ (by omega)]
  have e1 : (varB n).length - 1 + 1 = (varB n).length:=by omega
  rw [e1,et,valB_varB]
 ·rw [et,valB_varB]
/-- A letter ahead of a number. -/
def hdT (c : UInt8) (n : Int) : ByteArray:=⟨#[c]⟩ ++ varOf n
theorem hdT_size (c : UInt8) (n : Int) : (hdT c n).size = 1 + (varOf n).size:=by
 unfold hdT
 rw [ByteArray.size_append]
 rfl
theorem varOf_nat (n : Nat) (h : n ≤ 562949953421311) : varOf (n : Int) = ⟨(varB n).toArray⟩:=by
 unfold varOf; rw [if_pos (by omega)]; rfl
theorem suf_one (c : UInt8) (n : Int) (t : ByteArray) : suf (hdT c n ++ t) 1 = varOf n ++ t:=by
 apply ext_list
 rw [suf_list,data_append,data_append,hdT,data_append]
 rfl
theorem at_one (c : UInt8) (n : Int) (t : ByteArray) : at_ (hdT c n ++ t) 0 = c.toNat:=by
 unfold at_
 rw [data_append,hdT,data_append]
 rfl
theorem rv_made (n : Nat) (h : n ≤ 562949953421311) (t : ByteArray) : rvN (varOf n ++ t) = n ∧ rvK (varOf n ++ t) = (varOf n).size:=by
 have:=rv_one (ans_made n h t)
 rw [varOf_nat n h]
 exact ⟨this.1.symm,this.2.symm⟩
theorem suf_rest (c : UInt8) (n : Int) (t : ByteArray) : suf (hdT c n ++ t) (1 + (varOf n).size) = t:=by
 apply ext_list
 rw [suf_list,data_append,List.drop_append_of_le_length (by rw [← size_list,hdT_size]; omega),List.drop_of_length_le (by rw [← size_list,hdT_size]; omega)]
 rfl
theorem cut_made (c : UInt8) (n : Nat) (h : n ≤ 562949953421311) (t : ByteArray) : cut (hdT c n ++ t) = if hdOk c.toNat n = true then some (n,t) else none:=by
 have hv : 1 ≤ (varOf (n : Int)).size:=by rw [varOf_nat n h]; exact varB_pos n
 unfold cut
 rw [suf_one,at_one,(rv_made n h t).1,(rv_made n h t).2,suf_rest]
 have hz : 1 ≤ (hdT c n ++ t).size:=by rw [ByteArray.size_append,hdT_size]; omega
 by_cases hk : hdOk c.toNat n = true
 ·rw [if_pos ⟨hz,hv,hk⟩,if_pos hk]
 ·rw [if_neg (fun x => hk x.2.2),if_neg hk]
theorem app_nil (a : ByteArray) : a ++ ⟨#[]⟩ = a:=by apply ext_list; rw [data_append]; simp
end Go.Proofs.YtlmpfkbgknbcnaaGreat

set_option linter.unusedVariables false
namespace Go.Proofs.YtlmpfkbgknbcnaaGreat
open Go.RowKit Own Var Term
theorem isT_no (s : ByteArray) (h : bh 8 s = none) : isT s = false:=by
 unfold isT; rw [h]; simp
theorem isT_some (s : ByteArray) (n : Nat) (hn : n ≤ s.size) (h : bh 8 s = some (suf s n)) : isT s = decide (s.size ≤ 900 ∧ n = s.size):=by
 unfold isT; rw [h]
 simp only [suf_size]
 rw [Bool.eq_iff_iff]
 simp
 omega
set_option maxRecDepth 100000 in
set_option maxHeartbeats 800000 in
theorem spec_ok (s : ByteArray) (w : World) (hs : s.size ≤ 1048576) :
  Calls Tryz.prog 24 #[.string s] w fun e w' => e = .returned (.bool (isT s)) ∧ Below w.heap.size w w':=by
 have HT:=term_is s hs 8 0 8 w rfl (by omega) (by omega)
 rw [suf_zero] at HT
 go_enter Tryz.func24,Tryz.ntmps24
 go_wp2_with fail
 refine HT.mono ?_
 rintro e w1 ⟨n,d,rfl,hTA,hb⟩
 rcases hTA with ⟨hn,rfl,rfl⟩ | ⟨hm1,hm2,hso,hd⟩
 ·go_wp2
  go_ret
  exact ⟨by rw [isT_no s hn]; rfl,hb⟩
 ·rw [Nat.zero_add] at hso
  have hI:=isT_some s n (by omega) hso
  by_cases h1 : n = s.size
  ·have h1' : ((n : Int) == (s.size : Int)) = true:=by simp; omega
   go_wp2
   go_ret
   have e : decide ((s.size : Int) ≤ 900) = isT s:=by rw [hI,decide_eq_decide]; omega
   rw [← e]
   exact ⟨rfl,hb⟩
  ·have h1' : ((n : Int) == (s.size : Int)) = false:=by simp; omega
   go_wp2
   go_ret
   refine ⟨?_,hb⟩
   rw [hI]
   simp
   omega
theorem tell75 (n : Nat) (r : ByteArray) (w : World) : Calls Tryz.prog 126 #[I n,.string r] w fun e w' => e = .returned (I n) ∧ w = w':=by
 go_enter Tryz.func126,Tryz.ntmps126
 go_wp2
 go_ret
 exact ⟨rfl,rfl⟩
theorem enters75 (args : Array Value) (w : World) : (callFunc 126 args).run Tryz.prog w = .ok (.enter 126 args) w:=by
 simp [callFunc,Tryz.func126,mark,Tryz.f126]
set_option maxRecDepth 100000 in
set_option maxHeartbeats 800000 in
theorem impl_ok (s : ByteArray) (w : World) (hs : s.size ≤ 2097152) :
  Calls Tryz.prog 80 #[.string s] w fun e w' => e = .returned (.bool (isT s)) ∧ Below w.heap.size w w':=by
 have hmf : ∀ (fn : Fn) (first cap : Array Value) (w : World),(Instr.makeFunc fn first cap).run Tryz.prog w = .ok (.func fn first cap) w:=fun _ _ _ _ => rfl
 by_cases h0 : 1 ≤ s.size
 ·have hne:=ne_nil s h0
  have hat:=at_eq s 0 (by omega)
  by_cases hT : isT s = true
  ·obtain ⟨n,r,hc⟩:=((isT_iff s).1 hT).cut
   have hr : rk s s[0].toNat = some (n,r):=by rw [rk_yes ((isT_iff s).1 hT) hat.symm,hc]
   have HC:=rkI_yes s r s[0].toNat n 126 #[] w (fun v w' => Below w.heap.size w w') (by have:=((isT_iff s).1 hT).1; omega) hr enters75 (fun w1 hb => (tell75 n r w1).mono (by rintro e w2 ⟨rfl,rfl⟩; exact ⟨_,rfl,hb⟩))
   rw [hT]
   clear hr hc hat hT
   go_enter Tryz.func80,Tryz.ntmps80
   go_wp2_with fail
   refine HC.mono ?_
   rintro e w1 ⟨v,rfl,hb⟩
   go_wp2
   go_ret
   exact ⟨rfl,hb⟩
  ·have hr : rk s s[0].toNat = none:=rk_no (fun c => hT ((isT_iff s).2 c.1))
   have HC:=rkI_no s s[0].toNat (.func (.func 126) #[] #[]) w hs hr
   rw [Bool.not_eq_true] at hT
   rw [hT]
   clear hr hat hT
   go_enter Tryz.func80,Tryz.ntmps80
   go_wp2_with fail
   refine HC.mono ?_
   rintro e w1 ⟨rfl,hb⟩
   go_wp2
   go_ret
   exact ⟨rfl,hb⟩
 ·have hne:=nil_size s (by omega)
  have hT : isT s = false:=by
   rw [← Bool.not_eq_true,isT_iff]
   intro h
   have:=not_empty h
   omega
  rw [hT]
  clear hT
  go_enter Tryz.func80,Tryz.ntmps80
  go_wp2
  go_ret
  exact ⟨rfl,Below.refl _ _⟩
end Go.Proofs.YtlmpfkbgknbcnaaGreat
