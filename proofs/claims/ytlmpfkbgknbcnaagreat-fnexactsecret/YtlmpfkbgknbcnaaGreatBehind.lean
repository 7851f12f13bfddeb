/- The program's terms: what stands behind the term with which a text begins. -/
import Derived.Test.YtlmpfkbgknbcnaaGreatAb
import Derived.Test.YtlmpfkbgknbcnaaGreatVarWalks
import Derived.Defers
import Derived.Recover
import Derived.Laws.EntriesVeiled
import Derived.WalkKit
import Derived.WalkSpells
import Derived.WalkLawsBesides
import Derived.Deep.RegionHeld3
set_option linter.unusedVariables false
namespace Go.Proofs.YtlmpfkbgknbcnaaGreat
open Go.RowKit Own Var Term
/-- What 'behind' ends with. -/
def ansB : Option ByteArray → Ending
 | some r => .returned (.string r)
 | none => .panicked noT
set_option maxRecDepth 100000 in
set_option maxHeartbeats 1600000 in
theorem behind_is (p : Addr) : ∀ (f : Nat) (s : ByteArray) (L : Int) (w : World),L = 9 - (f : Int) → f ≤ 8 → s.size ≤ 1048576 → p.block < w.heap.size → w.cell? p = some (.func (.func 200) #[] #[.pointer (some p)]) →
  Calls Tryz.prog 200 #[.string s,I L,.pointer (some p)] w fun e w' => e = ansB (bh f s) ∧ Below w.heap.size w w':=by
 intro f
 induction f with
 | zero =>
  intro s L w hL _ hs hp hc
  have hL8 : 8 < L:=by omega
  go_enter Tryz.func200,Tryz.ntmps200
  go_wp2_with fail
  refine (must_no _).mono ?_
  rintro e w' ⟨rfl,rfl⟩
  go_wp2
  exact ⟨rfl,rfl,Below.refl _ _⟩
 | succ f ih =>
  intro s L w hL hf hs hp hc
  have hL8 : L ≤ 8:=by omega
  have hL0 : 0 ≤ L:=by omega
  have HL : Hid (L + 1 = 9 - (f : Int)):=(by omega : L + 1 = 9 - (f : Int))
  clear hL
  cases hcut : Term.cut s with
  | none =>
   have HB : Hid (bh (f + 1) s = none):=(by rw [bh]; simp only [hcut] : bh (f + 1) s = none)
   go_enter Tryz.func200,Tryz.ntmps200
   go_wp2_with fail
   refine (must_yes _).mono ?_
   rintro e w' ⟨rfl,rfl⟩
   go_wp2_with fail
   refine (cutHead_no s _ hs hcut).mono ?_
   rintro e w1 ⟨rfl,hb1⟩
   go_wp2
   exact ⟨rfl,by rw [HB.out]; rfl,hb1⟩
  | some q =>
   obtain ⟨n,r⟩:=q
   obtain ⟨hz,hn,j,hj,hj2,hr⟩:=cut_size hcut
   have hB : bh (f + 1) s = (if at_ s 0 = 97 then (if n ≤ r.size then some (suf r n) else none) else if at_ s 0 = 108 then rep (bh f) n r else if at_ s 0 = 115 then bh f r else some r):=by rw [bh]; simp only [hcut]
   have hat:=at_eq s 0 (by omega)
   rw [← hat] at hB
   clear hr hat
   by_cases h97 : s[0].toNat = 97
   ·have e97 : ((s[0].toNat : Int) == 97) = true:=by simp; omega
    rw [if_pos h97] at hB
    by_cases hnr : n ≤ r.size
    ·rw [if_pos hnr] at hB
     have HB : Hid (bh (f + 1) s = some (suf r n)):=hB
     clear hB
     go_enter Tryz.func200,Tryz.ntmps200
     go_wp2_with fail
     refine (must_yes _).mono ?_
     rintro e w' ⟨rfl,rfl⟩
     go_wp2_with fail
     refine (cutHead_yes s r n _ hs hcut).mono ?_
     rintro e w1 ⟨rfl,hb1⟩
     go_wp2_with fail
     refine (must_yes _).mono ?_
     rintro e w' ⟨rfl,rfl⟩
     go_wp2
     go_ret
     exact ⟨by rw [HB.out]; rfl,hb1⟩
    ·rw [if_neg hnr] at hB
     have HB : Hid (bh (f + 1) s = none):=hB
     clear hB
     go_enter Tryz.func200,Tryz.ntmps200
     go_wp2_with fail
     refine (must_yes _).mono ?_
     rintro e w' ⟨rfl,rfl⟩
     go_wp2_with fail
     refine (cutHead_yes s r n _ hs hcut).mono ?_
     rintro e w1 ⟨rfl,hb1⟩
     go_wp2_with fail
     refine (must_no _).mono ?_
     rintro e w' ⟨rfl,rfl⟩
     go_wp2
     exact ⟨rfl,by rw [HB.out]; rfl,hb1⟩
   ·rw [if_neg h97] at hB
    have e97 : ((s[0].toNat : Int) == 97) = false:=by simp; omega
    by_cases h108 : s[0].toNat = 108
    ·rw [if_pos h108] at hB
     have e108 : ((s[0].toNat : Int) == 108) = true:=by simp; omega
     have HB : Hid (bh (f + 1) s = rep (bh f) n r):=hB
     clear hB
     go_enter Tryz.func200,Tryz.ntmps200
     go_wp2_with fail
     refine (must_yes _).mono ?_
     rintro e w' ⟨rfl,rfl⟩
     go_wp2_with fail
     refine (cutHead_yes s r n _ hs hcut).mono ?_
     rintro e w1 ⟨rfl,hb1⟩
     go_wp2_with fail
     go_loopw [7,31] (fun x i wr => ∃ (k : Nat) (t : ByteArray),k ≤ n ∧ i = I k ∧ x = .string t ∧ t.size ≤ 1048576 ∧ Hid (rep (bh f) n r = rep (bh f) (n - k) t) ∧ Below w.heap.size w wr) (fun _ i _ => n - (intOf i).toNat)
     case atStart => exact ⟨0,r,by omega,rfl,rfl,by omega,rfl,hb1⟩
     case round =>
      obtain ⟨k,t,hk,rfl,rfl,ht,HR,hbel⟩:=hrel
      have hcr:=(hbel.cell hp).trans hc
      by_cases hkn : k < n
      ·obtain ⟨m,hm⟩ : ∃ m,n - k = m + 1:=⟨n - k - 1,by omega⟩
       have hm2 : n - (k + 1) = m:=by omega
       cases hg : bh f t with
       | none =>
        have HB2 : Hid (bh (f + 1) s = none):=(by rw [HB.out,HR.out,hm,rep,hg] : bh (f + 1) s = none)
        go_wp2_with fail
        refine (ih t (L + 1) wr HL.out (by omega) ht (by have:=hbel.size; omega) hcr).mono ?_
        simp only [hg,ansB]
        rintro e w2 ⟨rfl,hb2⟩
        go_wp2
        exact ⟨rfl,by rw [HB2.out]; rfl,hbel.trans (hb2.mono hbel.size)⟩
       | some t' =>
        have HR2 : Hid (rep (bh f) n r = rep (bh f) (n - (k + 1)) t'):=(by rw [HR.out,hm,rep,hg,hm2] : rep (bh f) n r = rep (bh f) (n - (k + 1)) t')
        go_wp2_with fail
        refine (ih t (L + 1) wr HL.out (by omega) ht (by have:=hbel.size; omega) hcr).mono ?_
        simp only [hg,ansB]
        rintro e w2 ⟨rfl,hb2⟩
        obtain ⟨j',_,hj',rfl⟩:=bh_suf f t t' hg
        have ht' : (suf t j').size ≤ 1048576:=by rw [suf_size]; omega
        have hb3:=hbel.trans (hb2.mono hbel.size)
        go_wp2
        go_roundw
        case rel =>
         have R : ∃ (k' : Nat) (t' : ByteArray),k' ≤ n ∧ Value.int .i64 ((k : Int) + 1) = I k' ∧ Value.string (suf t j') = .string t' ∧ t'.size ≤ 1048576 ∧ Hid (rep (bh f) n r = rep (bh f) (n - k') t') ∧ Below w.heap.size w w2 :=
          ⟨k + 1,_,by omega,by go_num,rfl,ht',HR2,hb3⟩
         first | exact R | ((repeat apply Exists.intro); exact ⟨R,rfl⟩)
        case measure => simp [intOf]; omega
      ·have HB2 : Hid (bh (f + 1) s = some t):=(by rw [HB.out,HR.out,(by omega : n - k = 0),rep] : bh (f + 1) s = some t)
       go_wp2
       go_ret
       exact ⟨by rw [HB2.out]; rfl,hbel⟩
    ·rw [if_neg h108] at hB
     have e108 : ((s[0].toNat : Int) == 108) = false:=by simp; omega
     by_cases h115 : s[0].toNat = 115
     ·rw [if_pos h115] at hB
      have e115 : ((s[0].toNat : Int) == 115) = true:=by simp; omega
      have HB : Hid (bh (f + 1) s = bh f r):=hB
      clear hB
      cases hbr : bh f r with
      | none =>
       go_enter Tryz.func200,Tryz.ntmps200
       go_wp2_with fail
       refine (must_yes _).mono ?_
       rintro e w' ⟨rfl,rfl⟩
       go_wp2_with fail
       refine (cutHead_yes s r n _ hs hcut).mono ?_
       rintro e w1 ⟨rfl,hb1⟩
       have hc1:=(hb1.cell hp).trans hc
       go_wp2_with fail
       refine (ih r (L + 1) w1 HL.out (by omega) (by omega) (by have:=hb1.size; omega) hc1).mono ?_
       simp only [hbr,ansB]
       rintro e w2 ⟨rfl,hb2⟩
       go_wp2
       exact ⟨rfl,by rw [HB.out,hbr]; rfl,hb1.trans (hb2.mono hb1.size)⟩
      | some r' =>
       go_enter Tryz.func200,Tryz.ntmps200
       go_wp2_with fail
       refine (must_yes _).mono ?_
       rintro e w' ⟨rfl,rfl⟩
       go_wp2_with fail
       refine (cutHead_yes s r n _ hs hcut).mono ?_
       rintro e w1 ⟨rfl,hb1⟩
       have hc1:=(hb1.cell hp).trans hc
       go_wp2_with fail
       refine (ih r (L + 1) w1 HL.out (by omega) (by omega) (by have:=hb1.size; omega) hc1).mono ?_
       simp only [hbr,ansB]
       rintro e w2 ⟨rfl,hb2⟩
       go_wp2
       go_ret
       exact ⟨by rw [HB.out,hbr]; rfl,hb1.trans (hb2.mono hb1.size)⟩
     ·rw [if_neg h115] at hB
      have e115 : ((s[0].toNat : Int) == 115) = false:=by simp; omega
      have HB : Hid (bh (f + 1) s = some r):=hB
      clear hB
      go_enter Tryz.func200,Tryz.ntmps200
      go_wp2_with fail
      refine (must_yes _).mono ?_
      rintro e w' ⟨rfl,rfl⟩
      go_wp2_with fail
      refine (cutHead_yes s r n _ hs hcut).mono ?_
      rintro e w1 ⟨rfl,hb1⟩
      go_wp2
      go_ret
      exact ⟨by rw [HB.out]; rfl,hb1⟩
end Go.Proofs.YtlmpfkbgknbcnaaGreat

set_option linter.unusedVariables false
namespace Go.Proofs.YtlmpfkbgknbcnaaGreat
open Go.RowKit Own Var Term
set_option maxRecDepth 100000 in
set_option maxHeartbeats 800000 in
theorem behindTerm_is (s : ByteArray) (w : World) (hs : s.size ≤ 1048576) :
  Calls Tryz.prog 168 #[.string s] w fun e w' => e = ansB (bh 8 s) ∧ Below w.heap.size w w':=by
 have hmf : ∀ (fn : Fn) (first cap : Array Value) (w : World),(Instr.makeFunc fn first cap).run Tryz.prog w = .ok (.func fn first cap) w:=fun _ _ _ _ => rfl
 have HC:=behind_is ⟨w.heap.size,0,none⟩ 8 s 1 (w.alloc (.cells #[.func (.func 200) #[] #[.pointer (some ⟨w.heap.size,0,none⟩)]] 238)) (by omega) (by omega) hs (by simp) (by simp [go_sem])
 cases hB : bh 8 s with
 | none =>
  simp only [hB,ansB] at HC
  go_enter Tryz.func168,Tryz.ntmps168
  go_wp2_with fail
  refine HC.mono ?_
  rintro e w1 ⟨rfl,hb1⟩
  go_wp2
  exact ⟨rfl,rfl,((Below.refl _ _).alloc (Nat.le_refl _) _).trans (hb1.mono (by simp))⟩
 | some r =>
  simp only [hB,ansB] at HC
  go_enter Tryz.func168,Tryz.ntmps168
  go_wp2_with fail
  refine HC.mono ?_
  rintro e w1 ⟨rfl,hb1⟩
  go_wp2
  go_ret
  exact ⟨rfl,((Below.refl _ _).alloc (Nat.le_refl _) _).trans (hb1.mono (by simp))⟩
theorem catch96_idle (w : World) :
  CallsD Tryz.prog 166 #[] .returning w fun e u' w' => e = .returned (.tuple #[]) ∧ u' = .returning ∧ w = w':=by
 refine callsD_of_wpS Tryz.func166 rfl fun c₀ cs hu => ?_
 apply wpS_region
 simp [wpOpsS,go_sem,recoverD,hu,Tryz.ntmps166,bodyPostS,results,Tryz.results166]
 cases c₀; simp_all
theorem catch96 (w : World) :
  CallsD Tryz.prog 166 #[] (.panicking noT) w fun e u' w' => e = .returned (.tuple #[]) ∧ u' = .panicking [{ v:=.iface 9 (.string ⟨#[110,111,32,116,101,114,109]⟩),recovered:=true }] ∧ w = w':=by
 refine callsD_of_wpS Tryz.func166 rfl fun c₀ cs hu => ?_
 apply wpS_region
 simp [wpOpsS,go_sem,recoverD,hu,Tryz.ntmps166,bodyPostS,results,Tryz.results166,noT]
set_option maxRecDepth 100000 in
set_option maxHeartbeats 1600000 in
theorem rkI_no (s : ByteArray) (kind : Nat) (F : Value) (w : World) (hs : s.size ≤ 2097152) (hr : rk s kind = none) :
  Calls Tryz.prog 125 #[.string s,.int .u8 kind,F] w fun e w' => e = .returned (.tuple #[I 0,.bool false]) ∧ Below w.heap.size w w':=by
 have hmf : ∀ (fn : Fn) (first cap : Array Value) (w : World),(Instr.makeFunc fn first cap).run Tryz.prog w = .ok (.func fn first cap) w:=fun _ _ _ _ => rfl
 by_cases h : s.size ≤ 900
 ·have HC:=behindTerm_is s w (by omega)
  cases hB : bh 8 s with
  | none =>
   simp only [hB,ansB] at HC
   clear hr hB
   go_enter_defers Tryz.func125,Tryz.ntmps125
   go_wp2_with fail
   refine HC.mono ?_
   rintro e w1 ⟨rfl,hb⟩
   go_wp2
   refine leaves_cons (f:=166) (args:=#[]) (by simp) (by simp [go_sem]) ?_
   refine (catch96 _).mono ?_
   rintro e u' w'' ⟨rfl,rfl,rfl⟩
   simp [Leaves,settle,results,Tryz.results125,go_sem]
   exact hb
  | some r =>
   simp only [hB,ansB] at HC
   by_cases h0 : r.size = 0
   ·have hT : IsT s:=⟨h,r,hB,h0⟩
    have h2:=not_empty hT
    have hne:=nil_size r h0
    have hat:=at_eq s 0 (by omega)
    have hk : ((s[0].toNat : Int) == (kind : Int)) = false:=by
     rw [Bool.eq_false_iff]; intro hh; simp at hh
     obtain ⟨n,t,hc⟩:=hT.cut
     rw [rk_yes hT (by omega),hc] at hr
     simp at hr
    clear hr hB hT hat
    go_enter_defers Tryz.func125,Tryz.ntmps125
    go_wp2_with fail
    refine HC.mono ?_
    rintro e w1 ⟨rfl,hb⟩
    go_wp2_with fail
    refine (must_no _).mono ?_
    rintro e w2 ⟨rfl,rfl⟩
    go_wp2
    refine leaves_cons (f:=166) (args:=#[]) (by simp) (by simp [go_sem]) ?_
    refine (catch96 _).mono ?_
    rintro e u' w'' ⟨rfl,rfl,rfl⟩
    simp [Leaves,settle,results,Tryz.results125,go_sem]
    exact hb
   ·have hne:=ne_nil r (by omega)
    clear hr hB
    go_enter_defers Tryz.func125,Tryz.ntmps125
    go_wp2_with fail
    refine HC.mono ?_
    rintro e w1 ⟨rfl,hb⟩
    go_wp2_with fail
    refine (must_no _).mono ?_
    rintro e w2 ⟨rfl,rfl⟩
    go_wp2
    refine leaves_cons (f:=166) (args:=#[]) (by simp) (by simp [go_sem]) ?_
    refine (catch96 _).mono ?_
    rintro e u' w'' ⟨rfl,rfl,rfl⟩
    simp [Leaves,settle,results,Tryz.results125,go_sem]
    exact hb
 ·have h' : 900 < s.size:=by omega
  clear hr
  go_enter_defers Tryz.func125,Tryz.ntmps125
  go_wp2_with fail
  refine (must_no _).mono ?_
  rintro e w1 ⟨rfl,rfl⟩
  go_wp2
  refine leaves_cons (f:=166) (args:=#[]) (by simp) (by simp [go_sem]) ?_
  refine (catch96 _).mono ?_
  rintro e u' w'' ⟨rfl,rfl,rfl⟩
  simp [Leaves,settle,results,Tryz.results125,go_sem]
  exact Below.refl _ _
set_option maxRecDepth 100000 in
set_option maxHeartbeats 1600000 in
theorem rkI_yes (s r : ByteArray) (kind n : Nat) (k : FuncId) (cap : Array Value) (w : World) (Q : Value → World → Prop) (hs : s.size ≤ 1048576) (hr : rk s kind = some (n,r)) (hen : ∀ args w,(callFunc k args).run Tryz.prog w = .ok (.enter k args) w)
  (ht : ∀ w1,Below w.heap.size w w1 → Calls Tryz.prog k (#[I n,.string r] ++ cap) w1 fun e w2 => ∃ v,e = .returned v ∧ Q v w2) :
  Calls Tryz.prog 125 #[.string s,.int .u8 kind,.func (.func k) #[] cap] w fun e w' => ∃ v,e = .returned (.tuple #[v,.bool true]) ∧ Q v w':=by
 have hmf : ∀ (fn : Fn) (first cap : Array Value) (w : World),(Instr.makeFunc fn first cap).run Tryz.prog w = .ok (.func fn first cap) w:=fun _ _ _ _ => rfl
 have hT : IsT s ∧ at_ s 0 = kind:=by
  by_cases c : IsT s ∧ at_ s 0 = kind
  ·exact c
  ·rw [rk_no c] at hr; simp at hr
 rw [rk_yes hT.1 hT.2] at hr
 obtain ⟨hT,hk⟩:=hT
 have h2:=not_empty hT
 have hat:=at_eq s 0 (by omega)
 obtain ⟨h9,r0,hB,h0⟩:=hT
 have hne:=nil_size r0 h0
 have hk : ((s[0].toNat : Int) == (kind : Int)) = true:=by simp; omega
 have HC:=behindTerm_is s w hs
 simp only [hB,ansB] at HC
 clear hB hat
 go_enter_defers Tryz.func125,Tryz.ntmps125
 go_wp2_with fail
 refine HC.mono ?_
 rintro e w1 ⟨rfl,hb⟩
 go_wp2_with fail
 refine (must_yes _).mono ?_
 rintro e w2 ⟨rfl,rfl⟩
 go_wp2_with fail
 refine (cutHead_yes s r n _ hs hr).mono ?_
 rintro e w2 ⟨rfl,hb2⟩
 go_wp2_with fail
 refine (ht _ (hb.trans (hb2.mono hb.size))).mono ?_
 rintro e w3 ⟨v,rfl,hq⟩
 go_wp2
 refine leaves_cons (f:=166) (args:=#[]) (by simp) (by simp [go_sem]) ?_
 refine (catch96_idle _).mono ?_
 rintro e u' w'' ⟨rfl,rfl,rfl⟩
 simp [Leaves,settle,results,Tryz.results125,go_sem]
 exact hq
end Go.Proofs.YtlmpfkbgknbcnaaGreat

set_option linter.unusedVariables false
namespace Go.Proofs.YtlmpfkbgknbcnaaGreat
open Go.RowKit Own Var
/-- The number that the first k bytes say from place m on. -/
def tailV (s : ByteArray) (k m : Nat) : Nat:=valB ((s.data.toList.take k).drop m)
theorem tailV_end (s : ByteArray) (k : Nat) : tailV s k k = 0:=by
 unfold tailV
 rw [List.drop_of_length_le (List.length_take_le _ _)]; rfl
theorem tailV_step (s : ByteArray) (k m : Nat) (hm : m < k) (hk : k ≤ s.size) : ((tailV s k m : Nat) : Int) = (tailV s k (m + 1) : Int) * 128 + (s[m].toNat : Int) % 128:=by
 have hlen : (s.data.toList.take k).length = k:=by rw [List.length_take]; have : s.data.toList.length = s.size:=rfl; omega
 have hl : m < (s.data.toList.take k).length:=by omega
 unfold tailV
 rw [List.drop_eq_getElem_cons hl,valB]
 have e : (s.data.toList.take k)[m] = s[m]:=by rw [List.getElem_take]; rfl
 rw [e,Int.natCast_add,Int.natCast_mul]
 have e2 : ((s[m].toNat % 128 : Nat) : Int) = (s[m].toNat : Int) % 128:=by omega
 rw [e2]
 omega
theorem tailV_bd (s : ByteArray) (k m : Nat) (hk : k ≤ 7) (hm : 1 ≤ m) : tailV s k m ≤ 4398046511103:=by
 have h1:=valB_lt ((s.data.toList.take k).drop m)
 have h2 : 128 ^ ((s.data.toList.take k).drop m).length ≤ 128 ^ 6:=Nat.pow_le_pow_right (by omega) (by rw [List.length_drop]; have:=List.length_take_le k s.data.toList; omega)
 have e : 128 ^ 6 = 4398046511104:=by decide
 unfold tailV
 omega
theorem tailV_zero (s : ByteArray) (k : Nat) : tailV s k 0 = valB (s.data.toList.take k):=by rw [tailV,List.drop_zero]
theorem tailV_le (s : ByteArray) (k : Nat) (hk : k ≤ 7) : tailV s k 0 ≤ 562949953421311:=by
 rw [tailV_zero]
 exact valB_seven _ (by have:=List.length_take_le k s.data.toList; omega)
theorem same_text (s : ByteArray) (k : Nat) (hk : k < s.size) (h7 : k < 7) : ((varOf (tailV s (k + 1) 0 : Nat)).toList == (s.extract 0 (k + 1)).toList) = true ↔ canonK s k:=by
 rw [canonK_iff s k hk,varOf,if_pos (by have:=tailV_le s (k + 1) (by omega); omega)]
 have e1 : (s.extract 0 (k + 1)).toList = s.data.toList.take (k + 1):=by
  rw [ByteArray.toList_eq]
  simp [ByteArray.data_extract]
 rw [ByteArray.toList_mk,e1,tailV_zero]
 simp
set_option maxRecDepth 100000 in
set_option maxHeartbeats 3200000 in
theorem spec_rv (s : ByteArray) (w : World) (h : s.size ≤ 1048576) :
  Calls Tryz.prog 114 #[.string s] w fun e w' => ∃ n k : Nat,e = .returned (.tuple #[I n,I k]) ∧ Ans s n k ∧ Below w.heap.size w w':=by
 go_enter Tryz.func114,Tryz.ntmps114
 go_wp2
 go_loopw [4,5,6] (fun kk _ _ wr => ∃ k : Nat,k ≤ 7 ∧ k ≤ s.size ∧ kk = I ((k : Int) + 1) ∧ Hid (∀ j,j < k → ¬ canonK s j) ∧ Below w.heap.size w wr) (fun kk _ _ _ => 8 - (intOf kk).toNat)
 case atStart => exact ⟨0,by omega,by omega,rfl,(fun j hj => absurd hj (by omega)),Below.refl _ _⟩
 case round =>
  obtain ⟨k,hk7,hks,rfl,G,hbel⟩:=hrel
  by_cases hlt : k < 7
  ·by_cases hlt2 : k < s.size
   ·have i1 : (0 : Int) ≤ (k : Int) + 1:=by omega
    have i2 : (k : Int) + 1 ≤ (s.size : Int):=by omega
    go_wp2
    go_loop [5,6] (fun n i => ∃ m : Nat,m ≤ k + 1 ∧ i = I ((m : Int) - 1) ∧ n = I (tailV s (k + 1) m : Nat)) (fun _ i => (intOf i + 1).toNat)
    case atStart => exact ⟨k + 1,by omega,by go_num,by rw [tailV_end]; rfl⟩
    case round =>
     obtain ⟨m,hm,rfl,rfl⟩:=hrel
     by_cases hm0 : 0 < m
     ·obtain ⟨p,rfl⟩ : ∃ p,m = p + 1:=⟨m - 1,by omega⟩
      have hps : p < s.size:=by omega
      have hb8:=s[p].toNat_lt
      have hv:=tailV_bd s (k + 1) (p + 1) (by omega) (by omega)
      have TS : Hid (((tailV s (k + 1) p : Nat) : Int) = (tailV s (k + 1) (p + 1) : Int) * 128 + (s[p].toNat : Int) % 128):=tailV_step s (k + 1) p (by omega) (by omega)
      go_wp2
      go_round
      case rel => exact ⟨p,by omega,by go_num,by rw [TS.out]⟩
      case measure => simp [intOf]
     ·obtain rfl : m = 0:=by omega
      have ST:=same_text s k hlt2 hlt
      by_cases hc : canonK s k
      ·have hq:=ST.2 hc
       have A : Hid (Ans s (tailV s (k + 1) 0) (k + 1)):=Or.inr ⟨by omega,by omega,by omega,hc,tailV_zero s (k + 1)⟩
       clear ST
       have hsz:=hbel.size
       go_wp2_with fail
       go_region_held3 (fun _ => True) (trivial)
        ((go_at_call 160; refine (spec_var _ _).mono ?_; rintro e w' ⟨rfl,hb2⟩))
       all_goals
        go_wp2
        go_ret2
        exact ⟨_,k + 1,ret2i rfl (by omega),A.out,hbel.drew.trans (hb2.mono hsz)⟩
      ·have hq : ((varOf (tailV s (k + 1) 0 : Nat)).toList == (s.extract 0 (k + 1)).toList) = false:=by
        have:=mt ST.1 hc
        simpa using this
       have G' : Hid (∀ j,j < k + 1 → ¬ canonK s j):=by
        intro j hj
        by_cases e : j = k
        ·rw [e]; exact hc
        ·exact G.out j (by omega)
       clear ST G
       have hsz:=hbel.size
       go_wp2_with fail
       go_region_held3 (fun _ => True) (trivial)
        ((go_at_call 160; refine (spec_var _ _).mono ?_; rintro e w' ⟨rfl,hb2⟩))
       all_goals
        have R : ∃ k' : Nat,k' ≤ 7 ∧ k' ≤ s.size ∧ Value.int .i64 ((k : Int) + 1 + 1) = I ((k' : Int) + 1) ∧ Hid (∀ j,j < k' → ¬ canonK s j) ∧ Below w.heap.size w w' :=
         ⟨k + 1,by omega,by omega,by go_num,G',hbel.drew.trans (hb2.mono hsz)⟩
        go_wp2
        go_roundw
        case rel => first | exact R | ((repeat apply Exists.intro); exact ⟨R,rfl⟩)
        case measure => simp [intOf]; omega
   ·have A : Hid (Ans s 0 0):=Or.inl ⟨rfl,rfl,fun j _ hj => G.out j (by omega)⟩
    go_wp2
    go_ret2
    exact ⟨0,0,rfl,A.out,hbel⟩
  ·have A : Hid (Ans s 0 0):=Or.inl ⟨rfl,rfl,fun j hj _ => G.out j (by omega)⟩
   go_wp2
   go_ret2
   exact ⟨0,0,rfl,A.out,hbel⟩
end Go.Proofs.YtlmpfkbgknbcnaaGreat
