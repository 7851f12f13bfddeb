/- Plain mathematics: what is put together is taken apart. -/
import Derived.Test.YtcaieniddnhkbaaGreatDoorAb
import Derived.Test.YtcaieniddnhkbaaGreatDoorVarWalks
import Derived.Test.YtcaieniddnhkbaaGreatDoorReadKind
import Derived.Test.YtcaieniddnhkbaaGreatDoorTermSpec
import Derived.Laws.Runes
import Derived.Shelf.LaysM
import Derived.Shelf.Strconv.Clone
import Derived.Test.YtcaieniddnhkbaaGreatDoorProg
set_option linter.unusedVariables false
namespace Go.Proofs.YtcaieniddnhkbaaGreatDoor
open Go.RowKit Own Var Term
theorem data_append (a b:ByteArray):(a ++ b).data.toList=a.data.toList ++ b.data.toList:=by simp [ByteArray.data_append]
theorem size_list (a:ByteArray):a.size=a.data.toList.length:=rfl
theorem valB_varB (n:Nat):Var.valB (varB n)=n:=by
 induction n using Nat.strongRecOn with
 | ind n ih =>
  by_cases h:n < 128
  ·rw [varB_small n h]
   simp only [Var.valB]
   rw [UInt8.toNat_ofNat_of_lt' (by show _ < 256;omega)]
   omega
  ·rw [varB_great n h]
   simp only [Var.valB]
   rw [UInt8.toNat_ofNat_of_lt' (by show _ < 256;omega),ih (n / 128) (by omega)]
   omega
theorem ans_made (n:Nat) (h:n ≤ 562949953421311) (t:ByteArray):Ans (⟨(varB n).toArray⟩ ++ t) n (varB n).length:=by
 have h7:=varB_seven n h
 have h1:=varB_pos n
 have e:(⟨(varB n).toArray⟩ ++ t:ByteArray).data.toList=varB n ++ t.data.toList:=by rw [data_append]
 have hs:(⟨(varB n).toArray⟩ ++ t:ByteArray).size=(varB n).length + t.size:=by rw [size_list,e,List.length_append];rfl
 have et:(⟨(varB n).toArray⟩ ++ t:ByteArray).data.toList.take (varB n).length=varB n:=by rw [e];simp
 refine Or.inr ⟨h1,h7,by omega,?_,?_⟩
 ·rw [Var.canonK_iff _ _ (by omega)]
  have e1:(varB n).length - 1 + 1=(varB n).length:=by omega
  rw [e1,et,valB_varB]
 ·rw [et,valB_varB]
/-- A letter ahead of a number. -/
def hdT (c:UInt8) (n:Int):ByteArray:=⟨#[c]⟩ ++ varOf n
theorem varOf_size (n:Int):(varOf n).size ≤ 7:=by
 unfold varOf
 split
 ·rename_i h;exact varB_seven _ (by omega)
 ·show 0 ≤ 7;omega
theorem hdT_size (c:UInt8) (n:Int):(hdT c n).size=1 + (varOf n).size:=by
 unfold hdT
 rw [ByteArray.size_append]
 rfl
theorem varOf_nat (n:Nat) (h:n ≤ 562949953421311):varOf (n:Int)=⟨(varB n).toArray⟩:=by
 unfold varOf;rw [if_pos (by omega)];rfl
theorem varOf_no (n:Int) (h:¬ (0 ≤ n∧n ≤ 562949953421311)):varOf n=⟨#[]⟩:=by unfold varOf;rw [if_neg h]
theorem suf_one (c:UInt8) (n:Int) (t:ByteArray):suf (hdT c n ++ t) 1=varOf n ++ t:=by
 apply ext_list
 rw [suf_list,data_append,data_append,hdT,data_append]
 rfl
theorem at_one (c:UInt8) (n:Int) (t:ByteArray):at_ (hdT c n ++ t) 0=c.toNat:=by
 unfold at_
 rw [data_append,hdT,data_append]
 rfl
theorem rv_made (n:Nat) (h:n ≤ 562949953421311) (t:ByteArray):rvN (varOf n ++ t)=n∧rvK (varOf n ++ t)=(varOf n).size:=by
 have:=rv_one (ans_made n h t)
 rw [varOf_nat n h]
 exact ⟨this.1.symm,this.2.symm⟩
theorem suf_rest (c:UInt8) (n:Int) (t:ByteArray):suf (hdT c n ++ t) (1 + (varOf n).size)=t:=by
 apply ext_list
 rw [suf_list,data_append,List.drop_append_of_le_length (by rw [← size_list,hdT_size];omega),List.drop_of_length_le (by rw [← size_list,hdT_size];omega)]
 rfl
theorem cut_made (c:UInt8) (n:Nat) (h:n ≤ 562949953421311) (t:ByteArray):cut (hdT c n ++ t)=if hdOk c.toNat n=true then some (n,t) else none:=by
 have hv:1 ≤ (varOf (n:Int)).size:=by rw [varOf_nat n h];exact varB_pos n
 unfold cut
 rw [suf_one,at_one,(rv_made n h t).1,(rv_made n h t).2,suf_rest]
 have hz:1 ≤ (hdT c n ++ t).size:=by rw [ByteArray.size_append,hdT_size];omega
 by_cases hk:hdOk c.toNat n=true
 ·rw [if_pos ⟨hz,hv,hk⟩,if_pos hk]
 ·rw [if_neg (fun x=>hk x.2.2),if_neg hk]
theorem rvK_nil:rvK ⟨#[]⟩=0:=by have:=(rvK_le ⟨#[]⟩).2;exact Nat.le_zero.1 this
theorem app_nil (a:ByteArray):a ++ ⟨#[]⟩=a:=by apply ext_list;rw [data_append];simp
theorem not_isT_of_cut {s:ByteArray} (h:cut s=none):isT s=false:=by unfold isT;rw [bh_none h];simp
/-- A text where it is a term; else empty. -/
def okOr (s:ByteArray):ByteArray:=if isT s=true then s else ⟨#[]⟩
theorem okOr_no {s:ByteArray} (h:isT s=false):okOr s=⟨#[]⟩:=by unfold okOr;rw [h];rfl
theorem okOr_yes {s:ByteArray} (h:isT s=true):okOr s=s:=by unfold okOr;rw [h];rfl
/-! Atoms -/
def atomT (d:ByteArray):ByteArray:=okOr (hdT 97 d.size ++ d)
theorem atomT_big (d:ByteArray) (h:40 < d.size) (h2:d.size ≤ 1048576):atomT d=⟨#[]⟩:=by
 apply okOr_no
 apply not_isT_of_cut
 rw [cut_made 97 d.size (by omega),if_neg]
 simp [hdOk];omega
/-! Keys -/
def keyT (k:Int):ByteArray:=if 1 ≤ k∧k ≤ 1000000 then hdT 107 k else ⟨#[]⟩
theorem keyT_ok (k:Int):okOr (hdT 107 k)=keyT k:=by
 unfold keyT
 by_cases h:1 ≤ k∧k ≤ 1000000
 ·rw [if_pos h]
  obtain ⟨n,rfl⟩:=Int.eq_ofNat_of_zero_le (by omega:0 ≤ k)
  have hc:=cut_made 107 n (by omega) ⟨#[]⟩
  rw [app_nil,if_pos (by simp [hdOk];omega)] at hc
  apply okOr_yes
  have hb:bh 8 (hdT 107 n)=some ⟨#[]⟩:=by
   have ha:=at_one 107 n ⟨#[]⟩
   rw [app_nil] at ha
   have hx:at_ (hdT 107 n) 0=107:=ha
   rw [bh_some hc,if_neg (by omega),if_neg (by omega),if_neg (by omega)]
  unfold isT
  rw [hb]
  have hz:=hdT_size 107 n
  have hv:=varOf_size n
  simp
  exact ⟨by omega,rfl⟩
 ·rw [if_neg h]
  apply okOr_no
  apply not_isT_of_cut
  by_cases h2:0 ≤ k∧k ≤ 562949953421311
  ·obtain ⟨n,rfl⟩:=Int.eq_ofNat_of_zero_le h2.1
   have hc:=cut_made 107 n (by omega) ⟨#[]⟩
   rw [app_nil] at hc
   rw [hc,if_neg]
   simp [hdOk];omega
  ·unfold cut
   have e:suf (hdT 107 k) 1=⟨#[]⟩:=by
    have:=suf_one 107 k ⟨#[]⟩
    rw [app_nil,app_nil,varOf_no k h2] at this
    exact this
   rw [e,rvK_nil,if_neg]
   omega
/-! Sealed terms -/
def sealT (k:Int) (t:ByteArray):ByteArray:=if 1 ≤ k∧k ≤ 1000000 then okOr (hdT 115 k ++ t) else ⟨#[]⟩
theorem sealT_part (k:Int) (t:ByteArray) (ht:isT t=false):sealT k t=⟨#[]⟩:=by
 unfold sealT
 by_cases h:1 ≤ k∧k ≤ 1000000
 ·rw [if_pos h]
  apply okOr_no
  obtain ⟨n,rfl⟩:=Int.eq_ofNat_of_zero_le (by omega:0 ≤ k)
  rw [← Bool.not_eq_true,isT_iff]
  rintro ⟨hz,r,hb,hr⟩
  have hc:=cut_made 115 n (by omega) t
  rw [if_pos (by simp [hdOk];omega)] at hc
  have hx:at_ (hdT 115 n ++ t) 0=115:=at_one 115 n t
  rw [bh_some hc,if_neg (by omega),if_neg (by omega),if_pos hx] at hb
  have:isT t=true:=(isT_iff t).2 ⟨by rw [ByteArray.size_append] at hz;omega,r,bh_mono 7 t r hb,hr⟩
  rw [this] at ht
  cases ht
 ·rw [if_neg h]
/-! Numbers in atoms -/
def numT (n:Int):ByteArray:=if (varOf n).size=0 then ⟨#[]⟩ else atomT (varOf n)
end Go.Proofs.YtcaieniddnhkbaaGreatDoor
set_option linter.unusedVariables false
namespace Go.Proofs.YtcaieniddnhkbaaGreatDoor
open Go.RowKit Own Var Term
theorem isT_no (s:ByteArray) (h:bh 8 s=none):isT s=false:=by
 unfold isT;rw [h];simp
theorem isT_some (s:ByteArray) (n:Nat) (hn:n ≤ s.size) (h:bh 8 s=some (suf s n)):isT s=decide (s.size ≤ 900∧n=s.size):=by
 unfold isT;rw [h]
 simp only [suf_size]
 rw [Bool.eq_iff_iff]
 simp
 omega
set_option maxRecDepth 100000 in
set_option maxHeartbeats 800000 in
theorem spec_ok (s:ByteArray) (w:World) (hs:s.size ≤ 1048576) :
  Calls Tryz.prog 38 #[.string s] w fun e w'=>e=.returned (.bool (isT s))∧Below w.heap.size w w':=by
 have HT:=term_is s hs 8 0 8 w rfl (by omega) (by omega)
 rw [suf_zero] at HT
 go_enter Tryz.func38,Tryz.ntmps38
 go_wp2_with fail
 refine HT.mono ?_
 rintro e w1 ⟨n,d,rfl,hTA,hb⟩
 rcases hTA with ⟨hn,rfl,rfl⟩ | ⟨hm1,hm2,hso,hd⟩
 ·go_wp2
  go_ret
  exact ⟨by rw [isT_no s hn];rfl,hb⟩
 ·rw [Nat.zero_add] at hso
  have hI:=isT_some s n (by omega) hso
  by_cases h1:n=s.size
  ·have h1':((n:Int) == (s.size:Int))=true:=by simp;omega
   go_wp2
   go_ret
   have e:decide ((s.size:Int) ≤ 900)=isT s:=by rw [hI,decide_eq_decide];omega
   rw [← e]
   exact ⟨rfl,hb⟩
  ·have h1':((n:Int) == (s.size:Int))=false:=by simp;omega
   go_wp2
   go_ret
   refine ⟨?_,hb⟩
   rw [hI]
   simp
   omega
theorem tell75 (n:Nat) (r:ByteArray) (w:World):Calls Tryz.prog 162 #[I n,.string r] w fun e w'=>e=.returned (I n)∧w=w':=by
 go_enter Tryz.func162,Tryz.ntmps162
 go_wp2
 go_ret
 exact ⟨rfl,rfl⟩
theorem enters75 (args:Array Value) (w:World):(callFunc 162 args).run Tryz.prog w=.ok (.enter 162 args) w:=by
 simp [callFunc,Tryz.func162,mark,Tryz.f162]
set_option maxRecDepth 100000 in
set_option maxHeartbeats 800000 in
theorem impl_ok (s:ByteArray) (w:World) (hs:s.size ≤ 2097152) :
  Calls Tryz.prog 130 #[.string s] w fun e w'=>e=.returned (.bool (isT s))∧Below w.heap.size w w':=by
 have hmf:∀ (fn:Fn) (first cap:Array Value) (w:World),(Instr.makeFunc fn first cap).run Tryz.prog w=.ok (.func fn first cap) w:=fun _ _ _ _=>rfl
 by_cases h0:1 ≤ s.size
 ·have hne:=ne_nil s h0
  have hat:=at_eq s 0 (by omega)
  by_cases hT:isT s=true
  ·obtain ⟨n,r,hc⟩:=((isT_iff s).1 hT).cut
   have hr:rk s s[0].toNat=some (n,r):=by rw [rk_yes ((isT_iff s).1 hT) hat.symm,hc]
   have HC:=rkI_yes s r s[0].toNat n 162 #[] w (fun v w'=>Below w.heap.size w w') (by have:=((isT_iff s).1 hT).1;omega) hr enters75 (fun w1 hb=>(tell75 n r w1).mono (by rintro e w2 ⟨rfl,rfl⟩;exact ⟨_,rfl,hb⟩))
   rw [hT]
   clear hr hc hat hT
   go_enter Tryz.func130,Tryz.ntmps130
   go_wp2_with fail
   refine HC.mono ?_
   rintro e w1 ⟨v,rfl,hb⟩
   go_wp2
   go_ret
   exact ⟨rfl,hb⟩
  ·have hr:rk s s[0].toNat=none:=rk_no (fun c=>hT ((isT_iff s).2 c.1))
   have HC:=rkI_no s s[0].toNat (.func (.func 162) #[] #[]) w hs hr
   rw [Bool.not_eq_true] at hT
   rw [hT]
   clear hr hat hT
   go_enter Tryz.func130,Tryz.ntmps130
   go_wp2_with fail
   refine HC.mono ?_
   rintro e w1 ⟨rfl,hb⟩
   go_wp2
   go_ret
   exact ⟨rfl,hb⟩
 ·have hne:=nil_size s (by omega)
  have hT:isT s=false:=by
   rw [← Bool.not_eq_true,isT_iff]
   intro h
   have:=not_empty h
   omega
  rw [hT]
  clear hT
  go_enter Tryz.func130,Tryz.ntmps130
  go_wp2
  go_ret
  exact ⟨rfl,Below.refl _ _⟩
theorem spec_or (s:ByteArray) (w:World) (hs:s.size ≤ 1048576) :
  Calls Tryz.prog 124 #[.string s] w fun e w'=>e=.returned (.string (okOr s))∧Below w.heap.size w w':=by
 have HC:=spec_ok s w hs
 unfold okOr
 rcases Bool.eq_false_or_eq_true (isT s) with h | h
 ·rw [h] at HC ⊢
  go_enter Tryz.func124,Tryz.ntmps124
  go_wp2_with (go_at_call 38;refine HC.mono ?_;rintro e w1 ⟨rfl,hb⟩)
  go_ret
  exact ⟨rfl,hb⟩
 ·rw [h] at HC ⊢
  go_enter Tryz.func124,Tryz.ntmps124
  go_wp2_with (go_at_call 38;refine HC.mono ?_;rintro e w1 ⟨rfl,hb⟩)
  go_ret
  exact ⟨rfl,hb⟩
theorem impl_or (s:ByteArray) (w:World) (hs:s.size ≤ 2097152) :
  Calls Tryz.prog 131 #[.string s] w fun e w'=>e=.returned (.string (okOr s))∧Below w.heap.size w w':=by
 have HC:=impl_ok s w hs
 unfold okOr
 rcases Bool.eq_false_or_eq_true (isT s) with h | h
 ·rw [h] at HC ⊢
  go_enter Tryz.func131,Tryz.ntmps131
  go_wp2_with (go_at_call 130;refine HC.mono ?_;rintro e w1 ⟨rfl,hb⟩)
  go_ret
  exact ⟨rfl,hb⟩
 ·rw [h] at HC ⊢
  go_enter Tryz.func131,Tryz.ntmps131
  go_wp2_with (go_at_call 130;refine HC.mono ?_;rintro e w1 ⟨rfl,hb⟩)
  go_ret
  exact ⟨rfl,hb⟩
end Go.Proofs.YtcaieniddnhkbaaGreatDoor
namespace Go.Proofs
open Go.Shelf
def Tryz.laysM316_ren:Go.Shelf.Ren:=⟨fun | 316=>178 | n=>n,fun | 9=>9 | 3=>3 | 4=>4 | 37=>22 | 0=>0 | 127=>236 | 5=>5 | n=>n,fun | n=>n⟩
theorem Tryz.laysM316:Go.Proofs.LaysM.n316 Tryz.prog Tryz.laysM316_ren:={
 mixed:=by kernel_rfl
 f316:=Tryz.func178.trans (congrArg some (by kernel_rfl))
 t0:=Tryz.underlying0
 a0:=Tryz.isAgg0
 z0:=Tryz.sizeOf0
 v0:=Tryz.zeroValue0
 t3:=Tryz.underlying3
 a3:=Tryz.isAgg3
 z3:=Tryz.sizeOf3
 v3:=Tryz.zeroValue3
 t4:=Tryz.underlying4
 a4:=Tryz.isAgg4
 z4:=Tryz.sizeOf4
 v4:=Tryz.zeroValue4
 t9:=Tryz.underlying9
 a9:=Tryz.isAgg9
 z9:=Tryz.sizeOf9
 v9:=Tryz.zeroValue9
 t37:=Tryz.underlying22
 a37:=Tryz.isAgg22
 z37:=Tryz.sizeOf22
 v37:=Tryz.zeroValue22
 t127:=Tryz.underlying236
 a127:=Tryz.isAgg236
 z127:=Tryz.sizeOf236
 v127:=Tryz.zeroValue236
 t5:=Tryz.underlying5
 a5:=Tryz.isAgg5
 z5:=Tryz.sizeOf5
 v5:=Tryz.zeroValue5
 i0:=by kernel_rfl
 i3:=by kernel_rfl
 i4:=by kernel_rfl
 i5:=by kernel_rfl
 i9:=by kernel_rfl
 i37:=by kernel_rfl
 i127:=by kernel_rfl }
open Go.RowKit in
theorem Tryz.stringslite_Clone (s:ByteArray) (w:World) (hlim:s.size ≤ 281474976710656) :
  Calls Tryz.prog 178 #[.string s] w fun e w'=>e=.returned (.string s)∧Below w.heap.size w w':=Any.stringslite_Clone Tryz.laysM316 s w hlim
end Go.Proofs
set_option linter.unusedVariables false
namespace Go.Proofs.YtcaieniddnhkbaaGreatDoor
open Go.RowKit Own Var Term
theorem clone_is (s:ByteArray) (w:World) (h:s.size ≤ 1048576):Calls Tryz.prog 144 #[.string s] w fun e w'=>e=.returned (.string s)∧Below w.heap.size w w':=by
 go_enter Tryz.func144,Tryz.ntmps144
 go_wp2_with (go_at_call 178;refine (Tryz.stringslite_Clone s _ (by omega)).mono ?_;rintro e w1 ⟨rfl,hb⟩)
 go_ret
 exact ⟨rfl,hb⟩
theorem enc97:Utf8.encode 97=⟨#[97]⟩:=by decide
theorem enc107:Utf8.encode 107=⟨#[107]⟩:=by decide
theorem enc108:Utf8.encode 108=⟨#[108]⟩:=by decide
theorem enc115:Utf8.encode 115=⟨#[115]⟩:=by decide
theorem small {a b:Nat} (ha:a ≤ 4194304) (hb:b ≤ 4194304):¬ 9223372036854775807 < a + b:=by omega
theorem head_is (c:Int) (b:UInt8) (hc:Utf8.encode c=⟨#[b]⟩) (n:Int) (w:World) :
  Calls Tryz.prog 132 #[.int .i32 c,I n] w fun e w'=>e=.returned (.string (hdT b n))∧Below w.heap.size w w':=by
 have hcv:∀ w:World,(convert 21 9 (.int .i32 c)).run Tryz.prog w=.ok (.string ⟨#[b]⟩) w:=fun w=>by rw [run_convert_int_string w 21 9 .i32 c (by rw [Tryz.underlying21];rfl) Tryz.underlying9,hc]
 have hv:=varOf_size n
 have h1:¬ 9223372036854775807 < 1 + (varOf n).size:=by omega
 go_enter Tryz.func132,Tryz.ntmps132
 go_wp2_with fail
 refine (impl_var n _).mono ?_
 rintro e w1 ⟨rfl,hb⟩
 go_wp2
 go_ret
 exact ⟨rfl,hb⟩
/-! Atoms -/
set_option maxRecDepth 100000 in
theorem impl_atom (d:ByteArray) (w:World) (h:d.size ≤ 1048576):Calls Tryz.prog 118 #[.string d] w fun e w'=>e=.returned (.string (atomT d))∧Below w.heap.size w w':=by
 have hz:=hdT_size 97 d.size
 have hv:=varOf_size d.size
 have h1:¬ 9223372036854775807 < (hdT 97 d.size).size + d.size:=by omega
 go_enter Tryz.func118,Tryz.ntmps118
 go_wp2_with fail
 refine (head_is 97 97 enc97 _ _).mono ?_
 rintro e w1 ⟨rfl,hb⟩
 go_wp2_with fail
 refine (impl_or (hdT 97 d.size ++ d) _ (by rw [ByteArray.size_append];omega)).mono ?_
 rintro e w2 ⟨rfl,hb2⟩
 go_wp2
 go_ret
 exact ⟨rfl,hb.trans (hb2.mono hb.size)⟩
set_option maxRecDepth 100000 in
theorem spec_atom (d:ByteArray) (w:World) (h:d.size ≤ 1048576):Calls Tryz.prog 79 #[.string d] w fun e w'=>e=.returned (.string (atomT d))∧Below w.heap.size w w':=by
 by_cases hd:40 < d.size
 ·rw [atomT_big d hd h]
  have hd':(40:Int) < (d.size:Int):=by omega
  go_enter Tryz.func79,Tryz.ntmps79
  go_wp2
  go_ret
  exact ⟨rfl,Below.refl _ _⟩
 ·have hz:=hdT_size 97 d.size
  have hv:=varOf_size d.size
  have h1:¬ 9223372036854775807 < 1 + (varOf d.size).size:=by omega
  have h2:¬ 9223372036854775807 < 1 + (varOf d.size).size + d.size:=by omega
  have hd':(d.size:Int) ≤ 40:=by omega
  go_enter Tryz.func79,Tryz.ntmps79
  go_wp2_with fail
  refine (spec_var _ _).mono ?_
  rintro e w1 ⟨rfl,hb⟩
  go_wp2_with fail
  refine (spec_or (hdT 97 d.size ++ d) _ (by rw [ByteArray.size_append];omega)).mono ?_
  rintro e w2 ⟨rfl,hb2⟩
  go_wp2
  go_ret
  exact ⟨rfl,hb.trans (hb2.mono hb.size)⟩
/-! Keys -/
set_option maxRecDepth 100000 in
theorem impl_key (k:Int) (w:World):Calls Tryz.prog 169 #[I k] w fun e w'=>e=.returned (.string (keyT k))∧Below w.heap.size w w':=by
 have hz:=hdT_size 107 k
 have hv:=varOf_size k
 rw [← keyT_ok]
 go_enter Tryz.func169,Tryz.ntmps169
 go_wp2_with fail
 refine (head_is 107 107 enc107 _ _).mono ?_
 rintro e w1 ⟨rfl,hb⟩
 go_wp2_with fail
 refine (impl_or (hdT 107 k) _ (by omega)).mono ?_
 rintro e w2 ⟨rfl,hb2⟩
 go_wp2
 go_ret
 exact ⟨rfl,hb.trans (hb2.mono hb.size)⟩
set_option maxRecDepth 100000 in
theorem spec_key (k:Int) (w:World):Calls Tryz.prog 90 #[I k] w fun e w'=>e=.returned (.string (keyT k))∧Below w.heap.size w w':=by
 have hv:=varOf_size k
 have h1:¬ 9223372036854775807 < 1 + (varOf k).size:=by omega
 have hI:=fun w=>in_is k 1 1000000 w
 unfold keyT
 by_cases h:1 ≤ k∧k ≤ 1000000
 ·rw [if_pos h]
  have e:(decide ((1:Int) ≤ k) && decide (k ≤ 1000000))=true:=by simp;omega
  rw [e] at hI
  go_enter Tryz.func90,Tryz.ntmps90
  go_wp2_with fail
  refine (hI _).mono ?_
  rintro e w1 ⟨rfl,rfl⟩
  go_wp2_with fail
  refine (spec_var _ _).mono ?_
  rintro e w1 ⟨rfl,hb⟩
  go_wp2
  go_ret
  exact ⟨rfl,hb⟩
 ·rw [if_neg h]
  have e:(decide ((1:Int) ≤ k) && decide (k ≤ 1000000))=false:=by rw [Bool.eq_false_iff];simp;omega
  rw [e] at hI
  go_enter Tryz.func90,Tryz.ntmps90
  go_wp2_with fail
  refine (hI _).mono ?_
  rintro e w1 ⟨rfl,rfl⟩
  go_wp2
  go_ret
  exact ⟨rfl,Below.refl _ _⟩
/-! Sealed terms -/
set_option maxRecDepth 100000 in
theorem impl_seal (k:Int) (t:ByteArray) (w:World) (h:t.size ≤ 1048576):Calls Tryz.prog 194 #[I k,.string t] w fun e w'=>e=.returned (.string (sealT k t))∧Below w.heap.size w w':=by
 have hz:=hdT_size 115 k
 have hv:=varOf_size k
 have h1:¬ 9223372036854775807 < (hdT 115 k).size + t.size:=by omega
 have hI:=fun w=>keyOk_is k w
 unfold sealT
 by_cases hk:1 ≤ k∧k ≤ 1000000
 ·rw [if_pos hk]
  have e:(decide ((1:Int) ≤ k) && decide (k ≤ 1000000))=true:=by simp;omega
  rw [e] at hI
  go_enter Tryz.func194,Tryz.ntmps194
  go_wp2_with fail
  refine (hI _).mono ?_
  rintro e w1 ⟨rfl,rfl⟩
  go_wp2_with fail
  refine (head_is 115 115 enc115 _ _).mono ?_
  rintro e w1 ⟨rfl,hb⟩
  go_wp2_with fail
  refine (impl_or (hdT 115 k ++ t) _ (by rw [ByteArray.size_append];omega)).mono ?_
  rintro e w2 ⟨rfl,hb2⟩
  go_wp2
  go_ret
  exact ⟨rfl,hb.trans (hb2.mono hb.size)⟩
 ·rw [if_neg hk]
  have e:(decide ((1:Int) ≤ k) && decide (k ≤ 1000000))=false:=by rw [Bool.eq_false_iff];simp;omega
  rw [e] at hI
  go_enter Tryz.func194,Tryz.ntmps194
  go_wp2_with fail
  refine (hI _).mono ?_
  rintro e w1 ⟨rfl,rfl⟩
  go_wp2
  go_ret
  exact ⟨rfl,Below.refl _ _⟩
set_option maxRecDepth 100000 in
theorem spec_seal (k:Int) (t:ByteArray) (w:World) (h:t.size ≤ 1048576):Calls Tryz.prog 89 #[I k,.string t] w fun e w'=>e=.returned (.string (sealT k t))∧Below w.heap.size w w':=by
 have hz:=hdT_size 115 k
 have hv:=varOf_size k
 have h1:¬ 9223372036854775807 < 1 + (varOf k).size:=by omega
 have h2:¬ 9223372036854775807 < 1 + (varOf k).size + t.size:=by omega
 have hI:=fun w=>in_is k 1 1000000 w
 have hO:=fun w=>spec_ok t w h
 by_cases hk:1 ≤ k∧k ≤ 1000000
 ·have e:(decide ((1:Int) ≤ k) && decide (k ≤ 1000000))=true:=by simp;omega
  rw [e] at hI
  rcases Bool.eq_false_or_eq_true (isT t) with hT | hT
  ·rw [hT] at hO
   have h9:=((isT_iff t).1 hT).1
   unfold sealT
   rw [if_pos hk]
   go_enter Tryz.func89,Tryz.ntmps89
   go_wp2_with fail
   refine (hI _).mono ?_
   rintro e w1 ⟨rfl,rfl⟩
   go_wp2_with fail
   refine (hO _).mono ?_
   rintro e w1 ⟨rfl,hb0⟩
   go_wp2_with fail
   refine (spec_var _ _).mono ?_
   rintro e w2 ⟨rfl,hb1⟩
   go_wp2_with fail
   refine (spec_or (hdT 115 k ++ t) _ (by rw [ByteArray.size_append];omega)).mono ?_
   rintro e w3 ⟨rfl,hb2⟩
   go_wp2
   go_ret
   have hb:=hb0.trans (hb1.mono hb0.size)
   exact ⟨rfl,hb.trans (hb2.mono hb.size)⟩
  ·rw [hT] at hO
   rw [sealT_part k t hT]
   go_enter Tryz.func89,Tryz.ntmps89
   go_wp2_with fail
   refine (hI _).mono ?_
   rintro e w1 ⟨rfl,rfl⟩
   go_wp2_with fail
   refine (hO _).mono ?_
   rintro e w1 ⟨rfl,hb0⟩
   go_wp2
   go_ret
   exact ⟨rfl,hb0⟩
 ·unfold sealT
  rw [if_neg hk]
  have e:(decide ((1:Int) ≤ k) && decide (k ≤ 1000000))=false:=by rw [Bool.eq_false_iff];simp;omega
  rw [e] at hI
  go_enter Tryz.func89,Tryz.ntmps89
  go_wp2_with fail
  refine (hI _).mono ?_
  rintro e w1 ⟨rfl,rfl⟩
  go_wp2
  go_ret
  exact ⟨rfl,Below.refl _ _⟩
/-! Num -/
set_option maxRecDepth 100000 in
theorem impl_num (n:Int) (w:World):Calls Tryz.prog 134 #[I n] w fun e w'=>e=.returned (.string (numT n))∧Below w.heap.size w w':=by
 have hv:=varOf_size n
 unfold numT
 by_cases h0:(varOf n).size=0
 ·rw [if_pos h0]
  have hne:=nil_size _ h0
  go_enter Tryz.func134,Tryz.ntmps134
  go_wp2_with fail
  refine (impl_var n _).mono ?_
  rintro e w1 ⟨rfl,hb⟩
  go_wp2
  go_ret
  exact ⟨rfl,hb⟩
 ·rw [if_neg h0]
  have hne:=ne_nil (varOf n) (by omega)
  go_enter Tryz.func134,Tryz.ntmps134
  go_wp2_with fail
  refine (impl_var n _).mono ?_
  rintro e w1 ⟨rfl,hb⟩
  go_wp2_with fail
  refine (impl_atom (varOf n) _ (by omega)).mono ?_
  rintro e w2 ⟨rfl,hb2⟩
  go_wp2
  go_ret
  exact ⟨rfl,hb.trans (hb2.mono hb.size)⟩
set_option maxRecDepth 100000 in
theorem spec_num (n:Int) (w:World):Calls Tryz.prog 126 #[I n] w fun e w'=>e=.returned (.string (numT n))∧Below w.heap.size w w':=by
 have hv:=varOf_size n
 unfold numT
 by_cases h0:(varOf n).size=0
 ·rw [if_pos h0]
  have hne:=nil_size _ h0
  go_enter Tryz.func126,Tryz.ntmps126
  go_wp2_with fail
  refine (spec_var n _).mono ?_
  rintro e w1 ⟨rfl,hb⟩
  go_wp2
  go_ret
  exact ⟨rfl,hb⟩
 ·rw [if_neg h0]
  have hne:=ne_nil (varOf n) (by omega)
  go_enter Tryz.func126,Tryz.ntmps126
  go_wp2_with fail
  refine (spec_var n _).mono ?_
  rintro e w1 ⟨rfl,hb⟩
  go_wp2_with fail
  refine (spec_atom (varOf n) _ (by omega)).mono ?_
  rintro e w2 ⟨rfl,hb2⟩
  go_wp2
  go_ret
  exact ⟨rfl,hb.trans (hb2.mono hb.size)⟩
end Go.Proofs.YtcaieniddnhkbaaGreatDoor
