/- Chapter 8: what is asked of a centre, the model's. -/
import Derived.Test.YtcaieniddnhkbaaGreatDoorAb
import Derived.Test.YtcaieniddnhkbaaGreatDoorSp8g
import Derived.Test.YtcaieniddnhkbaaGreatDoorSp8f
import Derived.Test.YtcaieniddnhkbaaGreatDoorIm8j
set_option linter.unusedVariables false
set_option maxRecDepth 100000
namespace Go.Proofs.YtcaieniddnhkbaaGreatDoor
open Go Go.RowKit Own Var Term
structure S4 (b off:Nat) (tk au rs ev:ByteArray) (w:World):Prop where
 lt:b < w.heap.size
 c0:w.cell? ⟨b,off,none⟩=some (.string tk)
 c1:w.cell? ⟨b,off+1,none⟩=some (.string au)
 c2:w.cell? ⟨b,off+2,none⟩=some (.string rs)
 c3:w.cell? ⟨b,off+3,none⟩=some (.string ev)
theorem S4.later {b off:Nat} {tk au rs ev:ByteArray} {w w':World} (h:S4 b off tk au rs ev w) (hb:Below w.heap.size w w'):S4 b off tk au rs ev w' :=
 ⟨Nat.lt_of_lt_of_le h.lt hb.size,(hb.cell (p:=⟨b,off,none⟩) h.lt).trans h.c0,(hb.cell (p:=⟨b,off+1,none⟩) h.lt).trans h.c1,(hb.cell (p:=⟨b,off+2,none⟩) h.lt).trans h.c2,(hb.cell (p:=⟨b,off+3,none⟩) h.lt).trans h.c3⟩
theorem S4.of {la:Option Addr} {tk au rs ev:ByteArray} {w:World} (h:RowAt Value.string w la [tk,au,rs,ev]):∃ b off,la=some ⟨b,off,none⟩∧S4 b off tk au rs ev w:=by
 obtain ⟨b,off,e,hlt,h0⟩:=h 0 (by simp)
 obtain ⟨b1,o1,e1,_,h1⟩:=h 1 (by simp)
 obtain ⟨b2,o2,e2,_,h2⟩:=h 2 (by simp)
 obtain ⟨b3,o3,e3,_,h3⟩:=h 3 (by simp)
 rw [e] at e1 e2 e3
 cases e1
 cases e2
 cases e3
 exact ⟨b,off,e,hlt,by simpa using h0,by simpa using h1,by simpa using h2,by simpa using h3⟩
def P13 (PH:List Int) (w5:World) (F:Value→Value→Value→Value→Value→Option Addr→Nat→Act) (ex:Exit) (a':Act) (w':World):Prop:=∃ (u100 u101 u102 u103 u104:Value) (pa:Option Addr) (pc:Nat),ex=.normal∧a'=F u100 u101 u102 u103 u104 pa pc∧Below w5.heap.size w5 w'∧RowAt (Value.int .i64) w' pa PH
theorem shF_range (c:Cf) (realm:Int) (s:ByteArray):shF c realm s=-1 ∨ (0≤shF c realm s∧shF c realm s≤2):=by
 unfold shF
 repeat' split
 all_goals omega
theorem ask_gen (c:Cf) (realm now fresh target nonce:Int) (tk au rs ev:ByteArray) (K:CfOk c) (hr:0≤realm∧realm≤2) (htk:tk.size≤1048576):∃ (x0 x1 x2 x3 x4 x5:Int) (P V PH:List Int) (f:Int) (sb:Bool),
  (∀ w,CfAt c w→Calls Tryz.prog 76 #[c.val,I realm,.string tk] w fun en w'=>∃ (ua:Option Addr) (uc:Nat) (va:Option Addr) (vc:Nat),en=.returned (.tuple #[.agg #[I x0,I x1,I x2,I x3,I x4,I x5,.slice ua P.length uc,.slice va V.length vc],I f,.bool sb])∧RF w.heap.size w' ua P∧RF w.heap.size w' va V∧Below w.heap.size w w') ∧
  (f=-1 ∨ (0≤f∧f≤2))∧P.length≤12∧V.length≤12∧(sb=true→0≤x0∧x0≤5)∧PH=P++(if f=-1 then [] else [f]) ∧
  askG c realm now fresh target nonce tk au rs ev=(if btw target 0 2=true∧rdK (numsR rs).1=true∧sb=true then
   (if ckC c.k now x0 x2 x5 PH.length au=0 then
    (if ev=atomT ⟨#[]⟩ then hoG c realm fresh target nonce x0 x2 x3 x4 x5 (rdA (numsR rs).1) (rdB (numsR rs).1) (rdC (numsR rs).1) PH V
     else dgG c realm now fresh target nonce x0 x2 (rdA (numsR rs).1) (rdB (numsR rs).1) (rdC (numsR rs).1) ev)
    else .error (ckC c.k now x0 x2 x5 PH.length au))
  else .error 1) :=
 ⟨rtN tk (shK c realm tk) 0,rtN tk (shK c realm tk) 1,rtN tk (shK c realm tk) 2,rtN tk (shK c realm tk) 3,rtN tk (shK c realm tk) 4,rtN tk (shK c realm tk) 5,rtP tk (shK c realm tk),rtV tk (shK c realm tk),shP c realm tk,shF c realm tk,shB c realm tk,
  fun w C=>specShown_is c realm tk w C K hr htk,shF_range c realm tk,rtP_len _ _,rtV_len _ _,fun h=>rt_client tk _ (by unfold shB at h;exact h),rfl,rfl⟩
theorem ck_2 {k now cl key e:Int} {n:Nat} {au:ByteArray} (h:¬ (raK au key=true∧raV au key 1=cl)):ckC k now cl key e n au=2:=if_neg h
theorem ck_3 {k now cl key e:Int} {n:Nat} {au:ByteArray} (h:raK au key=true∧raV au key 1=cl) (h3:k < apV now (raV au key 2)):ckC k now cl key e n au=3:=by unfold ckC;rw [if_pos h,if_pos h3]
theorem ck_4 {k now cl key e:Int} {n:Nat} {au:ByteArray} (h:raK au key=true∧raV au key 1=cl) (h3:¬ k < apV now (raV au key 2)) (h4:e < now):ckC k now cl key e n au=4:=by unfold ckC;rw [if_pos h,if_neg h3,if_pos h4]
theorem ck_5 {k now cl key e:Int} {n:Nat} {au:ByteArray} (h:raK au key=true∧raV au key 1=cl) (h3:¬ k < apV now (raV au key 2)) (h4:¬ e < now) (h5:6 < n):ckC k now cl key e n au=5:=by unfold ckC;rw [if_pos h,if_neg h3,if_neg h4,if_pos h5]
theorem ck_0 {k now cl key e:Int} {n:Nat} {au:ByteArray} (h:raK au key=true∧raV au key 1=cl) (h3:¬ k < apV now (raV au key 2)) (h4:¬ e < now) (h5:¬ 6 < n):ckC k now cl key e n au=0:=by unfold ckC;rw [if_pos h,if_neg h3,if_neg h4,if_neg h5]
theorem info_auth:∃ ie,Tryz.prog.info? 116=some ie∧ie.size=3:=by
 cases h:Tryz.prog.info? 116 with
 | none=>exact absurd h (by have:(Tryz.prog.info? 116).isSome=true:=(by kernel_rfl);rw [Option.isSome_iff_ne_none] at this;exact this)
 | some ie =>
  refine ⟨ie,rfl,?_⟩
  have:(Tryz.prog.info? 116).map (·.size)=some 3:=by kernel_rfl
  rw [h] at this
  exact Option.some.inj this
set_option maxHeartbeats 6400000 in
theorem specEvid_user (c:Cf) (realm now fresh nonce key target x0:Int) (hx:0≤x0∧x0 < 3) (x1 x2 x3 x4 x5:Int) (pa:Option Addr) (pl pc:Nat) (va:Option Addr) (vl vc:Nat) (wa wb we:Int) (ev:ByteArray) (n0 n1 n2 n3 n4 n5:Int) (na:Option Addr) (nl nc:Nat) (ma:Option Addr) (ml mc:Nat) (w:World) (C:CfAt c w) (K:CfOk c) (hcf:confB c=true) (hev:ev.size≤1048576) :
  Calls Tryz.prog 80 #[c.val,I realm,I now,.agg #[I x0,I x1,I x2,I x3,I x4,I x5,.slice pa pl pc,.slice va vl vc],I target,.agg #[I wa,I wb,I we],.string ev,.agg #[I n0,I n1,I n2,I n3,I n4,I n5,.slice na nl nc,.slice ma ml mc]] w fun en w'=>EvRes (dgG c realm now fresh target nonce x0 key wa wb we ev) n0 n1 n2 n3 n4 n5 na nl nc ma ml mc w en w'∧Below w.heap.size w w':=by
 obtain ⟨it,hit,htz⟩:=info_tick
 have BC:Below w.heap.size w (((((w.alloc (.cells #[.slice c.ua c.U.length c.uc,.slice c.sa c.S.length c.sc,.slice c.la c.L.length c.lc,.slice c.xa c.X.length c.xc,I c.k] 27)).alloc (.cells #[I x0,I x1,I x2,I x3,I x4,I x5,.slice pa pl pc,.slice va vl vc] 43)).alloc (.cells #[I wa,I wb,I we] 31)).alloc (.cells #[I n0,I n1,I n2,I n3,I n4,I n5,.slice na nl nc,.slice ma ml mc] 43)).alloc (.cells #[I 0,I 0,I 0,I 0,I 0,I 0,.slice none 0 0,.slice none 0 0] 43)):=(((((Below.refl _ _).alloc (by simp <;> omega) _).alloc (by simp <;> omega) _).alloc (by simp <;> omega) _).alloc (by simp <;> omega) _).alloc (by simp <;> omega) _
 have TC:Blk w.heap.size [.slice c.ua c.U.length c.uc,.slice c.sa c.S.length c.sc,.slice c.la c.L.length c.lc,.slice c.xa c.X.length c.xc,I c.k] (((((w.alloc (.cells #[.slice c.ua c.U.length c.uc,.slice c.sa c.S.length c.sc,.slice c.la c.L.length c.lc,.slice c.xa c.X.length c.xc,I c.k] 27)).alloc (.cells #[I x0,I x1,I x2,I x3,I x4,I x5,.slice pa pl pc,.slice va vl vc] 43)).alloc (.cells #[I wa,I wb,I we] 31)).alloc (.cells #[I n0,I n1,I n2,I n3,I n4,I n5,.slice na nl nc,.slice ma ml mc] 43)).alloc (.cells #[I 0,I 0,I 0,I 0,I 0,I 0,.slice none 0 0,.slice none 0 0] 43)):=by have h_:=(((((Blk.new w #[.slice c.ua c.U.length c.uc,.slice c.sa c.S.length c.sc,.slice c.la c.L.length c.lc,.slice c.xa c.X.length c.xc,I c.k] 27).alloc (by simp <;> omega) (.cells #[I x0,I x1,I x2,I x3,I x4,I x5,.slice pa pl pc,.slice va vl vc] 43)).alloc (by simp <;> omega) (.cells #[I wa,I wb,I we] 31)).alloc (by simp <;> omega) (.cells #[I n0,I n1,I n2,I n3,I n4,I n5,.slice na nl nc,.slice ma ml mc] 43)).alloc (by simp <;> omega) (.cells #[I 0,I 0,I 0,I 0,I 0,I 0,.slice none 0 0,.slice none 0 0] 43));simpa using h_
 have KC:Blk (w.heap.size+1) [I x0,I x1,I x2,I x3,I x4,I x5,.slice pa pl pc,.slice va vl vc] (((((w.alloc (.cells #[.slice c.ua c.U.length c.uc,.slice c.sa c.S.length c.sc,.slice c.la c.L.length c.lc,.slice c.xa c.X.length c.xc,I c.k] 27)).alloc (.cells #[I x0,I x1,I x2,I x3,I x4,I x5,.slice pa pl pc,.slice va vl vc] 43)).alloc (.cells #[I wa,I wb,I we] 31)).alloc (.cells #[I n0,I n1,I n2,I n3,I n4,I n5,.slice na nl nc,.slice ma ml mc] 43)).alloc (.cells #[I 0,I 0,I 0,I 0,I 0,I 0,.slice none 0 0,.slice none 0 0] 43)):=by have h_:=((((Blk.new (w.alloc (.cells #[.slice c.ua c.U.length c.uc,.slice c.sa c.S.length c.sc,.slice c.la c.L.length c.lc,.slice c.xa c.X.length c.xc,I c.k] 27)) #[I x0,I x1,I x2,I x3,I x4,I x5,.slice pa pl pc,.slice va vl vc] 43).alloc (by simp <;> omega) (.cells #[I wa,I wb,I we] 31)).alloc (by simp <;> omega) (.cells #[I n0,I n1,I n2,I n3,I n4,I n5,.slice na nl nc,.slice ma ml mc] 43)).alloc (by simp <;> omega) (.cells #[I 0,I 0,I 0,I 0,I 0,I 0,.slice none 0 0,.slice none 0 0] 43));simpa using h_
 have RC:Blk (w.heap.size+1+1) [I wa,I wb,I we] (((((w.alloc (.cells #[.slice c.ua c.U.length c.uc,.slice c.sa c.S.length c.sc,.slice c.la c.L.length c.lc,.slice c.xa c.X.length c.xc,I c.k] 27)).alloc (.cells #[I x0,I x1,I x2,I x3,I x4,I x5,.slice pa pl pc,.slice va vl vc] 43)).alloc (.cells #[I wa,I wb,I we] 31)).alloc (.cells #[I n0,I n1,I n2,I n3,I n4,I n5,.slice na nl nc,.slice ma ml mc] 43)).alloc (.cells #[I 0,I 0,I 0,I 0,I 0,I 0,.slice none 0 0,.slice none 0 0] 43)):=by have h_:=(((Blk.new ((w.alloc (.cells #[.slice c.ua c.U.length c.uc,.slice c.sa c.S.length c.sc,.slice c.la c.L.length c.lc,.slice c.xa c.X.length c.xc,I c.k] 27)).alloc (.cells #[I x0,I x1,I x2,I x3,I x4,I x5,.slice pa pl pc,.slice va vl vc] 43)) #[I wa,I wb,I we] 31).alloc (by simp <;> omega) (.cells #[I n0,I n1,I n2,I n3,I n4,I n5,.slice na nl nc,.slice ma ml mc] 43)).alloc (by simp <;> omega) (.cells #[I 0,I 0,I 0,I 0,I 0,I 0,.slice none 0 0,.slice none 0 0] 43));simpa using h_
 have NC:Blk (w.heap.size+1+1+1) [I n0,I n1,I n2,I n3,I n4,I n5,.slice na nl nc,.slice ma ml mc] (((((w.alloc (.cells #[.slice c.ua c.U.length c.uc,.slice c.sa c.S.length c.sc,.slice c.la c.L.length c.lc,.slice c.xa c.X.length c.xc,I c.k] 27)).alloc (.cells #[I x0,I x1,I x2,I x3,I x4,I x5,.slice pa pl pc,.slice va vl vc] 43)).alloc (.cells #[I wa,I wb,I we] 31)).alloc (.cells #[I n0,I n1,I n2,I n3,I n4,I n5,.slice na nl nc,.slice ma ml mc] 43)).alloc (.cells #[I 0,I 0,I 0,I 0,I 0,I 0,.slice none 0 0,.slice none 0 0] 43)):=by have h_:=((Blk.new (((w.alloc (.cells #[.slice c.ua c.U.length c.uc,.slice c.sa c.S.length c.sc,.slice c.la c.L.length c.lc,.slice c.xa c.X.length c.xc,I c.k] 27)).alloc (.cells #[I x0,I x1,I x2,I x3,I x4,I x5,.slice pa pl pc,.slice va vl vc] 43)).alloc (.cells #[I wa,I wb,I we] 31)) #[I n0,I n1,I n2,I n3,I n4,I n5,.slice na nl nc,.slice ma ml mc] 43).alloc (by simp <;> omega) (.cells #[I 0,I 0,I 0,I 0,I 0,I 0,.slice none 0 0,.slice none 0 0] 43));simpa using h_
 have UC:Blk (w.heap.size+1+1+1+1) [I 0,I 0,I 0,I 0,I 0,I 0,.slice none 0 0,.slice none 0 0] (((((w.alloc (.cells #[.slice c.ua c.U.length c.uc,.slice c.sa c.S.length c.sc,.slice c.la c.L.length c.lc,.slice c.xa c.X.length c.xc,I c.k] 27)).alloc (.cells #[I x0,I x1,I x2,I x3,I x4,I x5,.slice pa pl pc,.slice va vl vc] 43)).alloc (.cells #[I wa,I wb,I we] 31)).alloc (.cells #[I n0,I n1,I n2,I n3,I n4,I n5,.slice na nl nc,.slice ma ml mc] 43)).alloc (.cells #[I 0,I 0,I 0,I 0,I 0,I 0,.slice none 0 0,.slice none 0 0] 43)):=by have h_:=(Blk.new ((((w.alloc (.cells #[.slice c.ua c.U.length c.uc,.slice c.sa c.S.length c.sc,.slice c.la c.L.length c.lc,.slice c.xa c.X.length c.xc,I c.k] 27)).alloc (.cells #[I x0,I x1,I x2,I x3,I x4,I x5,.slice pa pl pc,.slice va vl vc] 43)).alloc (.cells #[I wa,I wb,I we] 31)).alloc (.cells #[I n0,I n1,I n2,I n3,I n4,I n5,.slice na nl nc,.slice ma ml mc] 43)) #[I 0,I 0,I 0,I 0,I 0,I 0,.slice none 0 0,.slice none 0 0] 43);simpa using h_
 obtain ⟨W0,hW0⟩:∃ Wz,(((((w.alloc (.cells #[.slice c.ua c.U.length c.uc,.slice c.sa c.S.length c.sc,.slice c.la c.L.length c.lc,.slice c.xa c.X.length c.xc,I c.k] 27)).alloc (.cells #[I x0,I x1,I x2,I x3,I x4,I x5,.slice pa pl pc,.slice va vl vc] 43)).alloc (.cells #[I wa,I wb,I we] 31)).alloc (.cells #[I n0,I n1,I n2,I n3,I n4,I n5,.slice na nl nc,.slice ma ml mc] 43)).alloc (.cells #[I 0,I 0,I 0,I 0,I 0,I 0,.slice none 0 0,.slice none 0 0] 43))=Wz:=⟨_,rfl⟩
 rw [hW0] at TC KC RC NC UC BC
 have q1_:=KC.at 0 rfl
 have hw0:IntKind.i64.wrap (x0 - 3)=x0 - 3:=by rw [IntKind.wrap_i64];omega
 have hd0:decide (x0 - 3 < 0)=true:=decide_eq_true (by omega)
 have HR:Hid (dgG c realm now fresh target nonce x0 key wa wb we ev=.error 6):=by show _=_;unfold dgG;rw [if_neg (fun h=>by have:=(btw_iff _ _ _).1 h.1;omega)]
 have FU:=UC.sets [I n0,I n1,I n2,I n3,I n4,I n5,.slice na nl nc,.slice ma ml mc] rfl
 have FB:=below_sets (m:=w.heap.size) (g:=(w.heap.size+1+1+1+1)) (by omega) [I n0,I n1,I n2,I n3,I n4,I n5,.slice na nl nc,.slice ma ml mc] 0 _ BC
 go_enter Tryz.func80,Tryz.ntmps80
 go_wp2_with (first | (rw [hW0]) | (refine wpList_ldB 43 _ (w.heap.size+1+1+1) 0 _ [I n0,I n1,I n2,I n3,I n4,I n5,.slice na nl nc,.slice ma ml mc] it hit ag43 NC (by rw [htz];rfl) rfl rfl rfl rfl ?_;try simp only [Act.put]) | (refine wpList_stB 43 _ _ (w.heap.size+1+1+1+1) 0 _ [I n0,I n1,I n2,I n3,I n4,I n5,.slice na nl nc,.slice ma ml mc] it hit UC (by rw [htz];rfl) (by simp) rfl rfl rfl rfl rfl ?_;try simp only [Act.put]))
 exact bodyPost_ret (res_B2 rfl _ _ (w.heap.size+1+1+1+1) _ (I 6) it hit ag43 FU (by rw [htz];rfl) rfl rfl) rfl ⟨by rw [HR.out];exact ⟨rfl,by omega⟩,FB⟩
theorem specEvid_all (c:Cf) (realm now fresh nonce key target:Int) (ht:0≤target∧target≤2) (x0:Int) (hx:0≤x0∧x0≤5) (x1 x2 x3 x4 x5:Int) (pa:Option Addr) (pl pc:Nat) (va:Option Addr) (vl vc:Nat) (wa wb we:Int) (ev:ByteArray) (n0 n1 n2 n3 n4 n5:Int) (na:Option Addr) (nl nc:Nat) (ma:Option Addr) (ml mc:Nat) (w:World) (C:CfAt c w) (K:CfOk c) (hcf:confB c=true) (hev:ev.size≤1048576) :
  Calls Tryz.prog 80 #[c.val,I realm,I now,.agg #[I x0,I x1,I x2,I x3,I x4,I x5,.slice pa pl pc,.slice va vl vc],I target,.agg #[I wa,I wb,I we],.string ev,.agg #[I n0,I n1,I n2,I n3,I n4,I n5,.slice na nl nc,.slice ma ml mc]] w fun en w'=>EvRes (dgG c realm now fresh target nonce x0 key wa wb we ev) n0 n1 n2 n3 n4 n5 na nl nc ma ml mc w en w'∧Below w.heap.size w w':=by
 by_cases h:x0 < 3
 ·exact specEvid_user c realm now fresh nonce key target x0 ⟨hx.1,h⟩ x1 x2 x3 x4 x5 pa pl pc va vl vc wa wb we ev n0 n1 n2 n3 n4 n5 na nl nc ma ml mc w C K hcf hev
 ·obtain ⟨j,hj,rfl⟩:∃ j:Nat,j < 3∧x0=(j:Int)+3:=⟨(x0 - 3).toNat,by omega,by omega⟩
  obtain ⟨t,ht3,rfl⟩:∃ t:Nat,t < 3∧target=(t:Int):=⟨target.toNat,by omega,by omega⟩
  exact specEvid_is c realm now fresh nonce key j t hj ht3 x1 x2 x3 x4 x5 pa pl pc va vl vc wa wb we ev n0 n1 n2 n3 n4 n5 na nl nc ma ml mc w C K hcf hev
theorem dg_ok {c:Cf} {realm now fresh target nonce cl key wa wb we:Int} {ev:ByteArray} {g:Gd} (h:dgG c realm now fresh target nonce cl key wa wb we ev=.ok g):g.sv=target∧g.key=fresh∧g.fk=pkV (target+3)∧g.bk=key∧g.nonce=nonce∧g.kind=4∧g.by'=cl∧g.par=key∧g.ev=rtN ev (pkV cl) 2∧g.P.length≤12∧g.V.length≤13:=by
 unfold dgG at h
 split at h
 ·split at h
  ·split at h
   ·cases h
   ·split at h
    ·have e:=Except.ok.inj h
     subst e
     refine ⟨rfl,rfl,rfl,rfl,rfl,rfl,rfl,rfl,rfl,rtP_len _ _,?_⟩
     have:=rtV_len ev (pkV cl)
     simp
     omega
    ·cases h
  ·cases h
 ·cases h
end Go.Proofs.YtcaieniddnhkbaaGreatDoor
