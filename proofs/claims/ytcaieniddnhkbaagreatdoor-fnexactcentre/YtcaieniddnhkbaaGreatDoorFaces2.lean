/- What reads atoms, keys and sealed terms: the program and the model, one contract each. -/
import Derived.Test.YtcaieniddnhkbaaGreatDoorAb
import Derived.Test.YtcaieniddnhkbaaGreatDoorMade
import Derived.OwnWalk
import Derived.Laws.OwnMore
import Derived.Test.YtcaieniddnhkbaaGreatDoorVarWalks
import Derived.Deep.RegionHeld3
set_option linter.unusedVariables false
namespace Go.Proofs.YtcaieniddnhkbaaGreatDoor
open Go.RowKit Own Var Term
theorem rk_facts {s r:ByteArray} {kind n:Nat} (h:rk s kind=some (n,r)) :
  isT s=true∧2 ≤ s.size∧at_ s 0=kind∧cut s=some (n,r)∧s.size ≤ 900∧r.size ≤ 900:=by
 by_cases c:IsT s∧at_ s 0=kind
 ·rw [rk_yes c.1 c.2] at h
  have:=(cut_size h).1
  have h9:=c.1.1
  exact ⟨(isT_iff s).2 c.1,by omega,c.2,h,by omega,by omega⟩
 ·rw [rk_no c] at h;simp at h
theorem cut_eq {s r:ByteArray} {n:Nat} (h:cut s=some (n,r)):rvN (suf s 1)=n∧r=suf s (1 + rvK (suf s 1))∧1 + rvK (suf s 1) ≤ s.size:=by
 have hK:=(rvK_le (suf s 1)).2
 rw [suf_size] at hK
 unfold cut at h
 split at h
 ·rename_i c
  simp only [Option.some.injEq,Prod.mk.injEq] at h
  exact ⟨h.1,h.2.symm,by omega⟩
 ·simp at h
/-! ReadAtom -/
def atomR (s:ByteArray):ByteArray × Bool:=match rk s 97 with
 | some (_,d)=>(d,true)
 | none=>(⟨#[]⟩,false)
theorem tell84 (n:Nat) (r:ByteArray) (w:World) (h:r.size ≤ 1048576):Calls Tryz.prog 206 #[I n,.string r] w fun e w'=>e=.returned (.string r)∧Below w.heap.size w w':=by
 go_enter Tryz.func206,Tryz.ntmps206
 go_wp2_with fail
 refine (clone_is r _ h).mono ?_
 rintro e w1 ⟨rfl,hb⟩
 go_wp2
 go_ret
 exact ⟨rfl,hb⟩
theorem enters84 (args:Array Value) (w:World):(callFunc 206 args).run Tryz.prog w=.ok (.enter 206 args) w:=by
 simp [callFunc,Tryz.func206,mark,Tryz.f206]
set_option maxRecDepth 100000 in
theorem impl_readAtom (s:ByteArray) (w:World) (hs:s.size ≤ 1048576) :
  Calls Tryz.prog 197 #[.string s] w fun e w'=>e=.returned (.tuple #[.string (atomR s).1,.bool (atomR s).2])∧Below w.heap.size w w':=by
 have hmf:∀ (fn:Fn) (first cap:Array Value) (w:World),(Instr.makeFunc fn first cap).run Tryz.prog w=.ok (.func fn first cap) w:=fun _ _ _ _=>rfl
 unfold atomR
 cases hr:rk s 97 with
 | none =>
  have HC:=rkS_no s 97 (.func (.func 206) #[] #[]) w (by omega) hr
  clear hr
  go_enter Tryz.func197,Tryz.ntmps197
  go_wp2_with fail
  refine HC.mono ?_
  rintro e w1 ⟨rfl,hb⟩
  go_wp2
  go_ret2
  exact ⟨rfl,hb⟩
 | some q =>
  obtain ⟨n,r⟩:=q
  have hf:=rk_facts hr
  have HC:=rkS_yes s r 97 n 206 #[] w (fun v w'=>v=.string r∧Below w.heap.size w w') hs hr enters84 (fun w1 hb=>(tell84 n r w1 (by omega)).mono (by rintro e w2 ⟨rfl,hb2⟩;exact ⟨_,rfl,rfl,hb.trans (hb2.mono hb.size)⟩))
  clear hr hf
  go_enter Tryz.func197,Tryz.ntmps197
  go_wp2_with fail
  refine HC.mono ?_
  rintro e w1 ⟨v,rfl,rfl,hb⟩
  go_wp2
  go_ret2
  exact ⟨rfl,hb⟩
theorem byte_ne {s:ByteArray} {kind:Nat} (h:0 < s.size) (hr:rk s kind=none) (hT:isT s=true):((s[0].toNat:Int) == (kind:Int))=false:=by
 rw [Bool.eq_false_iff];intro hh;simp at hh
 have hat:=at_eq s 0 h
 obtain ⟨n,t,hc⟩:=((isT_iff s).1 hT).cut
 rw [rk_yes ((isT_iff s).1 hT) (by omega),hc] at hr
 simp at hr
set_option maxRecDepth 100000 in
set_option maxHeartbeats 800000 in
theorem spec_readAtom (s:ByteArray) (w:World) (hs:s.size ≤ 1048576) :
  Calls Tryz.prog 122 #[.string s] w fun e w'=>e=.returned (.tuple #[.string (atomR s).1,.bool (atomR s).2])∧Below w.heap.size w w':=by
 have hO:=fun w=>spec_ok s w hs
 unfold atomR
 cases hr:rk s 97 with
 | none =>
  rcases Bool.eq_false_or_eq_true (isT s) with hT | hT
  ·have h2:=not_empty ((isT_iff s).1 hT)
   have h0:0 < s.size:=by omega
   have hb97:=byte_ne h0 hr hT
   rw [hT] at hO
   clear hr hT
   go_enter Tryz.func122,Tryz.ntmps122
   go_wp2_with fail
   refine (hO _).mono ?_
   rintro e w1 ⟨rfl,hb⟩
   go_wp2
   go_ret2
   exact ⟨rfl,hb⟩
  ·rw [hT] at hO
   clear hr hT
   go_enter Tryz.func122,Tryz.ntmps122
   go_wp2_with fail
   refine (hO _).mono ?_
   rintro e w1 ⟨rfl,hb⟩
   go_wp2
   go_ret2
   exact ⟨rfl,hb⟩
 | some q =>
  obtain ⟨n,r⟩:=q
  obtain ⟨hT,h2,hk,hc,_,_⟩:=rk_facts hr
  rw [hT] at hO
  obtain ⟨hn,hrr,hK⟩:=cut_eq hc
  obtain ⟨K,hKe⟩:∃ K,rvK (suf s 1)=K:=⟨_,rfl⟩
  rw [hKe] at hrr hK
  have hat:=at_eq s 0 (by omega)
  have h0:0 < s.size:=by omega
  have hb97:((s[0].toNat:Int) == 97)=true:=by simp;omega
  have hRV:=fun w=>spec_rvf (suf s 1) w (by rw [suf_size];omega) n K hn hKe
  subst hrr
  clear hr hT hc hat hk hn hKe
  go_enter Tryz.func122,Tryz.ntmps122
  go_wp2_with fail
  refine (hO _).mono ?_
  rintro e w1 ⟨rfl,hb⟩
  go_wp2_with fail
  refine (hRV _).mono ?_
  rintro e w2 ⟨rfl,hb2⟩
  have hb3:=hb.trans (hb2.mono hb.size)
  go_wp2
  go_ret2
  exact ⟨rfl,hb3⟩
/-! ReadKey -/
def keyR (s:ByteArray):Int × Bool:=match rk s 107 with
 | some (n,_)=>((n:Int),true)
 | none=>(0,false)
theorem tell86 (n:Nat) (r:ByteArray) (w:World):Calls Tryz.prog 208 #[I n,.string r] w fun e w'=>e=.returned (I n)∧w=w':=by
 go_enter Tryz.func208,Tryz.ntmps208
 go_wp2
 go_ret
 exact ⟨rfl,rfl⟩
theorem enters86 (args:Array Value) (w:World):(callFunc 208 args).run Tryz.prog w=.ok (.enter 208 args) w:=by
 simp [callFunc,Tryz.func208,mark,Tryz.f208]
set_option maxRecDepth 100000 in
theorem impl_readKey (s:ByteArray) (w:World) (hs:s.size ≤ 1048576) :
  Calls Tryz.prog 200 #[.string s] w fun e w'=>e=.returned (.tuple #[I (keyR s).1,.bool (keyR s).2])∧Below w.heap.size w w':=by
 have hmf:∀ (fn:Fn) (first cap:Array Value) (w:World),(Instr.makeFunc fn first cap).run Tryz.prog w=.ok (.func fn first cap) w:=fun _ _ _ _=>rfl
 unfold keyR
 cases hr:rk s 107 with
 | none =>
  have HC:=rkI_no s 107 (.func (.func 208) #[] #[]) w (by omega) hr
  clear hr
  go_enter Tryz.func200,Tryz.ntmps200
  go_wp2_with fail
  refine HC.mono ?_
  rintro e w1 ⟨rfl,hb⟩
  go_wp2
  go_ret2
  exact ⟨rfl,hb⟩
 | some q =>
  obtain ⟨n,r⟩:=q
  have HC:=rkI_yes s r 107 n 208 #[] w (fun v w'=>v=I n∧Below w.heap.size w w') hs hr enters86 (fun w1 hb=>(tell86 n r w1).mono (by rintro e w2 ⟨rfl,rfl⟩;exact ⟨_,rfl,rfl,hb⟩))
  clear hr
  go_enter Tryz.func200,Tryz.ntmps200
  go_wp2_with fail
  refine HC.mono ?_
  rintro e w1 ⟨v,rfl,rfl,hb⟩
  go_wp2
  go_ret2
  exact ⟨rfl,hb⟩
set_option maxRecDepth 100000 in
set_option maxHeartbeats 800000 in
theorem spec_readKey (s:ByteArray) (w:World) (hs:s.size ≤ 1048576) :
  Calls Tryz.prog 43 #[.string s] w fun e w'=>e=.returned (.tuple #[I (keyR s).1,.bool (keyR s).2])∧Below w.heap.size w w':=by
 have hO:=fun w=>spec_ok s w hs
 unfold keyR
 cases hr:rk s 107 with
 | none =>
  rcases Bool.eq_false_or_eq_true (isT s) with hT | hT
  ·have h2:=not_empty ((isT_iff s).1 hT)
   have h0:0 < s.size:=by omega
   have hb97:=byte_ne h0 hr hT
   rw [hT] at hO
   clear hr hT
   go_enter Tryz.func43,Tryz.ntmps43
   go_wp2_with fail
   refine (hO _).mono ?_
   rintro e w1 ⟨rfl,hb⟩
   go_wp2
   go_ret2
   exact ⟨rfl,hb⟩
  ·rw [hT] at hO
   clear hr hT
   go_enter Tryz.func43,Tryz.ntmps43
   go_wp2_with fail
   refine (hO _).mono ?_
   rintro e w1 ⟨rfl,hb⟩
   go_wp2
   go_ret2
   exact ⟨rfl,hb⟩
 | some q =>
  obtain ⟨n,r⟩:=q
  obtain ⟨hT,h2,hk,hc,_,_⟩:=rk_facts hr
  rw [hT] at hO
  obtain ⟨hn,hrr,hK⟩:=cut_eq hc
  obtain ⟨K,hKe⟩:∃ K,rvK (suf s 1)=K:=⟨_,rfl⟩
  rw [hKe] at hrr hK
  have hat:=at_eq s 0 (by omega)
  have h0:0 < s.size:=by omega
  have hb97:((s[0].toNat:Int) == 107)=true:=by simp;omega
  have hRV:=fun w=>spec_rvf (suf s 1) w (by rw [suf_size];omega) n K hn hKe
  subst hrr
  clear hr hT hc hat hk hn hKe
  go_enter Tryz.func43,Tryz.ntmps43
  go_wp2_with fail
  refine (hO _).mono ?_
  rintro e w1 ⟨rfl,hb⟩
  go_wp2_with fail
  refine (hRV _).mono ?_
  rintro e w2 ⟨rfl,hb2⟩
  have hb3:=hb.trans (hb2.mono hb.size)
  go_wp2
  go_ret2
  exact ⟨rfl,hb3⟩
/-! Open -/
def openR (s:ByteArray) (k:Int):ByteArray × Bool:=match rk s 115 with
 | some (n,t)=>if (n:Int)=k then (t,true) else (⟨#[]⟩,false)
 | none=>(⟨#[]⟩,false)
theorem tell71_yes (n:Nat) (r:ByteArray) (p:Addr) (w:World) (h:r.size ≤ 1048576) (hc:w.cell? p=some (I (n:Int))):Calls Tryz.prog 150 #[I n,.string r,.pointer (some p)] w fun e w'=>e=.returned (.string r)∧Below w.heap.size w w':=by
 go_enter Tryz.func150,Tryz.ntmps150
 go_wp2_with fail
 refine (must_yes _).mono ?_
 rintro e w1 ⟨rfl,rfl⟩
 go_wp2_with fail
 refine (clone_is r _ h).mono ?_
 rintro e w1 ⟨rfl,hb⟩
 go_wp2
 go_ret
 exact ⟨rfl,hb⟩
theorem tell71_no (n:Nat) (k:Int) (r:ByteArray) (p:Addr) (w:World) (hk:¬ (n:Int)=k) (hc:w.cell? p=some (I k)):Calls Tryz.prog 150 #[I n,.string r,.pointer (some p)] w fun e w'=>e=.panicked noT∧Below w.heap.size w w':=by
 have hk':((n:Int) == k)=false:=by simpa using hk
 go_enter Tryz.func150,Tryz.ntmps150
 go_wp2_with fail
 refine (must_no _).mono ?_
 rintro e w1 ⟨rfl,rfl⟩
 go_wp2
 exact ⟨rfl,rfl,Below.refl _ _⟩
theorem enters71 (args:Array Value) (w:World):(callFunc 150 args).run Tryz.prog w=.ok (.enter 150 args) w:=by
 simp [callFunc,Tryz.func150,mark,Tryz.f150]
set_option maxRecDepth 100000 in
theorem impl_open (s:ByteArray) (k:Int) (w:World) (hs:s.size ≤ 1048576) :
  Calls Tryz.prog 109 #[.string s,I k] w fun e w'=>e=.returned (.tuple #[.string (openR s k).1,.bool (openR s k).2])∧Below w.heap.size w w':=by
 have hmf:∀ (fn:Fn) (first cap:Array Value) (w:World),(Instr.makeFunc fn first cap).run Tryz.prog w=.ok (.func fn first cap) w:=fun _ _ _ _=>rfl
 have hb0:Below w.heap.size w (w.alloc (.cells #[I k] 3)):=(Below.refl _ _).alloc (Nat.le_refl _) _
 have hc0:(w.alloc (.cells #[I k] 3)).cell? ⟨w.heap.size,0,none⟩=some (I k):=by simp [go_sem]
 have hlt:(⟨w.heap.size,0,none⟩:Addr).block < (w.alloc (.cells #[I k] 3)).heap.size:=by simp
 unfold openR
 cases hr:rk s 115 with
 | none =>
  have HC:=rkS_no s 115 (.func (.func 150) #[] #[.pointer (some ⟨w.heap.size,0,none⟩)]) (w.alloc (.cells #[I k] 3)) (by omega) hr
  clear hr
  go_enter Tryz.func109,Tryz.ntmps109
  go_wp2_with fail
  refine HC.mono ?_
  rintro e w1 ⟨rfl,hb⟩
  go_wp2
  go_ret2
  exact ⟨rfl,hb0.trans (hb.mono hb0.size)⟩
 | some q =>
  obtain ⟨n,r⟩:=q
  have hf:=rk_facts hr
  by_cases hk:(n:Int)=k
  ·have HC:=rkS_yes s r 115 n 150 #[.pointer (some ⟨w.heap.size,0,none⟩)] (w.alloc (.cells #[I k] 3)) (fun v w'=>v=.string r∧Below w.heap.size w w') hs hr enters71
    (fun w1 hb=>(tell71_yes n r ⟨w.heap.size,0,none⟩ w1 (by omega) (by rw [hb.cell hlt,hc0,hk])).mono (by rintro e w2 ⟨rfl,hb2⟩;exact ⟨_,rfl,rfl,(hb0.trans (hb.mono hb0.size)).trans (hb2.mono (hb0.trans (hb.mono hb0.size)).size)⟩))
   simp only [hk,if_true]
   clear hr hf
   go_enter Tryz.func109,Tryz.ntmps109
   go_wp2_with fail
   refine HC.mono ?_
   rintro e w1 ⟨v,rfl,rfl,hb⟩
   go_wp2
   go_ret2
   exact ⟨rfl,hb⟩
  ·have HC:=rkS_told s r 115 n 150 #[.pointer (some ⟨w.heap.size,0,none⟩)] (w.alloc (.cells #[I k] 3)) hs hr enters71
    (fun w1 hb=>(tell71_no n k r ⟨w.heap.size,0,none⟩ w1 hk (by rw [hb.cell hlt,hc0])).mono (by rintro e w2 ⟨rfl,hb2⟩;exact ⟨rfl,hb2⟩))
   simp only [hk,if_false]
   clear hr hf
   go_enter Tryz.func109,Tryz.ntmps109
   go_wp2_with fail
   refine HC.mono ?_
   rintro e w1 ⟨rfl,hb⟩
   go_wp2
   go_ret2
   exact ⟨rfl,hb0.trans (hb.mono hb0.size)⟩
set_option maxRecDepth 100000 in
set_option maxHeartbeats 800000 in
theorem spec_open (s:ByteArray) (k:Int) (w:World) (hs:s.size ≤ 1048576) :
  Calls Tryz.prog 42 #[.string s,I k] w fun e w'=>e=.returned (.tuple #[.string (openR s k).1,.bool (openR s k).2])∧Below w.heap.size w w':=by
 have hO:=fun w=>spec_ok s w hs
 unfold openR
 cases hr:rk s 115 with
 | none =>
  rcases Bool.eq_false_or_eq_true (isT s) with hT | hT
  ·have h2:=not_empty ((isT_iff s).1 hT)
   have h0:0 < s.size:=by omega
   have hb97:=byte_ne h0 hr hT
   rw [hT] at hO
   clear hr hT
   go_enter Tryz.func42,Tryz.ntmps42
   go_wp2_with fail
   refine (hO _).mono ?_
   rintro e w1 ⟨rfl,hb⟩
   go_wp2
   go_ret2
   exact ⟨rfl,hb⟩
  ·rw [hT] at hO
   clear hr hT
   go_enter Tryz.func42,Tryz.ntmps42
   go_wp2_with fail
   refine (hO _).mono ?_
   rintro e w1 ⟨rfl,hb⟩
   go_wp2
   go_ret2
   exact ⟨rfl,hb⟩
 | some q =>
  obtain ⟨n,r⟩:=q
  obtain ⟨hT,h2,hkk,hc,_,_⟩:=rk_facts hr
  rw [hT] at hO
  obtain ⟨hn,hrr,hK⟩:=cut_eq hc
  obtain ⟨K,hKe⟩:∃ K,rvK (suf s 1)=K:=⟨_,rfl⟩
  rw [hKe] at hrr hK
  have hat:=at_eq s 0 (by omega)
  have h0:0 < s.size:=by omega
  have hb97:((s[0].toNat:Int) == 115)=true:=by simp;omega
  have hRV:=fun w=>spec_rvf (suf s 1) w (by rw [suf_size];omega) n K hn hKe
  subst hrr
  clear hr hT hc hat hkk hn hKe
  by_cases hk:(n:Int)=k
  ·have hk':((n:Int) == k)=true:=by simpa using hk
   simp only [hk,if_true]
   go_enter Tryz.func42,Tryz.ntmps42
   go_wp2_with fail
   refine (hO _).mono ?_
   rintro e w1 ⟨rfl,hb⟩
   go_wp2_with fail
   refine (hRV _).mono ?_
   rintro e w2 ⟨rfl,hb2⟩
   have hb3:=hb.trans (hb2.mono hb.size)
   go_wp2
   go_ret2
   exact ⟨rfl,hb3⟩
  ·have hk':((n:Int) == k)=false:=by simpa using hk
   simp only [hk,if_false]
   go_enter Tryz.func42,Tryz.ntmps42
   go_wp2_with fail
   refine (hO _).mono ?_
   rintro e w1 ⟨rfl,hb⟩
   go_wp2_with fail
   refine (hRV _).mono ?_
   rintro e w2 ⟨rfl,hb2⟩
   have hb3:=hb.trans (hb2.mono hb.size)
   go_wp2
   go_ret2
   exact ⟨rfl,hb3⟩
/-! ReadNum -/
def numR (s:ByteArray):Int × Bool:=if 1 ≤ rvK (atomR s).1∧rvK (atomR s).1=(atomR s).1.size then ((rvN (atomR s).1:Int),true) else (0,false)
theorem atomR_size (s:ByteArray) (h:s.size ≤ 1048576):(atomR s).1.size ≤ 1048576:=by
 unfold atomR
 cases hr:rk s 97 with
 | none=>show 0 ≤ _;omega
 | some q=>obtain ⟨n,r⟩:=q;have:=rk_facts hr;show r.size ≤ _;omega
theorem atomR_no (s:ByteArray) (h:(atomR s).2=false):(atomR s).1=⟨#[]⟩:=by
 unfold atomR at h ⊢
 cases hr:rk s 97 with
 | none=>rfl
 | some q=>rw [hr] at h;cases h
set_option maxRecDepth 100000 in
set_option maxHeartbeats 800000 in
theorem impl_readNum (s:ByteArray) (w:World) (hs:s.size ≤ 1048576) :
  Calls Tryz.prog 179 #[.string s] w fun e w'=>e=.returned (.tuple #[I (numR s).1,.bool (numR s).2])∧Below w.heap.size w w':=by
 have hA:=impl_readAtom s w hs
 have hz:=atomR_size s hs
 unfold numR
 obtain ⟨n,hn⟩:∃ n,rvN (atomR s).1=n:=⟨_,rfl⟩
 obtain ⟨k,hk⟩:∃ k,rvK (atomR s).1=k:=⟨_,rfl⟩
 have hRV:=fun w=>impl_rvf (atomR s).1 w hz n k hn hk
 rw [hn,hk]
 clear hn hk
 generalize (atomR s).1=d at *
 generalize (atomR s).2=b at *
 by_cases h0:k=0
 ·subst h0
  rw [if_neg (by omega)]
  go_enter Tryz.func179,Tryz.ntmps179
  go_wp2_with fail
  refine hA.mono ?_
  rintro e w1 ⟨rfl,hb⟩
  go_wp2_with fail
  refine (hRV _).mono ?_
  rintro e w2 ⟨rfl,rfl⟩
  go_wp2
  go_ret2
  exact ⟨rfl,hb⟩
 ·have h0':((k:Int) == 0)=false:=by simp;omega
  by_cases h1:k=d.size
  ·rw [if_pos ⟨by omega,h1⟩]
   have h1':((k:Int) == (d.size:Int))=true:=by simp;omega
   have hde:¬ d=ByteArray.empty:=by intro c;rw [c] at h1;exact h0 h1
   go_enter Tryz.func179,Tryz.ntmps179
   go_wp2_with fail
   refine hA.mono ?_
   rintro e w1 ⟨rfl,hb⟩
   go_wp2_with fail
   refine (hRV _).mono ?_
   rintro e w2 ⟨rfl,rfl⟩
   go_wp2
   go_ret2
   exact ⟨rfl,hb⟩
  ·rw [if_neg (fun c=>h1 c.2)]
   have h1':((k:Int) == (d.size:Int))=false:=by simp;omega
   go_enter Tryz.func179,Tryz.ntmps179
   go_wp2_with fail
   refine hA.mono ?_
   rintro e w1 ⟨rfl,hb⟩
   go_wp2_with fail
   refine (hRV _).mono ?_
   rintro e w2 ⟨rfl,rfl⟩
   go_wp2
   go_ret2
   exact ⟨rfl,hb⟩
set_option maxRecDepth 100000 in
set_option maxHeartbeats 800000 in
theorem spec_readNum (s:ByteArray) (w:World) (hs:s.size ≤ 1048576) :
  Calls Tryz.prog 72 #[.string s] w fun e w'=>e=.returned (.tuple #[I (numR s).1,.bool (numR s).2])∧Below w.heap.size w w':=by
 have hA:=spec_readAtom s w hs
 have hz:=atomR_size s hs
 have hno:=atomR_no s
 unfold numR
 obtain ⟨n,hn⟩:∃ n,rvN (atomR s).1=n:=⟨_,rfl⟩
 obtain ⟨k,hk⟩:∃ k,rvK (atomR s).1=k:=⟨_,rfl⟩
 have hRV:=fun w=>spec_rvf (atomR s).1 w hz n k hn hk
 have hno2:(atomR s).2=false → k=0:=fun h=>by rw [← hk,hno h,rvK_nil]
 rw [hn,hk]
 clear hn hk hno
 generalize (atomR s).1=d at *
 generalize (atomR s).2=b at *
 cases b with
 | false =>
  obtain rfl:=hno2 rfl
  rw [if_neg (by omega)]
  go_enter Tryz.func72,Tryz.ntmps72
  go_wp2_with fail
  refine hA.mono ?_
  rintro e w1 ⟨rfl,hb⟩
  go_wp2_with fail
  refine (hRV _).mono ?_
  rintro e w2 ⟨rfl,hb2⟩
  have hb3:=hb.trans (hb2.mono hb.size)
  go_wp2
  go_ret2
  exact ⟨rfl,hb3⟩
 | true =>
  clear hno2
  by_cases h0:k=0
  ·subst h0
   rw [if_neg (by omega)]
   go_enter Tryz.func72,Tryz.ntmps72
   go_wp2_with fail
   refine hA.mono ?_
   rintro e w1 ⟨rfl,hb⟩
   go_wp2_with fail
   refine (hRV _).mono ?_
   rintro e w2 ⟨rfl,hb2⟩
   have hb3:=hb.trans (hb2.mono hb.size)
   go_wp2
   go_ret2
   exact ⟨rfl,hb3⟩
  ·have h0':((k:Int) == 0)=false:=by simp;omega
   by_cases h1:k=d.size
   ·rw [if_pos ⟨by omega,h1⟩]
    have h1':((k:Int) == (d.size:Int))=true:=by simp;omega
    have hde:¬ d=ByteArray.empty:=by intro c;rw [c] at h1;exact h0 h1
    go_enter Tryz.func72,Tryz.ntmps72
    go_wp2_with fail
    refine hA.mono ?_
    rintro e w1 ⟨rfl,hb⟩
    go_wp2_with fail
    refine (hRV _).mono ?_
    rintro e w2 ⟨rfl,hb2⟩
    have hb3:=hb.trans (hb2.mono hb.size)
    go_wp2
    go_ret2
    exact ⟨rfl,hb3⟩
   ·rw [if_neg (fun c=>h1 c.2)]
    have h1':((k:Int) == (d.size:Int))=false:=by simp;omega
    go_enter Tryz.func72,Tryz.ntmps72
    go_wp2_with fail
    refine hA.mono ?_
    rintro e w1 ⟨rfl,hb⟩
    go_wp2_with fail
    refine (hRV _).mono ?_
    rintro e w2 ⟨rfl,hb2⟩
    have hb3:=hb.trans (hb2.mono hb.size)
    go_wp2
    go_ret2
    exact ⟨rfl,hb3⟩
end Go.Proofs.YtcaieniddnhkbaaGreatDoor
set_option linter.unusedVariables false
namespace Go.Proofs.YtcaieniddnhkbaaGreatDoor
open Go.RowKit Own Var Term
/-- The cells from a on hold the row. -/
def RowAt {α:Type} (f:α → Value) (w:World) (a:Option Addr) (xs:List α):Prop :=
 ∀ j (h:j < xs.length),∃ b off,a=some ⟨b,off,none⟩∧b < w.heap.size∧w.cell? ⟨b,off + j,none⟩=some (f xs[j])
theorem RowAt.later {α:Type} {f:α → Value} {w w':World} {a:Option Addr} {xs:List α} (h:RowAt f w a xs) (hb:Below w.heap.size w w'):RowAt f w' a xs:=by
 intro j hj
 obtain ⟨b,off,e,hlt,hc⟩:=h j hj
 exact ⟨b,off,e,Nat.lt_of_lt_of_le hlt hb.size,by rw [hb.cell (p:=⟨b,off + j,none⟩) hlt];exact hc⟩
theorem RowAt.own {α:Type} {f:α → Value} {w:World} {base g cap n:Nat} {e:TypeId} {xs:List α} (h:w.ownsRow base e 1 (.slice (some ⟨g,0,none⟩) n cap) n (xs.map f)):RowAt f w (some ⟨g,0,none⟩) xs:=by
 have hl:xs.length=n:=by have:=h.1;simpa using this
 intro j hj
 refine ⟨g,0,rfl,(h.lt g rfl).2,?_⟩
 rw [Nat.zero_add,h.cellAt j (by omega)]
 simp [hj]
theorem RowAt.nil {α:Type} {f:α → Value} (w:World) (a:Option Addr):RowAt f w a []:=by intro j hj;simp at hj
theorem infoStr:(Tryz.prog.info? 9).map (fun i=>(i.zero,i.size,i.bytes))=some (some (.string ⟨#[]⟩),1,16):=by kernel_rfl
theorem infoInt:(Tryz.prog.info? 3).map (fun i=>(i.zero,i.size,i.bytes))=some (some (I 0),1,8):=by kernel_rfl
end Go.Proofs.YtcaieniddnhkbaaGreatDoor
set_option linter.unusedVariables false
namespace Go.Proofs.YtcaieniddnhkbaaGreatDoor
open Go Go.RowKit
theorem all_yes {xs:List Int} (h:∀ j (hj:j < xs.length),btw xs[j] 0 2=true):(xs.all fun n=>btw n 0 2)=true:=by
 rw [List.all_eq_true]
 intro x hx
 obtain ⟨j,hj,rfl⟩:=List.mem_iff_getElem.1 hx
 exact h j hj
theorem all_no {xs:List Int} {j:Nat} (hj:j < xs.length) (h:btw xs[j] 0 2=false):(xs.all fun n=>btw n 0 2)=false:=by
 cases hh:xs.all fun n=>btw n 0 2 with
 | false=>rfl
 | true=>rw [List.all_eq_true] at hh;rw [hh _ (List.getElem_mem hj)] at h;cases h
set_option maxRecDepth 100000 in
set_option maxHeartbeats 800000 in
theorem spec_all (a:Option Addr) (cap:Nat) (xs:List Int) (m:Nat) (w:World) (hr:RowAt (Value.int .i64) w a xs) (hl:xs.length ≤ 1048576) (hm:m ≤ 1048576) :
  Calls Tryz.prog 70 #[.slice a xs.length cap,I m,I 3] w fun e w'=>e=.returned (.bool (allB xs m))∧Below w.heap.size w w':=by
 by_cases h:xs.length ≤ m
 ·have hd:decide ((m:Int) < (xs.length:Int))=false:=by simp;omega
  have hA:allB xs m=xs.all fun n=>btw n 0 2:=by unfold allB;simp [h]
  rw [hA]
  go_enter Tryz.func70,Tryz.ntmps70
  go_wp2
  go_loopw [7] (fun i wr=>∃ k:Nat,k ≤ xs.length∧i=I k∧(∀ j (hj:j < xs.length),j < k → btw xs[j] 0 2=true)∧Below w.heap.size w wr) (fun i _=>xs.length - (intOf i).toNat)
  case atStart=>exact ⟨0,by omega,rfl,fun j hj h=>absurd h (by omega),Below.refl _ _⟩
  case round =>
   obtain ⟨k,hk,rfl,hall,hbel⟩:=hrel
   by_cases hlt:k < xs.length
   ·obtain ⟨b1,o1,rfl,l1,hc1⟩:=hr k hlt
    rw [← hbel.cell (p:=⟨b1,o1 + k,none⟩) l1] at hc1
    have H:=fun (h:btw xs[k] 0 2=true)=>fun j (hj:j < xs.length) (hjk:j < k + 1)=>(if e:j=k then by subst e;exact h else hall j hj (by omega):btw xs[j] 0 2=true)
    have HN:=all_no (xs:=xs) hlt
    generalize hx:xs[k]=x at hc1 H HN
    by_cases h0:x < 0
    ·go_wp2
     go_ret
     exact ⟨by rw [HN (by unfold btw;simp;omega)];rfl,hbel⟩
    ·by_cases h3:3 ≤ x
     ·go_wp2
      go_ret
      exact ⟨by rw [HN (by unfold btw;simp;omega)];rfl,hbel⟩
     ·go_wp2
      go_roundw
      case rel=>exact ⟨k + 1,by omega,by go_num,H (by unfold btw;simp;omega),hbel⟩
      case measure=>simp [intOf];omega
   ·go_wp2
    go_ret
    exact ⟨by rw [all_yes (fun j hj=>hall j hj (by omega))];rfl,hbel⟩
 ·have hd:decide ((m:Int) < (xs.length:Int))=true:=by simp;omega
  have hA:allB xs m=false:=by unfold allB;simp [h]
  rw [hA]
  go_enter Tryz.func70,Tryz.ntmps70
  go_wp2
  go_ret
  exact ⟨rfl,Below.refl _ _⟩
end Go.Proofs.YtcaieniddnhkbaaGreatDoor
set_option linter.unusedVariables false
namespace Go.Proofs.YtcaieniddnhkbaaGreatDoor
open Go Go.RowKit
theorem enters95 (args:Array Value) (w:World):(callFunc 103 args).run Tryz.prog w=.ok (.enter 103 args) w:=by
 simp [callFunc,Tryz.func103,mark,Tryz.f103]
theorem enters96 (args:Array Value) (w:World):(callFunc 116 args).run Tryz.prog w=.ok (.enter 116 args) w:=by
 simp [callFunc,Tryz.func116,mark,Tryz.f116]
set_option maxRecDepth 100000 in
set_option maxHeartbeats 800000 in
theorem listOk_is (f:Nat) (hen:∀ (args:Array Value) (w:World),(callFunc f args).run Tryz.prog w=.ok (.enter f args) w)
  (hf:∀ (n:Int) (w:World),Calls Tryz.prog f #[I n] w fun e w'=>e=.returned (.bool (btw n 0 2))∧w=w')
  (a:Option Addr) (cap:Nat) (xs:List Int) (m:Nat) (w:World) (hr:RowAt (Value.int .i64) w a xs) (hl:xs.length ≤ 1048576) (hm:m ≤ 1048576) :
  Calls Tryz.prog 173 #[.slice a xs.length cap,I m,.func (.func f) #[] #[]] w fun e w'=>e=.returned (.bool (allB xs m))∧Below w.heap.size w w':=by
 by_cases h:xs.length ≤ m
 ·have hd:decide ((m:Int) < (xs.length:Int))=false:=by simp;omega
  have hd2:decide (m < xs.length)=false:=by simp;omega
  have hA:allB xs m=xs.all fun n=>btw n 0 2:=by unfold allB;simp [h]
  rw [hA]
  go_enter Tryz.func173,Tryz.ntmps173
  go_wp2
  go_loopw [15] (fun i wr=>∃ k:Nat,k ≤ xs.length∧i=I k∧(∀ j (hj:j < xs.length),j < k → btw xs[j] 0 2=true)∧Below w.heap.size w wr) (fun i _=>xs.length - (intOf i).toNat)
  case atStart=>exact ⟨0,by omega,rfl,fun j hj h=>absurd h (by omega),Below.refl _ _⟩
  case round =>
   obtain ⟨k,hk,rfl,hall,hbel⟩:=hrel
   by_cases hlt:k < xs.length
   ·obtain ⟨b1,o1,rfl,l1,hc1⟩:=hr k hlt
    rw [← hbel.cell (p:=⟨b1,o1 + k,none⟩) l1] at hc1
    have H:=fun (h:btw xs[k] 0 2=true)=>fun j (hj:j < xs.length) (hjk:j < k + 1)=>(if e:j=k then by subst e;exact h else hall j hj (by omega):btw xs[j] 0 2=true)
    have HN:=all_no (xs:=xs) hlt
    generalize hx:xs[k]=x at hc1 H HN
    have HC:=hf x wr
    go_wp2_with fail
    refine HC.mono ?_
    rintro e wx ⟨rfl,rfl⟩
    clear HC
    by_cases h1:btw x 0 2=true
    ·rw [h1]
     have H1:=H h1
     clear H HN
     go_wp2
     go_roundw
     case rel=>exact ⟨k + 1,by omega,by go_num,H1,hbel⟩
     case measure=>simp [intOf];omega
    ·rw [Bool.not_eq_true] at h1
     rw [h1]
     have H1:=HN h1
     clear H HN
     go_wp2
     go_ret
     exact ⟨by rw [H1];rfl,hbel⟩
   ·go_wp2
    go_ret
    exact ⟨by rw [all_yes (fun j hj=>hall j hj (by omega))];rfl,hbel⟩
 ·have hd:decide ((m:Int) < (xs.length:Int))=true:=by simp;omega
  have hA:allB xs m=false:=by unfold allB;simp [h]
  rw [hA]
  go_enter Tryz.func173,Tryz.ntmps173
  go_wp2
  go_ret
  exact ⟨rfl,Below.refl _ _⟩
end Go.Proofs.YtcaieniddnhkbaaGreatDoor
set_option linter.unusedVariables false
namespace Go.Proofs.YtcaieniddnhkbaaGreatDoor
open Go Go.RowKit
theorem Two.six {s:Nat} {a b c x y z:Int} {W:World} (h:Two s a b c x y z W):W.cell? ⟨s,0,none⟩=some (I a)∧W.cell? ⟨s,1,none⟩=some (I b)∧W.cell? ⟨s,2,none⟩=some (I c)∧W.cell? ⟨s + 1,0,none⟩=some (I x)∧W.cell? ⟨s + 1,1,none⟩=some (I y)∧W.cell? ⟨s + 1,2,none⟩=some (I z):=⟨h.a,h.b,h.c,h.x,h.y,h.z⟩
theorem Two.drew {s:Nat} {a b c x y z:Int} {W:World} (h:Two s a b c x y z W):Two s a b c x y z W.drew:=⟨by simpa using h.a,by simpa using h.b,by simpa using h.c,by simpa using h.x,by simpa using h.y,by simpa using h.z⟩
theorem set3_more {n g:Nat} {w W:World} {p q r:Value} (h:Below n w (set3 W g p q r)∧(set3 W g p q r).cell? ⟨g,0,none⟩=some p∧(set3 W g p q r).cell? ⟨g,1,none⟩=some q∧(set3 W g p q r).cell? ⟨g,2,none⟩=some r) (hg:g < W.heap.size) (hn:n ≤ g) (o:Obj) :
  Below n w ((set3 W g p q r).alloc o)∧((set3 W g p q r).alloc o).cell? ⟨g,0,none⟩=some p∧((set3 W g p q r).alloc o).cell? ⟨g,1,none⟩=some q∧((set3 W g p q r).alloc o).cell? ⟨g,2,none⟩=some r:=by
 have hs:g < (set3 W g p q r).heap.size:=by simpa [set3] using hg
 have X:=(Below.refl (set3 W g p q r).heap.size (set3 W g p q r)).alloc (Nat.le_refl _) o
 refine ⟨?_,(X.cell (p:=⟨g,0,none⟩) hs).trans h.2.1,(X.cell (p:=⟨g,1,none⟩) hs).trans h.2.2.1,(X.cell (p:=⟨g,2,none⟩) hs).trans h.2.2.2⟩
 exact h.1.alloc (by omega) o
set_option maxRecDepth 100000 in
set_option maxHeartbeats 1600000 in
theorem eqRest_is (a b c:Int) (w:World):Calls Tryz.prog 85 #[rv a b c,rv a b c] w fun e w'=>e=.returned (.bool true)∧Below w.heap.size w w':=by
 have hb0:Below w.heap.size w ((w.alloc (.cells #[I a,I b,I c] 31)).alloc (.cells #[I a,I b,I c] 31)):=((Below.refl _ _).alloc (Nat.le_refl _) _).alloc (by simp) _
 go_enter Tryz.func85,Tryz.ntmps85
 go_wp2
 go_ret
 exact ⟨rfl,hb0⟩
end Go.Proofs.YtcaieniddnhkbaaGreatDoor
set_option linter.unusedVariables false
namespace Go.Proofs.YtcaieniddnhkbaaGreatDoor
open Go Go.RowKit
end Go.Proofs.YtcaieniddnhkbaaGreatDoor
set_option linter.unusedVariables false
namespace Go.Proofs.YtcaieniddnhkbaaGreatDoor
open Go Go.RowKit
theorem unwanted {ops:Array Oper} {tmps:Array Value} {o:Oper} {j d:Nat} {b c:Bool} (hg:o.guard=some (j,b)) (hd:(ops[j]?).bind (·.dst)=some d) (ht:tmps[d]?=some (.bool c)) (hc:(c == b)=false):Region.wanted o (yielded ops tmps)=false:=by
 have hy:yielded ops tmps j=some c:=by unfold yielded;rw [hd];simp only [Option.bind_some,ht]
 unfold Region.wanted
 rw [hg]
 simp only [hy]
 simpa using hc
theorem unwanted_undef {ops:Array Oper} {tmps:Array Value} {o:Oper} {j d:Nat} {b:Bool} (hg:o.guard=some (j,b)) (hd:(ops[j]?).bind (·.dst)=some d) (ht:tmps[d]?=some undef):Region.wanted o (yielded ops tmps)=false:=by
 have hy:yielded ops tmps j=none:=by unfold yielded;rw [hd];simp only [Option.bind_some,ht];rfl
 unfold Region.wanted
 rw [hg]
 simp only [hy]
 rfl
/-- An operation of a drawn region that yields its value wherever S holds is taken first. -/
theorem take_one {P:Program} {ops:Array Oper} {Q:Exit → Act → World → Prop} {md:Region.Mode} {S:World → Prop} (i d:Nat) {oi:Oper} {v:Value} {fuel:Nat} {listed:Array Bool} {a:Act} {w:World} (hi:ops[i]?=some oi) (hd:oi.dst=some d)
  (hs:Region.noSelect ops=true) (hf:Region.free md ops listed i=true) (hr:(Region.ready md ops listed).contains i=true) (hQ:∀ c a w,Q (.panic c) (a.put (some d) v) w → Q (.panic c) a w)
  (hy:YieldsIf P ops S oi v a) (hS:S w) (h:wpAnyH P md ops Q S fuel (listed.setIfInBounds i true) (a.put (some d) v) w):wpAnyH P md ops Q S (fuel + 1) listed a w :=
 wpAnyH_take hi hs hf hr (by rw [hd];exact hQ) hy hS (by rw [hd];exact h)
/-- An operation of a drawn region that its guard passes over is taken first. -/
theorem skip_one {P:Program} {ops:Array Oper} {Q:Exit → Act → World → Prop} {md:Region.Mode} {S:World → Prop} (i d:Nat) {oi:Oper} {fuel:Nat} {listed:Array Bool} {a:Act} {w:World} (hi:ops[i]?=some oi) (hd:oi.dst=some d)
  (hs:Region.noSelect ops=true) (hf:Region.free md ops listed i=true) (hr:(Region.ready md ops listed).contains i=true) (hQ:∀ c a w,Q (.panic c) (a.put (some d) undef) w → Q (.panic c) a w)
  (hw:Region.wanted oi (yielded ops a.tmps)=false) (hS:S w) (h:wpAnyH P md ops Q S fuel (listed.setIfInBounds i true) (a.put (some d) undef) w):wpAnyH P md ops Q S (fuel + 1) listed a w :=
 take_one i d hi hd hs hf hr hQ (Or.inr ⟨hw,rfl⟩) hS h
theorem pa {α:Type} (l:List α) (i:Nat) (v:α):l.toArray.setIfInBounds i v=(l.set i v).toArray:=List.setIfInBounds_toArray _ _ _
theorem pb {α:Type} (x y:α) (l:List α):(x :: l).set 0 y=y :: l:=List.set_cons_zero
theorem pc {α:Type} (x y:α) (l:List α) (i:Nat):(x :: l).set (i + 1) y=x :: l.set i y:=List.set_cons_succ
theorem tk {P:Program} {ops:Array Oper} {Q:Exit → Act → World → Prop} {md:Region.Mode} {S:World → Prop} (i d:Nat) {oi:Oper} {fuel:Nat} {listed:Array Bool} {a:Act} {w:World} (hi:ops[i]?=some oi) (v:Value) (hS:S w)
  (hy:∀ w,S w → (execOp a.eval oi).run P w=.ok (.value v) w) (h:wpAnyH P md ops Q S fuel (listed.setIfInBounds i true) (a.put (some d) v) w)
  (hd:oi.dst=some d:=by rfl) (hb:(Region.noSelect ops && (Region.free md ops listed i && (Region.ready md ops listed).contains i))=true:=by kernel_rfl)
  (hQ:∀ c a w,Q (.panic c) (a.put (some d) v) w → Q (.panic c) a w:=by exact fun _ _ _ h=>h) (hw:Region.wanted oi (yielded ops a.tmps)=true:=by rfl):wpAnyH P md ops Q S (fuel + 1) listed a w:=by
 simp only [Bool.and_eq_true] at hb
 exact take_one i d hi hd hb.1 hb.2.1 hb.2.2 hQ (Or.inl ⟨hw,hy⟩) hS h
theorem sk {P:Program} {ops:Array Oper} {Q:Exit → Act → World → Prop} {md:Region.Mode} {S:World → Prop} (i d:Nat) {oi:Oper} {fuel:Nat} {listed:Array Bool} {a:Act} {w:World} (hi:ops[i]?=some oi) (hS:S w) (hw:Region.wanted oi (yielded ops a.tmps)=false)
  (h:wpAnyH P md ops Q S fuel (listed.setIfInBounds i true) (a.put (some d) undef) w)
  (hd:oi.dst=some d:=by rfl) (hb:(Region.noSelect ops && (Region.free md ops listed i && (Region.ready md ops listed).contains i))=true:=by kernel_rfl)
  (hQ:∀ c a w,Q (.panic c) (a.put (some d) undef) w → Q (.panic c) a w:=by exact fun _ _ _ h=>h):wpAnyH P md ops Q S (fuel + 1) listed a w:=by
 simp only [Bool.and_eq_true] at hb
 exact skip_one i d hi hd hb.1 hb.2.1 hb.2.2 hQ hw hS h
end Go.Proofs.YtcaieniddnhkbaaGreatDoor
