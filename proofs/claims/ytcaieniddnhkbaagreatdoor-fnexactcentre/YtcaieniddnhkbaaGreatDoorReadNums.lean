/- What reads lists of numbers: the program and the model, one contract each; marks in a row of numbers. -/
import Derived.Test.YtcaieniddnhkbaaGreatDoorAb
import Derived.Test.YtcaieniddnhkbaaGreatDoorNums
import Derived.Laws.OwnMore
import Derived.Lib.SmallJoins
import Derived.Test.YtcaieniddnhkbaaGreatDoorWalks
set_option linter.unusedVariables false
namespace Go.Proofs.YtcaieniddnhkbaaGreatDoor
open Go.RowKit Own Var Term
theorem psL_size (n:Nat):∀ r E,rep (bh 7) n r=some E → ∀ x ∈ psL n r,x.size ≤ r.size:=by
 induction n with
 | zero=>intro r E _ x hx;simp [psL] at hx
 | succ n ih =>
  intro r E h x hx
  obtain ⟨r',h1,h2⟩:=rep_succ h
  rw [psL_succ (bh_mono 7 r r' h1)] at hx
  obtain ⟨j,_,hj,hr⟩:=bh_suf 7 r r' h1
  have hz:r'.size ≤ r.size:=by rw [hr,suf_size];omega
  rcases List.mem_cons.1 hx with rfl | hx
  ·exact ext_size _ _
  ·exact Nat.le_trans (ih r' E h2 x hx) hz
theorem parts_size (s:ByteArray):∀ x ∈ (partsR s).1,x.size ≤ 900:=by
 unfold partsR
 cases hr:rk s 108 with
 | none=>intro x hx;simp at hx
 | some q =>
  obtain ⟨n,r⟩:=q
  obtain ⟨hn,E,hE⟩:=rk_list hr
  have hf:=rk_facts hr
  intro x hx
  have:=psL_size n r E hE x hx
  omega
theorem parts_no (s:ByteArray) (h:(partsR s).2=false):(partsR s).1=[]:=by
 unfold partsR at h ⊢
 cases hr:rk s 108 with
 | none=>rfl
 | some q=>rw [hr] at h;cases h
/-- What ReadNums tells, of the parts. -/
def numsP (xs:List ByteArray) (b:Bool):List Int × Bool:=if (b && xs.all fun x=>(numR x).2)=true then (xs.map fun x=>(numR x).1,true) else ([],false)
def numsR (s:ByteArray):List Int × Bool:=numsP (partsR s).1 (partsR s).2
/-- The cells of numbers; of the first k parts'. -/
def intV (zs:List Int):List Value:=zs.map (Value.int .i64)
def rowR (xs:List ByteArray) (k:Nat):List Value:=intV ((xs.take k).map fun x=>(numR x).1)
theorem rowR_succ (xs:List ByteArray) (k:Nat) (h:k < xs.length):rowR xs k ++ [I (numR xs[k]).1]=rowR xs (k + 1):=by
 unfold rowR intV;rw [List.take_succ_eq_append_getElem h,List.map_append,List.map_append];rfl
theorem rowR_full (xs:List ByteArray):rowR xs xs.length=intV (xs.map fun x=>(numR x).1):=by unfold rowR;rw [List.take_length]
theorem own_rowAt {α:Type} {f:α → Value} {w:World} {base n c:Nat} {a:Option Addr} {e:TypeId} {xs:List α} (h:w.ownsRow base e 1 (.slice a n c) n (xs.map f)):RowAt f w a xs:=by
 obtain ⟨a',c',e',_,hr⟩:=own_row h
 injection e' with e1 e2 e3
 subst e1
 exact hr
theorem own_ne {w:World} {b b' n n':Nat} {v v':Value} {xs xs':List Value} (h:w.ownsRow b 9 1 v n xs) (h':w.ownsRow b' 3 1 v' n' xs'):v.ownBlock=none ∨ v.ownBlock ≠ v'.ownBlock:=by
 rcases h.2 with ⟨rfl,_⟩ | ⟨g,cap,cur,rfl,_,hg,_⟩
 ·exact Or.inl rfl
 ·right
  rcases h'.2 with ⟨rfl,_⟩ | ⟨g',cap',cur',rfl,_,hg',_⟩
  ·simp [Value.ownBlock]
  ·intro e
   simp only [Value.ownBlock,Option.some.injEq] at e
   subst e
   rw [hg] at hg'
   simp at hg'
set_option maxRecDepth 100000 in
set_option maxHeartbeats 1600000 in
theorem impl_readNums (s:ByteArray) (w:World) (hs:s.size ≤ 1048576) :
  Calls Tryz.prog 145 #[.string s] w fun e w'=>∃ v,e=.returned (.tuple #[v,.bool (numsR s).2])∧w'.ownsRow w.heap.size 3 1 v (numsR s).1.length (intV (numsR s).1)∧Below w.heap.size w w':=by
 have hP:=impl_parts s w hs
 have hl:=parts_len s
 have hsz:=parts_size s
 have hno:=parts_no s
 unfold numsR
 generalize (partsR s).1=xs at *
 generalize (partsR s).2=b at *
 cases b with
 | false =>
  obtain rfl:=hno rfl
  have e:numsP [] false=([],false):=rfl
  rw [e]
  clear hno
  go_enter Tryz.func145,Tryz.ntmps145
  go_wp2_with fail
  refine hP.mono ?_
  rintro e w1 ⟨v,rfl,ho,hb⟩
  go_wp2
  go_ret2
  exact ⟨_,rfl,World.ownsRow_nil _ _ _ _,hb⟩
 | true =>
  clear hno
  obtain ⟨i0,hi,hz0,hz1,hz2⟩:=info_parts infoInt
  go_enter Tryz.func145,Tryz.ntmps145
  go_wp2_with fail
  refine hP.mono ?_
  rintro e w1 ⟨v,rfl,ho,hb⟩
  obtain ⟨a,c,rfl,_,_⟩:=own_row ho
  clear hP
  go_wp2_with (first | (at_make;refine wpList_make_own _ rfl _ _ 24 rfl w.heap.size 3 i0 (I 0) 1 Tryz.underlying24 hi hz0 hz1 .i64 .i64 xs.length xs.length rfl rfl rfl (by rw [hz2];omega) (by unfold maxLen;omega) hb.size ?_) | go_in)
  intro w2 hown0 hgrow0
  have hb2:Below w1.heap.size w1 w2:=(Below.refl w1.heap.size w1).grown hgrow0 (Nat.le_refl _) (by simp)
  have hbel0:=hb.trans (hb2.mono hb.size)
  have ho2:=own_later ho hb2
  clear hgrow0 hb hb2 ho
  go_wp2
  go_loopw [6,23] (fun v i wr=>∃ k:Nat,k ≤ xs.length∧i=I k∧Hid (∀ j (h:j < xs.length),j < k → (numR xs[j]).2=true)∧wr.ownsRow w.heap.size 3 1 v k (rowR xs k)∧wr.ownsRow w.heap.size 9 1 (.slice a xs.length c) xs.length (strV xs)∧Below w.heap.size w wr) (fun _ i _=>xs.length - (intOf i).toNat)
  case atStart=>exact ⟨0,by omega,rfl,fun j h hj=>absurd hj (by omega),hown0,ho2,hbel0⟩
  case round =>
   clear hown0 hbel0 ho2
   obtain ⟨k,hk,rfl,G,hown,hpo,hbel⟩:=hrel
   by_cases hlt:k < xs.length
   ·obtain ⟨b,off,rfl,hbl,hcell⟩:=own_rowAt hpo k hlt
    have hx:=hsz xs[k] (List.getElem_mem hlt)
    have hN:=fun w=>impl_readNum xs[k] w (by omega)
    have HP:Hid (rowR xs k ++ [I (numR xs[k]).1]=rowR xs (k + 1)):=rowR_succ xs k hlt
    have HN:Hid ((numR xs[k]).2=false → numsP xs true=([],false)):=(fun h=>by
     unfold numsP;rw [if_neg];intro c
     rw [Bool.true_and,List.all_eq_true] at c
     rw [c _ (List.getElem_mem hlt)] at h;exact absurd h (by decide):(numR xs[k]).2=false → numsP xs true=([],false))
    have HY:Hid ((numR xs[k]).2=true → ∀ j (h:j < xs.length),j < k + 1 → (numR xs[j]).2=true):=(fun hz j h hj=>by
     by_cases e:j=k
     ·subst e;exact hz
     ·exact G.out j h (by omega):(numR xs[k]).2=true → ∀ j (h:j < xs.length),j < k + 1 → (numR xs[j]).2=true)
    generalize (numR xs[k]).1=z at hN HP
    generalize (numR xs[k]).2=f at hN HN HY
    generalize xs[k]=x at hcell hx hN
    cases f with
    | false =>
     have HN2:Hid (numsP xs true=([],false)):=HN.out rfl
     clear HN HY
     go_wp2_with fail
     refine (hN _).mono ?_
     rintro e w3 ⟨rfl,hb3⟩
     have hb4:=hbel.trans (hb3.mono hbel.size)
     go_wp2
     go_ret2
     rw [HN2.out]
     exact ⟨_,rfl,World.ownsRow_nil _ _ _ _,hb4⟩
    | true =>
     have HY2:Hid (∀ j (h:j < xs.length),j < k + 1 → (numR xs[j]).2=true):=HY.out rfl
     clear HN HY
     go_wp2_with fail
     refine (hN _).mono ?_
     rintro e w3 ⟨rfl,hb3⟩
     have hb4:=hbel.trans (hb3.mono hbel.size)
     have hown1:=own_later hown hb3
     have hpo1:=own_later hpo hb3
     have hne:=own_ne hpo1 hown1
     clear hown hbel hb3 hcell hN hpo
     go_wp2_with (first | (at_builtin;refine wpList_append_own _ rfl _ _ 24 rfl w.heap.size 3 i0 (I 0) 1 8 Tryz.underlying24 hi hz0 hz1 hz2 rfl (by decide) _ _ _ rfl (hown1.alloc _) ⟨w3.heap.size,0,none⟩ 1 1 [I z] rfl rfl (cell_one_new _ _ _) ?c2 ?c3 ?c4 ?c5 ?_) | go_in)
     case c2=>intro u hu;simp at hu;subst hu;rfl
     case c3=>unfold maxLen;omega
     case c4=>omega
     case c5=>have:=hb4.size;simp;omega
     intro v' w4 hown' hgrow _
     have hb6:=below_app hb4 (Nat.le_refl _) hown1 hgrow
     have hpo2:=(hpo1.alloc _).kept hgrow hne
     rw [HP.out] at hown'
     clear hgrow hown1 hb4 hpo1 hne
     go_wp2
     go_roundw
     case rel =>
      have R:∃ k':Nat,k' ≤ xs.length∧Value.int .i64 ((k:Int) + 1)=I k'∧Hid (∀ j (h:j < xs.length),j < k' → (numR xs[j]).2=true)∧w4.ownsRow w.heap.size 3 1 v' k' (rowR xs k')∧w4.ownsRow w.heap.size 9 1 (.slice (some ⟨b,off,none⟩) xs.length c) xs.length (strV xs)∧Below w.heap.size w w4 :=
       ⟨k + 1,by omega,by go_num,HY2,hown',hpo2,hb6⟩
      first | exact R | ((repeat apply Exists.intro);exact ⟨R,rfl⟩)
     case measure=>simp [intOf];omega
   ·have hall:(xs.all fun x=>(numR x).2)=true:=by
     rw [List.all_eq_true]
     intro x hx
     obtain ⟨j,hj,rfl⟩:=List.getElem_of_mem hx
     exact G.out j hj (by omega)
    have HE:Hid (numsP xs true=(xs.map fun x=>(numR x).1,true)):=(by unfold numsP;rw [Bool.true_and,if_pos hall]:numsP xs true=(xs.map fun x=>(numR x).1,true))
    obtain rfl:k=xs.length:=by omega
    rw [rowR_full] at hown
    have hln:(xs.map fun x=>(numR x).1).length=xs.length:=List.length_map ..
    clear hall G hpo
    generalize (xs.map fun x=>(numR x).1)=zs at *
    go_wp2
    go_ret2
    rw [HE.out]
    exact ⟨_,rfl,by rw [hln];exact hown,hbel⟩
set_option maxRecDepth 100000 in
set_option maxHeartbeats 1600000 in
theorem spec_readNums (s:ByteArray) (w:World) (hs:s.size ≤ 1048576) :
  Calls Tryz.prog 34 #[.string s] w fun e w'=>∃ v,e=.returned (.tuple #[v,.bool (numsR s).2])∧w'.ownsRow w.heap.size 3 1 v (numsR s).1.length (intV (numsR s).1)∧Below w.heap.size w w':=by
 have hb0:Below w.heap.size w (w.alloc (.cells #[] 3)):=(Below.refl _ _).alloc (Nat.le_refl _) _
 have hlit:∀ W:World,w.heap.size ≤ W.heap.size → (W.alloc (.cells #[] 3)).ownsRow w.heap.size 3 1 (.slice (some ⟨W.heap.size,0,none⟩) 0 0) 0 []:=fun W hW=>World.ownsRow_lit _ _ _ hW (by unfold maxLen;omega) rfl
 have hP:=spec_parts s (w.alloc (.cells #[] 3)) hs
 have hl:=parts_len s
 have hsz:=parts_size s
 unfold numsR
 generalize (partsR s).1=xs at *
 generalize (partsR s).2=b at *
 obtain ⟨i0,hi,hz0,hz1,hz2⟩:=info_parts infoInt
 go_enter Tryz.func34,Tryz.ntmps34
 go_wp2_with fail
 refine hP.mono ?_
 rintro e w1 ⟨v,rfl,ho,hb⟩
 obtain ⟨a,c,rfl,_,_⟩:=own_row ho
 have hb1:=hb0.trans (hb.mono hb0.size)
 have hown0:=own_later (hlit w (Nat.le_refl _)) hb
 clear hP hb0 hb
 go_wp2
 go_loopw [4,6,7] (fun v B i wr=>∃ (k:Nat) (f:Bool),k ≤ xs.length∧i=I k∧B=.bool f∧Hid (f=(b && (xs.take k).all fun x=>(numR x).2))∧wr.ownsRow w.heap.size 3 1 v k (rowR xs k)∧wr.ownsRow (w.alloc (.cells #[] 3)).heap.size 9 1 (.slice a xs.length c) xs.length (strV xs)∧Below w.heap.size w wr) (fun _ _ i _=>xs.length - (intOf i).toNat)
 case atStart=>exact ⟨0,b,by omega,rfl,rfl,(by simp:b=(b && (xs.take 0).all fun x=>(numR x).2)),hown0,ho,hb1⟩
 case round =>
  clear hown0 hb1 ho
  obtain ⟨k,f,hk,rfl,rfl,HF,hown,hpo,hbel⟩:=hrel
  by_cases hlt:k < xs.length
  ·obtain ⟨bb,off,rfl,hbl,hcell⟩:=own_rowAt hpo k hlt
   have hx:=hsz xs[k] (List.getElem_mem hlt)
   have hN:=fun w=>spec_readNum xs[k] w (by omega)
   have HP:Hid (rowR xs k ++ [I (numR xs[k]).1]=rowR xs (k + 1)):=rowR_succ xs k hlt
   have HF2:Hid ((f && (numR xs[k]).2)=(b && (xs.take (k + 1)).all fun x=>(numR x).2)):=(by
    rw [HF.out,List.take_succ_eq_append_getElem hlt,List.all_append,Bool.and_assoc];simp:(f && (numR xs[k]).2)=(b && (xs.take (k + 1)).all fun x=>(numR x).2))
   generalize (numR xs[k]).1=z at hN HP
   generalize (numR xs[k]).2=g at hN HF2
   generalize xs[k]=x at hcell hx hN
   go_wp2_with fail
   refine (hN _).mono ?_
   rintro e w3 ⟨rfl,hb3⟩
   have hb4:=hbel.trans (hb3.mono hbel.size)
   have hown1:=own_later hown hb3
   have hpo1:=own_later hpo hb3
   have hne:=own_ne hpo1 hown1
   clear hown hbel hb3 hcell hN hpo
   cases f
   all_goals
    go_wp2_with (first | (at_builtin;refine wpList_append_own _ rfl _ _ 24 rfl w.heap.size 3 i0 (I 0) 1 8 Tryz.underlying24 hi hz0 hz1 hz2 rfl (by decide) _ _ _ rfl (hown1.alloc _) ⟨w3.heap.size,0,none⟩ 1 1 [I z] rfl rfl (cell_one_new _ _ _) ?c2 ?c3 ?c4 ?c5 ?_) | go_in)
    case c2=>intro u hu;simp at hu;subst hu;rfl
    case c3=>unfold maxLen;omega
    case c4=>omega
    case c5=>have:=hb4.size;simp;omega
    intro v' w4 hown' hgrow _
    have hb6:=below_app hb4 (Nat.le_refl _) hown1 hgrow
    have hpo2:=(hpo1.alloc _).kept hgrow hne
    rw [HP.out] at hown'
    clear hgrow hown1 hb4 hpo1 hne
    go_wp2
    go_roundw
    case rel =>
     have R:∀ F:Bool,F=(b && (xs.take (k + 1)).all fun x=>(numR x).2) → ∃ (k':Nat) (f':Bool),k' ≤ xs.length∧Value.int .i64 ((k:Int) + 1)=I k'∧Value.bool F=.bool f'∧Hid (f'=(b && (xs.take k').all fun x=>(numR x).2))∧w4.ownsRow w.heap.size 3 1 v' k' (rowR xs k')∧w4.ownsRow (w.alloc (.cells #[] 3)).heap.size 9 1 (.slice (some ⟨bb,off,none⟩) xs.length c) xs.length (strV xs)∧Below w.heap.size w w4 :=
      fun F hF=>⟨k + 1,F,by omega,by go_num,rfl,hF,hown',hpo2,hb6⟩
     have hF:=HF2.out
     first | exact R _ (by simpa using hF) | ((repeat apply Exists.intro);exact ⟨R _ (by simpa using hF),rfl⟩)
    case measure=>simp [intOf];omega
  ·obtain rfl:k=xs.length:=by omega
   have hF:=HF.out
   rw [List.take_length] at hF
   rw [rowR_full] at hown
   cases f with
   | true =>
    have HE:Hid (numsP xs b=(xs.map fun x=>(numR x).1,true)):=(by unfold numsP;rw [if_pos hF.symm]:numsP xs b=(xs.map fun x=>(numR x).1,true))
    have hln:(xs.map fun x=>(numR x).1).length=xs.length:=List.length_map ..
    clear hF HF hpo
    generalize (xs.map fun x=>(numR x).1)=zs at *
    go_wp2
    go_ret2
    rw [HE.out]
    exact ⟨_,rfl,by rw [hln];exact hown,hbel⟩
   | false =>
    have HE:Hid (numsP xs b=([],false)):=(by unfold numsP;rw [← hF];rfl:numsP xs b=([],false))
    have ho5:=hlit wr hbel.size
    clear hF HF hpo hown
    go_wp2
    go_ret2
    rw [HE.out]
    exact ⟨_,rfl,ho5,hbel.alloc hbel.size _⟩
end Go.Proofs.YtcaieniddnhkbaaGreatDoor
set_option linter.unusedVariables false
namespace Go.Proofs.YtcaieniddnhkbaaGreatDoor
open Go Go.RowKit Go.Joins Own Var Term
def just {α:Type} (z:α) (L:List α) (n:Nat):List α:=if L.length=n then L else List.replicate n z
theorem just_len {α:Type} (z:α) (L:List α) (n:Nat):(just z L n).length=n:=by
 unfold just
 split
 ·assumption
 ·simp
theorem partsR_len (x:ByteArray):(partsR x).1.length ≤ 12:=by
 unfold partsR
 cases hr:rk x 108 with
 | none=>simp
 | some q =>
  obtain ⟨n,r⟩:=q
  obtain ⟨hn,E,hE⟩:=rk_list hr
  show (psL n r).length ≤ 12
  rw [psL_len n r E hE]
  exact hn
theorem numsR_len (x:ByteArray):(numsR x).1.length ≤ 12:=by
 unfold numsR numsP
 split
 ·simp [partsR_len]
 ·simp
set_option maxRecDepth 100000 in
set_option maxHeartbeats 800000 in
theorem justnumbers_is (v:Value) (L:List Int) (n base:Nat) (w:World) (ho:w.ownsRow base 3 1 v L.length (intV L)) (hl:L.length ≤ 1048576) (hn:n ≤ 1048576) (hb:base ≤ w.heap.size) :
  Calls Tryz.prog 146 #[v,I n] w fun e w'=>∃ u,e=.returned u∧w'.ownsRow base 3 1 u n (intV (just (0:Int) L n))∧Below w.heap.size w w':=by
 obtain ⟨a,cap,rfl,hcap,hrow⟩:=own_row (f:=(Value.int .i64)) ho
 by_cases h:L.length=n
 ·have hd:((L.length:Int) == (n:Int))=true:=by simp;omega
  have hj:just (0:Int) L n=L:=by unfold just;rw [if_pos h]
  rw [hj]
  subst h
  clear hrow
  go_enter Tryz.func146,Tryz.ntmps146
  go_wp2
  go_ret
  exact ⟨_,rfl,ho,Below.refl _ _⟩
 ·have hd:((L.length:Int) == (n:Int))=false:=by simp;omega
  have hj:just (0:Int) L n=List.replicate n (0:Int):=by unfold just;rw [if_neg h]
  rw [hj]
  obtain ⟨i0,hi,hz0,hz1,hz2⟩:=info_parts infoInt
  clear hrow ho
  go_enter Tryz.func146,Tryz.ntmps146
  go_wp2_with (first | (at_make;refine wpList_make_full _ rfl _ _ 24 rfl w.heap.size 3 i0 ((Value.int .i64) (0:Int)) 1 Tryz.underlying24 hi hz0 hz1 .i64 .i64 n n n rfl rfl rfl rfl (by rw [hz2];omega) (by unfold maxLen;omega) (Nat.le_refl _) ?_) | go_in)
  intro w1 hown hgrow
  have hbel:=(Below.refl w.heap.size w).grown hgrow (Nat.le_refl _) (by simp)
  clear hgrow
  rw [toList_madeCells_one] at hown
  go_wp2
  go_ret
  refine ⟨_,rfl,?_,hbel⟩
  have e:intV (List.replicate n (0:Int))=List.replicate n ((Value.int .i64) (0:Int)):=by unfold intV;simp
  rw [e]
  exact ownsRow_le hown hb
set_option maxRecDepth 100000 in
set_option maxHeartbeats 800000 in
theorem numbersOf_is (x:ByteArray) (n:Nat) (w:World) (hx:x.size ≤ 1048576) (hn:n ≤ 1048576) :
  Calls Tryz.prog 107 #[.string x,I n] w fun e w'=>∃ u,e=.returned u∧w'.ownsRow w.heap.size 3 1 u n (intV (just (0:Int) (numsR x).1 n))∧Below w.heap.size w w':=by
 have HL:(numsR x).1.length ≤ 1048576:=Nat.le_trans (numsR_len x) (by omega)
 have HC:=impl_readNums x w hx
 generalize (numsR x).1=L at HC HL ⊢
 generalize (numsR x).2=bb at HC
 go_enter Tryz.func107,Tryz.ntmps107
 go_wp2_with fail
 refine HC.mono ?_
 rintro e w1 ⟨v,rfl,ho,hb1⟩
 clear HC
 have HJ:=justnumbers_is v L n w.heap.size w1 ho HL hn hb1.size
 obtain ⟨a,cap,rfl,_,_⟩:=own_row (f:=(Value.int .i64)) ho
 clear ho
 go_wp2_with fail
 refine HJ.mono ?_
 rintro e w2 ⟨u,rfl,ho2,hb2⟩
 have B2:=hb1.trans (hb2.mono hb1.size)
 clear HJ hb1 hb2
 obtain ⟨a2,cap2,rfl,_,_⟩:=own_row (f:=(Value.int .i64)) (xs:=just (0:Int) L n) ho2
 go_wp2
 go_ret
 exact ⟨_,rfl,ho2,B2⟩
set_option maxRecDepth 100000 in
set_option maxHeartbeats 800000 in
theorem justparts_is (v:Value) (L:List ByteArray) (n base:Nat) (w:World) (ho:w.ownsRow base 9 1 v L.length (strV L)) (hl:L.length ≤ 1048576) (hn:n ≤ 1048576) (hb:base ≤ w.heap.size) :
  Calls Tryz.prog 207 #[v,I n] w fun e w'=>∃ u,e=.returned u∧w'.ownsRow base 9 1 u n (strV (just (⟨#[]⟩:ByteArray) L n))∧Below w.heap.size w w':=by
 obtain ⟨a,cap,rfl,hcap,hrow⟩:=own_row (f:=Value.string) ho
 by_cases h:L.length=n
 ·have hd:((L.length:Int) == (n:Int))=true:=by simp;omega
  have hj:just (⟨#[]⟩:ByteArray) L n=L:=by unfold just;rw [if_pos h]
  rw [hj]
  subst h
  clear hrow
  go_enter Tryz.func207,Tryz.ntmps207
  go_wp2
  go_ret
  exact ⟨_,rfl,ho,Below.refl _ _⟩
 ·have hd:((L.length:Int) == (n:Int))=false:=by simp;omega
  have hj:just (⟨#[]⟩:ByteArray) L n=List.replicate n (⟨#[]⟩:ByteArray):=by unfold just;rw [if_neg h]
  rw [hj]
  obtain ⟨i0,hi,hz0,hz1,hz2⟩:=info_parts infoStr
  clear hrow ho
  go_enter Tryz.func207,Tryz.ntmps207
  go_wp2_with (first | (at_make;refine wpList_make_full _ rfl _ _ 37 rfl w.heap.size 9 i0 (Value.string (⟨#[]⟩:ByteArray)) 1 Tryz.underlying37 hi hz0 hz1 .i64 .i64 n n n rfl rfl rfl rfl (by rw [hz2];omega) (by unfold maxLen;omega) (Nat.le_refl _) ?_) | go_in)
  intro w1 hown hgrow
  have hbel:=(Below.refl w.heap.size w).grown hgrow (Nat.le_refl _) (by simp)
  clear hgrow
  rw [toList_madeCells_one] at hown
  go_wp2
  go_ret
  refine ⟨_,rfl,?_,hbel⟩
  have e:strV (List.replicate n (⟨#[]⟩:ByteArray))=List.replicate n (Value.string (⟨#[]⟩:ByteArray)):=by unfold strV;simp
  rw [e]
  exact ownsRow_le hown hb
set_option maxRecDepth 100000 in
set_option maxHeartbeats 800000 in
theorem partsOf_is (x:ByteArray) (n:Nat) (w:World) (hx:x.size ≤ 1048576) (hn:n ≤ 1048576) :
  Calls Tryz.prog 198 #[.string x,I n] w fun e w'=>∃ u,e=.returned u∧w'.ownsRow w.heap.size 9 1 u n (strV (just (⟨#[]⟩:ByteArray) (partsR x).1 n))∧Below w.heap.size w w':=by
 have HL:(partsR x).1.length ≤ 1048576:=Nat.le_trans (partsR_len x) (by omega)
 have HC:=impl_parts x w hx
 generalize (partsR x).1=L at HC HL ⊢
 generalize (partsR x).2=bb at HC
 go_enter Tryz.func198,Tryz.ntmps198
 go_wp2_with fail
 refine HC.mono ?_
 rintro e w1 ⟨v,rfl,ho,hb1⟩
 clear HC
 have HJ:=justparts_is v L n w.heap.size w1 ho HL hn hb1.size
 obtain ⟨a,cap,rfl,_,_⟩:=own_row (f:=Value.string) ho
 clear ho
 go_wp2_with fail
 refine HJ.mono ?_
 rintro e w2 ⟨u,rfl,ho2,hb2⟩
 have B2:=hb1.trans (hb2.mono hb1.size)
 clear HJ hb1 hb2
 obtain ⟨a2,cap2,rfl,_,_⟩:=own_row (f:=Value.string) (xs:=just (⟨#[]⟩:ByteArray) L n) ho2
 go_wp2
 go_ret
 exact ⟨_,rfl,ho2,B2⟩
end Go.Proofs.YtcaieniddnhkbaaGreatDoor
set_option linter.unusedVariables false
namespace Go.Proofs.YtcaieniddnhkbaaGreatDoor
open Go.RowKit Own Var Term
theorem app_assoc (a b c:ByteArray):a ++ b ++ c=a ++ (b ++ c):=by apply ext_list;simp only [data_append,List.append_assoc]
theorem nil_app (a:ByteArray):⟨#[]⟩ ++ a=a:=by apply ext_list;rw [data_append];simp
theorem take_suf (t:ByteArray) (n:Nat):t=t.extract 0 n ++ suf t n:=by
 apply ext_list
 rw [data_append,suf_list,extract_list,List.drop_zero,Nat.sub_zero,List.take_append_drop]
theorem suf_app (a b:ByteArray):suf (a ++ b) a.size=b:=by
 apply ext_list
 rw [suf_list,data_append,size_list,List.drop_left]
theorem ext_size_eq (t:ByteArray) (n:Nat) (h:n ≤ t.size):(t.extract 0 n).size=n:=by simp [ByteArray.size_extract];omega
/-- The head of a term, and what stands behind it. -/
theorem cut_form {x t:ByteArray} {n:Nat} (h:cut x=some (n,t)):∃ c:UInt8,x=hdT c n ++ t∧hdOk c.toNat n=true∧at_ x 0=c.toNat∧n ≤ 562949953421311:=by
 have hz:=cut_size h
 unfold cut at h
 split at h
 ·rename_i c
  simp only [Option.some.injEq,Prod.mk.injEq] at h
  obtain ⟨h1,h2⟩:=h
  obtain ⟨c1,c2,c3⟩:=c
  have hl:0 < x.data.toList.length:=by rw [← size_list];omega
  obtain ⟨b,l,hbl⟩:∃ b l,x.data.toList=b :: l:=by
   cases hx:x.data.toList with
   | nil=>rw [hx] at hl;simp at hl
   | cons b l=>exact ⟨b,l,rfl⟩
  have hat:at_ x 0=b.toNat:=by unfold at_;rw [hbl];rfl
  have hA:=rv_ans (suf x 1)
  have hs1:(suf x 1).data.toList=l:=by rw [suf_list,hbl];rfl
  rw [h1,hat] at c3
  have hn:=rvN_le (suf x 1)
  rw [h1] at hn hA
  rcases hA with ⟨_,hk0,_⟩ | ⟨k1,k7,ks,hc,hv⟩
  ·omega
  ·have hcv:=(canonK_iff (suf x 1) (rvK (suf x 1) - 1) (by omega)).1 hc
   rw [(by omega:rvK (suf x 1) - 1 + 1=rvK (suf x 1)),← hv,hs1] at hcv
   refine ⟨b,?_,c3,hat,hn⟩
   apply ext_list
   rw [data_append,hdT,data_append,varOf_nat n hn,← h2,suf_list,hbl]
   have e1:(⟨#[b]⟩:ByteArray).data.toList=[b]:=rfl
   have e2:(⟨(varB n).toArray⟩:ByteArray).data.toList=varB n:=by simp
   rw [e1,e2,hcv,(by omega:1 + rvK (suf x 1)=rvK (suf x 1) + 1),List.drop_succ_cons]
   simp
 ·simp at h
/-- What was read stands ahead, and would be read whatever stands behind. -/
def Pre (g:ByteArray → Option ByteArray):Prop:=∀ x r,g x=some r → ∃ p,x=p ++ r∧∀ y,g (p ++ y)=some y
theorem rep_pre {g:ByteArray → Option ByteArray} (H:Pre g) (n:Nat):Pre (rep g n):=by
 induction n with
 | zero =>
  intro x r h
  simp only [rep,Option.some.injEq] at h
  subst h
  exact ⟨⟨#[]⟩,(nil_app x).symm,fun y=>by rw [nil_app];rfl⟩
 | succ n ih =>
  intro x r h
  obtain ⟨x',h1,h2⟩:=rep_succ h
  obtain ⟨p,e1,q1⟩:=H x x' h1
  obtain ⟨p',e2,q2⟩:=ih x' r h2
  refine ⟨p ++ p',by rw [e1,e2,app_assoc],fun y=>?_⟩
  rw [rep,app_assoc,q1 (p' ++ y)]
  exact q2 y
theorem bh_pre (f:Nat):Pre (bh f):=by
 induction f with
 | zero=>intro x r h;simp [bh] at h
 | succ f ih =>
  intro x r h
  cases hc:cut x with
  | none=>rw [bh_none hc] at h;cases h
  | some q =>
   obtain ⟨n,t⟩:=q
   obtain ⟨c,rfl,hk,hat,hn⟩:=cut_form hc
   have hcy:∀ y,cut (hdT c n ++ y)=some (n,y):=fun y=>by rw [cut_made c n hn y,if_pos hk]
   have hay:∀ y,at_ (hdT c n ++ y) 0=c.toNat:=fun y=>at_one c n y
   rw [bh_some hc,hat] at h
   have hby:∀ y,bh (f + 1) (hdT c n ++ y)=_:=fun y=>bh_some (hcy y)
   simp only [hay] at hby
   by_cases h97:c.toNat=97
   ·simp only [h97,if_true] at h hby
    split at h
    ·rename_i hle
     simp only [Option.some.injEq] at h
     subst h
     refine ⟨hdT c n ++ t.extract 0 n,by rw [app_assoc,← take_suf],fun y=>?_⟩
     have hz:=ext_size_eq t n hle
     rw [app_assoc,hby,if_pos (by rw [ByteArray.size_append];omega)]
     have:=suf_app (t.extract 0 n) y
     rw [hz] at this
     rw [this]
    ·cases h
   ·simp only [h97,if_false] at h hby
    by_cases h108:c.toNat=108
    ·simp only [h108,if_true] at h hby
     obtain ⟨p,e,q⟩:=rep_pre ih n t r h
     exact ⟨hdT c n ++ p,by rw [e,app_assoc],fun y=>by rw [app_assoc,hby,q]⟩
    ·simp only [h108,if_false] at h hby
     by_cases h115:c.toNat=115
     ·simp only [h115,if_true] at h hby
      obtain ⟨p,e,q⟩:=ih t r h
      exact ⟨hdT c n ++ p,by rw [e,app_assoc],fun y=>by rw [app_assoc,hby,q]⟩
     ·simp only [h115,if_false,Option.some.injEq] at h hby
      subst h
      exact ⟨hdT c n,rfl,fun y=>hby y⟩
/-- A term is read whatever stands behind it. -/
theorem isT_app {x:ByteArray} (h:isT x=true) (y:ByteArray):bh 8 (x ++ y)=some y:=by
 obtain ⟨_,r,hb,hr⟩:=(isT_iff x).1 h
 obtain ⟨p,e,q⟩:=bh_pre 8 x r hb
 rw [empty_of r hr,app_nil] at e
 rw [e]
 exact q y
end Go.Proofs.YtcaieniddnhkbaaGreatDoor
