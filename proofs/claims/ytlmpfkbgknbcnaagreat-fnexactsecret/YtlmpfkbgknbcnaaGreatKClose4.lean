/- The model's closure, over rows that may be nil. -/
import Derived.Test.YtlmpfkbgknbcnaaGreatAb
import Derived.Test.YtlmpfkbgknbcnaaGreatKImplReach
import Derived.Test.YtlmpfkbgknbcnaaGreatKnow3
import Derived.Test.YtlmpfkbgknbcnaaGreatKClose3
set_option linter.unusedVariables false
namespace Go.Proofs.YtlmpfkbgknbcnaaGreat.Kn
open Go.RowKit _root_.Go.Proofs.YtlmpfkbgknbcnaaGreat.Own Var Term
set_option maxRecDepth 100000 in
set_option maxHeartbeats 25600000 in
theorem l3CloseN_is (a0 b0 : Option Addr) (ca cb : Nat) (xs : List ByteArray) (ks : List Int) (w : World) (hr : RowAt Value.string w a0 xs) (hq : RowAt (Value.int .i64) w b0 ks) (hK : kOk xs ks = true) :
  Calls Tryz.prog 49 #[.agg #[.slice a0 xs.length ca,.slice b0 ks.length cb]] w fun e w' => ∃ (a b : Option Addr) (ka kb : Nat) (S : List ByteArray) (K : List Int),e = .returned (.tuple #[.slice a S.length ka,.slice b K.length kb]) ∧ w'.ownsRow w.heap.size 9 1 (.slice a S.length ka) S.length (strV S) ∧ w'.ownsRow w.heap.size 3 1 (.slice b K.length kb) K.length (intV K) ∧
   Hid ((∀ t,t ∈ S ↔ SeenT xs ks t) ∧ (∀ k,k ∈ K ↔ ReachT xs ks k) ∧ K.Pairwise (· < ·) ∧ S.length ≤ 1000000000 ∧ K.length ≤ 1000000) ∧ Below w.heap.size w w':=by
 obtain ⟨i0,hi,hz0,hz1,hz2⟩:=info_parts infoStr
 obtain ⟨j0,hj0,hy0,hy1,hy2⟩:=info_parts infoInt
 obtain ⟨hTx,hnd,hks⟩:=kOk_facts hK
 obtain ⟨hl60,hl40⟩:=kOk_len hK
 have hpw:=pair_of' (kOk_keys' hK)
 have hsz : ∀ x,x ∈ xs → x.size ≤ 900:=fun x hx => ((isT_iff x).1 (hTx x hx)).1
 obtain ⟨UU,hUU⟩ : ∃ UU,(allInf xs).length = UU:=⟨_,rfl⟩
 have hUl : UU ≤ 48708060:=by
  have h1:=allInf_len xs hsz
  have h2 : xs.length * 811801 ≤ 60 * 811801:=Nat.mul_le_mul_right _ hl60
  omega
 have HLEN : Hid (∀ (S : List ByteArray) (K : List Int),Inv xs ks S K → S.length ≤ UU ∧ K.length ≤ 1000000):=fun S K h => by rw [← hUU]; exact h.len hks
 have HST : Hid (∀ (S : List ByteArray) (K : List Int),Inv xs ks S K → ∀ t,t ∈ S → t.size ≤ 1048576 ∧ SeenT xs ks t):=fun S K h t ht => ⟨by have:=((isT_iff t).1 (seen_isT hTx (h.2.1 t ht))).1; omega,h.2.1 t ht⟩
 have HI0 : Hid (Inv xs ks xs ks):=⟨hnd,fun t ht => (closed_least xs ks).1 t ht,fun k hk => (closed_least xs ks).2.1 k hk,hpw,fun t ht => ht,fun k hk => hk⟩
 clear hUU hTx hnd hks hpw hsz hK
 obtain ⟨W1,hW1⟩ : ∃ W1,w.alloc (.cells #[.slice a0 xs.length ca,.slice b0 ks.length cb] 41) = W1:=⟨_,rfl⟩
 have hb0 : Below w.heap.size w W1:=by rw [← hW1]; exact (Below.refl _ _).alloc (Nat.le_refl _) _
 have A1 : Bx W1 w.heap.size (.slice a0 xs.length ca) (.slice b0 ks.length cb):=by rw [← hW1]; exact Bx.new _ _ _ _
 have hbl : Below W1.heap.size W1 (W1.alloc (.cells #[] 9)):=(Below.refl _ _).alloc (Nat.le_refl _) _
 have hlit : (W1.alloc (.cells #[] 9)).ownsRow w.heap.size 9 1 (.slice (some ⟨W1.heap.size,0,none⟩) 0 0) 0 (strV []):=World.ownsRow_lit _ _ _ hb0.size (by unfold maxLen; omega) rfl
 have hn1:=news_row ((hr.later hb0).later hbl)
 have e1a:=(A1.later hbl).2.1
 go_enter Tryz.func49,Tryz.ntmps49
 go_wp2_with (first | (at_builtin; refine wpList_append_row _ rfl _ _ 26 rfl w.heap.size 9 i0 (.string ⟨#[]⟩) 1 16 Tryz.underlying26 hi hz0 hz1 hz2 rfl (by decide) _ _ _ rfl hlit a0 xs.length ca (strV xs) rfl ?c1 hn1 (one_str xs) ?c3 ?c4 ?c5 (row_nil hr) ?_) | go_in)
 case c1 => simp [strV]
 case c3 => unfold maxLen; omega
 case c4 => omega
 case c5 => have:=hb0.size; simp; omega
 intro vA wA ownA hgA
 have hbA : Below W1.heap.size W1 wA:=hbl.grown hgA (by simp) (by intro k hk; simp [Value.ownBlock] at hk; omega)
 try simp only [Nat.zero_add] at ownA
 have ownA2 : wA.ownsRow w.heap.size 9 1 vA xs.length (strV xs):=ownA
 clear ownA hgA hn1 hlit hbl e1a hW1
 have eA:=(A1.later hbA).2.2
 have hbA2:=hb0.trans (hbA.mono hb0.size)
 have hbl2 : Below wA.heap.size wA (wA.alloc (.cells #[] 3)):=(Below.refl _ _).alloc (Nat.le_refl _) _
 have hlit2 : (wA.alloc (.cells #[] 3)).ownsRow w.heap.size 3 1 (.slice (some ⟨wA.heap.size,0,none⟩) 0 0) 0 (intV []):=World.ownsRow_lit _ _ _ hbA2.size (by unfold maxLen; omega) rfl
 have hn2:=news_row ((hq.later hbA2).later hbl2)
 obtain ⟨aA,kA,rfl,_,_⟩:=own_row ownA2
 have eA2:=(hbl2.cell (p:=⟨w.heap.size,1,none⟩) (A1.later hbA).1).trans eA
 go_wp2_with (first | (at_builtin; refine wpList_append_row _ rfl _ _ 22 rfl w.heap.size 3 j0 (I 0) 1 8 Tryz.underlying22 hj0 hy0 hy1 hy2 rfl (by decide) _ _ _ rfl hlit2 b0 ks.length cb (intV ks) rfl ?c1 hn2 (one_int ks) ?c3 ?c4 ?c5 (row_nil hq) ?_) | go_in)
 case c1 => simp [intV]
 case c3 => unfold maxLen; omega
 case c4 => omega
 case c5 => have:=hbA2.size; simp; omega
 intro vB wB ownB hgB
 have hbB : Below wA.heap.size wA wB:=hbl2.grown hgB (by simp) (by intro k hk; simp [Value.ownBlock] at hk; omega)
 try simp only [Nat.zero_add] at ownB
 have ownB2 : wB.ownsRow w.heap.size 3 1 vB ks.length (intV ks):=ownB
 have ownA3:=own_later ownA2 hbB
 have belB:=hbA2.trans (hbB.mono hbA2.size)
 obtain ⟨bB,kB,rfl,_,_⟩:=own_row ownB2
 clear ownB hgB hn2 hlit2 hbl2 eA eA2 ownA2 hbB hbA2 hbA A1 hb0 hr hq
 go_wp2
 go_loopw [4,5] (fun v4 v5 wr => ∃ (S0 : List ByteArray) (K : List Int) (a : Option Addr) (ka : Nat) (b : Option Addr) (kb : Nat),v4 = .slice a S0.length ka ∧ v5 = .slice b K.length kb ∧ Hid (Inv xs ks S0 K) ∧ wr.ownsRow w.heap.size 9 1 (.slice a S0.length ka) S0.length (strV S0) ∧ wr.ownsRow w.heap.size 3 1 (.slice b K.length kb) K.length (intV K) ∧ Below w.heap.size w wr) (fun v4 v5 _ => UU + 1000001 - (lenV v4 + lenV v5))
 case atStart => exact ⟨xs,ks,aA,kA,bB,kB,rfl,rfl,HI0,ownA3,ownB2,belB⟩
 case round =>
  clear ownA3 ownB2 belB HI0
  obtain ⟨S0,K,a00,ka00,b00,kb00,rfl,rfl,HIo,own9,own3,bel⟩:=hrel
  have hlen0:=HLEN.out _ _ HIo.out
  go_wp2
  go_loopw [4,5,8] (fun v4 v5 ii wr => ∃ (S : List ByteArray) (K2 : List Int) (a : Option Addr) (ka : Nat) (b2 : Option Addr) (kb2 i : Nat),v4 = .slice a S.length ka ∧ v5 = .slice b2 K2.length kb2 ∧ ii = I i ∧ i ≤ S.length ∧ Hid (Inv xs ks S K2 ∧ Done K S K2 i ∧ Grew K K2 ∧ (∀ k,k ∈ K → k ∈ K2) ∧ S0.length ≤ S.length) ∧ wr.ownsRow w.heap.size 9 1 (.slice a S.length ka) S.length (strV S) ∧ wr.ownsRow w.heap.size 3 1 (.slice b2 K2.length kb2) K2.length (intV K2) ∧ Below w.heap.size w wr) (fun _ _ ii _ => UU + 1 - (intOf ii).toNat)
  case atStart => exact ⟨S0,K,a00,ka00,b00,kb00,0,rfl,rfl,rfl,by omega,⟨HIo.out,fun j h hj => absurd hj (by omega),Or.inl rfl,fun k h => h,Nat.le_refl _⟩,own9,own3,bel⟩
  case round =>
   clear own9 own3 bel
   obtain ⟨S,K1,a,ka,b1,kb1,i,rfl,rfl,rfl,hi2,HI1,own9,own3,bel⟩:=hrel
   have hlen1:=HLEN.out _ _ HI1.out.1
   by_cases hlt : i < S.length
   ·obtain ⟨htz,HTS0⟩:=HST.out _ _ HI1.out.1 S[i] (List.getElem_mem hlt)
    have HTS1 : Hid (SeenT xs ks S[i]):=HTS0
    have HMS : Hid (S[i] ∈ S):=List.getElem_mem hlt
    obtain ⟨tt,HTT⟩ : ∃ tt,Hid (S[i] = tt):=⟨_,(rfl : S[i] = S[i])⟩
    rw [HTT.out] at htz HTS1 HMS
    have HTS:=HTS1
    clear HTS0 HTS1
    obtain ⟨sb,so,ea,hsb,hcs⟩:=row_own9 own9 i hlt
    rw [HTT.out] at hcs
    subst ea
    have hRK:=fun w' => spec_readKey tt w' htz
    cases hrk : rk tt 107 with
    | none =>
     have hke : keyR tt = (0,false):=by unfold keyR; rw [hrk]
     rw [hke] at hRK
     have HI2 : Hid (Inv xs ks S K1 ∧ Done K S K1 i ∧ Grew K K1 ∧ (∀ k,k ∈ K → k ∈ K1) ∧ S0.length ≤ S.length ∧ ∀ (n : Nat) r,rk tt 107 = some (n,r) → (n : Int) ∈ K1):=⟨HI1.out.1,HI1.out.2.1,HI1.out.2.2.1,HI1.out.2.2.2.1,HI1.out.2.2.2.2,fun n r h => by rw [hrk] at h; cases h⟩
     clear hke hrk HI1
     go_wp2_with fail
     refine (hRK _).mono ?_
     clear hRK
     rintro e WW ⟨rfl,hbW⟩
     have own9':=own_later own9 hbW
     have own3':=own_later own3 hbW
     have bel':=bel.trans (hbW.mono bel.size)
     clear own9 own3 bel hbW hcs
     have own9:=own9'
     have own3:=own3'
     have bel:=bel'
     clear own9' own3' bel'
     have hP:=spec_parts tt WW htz
     have hPl0:=parts_len tt
     have HPs0 : Hid (∀ p,p ∈ (partsR tt).1 → p.size ≤ 1048576 ∧ SeenT xs ks p):=fun p hp => ⟨by have:=((isT_iff p).1 (part_isT hp)).1; omega,(closed_least xs ks).2.2.1 tt p HTS.out hp⟩
     obtain ⟨P,HPe⟩ : ∃ P,Hid ((partsR tt).1 = P):=⟨_,(rfl : (partsR tt).1 = (partsR tt).1)⟩
     rw [HPe.out] at hP hPl0 HPs0
     generalize (partsR tt).2 = Pb at hP
     obtain ⟨sbx,sox,ea0,hsb0,hcs0⟩:=row_own9 own9 i hlt
     rw [HTT.out] at hcs0
     simp only [Option.some.injEq,Addr.mk.injEq] at ea0
     obtain ⟨rfl,rfl,_⟩:=ea0
     go_wp2_with fail
     refine hP.mono ?_
     clear hP
     rintro e wp ⟨vp,rfl,hop,hbp⟩
     have own9p:=own_later own9 hbp
     have own3p:=own_later own3 hbp
     have belp:=bel.trans (hbp.mono bel.size)
     have HNE : Hid (∀ k,vp.ownBlock = some k → WW.heap.size ≤ k):=fun k hk => (hop.lt k hk).1
     have HN9 : Hid (∀ k,(Value.slice (some ⟨sb,so,none⟩) S.length ka).ownBlock = some k → k < WW.heap.size):=fun k hk => (own9.lt k hk).2
     obtain ⟨pa,pk,rfl,_,hrp⟩:=own_row hop
     have HNP : Hid (∀ q : Addr,pa = some q → (Value.slice (some ⟨sb,so,none⟩) S.length ka).ownBlock ≠ some q.block):=by
      intro q hq e
      have h1:=HN9.out _ e
      have h2:=HNE.out q.block (by rw [hq]; rfl)
      omega
     clear hop own9 own3 bel hbp hcs0 HNE HN9
     go_wp2
     go_loopw [4,13] (fun v4 jj wr => ∃ (S2 : List ByteArray) (a2 : Option Addr) (ka2 j : Nat),v4 = .slice a2 S2.length ka2 ∧ jj = I j ∧ j ≤ P.length ∧ Hid (Inv xs ks S2 K1 ∧ Done K S2 K1 i ∧ S.length ≤ S2.length ∧ S2[i]? = some tt ∧ ∀ q (h : q < P.length),q < j → P[q] ∈ S2) ∧ Hid (∀ q : Addr,pa = some q → (Value.slice a2 S2.length ka2).ownBlock ≠ some q.block) ∧ wr.ownsRow w.heap.size 9 1 (.slice a2 S2.length ka2) S2.length (strV S2) ∧ wr.ownsRow w.heap.size 3 1 (.slice b1 K1.length kb1) K1.length (intV K1) ∧ RowAt Value.string wr pa P ∧ Below w.heap.size w wr) (fun _ jj _ => P.length - (intOf jj).toNat)
     case atStart => exact ⟨S,_,ka,0,rfl,rfl,by omega,⟨HI2.out.1,HI2.out.2.1,Nat.le_refl _,by rw [List.getElem?_eq_getElem hlt,HTT.out],fun q h hq => absurd hq (by omega)⟩,HNP,own9p,own3p,hrp,belp⟩
     case round =>
      clear own9p own3p hrp belp
      obtain ⟨S2,a2,ka2,j,rfl,rfl,hj,HV,HN2,own9,own3,hrp,bel⟩:=hrel
      have hlen2:=HLEN.out _ _ HV.out.1
      by_cases hjl : j < P.length
      ·obtain ⟨pb,po,epa,hpb,hcp⟩:=hrp j hjl
       have HPj : Hid (P[j].size ≤ 1048576 ∧ SeenT xs ks P[j]):=HPs0.out _ (List.getElem_mem hjl)
       have HQ : Hid (∀ S3 : List ByteArray,(∀ u,u ∈ S2 → u ∈ S3) → P[j] ∈ S3 → ∀ q (h : q < P.length),q < j + 1 → P[q] ∈ S3):=by
        intro S3 h1 h2 q hq hqj
        by_cases e : q = j
        ·subst e; exact h2
        ·exact h1 _ (HV.out.2.2.2.2 q hq (by omega))
       generalize P[j] = p at hcp HPj HQ
       subst epa
       have hIn:=l3InW a2 ka2 S2 p wr (row_own9 own9) (by omega)
       cases hb : inB S2 p with
       | true =>
        rw [hb] at hIn
        have HV2 : Hid (Inv xs ks S2 K1 ∧ Done K S2 K1 i ∧ S.length ≤ S2.length ∧ S2[i]? = some tt ∧ ∀ q (h : q < P.length),q < j + 1 → P[q] ∈ S2):=⟨HV.out.1,HV.out.2.1,HV.out.2.2.1,HV.out.2.2.2.1,HQ.out S2 (fun u h => h) ((inB_iff S2 p).1 hb)⟩
        clear HV HQ hb
        go_wp2_with fail
        refine hIn.mono ?_
        clear hIn
        rintro e wq ⟨rfl,rfl⟩
        go_wp2
        go_roundw
        case rel => exact ⟨S2,a2,ka2,j + 1,rfl,by go_num,by omega,HV2,HN2,own9,own3,hrp,bel⟩
        case measure => simp [intOf]; omega
       | false =>
        rw [hb] at hIn
        have HV2 : Hid (Inv xs ks (S2 ++ [p]) K1 ∧ Done K (S2 ++ [p]) K1 i ∧ S.length ≤ (S2 ++ [p]).length ∧ (S2 ++ [p])[i]? = some tt ∧ ∀ q (h : q < P.length),q < j + 1 → P[q] ∈ S2 ++ [p]):=by
         have hv:=HV.out
         have hnin : ¬ p ∈ S2:=fun c => by rw [(inB_iff S2 p).2 c] at hb; cases hb
         refine ⟨hv.1.more HPj.out.2 hnin,hv.2.1.more (by omega) p,by simp; omega,?_,HQ.out _ (fun u h => List.mem_append_left _ h) (by simp)⟩
         rw [List.getElem?_append_left (by omega)]
         exact hv.2.2.2.1
        clear HV HQ hb
        go_wp2_with fail
        refine hIn.mono ?_
        clear hIn
        rintro e wq ⟨rfl,rfl⟩
        have HSn : Hid (strV S2 ++ [.string p] = strV (S2 ++ [p])):=strV_snoc S2 p
        go_wp2_with (first | (at_builtin; refine wpList_append_own_at _ rfl _ _ 26 rfl w.heap.size 9 i0 (.string ⟨#[]⟩) 1 16 Tryz.underlying26 hi hz0 hz1 hz2 rfl (by decide) _ _ _ rfl (own9.alloc _) ⟨wr.heap.size,0,none⟩ 1 1 [.string p] rfl rfl (cell_one_new _ _ _) ?c2 ?c3 ?c4 ?c5 ?_) | go_in)
        case c2 => first | rfl | (intro u hu; simp at hu; subst hu; rfl)
        case c3 => unfold maxLen; omega
        case c4 => omega
        case c5 => have:=bel.size; simp; omega
        intro v' w4 hown' hgrow _ hloc
        have own3':=World.ownsRow.kept (own3.alloc (.cells #[.string p] 9)) hgrow (own_ne' own9 own3)
        have bel':=below_app bel (Nat.le_refl _) own9 hgrow
        have hrp' : RowAt Value.string w4 (some ⟨pb,po,none⟩) P:=row_grown hgrow (hrp.later ((Below.refl _ wr).alloc (Nat.le_refl _) _)) (fun q hq => HN2.out q hq)
        rw [HSn.out] at hown'
        have hl1 : S2.length + 1 = (S2 ++ [p]).length:=by simp
        rw [hl1] at hown'
        obtain ⟨a4,ka4,rfl,_,_⟩:=own_row hown'
        have HN4 : Hid (∀ q : Addr,some ⟨pb,po,none⟩ = some q → (Value.slice a4 (S2 ++ [p]).length ka4).ownBlock ≠ some q.block):=by
         intro q hq e
         rcases hloc with h | h
         ·rw [h] at e; exact HN2.out q hq e
         ·rw [h] at e
          cases hq
          simp at e
          omega
        have R : Hid (∃ (S3 : List ByteArray) (a3 : Option Addr) (ka3 j1 : Nat),Value.slice a4 (S2 ++ [p]).length ka4 = .slice a3 S3.length ka3 ∧ Value.int .i64 ((j : Int) + 1) = I j1 ∧ j1 ≤ P.length ∧ Hid (Inv xs ks S3 K1 ∧ Done K S3 K1 i ∧ S.length ≤ S3.length ∧ S3[i]? = some tt ∧ ∀ q (h : q < P.length),q < j1 → P[q] ∈ S3) ∧ Hid (∀ q : Addr,some ⟨pb,po,none⟩ = some q → (Value.slice a3 S3.length ka3).ownBlock ≠ some q.block) ∧ w4.ownsRow w.heap.size 9 1 (.slice a3 S3.length ka3) S3.length (strV S3) ∧ w4.ownsRow w.heap.size 3 1 (.slice b1 K1.length kb1) K1.length (intV K1) ∧ RowAt Value.string w4 (some ⟨pb,po,none⟩) P ∧ Below w.heap.size w w4) :=
         ⟨S2 ++ [p],a4,ka4,j + 1,rfl,by go_num,by omega,HV2,HN4,hown',own3',hrp',bel'⟩
        clear hown' own3' hrp' bel' HN4 HV2 hgrow hloc hl1 HSn own9 own3 bel hrp
        go_wp2
        go_roundw
        case rel => first | exact R.out | (have R:=R.out; (repeat apply Exists.intro); exact ⟨R,rfl⟩)
        case measure => simp [intOf]; omega
      ·clear hrp HN2
       go_wp2
       go_loopw [4,14] (fun v4 jj wr => ∃ (S3 : List ByteArray) (a3 : Option Addr) (ka3 j : Nat),v4 = .slice a3 S3.length ka3 ∧ jj = I j ∧ j ≤ K1.length ∧ Hid (Inv xs ks S3 K1 ∧ Done K S3 K1 i ∧ S.length ≤ S3.length ∧ S3[i]? = some tt ∧ (∀ p,p ∈ P → p ∈ S3) ∧ ∀ q (h : q < K1.length),q < j → ∀ (n : Nat) u,rk tt 115 = some (n,u) → (n : Int) = K1[q] → u ∈ S3) ∧ wr.ownsRow w.heap.size 9 1 (.slice a3 S3.length ka3) S3.length (strV S3) ∧ wr.ownsRow w.heap.size 3 1 (.slice b1 K1.length kb1) K1.length (intV K1) ∧ Below w.heap.size w wr) (fun _ jj _ => K1.length - (intOf jj).toNat)
       case atStart => exact ⟨S2,a2,ka2,0,rfl,rfl,by omega,⟨HV.out.1,HV.out.2.1,HV.out.2.2.1,HV.out.2.2.2.1,(by intro p hp; obtain ⟨q,hq,rfl⟩:=List.getElem_of_mem hp; exact HV.out.2.2.2.2 q hq (by omega)),fun q h hq => absurd hq (by omega)⟩,own9,own3,bel⟩
       case round =>
        clear own9 own3 bel hlen2
        obtain ⟨S3,a3,ka3,j3,rfl,rfl,hj3,HX,own9,own3,bel⟩:=hrel
        have hlen3:=HLEN.out _ _ HX.out.1
        have hiS : i < S3.length:=by have:=HX.out.2.2.1; omega
        by_cases hjl3 : j3 < K1.length
        ·obtain ⟨sb,so,rfl,hsb,hcs⟩:=row_own9 own9 i hiS
         obtain ⟨kb0,ko,rfl,hkb,hck⟩:=row_own3 own3 j3 hjl3
         have hti : S3[i] = tt:=by have:=HX.out.2.2.2.1; rw [List.getElem?_eq_getElem hiS] at this; exact Option.some.inj this
         rw [hti] at hcs
         have HRy : Hid (ReachT xs ks K1[j3]):=HX.out.1.2.2.1 _ (List.getElem_mem hjl3)
         have HQ : Hid (∀ S4 : List ByteArray,(∀ u,u ∈ S3 → u ∈ S4) → (∀ (n : Nat) u,rk tt 115 = some (n,u) → (n : Int) = K1[j3] → u ∈ S4) → ∀ q (h : q < K1.length),q < j3 + 1 → ∀ (n : Nat) u,rk tt 115 = some (n,u) → (n : Int) = K1[q] → u ∈ S4):=by
          intro S4 h1 h2 q hq hqj n u hr hn
          by_cases e : q = j3
          ·subst e; exact h2 n u hr hn
          ·exact h1 _ (HX.out.2.2.2.2.2 q hq (by omega) n u hr hn)
         generalize K1[j3] = y at hck HRy HQ
         have ii0 : (0 : Int) ≤ (i : Int):=by omega
         have ii1 : (i : Int) < (S3.length : Int):=by omega
         have ij0 : (0 : Int) ≤ (j3 : Int):=by omega
         have ij1 : (j3 : Int) < (K1.length : Int):=by omega
         have hOp:=fun w' => spec_open tt y w' htz
         obtain ⟨ou,ob,hoe,HO⟩ : ∃ ou ob,openR tt y = (ou,ob) ∧ Hid ((ob = true → SeenT xs ks ou ∧ ou.size ≤ 1048576 ∧ ∀ (n : Nat) u,rk tt 115 = some (n,u) → (n : Int) = y → u = ou) ∧ (ob = false → ∀ (n : Nat) u,rk tt 115 = some (n,u) → ¬ (n : Int) = y)):=open_cases HTS.out HRy.out
         rw [hoe] at hOp
         clear hoe HRy
         cases ob with
         | false =>
          have HX2 : Hid (Inv xs ks S3 K1 ∧ Done K S3 K1 i ∧ S.length ≤ S3.length ∧ S3[i]? = some tt ∧ (∀ p,p ∈ P → p ∈ S3) ∧ ∀ q (h : q < K1.length),q < j3 + 1 → ∀ (n : Nat) u,rk tt 115 = some (n,u) → (n : Int) = K1[q] → u ∈ S3) :=
           ⟨HX.out.1,HX.out.2.1,HX.out.2.2.1,HX.out.2.2.2.1,HX.out.2.2.2.2.1,HQ.out S3 (fun u h => h) (fun n u hr hn => absurd hn (HO.out.2 rfl n u hr))⟩
          clear HX HQ HO hti
          go_wp2_with fail
          go_region_held3 (fun W => W.cell? ⟨sb,so + i,none⟩ = some (.string tt) ∧ W.cell? ⟨kb0,ko + j3,none⟩ = some (I y))
           (first | exact ⟨by simpa using hcs,by simpa using hck⟩ | exact hSo)
           ((go_at_call 93; refine (hOp _).mono ?_; rintro e wo ⟨rfl,hbo⟩; have hSo : wo.cell? ⟨sb,so + i,none⟩ = some (.string tt) ∧ wo.cell? ⟨kb0,ko + j3,none⟩ = some (I y):=⟨(hbo.cell (p:=⟨sb,so + i,none⟩) hsb).trans (by simpa using hcs),(hbo.cell (p:=⟨kb0,ko + j3,none⟩) hkb).trans (by simpa using hck)⟩))
          all_goals
           have hbo2 : Below wr.heap.size wr wo:=(Below.refl _ wr).drew.trans hbo
           have own9':=own_later own9 hbo2
           have own3':=own_later own3 hbo2
           have bel':=bel.trans (hbo2.mono bel.size)
           go_wp2
           go_roundw
           case rel => exact ⟨S3,_,ka3,j3 + 1,rfl,by go_num,by omega,HX2,own9',own3',bel'⟩
           case measure => simp [intOf]; omega
         | true =>
          have hInW:=fun w' (h : World.ownsRow w' w.heap.size 9 1 (.slice (some ⟨sb,so,none⟩) S3.length ka3) S3.length (strV S3)) => l3InW (some ⟨sb,so,none⟩) ka3 S3 ou w' (row_own9 h) (by omega)
          cases hb : inB S3 ou with
          | true =>
           simp only [hb] at hInW
           have HX2 : Hid (Inv xs ks S3 K1 ∧ Done K S3 K1 i ∧ S.length ≤ (S3).length ∧ (S3)[i]? = some tt ∧ (∀ p,p ∈ P → p ∈ S3) ∧ ∀ q (h : q < K1.length),q < j3 + 1 → ∀ (n : Nat) u,rk tt 115 = some (n,u) → (n : Int) = K1[q] → u ∈ S3) :=
            ⟨HX.out.1,HX.out.2.1,HX.out.2.2.1,HX.out.2.2.2.1,HX.out.2.2.2.2.1,HQ.out S3 (fun u h => h) (fun n u hr hn => by rw [(HO.out.1 rfl).2.2 n u hr hn]; exact (inB_iff S3 ou).1 hb)⟩
           clear HX HQ HO hti hb
           go_wp2_with fail
           go_region_held3 (fun W => W.cell? ⟨sb,so + i,none⟩ = some (.string tt) ∧ W.cell? ⟨kb0,ko + j3,none⟩ = some (I y))
            (first | exact ⟨by simpa using hcs,by simpa using hck⟩ | exact hSo)
            ((go_at_call 93; refine (hOp _).mono ?_; rintro e wo ⟨rfl,hbo⟩; have hSo : wo.cell? ⟨sb,so + i,none⟩ = some (.string tt) ∧ wo.cell? ⟨kb0,ko + j3,none⟩ = some (I y):=⟨(hbo.cell (p:=⟨sb,so + i,none⟩) hsb).trans (by simpa using hcs),(hbo.cell (p:=⟨kb0,ko + j3,none⟩) hkb).trans (by simpa using hck)⟩))
           have hbo2 : Below wr.heap.size wr wo:=(Below.refl _ wr).drew.trans hbo
           have own9':=own_later own9 hbo2
           have own3':=own_later own3 hbo2
           have bel':=bel.trans (hbo2.mono bel.size)
           clear own9 own3 bel hbo hbo2 hSo hcs hck hOp
           go_wp2_with fail
           refine (hInW _ own9').mono ?_
           clear hInW
           rintro e wq ⟨rfl,rfl⟩
           go_wp2
           go_roundw
           case rel => exact ⟨S3,_,ka3,j3 + 1,rfl,by go_num,by omega,HX2,own9',own3',bel'⟩
           case measure => simp [intOf]; omega
          | false =>
           simp only [hb] at hInW
           have HX2 : Hid (Inv xs ks (S3 ++ [ou]) K1 ∧ Done K (S3 ++ [ou]) K1 i ∧ S.length ≤ ((S3 ++ [ou])).length ∧ ((S3 ++ [ou]))[i]? = some tt ∧ (∀ p,p ∈ P → p ∈ (S3 ++ [ou])) ∧ ∀ q (h : q < K1.length),q < j3 + 1 → ∀ (n : Nat) u,rk tt 115 = some (n,u) → (n : Int) = K1[q] → u ∈ (S3 ++ [ou])):=by
            have hx:=HX.out
            have hnin : ¬ ou ∈ S3:=fun c => by rw [(inB_iff S3 ou).2 c] at hb; cases hb
            refine ⟨hx.1.more (HO.out.1 rfl).1 hnin,hx.2.1.more (by omega) ou,by simp; omega,?_,fun p hp => List.mem_append_left _ (hx.2.2.2.2.1 p hp),HQ.out _ (fun u h => List.mem_append_left _ h) (fun n u hr hn => by rw [(HO.out.1 rfl).2.2 n u hr hn]; simp)⟩
            rw [List.getElem?_append_left (by omega)]
            exact hx.2.2.2.1
           clear HX HQ HO hti hb
           have HSn : Hid (strV S3 ++ [.string ou] = strV (S3 ++ [ou])):=strV_snoc S3 ou
           go_wp2_with fail
           go_region_held3 (fun W => W.cell? ⟨sb,so + i,none⟩ = some (.string tt) ∧ W.cell? ⟨kb0,ko + j3,none⟩ = some (I y))
            (first | exact ⟨by simpa using hcs,by simpa using hck⟩ | exact hSo)
            ((go_at_call 93; refine (hOp _).mono ?_; rintro e wo ⟨rfl,hbo⟩; have hSo : wo.cell? ⟨sb,so + i,none⟩ = some (.string tt) ∧ wo.cell? ⟨kb0,ko + j3,none⟩ = some (I y):=⟨(hbo.cell (p:=⟨sb,so + i,none⟩) hsb).trans (by simpa using hcs),(hbo.cell (p:=⟨kb0,ko + j3,none⟩) hkb).trans (by simpa using hck)⟩))
           have hbo2 : Below wr.heap.size wr wo:=(Below.refl _ wr).drew.trans hbo
           have own9':=own_later own9 hbo2
           have own3':=own_later own3 hbo2
           have bel':=bel.trans (hbo2.mono bel.size)
           clear own9 own3 bel hbo hbo2 hSo hcs hck hOp
           go_wp2_with fail
           refine (hInW _ own9').mono ?_
           clear hInW
           rintro e wq ⟨rfl,rfl⟩
           go_wp2_with (first | (at_builtin; refine wpList_append_own_at _ rfl _ _ 26 rfl w.heap.size 9 i0 (.string ⟨#[]⟩) 1 16 Tryz.underlying26 hi hz0 hz1 hz2 rfl (by decide) _ _ _ rfl (own9'.alloc _) ⟨wo.heap.size,0,none⟩ 1 1 [.string ou] rfl rfl (cell_one_new _ _ _) ?c2 ?c3 ?c4 ?c5 ?_) | go_in)
           case c2 => first | rfl | (intro u hu; simp at hu; subst hu; rfl)
           case c3 => unfold maxLen; omega
           case c4 => omega
           case c5 => have:=bel'.size; simp; omega
           intro v' w4 hown' hgrow _ hloc
           have own3n:=World.ownsRow.kept (own3'.alloc (.cells #[.string ou] 9)) hgrow (own_ne' own9' own3')
           have beln:=below_app bel' (Nat.le_refl _) own9' hgrow
           rw [HSn.out] at hown'
           have hl1 : S3.length + 1 = (S3 ++ [ou]).length:=by simp
           rw [hl1] at hown'
           obtain ⟨a4,ka4,rfl,_,_⟩:=own_row hown'
           have R : Hid (∃ (S4 : List ByteArray) (a5 : Option Addr) (ka5 j1 : Nat),Value.slice a4 (S3 ++ [ou]).length ka4 = .slice a5 S4.length ka5 ∧ Value.int .i64 ((j3 : Int) + 1) = I j1 ∧ j1 ≤ K1.length ∧ Hid (Inv xs ks S4 K1 ∧ Done K S4 K1 i ∧ S.length ≤ S4.length ∧ S4[i]? = some tt ∧ (∀ p,p ∈ P → p ∈ S4) ∧ ∀ q (h : q < K1.length),q < j1 → ∀ (n : Nat) u,rk tt 115 = some (n,u) → (n : Int) = K1[q] → u ∈ S4) ∧ w4.ownsRow w.heap.size 9 1 (.slice a5 S4.length ka5) S4.length (strV S4) ∧ w4.ownsRow w.heap.size 3 1 (.slice (some ⟨kb0,ko,none⟩) K1.length kb1) K1.length (intV K1) ∧ Below w.heap.size w w4) :=
            ⟨S3 ++ [ou],a4,ka4,j3 + 1,rfl,by go_num,by omega,HX2,hown',own3n,beln⟩
           clear hown' own3n beln HX2 hgrow hloc hl1 HSn own9' own3' bel'
           go_wp2
           go_roundw
           case rel => first | exact R.out | (have R:=R.out; (repeat apply Exists.intro); exact ⟨R,rfl⟩)
           case measure => simp [intOf]; omega
        ·have hti : S3[i] = tt:=by have:=HX.out.2.2.2.1; rw [List.getElem?_eq_getElem hiS] at this; exact Option.some.inj this
         have HD : Hid (Inv xs ks S3 K1 ∧ Done K S3 K1 (i + 1) ∧ Grew K K1 ∧ (∀ k,k ∈ K → k ∈ K1) ∧ S0.length ≤ S3.length):=by
          have hx:=HX.out
          have h2:=HI2.out
          refine ⟨hx.1,hx.2.1.step hiS (fun n r h => by rw [hti] at h; exact h2.2.2.2.2.2 n r h) (fun p hp => by rw [hti,HPe.out] at hp; exact hx.2.2.2.2.1 p hp) (fun n u h hk => ?_),h2.2.2.1,h2.2.2.2.1,by omega⟩
          rw [hti] at h
          obtain ⟨q,hq,e⟩:=List.getElem_of_mem (h2.2.2.2.1 _ hk)
          exact hx.2.2.2.2.2 q hq (by omega) n u h e.symm
         clear HX hti
         go_wp2
         go_roundw
         case rel => exact ⟨S3,K1,a3,ka3,b1,kb1,i + 1,rfl,rfl,by go_num,by omega,HD,own9,own3,bel⟩
         case measure => simp [intOf]; omega
    | some q =>
     obtain ⟨n,r⟩:=q
     have hke : keyR tt = ((n : Int),true):=by unfold keyR; rw [hrk]
     rw [hke] at hRK
     have hlenP:=HLEN.out _ _ (HI1.out.1.key HMS.out hrk)
     have HI2' : Hid (Inv xs ks S (putI K1 n) ∧ Done K S (putI K1 n) i ∧ Grew K (putI K1 n) ∧ (∀ k,k ∈ K → k ∈ putI K1 n) ∧ S0.length ≤ S.length ∧ ∀ (m : Nat) r,rk tt 107 = some (m,r) → (m : Int) ∈ putI K1 n) :=
      ⟨HI1.out.1.key HMS.out hrk,HI1.out.2.1.key n,HI1.out.2.2.1.put n,fun k hk => (putI_mem K1 n k).2 (Or.inr (HI1.out.2.2.2.1 k hk)),HI1.out.2.2.2.2,fun m r2 h => by rw [hrk] at h; cases h; exact (putI_mem K1 n n).2 (Or.inl rfl)⟩
     clear hke hrk HI1
     go_wp2_with fail
     refine (hRK _).mono ?_
     clear hRK
     rintro e w3 ⟨rfl,hbW⟩
     have own9':=own_later own9 hbW
     have own3':=own_later own3 hbW
     have bel':=bel.trans (hbW.mono bel.size)
     have hPut:=l3PutW w.heap.size b1 kb1 K1 n w3 own3' (by omega) bel'.size
     obtain ⟨K2,HK2⟩ : ∃ K2,Hid (putI K1 n = K2):=⟨_,(rfl : putI K1 n = putI K1 n)⟩
     rw [HK2.out] at hPut HI2' hlenP
     have HI2:=HI2'
     clear own9 own3 bel hbW hcs HI2'
     go_wp2_with fail
     refine hPut.mono ?_
     clear hPut
     rintro e WW ⟨v5,rfl,own3n,hbX⟩
     obtain ⟨b2,kb2,rfl,_,_⟩:=own_row own3n
     have own9:=own_later own9' hbX
     have own3:=own3n
     have bel:=bel'.trans (hbX.mono bel'.size)
     clear own9' own3' bel' own3n hbX
     have hP:=spec_parts tt WW htz
     have hPl0:=parts_len tt
     have HPs0 : Hid (∀ p,p ∈ (partsR tt).1 → p.size ≤ 1048576 ∧ SeenT xs ks p):=fun p hp => ⟨by have:=((isT_iff p).1 (part_isT hp)).1; omega,(closed_least xs ks).2.2.1 tt p HTS.out hp⟩
     obtain ⟨P,HPe⟩ : ∃ P,Hid ((partsR tt).1 = P):=⟨_,(rfl : (partsR tt).1 = (partsR tt).1)⟩
     rw [HPe.out] at hP hPl0 HPs0
     generalize (partsR tt).2 = Pb at hP
     obtain ⟨sbx,sox,ea0,hsb0,hcs0⟩:=row_own9 own9 i hlt
     rw [HTT.out] at hcs0
     simp only [Option.some.injEq,Addr.mk.injEq] at ea0
     obtain ⟨rfl,rfl,_⟩:=ea0
     go_wp2_with fail
     refine hP.mono ?_
     clear hP
     rintro e wp ⟨vp,rfl,hop,hbp⟩
     have own9p:=own_later own9 hbp
     have own3p:=own_later own3 hbp
     have belp:=bel.trans (hbp.mono bel.size)
     have HNE : Hid (∀ k,vp.ownBlock = some k → WW.heap.size ≤ k):=fun k hk => (hop.lt k hk).1
     have HN9 : Hid (∀ k,(Value.slice (some ⟨sb,so,none⟩) S.length ka).ownBlock = some k → k < WW.heap.size):=fun k hk => (own9.lt k hk).2
     obtain ⟨pa,pk,rfl,_,hrp⟩:=own_row hop
     have HNP : Hid (∀ q : Addr,pa = some q → (Value.slice (some ⟨sb,so,none⟩) S.length ka).ownBlock ≠ some q.block):=by
      intro q hq e
      have h1:=HN9.out _ e
      have h2:=HNE.out q.block (by rw [hq]; rfl)
      omega
     clear hop own9 own3 bel hbp hcs0 HNE HN9
     go_wp2
     go_loopw [4,13] (fun v4 jj wr => ∃ (S2 : List ByteArray) (a2 : Option Addr) (ka2 j : Nat),v4 = .slice a2 S2.length ka2 ∧ jj = I j ∧ j ≤ P.length ∧ Hid (Inv xs ks S2 K2 ∧ Done K S2 K2 i ∧ S.length ≤ S2.length ∧ S2[i]? = some tt ∧ ∀ q (h : q < P.length),q < j → P[q] ∈ S2) ∧ Hid (∀ q : Addr,pa = some q → (Value.slice a2 S2.length ka2).ownBlock ≠ some q.block) ∧ wr.ownsRow w.heap.size 9 1 (.slice a2 S2.length ka2) S2.length (strV S2) ∧ wr.ownsRow w.heap.size 3 1 (.slice b2 K2.length kb2) K2.length (intV K2) ∧ RowAt Value.string wr pa P ∧ Below w.heap.size w wr) (fun _ jj _ => P.length - (intOf jj).toNat)
     case atStart => exact ⟨S,_,ka,0,rfl,rfl,by omega,⟨HI2.out.1,HI2.out.2.1,Nat.le_refl _,by rw [List.getElem?_eq_getElem hlt,HTT.out],fun q h hq => absurd hq (by omega)⟩,HNP,own9p,own3p,hrp,belp⟩
     case round =>
      clear own9p own3p hrp belp
      obtain ⟨S2,a2,ka2,j,rfl,rfl,hj,HV,HN2,own9,own3,hrp,bel⟩:=hrel
      have hlen2:=HLEN.out _ _ HV.out.1
      by_cases hjl : j < P.length
      ·obtain ⟨pb,po,epa,hpb,hcp⟩:=hrp j hjl
       have HPj : Hid (P[j].size ≤ 1048576 ∧ SeenT xs ks P[j]):=HPs0.out _ (List.getElem_mem hjl)
       have HQ : Hid (∀ S3 : List ByteArray,(∀ u,u ∈ S2 → u ∈ S3) → P[j] ∈ S3 → ∀ q (h : q < P.length),q < j + 1 → P[q] ∈ S3):=by
        intro S3 h1 h2 q hq hqj
        by_cases e : q = j
        ·subst e; exact h2
        ·exact h1 _ (HV.out.2.2.2.2 q hq (by omega))
       generalize P[j] = p at hcp HPj HQ
       subst epa
       have hIn:=l3InW a2 ka2 S2 p wr (row_own9 own9) (by omega)
       cases hb : inB S2 p with
       | true =>
        rw [hb] at hIn
        have HV2 : Hid (Inv xs ks S2 K2 ∧ Done K S2 K2 i ∧ S.length ≤ S2.length ∧ S2[i]? = some tt ∧ ∀ q (h : q < P.length),q < j + 1 → P[q] ∈ S2):=⟨HV.out.1,HV.out.2.1,HV.out.2.2.1,HV.out.2.2.2.1,HQ.out S2 (fun u h => h) ((inB_iff S2 p).1 hb)⟩
        clear HV HQ hb
        go_wp2_with fail
        refine hIn.mono ?_
        clear hIn
        rintro e wq ⟨rfl,rfl⟩
        go_wp2
        go_roundw
        case rel => exact ⟨S2,a2,ka2,j + 1,rfl,by go_num,by omega,HV2,HN2,own9,own3,hrp,bel⟩
        case measure => simp [intOf]; omega
       | false =>
        rw [hb] at hIn
        have HV2 : Hid (Inv xs ks (S2 ++ [p]) K2 ∧ Done K (S2 ++ [p]) K2 i ∧ S.length ≤ (S2 ++ [p]).length ∧ (S2 ++ [p])[i]? = some tt ∧ ∀ q (h : q < P.length),q < j + 1 → P[q] ∈ S2 ++ [p]):=by
         have hv:=HV.out
         have hnin : ¬ p ∈ S2:=fun c => by rw [(inB_iff S2 p).2 c] at hb; cases hb
         refine ⟨hv.1.more HPj.out.2 hnin,hv.2.1.more (by omega) p,by simp; omega,?_,HQ.out _ (fun u h => List.mem_append_left _ h) (by simp)⟩
         rw [List.getElem?_append_left (by omega)]
         exact hv.2.2.2.1
        clear HV HQ hb
        go_wp2_with fail
        refine hIn.mono ?_
        clear hIn
        rintro e wq ⟨rfl,rfl⟩
        have HSn : Hid (strV S2 ++ [.string p] = strV (S2 ++ [p])):=strV_snoc S2 p
        go_wp2_with (first | (at_builtin; refine wpList_append_own_at _ rfl _ _ 26 rfl w.heap.size 9 i0 (.string ⟨#[]⟩) 1 16 Tryz.underlying26 hi hz0 hz1 hz2 rfl (by decide) _ _ _ rfl (own9.alloc _) ⟨wr.heap.size,0,none⟩ 1 1 [.string p] rfl rfl (cell_one_new _ _ _) ?c2 ?c3 ?c4 ?c5 ?_) | go_in)
        case c2 => first | rfl | (intro u hu; simp at hu; subst hu; rfl)
        case c3 => unfold maxLen; omega
        case c4 => omega
        case c5 => have:=bel.size; simp; omega
        intro v' w4 hown' hgrow _ hloc
        have own3':=World.ownsRow.kept (own3.alloc (.cells #[.string p] 9)) hgrow (own_ne' own9 own3)
        have bel':=below_app bel (Nat.le_refl _) own9 hgrow
        have hrp' : RowAt Value.string w4 (some ⟨pb,po,none⟩) P:=row_grown hgrow (hrp.later ((Below.refl _ wr).alloc (Nat.le_refl _) _)) (fun q hq => HN2.out q hq)
        rw [HSn.out] at hown'
        have hl1 : S2.length + 1 = (S2 ++ [p]).length:=by simp
        rw [hl1] at hown'
        obtain ⟨a4,ka4,rfl,_,_⟩:=own_row hown'
        have HN4 : Hid (∀ q : Addr,some ⟨pb,po,none⟩ = some q → (Value.slice a4 (S2 ++ [p]).length ka4).ownBlock ≠ some q.block):=by
         intro q hq e
         rcases hloc with h | h
         ·rw [h] at e; exact HN2.out q hq e
         ·rw [h] at e
          cases hq
          simp at e
          omega
        have R : Hid (∃ (S3 : List ByteArray) (a3 : Option Addr) (ka3 j1 : Nat),Value.slice a4 (S2 ++ [p]).length ka4 = .slice a3 S3.length ka3 ∧ Value.int .i64 ((j : Int) + 1) = I j1 ∧ j1 ≤ P.length ∧ Hid (Inv xs ks S3 K2 ∧ Done K S3 K2 i ∧ S.length ≤ S3.length ∧ S3[i]? = some tt ∧ ∀ q (h : q < P.length),q < j1 → P[q] ∈ S3) ∧ Hid (∀ q : Addr,some ⟨pb,po,none⟩ = some q → (Value.slice a3 S3.length ka3).ownBlock ≠ some q.block) ∧ w4.ownsRow w.heap.size 9 1 (.slice a3 S3.length ka3) S3.length (strV S3) ∧ w4.ownsRow w.heap.size 3 1 (.slice b2 K2.length kb2) K2.length (intV K2) ∧ RowAt Value.string w4 (some ⟨pb,po,none⟩) P ∧ Below w.heap.size w w4) :=
         ⟨S2 ++ [p],a4,ka4,j + 1,rfl,by go_num,by omega,HV2,HN4,hown',own3',hrp',bel'⟩
        clear hown' own3' hrp' bel' HN4 HV2 hgrow hloc hl1 HSn own9 own3 bel hrp
        go_wp2
        go_roundw
        case rel => first | exact R.out | (have R:=R.out; (repeat apply Exists.intro); exact ⟨R,rfl⟩)
        case measure => simp [intOf]; omega
      ·clear hrp HN2
       go_wp2
       go_loopw [4,14] (fun v4 jj wr => ∃ (S3 : List ByteArray) (a3 : Option Addr) (ka3 j : Nat),v4 = .slice a3 S3.length ka3 ∧ jj = I j ∧ j ≤ K2.length ∧ Hid (Inv xs ks S3 K2 ∧ Done K S3 K2 i ∧ S.length ≤ S3.length ∧ S3[i]? = some tt ∧ (∀ p,p ∈ P → p ∈ S3) ∧ ∀ q (h : q < K2.length),q < j → ∀ (n : Nat) u,rk tt 115 = some (n,u) → (n : Int) = K2[q] → u ∈ S3) ∧ wr.ownsRow w.heap.size 9 1 (.slice a3 S3.length ka3) S3.length (strV S3) ∧ wr.ownsRow w.heap.size 3 1 (.slice b2 K2.length kb2) K2.length (intV K2) ∧ Below w.heap.size w wr) (fun _ jj _ => K2.length - (intOf jj).toNat)
       case atStart => exact ⟨S2,a2,ka2,0,rfl,rfl,by omega,⟨HV.out.1,HV.out.2.1,HV.out.2.2.1,HV.out.2.2.2.1,(by intro p hp; obtain ⟨q,hq,rfl⟩:=List.getElem_of_mem hp; exact HV.out.2.2.2.2 q hq (by omega)),fun q h hq => absurd hq (by omega)⟩,own9,own3,bel⟩
       case round =>
        clear own9 own3 bel hlen2
        obtain ⟨S3,a3,ka3,j3,rfl,rfl,hj3,HX,own9,own3,bel⟩:=hrel
        have hlen3:=HLEN.out _ _ HX.out.1
        have hiS : i < S3.length:=by have:=HX.out.2.2.1; omega
        by_cases hjl3 : j3 < K2.length
        ·obtain ⟨sb,so,rfl,hsb,hcs⟩:=row_own9 own9 i hiS
         obtain ⟨kb0,ko,rfl,hkb,hck⟩:=row_own3 own3 j3 hjl3
         have hti : S3[i] = tt:=by have:=HX.out.2.2.2.1; rw [List.getElem?_eq_getElem hiS] at this; exact Option.some.inj this
         rw [hti] at hcs
         have HRy : Hid (ReachT xs ks K2[j3]):=HX.out.1.2.2.1 _ (List.getElem_mem hjl3)
         have HQ : Hid (∀ S4 : List ByteArray,(∀ u,u ∈ S3 → u ∈ S4) → (∀ (n : Nat) u,rk tt 115 = some (n,u) → (n : Int) = K2[j3] → u ∈ S4) → ∀ q (h : q < K2.length),q < j3 + 1 → ∀ (n : Nat) u,rk tt 115 = some (n,u) → (n : Int) = K2[q] → u ∈ S4):=by
          intro S4 h1 h2 q hq hqj n u hr hn
          by_cases e : q = j3
          ·subst e; exact h2 n u hr hn
          ·exact h1 _ (HX.out.2.2.2.2.2 q hq (by omega) n u hr hn)
         generalize K2[j3] = y at hck HRy HQ
         have ii0 : (0 : Int) ≤ (i : Int):=by omega
         have ii1 : (i : Int) < (S3.length : Int):=by omega
         have ij0 : (0 : Int) ≤ (j3 : Int):=by omega
         have ij1 : (j3 : Int) < (K2.length : Int):=by omega
         have hOp:=fun w' => spec_open tt y w' htz
         obtain ⟨ou,ob,hoe,HO⟩ : ∃ ou ob,openR tt y = (ou,ob) ∧ Hid ((ob = true → SeenT xs ks ou ∧ ou.size ≤ 1048576 ∧ ∀ (n : Nat) u,rk tt 115 = some (n,u) → (n : Int) = y → u = ou) ∧ (ob = false → ∀ (n : Nat) u,rk tt 115 = some (n,u) → ¬ (n : Int) = y)):=open_cases HTS.out HRy.out
         rw [hoe] at hOp
         clear hoe HRy
         cases ob with
         | false =>
          have HX2 : Hid (Inv xs ks S3 K2 ∧ Done K S3 K2 i ∧ S.length ≤ S3.length ∧ S3[i]? = some tt ∧ (∀ p,p ∈ P → p ∈ S3) ∧ ∀ q (h : q < K2.length),q < j3 + 1 → ∀ (n : Nat) u,rk tt 115 = some (n,u) → (n : Int) = K2[q] → u ∈ S3) :=
           ⟨HX.out.1,HX.out.2.1,HX.out.2.2.1,HX.out.2.2.2.1,HX.out.2.2.2.2.1,HQ.out S3 (fun u h => h) (fun n u hr hn => absurd hn (HO.out.2 rfl n u hr))⟩
          clear HX HQ HO hti
          go_wp2_with fail
          go_region_held3 (fun W => W.cell? ⟨sb,so + i,none⟩ = some (.string tt) ∧ W.cell? ⟨kb0,ko + j3,none⟩ = some (I y))
           (first | exact ⟨by simpa using hcs,by simpa using hck⟩ | exact hSo)
           ((go_at_call 93; refine (hOp _).mono ?_; rintro e wo ⟨rfl,hbo⟩; have hSo : wo.cell? ⟨sb,so + i,none⟩ = some (.string tt) ∧ wo.cell? ⟨kb0,ko + j3,none⟩ = some (I y):=⟨(hbo.cell (p:=⟨sb,so + i,none⟩) hsb).trans (by simpa using hcs),(hbo.cell (p:=⟨kb0,ko + j3,none⟩) hkb).trans (by simpa using hck)⟩))
          all_goals
           have hbo2 : Below wr.heap.size wr wo:=(Below.refl _ wr).drew.trans hbo
           have own9':=own_later own9 hbo2
           have own3':=own_later own3 hbo2
           have bel':=bel.trans (hbo2.mono bel.size)
           go_wp2
           go_roundw
           case rel => exact ⟨S3,_,ka3,j3 + 1,rfl,by go_num,by omega,HX2,own9',own3',bel'⟩
           case measure => simp [intOf]; omega
         | true =>
          have hInW:=fun w' (h : World.ownsRow w' w.heap.size 9 1 (.slice (some ⟨sb,so,none⟩) S3.length ka3) S3.length (strV S3)) => l3InW (some ⟨sb,so,none⟩) ka3 S3 ou w' (row_own9 h) (by omega)
          cases hb : inB S3 ou with
          | true =>
           simp only [hb] at hInW
           have HX2 : Hid (Inv xs ks S3 K2 ∧ Done K S3 K2 i ∧ S.length ≤ (S3).length ∧ (S3)[i]? = some tt ∧ (∀ p,p ∈ P → p ∈ S3) ∧ ∀ q (h : q < K2.length),q < j3 + 1 → ∀ (n : Nat) u,rk tt 115 = some (n,u) → (n : Int) = K2[q] → u ∈ S3) :=
            ⟨HX.out.1,HX.out.2.1,HX.out.2.2.1,HX.out.2.2.2.1,HX.out.2.2.2.2.1,HQ.out S3 (fun u h => h) (fun n u hr hn => by rw [(HO.out.1 rfl).2.2 n u hr hn]; exact (inB_iff S3 ou).1 hb)⟩
           clear HX HQ HO hti hb
           go_wp2_with fail
           go_region_held3 (fun W => W.cell? ⟨sb,so + i,none⟩ = some (.string tt) ∧ W.cell? ⟨kb0,ko + j3,none⟩ = some (I y))
            (first | exact ⟨by simpa using hcs,by simpa using hck⟩ | exact hSo)
            ((go_at_call 93; refine (hOp _).mono ?_; rintro e wo ⟨rfl,hbo⟩; have hSo : wo.cell? ⟨sb,so + i,none⟩ = some (.string tt) ∧ wo.cell? ⟨kb0,ko + j3,none⟩ = some (I y):=⟨(hbo.cell (p:=⟨sb,so + i,none⟩) hsb).trans (by simpa using hcs),(hbo.cell (p:=⟨kb0,ko + j3,none⟩) hkb).trans (by simpa using hck)⟩))
           have hbo2 : Below wr.heap.size wr wo:=(Below.refl _ wr).drew.trans hbo
           have own9':=own_later own9 hbo2
           have own3':=own_later own3 hbo2
           have bel':=bel.trans (hbo2.mono bel.size)
           clear own9 own3 bel hbo hbo2 hSo hcs hck hOp
           go_wp2_with fail
           refine (hInW _ own9').mono ?_
           clear hInW
           rintro e wq ⟨rfl,rfl⟩
           go_wp2
           go_roundw
           case rel => exact ⟨S3,_,ka3,j3 + 1,rfl,by go_num,by omega,HX2,own9',own3',bel'⟩
           case measure => simp [intOf]; omega
          | false =>
           simp only [hb] at hInW
           have HX2 : Hid (Inv xs ks (S3 ++ [ou]) K2 ∧ Done K (S3 ++ [ou]) K2 i ∧ S.length ≤ ((S3 ++ [ou])).length ∧ ((S3 ++ [ou]))[i]? = some tt ∧ (∀ p,p ∈ P → p ∈ (S3 ++ [ou])) ∧ ∀ q (h : q < K2.length),q < j3 + 1 → ∀ (n : Nat) u,rk tt 115 = some (n,u) → (n : Int) = K2[q] → u ∈ (S3 ++ [ou])):=by
            have hx:=HX.out
            have hnin : ¬ ou ∈ S3:=fun c => by rw [(inB_iff S3 ou).2 c] at hb; cases hb
            refine ⟨hx.1.more (HO.out.1 rfl).1 hnin,hx.2.1.more (by omega) ou,by simp; omega,?_,fun p hp => List.mem_append_left _ (hx.2.2.2.2.1 p hp),HQ.out _ (fun u h => List.mem_append_left _ h) (fun n u hr hn => by rw [(HO.out.1 rfl).2.2 n u hr hn]; simp)⟩
            rw [List.getElem?_append_left (by omega)]
            exact hx.2.2.2.1
           clear HX HQ HO hti hb
           have HSn : Hid (strV S3 ++ [.string ou] = strV (S3 ++ [ou])):=strV_snoc S3 ou
           go_wp2_with fail
           go_region_held3 (fun W => W.cell? ⟨sb,so + i,none⟩ = some (.string tt) ∧ W.cell? ⟨kb0,ko + j3,none⟩ = some (I y))
            (first | exact ⟨by simpa using hcs,by simpa using hck⟩ | exact hSo)
            ((go_at_call 93; refine (hOp _).mono ?_; rintro e wo ⟨rfl,hbo⟩; have hSo : wo.cell? ⟨sb,so + i,none⟩ = some (.string tt) ∧ wo.cell? ⟨kb0,ko + j3,none⟩ = some (I y):=⟨(hbo.cell (p:=⟨sb,so + i,none⟩) hsb).trans (by simpa using hcs),(hbo.cell (p:=⟨kb0,ko + j3,none⟩) hkb).trans (by simpa using hck)⟩))
           have hbo2 : Below wr.heap.size wr wo:=(Below.refl _ wr).drew.trans hbo
           have own9':=own_later own9 hbo2
           have own3':=own_later own3 hbo2
           have bel':=bel.trans (hbo2.mono bel.size)
           clear own9 own3 bel hbo hbo2 hSo hcs hck hOp
           go_wp2_with fail
           refine (hInW _ own9').mono ?_
           clear hInW
           rintro e wq ⟨rfl,rfl⟩
           go_wp2_with (first | (at_builtin; refine wpList_append_own_at _ rfl _ _ 26 rfl w.heap.size 9 i0 (.string ⟨#[]⟩) 1 16 Tryz.underlying26 hi hz0 hz1 hz2 rfl (by decide) _ _ _ rfl (own9'.alloc _) ⟨wo.heap.size,0,none⟩ 1 1 [.string ou] rfl rfl (cell_one_new _ _ _) ?c2 ?c3 ?c4 ?c5 ?_) | go_in)
           case c2 => first | rfl | (intro u hu; simp at hu; subst hu; rfl)
           case c3 => unfold maxLen; omega
           case c4 => omega
           case c5 => have:=bel'.size; simp; omega
           intro v' w4 hown' hgrow _ hloc
           have own3n:=World.ownsRow.kept (own3'.alloc (.cells #[.string ou] 9)) hgrow (own_ne' own9' own3')
           have beln:=below_app bel' (Nat.le_refl _) own9' hgrow
           rw [HSn.out] at hown'
           have hl1 : S3.length + 1 = (S3 ++ [ou]).length:=by simp
           rw [hl1] at hown'
           obtain ⟨a4,ka4,rfl,_,_⟩:=own_row hown'
           have R : Hid (∃ (S4 : List ByteArray) (a5 : Option Addr) (ka5 j1 : Nat),Value.slice a4 (S3 ++ [ou]).length ka4 = .slice a5 S4.length ka5 ∧ Value.int .i64 ((j3 : Int) + 1) = I j1 ∧ j1 ≤ K2.length ∧ Hid (Inv xs ks S4 K2 ∧ Done K S4 K2 i ∧ S.length ≤ S4.length ∧ S4[i]? = some tt ∧ (∀ p,p ∈ P → p ∈ S4) ∧ ∀ q (h : q < K2.length),q < j1 → ∀ (n : Nat) u,rk tt 115 = some (n,u) → (n : Int) = K2[q] → u ∈ S4) ∧ w4.ownsRow w.heap.size 9 1 (.slice a5 S4.length ka5) S4.length (strV S4) ∧ w4.ownsRow w.heap.size 3 1 (.slice (some ⟨kb0,ko,none⟩) K2.length kb2) K2.length (intV K2) ∧ Below w.heap.size w w4) :=
            ⟨S3 ++ [ou],a4,ka4,j3 + 1,rfl,by go_num,by omega,HX2,hown',own3n,beln⟩
           clear hown' own3n beln HX2 hgrow hloc hl1 HSn own9' own3' bel'
           go_wp2
           go_roundw
           case rel => first | exact R.out | (have R:=R.out; (repeat apply Exists.intro); exact ⟨R,rfl⟩)
           case measure => simp [intOf]; omega
        ·have hti : S3[i] = tt:=by have:=HX.out.2.2.2.1; rw [List.getElem?_eq_getElem hiS] at this; exact Option.some.inj this
         have HD : Hid (Inv xs ks S3 K2 ∧ Done K S3 K2 (i + 1) ∧ Grew K K2 ∧ (∀ k,k ∈ K → k ∈ K2) ∧ S0.length ≤ S3.length):=by
          have hx:=HX.out
          have h2:=HI2.out
          refine ⟨hx.1,hx.2.1.step hiS (fun n r h => by rw [hti] at h; exact h2.2.2.2.2.2 n r h) (fun p hp => by rw [hti,HPe.out] at hp; exact hx.2.2.2.2.1 p hp) (fun n u h hk => ?_),h2.2.2.1,h2.2.2.2.1,by omega⟩
          rw [hti] at h
          obtain ⟨q,hq,e⟩:=List.getElem_of_mem (h2.2.2.2.1 _ hk)
          exact hx.2.2.2.2.2 q hq (by omega) n u h e.symm
         clear HX hti
         go_wp2
         go_roundw
         case rel => exact ⟨S3,K2,a3,ka3,b2,kb2,i + 1,rfl,rfl,by go_num,by omega,HD,own9,own3,bel⟩
         case measure => simp [intOf]; omega
   ·obtain rfl : i = S.length:=by omega
    have hgk : K.length ≤ K1.length:=by
     rcases HI1.out.2.2.1 with h | h
     ·rw [h]; exact Nat.le_refl _
     ·omega
    have hs0:=HI1.out.2.2.2.2
    by_cases hA : S.length = S0.length
    ·have hd1 : ((S.length : Int) == (S0.length : Int)) = true:=by simp; omega
     by_cases hB : K1.length = K.length
     ·have hd2 : ((K1.length : Int) == (K.length : Int)) = true:=by simp; omega
      have hKK : K1 = K:=by
       rcases HI1.out.2.2.1 with h | h
       ·exact h
       ·omega
      have HF : Hid ((∀ t,t ∈ S ↔ SeenT xs ks t) ∧ (∀ k,k ∈ K1 ↔ ReachT xs ks k) ∧ K1.Pairwise (· < ·) ∧ S.length ≤ 1000000000 ∧ K1.length ≤ 1000000):=by
       have h1:=HI1.out.1
       have hdn:=HI1.out.2.1
       rw [← hKK] at hdn
       have hc:=h1.closed hdn
       exact ⟨just_seen hc h1.2.1,just_reached hc h1.2.2.1,h1.2.2.2.1,by omega,hlen1.2⟩
      clear HI1 hKK
      go_wp2
      go_ret2
      exact ⟨a,b1,ka,kb1,S,K1,rfl,own9,own3,HF,bel⟩
     ·have hd2 : ((K1.length : Int) == (K.length : Int)) = false:=by simp; omega
      have HI9 : Hid (Inv xs ks S K1):=HI1.out.1
      clear HI1
      go_wp2
      go_roundw
      case rel => exact ⟨S,K1,a,ka,b1,kb1,rfl,rfl,HI9,own9,own3,bel⟩
      case measure => simp [lenV]; omega
    ·have hd1 : ((S.length : Int) == (S0.length : Int)) = false:=by simp; omega
     have HI9 : Hid (Inv xs ks S K1):=HI1.out.1
     clear HI1
     go_wp2
     go_roundw
     case rel => exact ⟨S,K1,a,ka,b1,kb1,rfl,rfl,HI9,own9,own3,bel⟩
     case measure => simp [lenV]; omega
end Go.Proofs.YtlmpfkbgknbcnaaGreat.Kn
