/- Roots: the program. -/
import Derived.Test.YtlmpfkbgknbcnaaGreatAb
import Derived.Test.YtlmpfkbgknbcnaaGreatWs9
import Derived.Test.YtlmpfkbgknbcnaaGreatConf2
set_option linter.unusedVariables false
set_option maxRecDepth 100000
namespace Go.Proofs.YtlmpfkbgknbcnaaGreat.Nd
open Go Go.RowKit Go.Joins Own Draw
def e0 : TE:=(0,0,0,0,0,0,0,0,0,0,0)
def ownAt (xs : List TE) (z : Int) : List Int:=ownR (xs.getD z.toNat e0)
theorem ownAt_at {xs : List TE} {i : Nat} (h : i < xs.length) : ownAt xs (i : Int) = ownR xs[i]:=by unfold ownAt; simp [h]
theorem ownR_len (p : TE) : (ownR p).length ≤ 2:=by unfold ownR; split <;> (try split) <;> simp
def keysOf (xs : List TE) (L : List Int) : List Int:=L.flatMap (ownAt xs)
theorem keysOf_succ (xs : List TE) {L : List Int} {k : Nat} (h : k < L.length) : keysOf xs (L.take (k + 1)) = keysOf xs (L.take k) ++ ownAt xs L[k]:=by
 unfold keysOf
 rw [List.take_succ_eq_append_getElem h,List.flatMap_append]
 simp
theorem keysOf_len (xs : List TE) : ∀ (L : List Int),(keysOf xs L).length ≤ 2 * L.length
 | [] => by simp [keysOf]
 | z :: r => by
  have h1:=keysOf_len xs r
  have h2:=ownR_len (xs.getD z.toNat e0)
  unfold keysOf at h1 ⊢
  rw [List.flatMap_cons,List.length_append,List.length_cons]
  unfold ownAt at h1 ⊢
  omega
/-- The chain by which a key was asked for. -/
def chA (xs : List TE) (n : Int) : List Int:=frL xs (bwL xs awV xs.length n true)
theorem frL_in {xs : List TE} {l : List Int} : ∀ z ∈ frL xs l,z ∈ l:=by
 intro z hz
 unfold frL at hz
 cases e : l.getLast? with
 | none => rw [e] at hz; cases hz
 | some y =>
  rw [e] at hz
  dsimp only at hz
  split at hz
  ·exact List.mem_reverse.1 hz
  ·cases hz
theorem frL_len (xs : List TE) (l : List Int) : (frL xs l).length ≤ l.length:=by
 unfold frL
 cases e : l.getLast? with
 | none => simp
 | some y => dsimp only; split <;> simp
theorem chA_len (xs : List TE) (n : Int) : (chA xs n).length ≤ xs.length:=Nat.le_trans (frL_len _ _) (bwL_len _ _ _ _ _)
theorem chA_in (xs : List TE) (n : Int) : ∀ z ∈ chA xs n,∃ i : Nat,z = (i : Int) ∧ i < xs.length:=fun z hz => bwL_in _ _ _ _ _ z (frL_in z hz)
/-- What Roots answers. -/
def roP (c : Cf) (xs : List TE) (n : Int) : List Int:=if confB c then (if (keysOf xs (chA xs n)).all (fun x => btw x 1 1000000) then riL (keysOf xs (chA xs n)) else []) else []
theorem awV_i64 {xs : List TE} (h : ∀ p ∈ xs,i64 (paE p)) : ∀ p ∈ xs,i64 (awV p).1:=by
 intro p hp
 unfold awV
 split
 ·exact h p hp
 ·show i64 0
  unfold i64
  omega
theorem grown_kept {B : Nat} {w w1 w2 : World} {e : TypeId} {size n : Nat} {v : Value} {xs : List Value} (hbel : Below B w w1) (hB : B ≤ w.heap.size) (h : w1.ownsRow B e size v n xs) (hg : w1.grownBy w2 v.ownBlock) : Below B w w2 :=
 hbel.grown hg (Nat.le_trans hB hbel.size) (fun k hk => by
  rcases h.2 with ⟨rfl,_⟩ | ⟨g,cap,cur,rfl,hbg,_⟩
  ·cases hk
  ·simp [Value.ownBlock] at hk; omega)
set_option maxRecDepth 100000 in
set_option maxHeartbeats 6400000 in
theorem implRoots_is (c : Cf) (a : Option Addr) (cap : Nat) (xs : List TE) (n : Int) (w : World) (C : CfAt c w) (K : CfOk c) (hr : FRow 11 cE w a xs) (hl : xs.length ≤ 1048576) (hn : i64 n) (hx : ∀ p ∈ xs,i64 (kyE p) ∧ i64 (paE p)) :
  Calls Tryz.prog 56 #[c.val,.slice a xs.length cap,I n] w fun en w' => ∃ (ra : Option Addr) (rc : Nat),en = .returned (.slice ra (roP c xs n).length rc) ∧ w'.ownsRow w.heap.size 3 1 (.slice ra (roP c xs n).length rc) (roP c xs n).length (intV (roP c xs n)) ∧ Below w.heap.size w w':=by
 obtain ⟨i0,hi,hz0,hz1,hz2⟩:=info_parts infoInt3
 obtain ⟨W1,hW1⟩ : ∃ W1,w.alloc (.cells #[.slice c.ua c.U.length c.uc,.slice c.sa c.S.length c.sc,.slice c.la c.L.length c.lc,.slice c.xa c.X.length c.xc,I c.k] 40) = W1:=⟨_,rfl⟩
 have B0 : Below w.heap.size w W1:=by rw [← hW1]; exact (Below.refl _ _).alloc (Nat.le_refl _) _
 have T0 : Blk w.heap.size c.cells W1:=by rw [← hW1]; exact Blk.new _ _ _
 have d0:=T0.at 0 rfl
 have d1:=T0.at 1 rfl
 have d2:=T0.at 2 rfl
 have d3:=T0.at 3 rfl
 have d4:=T0.at 4 rfl
 go_enter Tryz.func56,Tryz.ntmps56
 go_wp2_with fail
 try rw [hW1]
 refine (cfRight_is c W1 (C.later B0) K).mono ?_
 clear hW1 d0 d1 d2 d3 d4 T0
 rintro en w2 ⟨rfl,hb⟩
 have B2:=B0.trans (hb.mono B0.size)
 clear B0 hb
 by_cases hc : confB c = true
 ·rw [hc]
  have KB:=backwards_is a xs.length cap n 106 w2
  have bX:=bx3_below w2 a xs.length cap n 106
  have sX:=bx3_size w2 a xs.length cap n 106
  obtain ⟨c1,c2,c3⟩:=bx3_cells w2 a xs.length cap n 106
  have K2:=backFrom_is w2.heap.size (w2.heap.size + 1) (w2.heap.size + 2) n hn a cap xs hl (fun p h => (hx p h).1) (awV_i64 (fun p h => (hx p h).2)) (Bx3 w2 a xs.length cap n 106) ((hr.later B2).later bX) (by omega) (by omega) (by omega) c1 c2 c3
  clear c1 c2 c3 hx C K
  have hLl : (chA xs n).length ≤ xs.length:=chA_len xs n
  have HLi : Hid (∀ z ∈ chA xs n,∃ i : Nat,z = (i : Int) ∧ i < xs.length):=chA_in xs n
  have HV0 : Hid (roP c xs n = if (keysOf xs (chA xs n)).all (fun x => btw x 1 1000000) then riL (keysOf xs (chA xs n)) else []):=by show _ = _; unfold roP; rw [if_pos hc]
  replace K2 : Calls Tryz.prog 104 #[.slice a xs.length cap,.func (.func 151) #[] #[.pointer (some ⟨w2.heap.size,0,none⟩),.pointer (some ⟨w2.heap.size + 1,0,none⟩),.pointer (some ⟨w2.heap.size + 2,0,none⟩)]] (Bx3 w2 a xs.length cap n 106) fun e w' => ∃ ra rc,e = .returned (.slice ra (chA xs n).length rc) ∧ w'.ownsRow (Bx3 w2 a xs.length cap n 106).heap.size 3 1 (.slice ra (chA xs n).length rc) (chA xs n).length (intV (chA xs n)) ∧ Below (Bx3 w2 a xs.length cap n 106).heap.size (Bx3 w2 a xs.length cap n 106) w':=K2
  generalize chA xs n = L at K2 hLl HLi HV0
  generalize Bx3 w2 a xs.length cap n 106 = V at *
  go_wp2_with fail
  refine KB.mono ?_
  clear KB
  rintro en w3 ⟨rfl,rfl⟩
  go_wp2_with fail
  refine K2.mono ?_
  clear K2
  rintro en w4 ⟨ra,rc,rfl,ho,hb2⟩
  have B4 : Below w.heap.size w w4:=(B2.trans (bX.mono B2.size)).trans (hb2.mono (B2.trans (bX.mono B2.size)).size)
  have hrow : RowAt (Value.int .i64) w4 ra L:=irow_of ho
  clear hb2 sX bX B2 ho
  have hnl0 : w4.ownsRow w4.heap.size 3 1 (.slice none 0 0) 0 (intV (keysOf xs (L.take 0))):=World.ownsRow_nil _ _ _ _
  go_wp2
  go_loopw [7,9,19] (fun kv zv iv wr => ∃ (k : Nat) (ka : Option Addr) (kc : Nat),k ≤ L.length ∧ iv = I k ∧ kv = .slice ka (keysOf xs (L.take k)).length kc ∧ wr.ownsRow w4.heap.size 3 1 (.slice ka (keysOf xs (L.take k)).length kc) (keysOf xs (L.take k)).length (intV (keysOf xs (L.take k))) ∧ Below w4.heap.size w4 wr) (fun _ _ iv _ => L.length - (intOf iv).toNat)
  case atStart => exact ⟨0,none,0,by omega,rfl,rfl,hnl0,Below.refl _ _⟩
  case round =>
   clear hnl0
   obtain ⟨k,ka,kc,hk,rfl,rfl,hown,hbel⟩:=hrel
   have hkl:=keysOf_len xs (L.take k)
   rw [List.length_take] at hkl
   by_cases hlt : k < L.length
   ·obtain ⟨b2,o2,rfl,l2,hc2⟩:=hrow k hlt
    have hcz:=(hbel.cell (p:=⟨b2,o2 + k,none⟩) l2).trans hc2
    obtain ⟨i,hzi,hi2⟩:=HLi.out _ (List.getElem_mem hlt)
    have HS : Hid (keysOf xs (L.take k) ++ ownR xs[i] = keysOf xs (L.take (k + 1))):=by show _ = _; rw [keysOf_succ xs hlt,hzi,ownAt_at hi2]
    have ho2:=ownR_len xs[i]
    rw [hzi] at hcz
    clear hc2 hzi
    obtain ⟨b1,o1,rfl,l1,hcc⟩:=(hr.later B4) i hi2
    have g0 : wr.cell? ⟨b1,o1 + i * 11,none⟩ = some (I xs[i].1):=(hbel.cell (p:=⟨b1,o1 + i * 11,none⟩) l1).trans (hcc 0 _ rfl)
    have g1 : wr.cell? ⟨b1,o1 + i * 11 + 1,none⟩ = some (I xs[i].2.1):=(hbel.cell (p:=⟨b1,o1 + i * 11 + 1,none⟩) l1).trans (hcc 1 _ rfl)
    have g2 : wr.cell? ⟨b1,o1 + i * 11 + 2,none⟩ = some (I xs[i].2.2.1):=(hbel.cell (p:=⟨b1,o1 + i * 11 + 2,none⟩) l1).trans (hcc 2 _ rfl)
    have g3 : wr.cell? ⟨b1,o1 + i * 11 + 3,none⟩ = some (I xs[i].2.2.2.1):=(hbel.cell (p:=⟨b1,o1 + i * 11 + 3,none⟩) l1).trans (hcc 3 _ rfl)
    have g4 : wr.cell? ⟨b1,o1 + i * 11 + 4,none⟩ = some (I xs[i].2.2.2.2.1):=(hbel.cell (p:=⟨b1,o1 + i * 11 + 4,none⟩) l1).trans (hcc 4 _ rfl)
    have g5 : wr.cell? ⟨b1,o1 + i * 11 + 5,none⟩ = some (I xs[i].2.2.2.2.2.1):=(hbel.cell (p:=⟨b1,o1 + i * 11 + 5,none⟩) l1).trans (hcc 5 _ rfl)
    have g6 : wr.cell? ⟨b1,o1 + i * 11 + 6,none⟩ = some (I xs[i].2.2.2.2.2.2.1):=(hbel.cell (p:=⟨b1,o1 + i * 11 + 6,none⟩) l1).trans (hcc 6 _ rfl)
    have g7 : wr.cell? ⟨b1,o1 + i * 11 + 7,none⟩ = some (I xs[i].2.2.2.2.2.2.2.1):=(hbel.cell (p:=⟨b1,o1 + i * 11 + 7,none⟩) l1).trans (hcc 7 _ rfl)
    have g8 : wr.cell? ⟨b1,o1 + i * 11 + 8,none⟩ = some (I xs[i].2.2.2.2.2.2.2.2.1):=(hbel.cell (p:=⟨b1,o1 + i * 11 + 8,none⟩) l1).trans (hcc 8 _ rfl)
    have g9 : wr.cell? ⟨b1,o1 + i * 11 + 9,none⟩ = some (I xs[i].2.2.2.2.2.2.2.2.2.1):=(hbel.cell (p:=⟨b1,o1 + i * 11 + 9,none⟩) l1).trans (hcc 9 _ rfl)
    have g10 : wr.cell? ⟨b1,o1 + i * 11 + 10,none⟩ = some (I xs[i].2.2.2.2.2.2.2.2.2.2):=(hbel.cell (p:=⟨b1,o1 + i * 11 + 10,none⟩) l1).trans (hcc 10 _ rfl)
    have hlt2 : (k : Int) < (L.length : Int):=by omega
    have hi3 : (i : Int) < (xs.length : Int):=by omega
    generalize hp : xs[i] = p at HS ho2 g0 g1 g2 g3 g4 g5 g6 g7 g8 g9 g10
    have KO:=fun U => own_is p U
    clear hp hcc
    generalize keysOf xs (L.take k) = ks at hown HS hkl
    generalize ownR p = rs at KO HS ho2
    obtain ⟨p0,p1,p2,p3,p4,p5,p6,p7,p8,p9,p10⟩:=p
    go_wp2_with fail
    refine (KO _).mono ?_
    clear KO g0 g1 g2 g3 g4 g5 g6 g7 g8 g9 g10
    rintro en w5 ⟨gg,gc,rfl,hro,hb5⟩
    replace hown:=own_later hown hb5
    replace hbel:=hbel.trans (hb5.mono hbel.size)
    have hrow5 : RowAt (Value.int .i64) w5 (some ⟨gg,0,none⟩) rs:=irow_of hro
    have hnw:=news_row hrow5
    clear hb5 hro
    go_wp2_with (first | (at_builtin; refine wpList_append_row _ rfl _ _ 22 rfl w4.heap.size 3 i0 (I 0) 1 8 Tryz.underlying22 hi hz0 hz1 hz2 rfl (by decide) _ _ _ rfl hown (some ⟨gg,0,none⟩) rs.length gc (rs.map (Value.int .i64)) rfl ?c1 hnw (one_ints rs) ?c3 ?c4 ?c5 (by simp) ?_) | go_in)
    case c1 => simp
    case c3 => unfold maxLen; omega
    case c4 => omega
    case c5 => exact hbel.size
    intro vA wA ownA hgA
    have hbA : Below w4.heap.size w4 wA:=grown_kept hbel (Nat.le_refl _) hown hgA
    obtain ⟨na,nc,rfl,_⟩:=own_shape ownA
    have HR : Hid (∃ (k' : Nat) (ka' : Option Addr) (kc' : Nat),k' ≤ L.length ∧ Value.int .i64 ((k : Int) + 1) = I k' ∧ Value.slice na (ks.length + rs.length) nc = .slice ka' (keysOf xs (L.take k')).length kc' ∧ wA.ownsRow w4.heap.size 3 1 (.slice ka' (keysOf xs (L.take k')).length kc') (keysOf xs (L.take k')).length (intV (keysOf xs (L.take k'))) ∧ Below w4.heap.size w4 wA):=by
     refine ⟨k + 1,na,nc,by omega,by go_num,?_,?_,hbA⟩
     ·rw [← HS.out,List.length_append]
     ·rw [← HS.out,List.length_append]
      unfold intV
      rw [List.map_append]
      exact ownA
    clear hown hbel hgA hnw hrow5 ownA HS hbA hkl ho2
    go_wp2
    go_roundw
    case rel => exact HR.out
    case measure => simp [intOf]; omega
   ·have hlt2 : ¬ (k : Int) < (L.length : Int):=by omega
    rw [List.take_of_length_le (by omega)] at hown hkl ⊢
    have KA:=fun U (h : Below wr.heap.size wr U) => allI_is ka kc (keysOf xs L) U ((irow_of hown).later h) (by omega) (fun x _ w' _ => (key_b x w').mono (by rintro e w1 ⟨rfl,rfl⟩; exact ⟨rfl,Below.refl _ _⟩))
    generalize keysOf xs L = ks at hown HV0 KA hkl
    cases hall : ks.all (fun x => btw x 1 1000000) with
    | true =>
     have HV : Hid (roP c xs n = riL ks):=by show _ = _; rw [HV0.out,hall]; rfl
     have KA2:=KA wr (Below.refl _ _)
     rw [hall] at KA2
     clear HV0 KA hall
     go_wp2_with fail
     refine KA2.mono ?_
     clear KA2
     rintro en w5 ⟨rfl,hb5⟩
     replace hown:=own_later hown hb5
     replace hbel:=hbel.trans (hb5.mono hbel.size)
     clear hb5
     go_wp2_with fail
     refine (rising_is w4.heap.size ka kc ks w5 hown (by omega) hbel.size).mono ?_
     rintro en w6 ⟨ra6,rc6,rfl,ho6,hb6⟩
     have HB6 : Hid (Below w.heap.size w w6):=B4.trans ((hbel.trans hb6).mono B4.size)
     replace ho6:=base_le ho6 B4.size
     clear hbel hb6 hown
     go_wp2
     go_ret
     rw [HV.out]
     exact ⟨ra6,rc6,rfl,ho6,HB6.out⟩
    | false =>
     have HV : Hid (roP c xs n = []):=by show _ = _; rw [HV0.out,hall]; rfl
     have KA2:=KA wr (Below.refl _ _)
     rw [hall] at KA2
     clear HV0 KA hall
     go_wp2_with fail
     refine KA2.mono ?_
     clear KA2
     rintro en w5 ⟨rfl,hb5⟩
     replace hbel:=hbel.trans (hb5.mono hbel.size)
     have HB6 : Hid (Below w.heap.size w w5):=B4.trans (hbel.mono B4.size)
     clear hb5 hown hbel
     go_wp2
     go_ret
     rw [HV.out]
     exact ⟨none,0,rfl,World.ownsRow_nil _ _ _ _,HB6.out⟩
 ·rw [Bool.not_eq_true] at hc
  have HV : Hid (roP c xs n = []):=by show _ = _; unfold roP; rw [hc]; rfl
  rw [hc]
  clear hc hr hx C K
  go_wp2
  go_ret
  rw [HV.out]
  exact ⟨none,0,rfl,World.ownsRow_nil _ _ _ _,B2⟩
end Go.Proofs.YtlmpfkbgknbcnaaGreat.Nd
