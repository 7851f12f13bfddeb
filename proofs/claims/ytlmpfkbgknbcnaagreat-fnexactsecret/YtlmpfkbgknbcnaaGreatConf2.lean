/- Configs that are right: the model; what the laws do with Configs. -/
import Derived.Test.YtlmpfkbgknbcnaaGreatAb
import Derived.Test.YtlmpfkbgknbcnaaGreatPair2
import Derived.Test.YtlmpfkbgknbcnaaGreatPair4
import Derived.Test.YtlmpfkbgknbcnaaGreatPair5
import Derived.Test.YtlmpfkbgknbcnaaGreatNd0
import Derived.Test.YtlmpfkbgknbcnaaGreatVarWalks
import Derived.Test.YtlmpfkbgknbcnaaGreatCr1
import Derived.Test.YtlmpfkbgknbcnaaGreatKnow3
import Derived.Test.YtlmpfkbgknbcnaaGreatRight
set_option linter.unusedVariables false
set_option maxRecDepth 100000
namespace Go.Proofs.YtlmpfkbgknbcnaaGreat
open Go Go.RowKit Var Term Draw
set_option maxRecDepth 100000 in
set_option maxHeartbeats 6400000 in
theorem cfSpecOk_is (c : Cf) (w : World) (C : CfAt c w) (K : CfOk c) : Calls Tryz.prog 21 #[c.val] w fun en w' => en = .returned (.bool (confB c)) ∧ Below w.heap.size w w':=by
 obtain ⟨W1,hW1⟩ : ∃ W1,w.alloc (.cells #[.slice c.ua c.U.length c.uc,.slice c.sa c.S.length c.sc,.slice c.la c.L.length c.lc,.slice c.xa c.X.length c.xc,I c.k] 40) = W1:=⟨_,rfl⟩
 have B0 : Below w.heap.size w W1:=by rw [← hW1]; exact (Below.refl _ _).alloc (Nat.le_refl _) _
 have T0 : Blk w.heap.size c.cells W1:=by rw [← hW1]; exact Blk.new _ _ _
 have Z0 : Hid (w.heap.size < W1.heap.size):=by show _ < _; rw [← hW1]; simp
 have d0:=T0.at 0 rfl
 have d1:=T0.at 1 rfl
 have d2:=T0.at 2 rfl
 have d3:=T0.at 3 rfl
 have d4:=T0.at 4 rfl
 by_cases hu : c.U.length = 3
 ·have u1 : ((c.U.length : Int) == 3) = true:=beq_iff_eq.2 (by omega)
  have u2 : decide ((c.U.length : Int) = 3) = true:=decide_eq_true (by omega)
  have u3 : realmB c.U = allB c.U 3:=by unfold realmB; rw [decide_eq_true hu]; rfl
  by_cases hs : c.S.length = 3
  ·have s1 : ((c.S.length : Int) == 3) = true:=beq_iff_eq.2 (by omega)
   have s2 : decide ((c.S.length : Int) = 3) = true:=decide_eq_true (by omega)
   have s3 : realmB c.S = allB c.S 3:=by unfold realmB; rw [decide_eq_true hs]; rfl
   have HC : Hid (confB c = (allB c.U 3 && (allB c.S 3 && (pairsB ulB c.L && (pairsB svB c.X && btw c.k 0 20))))):=by show confB c = _; unfold confB; rw [u3,s3]
   clear hu hs u3 s3
   go_enter Tryz.func21,Tryz.ntmps21
   go_wp2_with fail
   try rw [hW1]
   refine (spec_all c.ua c.uc c.U 3 _ (C.hu.later B0) K.lu (by omega)).mono ?_
   clear hW1
   rintro e w2 ⟨rfl,hb2⟩
   have B2:=B0.trans (hb2.mono B0.size)
   clear d0 d1 d2 d3 d4
   have T2:=T0.later hb2 Z0.out
   have Z2 : Hid (w.heap.size < w2.heap.size):=Nat.lt_of_lt_of_le Z0.out hb2.size
   clear T0 Z0 hb2
   have d0:=T2.at 0 rfl
   have d1:=T2.at 1 rfl
   have d2:=T2.at 2 rfl
   have d3:=T2.at 3 rfl
   have d4:=T2.at 4 rfl
   by_cases h0 : allB c.U 3 = true
   ·rw [h0]
    go_wp2_with fail
    refine (spec_all c.sa c.sc c.S 3 _ (C.hs.later B2) K.ls (by omega)).mono ?_
    rintro e w3 ⟨rfl,hb3⟩
    have B3:=B2.trans (hb3.mono B2.size)
    clear d0 d1 d2 d3 d4
    have T3:=T2.later hb3 Z2.out
    have Z3 : Hid (w.heap.size < w3.heap.size):=Nat.lt_of_lt_of_le Z2.out hb3.size
    clear T2 Z2 hb3
    have d0:=T3.at 0 rfl
    have d1:=T3.at 1 rfl
    have d2:=T3.at 2 rfl
    have d3:=T3.at 3 rfl
    have d4:=T3.at 4 rfl
    by_cases h1 : allB c.S 3 = true
    ·rw [h1]
     go_wp2_with fail
     refine (specPairsU_is c.la c.lc c.L _ (C.hl.later B3) K.ll K.cl).mono ?_
     rintro e w4 ⟨rfl,hb4⟩
     have B4:=B3.trans (hb4.mono B3.size)
     clear d0 d1 d2 d3 d4
     have T4:=T3.later hb4 Z3.out
     have Z4 : Hid (w.heap.size < w4.heap.size):=Nat.lt_of_lt_of_le Z3.out hb4.size
     clear T3 Z3 hb4
     have d0:=T4.at 0 rfl
     have d1:=T4.at 1 rfl
     have d2:=T4.at 2 rfl
     have d3:=T4.at 3 rfl
     have d4:=T4.at 4 rfl
     by_cases h2 : pairsB ulB c.L = true
     ·rw [h2]
      go_wp2_with fail
      refine (specPairsS_is c.xa c.xc c.X _ (C.hx.later B4) K.lx K.cx).mono ?_
      rintro e w5 ⟨rfl,hb5⟩
      have B5:=B4.trans (hb5.mono B4.size)
      clear d0 d1 d2 d3 d4
      have T5:=T4.later hb5 Z4.out
      have Z5 : Hid (w.heap.size < w5.heap.size):=Nat.lt_of_lt_of_le Z4.out hb5.size
      clear T4 Z4 hb5
      have d0:=T5.at 0 rfl
      have d1:=T5.at 1 rfl
      have d2:=T5.at 2 rfl
      have d3:=T5.at 3 rfl
      have d4:=T5.at 4 rfl
      by_cases h3 : pairsB svB c.X = true
      ·rw [h3]
       go_wp2_with fail
       refine (in_is c.k 0 20 _).mono ?_
       rintro e wx ⟨rfl,rfl⟩
       rw [show (decide (0 ≤ c.k) && decide (c.k ≤ 20)) = btw c.k 0 20 from rfl]
       clear d0 d1 d2 d3 d4
       generalize hval : btw c.k 0 20 = bb
       go_wp2
       go_ret
       exact ⟨by rw [HC.out,h0,h1,h2,h3,hval]; rfl,B5⟩
      ·rw [Bool.not_eq_true] at h3
       rw [h3]
       clear d0 d1 d2 d3 d4
       go_wp2
       go_ret
       exact ⟨by rw [HC.out,h0,h1,h2,h3]; rfl,B5⟩
     ·rw [Bool.not_eq_true] at h2
      rw [h2]
      clear d0 d1 d2 d3 d4
      go_wp2
      go_ret
      exact ⟨by rw [HC.out,h0,h1,h2]; rfl,B4⟩
    ·rw [Bool.not_eq_true] at h1
     rw [h1]
     clear d0 d1 d2 d3 d4
     go_wp2
     go_ret
     exact ⟨by rw [HC.out,h0,h1]; rfl,B3⟩
   ·rw [Bool.not_eq_true] at h0
    rw [h0]
    clear d0 d1 d2 d3 d4
    go_wp2
    go_ret
    exact ⟨by rw [HC.out,h0]; rfl,B2⟩
  ·have s1 : ((c.S.length : Int) == 3) = false:=beq_eq_false_iff_ne.2 (by omega)
   have s2 : decide ((c.S.length : Int) = 3) = false:=decide_eq_false (by omega)
   have s3 : realmB c.S = false:=by unfold realmB; rw [decide_eq_false hs]; rfl
   have HC : Hid (confB c = false):=by show confB c = _; unfold confB; rw [s3]; simp
   clear hu hs u3 s3
   go_enter Tryz.func21,Tryz.ntmps21
   go_wp2_with fail
   try rw [hW1]
   refine (spec_all c.ua c.uc c.U 3 _ (C.hu.later B0) K.lu (by omega)).mono ?_
   clear hW1
   rintro e w2 ⟨rfl,hb2⟩
   have B2:=B0.trans (hb2.mono B0.size)
   clear d0 d1 d2 d3 d4
   have T2:=T0.later hb2 Z0.out
   have Z2 : Hid (w.heap.size < w2.heap.size):=Nat.lt_of_lt_of_le Z0.out hb2.size
   clear T0 Z0 hb2
   have d0:=T2.at 0 rfl
   have d1:=T2.at 1 rfl
   have d2:=T2.at 2 rfl
   have d3:=T2.at 3 rfl
   have d4:=T2.at 4 rfl
   by_cases h0 : allB c.U 3 = true
   ·rw [h0]
    skip
    go_wp2
    go_ret
    exact ⟨by rw [HC.out]; rfl,B2⟩
   ·rw [Bool.not_eq_true] at h0
    rw [h0]
    clear d0 d1 d2 d3 d4
    go_wp2
    go_ret
    exact ⟨by rw [HC.out]; rfl,B2⟩
 ·have u1 : ((c.U.length : Int) == 3) = false:=beq_eq_false_iff_ne.2 (by omega)
  have u2 : decide ((c.U.length : Int) = 3) = false:=decide_eq_false (by omega)
  have u3 : realmB c.U = false:=by unfold realmB; rw [decide_eq_false hu]; rfl
  have HC : Hid (confB c = false):=by show confB c = _; unfold confB; rw [u3]; simp
  clear hu u3
  go_enter Tryz.func21,Tryz.ntmps21
  go_wp2
  try rw [hW1]
  go_ret
  exact ⟨by rw [HC.out]; rfl,by first | exact B0 | (rw [hW1]; exact B0)⟩
end Go.Proofs.YtlmpfkbgknbcnaaGreat

set_option linter.unusedVariables false
set_option maxRecDepth 100000
namespace Go.Proofs.YtlmpfkbgknbcnaaGreat.Nd
open Go Go.RowKit Go.Joins Own Draw Term
theorem prow_of {w : World} {a : Option Addr} {xs : List TP} (h : FRow 2 cP w a xs) : PRow w a xs:=by
 intro j hj
 obtain ⟨b,o,e,hb,hc⟩:=h j hj
 exact ⟨b,o,e,hb,hc 0 _ rfl,hc 1 _ rfl⟩
theorem arow_of {w : World} {a : Option Addr} {xs : List TA} (h : FRow 3 cA w a xs) : Ch.ARow w a xs:=by
 intro j hj
 obtain ⟨b,o,e,hb,hc⟩:=h j hj
 exact ⟨b,o,e,hb,hc 0 _ rfl,hc 1 _ rfl,hc 2 _ rfl⟩
theorem own_cap {w : World} {B t s n c : Nat} {a : Option Addr} {xs : List Value} (h : w.ownsRow B t s (.slice a n c) n xs) : n ≤ c:=by
 rcases h.2 with ⟨e,h0⟩ | ⟨g,cap,cur,e,_,_,hc,_⟩
 ·omega
 ·injection e with _ _ e3; omega
theorem within_b (n g : Int) (w : World) : Calls Tryz.prog 77 #[I n,I g] w fun e w' => e = .returned (.bool (btw n 0 g)) ∧ w = w':=within_is n g w
theorem in_b (n l g : Int) (w : World) : Calls Tryz.prog 22 #[I n,I l,I g] w fun e w' => e = .returned (.bool (btw n l g)) ∧ w = w':=in_is n l g w
theorem key_b (n : Int) (w : World) : Calls Tryz.prog 78 #[I n] w fun e w' => e = .returned (.bool (btw n 1 1000000)) ∧ w = w':=keyOk_is n w
def waitB (p : TW) : Bool:=if p.1 then btw p.2.1 0 1000000 && (btw p.2.2.1 1 1000000 && btw p.2.2.2 0 5) else decide (p.2.1 = 0) && (decide (p.2.2.1 = 0) && decide (p.2.2.2 = 0))
set_option maxRecDepth 100000 in
set_option maxHeartbeats 3200000 in
theorem waitRight_is (p : TW) (w : World) : Calls Tryz.prog 130 #[vW p] w fun e w' => e = .returned (.bool (waitB p)) ∧ Below w.heap.size w w':=by
 obtain ⟨on,x,y,z⟩:=p
 obtain ⟨V,hV⟩ : ∃ V,w.alloc (.cells #[.bool on,I x,I y,I z] 67) = V:=⟨_,rfl⟩
 have TV : Blk w.heap.size [.bool on,I x,I y,I z] V:=by rw [← hV]; exact Blk.new _ _ _
 have BC : Below w.heap.size w V:=by rw [← hV]; exact (Below.refl _ _).alloc (Nat.le_refl _) _
 have d0:=TV.at 0 rfl
 have d1:=TV.at 1 rfl
 have d2:=TV.at 2 rfl
 have d3:=TV.at 3 rfl
 cases on with
 | false =>
  have HE : Hid (waitB (false,x,y,z) = (decide (x = 0) && (decide (y = 0) && decide (z = 0)))):=(rfl : waitB (false,x,y,z) = _)
  go_enter Tryz.func130,Tryz.ntmps130
  by_cases ex : x = 0
  ·have qx : (x == 0) = true:=beq_iff_eq.2 ex
   by_cases ey : y = 0
   ·have qy : (y == 0) = true:=beq_iff_eq.2 ey
    by_cases ez : z = 0
    ·have qz : (z == 0) = true:=beq_iff_eq.2 ez
     have HR : Hid (waitB (false,x,y,z) = true):=by show _ = _; rw [HE.out]; simp [ex,ey,ez]
     clear ex ey ez
     go_wp2
     go_ret
     exact ⟨by rw [HR.out]; rfl,BC⟩
    ·have qz : (z == 0) = false:=beq_eq_false_iff_ne.2 ez
     have HR : Hid (waitB (false,x,y,z) = false):=by show _ = _; rw [HE.out]; simp [ez]
     clear ex ey ez
     go_wp2
     go_ret
     exact ⟨by rw [HR.out]; rfl,BC⟩
   ·have qy : (y == 0) = false:=beq_eq_false_iff_ne.2 ey
    have HR : Hid (waitB (false,x,y,z) = false):=by show _ = _; rw [HE.out]; simp [ey]
    clear ex ey
    go_wp2
    go_ret
    exact ⟨by rw [HR.out]; rfl,BC⟩
  ·have qx : (x == 0) = false:=beq_eq_false_iff_ne.2 ex
   have HR : Hid (waitB (false,x,y,z) = false):=by show _ = _; rw [HE.out]; simp [ex]
   clear ex
   go_wp2
   go_ret
   exact ⟨by rw [HR.out]; rfl,BC⟩
 | true =>
  have HE : Hid (waitB (true,x,y,z) = (btw x 0 1000000 && (btw y 1 1000000 && btw z 0 5))):=(rfl : waitB (true,x,y,z) = _)
  go_enter Tryz.func130,Tryz.ntmps130
  go_wp2_with fail
  try rw [hV]
  refine (within_b x 1000000 _).mono ?_
  rintro en v0 ⟨rfl,rfl⟩
  by_cases h0 : btw x 0 1000000 = true
  ·rw [h0]
   go_wp2_with fail
   try rw [hV]
   refine (key_b y _).mono ?_
   rintro en v1 ⟨rfl,rfl⟩
   by_cases h1 : btw y 1 1000000 = true
   ·rw [h1]
    go_wp2_with fail
    try rw [hV]
    refine (prin_is z _).mono ?_
    rintro en v2 ⟨rfl,rfl⟩
    by_cases h2 : btw z 0 5 = true
    ·rw [h2]
     go_wp2
     go_ret
     exact ⟨by rw [HE.out,h0,h1,h2]; rfl,BC⟩
    ·rw [Bool.not_eq_true] at h2
     rw [h2]
     go_wp2
     go_ret
     exact ⟨by rw [HE.out,h0,h1,h2]; rfl,BC⟩
   ·rw [Bool.not_eq_true] at h1
    rw [h1]
    go_wp2
    go_ret
    exact ⟨by rw [HE.out,h0,h1]; rfl,BC⟩
  ·rw [Bool.not_eq_true] at h0
   rw [h0]
   go_wp2
   go_ret
   exact ⟨by rw [HE.out,h0]; rfl,BC⟩
set_option maxRecDepth 100000 in
set_option maxHeartbeats 3200000 in
theorem waitSpec_is (p : TW) (w : World) : Calls Tryz.prog 25 #[vW p] w fun e w' => e = .returned (.bool (waitB p)) ∧ Below w.heap.size w w':=by
 obtain ⟨on,x,y,z⟩:=p
 obtain ⟨V,hV⟩ : ∃ V,w.alloc (.cells #[.bool on,I x,I y,I z] 67) = V:=⟨_,rfl⟩
 have TV : Blk w.heap.size [.bool on,I x,I y,I z] V:=by rw [← hV]; exact Blk.new _ _ _
 have BC : Below w.heap.size w V:=by rw [← hV]; exact (Below.refl _ _).alloc (Nat.le_refl _) _
 have d0:=TV.at 0 rfl
 have d1:=TV.at 1 rfl
 have d2:=TV.at 2 rfl
 have d3:=TV.at 3 rfl
 cases on with
 | false =>
  have HE : Hid (waitB (false,x,y,z) = (decide (x = 0) && (decide (y = 0) && decide (z = 0)))):=(rfl : waitB (false,x,y,z) = _)
  go_enter Tryz.func25,Tryz.ntmps25
  by_cases ex : x = 0
  ·have qx : (x == 0) = true:=beq_iff_eq.2 ex
   by_cases ey : y = 0
   ·have qy : (y == 0) = true:=beq_iff_eq.2 ey
    by_cases ez : z = 0
    ·have qz : (z == 0) = true:=beq_iff_eq.2 ez
     have HR : Hid (waitB (false,x,y,z) = true):=by show _ = _; rw [HE.out]; simp [ex,ey,ez]
     clear ex ey ez
     go_wp2
     go_ret
     exact ⟨by rw [HR.out]; rfl,BC⟩
    ·have qz : (z == 0) = false:=beq_eq_false_iff_ne.2 ez
     have HR : Hid (waitB (false,x,y,z) = false):=by show _ = _; rw [HE.out]; simp [ez]
     clear ex ey ez
     go_wp2
     go_ret
     exact ⟨by rw [HR.out]; rfl,BC⟩
   ·have qy : (y == 0) = false:=beq_eq_false_iff_ne.2 ey
    have HR : Hid (waitB (false,x,y,z) = false):=by show _ = _; rw [HE.out]; simp [ey]
    clear ex ey
    go_wp2
    go_ret
    exact ⟨by rw [HR.out]; rfl,BC⟩
  ·have qx : (x == 0) = false:=beq_eq_false_iff_ne.2 ex
   have HR : Hid (waitB (false,x,y,z) = false):=by show _ = _; rw [HE.out]; simp [ex]
   clear ex
   go_wp2
   go_ret
   exact ⟨by rw [HR.out]; rfl,BC⟩
 | true =>
  have HE : Hid (waitB (true,x,y,z) = (btw x 0 1000000 && (btw y 1 1000000 && btw z 0 5))):=(rfl : waitB (true,x,y,z) = _)
  go_enter Tryz.func25,Tryz.ntmps25
  go_wp2_with fail
  try rw [hV]
  refine (in_b x 0 1000000 _).mono ?_
  rintro en v0 ⟨rfl,rfl⟩
  by_cases h0 : btw x 0 1000000 = true
  ·rw [h0]
   go_wp2_with fail
   try rw [hV]
   refine (in_b y 1 1000000 _).mono ?_
   rintro en v1 ⟨rfl,rfl⟩
   by_cases h1 : btw y 1 1000000 = true
   ·rw [h1]
    go_wp2_with fail
    try rw [hV]
    refine (spec_prin z _).mono ?_
    rintro en v2 ⟨rfl,rfl⟩
    by_cases h2 : btw z 0 5 = true
    ·rw [h2]
     go_wp2
     go_ret
     exact ⟨by rw [HE.out,h0,h1,h2]; rfl,BC⟩
    ·rw [Bool.not_eq_true] at h2
     rw [h2]
     go_wp2
     go_ret
     exact ⟨by rw [HE.out,h0,h1,h2]; rfl,BC⟩
   ·rw [Bool.not_eq_true] at h1
    rw [h1]
    go_wp2
    go_ret
    exact ⟨by rw [HE.out,h0,h1]; rfl,BC⟩
  ·rw [Bool.not_eq_true] at h0
   rw [h0]
   go_wp2
   go_ret
   exact ⟨by rw [HE.out,h0]; rfl,BC⟩
end Go.Proofs.YtlmpfkbgknbcnaaGreat.Nd

set_option linter.unusedVariables false
set_option maxRecDepth 100000
namespace Go.Proofs.YtlmpfkbgknbcnaaGreat.Nd
open Go Go.RowKit Go.Joins Own Draw Term
/-- What IndexFunc answers: at least 0 just where not all say yes. -/
def IdxP (b : Bool) (e : Ending) : Prop:=∃ r : Int,e = .returned (I r) ∧ decide (0 ≤ r) = !b
set_option maxRecDepth 100000 in
set_option maxHeartbeats 3200000 in
theorem cloS_is (x : ByteArray) (fp : Nat) (w : World) (hfp : fp < w.heap.size) (hc : w.cell? ⟨fp,0,none⟩ = some (.func (.func 80) #[] #[])) (HG : ∀ w',Below w.heap.size w w' → Calls Tryz.prog 80 #[.string x] w' fun e w'' => e = .returned (.bool (isT x)) ∧ Below w'.heap.size w' w'') :
  Calls Tryz.prog 124 #[.string x,.pointer (some ⟨fp,0,none⟩)] w fun e w' => e = .returned (.bool (!(isT x))) ∧ Below w.heap.size w w':=by
 generalize isT x = b at HG ⊢
 have BC : Below w.heap.size w w:=Below.refl _ _
 have K1:=HG w BC
 have c0:=hc
 clear HG
 go_enter Tryz.func124,Tryz.ntmps124
 go_wp2_with fail
 refine K1.mono ?_
 clear K1
 rintro en v0 ⟨rfl,hb⟩
 replace BC:=BC.trans (hb.mono BC.size)
 clear hb
 cases b with
 | true =>
  go_wp2
  go_ret
  exact ⟨rfl,BC⟩
 | false =>
  go_wp2
  go_ret
  exact ⟨rfl,BC⟩
set_option maxRecDepth 100000 in
set_option maxHeartbeats 3200000 in
theorem idxS_is (a : Option Addr) (cap : Nat) (xs : List ByteArray) (fp : Nat) (w : World) (hr : RowAt Value.string w a xs) (hl : xs.length ≤ 1048576) (hfp : fp < w.heap.size) (hc : w.cell? ⟨fp,0,none⟩ = some (.func (.func 80) #[] #[])) (HG : ∀ x ∈ xs,∀ w',Below w.heap.size w w' → Calls Tryz.prog 80 #[.string x] w' fun e w'' => e = .returned (.bool (isT x)) ∧ Below w'.heap.size w' w'') :
  Calls Tryz.prog 165 #[.slice a xs.length cap,.func (.func 124) #[] #[.pointer (some ⟨fp,0,none⟩)]] w fun e w' => IdxP (xs.all (fun x => isT x)) e ∧ Below w.heap.size w w':=by
 go_enter Tryz.func165,Tryz.ntmps165
 go_wp2
 go_loopw [8] (fun i wr => ∃ k : Nat,k ≤ xs.length ∧ i = I k ∧ Hid (∀ j (h : j < xs.length),j < k → (fun x => isT x) xs[j] = true) ∧ Below w.heap.size w wr) (fun i _ => xs.length - (intOf i).toNat)
 case atStart => exact ⟨0,by omega,rfl,fun j h hj => absurd hj (by omega),Below.refl _ _⟩
 case round =>
  obtain ⟨k,hk,rfl,hno,hbel⟩:=hrel
  by_cases hlt : k < xs.length
  ·obtain ⟨b1,o1,rfl,l1,hcc⟩:=hr k hlt
   have c0 : wr.cell? ⟨b1,o1 + k,none⟩ = some (.string xs[k]):=(hbel.cell (p:=⟨b1,o1 + k,none⟩) l1).trans hcc
   have hlt2 : (k : Int) < (xs.length : Int):=by omega
   have K1:=cloS_is xs[k] fp wr (Nat.lt_of_lt_of_le hfp hbel.size) ((hbel.cell (p:=⟨fp,0,none⟩) hfp).trans hc) (fun w' hb => HG xs[k] (List.getElem_mem hlt) w' (hbel.trans (hb.mono hbel.size)))
   have hno2 : (fun x => isT x) xs[k] = true → Hid (∀ j (h : j < xs.length),j < k + 1 → (fun x => isT x) xs[j] = true):=fun he j h hj => by
    by_cases e : j = k
    ·subst e; exact he
    ·exact hno.out j h (by omega)
   have hbad : (fun x => isT x) xs[k] = false → Hid (xs.all (fun x => isT x) = false):=fun he => by
    show _ = _
    rw [List.all_eq_false]
    exact ⟨xs[k],List.getElem_mem hlt,fun h => absurd (h.symm.trans he) (by decide)⟩
   clear HG hno
   generalize hxk : xs[k] = x at K1 hno2 hbad c0
   clear hxk hcc
   dsimp only at hno2 hbad
   generalize hb0 : isT x = b at K1 hno2 hbad
   clear hb0
   go_wp2_with fail
   refine K1.mono ?_
   clear K1 c0
   rintro en v0 ⟨rfl,hb⟩
   replace hbel:=hbel.trans (hb.mono hbel.size)
   clear hb
   cases b with
   | true =>
    have hno3:=hno2 rfl
    clear hno2 hbad
    go_wp2
    go_roundw
    case rel => exact ⟨k + 1,by omega,by go_num,hno3,hbel⟩
    case measure => simp [intOf]; omega
   | false =>
    have hbd:=hbad rfl
    clear hno2 hbad
    go_wp2
    go_ret
    refine ⟨?_,hbel⟩
    rw [hbd.out]
    exact ⟨(k : Int),rfl,by simp⟩
  ·have HV : Hid (xs.all (fun x => isT x) = true):=by
    show _ = _
    rw [List.all_eq_true]
    intro x hx
    obtain ⟨j,hj,rfl⟩:=List.mem_iff_getElem.1 hx
    exact hno.out j hj (by omega)
   have hlt2 : ¬ (k : Int) < (xs.length : Int):=by omega
   clear hno HG hr
   go_wp2
   go_ret
   refine ⟨?_,hbel⟩
   rw [HV.out]
   exact ⟨-1,rfl,by simp⟩
set_option maxRecDepth 100000 in
set_option maxHeartbeats 3200000 in
theorem allS_is (a : Option Addr) (cap : Nat) (xs : List ByteArray) (w : World) (hr : RowAt Value.string w a xs) (hl : xs.length ≤ 1048576) (HG : ∀ x ∈ xs,∀ w',Below w.heap.size w w' → Calls Tryz.prog 80 #[.string x] w' fun e w'' => e = .returned (.bool (isT x)) ∧ Below w'.heap.size w' w'') :
  Calls Tryz.prog 79 #[.slice a xs.length cap,.func (.func 80) #[] #[]] w fun e w' => e = .returned (.bool (xs.all (fun x => isT x))) ∧ Below w.heap.size w w':=by
 obtain ⟨V,hV⟩ : ∃ V,w.alloc (.cells #[.func (.func 80) #[] #[]] 64) = V:=⟨_,rfl⟩
 have TV : Blk w.heap.size [.func (.func 80) #[] #[]] V:=by rw [← hV]; exact Blk.new _ _ _
 have BC : Below w.heap.size w V:=by rw [← hV]; exact (Below.refl _ _).alloc (Nat.le_refl _) _
 have sV : w.heap.size < V.heap.size:=by rw [← hV]; simp
 have K1:=idxS_is a cap xs w.heap.size V (hr.later BC) hl sV (TV.at 0 rfl) (fun x hx w' hb => HG x hx w' (BC.trans (hb.mono BC.size)))
 clear HG hr TV sV
 generalize xs.all (fun x => isT x) = b at K1 ⊢
 have K2 : Calls Tryz.prog 123 #[.slice a xs.length cap,.func (.func 124) #[] #[.pointer (some ⟨w.heap.size,0,none⟩)]] V fun e w' => e = .returned (.bool (!b)) ∧ Below V.heap.size V w':=by
  go_enter Tryz.func123,Tryz.ntmps123
  go_wp2_with fail
  refine K1.mono ?_
  clear K1
  rintro en v0 ⟨⟨r,rfl,hd⟩,hb⟩
  cases b with
  | true =>
   have hr2 : ¬ (0 ≤ r):=by simpa using hd
   go_wp2
   go_ret
   exact ⟨rfl,hb⟩
  | false =>
   have hr2 : 0 ≤ r:=by simpa using hd
   go_wp2
   go_ret
   exact ⟨rfl,hb⟩
 clear K1
 go_enter Tryz.func79,Tryz.ntmps79
 go_wp2_with fail
 try rw [hV]
 refine K2.mono ?_
 clear K2
 rintro en v0 ⟨rfl,hb⟩
 replace BC:=BC.trans (hb.mono BC.size)
 clear hb
 cases b with
 | true =>
  go_wp2
  go_ret
  exact ⟨rfl,BC⟩
 | false =>
  go_wp2
  go_ret
  exact ⟨rfl,BC⟩
set_option maxRecDepth 100000 in
set_option maxHeartbeats 3200000 in
theorem cloW_is (x : TW) (fp : Nat) (w : World) (hfp : fp < w.heap.size) (hc : w.cell? ⟨fp,0,none⟩ = some (.func (.func 130) #[] #[])) (HG : ∀ w',Below w.heap.size w w' → Calls Tryz.prog 130 #[.agg #[.bool x.1,I x.2.1,I x.2.2.1,I x.2.2.2]] w' fun e w'' => e = .returned (.bool (waitB x)) ∧ Below w'.heap.size w' w'') :
  Calls Tryz.prog 172 #[.agg #[.bool x.1,I x.2.1,I x.2.2.1,I x.2.2.2],.pointer (some ⟨fp,0,none⟩)] w fun e w' => e = .returned (.bool (!(waitB x))) ∧ Below w.heap.size w w':=by
 generalize waitB x = b at HG ⊢
 obtain ⟨V,hV⟩ : ∃ V,w.alloc (.cells #[.bool x.1,I x.2.1,I x.2.2.1,I x.2.2.2] 67) = V:=⟨_,rfl⟩
 have TV : Blk w.heap.size [.bool x.1,I x.2.1,I x.2.2.1,I x.2.2.2] V:=by rw [← hV]; exact Blk.new _ _ _
 have BC : Below w.heap.size w V:=by rw [← hV]; exact (Below.refl _ _).alloc (Nat.le_refl _) _
 have K1:=HG V BC
 have c0:=(BC.cell (p:=⟨fp,0,none⟩) hfp).trans hc
 have d0:=TV.at 0 rfl
 have d1:=TV.at 1 rfl
 have d2:=TV.at 2 rfl
 have d3:=TV.at 3 rfl
 clear HG
 go_enter Tryz.func172,Tryz.ntmps172
 go_wp2_with fail
 try rw [hV]
 refine K1.mono ?_
 clear K1
 rintro en v0 ⟨rfl,hb⟩
 replace BC:=BC.trans (hb.mono BC.size)
 clear hb
 cases b with
 | true =>
  go_wp2
  go_ret
  exact ⟨rfl,BC⟩
 | false =>
  go_wp2
  go_ret
  exact ⟨rfl,BC⟩
set_option maxRecDepth 100000 in
set_option maxHeartbeats 3200000 in
theorem idxW_is (a : Option Addr) (cap : Nat) (xs : List TW) (fp : Nat) (w : World) (hr : FRow 4 cW w a xs) (hl : xs.length ≤ 1048576) (hfp : fp < w.heap.size) (hc : w.cell? ⟨fp,0,none⟩ = some (.func (.func 130) #[] #[])) (HG : ∀ x ∈ xs,∀ w',Below w.heap.size w w' → Calls Tryz.prog 130 #[.agg #[.bool x.1,I x.2.1,I x.2.2.1,I x.2.2.2]] w' fun e w'' => e = .returned (.bool (waitB x)) ∧ Below w'.heap.size w' w'') :
  Calls Tryz.prog 204 #[.slice a xs.length cap,.func (.func 172) #[] #[.pointer (some ⟨fp,0,none⟩)]] w fun e w' => IdxP (xs.all (fun x => waitB x)) e ∧ Below w.heap.size w w':=by
 go_enter Tryz.func204,Tryz.ntmps204
 go_wp2
 go_loopw [8] (fun i wr => ∃ k : Nat,k ≤ xs.length ∧ i = I k ∧ Hid (∀ j (h : j < xs.length),j < k → (fun x => waitB x) xs[j] = true) ∧ Below w.heap.size w wr) (fun i _ => xs.length - (intOf i).toNat)
 case atStart => exact ⟨0,by omega,rfl,fun j h hj => absurd hj (by omega),Below.refl _ _⟩
 case round =>
  obtain ⟨k,hk,rfl,hno,hbel⟩:=hrel
  by_cases hlt : k < xs.length
  ·obtain ⟨b1,o1,rfl,l1,hcc⟩:=hr k hlt
   have c0 : wr.cell? ⟨b1,o1 + k * 4,none⟩ = some (.bool xs[k].1):=(hbel.cell (p:=⟨b1,o1 + k * 4,none⟩) l1).trans (hcc 0 _ rfl)
   have c1 : wr.cell? ⟨b1,o1 + k * 4 + 1,none⟩ = some (I xs[k].2.1):=(hbel.cell (p:=⟨b1,o1 + k * 4 + 1,none⟩) l1).trans (hcc 1 _ rfl)
   have c2 : wr.cell? ⟨b1,o1 + k * 4 + 2,none⟩ = some (I xs[k].2.2.1):=(hbel.cell (p:=⟨b1,o1 + k * 4 + 2,none⟩) l1).trans (hcc 2 _ rfl)
   have c3 : wr.cell? ⟨b1,o1 + k * 4 + 3,none⟩ = some (I xs[k].2.2.2):=(hbel.cell (p:=⟨b1,o1 + k * 4 + 3,none⟩) l1).trans (hcc 3 _ rfl)
   have hlt2 : (k : Int) < (xs.length : Int):=by omega
   have K1:=cloW_is xs[k] fp wr (Nat.lt_of_lt_of_le hfp hbel.size) ((hbel.cell (p:=⟨fp,0,none⟩) hfp).trans hc) (fun w' hb => HG xs[k] (List.getElem_mem hlt) w' (hbel.trans (hb.mono hbel.size)))
   have hno2 : (fun x => waitB x) xs[k] = true → Hid (∀ j (h : j < xs.length),j < k + 1 → (fun x => waitB x) xs[j] = true):=fun he j h hj => by
    by_cases e : j = k
    ·subst e; exact he
    ·exact hno.out j h (by omega)
   have hbad : (fun x => waitB x) xs[k] = false → Hid (xs.all (fun x => waitB x) = false):=fun he => by
    show _ = _
    rw [List.all_eq_false]
    exact ⟨xs[k],List.getElem_mem hlt,fun h => absurd (h.symm.trans he) (by decide)⟩
   clear HG hno
   generalize hxk : xs[k] = x at K1 hno2 hbad c0 c1 c2 c3
   clear hxk hcc
   dsimp only at hno2 hbad
   generalize hb0 : waitB x = b at K1 hno2 hbad
   clear hb0
   go_wp2_with fail
   refine K1.mono ?_
   clear K1 c0 c1 c2 c3
   rintro en v0 ⟨rfl,hb⟩
   replace hbel:=hbel.trans (hb.mono hbel.size)
   clear hb
   cases b with
   | true =>
    have hno3:=hno2 rfl
    clear hno2 hbad
    go_wp2
    go_roundw
    case rel => exact ⟨k + 1,by omega,by go_num,hno3,hbel⟩
    case measure => simp [intOf]; omega
   | false =>
    have hbd:=hbad rfl
    clear hno2 hbad
    go_wp2
    go_ret
    refine ⟨?_,hbel⟩
    rw [hbd.out]
    exact ⟨(k : Int),rfl,by simp⟩
  ·have HV : Hid (xs.all (fun x => waitB x) = true):=by
    show _ = _
    rw [List.all_eq_true]
    intro x hx
    obtain ⟨j,hj,rfl⟩:=List.mem_iff_getElem.1 hx
    exact hno.out j hj (by omega)
   have hlt2 : ¬ (k : Int) < (xs.length : Int):=by omega
   clear hno HG hr
   go_wp2
   go_ret
   refine ⟨?_,hbel⟩
   rw [HV.out]
   exact ⟨-1,rfl,by simp⟩
set_option maxRecDepth 100000 in
set_option maxHeartbeats 3200000 in
theorem allW_is (a : Option Addr) (cap : Nat) (xs : List TW) (w : World) (hr : FRow 4 cW w a xs) (hl : xs.length ≤ 1048576) (HG : ∀ x ∈ xs,∀ w',Below w.heap.size w w' → Calls Tryz.prog 130 #[.agg #[.bool x.1,I x.2.1,I x.2.2.1,I x.2.2.2]] w' fun e w'' => e = .returned (.bool (waitB x)) ∧ Below w'.heap.size w' w'') :
  Calls Tryz.prog 129 #[.slice a xs.length cap,.func (.func 130) #[] #[]] w fun e w' => e = .returned (.bool (xs.all (fun x => waitB x))) ∧ Below w.heap.size w w':=by
 obtain ⟨V,hV⟩ : ∃ V,w.alloc (.cells #[.func (.func 130) #[] #[]] 65) = V:=⟨_,rfl⟩
 have TV : Blk w.heap.size [.func (.func 130) #[] #[]] V:=by rw [← hV]; exact Blk.new _ _ _
 have BC : Below w.heap.size w V:=by rw [← hV]; exact (Below.refl _ _).alloc (Nat.le_refl _) _
 have sV : w.heap.size < V.heap.size:=by rw [← hV]; simp
 have K1:=idxW_is a cap xs w.heap.size V (hr.later BC) hl sV (TV.at 0 rfl) (fun x hx w' hb => HG x hx w' (BC.trans (hb.mono BC.size)))
 clear HG hr TV sV
 generalize xs.all (fun x => waitB x) = b at K1 ⊢
 have K2 : Calls Tryz.prog 171 #[.slice a xs.length cap,.func (.func 172) #[] #[.pointer (some ⟨w.heap.size,0,none⟩)]] V fun e w' => e = .returned (.bool (!b)) ∧ Below V.heap.size V w':=by
  go_enter Tryz.func171,Tryz.ntmps171
  go_wp2_with fail
  refine K1.mono ?_
  clear K1
  rintro en v0 ⟨⟨r,rfl,hd⟩,hb⟩
  cases b with
  | true =>
   have hr2 : ¬ (0 ≤ r):=by simpa using hd
   go_wp2
   go_ret
   exact ⟨rfl,hb⟩
  | false =>
   have hr2 : 0 ≤ r:=by simpa using hd
   go_wp2
   go_ret
   exact ⟨rfl,hb⟩
 clear K1
 go_enter Tryz.func129,Tryz.ntmps129
 go_wp2_with fail
 try rw [hV]
 refine K2.mono ?_
 clear K2
 rintro en v0 ⟨rfl,hb⟩
 replace BC:=BC.trans (hb.mono BC.size)
 clear hb
 cases b with
 | true =>
  go_wp2
  go_ret
  exact ⟨rfl,BC⟩
 | false =>
  go_wp2
  go_ret
  exact ⟨rfl,BC⟩
end Go.Proofs.YtlmpfkbgknbcnaaGreat.Nd
