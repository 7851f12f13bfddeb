/- The size of a world. -/
import Derived.Test.YtlmpfkbgknbcnaaGreatAb
import Derived.Test.YtlmpfkbgknbcnaaGreatNz2
set_option linter.unusedVariables false
set_option maxRecDepth 100000
namespace Go.Proofs.YtlmpfkbgknbcnaaGreat.Nd
open Go Go.RowKit Go.Joins Own Draw
set_option maxRecDepth 100000 in
set_option maxHeartbeats 3200000 in
theorem szD_is (p : TD) (n : Nat) (w : World) (hn : n ≤ 1048576) (hd : DpD w p) (hl : LmD p) : Calls Tryz.prog 5 #[vD p,I n] w fun en w' => en = .returned (I (szV (totD p) n)) ∧ Below w.heap.size w w':=by
 obtain ⟨f0,f1,f2,f3,f4,f5,f6,f7,f8,f9,f10⟩:=p
 have HT : Hid (totD (f0,f1,f2,f3,f4,f5,f6,f7,f8,f9,f10) = totF f0 + rtS f3 + totN f4 + rtW f5 + rtC f6 + rtK f7 + rtE f8 + rtQ f9 + rtI f10):=(rfl : totD (f0,f1,f2,f3,f4,f5,f6,f7,f8,f9,f10) = _)
 unfold LmD at hl
 dsimp only at hl
 obtain ⟨hl0,hl1,hl2,hl3,hl4,hl5,hl6,hl7,hl8⟩:=hl
 unfold DpD at hd
 dsimp only at hd
 obtain ⟨hd0,hd1,hd2,hd3,hd4,hd5,hd6,hd7,hd8⟩:=hd
 obtain ⟨V,hV⟩ : ∃ V,w.alloc (.cells #[.slice f0.1.1 f0.1.2.2.length f0.1.2.1,.slice f0.2.1.1 f0.2.1.2.2.length f0.2.1.2.1,.slice f0.2.2.1.1 f0.2.2.1.2.2.length f0.2.2.1.2.1,.slice f0.2.2.2.1.1 f0.2.2.2.1.2.2.length f0.2.2.2.1.2.1,I f0.2.2.2.2,I f1,I f2,.slice f3.1 f3.2.2.length f3.2.1,.slice f4.1.1 f4.1.2.2.length f4.1.2.1,.slice f4.2.1 f4.2.2.2.length f4.2.2.1,.slice f5.1 f5.2.2.length f5.2.1,.slice f6.1 f6.2.2.length f6.2.1,.slice f7.1 f7.2.2.length f7.2.1,.slice f8.1 f8.2.2.length f8.2.1,.slice f9.1 f9.2.2.length f9.2.1,.slice f10.1 f10.2.2.length f10.2.1] 35) = V:=⟨_,rfl⟩
 have TA : Blk w.heap.size [.slice f0.1.1 f0.1.2.2.length f0.1.2.1,.slice f0.2.1.1 f0.2.1.2.2.length f0.2.1.2.1,.slice f0.2.2.1.1 f0.2.2.1.2.2.length f0.2.2.1.2.1,.slice f0.2.2.2.1.1 f0.2.2.2.1.2.2.length f0.2.2.2.1.2.1,I f0.2.2.2.2,I f1,I f2,.slice f3.1 f3.2.2.length f3.2.1,.slice f4.1.1 f4.1.2.2.length f4.1.2.1,.slice f4.2.1 f4.2.2.2.length f4.2.2.1,.slice f5.1 f5.2.2.length f5.2.1,.slice f6.1 f6.2.2.length f6.2.1,.slice f7.1 f7.2.2.length f7.2.1,.slice f8.1 f8.2.2.length f8.2.1,.slice f9.1 f9.2.2.length f9.2.1,.slice f10.1 f10.2.2.length f10.2.1] V:=by rw [← hV]; exact Blk.new _ _ _
 have BC : Below w.heap.size w V:=by rw [← hV]; exact (Below.refl _ _).alloc (Nat.le_refl _) _
 have d0:=TA.at 0 rfl
 have d1:=TA.at 1 rfl
 have d2:=TA.at 2 rfl
 have d3:=TA.at 3 rfl
 have d4:=TA.at 4 rfl
 have d7:=TA.at 7 rfl
 have d8:=TA.at 8 rfl
 have d9:=TA.at 9 rfl
 have d10:=TA.at 10 rfl
 have d11:=TA.at 11 rfl
 have d12:=TA.at 12 rfl
 have d13:=TA.at 13 rfl
 have d14:=TA.at 14 rfl
 have d15:=TA.at 15 rfl
 go_enter Tryz.func5,Tryz.ntmps5
 go_wp2_with fail
 try rw [hV]
 refine (szF_is f0 n _ (by omega) (hd0.later BC) hl0).mono ?_
 clear hV
 rintro en v0 ⟨rfl,hb⟩
 replace TA:=TA.later hb (World.block_lt_of_cell? _ _ (TA.at 0 rfl))
 replace BC:=BC.trans (hb.mono BC.size)
 clear hb d0 d1 d2 d3 d4 d7 d8 d9 d10 d11 d12 d13 d14 d15
 have d0:=TA.at 0 rfl
 have d1:=TA.at 1 rfl
 have d2:=TA.at 2 rfl
 have d3:=TA.at 3 rfl
 have d4:=TA.at 4 rfl
 have d7:=TA.at 7 rfl
 have d8:=TA.at 8 rfl
 have d9:=TA.at 9 rfl
 have d10:=TA.at 10 rfl
 have d11:=TA.at 11 rfl
 have d12:=TA.at 12 rfl
 have d13:=TA.at 13 rfl
 have d14:=TA.at 14 rfl
 have d15:=TA.at 15 rfl
 by_cases h0 : totF f0 ≤ n
 ·rw [show szV (totF f0) n = ((n - totF f0 : Nat) : Int) from if_pos h0]
  obtain ⟨q0,hq0⟩ : ∃ q : Nat,n - totF f0 = q:=⟨_,rfl⟩
  rw [hq0]
  have g0 : ¬ ((q0 : Int) < 0):=by omega
  have gl0 : q0 ≤ 1048576:=by omega
  replace hq0 : Hid (n - totF f0 = q0):=hq0
  go_wp2_with fail
  try rw [hV]
  refine (szSS_is f3 q0 _ (by omega) (hd1.later BC) hl1).mono ?_
  rintro en v1 ⟨rfl,hb⟩
  replace TA:=TA.later hb (World.block_lt_of_cell? _ _ (TA.at 0 rfl))
  replace BC:=BC.trans (hb.mono BC.size)
  clear hb d0 d1 d2 d3 d4 d7 d8 d9 d10 d11 d12 d13 d14 d15
  have d0:=TA.at 0 rfl
  have d1:=TA.at 1 rfl
  have d2:=TA.at 2 rfl
  have d3:=TA.at 3 rfl
  have d4:=TA.at 4 rfl
  have d7:=TA.at 7 rfl
  have d8:=TA.at 8 rfl
  have d9:=TA.at 9 rfl
  have d10:=TA.at 10 rfl
  have d11:=TA.at 11 rfl
  have d12:=TA.at 12 rfl
  have d13:=TA.at 13 rfl
  have d14:=TA.at 14 rfl
  have d15:=TA.at 15 rfl
  by_cases h1 : rtS f3 ≤ q0
  ·rw [show szV (rtS f3) q0 = ((q0 - rtS f3 : Nat) : Int) from if_pos h1]
   obtain ⟨q1,hq1⟩ : ∃ q : Nat,q0 - rtS f3 = q:=⟨_,rfl⟩
   rw [hq1]
   have g1 : ¬ ((q1 : Int) < 0):=by omega
   have gl1 : q1 ≤ 1048576:=by omega
   replace hq1 : Hid (q0 - rtS f3 = q1):=hq1
   go_wp2_with fail
   try rw [hV]
   refine (szN_is f4 q1 _ (by omega) (hd2.later BC) hl2).mono ?_
   rintro en v2 ⟨rfl,hb⟩
   replace TA:=TA.later hb (World.block_lt_of_cell? _ _ (TA.at 0 rfl))
   replace BC:=BC.trans (hb.mono BC.size)
   clear hb d0 d1 d2 d3 d4 d7 d8 d9 d10 d11 d12 d13 d14 d15
   have d0:=TA.at 0 rfl
   have d1:=TA.at 1 rfl
   have d2:=TA.at 2 rfl
   have d3:=TA.at 3 rfl
   have d4:=TA.at 4 rfl
   have d7:=TA.at 7 rfl
   have d8:=TA.at 8 rfl
   have d9:=TA.at 9 rfl
   have d10:=TA.at 10 rfl
   have d11:=TA.at 11 rfl
   have d12:=TA.at 12 rfl
   have d13:=TA.at 13 rfl
   have d14:=TA.at 14 rfl
   have d15:=TA.at 15 rfl
   by_cases h2 : totN f4 ≤ q1
   ·rw [show szV (totN f4) q1 = ((q1 - totN f4 : Nat) : Int) from if_pos h2]
    obtain ⟨q2,hq2⟩ : ∃ q : Nat,q1 - totN f4 = q:=⟨_,rfl⟩
    rw [hq2]
    have g2 : ¬ ((q2 : Int) < 0):=by omega
    have gl2 : q2 ≤ 1048576:=by omega
    replace hq2 : Hid (q1 - totN f4 = q2):=hq2
    go_wp2_with fail
    try rw [hV]
    refine (szSW_is f5 q2 _ (by omega) (hd3.later BC) hl3).mono ?_
    rintro en v3 ⟨rfl,hb⟩
    replace TA:=TA.later hb (World.block_lt_of_cell? _ _ (TA.at 0 rfl))
    replace BC:=BC.trans (hb.mono BC.size)
    clear hb d0 d1 d2 d3 d4 d7 d8 d9 d10 d11 d12 d13 d14 d15
    have d0:=TA.at 0 rfl
    have d1:=TA.at 1 rfl
    have d2:=TA.at 2 rfl
    have d3:=TA.at 3 rfl
    have d4:=TA.at 4 rfl
    have d7:=TA.at 7 rfl
    have d8:=TA.at 8 rfl
    have d9:=TA.at 9 rfl
    have d10:=TA.at 10 rfl
    have d11:=TA.at 11 rfl
    have d12:=TA.at 12 rfl
    have d13:=TA.at 13 rfl
    have d14:=TA.at 14 rfl
    have d15:=TA.at 15 rfl
    by_cases h3 : rtW f5 ≤ q2
    ·rw [show szV (rtW f5) q2 = ((q2 - rtW f5 : Nat) : Int) from if_pos h3]
     obtain ⟨q3,hq3⟩ : ∃ q : Nat,q2 - rtW f5 = q:=⟨_,rfl⟩
     rw [hq3]
     have g3 : ¬ ((q3 : Int) < 0):=by omega
     have gl3 : q3 ≤ 1048576:=by omega
     replace hq3 : Hid (q2 - rtW f5 = q3):=hq3
     go_wp2_with fail
     try rw [hV]
     refine (szSC_is f6 q3 _ (by omega) (hd4.later BC) hl4).mono ?_
     rintro en v4 ⟨rfl,hb⟩
     replace TA:=TA.later hb (World.block_lt_of_cell? _ _ (TA.at 0 rfl))
     replace BC:=BC.trans (hb.mono BC.size)
     clear hb d0 d1 d2 d3 d4 d7 d8 d9 d10 d11 d12 d13 d14 d15
     have d0:=TA.at 0 rfl
     have d1:=TA.at 1 rfl
     have d2:=TA.at 2 rfl
     have d3:=TA.at 3 rfl
     have d4:=TA.at 4 rfl
     have d7:=TA.at 7 rfl
     have d8:=TA.at 8 rfl
     have d9:=TA.at 9 rfl
     have d10:=TA.at 10 rfl
     have d11:=TA.at 11 rfl
     have d12:=TA.at 12 rfl
     have d13:=TA.at 13 rfl
     have d14:=TA.at 14 rfl
     have d15:=TA.at 15 rfl
     by_cases h4 : rtC f6 ≤ q3
     ·rw [show szV (rtC f6) q3 = ((q3 - rtC f6 : Nat) : Int) from if_pos h4]
      obtain ⟨q4,hq4⟩ : ∃ q : Nat,q3 - rtC f6 = q:=⟨_,rfl⟩
      rw [hq4]
      have g4 : ¬ ((q4 : Int) < 0):=by omega
      have gl4 : q4 ≤ 1048576:=by omega
      replace hq4 : Hid (q3 - rtC f6 = q4):=hq4
      go_wp2_with fail
      try rw [hV]
      refine (szSK_is f7 q4 _ (by omega) (hd5.later BC) hl5).mono ?_
      rintro en v5 ⟨rfl,hb⟩
      replace TA:=TA.later hb (World.block_lt_of_cell? _ _ (TA.at 0 rfl))
      replace BC:=BC.trans (hb.mono BC.size)
      clear hb d0 d1 d2 d3 d4 d7 d8 d9 d10 d11 d12 d13 d14 d15
      have d0:=TA.at 0 rfl
      have d1:=TA.at 1 rfl
      have d2:=TA.at 2 rfl
      have d3:=TA.at 3 rfl
      have d4:=TA.at 4 rfl
      have d7:=TA.at 7 rfl
      have d8:=TA.at 8 rfl
      have d9:=TA.at 9 rfl
      have d10:=TA.at 10 rfl
      have d11:=TA.at 11 rfl
      have d12:=TA.at 12 rfl
      have d13:=TA.at 13 rfl
      have d14:=TA.at 14 rfl
      have d15:=TA.at 15 rfl
      by_cases h5 : rtK f7 ≤ q4
      ·rw [show szV (rtK f7) q4 = ((q4 - rtK f7 : Nat) : Int) from if_pos h5]
       obtain ⟨q5,hq5⟩ : ∃ q : Nat,q4 - rtK f7 = q:=⟨_,rfl⟩
       rw [hq5]
       have g5 : ¬ ((q5 : Int) < 0):=by omega
       have gl5 : q5 ≤ 1048576:=by omega
       replace hq5 : Hid (q4 - rtK f7 = q5):=hq5
       go_wp2_with fail
       try rw [hV]
       refine (szSE_is f8 q5 _ (by omega) (hd6.later BC) hl6).mono ?_
       rintro en v6 ⟨rfl,hb⟩
       replace TA:=TA.later hb (World.block_lt_of_cell? _ _ (TA.at 0 rfl))
       replace BC:=BC.trans (hb.mono BC.size)
       clear hb d0 d1 d2 d3 d4 d7 d8 d9 d10 d11 d12 d13 d14 d15
       have d0:=TA.at 0 rfl
       have d1:=TA.at 1 rfl
       have d2:=TA.at 2 rfl
       have d3:=TA.at 3 rfl
       have d4:=TA.at 4 rfl
       have d7:=TA.at 7 rfl
       have d8:=TA.at 8 rfl
       have d9:=TA.at 9 rfl
       have d10:=TA.at 10 rfl
       have d11:=TA.at 11 rfl
       have d12:=TA.at 12 rfl
       have d13:=TA.at 13 rfl
       have d14:=TA.at 14 rfl
       have d15:=TA.at 15 rfl
       by_cases h6 : rtE f8 ≤ q5
       ·rw [show szV (rtE f8) q5 = ((q5 - rtE f8 : Nat) : Int) from if_pos h6]
        obtain ⟨q6,hq6⟩ : ∃ q : Nat,q5 - rtE f8 = q:=⟨_,rfl⟩
        rw [hq6]
        have g6 : ¬ ((q6 : Int) < 0):=by omega
        have gl6 : q6 ≤ 1048576:=by omega
        replace hq6 : Hid (q5 - rtE f8 = q6):=hq6
        go_wp2_with fail
        try rw [hV]
        refine (szSQ_is f9 q6 _ (by omega) (hd7.later BC) hl7).mono ?_
        rintro en v7 ⟨rfl,hb⟩
        replace TA:=TA.later hb (World.block_lt_of_cell? _ _ (TA.at 0 rfl))
        replace BC:=BC.trans (hb.mono BC.size)
        clear hb d0 d1 d2 d3 d4 d7 d8 d9 d10 d11 d12 d13 d14 d15
        have d0:=TA.at 0 rfl
        have d1:=TA.at 1 rfl
        have d2:=TA.at 2 rfl
        have d3:=TA.at 3 rfl
        have d4:=TA.at 4 rfl
        have d7:=TA.at 7 rfl
        have d8:=TA.at 8 rfl
        have d9:=TA.at 9 rfl
        have d10:=TA.at 10 rfl
        have d11:=TA.at 11 rfl
        have d12:=TA.at 12 rfl
        have d13:=TA.at 13 rfl
        have d14:=TA.at 14 rfl
        have d15:=TA.at 15 rfl
        by_cases h7 : rtQ f9 ≤ q6
        ·rw [show szV (rtQ f9) q6 = ((q6 - rtQ f9 : Nat) : Int) from if_pos h7]
         obtain ⟨q7,hq7⟩ : ∃ q : Nat,q6 - rtQ f9 = q:=⟨_,rfl⟩
         rw [hq7]
         have g7 : ¬ ((q7 : Int) < 0):=by omega
         have gl7 : q7 ≤ 1048576:=by omega
         replace hq7 : Hid (q6 - rtQ f9 = q7):=hq7
         go_wp2_with fail
         try rw [hV]
         refine (szSI_is f10 q7 _ (by omega) (hd8.later BC) hl8).mono ?_
         rintro en v8 ⟨rfl,hb⟩
         replace TA:=TA.later hb (World.block_lt_of_cell? _ _ (TA.at 0 rfl))
         replace BC:=BC.trans (hb.mono BC.size)
         clear hb d0 d1 d2 d3 d4 d7 d8 d9 d10 d11 d12 d13 d14 d15
         have d0:=TA.at 0 rfl
         have d1:=TA.at 1 rfl
         have d2:=TA.at 2 rfl
         have d3:=TA.at 3 rfl
         have d4:=TA.at 4 rfl
         have d7:=TA.at 7 rfl
         have d8:=TA.at 8 rfl
         have d9:=TA.at 9 rfl
         have d10:=TA.at 10 rfl
         have d11:=TA.at 11 rfl
         have d12:=TA.at 12 rfl
         have d13:=TA.at 13 rfl
         have d14:=TA.at 14 rfl
         have d15:=TA.at 15 rfl
         by_cases h8 : rtI f10 ≤ q7
         ·rw [show szV (rtI f10) q7 = ((q7 - rtI f10 : Nat) : Int) from if_pos h8]
          obtain ⟨q8,hq8⟩ : ∃ q : Nat,q7 - rtI f10 = q:=⟨_,rfl⟩
          rw [hq8]
          have g8 : ¬ ((q8 : Int) < 0):=by omega
          have gl8 : q8 ≤ 1048576:=by omega
          replace hq8 : Hid (q7 - rtI f10 = q8):=hq8
          have HE : Hid (szV (totD (f0,f1,f2,f3,f4,f5,f6,f7,f8,f9,f10)) n = (q8 : Int)):=by
           have hT:=HT.out; have:=hq0.out; have:=hq1.out; have:=hq2.out; have:=hq3.out; have:=hq4.out; have:=hq5.out; have:=hq6.out; have:=hq7.out; have:=hq8.out
           show (if _ then _ else _) = _
           rw [if_pos (by omega)]; omega
          go_wp2
          go_ret
          exact ⟨by rw [HE.out]; rfl,BC⟩
         ·have HE : Hid (szV (totD (f0,f1,f2,f3,f4,f5,f6,f7,f8,f9,f10)) n = -1):=by
           have hT:=HT.out; have:=hq0.out; have:=hq1.out; have:=hq2.out; have:=hq3.out; have:=hq4.out; have:=hq5.out; have:=hq6.out; have:=hq7.out
           show (if _ then _ else _) = _
           exact if_neg (by omega)
          rw [show szV (rtI f10) q7 = -1 from if_neg h8]
          go_wp2
          go_ret
          exact ⟨by rw [HE.out]; rfl,BC⟩
        ·have HE : Hid (szV (totD (f0,f1,f2,f3,f4,f5,f6,f7,f8,f9,f10)) n = -1):=by
          have hT:=HT.out; have:=hq0.out; have:=hq1.out; have:=hq2.out; have:=hq3.out; have:=hq4.out; have:=hq5.out; have:=hq6.out
          show (if _ then _ else _) = _
          exact if_neg (by omega)
         rw [show szV (rtQ f9) q6 = -1 from if_neg h7]
         go_wp2
         go_ret
         exact ⟨by rw [HE.out]; rfl,BC⟩
       ·have HE : Hid (szV (totD (f0,f1,f2,f3,f4,f5,f6,f7,f8,f9,f10)) n = -1):=by
         have hT:=HT.out; have:=hq0.out; have:=hq1.out; have:=hq2.out; have:=hq3.out; have:=hq4.out; have:=hq5.out
         show (if _ then _ else _) = _
         exact if_neg (by omega)
        rw [show szV (rtE f8) q5 = -1 from if_neg h6]
        go_wp2
        go_ret
        exact ⟨by rw [HE.out]; rfl,BC⟩
      ·have HE : Hid (szV (totD (f0,f1,f2,f3,f4,f5,f6,f7,f8,f9,f10)) n = -1):=by
        have hT:=HT.out; have:=hq0.out; have:=hq1.out; have:=hq2.out; have:=hq3.out; have:=hq4.out
        show (if _ then _ else _) = _
        exact if_neg (by omega)
       rw [show szV (rtK f7) q4 = -1 from if_neg h5]
       go_wp2
       go_ret
       exact ⟨by rw [HE.out]; rfl,BC⟩
     ·have HE : Hid (szV (totD (f0,f1,f2,f3,f4,f5,f6,f7,f8,f9,f10)) n = -1):=by
       have hT:=HT.out; have:=hq0.out; have:=hq1.out; have:=hq2.out; have:=hq3.out
       show (if _ then _ else _) = _
       exact if_neg (by omega)
      rw [show szV (rtC f6) q3 = -1 from if_neg h4]
      go_wp2
      go_ret
      exact ⟨by rw [HE.out]; rfl,BC⟩
    ·have HE : Hid (szV (totD (f0,f1,f2,f3,f4,f5,f6,f7,f8,f9,f10)) n = -1):=by
      have hT:=HT.out; have:=hq0.out; have:=hq1.out; have:=hq2.out
      show (if _ then _ else _) = _
      exact if_neg (by omega)
     rw [show szV (rtW f5) q2 = -1 from if_neg h3]
     go_wp2
     go_ret
     exact ⟨by rw [HE.out]; rfl,BC⟩
   ·have HE : Hid (szV (totD (f0,f1,f2,f3,f4,f5,f6,f7,f8,f9,f10)) n = -1):=by
     have hT:=HT.out; have:=hq0.out; have:=hq1.out
     show (if _ then _ else _) = _
     exact if_neg (by omega)
    rw [show szV (totN f4) q1 = -1 from if_neg h2]
    go_wp2
    go_ret
    exact ⟨by rw [HE.out]; rfl,BC⟩
  ·have HE : Hid (szV (totD (f0,f1,f2,f3,f4,f5,f6,f7,f8,f9,f10)) n = -1):=by
    have hT:=HT.out; have:=hq0.out
    show (if _ then _ else _) = _
    exact if_neg (by omega)
   rw [show szV (rtS f3) q0 = -1 from if_neg h1]
   go_wp2
   go_ret
   exact ⟨by rw [HE.out]; rfl,BC⟩
 ·have HE : Hid (szV (totD (f0,f1,f2,f3,f4,f5,f6,f7,f8,f9,f10)) n = -1):=by
   have hT:=HT.out
   show (if _ then _ else _) = _
   exact if_neg (by omega)
  rw [show szV (totF f0) n = -1 from if_neg h0]
  go_wp2
  go_ret
  exact ⟨by rw [HE.out]; rfl,BC⟩
end Go.Proofs.YtlmpfkbgknbcnaaGreat.Nd
