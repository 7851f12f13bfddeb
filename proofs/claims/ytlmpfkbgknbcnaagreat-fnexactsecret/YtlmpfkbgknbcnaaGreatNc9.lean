/- Worlds compared. -/
import Derived.Test.YtlmpfkbgknbcnaaGreatAb
import Derived.Test.YtlmpfkbgknbcnaaGreatNc4
import Derived.Test.YtlmpfkbgknbcnaaGreatNc5
import Derived.Test.YtlmpfkbgknbcnaaGreatNc7
import Derived.Test.YtlmpfkbgknbcnaaGreatWs9
import Derived.Test.YtlmpfkbgknbcnaaGreatNz3
import Derived.Test.YtlmpfkbgknbcnaaGreatNc8
import Derived.Test.YtlmpfkbgknbcnaaGreatRo4
import Derived.Test.YtlmpfkbgknbcnaaGreatKImplReach
import Derived.Test.YtlmpfkbgknbcnaaGreatKClose4
set_option linter.unusedVariables false
set_option maxRecDepth 100000
namespace Go.Proofs.YtlmpfkbgknbcnaaGreat.Nd
open Go Go.RowKit Go.Joins Own Draw
set_option maxRecDepth 100000 in
set_option maxHeartbeats 6400000 in
theorem eqD_is (x y : TD) (w : World) (hx : DpD w x) (hy : DpD w y) (hs : stD x = stD y) (hl : totD x ≤ 1048576) : Calls Tryz.prog 9 #[vD x,vD y] w fun en w' => en = .returned (.bool true) ∧ Below w.heap.size w w':=by
 obtain ⟨f0,f1,f2,f3,f4,f5,f6,f7,f8,f9,f10⟩:=x
 obtain ⟨g0,g1,g2,g3,g4,g5,g6,g7,g8,g9,g10⟩:=y
 unfold stD at hs
 unfold DpD at hx hy
 unfold totD at hl
 dsimp only at hx hy hl
 simp only [Prod.mk.injEq] at hs
 obtain ⟨e0,e1,e2,e3,e4,e5,e6,e7,e8,e9,e10⟩:=hs
 obtain ⟨hx0,hx3,hx4,hx5,hx6,hx7,hx8,hx9,hx10⟩:=hx
 obtain ⟨hy0,hy3,hy4,hy5,hy6,hy7,hy8,hy9,hy10⟩:=hy
 subst e1
 subst e2
 obtain ⟨V,hV⟩ : ∃ V,(w.alloc (.cells #[.slice f0.1.1 f0.1.2.2.length f0.1.2.1,.slice f0.2.1.1 f0.2.1.2.2.length f0.2.1.2.1,.slice f0.2.2.1.1 f0.2.2.1.2.2.length f0.2.2.1.2.1,.slice f0.2.2.2.1.1 f0.2.2.2.1.2.2.length f0.2.2.2.1.2.1,I f0.2.2.2.2,I f1,I f2,.slice f3.1 f3.2.2.length f3.2.1,.slice f4.1.1 f4.1.2.2.length f4.1.2.1,.slice f4.2.1 f4.2.2.2.length f4.2.2.1,.slice f5.1 f5.2.2.length f5.2.1,.slice f6.1 f6.2.2.length f6.2.1,.slice f7.1 f7.2.2.length f7.2.1,.slice f8.1 f8.2.2.length f8.2.1,.slice f9.1 f9.2.2.length f9.2.1,.slice f10.1 f10.2.2.length f10.2.1] 48)).alloc (.cells #[.slice g0.1.1 g0.1.2.2.length g0.1.2.1,.slice g0.2.1.1 g0.2.1.2.2.length g0.2.1.2.1,.slice g0.2.2.1.1 g0.2.2.1.2.2.length g0.2.2.1.2.1,.slice g0.2.2.2.1.1 g0.2.2.2.1.2.2.length g0.2.2.2.1.2.1,I g0.2.2.2.2,I f1,I f2,.slice g3.1 g3.2.2.length g3.2.1,.slice g4.1.1 g4.1.2.2.length g4.1.2.1,.slice g4.2.1 g4.2.2.2.length g4.2.2.1,.slice g5.1 g5.2.2.length g5.2.1,.slice g6.1 g6.2.2.length g6.2.1,.slice g7.1 g7.2.2.length g7.2.1,.slice g8.1 g8.2.2.length g8.2.1,.slice g9.1 g9.2.2.length g9.2.1,.slice g10.1 g10.2.2.length g10.2.1] 48) = V:=⟨_,rfl⟩
 have BC : Below w.heap.size w V:=by rw [← hV]; exact ((Below.refl _ _).alloc (Nat.le_refl _) _).alloc (by simp) _
 have TA : Blk w.heap.size [.slice f0.1.1 f0.1.2.2.length f0.1.2.1,.slice f0.2.1.1 f0.2.1.2.2.length f0.2.1.2.1,.slice f0.2.2.1.1 f0.2.2.1.2.2.length f0.2.2.1.2.1,.slice f0.2.2.2.1.1 f0.2.2.2.1.2.2.length f0.2.2.2.1.2.1,I f0.2.2.2.2,I f1,I f2,.slice f3.1 f3.2.2.length f3.2.1,.slice f4.1.1 f4.1.2.2.length f4.1.2.1,.slice f4.2.1 f4.2.2.2.length f4.2.2.1,.slice f5.1 f5.2.2.length f5.2.1,.slice f6.1 f6.2.2.length f6.2.1,.slice f7.1 f7.2.2.length f7.2.1,.slice f8.1 f8.2.2.length f8.2.1,.slice f9.1 f9.2.2.length f9.2.1,.slice f10.1 f10.2.2.length f10.2.1] V:=by rw [← hV]; exact (Blk.new w #[.slice f0.1.1 f0.1.2.2.length f0.1.2.1,.slice f0.2.1.1 f0.2.1.2.2.length f0.2.1.2.1,.slice f0.2.2.1.1 f0.2.2.1.2.2.length f0.2.2.1.2.1,.slice f0.2.2.2.1.1 f0.2.2.2.1.2.2.length f0.2.2.2.1.2.1,I f0.2.2.2.2,I f1,I f2,.slice f3.1 f3.2.2.length f3.2.1,.slice f4.1.1 f4.1.2.2.length f4.1.2.1,.slice f4.2.1 f4.2.2.2.length f4.2.2.1,.slice f5.1 f5.2.2.length f5.2.1,.slice f6.1 f6.2.2.length f6.2.1,.slice f7.1 f7.2.2.length f7.2.1,.slice f8.1 f8.2.2.length f8.2.1,.slice f9.1 f9.2.2.length f9.2.1,.slice f10.1 f10.2.2.length f10.2.1] 48).alloc (by simp) _
 have TB : Blk (w.heap.size + 1) [.slice g0.1.1 g0.1.2.2.length g0.1.2.1,.slice g0.2.1.1 g0.2.1.2.2.length g0.2.1.2.1,.slice g0.2.2.1.1 g0.2.2.1.2.2.length g0.2.2.1.2.1,.slice g0.2.2.2.1.1 g0.2.2.2.1.2.2.length g0.2.2.2.1.2.1,I g0.2.2.2.2,I f1,I f2,.slice g3.1 g3.2.2.length g3.2.1,.slice g4.1.1 g4.1.2.2.length g4.1.2.1,.slice g4.2.1 g4.2.2.2.length g4.2.2.1,.slice g5.1 g5.2.2.length g5.2.1,.slice g6.1 g6.2.2.length g6.2.1,.slice g7.1 g7.2.2.length g7.2.1,.slice g8.1 g8.2.2.length g8.2.1,.slice g9.1 g9.2.2.length g9.2.1,.slice g10.1 g10.2.2.length g10.2.1] V:=by rw [← hV]; have:=Blk.new (w.alloc (.cells #[.slice f0.1.1 f0.1.2.2.length f0.1.2.1,.slice f0.2.1.1 f0.2.1.2.2.length f0.2.1.2.1,.slice f0.2.2.1.1 f0.2.2.1.2.2.length f0.2.2.1.2.1,.slice f0.2.2.2.1.1 f0.2.2.2.1.2.2.length f0.2.2.2.1.2.1,I f0.2.2.2.2,I f1,I f2,.slice f3.1 f3.2.2.length f3.2.1,.slice f4.1.1 f4.1.2.2.length f4.1.2.1,.slice f4.2.1 f4.2.2.2.length f4.2.2.1,.slice f5.1 f5.2.2.length f5.2.1,.slice f6.1 f6.2.2.length f6.2.1,.slice f7.1 f7.2.2.length f7.2.1,.slice f8.1 f8.2.2.length f8.2.1,.slice f9.1 f9.2.2.length f9.2.1,.slice f10.1 f10.2.2.length f10.2.1] 48)) #[.slice g0.1.1 g0.1.2.2.length g0.1.2.1,.slice g0.2.1.1 g0.2.1.2.2.length g0.2.1.2.1,.slice g0.2.2.1.1 g0.2.2.1.2.2.length g0.2.2.1.2.1,.slice g0.2.2.2.1.1 g0.2.2.2.1.2.2.length g0.2.2.2.1.2.1,I g0.2.2.2.2,I f1,I f2,.slice g3.1 g3.2.2.length g3.2.1,.slice g4.1.1 g4.1.2.2.length g4.1.2.1,.slice g4.2.1 g4.2.2.2.length g4.2.2.1,.slice g5.1 g5.2.2.length g5.2.1,.slice g6.1 g6.2.2.length g6.2.1,.slice g7.1 g7.2.2.length g7.2.1,.slice g8.1 g8.2.2.length g8.2.1,.slice g9.1 g9.2.2.length g9.2.1,.slice g10.1 g10.2.2.length g10.2.1] 48; simpa using this
 have p0:=TA.at 0 rfl
 have q0:=TB.at 0 rfl
 have p1:=TA.at 1 rfl
 have q1:=TB.at 1 rfl
 have p2:=TA.at 2 rfl
 have q2:=TB.at 2 rfl
 have p3:=TA.at 3 rfl
 have q3:=TB.at 3 rfl
 have p4:=TA.at 4 rfl
 have q4:=TB.at 4 rfl
 go_enter Tryz.func9,Tryz.ntmps9
 go_wp2_with fail
 try rw [hV]
 refine (eqF_is f0 g0 _ (hx0.later BC) (hy0.later BC) e0 (by omega)).mono ?_
 clear hV p0 q0 p1 q1 p2 q2 p3 q3 p4 q4
 rintro en v0 ⟨rfl,hb⟩
 replace TA:=TA.later hb (World.block_lt_of_cell? _ _ (TA.at 0 rfl))
 replace TB:=TB.later hb (World.block_lt_of_cell? _ _ (TB.at 0 rfl))
 replace BC:=BC.trans (hb.mono BC.size)
 clear hb
 have p5:=TA.at 5 rfl
 have q5:=TB.at 5 rfl
 have p6:=TA.at 6 rfl
 have q6:=TB.at 6 rfl
 have p7:=TA.at 7 rfl
 have q7:=TB.at 7 rfl
 go_wp2_with fail
 try rw [hV]
 refine (eqSS_u f3 g3 _ (hx3.later BC) (hy3.later BC) e3 (by omega)).mono ?_
 clear p5 q5 p6 q6 p7 q7
 rintro en v3 ⟨rfl,hb⟩
 replace TA:=TA.later hb (World.block_lt_of_cell? _ _ (TA.at 0 rfl))
 replace TB:=TB.later hb (World.block_lt_of_cell? _ _ (TB.at 0 rfl))
 replace BC:=BC.trans (hb.mono BC.size)
 clear hb
 have p8:=TA.at 8 rfl
 have q8:=TB.at 8 rfl
 have p9:=TA.at 9 rfl
 have q9:=TB.at 9 rfl
 go_wp2_with fail
 try rw [hV]
 refine (eqN_is f4 g4 _ (hx4.later BC) (hy4.later BC) e4 (by omega)).mono ?_
 clear p8 q8 p9 q9
 rintro en v4 ⟨rfl,hb⟩
 replace TA:=TA.later hb (World.block_lt_of_cell? _ _ (TA.at 0 rfl))
 replace TB:=TB.later hb (World.block_lt_of_cell? _ _ (TB.at 0 rfl))
 replace BC:=BC.trans (hb.mono BC.size)
 clear hb
 have p10:=TA.at 10 rfl
 have q10:=TB.at 10 rfl
 go_wp2_with fail
 try rw [hV]
 refine (eqSW_u f5 g5 _ (hx5.later BC) (hy5.later BC) e5 (by omega)).mono ?_
 clear p10 q10
 rintro en v5 ⟨rfl,hb⟩
 replace TA:=TA.later hb (World.block_lt_of_cell? _ _ (TA.at 0 rfl))
 replace TB:=TB.later hb (World.block_lt_of_cell? _ _ (TB.at 0 rfl))
 replace BC:=BC.trans (hb.mono BC.size)
 clear hb
 have p11:=TA.at 11 rfl
 have q11:=TB.at 11 rfl
 go_wp2_with fail
 try rw [hV]
 refine (eqSC_u f6 g6 _ (hx6.later BC) (hy6.later BC) e6 (by omega)).mono ?_
 clear p11 q11
 rintro en v6 ⟨rfl,hb⟩
 replace TA:=TA.later hb (World.block_lt_of_cell? _ _ (TA.at 0 rfl))
 replace TB:=TB.later hb (World.block_lt_of_cell? _ _ (TB.at 0 rfl))
 replace BC:=BC.trans (hb.mono BC.size)
 clear hb
 have p12:=TA.at 12 rfl
 have q12:=TB.at 12 rfl
 go_wp2_with fail
 try rw [hV]
 refine (eqSK_is f7 g7 _ (hx7.later BC) (hy7.later BC) e7 (by omega)).mono ?_
 clear p12 q12
 rintro en v7 ⟨rfl,hb⟩
 replace TA:=TA.later hb (World.block_lt_of_cell? _ _ (TA.at 0 rfl))
 replace TB:=TB.later hb (World.block_lt_of_cell? _ _ (TB.at 0 rfl))
 replace BC:=BC.trans (hb.mono BC.size)
 clear hb
 have p13:=TA.at 13 rfl
 have q13:=TB.at 13 rfl
 go_wp2_with fail
 try rw [hV]
 refine (eqSE_u f8 g8 _ (hx8.later BC) (hy8.later BC) e8 (by omega)).mono ?_
 clear p13 q13
 rintro en v8 ⟨rfl,hb⟩
 replace TA:=TA.later hb (World.block_lt_of_cell? _ _ (TA.at 0 rfl))
 replace TB:=TB.later hb (World.block_lt_of_cell? _ _ (TB.at 0 rfl))
 replace BC:=BC.trans (hb.mono BC.size)
 clear hb
 have p14:=TA.at 14 rfl
 have q14:=TB.at 14 rfl
 go_wp2_with fail
 try rw [hV]
 refine (eqSQ_is f9 g9 _ (hx9.later BC) (hy9.later BC) e9 (by omega)).mono ?_
 clear p14 q14
 rintro en v9 ⟨rfl,hb⟩
 replace TA:=TA.later hb (World.block_lt_of_cell? _ _ (TA.at 0 rfl))
 replace TB:=TB.later hb (World.block_lt_of_cell? _ _ (TB.at 0 rfl))
 replace BC:=BC.trans (hb.mono BC.size)
 clear hb
 have p15:=TA.at 15 rfl
 have q15:=TB.at 15 rfl
 go_wp2_with fail
 try rw [hV]
 refine (eqSI_u f10 g10 _ (hx10.later BC) (hy10.later BC) e10 (by omega)).mono ?_
 clear p15 q15
 rintro en v10 ⟨rfl,hb⟩
 replace TA:=TA.later hb (World.block_lt_of_cell? _ _ (TA.at 0 rfl))
 replace TB:=TB.later hb (World.block_lt_of_cell? _ _ (TB.at 0 rfl))
 replace BC:=BC.trans (hb.mono BC.size)
 clear hb
 go_wp2
 go_ret
 exact ⟨rfl,BC⟩
end Go.Proofs.YtlmpfkbgknbcnaaGreat.Nd

set_option linter.unusedVariables false
set_option maxRecDepth 100000
namespace Go.Proofs.YtlmpfkbgknbcnaaGreat.Nd
open Go Go.RowKit Go.Joins Own Draw Term
theorem exec_ld {P : Program} {ρ : Operand → Value} {o : Oper} {w : World} (ty : TypeId) (x : Operand) {g off : Nat} {v : Value} (ho : o.op = .load ty x) (hx : ρ x = .pointer (some ⟨g,off,none⟩)) (hl : (loadVar ty ⟨g,off,none⟩).run P w = .ok v w) : (execOp ρ o).run P w = .ok (.value v) w:=by
 unfold execOp
 simp only [ho,hx,Instr.loadAt,Instr.sureAddr,Sem.run_bind,Sem.run_pure,Result.andThen_ok,hl]
theorem info_DL : ∃ ie,Tryz.prog.info? 35 = some ie ∧ ie.size = 16:=by
 cases h : Tryz.prog.info? 35 with
 | none => exact absurd h (by have : (Tryz.prog.info? 35).isSome = true:=(by kernel_rfl); rw [Option.isSome_iff_ne_none] at this; exact this)
 | some ie =>
  refine ⟨ie,rfl,?_⟩
  have : (Tryz.prog.info? 35).map (·.size) = some 16:=by kernel_rfl
  rw [h] at this
  exact Option.some.inj this
end Go.Proofs.YtlmpfkbgknbcnaaGreat.Nd

set_option linter.unusedVariables false
set_option maxRecDepth 100000
namespace Go.Proofs.YtlmpfkbgknbcnaaGreat.Nd
open Go Go.RowKit Go.Joins Own Draw Term
theorem wok_log {d : TD} (h : wokB d = true) : d.2.2.2.2.2.2.2.2.1.2.2.length ≤ 40:=by
 unfold wokB recB at h
 simp only [Bool.and_eq_true] at h
 exact of_decide_eq_true h.2.2.2.2.2.2.2.2.1
theorem wok_kn {d : TD} (h : wokB d = true) : Kn.kOk d.2.2.2.2.1.1.2.2 d.2.2.2.2.1.2.2.2 = true:=by
 unfold wokB knB at h
 simp only [Bool.and_eq_true] at h
 exact h.2.2.2.2.2.2.1
noncomputable def rcB (d : TD) (k : Int) : Bool:=@decide (Kn.ReachT d.2.2.2.2.1.1.2.2 d.2.2.2.2.1.2.2.2 k) (Classical.propDecidable _)
theorem rc_of {d : TD} {K : List Int} (h : ∀ k,k ∈ K ↔ Kn.ReachT d.2.2.2.2.1.1.2.2 d.2.2.2.2.1.2.2.2 k) (k : Int) : K.contains k = rcB d k:=by
 unfold rcB
 cases hc : K.contains k with
 | true => exact (@decide_eq_true _ (Classical.propDecidable _) ((h k).1 (List.contains_iff_mem.1 hc))).symm
 | false => exact (@decide_eq_false _ (Classical.propDecidable _) (fun c => by rw [List.contains_iff_mem.2 ((h k).2 c)] at hc; cases hc)).symm
/-- What Secret says of one event. -/
noncomputable def scB (d : TD) (p : TE) : Bool:=decide ((roP (cfOf d.1) d.2.2.2.2.2.2.2.2.1.2.2 (kyE p)).length = 0) || (!((roP (cfOf d.1) d.2.2.2.2.2.2.2.2.1.2.2 (kyE p)).all fun x => nin d.2.2.2.2.2.2.2.2.2.2.2.2 x) || !(rcB d (kyE p)))
structure EvI (d : TD) : Prop where
 ev : ∀ e ∈ d.2.2.2.2.2.2.2.2.1.2.2,i64 (kyE e) ∧ i64 (paE e) ∧ i64 (seE e)
theorem rise_len : ∀ (K : List Int) (lo hi : Int),K.Pairwise (· < ·) → (∀ k,k ∈ K → lo ≤ k ∧ k ≤ hi) → (K.length : Int) ≤ max 0 (hi - lo + 1):=by
 intro K
 induction K with
 | nil => intro lo hi _ _; simp; omega
 | cons x K ih =>
  intro lo hi hp h
  rw [List.pairwise_cons] at hp
  have hx:=h x (by simp)
  have:=ih (lo + 1) hi hp.2 (fun k hk => ⟨by have:=hp.1 k hk; omega,(h k (by simp [hk])).2⟩)
  simp only [List.length_cons]
  omega
theorem keys_len {xs : List ByteArray} {ks K : List Int} (h : Kn.kOk xs ks = true) (hK : (∀ k,k ∈ K ↔ Kn.ReachT xs ks k) ∧ K.Pairwise (· < ·)) : K.length ≤ 1048576:=by
 have:=rise_len K 1 1000000 hK.2 (fun k hk => Kn.reach_range (Kn.kOk_facts h).2.2 ((hK.1 k).1 hk))
 omega
theorem ro_len {d : TD} (h : wokB d = true) (n : Int) : (roP (cfOf d.1) d.2.2.2.2.2.2.2.2.1.2.2 n).length ≤ 1048576:=Nat.le_trans (roP_len _ _ _) (by have:=wok_log h; omega)
theorem mt_none (ks ls : List Int) : (!(ks.all fun x => nin ls x)) = mtB ks ls:=by
 unfold mtB hasB nin
 rw [Bool.eq_iff_iff]
 simp
theorem sc_eq (d : TD) (p : TE) : scB d p = !(decide (0 < (roP (cfOf d.1) d.2.2.2.2.2.2.2.2.1.2.2 (kyE p)).length) && (!(mtB (roP (cfOf d.1) d.2.2.2.2.2.2.2.2.1.2.2 (kyE p)) d.2.2.2.2.2.2.2.2.2.2.2.2) && rcB d (kyE p))):=by
 unfold scB
 rw [mt_none]
 cases mtB (roP (cfOf d.1) d.2.2.2.2.2.2.2.2.1.2.2 (kyE p)) d.2.2.2.2.2.2.2.2.2.2.2.2 <;> cases rcB d (kyE p) <;> by_cases h : (roP (cfOf d.1) d.2.2.2.2.2.2.2.2.1.2.2 (kyE p)).length = 0 <;> simp [h,Nat.pos_iff_ne_zero]
end Go.Proofs.YtlmpfkbgknbcnaaGreat.Nd
