/- Worlds that come in. -/
import Derived.Test.YtlmpfkbgknbcnaaGreatNd0
import Derived.WalkKit
import Derived.ProofKit
import Derived.OpenShut
import Derived.ChangeSlices
import Derived.Deep.SlicePairs
import Derived.Lib.SmallJoins
set_option linter.unusedVariables false
set_option maxRecDepth 100000
namespace Go.Proofs.YtlmpfkbgknbcnaaGreat.Nd
open Go Go.RowKit Go.ChangeShapes Go.WideShapes Go.ChangeAt Go.Joins Go.Deep Own Draw
theorem cz3 : Tryz.prog.cellsOf 3 = 1:=by kernel_rfl
theorem cz4 : Tryz.prog.cellsOf 4 = 1:=by kernel_rfl
theorem cz9 : Tryz.prog.cellsOf 9 = 1:=by kernel_rfl
theorem cz22 : Tryz.prog.cellsOf 22 = 1:=by kernel_rfl
theorem cz23 : Tryz.prog.cellsOf 23 = 1:=by kernel_rfl
theorem cz25 : Tryz.prog.cellsOf 25 = 5:=by kernel_rfl
theorem cz26 : Tryz.prog.cellsOf 26 = 1:=by kernel_rfl
theorem cz28 : Tryz.prog.cellsOf 28 = 2:=by kernel_rfl
theorem cz29 : Tryz.prog.cellsOf 29 = 1:=by kernel_rfl
theorem cz30 : Tryz.prog.cellsOf 30 = 1:=by kernel_rfl
theorem cz31 : Tryz.prog.cellsOf 31 = 1:=by kernel_rfl
theorem cz32 : Tryz.prog.cellsOf 32 = 1:=by kernel_rfl
theorem cz33 : Tryz.prog.cellsOf 33 = 1:=by kernel_rfl
theorem cz35 : Tryz.prog.cellsOf 35 = 16:=by kernel_rfl
theorem cz116 : Tryz.prog.cellsOf 113 = 3:=by kernel_rfl
theorem cz118 : Tryz.prog.cellsOf 115 = 8:=by kernel_rfl
theorem cz120 : Tryz.prog.cellsOf 117 = 1:=by kernel_rfl
theorem cz122 : Tryz.prog.cellsOf 119 = 2:=by kernel_rfl
theorem cz124 : Tryz.prog.cellsOf 121 = 3:=by kernel_rfl
theorem cz126 : Tryz.prog.cellsOf 123 = 15:=by kernel_rfl
theorem cz136 : Tryz.prog.cellsOf 133 = 4:=by kernel_rfl
theorem cz141 : Tryz.prog.cellsOf 138 = 11:=by kernel_rfl
theorem cz160 : Tryz.prog.cellsOf 182 = 2:=by kernel_rfl
theorem add_spot (b off j : Nat) : (⟨b,off,none⟩ : Addr).add j = ⟨b,off + j,none⟩:=by simp only [Addr.add]; split <;> simp_all
theorem i64_of {x : Int} (h : (Lit.int .i64 x).wf = true) : i64 x:=by
 unfold i64
 simp [Lit.wf,IntKind.min,IntKind.max,IntKind.signed,IntKind.bits] at h
 omega
def RkI (r : Rw Int) : Prop:=∀ x ∈ r.2.2,i64 x
def OkA (p : TA) : Prop:=i64 p.1 ∧ i64 p.2.1 ∧ i64 p.2.2
def OkR (p : TR) : Prop:=i64 p.1 ∧ i64 p.2.1 ∧ i64 p.2.2
def OkP (p : TP) : Prop:=i64 p.1 ∧ i64 p.2
def OkW (p : TW) : Prop:=i64 p.2.1 ∧ i64 p.2.2.1 ∧ i64 p.2.2.2
def OkE (p : TE) : Prop:=i64 p.1 ∧ i64 p.2.1 ∧ i64 p.2.2.1 ∧ i64 p.2.2.2.1 ∧ i64 p.2.2.2.2.1 ∧ i64 p.2.2.2.2.2.1 ∧ i64 p.2.2.2.2.2.2.1 ∧ i64 p.2.2.2.2.2.2.2.1 ∧ i64 p.2.2.2.2.2.2.2.2.1 ∧ i64 p.2.2.2.2.2.2.2.2.2.1 ∧ i64 p.2.2.2.2.2.2.2.2.2.2
def OkC (p : TC) : Prop:=i64 p.1 ∧ i64 p.2.1 ∧ i64 p.2.2.1 ∧ i64 p.2.2.2.1 ∧ i64 p.2.2.2.2.1 ∧ i64 p.2.2.2.2.2.1 ∧ i64 p.2.2.2.2.2.2.1
def RkA (r : Rw TA) : Prop:=∀ x ∈ r.2.2,OkA x
def RkP (r : Rw TP) : Prop:=∀ x ∈ r.2.2,OkP x
def RkW (r : Rw TW) : Prop:=∀ x ∈ r.2.2,OkW x
def RkE (r : Rw TE) : Prop:=∀ x ∈ r.2.2,OkE x
def RkC (r : Rw TC) : Prop:=∀ x ∈ r.2.2,OkC x
def OkK (p : TK) : Prop:=i64 p.1 ∧ RkA p.2
def RkK (r : Rw TK) : Prop:=∀ x ∈ r.2.2,OkK x
def OkQ (p : TQ) : Prop:=i64 p.1 ∧ i64 p.2.1 ∧ i64 p.2.2.1 ∧ i64 p.2.2.2.1 ∧ i64 p.2.2.2.2.1 ∧ OkA p.2.2.2.2.2.1 ∧ OkR p.2.2.2.2.2.2.1 ∧ RkI p.2.2.2.2.2.2.2.1 ∧ RkI p.2.2.2.2.2.2.2.2.1 ∧ i64 p.2.2.2.2.2.2.2.2.2.1
def RkQ (r : Rw TQ) : Prop:=∀ x ∈ r.2.2,OkQ x
def OkF (p : TF) : Prop:=RkI p.1 ∧ RkI p.2.1 ∧ RkP p.2.2.1 ∧ RkP p.2.2.2.1 ∧ i64 p.2.2.2.2
def OkN (p : TN) : Prop:=RkI p.2
def OkD (p : TD) : Prop:=OkF p.1 ∧ i64 p.2.1 ∧ i64 p.2.2.1 ∧ OkN p.2.2.2.2.1 ∧ RkW p.2.2.2.2.2.1 ∧ RkC p.2.2.2.2.2.2.1 ∧ RkK p.2.2.2.2.2.2.2.1 ∧ RkE p.2.2.2.2.2.2.2.2.1 ∧ RkQ p.2.2.2.2.2.2.2.2.2.1 ∧ RkI p.2.2.2.2.2.2.2.2.2.2
section
variable {H : Type} {enc : TypeId × Value → H} {W : World} {base : Nat} {spare : Nat → Bool} {held : Bool}
theorem open_cI {n : Nat} {c : Value} {y : DataW H × List MemPlace} (h : DataW.trod enc Tryz.prog W base spare held n 22 [c] = some y) : ∃ r : Rw Int,c = .slice r.1 r.2.2.length r.2.1 ∧ RpI W r ∧ RlI r ∧ RkI r:=by
 rcases Go.Deep.open_slice Tryz.underlying22 h with ⟨e,_⟩ | ⟨a,len,cap,m,n',D,Pl,e,hb,hl,hm,hmm,_,hx⟩
 ·simp only [List.cons.injEq,and_true] at e
  exact ⟨(none,0,[]),e,fun j hj => by simp at hj,by simp [RlI],fun x hx => by simp at hx⟩
 ·simp only [List.cons.injEq,and_true] at e
  have hle : len ≤ m:=by rw [hmm]; split <;> omega
  have hspot : 0 < len → a.spot = none:=by
   intro h0
   obtain ⟨cs',h1,_⟩:=hx 0 (by omega)
   rw [cz3] at h1
   obtain ⟨_,hlen,hcell⟩:=World.cells?_some h1
   have c0:=hcell 0 (by omega)
   rw [List.getElem?_eq_getElem (by omega)] at c0
   have:=World.cell?_spot c0
   simpa [Addr.add] using this
  have each : ∀ i,i < len → ∃ q : Int,a.spot = none ∧ W.cell? ⟨a.block,a.off + i,none⟩ = some (Value.int .i64 q) ∧ i64 q:=by
   intro i hi
   obtain ⟨cs',h1,h2⟩:=hx i (by omega)
   rw [cz3] at h1
   obtain ⟨_,hlen,hcell⟩:=World.cells?_some h1
   obtain ⟨b,off,spot⟩:=a
   obtain ⟨q,eq,_,wf⟩:=DataW.trod_int Tryz.underlying3 h2
   subst eq
   have c0:=hcell 0 (by omega)
   have hsp : spot = none:=hspot (by omega)
   subst hsp
   rw [add_spot,add_spot] at c0
   exact ⟨q,rfl,by simpa using c0,i64_of wf⟩
  obtain ⟨f,hf⟩:=Go.Deep.choose_lt each
  obtain ⟨b,off,spot⟩:=a
  refine ⟨(some ⟨b,off,spot⟩,cap,(List.range len).map f),by dsimp only; rw [List.length_map,List.length_range]; exact e,?_,?_,?_⟩
  ·intro j hj
   dsimp only at hj ⊢
   rw [List.length_map,List.length_range] at hj
   obtain ⟨hs,hc,_⟩:=hf j hj
   dsimp only at hs hc
   subst hs
   refine ⟨b,off,rfl,World.block_lt_of_cell? W _ hc,?_⟩
   rw [List.getElem_map,List.getElem_range]; exact hc
  ·show _ ≤ _
   dsimp only
   rw [List.length_map,List.length_range]
   omega
  ·intro x hx
   obtain ⟨j,hj,rfl⟩:=List.mem_map.1 hx
   exact (hf j (List.mem_range.1 hj)).2.2
theorem open_cS {n : Nat} {c : Value} {y : DataW H × List MemPlace} (h : DataW.trod enc Tryz.prog W base spare held n 26 [c] = some y) : ∃ r : Rw ByteArray,c = .slice r.1 r.2.2.length r.2.1 ∧ RpS W r ∧ RlS r:=by
 rcases Go.Deep.open_slice Tryz.underlying26 h with ⟨e,_⟩ | ⟨a,len,cap,m,n',D,Pl,e,hb,hl,hm,hmm,_,hx⟩
 ·simp only [List.cons.injEq,and_true] at e
  exact ⟨(none,0,[]),e,fun j hj => by simp at hj,by simp [RlS]⟩
 ·simp only [List.cons.injEq,and_true] at e
  have hle : len ≤ m:=by rw [hmm]; split <;> omega
  have hspot : 0 < len → a.spot = none:=by
   intro h0
   obtain ⟨cs',h1,_⟩:=hx 0 (by omega)
   rw [cz9] at h1
   obtain ⟨_,hlen,hcell⟩:=World.cells?_some h1
   have c0:=hcell 0 (by omega)
   rw [List.getElem?_eq_getElem (by omega)] at c0
   have:=World.cell?_spot c0
   simpa [Addr.add] using this
  have each : ∀ i,i < len → ∃ q : ByteArray,a.spot = none ∧ W.cell? ⟨a.block,a.off + i,none⟩ = some (Value.string q) ∧ q.size ≤ maxLen:=by
   intro i hi
   obtain ⟨cs',h1,h2⟩:=hx i (by omega)
   rw [cz9] at h1
   obtain ⟨_,hlen,hcell⟩:=World.cells?_some h1
   obtain ⟨b,off,spot⟩:=a
   obtain ⟨q,eq,_,wf⟩:=DataW.trod_string Tryz.underlying9 h2
   subst eq
   have c0:=hcell 0 (by omega)
   have hsp : spot = none:=hspot (by omega)
   subst hsp
   rw [add_spot,add_spot] at c0
   exact ⟨q,rfl,by simpa using c0,wf⟩
  obtain ⟨f,hf⟩:=Go.Deep.choose_lt each
  obtain ⟨b,off,spot⟩:=a
  refine ⟨(some ⟨b,off,spot⟩,cap,(List.range len).map f),by dsimp only; rw [List.length_map,List.length_range]; exact e,?_,?_⟩
  ·intro j hj
   dsimp only at hj ⊢
   rw [List.length_map,List.length_range] at hj
   obtain ⟨hs,hc,_⟩:=hf j hj
   dsimp only at hs hc
   subst hs
   refine ⟨b,off,rfl,World.block_lt_of_cell? W _ hc,?_⟩
   rw [List.getElem_map,List.getElem_range]; exact hc
  ·exact ⟨by dsimp only; rw [List.length_map,List.length_range]; omega,fun x hx => by
    obtain ⟨j,hj,rfl⟩:=List.mem_map.1 hx
    exact (hf j (List.mem_range.1 hj)).2.2⟩
theorem open_sA {n : Nat} {cs : List Value} {y : DataW H × List MemPlace} (hlen : cs.length = 3) (h : DataW.trod enc Tryz.prog W base spare held n 121 cs = some y) : ∃ p : TA,cs = cA p ∧ OkA p:=by
 obtain ⟨zs,k,hk,_,_,hxl,hf⟩:=DataW.trod_struct Tryz.underlying121 h
 match zs,hxl,cs,hlen with
 | [y0,y1,y2],_,[v0,v1,v2],_ =>
  have g0:=hf 0 _ rfl
  have g1:=hf 1 _ rfl
  have g2:=hf 2 _ rfl
  simp [cz3] at g0 g1 g2
  obtain ⟨x0,e0,_,wf0⟩:=DataW.trod_int Tryz.underlying3 g0
  simp only [List.cons.injEq,and_true] at e0
  subst e0
  obtain ⟨x1,e1,_,wf1⟩:=DataW.trod_int Tryz.underlying3 g1
  simp only [List.cons.injEq,and_true] at e1
  subst e1
  obtain ⟨x2,e2,_,wf2⟩:=DataW.trod_int Tryz.underlying3 g2
  simp only [List.cons.injEq,and_true] at e2
  subst e2
  exact ⟨(x0,x1,x2),rfl,⟨i64_of wf0,i64_of wf1,i64_of wf2⟩⟩
theorem open_sR {n : Nat} {cs : List Value} {y : DataW H × List MemPlace} (hlen : cs.length = 3) (h : DataW.trod enc Tryz.prog W base spare held n 113 cs = some y) : ∃ p : TR,cs = cR p ∧ OkR p:=by
 obtain ⟨zs,k,hk,_,_,hxl,hf⟩:=DataW.trod_struct Tryz.underlying113 h
 match zs,hxl,cs,hlen with
 | [y0,y1,y2],_,[v0,v1,v2],_ =>
  have g0:=hf 0 _ rfl
  have g1:=hf 1 _ rfl
  have g2:=hf 2 _ rfl
  simp [cz3] at g0 g1 g2
  obtain ⟨x0,e0,_,wf0⟩:=DataW.trod_int Tryz.underlying3 g0
  simp only [List.cons.injEq,and_true] at e0
  subst e0
  obtain ⟨x1,e1,_,wf1⟩:=DataW.trod_int Tryz.underlying3 g1
  simp only [List.cons.injEq,and_true] at e1
  subst e1
  obtain ⟨x2,e2,_,wf2⟩:=DataW.trod_int Tryz.underlying3 g2
  simp only [List.cons.injEq,and_true] at e2
  subst e2
  exact ⟨(x0,x1,x2),rfl,⟨i64_of wf0,i64_of wf1,i64_of wf2⟩⟩
theorem open_sP {n : Nat} {cs : List Value} {y : DataW H × List MemPlace} (hlen : cs.length = 2) (h : DataW.trod enc Tryz.prog W base spare held n 182 cs = some y) : ∃ p : TP,cs = cP p ∧ OkP p:=by
 obtain ⟨zs,k,hk,_,_,hxl,hf⟩:=DataW.trod_struct Tryz.underlying182 h
 match zs,hxl,cs,hlen with
 | [y0,y1],_,[v0,v1],_ =>
  have g0:=hf 0 _ rfl
  have g1:=hf 1 _ rfl
  simp [cz3] at g0 g1
  obtain ⟨x0,e0,_,wf0⟩:=DataW.trod_int Tryz.underlying3 g0
  simp only [List.cons.injEq,and_true] at e0
  subst e0
  obtain ⟨x1,e1,_,wf1⟩:=DataW.trod_int Tryz.underlying3 g1
  simp only [List.cons.injEq,and_true] at e1
  subst e1
  exact ⟨(x0,x1),rfl,⟨i64_of wf0,i64_of wf1⟩⟩
theorem open_sW {n : Nat} {cs : List Value} {y : DataW H × List MemPlace} (hlen : cs.length = 4) (h : DataW.trod enc Tryz.prog W base spare held n 133 cs = some y) : ∃ p : TW,cs = cW p ∧ OkW p:=by
 obtain ⟨zs,k,hk,_,_,hxl,hf⟩:=DataW.trod_struct Tryz.underlying133 h
 match zs,hxl,cs,hlen with
 | [y0,y1,y2,y3],_,[v0,v1,v2,v3],_ =>
  have g0:=hf 0 _ rfl
  have g1:=hf 1 _ rfl
  have g2:=hf 2 _ rfl
  have g3:=hf 3 _ rfl
  simp [cz3,cz4] at g0 g1 g2 g3
  obtain ⟨x0,e0,_⟩:=DataW.trod_bool Tryz.underlying4 g0
  simp only [List.cons.injEq,and_true] at e0
  subst e0
  obtain ⟨x1,e1,_,wf1⟩:=DataW.trod_int Tryz.underlying3 g1
  simp only [List.cons.injEq,and_true] at e1
  subst e1
  obtain ⟨x2,e2,_,wf2⟩:=DataW.trod_int Tryz.underlying3 g2
  simp only [List.cons.injEq,and_true] at e2
  subst e2
  obtain ⟨x3,e3,_,wf3⟩:=DataW.trod_int Tryz.underlying3 g3
  simp only [List.cons.injEq,and_true] at e3
  subst e3
  exact ⟨(x0,x1,x2,x3),rfl,⟨i64_of wf1,i64_of wf2,i64_of wf3⟩⟩
theorem open_sE {n : Nat} {cs : List Value} {y : DataW H × List MemPlace} (hlen : cs.length = 11) (h : DataW.trod enc Tryz.prog W base spare held n 138 cs = some y) : ∃ p : TE,cs = cE p ∧ OkE p:=by
 obtain ⟨zs,k,hk,_,_,hxl,hf⟩:=DataW.trod_struct Tryz.underlying138 h
 match zs,hxl,cs,hlen with
 | [y0,y1,y2,y3,y4,y5,y6,y7,y8],_,[v0,v1,v2,v3,v4,v5,v6,v7,v8,v9,v10],_ =>
  have g0:=hf 0 _ rfl
  have g1:=hf 1 _ rfl
  have g2:=hf 2 _ rfl
  have g3:=hf 3 _ rfl
  have g4:=hf 4 _ rfl
  have g5:=hf 5 _ rfl
  have g6:=hf 6 _ rfl
  have g7:=hf 7 _ rfl
  have g8:=hf 8 _ rfl
  simp [cz3,cz116] at g0 g1 g2 g3 g4 g5 g6 g7 g8
  obtain ⟨x0,e0,_,wf0⟩:=DataW.trod_int Tryz.underlying3 g0
  simp only [List.cons.injEq,and_true] at e0
  subst e0
  obtain ⟨x1,e1,_,wf1⟩:=DataW.trod_int Tryz.underlying3 g1
  simp only [List.cons.injEq,and_true] at e1
  subst e1
  obtain ⟨x2,e2,_,wf2⟩:=DataW.trod_int Tryz.underlying3 g2
  simp only [List.cons.injEq,and_true] at e2
  subst e2
  obtain ⟨x3,e3,_,wf3⟩:=DataW.trod_int Tryz.underlying3 g3
  simp only [List.cons.injEq,and_true] at e3
  subst e3
  obtain ⟨x4,e4,_,wf4⟩:=DataW.trod_int Tryz.underlying3 g4
  simp only [List.cons.injEq,and_true] at e4
  subst e4
  obtain ⟨x5,e5,_,wf5⟩:=DataW.trod_int Tryz.underlying3 g5
  simp only [List.cons.injEq,and_true] at e5
  subst e5
  obtain ⟨x6,e6,_,wf6⟩:=DataW.trod_int Tryz.underlying3 g6
  simp only [List.cons.injEq,and_true] at e6
  subst e6
  obtain ⟨x7,e7,_,wf7⟩:=DataW.trod_int Tryz.underlying3 g7
  simp only [List.cons.injEq,and_true] at e7
  subst e7
  obtain ⟨zn8,kn8,_,_,_,hxn8,hfn8⟩:=DataW.trod_struct Tryz.underlying113 g8
  match zn8,hxn8 with
  | [u8_0,u8_1,u8_2],_ =>
  have g8_0:=hfn8 0 _ rfl
  have g8_1:=hfn8 1 _ rfl
  have g8_2:=hfn8 2 _ rfl
  simp [cz3] at g8_0 g8_1 g8_2
  obtain ⟨x8,e8,_,wf8⟩:=DataW.trod_int Tryz.underlying3 g8_0
  simp only [List.cons.injEq,and_true] at e8
  subst e8
  obtain ⟨x9,e9,_,wf9⟩:=DataW.trod_int Tryz.underlying3 g8_1
  simp only [List.cons.injEq,and_true] at e9
  subst e9
  obtain ⟨x10,e10,_,wf10⟩:=DataW.trod_int Tryz.underlying3 g8_2
  simp only [List.cons.injEq,and_true] at e10
  subst e10
  exact ⟨(x0,x1,x2,x3,x4,x5,x6,x7,x8,x9,x10),rfl,⟨i64_of wf0,i64_of wf1,i64_of wf2,i64_of wf3,i64_of wf4,i64_of wf5,i64_of wf6,i64_of wf7,i64_of wf8,i64_of wf9,i64_of wf10⟩⟩
theorem open_sC {n : Nat} {cs : List Value} {y : DataW H × List MemPlace} (hlen : cs.length = 8) (h : DataW.trod enc Tryz.prog W base spare held n 115 cs = some y) : ∃ p : TC,cs = cC p ∧ LmC p ∧ OkC p:=by
 obtain ⟨zs,k,hk,_,_,hxl,hf⟩:=DataW.trod_struct Tryz.underlying115 h
 match zs,hxl,cs,hlen with
 | [y0,y1,y2,y3,y4,y5],_,[v0,v1,v2,v3,v4,v5,v6,v7],_ =>
  have g0:=hf 0 _ rfl
  have g1:=hf 1 _ rfl
  have g2:=hf 2 _ rfl
  have g3:=hf 3 _ rfl
  have g4:=hf 4 _ rfl
  have g5:=hf 5 _ rfl
  simp [cz3,cz9,cz116] at g0 g1 g2 g3 g4 g5
  obtain ⟨x0,e0,_,wf0⟩:=DataW.trod_int Tryz.underlying3 g0
  simp only [List.cons.injEq,and_true] at e0
  subst e0
  obtain ⟨x1,e1,_,wf1⟩:=DataW.trod_int Tryz.underlying3 g1
  simp only [List.cons.injEq,and_true] at e1
  subst e1
  obtain ⟨x2,e2,_,wf2⟩:=DataW.trod_int Tryz.underlying3 g2
  simp only [List.cons.injEq,and_true] at e2
  subst e2
  obtain ⟨x3,e3,_,wf3⟩:=DataW.trod_int Tryz.underlying3 g3
  simp only [List.cons.injEq,and_true] at e3
  subst e3
  obtain ⟨zn4,kn4,_,_,_,hxn4,hfn4⟩:=DataW.trod_struct Tryz.underlying113 g4
  match zn4,hxn4 with
  | [u4_0,u4_1,u4_2],_ =>
  have g4_0:=hfn4 0 _ rfl
  have g4_1:=hfn4 1 _ rfl
  have g4_2:=hfn4 2 _ rfl
  simp [cz3] at g4_0 g4_1 g4_2
  obtain ⟨x4,e4,_,wf4⟩:=DataW.trod_int Tryz.underlying3 g4_0
  simp only [List.cons.injEq,and_true] at e4
  subst e4
  obtain ⟨x5,e5,_,wf5⟩:=DataW.trod_int Tryz.underlying3 g4_1
  simp only [List.cons.injEq,and_true] at e5
  subst e5
  obtain ⟨x6,e6,_,wf6⟩:=DataW.trod_int Tryz.underlying3 g4_2
  simp only [List.cons.injEq,and_true] at e6
  subst e6
  obtain ⟨x7,e7,_,wf7⟩:=DataW.trod_string Tryz.underlying9 g5
  simp only [List.cons.injEq,and_true] at e7
  subst e7
  exact ⟨(x0,x1,x2,x3,x4,x5,x6,x7),rfl,wf7,⟨i64_of wf0,i64_of wf1,i64_of wf2,i64_of wf3,i64_of wf4,i64_of wf5,i64_of wf6⟩⟩
theorem open_cA {n : Nat} {c : Value} {y : DataW H × List MemPlace} (h : DataW.trod enc Tryz.prog W base spare held n 117 [c] = some y) : ∃ r : Rw TA,c = .slice r.1 r.2.2.length r.2.1 ∧ RpA W r ∧ RlA r ∧ RkA r:=by
 rcases Go.Deep.open_slice Tryz.underlying117 h with ⟨e,_⟩ | ⟨a,len,cap,m,n',D,Pl,e,hb,hl,hm,hmm,_,hx⟩
 ·simp only [List.cons.injEq,and_true] at e
  exact ⟨(none,0,[]),e,fun j hj => by simp at hj,by simp [RlA],fun x hx => by simp at hx⟩
 ·simp only [List.cons.injEq,and_true] at e
  have hle : len ≤ m:=by rw [hmm]; split <;> omega
  have hspot : 0 < len → a.spot = none:=by
   intro h0
   obtain ⟨cs',h1,_⟩:=hx 0 (by omega)
   rw [cz124] at h1
   obtain ⟨_,hlen,hcell⟩:=World.cells?_some h1
   have c0:=hcell 0 (by omega)
   rw [List.getElem?_eq_getElem (by omega)] at c0
   have:=World.cell?_spot c0
   simpa [Addr.add] using this
  have each : ∀ i,i < len → ∃ q : TA,a.spot = none ∧ (∀ j v,(cA q)[j]? = some v → W.cell? ⟨a.block,a.off + i * 3 + j,none⟩ = some v) ∧ OkA q:=by
   intro i hi
   obtain ⟨cs',h1,h2⟩:=hx i (by omega)
   rw [cz124] at h1
   obtain ⟨_,hlen,hcell⟩:=World.cells?_some h1
   obtain ⟨b,off,spot⟩:=a
   obtain ⟨q,eq,oq⟩:=open_sA hlen h2
   subst eq
   have hsp : spot = none:=hspot (by omega)
   subst hsp
   refine ⟨q,rfl,fun j v hv => ?_,oq⟩
   have hj : j < 3:=by
    obtain ⟨hj,_⟩:=List.getElem?_eq_some_iff.1 hv
    exact hj
   have cj:=hcell j hj
   rw [add_spot,add_spot] at cj
   exact cj.trans hv
  obtain ⟨f,hf⟩:=Go.Deep.choose_lt each
  obtain ⟨b,off,spot⟩:=a
  refine ⟨(some ⟨b,off,spot⟩,cap,(List.range len).map f),by dsimp only; rw [List.length_map,List.length_range]; exact e,?_,?_,?_⟩
  ·intro j hj
   dsimp only at hj ⊢
   rw [List.length_map,List.length_range] at hj
   obtain ⟨hs,hc,_⟩:=hf j hj
   dsimp only at hs hc
   subst hs
   refine ⟨b,off,rfl,World.block_lt_of_cell? W _ (hc 0 _ rfl),?_⟩
   intro i v hv
   rw [List.getElem_map,List.getElem_range] at hv
   exact hc i v hv
  ·show _ ≤ _
   dsimp only
   rw [List.length_map,List.length_range]
   omega
  ·intro x hx
   obtain ⟨j,hj,rfl⟩:=List.mem_map.1 hx
   exact (hf j (List.mem_range.1 hj)).2.2
theorem open_cP {n : Nat} {c : Value} {y : DataW H × List MemPlace} (h : DataW.trod enc Tryz.prog W base spare held n 23 [c] = some y) : ∃ r : Rw TP,c = .slice r.1 r.2.2.length r.2.1 ∧ RpP W r ∧ RlP r ∧ RkP r:=by
 rcases Go.Deep.open_slice Tryz.underlying23 h with ⟨e,_⟩ | ⟨a,len,cap,m,n',D,Pl,e,hb,hl,hm,hmm,_,hx⟩
 ·simp only [List.cons.injEq,and_true] at e
  exact ⟨(none,0,[]),e,fun j hj => by simp at hj,by simp [RlP],fun x hx => by simp at hx⟩
 ·simp only [List.cons.injEq,and_true] at e
  have hle : len ≤ m:=by rw [hmm]; split <;> omega
  have hspot : 0 < len → a.spot = none:=by
   intro h0
   obtain ⟨cs',h1,_⟩:=hx 0 (by omega)
   rw [cz160] at h1
   obtain ⟨_,hlen,hcell⟩:=World.cells?_some h1
   have c0:=hcell 0 (by omega)
   rw [List.getElem?_eq_getElem (by omega)] at c0
   have:=World.cell?_spot c0
   simpa [Addr.add] using this
  have each : ∀ i,i < len → ∃ q : TP,a.spot = none ∧ (∀ j v,(cP q)[j]? = some v → W.cell? ⟨a.block,a.off + i * 2 + j,none⟩ = some v) ∧ OkP q:=by
   intro i hi
   obtain ⟨cs',h1,h2⟩:=hx i (by omega)
   rw [cz160] at h1
   obtain ⟨_,hlen,hcell⟩:=World.cells?_some h1
   obtain ⟨b,off,spot⟩:=a
   obtain ⟨q,eq,oq⟩:=open_sP hlen h2
   subst eq
   have hsp : spot = none:=hspot (by omega)
   subst hsp
   refine ⟨q,rfl,fun j v hv => ?_,oq⟩
   have hj : j < 2:=by
    obtain ⟨hj,_⟩:=List.getElem?_eq_some_iff.1 hv
    exact hj
   have cj:=hcell j hj
   rw [add_spot,add_spot] at cj
   exact cj.trans hv
  obtain ⟨f,hf⟩:=Go.Deep.choose_lt each
  obtain ⟨b,off,spot⟩:=a
  refine ⟨(some ⟨b,off,spot⟩,cap,(List.range len).map f),by dsimp only; rw [List.length_map,List.length_range]; exact e,?_,?_,?_⟩
  ·intro j hj
   dsimp only at hj ⊢
   rw [List.length_map,List.length_range] at hj
   obtain ⟨hs,hc,_⟩:=hf j hj
   dsimp only at hs hc
   subst hs
   refine ⟨b,off,rfl,World.block_lt_of_cell? W _ (hc 0 _ rfl),?_⟩
   intro i v hv
   rw [List.getElem_map,List.getElem_range] at hv
   exact hc i v hv
  ·show _ ≤ _
   dsimp only
   rw [List.length_map,List.length_range]
   omega
  ·intro x hx
   obtain ⟨j,hj,rfl⟩:=List.mem_map.1 hx
   exact (hf j (List.mem_range.1 hj)).2.2
theorem open_cW {n : Nat} {c : Value} {y : DataW H × List MemPlace} (h : DataW.trod enc Tryz.prog W base spare held n 29 [c] = some y) : ∃ r : Rw TW,c = .slice r.1 r.2.2.length r.2.1 ∧ RpW W r ∧ RlW r ∧ RkW r:=by
 rcases Go.Deep.open_slice Tryz.underlying29 h with ⟨e,_⟩ | ⟨a,len,cap,m,n',D,Pl,e,hb,hl,hm,hmm,_,hx⟩
 ·simp only [List.cons.injEq,and_true] at e
  exact ⟨(none,0,[]),e,fun j hj => by simp at hj,by simp [RlW],fun x hx => by simp at hx⟩
 ·simp only [List.cons.injEq,and_true] at e
  have hle : len ≤ m:=by rw [hmm]; split <;> omega
  have hspot : 0 < len → a.spot = none:=by
   intro h0
   obtain ⟨cs',h1,_⟩:=hx 0 (by omega)
   rw [cz136] at h1
   obtain ⟨_,hlen,hcell⟩:=World.cells?_some h1
   have c0:=hcell 0 (by omega)
   rw [List.getElem?_eq_getElem (by omega)] at c0
   have:=World.cell?_spot c0
   simpa [Addr.add] using this
  have each : ∀ i,i < len → ∃ q : TW,a.spot = none ∧ (∀ j v,(cW q)[j]? = some v → W.cell? ⟨a.block,a.off + i * 4 + j,none⟩ = some v) ∧ OkW q:=by
   intro i hi
   obtain ⟨cs',h1,h2⟩:=hx i (by omega)
   rw [cz136] at h1
   obtain ⟨_,hlen,hcell⟩:=World.cells?_some h1
   obtain ⟨b,off,spot⟩:=a
   obtain ⟨q,eq,oq⟩:=open_sW hlen h2
   subst eq
   have hsp : spot = none:=hspot (by omega)
   subst hsp
   refine ⟨q,rfl,fun j v hv => ?_,oq⟩
   have hj : j < 4:=by
    obtain ⟨hj,_⟩:=List.getElem?_eq_some_iff.1 hv
    exact hj
   have cj:=hcell j hj
   rw [add_spot,add_spot] at cj
   exact cj.trans hv
  obtain ⟨f,hf⟩:=Go.Deep.choose_lt each
  obtain ⟨b,off,spot⟩:=a
  refine ⟨(some ⟨b,off,spot⟩,cap,(List.range len).map f),by dsimp only; rw [List.length_map,List.length_range]; exact e,?_,?_,?_⟩
  ·intro j hj
   dsimp only at hj ⊢
   rw [List.length_map,List.length_range] at hj
   obtain ⟨hs,hc,_⟩:=hf j hj
   dsimp only at hs hc
   subst hs
   refine ⟨b,off,rfl,World.block_lt_of_cell? W _ (hc 0 _ rfl),?_⟩
   intro i v hv
   rw [List.getElem_map,List.getElem_range] at hv
   exact hc i v hv
  ·show _ ≤ _
   dsimp only
   rw [List.length_map,List.length_range]
   omega
  ·intro x hx
   obtain ⟨j,hj,rfl⟩:=List.mem_map.1 hx
   exact (hf j (List.mem_range.1 hj)).2.2
theorem open_cE {n : Nat} {c : Value} {y : DataW H × List MemPlace} (h : DataW.trod enc Tryz.prog W base spare held n 32 [c] = some y) : ∃ r : Rw TE,c = .slice r.1 r.2.2.length r.2.1 ∧ RpE W r ∧ RlE r ∧ RkE r:=by
 rcases Go.Deep.open_slice Tryz.underlying32 h with ⟨e,_⟩ | ⟨a,len,cap,m,n',D,Pl,e,hb,hl,hm,hmm,_,hx⟩
 ·simp only [List.cons.injEq,and_true] at e
  exact ⟨(none,0,[]),e,fun j hj => by simp at hj,by simp [RlE],fun x hx => by simp at hx⟩
 ·simp only [List.cons.injEq,and_true] at e
  have hle : len ≤ m:=by rw [hmm]; split <;> omega
  have hspot : 0 < len → a.spot = none:=by
   intro h0
   obtain ⟨cs',h1,_⟩:=hx 0 (by omega)
   rw [cz141] at h1
   obtain ⟨_,hlen,hcell⟩:=World.cells?_some h1
   have c0:=hcell 0 (by omega)
   rw [List.getElem?_eq_getElem (by omega)] at c0
   have:=World.cell?_spot c0
   simpa [Addr.add] using this
  have each : ∀ i,i < len → ∃ q : TE,a.spot = none ∧ (∀ j v,(cE q)[j]? = some v → W.cell? ⟨a.block,a.off + i * 11 + j,none⟩ = some v) ∧ OkE q:=by
   intro i hi
   obtain ⟨cs',h1,h2⟩:=hx i (by omega)
   rw [cz141] at h1
   obtain ⟨_,hlen,hcell⟩:=World.cells?_some h1
   obtain ⟨b,off,spot⟩:=a
   obtain ⟨q,eq,oq⟩:=open_sE hlen h2
   subst eq
   have hsp : spot = none:=hspot (by omega)
   subst hsp
   refine ⟨q,rfl,fun j v hv => ?_,oq⟩
   have hj : j < 11:=by
    obtain ⟨hj,_⟩:=List.getElem?_eq_some_iff.1 hv
    exact hj
   have cj:=hcell j hj
   rw [add_spot,add_spot] at cj
   exact cj.trans hv
  obtain ⟨f,hf⟩:=Go.Deep.choose_lt each
  obtain ⟨b,off,spot⟩:=a
  refine ⟨(some ⟨b,off,spot⟩,cap,(List.range len).map f),by dsimp only; rw [List.length_map,List.length_range]; exact e,?_,?_,?_⟩
  ·intro j hj
   dsimp only at hj ⊢
   rw [List.length_map,List.length_range] at hj
   obtain ⟨hs,hc,_⟩:=hf j hj
   dsimp only at hs hc
   subst hs
   refine ⟨b,off,rfl,World.block_lt_of_cell? W _ (hc 0 _ rfl),?_⟩
   intro i v hv
   rw [List.getElem_map,List.getElem_range] at hv
   exact hc i v hv
  ·show _ ≤ _
   dsimp only
   rw [List.length_map,List.length_range]
   omega
  ·intro x hx
   obtain ⟨j,hj,rfl⟩:=List.mem_map.1 hx
   exact (hf j (List.mem_range.1 hj)).2.2
theorem open_cC {n : Nat} {c : Value} {y : DataW H × List MemPlace} (h : DataW.trod enc Tryz.prog W base spare held n 30 [c] = some y) : ∃ r : Rw TC,c = .slice r.1 r.2.2.length r.2.1 ∧ RpC W r ∧ RlC r ∧ RkC r:=by
 rcases Go.Deep.open_slice Tryz.underlying30 h with ⟨e,_⟩ | ⟨a,len,cap,m,n',D,Pl,e,hb,hl,hm,hmm,_,hx⟩
 ·simp only [List.cons.injEq,and_true] at e
  exact ⟨(none,0,[]),e,fun j hj => by simp at hj,by simp [RlC],fun x hx => by simp at hx⟩
 ·simp only [List.cons.injEq,and_true] at e
  have hle : len ≤ m:=by rw [hmm]; split <;> omega
  have hspot : 0 < len → a.spot = none:=by
   intro h0
   obtain ⟨cs',h1,_⟩:=hx 0 (by omega)
   rw [cz118] at h1
   obtain ⟨_,hlen,hcell⟩:=World.cells?_some h1
   have c0:=hcell 0 (by omega)
   rw [List.getElem?_eq_getElem (by omega)] at c0
   have:=World.cell?_spot c0
   simpa [Addr.add] using this
  have each : ∀ i,i < len → ∃ q : TC,a.spot = none ∧ (∀ j v,(cC q)[j]? = some v → W.cell? ⟨a.block,a.off + i * 8 + j,none⟩ = some v) ∧ LmC q ∧ OkC q:=by
   intro i hi
   obtain ⟨cs',h1,h2⟩:=hx i (by omega)
   rw [cz118] at h1
   obtain ⟨_,hlen,hcell⟩:=World.cells?_some h1
   obtain ⟨b,off,spot⟩:=a
   obtain ⟨q,eq,lq,oq⟩:=open_sC hlen h2
   subst eq
   have hsp : spot = none:=hspot (by omega)
   subst hsp
   refine ⟨q,rfl,fun j v hv => ?_,lq,oq⟩
   have hj : j < 8:=by
    obtain ⟨hj,_⟩:=List.getElem?_eq_some_iff.1 hv
    exact hj
   have cj:=hcell j hj
   rw [add_spot,add_spot] at cj
   exact cj.trans hv
  obtain ⟨f,hf⟩:=Go.Deep.choose_lt each
  obtain ⟨b,off,spot⟩:=a
  refine ⟨(some ⟨b,off,spot⟩,cap,(List.range len).map f),by dsimp only; rw [List.length_map,List.length_range]; exact e,?_,?_,?_⟩
  ·intro j hj
   dsimp only at hj ⊢
   rw [List.length_map,List.length_range] at hj
   obtain ⟨hs,hc,_⟩:=hf j hj
   dsimp only at hs hc
   subst hs
   refine ⟨b,off,rfl,World.block_lt_of_cell? W _ (hc 0 _ rfl),?_⟩
   intro i v hv
   rw [List.getElem_map,List.getElem_range] at hv
   exact hc i v hv
  ·exact ⟨by dsimp only; rw [List.length_map,List.length_range]; omega,fun x hx => by
    obtain ⟨j,hj,rfl⟩:=List.mem_map.1 hx
    exact (hf j (List.mem_range.1 hj)).2.2.1⟩
  ·intro x hx
   obtain ⟨j,hj,rfl⟩:=List.mem_map.1 hx
   exact (hf j (List.mem_range.1 hj)).2.2.2
theorem open_sK {n : Nat} {cs : List Value} {y : DataW H × List MemPlace} (hlen : cs.length = 2) (h : DataW.trod enc Tryz.prog W base spare held n 119 cs = some y) : ∃ p : TK,cs = cK p ∧ DpK W p ∧ LmK p ∧ OkK p:=by
 obtain ⟨zs,k,hk,_,_,hxl,hf⟩:=DataW.trod_struct Tryz.underlying119 h
 match zs,hxl,cs,hlen with
 | [y0,y1],_,[v0,v1],_ =>
  have g0:=hf 0 _ rfl
  have g1:=hf 1 _ rfl
  simp [cz3,cz120] at g0 g1
  obtain ⟨x0,e0,_,wf0⟩:=DataW.trod_int Tryz.underlying3 g0
  simp only [List.cons.injEq,and_true] at e0
  subst e0
  obtain ⟨x1,e1,rp1,rl1,rk1⟩:=open_cA g1
  subst e1
  exact ⟨(x0,x1),rfl,rp1,rl1,⟨i64_of wf0,rk1⟩⟩
theorem open_cK {n : Nat} {c : Value} {y : DataW H × List MemPlace} (h : DataW.trod enc Tryz.prog W base spare held n 31 [c] = some y) : ∃ r : Rw TK,c = .slice r.1 r.2.2.length r.2.1 ∧ RpK W r ∧ RlK r ∧ RkK r:=by
 rcases Go.Deep.open_slice Tryz.underlying31 h with ⟨e,_⟩ | ⟨a,len,cap,m,n',D,Pl,e,hb,hl,hm,hmm,_,hx⟩
 ·simp only [List.cons.injEq,and_true] at e
  exact ⟨(none,0,[]),e,⟨fun j hj => by simp at hj,fun x hx => by simp at hx⟩,by simp [RlK],fun x hx => by simp at hx⟩
 ·simp only [List.cons.injEq,and_true] at e
  have hle : len ≤ m:=by rw [hmm]; split <;> omega
  have hspot : 0 < len → a.spot = none:=by
   intro h0
   obtain ⟨cs',h1,_⟩:=hx 0 (by omega)
   rw [cz122] at h1
   obtain ⟨_,hlen,hcell⟩:=World.cells?_some h1
   have c0:=hcell 0 (by omega)
   rw [List.getElem?_eq_getElem (by omega)] at c0
   have:=World.cell?_spot c0
   simpa [Addr.add] using this
  have each : ∀ i,i < len → ∃ q : TK,a.spot = none ∧ (∀ j v,(cK q)[j]? = some v → W.cell? ⟨a.block,a.off + i * 2 + j,none⟩ = some v) ∧ DpK W q ∧ LmK q ∧ OkK q:=by
   intro i hi
   obtain ⟨cs',h1,h2⟩:=hx i (by omega)
   rw [cz122] at h1
   obtain ⟨_,hlen,hcell⟩:=World.cells?_some h1
   obtain ⟨b,off,spot⟩:=a
   obtain ⟨q,eq,dq,lq,oq⟩:=open_sK hlen h2
   subst eq
   have hsp : spot = none:=hspot (by omega)
   subst hsp
   refine ⟨q,rfl,fun j v hv => ?_,dq,lq,oq⟩
   have hj : j < 2:=by
    obtain ⟨hj,_⟩:=List.getElem?_eq_some_iff.1 hv
    exact hj
   have cj:=hcell j hj
   rw [add_spot,add_spot] at cj
   exact cj.trans hv
  obtain ⟨f,hf⟩:=Go.Deep.choose_lt each
  obtain ⟨b,off,spot⟩:=a
  refine ⟨(some ⟨b,off,spot⟩,cap,(List.range len).map f),by dsimp only; rw [List.length_map,List.length_range]; exact e,⟨?_,?_⟩,?_,?_⟩
  ·intro j hj
   dsimp only at hj ⊢
   rw [List.length_map,List.length_range] at hj
   obtain ⟨hs,hc,_⟩:=hf j hj
   dsimp only at hs hc
   subst hs
   refine ⟨b,off,rfl,World.block_lt_of_cell? W _ (hc 0 _ rfl),?_⟩
   intro i v hv
   rw [List.getElem_map,List.getElem_range] at hv
   exact hc i v hv
  ·intro x hx
   obtain ⟨j,hj,rfl⟩:=List.mem_map.1 hx
   exact (hf j (List.mem_range.1 hj)).2.2.1
  ·exact ⟨by dsimp only; rw [List.length_map,List.length_range]; omega,fun x hx => by
    obtain ⟨j,hj,rfl⟩:=List.mem_map.1 hx
    exact (hf j (List.mem_range.1 hj)).2.2.2.1⟩
  ·intro x hx
   obtain ⟨j,hj,rfl⟩:=List.mem_map.1 hx
   exact (hf j (List.mem_range.1 hj)).2.2.2.2
theorem open_sQ {n : Nat} {cs : List Value} {y : DataW H × List MemPlace} (hlen : cs.length = 15) (h : DataW.trod enc Tryz.prog W base spare held n 123 cs = some y) : ∃ p : TQ,cs = cQ p ∧ DpQ W p ∧ LmQ p ∧ OkQ p:=by
 obtain ⟨zs,k,hk,_,_,hxl,hf⟩:=DataW.trod_struct Tryz.underlying123 h
 match zs,hxl,cs,hlen with
 | [y0,y1,y2,y3,y4,y5,y6,y7,y8,y9,y10],_,[v0,v1,v2,v3,v4,v5,v6,v7,v8,v9,v10,v11,v12,v13,v14],_ =>
  have g0:=hf 0 _ rfl
  have g1:=hf 1 _ rfl
  have g2:=hf 2 _ rfl
  have g3:=hf 3 _ rfl
  have g4:=hf 4 _ rfl
  have g5:=hf 5 _ rfl
  have g6:=hf 6 _ rfl
  have g7:=hf 7 _ rfl
  have g8:=hf 8 _ rfl
  have g9:=hf 9 _ rfl
  have g10:=hf 10 _ rfl
  simp [cz3,cz9,cz22,cz116,cz124] at g0 g1 g2 g3 g4 g5 g6 g7 g8 g9 g10
  obtain ⟨x0,e0,_,wf0⟩:=DataW.trod_int Tryz.underlying3 g0
  simp only [List.cons.injEq,and_true] at e0
  subst e0
  obtain ⟨x1,e1,_,wf1⟩:=DataW.trod_int Tryz.underlying3 g1
  simp only [List.cons.injEq,and_true] at e1
  subst e1
  obtain ⟨x2,e2,_,wf2⟩:=DataW.trod_int Tryz.underlying3 g2
  simp only [List.cons.injEq,and_true] at e2
  subst e2
  obtain ⟨x3,e3,_,wf3⟩:=DataW.trod_int Tryz.underlying3 g3
  simp only [List.cons.injEq,and_true] at e3
  subst e3
  obtain ⟨x4,e4,_,wf4⟩:=DataW.trod_int Tryz.underlying3 g4
  simp only [List.cons.injEq,and_true] at e4
  subst e4
  obtain ⟨x5,e5,ok5⟩:=open_sA (by rfl) g5
  simp only [cA,List.cons.injEq,and_true] at e5
  obtain ⟨e5_0,e5_1,e5_2⟩:=e5
  subst e5_0 e5_1 e5_2
  obtain ⟨x6,e6,ok6⟩:=open_sR (by rfl) g6
  simp only [cR,List.cons.injEq,and_true] at e6
  obtain ⟨e6_0,e6_1,e6_2⟩:=e6
  subst e6_0 e6_1 e6_2
  obtain ⟨x7,e7,rp7,rl7,rk7⟩:=open_cI g7
  subst e7
  obtain ⟨x8,e8,rp8,rl8,rk8⟩:=open_cI g8
  subst e8
  obtain ⟨x9,e9,_,wf9⟩:=DataW.trod_int Tryz.underlying3 g9
  simp only [List.cons.injEq,and_true] at e9
  subst e9
  obtain ⟨x10,e10,_,wf10⟩:=DataW.trod_string Tryz.underlying9 g10
  simp only [List.cons.injEq,and_true] at e10
  subst e10
  exact ⟨(x0,x1,x2,x3,x4,x5,x6,x7,x8,x9,x10),rfl,⟨rp7,rp8⟩,⟨rl7,rl8,wf10⟩,⟨i64_of wf0,i64_of wf1,i64_of wf2,i64_of wf3,i64_of wf4,ok5,ok6,rk7,rk8,i64_of wf9⟩⟩
theorem open_cQ {n : Nat} {c : Value} {y : DataW H × List MemPlace} (h : DataW.trod enc Tryz.prog W base spare held n 33 [c] = some y) : ∃ r : Rw TQ,c = .slice r.1 r.2.2.length r.2.1 ∧ RpQ W r ∧ RlQ r ∧ RkQ r:=by
 rcases Go.Deep.open_slice Tryz.underlying33 h with ⟨e,_⟩ | ⟨a,len,cap,m,n',D,Pl,e,hb,hl,hm,hmm,_,hx⟩
 ·simp only [List.cons.injEq,and_true] at e
  exact ⟨(none,0,[]),e,⟨fun j hj => by simp at hj,fun x hx => by simp at hx⟩,by simp [RlQ],fun x hx => by simp at hx⟩
 ·simp only [List.cons.injEq,and_true] at e
  have hle : len ≤ m:=by rw [hmm]; split <;> omega
  have hspot : 0 < len → a.spot = none:=by
   intro h0
   obtain ⟨cs',h1,_⟩:=hx 0 (by omega)
   rw [cz126] at h1
   obtain ⟨_,hlen,hcell⟩:=World.cells?_some h1
   have c0:=hcell 0 (by omega)
   rw [List.getElem?_eq_getElem (by omega)] at c0
   have:=World.cell?_spot c0
   simpa [Addr.add] using this
  have each : ∀ i,i < len → ∃ q : TQ,a.spot = none ∧ (∀ j v,(cQ q)[j]? = some v → W.cell? ⟨a.block,a.off + i * 15 + j,none⟩ = some v) ∧ DpQ W q ∧ LmQ q ∧ OkQ q:=by
   intro i hi
   obtain ⟨cs',h1,h2⟩:=hx i (by omega)
   rw [cz126] at h1
   obtain ⟨_,hlen,hcell⟩:=World.cells?_some h1
   obtain ⟨b,off,spot⟩:=a
   obtain ⟨q,eq,dq,lq,oq⟩:=open_sQ hlen h2
   subst eq
   have hsp : spot = none:=hspot (by omega)
   subst hsp
   refine ⟨q,rfl,fun j v hv => ?_,dq,lq,oq⟩
   have hj : j < 15:=by
    obtain ⟨hj,_⟩:=List.getElem?_eq_some_iff.1 hv
    exact hj
   have cj:=hcell j hj
   rw [add_spot,add_spot] at cj
   exact cj.trans hv
  obtain ⟨f,hf⟩:=Go.Deep.choose_lt each
  obtain ⟨b,off,spot⟩:=a
  refine ⟨(some ⟨b,off,spot⟩,cap,(List.range len).map f),by dsimp only; rw [List.length_map,List.length_range]; exact e,⟨?_,?_⟩,?_,?_⟩
  ·intro j hj
   dsimp only at hj ⊢
   rw [List.length_map,List.length_range] at hj
   obtain ⟨hs,hc,_⟩:=hf j hj
   dsimp only at hs hc
   subst hs
   refine ⟨b,off,rfl,World.block_lt_of_cell? W _ (hc 0 _ rfl),?_⟩
   intro i v hv
   rw [List.getElem_map,List.getElem_range] at hv
   exact hc i v hv
  ·intro x hx
   obtain ⟨j,hj,rfl⟩:=List.mem_map.1 hx
   exact (hf j (List.mem_range.1 hj)).2.2.1
  ·exact ⟨by dsimp only; rw [List.length_map,List.length_range]; omega,fun x hx => by
    obtain ⟨j,hj,rfl⟩:=List.mem_map.1 hx
    exact (hf j (List.mem_range.1 hj)).2.2.2.1⟩
  ·intro x hx
   obtain ⟨j,hj,rfl⟩:=List.mem_map.1 hx
   exact (hf j (List.mem_range.1 hj)).2.2.2.2
theorem open_sF {n : Nat} {cs : List Value} {y : DataW H × List MemPlace} (hlen : cs.length = 5) (h : DataW.trod enc Tryz.prog W base spare held n 25 cs = some y) : ∃ p : TF,cs = cF p ∧ DpF W p ∧ LmF p ∧ OkF p:=by
 obtain ⟨zs,k,hk,_,_,hxl,hf⟩:=DataW.trod_struct Tryz.underlying25 h
 match zs,hxl,cs,hlen with
 | [y0,y1,y2,y3,y4],_,[v0,v1,v2,v3,v4],_ =>
  have g0:=hf 0 _ rfl
  have g1:=hf 1 _ rfl
  have g2:=hf 2 _ rfl
  have g3:=hf 3 _ rfl
  have g4:=hf 4 _ rfl
  simp [cz3,cz22,cz23] at g0 g1 g2 g3 g4
  obtain ⟨x0,e0,rp0,rl0,rk0⟩:=open_cI g0
  subst e0
  obtain ⟨x1,e1,rp1,rl1,rk1⟩:=open_cI g1
  subst e1
  obtain ⟨x2,e2,rp2,rl2,rk2⟩:=open_cP g2
  subst e2
  obtain ⟨x3,e3,rp3,rl3,rk3⟩:=open_cP g3
  subst e3
  obtain ⟨x4,e4,_,wf4⟩:=DataW.trod_int Tryz.underlying3 g4
  simp only [List.cons.injEq,and_true] at e4
  subst e4
  exact ⟨(x0,x1,x2,x3,x4),rfl,⟨rp0,rp1,rp2,rp3⟩,⟨rl0,rl1,rl2,rl3⟩,⟨rk0,rk1,rk2,rk3,i64_of wf4⟩⟩
theorem open_sN {n : Nat} {cs : List Value} {y : DataW H × List MemPlace} (hlen : cs.length = 2) (h : DataW.trod enc Tryz.prog W base spare held n 28 cs = some y) : ∃ p : TN,cs = cN p ∧ DpN W p ∧ LmN p ∧ OkN p:=by
 obtain ⟨zs,k,hk,_,_,hxl,hf⟩:=DataW.trod_struct Tryz.underlying28 h
 match zs,hxl,cs,hlen with
 | [y0,y1],_,[v0,v1],_ =>
  have g0:=hf 0 _ rfl
  have g1:=hf 1 _ rfl
  simp [cz22,cz26] at g0 g1
  obtain ⟨x0,e0,rp0,rl0⟩:=open_cS g0
  subst e0
  obtain ⟨x1,e1,rp1,rl1,rk1⟩:=open_cI g1
  subst e1
  exact ⟨(x0,x1),rfl,⟨rp0,rp1⟩,⟨rl0,rl1⟩,rk1⟩
theorem open_sD {n : Nat} {cs : List Value} {y : DataW H × List MemPlace} (hlen : cs.length = 16) (h : DataW.trod enc Tryz.prog W base spare held n 35 cs = some y) : ∃ p : TD,cs = cD p ∧ DpD W p ∧ LmD p ∧ OkD p:=by
 obtain ⟨zs,k,hk,_,_,hxl,hf⟩:=DataW.trod_struct Tryz.underlying35 h
 match zs,hxl,cs,hlen with
 | [y0,y1,y2,y3,y4,y5,y6,y7,y8,y9,y10],_,[v0,v1,v2,v3,v4,v5,v6,v7,v8,v9,v10,v11,v12,v13,v14,v15],_ =>
  have g0:=hf 0 _ rfl
  have g1:=hf 1 _ rfl
  have g2:=hf 2 _ rfl
  have g3:=hf 3 _ rfl
  have g4:=hf 4 _ rfl
  have g5:=hf 5 _ rfl
  have g6:=hf 6 _ rfl
  have g7:=hf 7 _ rfl
  have g8:=hf 8 _ rfl
  have g9:=hf 9 _ rfl
  have g10:=hf 10 _ rfl
  simp [cz3,cz22,cz25,cz26,cz28,cz29,cz30,cz31,cz32,cz33] at g0 g1 g2 g3 g4 g5 g6 g7 g8 g9 g10
  obtain ⟨x0,e0,dp0,lm0,ok0⟩:=open_sF (by rfl) g0
  simp only [cF,List.cons.injEq,and_true] at e0
  obtain ⟨e0_0,e0_1,e0_2,e0_3,e0_4⟩:=e0
  subst e0_0 e0_1 e0_2 e0_3 e0_4
  obtain ⟨x1,e1,_,wf1⟩:=DataW.trod_int Tryz.underlying3 g1
  simp only [List.cons.injEq,and_true] at e1
  subst e1
  obtain ⟨x2,e2,_,wf2⟩:=DataW.trod_int Tryz.underlying3 g2
  simp only [List.cons.injEq,and_true] at e2
  subst e2
  obtain ⟨x3,e3,rp3,rl3⟩:=open_cS g3
  subst e3
  obtain ⟨x4,e4,dp4,lm4,ok4⟩:=open_sN (by rfl) g4
  simp only [cN,List.cons.injEq,and_true] at e4
  obtain ⟨e4_0,e4_1⟩:=e4
  subst e4_0 e4_1
  obtain ⟨x5,e5,rp5,rl5,rk5⟩:=open_cW g5
  subst e5
  obtain ⟨x6,e6,rp6,rl6,rk6⟩:=open_cC g6
  subst e6
  obtain ⟨x7,e7,rp7,rl7,rk7⟩:=open_cK g7
  subst e7
  obtain ⟨x8,e8,rp8,rl8,rk8⟩:=open_cE g8
  subst e8
  obtain ⟨x9,e9,rp9,rl9,rk9⟩:=open_cQ g9
  subst e9
  obtain ⟨x10,e10,rp10,rl10,rk10⟩:=open_cI g10
  subst e10
  exact ⟨(x0,x1,x2,x3,x4,x5,x6,x7,x8,x9,x10),rfl,⟨dp0,rp3,dp4,rp5,rp6,rp7,rp8,rp9,rp10⟩,⟨lm0,rl3,lm4,rl5,rl6,rl7,rl8,rl9,rl10⟩,⟨ok0,i64_of wf1,i64_of wf2,ok4,rk5,rk6,rk7,rk8,rk9,rk10⟩⟩
theorem open_D {r : Reach} {b0 : Nat} {v : Value} {d : DataW H} {p : List MemPlace} (hv : Value.okWide Tryz.prog W r b0 35 v) (h : DataW.Trod enc Tryz.prog W base spare held 35 v d p) :
  ∃ x : TD,v = vD x ∧ DpD W x ∧ LmD x ∧ OkD x:=by
 obtain ⟨cs,rfl,hsz⟩:=okWide_struct Tryz.underlying35 hv
 obtain ⟨fuel,hf⟩:=h
 have hl : cs.toList.length = 16:=by rw [Array.length_toList]; exact hsz.trans cz35
 obtain ⟨x,e,dp,lm,ok⟩:=open_sD (cs:=cs.toList) hl (by simpa [Value.cells] using hf)
 refine ⟨x,?_,dp,lm,ok⟩
 rw [show cs = (cD x).toArray by rw [← e]]
end
end Go.Proofs.YtlmpfkbgknbcnaaGreat.Nd
