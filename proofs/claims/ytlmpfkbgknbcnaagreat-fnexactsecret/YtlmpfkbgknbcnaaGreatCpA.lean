/- The chain of a key: the program. -/
import Derived.Test.YtlmpfkbgknbcnaaGreatAb
import Derived.Test.YtlmpfkbgknbcnaaGreatBkA
import Derived.Test.YtlmpfkbgknbcnaaGreatRi
import Derived.Test.YtlmpfkbgknbcnaaGreatRest3
import Derived.OwnWalk
import Derived.Laws.OwnMore
set_option linter.unusedVariables false
set_option maxRecDepth 100000
namespace Go.Proofs.YtlmpfkbgknbcnaaGreat.Nd
open Go Go.RowKit Go.Joins Own Draw
/-- The iterator made: three boxes and a function value. -/
def Bx3 (w : World) (a : Option Addr) (n cap : Nat) (key : Int) (G : Nat) : World:=((w.alloc (.cells #[.slice a n cap] 45)).alloc (.cells #[I key] 3)).alloc (.cells #[.func (.func G) #[] #[]] 172)
theorem bx3_below (w : World) (a : Option Addr) (n cap : Nat) (key : Int) (G : Nat) : Below w.heap.size w (Bx3 w a n cap key G):=(((Below.refl _ w).alloc (Nat.le_refl _) _).alloc (by simp) _).alloc (by simp; omega) _
theorem bx3_size (w : World) (a : Option Addr) (n cap : Nat) (key : Int) (G : Nat) : (Bx3 w a n cap key G).heap.size = w.heap.size + 3:=by unfold Bx3; simp
theorem bx3_cells (w : World) (a : Option Addr) (n cap : Nat) (key : Int) (G : Nat) : (Bx3 w a n cap key G).cell? ⟨w.heap.size,0,none⟩ = some (.slice a n cap) ∧ (Bx3 w a n cap key G).cell? ⟨w.heap.size + 1,0,none⟩ = some (I key) ∧ (Bx3 w a n cap key G).cell? ⟨w.heap.size + 2,0,none⟩ = some (.func (.func G) #[] #[]):=by
 have B1:=Blk.new w #[.slice a n cap] 45
 have B2:=Blk.new (w.alloc (.cells #[.slice a n cap] 45)) #[I key] 3
 have B3:=Blk.new ((w.alloc (.cells #[.slice a n cap] 45)).alloc (.cells #[I key] 3)) #[.func (.func G) #[] #[]] 172
 simp only [World.size_alloc] at B2 B3
 refine ⟨((B1.alloc (by simp) _).alloc (by simp; omega) _).at 0 rfl,(B2.alloc (by simp) _).at 0 rfl,?_⟩
 exact B3.at 0 rfl
set_option maxRecDepth 100000 in
set_option maxHeartbeats 1600000 in
theorem backwards_is (a : Option Addr) (n cap : Nat) (key : Int) (G : Nat) (w : World) :
  Calls Tryz.prog 105 #[.slice a n cap,I key,.func (.func G) #[] #[]] w fun e w' => e = .returned (.func (.func 151) #[] #[.pointer (some ⟨w.heap.size,0,none⟩),.pointer (some ⟨w.heap.size + 1,0,none⟩),.pointer (some ⟨w.heap.size + 2,0,none⟩)]) ∧ Bx3 w a n cap key G = w':=by
 go_enter Tryz.func105,Tryz.ntmps105
 go_wp2
 go_ret
 exact ⟨rfl,rfl⟩
set_option maxRecDepth 100000 in
set_option maxHeartbeats 3200000 in
theorem backFrom_is (Bl Bk Bf : Nat) (key : Int) (hkey : i64 key) (a : Option Addr) (cap : Nat) (xs : List TE) (hl : xs.length ≤ 1048576) (hx : ∀ p ∈ xs,i64 (kyE p)) (hxa : ∀ p ∈ xs,i64 (awV p).1) (w : World) (hr : FRow 11 cE w a xs) (hBl : Bl < w.heap.size) (hBk : Bk < w.heap.size) (hBf : Bf < w.heap.size) (hcl : w.cell? ⟨Bl,0,none⟩ = some (.slice a xs.length cap)) (hck : w.cell? ⟨Bk,0,none⟩ = some (I key)) (hcf : w.cell? ⟨Bf,0,none⟩ = some (.func (.func 106) #[] #[])) :
  Calls Tryz.prog 104 #[.slice a xs.length cap,.func (.func 151) #[] #[.pointer (some ⟨Bl,0,none⟩),.pointer (some ⟨Bk,0,none⟩),.pointer (some ⟨Bf,0,none⟩)]] w fun e w' => ∃ ra rc,e = .returned (.slice ra (frL xs (bwL xs awV xs.length key true)).length rc) ∧ w'.ownsRow w.heap.size 3 1 (.slice ra (frL xs (bwL xs awV xs.length key true)).length rc) (frL xs (bwL xs awV xs.length key true)).length ((frL xs (bwL xs awV xs.length key true)).map (Value.int .i64)) ∧ Below w.heap.size w w':=by
 have K1:=backCol_is Bl Bk Bf key hkey a cap xs hl hx hxa w hr hBl hBk hBf hcl hck hcf
 have hlen:=bwL_len xs awV xs.length key true
 have hin:=bwL_in xs awV xs.length key true
 generalize bwL xs awV xs.length key true = L at K1 hlen hin ⊢
 go_enter Tryz.func104,Tryz.ntmps104
 go_wp2_with fail
 refine K1.mono ?_
 clear K1
 rintro en w2 ⟨g,c,rfl,ho,hb2⟩
 go_wp2_with fail
 refine (rev_is _ g c L w2 ho (by omega)).mono ?_
 rintro en w3 ⟨rfl,ho3,hb3⟩
 replace hb2:=hb2.trans hb3
 clear ho hb3
 by_cases hnil : L = []
 ·subst hnil
  have HV : Hid (frL xs [] = []):=rfl
  go_wp2
  go_ret
  exact ⟨none,0,by rw [HV.out]; rfl,by rw [HV.out]; exact ⟨rfl,Or.inl ⟨rfl,rfl⟩⟩,hb2⟩
 ·obtain ⟨z,hz⟩ : ∃ z,L.getLast? = some z:=by
   cases e : L.getLast? with
   | none => exact absurd (List.getLast?_eq_none_iff.1 e) hnil
   | some z => exact ⟨z,rfl⟩
  obtain ⟨i,rfl,hi⟩:=hin z (List.mem_of_getLast? hz)
  have hpos : 0 < L.length:=List.length_pos_iff.2 hnil
  have hr0 : L.reverse[0]? = some (i : Int):=by rw [← hz,← List.head?_reverse,List.head?_eq_getElem?]
  obtain ⟨g0,c0,hsl,hgc⟩ : ∃ g0 c0,Value.slice g L.length c = .slice (some ⟨g0,0,none⟩) L.length c0 ∧ w3.cell? ⟨g0,0,none⟩ = some (I (i : Int)):=by
   rcases ho3.2 with ⟨e,h0⟩ | ⟨g0,c0,cur,e,_⟩
   ·omega
   ·refine ⟨g0,c0,e,?_⟩
    have h1:=ho3
    rw [e] at h1
    rw [h1.cellAt 0 (by omega),List.getElem?_map,hr0]
    rfl
  obtain ⟨b1,o1,rfl,l1,hcc⟩:=(hr.later hb2) i hi
  have d0 : w3.cell? ⟨b1,o1 + i * 11,none⟩ = some (I (kdE xs[i])):=hcc 0 _ rfl
  have hlt : (i : Int) < (xs.length : Int):=by omega
  have hne : ¬ ((L.length : Int) = 0):=by omega
  have hpos2 : (0 : Int) < (L.length : Int):=by omega
  have hi0 : ¬ ((i : Int) < 0):=by omega
  have hfr : frL xs L = if kdE xs[i] = 1 then L.reverse else []:=by
   unfold frL
   rw [hz]
   simp only [isLog_at hi]
   by_cases hk : kdE xs[i] = 1 <;> simp [hk]
  injection hsl with q1 _ q3
  subst q1 q3
  by_cases hk : kdE xs[i] = 1
  ·have HV : Hid (frL xs L = L.reverse):=hfr.trans (if_pos hk)
   have hL : L.reverse.length = L.length:=List.length_reverse
   replace ho3 : Hid (w3.ownsRow w.heap.size 3 1 (.slice (some ⟨g0,0,none⟩) L.length c) L.length (L.reverse.map (Value.int .i64))):=ho3
   replace hL : Hid (L.reverse.length = L.length):=hL
   rw [hk] at d0
   clear hfr hcc hr hz hr0 hin hpos
   go_wp2
   go_ret
   exact ⟨some ⟨g0,0,none⟩,c,by rw [HV.out,hL.out]; rfl,by rw [HV.out,hL.out]; exact ho3.out,hb2⟩
  ·have HV : Hid (frL xs L = []):=hfr.trans (if_neg hk)
   have hd : (kdE xs[i] != 1) = true:=by simpa using hk
   have hn2 : ((L.length : Int) == 0) = false:=beq_eq_false_iff_ne.2 hne
   generalize kdE xs[i] = kd at d0 hd hk
   clear hfr hcc hr hz hr0 hin hpos ho3
   go_wp2
   go_ret
   exact ⟨none,0,by rw [HV.out]; rfl,by rw [HV.out]; exact ⟨rfl,Or.inl ⟨rfl,rfl⟩⟩,hb2⟩
end Go.Proofs.YtlmpfkbgknbcnaaGreat.Nd

set_option linter.unusedVariables false
set_option maxRecDepth 100000
namespace Go.Proofs.YtlmpfkbgknbcnaaGreat
open Go Go.RowKit Var Term Draw
def ulB (a b : Int) : Bool:=btw a 0 2 && (btw b 0 2 && !(a == b))
def svB (a b : Int) : Bool:=btw a 0 2 && btw b 0 2
/-- The cells from a on hold the row of pairs. -/
def PRow (w : World) (a : Option Addr) (xs : List (Int × Int)) : Prop :=
 ∀ j (h : j < xs.length),∃ b off,a = some ⟨b,off,none⟩ ∧ b < w.heap.size ∧ w.cell? ⟨b,off + j * 2,none⟩ = some (I xs[j].1) ∧ w.cell? ⟨b,off + j * 2 + 1,none⟩ = some (I xs[j].2)
theorem PRow.later {w w' : World} {a : Option Addr} {xs : List (Int × Int)} (h : PRow w a xs) (hb : Below w.heap.size w w') : PRow w' a xs:=by
 intro j hj
 obtain ⟨b,off,e,hlt,h0,h1⟩:=h j hj
 exact ⟨b,off,e,Nat.lt_of_lt_of_le hlt hb.size,by rw [hb.cell (p:=⟨b,off + j * 2,none⟩) hlt]; exact h0,by rw [hb.cell (p:=⟨b,off + j * 2 + 1,none⟩) hlt]; exact h1⟩
theorem PRow.nil (w : World) (a : Option Addr) : PRow w a []:=by intro j hj; simp at hj
theorem PRow.drew {w : World} {a : Option Addr} {xs : List (Int × Int)} (h : PRow w a xs) : PRow w.drew a xs:=h
theorem PRow.take {w : World} {a : Option Addr} {xs : List (Int × Int)} (h : PRow w a xs) (k : Nat) : PRow w a (xs.take k):=by
 intro j hj
 have hj' : j < xs.length:=by rw [List.length_take] at hj; omega
 rw [List.getElem_take]
 exact h j hj'
set_option maxRecDepth 100000 in
theorem unlike_is (a b : Int) (w : World) : Calls Tryz.prog 121 #[pv a b] w fun e w' => e = .returned (.bool (ulB a b)) ∧ Below w.heap.size w w':=by
 have hb0 : Below w.heap.size w (w.alloc (.cells #[I a,I b] 178)):=(Below.refl _ _).alloc (Nat.le_refl _) _
 go_enter Tryz.func121,Tryz.ntmps121
 go_wp2_with fail
 refine (realm_is a _).mono ?_
 rintro e w1 ⟨rfl,rfl⟩
 by_cases h0 : btw a 0 2 = true
 ·rw [h0]
  go_wp2_with fail
  refine (realm_is b _).mono ?_
  rintro e w1 ⟨rfl,rfl⟩
  by_cases h1 : btw b 0 2 = true
  ·rw [h1]
   go_wp2
   go_ret
   exact ⟨by unfold ulB; rw [h0,h1]; rfl,hb0⟩
  ·rw [Bool.not_eq_true] at h1
   rw [h1]
   go_wp2
   go_ret
   exact ⟨by unfold ulB; rw [h0,h1]; rfl,hb0⟩
 ·rw [Bool.not_eq_true] at h0
  rw [h0]
  go_wp2
  go_ret
  exact ⟨by unfold ulB; rw [h0]; rfl,hb0⟩
set_option maxRecDepth 100000 in
theorem services_is (a b : Int) (w : World) : Calls Tryz.prog 122 #[pv a b] w fun e w' => e = .returned (.bool (svB a b)) ∧ Below w.heap.size w w':=by
 have hb0 : Below w.heap.size w (w.alloc (.cells #[I a,I b] 178)):=(Below.refl _ _).alloc (Nat.le_refl _) _
 go_enter Tryz.func122,Tryz.ntmps122
 go_wp2_with fail
 refine (serv_is a _).mono ?_
 rintro e w1 ⟨rfl,rfl⟩
 by_cases h0 : btw a 0 2 = true
 ·rw [h0]
  go_wp2_with fail
  refine (serv_is b _).mono ?_
  rintro e w1 ⟨rfl,rfl⟩
  go_wp2
  go_ret
  exact ⟨by unfold svB; rw [h0]; rfl,hb0⟩
 ·rw [Bool.not_eq_true] at h0
  rw [h0]
  go_wp2
  go_ret
  exact ⟨by unfold svB; rw [h0]; rfl,hb0⟩
set_option maxRecDepth 100000 in
theorem eqPair_is (a b : Int) (w : World) : Calls Tryz.prog 138 #[pv a b,pv a b] w fun e w' => e = .returned (.bool true) ∧ Below w.heap.size w w':=by
 have hb0 : Below w.heap.size w ((w.alloc (.cells #[I a,I b] 178)).alloc (.cells #[I a,I b] 178)):=((Below.refl _ _).alloc (Nat.le_refl _) _).alloc (by simp) _
 go_enter Tryz.func138,Tryz.ntmps138
 go_wp2
 go_ret
 exact ⟨rfl,hb0⟩
theorem res_p {fn : Func} {p : Tmp} (hres : fn.results = #[.cell p 178]) (tmps : Array Value) (w : World) (g : Nat) (v0 v1 : Value) (hp : tmps.getD p undef = .pointer (some ⟨g,0,none⟩)) (h0 : w.cell? ⟨g,0,none⟩ = some v0) (h1 : w.cell? ⟨g,1,none⟩ = some v1) :
  (results fn tmps).run Tryz.prog w = .ok (.agg #[v0,v1]) w:=by
 have hp' : tmps[p]?.getD undef = .pointer (some ⟨g,0,none⟩):=by simpa using hp
 unfold results
 rw [hres]
 go_simp
set_option maxRecDepth 100000 in
theorem toPair_is (a b : Int) (w : World) : Calls Tryz.prog 115 #[pv a b] w fun e w' => e = .returned (pv a b) ∧ Below w.heap.size w w':=by
 have hb0 : Below w.heap.size w (((w.alloc (.cells #[I a,I b] 182)).alloc (.cells #[I a,I b] 178)).alloc (.cells #[I a,I b] 178)) :=
  (((Below.refl _ _).alloc (Nat.le_refl _) _).alloc (by simp) _).alloc (by simp; omega) _
 go_enter Tryz.func115,Tryz.ntmps115
 go_wp2
 exact bodyPost_ret (res_p rfl _ _ (w.heap.size + 1) _ _ rfl (by simp [go_sem]) (by simp [go_sem])) rfl ⟨rfl,hb0⟩
/-- The first k pairs of xs stand in the new block g. -/
structure Half (g n k : Nat) (xs : List (Int × Int)) (w : World) : Prop where
 lt : g < w.heap.size
 any : ∀ j,j < n * 2 → ∃ v,w.cell? ⟨g,j,none⟩ = some v
 fz : ∀ j,w.frozen? ⟨g,j,none⟩ = false
 yet : ∀ j (h : j < xs.length),j < k → w.cell? ⟨g,j * 2,none⟩ = some (I xs[j].1) ∧ w.cell? ⟨g,j * 2 + 1,none⟩ = some (I xs[j].2)
theorem Half.later {g n k : Nat} {xs : List (Int × Int)} {w w' : World} (h : Half g n k xs w) (hb : Below w.heap.size w w') : Half g n k xs w' :=
 ⟨Nat.lt_of_lt_of_le h.lt hb.size,fun j hj => by rw [hb.cell (p:=⟨g,j,none⟩) h.lt]; exact h.any j hj,fun j => by rw [hb.frozen (p:=⟨g,j,none⟩) h.lt]; exact h.fz j,
  fun j hj hk => by rw [hb.cell (p:=⟨g,j * 2,none⟩) h.lt,hb.cell (p:=⟨g,j * 2 + 1,none⟩) h.lt]; exact h.yet j hj hk⟩
theorem Half.set {g n k : Nat} {xs : List (Int × Int)} {w : World} (h : Half g n k xs w) (hk : k < xs.length) (hn : xs.length ≤ n) :
  Half g n (k + 1) xs ((w.setCell ⟨g,k * 2,none⟩ (I xs[k].1)).setCell ⟨g,k * 2 + 1,none⟩ (I xs[k].2)):=by
 obtain ⟨u0,hu0⟩:=h.any (k * 2) (by omega)
 obtain ⟨u1,hu1⟩:=h.any (k * 2 + 1) (by omega)
 have c1 : (w.setCell ⟨g,k * 2,none⟩ (I xs[k].1)).cell? ⟨g,k * 2 + 1,none⟩ = some u1:=by rw [set_other _ _ _ _ _ (by omega)]; exact hu1
 have far : ∀ j,j ≠ k * 2 → j ≠ k * 2 + 1 → ((w.setCell ⟨g,k * 2,none⟩ (I xs[k].1)).setCell ⟨g,k * 2 + 1,none⟩ (I xs[k].2)).cell? ⟨g,j,none⟩ = w.cell? ⟨g,j,none⟩:=fun j h0 h1 => by
  rw [set_other _ _ _ _ _ (Ne.symm h1),set_other _ _ _ _ _ (Ne.symm h0)]
 have at0 : ((w.setCell ⟨g,k * 2,none⟩ (I xs[k].1)).setCell ⟨g,k * 2 + 1,none⟩ (I xs[k].2)).cell? ⟨g,k * 2,none⟩ = some (I xs[k].1):=by
  rw [set_other _ _ _ _ _ (by omega)]; exact set_same _ _ _ _ _ hu0
 have at1 : ((w.setCell ⟨g,k * 2,none⟩ (I xs[k].1)).setCell ⟨g,k * 2 + 1,none⟩ (I xs[k].2)).cell? ⟨g,k * 2 + 1,none⟩ = some (I xs[k].2):=set_same _ _ _ _ _ c1
 refine ⟨by simpa using h.lt,fun j hj => ?_,fun j => by rw [World.frozen?_setCell,World.frozen?_setCell]; exact h.fz j,fun j hj hk1 => ?_⟩
 ·by_cases e0 : j = k * 2
  ·subst e0; exact ⟨_,at0⟩
  ·by_cases e1 : j = k * 2 + 1
   ·subst e1; exact ⟨_,at1⟩
   ·rw [far j e0 e1]; exact h.any j hj
 ·by_cases e : j = k
  ·subst e; exact ⟨at0,at1⟩
  ·rw [far _ (by omega) (by omega),far _ (by omega) (by omega)]
   exact h.yet j hj (by omega)
theorem Half.row {g n : Nat} {xs : List (Int × Int)} {w : World} (h : Half g n xs.length xs w) : PRow w (some ⟨g,0,none⟩) xs:=by
 intro j hj
 refine ⟨g,0,rfl,h.lt,?_,?_⟩
 ·rw [Nat.zero_add]; exact (h.yet j hj hj).1
 ·rw [Nat.zero_add]; exact (h.yet j hj hj).2
theorem infoPair : (Tryz.prog.info? 178).map (fun i => (i.zero,i.size,i.bytes)) = some (some (.agg #[I 0,I 0]),2,16):=by kernel_rfl
set_option maxRecDepth 100000 in
set_option maxHeartbeats 1600000 in
theorem toP_is (a : Option Addr) (cap : Nat) (xs : List (Int × Int)) (w : World) (hr : PRow w a xs) (hl : xs.length ≤ 1048576) :
  Calls Tryz.prog 70 #[.slice a xs.length cap] w fun e w' => e = .returned (.slice (some ⟨w.heap.size,0,none⟩) xs.length xs.length) ∧ PRow w' (some ⟨w.heap.size,0,none⟩) xs ∧ w.heap.size < w'.heap.size ∧ Below w.heap.size w w':=by
 obtain ⟨i0,hi,hz0,hz1,hz2⟩:=info_parts infoPair
 go_enter Tryz.func70,Tryz.ntmps70
 go_wp2_with (first | (at_make; refine wpList_make_full _ rfl _ _ 38 rfl w.heap.size 178 i0 (.agg #[I 0,I 0]) 2 Tryz.underlying38 hi hz0 hz1 .i64 .i64 xs.length xs.length xs.length rfl rfl rfl rfl (by rw [hz2]; omega) (by unfold maxLen; omega) (Nat.le_refl _) ?_) | go_in)
 intro w1 hown hgrow
 have hbel:=(Below.refl w.heap.size w).grown hgrow (Nat.le_refl _) (by simp)
 have hsz:=hgrow.size
 have hln:=hown.1
 have hF : Half w.heap.size xs.length 0 xs w1:=⟨(hown.lt _ rfl).2,fun j hj => by
   rw [hown.cellAt j hj]
   exact ⟨_,List.getElem?_eq_getElem (by omega)⟩,fun j => hown.frozenAt j,fun j _ h => absurd h (by omega)⟩
 clear hgrow hown hln
 go_wp2
 go_loopw [4] (fun i wr => ∃ k : Nat,k ≤ xs.length ∧ i = I k ∧ Half w.heap.size xs.length k xs wr ∧ Below w.heap.size w wr) (fun i _ => xs.length - (intOf i).toNat)
 case atStart => exact ⟨0,by omega,rfl,hF,hbel⟩
 case round =>
  clear hF hbel hsz
  obtain ⟨k,hk,rfl,hF,hbel⟩:=hrel
  by_cases hlt : k < xs.length
  ·obtain ⟨b,off,rfl,hbl,h0,h1⟩:=hr k hlt
   rw [← hbel.cell (p:=⟨b,off + k * 2,none⟩) hbl] at h0
   rw [← hbel.cell (p:=⟨b,off + k * 2 + 1,none⟩) hbl] at h1
   clear hr
   go_wp2_with fail
   refine (toPair_is xs[k].1 xs[k].2 _).mono ?_
   rintro e w2 ⟨rfl,hb2⟩
   have hF2:=hF.later hb2
   have hbel2:=hbel.trans (hb2.mono hbel.size)
   clear h0 h1 hF hbel hb2
   have HS : Hid (∃ k' : Nat,k' ≤ xs.length ∧ Value.int .i64 ((k : Int) + 1) = I k' ∧ Half w.heap.size xs.length k' xs ((w2.setCell ⟨w.heap.size,k * 2,none⟩ (I xs[k].1)).setCell ⟨w.heap.size,k * 2 + 1,none⟩ (I xs[k].2)) ∧ Below w.heap.size w ((w2.setCell ⟨w.heap.size,k * 2,none⟩ (I xs[k].1)).setCell ⟨w.heap.size,k * 2 + 1,none⟩ (I xs[k].2))) :=
    ⟨k + 1,by omega,by go_num,hF2.set hlt (Nat.le_refl _),(hbel2.setCell (Nat.le_refl _) _).setCell (Nat.le_refl _) _⟩
   obtain ⟨u0,hu0⟩:=hF2.any (k * 2) (by omega)
   obtain ⟨u1,hu1⟩:=hF2.any (k * 2 + 1) (by omega)
   have f0:=hF2.fz (k * 2)
   have f1:=hF2.fz (k * 2 + 1)
   have hlt2 : (k : Int) < (xs.length : Int):=by omega
   clear hF2 hbel2
   generalize xs[k].1 = x at HS
   generalize xs[k].2 = y at HS
   go_wp2
   go_roundw
   case rel => exact HS.out
   case measure => simp [intOf]; omega
  ·obtain rfl : k = xs.length:=by omega
   go_wp2
   go_ret
   exact ⟨rfl,hF.row,hF.lt,hbel⟩
theorem mem_take_succ {xs : List (Int × Int)} {k : Nat} (hk : k < xs.length) (p : Int × Int) : p ∈ xs.take (k + 1) ↔ p ∈ xs.take k ∨ p = xs[k]:=by
 rw [List.take_succ_eq_append_getElem hk,List.mem_append,List.mem_singleton]
set_option maxRecDepth 100000 in
set_option maxHeartbeats 1600000 in
theorem has_is (a : Option Addr) (cap : Nat) (xs : List (Int × Int)) (x y : Int) (w : World) (hr : PRow w a xs) (hl : xs.length ≤ 1048576) :
  Calls Tryz.prog 113 #[.slice a xs.length cap,pv x y] w fun e w' => e = .returned (.bool (decide ((x,y) ∈ xs))) ∧ Below w.heap.size w w':=by
 go_enter Tryz.func113,Tryz.ntmps113
 go_wp2
 go_loopw [5] (fun i wr => ∃ k : Nat,k ≤ xs.length ∧ i = I k ∧ (x,y) ∉ xs.take k ∧ Below w.heap.size w wr ∧ Blk w.heap.size [I x,I y] wr) (fun i _ => xs.length - (intOf i).toNat)
 case atStart => exact ⟨0,by omega,rfl,by simp,(Below.refl _ _).alloc (Nat.le_refl _) _,Blk.new _ _ _⟩
 case round =>
  obtain ⟨k,hk,rfl,hno,hbel,T⟩:=hrel
  have NO : Hid ((x,y) ∉ xs.take k):=hno
  clear hno
  by_cases hlt : k < xs.length
  ·obtain ⟨b1,o1,rfl,l1,h0,h1⟩:=hr k hlt
   rw [← hbel.cell (p:=⟨b1,o1 + k * 2,none⟩) l1] at h0
   rw [← hbel.cell (p:=⟨b1,o1 + k * 2 + 1,none⟩) l1] at h1
   have d0:=T.at 0 rfl
   have d1:=T.at 1 rfl
   have hlt2 : (k : Int) < (xs.length : Int):=by omega
   by_cases he : xs[k] = (x,y)
   ·have HM : Hid (decide ((x,y) ∈ xs) = true):=decide_eq_true (he ▸ List.getElem_mem hlt)
    rw [he] at h0 h1
    clear he hr NO T
    go_wp2
    go_region
    all_goals
     go_wp2
     go_ret
     exact ⟨by rw [HM.out]; rfl,hbel.drew⟩
   ·have NO2 : Hid ((x,y) ∉ xs.take (k + 1)):=fun hm => by
     rcases (mem_take_succ hlt _).1 hm with hm | hm
     ·exact NO.out hm
     ·exact he hm.symm
    have TD:=T.drew
    clear hr NO T
    by_cases e1 : xs[k].1 = x
    ·have e2 : ¬ xs[k].2 = y:=fun e2 => he (Prod.ext e1 e2)
     rw [e1] at h0
     generalize xs[k].2 = v at h1 e2
     clear he e1
     go_wp2
     go_region
     all_goals
      go_wp2
      go_roundw
      case rel => exact ⟨k + 1,by omega,by go_num,NO2.out,hbel.drew,TD⟩
      case measure => simp [intOf]; omega
    ·generalize xs[k].1 = u at h0 e1
     generalize xs[k].2 = v at h1
     clear he
     go_wp2
     go_region
     all_goals
      go_wp2
      go_roundw
      case rel => exact ⟨k + 1,by omega,by go_num,NO2.out,hbel.drew,TD⟩
      case measure => simp [intOf]; omega
  ·obtain rfl : k = xs.length:=by omega
   have HM : Hid (decide ((x,y) ∈ xs) = false):=decide_eq_false (by have:=NO.out; rwa [List.take_length] at this)
   go_wp2
   go_ret
   exact ⟨by rw [HM.out]; rfl,hbel⟩
set_option maxRecDepth 100000 in
set_option maxHeartbeats 1600000 in
theorem eqP_is (a b : Option Addr) (ca cb : Nat) (xs : List (Int × Int)) (w : World) (ha : PRow w a xs) (hb : PRow w b xs) (hl : xs.length ≤ 1048576) :
  Calls Tryz.prog 84 #[.slice a xs.length ca,.slice b xs.length cb] w fun e w' => e = .returned (.bool true) ∧ Below w.heap.size w w':=by
 go_enter Tryz.func84,Tryz.ntmps84
 go_wp2
 go_loopw [5] (fun i wr => ∃ k : Nat,k ≤ xs.length ∧ i = I k ∧ Below w.heap.size w wr) (fun i _ => xs.length - (intOf i).toNat)
 case atStart => exact ⟨0,by omega,rfl,Below.refl _ _⟩
 case round =>
  obtain ⟨k,hk,rfl,hbel⟩:=hrel
  by_cases hlt : k < xs.length
  ·obtain ⟨b1,o1,rfl,l1,h0,h1⟩:=ha k hlt
   obtain ⟨b2,o2,rfl,l2,g0,g1⟩:=hb k hlt
   have hlt2 : (k : Int) < (xs.length : Int):=by omega
   have m1 : b1 < wr.drew.heap.size:=Nat.lt_of_lt_of_le l1 hbel.size
   have m2 : b2 < wr.drew.heap.size:=Nat.lt_of_lt_of_le l2 hbel.size
   replace h0 : wr.drew.cell? ⟨b1,o1 + k * 2,none⟩ = _:=(hbel.cell (p:=⟨b1,o1 + k * 2,none⟩) l1).trans h0
   replace h1 : wr.drew.cell? ⟨b1,o1 + k * 2 + 1,none⟩ = _:=(hbel.cell (p:=⟨b1,o1 + k * 2 + 1,none⟩) l1).trans h1
   replace g0 : wr.drew.cell? ⟨b2,o2 + k * 2,none⟩ = _:=(hbel.cell (p:=⟨b2,o2 + k * 2,none⟩) l2).trans g0
   replace g1 : wr.drew.cell? ⟨b2,o2 + k * 2 + 1,none⟩ = _:=(hbel.cell (p:=⟨b2,o2 + k * 2 + 1,none⟩) l2).trans g1
   have BD:=hbel.drew
   generalize xs[k].1 = u at h0 g0
   generalize xs[k].2 = v at h1 g1
   clear ha hb
   go_wp2_with fail
   refine wp_region_held_drew (S:=(fun V : World => V.cell? ⟨b1,o1 + k * 2,none⟩ = some (I u) ∧ V.cell? ⟨b1,o1 + k * 2 + 1,none⟩ = some (I v) ∧ V.cell? ⟨b2,o2 + k * 2,none⟩ = some (I u) ∧ V.cell? ⟨b2,o2 + k * 2 + 1,none⟩ = some (I v))) (by kernel_rfl) ⟨h0,h1,g0,g1⟩ (fun hHeld => ?_)
   refine tk 0 17 rfl _ hHeld (by intro w' h; (try dsimp only at h); obtain ⟨c0,c1,c2,c3⟩:=h; go_simp; try with_reducible rfl) ?_
   try simp only [Act.put,pa,pb,pc]
   refine tk 1 18 rfl _ hHeld (by intro w' h; (try dsimp only at h); obtain ⟨c0,c1,c2,c3⟩:=h; go_simp; try with_reducible rfl) ?_
   try simp only [Act.put,pa,pb,pc]
   refine tk 2 19 rfl _ hHeld (by intro w' h; (try dsimp only at h); obtain ⟨c0,c1,c2,c3⟩:=h; go_simp; try with_reducible rfl) ?_
   try simp only [Act.put,pa,pb,pc]
   refine tk 3 20 rfl _ hHeld (by intro w' h; (try dsimp only at h); obtain ⟨c0,c1,c2,c3⟩:=h; go_simp; try with_reducible rfl) ?_
   try simp only [Act.put,pa,pb,pc]
   refine tk 4 21 rfl _ hHeld (by intro w' h; (try dsimp only at h); obtain ⟨c0,c1,c2,c3⟩:=h; go_simp; try with_reducible rfl) ?_
   try simp only [Act.put,pa,pb,pc]
   refine tk 5 22 rfl _ hHeld (by intro w' h; (try dsimp only at h); obtain ⟨c0,c1,c2,c3⟩:=h; go_simp; try with_reducible rfl) ?_
   try simp only [Act.put,pa,pb,pc]
   refine tk 6 23 rfl _ hHeld (by intro w' h; (try dsimp only at h); obtain ⟨c0,c1,c2,c3⟩:=h; go_simp; try with_reducible rfl) ?_
   try simp only [Act.put,pa,pb,pc]
   refine tk 7 24 rfl _ hHeld (by intro w' h; (try dsimp only at h); obtain ⟨c0,c1,c2,c3⟩:=h; go_simp; try with_reducible rfl) ?_
   try simp only [Act.put,pa,pb,pc]
   refine wpAnyH_ready (rs:=[8]) (by kernel_rfl) (by simp) ?_
   refine AllReadyH.cons (i:=8) rfl (fun K hK => ?_) AllReadyH.nil
   go_simp
   refine (eqPair_is u v _).mono ?_
   rintro e w2 ⟨rfl,hb2⟩
   go_wp2_with fail
   refine hK.out _ _ ⟨(hb2.cell (p:=⟨b1,o1 + k * 2,none⟩) m1).trans h0,(hb2.cell (p:=⟨b1,o1 + k * 2 + 1,none⟩) m1).trans h1,(hb2.cell (p:=⟨b2,o2 + k * 2,none⟩) m2).trans g0,(hb2.cell (p:=⟨b2,o2 + k * 2 + 1,none⟩) m2).trans g1⟩ (fun hHeld2 => ?_)
   clear hK K hHeld
   have hHeld:=hHeld2
   clear hHeld2
   try simp only [Act.put,pa,pb,pc]
   refine tk 9 26 rfl _ hHeld (by intro w' h; (try dsimp only at h); obtain ⟨c0,c1,c2,c3⟩:=h; go_simp; try with_reducible rfl) ?_
   try simp only [Act.put,pa,pb,pc]
   refine wpAnyH_done (by kernel_rfl) ?_ _
   have B2:=BD.trans (hb2.mono BD.size)
   clear hHeld h0 h1 g0 g1
   go_wp2
   go_roundw
   case rel => exact ⟨k + 1,by omega,by go_num,B2⟩
   case measure => simp [intOf]; omega
  ·go_wp2
   go_ret
   exact ⟨rfl,hbel⟩
end Go.Proofs.YtlmpfkbgknbcnaaGreat
