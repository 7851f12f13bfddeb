/- Roots: the program and the model say the same. -/
import Derived.Test.YtlmpfkbgknbcnaaGreatRo3
import Derived.Test.YtlmpfkbgknbcnaaGreatAb
import Derived.Test.YtlmpfkbgknbcnaaGreatWs9
import Derived.Test.YtlmpfkbgknbcnaaGreatShelf
import Derived.Test.YtlmpfkbgknbcnaaGreatFn
import Derived.Test.YtlmpfkbgknbcnaaGreatKnow3
import Derived.WalkKit
import Derived.WalkSpells
import Derived.WalkLawsBesides
import Derived.WalkMore
import Derived.Defers
import Derived.Recover
import Derived.Laws.EntriesVeiled
set_option linter.unusedVariables false
set_option maxRecDepth 100000
namespace Go.Proofs.YtlmpfkbgknbcnaaGreat.Nd
open Go Go.RowKit Go.Joins Own Draw
/-- An event whose Evid is its Parent. -/
def alE (p : TE) : TE:=(p.1,p.2.1,p.2.2.1,p.2.2.2.1,p.2.2.2.2.1,p.2.2.2.2.2.1,p.2.2.2.2.2.2.1,p.2.2.2.2.2.2.1,p.2.2.2.2.2.2.2.2)
theorem al_kd (p : TE) : kdE (alE p) = kdE p:=rfl
theorem al_ho (p : TE) : hoV (alE p) = awV p:=by
 unfold hoV awV
 rw [al_kd]
 have h1 : evE (alE p) = paE p:=rfl
 have h2 : paE (alE p) = paE p:=rfl
 rw [h1,h2]
 by_cases e4 : kdE p = 4
 ·rw [if_pos e4,if_pos (by omega)]
 ·rw [if_neg e4]
theorem findN_al (xs : List TE) (q : Int) : findN (xs.map alE) q = findN xs q:=by
 unfold findN
 rw [List.findIdx?_map]
 rfl
theorem bwL_al (xs : List TE) : ∀ (f : Nat) (q : Int) (m : Bool),bwL (xs.map alE) hoV f q m = bwL xs awV f q m
 | 0,q,m => rfl
 | f + 1,q,m => by
  unfold bwL
  simp only [findN_al,List.length_map,List.getElem_map,al_ho]
  split
  ·rw [bwL_al xs f]
  ·rfl
theorem frL_al (xs : List TE) (l : List Int) : frL (xs.map alE) l = frL xs l:=by
 unfold frL
 cases l.getLast? with
 | none => rfl
 | some z =>
  have h : isLog (xs.map alE) z = isLog xs z:=by
   unfold isLog
   rw [List.getElem?_map]
   cases xs[z.toNat]? with
   | none => rfl
   | some p => rfl
  dsimp only
  rw [h]
/-- The chain in so many steps. -/
def chF (xs : List TE) (f : Nat) (q : Int) : List Int:=frL xs (bwL xs awV f q true)
theorem chF_len (xs : List TE) (q : Int) : chF xs (xs.length + 1) q = chF xs xs.length q:=by
 have h:=ch_len (xs.map alE) q
 rw [ch_bw,ch_bw,bwL_al,bwL_al,frL_al,frL_al,List.length_map] at h
 unfold chF
 by_cases h1 : frL xs (bwL xs awV (xs.length + 1) q true) = [] <;> by_cases h2 : frL xs (bwL xs awV xs.length q true) = []
 ·rw [h1,h2]
 ·rw [if_pos h1,if_neg h2] at h; simp at h; exact absurd h h2
 ·rw [if_neg h1,if_pos h2] at h; simp at h; exact absurd h h1
 ·rw [if_neg h1,if_neg h2] at h; simpa using h
theorem lk_wrap (r s : Int) (hs : i64 s) : lkV r (wrap64 (s - 10)) = if btw s 10 12 then lkV r (s - 10) else 0:=by
 unfold i64 at hs
 by_cases h : btw s 10 12 = true
 ·have h2:=(btw_iff _ _ _).1 h
  rw [if_pos h]
  have e : wrap64 (s - 10) = s - 10:=by unfold wrap64; omega
  rw [e]
 ·rw [if_neg h]
  have h2 : ¬ (10 ≤ s ∧ s ≤ 12):=fun c => h ((btw_iff _ _ _).2 c)
  unfold lkV
  have h3 : btw (wrap64 (s - 10)) 0 2 = false:=by
   rw [Bool.eq_false_iff]
   intro c
   have:=(btw_iff _ _ _).1 c
   unfold wrap64 at this
   omega
  rw [h3,Bool.and_false,if_neg (by simp)]
theorem own_x {p : TE} (hk : kdE p = 2 ∨ kdE p = 3 ∨ kdE p = 4) (hs : i64 (seE p)) : ownR p = [xS p]:=by
 unfold ownR xS
 rw [if_neg (by omega)]
 by_cases h3 : kdE p = 3
 ·rw [if_pos h3,if_neg (by omega),if_pos h3,lk_wrap _ _ hs]
 ·rw [if_neg h3,if_pos (by omega)]
  rfl
theorem keysOf_snoc (xs : List TE) (l : List Int) (z : Int) : keysOf xs (l ++ [z]) = keysOf xs l ++ ownAt xs z:=by
 unfold keysOf
 rw [List.flatMap_append]
 simp
/-- The model's answer, told by the chain. -/
theorem rt_bw (xs : List TE) (hx : ∀ p ∈ xs,i64 (seE p)) : ∀ (f : Nat) (out : List Int) (q : Int),out.Pairwise (· < ·) →
  (chF xs f q = [] ∨ (0 : Int) ∈ keysOf xs (chF xs f q) → rtG xs f out q = []) ∧
  (chF xs f q ≠ [] → ¬ (0 : Int) ∈ keysOf xs (chF xs f q) → (rtG xs f out q).Pairwise (· < ·) ∧ ∀ z,z ∈ rtG xs f out q ↔ z ∈ out ∨ z ∈ keysOf xs (chF xs f q))
 | 0,out,q,ho => by
  have e : chF xs 0 q = []:=by simp [chF,bwL,frL]
  exact ⟨fun _ => rfl,fun h => absurd e h⟩
 | f + 1,out,q,ho => by
  rcases findN_cases xs q with h | ⟨i,h,hi⟩
  ·have e : chF xs (f + 1) q = []:=by unfold chF; rw [bwL_no h]; simp [frL]
   exact ⟨fun _ => rtG_no h,fun h => absurd e h⟩
  ·have hrt:=rtG_yes (f:=f) (out:=out) h hi
   have hch : chF xs (f + 1) q = frL xs ((i : Int) :: bwL xs awV f (awV xs[i]).1 (awV xs[i]).2):=by unfold chF; rw [bwL_yes h hi]
   by_cases e1 : kdE xs[i] = 1
   ·have ha : awV xs[i] = (0,false):=by unfold awV; rw [if_neg (by omega)]
    have hc1 : chF xs (f + 1) q = [(i : Int)]:=by
     rw [hch,ha]
     show frL xs ((i : Int) :: bwL xs awV f 0 false) = _
     rw [bwL_false,frL_one hi,if_pos e1]
    have hk : keysOf xs [(i : Int)] = [pkV (byE xs[i]),ckV (reE xs[i])]:=by
     unfold keysOf
     rw [List.flatMap_cons,List.flatMap_nil,List.append_nil,ownAt_at hi]
     unfold ownR
     rw [if_pos e1]
    rw [hc1,hk,hrt,if_pos e1]
    constructor
    ·rintro (c | c)
     ·cases c
     ·rw [if_pos (by simp at c; omega)]
    ·intro _ c
     rw [if_neg (by simp at c; omega)]
     refine ⟨putI_rises (putI_rises ho),fun z => ?_⟩
     rw [putI_mem,putI_mem]
     simp only [List.mem_cons,List.not_mem_nil,or_false]
     constructor
     ·rintro (c | c | c)
      ·exact Or.inr (Or.inr c)
      ·exact Or.inr (Or.inl c)
      ·exact Or.inl c
     ·rintro (c | c | c)
      ·exact Or.inr (Or.inr c)
      ·exact Or.inr (Or.inl c)
      ·exact Or.inl c
   ·rw [hrt,if_neg e1]
    by_cases e2 : kdE xs[i] = 2 ∨ kdE xs[i] = 3 ∨ kdE xs[i] = 4
    ·have ha : awV xs[i] = (paE xs[i],true):=by unfold awV; rw [if_pos e2]
     have hox:=own_x e2 (hx _ (List.getElem_mem hi))
     have hc1 : chF xs (f + 1) q = if chF xs f (paE xs[i]) = [] then [] else chF xs f (paE xs[i]) ++ [(i : Int)]:=by
      rw [hch,ha]
      show frL xs ((i : Int) :: bwL xs awV f (paE xs[i]) true) = _
      by_cases hb : bwL xs awV f (paE xs[i]) true = []
      ·have : chF xs f (paE xs[i]) = []:=by unfold chF; rw [hb]; simp [frL]
       rw [this,if_pos rfl,hb,frL_one hi,if_neg e1]
      ·rw [frL_cons hb]
       rfl
     obtain ⟨ih1,ih2⟩:=rt_bw xs hx f (putI out (xS xs[i])) (paE xs[i]) (putI_rises ho)
     by_cases hn : chF xs f (paE xs[i]) = []
     ·rw [if_pos hn] at hc1
      refine ⟨fun _ => ?_,fun c => absurd hc1 c⟩
      by_cases x0 : xS xs[i] = 0
      ·rw [if_pos x0]
      ·rw [if_neg x0]; exact ih1 (Or.inl hn)
     ·rw [if_neg hn] at hc1
      rw [hc1,keysOf_snoc,ownAt_at hi,hox]
      constructor
      ·rintro (c | c)
       ·simp at c
       ·by_cases x0 : xS xs[i] = 0
        ·rw [if_pos x0]
        ·rw [if_neg x0]
         refine ih1 (Or.inr ?_)
         rcases List.mem_append.1 c with c | c
         ·exact c
         ·rw [List.mem_singleton] at c; exact absurd c.symm x0
      ·intro _ c
       have x0 : ¬ xS xs[i] = 0:=fun e => c (List.mem_append_right _ (by rw [e]; simp))
       have c2 : ¬ (0 : Int) ∈ keysOf xs (chF xs f (paE xs[i])):=fun e => c (List.mem_append_left _ e)
       obtain ⟨p1,p2⟩:=ih2 hn c2
       rw [if_neg x0]
       refine ⟨p1,fun z => ?_⟩
       rw [p2 z,putI_mem,List.mem_append,List.mem_singleton]
       constructor
       ·rintro ((c | c) | c)
        ·exact Or.inr (Or.inr c)
        ·exact Or.inl c
        ·exact Or.inr (Or.inl c)
       ·rintro (c | c | c)
        ·exact Or.inl (Or.inr c)
        ·exact Or.inr c
        ·exact Or.inl (Or.inl c)
    ·have ha : awV xs[i] = (0,false):=by unfold awV; rw [if_neg e2]
     have hc1 : chF xs (f + 1) q = []:=by
      rw [hch,ha]
      show frL xs ((i : Int) :: bwL xs awV f 0 false) = _
      rw [bwL_false,frL_one hi,if_neg e1]
     refine ⟨fun _ => ?_,fun c => absurd hc1 c⟩
     rw [if_pos (by unfold xS; rw [if_neg (by omega),if_neg (by omega)])]
theorem btw_le {n lo hi : Int} (h : btw n lo hi = true) : lo ≤ n ∧ n ≤ hi:=(btw_iff _ _ _).1 h
theorem pk_le (p : Int) : 0 ≤ pkV p ∧ pkV p ≤ 100:=by
 unfold pkV
 split
 ·rename_i h; have:=btw_le h; omega
 ·split
  ·rename_i h; have:=btw_le h; omega
  ·omega
theorem ck_le (p : Int) : 0 ≤ ckV p ∧ ckV p ≤ 100:=by
 unfold ckV
 split
 ·rename_i h; have:=btw_le h; omega
 ·omega
theorem lk_le (a b : Int) : 0 ≤ lkV a b ∧ lkV a b ≤ 100:=by
 unfold lkV
 split
 ·rename_i h
  rw [Bool.and_eq_true] at h
  have h1:=btw_le h.1
  have h2:=btw_le h.2
  omega
 ·omega
theorem own_le (p : TE) : ∀ z ∈ ownR p,0 ≤ z ∧ z ≤ 100:=by
 intro z hz
 unfold ownR at hz
 split at hz
 ·simp only [List.mem_cons,List.not_mem_nil,or_false] at hz
  rcases hz with rfl | rfl
  ·exact pk_le _
  ·exact ck_le _
 ·split at hz
  ·rw [List.mem_singleton] at hz; subst hz; exact lk_le _ _
  ·rw [List.mem_singleton] at hz; subst hz
   unfold skV
   split
   ·exact pk_le _
   ·omega
theorem keys_le (xs : List TE) (l : List Int) : ∀ z ∈ keysOf xs l,0 ≤ z ∧ z ≤ 100:=by
 intro z hz
 unfold keysOf at hz
 obtain ⟨y,_,hy⟩:=List.mem_flatMap.1 hz
 exact own_le _ z hy
theorem rt_same (c : Cf) (xs : List TE) (n : Int) (hx : ∀ p ∈ xs,i64 (seE p)) : rtSo c xs n = roP c xs n:=by
 unfold rtSo roP
 by_cases hc : confB c = true
 ·rw [if_pos hc,if_pos hc]
  obtain ⟨h1,h2⟩:=rt_bw xs hx (xs.length + 1) [] n List.Pairwise.nil
  rw [chF_len] at h1 h2
  have hE : chF xs xs.length n = chA xs n:=rfl
  rw [hE] at h1 h2
  by_cases hn : chA xs n = []
  ·rw [h1 (Or.inl hn),hn]
   have : keysOf xs [] = []:=rfl
   rw [this]
   simp [riL,Lib.compact,Lib.compactUpTo]
  ·by_cases h0 : (0 : Int) ∈ keysOf xs (chA xs n)
   ·rw [h1 (Or.inr h0),if_neg]
    intro c
    have:=List.all_eq_true.1 c 0 h0
    simp [btw] at this
   ·obtain ⟨p1,p2⟩:=h2 hn h0
    rw [if_pos]
    ·refine sorted_ext _ _ p1 (riL_rises _) fun z => ?_
     rw [p2 z,riL_mem]
     simp
    ·rw [List.all_eq_true]
     intro z hz
     have:=keys_le xs _ z hz
     refine (btw_iff _ _ _).2 ⟨?_,by omega⟩
     by_cases e : z = 0
     ·subst e; exact absurd hz h0
     ·omega
 ·rw [if_neg hc,if_neg hc]
theorem roP_len (c : Cf) (xs : List TE) (n : Int) : (roP c xs n).length ≤ 2 * xs.length:=by
 unfold roP
 have h1:=riL_len (keysOf xs (chA xs n))
 have h2:=keysOf_len xs (chA xs n)
 have h3:=chA_len xs n
 split
 ·split
  ·omega
  ·simp
 ·simp
end Go.Proofs.YtlmpfkbgknbcnaaGreat.Nd

set_option linter.unusedVariables false
set_option maxRecDepth 100000
namespace Go.Proofs.YtlmpfkbgknbcnaaGreat.Nd
open Go Go.RowKit Go.Joins Own Draw Term
set_option maxRecDepth 100000 in
theorem has_is (a : Option Addr) (cap : Nat) (xs : List Int) (x : Int) (w : World) (hr : RowAt (Value.int .i64) w a xs) (hl : xs.length ≤ 1048576) :
  Calls Tryz.prog 58 #[.slice a xs.length cap,I x] w fun e w' => e = .returned (.bool (xs.contains x)) ∧ w = w':=by
 by_cases h0 : xs.length = 0
 ·have hx : xs = []:=List.eq_nil_of_length_eq_zero h0
  subst hx
  exact (Tryz.slices_Contains_int_empty a cap x w).mono (fun e w' h => ⟨h.1,h.2.symm⟩)
 ·obtain ⟨b,o,rfl,_⟩:=hr 0 (by omega)
  refine (Tryz.slices_Contains_int b o xs.length cap xs x w (Nat.le_refl _) (by omega) (fun j hj => ?_)).mono ?_
  ·obtain ⟨b2,o2,e2,_,hc⟩:=hr j hj
   simp only [Option.some.injEq,Addr.mk.injEq,and_true] at e2
   obtain ⟨rfl,rfl⟩:=e2
   rw [hc]
   simp [hj]
  ·rintro e w' ⟨rfl,rfl⟩
   refine ⟨?_,rfl⟩
   rw [List.take_length]
/-- It is none of them. -/
def nin (lk : List Int) (x : Int) : Bool:=!(lk.contains x)
set_option maxRecDepth 100000 in
theorem na1_is (x : Int) (lp : Nat) (la : Option Addr) (lc : Nat) (lk : List Int) (w : World) (hc : w.cell? ⟨lp,0,none⟩ = some (.slice la lk.length lc)) (hr : RowAt (Value.int .i64) w la lk) (hl : lk.length ≤ 1048576) :
  Calls Tryz.prog 110 #[I x,.pointer (some ⟨lp,0,none⟩)] w fun e w' => e = .returned (.bool (nin lk x)) ∧ Below w.heap.size w w':=by
 unfold nin
 have K1:=has_is la lc lk x w hr hl
 generalize lk.contains x = b at K1 ⊢
 go_enter Tryz.func110,Tryz.ntmps110
 go_wp2_with fail
 refine K1.mono ?_
 rintro en w1 ⟨rfl,rfl⟩
 clear K1
 cases b with
 | true =>
  go_wp2
  go_ret
  exact ⟨rfl,Below.refl _ _⟩
 | false =>
  go_wp2
  go_ret
  exact ⟨rfl,Below.refl _ _⟩
set_option maxRecDepth 100000 in
set_option maxHeartbeats 3200000 in
theorem cloIn_is (lp : Nat) (lk : List Int) (x : Int) (fp : Nat) (w : World) (hfp : fp < w.heap.size) (hc : w.cell? ⟨fp,0,none⟩ = some (.func (.func 110) #[] #[.pointer (some ⟨lp,0,none⟩)])) (HG : ∀ w',Below w.heap.size w w' → Calls Tryz.prog 110 #[I x,.pointer (some ⟨lp,0,none⟩)] w' fun e w'' => e = .returned (.bool (nin lk x)) ∧ Below w'.heap.size w' w'') :
  Calls Tryz.prog 158 #[I x,.pointer (some ⟨fp,0,none⟩)] w fun e w' => e = .returned (.bool (!(nin lk x))) ∧ Below w.heap.size w w':=by
 generalize nin lk x = b at HG ⊢
 have BC : Below w.heap.size w w:=Below.refl _ _
 have K1:=HG w BC
 have c0:=hc
 clear HG
 go_enter Tryz.func158,Tryz.ntmps158
 go_wp2_with fail
 refine K1.mono ?_
 clear K1
 rintro en v0 ⟨rfl,hb⟩
 replace BC:=BC.trans (hb.mono BC.size)
 clear hb
 cases b with
 | true =>
  go_wp2
  go_ret
  exact ⟨rfl,BC⟩
 | false =>
  go_wp2
  go_ret
  exact ⟨rfl,BC⟩
set_option maxRecDepth 100000 in
set_option maxHeartbeats 3200000 in
theorem idxIn_is (lp : Nat) (lk : List Int) (a : Option Addr) (cap : Nat) (xs : List Int) (fp : Nat) (w : World) (hr : RowAt (Value.int .i64) w a xs) (hl : xs.length ≤ 1048576) (hfp : fp < w.heap.size) (hc : w.cell? ⟨fp,0,none⟩ = some (.func (.func 110) #[] #[.pointer (some ⟨lp,0,none⟩)])) (HG : ∀ x ∈ xs,∀ w',Below w.heap.size w w' → Calls Tryz.prog 110 #[I x,.pointer (some ⟨lp,0,none⟩)] w' fun e w'' => e = .returned (.bool (nin lk x)) ∧ Below w'.heap.size w' w'') :
  Calls Tryz.prog 199 #[.slice a xs.length cap,.func (.func 158) #[] #[.pointer (some ⟨fp,0,none⟩)]] w fun e w' => IdxP (xs.all (fun x => nin lk x)) e ∧ Below w.heap.size w w':=by
 go_enter Tryz.func199,Tryz.ntmps199
 go_wp2
 go_loopw [8] (fun i wr => ∃ k : Nat,k ≤ xs.length ∧ i = I k ∧ Hid (∀ j (h : j < xs.length),j < k → (fun x => nin lk x) xs[j] = true) ∧ Below w.heap.size w wr) (fun i _ => xs.length - (intOf i).toNat)
 case atStart => exact ⟨0,by omega,rfl,fun j h hj => absurd hj (by omega),Below.refl _ _⟩
 case round =>
  obtain ⟨k,hk,rfl,hno,hbel⟩:=hrel
  by_cases hlt : k < xs.length
  ·obtain ⟨b1,o1,rfl,l1,hcc⟩:=hr k hlt
   have c0 : wr.cell? ⟨b1,o1 + k,none⟩ = some (I xs[k]):=(hbel.cell (p:=⟨b1,o1 + k,none⟩) l1).trans hcc
   have hlt2 : (k : Int) < (xs.length : Int):=by omega
   have K1:=cloIn_is lp lk xs[k] fp wr (Nat.lt_of_lt_of_le hfp hbel.size) ((hbel.cell (p:=⟨fp,0,none⟩) hfp).trans hc) (fun w' hb => HG xs[k] (List.getElem_mem hlt) w' (hbel.trans (hb.mono hbel.size)))
   have hno2 : (fun x => nin lk x) xs[k] = true → Hid (∀ j (h : j < xs.length),j < k + 1 → (fun x => nin lk x) xs[j] = true):=fun he j h hj => by
    by_cases e : j = k
    ·subst e; exact he
    ·exact hno.out j h (by omega)
   have hbad : (fun x => nin lk x) xs[k] = false → Hid (xs.all (fun x => nin lk x) = false):=fun he => by
    show _ = _
    rw [List.all_eq_false]
    exact ⟨xs[k],List.getElem_mem hlt,fun h => absurd (h.symm.trans he) (by decide)⟩
   clear HG hno
   generalize hxk : xs[k] = x at K1 hno2 hbad c0
   clear hxk hcc
   dsimp only at hno2 hbad
   generalize hb0 : nin lk x = b at K1 hno2 hbad
   clear hb0
   go_wp2_with fail
   refine K1.mono ?_
   clear K1 c0
   rintro en v0 ⟨rfl,hb⟩
   replace hbel:=hbel.trans (hb.mono hbel.size)
   clear hb
   cases b with
   | true =>
    have hno3:=hno2 rfl
    clear hno2 hbad
    go_wp2
    go_roundw
    case rel => exact ⟨k + 1,by omega,by go_num,hno3,hbel⟩
    case measure => simp [intOf]; omega
   | false =>
    have hbd:=hbad rfl
    clear hno2 hbad
    go_wp2
    go_ret
    refine ⟨?_,hbel⟩
    rw [hbd.out]
    exact ⟨(k : Int),rfl,by simp⟩
  ·have HV : Hid (xs.all (fun x => nin lk x) = true):=by
    show _ = _
    rw [List.all_eq_true]
    intro x hx
    obtain ⟨j,hj,rfl⟩:=List.mem_iff_getElem.1 hx
    exact hno.out j hj (by omega)
   have hlt2 : ¬ (k : Int) < (xs.length : Int):=by omega
   clear hno HG hr
   go_wp2
   go_ret
   refine ⟨?_,hbel⟩
   rw [HV.out]
   exact ⟨-1,rfl,by simp⟩
set_option maxRecDepth 100000 in
set_option maxHeartbeats 3200000 in
theorem allIn_is (lp : Nat) (lk : List Int) (a : Option Addr) (cap : Nat) (xs : List Int) (w : World) (hr : RowAt (Value.int .i64) w a xs) (hl : xs.length ≤ 1048576) (HG : ∀ x ∈ xs,∀ w',Below w.heap.size w w' → Calls Tryz.prog 110 #[I x,.pointer (some ⟨lp,0,none⟩)] w' fun e w'' => e = .returned (.bool (nin lk x)) ∧ Below w'.heap.size w' w'') :
  Calls Tryz.prog 108 #[.slice a xs.length cap,.func (.func 110) #[] #[.pointer (some ⟨lp,0,none⟩)]] w fun e w' => e = .returned (.bool (xs.all (fun x => nin lk x))) ∧ Below w.heap.size w w':=by
 obtain ⟨V,hV⟩ : ∃ V,w.alloc (.cells #[.func (.func 110) #[] #[.pointer (some ⟨lp,0,none⟩)]] 81) = V:=⟨_,rfl⟩
 have TV : Blk w.heap.size [.func (.func 110) #[] #[.pointer (some ⟨lp,0,none⟩)]] V:=by rw [← hV]; exact Blk.new _ _ _
 have BC : Below w.heap.size w V:=by rw [← hV]; exact (Below.refl _ _).alloc (Nat.le_refl _) _
 have sV : w.heap.size < V.heap.size:=by rw [← hV]; simp
 have K1:=idxIn_is lp lk a cap xs w.heap.size V (hr.later BC) hl sV (TV.at 0 rfl) (fun x hx w' hb => HG x hx w' (BC.trans (hb.mono BC.size)))
 clear HG hr TV sV
 generalize xs.all (fun x => nin lk x) = b at K1 ⊢
 have K2 : Calls Tryz.prog 157 #[.slice a xs.length cap,.func (.func 158) #[] #[.pointer (some ⟨w.heap.size,0,none⟩)]] V fun e w' => e = .returned (.bool (!b)) ∧ Below V.heap.size V w':=by
  go_enter Tryz.func157,Tryz.ntmps157
  go_wp2_with fail
  refine K1.mono ?_
  clear K1
  rintro en v0 ⟨⟨r,rfl,hd⟩,hb⟩
  cases b with
  | true =>
   have hr2 : ¬ (0 ≤ r):=by simpa using hd
   go_wp2
   go_ret
   exact ⟨rfl,hb⟩
  | false =>
   have hr2 : 0 ≤ r:=by simpa using hd
   go_wp2
   go_ret
   exact ⟨rfl,hb⟩
 clear K1
 go_enter Tryz.func108,Tryz.ntmps108
 go_wp2_with fail
 try rw [hV]
 refine K2.mono ?_
 clear K2
 rintro en v0 ⟨rfl,hb⟩
 replace BC:=BC.trans (hb.mono BC.size)
 clear hb
 cases b with
 | true =>
  go_wp2
  go_ret
  exact ⟨rfl,BC⟩
 | false =>
  go_wp2
  go_ret
  exact ⟨rfl,BC⟩
set_option maxRecDepth 100000 in
set_option maxHeartbeats 6400000 in
theorem none_is (a : Option Addr) (cap : Nat) (ks : List Int) (la : Option Addr) (lc : Nat) (lk : List Int) (w : World) (hk : RowAt (Value.int .i64) w a ks) (hr : RowAt (Value.int .i64) w la lk) (hkl : ks.length ≤ 1048576) (hl : lk.length ≤ 1048576) :
  Calls Tryz.prog 57 #[.slice a ks.length cap,.slice la lk.length lc] w fun e w' => e = .returned (.bool (ks.all fun x => nin lk x)) ∧ Below w.heap.size w w':=by
 obtain ⟨V,hV⟩ : ∃ V,w.alloc (.cells #[.slice la lk.length lc] 22) = V:=⟨_,rfl⟩
 have TV : Blk w.heap.size [.slice la lk.length lc] V:=by rw [← hV]; exact Blk.new _ _ _
 have BC : Below w.heap.size w V:=by rw [← hV]; exact (Below.refl _ _).alloc (Nat.le_refl _) _
 have K1:=allIn_is w.heap.size lk a cap ks V (hk.later BC) hkl (fun x _ w' hb => na1_is x w.heap.size la lc lk w' ((TV.later hb TV.lt).at 0 rfl) ((hr.later BC).later hb) hl)
 generalize (ks.all fun x => nin lk x) = b at K1 ⊢
 go_enter Tryz.func57,Tryz.ntmps57
 go_wp2_with fail
 try rw [hV]
 refine K1.mono ?_
 rintro en w1 ⟨rfl,hb⟩
 clear K1 hV
 replace BC:=BC.trans (hb.mono BC.size)
 go_wp2
 go_ret
 exact ⟨rfl,BC⟩
theorem wok_parts {d : TD} (h : wokB d = true) : confB (cfOf d.1) = true ∧ (∀ p ∈ d.2.2.2.2.2.2.2.2.2.1.2.2,acB d.2.2.2.2.2.2.2.2.2.2.2.2.length p = true) ∧ d.2.2.2.2.2.2.2.2.2.2.2.2.length ≤ 40:=by
 unfold wokB recB at h
 simp only [Bool.and_eq_true] at h
 have h9:=h.2.2.2.2.2.2.2.2
 exact ⟨h.1,fun p hp => List.all_eq_true.1 h9.2.2.2 p hp,of_decide_eq_true h9.2.2.1⟩
def mtB (ks ls : List Int) : Bool:=ks.any (fun x => hasB ls x)
set_option maxRecDepth 100000 in
set_option maxHeartbeats 6400000 in
theorem meets_is (a : Option Addr) (cap : Nat) (ks : List Int) (b : Option Addr) (bc : Nat) (ls : List Int) (w : World) (hk : RowAt (Value.int .i64) w a ks) (hl : RowAt (Value.int .i64) w b ls) (hkl : ks.length ≤ 1048576) (hll : ls.length ≤ 1048576) :
  Calls Tryz.prog 51 #[.slice a ks.length cap,.slice b ls.length bc] w fun e w' => e = .returned (.bool (mtB ks ls)) ∧ w = w':=by
 go_enter Tryz.func51,Tryz.ntmps51
 go_wp2
 go_loop [5] (fun i => ∃ k : Nat,k ≤ ks.length ∧ i = I k ∧ Hid (∀ j (h : j < ks.length),j < k → hasB ls ks[j] = false)) (fun i => ks.length - (intOf i).toNat)
 case atStart => exact ⟨0,by omega,rfl,fun j h hj => absurd hj (by omega)⟩
 case round =>
  obtain ⟨k,hk2,rfl,hno⟩:=hrel
  by_cases hlt : k < ks.length
  ·obtain ⟨b1,o1,rfl,l1,hc⟩:=hk k hlt
   have K1:=l3Has_is b bc ls ks[k] w hl hll
   have HY : hasB ls ks[k] = true → Hid (mtB ks ls = true):=fun h => by
    show _ = _
    unfold mtB
    rw [List.any_eq_true]
    exact ⟨ks[k],List.getElem_mem hlt,h⟩
   have HN : hasB ls ks[k] = false → Hid (∀ j (h : j < ks.length),j < k + 1 → hasB ls ks[j] = false):=fun hh j h hj => by
    by_cases e : j = k
    ·subst e; exact hh
    ·exact hno.out j h (by omega)
   have hlt2 : (k : Int) < (ks.length : Int):=by omega
   clear hno
   generalize ks[k] = x at hc K1 HY HN
   generalize hasB ls x = v at K1 HY HN
   go_wp2_with fail
   refine K1.mono ?_
   clear K1 hc
   rintro en w1 ⟨rfl,rfl⟩
   cases v with
   | true =>
    have HY2:=HY rfl
    clear HY HN
    go_wp2
    go_ret
    exact ⟨by rw [HY2.out]; rfl,rfl⟩
   | false =>
    have HN2:=HN rfl
    clear HY HN
    go_wp2
    go_round
    case rel => exact ⟨k + 1,by omega,by go_num,HN2⟩
    case measure => simp [intOf]; omega
  ·have HV : Hid (mtB ks ls = false):=by
    show _ = _
    unfold mtB
    rw [List.any_eq_false]
    intro x hx
    obtain ⟨j,hj,rfl⟩:=List.getElem_of_mem hx
    rw [hno.out j hj (by omega)]
    simp
   clear hno hk hl
   go_wp2
   go_ret
   exact ⟨by rw [HV.out]; rfl,rfl⟩
end Go.Proofs.YtlmpfkbgknbcnaaGreat.Nd

set_option linter.unusedVariables false
namespace Go.Proofs.YtlmpfkbgknbcnaaGreat.Kn
open Go.RowKit _root_.Go.Proofs.YtlmpfkbgknbcnaaGreat.Own Var Term
end Go.Proofs.YtlmpfkbgknbcnaaGreat.Kn
namespace Go.Proofs.YtlmpfkbgknbcnaaGreat.Kn
open Go.RowKit _root_.Go.Proofs.YtlmpfkbgknbcnaaGreat.Own Var Term
end Go.Proofs.YtlmpfkbgknbcnaaGreat.Kn
namespace Go.Proofs.YtlmpfkbgknbcnaaGreat.Kn
open Go.RowKit _root_.Go.Proofs.YtlmpfkbgknbcnaaGreat.Own Var Term
theorem catch101_idle (w : World) :
  CallsD Tryz.prog 221 #[] .returning w fun e u' w' => e = .returned (.tuple #[]) ∧ u' = .returning ∧ w = w':=by
 refine callsD_of_wpS Tryz.func221 rfl fun c₀ cs hu => ?_
 apply wpS_region
 simp [wpOpsS,go_sem,recoverD,hu,Tryz.ntmps221,bodyPostS,results,Tryz.results221]
 cases c₀; simp_all
theorem catch101 (w : World) :
  CallsD Tryz.prog 221 #[] (.panicking noT) w fun e u' w' => e = .returned (.tuple #[]) ∧ u' = .panicking [{ v:=.iface 9 (.string ⟨#[110,111,32,116,101,114,109]⟩),recovered:=true }] ∧ w = w':=by
 refine callsD_of_wpS Tryz.func221 rfl fun c₀ cs hu => ?_
 apply wpS_region
 simp [wpOpsS,go_sem,recoverD,hu,Tryz.ntmps221,bodyPostS,results,Tryz.results221,noT]
set_option maxRecDepth 100000 in
set_option maxHeartbeats 1600000 in
theorem rkL_no (s : ByteArray) (kind : Nat) (F : Value) (w : World) (hs : s.size ≤ 2097152) (hr : rk s kind = none) :
  Calls Tryz.prog 217 #[.string s,.int .u8 kind,F] w fun e w' => e = .returned (.tuple #[.slice none 0 0,.bool false]) ∧ Below w.heap.size w w':=by
 have hmf : ∀ (fn : Fn) (first cap : Array Value) (w : World),(Instr.makeFunc fn first cap).run Tryz.prog w = .ok (.func fn first cap) w:=fun _ _ _ _ => rfl
 by_cases h : s.size ≤ 900
 ·have HC:=behindTerm_is s w (by omega)
  cases hB : bh 8 s with
  | none =>
   simp only [hB,ansB] at HC
   clear hr hB
   go_enter_defers Tryz.func217,Tryz.ntmps217
   go_wp2_with fail
   refine HC.mono ?_
   rintro e w1 ⟨rfl,hb⟩
   go_wp2
   refine leaves_cons (f:=221) (args:=#[]) (by simp) (by simp [go_sem]) ?_
   refine (catch101 _).mono ?_
   rintro e u' w'' ⟨rfl,rfl,rfl⟩
   simp [Leaves,settle,results,Tryz.results217,go_sem]
   exact hb
  | some r =>
   simp only [hB,ansB] at HC
   by_cases h0 : r.size = 0
   ·have hT : IsT s:=⟨h,r,hB,h0⟩
    have h2:=not_empty hT
    have hne:=nil_size r h0
    have hat:=at_eq s 0 (by omega)
    have hk : ((s[0].toNat : Int) == (kind : Int)) = false:=by
     rw [Bool.eq_false_iff]; intro hh; simp at hh
     obtain ⟨n,t,hc⟩:=hT.cut
     rw [rk_yes hT (by omega),hc] at hr
     simp at hr
    clear hr hB hT hat
    go_enter_defers Tryz.func217,Tryz.ntmps217
    go_wp2_with fail
    refine HC.mono ?_
    rintro e w1 ⟨rfl,hb⟩
    go_wp2_with fail
    refine (must_no _).mono ?_
    rintro e w2 ⟨rfl,rfl⟩
    go_wp2
    refine leaves_cons (f:=221) (args:=#[]) (by simp) (by simp [go_sem]) ?_
    refine (catch101 _).mono ?_
    rintro e u' w'' ⟨rfl,rfl,rfl⟩
    simp [Leaves,settle,results,Tryz.results217,go_sem]
    exact hb
   ·have hne:=ne_nil r (by omega)
    clear hr hB
    go_enter_defers Tryz.func217,Tryz.ntmps217
    go_wp2_with fail
    refine HC.mono ?_
    rintro e w1 ⟨rfl,hb⟩
    go_wp2_with fail
    refine (must_no _).mono ?_
    rintro e w2 ⟨rfl,rfl⟩
    go_wp2
    refine leaves_cons (f:=221) (args:=#[]) (by simp) (by simp [go_sem]) ?_
    refine (catch101 _).mono ?_
    rintro e u' w'' ⟨rfl,rfl,rfl⟩
    simp [Leaves,settle,results,Tryz.results217,go_sem]
    exact hb
 ·have h' : 900 < s.size:=by omega
  clear hr
  go_enter_defers Tryz.func217,Tryz.ntmps217
  go_wp2_with fail
  refine (must_no _).mono ?_
  rintro e w1 ⟨rfl,rfl⟩
  go_wp2
  refine leaves_cons (f:=221) (args:=#[]) (by simp) (by simp [go_sem]) ?_
  refine (catch101 _).mono ?_
  rintro e u' w'' ⟨rfl,rfl,rfl⟩
  simp [Leaves,settle,results,Tryz.results217,go_sem]
  exact Below.refl _ _
set_option maxRecDepth 100000 in
set_option maxHeartbeats 1600000 in
theorem rkL_yes (s r : ByteArray) (kind n : Nat) (k : FuncId) (cap : Array Value) (w : World) (Q : Value → World → Prop) (hs : s.size ≤ 1048576) (hr : rk s kind = some (n,r)) (hen : ∀ args w,(callFunc k args).run Tryz.prog w = .ok (.enter k args) w)
  (ht : ∀ w1,Below w.heap.size w w1 → Calls Tryz.prog k (#[I n,.string r] ++ cap) w1 fun e w2 => ∃ v,e = .returned v ∧ Q v w2) :
  Calls Tryz.prog 217 #[.string s,.int .u8 kind,.func (.func k) #[] cap] w fun e w' => ∃ v,e = .returned (.tuple #[v,.bool true]) ∧ Q v w':=by
 have hmf : ∀ (fn : Fn) (first cap : Array Value) (w : World),(Instr.makeFunc fn first cap).run Tryz.prog w = .ok (.func fn first cap) w:=fun _ _ _ _ => rfl
 have hT : IsT s ∧ at_ s 0 = kind:=by
  by_cases c : IsT s ∧ at_ s 0 = kind
  ·exact c
  ·rw [rk_no c] at hr; simp at hr
 rw [rk_yes hT.1 hT.2] at hr
 obtain ⟨hT,hk⟩:=hT
 have h2:=not_empty hT
 have hat:=at_eq s 0 (by omega)
 obtain ⟨h9,r0,hB,h0⟩:=hT
 have hne:=nil_size r0 h0
 have hk : ((s[0].toNat : Int) == (kind : Int)) = true:=by simp; omega
 have HC:=behindTerm_is s w hs
 simp only [hB,ansB] at HC
 clear hB hat
 go_enter_defers Tryz.func217,Tryz.ntmps217
 go_wp2_with fail
 refine HC.mono ?_
 rintro e w1 ⟨rfl,hb⟩
 go_wp2_with fail
 refine (must_yes _).mono ?_
 rintro e w2 ⟨rfl,rfl⟩
 go_wp2_with fail
 refine (cutHead_yes s r n _ hs hr).mono ?_
 rintro e w2 ⟨rfl,hb2⟩
 go_wp2_with fail
 refine (ht _ (hb.trans (hb2.mono hb.size))).mono ?_
 rintro e w3 ⟨v,rfl,hq⟩
 go_wp2
 refine leaves_cons (f:=221) (args:=#[]) (by simp) (by simp [go_sem]) ?_
 refine (catch101_idle _).mono ?_
 rintro e u' w'' ⟨rfl,rfl,rfl⟩
 simp [Leaves,settle,results,Tryz.results217,go_sem]
 exact hq
end Go.Proofs.YtlmpfkbgknbcnaaGreat.Kn

set_option linter.unusedVariables false
namespace Go.Proofs.YtlmpfkbgknbcnaaGreat.Kn
open Go.RowKit _root_.Go.Proofs.YtlmpfkbgknbcnaaGreat.Own Var Term
theorem in_is (x a b : Int) (w : World) : Calls Tryz.prog 22 #[I x,I a,I b] w fun e w' => e = .returned (.bool (decide (a ≤ x) && decide (x ≤ b))) ∧ w = w':=by
 by_cases h : a ≤ x
 ·go_enter Tryz.func22,Tryz.ntmps22
  go_wp2
  go_ret
  refine ⟨?_,rfl⟩
  simp [h]
 ·go_enter Tryz.func22,Tryz.ntmps22
  go_wp2
  go_ret
  refine ⟨?_,rfl⟩
  simp
  omega
end Go.Proofs.YtlmpfkbgknbcnaaGreat.Kn
