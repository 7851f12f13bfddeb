/- Ways along links: how far each of three realms is from one, by going through the links three times; the next hop. -/
import Derived.Test.YtflajkbbggmdjaaBase
set_option linter.unusedVariables false
namespace Go.Proofs.Ytflajkbbggmdjaa

def gt (zs : List Int) (r : Nat) : Int := zs.getD r 0
/-- One link is taken: what it leads from is no farther than one more than what it leads to. -/
def rel (zs : List Int) (a b : Nat) : List Int := zs.set a (min (gt zs a) (gt zs b + 1))
theorem rel_len (zs : List Int) (a b : Nat) : (rel zs a b).length = zs.length := by simp [rel]
theorem gt_rel (zs : List Int) (a b r : Nat) (ha : a < zs.length) : gt (rel zs a b) r = if r = a then min (gt zs a) (gt zs b + 1) else gt zs r := by
  unfold gt rel
  by_cases e : r = a
  · subst e
    rw [if_pos rfl]
    simp [List.getD, List.getElem?_set_self ha, gt]
  · rw [if_neg e]
    simp [List.getD, List.getElem?_set_ne (Ne.symm e)]
theorem rel_keep (zs : List Int) (a b : Nat) (ha : a < zs.length) (h : ¬ gt zs b + 1 < gt zs a) : rel zs a b = zs := by
  unfold rel
  rw [Int.min_eq_left (by omega)]
  apply List.ext_getElem?
  intro i
  by_cases e : a = i
  · subst e
    rw [List.getElem?_set_self ha]
    simp [gt, List.getD, ha]
  · rw [List.getElem?_set_ne e]
theorem rel_set (zs : List Int) (a b : Nat) (h : gt zs b + 1 < gt zs a) : rel zs a b = zs.set a (gt zs b + 1) := by
  unfold rel
  rw [Int.min_eq_right (by omega)]
def pass (Ps : List (Nat × Nat)) (zs : List Int) : List Int := Ps.foldl (fun z p => rel z p.1 p.2) zs
theorem pass_cons (p : Nat × Nat) (Ps : List (Nat × Nat)) (zs : List Int) : pass (p :: Ps) zs = pass Ps (rel zs p.1 p.2) := rfl
theorem pass_snoc (p : Nat × Nat) (Ps : List (Nat × Nat)) (zs : List Int) : pass (Ps ++ [p]) zs = rel (pass Ps zs) p.1 p.2 := by unfold pass; rw [List.foldl_append]; rfl
theorem pass_len (Ps : List (Nat × Nat)) : ∀ zs : List Int, (pass Ps zs).length = zs.length := by
  induction Ps with
  | nil => intro zs; rfl
  | cons p Ps ih => intro zs; rw [pass_cons, ih, rel_len]
/-- How far a realm is from t: at most two links, or three for none. -/
def far (h : Nat → Nat → Bool) (t r : Nat) : Int := if r = t then 0 else if h r t then 1 else if (h r 0 && h 0 t) || ((h r 1 && h 1 t) || (h r 2 && h 2 t)) then 2 else 3
theorem far_bd (h : Nat → Nat → Bool) (t r : Nat) : 0 ≤ far h t r ∧ far h t r ≤ 3 := by
  unfold far
  split
  · omega
  · split
    · omega
    · split <;> omega
theorem far_step (h : Nat → Nat → Bool) (t a b : Nat) (hb : b < 3) (hab : h a b = true) : far h t a ≤ far h t b + 1 := by
  by_cases e : a = t
  · have : far h t a = 0 := by unfold far; rw [if_pos e]
    have := (far_bd h t b).1
    omega
  · by_cases e1 : h a t = true
    · have : far h t a = 1 := by unfold far; rw [if_neg e, if_pos e1]
      have := (far_bd h t b).1
      omega
    · by_cases f : b = t
      · subst f; exact absurd hab e1
      · by_cases f1 : h b t = true
        · have k1 : far h t b = 1 := by unfold far; rw [if_neg f, if_pos f1]
          have k2 : far h t a ≤ 2 := by
            unfold far
            rw [if_neg e, if_neg e1, if_pos]
            · exact Int.le_refl _
            · have hb3 : b = 0 ∨ b = 1 ∨ b = 2 := by omega
              rcases hb3 with rfl | rfl | rfl
              · rw [hab, f1]; rfl
              · rw [hab, f1]; simp
              · rw [hab, f1]; simp
          omega
        · have k1 : 2 ≤ far h t b := by
            unfold far
            rw [if_neg f, if_neg f1]
            split <;> omega
          have := (far_bd h t a).2
          omega
section
variable {h : Nat → Nat → Bool} {t : Nat} {Ps : List (Nat × Nat)}
theorem pass_low (hP : ∀ p ∈ Ps, p.1 < 3 ∧ p.2 < 3 ∧ h p.1 p.2 = true) : ∀ zs : List Int, zs.length = 3 → (∀ r, r < 3 → far h t r ≤ gt zs r) → ∀ r, r < 3 → far h t r ≤ gt (pass Ps zs) r := by
  induction Ps with
  | nil => intro zs _ hz r hr; exact hz r hr
  | cons p Ps ih =>
    intro zs hl hz r hr
    obtain ⟨p1, p2, p3⟩ := hP p (List.mem_cons_self ..)
    rw [pass_cons]
    refine ih (fun q hq => hP q (List.mem_cons_of_mem _ hq)) _ (by rw [rel_len]; exact hl) (fun s hs => ?_) r hr
    rw [gt_rel _ _ _ _ (by omega)]
    by_cases e : s = p.1
    · subst e
      rw [if_pos rfl]
      have h1 := hz p.1 p1
      have h2 := hz p.2 p2
      have h3 := far_step h t p.1 p.2 p2 p3
      omega
    · rw [if_neg e]; exact hz s hs
theorem pass_mono (hP : ∀ p ∈ Ps, p.1 < 3 ∧ p.2 < 3 ∧ h p.1 p.2 = true) : ∀ zs : List Int, zs.length = 3 → ∀ r, gt (pass Ps zs) r ≤ gt zs r := by
  induction Ps with
  | nil => intro zs _ r; exact Int.le_refl _
  | cons p Ps ih =>
    intro zs hl r
    obtain ⟨p1, p2, p3⟩ := hP p (List.mem_cons_self ..)
    rw [pass_cons]
    have h1 := ih (fun q hq => hP q (List.mem_cons_of_mem _ hq)) (rel zs p.1 p.2) (by rw [rel_len]; exact hl) r
    rw [gt_rel _ _ _ _ (by omega)] at h1
    by_cases e : r = p.1
    · subst e
      rw [if_pos rfl] at h1
      omega
    · rw [if_neg e] at h1; exact h1
theorem pass_step (hP : ∀ p ∈ Ps, p.1 < 3 ∧ p.2 < 3 ∧ h p.1 p.2 = true) : ∀ zs : List Int, zs.length = 3 → ∀ a b, (a, b) ∈ Ps → gt (pass Ps zs) a ≤ gt zs b + 1 := by
  induction Ps with
  | nil => intro zs _ a b hm; cases hm
  | cons p Ps ih =>
    intro zs hl a b hm
    obtain ⟨p1, p2, p3⟩ := hP p (List.mem_cons_self ..)
    have hP' := fun q hq => hP q (List.mem_cons_of_mem p hq)
    have hl' : (rel zs p.1 p.2).length = 3 := by rw [rel_len]; exact hl
    rw [pass_cons]
    rcases List.mem_cons.1 hm with e | hm
    · subst e
      show gt (pass Ps (rel zs a b)) a ≤ _
      have h1 := pass_mono hP' (rel zs a b) hl' a
      rw [gt_rel _ _ _ _ (by omega), if_pos rfl] at h1
      omega
    · have h1 := ih hP' (rel zs p.1 p.2) hl' a b hm
      rw [gt_rel _ _ _ _ (by omega)] at h1
      by_cases e : b = p.1
      · subst e; rw [if_pos rfl] at h1; omega
      · rw [if_neg e] at h1; exact h1
def zed (t : Nat) : List Int := [3, 3, 3].set t 0
theorem zed_len (t : Nat) : (zed t).length = 3 := by simp [zed]
theorem gt_zed (t r : Nat) (ht : t < 3) (hr : r < 3) : gt (zed t) r = if r = t then 0 else 3 := by
  have h1 : t = 0 ∨ t = 1 ∨ t = 2 := by omega
  have h2 : r = 0 ∨ r = 1 ∨ r = 2 := by omega
  rcases h1 with rfl | rfl | rfl <;> rcases h2 with rfl | rfl | rfl <;> rfl
theorem three_pass (hP : ∀ p ∈ Ps, p.1 < 3 ∧ p.2 < 3 ∧ h p.1 p.2 = true) (hC : ∀ a b, a < 3 → b < 3 → h a b = true → (a, b) ∈ Ps) (ht : t < 3) :
    ∀ r, r < 3 → gt (pass Ps (pass Ps (pass Ps (zed t)))) r = far h t r := by
  have l0 := zed_len t
  have l1 : (pass Ps (zed t)).length = 3 := by rw [pass_len]; exact l0
  have l2 : (pass Ps (pass Ps (zed t))).length = 3 := by rw [pass_len]; exact l1
  have b0 : ∀ r, r < 3 → far h t r ≤ gt (zed t) r := fun r hr => by
    rw [gt_zed t r ht hr]
    split
    · rename_i e; subst e; unfold far; rw [if_pos rfl]; exact Int.le_refl _
    · exact (far_bd h t r).2
  have b1 := pass_low hP _ l0 b0
  have b2 := pass_low hP _ l1 b1
  have b3 := pass_low hP _ l2 b2
  have m1 := pass_mono hP _ l0
  have m2 := pass_mono hP _ l1
  have m3 := pass_mono hP _ l2
  have z0 : gt (zed t) t = 0 := by rw [gt_zed t t ht ht, if_pos rfl]
  intro r hr
  refine Int.le_antisymm ?_ (b3 r hr)
  unfold far
  split
  · rename_i e
    subst e
    have := m1 r; have := m2 r; have := m3 r
    omega
  · split
    · rename_i e1
      have := pass_step hP _ l0 r t (hC r t hr ht e1)
      have := m2 r; have := m3 r
      omega
    · split
      · rename_i e2
        have : ∃ m, m < 3 ∧ h r m = true ∧ h m t = true := by
          simp only [Bool.or_eq_true, Bool.and_eq_true] at e2
          rcases e2 with e2 | e2 | e2
          · exact ⟨0, by omega, e2⟩
          · exact ⟨1, by omega, e2⟩
          · exact ⟨2, by omega, e2⟩
        obtain ⟨m, hm, q1, q2⟩ := this
        have := pass_step hP _ l0 m t (hC m t hm ht q2)
        have := pass_step hP _ l1 r m (hC r m hr hm q1)
        have := m3 r
        omega
      · have := gt_zed t r ht hr
        have h0 : gt (zed t) r ≤ 3 := by rw [this]; split <;> omega
        have := m1 r; have := m2 r; have := m3 r
        omega
end
/-- The next hop: the least realm that is linked and nearer. -/
def hopN (h : Nat → Nat → Bool) (f t : Nat) : Int :=
  if h f 0 && decide (far h t 0 < far h t f) then 0 else if h f 1 && decide (far h t 1 < far h t f) then 1 else if h f 2 && decide (far h t 2 < far h t f) then 2 else -1
/-- The model's best so far. -/
def bestN (h : Nat → Nat → Bool) (f t : Nat) : Nat → Int
  | 0 => -1
  | r + 1 => if h f r && (decide (far h t r < 3) && (decide (bestN h f t r < 0) || decide (far h t r < far h t (bestN h f t r).toNat))) then (r : Int) else bestN h f t r
def tab (b01 b02 b10 b12 b20 b21 : Bool) : Nat → Nat → Bool
  | 0, 1 => b01 | 0, 2 => b02 | 1, 0 => b10 | 1, 2 => b12 | 2, 0 => b20 | 2, 1 => b21 | _, _ => false
theorem hop_tab : ∀ b01 b02 b10 b12 b20 b21 : Bool, ∀ f, f < 3 → ∀ t, t < 3 → (f ≠ t → bestN (tab b01 b02 b10 b12 b20 b21) f t 3 = hopN (tab b01 b02 b10 b12 b20 b21) f t) ∧ (f = t → hopN (tab b01 b02 b10 b12 b20 b21) f t = -1) := by decide +kernel
theorem way_tab : ∀ b01 b02 b10 b12 b20 b21 : Bool, ∀ f, f < 3 → ∀ t, t < 3 →
    (hopN (tab b01 b02 b10 b12 b20 b21) f t = -1 ∧ (f ≠ t → tab b01 b02 b10 b12 b20 b21 f t = false)) ∨
    (0 ≤ hopN (tab b01 b02 b10 b12 b20 b21) f t ∧ hopN (tab b01 b02 b10 b12 b20 b21) f t < 3 ∧ tab b01 b02 b10 b12 b20 b21 f (hopN (tab b01 b02 b10 b12 b20 b21) f t).toNat = true ∧ ((hopN (tab b01 b02 b10 b12 b20 b21) f t).toNat = t ∨ hopN (tab b01 b02 b10 b12 b20 b21) (hopN (tab b01 b02 b10 b12 b20 b21) f t).toNat t = (t : Int))) := by decide +kernel
section
variable {h g : Nat → Nat → Bool}
theorem far_congr (e : ∀ a b, a < 3 → b < 3 → h a b = g a b) {t r : Nat} (ht : t < 3) (hr : r < 3) : far h t r = far g t r := by
  unfold far
  rw [e r t hr ht, e r 0 hr (by omega), e 0 t (by omega) ht, e r 1 hr (by omega), e 1 t (by omega) ht, e r 2 hr (by omega), e 2 t (by omega) ht]
theorem hop_congr (e : ∀ a b, a < 3 → b < 3 → h a b = g a b) {f t : Nat} (hf : f < 3) (ht : t < 3) : hopN h f t = hopN g f t := by
  unfold hopN
  rw [e f 0 hf (by omega), e f 1 hf (by omega), e f 2 hf (by omega), far_congr e ht (show 0 < 3 by omega), far_congr e ht (show 1 < 3 by omega), far_congr e ht (show 2 < 3 by omega), far_congr e ht hf]
theorem best_bd (f t : Nat) : ∀ k, -1 ≤ bestN h f t k ∧ bestN h f t k < k := by
  intro k
  induction k with
  | zero => exact ⟨Int.le_refl _, by show (-1 : Int) < 0; omega⟩
  | succ k ih =>
    unfold bestN
    split
    · omega
    · omega
theorem best_congr (e : ∀ a b, a < 3 → b < 3 → h a b = g a b) {f t : Nat} (hf : f < 3) (ht : t < 3) : ∀ k, k ≤ 3 → bestN h f t k = bestN g f t k := by
  intro k
  induction k with
  | zero => intro _; rfl
  | succ k ih =>
    intro hk
    have i := ih (by omega)
    have b := best_bd (h := g) f t k
    unfold bestN
    rw [i, e f k hf (by omega), far_congr e ht (show k < 3 by omega), far_congr e ht (show (bestN g f t k).toNat < 3 by omega)]
theorem as_tab (hd : ∀ a, a < 3 → h a a = false) : ∀ a b, a < 3 → b < 3 → h a b = tab (h 0 1) (h 0 2) (h 1 0) (h 1 2) (h 2 0) (h 2 1) a b := by
  intro a b ha hb
  have h1 : a = 0 ∨ a = 1 ∨ a = 2 := by omega
  have h2 : b = 0 ∨ b = 1 ∨ b = 2 := by omega
  rcases h1 with rfl | rfl | rfl <;> rcases h2 with rfl | rfl | rfl
  · exact hd 0 (by omega)
  · rfl
  · rfl
  · rfl
  · exact hd 1 (by omega)
  · rfl
  · rfl
  · rfl
  · exact hd 2 (by omega)
theorem best_hop (hd : ∀ a, a < 3 → h a a = false) {f t : Nat} (hf : f < 3) (ht : t < 3) (hn : f ≠ t) : bestN h f t 3 = hopN h f t := by
  rw [best_congr (as_tab hd) hf ht 3 (Nat.le_refl _), hop_congr (as_tab hd) hf ht]
  exact (hop_tab _ _ _ _ _ _ f hf t ht).1 hn
theorem hop_alike (hd : ∀ a, a < 3 → h a a = false) {f : Nat} (hf : f < 3) : hopN h f f = -1 := by
  rw [hop_congr (as_tab hd) hf hf]
  exact (hop_tab _ _ _ _ _ _ f hf f hf).2 rfl
theorem hop_way (hd : ∀ a, a < 3 → h a a = false) {f t : Nat} (hf : f < 3) (ht : t < 3) :
    (hopN h f t = -1 ∧ (f ≠ t → h f t = false)) ∨ (∃ q : Nat, q < 3 ∧ hopN h f t = (q : Int) ∧ h f q = true ∧ (q = t ∨ hopN h q t = (t : Int))) := by
  have e := as_tab hd
  rcases way_tab (h 0 1) (h 0 2) (h 1 0) (h 1 2) (h 2 0) (h 2 1) f hf t ht with ⟨h1, h2⟩ | ⟨q0, q1, h2, h3⟩
  · exact Or.inl ⟨by rw [hop_congr e hf ht]; exact h1, fun n => by rw [e f t hf ht]; exact h2 n⟩
  · obtain ⟨q, h1⟩ : ∃ q : Nat, hopN (tab (h 0 1) (h 0 2) (h 1 0) (h 1 2) (h 2 0) (h 2 1)) f t = (q : Int) := ⟨_, (Int.toNat_of_nonneg q0).symm⟩
    rw [h1, Int.toNat_natCast] at h2 h3
    have hq : q < 3 := by omega
    refine Or.inr ⟨q, hq, by rw [hop_congr e hf ht]; exact h1, by rw [e f q hf hq]; exact h2, ?_⟩
    rcases h3 with h3 | h3
    · exact Or.inl h3
    · right; rw [hop_congr e hq ht]; exact h3
end
/-- The program's rounds. -/
def stp (h : Nat → Nat → Bool) (zs : List Int) (a b : Nat) : List Int := if h a b then rel zs a b else zs
def inn (h : Nat → Nat → Bool) (zs : List Int) (a : Nat) : Nat → List Int
  | 0 => zs
  | b + 1 => stp h (inn h zs a b) a b
def mid (h : Nat → Nat → Bool) (zs : List Int) : Nat → List Int
  | 0 => zs
  | a + 1 => inn h (mid h zs a) a 3
def out (h : Nat → Nat → Bool) (zs : List Int) : Nat → List Int
  | 0 => zs
  | k + 1 => mid h (out h zs k) 3
def nine : List (Nat × Nat) := [(0, 0), (0, 1), (0, 2), (1, 0), (1, 1), (1, 2), (2, 0), (2, 1), (2, 2)]
def allP (h : Nat → Nat → Bool) : List (Nat × Nat) := nine.filter fun p => h p.1 p.2
theorem mid_pass (h : Nat → Nat → Bool) (zs : List Int) : mid h zs 3 = pass (allP h) zs := by
  unfold allP pass
  rw [List.foldl_filter]
  rfl
theorem stp_len (h : Nat → Nat → Bool) (zs : List Int) (a b : Nat) : (stp h zs a b).length = zs.length := by
  unfold stp; split
  · exact rel_len _ _ _
  · rfl
theorem inn_len (h : Nat → Nat → Bool) (zs : List Int) (a : Nat) : ∀ b, (inn h zs a b).length = zs.length := by
  intro b
  induction b with
  | zero => rfl
  | succ b ih => show (stp h (inn h zs a b) a b).length = _; rw [stp_len, ih]
theorem mid_len (h : Nat → Nat → Bool) (zs : List Int) : ∀ a, (mid h zs a).length = zs.length := by
  intro a
  induction a with
  | zero => rfl
  | succ a ih => show (inn h (mid h zs a) a 3).length = _; rw [inn_len, ih]
theorem out_len (h : Nat → Nat → Bool) (zs : List Int) : ∀ k, (out h zs k).length = zs.length := by
  intro k
  induction k with
  | zero => rfl
  | succ k ih => show (mid h (out h zs k) 3).length = _; rw [mid_len, ih]
theorem nine_lt : ∀ p ∈ nine, p.1 < 3 ∧ p.2 < 3 := by unfold nine; decide
theorem out_far (h : Nat → Nat → Bool) {t : Nat} (ht : t < 3) : ∀ r, r < 3 → gt (out h (zed t) 3) r = far h t r := by
  have e : out h (zed t) 3 = pass (allP h) (pass (allP h) (pass (allP h) (zed t))) := by
    show mid h (mid h (mid h (zed t) 3) 3) 3 = _
    rw [mid_pass, mid_pass, mid_pass]
  rw [e]
  refine three_pass (fun p hp => ?_) (fun a b ha hb hab => ?_) ht
  · unfold allP at hp
    rw [List.mem_filter] at hp
    obtain ⟨h1, h2⟩ := hp
    have : p.1 < 3 ∧ p.2 < 3 := nine_lt p h1
    exact ⟨this.1, this.2, h2⟩
  · unfold allP
    rw [List.mem_filter]
    refine ⟨?_, hab⟩
    have h1 : a = 0 ∨ a = 1 ∨ a = 2 := by omega
    have h2 : b = 0 ∨ b = 1 ∨ b = 2 := by omega
    rcases h1 with rfl | rfl | rfl <;> rcases h2 with rfl | rfl | rfl <;> decide
/-- What comes of the ways stays small. -/
def SmallW (zs : List Int) : Prop := ∀ r, 0 ≤ gt zs r ∧ gt zs r ≤ 3
theorem SmallW.rel {zs : List Int} (h : SmallW zs) (a b : Nat) (ha : a < zs.length) : SmallW (rel zs a b) := by
  intro r
  rw [gt_rel _ _ _ _ ha]
  have h1 := h a
  have h2 := h b
  have h3 := h r
  split <;> omega
theorem SmallW.stp {zs : List Int} (h : SmallW zs) (g : Nat → Nat → Bool) (a b : Nat) (ha : a < zs.length) : SmallW (stp g zs a b) := by
  unfold Ytflajkbbggmdjaa.stp
  split
  · exact h.rel a b ha
  · exact h
theorem SmallW.zed (t : Nat) (ht : t < 3) : SmallW (zed t) := by
  intro r
  by_cases hr : r < 3
  · rw [gt_zed t r ht hr]; split <;> omega
  · have : gt (Ytflajkbbggmdjaa.zed t) r = 0 := by
      unfold gt
      simp [List.getD, List.getElem?_eq_none (show (Ytflajkbbggmdjaa.zed t).length ≤ r by rw [zed_len]; omega)]
    rw [this]; omega
theorem SmallW.pass {zs : List Int} (h : SmallW zs) (hl : zs.length = 3) (Ps : List (Nat × Nat)) (hP : ∀ p ∈ Ps, p.1 < 3) : SmallW (pass Ps zs) := by
  induction Ps generalizing zs with
  | nil => exact h
  | cons p Ps ih => exact ih (h.rel p.1 p.2 (by rw [hl]; exact hP p (List.mem_cons_self ..))) (by rw [rel_len]; exact hl) (fun q hq => hP q (List.mem_cons_of_mem _ hq))
end Go.Proofs.Ytflajkbbggmdjaa
