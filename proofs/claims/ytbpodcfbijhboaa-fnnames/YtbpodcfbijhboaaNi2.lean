/- The model reads a name. -/
import Derived.Test.YtbpodcfbijhboaaNi0
import Derived.Test.YtbpodcfbijhboaaNi1
set_option linter.unusedVariables false
set_option maxRecDepth 100000
namespace Go.Proofs.Ytbpodcfbijhboaa.Nd
open Go Go.RowKit Go.Joins Own Draw

/-- What the model carries: the part that is read, and the ones that are done. -/
structure Sps (B : Nat) (w wr : World) (v : Value) (l : List UInt8) (pa : Option Addr) (pc : Nat) (ps : List ByteArray) : Prop where
  hB : B = w.heap.size + 2
  tr : Blk w.heap.size [.slice none 0 0, .string ⟨#[]⟩] wr
  tn : Blk (w.heap.size + 1) [.slice pa ps.length pc, .string ⟨#[]⟩] wr
  op : wr.ownsRow B 5 1 v l.length (bytesOf l)
  os : wr.ownsRow B 9 1 (.slice pa ps.length pc) ps.length (ps.map Value.string)
  ds : (Value.slice pa ps.length pc).ownBlock = none ∨ (Value.slice pa ps.length pc).ownBlock ≠ v.ownBlock
  sz : B ≤ wr.heap.size
  bc : Below w.heap.size w wr
/-- The same without the part. -/
structure Spq (B : Nat) (w wr : World) (pa : Option Addr) (pc : Nat) (ps : List ByteArray) : Prop where
  hB : B = w.heap.size + 2
  tr : Blk w.heap.size [.slice none 0 0, .string ⟨#[]⟩] wr
  tn : Blk (w.heap.size + 1) [.slice pa ps.length pc, .string ⟨#[]⟩] wr
  os : wr.ownsRow B 9 1 (.slice pa ps.length pc) ps.length (ps.map Value.string)
  sz : B ≤ wr.heap.size
  bc : Below w.heap.size w wr
theorem Sps.alloc {B : Nat} {w wr : World} {v : Value} {l : List UInt8} {pa : Option Addr} {pc : Nat} {ps : List ByteArray} (h : Sps B w wr v l pa pc ps) (o : Obj) : Sps B w (wr.alloc o) v l pa pc ps :=
  ⟨h.hB, h.tr.alloc h.tr.lt _, h.tn.alloc h.tn.lt _, h.op.alloc o, h.os.alloc o, h.ds, by have := h.sz; simp; omega, h.bc.alloc (by have := h.bc.size; omega) _⟩
theorem Sps.push {B : Nat} {w U w1 : World} {v v1 : Value} {l l1 : List UInt8} {pa : Option Addr} {pc : Nat} {ps : List ByteArray} (h : Sps B w U v l pa pc ps)
    (own : w1.ownsRow B 5 1 v1 l1.length (bytesOf l1)) (hg : U.grownBy w1 v.ownBlock) (hw : v1.ownBlock = v.ownBlock ∨ v1.ownBlock = some U.heap.size) : Sps B w w1 v1 l1 pa pc ps := by
  have hr : ∀ q, q < B → some q ≠ v.ownBlock := fun q hq e => by have := (h.op.lt q e.symm).1; omega
  have hB := h.hB
  refine ⟨hB, blk_gr h.tr hg h.tr.lt (hr _ (by omega)), blk_gr h.tn hg h.tn.lt (hr _ (by omega)), own, h.os.kept hg h.ds, ?_, Nat.le_trans h.sz hg.size, h.bc.grown hg (by have := h.bc.size; omega) (fun q e => by have := (h.op.lt q e).1; omega)⟩
  rcases h.ds with e | e
  · exact Or.inl e
  · refine Or.inr fun c => ?_
    rcases hw with e2 | e2
    · exact e (c.trans e2)
    · have := (h.os.lt _ (c.trans e2)).2
      omega
theorem Sps.put {B : Nat} {w U w1 : World} {v : Value} {l : List UInt8} {pa na : Option Addr} {pc nc : Nat} {ps : List ByteArray} {sb : ByteArray} (h : Sps B w U v l pa pc ps)
    (own : w1.ownsRow B 9 1 (.slice na (ps.length + 1) nc) (ps.length + 1) (ps.map Value.string ++ [.string sb])) (hg : U.grownBy w1 (Value.slice pa ps.length pc).ownBlock) (hw : (Value.slice na (ps.length + 1) nc).ownBlock = (Value.slice pa ps.length pc).ownBlock ∨ (Value.slice na (ps.length + 1) nc).ownBlock = some U.heap.size) :
    Blk (w.heap.size + 1) [.slice pa ps.length pc, .string ⟨#[]⟩] w1 ∧ Spq B w (w1.setCell ⟨w.heap.size + 1, 0, none⟩ (.slice na (ps.length + 1) nc)) na nc (ps ++ [sb]) := by
  have hr : ∀ q, q < B → some q ≠ (Value.slice pa ps.length pc).ownBlock := fun q hq e => by have := (h.os.lt q e.symm).1; omega
  have hB := h.hB
  have tn1 := blk_gr h.tn hg h.tn.lt (hr _ (by omega))
  have tr1 := blk_gr h.tr hg h.tr.lt (hr _ (by omega))
  have hl : (ps ++ [sb]).length = ps.length + 1 := by simp
  refine ⟨tn1, hB, tr1.far (by omega) _ _, ?_, ?_, ?_, ?_⟩
  · rw [hl]; exact tn1.set 0 _
  · rw [hl, List.map_append]; exact own_set own (by omega)
  · have := h.sz; have := hg.size; simpa using (by omega : B ≤ w1.heap.size)
  · exact sets_below (by omega) _ _ _ (h.bc.grown hg (by have := h.bc.size; omega) (fun q e => by have := (h.os.lt q e).1; omega))
theorem Spq.fresh {B : Nat} {w wr : World} {pa : Option Addr} {pc : Nat} {ps : List ByteArray} (h : Spq B w wr pa pc ps) : Sps B w (wr.alloc (.cells #[] 5)) (.slice (some ⟨wr.heap.size, 0, none⟩) 0 0) [] pa pc ps :=
  ⟨h.hB, h.tr.alloc h.tr.lt _, h.tn.alloc h.tn.lt _, World.ownsRow_lit wr #[] 0 h.sz (by unfold maxLen; omega) rfl, h.os.alloc _, by
    cases e : (Value.slice pa ps.length pc).ownBlock with
    | none => exact Or.inl rfl
    | some q => refine Or.inr fun c => ?_
                have h1 := (h.os.lt q e).2
                injection c with c
                have c2 : q = wr.heap.size := c
                omega, by have := h.sz; simp; omega, h.bc.alloc (by have := h.bc.size; omega) _⟩
theorem drop_one {s : ByteArray} {k : Nat} (h : k + 1 = s.size) : (byL s).drop k = [s[k]] := by
  rw [byL_drop (by omega), List.drop_of_length_le (by show s.data.toList.length ≤ k + 1; have : s.data.toList.length = s.size := Array.length_toList.trans rfl; omega)]
set_option maxHeartbeats 200000000 in
theorem specRead_is (s : ByteArray) (w : World) (hs : s.size ≤ 1048576) : Calls Try.prog 16 #[.string s] w fun e w' => RdP w.heap.size s e w' ∧ Below w.heap.size w w' := by
  obtain ⟨ie, hie, his⟩ := info_T
  obtain ⟨i0, hi, hz0, hz1, hz2⟩ := info_parts infoB8
  obtain ⟨j0, hj, hy0, hy1, hy2⟩ := info_parts infoS9
  obtain ⟨V0, hV0⟩ : ∃ V, (w.alloc (.cells #[.slice none 0 0, .string ⟨#[]⟩] 26)).alloc (.cells #[.slice none 0 0, .string ⟨#[]⟩] 26) = V := ⟨_, rfl⟩
  have s0 : V0.heap.size = w.heap.size + 2 := by rw [← hV0]; simp
  have TRa : Blk w.heap.size [.slice none 0 0, .string ⟨#[]⟩] V0 := by rw [← hV0]; exact (Blk.new w #[.slice none 0 0, .string ⟨#[]⟩] 26).alloc (by simp) _
  have TNa : Blk (w.heap.size + 1) [.slice none 0 0, .string ⟨#[]⟩] V0 := by rw [← hV0]; have := Blk.new (w.alloc (.cells #[.slice none 0 0, .string ⟨#[]⟩] 26)) #[.slice none 0 0, .string ⟨#[]⟩] 26; simpa using this
  have BCa : Below w.heap.size w V0 := by rw [← hV0]; exact ((Below.refl _ _).alloc (Nat.le_refl _) _).alloc (by simp) _
  obtain ⟨Vb, hVb⟩ : ∃ V, V0.setCells (w.heap.size + 1) 0 [.slice none 0 0, .string ⟨#[]⟩] = V := ⟨_, rfl⟩
  have sb0 : Vb.heap.size = w.heap.size + 2 := by rw [← hVb]; simp [World.setCells, s0]
  have Q0 : Spq (w.heap.size + 2) w Vb none 0 [] := ⟨rfl, by rw [← hVb]; exact Blk.farS (by omega) _ _ _ TRa, by rw [← hVb]; exact TNa.sets _ rfl, World.ownsRow_nil _ _ _ _, by omega, by rw [← hVb]; exact below_sets (by omega) _ _ _ BCa⟩
  have S0 := Q0.fresh
  obtain ⟨V1, hV1⟩ : ∃ V, Vb.alloc (.cells #[] 5) = V := ⟨_, rfl⟩
  rw [hV1, sb0] at S0
  go_enter Try.func16, Try.ntmps16
  go_wp2_with (first | ((try rw [hV0]); refine wpList_stB 26 _ _ (w.heap.size + 1) 0 _ [.slice none 0 0, .string ⟨#[]⟩] ie hie TNa his.symm (by simp) rfl rfl rfl rfl rfl ?_; rw [hVb]) | go_in)
  try rw [hV1]
  try rw [sb0]
  clear hV0 hV1 Q0 TRa TNa BCa hVb
  go_loopw [5, 6, 7] (fun v r i wr => ∃ (k : Nat) (v' : Value) (l : List UInt8) (rb : Bool) (pa : Option Addr) (pc : Nat) (ps : List ByteArray), v = v' ∧ r = .bool rb ∧ i = .int .i64 (k : Int) ∧ k ≤ s.size ∧ l.length ≤ k ∧ ps.length ≤ k ∧ Hid (∀ x ∈ ps, x.size ≤ s.size) ∧ Hid (pS ((byL s).drop k) (ps, l, rb) = pS (byL s) ([], [], false)) ∧ Sps (w.heap.size + 2) w wr v' l pa pc ps) (fun _ _ i _ => s.size - (intOf i).toNat)
  case atStart => exact ⟨0, _, [], false, none, 0, [], rfl, rfl, rfl, Nat.zero_le _, Nat.zero_le _, Nat.zero_le _, (fun x hx => by cases hx), (rfl : pS ((byL s).drop 0) ([], [], false) = _), S0⟩
  case round =>
    clear S0 s0 sb0
    obtain ⟨k, v, l, rb, pa, pc, ps, hv, rfl, rfl, hk, hlk, hpk, HX, HD, HS⟩ := hrel
    have hv2 := hv.symm
    subst hv2
    by_cases hlt : k < s.size
    · have q1 : (k : Int) < (s.size : Int) := by omega
      have HDR : Hid ((byL s).drop k = s[k] :: (byL s).drop (k + 1)) := byL_drop hlt
      obtain ⟨b, hb⟩ : ∃ b, s[k]'hlt = b := ⟨_, rfl⟩
      rw [hb] at HDR
      by_cases hq : b.toNat = 92 ∧ k + 1 < s.size
      · obtain ⟨h92, hlt2⟩ := hq
        have q2 : ((b.toNat : Int) == 92) = true := by rw [beq_iff_eq]; omega
        have q3 : (k : Int) + 1 < (s.size : Int) := by omega
        have HDR2 : Hid ((byL s).drop (k + 1) = s[k + 1] :: (byL s).drop (k + 1 + 1)) := byL_drop hlt2
        obtain ⟨c, hc⟩ : ∃ c, s[k + 1]'hlt2 = c := ⟨_, rfl⟩
        rw [hc] at HDR2
        have DD : Hid (pS ((byL s).drop (k + 2)) (ps, l ++ [c], rb) = pS (byL s) ([], [], false)) := by
          show _ = _
          rw [← HD.out, HDR.out, HDR2.out, pS_quote h92]
        clear HD HDR HDR2 h92
        obtain ⟨U, hU⟩ : ∃ U, wr.alloc (.cells #[.int .u8 (c.toNat : Int)] 5) = U := ⟨_, rfl⟩
        have HSU : Sps (w.heap.size + 2) w U v l pa pc ps := by rw [← hU]; exact HS.alloc _
        have opU := HSU.op
        have nw : ∀ j u, [Value.int .u8 (c.toNat : Int)][j]? = some u → U.cell? ((⟨wr.heap.size, 0, none⟩ : Addr).add j) = some u := by rw [← hU]; exact news_one _ _ _
        have hszU := HSU.sz
        clear HS
        go_wp2_with (first | (at_builtin; (try rw [hU]); refine wpList_append_where _ rfl _ _ 22 rfl (w.heap.size + 2) 5 i0 (.int .u8 0) 1 1 Try.underlying22 hi hz0 hz1 hz2 rfl (by decide) _ _ _ rfl opU ⟨wr.heap.size, 0, none⟩ 1 1 [.int .u8 (c.toNat : Int)] rfl rfl nw ?e1_2 ?e1_3 ?e1_4 ?e1_5 (by omega) ?_) | go_in)
        case e1_2 => first | rfl | (intro u hu; simp at hu; subst hu; rfl)
        case e1_3 => unfold maxLen; omega
        case e1_4 => omega
        try (case e1_5 => omega)
        intro v1 w1 own hg hw
        have own2 : w1.ownsRow (w.heap.size + 2) 5 1 v1 (l ++ [c]).length (bytesOf (l ++ [c])) := by rw [show (l ++ [c]).length = l.length + 1 by simp, bytesOf_append]; exact own
        have HS1 := HSU.push own2 hg hw
        have hll : (l ++ [c]).length = l.length + 1 := by simp
        have HR : ∃ (k' : Nat) (v' : Value) (l' : List UInt8) (rb' : Bool) (pa' : Option Addr) (pc' : Nat) (ps' : List ByteArray), v1 = v' ∧ Value.bool rb = .bool rb' ∧ Value.int .i64 ((k : Int) + 1 + 1) = Value.int .i64 (k' : Int) ∧ k' ≤ s.size ∧ l'.length ≤ k' ∧ ps'.length ≤ k' ∧ Hid (∀ x ∈ ps', x.size ≤ s.size) ∧ Hid (pS ((byL s).drop k') (ps', l', rb') = pS (byL s) ([], [], false)) ∧ Sps (w.heap.size + 2) w w1 v' l' pa' pc' ps' := ⟨k + 2, v1, l ++ [c], rb, pa, pc, ps, rfl, rfl, by go_num, by omega, by omega, by omega, HX, DD, HS1⟩
        clear HS1 own own2 hg hw opU nw HSU hU hll DD HX hszU
        go_wp2
        go_roundw
        case rel => exact HR
        case measure => simp [intOf]; omega
      · have HP : Hid (pS ((byL s).drop k) (ps, l, rb) = if b.toNat = 47 ∧ rb = false then pS ((byL s).drop (k + 1)) (ps ++ [strB l], [], rb) else if b.toNat = 64 ∧ rb = false then pS ((byL s).drop (k + 1)) (ps ++ [strB l], [], true) else pS ((byL s).drop (k + 1)) (ps, l ++ [b], rb)) := by
          show _ = _
          by_cases h92 : b.toNat = 92
          · have hk1 : k + 1 = s.size := by omega
            have hd1 := drop_one hk1
            rw [hb] at hd1
            have hd2 : (byL s).drop (k + 1) = [] := List.drop_of_length_le (by show s.data.toList.length ≤ k + 1; have : s.data.toList.length = s.size := Array.length_toList.trans rfl; omega)
            rw [hd1, hd2, pS_last h92, if_neg (by omega), if_neg (by omega)]
            rfl
          · rw [HDR.out, pS_more h92]
        have hpick : (((b.toNat : Int) == 92) && decide ((k : Int) + 1 < (s.size : Int))) = false := by
          by_cases h92 : b.toNat = 92
          · rw [decide_eq_false (show ¬ (k : Int) + 1 < (s.size : Int) by omega), Bool.and_false]
          · rw [show ((b.toNat : Int) == 92) = false by rw [beq_eq_false_iff_ne]; omega]; rfl
        have HPK : Hid ((((b.toNat : Int) == 92) && decide ((k : Int) + 1 < (s.size : Int))) = false) := hpick
        clear HDR hpick
        by_cases hs1 : b.toNat = 47 ∧ rb = false
        · obtain ⟨h47, rfl⟩ := hs1
          have q2 : ((b.toNat : Int) == 92) = false := by rw [beq_eq_false_iff_ne]; omega
          have q3 : ((b.toNat : Int) == 47) = true := by rw [beq_iff_eq]; omega
          have DD0 : Hid (pS ((byL s).drop (k + 1)) (ps ++ [strB l], [], false) = pS (byL s) ([], [], false)) := by
            show _ = _
            rw [← HD.out, HP.out, if_pos ⟨h47, rfl⟩]
          clear HD HP HPK h47 hq
          obtain ⟨sb, hsb⟩ : ∃ sb, (⟨l.toArray⟩ : ByteArray) = sb := ⟨_, rfl⟩
          have hcv := conv_own (P := Try.prog) 22 9 5 Try.underlying22 Try.underlying5 Try.underlying9 HS.op
          rw [hsb] at hcv
          have hsbs : sb.size = l.length := by rw [← hsb]; simp [ByteArray.size]
          have HSB : Hid (strB l = sb) := hsb
          obtain ⟨U, hU⟩ : ∃ U, wr.alloc (.cells #[.string sb] 9) = U := ⟨_, rfl⟩
          have HSU : Sps (w.heap.size + 2) w U v l pa pc ps := by rw [← hU]; exact HS.alloc _
          have osU := HSU.os
          have nw : ∀ j u, [Value.string sb][j]? = some u → U.cell? ((⟨wr.heap.size, 0, none⟩ : Addr).add j) = some u := by rw [← hU]; exact news_one _ _ _
          have hszU := HSU.sz
          have d0 := HS.tn.at 0 rfl
          have HX2 : Hid (∀ x ∈ ps ++ [sb], x.size ≤ s.size) := fun x hx => by
            rcases List.mem_append.1 hx with hx | hx
            · exact HX.out x hx
            · rw [List.mem_singleton] at hx
              subst hx; omega
          clear HS hsb HX
          go_wp2_with (first | (at_builtin; (try rw [hU]); refine wpList_append_where _ rfl _ _ 24 rfl (w.heap.size + 2) 9 j0 (.string ⟨#[]⟩) 1 16 Try.underlying24 hj hy0 hy1 hy2 rfl (by decide) _ _ _ rfl osU ⟨wr.heap.size, 0, none⟩ 1 1 [.string sb] rfl rfl nw ?e2_2 ?e2_3 ?e2_4 ?e2_5 (by omega) ?_) | go_in)
          case e2_2 => first | rfl | (intro u hu; simp at hu; subst hu; rfl)
          case e2_3 => unfold maxLen; omega
          case e2_4 => omega
          try (case e2_5 => omega)
          intro v1 w1 own hg hw
          obtain ⟨na, nc, rfl, _⟩ := own_shape own
          obtain ⟨w2, hw2⟩ : ∃ W, w1.setCell ⟨w.heap.size + 1, 0, none⟩ (.slice na (ps.length + 1) nc) = W := ⟨_, rfl⟩
          have hput := HSU.put own hg hw
          have e0 := hput.1.at 0 rfl
          have z0 := hput.1.fz 0 rfl
          have hp2 := hput.2
          rw [hw2] at hp2
          clear hput own hg hw osU nw HSU hU d0 hcv

          have HS1 := hp2.fresh
          have hpl : (ps ++ [sb]).length = ps.length + 1 := by simp
          obtain ⟨w3, hw3⟩ : ∃ W, w2.alloc (.cells #[] 5) = W := ⟨_, rfl⟩
          obtain ⟨g3, hg3⟩ : ∃ g, w2.heap.size = g := ⟨_, rfl⟩
          rw [hw3] at HS1
          rw [hg3] at HS1
          have DD : Hid (pS ((byL s).drop (k + 1)) (ps ++ [sb], [], false) = pS (byL s) ([], [], false)) := by have h_ := DD0.out; rw [HSB.out] at h_; exact h_
          have HR : ∃ (k' : Nat) (v' : Value) (l' : List UInt8) (rb' : Bool) (pa' : Option Addr) (pc' : Nat) (ps' : List ByteArray), (Value.slice (some ⟨g3, 0, none⟩) 0 0) = v' ∧ Value.bool false = .bool rb' ∧ Value.int .i64 ((k : Int) + 1) = Value.int .i64 (k' : Int) ∧ k' ≤ s.size ∧ l'.length ≤ k' ∧ ps'.length ≤ k' ∧ Hid (∀ x ∈ ps', x.size ≤ s.size) ∧ Hid (pS ((byL s).drop k') (ps', l', rb') = pS (byL s) ([], [], false)) ∧ Sps (w.heap.size + 2) w w3 v' l' pa' pc' ps' := ⟨k + 1, .slice (some ⟨g3, 0, none⟩) 0 0, [], false, na, nc, ps ++ [sb], rfl, rfl, by go_num, by omega, Nat.zero_le _, by omega, HX2, DD, HS1⟩
          clear HS1 hp2 DD DD0 HX2 HSB hpl hszU hsbs
          go_wp2
          try rw [hw2]
          try rw [hw3]
          try rw [hg3]
          go_roundw
          case rel => exact HR
          case measure => simp [intOf]; omega
        · by_cases hs2 : b.toNat = 64 ∧ rb = false
          · obtain ⟨h64, rfl⟩ := hs2
            have q2 : ((b.toNat : Int) == 92) = false := by rw [beq_eq_false_iff_ne]; omega
            have q3 : ((b.toNat : Int) == 47) = false := by rw [beq_eq_false_iff_ne]; omega
            have q4 : ((b.toNat : Int) == 64) = true := by rw [beq_iff_eq]; omega
            have DD0 : Hid (pS ((byL s).drop (k + 1)) (ps ++ [strB l], [], true) = pS (byL s) ([], [], false)) := by
              show _ = _
              rw [← HD.out, HP.out, if_neg hs1, if_pos ⟨h64, rfl⟩]
            clear HD HP HPK h64 hq hs1
            obtain ⟨sb, hsb⟩ : ∃ sb, (⟨l.toArray⟩ : ByteArray) = sb := ⟨_, rfl⟩
            have hcv := conv_own (P := Try.prog) 22 9 5 Try.underlying22 Try.underlying5 Try.underlying9 HS.op
            rw [hsb] at hcv
            have hsbs : sb.size = l.length := by rw [← hsb]; simp [ByteArray.size]
            have HSB : Hid (strB l = sb) := hsb
            obtain ⟨U, hU⟩ : ∃ U, wr.alloc (.cells #[.string sb] 9) = U := ⟨_, rfl⟩
            have HSU : Sps (w.heap.size + 2) w U v l pa pc ps := by rw [← hU]; exact HS.alloc _
            have osU := HSU.os
            have nw : ∀ j u, [Value.string sb][j]? = some u → U.cell? ((⟨wr.heap.size, 0, none⟩ : Addr).add j) = some u := by rw [← hU]; exact news_one _ _ _
            have hszU := HSU.sz
            have d0 := HS.tn.at 0 rfl
            have HX2 : Hid (∀ x ∈ ps ++ [sb], x.size ≤ s.size) := fun x hx => by
              rcases List.mem_append.1 hx with hx | hx
              · exact HX.out x hx
              · rw [List.mem_singleton] at hx
                subst hx; omega
            clear HS hsb HX
            go_wp2_with (first | (at_builtin; (try rw [hU]); refine wpList_append_where _ rfl _ _ 24 rfl (w.heap.size + 2) 9 j0 (.string ⟨#[]⟩) 1 16 Try.underlying24 hj hy0 hy1 hy2 rfl (by decide) _ _ _ rfl osU ⟨wr.heap.size, 0, none⟩ 1 1 [.string sb] rfl rfl nw ?e3_2 ?e3_3 ?e3_4 ?e3_5 (by omega) ?_) | go_in)
            case e3_2 => first | rfl | (intro u hu; simp at hu; subst hu; rfl)
            case e3_3 => unfold maxLen; omega
            case e3_4 => omega
            try (case e3_5 => omega)
            intro v1 w1 own hg hw
            obtain ⟨na, nc, rfl, _⟩ := own_shape own
            obtain ⟨w2, hw2⟩ : ∃ W, w1.setCell ⟨w.heap.size + 1, 0, none⟩ (.slice na (ps.length + 1) nc) = W := ⟨_, rfl⟩
            have hput := HSU.put own hg hw
            have e0 := hput.1.at 0 rfl
            have z0 := hput.1.fz 0 rfl
            have hp2 := hput.2
            rw [hw2] at hp2
            clear hput own hg hw osU nw HSU hU d0 hcv

            have HS1 := hp2.fresh
            have hpl : (ps ++ [sb]).length = ps.length + 1 := by simp
            obtain ⟨w3, hw3⟩ : ∃ W, w2.alloc (.cells #[] 5) = W := ⟨_, rfl⟩
            obtain ⟨g3, hg3⟩ : ∃ g, w2.heap.size = g := ⟨_, rfl⟩
            rw [hw3] at HS1
            rw [hg3] at HS1
            have DD : Hid (pS ((byL s).drop (k + 1)) (ps ++ [sb], [], true) = pS (byL s) ([], [], false)) := by have h_ := DD0.out; rw [HSB.out] at h_; exact h_
            have HR : ∃ (k' : Nat) (v' : Value) (l' : List UInt8) (rb' : Bool) (pa' : Option Addr) (pc' : Nat) (ps' : List ByteArray), (Value.slice (some ⟨g3, 0, none⟩) 0 0) = v' ∧ Value.bool true = .bool rb' ∧ Value.int .i64 ((k : Int) + 1) = Value.int .i64 (k' : Int) ∧ k' ≤ s.size ∧ l'.length ≤ k' ∧ ps'.length ≤ k' ∧ Hid (∀ x ∈ ps', x.size ≤ s.size) ∧ Hid (pS ((byL s).drop k') (ps', l', rb') = pS (byL s) ([], [], false)) ∧ Sps (w.heap.size + 2) w w3 v' l' pa' pc' ps' := ⟨k + 1, .slice (some ⟨g3, 0, none⟩) 0 0, [], true, na, nc, ps ++ [sb], rfl, rfl, by go_num, by omega, Nat.zero_le _, by omega, HX2, DD, HS1⟩
            clear HS1 hp2 DD DD0 HX2 HSB hpl hszU hsbs
            go_wp2
            try rw [hw2]
            try rw [hw3]
            try rw [hg3]
            go_roundw
            case rel => exact HR
            case measure => simp [intOf]; omega
          · have DD : Hid (pS ((byL s).drop (k + 1)) (ps, l ++ [b], rb) = pS (byL s) ([], [], false)) := by
              show _ = _
              rw [← HD.out, HP.out, if_neg hs1, if_neg hs2]
            clear HD HP
            by_cases h92 : b.toNat = 92
            · have q2 : ((b.toNat : Int) == 92) = true := by rw [beq_iff_eq]; omega
              have q3 : ¬ (k : Int) + 1 < (s.size : Int) := by omega
              have q4 : ((b.toNat : Int) == 47) = false := by rw [beq_eq_false_iff_ne]; omega
              have q5 : ((b.toNat : Int) == 64) = false := by rw [beq_eq_false_iff_ne]; omega
              clear hs1 hs2 hq h92 HPK
              obtain ⟨U, hU⟩ : ∃ U, wr.alloc (.cells #[.int .u8 (b.toNat : Int)] 5) = U := ⟨_, rfl⟩
              have HSU : Sps (w.heap.size + 2) w U v l pa pc ps := by rw [← hU]; exact HS.alloc _
              have opU := HSU.op
              have nw : ∀ j u, [Value.int .u8 (b.toNat : Int)][j]? = some u → U.cell? ((⟨wr.heap.size, 0, none⟩ : Addr).add j) = some u := by rw [← hU]; exact news_one _ _ _
              have hszU := HSU.sz
              clear HS
              go_wp2_with (first | (at_builtin; (try rw [hU]); refine wpList_append_where _ rfl _ _ 22 rfl (w.heap.size + 2) 5 i0 (.int .u8 0) 1 1 Try.underlying22 hi hz0 hz1 hz2 rfl (by decide) _ _ _ rfl opU ⟨wr.heap.size, 0, none⟩ 1 1 [.int .u8 (b.toNat : Int)] rfl rfl nw ?e4_2 ?e4_3 ?e4_4 ?e4_5 (by omega) ?_) | go_in)
              case e4_2 => first | rfl | (intro u hu; simp at hu; subst hu; rfl)
              case e4_3 => unfold maxLen; omega
              case e4_4 => omega
              try (case e4_5 => omega)
              intro v1 w1 own hg hw
              have own2 : w1.ownsRow (w.heap.size + 2) 5 1 v1 (l ++ [b]).length (bytesOf (l ++ [b])) := by rw [show (l ++ [b]).length = l.length + 1 by simp, bytesOf_append]; exact own
              have HS1 := HSU.push own2 hg hw
              have hll : (l ++ [b]).length = l.length + 1 := by simp
              have HR : ∃ (k' : Nat) (v' : Value) (l' : List UInt8) (rb' : Bool) (pa' : Option Addr) (pc' : Nat) (ps' : List ByteArray), v1 = v' ∧ Value.bool rb = .bool rb' ∧ Value.int .i64 ((k : Int) + 1) = Value.int .i64 (k' : Int) ∧ k' ≤ s.size ∧ l'.length ≤ k' ∧ ps'.length ≤ k' ∧ Hid (∀ x ∈ ps', x.size ≤ s.size) ∧ Hid (pS ((byL s).drop k') (ps', l', rb') = pS (byL s) ([], [], false)) ∧ Sps (w.heap.size + 2) w w1 v' l' pa' pc' ps' := ⟨k + 1, v1, l ++ [b], rb, pa, pc, ps, rfl, rfl, by go_num, by omega, by omega, by omega, HX, DD, HS1⟩
              clear HS1 own own2 hg hw opU nw HSU hU hll DD HX hszU
              go_wp2
              go_roundw
              case rel => exact HR
              case measure => simp [intOf]; omega
            · have q2 : ((b.toNat : Int) == 92) = false := by rw [beq_eq_false_iff_ne]; omega
              cases rb with
              | true =>
                obtain ⟨f47, hf47⟩ : ∃ f, ((b.toNat : Int) == 47) = f := ⟨_, rfl⟩
                obtain ⟨f64, hf64⟩ : ∃ f, ((b.toNat : Int) == 64) = f := ⟨_, rfl⟩
                clear hs1 hs2 hq h92 HPK
                cases f47
                · cases f64
                  · skip
                    obtain ⟨U, hU⟩ : ∃ U, wr.alloc (.cells #[.int .u8 (b.toNat : Int)] 5) = U := ⟨_, rfl⟩
                    have HSU : Sps (w.heap.size + 2) w U v l pa pc ps := by rw [← hU]; exact HS.alloc _
                    have opU := HSU.op
                    have nw : ∀ j u, [Value.int .u8 (b.toNat : Int)][j]? = some u → U.cell? ((⟨wr.heap.size, 0, none⟩ : Addr).add j) = some u := by rw [← hU]; exact news_one _ _ _
                    have hszU := HSU.sz
                    clear HS
                    go_wp2_with (first | (at_builtin; (try rw [hU]); refine wpList_append_where _ rfl _ _ 22 rfl (w.heap.size + 2) 5 i0 (.int .u8 0) 1 1 Try.underlying22 hi hz0 hz1 hz2 rfl (by decide) _ _ _ rfl opU ⟨wr.heap.size, 0, none⟩ 1 1 [.int .u8 (b.toNat : Int)] rfl rfl nw ?e5_2 ?e5_3 ?e5_4 ?e5_5 (by omega) ?_) | go_in)
                    case e5_2 => first | rfl | (intro u hu; simp at hu; subst hu; rfl)
                    case e5_3 => unfold maxLen; omega
                    case e5_4 => omega
                    try (case e5_5 => omega)
                    intro v1 w1 own hg hw
                    have own2 : w1.ownsRow (w.heap.size + 2) 5 1 v1 (l ++ [b]).length (bytesOf (l ++ [b])) := by rw [show (l ++ [b]).length = l.length + 1 by simp, bytesOf_append]; exact own
                    have HS1 := HSU.push own2 hg hw
                    have hll : (l ++ [b]).length = l.length + 1 := by simp
                    have HR : ∃ (k' : Nat) (v' : Value) (l' : List UInt8) (rb' : Bool) (pa' : Option Addr) (pc' : Nat) (ps' : List ByteArray), v1 = v' ∧ Value.bool true = .bool rb' ∧ Value.int .i64 ((k : Int) + 1) = Value.int .i64 (k' : Int) ∧ k' ≤ s.size ∧ l'.length ≤ k' ∧ ps'.length ≤ k' ∧ Hid (∀ x ∈ ps', x.size ≤ s.size) ∧ Hid (pS ((byL s).drop k') (ps', l', rb') = pS (byL s) ([], [], false)) ∧ Sps (w.heap.size + 2) w w1 v' l' pa' pc' ps' := ⟨k + 1, v1, l ++ [b], true, pa, pc, ps, rfl, rfl, by go_num, by omega, by omega, by omega, HX, DD, HS1⟩
                    clear HS1 own own2 hg hw opU nw HSU hU hll DD HX hszU
                    go_wp2
                    go_roundw
                    case rel => exact HR
                    case measure => simp [intOf]; omega
                  · skip
                    obtain ⟨U, hU⟩ : ∃ U, wr.alloc (.cells #[.int .u8 (b.toNat : Int)] 5) = U := ⟨_, rfl⟩
                    have HSU : Sps (w.heap.size + 2) w U v l pa pc ps := by rw [← hU]; exact HS.alloc _
                    have opU := HSU.op
                    have nw : ∀ j u, [Value.int .u8 (b.toNat : Int)][j]? = some u → U.cell? ((⟨wr.heap.size, 0, none⟩ : Addr).add j) = some u := by rw [← hU]; exact news_one _ _ _
                    have hszU := HSU.sz
                    clear HS
                    go_wp2_with (first | (at_builtin; (try rw [hU]); refine wpList_append_where _ rfl _ _ 22 rfl (w.heap.size + 2) 5 i0 (.int .u8 0) 1 1 Try.underlying22 hi hz0 hz1 hz2 rfl (by decide) _ _ _ rfl opU ⟨wr.heap.size, 0, none⟩ 1 1 [.int .u8 (b.toNat : Int)] rfl rfl nw ?e6_2 ?e6_3 ?e6_4 ?e6_5 (by omega) ?_) | go_in)
                    case e6_2 => first | rfl | (intro u hu; simp at hu; subst hu; rfl)
                    case e6_3 => unfold maxLen; omega
                    case e6_4 => omega
                    try (case e6_5 => omega)
                    intro v1 w1 own hg hw
                    have own2 : w1.ownsRow (w.heap.size + 2) 5 1 v1 (l ++ [b]).length (bytesOf (l ++ [b])) := by rw [show (l ++ [b]).length = l.length + 1 by simp, bytesOf_append]; exact own
                    have HS1 := HSU.push own2 hg hw
                    have hll : (l ++ [b]).length = l.length + 1 := by simp
                    have HR : ∃ (k' : Nat) (v' : Value) (l' : List UInt8) (rb' : Bool) (pa' : Option Addr) (pc' : Nat) (ps' : List ByteArray), v1 = v' ∧ Value.bool true = .bool rb' ∧ Value.int .i64 ((k : Int) + 1) = Value.int .i64 (k' : Int) ∧ k' ≤ s.size ∧ l'.length ≤ k' ∧ ps'.length ≤ k' ∧ Hid (∀ x ∈ ps', x.size ≤ s.size) ∧ Hid (pS ((byL s).drop k') (ps', l', rb') = pS (byL s) ([], [], false)) ∧ Sps (w.heap.size + 2) w w1 v' l' pa' pc' ps' := ⟨k + 1, v1, l ++ [b], true, pa, pc, ps, rfl, rfl, by go_num, by omega, by omega, by omega, HX, DD, HS1⟩
                    clear HS1 own own2 hg hw opU nw HSU hU hll DD HX hszU
                    go_wp2
                    go_roundw
                    case rel => exact HR
                    case measure => simp [intOf]; omega
                · cases f64
                  · skip
                    obtain ⟨U, hU⟩ : ∃ U, wr.alloc (.cells #[.int .u8 (b.toNat : Int)] 5) = U := ⟨_, rfl⟩
                    have HSU : Sps (w.heap.size + 2) w U v l pa pc ps := by rw [← hU]; exact HS.alloc _
                    have opU := HSU.op
                    have nw : ∀ j u, [Value.int .u8 (b.toNat : Int)][j]? = some u → U.cell? ((⟨wr.heap.size, 0, none⟩ : Addr).add j) = some u := by rw [← hU]; exact news_one _ _ _
                    have hszU := HSU.sz
                    clear HS
                    go_wp2_with (first | (at_builtin; (try rw [hU]); refine wpList_append_where _ rfl _ _ 22 rfl (w.heap.size + 2) 5 i0 (.int .u8 0) 1 1 Try.underlying22 hi hz0 hz1 hz2 rfl (by decide) _ _ _ rfl opU ⟨wr.heap.size, 0, none⟩ 1 1 [.int .u8 (b.toNat : Int)] rfl rfl nw ?e7_2 ?e7_3 ?e7_4 ?e7_5 (by omega) ?_) | go_in)
                    case e7_2 => first | rfl | (intro u hu; simp at hu; subst hu; rfl)
                    case e7_3 => unfold maxLen; omega
                    case e7_4 => omega
                    try (case e7_5 => omega)
                    intro v1 w1 own hg hw
                    have own2 : w1.ownsRow (w.heap.size + 2) 5 1 v1 (l ++ [b]).length (bytesOf (l ++ [b])) := by rw [show (l ++ [b]).length = l.length + 1 by simp, bytesOf_append]; exact own
                    have HS1 := HSU.push own2 hg hw
                    have hll : (l ++ [b]).length = l.length + 1 := by simp
                    have HR : ∃ (k' : Nat) (v' : Value) (l' : List UInt8) (rb' : Bool) (pa' : Option Addr) (pc' : Nat) (ps' : List ByteArray), v1 = v' ∧ Value.bool true = .bool rb' ∧ Value.int .i64 ((k : Int) + 1) = Value.int .i64 (k' : Int) ∧ k' ≤ s.size ∧ l'.length ≤ k' ∧ ps'.length ≤ k' ∧ Hid (∀ x ∈ ps', x.size ≤ s.size) ∧ Hid (pS ((byL s).drop k') (ps', l', rb') = pS (byL s) ([], [], false)) ∧ Sps (w.heap.size + 2) w w1 v' l' pa' pc' ps' := ⟨k + 1, v1, l ++ [b], true, pa, pc, ps, rfl, rfl, by go_num, by omega, by omega, by omega, HX, DD, HS1⟩
                    clear HS1 own own2 hg hw opU nw HSU hU hll DD HX hszU
                    go_wp2
                    go_roundw
                    case rel => exact HR
                    case measure => simp [intOf]; omega
                  · skip
                    obtain ⟨U, hU⟩ : ∃ U, wr.alloc (.cells #[.int .u8 (b.toNat : Int)] 5) = U := ⟨_, rfl⟩
                    have HSU : Sps (w.heap.size + 2) w U v l pa pc ps := by rw [← hU]; exact HS.alloc _
                    have opU := HSU.op
                    have nw : ∀ j u, [Value.int .u8 (b.toNat : Int)][j]? = some u → U.cell? ((⟨wr.heap.size, 0, none⟩ : Addr).add j) = some u := by rw [← hU]; exact news_one _ _ _
                    have hszU := HSU.sz
                    clear HS
                    go_wp2_with (first | (at_builtin; (try rw [hU]); refine wpList_append_where _ rfl _ _ 22 rfl (w.heap.size + 2) 5 i0 (.int .u8 0) 1 1 Try.underlying22 hi hz0 hz1 hz2 rfl (by decide) _ _ _ rfl opU ⟨wr.heap.size, 0, none⟩ 1 1 [.int .u8 (b.toNat : Int)] rfl rfl nw ?e8_2 ?e8_3 ?e8_4 ?e8_5 (by omega) ?_) | go_in)
                    case e8_2 => first | rfl | (intro u hu; simp at hu; subst hu; rfl)
                    case e8_3 => unfold maxLen; omega
                    case e8_4 => omega
                    try (case e8_5 => omega)
                    intro v1 w1 own hg hw
                    have own2 : w1.ownsRow (w.heap.size + 2) 5 1 v1 (l ++ [b]).length (bytesOf (l ++ [b])) := by rw [show (l ++ [b]).length = l.length + 1 by simp, bytesOf_append]; exact own
                    have HS1 := HSU.push own2 hg hw
                    have hll : (l ++ [b]).length = l.length + 1 := by simp
                    have HR : ∃ (k' : Nat) (v' : Value) (l' : List UInt8) (rb' : Bool) (pa' : Option Addr) (pc' : Nat) (ps' : List ByteArray), v1 = v' ∧ Value.bool true = .bool rb' ∧ Value.int .i64 ((k : Int) + 1) = Value.int .i64 (k' : Int) ∧ k' ≤ s.size ∧ l'.length ≤ k' ∧ ps'.length ≤ k' ∧ Hid (∀ x ∈ ps', x.size ≤ s.size) ∧ Hid (pS ((byL s).drop k') (ps', l', rb') = pS (byL s) ([], [], false)) ∧ Sps (w.heap.size + 2) w w1 v' l' pa' pc' ps' := ⟨k + 1, v1, l ++ [b], true, pa, pc, ps, rfl, rfl, by go_num, by omega, by omega, by omega, HX, DD, HS1⟩
                    clear HS1 own own2 hg hw opU nw HSU hU hll DD HX hszU
                    go_wp2
                    go_roundw
                    case rel => exact HR
                    case measure => simp [intOf]; omega
              | false =>
                have q4 : ((b.toNat : Int) == 47) = false := by rw [beq_eq_false_iff_ne]; intro c; exact hs1 ⟨by omega, rfl⟩
                have q5 : ((b.toNat : Int) == 64) = false := by rw [beq_eq_false_iff_ne]; intro c; exact hs2 ⟨by omega, rfl⟩
                clear hs1 hs2 hq h92 HPK
                obtain ⟨U, hU⟩ : ∃ U, wr.alloc (.cells #[.int .u8 (b.toNat : Int)] 5) = U := ⟨_, rfl⟩
                have HSU : Sps (w.heap.size + 2) w U v l pa pc ps := by rw [← hU]; exact HS.alloc _
                have opU := HSU.op
                have nw : ∀ j u, [Value.int .u8 (b.toNat : Int)][j]? = some u → U.cell? ((⟨wr.heap.size, 0, none⟩ : Addr).add j) = some u := by rw [← hU]; exact news_one _ _ _
                have hszU := HSU.sz
                clear HS
                go_wp2_with (first | (at_builtin; (try rw [hU]); refine wpList_append_where _ rfl _ _ 22 rfl (w.heap.size + 2) 5 i0 (.int .u8 0) 1 1 Try.underlying22 hi hz0 hz1 hz2 rfl (by decide) _ _ _ rfl opU ⟨wr.heap.size, 0, none⟩ 1 1 [.int .u8 (b.toNat : Int)] rfl rfl nw ?e9_2 ?e9_3 ?e9_4 ?e9_5 (by omega) ?_) | go_in)
                case e9_2 => first | rfl | (intro u hu; simp at hu; subst hu; rfl)
                case e9_3 => unfold maxLen; omega
                case e9_4 => omega
                try (case e9_5 => omega)
                intro v1 w1 own hg hw
                have own2 : w1.ownsRow (w.heap.size + 2) 5 1 v1 (l ++ [b]).length (bytesOf (l ++ [b])) := by rw [show (l ++ [b]).length = l.length + 1 by simp, bytesOf_append]; exact own
                have HS1 := HSU.push own2 hg hw
                have hll : (l ++ [b]).length = l.length + 1 := by simp
                have HR : ∃ (k' : Nat) (v' : Value) (l' : List UInt8) (rb' : Bool) (pa' : Option Addr) (pc' : Nat) (ps' : List ByteArray), v1 = v' ∧ Value.bool false = .bool rb' ∧ Value.int .i64 ((k : Int) + 1) = Value.int .i64 (k' : Int) ∧ k' ≤ s.size ∧ l'.length ≤ k' ∧ ps'.length ≤ k' ∧ Hid (∀ x ∈ ps', x.size ≤ s.size) ∧ Hid (pS ((byL s).drop k') (ps', l', rb') = pS (byL s) ([], [], false)) ∧ Sps (w.heap.size + 2) w w1 v' l' pa' pc' ps' := ⟨k + 1, v1, l ++ [b], false, pa, pc, ps, rfl, rfl, by go_num, by omega, by omega, by omega, HX, DD, HS1⟩
                clear HS1 own own2 hg hw opU nw HSU hU hll DD HX hszU
                go_wp2
                go_roundw
                case rel => exact HR
                case measure => simp [intOf]; omega
    · obtain rfl : k = s.size := by omega
      have q1 : ¬ (s.size : Int) < (s.size : Int) := by omega
      have HD2 : Hid ((ps, l, rb) = pS (byL s) ([], [], false)) := by
        show _ = _
        rw [← HD.out, List.drop_of_length_le (by show s.data.toList.length ≤ s.size; have : s.data.toList.length = s.size := Array.length_toList.trans rfl; omega)]
        rfl
      clear HD
      cases rb with
      | true =>
        have hcv := conv_own (P := Try.prog) 22 9 5 Try.underlying22 Try.underlying5 Try.underlying9 HS.op
        obtain ⟨sb, hsb⟩ : ∃ sb, (⟨l.toArray⟩ : ByteArray) = sb := ⟨_, rfl⟩
        rw [hsb] at hcv
        have HSB : Hid (strB l = sb) := hsb
        have hsbs : sb.size = l.length := by rw [← hsb]; simp [ByteArray.size]
        have f1 := HS.tn.at 1 rfl
        have g1 := HS.tn.fz 1 rfl
        obtain ⟨w2, hw2⟩ : ∃ W, wr.setCell ⟨w.heap.size + 1, 1, none⟩ (.string sb) = W := ⟨_, rfl⟩
        have TNX : Blk (w.heap.size + 1) [.slice pa ps.length pc, .string sb] w2 := by rw [← hw2]; exact HS.tn.set 1 _
        have TRX : Blk w.heap.size [.slice none 0 0, .string ⟨#[]⟩] w2 := by rw [← hw2]; exact HS.tr.far (by omega) _ _
        have BEX : Below w.heap.size w w2 := by rw [← hw2]; exact sets_below (by omega) _ _ _ HS.bc
        have OYX : OwT (w.heap.size + 2) w2 ((pa, pc, ps), sb) := by rw [← hw2]; exact own_set HS.os (by omega)
        have SBX : SbT ((pa, pc, ps), sb) := ⟨by show ps.length ≤ _; omega, fun x hx => by have := HX.out x hx; unfold maxLen; omega, by show sb.size ≤ _; unfold maxLen; omega⟩
        clear HS HX hsb
        have HFS : Hid (stT ((pa, pc, ps), sb) = fS s) := (by show _ = _; unfold fS; rw [show s.data.toList = byL s from rfl, ← HD2.out]; show (ps, sb) = (ps, strB l); rw [HSB.out])
        have K := specShowB_is ((pa, pc, ps), sb) w2 (OYX.dp) SBX
        rw [HFS.out] at K
        generalize hsn : showN (fS s) = sn at K
        have HGS : Hid (gdN s = (!(decide (s = ByteArray.empty)) && decide (sn = s))) := by have h_ := gd_spec s; rw [hsn] at h_; exact h_
        clear hsn
        by_cases hse : s = ByteArray.empty
        · have HG : Hid (gdN s = false) := by show _ = _; rw [HGS.out, decide_eq_true hse]; rfl
          have qe : s.toList.isEmpty = true := by rw [hse]; decide +kernel
          clear HGS K hse
          obtain ⟨VF, hVF⟩ : ∃ V, w2.setCells w.heap.size 0 [.slice none 0 0, .string ⟨#[]⟩] = V := ⟨_, rfl⟩
          have TF : Blk w.heap.size [.slice none 0 0, .string ⟨#[]⟩] VF := by rw [← hVF]; exact TRX.sets _ rfl
          have BF : Below w.heap.size w VF := by rw [← hVF]; exact below_sets (Nat.le_refl _) _ _ _ BEX
          have HRD : Hid (RdP w.heap.size s (.returned (.tuple #[.agg #[.slice none 0 0, .string ⟨#[]⟩], .bool false])) VF) := by have h_ := rd_none HG.out VF w.heap.size; rw [HG.out] at h_; exact h_
          go_wp2_with (first | (show wpList Try.prog _ _ ({ dst := none, op := Op.store 26 (Operand.tmp 2) (Operand.tmp 95), type := _, pos := _, after := _, guard := _ } :: _) _ _; (try rw [hw2]); refine wpList_stB 26 _ _ w.heap.size 0 _ [.slice none 0 0, .string ⟨#[]⟩] ie hie TRX his.symm (by simp) rfl rfl rfl rfl rfl ?_; rw [hVF]) | go_in)
          exact bodyPost_ret (res_B2 rfl _ _ w.heap.size [.slice none 0 0, .string ⟨#[]⟩] (.bool false) ie hie (Try.isAgg26) TF his.symm rfl rfl) rfl ⟨HRD.out, BF⟩
        have qe : s.toList.isEmpty = false := toL_some (fun h => hse (toL_nil h))
        have e0 := TNX.at 0 rfl
        have e1 := TNX.at 1 rfl
        go_wp2_with fail
        try rw [hw2]
        refine K.mono ?_
        clear K e0 e1
        rintro en w9 ⟨rfl, hb⟩
        have T9 := TRX.later hb TRX.lt
        have TN9 := TNX.later hb TNX.lt
        have B9 := BEX.trans (hb.mono BEX.size)
        have O9 := OYX.later hb
        clear hb OYX TRX TNX BEX
        by_cases hsh : sn = s
        · have q1 := list_eq hsh
          have HG : Hid (gdN s = true) := by show _ = _; rw [HGS.out, decide_eq_false hse, decide_eq_true hsh]; rfl
          have HE : Hid (stT ((pa, pc, ps), sb) = rdN s) := by show _ = _; rw [HFS.out]; unfold rdN; rw [if_pos HG.out]
          clear HGS hse hsh HFS
          have d0 := TN9.at 0 rfl
          have d1 := TN9.at 1 rfl
          obtain ⟨VF, hVF⟩ : ∃ V, w9.setCells w.heap.size 0 [.slice pa ps.length pc, .string sb] = V := ⟨_, rfl⟩
          have TF : Blk w.heap.size [.slice pa ps.length pc, .string sb] VF := by rw [← hVF]; exact T9.sets _ rfl
          have BF : Below w.heap.size w VF := by rw [← hVF]; exact below_sets (Nat.le_refl _) _ _ _ B9
          have oF : OwT w.heap.size VF ((pa, pc, ps), sb) := by rw [← hVF]; exact (O9.far (sets_grown w.heap.size _ 0 w9) (by omega)).le (by omega)
          have HANS : Hid (RdP w.heap.size s (.returned (.tuple #[.agg #[.slice pa ps.length pc, .string sb], .bool true])) VF) := ⟨((pa, pc, ps), sb), by rw [HG.out], HE.out, oF⟩
          clear oF O9 B9 HE
          go_wp2_with (first | (refine wpList_stB 26 _ _ w.heap.size 0 _ [.slice pa ps.length pc, .string sb] ie hie T9 his.symm (by simp) rfl rfl rfl rfl rfl ?_; rw [hVF]) | go_in)
          exact bodyPost_ret (res_B2 rfl _ _ w.heap.size [.slice pa ps.length pc, .string sb] (.bool true) ie hie (Try.isAgg26) TF his.symm rfl rfl) rfl ⟨HANS.out, BF⟩
        · have q1 := list_ne hsh
          have HG : Hid (gdN s = false) := by show _ = _; rw [HGS.out, decide_eq_false hsh, Bool.and_false]
          clear HGS hse hsh HFS
          obtain ⟨VF, hVF⟩ : ∃ V, w9.setCells w.heap.size 0 [.slice none 0 0, .string ⟨#[]⟩] = V := ⟨_, rfl⟩
          have TF : Blk w.heap.size [.slice none 0 0, .string ⟨#[]⟩] VF := by rw [← hVF]; exact T9.sets _ rfl
          have BF : Below w.heap.size w VF := by rw [← hVF]; exact below_sets (Nat.le_refl _) _ _ _ B9
          have HRD : Hid (RdP w.heap.size s (.returned (.tuple #[.agg #[.slice none 0 0, .string ⟨#[]⟩], .bool false])) VF) := by have h_ := rd_none HG.out VF w.heap.size; rw [HG.out] at h_; exact h_
          go_wp2_with (first | (refine wpList_stB 26 _ _ w.heap.size 0 _ [.slice none 0 0, .string ⟨#[]⟩] ie hie T9 his.symm (by simp) rfl rfl rfl rfl rfl ?_; rw [hVF]) | go_in)
          exact bodyPost_ret (res_B2 rfl _ _ w.heap.size [.slice none 0 0, .string ⟨#[]⟩] (.bool false) ie hie (Try.isAgg26) TF his.symm rfl rfl) rfl ⟨HRD.out, BF⟩
      | false =>
        have DD0 : True ∧ True := ⟨trivial, trivial⟩
        obtain ⟨sb, hsb⟩ : ∃ sb, (⟨l.toArray⟩ : ByteArray) = sb := ⟨_, rfl⟩
        have hcv := conv_own (P := Try.prog) 22 9 5 Try.underlying22 Try.underlying5 Try.underlying9 HS.op
        rw [hsb] at hcv
        have hsbs : sb.size = l.length := by rw [← hsb]; simp [ByteArray.size]
        have HSB : Hid (strB l = sb) := hsb
        obtain ⟨U, hU⟩ : ∃ U, wr.alloc (.cells #[.string sb] 9) = U := ⟨_, rfl⟩
        have HSU : Sps (w.heap.size + 2) w U v l pa pc ps := by rw [← hU]; exact HS.alloc _
        have osU := HSU.os
        have nw : ∀ j u, [Value.string sb][j]? = some u → U.cell? ((⟨wr.heap.size, 0, none⟩ : Addr).add j) = some u := by rw [← hU]; exact news_one _ _ _
        have hszU := HSU.sz
        have d0 := HS.tn.at 0 rfl
        have HX2 : Hid (∀ x ∈ ps ++ [sb], x.size ≤ s.size) := fun x hx => by
          rcases List.mem_append.1 hx with hx | hx
          · exact HX.out x hx
          · rw [List.mem_singleton] at hx
            subst hx; omega
        clear HS hsb HX
        go_wp2_with (first | (at_builtin; (try rw [hU]); refine wpList_append_where _ rfl _ _ 24 rfl (w.heap.size + 2) 9 j0 (.string ⟨#[]⟩) 1 16 Try.underlying24 hj hy0 hy1 hy2 rfl (by decide) _ _ _ rfl osU ⟨wr.heap.size, 0, none⟩ 1 1 [.string sb] rfl rfl nw ?e10_2 ?e10_3 ?e10_4 ?e10_5 (by omega) ?_) | go_in)
        case e10_2 => first | rfl | (intro u hu; simp at hu; subst hu; rfl)
        case e10_3 => unfold maxLen; omega
        case e10_4 => omega
        try (case e10_5 => omega)
        intro v1 w1 own hg hw
        obtain ⟨na, nc, rfl, _⟩ := own_shape own
        obtain ⟨w2, hw2⟩ : ∃ W, w1.setCell ⟨w.heap.size + 1, 0, none⟩ (.slice na (ps.length + 1) nc) = W := ⟨_, rfl⟩
        have hput := HSU.put own hg hw
        have e0 := hput.1.at 0 rfl
        have z0 := hput.1.fz 0 rfl
        have hp2 := hput.2
        rw [hw2] at hp2
        clear hput own hg hw osU nw HSU hU d0 hcv
        have HEQ0 : Hid ((ps ++ [sb], ByteArray.empty) = fS s) := by
          show _ = _
          unfold fS
          rw [show s.data.toList = byL s from rfl, ← HD2.out]
          show (ps ++ [sb], ByteArray.empty) = (ps ++ [strB l], ByteArray.empty)
          rw [HSB.out]
        have hpl : (ps ++ [sb]).length = ps.length + 1 := by simp
        have SB0 : Hid ((ps ++ [sb]).length ≤ 2097152) := by show _ ≤ _; omega
        clear hpl
        generalize ps ++ [sb] = PL at hp2 HX2 HEQ0 SB0
        have TNX := hp2.tn
        have TRX := hp2.tr
        have BEX := hp2.bc
        have OYX : OwT (w.heap.size + 2) w2 ((na, nc, PL), ByteArray.empty) := hp2.os
        have SBX : SbT ((na, nc, PL), ByteArray.empty) := ⟨SB0.out, fun x hx => by have := HX2.out x hx; unfold maxLen; omega, by show (0 : Nat) ≤ _; omega⟩
        have HEQ : stT ((na, nc, PL), ByteArray.empty) = fS s := HEQ0.out
        clear hp2 HX2 DD0 HEQ0 SB0
        have HFS : Hid (stT ((na, nc, PL), ByteArray.empty) = fS s) := HEQ
        have K := specShowB_is ((na, nc, PL), ByteArray.empty) w2 (OYX.dp) SBX
        rw [HFS.out] at K
        generalize hsn : showN (fS s) = sn at K
        have HGS : Hid (gdN s = (!(decide (s = ByteArray.empty)) && decide (sn = s))) := by have h_ := gd_spec s; rw [hsn] at h_; exact h_
        clear hsn
        by_cases hse : s = ByteArray.empty
        · have HG : Hid (gdN s = false) := by show _ = _; rw [HGS.out, decide_eq_true hse]; rfl
          have qe : s.toList.isEmpty = true := by rw [hse]; decide +kernel
          clear HGS K hse
          obtain ⟨VF, hVF⟩ : ∃ V, w2.setCells w.heap.size 0 [.slice none 0 0, .string ⟨#[]⟩] = V := ⟨_, rfl⟩
          have TF : Blk w.heap.size [.slice none 0 0, .string ⟨#[]⟩] VF := by rw [← hVF]; exact TRX.sets _ rfl
          have BF : Below w.heap.size w VF := by rw [← hVF]; exact below_sets (Nat.le_refl _) _ _ _ BEX
          have HRD : Hid (RdP w.heap.size s (.returned (.tuple #[.agg #[.slice none 0 0, .string ⟨#[]⟩], .bool false])) VF) := by have h_ := rd_none HG.out VF w.heap.size; rw [HG.out] at h_; exact h_
          go_wp2_with (first | (show wpList Try.prog _ _ ({ dst := none, op := Op.store 26 (Operand.tmp 2) (Operand.tmp 95), type := _, pos := _, after := _, guard := _ } :: _) _ _; (try rw [hw2]); refine wpList_stB 26 _ _ w.heap.size 0 _ [.slice none 0 0, .string ⟨#[]⟩] ie hie TRX his.symm (by simp) rfl rfl rfl rfl rfl ?_; rw [hVF]) | go_in)
          exact bodyPost_ret (res_B2 rfl _ _ w.heap.size [.slice none 0 0, .string ⟨#[]⟩] (.bool false) ie hie (Try.isAgg26) TF his.symm rfl rfl) rfl ⟨HRD.out, BF⟩
        have qe : s.toList.isEmpty = false := toL_some (fun h => hse (toL_nil h))
        have e0 := TNX.at 0 rfl
        have e1 := TNX.at 1 rfl
        go_wp2_with fail
        try rw [hw2]
        refine K.mono ?_
        clear K e0 e1
        rintro en w9 ⟨rfl, hb⟩
        have T9 := TRX.later hb TRX.lt
        have TN9 := TNX.later hb TNX.lt
        have B9 := BEX.trans (hb.mono BEX.size)
        have O9 := OYX.later hb
        clear hb OYX TRX TNX BEX
        by_cases hsh : sn = s
        · have q1 := list_eq hsh
          have HG : Hid (gdN s = true) := by show _ = _; rw [HGS.out, decide_eq_false hse, decide_eq_true hsh]; rfl
          have HE : Hid (stT ((na, nc, PL), ByteArray.empty) = rdN s) := by show _ = _; rw [HFS.out]; unfold rdN; rw [if_pos HG.out]
          clear HGS hse hsh HFS
          have d0 := TN9.at 0 rfl
          have d1 := TN9.at 1 rfl
          obtain ⟨VF, hVF⟩ : ∃ V, w9.setCells w.heap.size 0 [.slice na PL.length nc, .string ByteArray.empty] = V := ⟨_, rfl⟩
          have TF : Blk w.heap.size [.slice na PL.length nc, .string ByteArray.empty] VF := by rw [← hVF]; exact T9.sets _ rfl
          have BF : Below w.heap.size w VF := by rw [← hVF]; exact below_sets (Nat.le_refl _) _ _ _ B9
          have oF : OwT w.heap.size VF ((na, nc, PL), ByteArray.empty) := by rw [← hVF]; exact (O9.far (sets_grown w.heap.size _ 0 w9) (by omega)).le (by omega)
          have HANS : Hid (RdP w.heap.size s (.returned (.tuple #[.agg #[.slice na PL.length nc, .string ByteArray.empty], .bool true])) VF) := ⟨((na, nc, PL), ByteArray.empty), by rw [HG.out], HE.out, oF⟩
          clear oF O9 B9 HE
          go_wp2_with (first | (refine wpList_stB 26 _ _ w.heap.size 0 _ [.slice na PL.length nc, .string ByteArray.empty] ie hie T9 his.symm (by simp) rfl rfl rfl rfl rfl ?_; rw [hVF]) | go_in)
          exact bodyPost_ret (res_B2 rfl _ _ w.heap.size [.slice na PL.length nc, .string ByteArray.empty] (.bool true) ie hie (Try.isAgg26) TF his.symm rfl rfl) rfl ⟨HANS.out, BF⟩
        · have q1 := list_ne hsh
          have HG : Hid (gdN s = false) := by show _ = _; rw [HGS.out, decide_eq_false hsh, Bool.and_false]
          clear HGS hse hsh HFS
          obtain ⟨VF, hVF⟩ : ∃ V, w9.setCells w.heap.size 0 [.slice none 0 0, .string ⟨#[]⟩] = V := ⟨_, rfl⟩
          have TF : Blk w.heap.size [.slice none 0 0, .string ⟨#[]⟩] VF := by rw [← hVF]; exact T9.sets _ rfl
          have BF : Below w.heap.size w VF := by rw [← hVF]; exact below_sets (Nat.le_refl _) _ _ _ B9
          have HRD : Hid (RdP w.heap.size s (.returned (.tuple #[.agg #[.slice none 0 0, .string ⟨#[]⟩], .bool false])) VF) := by have h_ := rd_none HG.out VF w.heap.size; rw [HG.out] at h_; exact h_
          go_wp2_with (first | (refine wpList_stB 26 _ _ w.heap.size 0 _ [.slice none 0 0, .string ⟨#[]⟩] ie hie T9 his.symm (by simp) rfl rfl rfl rfl rfl ?_; rw [hVF]) | go_in)
          exact bodyPost_ret (res_B2 rfl _ _ w.heap.size [.slice none 0 0, .string ⟨#[]⟩] (.bool false) ie hie (Try.isAgg26) TF his.symm rfl rfl) rfl ⟨HRD.out, BF⟩
end Go.Proofs.Ytbpodcfbijhboaa.Nd
