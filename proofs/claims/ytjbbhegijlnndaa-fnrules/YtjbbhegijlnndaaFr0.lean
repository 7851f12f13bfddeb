/- laws.fresh. -/
import Derived.Test.YtjbbhegijlnndaaDs2
import Derived.Test.YtjbbhegijlnndaaAppRow
set_option linter.unusedVariables false
set_option maxRecDepth 100000
namespace Go.Proofs.Ytjbbhegijlnndaa.Nd
open Go Go.RowKit Go.Joins Own Draw Go.Proofs.Ytjbbhegijlnndaa

theorem u8_bd (x : Int) : 0 ≤ IntKind.u8.wrap x ∧ IntKind.u8.wrap x ≤ 255 := by
  rw [IntKind.wrap_u8]
  omega
theorem code_own {w : World} {B : Nat} {v : Value} {ys : List Int} {a : Option Addr} {c : Nat} (h : w.ownsRow B 5 1 (.slice a ys.length c) ys.length (ys.map (Value.int .u8))) (hl : ys.length ≤ 1048576) (hb : ∀ z ∈ ys, 0 ≤ z ∧ z ≤ 255) : CodeAt w w.heap.size a ys.length ys := by
  refine ⟨hl, fun j hj => ?_⟩
  have e : ys.getD j 0 = ys[j] := by rw [List.getD_eq_getElem?_getD, List.getElem?_eq_getElem hj]; rfl
  rw [e]
  refine ⟨hb _ (List.getElem_mem hj), ?_⟩
  obtain ⟨a', c', e', _, hr⟩ := own_row h
  injection e' with e1 _ _
  subst e1
  exact hr j hj
set_option maxHeartbeats 3200000 in
theorem fresh_is (ad : Option Addr) (len cap : Nat) (zs : List Int) (i : Nat) (W : World) (hz : CodeAt W W.heap.size ad len zs) (hi : i < 12) :
    Calls Try.prog 22 #[.slice ad len cap, .int .i64 (i : Int)] W fun e w' => ∃ (a : Option Addr) (c : Nat) (ys : List Int), e = .returned (.slice a ys.length c) ∧ CodeAt w' w'.heap.size a ys.length ys ∧ Below W.heap.size W w' := by
  obtain ⟨i5, hi5, hz50, hz51, hz52⟩ := info_parts Draw.infoU8
  have HZ : Hid (CodeAt W W.heap.size ad len zs) := hz
  have hlen := hz.1
  clear hz
  obtain ⟨V, hV⟩ : ∃ V, W.alloc (.cells #[.int .u8 (i : Int)] 5) = V := ⟨_, rfl⟩
  have rs : V.ownsRow W.heap.size 5 1 (.slice (some ⟨W.heap.size, 0, none⟩) 1 1) 1 [.int .u8 (i : Int)] := by
    rw [← hV]
    exact World.ownsRow_lit _ _ _ (Nat.le_refl _) (by unfold maxLen; omega) rfl
  have BV : Below W.heap.size W V := by rw [← hV]; exact (Below.refl _ _).alloc (Nat.le_refl _) _
  go_enter Try.func22, Try.ntmps22
  go_wp2_with fail
  try rw [hV]
  go_loopw [5, 6] (fun ov kv wr => ∃ (k : Nat) (a : Option Addr) (c : Nat) (ys : List Int), kv = .int .i64 (k : Int) ∧ k ≤ 600 ∧ ov = .slice a ys.length c ∧ ys.length = k + 1 ∧ (∀ z ∈ ys, 0 ≤ z ∧ z ≤ 255) ∧ wr.ownsRow W.heap.size 5 1 (.slice a ys.length c) ys.length (ys.map (Value.int .u8)) ∧ Below W.heap.size W wr) (fun _ kv _ => 600 - (intOf kv).toNat)
  case atStart => exact ⟨0, _, _, [(i : Int)], rfl, by omega, rfl, rfl, fun z hz => by rw [List.mem_singleton] at hz; omega, rs, BV⟩
  case round =>
    clear rs BV hV
    obtain ⟨k, a, c, ys, rfl, hk, rfl, hyl, hyb, rs, BV⟩ := hrel
    have FIN : Hid (CodeAt wr wr.heap.size a ys.length ys) := code_own (v := .bool true) rs (by omega) hyb
    have HYL : Hid (ys.length = k + 1) := hyl
    clear hyl
    by_cases h1 : k < len
    · have h1' : (k : Int) < (len : Int) := by omega
      by_cases h2 : k < 600
      · have h2' : (k : Int) < 600 := by omega
        obtain ⟨hzb, b, off, rfl, hb, hcell⟩ := HZ.out.2 k h1
        have hcw := (BV.cell (p := ⟨b, off + k, none⟩) hb).trans hcell
        clear hcell FIN
        generalize zs.getD k 0 = z at *
        obtain ⟨E, hE⟩ : ∃ E, wrap64 (z * 3 + wrap64 ((i : Int) * ((k : Int) % 7 + 1))) % 256 = E := ⟨_, rfl⟩
        have hEb : 0 ≤ E ∧ E ≤ 255 := by omega
        obtain ⟨U, hU⟩ : ∃ U, wr.alloc (.cells #[.int .u8 E] 5) = U := ⟨_, rfl⟩
        have XA : Below wr.heap.size wr U := by rw [← hU]; exact (Below.refl _ _).alloc (Nat.le_refl _) _
        have nw : ∀ jj u, [Value.int .u8 E][jj]? = some u → U.cell? ((⟨wr.heap.size, 0, none⟩ : Addr).add jj) = some u := by rw [← hU]; exact news_one _ _ _
        have rsU := own_later rs XA
        have BU := BV.trans (XA.mono BV.size)
        have hUs : W.heap.size ≤ U.heap.size := BU.size
        go_wp2_with (first | (at_builtin; first | refine wpList_append_row _ rfl _ _ 22 rfl W.heap.size 5 i5 (.int .u8 0) 1 1 Try.underlying22 hi5 hz50 hz51 hz52 rfl (by decide) _ _ _ rfl rsU (some ⟨wr.heap.size, 0, none⟩) 1 1 [.int .u8 E] rfl rfl (fun ad e => by injection e with e; subst e; exact nw) (fun u hu => by simp at hu; subst hu; rfl) (by have := HYL.out; unfold maxLen; omega) (by have := HYL.out; omega) hUs (fun c => by cases c) ?_ | (rw [hU]; refine wpList_append_row _ rfl _ _ 22 rfl W.heap.size 5 i5 (.int .u8 0) 1 1 Try.underlying22 hi5 hz50 hz51 hz52 rfl (by decide) _ _ _ rfl rsU (some ⟨wr.heap.size, 0, none⟩) 1 1 [.int .u8 E] rfl rfl (fun ad e => by injection e with e; subst e; exact nw) (fun u hu => by simp at hu; subst hu; rfl) (by have := HYL.out; unfold maxLen; omega) (by have := HYL.out; omega) hUs (fun c => by cases c) ?_) | (rw [hE, hU]; refine wpList_append_row _ rfl _ _ 22 rfl W.heap.size 5 i5 (.int .u8 0) 1 1 Try.underlying22 hi5 hz50 hz51 hz52 rfl (by decide) _ _ _ rfl rsU (some ⟨wr.heap.size, 0, none⟩) 1 1 [.int .u8 E] rfl rfl (fun ad e => by injection e with e; subst e; exact nw) (fun u hu => by simp at hu; subst hu; rfl) (by have := HYL.out; unfold maxLen; omega) (by have := HYL.out; omega) hUs (fun c => by cases c) ?_)) | fail)
        intro v3 w5 ho3 hg3
        obtain ⟨na, nc, rfl, _⟩ := own_shape ho3
        have B5 : Below W.heap.size W w5 := BU.trans ⟨hg3.os, hg3.tape, hg3.output, hg3.size, fun j hj => hg3.block j (by omega) (fun e => by have := (World.ownsRow.lt rsU j e.symm).1; omega)⟩
        have hl2 : (ys ++ [E]).length = ys.length + 1 := by simp
        have HR : ∃ (k' : Nat) (a' : Option Addr) (c' : Nat) (ys' : List Int), Value.int .i64 ((k : Int) + 1) = .int .i64 (k' : Int) ∧ k' ≤ 600 ∧ Value.slice na (ys.length + 1) nc = .slice a' ys'.length c' ∧ ys'.length = k' + 1 ∧ (∀ z ∈ ys', 0 ≤ z ∧ z ≤ 255) ∧ w5.ownsRow W.heap.size 5 1 (.slice a' ys'.length c') ys'.length (ys'.map (Value.int .u8)) ∧ Below W.heap.size W w5 :=
          ⟨k + 1, na, nc, ys ++ [E], by go_num, by omega, by rw [hl2], by rw [hl2, HYL.out], fun z hz => (List.mem_append.1 hz).elim (hyb z) (fun hz => by rw [List.mem_singleton] at hz; omega), by rw [hl2, List.map_append]; exact ho3, B5⟩
        clear ho3 hg3 rsU BU nw XA hU B5 BV rs hcw
        go_wp2
        go_roundw
        case rel => exact HR
        case measure => simp [intOf]; omega
      · have h2' : ¬ (k : Int) < 600 := by omega
        clear rs
        go_wp2
        go_ret
        exact ⟨a, c, ys, rfl, FIN.out, BV⟩
    · have h1' : ¬ (k : Int) < (len : Int) := by omega
      clear rs
      go_wp2
      go_ret
      exact ⟨a, c, ys, rfl, FIN.out, BV⟩
end Go.Proofs.Ytjbbhegijlnndaa.Nd
