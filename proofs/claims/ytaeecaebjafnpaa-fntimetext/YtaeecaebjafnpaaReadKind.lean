/- The program's terms: a text that is just one term of a kind. -/
import Derived.Test.YtaeecaebjafnpaaBehind
import Derived.Defers
import Derived.Recover
import Derived.Laws.EntriesVeiled
set_option linter.unusedVariables false
namespace Go.Proofs.Ytaeecaebjafnpaa
open Go.RowKit Own Var Term

set_option maxRecDepth 100000 in
set_option maxHeartbeats 800000 in
theorem behindTerm_is (s : ByteArray) (w : World) (hs : s.size ≤ 1048576) :
    Calls Try.prog 61 #[.string s] w fun e w' => e = ansB (bh 8 s) ∧ Below w.heap.size w w' := by
  have hmf : ∀ (fn : Fn) (first cap : Array Value) (w : World), (Instr.makeFunc fn first cap).run Try.prog w = .ok (.func fn first cap) w := fun _ _ _ _ => rfl
  have HC := behind_is ⟨w.heap.size, 0, none⟩ 8 s 1 (w.alloc (.cells #[.func (.func 81) #[] #[.pointer (some ⟨w.heap.size, 0, none⟩)]] 90)) (by omega) (by omega) hs (by simp) (by simp [go_sem])
  cases hB : bh 8 s with
  | none =>
    simp only [hB, ansB] at HC
    go_enter Try.func61, Try.ntmps61
    go_wp2_with fail
    refine HC.mono ?_
    rintro e w1 ⟨rfl, hb1⟩
    go_wp2
    exact ⟨rfl, rfl, ((Below.refl _ _).alloc (Nat.le_refl _) _).trans (hb1.mono (by simp))⟩
  | some r =>
    simp only [hB, ansB] at HC
    go_enter Try.func61, Try.ntmps61
    go_wp2_with fail
    refine HC.mono ?_
    rintro e w1 ⟨rfl, hb1⟩
    go_wp2
    go_ret
    exact ⟨rfl, ((Below.refl _ _).alloc (Nat.le_refl _) _).trans (hb1.mono (by simp))⟩

theorem catch93_idle (w : World) :
    CallsD Try.prog 91 #[] .returning w fun e u' w' => e = .returned (.tuple #[]) ∧ u' = .returning ∧ w = w' := by
  refine callsD_of_wpS Try.func91 rfl fun c₀ cs hu => ?_
  apply wpS_region
  simp [wpOpsS, go_sem, recoverD, hu, Try.ntmps91, bodyPostS, results, Try.results91]
  cases c₀; simp_all
theorem catch93 (w : World) :
    CallsD Try.prog 91 #[] (.panicking noT) w fun e u' w' => e = .returned (.tuple #[]) ∧ u' = .panicking [{ v := .iface 9 (.string ⟨#[110, 111, 32, 116, 101, 114, 109]⟩), recovered := true }] ∧ w = w' := by
  refine callsD_of_wpS Try.func91 rfl fun c₀ cs hu => ?_
  apply wpS_region
  simp [wpOpsS, go_sem, recoverD, hu, Try.ntmps91, bodyPostS, results, Try.results91, noT]

set_option maxRecDepth 100000 in
set_option maxHeartbeats 1600000 in
theorem rkS_no (s : ByteArray) (kind : Nat) (F : Value) (w : World) (hs : s.size ≤ 2097152) (hr : rk s kind = none) :
    Calls Try.prog 83 #[.string s, .int .u8 kind, F] w fun e w' => e = .returned (.tuple #[.string ⟨#[]⟩, .bool false]) ∧ Below w.heap.size w w' := by
  have hmf : ∀ (fn : Fn) (first cap : Array Value) (w : World), (Instr.makeFunc fn first cap).run Try.prog w = .ok (.func fn first cap) w := fun _ _ _ _ => rfl
  by_cases h : s.size ≤ 900
  · have HC := behindTerm_is s w (by omega)
    cases hB : bh 8 s with
    | none =>
      simp only [hB, ansB] at HC
      clear hr hB
      go_enter_defers Try.func83, Try.ntmps83
      go_wp2_with fail
      refine HC.mono ?_
      rintro e w1 ⟨rfl, hb⟩
      go_wp2
      refine leaves_cons (f := 91) (args := #[]) (by simp) (by simp [go_sem]) ?_
      refine (catch93 _).mono ?_
      rintro e u' w'' ⟨rfl, rfl, rfl⟩
      simp [Leaves, settle, results, Try.results83, go_sem]
      exact hb
    | some r =>
      simp only [hB, ansB] at HC
      by_cases h0 : r.size = 0
      · have hT : IsT s := ⟨h, r, hB, h0⟩
        have h2 := not_empty hT
        have hne := nil_size r h0
        have hat := at_eq s 0 (by omega)
        have hk : ((s[0].toNat : Int) == (kind : Int)) = false := by
          rw [Bool.eq_false_iff]; intro hh; simp at hh
          obtain ⟨n, t, hc⟩ := hT.cut
          rw [rk_yes hT (by omega), hc] at hr
          simp at hr
        clear hr hB hT hat
        go_enter_defers Try.func83, Try.ntmps83
        go_wp2_with fail
        refine HC.mono ?_
        rintro e w1 ⟨rfl, hb⟩
        go_wp2_with fail
        refine (must_no _).mono ?_
        rintro e w2 ⟨rfl, rfl⟩
        go_wp2
        refine leaves_cons (f := 91) (args := #[]) (by simp) (by simp [go_sem]) ?_
        refine (catch93 _).mono ?_
        rintro e u' w'' ⟨rfl, rfl, rfl⟩
        simp [Leaves, settle, results, Try.results83, go_sem]
        exact hb
      · have hne := ne_nil r (by omega)
        clear hr hB
        go_enter_defers Try.func83, Try.ntmps83
        go_wp2_with fail
        refine HC.mono ?_
        rintro e w1 ⟨rfl, hb⟩
        go_wp2_with fail
        refine (must_no _).mono ?_
        rintro e w2 ⟨rfl, rfl⟩
        go_wp2
        refine leaves_cons (f := 91) (args := #[]) (by simp) (by simp [go_sem]) ?_
        refine (catch93 _).mono ?_
        rintro e u' w'' ⟨rfl, rfl, rfl⟩
        simp [Leaves, settle, results, Try.results83, go_sem]
        exact hb
  · have h' : 900 < s.size := by omega
    clear hr
    go_enter_defers Try.func83, Try.ntmps83
    go_wp2_with fail
    refine (must_no _).mono ?_
    rintro e w1 ⟨rfl, rfl⟩
    go_wp2
    refine leaves_cons (f := 91) (args := #[]) (by simp) (by simp [go_sem]) ?_
    refine (catch93 _).mono ?_
    rintro e u' w'' ⟨rfl, rfl, rfl⟩
    simp [Leaves, settle, results, Try.results83, go_sem]
    exact Below.refl _ _

set_option maxRecDepth 100000 in
set_option maxHeartbeats 1600000 in
theorem rkS_yes (s r : ByteArray) (kind n : Nat) (k : FuncId) (cap : Array Value) (w : World) (Q : Value → World → Prop) (hs : s.size ≤ 1048576) (hr : rk s kind = some (n, r)) (hen : ∀ args w, (callFunc k args).run Try.prog w = .ok (.enter k args) w)
    (ht : ∀ w1, Below w.heap.size w w1 → Calls Try.prog k (#[.int .i64 n, .string r] ++ cap) w1 fun e w2 => ∃ v, e = .returned v ∧ Q v w2) :
    Calls Try.prog 83 #[.string s, .int .u8 kind, .func (.func k) #[] cap] w fun e w' => ∃ v, e = .returned (.tuple #[v, .bool true]) ∧ Q v w' := by
  have hmf : ∀ (fn : Fn) (first cap : Array Value) (w : World), (Instr.makeFunc fn first cap).run Try.prog w = .ok (.func fn first cap) w := fun _ _ _ _ => rfl
  have hT : IsT s ∧ at_ s 0 = kind := by
    by_cases c : IsT s ∧ at_ s 0 = kind
    · exact c
    · rw [rk_no c] at hr; simp at hr
  rw [rk_yes hT.1 hT.2] at hr
  obtain ⟨hT, hk⟩ := hT
  have h2 := not_empty hT
  have hat := at_eq s 0 (by omega)
  obtain ⟨h9, r0, hB, h0⟩ := hT
  have hne := nil_size r0 h0
  have hk : ((s[0].toNat : Int) == (kind : Int)) = true := by simp; omega
  have HC := behindTerm_is s w hs
  simp only [hB, ansB] at HC
  clear hB hat
  go_enter_defers Try.func83, Try.ntmps83
  go_wp2_with fail
  refine HC.mono ?_
  rintro e w1 ⟨rfl, hb⟩
  go_wp2_with fail
  refine (must_yes _).mono ?_
  rintro e w2 ⟨rfl, rfl⟩
  go_wp2_with fail
  refine (cutHead_yes s r n _ hs hr).mono ?_
  rintro e w2 ⟨rfl, hb2⟩
  go_wp2_with fail
  refine (ht _ (hb.trans (hb2.mono hb.size))).mono ?_
  rintro e w3 ⟨v, rfl, hq⟩
  go_wp2
  refine leaves_cons (f := 91) (args := #[]) (by simp) (by simp [go_sem]) ?_
  refine (catch93_idle _).mono ?_
  rintro e u' w'' ⟨rfl, rfl, rfl⟩
  simp [Leaves, settle, results, Try.results83, go_sem]
  exact hq

set_option maxRecDepth 100000 in
set_option maxHeartbeats 1600000 in
theorem rkS_told (s r : ByteArray) (kind n : Nat) (k : FuncId) (cap : Array Value) (w : World) (hs : s.size ≤ 1048576) (hr : rk s kind = some (n, r)) (hen : ∀ args w, (callFunc k args).run Try.prog w = .ok (.enter k args) w)
    (ht : ∀ w1, Below w.heap.size w w1 → Calls Try.prog k (#[.int .i64 n, .string r] ++ cap) w1 fun e w2 => e = .panicked noT ∧ Below w1.heap.size w1 w2) :
    Calls Try.prog 83 #[.string s, .int .u8 kind, .func (.func k) #[] cap] w fun e w' => e = .returned (.tuple #[.string ⟨#[]⟩, .bool false]) ∧ Below w.heap.size w w' := by
  have hmf : ∀ (fn : Fn) (first cap : Array Value) (w : World), (Instr.makeFunc fn first cap).run Try.prog w = .ok (.func fn first cap) w := fun _ _ _ _ => rfl
  have hT : IsT s ∧ at_ s 0 = kind := by
    by_cases c : IsT s ∧ at_ s 0 = kind
    · exact c
    · rw [rk_no c] at hr; simp at hr
  rw [rk_yes hT.1 hT.2] at hr
  obtain ⟨hT, hk⟩ := hT
  have h2 := not_empty hT
  have hat := at_eq s 0 (by omega)
  obtain ⟨h9, r0, hB, h0⟩ := hT
  have hne := nil_size r0 h0
  have hk : ((s[0].toNat : Int) == (kind : Int)) = true := by simp; omega
  have HC := behindTerm_is s w hs
  simp only [hB, ansB] at HC
  clear hB hat
  go_enter_defers Try.func83, Try.ntmps83
  go_wp2_with fail
  refine HC.mono ?_
  rintro e w1 ⟨rfl, hb⟩
  go_wp2_with fail
  refine (must_yes _).mono ?_
  rintro e w2 ⟨rfl, rfl⟩
  go_wp2_with fail
  refine (cutHead_yes s r n _ hs hr).mono ?_
  rintro e w2 ⟨rfl, hb2⟩
  have hb12 := hb.trans (hb2.mono hb.size)
  go_wp2_with fail
  refine (ht _ hb12).mono ?_
  rintro e w3 ⟨rfl, hb3⟩
  go_wp2
  refine leaves_cons (f := 91) (args := #[]) (by simp) (by simp [go_sem]) ?_
  refine (catch93 _).mono ?_
  rintro e u' w'' ⟨rfl, rfl, rfl⟩
  simp [Leaves, settle, results, Try.results83, go_sem]
  exact hb12.trans (hb3.mono hb12.size)

theorem catch96_idle (w : World) :
    CallsD Try.prog 92 #[] .returning w fun e u' w' => e = .returned (.tuple #[]) ∧ u' = .returning ∧ w = w' := by
  refine callsD_of_wpS Try.func92 rfl fun c₀ cs hu => ?_
  apply wpS_region
  simp [wpOpsS, go_sem, recoverD, hu, Try.ntmps92, bodyPostS, results, Try.results92]
  cases c₀; simp_all
theorem catch96 (w : World) :
    CallsD Try.prog 92 #[] (.panicking noT) w fun e u' w' => e = .returned (.tuple #[]) ∧ u' = .panicking [{ v := .iface 9 (.string ⟨#[110, 111, 32, 116, 101, 114, 109]⟩), recovered := true }] ∧ w = w' := by
  refine callsD_of_wpS Try.func92 rfl fun c₀ cs hu => ?_
  apply wpS_region
  simp [wpOpsS, go_sem, recoverD, hu, Try.ntmps92, bodyPostS, results, Try.results92, noT]

set_option maxRecDepth 100000 in
set_option maxHeartbeats 1600000 in
theorem rkI_no (s : ByteArray) (kind : Nat) (F : Value) (w : World) (hs : s.size ≤ 2097152) (hr : rk s kind = none) :
    Calls Try.prog 85 #[.string s, .int .u8 kind, F] w fun e w' => e = .returned (.tuple #[.int .i64 0, .bool false]) ∧ Below w.heap.size w w' := by
  have hmf : ∀ (fn : Fn) (first cap : Array Value) (w : World), (Instr.makeFunc fn first cap).run Try.prog w = .ok (.func fn first cap) w := fun _ _ _ _ => rfl
  by_cases h : s.size ≤ 900
  · have HC := behindTerm_is s w (by omega)
    cases hB : bh 8 s with
    | none =>
      simp only [hB, ansB] at HC
      clear hr hB
      go_enter_defers Try.func85, Try.ntmps85
      go_wp2_with fail
      refine HC.mono ?_
      rintro e w1 ⟨rfl, hb⟩
      go_wp2
      refine leaves_cons (f := 92) (args := #[]) (by simp) (by simp [go_sem]) ?_
      refine (catch96 _).mono ?_
      rintro e u' w'' ⟨rfl, rfl, rfl⟩
      simp [Leaves, settle, results, Try.results85, go_sem]
      exact hb
    | some r =>
      simp only [hB, ansB] at HC
      by_cases h0 : r.size = 0
      · have hT : IsT s := ⟨h, r, hB, h0⟩
        have h2 := not_empty hT
        have hne := nil_size r h0
        have hat := at_eq s 0 (by omega)
        have hk : ((s[0].toNat : Int) == (kind : Int)) = false := by
          rw [Bool.eq_false_iff]; intro hh; simp at hh
          obtain ⟨n, t, hc⟩ := hT.cut
          rw [rk_yes hT (by omega), hc] at hr
          simp at hr
        clear hr hB hT hat
        go_enter_defers Try.func85, Try.ntmps85
        go_wp2_with fail
        refine HC.mono ?_
        rintro e w1 ⟨rfl, hb⟩
        go_wp2_with fail
        refine (must_no _).mono ?_
        rintro e w2 ⟨rfl, rfl⟩
        go_wp2
        refine leaves_cons (f := 92) (args := #[]) (by simp) (by simp [go_sem]) ?_
        refine (catch96 _).mono ?_
        rintro e u' w'' ⟨rfl, rfl, rfl⟩
        simp [Leaves, settle, results, Try.results85, go_sem]
        exact hb
      · have hne := ne_nil r (by omega)
        clear hr hB
        go_enter_defers Try.func85, Try.ntmps85
        go_wp2_with fail
        refine HC.mono ?_
        rintro e w1 ⟨rfl, hb⟩
        go_wp2_with fail
        refine (must_no _).mono ?_
        rintro e w2 ⟨rfl, rfl⟩
        go_wp2
        refine leaves_cons (f := 92) (args := #[]) (by simp) (by simp [go_sem]) ?_
        refine (catch96 _).mono ?_
        rintro e u' w'' ⟨rfl, rfl, rfl⟩
        simp [Leaves, settle, results, Try.results85, go_sem]
        exact hb
  · have h' : 900 < s.size := by omega
    clear hr
    go_enter_defers Try.func85, Try.ntmps85
    go_wp2_with fail
    refine (must_no _).mono ?_
    rintro e w1 ⟨rfl, rfl⟩
    go_wp2
    refine leaves_cons (f := 92) (args := #[]) (by simp) (by simp [go_sem]) ?_
    refine (catch96 _).mono ?_
    rintro e u' w'' ⟨rfl, rfl, rfl⟩
    simp [Leaves, settle, results, Try.results85, go_sem]
    exact Below.refl _ _

set_option maxRecDepth 100000 in
set_option maxHeartbeats 1600000 in
theorem rkI_yes (s r : ByteArray) (kind n : Nat) (k : FuncId) (cap : Array Value) (w : World) (Q : Value → World → Prop) (hs : s.size ≤ 1048576) (hr : rk s kind = some (n, r)) (hen : ∀ args w, (callFunc k args).run Try.prog w = .ok (.enter k args) w)
    (ht : ∀ w1, Below w.heap.size w w1 → Calls Try.prog k (#[.int .i64 n, .string r] ++ cap) w1 fun e w2 => ∃ v, e = .returned v ∧ Q v w2) :
    Calls Try.prog 85 #[.string s, .int .u8 kind, .func (.func k) #[] cap] w fun e w' => ∃ v, e = .returned (.tuple #[v, .bool true]) ∧ Q v w' := by
  have hmf : ∀ (fn : Fn) (first cap : Array Value) (w : World), (Instr.makeFunc fn first cap).run Try.prog w = .ok (.func fn first cap) w := fun _ _ _ _ => rfl
  have hT : IsT s ∧ at_ s 0 = kind := by
    by_cases c : IsT s ∧ at_ s 0 = kind
    · exact c
    · rw [rk_no c] at hr; simp at hr
  rw [rk_yes hT.1 hT.2] at hr
  obtain ⟨hT, hk⟩ := hT
  have h2 := not_empty hT
  have hat := at_eq s 0 (by omega)
  obtain ⟨h9, r0, hB, h0⟩ := hT
  have hne := nil_size r0 h0
  have hk : ((s[0].toNat : Int) == (kind : Int)) = true := by simp; omega
  have HC := behindTerm_is s w hs
  simp only [hB, ansB] at HC
  clear hB hat
  go_enter_defers Try.func85, Try.ntmps85
  go_wp2_with fail
  refine HC.mono ?_
  rintro e w1 ⟨rfl, hb⟩
  go_wp2_with fail
  refine (must_yes _).mono ?_
  rintro e w2 ⟨rfl, rfl⟩
  go_wp2_with fail
  refine (cutHead_yes s r n _ hs hr).mono ?_
  rintro e w2 ⟨rfl, hb2⟩
  go_wp2_with fail
  refine (ht _ (hb.trans (hb2.mono hb.size))).mono ?_
  rintro e w3 ⟨v, rfl, hq⟩
  go_wp2
  refine leaves_cons (f := 92) (args := #[]) (by simp) (by simp [go_sem]) ?_
  refine (catch96_idle _).mono ?_
  rintro e u' w'' ⟨rfl, rfl, rfl⟩
  simp [Leaves, settle, results, Try.results85, go_sem]
  exact hq

set_option maxRecDepth 100000 in
set_option maxHeartbeats 1600000 in
theorem rkI_told (s r : ByteArray) (kind n : Nat) (k : FuncId) (cap : Array Value) (w : World) (hs : s.size ≤ 1048576) (hr : rk s kind = some (n, r)) (hen : ∀ args w, (callFunc k args).run Try.prog w = .ok (.enter k args) w)
    (ht : ∀ w1, Below w.heap.size w w1 → Calls Try.prog k (#[.int .i64 n, .string r] ++ cap) w1 fun e w2 => e = .panicked noT ∧ Below w1.heap.size w1 w2) :
    Calls Try.prog 85 #[.string s, .int .u8 kind, .func (.func k) #[] cap] w fun e w' => e = .returned (.tuple #[.int .i64 0, .bool false]) ∧ Below w.heap.size w w' := by
  have hmf : ∀ (fn : Fn) (first cap : Array Value) (w : World), (Instr.makeFunc fn first cap).run Try.prog w = .ok (.func fn first cap) w := fun _ _ _ _ => rfl
  have hT : IsT s ∧ at_ s 0 = kind := by
    by_cases c : IsT s ∧ at_ s 0 = kind
    · exact c
    · rw [rk_no c] at hr; simp at hr
  rw [rk_yes hT.1 hT.2] at hr
  obtain ⟨hT, hk⟩ := hT
  have h2 := not_empty hT
  have hat := at_eq s 0 (by omega)
  obtain ⟨h9, r0, hB, h0⟩ := hT
  have hne := nil_size r0 h0
  have hk : ((s[0].toNat : Int) == (kind : Int)) = true := by simp; omega
  have HC := behindTerm_is s w hs
  simp only [hB, ansB] at HC
  clear hB hat
  go_enter_defers Try.func85, Try.ntmps85
  go_wp2_with fail
  refine HC.mono ?_
  rintro e w1 ⟨rfl, hb⟩
  go_wp2_with fail
  refine (must_yes _).mono ?_
  rintro e w2 ⟨rfl, rfl⟩
  go_wp2_with fail
  refine (cutHead_yes s r n _ hs hr).mono ?_
  rintro e w2 ⟨rfl, hb2⟩
  have hb12 := hb.trans (hb2.mono hb.size)
  go_wp2_with fail
  refine (ht _ hb12).mono ?_
  rintro e w3 ⟨rfl, hb3⟩
  go_wp2
  refine leaves_cons (f := 92) (args := #[]) (by simp) (by simp [go_sem]) ?_
  refine (catch96 _).mono ?_
  rintro e u' w'' ⟨rfl, rfl, rfl⟩
  simp [Leaves, settle, results, Try.results85, go_sem]
  exact hb12.trans (hb3.mono hb12.size)

theorem catch101_idle (w : World) :
    CallsD Try.prog 78 #[] .returning w fun e u' w' => e = .returned (.tuple #[]) ∧ u' = .returning ∧ w = w' := by
  refine callsD_of_wpS Try.func78 rfl fun c₀ cs hu => ?_
  apply wpS_region
  simp [wpOpsS, go_sem, recoverD, hu, Try.ntmps78, bodyPostS, results, Try.results78]
  cases c₀; simp_all
theorem catch101 (w : World) :
    CallsD Try.prog 78 #[] (.panicking noT) w fun e u' w' => e = .returned (.tuple #[]) ∧ u' = .panicking [{ v := .iface 9 (.string ⟨#[110, 111, 32, 116, 101, 114, 109]⟩), recovered := true }] ∧ w = w' := by
  refine callsD_of_wpS Try.func78 rfl fun c₀ cs hu => ?_
  apply wpS_region
  simp [wpOpsS, go_sem, recoverD, hu, Try.ntmps78, bodyPostS, results, Try.results78, noT]

set_option maxRecDepth 100000 in
set_option maxHeartbeats 1600000 in
theorem rkL_no (s : ByteArray) (kind : Nat) (F : Value) (w : World) (hs : s.size ≤ 2097152) (hr : rk s kind = none) :
    Calls Try.prog 59 #[.string s, .int .u8 kind, F] w fun e w' => e = .returned (.tuple #[.slice none 0 0, .bool false]) ∧ Below w.heap.size w w' := by
  have hmf : ∀ (fn : Fn) (first cap : Array Value) (w : World), (Instr.makeFunc fn first cap).run Try.prog w = .ok (.func fn first cap) w := fun _ _ _ _ => rfl
  by_cases h : s.size ≤ 900
  · have HC := behindTerm_is s w (by omega)
    cases hB : bh 8 s with
    | none =>
      simp only [hB, ansB] at HC
      clear hr hB
      go_enter_defers Try.func59, Try.ntmps59
      go_wp2_with fail
      refine HC.mono ?_
      rintro e w1 ⟨rfl, hb⟩
      go_wp2
      refine leaves_cons (f := 78) (args := #[]) (by simp) (by simp [go_sem]) ?_
      refine (catch101 _).mono ?_
      rintro e u' w'' ⟨rfl, rfl, rfl⟩
      simp [Leaves, settle, results, Try.results59, go_sem]
      exact hb
    | some r =>
      simp only [hB, ansB] at HC
      by_cases h0 : r.size = 0
      · have hT : IsT s := ⟨h, r, hB, h0⟩
        have h2 := not_empty hT
        have hne := nil_size r h0
        have hat := at_eq s 0 (by omega)
        have hk : ((s[0].toNat : Int) == (kind : Int)) = false := by
          rw [Bool.eq_false_iff]; intro hh; simp at hh
          obtain ⟨n, t, hc⟩ := hT.cut
          rw [rk_yes hT (by omega), hc] at hr
          simp at hr
        clear hr hB hT hat
        go_enter_defers Try.func59, Try.ntmps59
        go_wp2_with fail
        refine HC.mono ?_
        rintro e w1 ⟨rfl, hb⟩
        go_wp2_with fail
        refine (must_no _).mono ?_
        rintro e w2 ⟨rfl, rfl⟩
        go_wp2
        refine leaves_cons (f := 78) (args := #[]) (by simp) (by simp [go_sem]) ?_
        refine (catch101 _).mono ?_
        rintro e u' w'' ⟨rfl, rfl, rfl⟩
        simp [Leaves, settle, results, Try.results59, go_sem]
        exact hb
      · have hne := ne_nil r (by omega)
        clear hr hB
        go_enter_defers Try.func59, Try.ntmps59
        go_wp2_with fail
        refine HC.mono ?_
        rintro e w1 ⟨rfl, hb⟩
        go_wp2_with fail
        refine (must_no _).mono ?_
        rintro e w2 ⟨rfl, rfl⟩
        go_wp2
        refine leaves_cons (f := 78) (args := #[]) (by simp) (by simp [go_sem]) ?_
        refine (catch101 _).mono ?_
        rintro e u' w'' ⟨rfl, rfl, rfl⟩
        simp [Leaves, settle, results, Try.results59, go_sem]
        exact hb
  · have h' : 900 < s.size := by omega
    clear hr
    go_enter_defers Try.func59, Try.ntmps59
    go_wp2_with fail
    refine (must_no _).mono ?_
    rintro e w1 ⟨rfl, rfl⟩
    go_wp2
    refine leaves_cons (f := 78) (args := #[]) (by simp) (by simp [go_sem]) ?_
    refine (catch101 _).mono ?_
    rintro e u' w'' ⟨rfl, rfl, rfl⟩
    simp [Leaves, settle, results, Try.results59, go_sem]
    exact Below.refl _ _

set_option maxRecDepth 100000 in
set_option maxHeartbeats 1600000 in
theorem rkL_yes (s r : ByteArray) (kind n : Nat) (k : FuncId) (cap : Array Value) (w : World) (Q : Value → World → Prop) (hs : s.size ≤ 1048576) (hr : rk s kind = some (n, r)) (hen : ∀ args w, (callFunc k args).run Try.prog w = .ok (.enter k args) w)
    (ht : ∀ w1, Below w.heap.size w w1 → Calls Try.prog k (#[.int .i64 n, .string r] ++ cap) w1 fun e w2 => ∃ v, e = .returned v ∧ Q v w2) :
    Calls Try.prog 59 #[.string s, .int .u8 kind, .func (.func k) #[] cap] w fun e w' => ∃ v, e = .returned (.tuple #[v, .bool true]) ∧ Q v w' := by
  have hmf : ∀ (fn : Fn) (first cap : Array Value) (w : World), (Instr.makeFunc fn first cap).run Try.prog w = .ok (.func fn first cap) w := fun _ _ _ _ => rfl
  have hT : IsT s ∧ at_ s 0 = kind := by
    by_cases c : IsT s ∧ at_ s 0 = kind
    · exact c
    · rw [rk_no c] at hr; simp at hr
  rw [rk_yes hT.1 hT.2] at hr
  obtain ⟨hT, hk⟩ := hT
  have h2 := not_empty hT
  have hat := at_eq s 0 (by omega)
  obtain ⟨h9, r0, hB, h0⟩ := hT
  have hne := nil_size r0 h0
  have hk : ((s[0].toNat : Int) == (kind : Int)) = true := by simp; omega
  have HC := behindTerm_is s w hs
  simp only [hB, ansB] at HC
  clear hB hat
  go_enter_defers Try.func59, Try.ntmps59
  go_wp2_with fail
  refine HC.mono ?_
  rintro e w1 ⟨rfl, hb⟩
  go_wp2_with fail
  refine (must_yes _).mono ?_
  rintro e w2 ⟨rfl, rfl⟩
  go_wp2_with fail
  refine (cutHead_yes s r n _ hs hr).mono ?_
  rintro e w2 ⟨rfl, hb2⟩
  go_wp2_with fail
  refine (ht _ (hb.trans (hb2.mono hb.size))).mono ?_
  rintro e w3 ⟨v, rfl, hq⟩
  go_wp2
  refine leaves_cons (f := 78) (args := #[]) (by simp) (by simp [go_sem]) ?_
  refine (catch101_idle _).mono ?_
  rintro e u' w'' ⟨rfl, rfl, rfl⟩
  simp [Leaves, settle, results, Try.results59, go_sem]
  exact hq

set_option maxRecDepth 100000 in
set_option maxHeartbeats 1600000 in
theorem rkL_told (s r : ByteArray) (kind n : Nat) (k : FuncId) (cap : Array Value) (w : World) (hs : s.size ≤ 1048576) (hr : rk s kind = some (n, r)) (hen : ∀ args w, (callFunc k args).run Try.prog w = .ok (.enter k args) w)
    (ht : ∀ w1, Below w.heap.size w w1 → Calls Try.prog k (#[.int .i64 n, .string r] ++ cap) w1 fun e w2 => e = .panicked noT ∧ Below w1.heap.size w1 w2) :
    Calls Try.prog 59 #[.string s, .int .u8 kind, .func (.func k) #[] cap] w fun e w' => e = .returned (.tuple #[.slice none 0 0, .bool false]) ∧ Below w.heap.size w w' := by
  have hmf : ∀ (fn : Fn) (first cap : Array Value) (w : World), (Instr.makeFunc fn first cap).run Try.prog w = .ok (.func fn first cap) w := fun _ _ _ _ => rfl
  have hT : IsT s ∧ at_ s 0 = kind := by
    by_cases c : IsT s ∧ at_ s 0 = kind
    · exact c
    · rw [rk_no c] at hr; simp at hr
  rw [rk_yes hT.1 hT.2] at hr
  obtain ⟨hT, hk⟩ := hT
  have h2 := not_empty hT
  have hat := at_eq s 0 (by omega)
  obtain ⟨h9, r0, hB, h0⟩ := hT
  have hne := nil_size r0 h0
  have hk : ((s[0].toNat : Int) == (kind : Int)) = true := by simp; omega
  have HC := behindTerm_is s w hs
  simp only [hB, ansB] at HC
  clear hB hat
  go_enter_defers Try.func59, Try.ntmps59
  go_wp2_with fail
  refine HC.mono ?_
  rintro e w1 ⟨rfl, hb⟩
  go_wp2_with fail
  refine (must_yes _).mono ?_
  rintro e w2 ⟨rfl, rfl⟩
  go_wp2_with fail
  refine (cutHead_yes s r n _ hs hr).mono ?_
  rintro e w2 ⟨rfl, hb2⟩
  have hb12 := hb.trans (hb2.mono hb.size)
  go_wp2_with fail
  refine (ht _ hb12).mono ?_
  rintro e w3 ⟨rfl, hb3⟩
  go_wp2
  refine leaves_cons (f := 78) (args := #[]) (by simp) (by simp [go_sem]) ?_
  refine (catch101 _).mono ?_
  rintro e u' w'' ⟨rfl, rfl, rfl⟩
  simp [Leaves, settle, results, Try.results59, go_sem]
  exact hb12.trans (hb3.mono hb12.size)
end Go.Proofs.Ytaeecaebjafnpaa
