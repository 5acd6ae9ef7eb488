/-
  Where a number lies in a list: spec.l00Has, spec.l05Where, slices.Index, slices.Contains. Conditions stand at each.
-/
import Derived.Test.YtgpnimbgckajlaaRows
import Derived.Test.YtgpnimbgckajlaaStackM
import Derived.Test.YtgpnimbgckajlaaNums
import Derived.Test.YtgpnimbgckajlaaResInt64
namespace Go.Proofs.Ytgpnimbgckajlaa
open Go Go.ChangeShapes Go.WideShapes Go.ChangeAt Go.RowKit
set_option linter.unusedVariables false
set_option linter.unusedSimpArgs false
set_option maxRecDepth 100000
set_option maxHeartbeats 4000000
def InL (n : Nat) (c : Nat → Int) (v : Int) : Prop := ∃ j, j < n ∧ c j = v
theorem InL.first {n : Nat} {c : Nat → Int} {v : Int} (h : InL n c v) : ∃ i, FirstAt c n v i := firstAt_ex c v n h
theorem index_at (A : Option Addr) (n cap : Nat) (c : Nat → Int) (v : Int) (i : Nat) (w : World) (hn : n ≤ 1048576) (hr : RdK .i64 w w.heap.size A n c) (h : FirstAt c n v i) :
    Calls Try.prog 75 #[.slice A n cap, .int .i64 v] w fun e w' => e = .returned (.int .i64 (i : Int)) ∧ w' = w := by
  have HR := Lib.hid hr
  have HF := Lib.hid h
  have hi := h.1
  clear hr h
  go_enter Try.func75, Try.ntmps75
  go_wp2
  go_loop [5, 8] (fun t5 t8 => ∃ k : Nat, k ≤ i ∧ t8 = .int .i64 k) (fun t5 t8 => i - (intOf t8).toNat)
  case atStart => exact ⟨0, by omega, rfl⟩
  case round =>
    obtain ⟨k, hk, rfl⟩ := hrel
    have hki : (k : Int) < (n : Int) := by omega
    obtain ⟨b, off, rfl, hbl, c0⟩ := rdInt64 HR.out (show k < n by omega)
    by_cases hlt : k < i
    · have hne := HF.out.2.2 k hlt
      obtain ⟨x, hx⟩ : ∃ x, x = c k := ⟨_, rfl⟩
      rw [← hx] at c0 hne
      have d : (x == v) = false := by simpa using hne
      have d' : (v == x) = false := by simpa using fun e => hne e.symm
      clear hx hne
      go_wp2
      exact ⟨⟨k + 1, by omega, by first | go_num | simp⟩, by simp [intOf]; omega⟩
    · obtain rfl : k = i := by omega
      have he := HF.out.2.1
      rw [he] at c0
      have d : (v == v) = true := by simp
      clear he
      go_wp2
      go_ret
      exact ⟨rfl, rfl⟩
theorem index_no (A : Option Addr) (n cap : Nat) (c : Nat → Int) (v : Int) (w : World) (hn : n ≤ 1048576) (hr : RdK .i64 w w.heap.size A n c) (h : ¬ InL n c v) :
    Calls Try.prog 75 #[.slice A n cap, .int .i64 v] w fun e w' => e = .returned (.int .i64 (-1)) ∧ w' = w := by
  have HR := Lib.hid hr
  have HF := Lib.hid h
  clear hr h
  go_enter Try.func75, Try.ntmps75
  go_wp2
  go_loop [5, 8] (fun t5 t8 => ∃ k : Nat, k ≤ n ∧ t8 = .int .i64 k) (fun t5 t8 => n - (intOf t8).toNat)
  case atStart => exact ⟨0, by omega, rfl⟩
  case round =>
    obtain ⟨k, hk, rfl⟩ := hrel
    by_cases hlt : k < n
    · have hki : (k : Int) < (n : Int) := by omega
      obtain ⟨b, off, rfl, hbl, c0⟩ := rdInt64 HR.out hlt
      have hne : c k ≠ v := fun e => HF.out ⟨k, hlt, e⟩
      obtain ⟨x, hx⟩ : ∃ x, x = c k := ⟨_, rfl⟩
      rw [← hx] at c0 hne
      have d : (x == v) = false := by simpa using hne
      have d' : (v == x) = false := by simpa using fun e => hne e.symm
      clear hx hne
      go_wp2
      exact ⟨⟨k + 1, by omega, by first | go_num | simp⟩, by simp [intOf]; omega⟩
    · obtain rfl : k = n := by omega
      have hki : ¬ ((k : Int) < (k : Int)) := by omega
      go_wp2
      go_ret
      exact ⟨rfl, rfl⟩
theorem contains_yes (A : Option Addr) (n cap : Nat) (c : Nat → Int) (v : Int) (w : World) (hn : n ≤ 1048576) (hr : RdK .i64 w w.heap.size A n c) (h : InL n c v) :
    Calls Try.prog 84 #[.slice A n cap, .int .i64 v] w fun e w' => e = .returned (.bool true) ∧ w' = w := by
  obtain ⟨i, hi⟩ := h.first
  have d : (0 : Int) ≤ (i : Int) := by omega
  have HI := Lib.hid (index_at A n cap c v i w hn hr hi)
  clear hi hr h
  go_enter Try.func84, Try.ntmps84
  go_wp2_with fail
  refine HI.out.mono ?_
  rintro e w1 ⟨rfl, rfl⟩
  go_wp2
  go_ret
  exact ⟨rfl, rfl⟩
theorem contains_no (A : Option Addr) (n cap : Nat) (c : Nat → Int) (v : Int) (w : World) (hn : n ≤ 1048576) (hr : RdK .i64 w w.heap.size A n c) (h : ¬ InL n c v) :
    Calls Try.prog 84 #[.slice A n cap, .int .i64 v] w fun e w' => e = .returned (.bool false) ∧ w' = w := by
  have HI := Lib.hid (index_no A n cap c v w hn hr h)
  clear hr h
  go_enter Try.func84, Try.ntmps84
  go_wp2_with fail
  refine HI.out.mono ?_
  rintro e w1 ⟨rfl, rfl⟩
  go_wp2
  go_ret
  exact ⟨rfl, rfl⟩
end Go.Proofs.Ytgpnimbgckajlaa
