/-
  The contracts of spec.l03Row, impl.isRow, spec.l03Joint and impl.isJoint. Conditions stand at each.
-/
import Derived.Test.YtjeccdmhpbaabaaRows
import Derived.Test.YtjeccdmhpbaabaaBow
import Derived.Test.YtjeccdmhpbaabaaIn
namespace Go.Proofs.Ytjeccdmhpbaabaa
open Go Go.ChangeShapes Go.WideShapes Go.ChangeAt Go.RowKit
set_option linter.unusedVariables false
set_option linter.unusedSimpArgs false
set_option maxRecDepth 100000
set_option maxHeartbeats 2000000

def RowOk (n : Nat) (c : Nat → Int) : Prop := (1 ≤ n ∧ n ≤ 60) ∧ ∀ j, j < n → 1 ≤ c j ∧ c j ≤ 20
def JointOk (k : Int) : Prop := 0 ≤ k ∧ k ≤ 5

theorem isJoint_any (k : Int) (w : World) : Calls Try.prog 111 #[.int .i64 k] w fun e w' => w' = w ∧ ((JointOk k ∧ e = .returned (.bool true)) ∨ (¬ JointOk k ∧ e = .returned (.bool false))) := by
  by_cases h1 : 0 ≤ k
  · have d1 : decide (0 ≤ k) = true := by simpa using h1
    by_cases h2 : k ≤ 5
    · have d2 : decide (k ≤ 5) = true := by simpa using h2
      go_enter Try.func111, Try.ntmps111
      go_wp2
      go_ret
      exact ⟨rfl, .inl ⟨⟨h1, h2⟩, rfl⟩⟩
    · have d2 : decide (k ≤ 5) = false := by simpa using h2
      go_enter Try.func111, Try.ntmps111
      go_wp2
      go_ret
      exact ⟨rfl, .inr ⟨fun h => by have := h.2; omega, rfl⟩⟩
  · have d1 : decide (0 ≤ k) = false := by simpa using h1
    go_enter Try.func111, Try.ntmps111
    go_wp2
    go_ret
    exact ⟨rfl, .inr ⟨fun h => by have := h.1; omega, rfl⟩⟩
theorem l03Joint_any (k : Int) (w : World) : Calls Try.prog 109 #[.int .i64 k] w fun e w' => w' = w ∧ ((JointOk k ∧ e = .returned (.bool true)) ∨ (¬ JointOk k ∧ e = .returned (.bool false))) := by
  by_cases h : 0 ≤ k ∧ k ≤ 5
  · go_enter Try.func109, Try.ntmps109
    go_wp2_with (go_at_call 97; refine (in_yes _ _ _ _ (by omega) (by omega)).mono ?_; rintro e w1 ⟨rfl, hw1⟩; replace hw1 := hw1.symm; subst hw1)
    go_ret
    exact ⟨rfl, .inl ⟨h, rfl⟩⟩
  · go_enter Try.func109, Try.ntmps109
    go_wp2_with (go_at_call 97; refine (in_no _ _ _ _ (by omega)).mono ?_; rintro e w1 ⟨rfl, hw1⟩; replace hw1 := hw1.symm; subst hw1)
    go_ret
    exact ⟨rfl, .inr ⟨h, rfl⟩⟩

theorem isRow_any (A : Option Addr) (n cap : Nat) (c : Nat → Int) (w : World) (hn : n ≤ 1048576) (hr : RdK .i64 w w.heap.size A n c) :
    Calls Try.prog 107 #[.slice A n cap] w (Test (RowOk n c) w) := by
  have HR := Lib.hid hr
  clear hr
  by_cases h1 : 1 ≤ n
  case neg =>
    have d1 : decide (n < 1) = true := by simp; omega
    go_enter Try.func107, Try.ntmps107
    go_wp2
    go_ret
    exact ⟨Below.refl _ _, .inr ⟨fun h => h1 h.1.1, rfl⟩⟩
  have d1 : decide (n < 1) = false := by simp; omega
  by_cases h60 : n ≤ 60
  case neg =>
    have d6 : decide (60 < n) = true := by simp; omega
    go_enter Try.func107, Try.ntmps107
    go_wp2
    go_ret
    exact ⟨Below.refl _ _, .inr ⟨fun h => h60 h.1.2, rfl⟩⟩
  have d6 : decide (60 < n) = false := by simp; omega
  go_enter Try.func107, Try.ntmps107
  go_wp2_with fail
  go_loopw [15] (fun t15 wr => ∃ k : Nat, k ≤ n ∧ t15 = .int .i64 k ∧ Below w.heap.size w wr ∧ ∀ j, j < k → 1 ≤ c j ∧ c j ≤ 20) (fun t15 wr => n - (intOf t15).toNat)
  case atStart => exact ⟨0, by omega, rfl, Below.refl _ _, fun j hj => by omega⟩
  case round =>
    obtain ⟨k, hk, rfl, B, hall⟩ := hrel
    have HA := Lib.hid hall
    clear hall
    by_cases hlt : k < n
    · obtain ⟨b, off, rfl, hbl, ck⟩ := rdInt64 (HR.out.below B) hlt
      obtain ⟨x, hx⟩ : ∃ x, x = c k := ⟨_, rfl⟩
      rw [← hx] at ck
      have HX := Lib.hid hx
      clear hx
      by_cases e1 : x < 1
      · have D1 : decide (x < 1) = true := by simpa using e1
        go_wp2
        go_ret
        exact ⟨B, .inr ⟨fun h => by have := (h.2 k hlt).1; rw [← HX.out] at this; omega, rfl⟩⟩
      have D1 : decide (x < 1) = false := by simpa using e1
      by_cases e2 : 20 < x
      · have D2 : decide (20 < x) = true := by simpa using e2
        go_wp2
        go_ret
        exact ⟨B, .inr ⟨fun h => by have := (h.2 k hlt).2; rw [← HX.out] at this; omega, rfl⟩⟩
      have D2 : decide (20 < x) = false := by simpa using e2
      go_wp2
      exact ⟨⟨k + 1, by omega, by first | go_num | simp, B, fun j hj => by
        by_cases e : j = k
        · subst e; rw [← HX.out]; omega
        · exact HA.out j (by omega)⟩, by simp [intOf]; omega⟩
    · obtain rfl : k = n := by omega
      go_wp2
      go_ret
      exact ⟨B, .inl ⟨⟨⟨h1, h60⟩, HA.out⟩, rfl⟩⟩

theorem l03Row_any (A : Option Addr) (n cap : Nat) (c : Nat → Int) (w : World) (hn : n ≤ 1048576) (hr : RdK .i64 w w.heap.size A n c) :
    Calls Try.prog 105 #[.slice A n cap] w (Test (RowOk n c) w) := by
  have HR := Lib.hid hr
  clear hr
  go_enter Try.func105, Try.ntmps105
  go_wp2_with fail
  go_loopw [3] (fun t3 wr => ∃ k : Nat, k ≤ n ∧ t3 = .int .i64 k ∧ Below w.heap.size w wr ∧ ∀ j, j < k → 1 ≤ c j ∧ c j ≤ 20) (fun t3 wr => n - (intOf t3).toNat)
  case atStart => exact ⟨0, by omega, rfl, Below.refl _ _, fun j hj => by omega⟩
  case round =>
    obtain ⟨k, hk, rfl, B, hall⟩ := hrel
    have HA := Lib.hid hall
    clear hall
    obtain ⟨wo, rfl⟩ : ∃ wo : World, wo = wr := ⟨_, rfl⟩
    by_cases hlt : k < n
    · obtain ⟨b, off, rfl, hbl, ck⟩ := rdInt64 (HR.out.below B) hlt
      obtain ⟨x, hx⟩ : ∃ x, x = c k := ⟨_, rfl⟩
      rw [← hx] at ck
      have HX := Lib.hid hx
      clear hx
      by_cases hin : 1 ≤ x ∧ x ≤ 20
      · go_wp2_with (go_at_call 97; refine (in_yes _ _ _ _ (by omega) (by omega)).mono ?_; rintro e w1 ⟨rfl, hw1⟩; replace hw1 := hw1.symm; subst hw1)
        exact ⟨⟨k + 1, by omega, by first | go_num | simp, B, fun j hj => by
          by_cases e : j = k
          · subst e; rw [← HX.out]; exact hin
          · exact HA.out j (by omega)⟩, by simp [intOf]; omega⟩
      · go_wp2_with (go_at_call 97; refine (in_no _ _ _ _ (by omega)).mono ?_; rintro e w1 ⟨rfl, hw1⟩; replace hw1 := hw1.symm; subst hw1)
        go_ret
        exact ⟨B, .inr ⟨fun h => hin (by rw [HX.out]; exact h.2 k hlt), rfl⟩⟩
    · obtain rfl : k = n := by omega
      by_cases hin : 1 ≤ k ∧ k ≤ 60
      · go_wp2_with (go_at_call 97; refine (in_yes _ _ _ _ (by omega) (by omega)).mono ?_; rintro e w1 ⟨rfl, hw1⟩; replace hw1 := hw1.symm; subst hw1)
        go_ret
        exact ⟨B, .inl ⟨⟨hin, HA.out⟩, rfl⟩⟩
      · go_wp2_with (go_at_call 97; refine (in_no _ _ _ _ (by omega)).mono ?_; rintro e w1 ⟨rfl, hw1⟩; replace hw1 := hw1.symm; subst hw1)
        go_ret
        exact ⟨B, .inr ⟨fun h => hin h.1, rfl⟩⟩
end Go.Proofs.Ytjeccdmhpbaabaa
