/-
  The contract of spec.l00In. Conditions stand at each.
-/
import Derived.Test.YtmkcdelfgaogaaaDoorRows
import Derived.Test.YtmkcdelfgaogaaaDoorMark
import Derived.Deep.RegionHeld3
import Derived.Deep.QuietTactic
import Derived.BigQuiet
namespace Go.Proofs.YtmkcdelfgaogaaaDoor
open Go Go.ChangeShapes Go.WideShapes Go.ChangeAt Go.RowKit
set_option linter.unusedVariables false
set_option linter.unusedSimpArgs false
set_option maxRecDepth 100000
set_option maxHeartbeats 400000

theorem in_yes (v lo hi : Int) (w : World) (h1 : lo ≤ v) (h2 : v ≤ hi) : Calls Tryd.prog 64 #[.int .i64 v, .int .i64 lo, .int .i64 hi] w fun e w' => e = .returned (.bool true) ∧ w' = w := by
  go_enter Tryd.func64, Tryd.ntmps64
  go_wp2
  go_ret
  exact ⟨rfl, rfl⟩
theorem in_low (v lo hi : Int) (w : World) (h1 : v < lo) : Calls Tryd.prog 64 #[.int .i64 v, .int .i64 lo, .int .i64 hi] w fun e w' => e = .returned (.bool false) ∧ w' = w := by
  have d1 : decide (lo ≤ v) = false := by simp; omega
  go_enter Tryd.func64, Tryd.ntmps64
  go_wp2
  go_ret
  exact ⟨rfl, rfl⟩
theorem in_high (v lo hi : Int) (w : World) (h0 : lo ≤ v) (h1 : hi < v) : Calls Tryd.prog 64 #[.int .i64 v, .int .i64 lo, .int .i64 hi] w fun e w' => e = .returned (.bool false) ∧ w' = w := by
  have d1 : decide (v ≤ hi) = false := by simp; omega
  go_enter Tryd.func64, Tryd.ntmps64
  go_wp2
  go_ret
  exact ⟨rfl, rfl⟩
theorem in_no (v lo hi : Int) (w : World) (h : ¬ (lo ≤ v ∧ v ≤ hi)) : Calls Tryd.prog 64 #[.int .i64 v, .int .i64 lo, .int .i64 hi] w fun e w' => e = .returned (.bool false) ∧ w' = w := by
  by_cases h1 : v < lo
  · exact in_low v lo hi w h1
  · exact in_high v lo hi w (by omega) (by omega)
theorem in_any (v lo hi : Int) (r : Bool) (w : World) (hr : r = true ↔ lo ≤ v ∧ v ≤ hi) : Calls Tryd.prog 64 #[.int .i64 v, .int .i64 lo, .int .i64 hi] w fun e w' => e = .returned (.bool r) ∧ w' = w := by
  by_cases h : lo ≤ v ∧ v ≤ hi
  · obtain rfl : r = true := hr.2 h
    exact in_yes v lo hi w h.1 h.2
  · obtain rfl : r = false := by cases r; rfl; exact absurd (hr.1 rfl) h
    exact in_no v lo hi w h
end Go.Proofs.YtmkcdelfgaogaaaDoor
