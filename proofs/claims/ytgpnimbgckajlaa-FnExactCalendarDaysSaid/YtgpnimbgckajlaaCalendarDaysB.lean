/-
  The walk of the law FnExactCalendarDays. Conditions stand at each.
-/
import Derived.Test.YtgpnimbgckajlaaRows
import Derived.Test.YtgpnimbgckajlaaCalS
namespace Go.Proofs.Ytgpnimbgckajlaa.calendarDays
open Go Go.ChangeShapes Go.WideShapes Go.ChangeAt Go.RowKit
set_option linter.unusedVariables false
set_option linter.unusedSimpArgs false
set_option maxRecDepth 100000
set_option maxHeartbeats 4000000
theorem walk (s d : Int) (w : World) (bs : (Lit.int .i64 s).wf = true) (bd : (Lit.int .i64 d).wf = true) :
    Calls Try.prog 6 #[.int .i64 s, .int .i64 d] w fun e w' => e = .returned (.bool true) ∧ Below w.heap.size w w' := by
  obtain ⟨z, c, hS, hI⟩ := calendarDays_both s d
  have HS := Lib.hid hS
  have HI := Lib.hid hI
  have hr1 : (z != z) = false := by simp
  have hr2 : (c != c) = false := by simp
  clear hS hI
  go_enter Try.func6, Try.ntmps6
  go_wp2_with fail
  refine (HS.out _).mono ?_
  rintro e w1 ⟨hb, rfl⟩
  go_wp2_with fail
  refine (HI.out _).mono ?_
  rintro e w2 ⟨hb2, rfl⟩
  replace hb := nxt hb hb2
  clear hb2
  go_wp2_with fail
  go_ret
  exact ⟨rfl, hb⟩
end Go.Proofs.Ytgpnimbgckajlaa.calendarDays
