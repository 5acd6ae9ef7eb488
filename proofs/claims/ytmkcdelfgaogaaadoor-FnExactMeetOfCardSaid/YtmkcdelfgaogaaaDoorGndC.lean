/-
  Contracts of the law's helpers over grounds: heights copied and compared. Conditions stand at each.
-/
import Derived.Test.YtmkcdelfgaogaaaDoorRows
import Derived.Test.YtmkcdelfgaogaaaDoorGndM
import Derived.Test.YtmkcdelfgaogaaaDoorBase
import Derived.Test.YtmkcdelfgaogaaaDoorMark
import Derived.Test.YtmkcdelfgaogaaaDoorCellL
import Derived.Deep.RegionHeld3
namespace Go.Proofs.YtmkcdelfgaogaaaDoor
open Go Go.ChangeShapes Go.WideShapes Go.ChangeAt Go.RowKit
set_option linter.unusedVariables false
set_option linter.unusedSimpArgs false
set_option maxRecDepth 100000
set_option maxHeartbeats 2000000

theorem zero9 : #[.int .i16 0, .int .i16 0, .int .i16 0, .int .i16 0, .int .i16 0, .int .i16 0, .int .i16 0, .int .i16 0, .int .i16 0] = iV .i16 9 (fun _ => 0) := by
  refine iV_of rfl fun p hp => ?_
  have : p = 0 ∨ p = 1 ∨ p = 2 ∨ p = 3 ∨ p = 4 ∨ p = 5 ∨ p = 6 ∨ p = 7 ∨ p = 8 := by omega
  rcases this with rfl | rfl | rfl | rfl | rfl | rfl | rfl | rfl | rfl <;> rfl

def isZero16 : Option Value → Bool
  | some (.int .i16 n) => n == 0
  | _ => false
theorem of_isZero16 {v : Option Value} (h : isZero16 v = true) : v = some (.int .i16 0) := by
  unfold isZero16 at h
  split at h
  · simp only [beq_iff_eq] at h; subst h; rfl
  · cases h
/-- heights copied row by row. -/
theorem rows_step {k : Nat} (hk : k < 9) (h : Nat → Int) : (∀ j, j < (r9 h k).size → (hV (upto (9 * (k + 1)) h (fun _ => 0)))[k * 9 + j]? = (r9 h k)[j]?) ∧
    (∀ j, j < 81 → (j < k * 9 ∨ k * 9 + (r9 h k).size ≤ j) → (hV (upto (9 * (k + 1)) h (fun _ => 0)))[j]? = (hV (upto (9 * k) h (fun _ => 0)))[j]?) := by
  rw [iV_size]
  refine ⟨fun j hj => ?_, fun j hj ho => ?_⟩
  · rw [hV_get _ (by omega), iV_get hj]
    unfold upto
    rw [if_pos (by omega), show k * 9 + j = 9 * k + j by omega]
  · rw [hV_get _ hj, hV_get _ hj]
    unfold upto
    rcases ho with ho | ho
    · rw [if_pos (by omega), if_pos (by omega)]
    · rw [if_neg (by omega), if_neg (by omega)]

end Go.Proofs.YtmkcdelfgaogaaaDoor
