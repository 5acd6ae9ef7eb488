/-
  Rows of joints: contracts of impl.jointsEast and impl.jointsSouth. Conditions stand at each.
-/
import Derived.Test.YtmkcdelfgaogaaaDoorRows
import Derived.Test.YtmkcdelfgaogaaaDoorJoint
import Derived.Test.YtmkcdelfgaogaaaDoorOpen
namespace Go.Proofs.YtmkcdelfgaogaaaDoor
open Go Go.ChangeShapes Go.WideShapes Go.ChangeAt Go.RowKit
set_option linter.unusedVariables false
set_option linter.unusedSimpArgs false
set_option maxRecDepth 100000
set_option maxHeartbeats 2000000

/-- k is the first number at which T does not hold. -/
def FirstNot (T : Nat → Bool) (k : Nat) : Prop := (∀ i, i < k → T i = true) ∧ T k = false
theorem FirstNot.uniq {T : Nat → Bool} {a b : Nat} (h : FirstNot T a) (k : FirstNot T b) : a = b := by
  rcases Nat.lt_trichotomy a b with e | e | e
  · have := k.1 a e; rw [h.2] at this; cases this
  · exact e
  · have := h.1 b e; rw [k.2] at this; cases this
def RunPost (T : Nat → Bool) (w : World) (e : Ending) (w' : World) : Prop := Below w.heap.size w w' ∧ ∃ k : Nat, k ≤ 12 ∧ FirstNot T k ∧ e = .returned (.int .i64 k)

def runEast (G : Nat → Int) (x y : Nat) (i : Nat) : Bool := jb (gA G ((x : Int) + i) ((y : Int) - 1)) (gA G ((x : Int) + i) y)
theorem runEast_end (G : Nat → Int) (x y k : Nat) (h : 12 ≤ x + k) : runEast G x y k = false := by
  unfold runEast
  rw [gA_out (x := (x : Int) + (k : Int)) (y := (y : Int)) (by omega)]
  simp [jb]
def runSouth (G : Nat → Int) (x y : Nat) (i : Nat) : Bool := jb (gA G ((x : Int) - 1) ((y : Int) + i)) (gA G x ((y : Int) + i))
theorem runSouth_end (G : Nat → Int) (x y k : Nat) (h : 12 ≤ y + k) : runSouth G x y k = false := by
  unfold runSouth
  rw [gA_out (x := (x : Int)) (y := (y : Int) + (k : Int)) (by omega)]
  simp [jb]
end Go.Proofs.YtmkcdelfgaogaaaDoor
