/-
  A block of two cells. Conditions stand at each.
-/
import Derived.Test.YtmkcdelfgaogaaaDoorRows
import Derived.Test.YtmkcdelfgaogaaaDoorMark
namespace Go.Proofs.YtmkcdelfgaogaaaDoor
open Go Go.ChangeShapes Go.WideShapes Go.ChangeAt Go.RowKit
set_option linter.unusedVariables false
set_option linter.unusedSimpArgs false
set_option maxRecDepth 100000
set_option maxHeartbeats 2000000

/-- block b holds a cell's two numbers. -/
def C2 (w : World) (b : Nat) (x y : Int) : Prop :=
  b < w.heap.size ∧ w.cell? ⟨b, 0, none⟩ = some (.int .i8 x) ∧ w.cell? ⟨b, 1, none⟩ = some (.int .i8 y)
section
variable {w w' : World} {b : Nat} {x y : Int}
theorem C2.new (w : World) (x y : Int) (t : TypeId) : C2 (w.alloc (.cells #[.int .i8 x, .int .i8 y] t)) w.heap.size x y :=
  ⟨by simp, by simp [go_sem], by simp [go_sem]⟩
theorem C2.of_block (h : C2 w b x y) (hs : w.heap.size ≤ w'.heap.size) (e : w'.heap[b]? = w.heap[b]?) : C2 w' b x y :=
  ⟨Nat.lt_of_lt_of_le h.1 hs, (World.cell?_of_block (w := w) e).trans h.2.1, (World.cell?_of_block (w := w) e).trans h.2.2⟩
theorem C2.alloc (h : C2 w b x y) (o : Obj) : C2 (w.alloc o) b x y := h.of_block (by simp) (Below.heap_alloc w o b h.1)
theorem C2.below (h : C2 w b x y) (hb : Below w.heap.size w w') : C2 w' b x y := h.of_block hb.size (hb.block b h.1)
end
end Go.Proofs.YtmkcdelfgaogaaaDoor
