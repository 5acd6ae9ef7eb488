/-
  Arguments of a law opened: a slab. Conditions stand at each.
-/
import Derived.Test.YtmkcdelfgaogaaaDoorRows
import Derived.Test.YtmkcdelfgaogaaaDoorArgs
import Derived.Lib.SmallJoins
namespace Go.Proofs.YtmkcdelfgaogaaaDoor
open Go Go.ChangeShapes Go.WideShapes Go.ChangeAt Go.RowKit Go.Deep Go.Joins
set_option linter.unusedVariables false
set_option maxRecDepth 100000
section
variable {H : Type} {enc : TypeId × Value → H} {w : World}
theorem open_slab {base : Nat} {v : Value} {d : DataW H} {p : List MemPlace} (hv : Value.okWide Tryd.prog w .any base 107 v) (h : DataW.Trod enc Tryd.prog w 0 (fun _ => true) true 107 v d p) :
    ∃ x y z u, v = .agg #[.int .i8 x, .int .i8 y, .int .i8 z, .int .i8 u] ∧ (-128 ≤ x ∧ x ≤ 127) ∧ (-128 ≤ y ∧ y ≤ 127) ∧ (-128 ≤ z ∧ z ≤ 127) ∧ (-128 ≤ u ∧ u ≤ 127) := by
  obtain ⟨c0, c1, c2, c3, y0, y1, y2, y3, m, rfl, _, _, hy0, hy1, hy2, hy3⟩ := open_agg4 Tryd.underlying107 (by kernel_rfl) (by kernel_rfl) hv h
  obtain ⟨x, e0, _, wx⟩ := DataW.trod_int Tryd.underlying22 hy0
  obtain ⟨y, e1, _, wy⟩ := DataW.trod_int Tryd.underlying22 hy1
  obtain ⟨z, e2, _, wz⟩ := DataW.trod_int Tryd.underlying22 hy2
  obtain ⟨u, e3, _, wu⟩ := DataW.trod_int Tryd.underlying22 hy3
  have hx : c0 = .int .i8 x := by simpa using e0
  have hy : c1 = .int .i8 y := by simpa using e1
  have hz : c2 = .int .i8 z := by simpa using e2
  have hu : c3 = .int .i8 u := by simpa using e3
  subst hx hy hz hu
  exact ⟨x, y, z, u, rfl, bd8 wx, bd8 wy, bd8 wz, bd8 wu⟩
end
end Go.Proofs.YtmkcdelfgaogaaaDoor
