/-
  Arguments of a law opened: a gang, a row, a mix. Conditions stand at each.
-/
import Derived.Test.YtfpoikeibjojgaaDoorRows
import Derived.Test.YtfpoikeibjojgaaDoorArgs
import Derived.Lib.SmallJoins
import Derived.Laws.IdiomArrays
namespace Go.Proofs.YtfpoikeibjojgaaDoor
open Go Go.ChangeShapes Go.WideShapes Go.ChangeAt Go.RowKit Go.Deep Go.Joins
set_option linter.unusedVariables false
set_option maxRecDepth 100000
theorem bd16s {n : Int} (h : (Lit.int .i16 n).wf = true) : -32768 ≤ n ∧ n ≤ 32767 := by
  have hmin : IntKind.i16.min = -32768 := rfl
  have hmax : IntKind.i16.max = 32767 := rfl
  simp only [Lit.wf, Bool.and_eq_true, decide_eq_true_eq] at h
  omega
theorem array5 {α : Type} {cs : Array α} (h : cs.size = 5) : ∃ c0 c1 c2 c3 c4, cs = #[c0, c1, c2, c3, c4] := by
  obtain ⟨l⟩ := cs
  match l, h with
  | [a, b, c, d, e], _ => exact ⟨a, b, c, d, e, rfl⟩
section
variable {H : Type} {enc : TypeId × Value → H} {w : World}
theorem open_gang {base : Nat} {v : Value} {d : DataW H} {p : List MemPlace} (hv : Value.okWide Tryd.prog w .any base 25 v) (h : DataW.Trod enc Tryd.prog w 0 (fun _ => true) true 25 v d p) :
    ∃ x y z u t, v = .agg #[.int .i8 x, .int .i8 y, .int .i8 z, .int .i8 u, .int .i16 t] ∧ (-128 ≤ x ∧ x ≤ 127) ∧ (-128 ≤ y ∧ y ≤ 127) ∧ (-128 ≤ z ∧ z ≤ 127) ∧ (-128 ≤ u ∧ u ≤ 127) ∧ (-32768 ≤ t ∧ t ≤ 32767) := by
  obtain ⟨cs, rfl, hsz⟩ := okWide_struct Tryd.underlying25 hv
  obtain ⟨k0, k1, k2, k3, k4, rfl⟩ := array5 (hsz.trans (by kernel_rfl))
  obtain ⟨fuel, hf⟩ := h
  obtain ⟨xs, n0, _, _, hlen, hxl, hall⟩ := DataW.trod_struct Tryd.underlying25 hf
  have c8 : Tryd.prog.cellsOf 22 = 1 := by kernel_rfl
  have c16 : Tryd.prog.cellsOf 23 = 1 := by kernel_rfl
  have hx5 : xs.length = 5 := hxl
  have f0 : DataW.trod enc Tryd.prog w 0 (fun _ => true) true n0 22 (([k0, k1, k2, k3, k4].drop 0).take (Tryd.prog.cellsOf 22)) = xs[0]? := hall 0 _ rfl
  have f1 : DataW.trod enc Tryd.prog w 0 (fun _ => true) true n0 22 (([k0, k1, k2, k3, k4].drop 1).take (Tryd.prog.cellsOf 22)) = xs[1]? := hall 1 _ rfl
  have f2 : DataW.trod enc Tryd.prog w 0 (fun _ => true) true n0 22 (([k0, k1, k2, k3, k4].drop 2).take (Tryd.prog.cellsOf 22)) = xs[2]? := hall 2 _ rfl
  have f3 : DataW.trod enc Tryd.prog w 0 (fun _ => true) true n0 22 (([k0, k1, k2, k3, k4].drop 3).take (Tryd.prog.cellsOf 22)) = xs[3]? := hall 3 _ rfl
  have f4 : DataW.trod enc Tryd.prog w 0 (fun _ => true) true n0 23 (([k0, k1, k2, k3, k4].drop 4).take (Tryd.prog.cellsOf 23)) = xs[4]? := hall 4 _ rfl
  rw [c8, List.getElem?_eq_getElem (by omega)] at f0 f1 f2 f3
  rw [c16, List.getElem?_eq_getElem (by omega)] at f4
  obtain ⟨x, e0, _, wx⟩ := DataW.trod_int Tryd.underlying22 f0
  obtain ⟨y, e1, _, wy⟩ := DataW.trod_int Tryd.underlying22 f1
  obtain ⟨z, e2, _, wz⟩ := DataW.trod_int Tryd.underlying22 f2
  obtain ⟨u, e3, _, wu⟩ := DataW.trod_int Tryd.underlying22 f3
  obtain ⟨t, e4, _, wt⟩ := DataW.trod_int Tryd.underlying23 f4
  have hx : k0 = .int .i8 x := by simpa using e0
  have hy : k1 = .int .i8 y := by simpa using e1
  have hz : k2 = .int .i8 z := by simpa using e2
  have hu : k3 = .int .i8 u := by simpa using e3
  have ht : k4 = .int .i16 t := by simpa using e4
  subst hx hy hz hu ht
  exact ⟨x, y, z, u, t, rfl, bd8 wx, bd8 wy, bd8 wz, bd8 wu, bd16s wt⟩
theorem open_row {base : Nat} {v : Value} {d : DataW H} {p : List MemPlace} (hv : Value.okWide Tryd.prog w .any base 27 v) (h : DataW.Trod enc Tryd.prog w 0 (fun _ => true) true 27 v d p) :
    ∃ x y, v = .agg #[.int .i8 x, .int .i16 y] ∧ (-128 ≤ x ∧ x ≤ 127) ∧ (-32768 ≤ y ∧ y ≤ 32767) := by
  obtain ⟨c0, c1, y0, y1, m, rfl, _, _, hy0, hy1⟩ := open_agg2 Tryd.underlying27 (by kernel_rfl) (by kernel_rfl) hv h
  obtain ⟨x, e0, _, wx⟩ := DataW.trod_int Tryd.underlying22 hy0
  obtain ⟨y, e1, _, wy⟩ := DataW.trod_int Tryd.underlying23 hy1
  have hx : c0 = .int .i8 x := by simpa using e0
  have hy : c1 = .int .i16 y := by simpa using e1
  subst hx hy
  exact ⟨x, y, rfl, bd8 wx, bd16s wy⟩
end
end Go.Proofs.YtfpoikeibjojgaaDoor
