/-
  Results that are rows of cells; a row stored in a region that draws its order; a ground that is built. Conditions stand at each.
-/
import Derived.Test.YtegnhpanlbfmdaaRows
import Derived.Test.YtegnhpanlbfmdaaLandM
import Derived.Laws.ResultCell
import Derived.Laws.Rows
namespace Go.Proofs.Ytegnhpanlbfmdaa
open Go Go.ChangeShapes Go.WideShapes Go.ChangeAt Go.RowKit
set_option linter.unusedVariables false
set_option linter.unusedSimpArgs false
set_option maxRecDepth 100000

theorem results_row_tmp {P : Program} {fn : Func} {p u : Tmp} {ty : TypeId} (h : fn.results = #[.cell p ty, .tmp u]) (tmps : Array Value) (w : World) (g : Nat) (t : TypeId) (cs : Array Value) (d : TypeDesc)
    (hB : Bx w g cs t) (hp : tmps.getD p undef = .pointer (some ⟨g, 0, none⟩)) (hu : P.underlying ty = some d) (hd : (match d with | .struct _ | .array _ _ => true | _ => false) = true) (hi : (P.info? ty).map (·.size) = some cs.size) (z : Value) (hz : tmps.getD u undef = z) :
    (results fn tmps).run P w = .ok (.tuple #[.agg cs, z]) w := by
  have hp' : tmps[p]?.getD undef = .pointer (some ⟨g, 0, none⟩) := by simpa using hp
  have hz' : tmps[u]?.getD undef = z := by simpa using hz
  have hB' : w.heap[g]? = some (.cells cs t (0, 0)) := hB
  rw [results_cell_tmp h]
  simp [hp', hz', asAddr, run_loadVar_row w g t ty cs (0, 0) d hB' hu hd hi, Result.andThen]
theorem results_row_tmp2 {P : Program} {fn : Func} {p u v : Tmp} {ty : TypeId} (h : fn.results = #[.cell p ty, .tmp u, .tmp v]) (tmps : Array Value) (w : World) (g : Nat) (t : TypeId) (cs : Array Value) (d : TypeDesc)
    (hB : Bx w g cs t) (hp : tmps.getD p undef = .pointer (some ⟨g, 0, none⟩)) (hu : P.underlying ty = some d) (hd : (match d with | .struct _ | .array _ _ => true | _ => false) = true) (hi : (P.info? ty).map (·.size) = some cs.size) (z z' : Value) (hz : tmps.getD u undef = z) (hz2 : tmps.getD v undef = z') :
    (results fn tmps).run P w = .ok (.tuple #[.agg cs, z, z']) w := by
  have hp' : tmps[p]?.getD undef = .pointer (some ⟨g, 0, none⟩) := by simpa using hp
  have hz' : tmps[u]?.getD undef = z := by simpa using hz
  have hz2' : tmps[v]?.getD undef = z' := by simpa using hz2
  have hB' : w.heap[g]? = some (.cells cs t (0, 0)) := hB
  simp [results, h, hp', hz', hz2', asAddr, run_loadVar_row w g t ty cs (0, 0) d hB' hu hd hi, Result.andThen]
theorem results_row1 {P : Program} {fn : Func} {p : Tmp} {ty : TypeId} (h : fn.results = #[.cell p ty]) (tmps : Array Value) (w : World) (g : Nat) (t : TypeId) (cs : Array Value) (d : TypeDesc)
    (hB : Bx w g cs t) (hp : tmps.getD p undef = .pointer (some ⟨g, 0, none⟩)) (hu : P.underlying ty = some d) (hd : (match d with | .struct _ | .array _ _ => true | _ => false) = true) (hi : (P.info? ty).map (·.size) = some cs.size) :
    (results fn tmps).run P w = .ok (.agg cs) w :=
  results_cell_row h tmps w g t cs (0, 0) d hp hB hu hd hi
theorem results_row_cell {P : Program} {fn : Func} {p u : Tmp} {ty : TypeId} {tz : TypeId} (h : fn.results = #[.cell p ty, .cell u tz]) (tmps : Array Value) (w : World) (g b : Nat) (t : TypeId) (cs : Array Value) (d : TypeDesc)
    (hB : Bx w g cs t) (hp : tmps.getD p undef = .pointer (some ⟨g, 0, none⟩)) (hu : P.underlying ty = some d) (hd : (match d with | .struct _ | .array _ _ => true | _ => false) = true) (hi : (P.info? ty).map (·.size) = some cs.size) (z : Value) (hz : tmps.getD u undef = .pointer (some ⟨b, 0, none⟩)) (hc : (loadVar tz ⟨b, 0, none⟩).run P w = .ok z w) :
    (results fn tmps).run P w = .ok (.tuple #[.agg cs, z]) w := by
  have hp' : tmps[p]?.getD undef = .pointer (some ⟨g, 0, none⟩) := by simpa using hp
  have hz' : tmps[u]?.getD undef = .pointer (some ⟨b, 0, none⟩) := by simpa using hz
  have hB' : w.heap[g]? = some (.cells cs t (0, 0)) := hB
  simp [results, h, hp', hz', asAddr, run_loadVar_row w g t ty cs (0, 0) d hB' hu hd hi, hc, Result.andThen]
/-- a row stored by an operation of a region that draws its order. -/
theorem step_store_row {P : Program} {ops : Array Oper} {o : Oper} {a : Act} {w : World} {K : Act → World → Prop} {Q : Exit → Act → World → Prop} {b : Nat} {c c' : Array Value} {t : TypeId} (hB : Bx w b c t) (hw : Region.wanted o (yielded ops a.tmps) = true) (ty : TypeId) (x y : Operand) (ho : o.op = .store ty x y)
    (hx : a.eval x = .pointer (some ⟨b, 0, none⟩)) (hy : a.eval y = .agg c') (hi : (P.info? ty).map (·.size) = some c'.size) (hs : c.size = c'.size) (h1 : c'.all (·.oneCell') = true)
    (h : K (a.put o.dst undef) (w.setRow b c')) : if Region.wanted o (yielded ops a.tmps) = true then Oper.wp P o a w K Q else K (a.put o.dst undef) w := by
  rw [if_pos hw]
  exact wp_store_row ty x y ho b c' hx hy t c hB hi hs h1 h

theorem ground_zero : ∃ (it : TypeInfo) (z : Value), Try.prog.info? 33 = some it ∧ it.zero = some z ∧ z.cells.size = 84 := by
  have h : ((Try.prog.info? 33).bind (·.zero)).map (·.cells.size) = some 84 := by kernel_rfl
  cases hi : Try.prog.info? 33 with
  | none => simp [hi] at h
  | some it =>
    cases hz : it.zero with
    | none => simp [hi, hz] at h
    | some z => exact ⟨it, z, rfl, hz, by simpa [hi, hz] using h⟩
theorem ground_places : ∃ fs, Try.prog.underlying 33 = some (.struct fs) ∧ fs.toList.mapM (fun f => (Try.prog.info? f.type).map fun i => (f.offset, i.size)) = some [(0, 1), (1, 1), (2, 81), (83, 1)] :=
  ⟨_, Try.underlying33, by kernel_rfl⟩
theorem built_ground (X Y : Int) (h : Nat → Int) (A : Option Addr) (n cap : Nat) : Try.prog.built 33 [(0, .int .i8 X), (1, .int .i8 Y), (2, .agg (hV h)), (3, .slice A n cap)] = some (gV X Y h (.slice A n cap)) := by
  obtain ⟨it, z, hi, hz, hs⟩ := ground_zero
  obtain ⟨fs, hu, hp⟩ := ground_places
  rw [built_struct hi hu hz hp]
  obtain ⟨r1, e1, s1, g1⟩ := fill_step (place := (([(0, 1), (1, 1), (2, 81), (83, 1)] : List (Nat × Nat)).toArray[·]?)) (cells := z.cells) (i := 0) (off := 0) (size := 1) (v := .int .i8 X) (rest := [(1, .int .i8 Y), (2, .agg (hV h)), (3, .slice A n cap)]) rfl rfl (by omega)
  obtain ⟨r2, e2, s2, g2⟩ := fill_step (place := (([(0, 1), (1, 1), (2, 81), (83, 1)] : List (Nat × Nat)).toArray[·]?)) (cells := r1) (i := 1) (off := 1) (size := 1) (v := .int .i8 Y) (rest := [(2, .agg (hV h)), (3, .slice A n cap)]) rfl rfl (by omega)
  obtain ⟨r3, e3, s3, g3⟩ := fill_step (place := (([(0, 1), (1, 1), (2, 81), (83, 1)] : List (Nat × Nat)).toArray[·]?)) (cells := r2) (i := 2) (off := 2) (size := 81) (v := .agg (hV h)) (rest := [(3, .slice A n cap)]) rfl (hV_size h) (by omega)
  obtain ⟨r4, e4, s4, g4⟩ := fill_step (place := (([(0, 1), (1, 1), (2, 81), (83, 1)] : List (Nat × Nat)).toArray[·]?)) (cells := r3) (i := 3) (off := 83) (size := 1) (v := .slice A n cap) (rest := []) rfl rfl (by omega)
  rw [e1, e2, e3, e4]
  show some r4 = _
  congr 1
  refine gV_of X Y h (.slice A n cap) (by omega) ?_ ?_ (fun p hp => ?_) ?_
  · rw [g4, if_neg (by omega), g3, if_neg (by omega), g2, if_neg (by omega), g1, if_pos (by omega)]; rfl
  · rw [g4, if_neg (by omega), g3, if_neg (by omega), g2, if_pos (by omega)]; rfl
  · rw [g4, if_neg (by omega), g3, if_pos (by omega), show 2 + p - 2 = p by omega]; exact hV_get h hp
  · rw [g4, if_pos (by omega)]; rfl
end Go.Proofs.Ytegnhpanlbfmdaa
