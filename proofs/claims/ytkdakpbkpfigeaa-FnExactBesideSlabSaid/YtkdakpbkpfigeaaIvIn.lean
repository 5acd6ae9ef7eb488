/-
  Boxes loaded and stored within a fence. Conditions stand at each.
-/
import Derived.Test.YtkdakpbkpfigeaaRows
import Derived.Test.YtkdakpbkpfigeaaIv
import Derived.OwnWalkIn
import Derived.TacticsInMore
import Derived.Maps.OwnIn
import Derived.Laws.StructEq
namespace Go.Proofs.Ytkdakpbkpfigeaa
open Go Go.ChangeShapes Go.WideShapes Go.ChangeAt Go.RowKit
set_option linter.unusedVariables false
set_option linter.unusedSimpArgs false
section
variable {P : Program} {F : Fence} {n : Nat} {ops : Array Oper} {rest : List Oper} {o : Oper} {a : Act} {w : World} {Q : Exit → Act → World → Prop} {b : Nat} {cs c c' : Array Value} {t : TypeId}
theorem wpListIn_op (hgd : o.guard = none) {r : Value} (hab : o.about P w a.eval = none) (hc : ∀ c, o.op ≠ .defer c) (hrun : (execOp a.eval o).run P w = .ok (.value r) w)
    (h : wpListIn F n P ops Q rest (a.put o.dst r) w) : wpListIn F n P ops Q (o :: rest) a w := by
  refine wpListIn_plain hgd fun K hK' => ?_
  unfold Oper.wpIn
  refine ⟨fun f hf => (by rw [hab] at hf; cases hf), ?_⟩
  rw [Oper.semAt_plain F _ _ hc]
  rw [hrun]
  exact hK' _ _ h
/-- a part of a box, loaded. -/
theorem wpListIn_load_part (hB : Bx w b cs t) (hgd : o.guard = none) (ty : TypeId) (x : Operand) (ho : o.op = .load ty x)
    (off : Nat) (hx : a.eval x = .pointer (some ⟨b, off, none⟩)) (vs : Array Value) (hv : ∀ j, j < vs.size → cs[off + j]? = vs[j]?) (d : TypeDesc) (hu : P.underlying ty = some d) (hd : d.isRow = true) (hi : (P.info? ty).map (·.size) = some vs.size)
    (h : wpListIn F n P ops Q rest (a.put o.dst (.agg vs)) w) : wpListIn F n P ops Q (o :: rest) a w := by
  refine wpListIn_op hgd (r := .agg vs) (by simp [Oper.about, ho]) (by rw [ho]; intro c hc'; cases hc') ?_ h
  have := run_loadVar_mid (P := P) w b off ty vs.toList d (fun j v hj => by
    rw [hB.cell]
    have hj' : vs[j]? = some v := by simpa using hj
    rw [hv j (Array.getElem?_eq_some_iff.1 hj').1, hj']) hu hd (by simpa using hi)
  simp only [Array.toArray_toList] at this
  unfold execOp
  simp only [ho, hx, Instr.loadAt, Instr.sureAddr, Sem.run_bind, Sem.run_pure, Result.andThen_ok, this]
/-- a box, loaded whole. -/
theorem wpListIn_load_box (hB : Bx w b cs t) (hgd : o.guard = none) (ty : TypeId) (x : Operand) (ho : o.op = .load ty x)
    (hx : a.eval x = .pointer (some ⟨b, 0, none⟩)) (d : TypeDesc) (hu : P.underlying ty = some d) (hd : d.isRow = true) (hi : (P.info? ty).map (·.size) = some cs.size)
    (h : wpListIn F n P ops Q rest (a.put o.dst (.agg cs)) w) : wpListIn F n P ops Q (o :: rest) a w :=
  wpListIn_load_part hB hgd ty x ho 0 hx cs (fun j _ => by rw [Nat.zero_add]) d hu hd hi h
/-- a value, stored into the box that was made last. -/
theorem wpListIn_store_new (hgd : o.guard = none) (ty : TypeId) (x y : Operand) (ho : o.op = .store ty x y)
    (hx : a.eval x = .pointer (some ⟨w.heap.size, 0, none⟩)) (hy : a.eval y = .agg c') (hi : (P.info? ty).map (·.size) = some c'.size) (hs : c.size = c'.size) (h1 : c'.all (·.oneCell') = true)
    (h : wpListIn F n P ops Q rest (a.put o.dst undef) (w.alloc (.cells c' t))) : wpListIn F n P ops Q (o :: rest) a (w.alloc (.cells c t)) := by
  refine wpListIn_plain hgd fun K hK' => ?_
  unfold Oper.wpIn
  refine ⟨?_, ?_⟩
  · simp [Oper.about, ho]
  · rw [Oper.semAt_plain F _ _ (by rw [ho]; intro c hc'; cases hc')]
    simp only [execOp, ho, hx, hy, Instr.storeAt, Instr.sureAddr, Sem.run_bind, Sem.run_pure, Result.andThen_ok, run_storeVar_row (w.alloc (.cells c t)) w.heap.size t ty c c' (heap_alloc_last w _) hi hs h1, World.setRow_alloc_new]
    exact hK' _ _ h
/-- rows of rows compared. -/
theorem wpListIn_eql {r : Bool} (hgd : o.guard = none) (ty to : TypeId) (x y : Operand) (ho : o.op = .binOp .eql ty x y to) {u v : Array Value} (hx : a.eval x = .agg u) (hy : a.eval y = .agg v) (hm : P.eqGuardType P.depth ty = false)
    (hrun : (binOp .eql ty (.agg u) (.agg v)).run P w = .ok (.bool r) w)
    (h : wpListIn F n P ops Q rest (a.put o.dst (.bool r)) w) : wpListIn F n P ops Q (o :: rest) a w := by
  refine wpListIn_op hgd (r := .bool r) (by simp [Oper.about, ho]) (by rw [ho]; intro c hc'; cases hc') ?_ h
  unfold execOp
  simp only [ho, hx, hy]
  simp only [Sem.run_bind, run_eqGuard_agg w .eql ty x y u v hm, Result.andThen_ok, hrun, Sem.run_pure]
end
end Go.Proofs.Ytkdakpbkpfigeaa
