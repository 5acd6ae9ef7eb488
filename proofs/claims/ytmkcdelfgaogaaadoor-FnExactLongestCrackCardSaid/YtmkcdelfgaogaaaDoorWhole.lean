/-
  Small contracts for loops over an iterator: impl.wholeOf, a store of a row inside a fence, the cells in their order. Conditions stand at each.
-/
import Derived.Test.YtmkcdelfgaogaaaDoorRows
import Derived.Test.YtmkcdelfgaogaaaDoorCells
import Derived.Test.YtmkcdelfgaogaaaDoorLayI
import Derived.Test.YtmkcdelfgaogaaaDoorOpen
import Derived.OwnWalkIn
import Derived.Maps.OwnIn
namespace Go.Proofs.YtmkcdelfgaogaaaDoor
open Go Go.ChangeShapes Go.WideShapes Go.ChangeAt Go.RowKit
set_option linter.unusedVariables false
set_option linter.unusedSimpArgs false
set_option maxRecDepth 100000
set_option maxHeartbeats 2000000
attribute [local go_sem] Oper.semAt_some

theorem wpListIn_store_row {F : Fence} {n : Nat} {P : Program} {ops : Array Oper} {rest : List Oper} {o : Oper} {a : Act} {w : World} {Q : Exit → Act → World → Prop} (hgd : o.guard = none) (ty : TypeId) (x y : Operand) (ho : o.op = .store ty x y)
    (g : Nat) (cells : Array Value) (hx : a.eval x = .pointer (some ⟨g, 0, none⟩)) (hy : a.eval y = .agg cells)
    (t : TypeId) (old : Array Value) (hg : w.heap[g]? = some (.cells old t (0, 0))) (hi : (P.info? ty).map (·.size) = some cells.size)
    (hold : old.size = cells.size) (h1 : cells.all (·.oneCell') = true)
    (h : wpListIn F n P ops Q rest (a.put o.dst undef) (w.setRow g cells)) : wpListIn F n P ops Q (o :: rest) a w := by
  refine wpListIn_plain hgd fun K hK' => ?_
  unfold Oper.wpIn
  refine ⟨?_, ?_⟩
  · simp [Oper.about, ho]
  · rw [Oper.semAt_plain F _ _ (by rw [ho]; intro c hc'; cases hc')]
    simp only [execOp, ho, hx, hy, Instr.storeAt, Instr.sureAddr, Sem.run_bind, Sem.run_pure, Result.andThen_ok, run_storeVar_row w g t ty old cells hg hi hold h1]
    exact hK' _ _ h

theorem OwnC.kept {w w' : World} {base : Nat} {v : Value} {L : List (Nat × Nat)} {row : Option Nat} (h : OwnC w base v L) (hg : w.grownBy w' row)
    (hr : ∀ r, row = some r → ∃ o : Obj, w.heap[r]? = some o ∧ o.isCells = false) : OwnC w' base v L := by
  refine ⟨h.1, h.2.imp id ?_⟩
  rintro ⟨g, cap, cur, h1, h2, h3, h4⟩
  exact ⟨g, cap, cur, h1, h2, cellsKept h3 hg hr, h4⟩

theorem OwnC.kept' {w w' : World} {base : Nat} {v : Value} {L : List (Nat × Nat)} (h : OwnC w base v L) (hs : w.heap.size ≤ w'.heap.size)
    (hr : ∀ k, base ≤ k ∧ k < w.heap.size → w'.heap[k]? = w.heap[k]?) : OwnC w' base v L := by
  refine ⟨h.1, h.2.imp id ?_⟩
  rintro ⟨g, cap, cur, h1, h2, h3, h4⟩
  exact ⟨g, cap, cur, h1, h2, (hr g ⟨h2, (Array.getElem?_eq_some_iff.1 h3).1⟩).trans h3, h4⟩
theorem row_shape {w : World} {base e size n : Nat} {v : Value} {xs : List Value} (h : w.ownsRow base e size v n xs) : ∃ A cap, v = .slice A n cap := by
  rcases h.2 with ⟨rfl, h0⟩ | ⟨g, cap, cur, rfl, _⟩
  · exact ⟨none, 0, by rw [h0]⟩
  · exact ⟨_, _, rfl⟩

theorem cellAt_val {W H k : Nat} (hW : W ≤ 12) (hH : H ≤ 12) (h : k < W * H) : (cellAt 0 0 W k).1 = cl W k := by
  obtain ⟨h1, h2⟩ := cl_lt hW hH h
  unfold cl at h1 h2
  dsimp only at h1 h2
  show (min (0 + k % W) 11, min (0 + k / W) 11) = (k % W, k / W)
  apply Prod.ext <;> show min _ _ = _ <;> omega
theorem upto_all {W H : Nat} (hW : W ≤ 12) (hH : H ≤ 12) : ∀ k, k ≤ W * H → (uptoC 0 0 W k).map (·.1) = allC W k
  | 0, _ => rfl
  | k + 1, h => by rw [uptoC_succ, allC_succ, List.map_append, upto_all hW hH k (by omega)]; simp [cellAt_val hW hH (show k < W * H by omega)]

theorem whole_in (F : Fence) (m : Nat) (hF : F.fn 80) (hro : F.round = none) (x y : Int) (v : Value) (w : World) :
    CallsIn F m Tryd.prog 80 #[.agg #[.int .i8 x, .int .i8 y, v]] w fun e w' => e = .returned (.agg #[.int .i8 0, .int .i8 0, .int .i8 x, .int .i8 y]) ∧ Below w.heap.size w w' := by
  refine callsIn_of_wp Tryd.func80 rfl hF ?_ hro
  simp only [Tryd.ntmps80, List.size_toArray, List.length_cons, List.length_nil, Nat.reduceAdd, Nat.reduceSub, Array.replicate_succ, Array.replicate_zero, List.push_toArray, List.append_toArray, List.nil_append, List.cons_append]
  gi_wp2
  refine bodyPost_ret (v := .agg #[.int .i8 0, .int .i8 0, .int .i8 x, .int .i8 y]) (by simp [results, Tryd.results80, go_sem]) rfl ⟨rfl, ?_⟩
  (repeat (first | exact Below.refl _ _ | apply Below.drew | refine Below.setCell ?_ (by first | (simp; done) | (simp; omega)) _ | refine Below.alloc ?_ (by first | (simp; done) | (simp; omega)) _))
end Go.Proofs.YtmkcdelfgaogaaaDoor
