/-
  The contract of spec.l01Lay: which squares are valid, and the numbers on their cells. Conditions stand at each.
-/
import Derived.Test.YteebkookoidheabRows
import Derived.Test.YteebkookoidheabMark
import Derived.Test.YteebkookoidheabPlain
import Derived.Test.YteebkookoidheabLies
import Derived.Test.YteebkookoidheabBefore
import Derived.Deep.RegionWith
import Derived.Deep.RegionHeld3
import Derived.Laws.Tables
import Derived.Laws.Rows
import Derived.Laws.ResultCell
import Derived.Deep.WholeRow
import Derived.IntWalk
namespace Go.Proofs.Yteebkookoidheab
open Go Go.ChangeShapes Go.WideShapes Go.ChangeAt Go.RowKit
set_option linter.unusedVariables false
set_option linter.unusedSimpArgs false
set_option maxRecDepth 100000
set_option maxHeartbeats 2000000

theorem edge_yes (x : Int) (w : World) (h1 : 1 ≤ x) (h2 : x ≤ 12) : Calls Try.prog 83 #[.int .i64 x] w fun e w' => e = .returned (.bool true) ∧ w = w' := by
  go_enter Try.func83, Try.ntmps83
  go_wp2
  go_ret
  exact ⟨rfl, rfl⟩
theorem edge_low (x : Int) (w : World) (h1 : x < 1) : Calls Try.prog 83 #[.int .i64 x] w fun e w' => e = .returned (.bool false) ∧ w = w' := by
  go_enter Try.func83, Try.ntmps83
  go_wp2
  go_ret
  exact ⟨rfl, rfl⟩
theorem edge_high (x : Int) (w : World) (h1 : 12 < x) : Calls Try.prog 83 #[.int .i64 x] w fun e w' => e = .returned (.bool false) ∧ w = w' := by
  have d1 : decide (x ≤ 12) = false := by simp; omega
  have d0 : decide (1 ≤ x) = true := by simp; omega
  go_enter Try.func83, Try.ntmps83
  go_wp2
  go_ret
  exact ⟨rfl, rfl⟩
theorem edge_no (x : Int) (w : World) (h : ¬ (1 ≤ x ∧ x ≤ 12)) : Calls Try.prog 83 #[.int .i64 x] w fun e w' => e = .returned (.bool false) ∧ w = w' := by
  by_cases h1 : x < 1
  · exact edge_low x w h1
  · exact edge_high x w (by omega)

def isZero64 : Option Value → Bool
  | some (.int .i64 n) => n == 0
  | _ => false
theorem of_isZero64 {v : Option Value} (h : isZero64 v = true) : v = some (.int .i64 0) := by
  unfold isZero64 at h
  split at h
  · simp only [beq_iff_eq] at h; subst h; rfl
  · cases h
theorem below_setRow {B : Nat} {a w : World} (h : Below B a w) {g : Nat} (hg : B ≤ g) (cs : Array Value) : Below B a (w.setRow g cs) :=
  ⟨h.os, h.tape, h.output, by rw [setRow_size]; exact h.size, fun k hk => (setRow_other w g k cs (by omega)).trans (h.block k hk)⟩
theorem one_of_ints {k : IntKind} {cs : Array Value} {G : Nat → Int} (hs : cs.size = 144) (hc : ∀ p, p < 144 → cs[p]? = some (.int k (G p))) : cs.all (·.oneCell') = true := by
  rw [Array.all_eq_true_iff_forall_mem]
  intro v hv
  obtain ⟨i, hi, rfl⟩ := Array.mem_iff_getElem.1 hv
  have := hc i (by omega)
  rw [Array.getElem?_eq_getElem hi] at this
  injection this with this
  rw [this]; rfl

def LayPost (X Y : Int) (n : Nat) (c : Nat → Int) (w : World) (e : Ending) (w' : World) : Prop :=
  Below w.heap.size w w' ∧ ∃ cs : Array Value, cs.size = 144 ∧ cs.all (·.oneCell') = true ∧
    ((Valid X Y n c ∧ (∀ p, p < 144 → cs[p]? = some (.int .i64 (gridN c n p))) ∧ e = .returned (.tuple #[.agg cs, .bool true])) ∨ (¬ Valid X Y n c ∧ e = .returned (.tuple #[.agg cs, .bool false])))
