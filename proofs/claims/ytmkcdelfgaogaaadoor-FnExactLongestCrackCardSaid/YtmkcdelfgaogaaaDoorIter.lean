/-
  The iterator impl.cellsOf: it yields all cells of a slab, by rows, and stops where it is told. Conditions stand at each.
-/
import Derived.RangeFuncNested
import Derived.RangeFuncBound
import Derived.RangeFuncCalls
import Derived.RangeFuncLeaves
import Derived.Shelf.Abstract
import Derived.Shelf.RegionOpen
import Derived.WalkKit
import Derived.OwnWalkIn
import Derived.TacticsInMore
import Derived.LoopNIn
import Derived.LoopIn
import Derived.Test.YtmkcdelfgaogaaaDoorRows
import Derived.Test.YtmkcdelfgaogaaaDoorMark
namespace Go.Proofs.YtmkcdelfgaogaaaDoor
open Go Go.RowKit Go.Shelf
set_option linter.unusedVariables false
set_option linter.unusedSimpArgs false
set_option maxRecDepth 100000
set_option maxHeartbeats 2000000
attribute [local go_sem] Oper.semAt_some

/-- a cell of the grid. -/
abbrev CX := { q : Nat × Nat // q.1 < 12 ∧ q.2 < 12 }
def mkC (x y : Nat) (hx : x < 12) (hy : y < 12) : CX := ⟨(x, y), hx, hy⟩
/-- cell number k of the slab that begins at x0, y0 and is wd wide. -/
def cellAt (x0 y0 wd k : Nat) : CX := ⟨(min (x0 + k % wd) 11, min (y0 + k / wd) 11), by show min _ _ < 12; omega, by show min _ _ < 12; omega⟩
def uptoC (x0 y0 wd k : Nat) : List CX := (List.range k).map (cellAt x0 y0 wd)
theorem uptoC_succ (x0 y0 wd k : Nat) : uptoC x0 y0 wd (k + 1) = uptoC x0 y0 wd k ++ [cellAt x0 y0 wd k] := by simp [uptoC, List.range_succ]
theorem uptoC_length (x0 y0 wd k : Nat) : (uptoC x0 y0 wd k).length = k := by simp [uptoC]
theorem cellAt_eq {x0 y0 wd ht x y : Nat} (hx : x < 12) (hy : y < 12) (h1 : x0 ≤ x) (h2 : x < x0 + wd) (h3 : y0 ≤ y) :
    cellAt x0 y0 wd (wd * (y - y0) + (x - x0)) = mkC x y hx hy := by
  have e1 : (wd * (y - y0) + (x - x0)) % wd = x - x0 := by rw [Nat.mul_add_mod]; exact Nat.mod_eq_of_lt (by omega)
  have e2 : (wd * (y - y0) + (x - x0)) / wd = y - y0 := by rw [Nat.mul_add_div (by omega), Nat.div_eq_of_lt (by omega)]; rfl
  apply Subtype.ext
  show (min (x0 + _ % wd) 11, min (y0 + _ / wd) 11) = (x, y)
  rw [e1, e2]
  apply Prod.ext <;> show min _ _ = _ <;> omega
def encC (q : CX) : Array Value := #[.agg #[.int .i8 (q.1.1 : Int), .int .i8 (q.1.2 : Int)]]
/-- what a round keeps: the slab's own box. -/
def KpB (b : Nat) (W W' : World) : Prop := W.heap.size ≤ W'.heap.size ∧ W'.heap[b]? = W.heap[b]?

theorem idx_lt {x0 y0 wd ht x y : Nat} (h1 : x0 ≤ x) (h2 : x < x0 + wd) (h3 : y0 ≤ y) (h4 : y < y0 + ht) : wd * (y - y0) + (x - x0) < wd * ht := by
  have : wd * (y - y0) + wd ≤ wd * ht := by rw [← Nat.mul_succ]; exact Nat.mul_le_mul_left _ (by omega)
  omega

theorem cells1_in (F : Fence) (n : Nat) (h95 : F.fn 85) (hro : F.round = none) (hn : 1 ≤ n) (l Bs x0 y0 wd ht : Nat) (hx : x0 + wd ≤ 12) (hy : y0 + ht ≤ 12) (J Jx : List CX → World → Prop)
    (hY : ∀ pre x W, J pre W → pre.length < wd * ht → YieldAt F (n - 1) Tryd.prog l (encC x) W fun e W' =>
      (e = .returned (.bool true) ∧ J (pre ++ [x]) W' ∧ KpB Bs W W') ∨ (e = .returned (.bool false) ∧ Jx (pre ++ [x]) W'))
    (W : World) (hS : Sl W Bs x0 y0 wd ht) (h0 : J [] W) :
    CallsIn F n Tryd.prog 85 #[.func (.yield l) #[] #[], .pointer (some ⟨Bs, 0, none⟩)] W fun e W' => (∃ v, e = .returned v) ∧
      ((∃ ys, ys = uptoC x0 y0 wd (wd * ht) ∧ J ys W') ∨ (∃ pre, (∃ k, k ≤ wd * ht ∧ pre = uptoC x0 y0 wd k) ∧ Jx pre W')) := by
  obtain ⟨l6, p6, q6, r6, s6⟩ := id hS
  have hx0 : (x0 : Int) ≤ 12 := by omega
  have hy0 : (y0 : Int) ≤ 12 := by omega
  have hsx : (x0 : Int) + (wd : Int) ≤ 12 := by omega
  have hsy : (y0 : Int) + (ht : Int) ≤ 12 := by omega
  refine callsIn_of_wp Tryd.func85 rfl h95 ?_ hro
  simp only [Tryd.ntmps85, List.size_toArray, List.length_cons, List.length_nil, Nat.reduceAdd, Nat.reduceSub, Array.replicate_succ, Array.replicate_zero, List.push_toArray, List.append_toArray, List.nil_append, List.cons_append]
  gi_wp2
  clear l6 p6 q6 r6 s6
  gi_loopw [3, 4] (fun t3 t4 wr => ∃ y : Nat, y0 ≤ y ∧ y ≤ y0 + ht ∧ t3 = .int .i8 y ∧ J (uptoC x0 y0 wd (wd * (y - y0))) wr ∧ Sl wr Bs x0 y0 wd ht) (fun t3 t4 _ => y0 + ht - (intOf t3).toNat)
  case atStart => exact ⟨y0, Nat.le_refl _, by omega, rfl, by simpa [uptoC] using h0, hS⟩
  case round =>
    obtain ⟨y, hy1, hy2, rfl, hJ, hS2⟩ := hrel
    obtain ⟨wo, rfl⟩ : ∃ wo : World, wo = wr := ⟨_, rfl⟩
    obtain ⟨l6, p6, q6, r6, s6⟩ := id hS2
    by_cases hyt : y < y0 + ht
    · have hyi : (y : Int) < (y0 : Int) + (ht : Int) := by omega
      gi_wp2
      clear l6 p6 q6 r6 s6
      gi_loopw [4] (fun t4 wr => ∃ x : Nat, x0 ≤ x ∧ x ≤ x0 + wd ∧ t4 = .int .i8 x ∧ J (uptoC x0 y0 wd (wd * (y - y0) + (x - x0))) wr ∧ Sl wr Bs x0 y0 wd ht) (fun t4 _ => x0 + wd - (intOf t4).toNat)
      case atStart => exact ⟨x0, Nat.le_refl _, by omega, rfl, by simpa using hJ, hS2⟩
      case round =>
        clear hJ hS2
        obtain ⟨x, hx1, hx2, rfl, hJ, hS2⟩ := hrel
        obtain ⟨wo3, rfl⟩ : ∃ wo3 : World, wo3 = wr := ⟨_, rfl⟩
        obtain ⟨l6, p6, q6, r6, s6⟩ := id hS2
        by_cases hxt : x < x0 + wd
        · have hxi : (x : Int) < (x0 : Int) + (wd : Int) := by omega
          obtain ⟨fn, tmps, assign, body, hyy, hR⟩ := hY _ (mkC x y (by omega) (by omega)) wo3 hJ (by rw [uptoC_length]; exact idx_lt hx1 hxt hy1 hyt)
          dsimp only [encC, mkC] at hyy
          gi_wp2
          refine hR.mono ?_
          rintro e W3 (⟨rfl, hJ3, hk3⟩ | ⟨rfl, hJx3⟩)
          · have hS3 := hS2.of_block hk3.1 hk3.2
            clear l6 p6 q6 r6 s6
            gi_wp2
            refine ⟨⟨x + 1, by omega, by omega, by first | go_num | simp, ?_, hS3⟩, by simp [intOf]; omega⟩
            rw [show wd * (y - y0) + (x + 1 - x0) = wd * (y - y0) + (x - x0) + 1 by omega, uptoC_succ, cellAt_eq (ht := ht) (by omega) (by omega) hx1 hxt hy1]
            exact hJ3
          · gi_wp2
            refine bodyPost_ret (results_none rfl _ _ _) rfl ?_
            refine ⟨⟨_, rfl⟩, .inr ⟨_, ⟨wd * (y - y0) + (x - x0) + 1, idx_lt hx1 hxt hy1 hyt, ?_⟩, hJx3⟩⟩
            rw [uptoC_succ, cellAt_eq (ht := ht) (by omega) (by omega) hx1 hxt hy1]
        · obtain rfl : x = x0 + wd := by omega
          gi_wp2
          refine ⟨⟨y + 1, by omega, by omega, by first | go_num | simp, ?_, hS2⟩, by simp [intOf]; omega⟩
          have e : wd * (y + 1 - y0) = wd * (y - y0) + (x0 + wd - x0) := by rw [show y + 1 - y0 = (y - y0) + 1 by omega, Nat.mul_succ]; omega
          rw [e]
          exact hJ
    · obtain rfl : y = y0 + ht := by omega
      gi_wp2
      go_end0
      exact ⟨⟨_, rfl⟩, .inl ⟨_, by rw [show y0 + ht - y0 = ht by omega], hJ⟩⟩

theorem cells_stops (F : Fence) (n : Nat) (h95 : F.fn 85) (hro : F.round = none) (hn : 1 ≤ n) (Bs x0 y0 wd ht : Nat) (hx : x0 + wd ≤ 12) (hy : y0 + ht ≤ 12) (w : World) (hS : Sl w Bs x0 y0 wd ht) :
    SeqStopsK F n Tryd.prog 85 #[.pointer (some ⟨Bs, 0, none⟩)] encC (KpB Bs) (fun ys => ys = uptoC x0 y0 wd (wd * ht)) (fun pre => ∃ k, k ≤ wd * ht ∧ pre = uptoC x0 y0 wd k) (wd * ht) w := fun l J Jx W hW _ _ hY h0 =>
  cells1_in F n h95 hro hn l Bs x0 y0 wd ht hx hy J Jx hY W (hS.below hW) h0

theorem cellsOf_in (F : Fence) (n : Nat) (h75 : F.fn 65) (hro : F.round = none) (x y z u : Int) (w : World) :
    CallsIn F n Tryd.prog 65 #[.agg #[.int .i8 x, .int .i8 y, .int .i8 z, .int .i8 u]] w fun e w' => e = .returned (.func (.func 85) #[] #[.pointer (some ⟨w.heap.size, 0, none⟩)]) ∧ w' = w.alloc (.cells #[.int .i8 x, .int .i8 y, .int .i8 z, .int .i8 u] 105) := by
  refine callsIn_of_wp Tryd.func65 rfl h75 ?_ hro
  simp only [Tryd.ntmps65, List.size_toArray, List.length_cons, List.length_nil, Nat.reduceAdd, Nat.reduceSub, Array.replicate_succ, Array.replicate_zero, List.push_toArray, List.append_toArray, List.nil_append, List.cons_append]
  gi_wp2
  go_ret
  exact ⟨rfl, rfl⟩
end Go.Proofs.YtmkcdelfgaogaaaDoor
