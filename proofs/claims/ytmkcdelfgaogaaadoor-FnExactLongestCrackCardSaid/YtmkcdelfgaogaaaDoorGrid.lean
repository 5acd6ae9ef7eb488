/-
  The contract of impl.gridOf at a valid square, and of impl.hasCell, spec.l01Is, spec.l01Told. Conditions stand at each.
-/
import Derived.Test.YtmkcdelfgaogaaaDoorRows
import Derived.Test.YtmkcdelfgaogaaaDoorValidI
import Derived.Laws.Rows
import Derived.Laws.Tables
namespace Go.Proofs.YtmkcdelfgaogaaaDoor
open Go Go.ChangeShapes Go.WideShapes Go.ChangeAt Go.RowKit
set_option linter.unusedVariables false
set_option linter.unusedSimpArgs false
set_option maxRecDepth 100000
set_option maxHeartbeats 2000000

theorem gridOf_any (X Y : Int) (g n : Nat) (c : Nat → Int) (w : World) (hc : ∀ j, -128 ≤ c j ∧ c j ≤ 127) (hv : Valid X Y n c) (hrow : w.rowIs g 105 (4 * n) (fun j => .int .i8 (c j))) :
    Calls Tryd.prog 76 #[.agg #[.int .i8 X, .int .i8 Y, .slice (some ⟨g, 0, none⟩) n n]] w fun e w' => Below w.heap.size w w' ∧ ∃ cs : Array Value, e = .returned (.agg cs) ∧ cs.size = 144 ∧ cs.all (·.oneCell') = true ∧ ∀ p, p < 144 → cs[p]? = some (.int .i8 (gridN c n p)) := by
  obtain ⟨h1, h2, h3, h4, hn, hok⟩ := hv
  have HC := Lib.hid hc
  have HOK := Lib.hid hok
  clear hc hok
  go_enter Tryd.func76, Tryd.ntmps76
  go_wp2_with fail
  obtain ⟨W0, hW0⟩ : ∃ W0 : World, W0 = (((w.alloc (.cells #[.int .i8 X, .int .i8 Y, .slice (some ⟨g, 0, none⟩) n n] 33)).alloc (Obj.cells Tryd.zeroCells129 129)).alloc (Obj.cells Tryd.zeroCells129 129)) := ⟨_, rfl⟩
  have B0 : Below w.heap.size w W0 := by rw [hW0]; exact al (al (al (Below.refl _ _) _) _) _
  have hz2 : W0.heap[w.heap.size + 1]? = some (.cells Tryd.zeroCells129 129 (0, 0)) := by
    rw [hW0]
    have := heap_alloc2_old (w.alloc (.cells #[.int .i8 X, .int .i8 Y, .slice (some ⟨g, 0, none⟩) n n] 33)) (Obj.cells Tryd.zeroCells129 129) (Obj.cells Tryd.zeroCells129 129)
    simpa using this
  have hz0 : W0.rowIs (w.heap.size + 2) 129 144 (fun p => .int .i8 (gridN c 0 p)) := ⟨Tryd.zeroCells129, by
    rw [hW0]
    have := heap_alloc2_new (w.alloc (.cells #[.int .i8 X, .int .i8 Y, .slice (some ⟨g, 0, none⟩) n n] 33)) (Obj.cells Tryd.zeroCells129 129) (Obj.cells Tryd.zeroCells129 129)
    simpa using this, zi_size, fun p hp => zi_cell p hp⟩
  rw [← hW0]
  clear hW0
  go_loopw [9, 4, 5] (fun t9 t4 t5 wr => ∃ i : Nat, i ≤ n ∧ t9 = .int .i64 i ∧ Below w.heap.size w wr ∧ wr.heap[w.heap.size + 1]? = some (.cells Tryd.zeroCells129 129 (0, 0)) ∧ wr.rowIs (w.heap.size + 2) 129 144 (fun p => .int .i8 (gridN c i p))) (fun t9 t4 t5 wr => n - (intOf t9).toNat)
  case atStart => exact ⟨0, by omega, rfl, B0, hz2, hz0⟩
  case round =>
    clear B0 hz2 hz0
    obtain ⟨i, hi, rfl, B, hz2, hz⟩ := hrel
    by_cases hlt : i < n
    · have hslab := (Own8.of_row (f := c) (hrow.of_block (B.block _ hrow.lt)))
      obtain ⟨c0, c1, c2, c3⟩ := hslab.at4 hlt |>.1
      simp only [Nat.zero_add] at c0 c1 c2 c3
      obtain ⟨x0, y0, wd, ht, e0, e1, e2, e3, hx, hy⟩ := lies_nat h2 h4 (HOK.out i hlt).1
      rw [e0] at c0
      rw [e1] at c1
      rw [e2] at c2
      rw [e3] at c3
      have E0 := Lib.hid e0
      have E1 := Lib.hid e1
      have E2 := Lib.hid e2
      have E3 := Lib.hid e3
      clear e0 e1 e2 e3
      have w8 : IntKind.i8.wrap ((i : Int) + 1) = (i : Int) + 1 := IntWalk.i8_in _ (by omega)
      obtain ⟨wo, rfl⟩ : ∃ wo : World, wo = wr := ⟨_, rfl⟩
      go_wp2_with fail
      have hlt2 := (Array.getElem?_eq_some_iff.1 hz2).1
      refine (callsIn_wide.1 (lay_in 6 (by omega) (w.heap.size + 2) x0 y0 wd ht _ (fun p => gridN c i p) _ hx hy (hz.alloc _))).mono ?_
      rintro e w4 ⟨⟨v, rfl⟩, hg, hz'⟩
      replace B := below_grown (al B _) hg (al B _).size (by omega)
      replace hz2 := (hg.block (w.heap.size + 1) (by simp; omega) (by simp)).trans ((Below.heap_alloc wo _ _ hlt2).trans hz2)
      clear hz hg c0 c1 c2 c3
      go_wp2_with fail
      exact ⟨⟨i + 1, by omega, by first | go_num | simp, B, hz2, hz'.congr (fun p hp => congrArg (Value.int IntKind.i8) (gridQ_next hp E0.out E1.out E2.out E3.out hx hy))⟩, by simp [intOf]; omega⟩
    · obtain rfl : i = n := by omega
      obtain ⟨cs, hcs, hsz, hcell⟩ := hz
      go_wp2_with (first
        | (refine wpList_load_row rfl 129 (.tmp 3) rfl (w.heap.size + 2) rfl 129 cs (0, 0) _ hcs Tryd.underlying129 rfl (by rw [infoGrid, hsz]) ?_)
        | (refine wpList_store_row rfl 129 (.tmp 2) (.tmp 20) rfl (w.heap.size + 1) cs rfl rfl 129 Tryd.zeroCells129 hz2 (by rw [infoGrid, hsz]) (by rw [zi_size, hsz]) (one_of_ints hsz hcell) ?_))
      refine bodyPost_ret (results_cell_row Tryd.results76 _ _ (w.heap.size + 1) 129 cs (0, 0) _ rfl (setRow_heap _ _ _ _ _ _ hz2) Tryd.underlying129 rfl (by rw [infoGrid, hsz])) rfl ⟨below_setRow B (by omega) _, cs, rfl, hsz, by simpa using one_of_ints hsz hcell, hcell⟩
end Go.Proofs.YtmkcdelfgaogaaaDoor
