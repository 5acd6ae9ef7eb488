/-
  The contract of spec.l01Lay at every square, and of spec.l01Ok and spec.ValidSquare. Conditions stand at each.
-/
import Derived.Test.YtmkcdelfgaogaaaDoorRows
import Derived.Test.YtmkcdelfgaogaaaDoorLay
namespace Go.Proofs.YtmkcdelfgaogaaaDoor
open Go Go.ChangeShapes Go.WideShapes Go.ChangeAt Go.RowKit
set_option linter.unusedVariables false
set_option linter.unusedSimpArgs false
set_option maxRecDepth 100000
set_option maxHeartbeats 2000000

theorem lay_bad1 (X Y : Int) (bq g n : Nat) (c : Nat → Int) (w : World) (hX : -128 ≤ X ∧ X ≤ 127) (hY : -128 ≤ Y ∧ Y ≤ 127) (hq : Sq w bq X Y (.slice (some ⟨g, 0, none⟩) n n)) (h : ¬ (1 ≤ X ∧ X ≤ 12)) :
    Calls Tryd.prog 51 #[.pointer (some ⟨bq, 0, none⟩)] w (LayPost X Y n c w) := by
  obtain ⟨lq, pq, qq, rq⟩ := id hq
  have hst : Sem.run Tryd.prog (storeCells ⟨w.heap.size + 1, 0, none⟩ Tryd.zeroCells64.toList) ((w.alloc (Obj.cells Tryd.zeroCells64 64)).alloc (Obj.cells Tryd.zeroCells64 64)) = .ok () ((w.alloc (Obj.cells Tryd.zeroCells64 64)).alloc (Obj.cells Tryd.zeroCells64 64)) := by
    have := run_storeCells_new (P := Tryd.prog) (w.alloc (Obj.cells Tryd.zeroCells64 64)) 64 Tryd.zeroCells64 Tryd.zeroCells64 (by kernel_rfl) rfl zc_one
    rwa [World.size_alloc] at this
  have hz2 : ((w.alloc (Obj.cells Tryd.zeroCells64 64)).alloc (Obj.cells Tryd.zeroCells64 64)).heap[w.heap.size]? = some (.cells Tryd.zeroCells64 64 (0, 0)) := heap_alloc2_old w _ _
  have hcs : ((w.alloc (Obj.cells Tryd.zeroCells64 64)).alloc (Obj.cells Tryd.zeroCells64 64)).heap[w.heap.size + 1]? = some (.cells Tryd.zeroCells64 64 (0, 0)) := heap_alloc2_new w _ _
  have HZ2 := Lib.hid hz2
  have HCS := Lib.hid hcs
  have B : Below w.heap.size w ((w.alloc (Obj.cells Tryd.zeroCells64 64)).alloc (Obj.cells Tryd.zeroCells64 64)) := al (al (Below.refl _ _) _) _
  clear hz2 hcs
  go_enter Tryd.func51, Tryd.ntmps51
  go_wp2_with (first
    | (go_at_call 68; with_reducible refine (edge_no X _ h).mono ?_; rintro e w' ⟨rfl, rfl⟩)
    | (refine wpList_load_row rfl 64 (.tmp 4) rfl (w.heap.size + 1) rfl 64 Tryd.zeroCells64 (0, 0) _ HCS.out Tryd.underlying64 rfl (by rw [info93, zc_size]) ?_)
    | (refine wpList_store_row rfl 64 (.tmp 2) (.tmp 34) rfl w.heap.size Tryd.zeroCells64 rfl rfl 64 Tryd.zeroCells64 HZ2.out (by rw [info93, zc_size]) rfl zc_one ?_))
  exact bodyPost_ret (lay_results _ _ w.heap.size false Tryd.zeroCells64 rfl rfl (setRow_heap _ _ _ _ _ _ HZ2.out) zc_size) rfl ⟨below_setRow B (Nat.le_refl _) _, Tryd.zeroCells64, zc_size, zc_one, .inr ⟨fun hv => h ⟨hv.1, hv.2.1⟩, rfl⟩⟩

theorem lay_bad2 (X Y : Int) (bq g n : Nat) (c : Nat → Int) (w : World) (hX : -128 ≤ X ∧ X ≤ 127) (hY : -128 ≤ Y ∧ Y ≤ 127) (hq : Sq w bq X Y (.slice (some ⟨g, 0, none⟩) n n)) (h1 : 1 ≤ X) (h2 : X ≤ 12) (h : ¬ (1 ≤ Y ∧ Y ≤ 12)) :
    Calls Tryd.prog 51 #[.pointer (some ⟨bq, 0, none⟩)] w (LayPost X Y n c w) := by
  obtain ⟨lq, pq, qq, rq⟩ := id hq
  have hst : Sem.run Tryd.prog (storeCells ⟨w.heap.size + 1, 0, none⟩ Tryd.zeroCells64.toList) ((w.alloc (Obj.cells Tryd.zeroCells64 64)).alloc (Obj.cells Tryd.zeroCells64 64)) = .ok () ((w.alloc (Obj.cells Tryd.zeroCells64 64)).alloc (Obj.cells Tryd.zeroCells64 64)) := by
    have := run_storeCells_new (P := Tryd.prog) (w.alloc (Obj.cells Tryd.zeroCells64 64)) 64 Tryd.zeroCells64 Tryd.zeroCells64 (by kernel_rfl) rfl zc_one
    rwa [World.size_alloc] at this
  have hz2 : ((w.alloc (Obj.cells Tryd.zeroCells64 64)).alloc (Obj.cells Tryd.zeroCells64 64)).heap[w.heap.size]? = some (.cells Tryd.zeroCells64 64 (0, 0)) := heap_alloc2_old w _ _
  have hcs : ((w.alloc (Obj.cells Tryd.zeroCells64 64)).alloc (Obj.cells Tryd.zeroCells64 64)).heap[w.heap.size + 1]? = some (.cells Tryd.zeroCells64 64 (0, 0)) := heap_alloc2_new w _ _
  have HZ2 := Lib.hid hz2
  have HCS := Lib.hid hcs
  have B : Below w.heap.size w ((w.alloc (Obj.cells Tryd.zeroCells64 64)).alloc (Obj.cells Tryd.zeroCells64 64)) := al (al (Below.refl _ _) _) _
  clear hz2 hcs
  go_enter Tryd.func51, Tryd.ntmps51
  go_wp2_with (first
    | (go_at_call 68; with_reducible refine (edge_yes X _ (by omega) (by omega)).mono ?_; rintro e w' ⟨rfl, rfl⟩)
    | (go_at_call 68; with_reducible refine (edge_no Y _ h).mono ?_; rintro e w' ⟨rfl, rfl⟩)
    | (refine wpList_load_row rfl 64 (.tmp 4) rfl (w.heap.size + 1) rfl 64 Tryd.zeroCells64 (0, 0) _ HCS.out Tryd.underlying64 rfl (by rw [info93, zc_size]) ?_)
    | (refine wpList_store_row rfl 64 (.tmp 2) (.tmp 34) rfl w.heap.size Tryd.zeroCells64 rfl rfl 64 Tryd.zeroCells64 HZ2.out (by rw [info93, zc_size]) rfl zc_one ?_))
  exact bodyPost_ret (lay_results _ _ w.heap.size false Tryd.zeroCells64 rfl rfl (setRow_heap _ _ _ _ _ _ HZ2.out) zc_size) rfl ⟨below_setRow B (Nat.le_refl _) _, Tryd.zeroCells64, zc_size, zc_one, .inr ⟨fun hv => h ⟨hv.2.2.1, hv.2.2.2.1⟩, rfl⟩⟩

theorem lay_bad3 (X Y : Int) (bq g n : Nat) (c : Nat → Int) (w : World) (hX : -128 ≤ X ∧ X ≤ 127) (hY : -128 ≤ Y ∧ Y ≤ 127) (hq : Sq w bq X Y (.slice (some ⟨g, 0, none⟩) n n)) (h1 : 1 ≤ X) (h2 : X ≤ 12) (h3 : 1 ≤ Y) (h4 : Y ≤ 12) (h : 60 < n) (hm : n ≤ 1048576) :
    Calls Tryd.prog 51 #[.pointer (some ⟨bq, 0, none⟩)] w (LayPost X Y n c w) := by
  obtain ⟨lq, pq, qq, rq⟩ := id hq
  have d0 : decide ((60 : Int) < (n : Int)) = true := by simp; omega
  have hst : Sem.run Tryd.prog (storeCells ⟨w.heap.size + 1, 0, none⟩ Tryd.zeroCells64.toList) ((w.alloc (Obj.cells Tryd.zeroCells64 64)).alloc (Obj.cells Tryd.zeroCells64 64)) = .ok () ((w.alloc (Obj.cells Tryd.zeroCells64 64)).alloc (Obj.cells Tryd.zeroCells64 64)) := by
    have := run_storeCells_new (P := Tryd.prog) (w.alloc (Obj.cells Tryd.zeroCells64 64)) 64 Tryd.zeroCells64 Tryd.zeroCells64 (by kernel_rfl) rfl zc_one
    rwa [World.size_alloc] at this
  have hz2 : ((w.alloc (Obj.cells Tryd.zeroCells64 64)).alloc (Obj.cells Tryd.zeroCells64 64)).heap[w.heap.size]? = some (.cells Tryd.zeroCells64 64 (0, 0)) := heap_alloc2_old w _ _
  have hcs : ((w.alloc (Obj.cells Tryd.zeroCells64 64)).alloc (Obj.cells Tryd.zeroCells64 64)).heap[w.heap.size + 1]? = some (.cells Tryd.zeroCells64 64 (0, 0)) := heap_alloc2_new w _ _
  have HZ2 := Lib.hid hz2
  have HCS := Lib.hid hcs
  have B : Below w.heap.size w ((w.alloc (Obj.cells Tryd.zeroCells64 64)).alloc (Obj.cells Tryd.zeroCells64 64)) := al (al (Below.refl _ _) _) _
  clear hz2 hcs
  go_enter Tryd.func51, Tryd.ntmps51
  go_wp2_with (first
    | (go_at_call 68; with_reducible refine (edge_yes X _ (by omega) (by omega)).mono ?_; rintro e w' ⟨rfl, rfl⟩)
    | (go_at_call 68; with_reducible refine (edge_yes Y _ (by omega) (by omega)).mono ?_; rintro e w' ⟨rfl, rfl⟩)
    | (refine wpList_load_row rfl 64 (.tmp 4) rfl (w.heap.size + 1) rfl 64 Tryd.zeroCells64 (0, 0) _ HCS.out Tryd.underlying64 rfl (by rw [info93, zc_size]) ?_)
    | (refine wpList_store_row rfl 64 (.tmp 2) (.tmp 34) rfl w.heap.size Tryd.zeroCells64 rfl rfl 64 Tryd.zeroCells64 HZ2.out (by rw [info93, zc_size]) rfl zc_one ?_))
  exact bodyPost_ret (lay_results _ _ w.heap.size false Tryd.zeroCells64 rfl rfl (setRow_heap _ _ _ _ _ _ HZ2.out) zc_size) rfl ⟨below_setRow B (Nat.le_refl _) _, Tryd.zeroCells64, zc_size, zc_one, .inr ⟨fun hv => absurd hv.2.2.2.2.1 (by omega), rfl⟩⟩

theorem lay_any (X Y : Int) (bq g n : Nat) (c : Nat → Int) (w : World) (hX : -128 ≤ X ∧ X ≤ 127) (hY : -128 ≤ Y ∧ Y ≤ 127) (hc : ∀ j, -128 ≤ c j ∧ c j ≤ 127) (hm : n ≤ 1048576) (hq : Sq w bq X Y (.slice (some ⟨g, 0, none⟩) n n)) (hrow : w.rowIs g 105 (4 * n) (fun j => .int .i8 (c j))) :
    Calls Tryd.prog 51 #[.pointer (some ⟨bq, 0, none⟩)] w (LayPost X Y n c w) := by
  by_cases h : 1 ≤ X ∧ X ≤ 12
  · by_cases h' : 1 ≤ Y ∧ Y ≤ 12
    · by_cases hn : n ≤ 60
      · exact lay_loop X Y bq g n c w hX hY hc hq hrow h.1 h.2 h'.1 h'.2 hn
      · exact lay_bad3 X Y bq g n c w hX hY hq h.1 h.2 h'.1 h'.2 (by omega) hm
    · exact lay_bad2 X Y bq g n c w hX hY hq h.1 h.2 h'
  · exact lay_bad1 X Y bq g n c w hX hY hq h

def ValPost (X Y : Int) (n : Nat) (c : Nat → Int) (w : World) (e : Ending) (w' : World) : Prop :=
  Below w.heap.size w w' ∧ ((Valid X Y n c ∧ e = .returned (.bool true)) ∨ (¬ Valid X Y n c ∧ e = .returned (.bool false)))

end Go.Proofs.YtmkcdelfgaogaaaDoor
