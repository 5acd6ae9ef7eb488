/-
  The contract of spec.l01Lay at every square, and of spec.l01Ok and spec.ValidSquare. Conditions stand at each.
-/
import Derived.Test.YtneijlogidhgiaaDoorRows
import Derived.Test.YtneijlogidhgiaaDoorLay
namespace Go.Proofs.YtneijlogidhgiaaDoor
open Go Go.ChangeShapes Go.WideShapes Go.ChangeAt Go.RowKit
set_option linter.unusedVariables false
set_option linter.unusedSimpArgs false
set_option maxRecDepth 100000
set_option maxHeartbeats 2000000

theorem lay_bad1 (X Y : Int) (bq g n : Nat) (c : Nat → Int) (w : World) (hX : -128 ≤ X ∧ X ≤ 127) (hY : -128 ≤ Y ∧ Y ≤ 127) (hq : Sq w bq X Y (.slice (some ⟨g, 0, none⟩) n n)) (h : ¬ (1 ≤ X ∧ X ≤ 12)) :
    Calls Tryd.prog 67 #[.pointer (some ⟨bq, 0, none⟩)] w (LayPost X Y n c w) := by
  obtain ⟨lq, pq, qq, rq⟩ := id hq
  have hst : Sem.run Tryd.prog (storeCells ⟨w.heap.size + 1, 0, none⟩ Tryd.zeroCells112.toList) ((w.alloc (Obj.cells Tryd.zeroCells112 112)).alloc (Obj.cells Tryd.zeroCells112 112)) = .ok () ((w.alloc (Obj.cells Tryd.zeroCells112 112)).alloc (Obj.cells Tryd.zeroCells112 112)) := by
    have := run_storeCells_new (P := Tryd.prog) (w.alloc (Obj.cells Tryd.zeroCells112 112)) 112 Tryd.zeroCells112 Tryd.zeroCells112 (by kernel_rfl) rfl zc_one
    rwa [World.size_alloc] at this
  have hz2 : ((w.alloc (Obj.cells Tryd.zeroCells112 112)).alloc (Obj.cells Tryd.zeroCells112 112)).heap[w.heap.size]? = some (.cells Tryd.zeroCells112 112 (0, 0)) := heap_alloc2_old w _ _
  have hcs : ((w.alloc (Obj.cells Tryd.zeroCells112 112)).alloc (Obj.cells Tryd.zeroCells112 112)).heap[w.heap.size + 1]? = some (.cells Tryd.zeroCells112 112 (0, 0)) := heap_alloc2_new w _ _
  have HZ2 := Lib.hid hz2
  have HCS := Lib.hid hcs
  have B : Below w.heap.size w ((w.alloc (Obj.cells Tryd.zeroCells112 112)).alloc (Obj.cells Tryd.zeroCells112 112)) := al (al (Below.refl _ _) _) _
  clear hz2 hcs
  go_enter Tryd.func67, Tryd.ntmps67
  go_wp2_with (first
    | (go_at_call 74; with_reducible refine (edge_no X _ h).mono ?_; rintro e w' ⟨rfl, rfl⟩)
    | (refine wpList_load_row rfl 112 (.tmp 4) rfl (w.heap.size + 1) rfl 112 Tryd.zeroCells112 (0, 0) _ HCS.out Tryd.underlying112 rfl (by rw [info93, zc_size]) ?_)
    | (refine wpList_store_row rfl 112 (.tmp 2) (.tmp 34) rfl w.heap.size Tryd.zeroCells112 rfl rfl 112 Tryd.zeroCells112 HZ2.out (by rw [info93, zc_size]) rfl zc_one ?_))
  exact bodyPost_ret (lay_results _ _ w.heap.size false Tryd.zeroCells112 rfl rfl (setRow_heap _ _ _ _ _ _ HZ2.out) zc_size) rfl ⟨below_setRow B (Nat.le_refl _) _, Tryd.zeroCells112, zc_size, zc_one, .inr ⟨fun hv => h ⟨hv.1, hv.2.1⟩, rfl⟩⟩

theorem lay_bad2 (X Y : Int) (bq g n : Nat) (c : Nat → Int) (w : World) (hX : -128 ≤ X ∧ X ≤ 127) (hY : -128 ≤ Y ∧ Y ≤ 127) (hq : Sq w bq X Y (.slice (some ⟨g, 0, none⟩) n n)) (h1 : 1 ≤ X) (h2 : X ≤ 12) (h : ¬ (1 ≤ Y ∧ Y ≤ 12)) :
    Calls Tryd.prog 67 #[.pointer (some ⟨bq, 0, none⟩)] w (LayPost X Y n c w) := by
  obtain ⟨lq, pq, qq, rq⟩ := id hq
  have hst : Sem.run Tryd.prog (storeCells ⟨w.heap.size + 1, 0, none⟩ Tryd.zeroCells112.toList) ((w.alloc (Obj.cells Tryd.zeroCells112 112)).alloc (Obj.cells Tryd.zeroCells112 112)) = .ok () ((w.alloc (Obj.cells Tryd.zeroCells112 112)).alloc (Obj.cells Tryd.zeroCells112 112)) := by
    have := run_storeCells_new (P := Tryd.prog) (w.alloc (Obj.cells Tryd.zeroCells112 112)) 112 Tryd.zeroCells112 Tryd.zeroCells112 (by kernel_rfl) rfl zc_one
    rwa [World.size_alloc] at this
  have hz2 : ((w.alloc (Obj.cells Tryd.zeroCells112 112)).alloc (Obj.cells Tryd.zeroCells112 112)).heap[w.heap.size]? = some (.cells Tryd.zeroCells112 112 (0, 0)) := heap_alloc2_old w _ _
  have hcs : ((w.alloc (Obj.cells Tryd.zeroCells112 112)).alloc (Obj.cells Tryd.zeroCells112 112)).heap[w.heap.size + 1]? = some (.cells Tryd.zeroCells112 112 (0, 0)) := heap_alloc2_new w _ _
  have HZ2 := Lib.hid hz2
  have HCS := Lib.hid hcs
  have B : Below w.heap.size w ((w.alloc (Obj.cells Tryd.zeroCells112 112)).alloc (Obj.cells Tryd.zeroCells112 112)) := al (al (Below.refl _ _) _) _
  clear hz2 hcs
  go_enter Tryd.func67, Tryd.ntmps67
  go_wp2_with (first
    | (go_at_call 74; with_reducible refine (edge_yes X _ (by omega) (by omega)).mono ?_; rintro e w' ⟨rfl, rfl⟩)
    | (go_at_call 74; with_reducible refine (edge_no Y _ h).mono ?_; rintro e w' ⟨rfl, rfl⟩)
    | (refine wpList_load_row rfl 112 (.tmp 4) rfl (w.heap.size + 1) rfl 112 Tryd.zeroCells112 (0, 0) _ HCS.out Tryd.underlying112 rfl (by rw [info93, zc_size]) ?_)
    | (refine wpList_store_row rfl 112 (.tmp 2) (.tmp 34) rfl w.heap.size Tryd.zeroCells112 rfl rfl 112 Tryd.zeroCells112 HZ2.out (by rw [info93, zc_size]) rfl zc_one ?_))
  exact bodyPost_ret (lay_results _ _ w.heap.size false Tryd.zeroCells112 rfl rfl (setRow_heap _ _ _ _ _ _ HZ2.out) zc_size) rfl ⟨below_setRow B (Nat.le_refl _) _, Tryd.zeroCells112, zc_size, zc_one, .inr ⟨fun hv => h ⟨hv.2.2.1, hv.2.2.2.1⟩, rfl⟩⟩

theorem lay_bad3 (X Y : Int) (bq g n : Nat) (c : Nat → Int) (w : World) (hX : -128 ≤ X ∧ X ≤ 127) (hY : -128 ≤ Y ∧ Y ≤ 127) (hq : Sq w bq X Y (.slice (some ⟨g, 0, none⟩) n n)) (h1 : 1 ≤ X) (h2 : X ≤ 12) (h3 : 1 ≤ Y) (h4 : Y ≤ 12) (h : 60 < n) (hm : n ≤ 1048576) :
    Calls Tryd.prog 67 #[.pointer (some ⟨bq, 0, none⟩)] w (LayPost X Y n c w) := by
  obtain ⟨lq, pq, qq, rq⟩ := id hq
  have d0 : decide ((60 : Int) < (n : Int)) = true := by simp; omega
  have hst : Sem.run Tryd.prog (storeCells ⟨w.heap.size + 1, 0, none⟩ Tryd.zeroCells112.toList) ((w.alloc (Obj.cells Tryd.zeroCells112 112)).alloc (Obj.cells Tryd.zeroCells112 112)) = .ok () ((w.alloc (Obj.cells Tryd.zeroCells112 112)).alloc (Obj.cells Tryd.zeroCells112 112)) := by
    have := run_storeCells_new (P := Tryd.prog) (w.alloc (Obj.cells Tryd.zeroCells112 112)) 112 Tryd.zeroCells112 Tryd.zeroCells112 (by kernel_rfl) rfl zc_one
    rwa [World.size_alloc] at this
  have hz2 : ((w.alloc (Obj.cells Tryd.zeroCells112 112)).alloc (Obj.cells Tryd.zeroCells112 112)).heap[w.heap.size]? = some (.cells Tryd.zeroCells112 112 (0, 0)) := heap_alloc2_old w _ _
  have hcs : ((w.alloc (Obj.cells Tryd.zeroCells112 112)).alloc (Obj.cells Tryd.zeroCells112 112)).heap[w.heap.size + 1]? = some (.cells Tryd.zeroCells112 112 (0, 0)) := heap_alloc2_new w _ _
  have HZ2 := Lib.hid hz2
  have HCS := Lib.hid hcs
  have B : Below w.heap.size w ((w.alloc (Obj.cells Tryd.zeroCells112 112)).alloc (Obj.cells Tryd.zeroCells112 112)) := al (al (Below.refl _ _) _) _
  clear hz2 hcs
  go_enter Tryd.func67, Tryd.ntmps67
  go_wp2_with (first
    | (go_at_call 74; with_reducible refine (edge_yes X _ (by omega) (by omega)).mono ?_; rintro e w' ⟨rfl, rfl⟩)
    | (go_at_call 74; with_reducible refine (edge_yes Y _ (by omega) (by omega)).mono ?_; rintro e w' ⟨rfl, rfl⟩)
    | (refine wpList_load_row rfl 112 (.tmp 4) rfl (w.heap.size + 1) rfl 112 Tryd.zeroCells112 (0, 0) _ HCS.out Tryd.underlying112 rfl (by rw [info93, zc_size]) ?_)
    | (refine wpList_store_row rfl 112 (.tmp 2) (.tmp 34) rfl w.heap.size Tryd.zeroCells112 rfl rfl 112 Tryd.zeroCells112 HZ2.out (by rw [info93, zc_size]) rfl zc_one ?_))
  exact bodyPost_ret (lay_results _ _ w.heap.size false Tryd.zeroCells112 rfl rfl (setRow_heap _ _ _ _ _ _ HZ2.out) zc_size) rfl ⟨below_setRow B (Nat.le_refl _) _, Tryd.zeroCells112, zc_size, zc_one, .inr ⟨fun hv => absurd hv.2.2.2.2.1 (by omega), rfl⟩⟩

theorem lay_any (X Y : Int) (bq g n : Nat) (c : Nat → Int) (w : World) (hX : -128 ≤ X ∧ X ≤ 127) (hY : -128 ≤ Y ∧ Y ≤ 127) (hc : ∀ j, -128 ≤ c j ∧ c j ≤ 127) (hm : n ≤ 1048576) (hq : Sq w bq X Y (.slice (some ⟨g, 0, none⟩) n n)) (hrow : w.rowIs g 77 (4 * n) (fun j => .int .i8 (c j))) :
    Calls Tryd.prog 67 #[.pointer (some ⟨bq, 0, none⟩)] w (LayPost X Y n c w) := by
  by_cases h : 1 ≤ X ∧ X ≤ 12
  · by_cases h' : 1 ≤ Y ∧ Y ≤ 12
    · by_cases hn : n ≤ 60
      · exact lay_loop X Y bq g n c w hX hY hc hq hrow h.1 h.2 h'.1 h'.2 hn
      · exact lay_bad3 X Y bq g n c w hX hY hq h.1 h.2 h'.1 h'.2 (by omega) hm
    · exact lay_bad2 X Y bq g n c w hX hY hq h.1 h.2 h'
  · exact lay_bad1 X Y bq g n c w hX hY hq h

def ValPost (X Y : Int) (n : Nat) (c : Nat → Int) (w : World) (e : Ending) (w' : World) : Prop :=
  Below w.heap.size w w' ∧ ((Valid X Y n c ∧ e = .returned (.bool true)) ∨ (¬ Valid X Y n c ∧ e = .returned (.bool false)))

theorem ok_any (X Y : Int) (bq g n : Nat) (c : Nat → Int) (w : World) (hX : -128 ≤ X ∧ X ≤ 127) (hY : -128 ≤ Y ∧ Y ≤ 127) (hc : ∀ j, -128 ≤ c j ∧ c j ≤ 127) (hm : n ≤ 1048576) (hq : Sq w bq X Y (.slice (some ⟨g, 0, none⟩) n n)) (hrow : w.rowIs g 77 (4 * n) (fun j => .int .i8 (c j))) :
    Calls Tryd.prog 54 #[.pointer (some ⟨bq, 0, none⟩)] w (ValPost X Y n c w) := by
  have HL := Lib.hid (lay_any X Y bq g n c w hX hY hc hm hq hrow)
  go_enter Tryd.func54, Tryd.ntmps54
  go_wp2_with fail
  refine HL.out.mono ?_
  rintro e w1 ⟨hb, cs, hsz, hone, hcase⟩
  have B := al hb (.cells Tryd.zeroCells112 112)
  rcases hcase with ⟨hv, _, rfl⟩ | ⟨hv, rfl⟩
  · go_wp2_with (first
      | (refine wpList_store_row rfl 112 (.tmp 3) (.tmp 8) rfl w1.heap.size cs rfl rfl 112 Tryd.zeroCells112 (heap_alloc_new w1 _) (by rw [info93, hsz]) (by rw [zc_size, hsz]) hone ?_))
    go_ret
    exact ⟨below_setRow B hb.size _, .inl ⟨hv, rfl⟩⟩
  · go_wp2_with (first
      | (refine wpList_store_row rfl 112 (.tmp 3) (.tmp 8) rfl w1.heap.size cs rfl rfl 112 Tryd.zeroCells112 (heap_alloc_new w1 _) (by rw [info93, hsz]) (by rw [zc_size, hsz]) hone ?_))
    go_ret
    exact ⟨below_setRow B hb.size _, .inr ⟨hv, rfl⟩⟩

end Go.Proofs.YtneijlogidhgiaaDoor
