/-
  Both sides of LiftSlab answer the same. Conditions stand at each.
-/
import Derived.Test.YteebkookoidheaaRows
import Derived.Test.YteebkookoidheaaTold
import Derived.Test.YteebkookoidheaaIn
import Derived.Test.YteebkookoidheaaLiftS
import Derived.Test.YteebkookoidheaaSlabs
import Derived.Test.YteebkookoidheaaValidI
import Derived.Test.YteebkookoidheaaRet
import Derived.Deep.RegionHeld3
namespace Go.Proofs.Yteebkookoidheaa.liftSlab
open Go Go.ChangeShapes Go.WideShapes Go.ChangeAt Go.RowKit
set_option linter.unusedVariables false
set_option linter.unusedSimpArgs false
set_option maxRecDepth 100000
set_option maxHeartbeats 2000000

theorem index_any (X Y k : Int) (bq g n : Nat) (w : World) (hm : n ≤ 1048576) (hq : Sq w bq X Y (.slice (some ⟨g, 0, none⟩) n n)) :
    Calls Try.prog 63 #[.pointer (some ⟨bq, 0, none⟩), .int .i64 k] w fun e w' => e = .returned (.bool (decide (0 ≤ k ∧ k < n))) ∧ Below w.heap.size w w' := by
  obtain ⟨lq, pq, qq, rq⟩ := hq
  have w1 : IntKind.i64.wrap ((n : Int) - 1) = (n : Int) - 1 := IntWalk.i64_in _ (by omega)
  by_cases h : 0 ≤ k ∧ k < n
  · rw [decide_eq_true h]
    have HI := fun W => Lib.hid (in_yes k 0 ((n : Int) - 1) W h.1 (by omega))
    clear h
    go_enter Try.func63, Try.ntmps63
    go_wp2_with fail
    refine (HI _).out.mono ?_
    rintro e w' ⟨rfl, rfl⟩
    go_wp2_with fail
    go_ret
    exact ⟨rfl, Below.refl _ _⟩
  · rw [decide_eq_false h]
    have HI := fun W => Lib.hid (in_no k 0 ((n : Int) - 1) W (by omega))
    clear h
    go_enter Try.func63, Try.ntmps63
    go_wp2_with fail
    refine (HI _).out.mono ?_
    rintro e w' ⟨rfl, rfl⟩
    go_wp2_with fail
    go_ret
    exact ⟨rfl, Below.refl _ _⟩

theorem keep5 {W W' : World} {bq g k : Nat} {q x0 x1 x2 x3 : Value} (h : W.cell? ⟨bq, 2, none⟩ = some q ∧ W.cell? ⟨g, k * 4, none⟩ = some x0 ∧ W.cell? ⟨g, k * 4 + 1, none⟩ = some x1 ∧ W.cell? ⟨g, k * 4 + 2, none⟩ = some x2 ∧ W.cell? ⟨g, k * 4 + 3, none⟩ = some x3) (e1 : W'.heap[bq]? = W.heap[bq]?) (e2 : W'.heap[g]? = W.heap[g]?) :
    W'.cell? ⟨bq, 2, none⟩ = some q ∧ W'.cell? ⟨g, k * 4, none⟩ = some x0 ∧ W'.cell? ⟨g, k * 4 + 1, none⟩ = some x1 ∧ W'.cell? ⟨g, k * 4 + 2, none⟩ = some x2 ∧ W'.cell? ⟨g, k * 4 + 3, none⟩ = some x3 := by
  obtain ⟨a0, a1, a2, a3, a4⟩ := h
  exact ⟨(World.cell?_of_block (w := W) e1).trans a0, (World.cell?_of_block (w := W) e2).trans a1, (World.cell?_of_block (w := W) e2).trans a2, (World.cell?_of_block (w := W) e2).trans a3, (World.cell?_of_block (w := W) e2).trans a4⟩

theorem keep7 {W W' : World} {bq g k : Nat} {q0 q1 q x0 x1 x2 x3 : Value} (h : W.cell? ⟨bq, 0, none⟩ = some q0 ∧ W.cell? ⟨bq, 1, none⟩ = some q1 ∧ W.cell? ⟨bq, 2, none⟩ = some q ∧ W.cell? ⟨g, k * 4, none⟩ = some x0 ∧ W.cell? ⟨g, k * 4 + 1, none⟩ = some x1 ∧ W.cell? ⟨g, k * 4 + 2, none⟩ = some x2 ∧ W.cell? ⟨g, k * 4 + 3, none⟩ = some x3) (e1 : W'.heap[bq]? = W.heap[bq]?) (e2 : W'.heap[g]? = W.heap[g]?) :
    W'.cell? ⟨bq, 0, none⟩ = some q0 ∧ W'.cell? ⟨bq, 1, none⟩ = some q1 ∧ W'.cell? ⟨bq, 2, none⟩ = some q ∧ W'.cell? ⟨g, k * 4, none⟩ = some x0 ∧ W'.cell? ⟨g, k * 4 + 1, none⟩ = some x1 ∧ W'.cell? ⟨g, k * 4 + 2, none⟩ = some x2 ∧ W'.cell? ⟨g, k * 4 + 3, none⟩ = some x3 := by
  obtain ⟨a0, a1, h⟩ := h
  exact ⟨(World.cell?_of_block (w := W) e1).trans a0, (World.cell?_of_block (w := W) e1).trans a1, keep5 h e1 e2⟩

theorem spec_bad (X Y k : Int) (g n : Nat) (c : Nat → Int) (w : World) (hX : -128 ≤ X ∧ X ≤ 127) (hY : -128 ≤ Y ∧ Y ≤ 127) (hc : ∀ j, -128 ≤ c j ∧ c j ≤ 127) (hm : n ≤ 1048576) (hrow : w.rowIs g 31 (4 * n) (fun j => .int .i8 (c j))) (hv : ¬ Valid X Y n c) :
    Calls Try.prog 16 #[.agg #[.int .i8 X, .int .i8 Y, .slice (some ⟨g, 0, none⟩) n n], .int .i64 k] w fun e w' => Below w.heap.size w w' ∧ ∃ v, e = .returned (.tuple #[.agg #[.int .i8 0, .int .i8 0, v], .agg #[.int .i8 0, .int .i8 0, .int .i8 0, .int .i8 0], .int .i64 1]) ∧ w'.ownsRow w.heap.size 31 4 v 0 [] := by
  have HC := Lib.hid hc
  clear hc
  go_enter Try.func16, Try.ntmps16
  go_wp2_with fail
  have HQ := ((Sq.new w X Y (.slice (some ⟨g, 0, none⟩) n n) 29).alloc (.cells #[.int .i8 0, .int .i8 0, .slice none 0 0] 29)).alloc (.cells #[.int .i8 0, .int .i8 0, .int .i8 0, .int .i8 0] 31)
  have H1 : Bx (((w.alloc (.cells #[.int .i8 X, .int .i8 Y, .slice (some ⟨g, 0, none⟩) n n] 29)).alloc (.cells #[.int .i8 0, .int .i8 0, .slice none 0 0] 29)).alloc (.cells #[.int .i8 0, .int .i8 0, .int .i8 0, .int .i8 0] 31)) (w.heap.size + 1) #[.int .i8 0, .int .i8 0, .slice none 0 0] 29 := by
    have := (Bx.new (w.alloc (.cells #[.int .i8 X, .int .i8 Y, .slice (some ⟨g, 0, none⟩) n n] 29)) #[.int .i8 0, .int .i8 0, .slice none 0 0] 29).alloc (.cells #[.int .i8 0, .int .i8 0, .int .i8 0, .int .i8 0] 31)
    rwa [World.size_alloc] at this
  have H2 : Bx (((w.alloc (.cells #[.int .i8 X, .int .i8 Y, .slice (some ⟨g, 0, none⟩) n n] 29)).alloc (.cells #[.int .i8 0, .int .i8 0, .slice none 0 0] 29)).alloc (.cells #[.int .i8 0, .int .i8 0, .int .i8 0, .int .i8 0] 31)) (w.heap.size + 2) #[.int .i8 0, .int .i8 0, .int .i8 0, .int .i8 0] 31 := by
    have := Bx.new ((w.alloc (.cells #[.int .i8 X, .int .i8 Y, .slice (some ⟨g, 0, none⟩) n n] 29)).alloc (.cells #[.int .i8 0, .int .i8 0, .slice none 0 0] 29)) #[.int .i8 0, .int .i8 0, .int .i8 0, .int .i8 0] 31
    rwa [World.size_alloc, World.size_alloc] at this
  have B := al (al (al (Below.refl w.heap.size w) (.cells #[.int .i8 X, .int .i8 Y, .slice (some ⟨g, 0, none⟩) n n] 29)) (.cells #[.int .i8 0, .int .i8 0, .slice none 0 0] 29)) (.cells #[.int .i8 0, .int .i8 0, .int .i8 0, .int .i8 0] 31)
  obtain ⟨W0, hW0⟩ : ∃ W0 : World, W0 = (((w.alloc (.cells #[.int .i8 X, .int .i8 Y, .slice (some ⟨g, 0, none⟩) n n] 29)).alloc (.cells #[.int .i8 0, .int .i8 0, .slice none 0 0] 29)).alloc (.cells #[.int .i8 0, .int .i8 0, .int .i8 0, .int .i8 0] 31)) := ⟨_, rfl⟩
  have hs0 : W0.heap.size = w.heap.size + 3 := by rw [hW0]; simp
  rw [← hW0] at HQ H1 H2 B ⊢
  have hs0 := Lib.hid hs0
  clear hW0
  refine (index_any X Y k w.heap.size g n _ hm HQ).mono ?_
  rintro e w1 ⟨rfl, hb⟩
  replace HQ := HQ.below hb
  replace H1 := H1.below hb
  replace H2 := H2.below hb
  replace B := nxt B hb
  clear hb
  generalize decide (0 ≤ k ∧ k < n) = fine
  go_wp2_with fail
  refine (told_bad X Y w.heap.size g n c fine _ hX hY HC.out hm HQ (hrow.of_block (B.block _ hrow.lt)) hv).mono ?_
  rintro e wz ⟨rfl, hb⟩
  replace HQ := HQ.below hb
  replace H1 := H1.below hb
  replace H2 := H2.below hb
  replace B := nxt B hb
  clear hb
  obtain ⟨lq, pq, qq, rq⟩ := id HQ
  obtain ⟨p1, q1, r1⟩ := H1.cells3
  obtain ⟨p2, q2, r2, s2⟩ := H2.cells4
  have f10 := H1.frozen 0
  have f11 := H1.frozen 1
  have f12 := H1.frozen 2
  have f20 := H2.frozen 0
  have f21 := H2.frozen 1
  have f22 := H2.frozen 2
  have f23 := H2.frozen 3
  go_wp2_with fail
  have O3 := World.ownsRow_nil (((((((wz.setCell ⟨w.heap.size + 1, 0, none⟩ (.int .i8 0)).setCell ⟨w.heap.size + 1, 1, none⟩ (.int .i8 0)).setCell ⟨w.heap.size + 1, 2, none⟩ (.slice none 0 0)).setCell ⟨w.heap.size + 1 + 1, 0, none⟩ (.int .i8 0)).setCell ⟨w.heap.size + 1 + 1, 1, none⟩ (.int .i8 0)).setCell ⟨w.heap.size + 1 + 1, 2, none⟩ (.int .i8 0)).setCell ⟨w.heap.size + 1 + 1, 3, none⟩ (.int .i8 0)) w.heap.size 31 4
  have F1 := (H1.set3 (.int .i8 0) (.int .i8 0) (.slice none 0 0)).other4 (g := w.heap.size + 1 + 1) (v0 := .int .i8 0) (v1 := .int .i8 0) (v2 := .int .i8 0) (v3 := .int .i8 0) (by omega)
  have F2 := (H2.other3 (g := w.heap.size + 1) (v0 := .int .i8 0) (v1 := .int .i8 0) (v2 := .slice none 0 0) (by omega)).set4 (.int .i8 0) (.int .i8 0) (.int .i8 0) (.int .i8 0)
  have B3 := below_set4 (g := w.heap.size + 1 + 1) (v0 := .int .i8 0) (v1 := .int .i8 0) (v2 := .int .i8 0) (v3 := .int .i8 0) (below_set3 (g := w.heap.size + 1) (v0 := .int .i8 0) (v1 := .int .i8 0) (v2 := .slice none 0 0) B (by omega)) (by omega)
  obtain ⟨x1, y1, z1⟩ := F1.cells3
  obtain ⟨x2, y2, z2, u2⟩ := F2.cells4
  rw [show w.heap.size + 2 = w.heap.size + 1 + 1 by omega] at x2 y2 z2 u2
  refine bodyPost_ret (v := .tuple #[.agg #[.int .i8 0, .int .i8 0, .slice none 0 0], .agg #[.int .i8 0, .int .i8 0, .int .i8 0, .int .i8 0], .int .i64 1]) (by simp [results, Try.results16, go_sem, x1, y1, z1, x2, y2, z2, u2]) rfl ⟨B3, _, rfl, O3⟩

theorem spec_out (X Y k : Int) (g n : Nat) (c : Nat → Int) (w : World) (hX : -128 ≤ X ∧ X ≤ 127) (hY : -128 ≤ Y ∧ Y ≤ 127) (hc : ∀ j, -128 ≤ c j ∧ c j ≤ 127) (hm : n ≤ 1048576) (hrow : w.rowIs g 31 (4 * n) (fun j => .int .i8 (c j))) (hv : Valid X Y n c) (hk : ¬ (0 ≤ k ∧ k < n)) :
    Calls Try.prog 16 #[.agg #[.int .i8 X, .int .i8 Y, .slice (some ⟨g, 0, none⟩) n n], .int .i64 k] w fun e w' => Below w.heap.size w w' ∧ ∃ v, e = .returned (.tuple #[.agg #[.int .i8 0, .int .i8 0, v], .agg #[.int .i8 0, .int .i8 0, .int .i8 0, .int .i8 0], .int .i64 2]) ∧ w'.ownsRow w.heap.size 31 4 v 0 [] := by
  have HC := Lib.hid hc
  clear hc
  go_enter Try.func16, Try.ntmps16
  go_wp2_with fail
  have HQ := ((Sq.new w X Y (.slice (some ⟨g, 0, none⟩) n n) 29).alloc (.cells #[.int .i8 0, .int .i8 0, .slice none 0 0] 29)).alloc (.cells #[.int .i8 0, .int .i8 0, .int .i8 0, .int .i8 0] 31)
  have H1 : Bx (((w.alloc (.cells #[.int .i8 X, .int .i8 Y, .slice (some ⟨g, 0, none⟩) n n] 29)).alloc (.cells #[.int .i8 0, .int .i8 0, .slice none 0 0] 29)).alloc (.cells #[.int .i8 0, .int .i8 0, .int .i8 0, .int .i8 0] 31)) (w.heap.size + 1) #[.int .i8 0, .int .i8 0, .slice none 0 0] 29 := by
    have := (Bx.new (w.alloc (.cells #[.int .i8 X, .int .i8 Y, .slice (some ⟨g, 0, none⟩) n n] 29)) #[.int .i8 0, .int .i8 0, .slice none 0 0] 29).alloc (.cells #[.int .i8 0, .int .i8 0, .int .i8 0, .int .i8 0] 31)
    rwa [World.size_alloc] at this
  have H2 : Bx (((w.alloc (.cells #[.int .i8 X, .int .i8 Y, .slice (some ⟨g, 0, none⟩) n n] 29)).alloc (.cells #[.int .i8 0, .int .i8 0, .slice none 0 0] 29)).alloc (.cells #[.int .i8 0, .int .i8 0, .int .i8 0, .int .i8 0] 31)) (w.heap.size + 2) #[.int .i8 0, .int .i8 0, .int .i8 0, .int .i8 0] 31 := by
    have := Bx.new ((w.alloc (.cells #[.int .i8 X, .int .i8 Y, .slice (some ⟨g, 0, none⟩) n n] 29)).alloc (.cells #[.int .i8 0, .int .i8 0, .slice none 0 0] 29)) #[.int .i8 0, .int .i8 0, .int .i8 0, .int .i8 0] 31
    rwa [World.size_alloc, World.size_alloc] at this
  have B := al (al (al (Below.refl w.heap.size w) (.cells #[.int .i8 X, .int .i8 Y, .slice (some ⟨g, 0, none⟩) n n] 29)) (.cells #[.int .i8 0, .int .i8 0, .slice none 0 0] 29)) (.cells #[.int .i8 0, .int .i8 0, .int .i8 0, .int .i8 0] 31)
  obtain ⟨W0, hW0⟩ : ∃ W0 : World, W0 = (((w.alloc (.cells #[.int .i8 X, .int .i8 Y, .slice (some ⟨g, 0, none⟩) n n] 29)).alloc (.cells #[.int .i8 0, .int .i8 0, .slice none 0 0] 29)).alloc (.cells #[.int .i8 0, .int .i8 0, .int .i8 0, .int .i8 0] 31)) := ⟨_, rfl⟩
  have hs0 : W0.heap.size = w.heap.size + 3 := by rw [hW0]; simp
  rw [← hW0] at HQ H1 H2 B ⊢
  have hs0 := Lib.hid hs0
  clear hW0
  refine (index_any X Y k w.heap.size g n _ hm HQ).mono ?_
  rintro e w1 ⟨rfl, hb⟩
  replace HQ := HQ.below hb
  replace H1 := H1.below hb
  replace H2 := H2.below hb
  replace B := nxt B hb
  clear hb
  rw [decide_eq_false hk]
  go_wp2_with fail
  refine (told_ok X Y w.heap.size g n c false _ hX hY HC.out hm HQ (hrow.of_block (B.block _ hrow.lt)) hv).mono ?_
  rintro e wz ⟨rfl, hb⟩
  replace HQ := HQ.below hb
  replace H1 := H1.below hb
  replace H2 := H2.below hb
  replace B := nxt B hb
  clear hb
  obtain ⟨lq, pq, qq, rq⟩ := id HQ
  obtain ⟨p1, q1, r1⟩ := H1.cells3
  obtain ⟨p2, q2, r2, s2⟩ := H2.cells4
  have f10 := H1.frozen 0
  have f11 := H1.frozen 1
  have f12 := H1.frozen 2
  have f20 := H2.frozen 0
  have f21 := H2.frozen 1
  have f22 := H2.frozen 2
  have f23 := H2.frozen 3
  go_wp2_with fail
  have O3 := World.ownsRow_nil (((((((wz.setCell ⟨w.heap.size + 1, 0, none⟩ (.int .i8 0)).setCell ⟨w.heap.size + 1, 1, none⟩ (.int .i8 0)).setCell ⟨w.heap.size + 1, 2, none⟩ (.slice none 0 0)).setCell ⟨w.heap.size + 1 + 1, 0, none⟩ (.int .i8 0)).setCell ⟨w.heap.size + 1 + 1, 1, none⟩ (.int .i8 0)).setCell ⟨w.heap.size + 1 + 1, 2, none⟩ (.int .i8 0)).setCell ⟨w.heap.size + 1 + 1, 3, none⟩ (.int .i8 0)) w.heap.size 31 4
  have F1 := (H1.set3 (.int .i8 0) (.int .i8 0) (.slice none 0 0)).other4 (g := w.heap.size + 1 + 1) (v0 := .int .i8 0) (v1 := .int .i8 0) (v2 := .int .i8 0) (v3 := .int .i8 0) (by omega)
  have F2 := (H2.other3 (g := w.heap.size + 1) (v0 := .int .i8 0) (v1 := .int .i8 0) (v2 := .slice none 0 0) (by omega)).set4 (.int .i8 0) (.int .i8 0) (.int .i8 0) (.int .i8 0)
  have B3 := below_set4 (g := w.heap.size + 1 + 1) (v0 := .int .i8 0) (v1 := .int .i8 0) (v2 := .int .i8 0) (v3 := .int .i8 0) (below_set3 (g := w.heap.size + 1) (v0 := .int .i8 0) (v1 := .int .i8 0) (v2 := .slice none 0 0) B (by omega)) (by omega)
  obtain ⟨x1, y1, z1⟩ := F1.cells3
  obtain ⟨x2, y2, z2, u2⟩ := F2.cells4
  rw [show w.heap.size + 2 = w.heap.size + 1 + 1 by omega] at x2 y2 z2 u2
  refine bodyPost_ret (v := .tuple #[.agg #[.int .i8 0, .int .i8 0, .slice none 0 0], .agg #[.int .i8 0, .int .i8 0, .int .i8 0, .int .i8 0], .int .i64 2]) (by simp [results, Try.results16, go_sem, x1, y1, z1, x2, y2, z2, u2]) rfl ⟨B3, _, rfl, O3⟩

set_option maxHeartbeats 12000000 in
theorem spec_in (X Y : Int) (k g n : Nat) (c : Nat → Int) (w : World) (hX : -128 ≤ X ∧ X ≤ 127) (hY : -128 ≤ Y ∧ Y ≤ 127) (hc : ∀ j, -128 ≤ c j ∧ c j ≤ 127) (hm : n ≤ 1048576) (hrow : w.rowIs g 31 (4 * n) (fun j => .int .i8 (c j))) (hv : Valid X Y n c) (hk : k < n) :
    Calls Try.prog 16 #[.agg #[.int .i8 X, .int .i8 Y, .slice (some ⟨g, 0, none⟩) n n], .int .i64 (k : Int)] w fun e w' => Below w.heap.size w w' ∧ ∃ v, e = .returned (.tuple #[.agg #[.int .i8 X, .int .i8 Y, v], .agg #[.int .i8 (c (4 * k)), .int .i8 (c (4 * k + 1)), .int .i8 (c (4 * k + 2)), .int .i8 (c (4 * k + 3))], .int .i64 0]) ∧ w'.ownsRow w.heap.size 31 4 v (liftN k n) (liftV c k n) := by
  have hn60 : n ≤ 60 := hv.2.2.2.2.1
  have HC := Lib.hid hc
  clear hc
  go_enter Try.func16, Try.ntmps16
  go_wp2_with fail
  have HQ := ((Sq.new w X Y (.slice (some ⟨g, 0, none⟩) n n) 29).alloc (.cells #[.int .i8 0, .int .i8 0, .slice none 0 0] 29)).alloc (.cells #[.int .i8 0, .int .i8 0, .int .i8 0, .int .i8 0] 31)
  have H1 : Bx (((w.alloc (.cells #[.int .i8 X, .int .i8 Y, .slice (some ⟨g, 0, none⟩) n n] 29)).alloc (.cells #[.int .i8 0, .int .i8 0, .slice none 0 0] 29)).alloc (.cells #[.int .i8 0, .int .i8 0, .int .i8 0, .int .i8 0] 31)) (w.heap.size + 1) #[.int .i8 0, .int .i8 0, .slice none 0 0] 29 := by
    have := (Bx.new (w.alloc (.cells #[.int .i8 X, .int .i8 Y, .slice (some ⟨g, 0, none⟩) n n] 29)) #[.int .i8 0, .int .i8 0, .slice none 0 0] 29).alloc (.cells #[.int .i8 0, .int .i8 0, .int .i8 0, .int .i8 0] 31)
    rwa [World.size_alloc] at this
  have H2 : Bx (((w.alloc (.cells #[.int .i8 X, .int .i8 Y, .slice (some ⟨g, 0, none⟩) n n] 29)).alloc (.cells #[.int .i8 0, .int .i8 0, .slice none 0 0] 29)).alloc (.cells #[.int .i8 0, .int .i8 0, .int .i8 0, .int .i8 0] 31)) (w.heap.size + 2) #[.int .i8 0, .int .i8 0, .int .i8 0, .int .i8 0] 31 := by
    have := Bx.new ((w.alloc (.cells #[.int .i8 X, .int .i8 Y, .slice (some ⟨g, 0, none⟩) n n] 29)).alloc (.cells #[.int .i8 0, .int .i8 0, .slice none 0 0] 29)) #[.int .i8 0, .int .i8 0, .int .i8 0, .int .i8 0] 31
    rwa [World.size_alloc, World.size_alloc] at this
  have B := al (al (al (Below.refl w.heap.size w) (.cells #[.int .i8 X, .int .i8 Y, .slice (some ⟨g, 0, none⟩) n n] 29)) (.cells #[.int .i8 0, .int .i8 0, .slice none 0 0] 29)) (.cells #[.int .i8 0, .int .i8 0, .int .i8 0, .int .i8 0] 31)
  obtain ⟨W0, hW0⟩ : ∃ W0 : World, W0 = (((w.alloc (.cells #[.int .i8 X, .int .i8 Y, .slice (some ⟨g, 0, none⟩) n n] 29)).alloc (.cells #[.int .i8 0, .int .i8 0, .slice none 0 0] 29)).alloc (.cells #[.int .i8 0, .int .i8 0, .int .i8 0, .int .i8 0] 31)) := ⟨_, rfl⟩
  have hs0 : W0.heap.size = w.heap.size + 3 := by rw [hW0]; simp
  rw [← hW0] at HQ H1 H2 B ⊢
  have hs0 := Lib.hid hs0
  clear hW0
  refine (index_any X Y k w.heap.size g n _ hm HQ).mono ?_
  rintro e w1 ⟨rfl, hb⟩
  replace HQ := HQ.below hb
  replace H1 := H1.below hb
  replace H2 := H2.below hb
  replace B := nxt B hb
  clear hb
  rw [decide_eq_true (show (0 : Int) ≤ k ∧ (k : Int) < n by omega)]
  go_wp2_with fail
  refine (told_ok X Y w.heap.size g n c true _ hX hY HC.out hm HQ (hrow.of_block (B.block _ hrow.lt)) hv).mono ?_
  rintro e w2 ⟨rfl, hb⟩
  replace HQ := HQ.below hb
  replace H1 := H1.below hb
  replace H2 := H2.below hb
  replace B := nxt B hb
  clear hb
  go_wp2_with fail
  replace B := B.drew
  replace HQ : Sq w2.drew w.heap.size X Y (.slice (some ⟨g, 0, none⟩) n n) := HQ
  replace H1 : Bx w2.drew (w.heap.size + 1) #[.int .i8 0, .int .i8 0, .slice none 0 0] 29 := H1
  replace H2 : Bx w2.drew (w.heap.size + 2) #[.int .i8 0, .int .i8 0, .int .i8 0, .int .i8 0] 31 := H2
  have R := hrow.of_block (B.block _ hrow.lt)
  have hz2 : w.heap.size + 2 < w2.drew.heap.size := H2.lt
  obtain ⟨lq, pq, qq, rq⟩ := id HQ
  obtain ⟨p1, q1, r1⟩ := H1.cells3
  obtain ⟨p2, q2, r2, s2⟩ := H2.cells4
  have f10 := H1.frozen 0
  have f11 := H1.frozen 1
  have f12 := H1.frozen 2
  have f20 := H2.frozen 0
  have f21 := H2.frozen 1
  have f22 := H2.frozen 2
  have f23 := H2.frozen 3
  obtain ⟨c0, c1, c2, c3⟩ := (Own8.of_row (f := c) R).at4 hk |>.1
  simp only [Nat.zero_add] at c0 c1 c2 c3
  have hk0 : (0 : Int) ≤ (k : Int) := by omega
  have hne1 : w.heap.size ≠ w.heap.size + 1 := by omega
  have hne2 : g ≠ w.heap.size + 1 := by have := hrow.lt; omega
  have hne3 : w.heap.size ≠ w.heap.size + 1 + 1 := by omega
  have hne4 : g ≠ w.heap.size + 1 + 1 := by have := hrow.lt; omega
  have hkn : (k : Int) < (n : Int) := by omega
  refine wp_region_held_drew (S := (fun w' => w'.cell? ⟨w.heap.size, 2, none⟩ = some (.slice (some ⟨g, 0, none⟩) n n) ∧ w'.cell? ⟨g, k * 4, none⟩ = some (.int .i8 (c (4 * k))) ∧ w'.cell? ⟨g, k * 4 + 1, none⟩ = some (.int .i8 (c (4 * k + 1))) ∧ w'.cell? ⟨g, k * 4 + 2, none⟩ = some (.int .i8 (c (4 * k + 2))) ∧ w'.cell? ⟨g, k * 4 + 3, none⟩ = some (.int .i8 (c (4 * k + 3))))) (by kernel_rfl) ⟨rq, c0, c1, c2, c3⟩ (fun hHeld => ?_)
  refine wpAnyH_take (i := 0) (oi := _) (v := ?_) rfl (by kernel_rfl) (by kernel_rfl) (by kernel_rfl) (fun _ _ _ h => h) (Or.inl ⟨by kernel_rfl, ?_⟩) (by assumption) ?_
  rotate_left
  · intro w hSw; (try dsimp only at hSw); go_simp; first | done | with_reducible rfl
  try simp only [List.getElem_toArray, List.getElem_cons_zero, List.getElem_cons_succ, Act.put, List.setIfInBounds_toArray, List.set_cons_zero, List.set_cons_succ]
  refine wpAnyH_take (i := 2) (oi := _) (v := ?_) rfl (by kernel_rfl) (by kernel_rfl) (by kernel_rfl) (fun _ _ _ h => h) (Or.inl ⟨by kernel_rfl, ?_⟩) (by assumption) ?_
  rotate_left
  · intro w hSw; (try dsimp only at hSw); go_simp; first | done | with_reducible rfl
  try simp only [List.getElem_toArray, List.getElem_cons_zero, List.getElem_cons_succ, Act.put, List.setIfInBounds_toArray, List.set_cons_zero, List.set_cons_succ]
  refine wpAnyH_take (i := 3) (oi := _) (v := ?_) rfl (by kernel_rfl) (by kernel_rfl) (by kernel_rfl) (fun _ _ _ h => h) (Or.inl ⟨by kernel_rfl, ?_⟩) (by assumption) ?_
  rotate_left
  · intro w hSw; (try dsimp only at hSw); go_simp; first | done | with_reducible rfl
  try simp only [List.getElem_toArray, List.getElem_cons_zero, List.getElem_cons_succ, Act.put, List.setIfInBounds_toArray, List.set_cons_zero, List.set_cons_succ]
  refine wpAnyH_take (i := 4) (oi := _) (v := ?_) rfl (by kernel_rfl) (by kernel_rfl) (by kernel_rfl) (fun _ _ _ h => h) (Or.inl ⟨by kernel_rfl, ?_⟩) (by assumption) ?_
  rotate_left
  · intro w hSw; (try dsimp only at hSw); go_simp; first | done | with_reducible rfl
  try simp only [List.getElem_toArray, List.getElem_cons_zero, List.getElem_cons_succ, Act.put, List.setIfInBounds_toArray, List.set_cons_zero, List.set_cons_succ]
  refine wpAnyH_take (i := 5) (oi := _) (v := ?_) rfl (by kernel_rfl) (by kernel_rfl) (by kernel_rfl) (fun _ _ _ h => h) (Or.inl ⟨by kernel_rfl, ?_⟩) (by assumption) ?_
  rotate_left
  · intro w hSw; (try dsimp only at hSw); go_simp; first | done | with_reducible rfl
  try simp only [List.getElem_toArray, List.getElem_cons_zero, List.getElem_cons_succ, Act.put, List.setIfInBounds_toArray, List.set_cons_zero, List.set_cons_succ]
  refine wpAnyH_take (i := 6) (oi := _) (v := ?_) rfl (by kernel_rfl) (by kernel_rfl) (by kernel_rfl) (fun _ _ _ h => h) (Or.inl ⟨by kernel_rfl, ?_⟩) (by assumption) ?_
  rotate_left
  · intro w hSw; (try dsimp only at hSw); go_simp; first | done | with_reducible rfl
  try simp only [List.getElem_toArray, List.getElem_cons_zero, List.getElem_cons_succ, Act.put, List.setIfInBounds_toArray, List.set_cons_zero, List.set_cons_succ]
  refine wpAnyH_ready (rs := [1]) (by kernel_rfl) (by simp) ?_
  refine AllReadyH.cons (o := _) rfl (fun K hK => ?_) AllReadyH.nil
  go_simp
  refine (lift_any X Y w.heap.size g n k c _ (by omega) hk HQ R).mono ?_
  rintro e w3 ⟨hb, v, rfl, O⟩
  obtain ⟨A', cap', rfl⟩ := row_shape O
  have hsO := B.size
  replace HQ := HQ.below hb
  replace H1 := H1.below hb
  replace H2 := H2.below hb
  replace B := nxt B hb
  replace R := rowNext0 R hb
  clear hb lq pq qq rq p1 q1 r1 p2 q2 r2 s2 f10 f11 f12 f20 f21 f22 f23 c0 c1 c2 c3
  obtain ⟨lq, pq, qq, rq⟩ := id HQ
  obtain ⟨p1, q1, r1⟩ := H1.cells3
  obtain ⟨p2, q2, r2, s2⟩ := H2.cells4
  have f10 := H1.frozen 0
  have f11 := H1.frozen 1
  have f12 := H1.frozen 2
  have f20 := H2.frozen 0
  have f21 := H2.frozen 1
  have f22 := H2.frozen 2
  have f23 := H2.frozen 3
  obtain ⟨c0, c1, c2, c3⟩ := (Own8.of_row (f := c) R).at4 hk |>.1
  simp only [Nat.zero_add] at c0 c1 c2 c3
  refine hK.out _ _ ⟨rq, c0, c1, c2, c3⟩ (fun hHeld => ?_)
  clear hK K
  try simp only [List.getElem_toArray, List.getElem_cons_zero, List.getElem_cons_succ, Act.put, List.setIfInBounds_toArray, List.set_cons_zero, List.set_cons_succ]
  refine wpAnyH_ready (rs := [7]) (by kernel_rfl) (by simp) ?_
  refine AllReadyH.cons (o := _) rfl (fun K hK => ?_) AllReadyH.nil
  go_simp
  refine hK.out _ _ (keep5 ⟨rq, c0, c1, c2, c3⟩ (blk3 hne1) (blk3 hne2)) (fun hHeld => ?_)
  clear hK K
  try simp only [List.getElem_toArray, List.getElem_cons_zero, List.getElem_cons_succ, Act.put, List.setIfInBounds_toArray, List.set_cons_zero, List.set_cons_succ]
  refine wpAnyH_ready (rs := [8]) (by kernel_rfl) (by simp) ?_
  refine AllReadyH.cons (o := _) rfl (fun K hK => ?_) AllReadyH.nil
  go_simp
  refine hK.out _ _ (keep5 ⟨rq, c0, c1, c2, c3⟩ ((blk4 hne3).trans (blk3 hne1)) ((blk4 hne4).trans (blk3 hne2))) (fun hHeld => ?_)
  clear hK K
  try simp only [List.getElem_toArray, List.getElem_cons_zero, List.getElem_cons_succ, Act.put, List.setIfInBounds_toArray, List.set_cons_zero, List.set_cons_succ]
  refine wpAnyH_take (i := 9) (oi := _) (v := ?_) rfl (by kernel_rfl) (by kernel_rfl) (by kernel_rfl) (fun _ _ _ h => h) (Or.inl ⟨by kernel_rfl, ?_⟩) (by assumption) ?_
  rotate_left
  · intro w hSw; (try dsimp only at hSw); go_simp; first | done | with_reducible rfl
  try simp only [List.getElem_toArray, List.getElem_cons_zero, List.getElem_cons_succ, Act.put, List.setIfInBounds_toArray, List.set_cons_zero, List.set_cons_succ]
  refine wpAnyH_done (by kernel_rfl) ?_ _
  clear hHeld
  go_wp2_with fail
  have O3 := World.ownsRow.mono (OwnS.set (b := w.heap.size + 1 + 1) (o := 3) (u := .int .i8 (c (4 * k + 3))) (OwnS.set (b := w.heap.size + 1 + 1) (o := 2) (u := .int .i8 (c (4 * k + 2))) (OwnS.set (b := w.heap.size + 1 + 1) (o := 1) (u := .int .i8 (c (4 * k + 1))) (OwnS.set (b := w.heap.size + 1 + 1) (o := 0) (u := .int .i8 (c (4 * k))) (OwnS.set (b := w.heap.size + 1) (o := 2) (u := .slice A' (liftN k n) cap') (OwnS.set (b := w.heap.size + 1) (o := 1) (u := .int .i8 Y) (OwnS.set (b := w.heap.size + 1) (o := 0) (u := .int .i8 X) O (by omega)) (by omega)) (by omega)) (by omega)) (by omega)) (by omega)) (by omega)) (show w.heap.size ≤ w2.drew.heap.size by omega)
  have F1 := (H1.set3 (.int .i8 X) (.int .i8 Y) (.slice A' (liftN k n) cap')).other4 (g := w.heap.size + 1 + 1) (v0 := .int .i8 (c (4 * k))) (v1 := .int .i8 (c (4 * k + 1))) (v2 := .int .i8 (c (4 * k + 2))) (v3 := .int .i8 (c (4 * k + 3))) (by omega)
  have F2 := (H2.other3 (g := w.heap.size + 1) (v0 := .int .i8 X) (v1 := .int .i8 Y) (v2 := .slice A' (liftN k n) cap') (by omega)).set4 (.int .i8 (c (4 * k))) (.int .i8 (c (4 * k + 1))) (.int .i8 (c (4 * k + 2))) (.int .i8 (c (4 * k + 3)))
  have B3 := below_set4 (g := w.heap.size + 1 + 1) (v0 := .int .i8 (c (4 * k))) (v1 := .int .i8 (c (4 * k + 1))) (v2 := .int .i8 (c (4 * k + 2))) (v3 := .int .i8 (c (4 * k + 3))) (below_set3 (g := w.heap.size + 1) (v0 := .int .i8 X) (v1 := .int .i8 Y) (v2 := .slice A' (liftN k n) cap') B (by omega)) (by omega)
  obtain ⟨x1, y1, z1⟩ := F1.cells3
  obtain ⟨x2, y2, z2, u2⟩ := F2.cells4
  rw [show w.heap.size + 2 = w.heap.size + 1 + 1 by omega] at x2 y2 z2 u2
  refine bodyPost_ret (v := .tuple #[.agg #[.int .i8 X, .int .i8 Y, .slice A' (liftN k n) cap'], .agg #[.int .i8 (c (4 * k)), .int .i8 (c (4 * k + 1)), .int .i8 (c (4 * k + 2)), .int .i8 (c (4 * k + 3))], .int .i64 0]) (by simp [results, Try.results16, go_sem, x1, y1, z1, x2, y2, z2, u2]) rfl ⟨B3, _, rfl, O3⟩

theorem hasSlab_any (X Y k : Int) (A : Option Addr) (n cap : Nat) (w : World) (hm : n ≤ 1048576) :
    Calls Try.prog 66 #[.agg #[.int .i8 X, .int .i8 Y, .slice A n cap], .int .i64 k] w fun e w' => e = .returned (.bool (decide (0 ≤ k ∧ k < n))) ∧ Below w.heap.size w w' := by
  have wn : IntKind.i64.wrap (n : Int) = (n : Int) := IntWalk.i64_in _ (by omega)
  by_cases h0 : 0 ≤ k
  · have d0 : decide (0 ≤ k) = true := decide_eq_true h0
    by_cases h1 : k < (n : Int)
    · have d1 : decide (k < (n : Int)) = true := decide_eq_true h1
      rw [decide_eq_true (show 0 ≤ k ∧ k < (n : Int) from ⟨h0, h1⟩)]
      clear h1
      go_enter Try.func66, Try.ntmps66
      go_wp2
      go_ret
      exact ⟨rfl, al (Below.refl _ _) _⟩
    · have d1 : decide (k < (n : Int)) = false := decide_eq_false h1
      rw [decide_eq_false (show ¬ (0 ≤ k ∧ k < (n : Int)) from fun h => h1 h.2)]
      clear h1
      go_enter Try.func66, Try.ntmps66
      go_wp2
      go_ret
      exact ⟨rfl, al (Below.refl _ _) _⟩
  · have d0 : decide (0 ≤ k) = false := decide_eq_false h0
    rw [decide_eq_false (show ¬ (0 ≤ k ∧ k < (n : Int)) from fun h => h0 h.1)]
    clear h0
    go_enter Try.func66, Try.ntmps66
    go_wp2
    go_ret
    exact ⟨rfl, al (Below.refl _ _) _⟩

theorem impl_bad (X Y k : Int) (g n : Nat) (c : Nat → Int) (w : World) (hX : -128 ≤ X ∧ X ≤ 127) (hY : -128 ≤ Y ∧ Y ≤ 127) (hc : ∀ j, -128 ≤ c j ∧ c j ≤ 127) (hm : n ≤ 1048576) (hrow : w.rowIs g 31 (4 * n) (fun j => .int .i8 (c j))) (hv : ¬ Valid X Y n c) :
    Calls Try.prog 18 #[.agg #[.int .i8 X, .int .i8 Y, .slice (some ⟨g, 0, none⟩) n n], .int .i64 k] w fun e w' => Below w.heap.size w w' ∧ ∃ v, e = .returned (.tuple #[.agg #[.int .i8 0, .int .i8 0, v], .agg #[.int .i8 0, .int .i8 0, .int .i8 0, .int .i8 0], .int .i64 1]) ∧ w'.ownsRow w.heap.size 31 4 v 0 [] := by
  have HC := Lib.hid hc
  clear hc
  go_enter Try.func18, Try.ntmps18
  go_wp2_with fail
  have HQ := ((Sq.new w X Y (.slice (some ⟨g, 0, none⟩) n n) 29).alloc (.cells #[.int .i8 0, .int .i8 0, .slice none 0 0] 29)).alloc (.cells #[.int .i8 0, .int .i8 0, .int .i8 0, .int .i8 0] 31)
  have H1 : Bx (((w.alloc (.cells #[.int .i8 X, .int .i8 Y, .slice (some ⟨g, 0, none⟩) n n] 29)).alloc (.cells #[.int .i8 0, .int .i8 0, .slice none 0 0] 29)).alloc (.cells #[.int .i8 0, .int .i8 0, .int .i8 0, .int .i8 0] 31)) (w.heap.size + 1) #[.int .i8 0, .int .i8 0, .slice none 0 0] 29 := by
    have := (Bx.new (w.alloc (.cells #[.int .i8 X, .int .i8 Y, .slice (some ⟨g, 0, none⟩) n n] 29)) #[.int .i8 0, .int .i8 0, .slice none 0 0] 29).alloc (.cells #[.int .i8 0, .int .i8 0, .int .i8 0, .int .i8 0] 31)
    rwa [World.size_alloc] at this
  have H2 : Bx (((w.alloc (.cells #[.int .i8 X, .int .i8 Y, .slice (some ⟨g, 0, none⟩) n n] 29)).alloc (.cells #[.int .i8 0, .int .i8 0, .slice none 0 0] 29)).alloc (.cells #[.int .i8 0, .int .i8 0, .int .i8 0, .int .i8 0] 31)) (w.heap.size + 2) #[.int .i8 0, .int .i8 0, .int .i8 0, .int .i8 0] 31 := by
    have := Bx.new ((w.alloc (.cells #[.int .i8 X, .int .i8 Y, .slice (some ⟨g, 0, none⟩) n n] 29)).alloc (.cells #[.int .i8 0, .int .i8 0, .slice none 0 0] 29)) #[.int .i8 0, .int .i8 0, .int .i8 0, .int .i8 0] 31
    rwa [World.size_alloc, World.size_alloc] at this
  have B := al (al (al (Below.refl w.heap.size w) (.cells #[.int .i8 X, .int .i8 Y, .slice (some ⟨g, 0, none⟩) n n] 29)) (.cells #[.int .i8 0, .int .i8 0, .slice none 0 0] 29)) (.cells #[.int .i8 0, .int .i8 0, .int .i8 0, .int .i8 0] 31)
  obtain ⟨W0, hW0⟩ : ∃ W0 : World, W0 = (((w.alloc (.cells #[.int .i8 X, .int .i8 Y, .slice (some ⟨g, 0, none⟩) n n] 29)).alloc (.cells #[.int .i8 0, .int .i8 0, .slice none 0 0] 29)).alloc (.cells #[.int .i8 0, .int .i8 0, .int .i8 0, .int .i8 0] 31)) := ⟨_, rfl⟩
  have hs0 : W0.heap.size = w.heap.size + 3 := by rw [hW0]; simp
  rw [← hW0] at HQ H1 H2 B ⊢
  have hs0 := Lib.hid hs0
  clear hW0
  refine (implValid_any X Y g n c _ hX hY HC.out hm (hrow.of_block (B.block _ hrow.lt))).mono ?_
  rintro e wz ⟨hb, ⟨h, rfl⟩ | ⟨h, rfl⟩⟩
  case inl => exact absurd h hv
  replace HQ := HQ.below hb
  replace H1 := H1.below hb
  replace H2 := H2.below hb
  replace B := nxt B hb
  clear hb
  obtain ⟨lq, pq, qq, rq⟩ := id HQ
  obtain ⟨p1, q1, r1⟩ := H1.cells3
  obtain ⟨p2, q2, r2, s2⟩ := H2.cells4
  have f10 := H1.frozen 0
  have f11 := H1.frozen 1
  have f12 := H1.frozen 2
  have f20 := H2.frozen 0
  have f21 := H2.frozen 1
  have f22 := H2.frozen 2
  have f23 := H2.frozen 3
  go_wp2_with fail
  have O3 := World.ownsRow_nil (((((((wz.setCell ⟨w.heap.size + 1, 0, none⟩ (.int .i8 0)).setCell ⟨w.heap.size + 1, 1, none⟩ (.int .i8 0)).setCell ⟨w.heap.size + 1, 2, none⟩ (.slice none 0 0)).setCell ⟨w.heap.size + 1 + 1, 0, none⟩ (.int .i8 0)).setCell ⟨w.heap.size + 1 + 1, 1, none⟩ (.int .i8 0)).setCell ⟨w.heap.size + 1 + 1, 2, none⟩ (.int .i8 0)).setCell ⟨w.heap.size + 1 + 1, 3, none⟩ (.int .i8 0)) w.heap.size 31 4
  have F1 := (H1.set3 (.int .i8 0) (.int .i8 0) (.slice none 0 0)).other4 (g := w.heap.size + 1 + 1) (v0 := .int .i8 0) (v1 := .int .i8 0) (v2 := .int .i8 0) (v3 := .int .i8 0) (by omega)
  have F2 := (H2.other3 (g := w.heap.size + 1) (v0 := .int .i8 0) (v1 := .int .i8 0) (v2 := .slice none 0 0) (by omega)).set4 (.int .i8 0) (.int .i8 0) (.int .i8 0) (.int .i8 0)
  have B3 := below_set4 (g := w.heap.size + 1 + 1) (v0 := .int .i8 0) (v1 := .int .i8 0) (v2 := .int .i8 0) (v3 := .int .i8 0) (below_set3 (g := w.heap.size + 1) (v0 := .int .i8 0) (v1 := .int .i8 0) (v2 := .slice none 0 0) B (by omega)) (by omega)
  obtain ⟨x1, y1, z1⟩ := F1.cells3
  obtain ⟨x2, y2, z2, u2⟩ := F2.cells4
  rw [show w.heap.size + 2 = w.heap.size + 1 + 1 by omega] at x2 y2 z2 u2
  refine bodyPost_ret (v := .tuple #[.agg #[.int .i8 0, .int .i8 0, .slice none 0 0], .agg #[.int .i8 0, .int .i8 0, .int .i8 0, .int .i8 0], .int .i64 1]) (by simp [results, Try.results18, go_sem, x1, y1, z1, x2, y2, z2, u2]) rfl ⟨B3, _, rfl, O3⟩

theorem impl_out (X Y k : Int) (g n : Nat) (c : Nat → Int) (w : World) (hX : -128 ≤ X ∧ X ≤ 127) (hY : -128 ≤ Y ∧ Y ≤ 127) (hc : ∀ j, -128 ≤ c j ∧ c j ≤ 127) (hm : n ≤ 1048576) (hrow : w.rowIs g 31 (4 * n) (fun j => .int .i8 (c j))) (hv : Valid X Y n c) (hk : ¬ (0 ≤ k ∧ k < n)) :
    Calls Try.prog 18 #[.agg #[.int .i8 X, .int .i8 Y, .slice (some ⟨g, 0, none⟩) n n], .int .i64 k] w fun e w' => Below w.heap.size w w' ∧ ∃ v, e = .returned (.tuple #[.agg #[.int .i8 0, .int .i8 0, v], .agg #[.int .i8 0, .int .i8 0, .int .i8 0, .int .i8 0], .int .i64 2]) ∧ w'.ownsRow w.heap.size 31 4 v 0 [] := by
  have HC := Lib.hid hc
  clear hc
  go_enter Try.func18, Try.ntmps18
  go_wp2_with fail
  have HQ := ((Sq.new w X Y (.slice (some ⟨g, 0, none⟩) n n) 29).alloc (.cells #[.int .i8 0, .int .i8 0, .slice none 0 0] 29)).alloc (.cells #[.int .i8 0, .int .i8 0, .int .i8 0, .int .i8 0] 31)
  have H1 : Bx (((w.alloc (.cells #[.int .i8 X, .int .i8 Y, .slice (some ⟨g, 0, none⟩) n n] 29)).alloc (.cells #[.int .i8 0, .int .i8 0, .slice none 0 0] 29)).alloc (.cells #[.int .i8 0, .int .i8 0, .int .i8 0, .int .i8 0] 31)) (w.heap.size + 1) #[.int .i8 0, .int .i8 0, .slice none 0 0] 29 := by
    have := (Bx.new (w.alloc (.cells #[.int .i8 X, .int .i8 Y, .slice (some ⟨g, 0, none⟩) n n] 29)) #[.int .i8 0, .int .i8 0, .slice none 0 0] 29).alloc (.cells #[.int .i8 0, .int .i8 0, .int .i8 0, .int .i8 0] 31)
    rwa [World.size_alloc] at this
  have H2 : Bx (((w.alloc (.cells #[.int .i8 X, .int .i8 Y, .slice (some ⟨g, 0, none⟩) n n] 29)).alloc (.cells #[.int .i8 0, .int .i8 0, .slice none 0 0] 29)).alloc (.cells #[.int .i8 0, .int .i8 0, .int .i8 0, .int .i8 0] 31)) (w.heap.size + 2) #[.int .i8 0, .int .i8 0, .int .i8 0, .int .i8 0] 31 := by
    have := Bx.new ((w.alloc (.cells #[.int .i8 X, .int .i8 Y, .slice (some ⟨g, 0, none⟩) n n] 29)).alloc (.cells #[.int .i8 0, .int .i8 0, .slice none 0 0] 29)) #[.int .i8 0, .int .i8 0, .int .i8 0, .int .i8 0] 31
    rwa [World.size_alloc, World.size_alloc] at this
  have B := al (al (al (Below.refl w.heap.size w) (.cells #[.int .i8 X, .int .i8 Y, .slice (some ⟨g, 0, none⟩) n n] 29)) (.cells #[.int .i8 0, .int .i8 0, .slice none 0 0] 29)) (.cells #[.int .i8 0, .int .i8 0, .int .i8 0, .int .i8 0] 31)
  obtain ⟨W0, hW0⟩ : ∃ W0 : World, W0 = (((w.alloc (.cells #[.int .i8 X, .int .i8 Y, .slice (some ⟨g, 0, none⟩) n n] 29)).alloc (.cells #[.int .i8 0, .int .i8 0, .slice none 0 0] 29)).alloc (.cells #[.int .i8 0, .int .i8 0, .int .i8 0, .int .i8 0] 31)) := ⟨_, rfl⟩
  have hs0 : W0.heap.size = w.heap.size + 3 := by rw [hW0]; simp
  rw [← hW0] at HQ H1 H2 B ⊢
  have hs0 := Lib.hid hs0
  clear hW0
  refine (implValid_any X Y g n c _ hX hY HC.out hm (hrow.of_block (B.block _ hrow.lt))).mono ?_
  rintro e wz ⟨hb, ⟨h, rfl⟩ | ⟨h, rfl⟩⟩
  case inr => exact absurd hv h
  replace HQ := HQ.below hb
  replace H1 := H1.below hb
  replace H2 := H2.below hb
  replace B := nxt B hb
  clear hb
  obtain ⟨lq, pq, qq, rq⟩ := id HQ
  go_wp2_with fail
  refine (hasSlab_any X Y k _ n _ _ hm).mono ?_
  rw [decide_eq_false hk]
  rintro e wz ⟨rfl, hb⟩
  replace HQ := HQ.below hb
  replace H1 := H1.below hb
  replace H2 := H2.below hb
  replace B := nxt B hb
  clear hb lq pq qq rq
  obtain ⟨lq, pq, qq, rq⟩ := id HQ
  obtain ⟨p1, q1, r1⟩ := H1.cells3
  obtain ⟨p2, q2, r2, s2⟩ := H2.cells4
  have f10 := H1.frozen 0
  have f11 := H1.frozen 1
  have f12 := H1.frozen 2
  have f20 := H2.frozen 0
  have f21 := H2.frozen 1
  have f22 := H2.frozen 2
  have f23 := H2.frozen 3
  go_wp2_with fail
  have O3 := World.ownsRow_nil (((((((wz.setCell ⟨w.heap.size + 1, 0, none⟩ (.int .i8 0)).setCell ⟨w.heap.size + 1, 1, none⟩ (.int .i8 0)).setCell ⟨w.heap.size + 1, 2, none⟩ (.slice none 0 0)).setCell ⟨w.heap.size + 1 + 1, 0, none⟩ (.int .i8 0)).setCell ⟨w.heap.size + 1 + 1, 1, none⟩ (.int .i8 0)).setCell ⟨w.heap.size + 1 + 1, 2, none⟩ (.int .i8 0)).setCell ⟨w.heap.size + 1 + 1, 3, none⟩ (.int .i8 0)) w.heap.size 31 4
  have F1 := (H1.set3 (.int .i8 0) (.int .i8 0) (.slice none 0 0)).other4 (g := w.heap.size + 1 + 1) (v0 := .int .i8 0) (v1 := .int .i8 0) (v2 := .int .i8 0) (v3 := .int .i8 0) (by omega)
  have F2 := (H2.other3 (g := w.heap.size + 1) (v0 := .int .i8 0) (v1 := .int .i8 0) (v2 := .slice none 0 0) (by omega)).set4 (.int .i8 0) (.int .i8 0) (.int .i8 0) (.int .i8 0)
  have B3 := below_set4 (g := w.heap.size + 1 + 1) (v0 := .int .i8 0) (v1 := .int .i8 0) (v2 := .int .i8 0) (v3 := .int .i8 0) (below_set3 (g := w.heap.size + 1) (v0 := .int .i8 0) (v1 := .int .i8 0) (v2 := .slice none 0 0) B (by omega)) (by omega)
  obtain ⟨x1, y1, z1⟩ := F1.cells3
  obtain ⟨x2, y2, z2, u2⟩ := F2.cells4
  rw [show w.heap.size + 2 = w.heap.size + 1 + 1 by omega] at x2 y2 z2 u2
  refine bodyPost_ret (v := .tuple #[.agg #[.int .i8 0, .int .i8 0, .slice none 0 0], .agg #[.int .i8 0, .int .i8 0, .int .i8 0, .int .i8 0], .int .i64 2]) (by simp [results, Try.results18, go_sem, x1, y1, z1, x2, y2, z2, u2]) rfl ⟨B3, _, rfl, O3⟩

theorem impl_in (X Y : Int) (k g n : Nat) (c : Nat → Int) (w : World) (hX : -128 ≤ X ∧ X ≤ 127) (hY : -128 ≤ Y ∧ Y ≤ 127) (hc : ∀ j, -128 ≤ c j ∧ c j ≤ 127) (hm : n ≤ 1048576) (hrow : w.rowIs g 31 (4 * n) (fun j => .int .i8 (c j))) (hv : Valid X Y n c) (hk : k < n) :
    Calls Try.prog 18 #[.agg #[.int .i8 X, .int .i8 Y, .slice (some ⟨g, 0, none⟩) n n], .int .i64 (k : Int)] w fun e w' => Below w.heap.size w w' ∧ ∃ v, e = .returned (.tuple #[.agg #[.int .i8 X, .int .i8 Y, v], .agg #[.int .i8 (c (4 * k)), .int .i8 (c (4 * k + 1)), .int .i8 (c (4 * k + 2)), .int .i8 (c (4 * k + 3))], .int .i64 0]) ∧ HasSlice .i8 4 w' w.heap.size v (n - 1) (cutF c k) := by
  have hn60 : n ≤ 60 := hv.2.2.2.2.1
  have HC := Lib.hid hc
  clear hc
  go_enter Try.func18, Try.ntmps18
  go_wp2_with fail
  have HQ := ((Sq.new w X Y (.slice (some ⟨g, 0, none⟩) n n) 29).alloc (.cells #[.int .i8 0, .int .i8 0, .slice none 0 0] 29)).alloc (.cells #[.int .i8 0, .int .i8 0, .int .i8 0, .int .i8 0] 31)
  have H1 : Bx (((w.alloc (.cells #[.int .i8 X, .int .i8 Y, .slice (some ⟨g, 0, none⟩) n n] 29)).alloc (.cells #[.int .i8 0, .int .i8 0, .slice none 0 0] 29)).alloc (.cells #[.int .i8 0, .int .i8 0, .int .i8 0, .int .i8 0] 31)) (w.heap.size + 1) #[.int .i8 0, .int .i8 0, .slice none 0 0] 29 := by
    have := (Bx.new (w.alloc (.cells #[.int .i8 X, .int .i8 Y, .slice (some ⟨g, 0, none⟩) n n] 29)) #[.int .i8 0, .int .i8 0, .slice none 0 0] 29).alloc (.cells #[.int .i8 0, .int .i8 0, .int .i8 0, .int .i8 0] 31)
    rwa [World.size_alloc] at this
  have H2 : Bx (((w.alloc (.cells #[.int .i8 X, .int .i8 Y, .slice (some ⟨g, 0, none⟩) n n] 29)).alloc (.cells #[.int .i8 0, .int .i8 0, .slice none 0 0] 29)).alloc (.cells #[.int .i8 0, .int .i8 0, .int .i8 0, .int .i8 0] 31)) (w.heap.size + 2) #[.int .i8 0, .int .i8 0, .int .i8 0, .int .i8 0] 31 := by
    have := Bx.new ((w.alloc (.cells #[.int .i8 X, .int .i8 Y, .slice (some ⟨g, 0, none⟩) n n] 29)).alloc (.cells #[.int .i8 0, .int .i8 0, .slice none 0 0] 29)) #[.int .i8 0, .int .i8 0, .int .i8 0, .int .i8 0] 31
    rwa [World.size_alloc, World.size_alloc] at this
  have B := al (al (al (Below.refl w.heap.size w) (.cells #[.int .i8 X, .int .i8 Y, .slice (some ⟨g, 0, none⟩) n n] 29)) (.cells #[.int .i8 0, .int .i8 0, .slice none 0 0] 29)) (.cells #[.int .i8 0, .int .i8 0, .int .i8 0, .int .i8 0] 31)
  obtain ⟨W0, hW0⟩ : ∃ W0 : World, W0 = (((w.alloc (.cells #[.int .i8 X, .int .i8 Y, .slice (some ⟨g, 0, none⟩) n n] 29)).alloc (.cells #[.int .i8 0, .int .i8 0, .slice none 0 0] 29)).alloc (.cells #[.int .i8 0, .int .i8 0, .int .i8 0, .int .i8 0] 31)) := ⟨_, rfl⟩
  have hs0 : W0.heap.size = w.heap.size + 3 := by rw [hW0]; simp
  rw [← hW0] at HQ H1 H2 B ⊢
  have hs0 := Lib.hid hs0
  clear hW0
  refine (implValid_any X Y g n c _ hX hY HC.out hm (hrow.of_block (B.block _ hrow.lt))).mono ?_
  rintro e w1 ⟨hb, ⟨h, rfl⟩ | ⟨h, rfl⟩⟩
  case inr => exact absurd hv h
  replace HQ := HQ.below hb
  replace H1 := H1.below hb
  replace H2 := H2.below hb
  replace B := nxt B hb
  clear hb
  obtain ⟨lq, pq, qq, rq⟩ := id HQ
  go_wp2_with fail
  refine (hasSlab_any X Y k _ n _ _ hm).mono ?_
  rw [decide_eq_true (show (0 : Int) ≤ k ∧ (k : Int) < n by omega)]
  rintro e w2 ⟨rfl, hb⟩
  replace HQ := HQ.below hb
  replace H1 := H1.below hb
  replace H2 := H2.below hb
  replace B := nxt B hb
  clear hb lq pq qq rq
  obtain ⟨lq, pq, qq, rq⟩ := id HQ
  have wk : IntKind.i64.wrap (k : Int) = (k : Int) := IntWalk.i64_in _ (by omega)
  have wk1 : IntKind.i64.wrap ((k : Int) + 1) = (k : Int) + 1 := IntWalk.i64_in _ (by omega)
  have hz2 : w.heap.size + 2 < w2.heap.size := H2.lt
  go_wp2_with fail
  refine (clone_any g n n c _ hm (hrow.of_block (B.block _ hrow.lt))).mono ?_
  rintro e w3 ⟨hb, v, rfl, O⟩
  obtain ⟨hlen, ⟨rfl, h0⟩ | ⟨g9, cap9, cur9, rfl, hg9, hcur9, hn9, hm9, hsz9, htk9⟩⟩ := id O
  case inl => exact absurd hk (by omega)
  obtain ⟨A0, g0, cap0, S0⟩ := own_has O (f := c) (fun j hj => rowV_get hj)
  obtain ⟨eA, eg, ec⟩ : A0 = some ⟨g9, 0, none⟩ ∧ g0 = g9 ∧ cap0 = cap9 := by
    have e1 := S0.1
    have e2 := (S0.2.1 (by omega)).1
    simp only [Value.slice.injEq] at e1
    refine ⟨e1.1.symm, ?_, e1.2.2.symm⟩
    rw [← e1.1] at e2
    injection e2 with e2
    injection e2 with e2
    exact e2.symm
  subst eA eg ec
  have hO8 : Own8 w3 g0 0 (4 * n) c := S0.2.2
  have hg3 : g0 < w3.heap.size := (S0.2.1 (by omega)).2.2
  unfold maxLen at hm9
  replace HQ := HQ.below hb
  replace H1 := H1.below hb
  replace H2 := H2.below hb
  replace B := nxt B hb
  clear hb lq pq qq rq S0 O hcur9 htk9 hlen hsz9
  go_wp2_with fail
  refine (delete_any g0 n cap0 k c _ hk hn9 (by omega) hO8).mono ?_
  rintro e w4 ⟨rfl, hgr, hO9⟩
  replace HQ := HQ.grown hgr (by omega)
  replace H1 := H1.of_block (hgr.block _ H1.lt (fun e => by injection e; omega))
  replace H2 := H2.of_block (hgr.block _ H2.lt (fun e => by injection e; omega))
  replace B := below_grown B hgr B.size (by omega)
  have hg4 : g0 < w4.heap.size := Nat.lt_of_lt_of_le hg3 hgr.size
  clear hgr hO8
  have R := hrow.of_block (B.block _ hrow.lt)
  obtain ⟨lq, pq, qq, rq⟩ := id HQ
  obtain ⟨p1, q1, r1⟩ := H1.cells3
  obtain ⟨p2, q2, r2, s2⟩ := H2.cells4
  have f10 := H1.frozen 0
  have f11 := H1.frozen 1
  have f12 := H1.frozen 2
  have f20 := H2.frozen 0
  have f21 := H2.frozen 1
  have f22 := H2.frozen 2
  have f23 := H2.frozen 3
  obtain ⟨c0, c1, c2, c3⟩ := (Own8.of_row (f := c) R).at4 hk |>.1
  simp only [Nat.zero_add] at c0 c1 c2 c3
  have hk0 : (0 : Int) ≤ (k : Int) := by omega
  have hkn : (k : Int) < (n : Int) := by omega
  have HO9 := Lib.hid hO9
  clear hO9
  go_wp2_with fail
  replace B := B.drew
  replace HQ : Sq w4.drew w.heap.size X Y (.slice (some ⟨g, 0, none⟩) n n) := HQ
  replace H1 : Bx w4.drew (w.heap.size + 1) #[.int .i8 0, .int .i8 0, .slice none 0 0] 29 := H1
  replace H2 : Bx w4.drew (w.heap.size + 2) #[.int .i8 0, .int .i8 0, .int .i8 0, .int .i8 0] 31 := H2
  replace R : w4.drew.rowIs g 31 (4 * n) (fun j => .int .i8 (c j)) := R
  have hg5 : g0 < w4.drew.heap.size := hg4
  have HO9 : Hid (Own8 w4.drew g0 0 (4 * (n - 1)) (cutF c k)) := HO9
  clear hg4 lq pq qq rq p1 q1 r1 p2 q2 r2 s2 f10 f11 f12 f20 f21 f22 f23 c0 c1 c2 c3
  obtain ⟨lq, pq, qq, rq⟩ := id HQ
  obtain ⟨p1, q1, r1⟩ := H1.cells3
  obtain ⟨p2, q2, r2, s2⟩ := H2.cells4
  have f10 := H1.frozen 0
  have f11 := H1.frozen 1
  have f12 := H1.frozen 2
  have f20 := H2.frozen 0
  have f21 := H2.frozen 1
  have f22 := H2.frozen 2
  have f23 := H2.frozen 3
  obtain ⟨c0, c1, c2, c3⟩ := (Own8.of_row (f := c) R).at4 hk |>.1
  simp only [Nat.zero_add] at c0 c1 c2 c3
  have hne1 : w.heap.size ≠ w.heap.size + 1 := by omega
  have hne2 : g ≠ w.heap.size + 1 := by have := hrow.lt; omega
  have hne3 : w.heap.size ≠ w.heap.size + 1 + 1 := by omega
  have hne4 : g ≠ w.heap.size + 1 + 1 := by have := hrow.lt; omega
  refine wp_region_held_drew (S := (fun w' => w'.cell? ⟨w.heap.size, 0, none⟩ = some (.int .i8 X) ∧ w'.cell? ⟨w.heap.size, 1, none⟩ = some (.int .i8 Y) ∧ w'.cell? ⟨w.heap.size, 2, none⟩ = some (.slice (some ⟨g, 0, none⟩) n n) ∧ w'.cell? ⟨g, k * 4, none⟩ = some (.int .i8 (c (4 * k))) ∧ w'.cell? ⟨g, k * 4 + 1, none⟩ = some (.int .i8 (c (4 * k + 1))) ∧ w'.cell? ⟨g, k * 4 + 2, none⟩ = some (.int .i8 (c (4 * k + 2))) ∧ w'.cell? ⟨g, k * 4 + 3, none⟩ = some (.int .i8 (c (4 * k + 3))))) (by kernel_rfl) ⟨pq, qq, rq, c0, c1, c2, c3⟩ (fun hHeld => ?_)
  obtain ⟨W5, hW5⟩ : ∃ W5, w4.drew = W5 := ⟨_, rfl⟩
  rw [hW5] at hHeld B HQ H1 H2 R hg5 HO9 lq pq qq rq p1 q1 r1 p2 q2 r2 s2 f10 f11 f12 f20 f21 f22 f23 c0 c1 c2 c3 ⊢
  clear hW5
  refine wpAnyH_take (i := 0) (oi := _) (v := ?_) rfl (by kernel_rfl) (by kernel_rfl) (by kernel_rfl) (fun _ _ _ h => h) (Or.inl ⟨by kernel_rfl, ?_⟩) (by assumption) ?_
  rotate_left
  · intro w hSw; (try dsimp only at hSw); go_simp; first | done | with_reducible rfl
  try simp only [List.getElem_toArray, List.getElem_cons_zero, List.getElem_cons_succ, Act.put, List.setIfInBounds_toArray, List.set_cons_zero, List.set_cons_succ]
  refine wpAnyH_take (i := 1) (oi := _) (v := ?_) rfl (by kernel_rfl) (by kernel_rfl) (by kernel_rfl) (fun _ _ _ h => h) (Or.inl ⟨by kernel_rfl, ?_⟩) (by assumption) ?_
  rotate_left
  · intro w hSw; (try dsimp only at hSw); go_simp; first | done | with_reducible rfl
  try simp only [List.getElem_toArray, List.getElem_cons_zero, List.getElem_cons_succ, Act.put, List.setIfInBounds_toArray, List.set_cons_zero, List.set_cons_succ]
  refine wpAnyH_take (i := 2) (oi := _) (v := ?_) rfl (by kernel_rfl) (by kernel_rfl) (by kernel_rfl) (fun _ _ _ h => h) (Or.inl ⟨by kernel_rfl, ?_⟩) (by assumption) ?_
  rotate_left
  · intro w hSw; (try dsimp only at hSw); go_simp; first | done | with_reducible rfl
  try simp only [List.getElem_toArray, List.getElem_cons_zero, List.getElem_cons_succ, Act.put, List.setIfInBounds_toArray, List.set_cons_zero, List.set_cons_succ]
  refine wpAnyH_take (i := 3) (oi := _) (v := ?_) rfl (by kernel_rfl) (by kernel_rfl) (by kernel_rfl) (fun _ _ _ h => h) (Or.inl ⟨by kernel_rfl, ?_⟩) (by assumption) ?_
  rotate_left
  · intro w hSw; (try dsimp only at hSw); go_simp; first | done | with_reducible rfl
  try simp only [List.getElem_toArray, List.getElem_cons_zero, List.getElem_cons_succ, Act.put, List.setIfInBounds_toArray, List.set_cons_zero, List.set_cons_succ]
  refine wpAnyH_take (i := 4) (oi := _) (v := ?_) rfl (by kernel_rfl) (by kernel_rfl) (by kernel_rfl) (fun _ _ _ h => h) (Or.inl ⟨by kernel_rfl, ?_⟩) (by assumption) ?_
  rotate_left
  · intro w hSw; (try dsimp only at hSw); go_simp; first | done | with_reducible rfl
  try simp only [List.getElem_toArray, List.getElem_cons_zero, List.getElem_cons_succ, Act.put, List.setIfInBounds_toArray, List.set_cons_zero, List.set_cons_succ]
  refine wpAnyH_take (i := 5) (oi := _) (v := ?_) rfl (by kernel_rfl) (by kernel_rfl) (by kernel_rfl) (fun _ _ _ h => h) (Or.inl ⟨by kernel_rfl, ?_⟩) (by assumption) ?_
  rotate_left
  · intro w hSw; (try dsimp only at hSw); go_simp; first | done | with_reducible rfl
  try simp only [List.getElem_toArray, List.getElem_cons_zero, List.getElem_cons_succ, Act.put, List.setIfInBounds_toArray, List.set_cons_zero, List.set_cons_succ]
  refine wpAnyH_take (i := 6) (oi := _) (v := ?_) rfl (by kernel_rfl) (by kernel_rfl) (by kernel_rfl) (fun _ _ _ h => h) (Or.inl ⟨by kernel_rfl, ?_⟩) (by assumption) ?_
  rotate_left
  · intro w hSw; (try dsimp only at hSw); go_simp; first | done | with_reducible rfl
  try simp only [List.getElem_toArray, List.getElem_cons_zero, List.getElem_cons_succ, Act.put, List.setIfInBounds_toArray, List.set_cons_zero, List.set_cons_succ]
  refine wpAnyH_take (i := 7) (oi := _) (v := ?_) rfl (by kernel_rfl) (by kernel_rfl) (by kernel_rfl) (fun _ _ _ h => h) (Or.inl ⟨by kernel_rfl, ?_⟩) (by assumption) ?_
  rotate_left
  · intro w hSw; (try dsimp only at hSw); go_simp; first | done | with_reducible rfl
  try simp only [List.getElem_toArray, List.getElem_cons_zero, List.getElem_cons_succ, Act.put, List.setIfInBounds_toArray, List.set_cons_zero, List.set_cons_succ]
  refine wpAnyH_take (i := 8) (oi := _) (v := ?_) rfl (by kernel_rfl) (by kernel_rfl) (by kernel_rfl) (fun _ _ _ h => h) (Or.inl ⟨by kernel_rfl, ?_⟩) (by assumption) ?_
  rotate_left
  · intro w hSw; (try dsimp only at hSw); go_simp; first | done | with_reducible rfl
  try simp only [List.getElem_toArray, List.getElem_cons_zero, List.getElem_cons_succ, Act.put, List.setIfInBounds_toArray, List.set_cons_zero, List.set_cons_succ]
  refine wpAnyH_take (i := 9) (oi := _) (v := ?_) rfl (by kernel_rfl) (by kernel_rfl) (by kernel_rfl) (fun _ _ _ h => h) (Or.inl ⟨by kernel_rfl, ?_⟩) (by assumption) ?_
  rotate_left
  · intro w hSw; (try dsimp only at hSw); go_simp; first | done | with_reducible rfl
  try simp only [List.getElem_toArray, List.getElem_cons_zero, List.getElem_cons_succ, Act.put, List.setIfInBounds_toArray, List.set_cons_zero, List.set_cons_succ]
  refine wpAnyH_take (i := 10) (oi := _) (v := ?_) rfl (by kernel_rfl) (by kernel_rfl) (by kernel_rfl) (fun _ _ _ h => h) (Or.inl ⟨by kernel_rfl, ?_⟩) (by assumption) ?_
  rotate_left
  · intro w hSw; (try dsimp only at hSw); go_simp; first | done | with_reducible rfl
  try simp only [List.getElem_toArray, List.getElem_cons_zero, List.getElem_cons_succ, Act.put, List.setIfInBounds_toArray, List.set_cons_zero, List.set_cons_succ]
  refine wpAnyH_ready (rs := [11]) (by kernel_rfl) (by simp) ?_
  refine AllReadyH.cons (o := _) rfl (fun K hK => ?_) AllReadyH.nil
  go_simp
  refine hK.out _ _ (keep7 ⟨pq, qq, rq, c0, c1, c2, c3⟩ (blk3 hne1) (blk3 hne2)) (fun hHeld => ?_)
  clear hK K
  try simp only [List.getElem_toArray, List.getElem_cons_zero, List.getElem_cons_succ, Act.put, List.setIfInBounds_toArray, List.set_cons_zero, List.set_cons_succ]
  refine wpAnyH_ready (rs := [12]) (by kernel_rfl) (by simp) ?_
  refine AllReadyH.cons (o := _) rfl (fun K hK => ?_) AllReadyH.nil
  go_simp
  refine hK.out _ _ (keep7 ⟨pq, qq, rq, c0, c1, c2, c3⟩ ((blk4 hne3).trans (blk3 hne1)) ((blk4 hne4).trans (blk3 hne2))) (fun hHeld => ?_)
  clear hK K
  try simp only [List.getElem_toArray, List.getElem_cons_zero, List.getElem_cons_succ, Act.put, List.setIfInBounds_toArray, List.set_cons_zero, List.set_cons_succ]
  refine wpAnyH_take (i := 13) (oi := _) (v := ?_) rfl (by kernel_rfl) (by kernel_rfl) (by kernel_rfl) (fun _ _ _ h => h) (Or.inl ⟨by kernel_rfl, ?_⟩) (by assumption) ?_
  rotate_left
  · intro w hSw; (try dsimp only at hSw); go_simp; first | done | with_reducible rfl
  try simp only [List.getElem_toArray, List.getElem_cons_zero, List.getElem_cons_succ, Act.put, List.setIfInBounds_toArray, List.set_cons_zero, List.set_cons_succ]
  refine wpAnyH_done (by kernel_rfl) ?_ _
  clear hHeld
  go_wp2_with fail
  have eb : (((((((W5.setCell ⟨w.heap.size + 1, 0, none⟩ (.int .i8 X)).setCell ⟨w.heap.size + 1, 1, none⟩ (.int .i8 Y)).setCell ⟨w.heap.size + 1, 2, none⟩ (.slice (some ⟨g0, 0, none⟩) (n - 1) cap0)).setCell ⟨w.heap.size + 1 + 1, 0, none⟩ (.int .i8 (c (4 * k)))).setCell ⟨w.heap.size + 1 + 1, 1, none⟩ (.int .i8 (c (4 * k + 1)))).setCell ⟨w.heap.size + 1 + 1, 2, none⟩ (.int .i8 (c (4 * k + 2)))).setCell ⟨w.heap.size + 1 + 1, 3, none⟩ (.int .i8 (c (4 * k + 3)))).heap[g0]? = W5.heap[g0]? := (blk4 (by omega)).trans (blk3 (by omega))
  have O3 : HasSlice .i8 4 (((((((W5.setCell ⟨w.heap.size + 1, 0, none⟩ (.int .i8 X)).setCell ⟨w.heap.size + 1, 1, none⟩ (.int .i8 Y)).setCell ⟨w.heap.size + 1, 2, none⟩ (.slice (some ⟨g0, 0, none⟩) (n - 1) cap0)).setCell ⟨w.heap.size + 1 + 1, 0, none⟩ (.int .i8 (c (4 * k)))).setCell ⟨w.heap.size + 1 + 1, 1, none⟩ (.int .i8 (c (4 * k + 1)))).setCell ⟨w.heap.size + 1 + 1, 2, none⟩ (.int .i8 (c (4 * k + 2)))).setCell ⟨w.heap.size + 1 + 1, 3, none⟩ (.int .i8 (c (4 * k + 3)))) w.heap.size (.slice (some ⟨g0, 0, none⟩) (n - 1) cap0) (n - 1) (cutF c k) :=
    ⟨some ⟨g0, 0, none⟩, g0, cap0, rfl, fun _ => ⟨rfl, by omega, by simp; exact hg5⟩, OwnK.of_block (kd := .i8) HO9.out eb⟩
  have F1 := (H1.set3 (.int .i8 X) (.int .i8 Y) (.slice (some ⟨g0, 0, none⟩) (n - 1) cap0)).other4 (g := w.heap.size + 1 + 1) (v0 := .int .i8 (c (4 * k))) (v1 := .int .i8 (c (4 * k + 1))) (v2 := .int .i8 (c (4 * k + 2))) (v3 := .int .i8 (c (4 * k + 3))) (by omega)
  have F2 := (H2.other3 (g := w.heap.size + 1) (v0 := .int .i8 X) (v1 := .int .i8 Y) (v2 := .slice (some ⟨g0, 0, none⟩) (n - 1) cap0) (by omega)).set4 (.int .i8 (c (4 * k))) (.int .i8 (c (4 * k + 1))) (.int .i8 (c (4 * k + 2))) (.int .i8 (c (4 * k + 3)))
  have B3 := below_set4 (g := w.heap.size + 1 + 1) (v0 := .int .i8 (c (4 * k))) (v1 := .int .i8 (c (4 * k + 1))) (v2 := .int .i8 (c (4 * k + 2))) (v3 := .int .i8 (c (4 * k + 3))) (below_set3 (g := w.heap.size + 1) (v0 := .int .i8 X) (v1 := .int .i8 Y) (v2 := .slice (some ⟨g0, 0, none⟩) (n - 1) cap0) B (by omega)) (by omega)
  obtain ⟨x1, y1, z1⟩ := F1.cells3
  obtain ⟨x2, y2, z2, u2⟩ := F2.cells4
  rw [show w.heap.size + 2 = w.heap.size + 1 + 1 by omega] at x2 y2 z2 u2
  refine bodyPost_ret (v := .tuple #[.agg #[.int .i8 X, .int .i8 Y, .slice (some ⟨g0, 0, none⟩) (n - 1) cap0], .agg #[.int .i8 (c (4 * k)), .int .i8 (c (4 * k + 1)), .int .i8 (c (4 * k + 2)), .int .i8 (c (4 * k + 3))], .int .i64 0]) (by simp [results, Try.results18, go_sem, x1, y1, z1, x2, y2, z2, u2]) rfl ⟨B3, _, rfl, O3⟩

theorem both (X Y : Int) (n : Nat) (c : Nat → Int) (k : Int) (hX : -128 ≤ X ∧ X ≤ 127) (hY : -128 ≤ Y ∧ Y ≤ 127) (hc : ∀ j, -128 ≤ c j ∧ c j ≤ 127) (hk : (Lit.int .i64 k).wf = true) (hm : n ≤ 1048576) :
    ∃ (rx ry a0 a1 a2 a3 r2 : Int) (nn : Nat) (ff : Nat → Int), nn ≤ 1000 ∧
      (∀ (W : World) (g : Nat), W.rowIs g 31 (4 * n) (fun j => .int .i8 (c j)) → Calls Try.prog 16 #[.agg #[.int .i8 X, .int .i8 Y, .slice (some ⟨g, 0, none⟩) n n], .int .i64 k] W fun e w' => Below W.heap.size W w' ∧ ∃ v, e = .returned (.tuple #[.agg #[.int .i8 rx, .int .i8 ry, v], .agg #[.int .i8 a0, .int .i8 a1, .int .i8 a2, .int .i8 a3], .int .i64 r2]) ∧ HasSlice .i8 4 w' W.heap.size v nn ff) ∧
      (∀ (W : World) (g : Nat), W.rowIs g 31 (4 * n) (fun j => .int .i8 (c j)) → Calls Try.prog 18 #[.agg #[.int .i8 X, .int .i8 Y, .slice (some ⟨g, 0, none⟩) n n], .int .i64 k] W fun e w' => Below W.heap.size W w' ∧ ∃ v, e = .returned (.tuple #[.agg #[.int .i8 rx, .int .i8 ry, v], .agg #[.int .i8 a0, .int .i8 a1, .int .i8 a2, .int .i8 a3], .int .i64 r2]) ∧ HasSlice .i8 4 w' W.heap.size v nn ff) := by
  by_cases hv : Valid X Y n c
  · by_cases hkk : 0 ≤ k ∧ k < (n : Int)
    · obtain ⟨k, rfl⟩ := Int.eq_ofNat_of_zero_le hkk.1
      have hkn : k < n := by have := hkk.2; omega
      have hN : liftN k n = n - 1 := by unfold liftN; rw [if_neg (by omega)]
      refine ⟨X, Y, c (4 * k), c (4 * k + 1), c (4 * k + 2), c (4 * k + 3), 0, n - 1, cutF c k, by have := hv.2.2.2.2.1; omega, fun W g R => (spec_in X Y k g n c W hX hY hc hm R hv hkn).mono ?_, fun W g R => (impl_in X Y k g n c W hX hY hc hm R hv hkn).mono ?_⟩
      · rintro e w' ⟨hb, v, rfl, O⟩
        rw [hN] at O
        refine ⟨hb, v, rfl, own_has O fun j hj => ?_⟩
        exact liftV_get c k n j (by rw [hN]; omega)
      · rintro e w' ⟨hb, v, rfl, O⟩; exact ⟨hb, v, rfl, O⟩
    · refine ⟨0, 0, 0, 0, 0, 0, 2, 0, fun _ => 0, by omega, fun W g R => (spec_out X Y k g n c W hX hY hc hm R hv hkk).mono ?_, fun W g R => (impl_out X Y k g n c W hX hY hc hm R hv hkk).mono ?_⟩
      · rintro e w' ⟨hb, v, rfl, O⟩; exact ⟨hb, v, rfl, own_has O fun j hj => absurd hj (by omega)⟩
      · rintro e w' ⟨hb, v, rfl, O⟩; exact ⟨hb, v, rfl, own_has O fun j hj => absurd hj (by omega)⟩
  · refine ⟨0, 0, 0, 0, 0, 0, 1, 0, fun _ => 0, by omega, fun W g R => (spec_bad X Y k g n c W hX hY hc hm R hv).mono ?_, fun W g R => (impl_bad X Y k g n c W hX hY hc hm R hv).mono ?_⟩
    · rintro e w' ⟨hb, v, rfl, O⟩; exact ⟨hb, v, rfl, own_has O fun j hj => absurd hj (by omega)⟩
    · rintro e w' ⟨hb, v, rfl, O⟩; exact ⟨hb, v, rfl, own_has O fun j hj => absurd hj (by omega)⟩
end Go.Proofs.Yteebkookoidheaa.liftSlab
