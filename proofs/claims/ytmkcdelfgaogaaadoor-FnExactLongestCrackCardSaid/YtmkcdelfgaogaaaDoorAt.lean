/-
  Contracts of impl.isSide, impl.liesWithin and (*grid).at. Conditions stand at each.
-/
import Derived.Test.YtmkcdelfgaogaaaDoorRows
import Derived.Test.YtmkcdelfgaogaaaDoorLies
namespace Go.Proofs.YtmkcdelfgaogaaaDoor
open Go Go.ChangeShapes Go.WideShapes Go.ChangeAt Go.RowKit
set_option linter.unusedVariables false
set_option linter.unusedSimpArgs false
set_option maxRecDepth 100000
set_option maxHeartbeats 2000000

theorem side_yes (x : Int) (w : World) (h1 : 1 ≤ x) (h2 : x ≤ 12) : Calls Tryd.prog 71 #[.int .i64 x] w fun e w' => e = .returned (.bool true) ∧ w = w' := by
  go_enter Tryd.func71, Tryd.ntmps71
  go_wp2
  go_ret
  exact ⟨rfl, rfl⟩
theorem side_low (x : Int) (w : World) (h1 : x < 1) : Calls Tryd.prog 71 #[.int .i64 x] w fun e w' => e = .returned (.bool false) ∧ w = w' := by
  go_enter Tryd.func71, Tryd.ntmps71
  go_wp2
  go_ret
  exact ⟨rfl, rfl⟩
theorem side_high (x : Int) (w : World) (h1 : 12 < x) : Calls Tryd.prog 71 #[.int .i64 x] w fun e w' => e = .returned (.bool false) ∧ w = w' := by
  have d1 : decide (x ≤ 12) = false := by simp; omega
  have d0 : decide (1 ≤ x) = true := by simp; omega
  go_enter Tryd.func71, Tryd.ntmps71
  go_wp2
  go_ret
  exact ⟨rfl, rfl⟩
theorem side_no (x : Int) (w : World) (h : ¬ (1 ≤ x ∧ x ≤ 12)) : Calls Tryd.prog 71 #[.int .i64 x] w fun e w' => e = .returned (.bool false) ∧ w = w' := by
  by_cases h1 : x < 1
  · exact side_low x w h1
  · exact side_high x w (by omega)

theorem lw_yes (X Y x y z u : Int) (w : World) (hX : -128 ≤ X ∧ X ≤ 127) (hY : -128 ≤ Y ∧ Y ≤ 127) (bx : -128 ≤ x ∧ x ≤ 127) (by_ : -128 ≤ y ∧ y ≤ 127) (bz : -128 ≤ z ∧ z ≤ 127) (bu : -128 ≤ u ∧ u ≤ 127) (h : 0 ≤ x ∧ 0 ≤ y ∧ 1 ≤ z ∧ 1 ≤ u ∧ x + z ≤ X ∧ y + u ≤ Y) :
    Calls Tryd.prog 72 #[.int .i8 X, .int .i8 Y, .agg #[.int .i8 x, .int .i8 y, .int .i8 z, .int .i8 u]] w fun e w' => e = .returned (.bool true) ∧ Below w.heap.size w w' := by
  obtain ⟨h0, h1, h2, h3, h4, h5⟩ := h
  have d0 : decide (0 ≤ x) = true := by simp; omega
  have d1 : decide (0 ≤ y) = true := by simp; omega
  have d2 : decide (1 ≤ z) = true := by simp; omega
  have d3 : decide (1 ≤ u) = true := by simp; omega
  have d4 : decide (x + z ≤ X) = true := by simp; omega
  have d5 : decide (y + u ≤ Y) = true := by simp; omega
  go_enter Tryd.func72, Tryd.ntmps72
  go_wp2
  go_ret
  refine ⟨rfl, ?_⟩
  (repeat (first | exact Below.refl _ _ | apply Below.drew | refine below_drewN' ?_ _ | refine Below.setCell ?_ (by first | (simp; done) | (simp; omega)) _ | refine Below.alloc ?_ (by first | (simp; done) | (simp; omega)) _))
theorem lw_no0 (X Y x y z u : Int) (w : World) (hX : -128 ≤ X ∧ X ≤ 127) (hY : -128 ≤ Y ∧ Y ≤ 127) (bx : -128 ≤ x ∧ x ≤ 127) (by_ : -128 ≤ y ∧ y ≤ 127) (bz : -128 ≤ z ∧ z ≤ 127) (bu : -128 ≤ u ∧ u ≤ 127)  (h : x < 0) :
    Calls Tryd.prog 72 #[.int .i8 X, .int .i8 Y, .agg #[.int .i8 x, .int .i8 y, .int .i8 z, .int .i8 u]] w fun e w' => e = .returned (.bool false) ∧ Below w.heap.size w w' := by
  have d0 : decide (0 ≤ x) = false := by simp; omega
  go_enter Tryd.func72, Tryd.ntmps72
  go_wp2
  go_ret
  refine ⟨rfl, ?_⟩
  (repeat (first | exact Below.refl _ _ | apply Below.drew | refine below_drewN' ?_ _ | refine Below.setCell ?_ (by first | (simp; done) | (simp; omega)) _ | refine Below.alloc ?_ (by first | (simp; done) | (simp; omega)) _))
theorem lw_no1 (X Y x y z u : Int) (w : World) (hX : -128 ≤ X ∧ X ≤ 127) (hY : -128 ≤ Y ∧ Y ≤ 127) (bx : -128 ≤ x ∧ x ≤ 127) (by_ : -128 ≤ y ∧ y ≤ 127) (bz : -128 ≤ z ∧ z ≤ 127) (bu : -128 ≤ u ∧ u ≤ 127) (h0 : 0 ≤ x) (h : y < 0) :
    Calls Tryd.prog 72 #[.int .i8 X, .int .i8 Y, .agg #[.int .i8 x, .int .i8 y, .int .i8 z, .int .i8 u]] w fun e w' => e = .returned (.bool false) ∧ Below w.heap.size w w' := by
  have d0 : decide (0 ≤ x) = true := by simp; omega
  have d1 : decide (0 ≤ y) = false := by simp; omega
  go_enter Tryd.func72, Tryd.ntmps72
  go_wp2
  go_ret
  refine ⟨rfl, ?_⟩
  (repeat (first | exact Below.refl _ _ | apply Below.drew | refine below_drewN' ?_ _ | refine Below.setCell ?_ (by first | (simp; done) | (simp; omega)) _ | refine Below.alloc ?_ (by first | (simp; done) | (simp; omega)) _))
theorem lw_no2 (X Y x y z u : Int) (w : World) (hX : -128 ≤ X ∧ X ≤ 127) (hY : -128 ≤ Y ∧ Y ≤ 127) (bx : -128 ≤ x ∧ x ≤ 127) (by_ : -128 ≤ y ∧ y ≤ 127) (bz : -128 ≤ z ∧ z ≤ 127) (bu : -128 ≤ u ∧ u ≤ 127) (h0 : 0 ≤ x) (h1 : 0 ≤ y) (h : z < 1) :
    Calls Tryd.prog 72 #[.int .i8 X, .int .i8 Y, .agg #[.int .i8 x, .int .i8 y, .int .i8 z, .int .i8 u]] w fun e w' => e = .returned (.bool false) ∧ Below w.heap.size w w' := by
  have d0 : decide (0 ≤ x) = true := by simp; omega
  have d1 : decide (0 ≤ y) = true := by simp; omega
  have d2 : decide (1 ≤ z) = false := by simp; omega
  go_enter Tryd.func72, Tryd.ntmps72
  go_wp2
  go_ret
  refine ⟨rfl, ?_⟩
  (repeat (first | exact Below.refl _ _ | apply Below.drew | refine below_drewN' ?_ _ | refine Below.setCell ?_ (by first | (simp; done) | (simp; omega)) _ | refine Below.alloc ?_ (by first | (simp; done) | (simp; omega)) _))
theorem lw_no3 (X Y x y z u : Int) (w : World) (hX : -128 ≤ X ∧ X ≤ 127) (hY : -128 ≤ Y ∧ Y ≤ 127) (bx : -128 ≤ x ∧ x ≤ 127) (by_ : -128 ≤ y ∧ y ≤ 127) (bz : -128 ≤ z ∧ z ≤ 127) (bu : -128 ≤ u ∧ u ≤ 127) (h0 : 0 ≤ x) (h1 : 0 ≤ y) (h2 : 1 ≤ z) (h : u < 1) :
    Calls Tryd.prog 72 #[.int .i8 X, .int .i8 Y, .agg #[.int .i8 x, .int .i8 y, .int .i8 z, .int .i8 u]] w fun e w' => e = .returned (.bool false) ∧ Below w.heap.size w w' := by
  have d0 : decide (0 ≤ x) = true := by simp; omega
  have d1 : decide (0 ≤ y) = true := by simp; omega
  have d2 : decide (1 ≤ z) = true := by simp; omega
  have d3 : decide (1 ≤ u) = false := by simp; omega
  go_enter Tryd.func72, Tryd.ntmps72
  go_wp2
  go_ret
  refine ⟨rfl, ?_⟩
  (repeat (first | exact Below.refl _ _ | apply Below.drew | refine below_drewN' ?_ _ | refine Below.setCell ?_ (by first | (simp; done) | (simp; omega)) _ | refine Below.alloc ?_ (by first | (simp; done) | (simp; omega)) _))
theorem lw_no4 (X Y x y z u : Int) (w : World) (hX : -128 ≤ X ∧ X ≤ 127) (hY : -128 ≤ Y ∧ Y ≤ 127) (bx : -128 ≤ x ∧ x ≤ 127) (by_ : -128 ≤ y ∧ y ≤ 127) (bz : -128 ≤ z ∧ z ≤ 127) (bu : -128 ≤ u ∧ u ≤ 127) (h0 : 0 ≤ x) (h1 : 0 ≤ y) (h2 : 1 ≤ z) (h3 : 1 ≤ u) (h : X < x + z) :
    Calls Tryd.prog 72 #[.int .i8 X, .int .i8 Y, .agg #[.int .i8 x, .int .i8 y, .int .i8 z, .int .i8 u]] w fun e w' => e = .returned (.bool false) ∧ Below w.heap.size w w' := by
  have d0 : decide (0 ≤ x) = true := by simp; omega
  have d1 : decide (0 ≤ y) = true := by simp; omega
  have d2 : decide (1 ≤ z) = true := by simp; omega
  have d3 : decide (1 ≤ u) = true := by simp; omega
  have d4 : decide (x + z ≤ X) = false := by simp; omega
  go_enter Tryd.func72, Tryd.ntmps72
  go_wp2
  go_ret
  refine ⟨rfl, ?_⟩
  (repeat (first | exact Below.refl _ _ | apply Below.drew | refine below_drewN' ?_ _ | refine Below.setCell ?_ (by first | (simp; done) | (simp; omega)) _ | refine Below.alloc ?_ (by first | (simp; done) | (simp; omega)) _))
theorem lw_no5 (X Y x y z u : Int) (w : World) (hX : -128 ≤ X ∧ X ≤ 127) (hY : -128 ≤ Y ∧ Y ≤ 127) (bx : -128 ≤ x ∧ x ≤ 127) (by_ : -128 ≤ y ∧ y ≤ 127) (bz : -128 ≤ z ∧ z ≤ 127) (bu : -128 ≤ u ∧ u ≤ 127) (h0 : 0 ≤ x) (h1 : 0 ≤ y) (h2 : 1 ≤ z) (h3 : 1 ≤ u) (h4 : x + z ≤ X) (h : Y < y + u) :
    Calls Tryd.prog 72 #[.int .i8 X, .int .i8 Y, .agg #[.int .i8 x, .int .i8 y, .int .i8 z, .int .i8 u]] w fun e w' => e = .returned (.bool false) ∧ Below w.heap.size w w' := by
  have d0 : decide (0 ≤ x) = true := by simp; omega
  have d1 : decide (0 ≤ y) = true := by simp; omega
  have d2 : decide (1 ≤ z) = true := by simp; omega
  have d3 : decide (1 ≤ u) = true := by simp; omega
  have d4 : decide (x + z ≤ X) = true := by simp; omega
  have d5 : decide (y + u ≤ Y) = false := by simp; omega
  go_enter Tryd.func72, Tryd.ntmps72
  go_wp2
  go_ret
  refine ⟨rfl, ?_⟩
  (repeat (first | exact Below.refl _ _ | apply Below.drew | refine below_drewN' ?_ _ | refine Below.setCell ?_ (by first | (simp; done) | (simp; omega)) _ | refine Below.alloc ?_ (by first | (simp; done) | (simp; omega)) _))
theorem lw_no (X Y x y z u : Int) (w : World) (hX : -128 ≤ X ∧ X ≤ 127) (hY : -128 ≤ Y ∧ Y ≤ 127) (bx : -128 ≤ x ∧ x ≤ 127) (by_ : -128 ≤ y ∧ y ≤ 127) (bz : -128 ≤ z ∧ z ≤ 127) (bu : -128 ≤ u ∧ u ≤ 127) (h : ¬ (0 ≤ x ∧ 0 ≤ y ∧ 1 ≤ z ∧ 1 ≤ u ∧ x + z ≤ X ∧ y + u ≤ Y)) :
    Calls Tryd.prog 72 #[.int .i8 X, .int .i8 Y, .agg #[.int .i8 x, .int .i8 y, .int .i8 z, .int .i8 u]] w fun e w' => e = .returned (.bool false) ∧ Below w.heap.size w w' := by
  by_cases g0 : x < 0
  · exact lw_no0 X Y x y z u w hX hY bx by_ bz bu  g0
  by_cases g1 : y < 0
  · exact lw_no1 X Y x y z u w hX hY bx by_ bz bu (by omega) g1
  by_cases g2 : z < 1
  · exact lw_no2 X Y x y z u w hX hY bx by_ bz bu (by omega) (by omega) g2
  by_cases g3 : u < 1
  · exact lw_no3 X Y x y z u w hX hY bx by_ bz bu (by omega) (by omega) (by omega) g3
  by_cases g4 : X < x + z
  · exact lw_no4 X Y x y z u w hX hY bx by_ bz bu (by omega) (by omega) (by omega) (by omega) g4
  exact lw_no5 X Y x y z u w hX hY bx by_ bz bu (by omega) (by omega) (by omega) (by omega) (by omega) (by omega)

theorem at_in (b x y : Nat) (G : Nat → Int) (w : World) (hx : x < 12) (hy : y < 12) (hG : w.rowIs b 129 144 (fun p => .int .i8 (G p))) :
    Calls Tryd.prog 79 #[.pointer (some ⟨b, 0, none⟩), .agg #[.int .i8 (x : Int), .int .i8 (y : Int)]] w fun e w' => e = .returned (.int .i8 (G (y * 12 + x))) ∧ Below w.heap.size w w' := by
  have hx' : (x : Int) < 12 := by omega
  have hy' : (y : Int) < 12 := by omega
  have d0 : decide ((12 : Int) ≤ (x : Int)) = false := by simp; omega
  have d1 : decide ((12 : Int) ≤ (y : Int)) = false := by simp; omega
  have hc := hG.cell (i := y * 12 + x) (by omega)
  have hl := hG.lt
  go_enter Tryd.func79, Tryd.ntmps79
  go_wp2_with fail
  go_quiet (fail)
  go_wp2
  go_ret
  refine ⟨rfl, ?_⟩
  (repeat (first | exact Below.refl _ _ | apply Below.drew | refine below_drewN' ?_ _ | refine Below.setCell ?_ (by first | (simp; done) | (simp; omega)) _ | refine Below.alloc ?_ (by first | (simp; done) | (simp; omega)) _))
end Go.Proofs.YtmkcdelfgaogaaaDoor
