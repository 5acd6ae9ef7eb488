/-
  Contracts of spec.l01Lies, spec.l01Before and impl.liesWithin. Conditions stand at each.
-/
import Derived.Test.YtmkcdelfgaogaaaDoorRows
import Derived.Test.YtmkcdelfgaogaaaDoorMark
import Derived.Deep.QuietTactic
import Derived.BigQuiet
namespace Go.Proofs.YtmkcdelfgaogaaaDoor
open Go Go.ChangeShapes Go.WideShapes Go.ChangeAt Go.RowKit
set_option linter.unusedVariables false
set_option maxRecDepth 100000
set_option maxHeartbeats 2000000

theorem below_drewN' {B : Nat} {a w : World} (h : Below B a w) (n : Nat) : Below B a (w.drewN n) := ⟨h.os, h.tape, h.output, h.size, h.block⟩
theorem lies_yes (X Y x y z u : Int) (bq : Nat) (v : Value) (w : World) (hX : -128 ≤ X ∧ X ≤ 127) (hY : -128 ≤ Y ∧ Y ≤ 127) (bx : -128 ≤ x ∧ x ≤ 127) (by_ : -128 ≤ y ∧ y ≤ 127) (bz : -128 ≤ z ∧ z ≤ 127) (bu : -128 ≤ u ∧ u ≤ 127) (hq : Sq w bq X Y v) (h : 0 ≤ x ∧ 0 ≤ y ∧ 1 ≤ z ∧ 1 ≤ u ∧ x + z ≤ X ∧ y + u ≤ Y) :
    Calls Tryd.prog 69 #[.pointer (some ⟨bq, 0, none⟩), .agg #[.int .i8 x, .int .i8 y, .int .i8 z, .int .i8 u]] w fun e w' => e = .returned (.bool true) ∧ Below w.heap.size w w' := by
  obtain ⟨lq, pq, qq, rq⟩ := hq
  obtain ⟨h1, h2, h3, h4, h5, h6⟩ := h
  have d5 : decide (x + z ≤ X) = true := by simpa using h5
  have d6 : decide (y + u ≤ Y) = true := by simpa using h6
  go_enter Tryd.func69, Tryd.ntmps69
  go_wp2_with fail
  go_quiet (fail)
  go_wp2
  go_ret
  refine ⟨rfl, ?_⟩
  (repeat (first | exact Below.refl _ _ | apply Below.drew | refine below_drewN' ?_ _ | refine Below.setCell ?_ (by first | (simp; done) | (simp; omega)) _ | refine Below.alloc ?_ (by first | (simp; done) | (simp; omega)) _))
theorem lies_no1 (X Y x y z u : Int) (bq : Nat) (v : Value) (w : World) (hX : -128 ≤ X ∧ X ≤ 127) (hY : -128 ≤ Y ∧ Y ≤ 127) (bx : -128 ≤ x ∧ x ≤ 127) (by_ : -128 ≤ y ∧ y ≤ 127) (bz : -128 ≤ z ∧ z ≤ 127) (bu : -128 ≤ u ∧ u ≤ 127) (hq : Sq w bq X Y v) (h : x < 0) :
    Calls Tryd.prog 69 #[.pointer (some ⟨bq, 0, none⟩), .agg #[.int .i8 x, .int .i8 y, .int .i8 z, .int .i8 u]] w fun e w' => e = .returned (.bool false) ∧ Below w.heap.size w w' := by
  obtain ⟨lq, pq, qq, rq⟩ := hq
  go_enter Tryd.func69, Tryd.ntmps69
  go_wp2
  go_ret
  refine ⟨rfl, ?_⟩
  (repeat (first | exact Below.refl _ _ | apply Below.drew | refine below_drewN' ?_ _ | refine Below.setCell ?_ (by first | (simp; done) | (simp; omega)) _ | refine Below.alloc ?_ (by first | (simp; done) | (simp; omega)) _))
theorem lies_no2 (X Y x y z u : Int) (bq : Nat) (v : Value) (w : World) (hX : -128 ≤ X ∧ X ≤ 127) (hY : -128 ≤ Y ∧ Y ≤ 127) (bx : -128 ≤ x ∧ x ≤ 127) (by_ : -128 ≤ y ∧ y ≤ 127) (bz : -128 ≤ z ∧ z ≤ 127) (bu : -128 ≤ u ∧ u ≤ 127) (hq : Sq w bq X Y v) (h0 : 0 ≤ x) (h : y < 0) :
    Calls Tryd.prog 69 #[.pointer (some ⟨bq, 0, none⟩), .agg #[.int .i8 x, .int .i8 y, .int .i8 z, .int .i8 u]] w fun e w' => e = .returned (.bool false) ∧ Below w.heap.size w w' := by
  obtain ⟨lq, pq, qq, rq⟩ := hq
  go_enter Tryd.func69, Tryd.ntmps69
  go_wp2
  go_ret
  refine ⟨rfl, ?_⟩
  (repeat (first | exact Below.refl _ _ | apply Below.drew | refine below_drewN' ?_ _ | refine Below.setCell ?_ (by first | (simp; done) | (simp; omega)) _ | refine Below.alloc ?_ (by first | (simp; done) | (simp; omega)) _))
theorem lies_no3 (X Y x y z u : Int) (bq : Nat) (v : Value) (w : World) (hX : -128 ≤ X ∧ X ≤ 127) (hY : -128 ≤ Y ∧ Y ≤ 127) (bx : -128 ≤ x ∧ x ≤ 127) (by_ : -128 ≤ y ∧ y ≤ 127) (bz : -128 ≤ z ∧ z ≤ 127) (bu : -128 ≤ u ∧ u ≤ 127) (hq : Sq w bq X Y v) (h0 : 0 ≤ x) (h1 : 0 ≤ y) (h : z < 1) :
    Calls Tryd.prog 69 #[.pointer (some ⟨bq, 0, none⟩), .agg #[.int .i8 x, .int .i8 y, .int .i8 z, .int .i8 u]] w fun e w' => e = .returned (.bool false) ∧ Below w.heap.size w w' := by
  obtain ⟨lq, pq, qq, rq⟩ := hq
  go_enter Tryd.func69, Tryd.ntmps69
  go_wp2
  go_ret
  refine ⟨rfl, ?_⟩
  (repeat (first | exact Below.refl _ _ | apply Below.drew | refine below_drewN' ?_ _ | refine Below.setCell ?_ (by first | (simp; done) | (simp; omega)) _ | refine Below.alloc ?_ (by first | (simp; done) | (simp; omega)) _))
theorem lies_no4 (X Y x y z u : Int) (bq : Nat) (v : Value) (w : World) (hX : -128 ≤ X ∧ X ≤ 127) (hY : -128 ≤ Y ∧ Y ≤ 127) (bx : -128 ≤ x ∧ x ≤ 127) (by_ : -128 ≤ y ∧ y ≤ 127) (bz : -128 ≤ z ∧ z ≤ 127) (bu : -128 ≤ u ∧ u ≤ 127) (hq : Sq w bq X Y v) (h0 : 0 ≤ x) (h1 : 0 ≤ y) (h2 : 1 ≤ z) (h : u < 1) :
    Calls Tryd.prog 69 #[.pointer (some ⟨bq, 0, none⟩), .agg #[.int .i8 x, .int .i8 y, .int .i8 z, .int .i8 u]] w fun e w' => e = .returned (.bool false) ∧ Below w.heap.size w w' := by
  obtain ⟨lq, pq, qq, rq⟩ := hq
  go_enter Tryd.func69, Tryd.ntmps69
  go_wp2
  go_ret
  refine ⟨rfl, ?_⟩
  (repeat (first | exact Below.refl _ _ | apply Below.drew | refine below_drewN' ?_ _ | refine Below.setCell ?_ (by first | (simp; done) | (simp; omega)) _ | refine Below.alloc ?_ (by first | (simp; done) | (simp; omega)) _))
theorem lies_no5 (X Y x y z u : Int) (bq : Nat) (v : Value) (w : World) (hX : -128 ≤ X ∧ X ≤ 127) (hY : -128 ≤ Y ∧ Y ≤ 127) (bx : -128 ≤ x ∧ x ≤ 127) (by_ : -128 ≤ y ∧ y ≤ 127) (bz : -128 ≤ z ∧ z ≤ 127) (bu : -128 ≤ u ∧ u ≤ 127) (hq : Sq w bq X Y v) (h0 : 0 ≤ x) (h1 : 0 ≤ y) (h2 : 1 ≤ z) (h3 : 1 ≤ u) (h : X < x + z) :
    Calls Tryd.prog 69 #[.pointer (some ⟨bq, 0, none⟩), .agg #[.int .i8 x, .int .i8 y, .int .i8 z, .int .i8 u]] w fun e w' => e = .returned (.bool false) ∧ Below w.heap.size w w' := by
  obtain ⟨lq, pq, qq, rq⟩ := hq
  have d5 : decide (x + z ≤ X) = false := by simp; omega
  go_enter Tryd.func69, Tryd.ntmps69
  go_wp2_with fail
  go_quiet (fail)
  go_wp2
  go_ret
  refine ⟨rfl, ?_⟩
  (repeat (first | exact Below.refl _ _ | apply Below.drew | refine below_drewN' ?_ _ | refine Below.setCell ?_ (by first | (simp; done) | (simp; omega)) _ | refine Below.alloc ?_ (by first | (simp; done) | (simp; omega)) _))
theorem lies_no6 (X Y x y z u : Int) (bq : Nat) (v : Value) (w : World) (hX : -128 ≤ X ∧ X ≤ 127) (hY : -128 ≤ Y ∧ Y ≤ 127) (bx : -128 ≤ x ∧ x ≤ 127) (by_ : -128 ≤ y ∧ y ≤ 127) (bz : -128 ≤ z ∧ z ≤ 127) (bu : -128 ≤ u ∧ u ≤ 127) (hq : Sq w bq X Y v) (h0 : 0 ≤ x) (h1 : 0 ≤ y) (h2 : 1 ≤ z) (h3 : 1 ≤ u) (h4 : x + z ≤ X) (h : Y < y + u) :
    Calls Tryd.prog 69 #[.pointer (some ⟨bq, 0, none⟩), .agg #[.int .i8 x, .int .i8 y, .int .i8 z, .int .i8 u]] w fun e w' => e = .returned (.bool false) ∧ Below w.heap.size w w' := by
  obtain ⟨lq, pq, qq, rq⟩ := hq
  have d5 : decide (x + z ≤ X) = true := by simpa using h4
  have d6 : decide (y + u ≤ Y) = false := by simp; omega
  go_enter Tryd.func69, Tryd.ntmps69
  go_wp2_with fail
  go_quiet (fail)
  go_wp2
  go_ret
  refine ⟨rfl, ?_⟩
  (repeat (first | exact Below.refl _ _ | apply Below.drew | refine below_drewN' ?_ _ | refine Below.setCell ?_ (by first | (simp; done) | (simp; omega)) _ | refine Below.alloc ?_ (by first | (simp; done) | (simp; omega)) _))
theorem lies_no (X Y x y z u : Int) (bq : Nat) (v : Value) (w : World) (hX : -128 ≤ X ∧ X ≤ 127) (hY : -128 ≤ Y ∧ Y ≤ 127) (bx : -128 ≤ x ∧ x ≤ 127) (by_ : -128 ≤ y ∧ y ≤ 127) (bz : -128 ≤ z ∧ z ≤ 127) (bu : -128 ≤ u ∧ u ≤ 127) (hq : Sq w bq X Y v) (h : ¬ (0 ≤ x ∧ 0 ≤ y ∧ 1 ≤ z ∧ 1 ≤ u ∧ x + z ≤ X ∧ y + u ≤ Y)) :
    Calls Tryd.prog 69 #[.pointer (some ⟨bq, 0, none⟩), .agg #[.int .i8 x, .int .i8 y, .int .i8 z, .int .i8 u]] w fun e w' => e = .returned (.bool false) ∧ Below w.heap.size w w' := by
  by_cases h1 : x < 0
  · exact lies_no1 X Y x y z u bq v w hX hY bx by_ bz bu hq h1
  by_cases h2 : y < 0
  · exact lies_no2 X Y x y z u bq v w hX hY bx by_ bz bu hq (by omega) h2
  by_cases h3 : z < 1
  · exact lies_no3 X Y x y z u bq v w hX hY bx by_ bz bu hq (by omega) (by omega) h3
  by_cases h4 : u < 1
  · exact lies_no4 X Y x y z u bq v w hX hY bx by_ bz bu hq (by omega) (by omega) (by omega) h4
  by_cases h5 : X < x + z
  · exact lies_no5 X Y x y z u bq v w hX hY bx by_ bz bu hq (by omega) (by omega) (by omega) (by omega) h5
  · exact lies_no6 X Y x y z u bq v w hX hY bx by_ bz bu hq (by omega) (by omega) (by omega) (by omega) (by omega) (by omega)
end Go.Proofs.YtmkcdelfgaogaaaDoor
