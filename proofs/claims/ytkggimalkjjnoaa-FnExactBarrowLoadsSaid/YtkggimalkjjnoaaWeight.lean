/-
  The weight of a slab: contracts of spec.l05Weight and impl.WeightOf. Conditions stand at each.
-/
import Derived.Test.YtkggimalkjjnoaaRows
import Derived.Test.YtkggimalkjjnoaaAt
import Derived.Test.YtkggimalkjjnoaaLay
import Derived.Test.YtkggimalkjjnoaaIn
namespace Go.Proofs.Ytkggimalkjjnoaa
open Go Go.ChangeShapes Go.WideShapes Go.ChangeAt Go.RowKit
set_option linter.unusedVariables false
set_option linter.unusedSimpArgs false
set_option maxRecDepth 100000
set_option maxHeartbeats 2000000

/-- the weight of a slab with these sides. -/
def wtOf (a b : Int) : Int := if (1 ≤ a ∧ a ≤ 12) ∧ (1 ≤ b ∧ b ≤ 12) then a * b * 4 else 0
theorem wtOf_yes {a b : Int} (ha : 1 ≤ a ∧ a ≤ 12) (hb : 1 ≤ b ∧ b ≤ 12) : wtOf a b = a * b * 4 := if_pos ⟨ha, hb⟩
theorem wtOf_no1 {a b : Int} (ha : ¬ (1 ≤ a ∧ a ≤ 12)) : wtOf a b = 0 := if_neg fun h => ha h.1
theorem wtOf_no2 {a b : Int} (hb : ¬ (1 ≤ b ∧ b ≤ 12)) : wtOf a b = 0 := if_neg fun h => hb h.2
theorem mul_bd {a b : Int} (ha : 1 ≤ a ∧ a ≤ 12) (hb : 1 ≤ b ∧ b ≤ 12) : 1 ≤ a * b ∧ a * b ≤ 144 := by
  have h1 : a * b ≤ 12 * 12 := Int.mul_le_mul ha.2 hb.2 (by omega) (by omega)
  have h2 : 1 * 1 ≤ a * b := Int.mul_le_mul ha.1 hb.1 (by omega) (by omega)
  omega
theorem wtOf_bd (a b : Int) : 0 ≤ wtOf a b ∧ wtOf a b ≤ 576 := by
  by_cases ha : 1 ≤ a ∧ a ≤ 12
  · by_cases hb : 1 ≤ b ∧ b ≤ 12
    · rw [wtOf_yes ha hb]
      have := mul_bd ha hb
      omega
    · rw [wtOf_no2 hb]; omega
  · rw [wtOf_no1 ha]; omega
theorem l05Weight_any (x y a b : Int) (w : World) (ba : -128 ≤ a ∧ a ≤ 127) (bb : -128 ≤ b ∧ b ≤ 127) :
    Calls Try.prog 138 #[.agg #[.int .i8 x, .int .i8 y, .int .i8 a, .int .i8 b]] w fun e w' => e = .returned (.int .i64 (wtOf a b)) ∧ Below w.heap.size w w' := by
  have w1 : IntKind.i64.wrap a = a := IntWalk.i64_in _ (by omega)
  have w2 : IntKind.i64.wrap b = b := IntWalk.i64_in _ (by omega)
  by_cases ha : 1 ≤ a ∧ a ≤ 12
  · by_cases hb : 1 ≤ b ∧ b ≤ 12
    · have hm := mul_bd ha hb
      have w3 : IntKind.i64.wrap (a * b) = a * b := IntWalk.i64_in _ (by omega)
      have w4 : wrap64 (a * b) = a * b := IntWalk.wrap64_in _ (by omega)
      have w5 : IntKind.i64.wrap (a * b * 4) = a * b * 4 := IntWalk.i64_in _ (by omega)
      have w6 : wrap64 (a * b * 4) = a * b * 4 := IntWalk.wrap64_in _ (by omega)
      rw [wtOf_yes ha hb]
      clear hm
      go_enter Try.func138, Try.ntmps138
      go_wp2_with (go_at_call 164; refine (edge_yes _ _ (by omega) (by omega)).mono ?_; rintro e w' ⟨rfl, rfl⟩)
      go_ret
      refine ⟨rfl, ?_⟩
      (repeat (first | exact Below.refl _ _ | apply Below.drew | refine below_drewN' ?_ _ | refine Below.setCell ?_ (by first | (simp; done) | (simp; omega)) _ | refine Below.alloc ?_ (by first | (simp; done) | (simp; omega)) _))
    · rw [wtOf_no2 hb]
      go_enter Try.func138, Try.ntmps138
      go_wp2_with (go_at_call 164; first | (refine (edge_yes a _ (by omega) (by omega)).mono ?_; rintro e w' ⟨rfl, rfl⟩) | (refine (edge_no b _ (by omega)).mono ?_; rintro e w' ⟨rfl, rfl⟩))
      go_ret
      refine ⟨rfl, ?_⟩
      (repeat (first | exact Below.refl _ _ | apply Below.drew | refine below_drewN' ?_ _ | refine Below.setCell ?_ (by first | (simp; done) | (simp; omega)) _ | refine Below.alloc ?_ (by first | (simp; done) | (simp; omega)) _))
  · rw [wtOf_no1 ha]
    go_enter Try.func138, Try.ntmps138
    go_wp2_with (go_at_call 164; refine (edge_no a _ (by omega)).mono ?_; rintro e w' ⟨rfl, rfl⟩)
    go_ret
    refine ⟨rfl, ?_⟩
    (repeat (first | exact Below.refl _ _ | apply Below.drew | refine below_drewN' ?_ _ | refine Below.setCell ?_ (by first | (simp; done) | (simp; omega)) _ | refine Below.alloc ?_ (by first | (simp; done) | (simp; omega)) _))
theorem area_any (x y a b : Int) (w : World) (ha : 1 ≤ a ∧ a ≤ 12) (hb : 1 ≤ b ∧ b ≤ 12) :
    Calls Try.prog 140 #[.agg #[.int .i8 x, .int .i8 y, .int .i8 a, .int .i8 b]] w fun e w' => e = .returned (.int .i64 (a * b)) ∧ Below w.heap.size w w' := by
  have hm := mul_bd ha hb
  have w1 : IntKind.i64.wrap a = a := IntWalk.i64_in _ (by omega)
  have w2 : IntKind.i64.wrap b = b := IntWalk.i64_in _ (by omega)
  have w3 : IntKind.i64.wrap (a * b) = a * b := IntWalk.i64_in _ (by omega)
  have w4 : wrap64 (a * b) = a * b := IntWalk.wrap64_in _ (by omega)
  clear hm
  go_enter Try.func140, Try.ntmps140
  go_wp2
  go_ret
  exact ⟨rfl, al (Below.refl _ _) _⟩
theorem weightOf_any (x y a b : Int) (w : World) (ba : -128 ≤ a ∧ a ≤ 127) (bb : -128 ≤ b ∧ b ≤ 127) :
    Calls Try.prog 63 #[.agg #[.int .i8 x, .int .i8 y, .int .i8 a, .int .i8 b]] w fun e w' => e = .returned (.int .i64 (wtOf a b)) ∧ Below w.heap.size w w' := by
  have w1 : IntKind.i64.wrap a = a := IntWalk.i64_in _ (by omega)
  have w2 : IntKind.i64.wrap b = b := IntWalk.i64_in _ (by omega)
  by_cases ha : 1 ≤ a ∧ a ≤ 12
  · by_cases hb : 1 ≤ b ∧ b ≤ 12
    · have hm := mul_bd ha hb
      have w5 : IntKind.i64.wrap (a * b * 4) = a * b * 4 := IntWalk.i64_in _ (by omega)
      have w6 : wrap64 (a * b * 4) = a * b * 4 := IntWalk.wrap64_in _ (by omega)
      rw [wtOf_yes ha hb]
      clear hm
      go_enter Try.func63, Try.ntmps63
      go_wp2_with (first
        | (go_at_call 139; refine (side_yes _ _ (by omega) (by omega)).mono ?_; rintro e w' ⟨rfl, rfl⟩)
        | (go_at_call 140; refine (area_any x y a b _ ha hb).mono ?_; rintro e w' ⟨rfl, hb'⟩))
      go_ret
      exact ⟨rfl, nxt (al (Below.refl _ _) _) hb'⟩
    · rw [wtOf_no2 hb]
      go_enter Try.func63, Try.ntmps63
      go_wp2_with (go_at_call 139; first | (refine (side_yes a _ (by omega) (by omega)).mono ?_; rintro e w' ⟨rfl, rfl⟩) | (refine (side_no b _ (by omega)).mono ?_; rintro e w' ⟨rfl, rfl⟩))
      go_ret
      exact ⟨rfl, al (Below.refl _ _) _⟩
  · rw [wtOf_no1 ha]
    go_enter Try.func63, Try.ntmps63
    go_wp2_with (go_at_call 139; refine (side_no a _ (by omega)).mono ?_; rintro e w' ⟨rfl, rfl⟩)
    go_ret
    exact ⟨rfl, al (Below.refl _ _) _⟩
theorem specWeightOf_any (x y a b : Int) (w : World) (ba : -128 ≤ a ∧ a ≤ 127) (bb : -128 ≤ b ∧ b ≤ 127) :
    Calls Try.prog 62 #[.agg #[.int .i8 x, .int .i8 y, .int .i8 a, .int .i8 b]] w fun e w' => e = .returned (.int .i64 (wtOf a b)) ∧ Below w.heap.size w w' := by
  have HC := Lib.hid (l05Weight_any x y a b)
  go_enter Try.func62, Try.ntmps62
  go_wp2_with (go_at_call 138; refine (HC.out _ ba bb).mono ?_; rintro e w' ⟨rfl, hb'⟩)
  go_ret
  exact ⟨rfl, nxt (al (Below.refl _ _) _) hb'⟩
end Go.Proofs.Ytkggimalkjjnoaa
