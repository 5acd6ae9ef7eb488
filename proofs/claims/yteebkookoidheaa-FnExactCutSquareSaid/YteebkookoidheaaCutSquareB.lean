/-
  Both sides of CutSquare answer the same. Conditions stand at each.
-/
import Derived.Test.YteebkookoidheaaRows
import Derived.Test.YteebkookoidheaaCutS
namespace Go.Proofs.Yteebkookoidheaa.cutSquare
open Go Go.ChangeShapes Go.WideShapes Go.ChangeAt Go.RowKit
set_option linter.unusedVariables false
set_option linter.unusedSimpArgs false
set_option maxRecDepth 100000
set_option maxHeartbeats 2000000
theorem both (X Y : Int) (n : Nat) (c : Nat → Int) (a0 a1 a2 a3 : Int) (hX : -128 ≤ X ∧ X ≤ 127) (hY : -128 ≤ Y ∧ Y ≤ 127) (hc : ∀ j, -128 ≤ c j ∧ c j ≤ 127) (b0 : -128 ≤ a0 ∧ a0 ≤ 127) (b1 : -128 ≤ a1 ∧ a1 ≤ 127) (b2 : -128 ≤ a2 ∧ a2 ≤ 127) (b3 : -128 ≤ a3 ∧ a3 ≤ 127) (hm : n ≤ 1048576) :
    ∃ (rx ry r1 : Int) (nn : Nat) (ff : Nat → Int), nn ≤ 1000 ∧
      (∀ (W : World) (g : Nat), W.rowIs g 31 (4 * n) (fun j => .int .i8 (c j)) → Calls Try.prog 30 #[.agg #[.int .i8 X, .int .i8 Y, .slice (some ⟨g, 0, none⟩) n n], .agg #[.int .i8 a0, .int .i8 a1, .int .i8 a2, .int .i8 a3]] W fun e w' => Below W.heap.size W w' ∧ ∃ v, e = .returned (.tuple #[.agg #[.int .i8 rx, .int .i8 ry, v], .int .i64 r1]) ∧ HasSlice .i8 4 w' W.heap.size v nn ff) ∧
      (∀ (W : World) (g : Nat), W.rowIs g 31 (4 * n) (fun j => .int .i8 (c j)) → Calls Try.prog 31 #[.agg #[.int .i8 X, .int .i8 Y, .slice (some ⟨g, 0, none⟩) n n], .agg #[.int .i8 a0, .int .i8 a1, .int .i8 a2, .int .i8 a3]] W fun e w' => Below W.heap.size W w' ∧ ∃ v, e = .returned (.tuple #[.agg #[.int .i8 rx, .int .i8 ry, v], .int .i64 r1]) ∧ HasSlice .i8 4 w' W.heap.size v nn ff) := by
  by_cases hv : Valid X Y n c
  · have hn60 := hv.2.2.2.2.1
    by_cases hl : (0 ≤ a0 ∧ 0 ≤ a1 ∧ 1 ≤ a2 ∧ 1 ≤ a3 ∧ a0 + a2 ≤ X ∧ a1 + a3 ≤ Y)
    · have hap := apart_cut hv hl.1 hl.2.1 (a2 := a2) (a3 := a3)
      have hle := cutL_le (a0, a1, a2, a3) c n
      obtain ⟨L, hL⟩ := exists_sorted (cutL (a0, a1, a2, a3) c n)
      refine ⟨a2, a3, 0, (cutL (a0, a1, a2, a3) c n).length, fL L, by omega, fun W g R => (spec_in X Y g n c a0 a1 a2 a3 W hX hY hc b0 b1 b2 b3 hm R hv hl (fun W' bq hq => lies_yes X Y a0 a1 a2 a3 bq _ W' hX hY b0 b1 b2 b3 hq hl)).mono ?_, fun W g R => (impl_in X Y g n c a0 a1 a2 a3 W hX hY hc b0 b1 b2 b3 hm R hv hl).mono ?_⟩
      · rintro e w' ⟨hb, v, M, rfl, hM, O⟩
        obtain rfl := SortedOf.unique hM hL hap
        exact ⟨hb, v, rfl, O⟩
      · rintro e w' ⟨hb, v, M, rfl, hM, O⟩
        obtain rfl := SortedOf.unique hM hL hap
        exact ⟨hb, v, rfl, O⟩
    · exact ⟨0, 0, 2, 0, fL [], by omega, fun W g R => spec_out X Y g n c a0 a1 a2 a3 W hX hY hc b0 b1 b2 b3 hm R hv (fun W' bq hq => lies_no X Y a0 a1 a2 a3 bq _ W' hX hY b0 b1 b2 b3 hq hl), fun W g R => impl_out X Y g n c a0 a1 a2 a3 W hX hY hc b0 b1 b2 b3 hm R hv hl⟩
  · by_cases hl : (0 ≤ a0 ∧ 0 ≤ a1 ∧ 1 ≤ a2 ∧ 1 ≤ a3 ∧ a0 + a2 ≤ X ∧ a1 + a3 ≤ Y)
    · exact ⟨0, 0, 1, 0, fL [], by omega, fun W g R => spec_bad X Y g n c a0 a1 a2 a3 W hX hY hc b0 b1 b2 b3 hm R true hv (fun W' bq hq => lies_yes X Y a0 a1 a2 a3 bq _ W' hX hY b0 b1 b2 b3 hq hl), fun W g R => impl_bad X Y g n c a0 a1 a2 a3 W hX hY hc b0 b1 b2 b3 hm R hv⟩
    · exact ⟨0, 0, 1, 0, fL [], by omega, fun W g R => spec_bad X Y g n c a0 a1 a2 a3 W hX hY hc b0 b1 b2 b3 hm R false hv (fun W' bq hq => lies_no X Y a0 a1 a2 a3 bq _ W' hX hY b0 b1 b2 b3 hq hl), fun W g R => impl_bad X Y g n c a0 a1 a2 a3 W hX hY hc b0 b1 b2 b3 hm R hv⟩
end Go.Proofs.Yteebkookoidheaa.cutSquare
