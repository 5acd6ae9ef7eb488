/-
  Both sides of ValidPattern answer the same. Conditions stand at it.
-/
import Derived.Test.YteebkookoidheabRows
import Derived.Test.YteebkookoidheabPatI
import Derived.Test.YteebkookoidheabPatS
namespace Go.Proofs.Yteebkookoidheab.validPattern
open Go Go.RowKit
set_option linter.unusedVariables false
theorem both (X Y Z : Int) (n : Nat) (c : Nat → Int) (hX : -128 ≤ X ∧ X ≤ 127) (hY : -128 ≤ Y ∧ Y ≤ 127) (hZ : -128 ≤ Z ∧ Z ≤ 127) (hc : ∀ j, -128 ≤ c j ∧ c j ≤ 127) (hm : n ≤ 1048576) :
    ∃ r : Bool, (∀ (W : World) (g : Nat), W.rowIs g 67 (4 * n) (fun j => .int .i8 (c j)) → Calls Try.prog 16 #[.agg #[.int .i8 X, .int .i8 Y, .int .i8 Z, .slice (some ⟨g, 0, none⟩) n n]] W fun e w' => e = .returned (.bool r) ∧ Below W.heap.size W w') ∧
      (∀ (W : World) (g : Nat), W.rowIs g 67 (4 * n) (fun j => .int .i8 (c j)) → Calls Try.prog 18 #[.agg #[.int .i8 X, .int .i8 Y, .int .i8 Z, .slice (some ⟨g, 0, none⟩) n n]] W fun e w' => e = .returned (.bool r) ∧ Below W.heap.size W w') := by
  by_cases hv : PValid X Y Z n c
  · refine ⟨true, fun W g R => ?_, fun W g R => ?_⟩
    · refine (specPVal_any X Y Z g n c W hX hY hZ hc hm R).mono ?_
      rintro e w' ⟨hb, ⟨_, rfl⟩ | ⟨h, _⟩⟩
      · exact ⟨rfl, hb⟩
      · exact absurd hv h
    · refine (implPVal_any X Y Z g n c W hc hm R).mono ?_
      rintro e w' ⟨hb, ⟨_, rfl⟩ | ⟨h, _⟩⟩
      · exact ⟨rfl, hb⟩
      · exact absurd hv h
  · refine ⟨false, fun W g R => ?_, fun W g R => ?_⟩
    · refine (specPVal_any X Y Z g n c W hX hY hZ hc hm R).mono ?_
      rintro e w' ⟨hb, ⟨h, _⟩ | ⟨_, rfl⟩⟩
      · exact absurd h hv
      · exact ⟨rfl, hb⟩
    · refine (implPVal_any X Y Z g n c W hc hm R).mono ?_
      rintro e w' ⟨hb, ⟨h, _⟩ | ⟨_, rfl⟩⟩
      · exact absurd h hv
      · exact ⟨rfl, hb⟩
end Go.Proofs.Yteebkookoidheab.validPattern
