/-
  Both sides of ValidSquare answer the same. Conditions stand at it.
-/
import Derived.Test.YtmbmdplafjminaaRows
import Derived.Test.YtmbmdplafjminaaValidI
namespace Go.Proofs.Ytmbmdplafjminaa.validSquare
open Go Go.RowKit
set_option linter.unusedVariables false
theorem both (X Y : Int) (n : Nat) (c : Nat → Int) (hX : -128 ≤ X ∧ X ≤ 127) (hY : -128 ≤ Y ∧ Y ≤ 127) (hc : ∀ j, -128 ≤ c j ∧ c j ≤ 127) (hm : n ≤ 1048576) :
    ∃ r : Bool, (∀ (W : World) (g : Nat), W.rowIs g 58 (4 * n) (fun j => .int .i8 (c j)) → Calls Try.prog 18 #[.agg #[.int .i8 X, .int .i8 Y, .slice (some ⟨g, 0, none⟩) n n]] W fun e w' => e = .returned (.bool r) ∧ Below W.heap.size W w') ∧
      (∀ (W : World) (g : Nat), W.rowIs g 58 (4 * n) (fun j => .int .i8 (c j)) → Calls Try.prog 20 #[.agg #[.int .i8 X, .int .i8 Y, .slice (some ⟨g, 0, none⟩) n n]] W fun e w' => e = .returned (.bool r) ∧ Below W.heap.size W w') := by
  by_cases hv : Valid X Y n c
  · refine ⟨true, fun W g R => ?_, fun W g R => ?_⟩
    · refine (specValid_any X Y g n c W hX hY hc hm R).mono ?_
      rintro e w' ⟨hb, ⟨_, rfl⟩ | ⟨h, _⟩⟩
      · exact ⟨rfl, hb⟩
      · exact absurd hv h
    · refine (implValid_any X Y g n c W hX hY hc hm R).mono ?_
      rintro e w' ⟨hb, ⟨_, rfl⟩ | ⟨h, _⟩⟩
      · exact ⟨rfl, hb⟩
      · exact absurd hv h
  · refine ⟨false, fun W g R => ?_, fun W g R => ?_⟩
    · refine (specValid_any X Y g n c W hX hY hc hm R).mono ?_
      rintro e w' ⟨hb, ⟨h, _⟩ | ⟨_, rfl⟩⟩
      · exact absurd h hv
      · exact ⟨rfl, hb⟩
    · refine (implValid_any X Y g n c W hX hY hc hm R).mono ?_
      rintro e w' ⟨hb, ⟨h, _⟩ | ⟨_, rfl⟩⟩
      · exact absurd h hv
      · exact ⟨rfl, hb⟩
end Go.Proofs.Ytmbmdplafjminaa.validSquare
