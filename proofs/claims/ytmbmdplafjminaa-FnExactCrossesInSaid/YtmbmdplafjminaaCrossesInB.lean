/-
  Both sides of CrossesIn answer the same. Conditions stand at each.
-/
import Derived.Test.YtmbmdplafjminaaRows
import Derived.Test.YtmbmdplafjminaaOpenL
import Derived.Test.YtmbmdplafjminaaOpenCellsB
import Derived.Test.YtmbmdplafjminaaCrossI
import Derived.Test.YtmbmdplafjminaaRes
namespace Go.Proofs.Ytmbmdplafjminaa
open Go Go.ChangeShapes Go.WideShapes Go.ChangeAt Go.RowKit
set_option linter.unusedVariables false
set_option linter.unusedSimpArgs false
set_option maxRecDepth 100000
set_option maxHeartbeats 2000000

namespace crossesIn
theorem spec_bad (X Y : Int) (g n : Nat) (c : Nat → Int) (w : World) (hX : -128 ≤ X ∧ X ≤ 127) (hY : -128 ≤ Y ∧ Y ≤ 127) (hc : ∀ j, -128 ≤ c j ∧ c j ≤ 127) (hm : n ≤ 1048576) (hrow : w.rowIs g 58 (4 * n) (fun j => .int .i8 (c j))) (hv : ¬ Valid X Y n c) :
    Calls Try.prog 52 #[.agg #[.int .i8 X, .int .i8 Y, .slice (some ⟨g, 0, none⟩) n n]] w fun e w' => Below w.heap.size w w' ∧ ∃ v, e = .returned (.tuple #[v, .int .i64 1]) ∧ OwnC w' w.heap.size v [] := by
  go_enter Try.func52, Try.ntmps52
  go_wp2_with fail
  have HQ := Sq.new w X Y (.slice (some ⟨g, 0, none⟩) n n) 32
  have B := al (Below.refl w.heap.size w) (.cells #[.int .i8 X, .int .i8 Y, .slice (some ⟨g, 0, none⟩) n n] 32)
  refine (ok_any X Y w.heap.size g n c _ hX hY hc hm HQ (hrow.of_block (B.block _ hrow.lt))).mono ?_
  rintro e w1 ⟨hb, ⟨h, _⟩ | ⟨_, rfl⟩⟩
  · exact absurd h hv
  replace B := nxt B hb
  clear hb
  go_wp2_with fail
  exact bodyPost_ret (results_tmp2 Try.results52 _ _ _) rfl ⟨al B _, _, rfl, World.ownsRow_made w1 #[] 0 B.size (Nat.zero_le _) rfl⟩

theorem impl_bad (X Y : Int) (g n : Nat) (c : Nat → Int) (w : World) (hX : -128 ≤ X ∧ X ≤ 127) (hY : -128 ≤ Y ∧ Y ≤ 127) (hc : ∀ j, -128 ≤ c j ∧ c j ≤ 127) (hm : n ≤ 1048576) (hrow : w.rowIs g 58 (4 * n) (fun j => .int .i8 (c j))) (hv : ¬ Valid X Y n c) :
    Calls Try.prog 53 #[.agg #[.int .i8 X, .int .i8 Y, .slice (some ⟨g, 0, none⟩) n n]] w fun e w' => Below w.heap.size w w' ∧ ∃ v, e = .returned (.tuple #[v, .int .i64 1]) ∧ OwnC w' w.heap.size v [] := by
  go_enter Try.func53, Try.ntmps53
  go_wp2_with fail
  have B := al (Below.refl w.heap.size w) (.cells #[.int .i8 X, .int .i8 Y, .slice (some ⟨g, 0, none⟩) n n] 32)
  refine (implValid_any X Y g n c _ hX hY hc hm (hrow.of_block (B.block _ hrow.lt))).mono ?_
  rintro e w1 ⟨hb, ⟨h, _⟩ | ⟨_, rfl⟩⟩
  · exact absurd h hv
  replace B := nxt B hb
  clear hb
  go_wp2_with fail
  exact bodyPost_ret (results_tmp2 Try.results53 _ _ _) rfl ⟨B, _, rfl, World.ownsRow_nil _ _ _ _⟩

theorem both (X Y : Int) (n : Nat) (c : Nat → Int) (hX : -128 ≤ X ∧ X ≤ 127) (hY : -128 ≤ Y ∧ Y ≤ 127) (hc : ∀ j, -128 ≤ c j ∧ c j ≤ 127) (hm : n ≤ 1048576) :
    ∃ (nn : Nat) (ff : Nat → Int) (r1 : Int), nn ≤ 1000 ∧
      (∀ (W : World) (g : Nat), W.rowIs g 58 (4 * n) (fun j => .int .i8 (c j)) → Calls Try.prog 52 #[.agg #[.int .i8 X, .int .i8 Y, .slice (some ⟨g, 0, none⟩) n n]] W fun e w' => Below W.heap.size W w' ∧ ∃ v, e = .returned (.tuple #[v, .int .i64 r1]) ∧ HasSlice .i8 2 w' W.heap.size v nn ff) ∧
      (∀ (W : World) (g : Nat), W.rowIs g 58 (4 * n) (fun j => .int .i8 (c j)) → Calls Try.prog 53 #[.agg #[.int .i8 X, .int .i8 Y, .slice (some ⟨g, 0, none⟩) n n]] W fun e w' => Below W.heap.size W w' ∧ ∃ v, e = .returned (.tuple #[v, .int .i64 r1]) ∧ HasSlice .i8 2 w' W.heap.size v nn ff) := by
  by_cases hv : Valid X Y n c
  · obtain ⟨W', rfl⟩ := Int.eq_ofNat_of_zero_le (show 0 ≤ X by have := hv.1; omega)
    obtain ⟨H', rfl⟩ := Int.eq_ofNat_of_zero_le (show 0 ≤ Y by have := hv.2.2.1; omega)
    refine ⟨(crossC W' (gridN c n) (W' * H')).length, cf (crossC W' (gridN c n) (W' * H')), 0, ?_, fun W g R => (crossS_in W' H' g n c W hc hm R hv).mono ?_, fun W g R => (callsIn_wide.1 (crossI_in W' H' g n c W hc hm R hv)).mono ?_⟩
    · have := crossC_length W' (gridN c n) (W' * H')
      have h2 := mul12 (W := W') (H := H') (by have := hv.2.1; omega) (by have := hv.2.2.2.1; omega)
      exact (by omega : (crossC W' (gridN c n) (W' * H')).length ≤ 1000)
    · rintro e w' ⟨hb, v, rfl, O⟩; exact ⟨hb, v, rfl, O.has⟩
    · rintro e w' ⟨hb, v, rfl, O⟩; exact ⟨hb, v, rfl, O.has⟩
  · refine ⟨0, cf [], 1, by omega, fun W g R => (spec_bad X Y g n c W hX hY hc hm R hv).mono ?_, fun W g R => (impl_bad X Y g n c W hX hY hc hm R hv).mono ?_⟩
    · rintro e w' ⟨hb, v, rfl, O⟩; exact ⟨hb, v, rfl, O.has⟩
    · rintro e w' ⟨hb, v, rfl, O⟩; exact ⟨hb, v, rfl, O.has⟩
end crossesIn
end Go.Proofs.Ytmbmdplafjminaa
