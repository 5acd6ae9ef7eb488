/-
  Both sides of OpenCells answer the same. Conditions stand at each.
-/
import Derived.Test.YtmbmdplafjminaaRows
import Derived.Test.YtmbmdplafjminaaOpenL
import Derived.Test.YtmbmdplafjminaaOpenCellsC
import Derived.Test.YtmbmdplafjminaaRes
namespace Go.Proofs.Ytmbmdplafjminaa
open Go Go.ChangeShapes Go.WideShapes Go.ChangeAt Go.RowKit
set_option linter.unusedVariables false
set_option linter.unusedSimpArgs false
set_option maxRecDepth 100000
set_option maxHeartbeats 2000000

/-- the numbers of a list of cells. -/
def cf (L : List (Nat × Nat)) (j : Nat) : Int :=
  match L[j / 2]? with
  | some q => if j % 2 = 0 then (q.1 : Int) else (q.2 : Int)
  | none => 0
theorem OwnC.has {w : World} {base : Nat} {v : Value} {L : List (Nat × Nat)} (h : OwnC w base v L) : HasSlice .i8 2 w base v L.length (cf L) := by
  rcases h.2 with ⟨rfl, h0⟩ | ⟨g, cap, cur, rfl, hb, hg, _⟩
  · refine ⟨none, 0, 0, by rw [h0], fun h => by omega, fun j hj => by rw [h0] at hj; simp at hj⟩
  · refine ⟨some ⟨g, 0, none⟩, g, cap, rfl, fun _ => ⟨rfl, hb, (Array.getElem?_eq_some_iff.1 hg).1⟩, fun j hj => ?_⟩
    rw [Nat.zero_add]
    refine ⟨?_, World.ownsRow.frozenAt h j⟩
    have hi : j / 2 < L.length := by omega
    have hq : L[j / 2]? = some L[j / 2] := List.getElem?_eq_getElem hi
    obtain ⟨c0, c1⟩ := OwnC.get h rfl hq
    unfold cf
    rw [hq]
    by_cases he : j % 2 = 0
    · simp only [if_pos he]
      rw [← c0]; congr 2; omega
    · simp only [if_neg he]
      rw [← c1]; congr 2; omega

namespace openCells
theorem spec_bad (X Y : Int) (g n : Nat) (c : Nat → Int) (w : World) (hX : -128 ≤ X ∧ X ≤ 127) (hY : -128 ≤ Y ∧ Y ≤ 127) (hc : ∀ j, -128 ≤ c j ∧ c j ≤ 127) (hm : n ≤ 1048576) (hrow : w.rowIs g 58 (4 * n) (fun j => .int .i8 (c j))) (hv : ¬ Valid X Y n c) :
    Calls Try.prog 31 #[.agg #[.int .i8 X, .int .i8 Y, .slice (some ⟨g, 0, none⟩) n n]] w fun e w' => Below w.heap.size w w' ∧ ∃ v, e = .returned (.tuple #[v, .int .i64 1]) ∧ OwnC w' w.heap.size v [] := by
  go_enter Try.func31, Try.ntmps31
  go_wp2_with fail
  have HQ := Sq.new w X Y (.slice (some ⟨g, 0, none⟩) n n) 32
  have B := al (Below.refl w.heap.size w) (.cells #[.int .i8 X, .int .i8 Y, .slice (some ⟨g, 0, none⟩) n n] 32)
  refine (ok_any X Y w.heap.size g n c _ hX hY hc hm HQ (hrow.of_block (B.block _ hrow.lt))).mono ?_
  rintro e w1 ⟨hb, ⟨h, _⟩ | ⟨_, rfl⟩⟩
  · exact absurd h hv
  replace B := nxt B hb
  clear hb
  go_wp2_with fail
  exact bodyPost_ret (results_tmp2 Try.results31 _ _ _) rfl ⟨al B _, _, rfl, World.ownsRow_made w1 #[] 0 B.size (Nat.zero_le _) rfl⟩

theorem impl_bad (X Y : Int) (g n : Nat) (c : Nat → Int) (w : World) (hX : -128 ≤ X ∧ X ≤ 127) (hY : -128 ≤ Y ∧ Y ≤ 127) (hc : ∀ j, -128 ≤ c j ∧ c j ≤ 127) (hm : n ≤ 1048576) (hrow : w.rowIs g 58 (4 * n) (fun j => .int .i8 (c j))) (hv : ¬ Valid X Y n c) :
    Calls Try.prog 32 #[.agg #[.int .i8 X, .int .i8 Y, .slice (some ⟨g, 0, none⟩) n n]] w fun e w' => Below w.heap.size w w' ∧ ∃ v, e = .returned (.tuple #[v, .int .i64 1]) ∧ OwnC w' w.heap.size v [] := by
  go_enter Try.func32, Try.ntmps32
  go_wp2_with fail
  have B := al (Below.refl w.heap.size w) (.cells #[.int .i8 X, .int .i8 Y, .slice (some ⟨g, 0, none⟩) n n] 32)
  refine (implValid_any X Y g n c _ hX hY hc hm (hrow.of_block (B.block _ hrow.lt))).mono ?_
  rintro e w1 ⟨hb, ⟨h, _⟩ | ⟨_, rfl⟩⟩
  · exact absurd h hv
  replace B := nxt B hb
  clear hb
  go_wp2_with fail
  exact bodyPost_ret (results_tmp2 Try.results32 _ _ _) rfl ⟨B, _, rfl, World.ownsRow_nil _ _ _ _⟩

theorem spec_in (W H g n : Nat) (c : Nat → Int) (w : World) (hc : ∀ j, -128 ≤ c j ∧ c j ≤ 127) (hm : n ≤ 1048576) (hrow : w.rowIs g 58 (4 * n) (fun j => .int .i8 (c j))) (hv : Valid W H n c) :
    Calls Try.prog 31 #[.agg #[.int .i8 (W : Int), .int .i8 (H : Int), .slice (some ⟨g, 0, none⟩) n n]] w (OpenIPost W H (gridN c n) w) := by
  have hW0 : 1 ≤ W := by have := hv.1; omega
  have hW : W ≤ 12 := by have := hv.2.1; omega
  have hH : H ≤ 12 := by have := hv.2.2.2.1; omega
  have HC := Lib.hid hc
  clear hc
  go_enter Try.func31, Try.ntmps31
  go_wp2_with fail
  have HQ := Sq.new w (W : Int) (H : Int) (.slice (some ⟨g, 0, none⟩) n n) 32
  have B := al (Below.refl w.heap.size w) (.cells #[.int .i8 (W : Int), .int .i8 (H : Int), .slice (some ⟨g, 0, none⟩) n n] 32)
  refine (ok_any W H w.heap.size g n c _ (by omega) (by omega) HC.out hm HQ (hrow.of_block (B.block _ hrow.lt))).mono ?_
  rintro e w1 ⟨hb, ⟨_, rfl⟩ | ⟨h, _⟩⟩
  case inr => exact absurd hv h
  replace HQ := HQ.below hb
  replace B := nxt B hb
  clear hb
  go_wp2_with fail
  refine (openL_any W H _ g n c _ hW0 hW hH HC.out hm HQ (hrow.of_block (B.block _ hrow.lt)) hv).mono ?_
  rintro e w3 ⟨hb, v, rfl, O⟩
  have hs := B.size
  replace B := nxt B hb
  clear hb
  go_wp2_with fail
  exact bodyPost_ret (results_tmp2 Try.results31 _ _ _) rfl ⟨B, v, rfl, World.ownsRow.mono O hs⟩

theorem both (X Y : Int) (n : Nat) (c : Nat → Int) (hX : -128 ≤ X ∧ X ≤ 127) (hY : -128 ≤ Y ∧ Y ≤ 127) (hc : ∀ j, -128 ≤ c j ∧ c j ≤ 127) (hm : n ≤ 1048576) :
    ∃ (nn : Nat) (ff : Nat → Int) (r1 : Int), nn ≤ 1000 ∧
      (∀ (W : World) (g : Nat), W.rowIs g 58 (4 * n) (fun j => .int .i8 (c j)) → Calls Try.prog 31 #[.agg #[.int .i8 X, .int .i8 Y, .slice (some ⟨g, 0, none⟩) n n]] W fun e w' => Below W.heap.size W w' ∧ ∃ v, e = .returned (.tuple #[v, .int .i64 r1]) ∧ HasSlice .i8 2 w' W.heap.size v nn ff) ∧
      (∀ (W : World) (g : Nat), W.rowIs g 58 (4 * n) (fun j => .int .i8 (c j)) → Calls Try.prog 32 #[.agg #[.int .i8 X, .int .i8 Y, .slice (some ⟨g, 0, none⟩) n n]] W fun e w' => Below W.heap.size W w' ∧ ∃ v, e = .returned (.tuple #[v, .int .i64 r1]) ∧ HasSlice .i8 2 w' W.heap.size v nn ff) := by
  by_cases hv : Valid X Y n c
  · obtain ⟨W', rfl⟩ := Int.eq_ofNat_of_zero_le (show 0 ≤ X by have := hv.1; omega)
    obtain ⟨H', rfl⟩ := Int.eq_ofNat_of_zero_le (show 0 ≤ Y by have := hv.2.2.1; omega)
    refine ⟨(openC W' (gridN c n) (W' * H')).length, cf (openC W' (gridN c n) (W' * H')), 0, ?_, fun W g R => (spec_in W' H' g n c W hc hm R hv).mono ?_, fun W g R => (callsIn_wide.1 (openI_in W' H' g n c W hc hm R hv)).mono ?_⟩
    · have := openC_length W' (gridN c n) (W' * H')
      have h2 := mul12 (W := W') (H := H') (by have := hv.2.1; omega) (by have := hv.2.2.2.1; omega)
      exact (by omega : (openC W' (gridN c n) (W' * H')).length ≤ 1000)
    · rintro e w' ⟨hb, v, rfl, O⟩; exact ⟨hb, v, rfl, O.has⟩
    · rintro e w' ⟨hb, v, rfl, O⟩; exact ⟨hb, v, rfl, O.has⟩
  · refine ⟨0, cf [], 1, by omega, fun W g R => (spec_bad X Y g n c W hX hY hc hm R hv).mono ?_, fun W g R => (impl_bad X Y g n c W hX hY hc hm R hv).mono ?_⟩
    · rintro e w' ⟨hb, v, rfl, O⟩; exact ⟨hb, v, rfl, O.has⟩
    · rintro e w' ⟨hb, v, rfl, O⟩; exact ⟨hb, v, rfl, O.has⟩
end openCells
end Go.Proofs.Ytmbmdplafjminaa
