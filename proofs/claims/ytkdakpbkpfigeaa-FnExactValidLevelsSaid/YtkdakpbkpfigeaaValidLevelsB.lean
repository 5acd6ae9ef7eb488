/-
  Both sides of ValidLevels answer the same. Conditions stand at each.
-/
import Derived.Test.YtkdakpbkpfigeaaRows
import Derived.Test.YtkdakpbkpfigeaaLev
namespace Go.Proofs.Ytkdakpbkpfigeaa.validLevels
open Go Go.ChangeShapes Go.WideShapes Go.ChangeAt Go.RowKit
set_option linter.unusedVariables false
set_option linter.unusedSimpArgs false
set_option maxRecDepth 100000
set_option maxHeartbeats 4000000
theorem spec_any (X Y : Int) (g n : Nat) (c : Nat → Int) (A : Option Addr) (m cap : Nat) (d : Nat → Int) (r : Bool) (w : World) (hX : -128 ≤ X ∧ X ≤ 127) (hY : -128 ≤ Y ∧ Y ≤ 127) (hc : ∀ j, -128 ≤ c j ∧ c j ≤ 127) (hm : n ≤ 1048576) (hmm : m ≤ 1048576)
    (hrow : w.rowIs g 110 (4 * n) (fun j => .int .i8 (c j))) (hr : RdK .i64 w w.heap.size A m d) (hrr : r = true ↔ NumsOk X Y n c m d (-100) 100) :
    Calls Try.prog 15 #[.agg #[.int .i8 X, .int .i8 Y, .slice (some ⟨g, 0, none⟩) n n], .slice A m cap] w (BPost r w) := by
  have HQ := Sq.new w X Y (.slice (some ⟨g, 0, none⟩) n n) 31
  have B := al (Below.refl w.heap.size w) (.cells #[.int .i8 X, .int .i8 Y, .slice (some ⟨g, 0, none⟩) n n] 31)
  have H := Lib.hid (specLevels_any X Y w.heap.size g n c A m cap d r _ hX hY hc hm hmm HQ (hrow.of_block (B.block _ hrow.lt)) ((hr.below B).mono B.size) hrr)
  clear hr hrr hc hrow HQ
  go_enter Try.func15, Try.ntmps15
  go_wp2_with fail
  refine H.out.mono ?_
  rintro e w1 ⟨hb, rfl⟩
  replace B := nxt B hb
  clear hb
  go_wp2
  go_ret
  exact ⟨B, rfl⟩
theorem both (X Y : Int) (n : Nat) (c : Nat → Int) (m : Nat) (d : Nat → Int) (hX : -128 ≤ X ∧ X ≤ 127) (hY : -128 ≤ Y ∧ Y ≤ 127) (hc : ∀ j, -128 ≤ c j ∧ c j ≤ 127) (hn : n ≤ 1048576) (hd : ∀ j, (Lit.int .i64 (d j)).wf = true) (hm : m ≤ 1048576) :
    ∃ (z0 : Bool),
      (∀ (W : World) (G0 G1 : Nat), Ab W G0 n c → Ar W G1 m d → Calls Try.prog 15 #[.agg #[.int .i8 X, .int .i8 Y, .slice (some ⟨G0, 0, none⟩) n n], .slice (some ⟨G1, 0, none⟩) m m] W fun e w' => Below W.heap.size W w' ∧ e = .returned (.bool z0)) ∧
      (∀ (W : World) (G0 G1 : Nat), Ab W G0 n c → Ar W G1 m d → Calls Try.prog 18 #[.agg #[.int .i8 X, .int .i8 Y, .slice (some ⟨G0, 0, none⟩) n n], .slice (some ⟨G1, 0, none⟩) m m] W fun e w' => Below W.heap.size W w' ∧ e = .returned (.bool z0)) := by
  obtain ⟨z, hz⟩ : ∃ r : Bool, r = true ↔ NumsOk X Y n c m d (-100) 100 := by
    by_cases h : NumsOk X Y n c m d (-100) 100
    · exact ⟨true, by simp [h]⟩
    · exact ⟨false, by simp [h]⟩
  exact ⟨z, fun W G0 G1 h0 h1 => spec_any X Y G0 n c _ m m d z W hX hY hc hn hm h0.row h1.rd hz, fun W G0 G1 h0 h1 => implLevels_any X Y G0 n c _ m m d z W hX hY hc hn hm h0.row h1.rd hz⟩
end Go.Proofs.Ytkdakpbkpfigeaa.validLevels
