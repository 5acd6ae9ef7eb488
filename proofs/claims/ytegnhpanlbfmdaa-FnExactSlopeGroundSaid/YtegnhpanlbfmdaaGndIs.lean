/-
  Contracts of spec.l04Is and spec.l04Before. Conditions stand at each.
-/
import Derived.Test.YtegnhpanlbfmdaaRows
import Derived.Test.YtegnhpanlbfmdaaGndT
import Derived.Test.YtegnhpanlbfmdaaIn
import Derived.Deep.RegionHeld3
import Derived.Deep.QuietTactic
import Derived.BigQuiet
namespace Go.Proofs.Ytegnhpanlbfmdaa
open Go Go.ChangeShapes Go.WideShapes Go.ChangeAt Go.RowKit
set_option linter.unusedVariables false
set_option linter.unusedSimpArgs false
set_option maxRecDepth 100000
set_option maxHeartbeats 2000000

theorem inn (v lo hi : Int) (r : Bool) (w : World) (hr : r = true ↔ lo ≤ v ∧ v ≤ hi) : Calls Try.prog 131 #[.int .i64 v, .int .i64 lo, .int .i64 hi] w fun e w' => e = .returned (.bool r) ∧ w = w' :=
  (in_any v lo hi r w hr).mono fun _ _ h => ⟨h.1, h.2.symm⟩
theorem inn_yes (v lo hi : Int) (w : World) (h1 : lo ≤ v) (h2 : v ≤ hi) : Calls Try.prog 131 #[.int .i64 v, .int .i64 lo, .int .i64 hi] w fun e w' => e = .returned (.bool true) ∧ w = w' :=
  inn v lo hi true w ⟨fun _ => ⟨h1, h2⟩, fun _ => rfl⟩
theorem inn_no (v lo hi : Int) (w : World) (h : ¬ (lo ≤ v ∧ v ≤ hi)) : Calls Try.prog 131 #[.int .i64 v, .int .i64 lo, .int .i64 hi] w fun e w' => e = .returned (.bool false) ∧ w = w' :=
  inn v lo hi false w ⟨(fun h => by cases h), fun k => absurd k h⟩
theorem gis_any (X Y a b : Int) (h : Nat → Int) (s : Value) (bq : Nat) (r : Bool) (w : World) (hX : -128 ≤ X ∧ X ≤ 127) (hY : -128 ≤ Y ∧ Y ≤ 127) (ha : -128 ≤ a ∧ a ≤ 127) (hb : -128 ≤ b ∧ b ≤ 127) (hB : Bx w bq (gV X Y h s) 33) (hr : r = true ↔ gIs X Y a b) :
    Calls Try.prog 123 #[.pointer (some ⟨bq, 0, none⟩), .agg #[.int .i8 a, .int .i8 b]] w fun e w' => e = .returned (.bool r) ∧ Below w.heap.size w w' := by
  have wX : IntKind.i64.wrap (X - 1) = X - 1 := IntWalk.i64_in _ (by omega)
  have wY : IntKind.i64.wrap (Y - 1) = Y - 1 := IntWalk.i64_in _ (by omega)
  have HW := Lib.hid wX
  by_cases h1 : 0 ≤ a ∧ a ≤ X - 1
  · by_cases h2 : 0 ≤ b ∧ b ≤ Y - 1
    · obtain rfl : r = true := hr.2 ⟨h1, h2⟩
      clear hr
      go_enter Try.func123, Try.ntmps123
      go_wp2_with fail
      have X3 := Bx.new w #[.int .i8 a, .int .i8 b] 40
      have X1 := hB.alloc (.cells #[.int .i8 a, .int .i8 b] 40)
      have B := al (Below.refl w.heap.size w) (.cells #[.int .i8 a, .int .i8 b] 40)
      obtain ⟨W0, hW0⟩ : ∃ W0 : World, W0 = w.alloc (.cells #[.int .i8 a, .int .i8 b] 40) := ⟨_, rfl⟩
      rw [← hW0] at X3 X1 B ⊢
      clear hW0 hB
      obtain ⟨l1, p1, q1, r1⟩ := X1.gcells
      have p3 : W0.cell? ⟨w.heap.size, 0, none⟩ = some (.int .i8 a) := X3.cell 0
      have q3 : W0.cell? ⟨w.heap.size, 1, none⟩ = some (.int .i8 b) := X3.cell 1
      go_quiet ((go_at_call 131; exact Calls.quiet_of_same (in_yes _ _ _ _ (by omega) (by omega))))
      go_wp2
      go_ret
      exact ⟨rfl, below_drewN' B _⟩
    · obtain rfl : r = false := by cases r; rfl; exact absurd (hr.1 rfl).2 h2
      clear hr
      go_enter Try.func123, Try.ntmps123
      go_wp2_with fail
      have X3 := Bx.new w #[.int .i8 a, .int .i8 b] 40
      have X1 := hB.alloc (.cells #[.int .i8 a, .int .i8 b] 40)
      have B := al (Below.refl w.heap.size w) (.cells #[.int .i8 a, .int .i8 b] 40)
      obtain ⟨W0, hW0⟩ : ∃ W0 : World, W0 = w.alloc (.cells #[.int .i8 a, .int .i8 b] 40) := ⟨_, rfl⟩
      rw [← hW0] at X3 X1 B ⊢
      clear hW0 hB
      obtain ⟨l1, p1, q1, r1⟩ := X1.gcells
      have p3 : W0.cell? ⟨w.heap.size, 0, none⟩ = some (.int .i8 a) := X3.cell 0
      have q3 : W0.cell? ⟨w.heap.size, 1, none⟩ = some (.int .i8 b) := X3.cell 1
      go_quiet ((first | (go_at_call 131; exact Calls.quiet_of_same (in_yes _ _ _ _ (by omega) (by omega))) | (go_at_call 131; exact Calls.quiet_of_same (in_no _ _ _ _ (by omega)))))
      go_wp2
      go_ret
      exact ⟨rfl, below_drewN' B _⟩
  · have h1' := Lib.hid h1
    obtain rfl : r = false := by cases r; rfl; exact absurd (hr.1 rfl).1 h1
    clear hr
    go_enter Try.func123, Try.ntmps123
    go_wp2_with fail
    have X3 := Bx.new w #[.int .i8 a, .int .i8 b] 40
    have X1 := hB.alloc (.cells #[.int .i8 a, .int .i8 b] 40)
    have B := al (Below.refl w.heap.size w) (.cells #[.int .i8 a, .int .i8 b] 40)
    obtain ⟨W0, hW0⟩ : ∃ W0 : World, W0 = w.alloc (.cells #[.int .i8 a, .int .i8 b] 40) := ⟨_, rfl⟩
    rw [← hW0] at X3 X1 B ⊢
    clear hW0 hB
    obtain ⟨l1, p1, q1, r1⟩ := X1.gcells
    have p3 : W0.cell? ⟨w.heap.size, 0, none⟩ = some (.int .i8 a) := X3.cell 0
    have q3 : W0.cell? ⟨w.heap.size, 1, none⟩ = some (.int .i8 b) := X3.cell 1
    go_quiet ((go_at_call 131; exact Calls.quiet_of_same (in_no _ _ _ _ (by omega))))
    go_wp2
    go_ret
    exact ⟨rfl, below_drewN' B _⟩

theorem gis_yes (X Y a b : Int) (h : Nat → Int) (s : Value) (bq : Nat) (w : World) (hX : -128 ≤ X ∧ X ≤ 127) (hY : -128 ≤ Y ∧ Y ≤ 127) (ha : -128 ≤ a ∧ a ≤ 127) (hb : -128 ≤ b ∧ b ≤ 127) (hB : Bx w bq (gV X Y h s) 33) (hr : gIs X Y a b) :
    Calls Try.prog 123 #[.pointer (some ⟨bq, 0, none⟩), .agg #[.int .i8 a, .int .i8 b]] w fun e w' => e = .returned (.bool true) ∧ Below w.heap.size w w' :=
  gis_any X Y a b h s bq true w hX hY ha hb hB ⟨fun _ => hr, fun _ => rfl⟩
theorem gis_no (X Y a b : Int) (h : Nat → Int) (s : Value) (bq : Nat) (w : World) (hX : -128 ≤ X ∧ X ≤ 127) (hY : -128 ≤ Y ∧ Y ≤ 127) (ha : -128 ≤ a ∧ a ≤ 127) (hb : -128 ≤ b ∧ b ≤ 127) (hB : Bx w bq (gV X Y h s) 33) (hr : ¬ gIs X Y a b) :
    Calls Try.prog 123 #[.pointer (some ⟨bq, 0, none⟩), .agg #[.int .i8 a, .int .i8 b]] w fun e w' => e = .returned (.bool false) ∧ Below w.heap.size w w' :=
  gis_any X Y a b h s bq false w hX hY ha hb hB ⟨(fun h => by cases h), fun h => absurd h hr⟩

theorem gbef_any (a b a' b' : Int) (r : Bool) (w : World) (hr : r = true ↔ gBef a b a' b') :
    Calls Try.prog 197 #[.agg #[.int .i8 a, .int .i8 b], .agg #[.int .i8 a', .int .i8 b']] w fun e w' => e = .returned (.bool r) ∧ Below w.heap.size w w' := by
  unfold gBef at hr
  by_cases h1 : b < b'
  · obtain rfl : r = true := hr.2 (Or.inl h1)
    clear hr
    go_enter Try.func197, Try.ntmps197
    go_wp2
    go_ret
    exact ⟨rfl, al (al (Below.refl _ _) _) _⟩
  by_cases h2 : b = b'
  · have hbb : (b == b') = true := by simpa using h2
    have d1 : decide (b < b') = false := by simpa using h1
    have H2 := Lib.hid h2
    clear h2
    by_cases h3 : a < a'
    · obtain rfl : r = true := hr.2 (Or.inr ⟨H2.out, h3⟩)
      clear hr
      go_enter Try.func197, Try.ntmps197
      go_wp2
      go_ret
      exact ⟨rfl, al (al (Below.refl _ _) _) _⟩
    · obtain rfl : r = false := by cases r; rfl; rcases hr.1 rfl with h | h; exact absurd h h1; exact absurd h.2 h3
      have d3 : decide (a < a') = false := by simpa using h3
      clear hr
      go_enter Try.func197, Try.ntmps197
      go_wp2
      go_ret
      exact ⟨rfl, al (al (Below.refl _ _) _) _⟩
  · obtain rfl : r = false := by cases r; rfl; rcases hr.1 rfl with h | h; exact absurd h h1; exact absurd h.1 h2
    have hbb : (b == b') = false := by simpa using h2
    have d1 : decide (b < b') = false := by simpa using h1
    clear hr h2
    go_enter Try.func197, Try.ntmps197
    go_wp2
    go_ret
    exact ⟨rfl, al (al (Below.refl _ _) _) _⟩
end Go.Proofs.Ytegnhpanlbfmdaa
