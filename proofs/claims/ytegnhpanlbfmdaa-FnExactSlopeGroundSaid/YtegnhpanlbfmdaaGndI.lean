/-
  Contracts of the program's small helpers over grounds: sizesOf, areRight, has, numberOf, isRise, isExtent, points, at and set of a relief. Conditions stand at each.
-/
import Derived.Test.YtegnhpanlbfmdaaRows
import Derived.Test.YtegnhpanlbfmdaaGndT
import Derived.Test.YtegnhpanlbfmdaaAt
import Derived.Test.YtegnhpanlbfmdaaIter
import Derived.Deep.RegionHeld3
import Derived.Deep.QuietTactic
import Derived.BigQuiet
import Derived.StillTailTactics
namespace Go.Proofs.Ytegnhpanlbfmdaa
open Go Go.ChangeShapes Go.WideShapes Go.ChangeAt Go.RowKit
set_option linter.unusedVariables false
set_option linter.unusedSimpArgs false
set_option maxRecDepth 100000
set_option maxHeartbeats 2000000

theorem sizesOf_any (X Y : Int) (h : Nat → Int) (s : Value) (w : World) : Calls Try.prog 113 #[.agg (gV X Y h s)] w fun e w' => e = .returned (.agg #[.int .i8 X, .int .i8 Y]) ∧ Below w.heap.size w w' := by
  go_enter Try.func113, Try.ntmps113
  go_wp2
  refine bodyPost_ret (v := .agg #[.int .i8 X, .int .i8 Y]) (by simp [results, Try.results113, go_sem]) rfl ⟨rfl, ?_⟩
  (repeat (first | exact Below.refl _ _ | apply Below.drew | refine Below.setCell ?_ (by first | (simp; done) | (simp; omega)) _ | refine Below.alloc ?_ (by first | (simp; done) | (simp; omega)) _))

theorem isExtent_any (x : Int) (r : Bool) (w : World) (hr : r = true ↔ 1 ≤ x ∧ x ≤ 9) : Calls Try.prog 152 #[.int .i64 x] w fun e w' => e = .returned (.bool r) ∧ w = w' := by
  by_cases h : 1 ≤ x ∧ x ≤ 9
  · obtain rfl : r = true := hr.2 h
    obtain ⟨h1, h2⟩ := h
    clear hr
    go_enter Try.func152, Try.ntmps152
    go_wp2
    go_ret
    exact ⟨rfl, rfl⟩
  · obtain rfl : r = false := by cases r; rfl; exact absurd (hr.1 rfl) h
    by_cases h1 : 1 ≤ x
    · have d1 : decide (x ≤ 9) = false := by simp; omega
      clear hr h
      go_enter Try.func152, Try.ntmps152
      go_wp2
      go_ret
      exact ⟨rfl, rfl⟩
    · have d1 : decide (1 ≤ x) = false := by simp; omega
      clear hr h
      go_enter Try.func152, Try.ntmps152
      go_wp2
      go_ret
      exact ⟨rfl, rfl⟩

theorem isRise_any (x : Int) (r : Bool) (w : World) (hr : r = true ↔ 0 ≤ x ∧ x ≤ 200) : Calls Try.prog 117 #[.int .i64 x] w fun e w' => e = .returned (.bool r) ∧ w = w' := by
  by_cases h : 0 ≤ x ∧ x ≤ 200
  · obtain rfl : r = true := hr.2 h
    obtain ⟨h1, h2⟩ := h
    clear hr
    go_enter Try.func117, Try.ntmps117
    go_wp2
    go_ret
    exact ⟨rfl, rfl⟩
  · obtain rfl : r = false := by cases r; rfl; exact absurd (hr.1 rfl) h
    by_cases h1 : 0 ≤ x
    · have d1 : decide (x ≤ 200) = false := by simp; omega
      clear hr h
      go_enter Try.func117, Try.ntmps117
      go_wp2
      go_ret
      exact ⟨rfl, rfl⟩
    · have d1 : decide (0 ≤ x) = false := by simp; omega
      clear hr h
      go_enter Try.func117, Try.ntmps117
      go_wp2
      go_ret
      exact ⟨rfl, rfl⟩

theorem areRight_any (X Y : Int) (r : Bool) (w : World) (hX : -128 ≤ X ∧ X ≤ 127) (hY : -128 ≤ Y ∧ Y ≤ 127) (hr : r = true ↔ (1 ≤ X ∧ X ≤ 9) ∧ (1 ≤ Y ∧ Y ≤ 9)) : Calls Try.prog 114 #[.agg #[.int .i8 X, .int .i8 Y]] w fun e w' => e = .returned (.bool r) ∧ Below w.heap.size w w' := by
  have w1 : IntKind.i64.wrap X = X := IntWalk.i64_in _ (by omega)
  have w2 : IntKind.i64.wrap Y = Y := IntWalk.i64_in _ (by omega)
  by_cases h1 : 1 ≤ X ∧ X ≤ 9
  · have hy : r = true ↔ (1 ≤ Y ∧ Y ≤ 9) := ⟨fun h => (hr.1 h).2, fun h => hr.2 ⟨h1, h⟩⟩
    have HY := Lib.hid hy
    clear hr hy
    go_enter Try.func114, Try.ntmps114
    go_wp2_with fail
    refine (isExtent_any X true _ ⟨fun _ => h1, fun _ => rfl⟩).mono ?_
    rintro e w' ⟨rfl, rfl⟩
    go_wp2_with fail
    refine (isExtent_any Y r _ HY.out).mono ?_
    rintro e w' ⟨rfl, rfl⟩
    cases r
    · go_wp2
      go_ret
      exact ⟨rfl, al (Below.refl _ _) _⟩
    · go_wp2
      go_ret
      exact ⟨rfl, al (Below.refl _ _) _⟩
  · obtain rfl : r = false := by cases r; rfl; exact absurd (hr.1 rfl).1 h1
    have H1 := Lib.hid h1
    clear hr h1
    go_enter Try.func114, Try.ntmps114
    go_wp2_with fail
    refine (isExtent_any X false _ ⟨(fun k => by cases k), fun k => absurd k H1.out⟩).mono ?_
    rintro e w' ⟨rfl, rfl⟩
    go_wp2
    go_ret
    exact ⟨rfl, al (Below.refl _ _) _⟩

theorem has_any (X Y a b : Int) (r : Bool) (w : World) (hX : -128 ≤ X ∧ X ≤ 127) (hY : -128 ≤ Y ∧ Y ≤ 127) (ha : -128 ≤ a ∧ a ≤ 127) (hb : -128 ≤ b ∧ b ≤ 127) (hr : r = true ↔ gIs X Y a b) : Calls Try.prog 199 #[.agg #[.int .i8 X, .int .i8 Y], .agg #[.int .i8 a, .int .i8 b]] w fun e w' => e = .returned (.bool r) ∧ Below w.heap.size w w' := by
  unfold gIs at hr
  by_cases h : 0 ≤ a ∧ 0 ≤ b ∧ 1 ≤ (1 : Int) ∧ 1 ≤ (1 : Int) ∧ a + 1 ≤ X ∧ b + 1 ≤ Y
  · obtain rfl : r = true := hr.2 ⟨⟨by omega, by omega⟩, by omega, by omega⟩
    have H := Lib.hid h
    clear hr h
    go_enter Try.func199, Try.ntmps199
    go_wp2_with fail
    have B := al (al (Below.refl w.heap.size w) (.cells #[.int .i8 X, .int .i8 Y] 114)) (.cells #[.int .i8 a, .int .i8 b] 40)
    refine (lw_yes X Y a b 1 1 _ hX hY ha hb (by omega) (by omega) H.out).mono ?_
    rintro e w1 ⟨rfl, hb1⟩
    replace B := nxt B hb1
    clear hb1
    go_wp2
    go_ret
    exact ⟨rfl, B⟩
  · obtain rfl : r = false := by
      cases r
      · rfl
      · have := hr.1 rfl; exact absurd ⟨by omega, by omega, by omega, by omega, by omega, by omega⟩ h
    have H := Lib.hid h
    clear hr h
    go_enter Try.func199, Try.ntmps199
    go_wp2_with fail
    have B := al (al (Below.refl w.heap.size w) (.cells #[.int .i8 X, .int .i8 Y] 114)) (.cells #[.int .i8 a, .int .i8 b] 40)
    refine (lw_no X Y a b 1 1 _ hX hY ha hb (by omega) (by omega) H.out).mono ?_
    rintro e w1 ⟨rfl, hb1⟩
    replace B := nxt B hb1
    clear hb1
    go_wp2
    go_ret
    exact ⟨rfl, B⟩

theorem numberOf_any (a b : Int) (w : World) (ha : -128 ≤ a ∧ a ≤ 127) (hb : -128 ≤ b ∧ b ≤ 127) : Calls Try.prog 143 #[.agg #[.int .i8 a, .int .i8 b]] w fun e w' => e = .returned (.int .i64 (b * 9 + a)) ∧ Below w.heap.size w w' := by
  have w1 : IntKind.i64.wrap a = a := IntWalk.i64_in _ (by omega)
  have w2 : IntKind.i64.wrap b = b := IntWalk.i64_in _ (by omega)
  have w3 : wrap64 (b * 9) = b * 9 := IntWalk.wrap64_in _ (by omega)
  have w4 : wrap64 (b * 9 + a) = b * 9 + a := IntWalk.wrap64_in _ (by omega)
  go_enter Try.func143, Try.ntmps143
  go_wp2
  go_ret
  exact ⟨rfl, al (Below.refl _ _) _⟩

theorem reliefAt_any (bq off x y : Nat) (z : Int) (w : World) (hx : x < 9) (hy : y < 9) (hz : -32768 ≤ z ∧ z ≤ 32767) (hc : w.cell? ⟨bq, off + y * 9 + x, none⟩ = some (.int .i16 z)) :
    Calls Try.prog 118 #[.pointer (some ⟨bq, off, none⟩), .agg #[.int .i8 (x : Int), .int .i8 (y : Int)]] w fun e w' => e = .returned (.int .i64 z) ∧ Below w.heap.size w w' := by
  have hbq := block_lt_of_cell hc
  have hxi : (x : Int) < 9 := by omega
  have hyi : (y : Int) < 9 := by omega
  have hx0 : (0 : Int) ≤ (x : Int) := by omega
  have hy0 : (0 : Int) ≤ (y : Int) := by omega
  have wz : IntKind.i64.wrap z = z := IntWalk.i64_in _ (by omega)
  go_enter Try.func118, Try.ntmps118
  go_wp2_with fail
  have X3 := Bx.new w #[.int .i8 (x : Int), .int .i8 (y : Int)] 40
  have B := al (Below.refl w.heap.size w) (.cells #[.int .i8 (x : Int), .int .i8 (y : Int)] 40)
  have hc' := (B.cell (p := ⟨bq, off + y * 9 + x, none⟩) hbq).trans hc
  obtain ⟨W0, hW0⟩ : ∃ W0 : World, W0 = w.alloc (.cells #[.int .i8 (x : Int), .int .i8 (y : Int)] 40) := ⟨_, rfl⟩
  rw [← hW0] at X3 B hc' ⊢
  clear hW0 hc
  have p3 : W0.cell? ⟨w.heap.size, 0, none⟩ = some (.int .i8 (x : Int)) := X3.cell 0
  have q3 : W0.cell? ⟨w.heap.size, 1, none⟩ = some (.int .i8 (y : Int)) := X3.cell 1
  go_quiet (fail)
  go_wp2
  go_ret
  exact ⟨rfl, below_drewN' B _⟩

theorem reliefSet_any (bq off x y : Nat) (v : Int) (z : Value) (w : World) (hx : x < 9) (hy : y < 9) (hz : -32768 ≤ v ∧ v ≤ 32767) (hc : w.cell? ⟨bq, off + y * 9 + x, none⟩ = some z) (hf : w.frozen? ⟨bq, off + y * 9 + x, none⟩ = false) :
    Calls Try.prog 119 #[.pointer (some ⟨bq, off, none⟩), .agg #[.int .i8 (x : Int), .int .i8 (y : Int)], .int .i64 v] w fun e w' => (∃ u, e = .returned u) ∧ ∃ w1, Below w.heap.size w w1 ∧ w' = w1.setCell ⟨bq, off + y * 9 + x, none⟩ (.int .i16 v) := by
  have hbq := block_lt_of_cell hc
  have hxi : (x : Int) < 9 := by omega
  have hyi : (y : Int) < 9 := by omega
  have hx0 : (0 : Int) ≤ (x : Int) := by omega
  have hy0 : (0 : Int) ≤ (y : Int) := by omega
  have wz : IntKind.i16.wrap v = v := IntWalk.i16_in _ (by omega)
  go_enter Try.func119, Try.ntmps119
  go_wp2_with fail
  have X3 := Bx.new w #[.int .i8 (x : Int), .int .i8 (y : Int)] 40
  have B := al (Below.refl w.heap.size w) (.cells #[.int .i8 (x : Int), .int .i8 (y : Int)] 40)
  have hc' := (B.cell (p := ⟨bq, off + y * 9 + x, none⟩) hbq).trans hc
  have hf' := (B.frozen (p := ⟨bq, off + y * 9 + x, none⟩) hbq).trans hf
  obtain ⟨W0, hW0⟩ : ∃ W0 : World, W0 = w.alloc (.cells #[.int .i8 (x : Int), .int .i8 (y : Int)] 40) := ⟨_, rfl⟩
  rw [← hW0] at X3 B hc' hf' ⊢
  clear hW0 hc hf
  have p3 : W0.cell? ⟨w.heap.size, 0, none⟩ = some (.int .i8 (x : Int)) := X3.cell 0
  have q3 : W0.cell? ⟨w.heap.size, 1, none⟩ = some (.int .i8 (y : Int)) := X3.cell 1
  go_still_tail 10, (by kernel_rfl)
  change wpList _ _ _ _ _ W0.drew
  replace hc' : W0.drew.cell? ⟨bq, off + y * 9 + x, none⟩ = some z := hc'
  replace hf' : W0.drew.frozen? ⟨bq, off + y * 9 + x, none⟩ = false := hf'
  replace B := B.drew
  obtain ⟨W1, hW1⟩ : ∃ W1 : World, W1 = W0.drew := ⟨_, rfl⟩
  rw [← hW1] at B hc' hf' ⊢
  clear hW1
  go_wp2
  go_end0
  exact ⟨⟨_, rfl⟩, W1, B, rfl⟩
end Go.Proofs.Ytegnhpanlbfmdaa
