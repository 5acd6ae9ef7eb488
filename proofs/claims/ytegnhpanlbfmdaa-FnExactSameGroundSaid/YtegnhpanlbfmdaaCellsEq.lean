/-
  Contracts of spec.SameCells and slices.Equal over cells. Conditions stand at each.
-/
import Derived.Test.YtegnhpanlbfmdaaRows
import Derived.Test.YtegnhpanlbfmdaaCellL
import Derived.Deep.QuietTactic
import Derived.BigQuiet
namespace Go.Proofs.Ytegnhpanlbfmdaa
open Go Go.ChangeShapes Go.WideShapes Go.ChangeAt Go.RowKit
set_option linter.unusedVariables false
set_option linter.unusedSimpArgs false
set_option maxRecDepth 100000
set_option maxHeartbeats 2000000

def EqT (c d : Nat → Int) (m : Nat) : Prop := ∀ j, j < m → c j = d j
theorem EqT.step {c d : Nat → Int} {k : Nat} (h : EqT c d (2 * k)) (h0 : c (2 * k) = d (2 * k)) (h1 : c (2 * k + 1) = d (2 * k + 1)) : EqT c d (2 * (k + 1)) := fun j hj => by
  by_cases e0 : j < 2 * k
  · exact h j e0
  have : j = 2 * k ∨ j = 2 * k + 1 := by omega
  rcases this with rfl | rfl <;> assumption

theorem sameCells_yes (A B : Option Addr) (n ca cb N : Nat) (c d : Nat → Int) (w : World) (hn : n ≤ 1048576) (hN : N ≤ w.heap.size) (hr : RdK .i8 w N A (2 * n) c) (hs : RdK .i8 w N B (2 * n) d) (hcd : ∀ j, j < 2 * n → c j = d j) :
    Calls Try.prog 120 #[.slice A n ca, .slice B n cb] w fun e w' => e = .returned (.bool true) ∧ Below w.heap.size w w' := by
  have HC := Lib.hid hcd
  clear hcd
  have hnn : ((n : Int) == (n : Int)) = true := by simp
  have hnb : ((n : Int) != (n : Int)) = false := by simp
  go_enter Try.func120, Try.ntmps120
  go_wp2
  go_loopw [5] (fun t5 wr => ∃ k : Nat, k ≤ n ∧ t5 = .int .i64 k ∧ Below w.heap.size w wr) (fun t5 wr => n - (intOf t5).toNat)
  case atStart => exact ⟨0, by omega, rfl, Below.refl _ _⟩
  case round =>
    obtain ⟨k, hk, rfl, hb⟩ := hrel
    by_cases hlt : k < n
    · obtain ⟨b, off, rfl, hbl, c0, c1⟩ := rdCell (hr.below (hb.mono hN)) hlt
      obtain ⟨b', off', rfl, hbl', d0, d1⟩ := rdCell (hs.below (hb.mono hN)) hlt
      rw [← HC.out _ (by omega)] at d0 d1
      have e0 : (c (2 * k) == c (2 * k)) = true := by simp
      have e1 : (c (2 * k + 1) == c (2 * k + 1)) = true := by simp
      go_wp2
      go_quiet (fail)
      go_wp2
      exact ⟨⟨k + 1, by omega, by go_num, below_drewN' hb _⟩, by simp [intOf]; omega⟩
    · obtain rfl : k = n := by omega
      go_wp2
      go_ret
      exact ⟨rfl, hb⟩

theorem sameCells_no (A B : Option Addr) (n ca cb N : Nat) (c d : Nat → Int) (w : World) (hn : n ≤ 1048576) (hN : N ≤ w.heap.size) (hr : RdK .i8 w N A (2 * n) c) (hs : RdK .i8 w N B (2 * n) d) (hcd : ¬ ∀ j, j < 2 * n → c j = d j) :
    Calls Try.prog 120 #[.slice A n ca, .slice B n cb] w fun e w' => e = .returned (.bool false) ∧ Below w.heap.size w w' := by
  have HC := Lib.hid hcd
  clear hcd
  have hnn : ((n : Int) == (n : Int)) = true := by simp
  have hnb : ((n : Int) != (n : Int)) = false := by simp
  go_enter Try.func120, Try.ntmps120
  go_wp2
  go_loopw [5] (fun t5 wr => ∃ k : Nat, k ≤ n ∧ t5 = .int .i64 k ∧ Below w.heap.size w wr ∧ EqT c d (2 * k)) (fun t5 wr => n - (intOf t5).toNat)
  case atStart => exact ⟨0, by omega, rfl, Below.refl _ _, fun j hj => absurd hj (by omega)⟩
  case round =>
    obtain ⟨k, hk, rfl, hb, he⟩ := hrel
    have HE := Lib.hid he
    clear he
    by_cases hlt : k < n
    · obtain ⟨b, off, rfl, hbl, c0, c1⟩ := rdCell (hr.below (hb.mono hN)) hlt
      obtain ⟨b', off', rfl, hbl', d0, d1⟩ := rdCell (hs.below (hb.mono hN)) hlt
      by_cases h0 : c (2 * k) = d (2 * k)
      · have e0 : (c (2 * k) == d (2 * k)) = true := by simpa using h0
        have H0 := Lib.hid h0
        clear h0
        by_cases h1 : c (2 * k + 1) = d (2 * k + 1)
        · have e1 : (c (2 * k + 1) == d (2 * k + 1)) = true := by simpa using h1
          have H1 := Lib.hid h1
          clear h1
          go_wp2
          go_quiet (fail)
          go_wp2
          exact ⟨⟨k + 1, by omega, by go_num, below_drewN' hb _, HE.out.step H0.out H1.out⟩, by simp [intOf]; omega⟩
        · have e1 : (c (2 * k + 1) == d (2 * k + 1)) = false := by simpa using h1
          clear h1
          go_wp2
          go_quiet (fail)
          go_wp2
          go_ret
          exact ⟨rfl, below_drewN' hb _⟩
      · have e0 : (c (2 * k) == d (2 * k)) = false := by simpa using h0
        clear h0
        go_wp2
        go_quiet (fail)
        go_wp2
        go_ret
        exact ⟨rfl, below_drewN' hb _⟩
    · obtain rfl : k = n := by omega
      exact absurd HE.out HC.out

theorem sameCells_len (A B : Option Addr) (n m ca cb : Nat) (w : World) (hn : n ≤ 1048576) (hm : m ≤ 1048576) (hne : n ≠ m) :
    Calls Try.prog 120 #[.slice A n ca, .slice B m cb] w fun e w' => e = .returned (.bool false) ∧ Below w.heap.size w w' := by
  have hnn : ((n : Int) == (m : Int)) = false := by simp; omega
  have hnb : ((n : Int) != (m : Int)) = true := by simp; omega
  clear hne
  go_enter Try.func120, Try.ntmps120
  go_wp2
  go_ret
  exact ⟨rfl, Below.refl _ _⟩

theorem sameCells_any (A B : Option Addr) (n m ca cb N : Nat) (c d : Nat → Int) (r : Bool) (w : World) (hn : n ≤ 1048576) (hm : m ≤ 1048576) (hN : N ≤ w.heap.size) (hr : RdK .i8 w N A (2 * n) c) (hs : RdK .i8 w N B (2 * m) d) (hiff : r = true ↔ n = m ∧ ∀ j, j < 2 * n → c j = d j) :
    Calls Try.prog 120 #[.slice A n ca, .slice B m cb] w fun e w' => e = .returned (.bool r) ∧ Below w.heap.size w w' := by
  by_cases e : n = m
  · subst e
    by_cases h : ∀ j, j < 2 * n → c j = d j
    · obtain rfl : r = true := hiff.2 ⟨rfl, h⟩
      exact sameCells_yes A B n ca cb N c d w hn hN hr hs h
    · obtain rfl : r = false := by cases r; rfl; exact absurd (hiff.1 rfl).2 h
      exact sameCells_no A B n ca cb N c d w hn hN hr hs h
  · obtain rfl : r = false := by cases r; rfl; exact absurd (hiff.1 rfl).1 e
    exact sameCells_len A B n m ca cb w hn hm e

theorem sliceEqC_yes (A B : Option Addr) (n ca cb N : Nat) (c d : Nat → Int) (w : World) (hn : n ≤ 1048576) (hN : N ≤ w.heap.size) (hr : RdK .i8 w N A (2 * n) c) (hs : RdK .i8 w N B (2 * n) d) (hcd : ∀ j, j < 2 * n → c j = d j) :
    Calls Try.prog 121 #[.slice A n ca, .slice B n cb] w fun e w' => e = .returned (.bool true) ∧ Below w.heap.size w w' := by
  have HC := Lib.hid hcd
  clear hcd
  have hnn : ((n : Int) == (n : Int)) = true := by simp
  have hnb : ((n : Int) != (n : Int)) = false := by simp
  go_enter Try.func121, Try.ntmps121
  go_wp2
  go_loopw [13, 5] (fun t13 t5 wr => ∃ k : Nat, k ≤ n ∧ t13 = .int .i64 k ∧ Below w.heap.size w wr) (fun t13 t5 wr => n - (intOf t13).toNat)
  case atStart => exact ⟨0, by omega, rfl, Below.refl _ _⟩
  case round =>
    obtain ⟨k, hk, rfl, hb⟩ := hrel
    by_cases hlt : k < n
    · obtain ⟨b, off, rfl, hbl, c0, c1⟩ := rdCell (hr.below (hb.mono hN)) hlt
      obtain ⟨b', off', rfl, hbl', d0, d1⟩ := rdCell (hs.below (hb.mono hN)) hlt
      rw [← HC.out _ (by omega)] at d0 d1
      have e0 : (c (2 * k) == c (2 * k)) = true := by simp
      have e1 : (c (2 * k + 1) == c (2 * k + 1)) = true := by simp
      go_wp2
      go_quiet (fail)
      go_wp2
      exact ⟨⟨k + 1, by omega, by go_num, below_drewN' hb _⟩, by simp [intOf]; omega⟩
    · obtain rfl : k = n := by omega
      go_wp2
      go_ret
      exact ⟨rfl, hb⟩

theorem sliceEqC_no (A B : Option Addr) (n ca cb N : Nat) (c d : Nat → Int) (w : World) (hn : n ≤ 1048576) (hN : N ≤ w.heap.size) (hr : RdK .i8 w N A (2 * n) c) (hs : RdK .i8 w N B (2 * n) d) (hcd : ¬ ∀ j, j < 2 * n → c j = d j) :
    Calls Try.prog 121 #[.slice A n ca, .slice B n cb] w fun e w' => e = .returned (.bool false) ∧ Below w.heap.size w w' := by
  have HC := Lib.hid hcd
  clear hcd
  have hnn : ((n : Int) == (n : Int)) = true := by simp
  have hnb : ((n : Int) != (n : Int)) = false := by simp
  go_enter Try.func121, Try.ntmps121
  go_wp2
  go_loopw [13, 5] (fun t13 t5 wr => ∃ k : Nat, k ≤ n ∧ t13 = .int .i64 k ∧ Below w.heap.size w wr ∧ EqT c d (2 * k)) (fun t13 t5 wr => n - (intOf t13).toNat)
  case atStart => exact ⟨0, by omega, rfl, Below.refl _ _, fun j hj => absurd hj (by omega)⟩
  case round =>
    obtain ⟨k, hk, rfl, hb, he⟩ := hrel
    have HE := Lib.hid he
    clear he
    by_cases hlt : k < n
    · obtain ⟨b, off, rfl, hbl, c0, c1⟩ := rdCell (hr.below (hb.mono hN)) hlt
      obtain ⟨b', off', rfl, hbl', d0, d1⟩ := rdCell (hs.below (hb.mono hN)) hlt
      by_cases h0 : c (2 * k) = d (2 * k)
      · have e0 : (c (2 * k) == d (2 * k)) = true := by simpa using h0
        have H0 := Lib.hid h0
        clear h0
        by_cases h1 : c (2 * k + 1) = d (2 * k + 1)
        · have e1 : (c (2 * k + 1) == d (2 * k + 1)) = true := by simpa using h1
          have H1 := Lib.hid h1
          clear h1
          go_wp2
          go_quiet (fail)
          go_wp2
          exact ⟨⟨k + 1, by omega, by go_num, below_drewN' hb _, HE.out.step H0.out H1.out⟩, by simp [intOf]; omega⟩
        · have e1 : (c (2 * k + 1) == d (2 * k + 1)) = false := by simpa using h1
          clear h1
          go_wp2
          go_quiet (fail)
          go_wp2
          go_ret
          exact ⟨rfl, below_drewN' hb _⟩
      · have e0 : (c (2 * k) == d (2 * k)) = false := by simpa using h0
        clear h0
        go_wp2
        go_quiet (fail)
        go_wp2
        go_ret
        exact ⟨rfl, below_drewN' hb _⟩
    · obtain rfl : k = n := by omega
      exact absurd HE.out HC.out

theorem sliceEqC_len (A B : Option Addr) (n m ca cb : Nat) (w : World) (hn : n ≤ 1048576) (hm : m ≤ 1048576) (hne : n ≠ m) :
    Calls Try.prog 121 #[.slice A n ca, .slice B m cb] w fun e w' => e = .returned (.bool false) ∧ Below w.heap.size w w' := by
  have hnn : ((n : Int) == (m : Int)) = false := by simp; omega
  have hnb : ((n : Int) != (m : Int)) = true := by simp; omega
  clear hne
  go_enter Try.func121, Try.ntmps121
  go_wp2
  go_ret
  exact ⟨rfl, Below.refl _ _⟩

theorem sliceEqC_any (A B : Option Addr) (n m ca cb N : Nat) (c d : Nat → Int) (r : Bool) (w : World) (hn : n ≤ 1048576) (hm : m ≤ 1048576) (hN : N ≤ w.heap.size) (hr : RdK .i8 w N A (2 * n) c) (hs : RdK .i8 w N B (2 * m) d) (hiff : r = true ↔ n = m ∧ ∀ j, j < 2 * n → c j = d j) :
    Calls Try.prog 121 #[.slice A n ca, .slice B m cb] w fun e w' => e = .returned (.bool r) ∧ Below w.heap.size w w' := by
  by_cases e : n = m
  · subst e
    by_cases h : ∀ j, j < 2 * n → c j = d j
    · obtain rfl : r = true := hiff.2 ⟨rfl, h⟩
      exact sliceEqC_yes A B n ca cb N c d w hn hN hr hs h
    · obtain rfl : r = false := by cases r; rfl; exact absurd (hiff.1 rfl).2 h
      exact sliceEqC_no A B n ca cb N c d w hn hN hr hs h
  · obtain rfl : r = false := by cases r; rfl; exact absurd (hiff.1 rfl).1 e
    exact sliceEqC_len A B n m ca cb w hn hm e
end Go.Proofs.Ytegnhpanlbfmdaa
