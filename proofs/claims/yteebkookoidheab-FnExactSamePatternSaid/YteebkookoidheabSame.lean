/-
  Contracts of spec.SameSquare, impl.SameSquare and slices.Equal over slabs. Conditions stand at each.
-/
import Derived.Test.YteebkookoidheabRows
import Derived.Test.YteebkookoidheabMark
namespace Go.Proofs.Yteebkookoidheab
open Go Go.ChangeShapes Go.WideShapes Go.ChangeAt Go.RowKit
set_option linter.unusedVariables false
set_option maxRecDepth 100000
set_option maxHeartbeats 2000000

def EqTo (c d : Nat → Int) (m : Nat) : Prop := ∀ j, j < m → c j = d j
theorem EqTo.step {c d : Nat → Int} {k : Nat} (h : EqTo c d (4 * k)) (h0 : c (4 * k) = d (4 * k)) (h1 : c (4 * k + 1) = d (4 * k + 1)) (h2 : c (4 * k + 2) = d (4 * k + 2)) (h3 : c (4 * k + 3) = d (4 * k + 3)) : EqTo c d (4 * (k + 1)) := fun j hj => by
  by_cases e0 : j < 4 * k
  · exact h j e0
  have : j = 4 * k ∨ j = 4 * k + 1 ∨ j = 4 * k + 2 ∨ j = 4 * k + 3 := by omega
  rcases this with rfl | rfl | rfl | rfl <;> assumption

theorem sliceEq_yes (A B : Option Addr) (n ca cb N : Nat) (c d : Nat → Int) (w : World) (hn : n ≤ 1048576) (hN : N ≤ w.heap.size) (hr : Rd8 w N A (4 * n) c) (hs : Rd8 w N B (4 * n) d) (hcd : EqTo c d (4 * n)) :
    Calls Try.prog 57 #[.slice A n ca, .slice B n cb] w fun e w' => e = .returned (.bool true) ∧ Below w.heap.size w w' := by
  have HC := Lib.hid hcd
  clear hcd
  have hnn : ((n : Int) == (n : Int)) = true := by simp
  have hnb : ((n : Int) != (n : Int)) = false := by simp
  go_enter Try.func57, Try.ntmps57
  go_wp2
  go_loopw [13, 5] (fun i u wr => ∃ k : Nat, k ≤ n ∧ i = .int .i64 k ∧ Below w.heap.size w wr) (fun i u wr => n - (intOf i).toNat)
  case atStart => exact ⟨0, by omega, rfl, Below.refl _ _⟩
  case round =>
    obtain ⟨k, hk, rfl, hb⟩ := hrel
    by_cases hlt : k < n
    · obtain ⟨b, off, rfl, hbl, c0, c1, c2, c3⟩ := (hr.below (hb.mono hN)).at4 hlt
      obtain ⟨b', off', rfl, hbl', d0, d1, d2, d3⟩ := (hs.below (hb.mono hN)).at4 hlt
      rw [← HC.out _ (by omega)] at d0 d1 d2 d3
      go_wp2
      go_still_tail 8, (by kernel_rfl)
      change wpList _ _ _ _ _ wr.drew
      go_wp2
      exact ⟨⟨k + 1, by omega, by go_num, hb.drew⟩, by simp [intOf]; omega⟩
    · obtain rfl : k = n := by omega
      go_wp2
      go_ret
      exact ⟨rfl, hb⟩

theorem sliceEq_no (A B : Option Addr) (n ca cb N : Nat) (c d : Nat → Int) (w : World) (hn : n ≤ 1048576) (hN : N ≤ w.heap.size) (hr : Rd8 w N A (4 * n) c) (hs : Rd8 w N B (4 * n) d) (hcd : ¬ EqTo c d (4 * n)) :
    Calls Try.prog 57 #[.slice A n ca, .slice B n cb] w fun e w' => e = .returned (.bool false) ∧ Below w.heap.size w w' := by
  have HC := Lib.hid hcd
  clear hcd
  have hnn : ((n : Int) == (n : Int)) = true := by simp
  have hnb : ((n : Int) != (n : Int)) = false := by simp
  go_enter Try.func57, Try.ntmps57
  go_wp2
  go_loopw [13, 5] (fun i u wr => ∃ k : Nat, k ≤ n ∧ i = .int .i64 k ∧ Below w.heap.size w wr ∧ EqTo c d (4 * k)) (fun i u wr => n - (intOf i).toNat)
  case atStart => exact ⟨0, by omega, rfl, Below.refl _ _, fun j hj => absurd hj (by omega)⟩
  case round =>
    obtain ⟨k, hk, rfl, hb, he⟩ := hrel
    by_cases hlt : k < n
    · obtain ⟨b, off, rfl, hbl, c0, c1, c2, c3⟩ := (hr.below (hb.mono hN)).at4 hlt
      obtain ⟨b', off', rfl, hbl', d0, d1, d2, d3⟩ := (hs.below (hb.mono hN)).at4 hlt
      by_cases h0 : c (4 * k) = d (4 * k)
      · rw [← h0] at d0
        have H0 := Lib.hid h0
        clear h0
        by_cases h1 : c (4 * k + 1) = d (4 * k + 1)
        · rw [← h1] at d1
          have H1 := Lib.hid h1
          clear h1
          by_cases h2 : c (4 * k + 2) = d (4 * k + 2)
          · rw [← h2] at d2
            have H2 := Lib.hid h2
            clear h2
            by_cases h3 : c (4 * k + 3) = d (4 * k + 3)
            · rw [← h3] at d3
              have H3 := Lib.hid h3
              clear h3
              go_wp2
              go_still_tail 8, (by kernel_rfl)
              change wpList _ _ _ _ _ wr.drew
              go_wp2
              exact ⟨⟨k + 1, by omega, by go_num, hb.drew, he.step H0.out H1.out H2.out H3.out⟩, by simp [intOf]; omega⟩
            · go_wp2
              go_still_tail 8, (by kernel_rfl)
              change wpList _ _ _ _ _ wr.drew
              go_wp2
              go_ret
              exact ⟨rfl, hb.drew⟩
          · go_wp2
            go_still_tail 8, (by kernel_rfl)
            change wpList _ _ _ _ _ wr.drew
            go_wp2
            go_ret
            exact ⟨rfl, hb.drew⟩
        · go_wp2
          go_still_tail 8, (by kernel_rfl)
          change wpList _ _ _ _ _ wr.drew
          go_wp2
          go_ret
          exact ⟨rfl, hb.drew⟩
      · go_wp2
        go_still_tail 8, (by kernel_rfl)
        change wpList _ _ _ _ _ wr.drew
        go_wp2
        go_ret
        exact ⟨rfl, hb.drew⟩
    · obtain rfl : k = n := by omega
      exact absurd he HC.out

theorem sliceEq_len (A B : Option Addr) (n m ca cb : Nat) (w : World) (hn : n ≤ 1048576) (hm : m ≤ 1048576) (hne : n ≠ m) :
    Calls Try.prog 57 #[.slice A n ca, .slice B m cb] w fun e w' => e = .returned (.bool false) ∧ Below w.heap.size w w' := by
  have hnn : ((n : Int) == (m : Int)) = false := by simp; omega
  have hnb : ((n : Int) != (m : Int)) = true := by simp; omega
  clear hne
  go_enter Try.func57, Try.ntmps57
  go_wp2
  go_ret
  exact ⟨rfl, Below.refl _ _⟩

end Go.Proofs.Yteebkookoidheab
