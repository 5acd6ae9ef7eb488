/-
  Contracts of spec.SameSlabs, spec.SamePattern and impl.SamePattern. Conditions stand at each.
-/
import Derived.Test.YteebkookoidheabRows
import Derived.Test.YteebkookoidheabSame
import Derived.Test.YteebkookoidheabPat
namespace Go.Proofs.Yteebkookoidheab
open Go Go.ChangeShapes Go.WideShapes Go.ChangeAt Go.RowKit
set_option linter.unusedVariables false
set_option maxRecDepth 100000
set_option maxHeartbeats 2000000

theorem slabsEq_yes (A B : Option Addr) (n ca cb N : Nat) (c d : Nat → Int) (w : World) (hn : n ≤ 1048576) (hN : N ≤ w.heap.size) (hr : Rd8 w N A (4 * n) c) (hs : Rd8 w N B (4 * n) d) (hcd : EqTo c d (4 * n)) :
    Calls Try.prog 56 #[.slice A n ca, .slice B n cb] w fun e w' => e = .returned (.bool true) ∧ Below w.heap.size w w' := by
  have HC := Lib.hid hcd
  clear hcd
  have hnn : ((n : Int) == (n : Int)) = true := by simp
  have hnb : ((n : Int) != (n : Int)) = false := by simp
  go_enter Try.func56, Try.ntmps56
  go_wp2
  go_loopw [5] (fun i wr => ∃ k : Nat, k ≤ n ∧ i = .int .i64 k ∧ Below w.heap.size w wr) (fun i wr => n - (intOf i).toNat)
  case atStart => exact ⟨0, by omega, rfl, Below.refl _ _⟩
  case round =>
    obtain ⟨k, hk, rfl, hb⟩ := hrel
    by_cases hlt : k < n
    · obtain ⟨b, off, rfl, hbl, c0, c1, c2, c3⟩ := (hr.below (hb.mono hN)).at4 hlt
      obtain ⟨b', off', rfl, hbl', d0, d1, d2, d3⟩ := (hs.below (hb.mono hN)).at4 hlt
      rw [← HC.out _ (by omega)] at d0 d1 d2 d3
      go_wp2
      go_still_tail 8, (by kernel_rfl)
      change wpList _ _ _ _ _ wr.drew
      go_wp2
      exact ⟨⟨k + 1, by omega, by go_num, hb.drew⟩, by simp [intOf]; omega⟩
    · obtain rfl : k = n := by omega
      go_wp2
      go_ret
      exact ⟨rfl, hb⟩

theorem slabsEq_no (A B : Option Addr) (n ca cb N : Nat) (c d : Nat → Int) (w : World) (hn : n ≤ 1048576) (hN : N ≤ w.heap.size) (hr : Rd8 w N A (4 * n) c) (hs : Rd8 w N B (4 * n) d) (hcd : ¬ EqTo c d (4 * n)) :
    Calls Try.prog 56 #[.slice A n ca, .slice B n cb] w fun e w' => e = .returned (.bool false) ∧ Below w.heap.size w w' := by
  have HC := Lib.hid hcd
  clear hcd
  have hnn : ((n : Int) == (n : Int)) = true := by simp
  have hnb : ((n : Int) != (n : Int)) = false := by simp
  go_enter Try.func56, Try.ntmps56
  go_wp2
  go_loopw [5] (fun i wr => ∃ k : Nat, k ≤ n ∧ i = .int .i64 k ∧ Below w.heap.size w wr ∧ EqTo c d (4 * k)) (fun i wr => n - (intOf i).toNat)
  case atStart => exact ⟨0, by omega, rfl, Below.refl _ _, fun j hj => absurd hj (by omega)⟩
  case round =>
    obtain ⟨k, hk, rfl, hb, he⟩ := hrel
    by_cases hlt : k < n
    · obtain ⟨b, off, rfl, hbl, c0, c1, c2, c3⟩ := (hr.below (hb.mono hN)).at4 hlt
      obtain ⟨b', off', rfl, hbl', d0, d1, d2, d3⟩ := (hs.below (hb.mono hN)).at4 hlt
      by_cases h0 : c (4 * k) = d (4 * k)
      · rw [← h0] at d0
        have H0 := Lib.hid h0
        clear h0
        by_cases h1 : c (4 * k + 1) = d (4 * k + 1)
        · rw [← h1] at d1
          have H1 := Lib.hid h1
          clear h1
          by_cases h2 : c (4 * k + 2) = d (4 * k + 2)
          · rw [← h2] at d2
            have H2 := Lib.hid h2
            clear h2
            by_cases h3 : c (4 * k + 3) = d (4 * k + 3)
            · rw [← h3] at d3
              have H3 := Lib.hid h3
              clear h3
              go_wp2
              go_still_tail 8, (by kernel_rfl)
              change wpList _ _ _ _ _ wr.drew
              go_wp2
              exact ⟨⟨k + 1, by omega, by go_num, hb.drew, he.step H0.out H1.out H2.out H3.out⟩, by simp [intOf]; omega⟩
            · go_wp2
              go_still_tail 8, (by kernel_rfl)
              change wpList _ _ _ _ _ wr.drew
              go_wp2
              go_ret
              exact ⟨rfl, hb.drew⟩
          · go_wp2
            go_still_tail 8, (by kernel_rfl)
            change wpList _ _ _ _ _ wr.drew
            go_wp2
            go_ret
            exact ⟨rfl, hb.drew⟩
        · go_wp2
          go_still_tail 8, (by kernel_rfl)
          change wpList _ _ _ _ _ wr.drew
          go_wp2
          go_ret
          exact ⟨rfl, hb.drew⟩
      · go_wp2
        go_still_tail 8, (by kernel_rfl)
        change wpList _ _ _ _ _ wr.drew
        go_wp2
        go_ret
        exact ⟨rfl, hb.drew⟩
    · obtain rfl : k = n := by omega
      exact absurd he HC.out

theorem slabsEq_len (A B : Option Addr) (n m ca cb : Nat) (w : World) (hn : n ≤ 1048576) (hm : m ≤ 1048576) (hne : n ≠ m) :
    Calls Try.prog 56 #[.slice A n ca, .slice B m cb] w fun e w' => e = .returned (.bool false) ∧ Below w.heap.size w w' := by
  have hnn : ((n : Int) == (m : Int)) = false := by simp; omega
  have hnb : ((n : Int) != (m : Int)) = true := by simp; omega
  clear hne
  go_enter Try.func56, Try.ntmps56
  go_wp2
  go_ret
  exact ⟨rfl, Below.refl _ _⟩

theorem specP_x (x y z x' y' z' : Int) (A B : Option Addr) (n m ca cb : Nat) (w : World) (hx : x ≠ x') :
    Calls Try.prog 20 #[.agg #[.int .i8 x, .int .i8 y, .int .i8 z, .slice A n ca], .agg #[.int .i8 x', .int .i8 y', .int .i8 z', .slice B m cb]] w fun e w' => e = .returned (.bool false) ∧ Below w.heap.size w w' := by
  have h1 : (x == x') = false := by simpa using hx
  have h2 : (x != x') = true := by simpa using hx
  clear hx
  go_enter Try.func20, Try.ntmps20
  go_wp2
  go_ret
  refine ⟨rfl, ?_⟩
  (repeat (first | exact Below.refl _ _ | apply Below.drew | refine Below.setCell ?_ (by first | (simp; done) | (simp; omega)) _ | refine Below.alloc ?_ (by first | (simp; done) | (simp; omega)) _))
theorem specP_y (x y z y' z' : Int) (A B : Option Addr) (n m ca cb : Nat) (w : World) (hx : y ≠ y') :
    Calls Try.prog 20 #[.agg #[.int .i8 x, .int .i8 y, .int .i8 z, .slice A n ca], .agg #[.int .i8 x, .int .i8 y', .int .i8 z', .slice B m cb]] w fun e w' => e = .returned (.bool false) ∧ Below w.heap.size w w' := by
  have h1 : (y == y') = false := by simpa using hx
  have h2 : (y != y') = true := by simpa using hx
  clear hx
  go_enter Try.func20, Try.ntmps20
  go_wp2
  go_ret
  refine ⟨rfl, ?_⟩
  (repeat (first | exact Below.refl _ _ | apply Below.drew | refine Below.setCell ?_ (by first | (simp; done) | (simp; omega)) _ | refine Below.alloc ?_ (by first | (simp; done) | (simp; omega)) _))
theorem specP_z (x y z z' : Int) (A B : Option Addr) (n m ca cb : Nat) (w : World) (hx : z ≠ z') :
    Calls Try.prog 20 #[.agg #[.int .i8 x, .int .i8 y, .int .i8 z, .slice A n ca], .agg #[.int .i8 x, .int .i8 y, .int .i8 z', .slice B m cb]] w fun e w' => e = .returned (.bool false) ∧ Below w.heap.size w w' := by
  have h1 : (z == z') = false := by simpa using hx
  have h2 : (z != z') = true := by simpa using hx
  clear hx
  go_enter Try.func20, Try.ntmps20
  go_wp2
  go_ret
  refine ⟨rfl, ?_⟩
  (repeat (first | exact Below.refl _ _ | apply Below.drew | refine Below.setCell ?_ (by first | (simp; done) | (simp; omega)) _ | refine Below.alloc ?_ (by first | (simp; done) | (simp; omega)) _))
theorem specP_of (x y z : Int) (A B : Option Addr) (n m ca cb : Nat) (r : Bool) (w : World)
    (hE : ∀ W : World, Below w.heap.size w W → Calls Try.prog 56 #[.slice A n ca, .slice B m cb] W fun e w' => e = .returned (.bool r) ∧ Below W.heap.size W w') :
    Calls Try.prog 20 #[.agg #[.int .i8 x, .int .i8 y, .int .i8 z, .slice A n ca], .agg #[.int .i8 x, .int .i8 y, .int .i8 z, .slice B m cb]] w fun e w' => e = .returned (.bool r) ∧ Below w.heap.size w w' := by
  have HE := Lib.hid hE
  clear hE
  go_enter Try.func20, Try.ntmps20
  go_wp2_with fail
  have hB : Below w.heap.size w ((w.alloc (Obj.cells #[.int .i8 x, .int .i8 y, .int .i8 z, .slice A n ca] 30)).alloc (Obj.cells #[.int .i8 x, .int .i8 y, .int .i8 z, .slice B m cb] 30)) := al (al (Below.refl _ _) _) _
  refine (HE.out _ hB).mono ?_
  rintro e w1 ⟨rfl, hb1⟩
  have hB1 := nxt hB hb1
  clear hB hb1
  go_wp2
  go_ret
  exact ⟨rfl, hB1⟩
theorem implP_x (x y z x' y' z' : Int) (A B : Option Addr) (n m ca cb : Nat) (w : World) (hx : x ≠ x') :
    Calls Try.prog 21 #[.agg #[.int .i8 x, .int .i8 y, .int .i8 z, .slice A n ca], .agg #[.int .i8 x', .int .i8 y', .int .i8 z', .slice B m cb]] w fun e w' => e = .returned (.bool false) ∧ Below w.heap.size w w' := by
  have h1 : (x == x') = false := by simpa using hx
  have h2 : (x != x') = true := by simpa using hx
  clear hx
  go_enter Try.func21, Try.ntmps21
  go_wp2
  go_ret
  refine ⟨rfl, ?_⟩
  (repeat (first | exact Below.refl _ _ | apply Below.drew | refine Below.setCell ?_ (by first | (simp; done) | (simp; omega)) _ | refine Below.alloc ?_ (by first | (simp; done) | (simp; omega)) _))
theorem implP_y (x y z y' z' : Int) (A B : Option Addr) (n m ca cb : Nat) (w : World) (hx : y ≠ y') :
    Calls Try.prog 21 #[.agg #[.int .i8 x, .int .i8 y, .int .i8 z, .slice A n ca], .agg #[.int .i8 x, .int .i8 y', .int .i8 z', .slice B m cb]] w fun e w' => e = .returned (.bool false) ∧ Below w.heap.size w w' := by
  have h1 : (y == y') = false := by simpa using hx
  have h2 : (y != y') = true := by simpa using hx
  clear hx
  go_enter Try.func21, Try.ntmps21
  go_wp2
  go_ret
  refine ⟨rfl, ?_⟩
  (repeat (first | exact Below.refl _ _ | apply Below.drew | refine Below.setCell ?_ (by first | (simp; done) | (simp; omega)) _ | refine Below.alloc ?_ (by first | (simp; done) | (simp; omega)) _))
theorem implP_z (x y z z' : Int) (A B : Option Addr) (n m ca cb : Nat) (w : World) (hx : z ≠ z') :
    Calls Try.prog 21 #[.agg #[.int .i8 x, .int .i8 y, .int .i8 z, .slice A n ca], .agg #[.int .i8 x, .int .i8 y, .int .i8 z', .slice B m cb]] w fun e w' => e = .returned (.bool false) ∧ Below w.heap.size w w' := by
  have h1 : (z == z') = false := by simpa using hx
  have h2 : (z != z') = true := by simpa using hx
  clear hx
  go_enter Try.func21, Try.ntmps21
  go_wp2
  go_ret
  refine ⟨rfl, ?_⟩
  (repeat (first | exact Below.refl _ _ | apply Below.drew | refine Below.setCell ?_ (by first | (simp; done) | (simp; omega)) _ | refine Below.alloc ?_ (by first | (simp; done) | (simp; omega)) _))
theorem implP_of (x y z : Int) (A B : Option Addr) (n m ca cb : Nat) (r : Bool) (w : World)
    (hE : ∀ W : World, Below w.heap.size w W → Calls Try.prog 57 #[.slice A n ca, .slice B m cb] W fun e w' => e = .returned (.bool r) ∧ Below W.heap.size W w') :
    Calls Try.prog 21 #[.agg #[.int .i8 x, .int .i8 y, .int .i8 z, .slice A n ca], .agg #[.int .i8 x, .int .i8 y, .int .i8 z, .slice B m cb]] w fun e w' => e = .returned (.bool r) ∧ Below w.heap.size w w' := by
  have HE := Lib.hid hE
  clear hE
  go_enter Try.func21, Try.ntmps21
  go_wp2_with fail
  have hB : Below w.heap.size w ((w.alloc (Obj.cells #[.int .i8 x, .int .i8 y, .int .i8 z, .slice A n ca] 30)).alloc (Obj.cells #[.int .i8 x, .int .i8 y, .int .i8 z, .slice B m cb] 30)) := al (al (Below.refl _ _) _) _
  refine (HE.out _ hB).mono ?_
  rintro e w1 ⟨rfl, hb1⟩
  have hB1 := nxt hB hb1
  clear hB hb1
  go_wp2
  go_ret
  exact ⟨rfl, hB1⟩
end Go.Proofs.Yteebkookoidheab
