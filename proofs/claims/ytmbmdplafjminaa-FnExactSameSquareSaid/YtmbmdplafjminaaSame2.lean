/-
  Contracts of spec.SameSquare and impl.SameSquare where the squares differ, and of impl.SameSquare where they are the same. Conditions stand at each.
-/
import Derived.Test.YtmbmdplafjminaaRows
import Derived.Test.YtmbmdplafjminaaSame
namespace Go.Proofs.Ytmbmdplafjminaa
open Go Go.ChangeShapes Go.WideShapes Go.ChangeAt Go.RowKit
set_option linter.unusedVariables false
set_option maxRecDepth 100000
set_option maxHeartbeats 2000000

theorem specSame_no (x y : Int) (A B : Option Addr) (n ca cb N : Nat) (c d : Nat → Int) (w : World) (hn : n ≤ 1048576) (hN : N ≤ w.heap.size) (hr : Rd8 w N A (4 * n) c) (hs : Rd8 w N B (4 * n) d) (hcd : ¬ EqTo c d (4 * n)) :
    Calls Try.prog 22 #[.agg #[.int .i8 x, .int .i8 y, .slice A n ca], .agg #[.int .i8 x, .int .i8 y, .slice B n cb]] w fun e w' => e = .returned (.bool false) ∧ Below w.heap.size w w' := by
  have HC := Lib.hid hcd
  clear hcd
  have hnn : ((n : Int) == (n : Int)) = true := by simp
  have hnb : ((n : Int) != (n : Int)) = false := by simp
  go_enter Try.func22, Try.ntmps22
  go_wp2
  have hw0 : ∃ W0 : World, W0 = ((w.alloc (.cells #[.int .i8 x, .int .i8 y, .slice A n ca] 32)).alloc (.cells #[.int .i8 x, .int .i8 y, .slice B n cb] 32)) := ⟨_, rfl⟩
  obtain ⟨W0, hW0⟩ := hw0
  have H2 : Sq W0 w.heap.size x y (.slice A n ca) := by rw [hW0]; exact (Sq.new _ _ _ _ _).alloc _
  have H3 : Sq W0 (w.heap.size + 1) x y (.slice B n cb) := by rw [hW0]; have := Sq.new (w.alloc (.cells #[.int .i8 x, .int .i8 y, .slice A n ca] 32)) x y (.slice B n cb) 32; rwa [World.size_alloc] at this
  have hB0 : Below w.heap.size w W0 := by rw [hW0]; exact al (al (Below.refl _ _) _) _
  rw [← hW0]
  clear hW0
  go_loopw [5] (fun i wr => ∃ k : Nat, k ≤ n ∧ i = .int .i64 k ∧ Below w.heap.size w wr ∧ Sq wr w.heap.size x y (.slice A n ca) ∧ Sq wr (w.heap.size + 1) x y (.slice B n cb) ∧ EqTo c d (4 * k)) (fun i wr => n - (intOf i).toNat)
  case atStart => exact ⟨0, by omega, rfl, hB0, H2, H3, fun j hj => absurd hj (by omega)⟩
  case round =>
    clear H2 H3
    obtain ⟨k, hk, rfl, hb, H2, H3, he⟩ := hrel
    obtain ⟨l2, p2, q2, r2⟩ := id H2
    obtain ⟨l3, p3, q3, r3⟩ := id H3
    by_cases hlt : k < n
    · obtain ⟨b, off, rfl, hbl, c0, c1, c2, c3⟩ := (hr.below (hb.mono hN)).at4 hlt
      obtain ⟨b', off', rfl, hbl', d0, d1, d2, d3⟩ := (hs.below (hb.mono hN)).at4 hlt
      by_cases h0 : c (4 * k) = d (4 * k)
      · rw [← h0] at d0
        have H0 := Lib.hid h0
        clear h0
        by_cases h1 : c (4 * k + 1) = d (4 * k + 1)
        · rw [← h1] at d1
          have H1 := Lib.hid h1
          clear h1
          by_cases h2 : c (4 * k + 2) = d (4 * k + 2)
          · rw [← h2] at d2
            have HH2 := Lib.hid h2
            clear h2
            by_cases h3 : c (4 * k + 3) = d (4 * k + 3)
            · rw [← h3] at d3
              have HH3 := Lib.hid h3
              clear h3
              go_wp2
              go_still_tail 10, (by kernel_rfl)
              change wpList _ _ _ _ _ wr.drew
              go_wp2
              exact ⟨⟨k + 1, by omega, by go_num, hb.drew, H2, H3, he.step H0.out H1.out HH2.out HH3.out⟩, by simp [intOf]; omega⟩
            · go_wp2
              go_still_tail 10, (by kernel_rfl)
              change wpList _ _ _ _ _ wr.drew
              go_wp2
              go_ret
              exact ⟨rfl, hb.drew⟩
          · go_wp2
            go_still_tail 10, (by kernel_rfl)
            change wpList _ _ _ _ _ wr.drew
            go_wp2
            go_ret
            exact ⟨rfl, hb.drew⟩
        · go_wp2
          go_still_tail 10, (by kernel_rfl)
          change wpList _ _ _ _ _ wr.drew
          go_wp2
          go_ret
          exact ⟨rfl, hb.drew⟩
      · go_wp2
        go_still_tail 10, (by kernel_rfl)
        change wpList _ _ _ _ _ wr.drew
        go_wp2
        go_ret
        exact ⟨rfl, hb.drew⟩
    · obtain rfl : k = n := by omega
      exact absurd he HC.out

theorem specSame_x (x y x' y' : Int) (A B : Option Addr) (n m ca cb : Nat) (w : World) (hx : x ≠ x') :
    Calls Try.prog 22 #[.agg #[.int .i8 x, .int .i8 y, .slice A n ca], .agg #[.int .i8 x', .int .i8 y', .slice B m cb]] w fun e w' => e = .returned (.bool false) ∧ Below w.heap.size w w' := by
  have h1 : (x == x') = false := by simpa using hx
  have h2 : (x != x') = true := by simpa using hx
  clear hx
  go_enter Try.func22, Try.ntmps22
  go_wp2
  go_ret
  refine ⟨rfl, ?_⟩
  (repeat (first | exact Below.refl _ _ | apply Below.drew | refine Below.setCell ?_ (by first | (simp; done) | (simp; omega)) _ | refine Below.alloc ?_ (by first | (simp; done) | (simp; omega)) _))

theorem specSame_y (x y y' : Int) (A B : Option Addr) (n m ca cb : Nat) (w : World) (hx : y ≠ y') :
    Calls Try.prog 22 #[.agg #[.int .i8 x, .int .i8 y, .slice A n ca], .agg #[.int .i8 x, .int .i8 y', .slice B m cb]] w fun e w' => e = .returned (.bool false) ∧ Below w.heap.size w w' := by
  have h1 : (y == y') = false := by simpa using hx
  have h2 : (y != y') = true := by simpa using hx
  clear hx
  go_enter Try.func22, Try.ntmps22
  go_wp2
  go_ret
  refine ⟨rfl, ?_⟩
  (repeat (first | exact Below.refl _ _ | apply Below.drew | refine Below.setCell ?_ (by first | (simp; done) | (simp; omega)) _ | refine Below.alloc ?_ (by first | (simp; done) | (simp; omega)) _))

theorem implSame_x (x y x' y' : Int) (A B : Option Addr) (n m ca cb : Nat) (w : World) (hx : x ≠ x') :
    Calls Try.prog 23 #[.agg #[.int .i8 x, .int .i8 y, .slice A n ca], .agg #[.int .i8 x', .int .i8 y', .slice B m cb]] w fun e w' => e = .returned (.bool false) ∧ Below w.heap.size w w' := by
  have h1 : (x == x') = false := by simpa using hx
  have h2 : (x != x') = true := by simpa using hx
  clear hx
  go_enter Try.func23, Try.ntmps23
  go_wp2
  go_ret
  refine ⟨rfl, ?_⟩
  (repeat (first | exact Below.refl _ _ | apply Below.drew | refine Below.setCell ?_ (by first | (simp; done) | (simp; omega)) _ | refine Below.alloc ?_ (by first | (simp; done) | (simp; omega)) _))

theorem implSame_y (x y y' : Int) (A B : Option Addr) (n m ca cb : Nat) (w : World) (hx : y ≠ y') :
    Calls Try.prog 23 #[.agg #[.int .i8 x, .int .i8 y, .slice A n ca], .agg #[.int .i8 x, .int .i8 y', .slice B m cb]] w fun e w' => e = .returned (.bool false) ∧ Below w.heap.size w w' := by
  have h1 : (y == y') = false := by simpa using hx
  have h2 : (y != y') = true := by simpa using hx
  clear hx
  go_enter Try.func23, Try.ntmps23
  go_wp2
  go_ret
  refine ⟨rfl, ?_⟩
  (repeat (first | exact Below.refl _ _ | apply Below.drew | refine Below.setCell ?_ (by first | (simp; done) | (simp; omega)) _ | refine Below.alloc ?_ (by first | (simp; done) | (simp; omega)) _))

theorem specSame_n (x y : Int) (A B : Option Addr) (n m ca cb : Nat) (w : World) (hn : n ≤ 1048576) (hm : m ≤ 1048576) (hne : n ≠ m) :
    Calls Try.prog 22 #[.agg #[.int .i8 x, .int .i8 y, .slice A n ca], .agg #[.int .i8 x, .int .i8 y, .slice B m cb]] w fun e w' => e = .returned (.bool false) ∧ Below w.heap.size w w' := by
  have hnn : ((n : Int) == (m : Int)) = false := by simp; omega
  have hnb : ((n : Int) != (m : Int)) = true := by simp; omega
  clear hne
  go_enter Try.func22, Try.ntmps22
  go_wp2
  go_ret
  refine ⟨rfl, ?_⟩
  (repeat (first | exact Below.refl _ _ | apply Below.drew | refine Below.setCell ?_ (by first | (simp; done) | (simp; omega)) _ | refine Below.alloc ?_ (by first | (simp; done) | (simp; omega)) _))

theorem implSame_of (x y : Int) (A B : Option Addr) (n m ca cb : Nat) (r : Bool) (w : World)
    (hE : ∀ W : World, Below w.heap.size w W → Calls Try.prog 64 #[.slice A n ca, .slice B m cb] W fun e w' => e = .returned (.bool r) ∧ Below W.heap.size W w') :
    Calls Try.prog 23 #[.agg #[.int .i8 x, .int .i8 y, .slice A n ca], .agg #[.int .i8 x, .int .i8 y, .slice B m cb]] w fun e w' => e = .returned (.bool r) ∧ Below w.heap.size w w' := by
  have HE := Lib.hid hE
  clear hE
  go_enter Try.func23, Try.ntmps23
  go_wp2_with fail
  have hB : Below w.heap.size w ((w.alloc (Obj.cells #[.int .i8 x, .int .i8 y, .slice A n ca] 32)).alloc (Obj.cells #[.int .i8 x, .int .i8 y, .slice B m cb] 32)) := al (al (Below.refl _ _) _) _
  refine (HE.out _ hB).mono ?_
  rintro e w1 ⟨rfl, hb1⟩
  have hB1 := nxt hB hb1
  clear hB hb1
  go_wp2
  go_ret
  exact ⟨rfl, hB1⟩
end Go.Proofs.Ytmbmdplafjminaa
