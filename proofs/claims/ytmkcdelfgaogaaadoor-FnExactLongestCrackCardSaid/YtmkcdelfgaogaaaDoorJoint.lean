/-
  Joints: the contract of impl.isJointBetween, and of grid.at at any cell. Conditions stand at each.
-/
import Derived.Test.YtmkcdelfgaogaaaDoorRows
import Derived.Test.YtmkcdelfgaogaaaDoorAt
import Derived.Test.YtmkcdelfgaogaaaDoorC2
import Derived.Deep.RegionHeld3
import Derived.Lib.Hide
namespace Go.Proofs.YtmkcdelfgaogaaaDoor
open Go Go.ChangeShapes Go.WideShapes Go.ChangeAt Go.RowKit
set_option linter.unusedVariables false
set_option linter.unusedSimpArgs false
set_option maxRecDepth 100000
set_option maxHeartbeats 2000000

/-- the number of a cell; 0 beyond the grid. -/
def gA (G : Nat → Int) (x y : Int) : Int := if 0 ≤ x ∧ x < 12 ∧ 0 ≤ y ∧ y < 12 then G (y.toNat * 12 + x.toNat) else 0
theorem gA_in (G : Nat → Int) (x y : Nat) (hx : x < 12) (hy : y < 12) : gA G x y = G (y * 12 + x) := by
  unfold gA
  rw [if_pos (by omega)]
  simp
theorem gA_out {G : Nat → Int} {x y : Int} (h : ¬ (0 ≤ x ∧ x < 12 ∧ 0 ≤ y ∧ y < 12)) : gA G x y = 0 := if_neg h

theorem at_out1 (b : Nat) (x y : Int) (w : World) (h : x < 0) :
    Calls Tryd.prog 79 #[.pointer (some ⟨b, 0, none⟩), .agg #[.int .i8 x, .int .i8 y]] w fun e w' => e = .returned (.int .i8 0) ∧ Below w.heap.size w w' := by
  go_enter Tryd.func79, Tryd.ntmps79
  go_wp2
  go_ret
  exact ⟨rfl, al (Below.refl _ _) _⟩
theorem at_out2 (b : Nat) (x y : Int) (w : World) (h0 : 0 ≤ x) (h : 12 ≤ x) :
    Calls Tryd.prog 79 #[.pointer (some ⟨b, 0, none⟩), .agg #[.int .i8 x, .int .i8 y]] w fun e w' => e = .returned (.int .i8 0) ∧ Below w.heap.size w w' := by
  go_enter Tryd.func79, Tryd.ntmps79
  go_wp2
  go_ret
  exact ⟨rfl, al (Below.refl _ _) _⟩
theorem at_out3 (b : Nat) (x y : Int) (w : World) (h0 : 0 ≤ x) (h1 : x < 12) (h : y < 0) :
    Calls Tryd.prog 79 #[.pointer (some ⟨b, 0, none⟩), .agg #[.int .i8 x, .int .i8 y]] w fun e w' => e = .returned (.int .i8 0) ∧ Below w.heap.size w w' := by
  have d1 : decide ((12 : Int) ≤ x) = false := by simp; omega
  go_enter Tryd.func79, Tryd.ntmps79
  go_wp2
  go_ret
  exact ⟨rfl, al (Below.refl _ _) _⟩
theorem at_out4 (b : Nat) (x y : Int) (w : World) (h0 : 0 ≤ x) (h1 : x < 12) (h2 : 0 ≤ y) (h : 12 ≤ y) :
    Calls Tryd.prog 79 #[.pointer (some ⟨b, 0, none⟩), .agg #[.int .i8 x, .int .i8 y]] w fun e w' => e = .returned (.int .i8 0) ∧ Below w.heap.size w w' := by
  have d1 : decide ((12 : Int) ≤ x) = false := by simp; omega
  go_enter Tryd.func79, Tryd.ntmps79
  go_wp2
  go_ret
  exact ⟨rfl, al (Below.refl _ _) _⟩
theorem at_any (b : Nat) (x y : Int) (G : Nat → Int) (w : World) (hG : w.rowIs b 129 144 (fun p => .int .i8 (G p))) :
    Calls Tryd.prog 79 #[.pointer (some ⟨b, 0, none⟩), .agg #[.int .i8 x, .int .i8 y]] w fun e w' => e = .returned (.int .i8 (gA G x y)) ∧ Below w.heap.size w w' := by
  by_cases h : 0 ≤ x ∧ x < 12 ∧ 0 ≤ y ∧ y < 12
  · obtain ⟨x', rfl⟩ := Int.eq_ofNat_of_zero_le h.1
    obtain ⟨y', rfl⟩ := Int.eq_ofNat_of_zero_le h.2.2.1
    rw [gA_in G x' y' (by omega) (by omega)]
    exact at_in b x' y' G w (by omega) (by omega) hG
  · rw [gA_out h]
    by_cases h1 : x < 0
    · exact at_out1 b x y w h1
    by_cases h2 : 12 ≤ x
    · exact at_out2 b x y w (by omega) h2
    by_cases h3 : y < 0
    · exact at_out3 b x y w (by omega) (by omega) h3
    · exact at_out4 b x y w (by omega) (by omega) (by omega) (by omega)

/-- is there a joint between two cells? -/
def jb (a b : Int) : Bool := a != 0 && b != 0 && a != b

theorem jb_any (b : Nat) (x y x' y' : Int) (G : Nat → Int) (w : World) (hG : w.rowIs b 129 144 (fun p => .int .i8 (G p))) :
    Calls Tryd.prog 78 #[.pointer (some ⟨b, 0, none⟩), .agg #[.int .i8 x, .int .i8 y], .agg #[.int .i8 x', .int .i8 y']] w fun e w' => e = .returned (.bool (jb (gA G x y) (gA G x' y'))) ∧ Below w.heap.size w w' := by
  have HA1 := fun W hW => at_any b x y G W hW
  have HA2 := fun W hW => at_any b x' y' G W hW
  obtain ⟨n1, hn1⟩ : ∃ n1, n1 = gA G x y := ⟨_, rfl⟩
  obtain ⟨n2, hn2⟩ : ∃ n2, n2 = gA G x' y' := ⟨_, rfl⟩
  simp only [← hn1] at HA1 ⊢
  simp only [← hn2] at HA2 ⊢
  clear hn1 hn2
  have K1 := Lib.hid HA1
  have K2 := Lib.hid HA2
  clear HA1 HA2
  go_enter Tryd.func78, Tryd.ntmps78
  go_wp2_with fail
  have H3 := (C2.new w x y 35).alloc (.cells #[.int .i8 x', .int .i8 y'] 35)
  have H4 : C2 ((w.alloc (.cells #[.int .i8 x, .int .i8 y] 35)).alloc (.cells #[.int .i8 x', .int .i8 y'] 35)) (w.heap.size + 1) x' y' := by
    have := C2.new (w.alloc (.cells #[.int .i8 x, .int .i8 y] 35)) x' y' 35
    rwa [World.size_alloc] at this
  have B := al (al (Below.refl w.heap.size w) (.cells #[.int .i8 x, .int .i8 y] 35)) (.cells #[.int .i8 x', .int .i8 y'] 35)
  have R := (hG.alloc (.cells #[.int .i8 x, .int .i8 y] 35)).alloc (.cells #[.int .i8 x', .int .i8 y'] 35)
  obtain ⟨W0, hW0⟩ : ∃ W0 : World, W0 = ((w.alloc (.cells #[.int .i8 x, .int .i8 y] 35)).alloc (.cells #[.int .i8 x', .int .i8 y'] 35)) := ⟨_, rfl⟩
  rw [← hW0] at H3 H4 B R ⊢
  clear hW0
  replace B := B.drew
  replace H3 : C2 W0.drew w.heap.size x y := H3
  replace H4 : C2 W0.drew (w.heap.size + 1) x' y' := H4
  replace R : W0.drew.rowIs b 129 144 (fun p => .int .i8 (G p)) := R
  obtain ⟨l3, p3, q3⟩ := id H3
  obtain ⟨l4, p4, q4⟩ := id H4
  go_region_held3 (fun w' => w'.cell? ⟨w.heap.size, 0, none⟩ = some (.int .i8 x) ∧ w'.cell? ⟨w.heap.size, 1, none⟩ = some (.int .i8 y) ∧ w'.cell? ⟨w.heap.size + 1, 0, none⟩ = some (.int .i8 x') ∧ w'.cell? ⟨w.heap.size + 1, 1, none⟩ = some (.int .i8 y'))
    (first | exact ⟨p3, q3, p4, q4⟩)
    (first
      | (go_at_call 79
         with_reducible refine (K1.out _ R).mono ?_
         rintro e w3 ⟨rfl, hb⟩
         replace H3 := H3.below hb
         replace H4 := H4.below hb
         replace R := rowNext0 R hb
         replace B := nxt B hb
         clear hb l3 p3 q3 l4 p4 q4
         obtain ⟨l3, p3, q3⟩ := id H3
         obtain ⟨l4, p4, q4⟩ := id H4)
      | (go_at_call 79
         with_reducible refine (K2.out _ R).mono ?_
         rintro e w4 ⟨rfl, hb⟩
         replace H3 := H3.below hb
         replace H4 := H4.below hb
         replace R := rowNext0 R hb
         replace B := nxt B hb
         clear hb l3 p3 q3 l4 p4 q4
         obtain ⟨l3, p3, q3⟩ := id H3
         obtain ⟨l4, p4, q4⟩ := id H4))
  by_cases z1 : n1 = 0
  · have b1 : (n1 != 0) = false := by simpa using z1
    have ej : jb n1 n2 = false := by unfold jb; rw [b1]; rfl
    clear z1
    go_wp2_with fail
    go_ret
    exact ⟨by rw [ej]; rfl, B⟩
  · have b1 : (n1 != 0) = true := by simpa using z1
    by_cases z2 : n2 = 0
    · have b2 : (n2 != 0) = false := by simpa using z2
      have ej : jb n1 n2 = false := by unfold jb; rw [b1, b2]; rfl
      clear z1 z2
      go_wp2_with fail
      go_ret
      exact ⟨by rw [ej]; rfl, B⟩
    · have b2 : (n2 != 0) = true := by simpa using z2
      by_cases z3 : n1 = n2
      · have b3 : (n1 != n2) = false := by simpa using z3
        have ej : jb n1 n2 = false := by unfold jb; rw [b1, b2, b3]; rfl
        clear z1 z2 z3
        go_wp2_with fail
        go_ret
        exact ⟨by rw [ej]; rfl, B⟩
      · have b3 : (n1 != n2) = true := by simpa using z3
        have ej : jb n1 n2 = true := by unfold jb; rw [b1, b2, b3]; rfl
        clear z1 z2 z3
        go_wp2_with fail
        go_ret
        exact ⟨by rw [ej]; rfl, B⟩
end Go.Proofs.YtmkcdelfgaogaaaDoor
