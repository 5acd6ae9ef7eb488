/-
  The contract of impl.isCross. Conditions stand at each.
-/
import Derived.Test.YtmbmdplafjminaaRows
import Derived.Test.YtmbmdplafjminaaJoint
import Derived.Test.YtmbmdplafjminaaCrossM
import Derived.BigRegion
import Derived.Deep.Cut
import Derived.Deep.DeepCutAuto
import Derived.Deep.RegionHeld3
namespace Go.Proofs.Ytmbmdplafjminaa
open Go Go.ChangeShapes Go.WideShapes Go.ChangeAt Go.RowKit
set_option linter.unusedVariables false
set_option linter.unusedSimpArgs false
set_option maxRecDepth 100000
set_option maxHeartbeats 2000000

/-- the three boxes of the cells beside one. -/
def Boxes3 (w : World) (b x y : Nat) (G : Nat → Int) (t5 t6 t7 : Value) (W : World) : Prop :=
  ∃ b5 b6 b7 : Nat, t5 = .pointer (some ⟨b5, 0, none⟩) ∧ t6 = .pointer (some ⟨b6, 0, none⟩) ∧ t7 = .pointer (some ⟨b7, 0, none⟩) ∧ Below w.heap.size w W ∧ W.rowIs b 82 144 (fun p => .int .i8 (G p)) ∧
    C2 W w.heap.size x y ∧ C2 W b5 ((x : Int) - 1) ((y : Int) - 1) ∧ C2 W b6 x ((y : Int) - 1) ∧ C2 W b7 ((x : Int) - 1) y

theorem C2.newAt (w : World) (k : Nat) (x y : Int) (t : TypeId) (hk : k = w.heap.size) : C2 (w.alloc (.cells #[.int .i8 x, .int .i8 y] t)) k x y := by
  subst hk; exact C2.new w x y t

set_option maxHeartbeats 40000000 in
theorem cross_any (b x y : Nat) (G : Nat → Int) (w : World) (hx : x < 12) (hy : y < 12) (hG : w.rowIs b 82 144 (fun p => .int .i8 (G p))) :
    Calls Try.prog 90 #[.pointer (some ⟨b, 0, none⟩), .agg #[.int .i8 (x : Int), .int .i8 (y : Int)]] w fun e w' => e = .returned (.bool (crossB G (x, y))) ∧ Below w.heap.size w w' := by
  have HJ := Lib.hid (fun a b' c d W hW => jb_any b a b' c d G W hW)
  have E : crossB G (x, y) = (jb (gA G ((x : Int) - 1) ((y : Int) - 1)) (gA G x ((y : Int) - 1)) && jb (gA G x ((y : Int) - 1)) (gA G x y) && jb (gA G x y) (gA G ((x : Int) - 1) y) && jb (gA G ((x : Int) - 1) y) (gA G ((x : Int) - 1) ((y : Int) - 1))) := rfl
  rw [E]
  clear E
  have J1 := fun W hW => HJ.out ((x : Int) - 1) ((y : Int) - 1) x ((y : Int) - 1) W hW
  have J2 := fun W hW => HJ.out x ((y : Int) - 1) x y W hW
  have J3 := fun W hW => HJ.out x y ((x : Int) - 1) y W hW
  have J4 := fun W hW => HJ.out ((x : Int) - 1) y ((x : Int) - 1) ((y : Int) - 1) W hW
  clear HJ
  obtain ⟨j1, e1⟩ : ∃ j, j = jb (gA G ((x : Int) - 1) ((y : Int) - 1)) (gA G x ((y : Int) - 1)) := ⟨_, rfl⟩
  obtain ⟨j2, e2⟩ : ∃ j, j = jb (gA G x ((y : Int) - 1)) (gA G x y) := ⟨_, rfl⟩
  obtain ⟨j3, e3⟩ : ∃ j, j = jb (gA G x y) (gA G ((x : Int) - 1) y) := ⟨_, rfl⟩
  obtain ⟨j4, e4⟩ : ∃ j, j = jb (gA G ((x : Int) - 1) y) (gA G ((x : Int) - 1) ((y : Int) - 1)) := ⟨_, rfl⟩
  simp only [← e1] at J1 ⊢
  simp only [← e2] at J2 ⊢
  simp only [← e3] at J3 ⊢
  simp only [← e4] at J4 ⊢
  clear e1 e2 e3 e4
  replace J1 := Lib.hid J1
  replace J2 := Lib.hid J2
  replace J3 := Lib.hid J3
  replace J4 := Lib.hid J4
  have hxi : (x : Int) < 12 := by omega
  have hyi : (y : Int) < 12 := by omega
  have hbl := hG.lt
  go_enter Try.func90, Try.ntmps90
  go_upto_region 1 with fail
  have H3 := C2.new w (x : Int) (y : Int) 45
  have B := al (Below.refl w.heap.size w) (.cells #[.int .i8 (x : Int), .int .i8 (y : Int)] 45)
  have R := hG.alloc (.cells #[.int .i8 (x : Int), .int .i8 (y : Int)] 45)
  obtain ⟨W0, hW0⟩ : ∃ W0 : World, W0 = w.alloc (.cells #[.int .i8 (x : Int), .int .i8 (y : Int)] 45) := ⟨_, rfl⟩
  have hs0 : W0.heap.size = w.heap.size + 1 := by rw [hW0]; simp
  rw [← hW0] at H3 B R ⊢
  have HS0 := Lib.hid hs0
  have hlt0 : w.heap.size < W0.heap.size := by omega
  have hblt : b < W0.heap.size := by omega
  clear hW0 hs0
  go_cut [5, 6, 7] (fun t5 t6 t7 wx => Boxes3 w b x y G t5 t6 t7 wx)
  case first =>
    obtain ⟨l3, p3, q3⟩ := id H3
    have v1 : IntKind.i8.wrap ((x : Int) - 1) = (x : Int) - 1 := IntWalk.i8_in _ (by omega)
    have v2 : IntKind.i8.wrap ((y : Int) - 1) = (y : Int) - 1 := IntWalk.i8_in _ (by omega)
    have r3 : W0.drew.cell? ⟨w.heap.size, 0, none⟩ = some (.int .i8 (x : Int)) := p3
    have r4 : W0.drew.cell? ⟨w.heap.size, 1, none⟩ = some (.int .i8 (y : Int)) := q3
    have l3' : w.heap.size < W0.drew.heap.size := l3
    go_region_held3 (fun w' => w.heap.size < w'.heap.size ∧ w'.cell? ⟨w.heap.size, 0, none⟩ = some (.int .i8 (x : Int)) ∧ w'.cell? ⟨w.heap.size, 1, none⟩ = some (.int .i8 (y : Int)))
      (first | exact ⟨l3', r3, r4⟩ | exact C2.alloc ‹_› _ | exact C2.alloc (C2.alloc ‹_› _) _ | exact C2.alloc (C2.alloc (C2.alloc ‹_› _) _) _ | exact C2.alloc (id (α := C2 _ _ _ _) ⟨by assumption, by assumption, by assumption⟩) _)
      (first | fail)
    all_goals
      go_wp2_with fail
      go_meet
      refine ⟨_, _, _, rfl, rfl, rfl, (al (al (al B _) _) _).drew, ((R.alloc _).alloc _).alloc _, ((H3.alloc _).alloc _).alloc _, ?_, ?_, ?_⟩
      all_goals first
        | exact C2.newAt _ _ _ _ _ (by simp)
        | exact (C2.newAt _ _ _ _ _ (by simp)).alloc _
        | exact ((C2.newAt _ _ _ _ _ (by simp)).alloc _).alloc _
  case rest =>
    obtain ⟨b5, b6, b7, rfl, rfl, rfl, B, R, H3, H5, H6, H7⟩ := hcut
    obtain ⟨l3, p3, q3⟩ := id H3
    obtain ⟨l5, p5, q5⟩ := id H5
    obtain ⟨l6, p6, q6⟩ := id H6
    obtain ⟨l7, p7, q7⟩ := id H7
    cases j1
    case false =>
      go_wp2_with (first
            | (go_at_call 96
               with_reducible refine (J1.out _ R).mono ?_
               rintro e w4 ⟨rfl, hb⟩
               replace H3 := H3.below hb
               replace H5 := H5.below hb
               replace H6 := H6.below hb
               replace H7 := H7.below hb
               replace R := rowNext0 R hb
               replace B := nxt B hb
               clear hb l3 p3 q3 l5 p5 q5 l6 p6 q6 l7 p7 q7
               obtain ⟨l3, p3, q3⟩ := id H3
               obtain ⟨l5, p5, q5⟩ := id H5
               obtain ⟨l6, p6, q6⟩ := id H6
               obtain ⟨l7, p7, q7⟩ := id H7))
      go_ret
      exact ⟨rfl, B⟩
    case true =>
      cases j2
      case false =>
        go_wp2_with (first
              | (go_at_call 96
                 with_reducible refine (J1.out _ R).mono ?_
                 rintro e w4 ⟨rfl, hb⟩
                 replace H3 := H3.below hb
                 replace H5 := H5.below hb
                 replace H6 := H6.below hb
                 replace H7 := H7.below hb
                 replace R := rowNext0 R hb
                 replace B := nxt B hb
                 clear hb l3 p3 q3 l5 p5 q5 l6 p6 q6 l7 p7 q7
                 obtain ⟨l3, p3, q3⟩ := id H3
                 obtain ⟨l5, p5, q5⟩ := id H5
                 obtain ⟨l6, p6, q6⟩ := id H6
                 obtain ⟨l7, p7, q7⟩ := id H7)
              | (go_at_call 96
                 with_reducible refine (J2.out _ R).mono ?_
                 rintro e w4 ⟨rfl, hb⟩
                 replace H3 := H3.below hb
                 replace H5 := H5.below hb
                 replace H6 := H6.below hb
                 replace H7 := H7.below hb
                 replace R := rowNext0 R hb
                 replace B := nxt B hb
                 clear hb l3 p3 q3 l5 p5 q5 l6 p6 q6 l7 p7 q7
                 obtain ⟨l3, p3, q3⟩ := id H3
                 obtain ⟨l5, p5, q5⟩ := id H5
                 obtain ⟨l6, p6, q6⟩ := id H6
                 obtain ⟨l7, p7, q7⟩ := id H7))
        go_ret
        exact ⟨rfl, B⟩
      case true =>
        cases j3
        case false =>
          go_wp2_with (first
                | (go_at_call 96
                   with_reducible refine (J1.out _ R).mono ?_
                   rintro e w4 ⟨rfl, hb⟩
                   replace H3 := H3.below hb
                   replace H5 := H5.below hb
                   replace H6 := H6.below hb
                   replace H7 := H7.below hb
                   replace R := rowNext0 R hb
                   replace B := nxt B hb
                   clear hb l3 p3 q3 l5 p5 q5 l6 p6 q6 l7 p7 q7
                   obtain ⟨l3, p3, q3⟩ := id H3
                   obtain ⟨l5, p5, q5⟩ := id H5
                   obtain ⟨l6, p6, q6⟩ := id H6
                   obtain ⟨l7, p7, q7⟩ := id H7)
                | (go_at_call 96
                   with_reducible refine (J2.out _ R).mono ?_
                   rintro e w4 ⟨rfl, hb⟩
                   replace H3 := H3.below hb
                   replace H5 := H5.below hb
                   replace H6 := H6.below hb
                   replace H7 := H7.below hb
                   replace R := rowNext0 R hb
                   replace B := nxt B hb
                   clear hb l3 p3 q3 l5 p5 q5 l6 p6 q6 l7 p7 q7
                   obtain ⟨l3, p3, q3⟩ := id H3
                   obtain ⟨l5, p5, q5⟩ := id H5
                   obtain ⟨l6, p6, q6⟩ := id H6
                   obtain ⟨l7, p7, q7⟩ := id H7)
                | (go_at_call 96
                   with_reducible refine (J3.out _ R).mono ?_
                   rintro e w4 ⟨rfl, hb⟩
                   replace H3 := H3.below hb
                   replace H5 := H5.below hb
                   replace H6 := H6.below hb
                   replace H7 := H7.below hb
                   replace R := rowNext0 R hb
                   replace B := nxt B hb
                   clear hb l3 p3 q3 l5 p5 q5 l6 p6 q6 l7 p7 q7
                   obtain ⟨l3, p3, q3⟩ := id H3
                   obtain ⟨l5, p5, q5⟩ := id H5
                   obtain ⟨l6, p6, q6⟩ := id H6
                   obtain ⟨l7, p7, q7⟩ := id H7))
          go_ret
          exact ⟨rfl, B⟩
        case true =>
          cases j4
          case false =>
            go_wp2_with (first
                  | (go_at_call 96
                     with_reducible refine (J1.out _ R).mono ?_
                     rintro e w4 ⟨rfl, hb⟩
                     replace H3 := H3.below hb
                     replace H5 := H5.below hb
                     replace H6 := H6.below hb
                     replace H7 := H7.below hb
                     replace R := rowNext0 R hb
                     replace B := nxt B hb
                     clear hb l3 p3 q3 l5 p5 q5 l6 p6 q6 l7 p7 q7
                     obtain ⟨l3, p3, q3⟩ := id H3
                     obtain ⟨l5, p5, q5⟩ := id H5
                     obtain ⟨l6, p6, q6⟩ := id H6
                     obtain ⟨l7, p7, q7⟩ := id H7)
                  | (go_at_call 96
                     with_reducible refine (J2.out _ R).mono ?_
                     rintro e w4 ⟨rfl, hb⟩
                     replace H3 := H3.below hb
                     replace H5 := H5.below hb
                     replace H6 := H6.below hb
                     replace H7 := H7.below hb
                     replace R := rowNext0 R hb
                     replace B := nxt B hb
                     clear hb l3 p3 q3 l5 p5 q5 l6 p6 q6 l7 p7 q7
                     obtain ⟨l3, p3, q3⟩ := id H3
                     obtain ⟨l5, p5, q5⟩ := id H5
                     obtain ⟨l6, p6, q6⟩ := id H6
                     obtain ⟨l7, p7, q7⟩ := id H7)
                  | (go_at_call 96
                     with_reducible refine (J3.out _ R).mono ?_
                     rintro e w4 ⟨rfl, hb⟩
                     replace H3 := H3.below hb
                     replace H5 := H5.below hb
                     replace H6 := H6.below hb
                     replace H7 := H7.below hb
                     replace R := rowNext0 R hb
                     replace B := nxt B hb
                     clear hb l3 p3 q3 l5 p5 q5 l6 p6 q6 l7 p7 q7
                     obtain ⟨l3, p3, q3⟩ := id H3
                     obtain ⟨l5, p5, q5⟩ := id H5
                     obtain ⟨l6, p6, q6⟩ := id H6
                     obtain ⟨l7, p7, q7⟩ := id H7)
                  | (go_at_call 96
                     with_reducible refine (J4.out _ R).mono ?_
                     rintro e w4 ⟨rfl, hb⟩
                     replace H3 := H3.below hb
                     replace H5 := H5.below hb
                     replace H6 := H6.below hb
                     replace H7 := H7.below hb
                     replace R := rowNext0 R hb
                     replace B := nxt B hb
                     clear hb l3 p3 q3 l5 p5 q5 l6 p6 q6 l7 p7 q7
                     obtain ⟨l3, p3, q3⟩ := id H3
                     obtain ⟨l5, p5, q5⟩ := id H5
                     obtain ⟨l6, p6, q6⟩ := id H6
                     obtain ⟨l7, p7, q7⟩ := id H7))
            go_ret
            exact ⟨rfl, B⟩
          case true =>
            go_wp2_with (first
                  | (go_at_call 96
                     with_reducible refine (J1.out _ R).mono ?_
                     rintro e w4 ⟨rfl, hb⟩
                     replace H3 := H3.below hb
                     replace H5 := H5.below hb
                     replace H6 := H6.below hb
                     replace H7 := H7.below hb
                     replace R := rowNext0 R hb
                     replace B := nxt B hb
                     clear hb l3 p3 q3 l5 p5 q5 l6 p6 q6 l7 p7 q7
                     obtain ⟨l3, p3, q3⟩ := id H3
                     obtain ⟨l5, p5, q5⟩ := id H5
                     obtain ⟨l6, p6, q6⟩ := id H6
                     obtain ⟨l7, p7, q7⟩ := id H7)
                  | (go_at_call 96
                     with_reducible refine (J2.out _ R).mono ?_
                     rintro e w4 ⟨rfl, hb⟩
                     replace H3 := H3.below hb
                     replace H5 := H5.below hb
                     replace H6 := H6.below hb
                     replace H7 := H7.below hb
                     replace R := rowNext0 R hb
                     replace B := nxt B hb
                     clear hb l3 p3 q3 l5 p5 q5 l6 p6 q6 l7 p7 q7
                     obtain ⟨l3, p3, q3⟩ := id H3
                     obtain ⟨l5, p5, q5⟩ := id H5
                     obtain ⟨l6, p6, q6⟩ := id H6
                     obtain ⟨l7, p7, q7⟩ := id H7)
                  | (go_at_call 96
                     with_reducible refine (J3.out _ R).mono ?_
                     rintro e w4 ⟨rfl, hb⟩
                     replace H3 := H3.below hb
                     replace H5 := H5.below hb
                     replace H6 := H6.below hb
                     replace H7 := H7.below hb
                     replace R := rowNext0 R hb
                     replace B := nxt B hb
                     clear hb l3 p3 q3 l5 p5 q5 l6 p6 q6 l7 p7 q7
                     obtain ⟨l3, p3, q3⟩ := id H3
                     obtain ⟨l5, p5, q5⟩ := id H5
                     obtain ⟨l6, p6, q6⟩ := id H6
                     obtain ⟨l7, p7, q7⟩ := id H7)
                  | (go_at_call 96
                     with_reducible refine (J4.out _ R).mono ?_
                     rintro e w4 ⟨rfl, hb⟩
                     replace H3 := H3.below hb
                     replace H5 := H5.below hb
                     replace H6 := H6.below hb
                     replace H7 := H7.below hb
                     replace R := rowNext0 R hb
                     replace B := nxt B hb
                     clear hb l3 p3 q3 l5 p5 q5 l6 p6 q6 l7 p7 q7
                     obtain ⟨l3, p3, q3⟩ := id H3
                     obtain ⟨l5, p5, q5⟩ := id H5
                     obtain ⟨l6, p6, q6⟩ := id H6
                     obtain ⟨l7, p7, q7⟩ := id H7))
            go_ret
            exact ⟨rfl, B⟩
end Go.Proofs.Ytmbmdplafjminaa
