/-
  FnExactLongestJoint: at every argument LongestJoint answers as its model, and writes into no argument. No condition.
-/
import Derived.Test.YtmbmdplafjminaaRows
import Derived.Test.YtmbmdplafjminaaC2
import Derived.Test.YtmbmdplafjminaaArgs
import Derived.Test.YtmbmdplafjminaaEqCell
import Derived.Test.YtmbmdplafjminaaLongestJointC
import Derived.Deep.RegionHeld3
import Derived.Lib.SmallJoins
namespace Go.Proofs.Ytmbmdplafjminaa.longestJoint
open Go Go.ChangeShapes Go.WideShapes Go.ChangeAt Go.RowKit
set_option linter.unusedVariables false
set_option linter.unusedSimpArgs false
set_option maxRecDepth 100000
set_option maxHeartbeats 2000000

theorem law (x y : Int) (A : Option Addr) (n ca : Nat) (c : Nat → Int) (u0 u1 : Int) (z1 : Int) (z2 : Bool) (z3 : Int) (w : World) (hn : n ≤ 1048576)
    (hr : Rd8 w w.heap.size A (4 * n) c)
    (hS : ∀ (W : World) (g : Nat), w.heap.size ≤ W.heap.size → W.rowIs g 58 (4 * n) (fun j => .int .i8 (c j)) →
      Calls Try.prog 49 #[.agg #[.int .i8 x, .int .i8 y, .slice (some ⟨g, 0, none⟩) n n]] W fun e w' => e = .returned (.tuple #[.agg #[.int .i8 u0, .int .i8 u1], .int .i64 z1, .bool z2, .int .i64 z3]) ∧ Below W.heap.size W w')
    (hI : ∀ (W : World) (g : Nat), w.heap.size ≤ W.heap.size → W.rowIs g 58 (4 * n) (fun j => .int .i8 (c j)) →
      Calls Try.prog 50 #[.agg #[.int .i8 x, .int .i8 y, .slice (some ⟨g, 0, none⟩) n n]] W fun e w' => e = .returned (.tuple #[.agg #[.int .i8 u0, .int .i8 u1], .int .i64 z1, .bool z2, .int .i64 z3]) ∧ Below W.heap.size W w') :
    Calls Try.prog 13 #[.agg #[.int .i8 x, .int .i8 y, .slice A n ca]] w fun e w' => e = .returned (.bool true) ∧ Below w.heap.size w w' := by
  have HS := Lib.hid hS
  have HI := Lib.hid hI
  have hz0 : 0 ≤ 1048576 - (n : Int) := by omega
  have HR := Lib.hid hr
  have B : Below w.heap.size w w := Below.refl _ _
  clear hS hI hr
  go_enter Try.func13, Try.ntmps13
  go_wp2_with fail
  refine (szSquare_ok x y 1048576 A n ca _ (by omega) (by omega) (by omega)).mono ?_
  rintro e w1 ⟨rfl, hb⟩
  have H2 := (Sq.new w x y (.slice A n ca) 27).below hb
  replace B := nxt (al B _) hb
  clear hb
  obtain ⟨l2, p2, q2, r2⟩ := id H2
  go_wp2_with fail
  refine (toSquare_any x y A n ca w.heap.size c _ (by omega) B.size (HR.out.below B)).mono ?_
  rintro e w3 ⟨g1, rfl, hg1, hb, R1⟩
  replace H2 := H2.below hb
  replace B := nxt B hb
  clear hb l2 p2 q2 r2
  obtain ⟨l2, p2, q2, r2⟩ := id H2
  go_wp2_with fail
  refine (HS.out _ g1 B.size R1).mono ?_
  rintro e w5 ⟨rfl, hb⟩
  replace H2 := H2.below hb
  replace B := nxt B hb
  clear hb l2 p2 q2 r2 R1 hg1
  obtain ⟨l2, p2, q2, r2⟩ := id H2
  go_wp2_with fail
  have H5 := C2.new w5 u0 u1 45
  replace H2 := H2.alloc (.cells #[.int .i8 u0, .int .i8 u1] 45)
  replace B := al B (.cells #[.int .i8 u0, .int .i8 u1] 45)
  refine (toSquare_any x y A n ca w.heap.size c _ (by omega) B.size (HR.out.below B)).mono ?_
  rintro e w6 ⟨g7, rfl, hg7, hb, R7⟩
  replace H2 := H2.below hb
  replace H5 := H5.below hb
  replace B := nxt B hb
  clear hb l2 p2 q2 r2
  obtain ⟨l2, p2, q2, r2⟩ := id H2
  go_wp2_with fail
  have H7 := Sq.new w6 x y (.slice (some ⟨g7, 0, none⟩) n n) 32
  replace H2 := H2.alloc (.cells #[.int .i8 x, .int .i8 y, .slice (some ⟨g7, 0, none⟩) n n] 32)
  replace H5 := H5.alloc (.cells #[.int .i8 x, .int .i8 y, .slice (some ⟨g7, 0, none⟩) n n] 32)
  replace R7 := R7.alloc (.cells #[.int .i8 x, .int .i8 y, .slice (some ⟨g7, 0, none⟩) n n] 32)
  replace B := al B (.cells #[.int .i8 x, .int .i8 y, .slice (some ⟨g7, 0, none⟩) n n] 32)
  refine (HI.out _ g7 B.size R7).mono ?_
  rintro e w9 ⟨rfl, hb⟩
  replace H2 := H2.below hb
  replace H5 := H5.below hb
  replace H7 := H7.below hb
  replace R7 := rowNext0 R7 hb
  replace B := nxt B hb
  clear hb l2 p2 q2 r2
  obtain ⟨l2, p2, q2, r2⟩ := id H2
  obtain ⟨l5, p5, q5⟩ := id H5
  obtain ⟨l7, p7, q7, r7⟩ := id H7
  have hrrz1 : (z1 != z1) = false := by simp
  have hrrz2 : (z2 != z2) = false := by simp
  have hrrz3 : (z3 != z3) = false := by simp
  go_wp2_with fail
  replace H2 := H2.alloc (.cells #[.int .i8 u0, .int .i8 u1] 45)
  replace H7 := H7.alloc (.cells #[.int .i8 u0, .int .i8 u1] 45)
  replace R7 := R7.alloc (.cells #[.int .i8 u0, .int .i8 u1] 45)
  replace B := al B (.cells #[.int .i8 u0, .int .i8 u1] 45)
  refine (eqCell_yes u0 u1 _).mono ?_
  rintro e w10 ⟨rfl, hb⟩
  replace H2 := H2.below hb
  replace H7 := H7.below hb
  replace R7 := rowNext0 R7 hb
  replace B := nxt B hb
  clear hb l2 p2 q2 r2 l5 p5 q5 l7 p7 q7 r7
  obtain ⟨l2, p2, q2, r2⟩ := id H2
  obtain ⟨l7, p7, q7, r7⟩ := id H7
  go_wp2_with fail
  replace B := B.drew
  replace H2 : Sq w10.drew w.heap.size x y (.slice A n ca) := H2
  replace H7 : Sq w10.drew w6.heap.size x y (.slice (some ⟨g7, 0, none⟩) n n) := H7
  replace R7 : w10.drew.rowIs g7 58 (4 * n) (fun j => .int .i8 (c j)) := R7
  clear l2 p2 q2 r2 l7 p7 q7 r7
  obtain ⟨l2, p2, q2, r2⟩ := id H2
  obtain ⟨l7, p7, q7, r7⟩ := id H7
  go_region_held3 (fun w' => w'.cell? ⟨w6.heap.size, 0, none⟩ = some (.int .i8 x) ∧ w'.cell? ⟨w6.heap.size, 1, none⟩ = some (.int .i8 y) ∧ w'.cell? ⟨w6.heap.size, 2, none⟩ = some (.slice (some ⟨g7, 0, none⟩) n n) ∧ w'.cell? ⟨w.heap.size, 0, none⟩ = some (.int .i8 x) ∧ w'.cell? ⟨w.heap.size, 1, none⟩ = some (.int .i8 y) ∧ w'.cell? ⟨w.heap.size, 2, none⟩ = some (.slice A n ca))
    (first | exact ⟨p7, q7, r7, p2, q2, r2⟩)
    (first
      | (go_at_call 19
         with_reducible refine (toSquare_any x y A n ca w.heap.size c _ (by omega) B.size (HR.out.below B)).mono ?_
         rintro e w11 ⟨g10, rfl, hg10, hb, R10⟩
         replace H2 := (H2).below hb
         replace H7 := (H7).below hb
         replace R7 := rowNext0 R7 hb
         replace B := nxt B hb
         clear hb l2 p2 q2 r2 l7 p7 q7 r7
         obtain ⟨l2, p2, q2, r2⟩ := id H2
         obtain ⟨l7, p7, q7, r7⟩ := id H7)
      | (go_at_call 21
         with_reducible refine (eqSquare_yes x y (some ⟨g7, 0, none⟩) (some ⟨g10, 0, none⟩) n n n n w11.heap.size c c _ (by omega) (by omega) (Nat.le_refl _) ((Own8.of_row R7).rd R7.lt) ((Own8.of_row R10).rd R10.lt) ⟨rfl, fun _ _ => rfl⟩).mono ?_
         rintro e w12 ⟨rfl, hb⟩
         replace H2 := (H2).below hb
         replace H7 := (H7).below hb
         replace R7 := rowNext0 R7 hb
         replace B := nxt B hb
         clear hb l2 p2 q2 r2 l7 p7 q7 r7
         obtain ⟨l2, p2, q2, r2⟩ := id H2
         obtain ⟨l7, p7, q7, r7⟩ := id H7
         clear R10 hg10))
  go_wp2_with fail
  go_ret
  exact ⟨rfl, B⟩

theorem big (x y : Int) (A : Option Addr) (n ca : Nat) (w : World) (hn : 1048576 < n) (hm : n ≤ 9223372036854775807) :
    Calls Try.prog 13 #[.agg #[.int .i8 x, .int .i8 y, .slice A n ca]] w fun e w' => e = .returned (.bool true) ∧ Below w.heap.size w w' := by
  have B : Below w.heap.size w w := Below.refl _ _
  go_enter Try.func13, Try.ntmps13
  go_wp2_with fail
  refine (szSquare_big x y 1048576 A n ca _ (by omega) (by omega) (by omega) hm).mono ?_
  rintro e w1 ⟨rfl, hb⟩
  replace B := nxt (al B _) hb
  clear hb
  go_wp2_with fail
  go_ret
  exact ⟨rfl, B⟩

theorem walk (x y : Int) (A : Option Addr) (n ca : Nat) (c : Nat → Int) (w : World) (hX : -128 ≤ x ∧ x ≤ 127) (hY : -128 ≤ y ∧ y ≤ 127) (hc : ∀ j, -128 ≤ c j ∧ c j ≤ 127) (hn0 : n ≤ 9223372036854775807)
    (hr : Rd8 w w.heap.size A (4 * n) c) :
    Calls Try.prog 13 #[.agg #[.int .i8 x, .int .i8 y, .slice A n ca]] w fun e w' => e = .returned (.bool true) ∧ Below w.heap.size w w' := by
  by_cases hn : 1048576 < n
  · exact big x y A n ca  w hn hn0
  obtain ⟨u0, u1, z1, z2, z3, hS, hI⟩ := both x y n c  hX hY hc  (by omega)
  exact law x y A n ca c  u0 u1 z1 z2 z3 w (by omega) hr (fun W g _ R => hS W g R) (fun W g _ R => hI W g R)

theorem lifted (os : Os) (started : os.Started) (H : Type) (enc : TypeId × Value → H) :
    ReturnsInHanded {} Try.checked os 13 .any (Rows.fnExactLongestJointSpec.pre6 enc Try.prog Try.f13 Rows.fnExactLongestJointRow.domain false) (Rows.fnExactLongestJointSpec.post enc Try.prog Try.f13 false true false false) := by
  refine returnsInHanded_of_change (C := Try.checked) own started (by kernel_rfl) Try.func13
    (ChangeSpec.witness6 (enc := enc) (C := Try.checked) false ⟨#[], #[.agg #[.int .i8 0, .int .i8 0, .slice none 0 0]], []⟩ 8 (by kernel_rfl) (by kernel_rfl) (by kernel_rfl) (by kernel_rfl)) ?_
  intro W base args ds gs before hval0 hW hcnd _
  have hval : ∀ (j : Nat) t v, Try.f13.params[j]? = some t → args[j]? = some v → Value.okWide Try.prog W .any base t v := hval0
  have hW' := hW
  obtain ⟨p, q, hA0, hV, rfl, hfz, hnd⟩ := hW
  have hA : DataW.TrodAll enc Try.prog W 0 (fun _ => true) true Try.f13.params.toList args.toList ds p := hA0
  rw [Try.params13] at hA hval
  obtain ⟨v0, d0, rfl, rfl, h0⟩ := trodAll_one hA
  obtain ⟨rfl, rfl⟩ := trodVars_none hV
  obtain ⟨x, y, A, n, ca, c, rfl, hX, hY, hn, hr, hc⟩ := open_square (hval 0 27 v0 rfl rfl) h0
  unfold maxLen at hn
  refine (walk x y A n ca c  W hX hY hc  hn hr).mono fun e W' ⟨he, hb⟩ => ?_
  subst he
  exact ⟨_, rfl, law_post (tb := 4) laidOut (by rw [Try.params13]; intro t ht; simp at ht; subst ht; exact ⟨by kernel_rfl, by decide +kernel⟩) (by kernel_rfl) Try.underlying4 rfl hW' rfl hb⟩

theorem proved : Rows.FnExactLongestJointSaid :=
  OpenClaim.holds_of_wide 13 Try.f13 rfl rfl rfl rfl rfl rfl rfl ⟨rfl, rfl, rfl, rfl, rfl⟩ rfl rfl rfl rfl rfl (by kernel_rfl) Try.func13 (by kernel_rfl)
    (of_decide_eq_true (by kernel_rfl)) (by unfold Func.isWrapper; rw [if_neg (of_decide_eq_false (by kernel_rfl))]; exact ⟨rfl, rfl⟩)
    (fun os started H enc _ => lifted os started H enc)
#print axioms proved
end Go.Proofs.Ytmbmdplafjminaa.longestJoint
