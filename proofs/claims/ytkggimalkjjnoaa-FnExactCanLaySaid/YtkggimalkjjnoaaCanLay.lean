/-
  FnExactCanLay: at every argument CanLay answers as its model, and writes into no argument. No condition.
-/
import Derived.Test.YtkggimalkjjnoaaRows
import Derived.Test.YtkggimalkjjnoaaLawA
import Derived.Test.YtkggimalkjjnoaaOpens
import Derived.Test.YtkggimalkjjnoaaSeat
import Derived.Test.YtkggimalkjjnoaaCanLayB
import Derived.Test.YtkggimalkjjnoaaOpenS
import Derived.Deep.RegionHeld3
import Derived.Lib.SmallJoins
namespace Go.Proofs.Ytkggimalkjjnoaa.canLay
open Go Go.ChangeShapes Go.WideShapes Go.ChangeAt Go.RowKit
set_option linter.unusedVariables false
set_option linter.unusedSimpArgs false
set_option maxRecDepth 100000
set_option maxHeartbeats 2000000

theorem law (x y : Int) (A : Option Addr) (n ca : Nat) (c : Nat → Int) (a0 a1 a2 a3 : Int) (r0 : Bool) (r1 : Int) (w : World) (hn : n ≤ 1048576)
    (hr : Rd8 w w.heap.size A (4 * n) c)
    (hS : ∀ (W : World) (g : Nat), w.heap.size ≤ W.heap.size → W.rowIs g 55 (4 * n) (fun j => .int .i8 (c j)) →
      Calls Try.prog 45 #[.agg #[.int .i8 x, .int .i8 y, .slice (some ⟨g, 0, none⟩) n n], .agg #[.int .i8 a0, .int .i8 a1, .int .i8 a2, .int .i8 a3]] W fun e w' => e = .returned (.tuple #[.bool r0, .int .i64 r1]) ∧ Below W.heap.size W w')
    (hI : ∀ (W : World) (g : Nat), w.heap.size ≤ W.heap.size → W.rowIs g 55 (4 * n) (fun j => .int .i8 (c j)) →
      Calls Try.prog 47 #[.agg #[.int .i8 x, .int .i8 y, .slice (some ⟨g, 0, none⟩) n n], .agg #[.int .i8 a0, .int .i8 a1, .int .i8 a2, .int .i8 a3]] W fun e w' => e = .returned (.tuple #[.bool r0, .int .i64 r1]) ∧ Below W.heap.size W w') :
    Calls Try.prog 5 #[.agg #[.int .i8 x, .int .i8 y, .slice A n ca], .agg #[.int .i8 a0, .int .i8 a1, .int .i8 a2, .int .i8 a3]] w fun e w' => e = .returned (.bool true) ∧ Below w.heap.size w w' := by
  have HS := Lib.hid hS
  have HI := Lib.hid hI
  have hz0 : 0 ≤ 1048576 - (n : Int) := by omega
  have HR := Lib.hid hr
  have B : Below w.heap.size w w := Below.refl _ _
  clear hS hI hr
  go_enter Try.func5, Try.ntmps5
  go_wp2_with fail
  refine (szSquare_ok x y 1048576 A n ca _ (by omega) (by omega) (by omega)).mono ?_
  rintro e w1 ⟨rfl, hb⟩
  have H2 := ((Sq.new w x y (.slice A n ca) 25).alloc (.cells #[.int .i8 a0, .int .i8 a1, .int .i8 a2, .int .i8 a3] 52)).below hb
  have H3 : Sl w1 (w.heap.size + 1) a0 a1 a2 a3 := by
    have := (Sl.new (w.alloc (.cells #[.int .i8 x, .int .i8 y, .slice A n ca] 25)) a0 a1 a2 a3 52).below hb
    rwa [World.size_alloc] at this
  replace B := nxt (al (al B _) _) hb
  clear hb
  obtain ⟨l2, p2, q2, r2⟩ := id H2
  obtain ⟨l3, p3, q3, s3, t3⟩ := id H3
  go_wp2_with fail
  replace B := B.drew
  replace H2 : Sq w1.drew w.heap.size x y (.slice A n ca) := H2
  replace H3 : Sl w1.drew (w.heap.size + 1) a0 a1 a2 a3 := H3
  go_region_held3 (fun w' => w'.cell? ⟨w.heap.size, 0, none⟩ = some (.int .i8 x) ∧ w'.cell? ⟨w.heap.size, 1, none⟩ = some (.int .i8 y) ∧ w'.cell? ⟨w.heap.size, 2, none⟩ = some (.slice A n ca) ∧ w'.cell? ⟨w.heap.size + 1, 0, none⟩ = some (.int .i8 a0) ∧ w'.cell? ⟨w.heap.size + 1, 1, none⟩ = some (.int .i8 a1) ∧ w'.cell? ⟨w.heap.size + 1, 2, none⟩ = some (.int .i8 a2) ∧ w'.cell? ⟨w.heap.size + 1, 3, none⟩ = some (.int .i8 a3))
    (first | exact ⟨p2, q2, r2, p3, q3, s3, t3⟩)
    (first
      | (go_at_call 28
         with_reducible refine (toSquare_any x y A n ca w.heap.size c _ (by omega) B.size (HR.out.below B)).mono ?_
         rintro e w3 ⟨g1, rfl, hg1, hb, R1⟩
         replace H2 := (H2).below hb
         replace H3 := (H3).below hb
         replace B := nxt B hb
         clear hb l2 p2 q2 r2 l3 p3 q3 s3 t3
         obtain ⟨l2, p2, q2, r2⟩ := id H2
         obtain ⟨l3, p3, q3, s3, t3⟩ := id H3)
      | (go_at_call 46
         with_reducible refine (toSlab_any a0 a1 a2 a3 _).mono ?_
         rintro e w4 ⟨rfl, hb⟩
         replace H2 := (H2).below hb
         replace H3 := (H3).below hb
         replace R1 := rowNext0 R1 hb
         replace B := nxt B hb
         clear hb l2 p2 q2 r2 l3 p3 q3 s3 t3
         obtain ⟨l2, p2, q2, r2⟩ := id H2
         obtain ⟨l3, p3, q3, s3, t3⟩ := id H3)
      | (go_at_call 45
         with_reducible refine (HS.out _ g1 B.size R1).mono ?_
         rintro e w5 ⟨rfl, hb⟩
         replace H2 := (H2).below hb
         replace H3 := (H3).below hb
         replace B := nxt B hb
         clear hb l2 p2 q2 r2 l3 p3 q3 s3 t3
         obtain ⟨l2, p2, q2, r2⟩ := id H2
         obtain ⟨l3, p3, q3, s3, t3⟩ := id H3
         clear R1 hg1))
  go_wp2_with fail
  refine (toSquare_any x y A n ca w.heap.size c _ (by omega) B.size (HR.out.below B)).mono ?_
  rintro e w6 ⟨g7, rfl, hg7, hb, R7⟩
  replace H2 := (H2).below hb
  replace H3 := (H3).below hb
  replace B := nxt B hb
  clear hb l2 p2 q2 r2 l3 p3 q3 s3 t3
  obtain ⟨l2, p2, q2, r2⟩ := id H2
  obtain ⟨l3, p3, q3, s3, t3⟩ := id H3
  go_wp2_with fail
  have H7 := Sq.new w6 x y (.slice (some ⟨g7, 0, none⟩) n n) 34
  replace H2 := H2.alloc (.cells #[.int .i8 x, .int .i8 y, .slice (some ⟨g7, 0, none⟩) n n] 34)
  replace H3 := H3.alloc (.cells #[.int .i8 x, .int .i8 y, .slice (some ⟨g7, 0, none⟩) n n] 34)
  replace R7 := R7.alloc (.cells #[.int .i8 x, .int .i8 y, .slice (some ⟨g7, 0, none⟩) n n] 34)
  replace B := al B (.cells #[.int .i8 x, .int .i8 y, .slice (some ⟨g7, 0, none⟩) n n] 34)
  obtain ⟨W7, hW7⟩ : ∃ W7 : World, W7 = w6.alloc (.cells #[.int .i8 x, .int .i8 y, .slice (some ⟨g7, 0, none⟩) n n] 34) := ⟨_, rfl⟩
  rw [← hW7] at H7 H2 H3 R7 B ⊢
  clear hW7 l2 p2 q2 r2 l3 p3 q3 s3 t3
  replace B := B.drew
  replace H2 : Sq W7.drew w.heap.size x y (.slice A n ca) := H2
  replace H3 : Sl W7.drew (w.heap.size + 1) a0 a1 a2 a3 := H3
  replace H7 : Sq W7.drew w6.heap.size x y (.slice (some ⟨g7, 0, none⟩) n n) := H7
  replace R7 : W7.drew.rowIs g7 55 (4 * n) (fun j => .int .i8 (c j)) := R7
  obtain ⟨l2, p2, q2, r2⟩ := id H2
  obtain ⟨l3, p3, q3, s3, t3⟩ := id H3
  obtain ⟨l7, p7, q7, r7⟩ := id H7
  go_region_held3 (fun w' => w'.cell? ⟨w6.heap.size, 0, none⟩ = some (.int .i8 x) ∧ w'.cell? ⟨w6.heap.size, 1, none⟩ = some (.int .i8 y) ∧ w'.cell? ⟨w6.heap.size, 2, none⟩ = some (.slice (some ⟨g7, 0, none⟩) n n) ∧ w'.cell? ⟨w.heap.size + 1, 0, none⟩ = some (.int .i8 a0) ∧ w'.cell? ⟨w.heap.size + 1, 1, none⟩ = some (.int .i8 a1) ∧ w'.cell? ⟨w.heap.size + 1, 2, none⟩ = some (.int .i8 a2) ∧ w'.cell? ⟨w.heap.size + 1, 3, none⟩ = some (.int .i8 a3))
    (first | exact ⟨p7, q7, r7, p3, q3, s3, t3⟩)
    (first
      | (go_at_call 46
         with_reducible refine (toSlab_any a0 a1 a2 a3 _).mono ?_
         rintro e w8 ⟨rfl, hb⟩
         replace H2 := (H2).below hb
         replace H3 := (H3).below hb
         replace H7 := (H7).below hb
         replace R7 := rowNext0 R7 hb
         replace B := nxt B hb
         clear hb l2 p2 q2 r2 l3 p3 q3 s3 t3 l7 p7 q7 r7
         obtain ⟨l2, p2, q2, r2⟩ := id H2
         obtain ⟨l3, p3, q3, s3, t3⟩ := id H3
         obtain ⟨l7, p7, q7, r7⟩ := id H7)
      | (go_at_call 47
         with_reducible refine (HI.out _ g7 B.size R7).mono ?_
         rintro e w9 ⟨rfl, hb⟩
         replace H2 := (H2).below hb
         replace H3 := (H3).below hb
         replace H7 := (H7).below hb
         replace R7 := rowNext0 R7 hb
         replace B := nxt B hb
         clear hb l2 p2 q2 r2 l3 p3 q3 s3 t3 l7 p7 q7 r7
         obtain ⟨l2, p2, q2, r2⟩ := id H2
         obtain ⟨l3, p3, q3, s3, t3⟩ := id H3
         obtain ⟨l7, p7, q7, r7⟩ := id H7))
  have hrr0 : (r0 != r0) = false := by simp
  have hrr1 : (r1 != r1) = false := by simp
  go_wp2_with fail
  replace B := B.drew
  replace H2 : Sq w9.drew w.heap.size x y (.slice A n ca) := H2
  replace H3 : Sl w9.drew (w.heap.size + 1) a0 a1 a2 a3 := H3
  replace H7 : Sq w9.drew w6.heap.size x y (.slice (some ⟨g7, 0, none⟩) n n) := H7
  replace R7 : w9.drew.rowIs g7 55 (4 * n) (fun j => .int .i8 (c j)) := R7
  clear l2 p2 q2 r2 l3 p3 q3 s3 t3 l7 p7 q7 r7
  obtain ⟨l2, p2, q2, r2⟩ := id H2
  obtain ⟨l3, p3, q3, s3, t3⟩ := id H3
  obtain ⟨l7, p7, q7, r7⟩ := id H7
  go_region_held3 (fun w' => w'.cell? ⟨w6.heap.size, 0, none⟩ = some (.int .i8 x) ∧ w'.cell? ⟨w6.heap.size, 1, none⟩ = some (.int .i8 y) ∧ w'.cell? ⟨w6.heap.size, 2, none⟩ = some (.slice (some ⟨g7, 0, none⟩) n n) ∧ w'.cell? ⟨w.heap.size, 0, none⟩ = some (.int .i8 x) ∧ w'.cell? ⟨w.heap.size, 1, none⟩ = some (.int .i8 y) ∧ w'.cell? ⟨w.heap.size, 2, none⟩ = some (.slice A n ca))
    (first | exact ⟨p7, q7, r7, p2, q2, r2⟩)
    (first
      | (go_at_call 28
         with_reducible refine (toSquare_any x y A n ca w.heap.size c _ (by omega) B.size (HR.out.below B)).mono ?_
         rintro e w10 ⟨g10, rfl, hg10, hb, R10⟩
         replace H2 := (H2).below hb
         replace H3 := (H3).below hb
         replace H7 := (H7).below hb
         replace R7 := rowNext0 R7 hb
         replace B := nxt B hb
         clear hb l2 p2 q2 r2 l3 p3 q3 s3 t3 l7 p7 q7 r7
         obtain ⟨l2, p2, q2, r2⟩ := id H2
         obtain ⟨l3, p3, q3, s3, t3⟩ := id H3
         obtain ⟨l7, p7, q7, r7⟩ := id H7)
      | (go_at_call 32
         with_reducible refine (eqSquare_yes x y (some ⟨g7, 0, none⟩) (some ⟨g10, 0, none⟩) n n n n w10.heap.size c c _ (by omega) (by omega) (Nat.le_refl _) ((Own8.of_row R7).rd R7.lt) ((Own8.of_row R10).rd R10.lt) ⟨rfl, fun _ _ => rfl⟩).mono ?_
         rintro e w11 ⟨rfl, hb⟩
         replace H2 := (H2).below hb
         replace H3 := (H3).below hb
         replace H7 := (H7).below hb
         replace R7 := rowNext0 R7 hb
         replace B := nxt B hb
         clear hb l2 p2 q2 r2 l3 p3 q3 s3 t3 l7 p7 q7 r7
         obtain ⟨l2, p2, q2, r2⟩ := id H2
         obtain ⟨l3, p3, q3, s3, t3⟩ := id H3
         obtain ⟨l7, p7, q7, r7⟩ := id H7
         clear R10 hg10))
  go_wp2_with fail
  go_ret
  exact ⟨rfl, B⟩

theorem big (x y : Int) (A : Option Addr) (n ca : Nat) (a0 a1 a2 a3 : Int) (w : World) (hn : 1048576 < n) (hm : n ≤ 9223372036854775807) :
    Calls Try.prog 5 #[.agg #[.int .i8 x, .int .i8 y, .slice A n ca], .agg #[.int .i8 a0, .int .i8 a1, .int .i8 a2, .int .i8 a3]] w fun e w' => e = .returned (.bool true) ∧ Below w.heap.size w w' := by
  have B : Below w.heap.size w w := Below.refl _ _
  go_enter Try.func5, Try.ntmps5
  go_wp2_with fail
  refine (szSquare_big x y 1048576 A n ca _ (by omega) (by omega) (by omega) hm).mono ?_
  rintro e w1 ⟨rfl, hb⟩
  replace B := nxt (al (al B _) _) hb
  clear hb
  go_wp2_with fail
  go_ret
  exact ⟨rfl, B⟩

theorem walk (x y : Int) (A : Option Addr) (n ca : Nat) (c : Nat → Int) (a0 a1 a2 a3 : Int) (w : World) (hX : -128 ≤ x ∧ x ≤ 127) (hY : -128 ≤ y ∧ y ≤ 127) (hc : ∀ j, -128 ≤ c j ∧ c j ≤ 127) (ba0 : -128 ≤ a0 ∧ a0 ≤ 127) (ba1 : -128 ≤ a1 ∧ a1 ≤ 127) (ba2 : -128 ≤ a2 ∧ a2 ≤ 127) (ba3 : -128 ≤ a3 ∧ a3 ≤ 127) (hn0 : n ≤ 9223372036854775807)
    (hr : Rd8 w w.heap.size A (4 * n) c) :
    Calls Try.prog 5 #[.agg #[.int .i8 x, .int .i8 y, .slice A n ca], .agg #[.int .i8 a0, .int .i8 a1, .int .i8 a2, .int .i8 a3]] w fun e w' => e = .returned (.bool true) ∧ Below w.heap.size w w' := by
  by_cases hn : 1048576 < n
  · exact big x y A n ca a0 a1 a2 a3 w hn hn0
  obtain ⟨r0, r1, hS, hI⟩ := both x y n c a0 a1 a2 a3 hX hY hc ba0 ba1 ba2 ba3 (by omega)
  exact law x y A n ca c a0 a1 a2 a3 r0 r1 w (by omega) hr (fun W g _ R => hS W g R) (fun W g _ R => hI W g R)

theorem lifted (os : Os) (started : os.Started) (H : Type) (enc : TypeId × Value → H) :
    ReturnsInHanded {} Try.checked os 5 .any (Rows.fnExactCanLaySpec.pre6 enc Try.prog Try.f5 Rows.fnExactCanLayRow.domain false) (Rows.fnExactCanLaySpec.post enc Try.prog Try.f5 false true false false) := by
  refine returnsInHanded_of_change (C := Try.checked) own started (by kernel_rfl) Try.func5
    (ChangeSpec.witness6 (enc := enc) (C := Try.checked) false ⟨#[], #[.agg #[.int .i8 0, .int .i8 0, .slice none 0 0], .agg #[.int .i8 0, .int .i8 0, .int .i8 0, .int .i8 0]], []⟩ 8 (by kernel_rfl) (by kernel_rfl) (by kernel_rfl) (by kernel_rfl)) ?_
  intro W base args ds gs before hval0 hW hcnd _
  have hval : ∀ (j : Nat) t v, Try.f5.params[j]? = some t → args[j]? = some v → Value.okWide Try.prog W .any base t v := hval0
  have hW' := hW
  obtain ⟨p, q, hA0, hV, rfl, hfz, hnd⟩ := hW
  have hA : DataW.TrodAll enc Try.prog W 0 (fun _ => true) true Try.f5.params.toList args.toList ds p := hA0
  rw [Try.params5] at hA hval
  obtain ⟨v0, v1, d0, d1, p0, p1, rfl, rfl, rfl, h0, h1⟩ := trodAll_two hA
  obtain ⟨rfl, rfl⟩ := trodVars_none hV
  obtain ⟨x, y, A, n, ca, c, rfl, hX, hY, hn, hr, hc⟩ := open_square (hval 0 25 v0 rfl rfl) h0
  obtain ⟨a0, a1, a2, a3, rfl, ba0, ba1, ba2, ba3⟩ := open_slab (hval 1 52 v1 rfl rfl) h1
  unfold maxLen at hn
  refine (walk x y A n ca c a0 a1 a2 a3 W hX hY hc ba0 ba1 ba2 ba3 hn hr).mono fun e W' ⟨he, hb⟩ => ?_
  subst he
  exact ⟨_, rfl, law_post (tb := 4) laidOut (by rw [Try.params5]; intro t ht; simp at ht; rcases ht with rfl | rfl <;> exact ⟨by kernel_rfl, by decide +kernel⟩) (by kernel_rfl) Try.underlying4 rfl hW' rfl hb⟩

theorem closed : joinedFacts Try.prog 5 Try.f5 Rows.fnExactCanLaySpec Rows.fnExactCanLayRow = true := by
  unfold joinedFacts
  rw [seat_may, seat_lifts, seat_make]
  kernel_rfl

theorem proved : Rows.FnExactCanLaySaid :=
  OpenClaim.holds_of_wide 5 Try.f5 rfl rfl rfl rfl rfl rfl rfl ⟨rfl, rfl, rfl, rfl, rfl⟩ rfl rfl rfl rfl rfl (by kernel_rfl) Try.func5 closed
    (of_decide_eq_true (by kernel_rfl)) (by unfold Func.isWrapper; rw [if_neg (of_decide_eq_false (by kernel_rfl))]; exact ⟨rfl, rfl⟩)
    (fun os started H enc _ => lifted os started H enc)
#print axioms proved
end Go.Proofs.Ytkggimalkjjnoaa.canLay
