/-
  FnExactOpenSquare: at every two int64s OpenSquare answers as its model, every field; its answer owns its memory. No condition.
-/
import Derived.Test.YtmbmdplafjminaaRows
import Derived.Test.YtmbmdplafjminaaMark
import Derived.Test.YtmbmdplafjminaaOpenSquareC
namespace Go.Proofs.Ytmbmdplafjminaa.openSquare
open Go Go.ChangeShapes Go.WideShapes Go.ChangeAt Go.RowKit
set_option linter.unusedVariables false
set_option maxRecDepth 100000

theorem law (a b X Y C : Int) (w : World)
    (hS : ∀ w, Calls Try.prog 24 #[.int .i64 a, .int .i64 b] w fun e w' => e = .returned (.tuple #[.agg #[.int .i8 X, .int .i8 Y, .slice none 0 0], .int .i64 C]) ∧ Below w.heap.size w w')
    (hI : ∀ w, Calls Try.prog 25 #[.int .i64 a, .int .i64 b] w fun e w' => e = .returned (.tuple #[.agg #[.int .i8 X, .int .i8 Y, .slice none 0 0], .int .i64 C]) ∧ Below w.heap.size w w') :
    Calls Try.prog 6 #[.int .i64 a, .int .i64 b] w fun e w' => e = .returned (.bool true) ∧ Below w.heap.size w w' := by
  have HS := Lib.hid hS
  have HI := Lib.hid hI
  clear hS hI
  go_enter Try.func6, Try.ntmps6
  go_wp2_with fail
  refine (HS.out _).mono ?_
  rintro e w1 ⟨rfl, hb1⟩
  go_wp2_with fail
  refine (HI.out _).mono ?_
  rintro e w2 ⟨rfl, hb2⟩
  have H5 := (Sq.new w1 X Y (.slice none 0 0) 32).below hb2
  obtain ⟨l5, p5, q5, r5⟩ := id H5
  have B2 := nxt (al hb1 _) hb2
  clear hb1 hb2
  go_wp2_with fail
  refine (eqSquare_yes X Y none none 0 0 0 0 0 (fun _ => 0) (fun _ => 0) _ (by omega) (by omega) (Nat.zero_le _) (nil8 _ _ _) (nil8 _ _ _) ⟨rfl, fun _ _ => rfl⟩).mono ?_
  rintro e w3 ⟨rfl, hb3⟩
  have H7 := (Sq.new w2 X Y (.slice none 0 0) 32).below hb3
  have H5 := (H5.alloc _).below hb3
  have B3 := nxt (al B2 _) hb3
  clear l5 p5 q5 r5 B2 hb3
  obtain ⟨l5, p5, q5, r5⟩ := id H5
  obtain ⟨l7, p7, q7, r7⟩ := id H7
  go_wp2_with fail
  refine (markSquare_any X Y none w3.heap.size 0 0 0 (fun _ => 0) 1 _ (by omega) (by omega) (by omega) (fun h => absurd h (by omega)) (own0 _ _ _ _) (fun h => absurd h (by omega))).mono ?_
  rintro e w4 ⟨rfl, hg4, _⟩
  have B4 := below_grown B3 hg4 B3.size B3.size
  have H5 := H5.grown hg4 (Nat.ne_of_lt l5)
  have H7 := H7.grown hg4 (Nat.ne_of_lt l7)
  clear l5 p5 q5 r5 l7 p7 q7 r7 B3 hg4
  obtain ⟨l5, p5, q5, r5⟩ := id H5
  obtain ⟨l7, p7, q7, r7⟩ := id H7
  go_wp2_with fail
  refine (heldSquare_any X Y none w4.heap.size 0 0 0 1 _ (by omega) (by omega) (by omega) (fun h => absurd h (by omega)) (own0 _ _ _ _) (fun h => absurd h (by omega))).mono ?_
  rintro e w5 ⟨rfl, hb5⟩
  have H5 := H5.below hb5
  have H7 := H7.below hb5
  have B5 := nxt B4 hb5
  clear l5 p5 q5 r5 l7 p7 q7 r7 B4 hb5
  obtain ⟨l5, p5, q5, r5⟩ := id H5
  obtain ⟨l7, p7, q7, r7⟩ := id H7
  go_wp2_with fail
  refine (HI.out _).mono ?_
  rintro e w6 ⟨rfl, hb6⟩
  have H5 := H5.below hb6
  have H7 := H7.below hb6
  have B6 := nxt B5 hb6
  clear l5 p5 q5 r5 l7 p7 q7 r7 B5 hb6
  obtain ⟨l5, p5, q5, r5⟩ := id H5
  obtain ⟨l7, p7, q7, r7⟩ := id H7
  go_wp2_with fail
  refine (eqSquare_yes X Y none none 0 0 0 0 0 (fun _ => 0) (fun _ => 0) _ (by omega) (by omega) (Nat.zero_le _) (nil8 _ _ _) (nil8 _ _ _) ⟨rfl, fun _ _ => rfl⟩).mono ?_
  rintro e w7 ⟨rfl, hb7⟩
  have H7 := (H7.alloc _).below hb7
  have B7 := nxt (al B6 _) hb7
  clear l5 p5 q5 r5 l7 p7 q7 r7 B6 hb7
  obtain ⟨l7, p7, q7, r7⟩ := id H7
  go_wp2_with fail
  refine (heldSquare_any X Y none w7.heap.size 0 0 0 1 _ (by omega) (by omega) (by omega) (fun h => absurd h (by omega)) (own0 _ _ _ _) (fun h => absurd h (by omega))).mono ?_
  rintro e w8 ⟨rfl, hb8⟩
  have B8 := nxt B7 hb8
  go_wp2
  go_ret
  exact ⟨rfl, B8⟩

theorem walk (a b : Int) (w : World) : Calls Try.prog 6 #[.int .i64 a, .int .i64 b] w fun e w' => e = .returned (.bool true) ∧ Below w.heap.size w w' := by
  by_cases h : 1 ≤ a ∧ a ≤ 12 ∧ 1 ≤ b ∧ b ≤ 12
  · obtain ⟨h1, h2, h3, h4⟩ := h
    exact law a b a b 0 w (spec_ok a b h1 h2 h3 h4) (impl_ok a b h1 h2 h3 h4)
  · exact law a b 0 0 2 w (spec_bad a b h) (impl_bad a b h)

theorem lifted (os : Os) (started : os.Started) (H : Type) (enc : TypeId × Value → H) :
    ReturnsInHanded {} Try.checked os 6 .any (Rows.fnExactOpenSquareSpec.pre6 enc Try.prog Try.f6 Rows.fnExactOpenSquareRow.domain false) (Rows.fnExactOpenSquareSpec.post enc Try.prog Try.f6 false true false false) := by
  refine returnsInHanded_of_change (C := Try.checked) own started (by kernel_rfl) Try.func6
    (ChangeSpec.witness6 (enc := enc) (C := Try.checked) false ⟨#[], #[.int .i64 0, .int .i64 0], []⟩ 8 (by kernel_rfl) (by kernel_rfl) (by kernel_rfl) (by kernel_rfl)) ?_
  intro W base args ds gs before hval0 hW hcnd _
  have hval : ∀ (j : Nat) t v, Try.f6.params[j]? = some t → args[j]? = some v → Value.okWide Try.prog W .any base t v := hval0
  have hW' := hW
  obtain ⟨p, q, hA0, hV, rfl, hfz, hnd⟩ := hW
  have hA : DataW.TrodAll enc Try.prog W 0 (fun _ => true) true Try.f6.params.toList args.toList ds p := hA0
  rw [Try.params6] at hA hval
  obtain ⟨v0, v1, d0, d1, p0, p1, rfl, rfl, rfl, h0, h1⟩ := trodAll_two hA
  obtain ⟨rfl, rfl⟩ := trodVars_none hV
  obtain ⟨a0, rfl, rfl, rfl, w0⟩ := open_int Try.underlying2 (hval 0 2 v0 rfl rfl) h0
  obtain ⟨a1, rfl, rfl, rfl, w1⟩ := open_int Try.underlying2 (hval 1 2 v1 rfl rfl) h1
  refine (walk a0 a1 W).mono fun e W' ⟨he, hb⟩ => ?_
  subst he
  exact ⟨_, rfl, law_post (tb := 4) laidOut (by rw [Try.params6]; intro t ht; simp at ht; subst ht; exact ⟨by kernel_rfl, by decide +kernel⟩) (by kernel_rfl) Try.underlying4 rfl hW' rfl hb⟩

theorem proved : Rows.FnExactOpenSquareSaid :=
  OpenClaim.holds_of_wide 6 Try.f6 rfl rfl rfl rfl rfl rfl rfl ⟨rfl, rfl, rfl, rfl, rfl⟩ rfl rfl rfl rfl rfl (by kernel_rfl) Try.func6 (by kernel_rfl)
    (of_decide_eq_true (by kernel_rfl)) (by unfold Func.isWrapper; rw [if_neg (of_decide_eq_false (by kernel_rfl))]; exact ⟨rfl, rfl⟩)
    (fun os started H enc _ => lifted os started H enc)
#print axioms proved
end Go.Proofs.Ytmbmdplafjminaa.openSquare
