/-
  FnExactWeightOf: at every argument WeightOf answers as its model, and writes into no argument. No condition.
-/
import Derived.Test.YtkggimalkjjnoaaRows
import Derived.Test.YtkggimalkjjnoaaWeight
import Derived.Test.YtkggimalkjjnoaaOpenS
import Derived.Test.YtkggimalkjjnoaaFrame
import Derived.Test.YtkggimalkjjnoaaSeat
import Derived.Deep.RegionHeld3
import Derived.Lib.SmallJoins
namespace Go.Proofs.Ytkggimalkjjnoaa.weightOf
open Go Go.ChangeShapes Go.WideShapes Go.ChangeAt Go.RowKit
set_option linter.unusedVariables false
set_option linter.unusedSimpArgs false
set_option maxRecDepth 100000
set_option maxHeartbeats 2000000

theorem walk (a0 a1 a2 a3 : Int) (w : World) (b2 : -128 ≤ a2 ∧ a2 ≤ 127) (b3 : -128 ≤ a3 ∧ a3 ≤ 127) :
    Calls Try.prog 12 #[.agg #[.int .i8 a0, .int .i8 a1, .int .i8 a2, .int .i8 a3]] w fun e w' => e = .returned (.bool true) ∧ Below w.heap.size w w' := by
  obtain ⟨z, hz⟩ : ∃ z, z = wtOf a2 a3 := ⟨_, rfl⟩
  have HS := Lib.hid (fun W => specWeightOf_any a0 a1 a2 a3 W b2 b3)
  have HI := Lib.hid (fun W => weightOf_any a0 a1 a2 a3 W b2 b3)
  rw [← hz] at HS HI
  have hrr : (z != z) = false := by simp
  clear hz
  have B := al (Below.refl w.heap.size w) (.cells #[.int .i8 a0, .int .i8 a1, .int .i8 a2, .int .i8 a3] 52)
  go_enter Try.func12, Try.ntmps12
  go_wp2_with fail
  refine (toSlab_any a0 a1 a2 a3 _).mono ?_
  rintro e w1 ⟨rfl, hb⟩
  have H3 := (Sl.new w a0 a1 a2 a3 52).below hb
  replace B := nxt B hb
  clear hb
  go_wp2_with fail
  refine (HS.out _).mono ?_
  rintro e w2 ⟨rfl, hb⟩
  replace H3 := H3.below hb
  replace B := nxt B hb
  clear hb
  obtain ⟨l3, p3, q3, s3, t3⟩ := id H3
  go_wp2_with fail
  refine (toSlab_any a0 a1 a2 a3 _).mono ?_
  rintro e w3 ⟨rfl, hb⟩
  replace B := nxt B hb
  clear hb
  go_wp2_with fail
  refine (HI.out _).mono ?_
  rintro e w4 ⟨rfl, hb⟩
  replace B := nxt B hb
  clear hb
  go_wp2_with fail
  go_ret
  exact ⟨rfl, B⟩

theorem lifted (os : Os) (started : os.Started) (H : Type) (enc : TypeId × Value → H) :
    ReturnsInHanded {} Try.checked os 12 .any (Rows.fnExactWeightOfSpec.pre6 enc Try.prog Try.f12 Rows.fnExactWeightOfRow.domain false) (Rows.fnExactWeightOfSpec.post enc Try.prog Try.f12 false true false false) := by
  refine returnsInHanded_of_change (C := Try.checked) own started (by kernel_rfl) Try.func12
    (ChangeSpec.witness6 (enc := enc) (C := Try.checked) false ⟨#[], #[.agg #[.int .i8 0, .int .i8 0, .int .i8 0, .int .i8 0]], []⟩ 8 (by kernel_rfl) (by kernel_rfl) (by kernel_rfl) (by kernel_rfl)) ?_
  intro W base args ds gs before hval0 hW hcnd _
  have hval : ∀ (j : Nat) t v, Try.f12.params[j]? = some t → args[j]? = some v → Value.okWide Try.prog W .any base t v := hval0
  have hW' := hW
  obtain ⟨p, q, hA0, hV, rfl, hfz, hnd⟩ := hW
  have hA : DataW.TrodAll enc Try.prog W 0 (fun _ => true) true Try.f12.params.toList args.toList ds p := hA0
  rw [Try.params12] at hA hval
  obtain ⟨v0, d0, rfl, rfl, h0⟩ := trodAll_one hA
  obtain ⟨rfl, rfl⟩ := trodVars_none hV
  obtain ⟨a0, a1, a2, a3, rfl, ba0, ba1, ba2, ba3⟩ := open_slab (hval 0 52 v0 rfl rfl) h0
  refine (walk a0 a1 a2 a3 W ba2 ba3).mono fun e W' ⟨he, hb⟩ => ?_
  subst he
  exact ⟨_, rfl, law_post (tb := 4) laidOut (by rw [Try.params12]; intro t ht; simp at ht; subst ht; exact ⟨by kernel_rfl, by decide +kernel⟩) (by kernel_rfl) Try.underlying4 rfl hW' rfl hb⟩

theorem closed : joinedFacts Try.prog 12 Try.f12 Rows.fnExactWeightOfSpec Rows.fnExactWeightOfRow = true := by
  unfold joinedFacts
  rw [seat_may, seat_lifts, seat_make]
  kernel_rfl

theorem proved : Rows.FnExactWeightOfSaid :=
  OpenClaim.holds_of_wide 12 Try.f12 rfl rfl rfl rfl rfl rfl rfl ⟨rfl, rfl, rfl, rfl, rfl⟩ rfl rfl rfl rfl rfl (by kernel_rfl) Try.func12 closed
    (of_decide_eq_true (by kernel_rfl)) (by unfold Func.isWrapper; rw [if_neg (of_decide_eq_false (by kernel_rfl))]; exact ⟨rfl, rfl⟩)
    (fun os started H enc _ => lifted os started H enc)
#print axioms proved
end Go.Proofs.Ytkggimalkjjnoaa.weightOf
