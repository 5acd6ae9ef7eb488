/-
  FnExactCheckStacks: at every argument CheckStacks answers as its model, writes into no argument. No condition.
-/
import Derived.Test.YtkggimalkjjnoaaRows
import Derived.Test.YtkggimalkjjnoaaCheckStacksW
import Derived.Test.YtkggimalkjjnoaaSeat
namespace Go.Proofs.Ytkggimalkjjnoaa.checkStacks
open Go Go.ChangeShapes Go.WideShapes Go.ChangeAt Go.RowKit
set_option linter.unusedVariables false
set_option linter.unusedSimpArgs false
set_option maxRecDepth 100000
set_option maxHeartbeats 2000000

theorem lifted (os : Os) (started : os.Started) (H : Type) (enc : TypeId × Value → H) :
    ReturnsInHanded {} Try.checked os 10 .any (Rows.fnExactCheckStacksSpec.pre6 enc Try.prog Try.f10 Rows.fnExactCheckStacksRow.domain false) (Rows.fnExactCheckStacksSpec.post enc Try.prog Try.f10 false true false false) := by
  refine returnsInHanded_of_change (C := Try.checked) own started (by kernel_rfl) Try.func10
    (ChangeSpec.witness6 (enc := enc) (C := Try.checked) false ⟨#[], #[.slice none 0 0, .slice none 0 0, .slice none 0 0], []⟩ 8 (by kernel_rfl) (by kernel_rfl) (by kernel_rfl) (by kernel_rfl)) ?_
  intro W base args ds gs before hval0 hW hcnd _
  have hval : ∀ (j : Nat) t v, Try.f10.params[j]? = some t → args[j]? = some v → Value.okWide Try.prog W .any base t v := hval0
  have hW' := hW
  obtain ⟨p, q, hA0, hV, rfl, hfz, hnd⟩ := hW
  have hA : DataW.TrodAll enc Try.prog W 0 (fun _ => true) true Try.f10.params.toList args.toList ds p := hA0
  rw [Try.params10] at hA hval
  obtain ⟨v0, v1, v2, d0, d1, d2, p0, p1, p2, rfl, rfl, rfl, h0, h1, h2⟩ := trodAll_three hA
  obtain ⟨rfl, rfl⟩ := trodVars_none hV
  obtain ⟨A0, n0, ca0, c0, rfl, hm0, hr0, hc0⟩ := open_nums (hval 0 29 v0 rfl rfl) h0
  obtain ⟨A1, n1, ca1, c1, rfl, hm1, hr1, hc1⟩ := open_nums (hval 1 29 v1 rfl rfl) h1
  obtain ⟨A2, n2, ca2, c2, rfl, hm2, hr2, hc2⟩ := open_nums (hval 2 29 v2 rfl rfl) h2
  unfold maxLen at hm0 hm1 hm2
  refine (walk A0 n0 ca0 c0 A1 n1 ca1 c1 A2 n2 ca2 c2 W hm0 hc0 hm1 hc1 hm2 hc2 hr0 hr1 hr2).mono fun e W' ⟨he, hb⟩ => ?_
  subst he
  exact ⟨_, rfl, law_post (tb := 4) laidOut (by rw [Try.params10]; intro t ht; simp at ht; subst ht; exact ⟨by kernel_rfl, by decide +kernel⟩) (by kernel_rfl) Try.underlying4 rfl hW' rfl hb⟩

theorem closed : joinedFacts Try.prog 10 Try.f10 Rows.fnExactCheckStacksSpec Rows.fnExactCheckStacksRow = true := by
  unfold joinedFacts
  rw [seat_may, seat_lifts, seat_make]
  kernel_rfl

theorem proved : Rows.FnExactCheckStacksSaid :=
  OpenClaim.holds_of_wide 10 Try.f10 rfl rfl rfl rfl rfl rfl rfl ⟨rfl, rfl, rfl, rfl, rfl⟩ rfl rfl rfl rfl rfl (by kernel_rfl) Try.func10 closed
    (of_decide_eq_true (by kernel_rfl)) (by unfold Func.isWrapper; rw [if_neg (of_decide_eq_false (by kernel_rfl))]; exact ⟨rfl, rfl⟩)
    (fun os started H enc _ => lifted os started H enc)
#print axioms proved
end Go.Proofs.Ytkggimalkjjnoaa.checkStacks
