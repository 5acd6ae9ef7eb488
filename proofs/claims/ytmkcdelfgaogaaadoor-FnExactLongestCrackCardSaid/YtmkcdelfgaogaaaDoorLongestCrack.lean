/-
  FnExactLongestCrack: at every argument LongestCrack answers as its model, writes into no argument. Condition: the package variables impl.errNotValid, impl.errBeyond, impl.errTooMany begin as the program's text lays them (tied by the card).
-/
import Derived.Test.YtmkcdelfgaogaaaDoorRows
import Derived.Test.YtmkcdelfgaogaaaDoorCards
import Derived.Test.YtmkcdelfgaogaaaDoorTie
import Derived.Test.YtmkcdelfgaogaaaDoorLongestCrackW
namespace Go.Proofs.YtmkcdelfgaogaaaDoor.longestCrack
open Go Go.ChangeShapes Go.WideShapes Go.ChangeAt Go.RowKit
set_option linter.unusedVariables false
set_option linter.unusedSimpArgs false
set_option maxRecDepth 100000
set_option maxHeartbeats 4000000
theorem lifted (os : Os) (started : os.Started) (H : Type) (enc : TypeId × Value → H) :
    ReturnsInHanded {} Tryd.checked os 7 .any (fun w args => (Rows.fnExactLongestCrackSpec.pre enc Tryd.prog Tryd.f7 [] false w args ∧ laidMetH Tryd.prog laidSents3 w) ∧ sizedMet enc Tryd.prog Tryd.f7 (OpenSpec.ofChange Rows.fnExactLongestCrackSpec) false w args)
      (Rows.fnExactLongestCrackSpec.post enc Tryd.prog Tryd.f7 false true false false) := by
  refine returnsInHanded_of_change_and (C := Tryd.checked) (X := fun w _ => laidMetH Tryd.prog laidSents3 w) (fun _ _ _ hh h => h.of_heap hh) own started (by kernel_rfl) Tryd.func7
    (ChangeSpec.witness_at (enc := enc) (C := Tryd.checked) (os := os) (X := fun w _ => laidMetH Tryd.prog laidSents3 w) false (laidWorldS3 os) #[.agg #[.int .i8 0, .int .i8 0, .slice none 0 0], .int .i64 0] 8 rfl (by kernel_rfl) (by kernel_rfl) (by kernel_rfl) (by kernel_rfl) (by kernel_rfl) (laidWorldS3_met os _)) ?_
  intro W base args ds gs before hval0 hW hcnd _ hL _
  have hval : ∀ (j : Nat) t v, Tryd.f7.params[j]? = some t → args[j]? = some v → Value.okWide Tryd.prog W .any base t v := hval0
  have hW' := hW
  obtain ⟨p, q, hA0, hV0, rfl, hfz, hnd⟩ := hW
  have hA : DataW.TrodAll enc Tryd.prog W 0 (fun _ => true) true Tryd.f7.params.toList args.toList ds p := hA0
  have hV : DataW.TrodVars enc Tryd.prog W (fun _ => true) ["loop.example/g01383/impl.errNotValid", "loop.example/g01383/impl.errBeyond", "loop.example/g01383/impl.errTooMany"] gs q := hV0
  rw [Tryd.params7] at hA hval
  obtain ⟨v0, v1, ds0, ds1, p0, p1, rfl, rfl, rfl, h0_, h1_⟩ := trodAll_two hA
  obtain ⟨s0_, s1_, s2_, hE, hN⟩ := sents3_of_laid hL
  have hq0 := fun sp => vars123 enc hN sp
  obtain ⟨rfl, rfl⟩ := hV.unique (hq0 _)
  obtain ⟨X0, Y0, A0, n0, ca0, c0, rfl, bX0, bY0, hm0, hr0, hc0⟩ := open_square (hval 0 25 v0 rfl rfl) h0_
  obtain ⟨k1, rfl, rfl, rfl, bk1⟩ := open_int Tryd.underlying2 (hval 1 2 v1 rfl rfl) h1_
  unfold maxLen at hm0
  refine (walk X0 Y0 A0 n0 ca0 c0 k1 s0_ s1_ s2_ W bX0 bY0 hm0 hc0 bk1 hr0 hE).mono fun e W' ⟨he, hb⟩ => ?_
  subst he
  exact ⟨_, rfl, law_postV (tb := 4) laidOut (by rw [Tryd.params7]; intro t ht; simp at ht; rcases ht with rfl | rfl <;> exact ⟨by kernel_rfl, by decide +kernel⟩) (by kernel_rfl) Tryd.underlying4 hW'
    (fun q h => (DataW.TrodVars.unique (ns := ["loop.example/g01383/impl.errNotValid", "loop.example/g01383/impl.errBeyond", "loop.example/g01383/impl.errTooMany"]) h (hq0 _)).2) (fun sp => vars123 enc (hN.below hb) sp) rfl hb⟩

theorem said : Rows.FnExactLongestCrackSaid :=
  OpenClaim.holds_of_wide 7 Tryd.f7 rfl rfl rfl rfl rfl rfl rfl ⟨rfl, rfl, rfl, rfl, rfl⟩ rfl rfl rfl rfl rfl (by kernel_rfl) Tryd.func7 (by kernel_rfl)
    (of_decide_eq_true (by kernel_rfl)) (by unfold Func.isWrapper; rw [if_neg (of_decide_eq_false (by kernel_rfl))]; exact ⟨rfl, rfl⟩)
    (fun os started H enc _ => lifted os started H enc)

theorem proved : Rows.FnExactLongestCrackCardSaid :=
  Claim7.holds_tied_plain_at .later [] [.sentinel, .sentinel, .sentinel] true Rows.fnExactLongestCrackCard.stood.harness Rows.fnExactLongestCrackCard.stood.looks
    said (fun _ h => by cases h) (by kernel_rfl) (fun _ h => by cases h) fnExactLongestCrack_row_tie rfl ⟨rfl, rfl⟩ (by kernel_rfl) rfl
    (fun f fn hf hfn => by
      obtain rfl : f = 7 := Option.some.inj ((show Tryd.prog.funcNamed "loop.example/g01383/laws.FnExactLongestCrack" = some 7 by kernel_rfl).symm.trans hf) |>.symm
      obtain rfl : fn = Tryd.f7 := (Option.some.inj (Tryd.func7.symm.trans hfn)).symm
      exact ⟨by kernel_rfl, fun j t ht => by
        rw [Tryd.params7] at ht
        have hm : t ∈ [25, 2] := by simpa using Array.mem_of_getElem? ht
        have hall : ([25, 2].all fun u => !Tryd.prog.wantsStandIn u) = true := by kernel_rfl
        exact (show Tryd.prog.wantsStandIn t = false by simpa using List.all_eq_true.1 hall t hm)⟩)
    (by kernel_rfl)
#print axioms proved
end Go.Proofs.YtmkcdelfgaogaaaDoor.longestCrack
