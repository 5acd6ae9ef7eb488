/-
  FnExactAreaOfPattern: at every argument AreaOfPattern answers as its model, and writes into no argument. No condition.
-/
import Derived.Test.YteebkookoidheabRows
import Derived.Test.YteebkookoidheabPat
import Derived.Test.YteebkookoidheabAreaOfPatternC
import Derived.Deep.RegionHeld3
import Derived.Lib.SmallJoins
namespace Go.Proofs.Yteebkookoidheab.areaOfPattern
open Go Go.ChangeShapes Go.WideShapes Go.ChangeAt Go.RowKit
set_option linter.unusedVariables false
set_option linter.unusedSimpArgs false
set_option maxRecDepth 100000
set_option maxHeartbeats 2000000

theorem law (x y z : Int) (A : Option Addr) (n ca : Nat) (c : Nat → Int) (r0 : Int) (r1 : Int) (w : World) (hn : n ≤ 1048576)
    (hr : Rd8 w w.heap.size A (4 * n) c)
    (hS : ∀ (W : World) (g : Nat), w.heap.size ≤ W.heap.size → W.rowIs g 67 (4 * n) (fun j => .int .i8 (c j)) →
      Calls Try.prog 22 #[.agg #[.int .i8 x, .int .i8 y, .int .i8 z, .slice (some ⟨g, 0, none⟩) n n]] W fun e w' => e = .returned (.tuple #[.int .i64 r0, .int .i64 r1]) ∧ Below W.heap.size W w')
    (hI : ∀ (W : World) (g : Nat), w.heap.size ≤ W.heap.size → W.rowIs g 67 (4 * n) (fun j => .int .i8 (c j)) →
      Calls Try.prog 23 #[.agg #[.int .i8 x, .int .i8 y, .int .i8 z, .slice (some ⟨g, 0, none⟩) n n]] W fun e w' => e = .returned (.tuple #[.int .i64 r0, .int .i64 r1]) ∧ Below W.heap.size W w') :
    Calls Try.prog 5 #[.agg #[.int .i8 x, .int .i8 y, .int .i8 z, .slice A n ca]] w fun e w' => e = .returned (.bool true) ∧ Below w.heap.size w w' := by
  have HS := Lib.hid hS
  have HI := Lib.hid hI
  have hz0 : 0 ≤ 1048576 - (n : Int) := by omega
  have HR := Lib.hid hr
  have B : Below w.heap.size w w := Below.refl _ _
  clear hS hI hr
  go_enter Try.func5, Try.ntmps5
  go_wp2_with fail
  refine (szPattern_ok x y z 1048576 A n ca _ (by omega) (by omega) (by omega)).mono ?_
  rintro e w1 ⟨rfl, hb⟩
  have H2 := (Pt.new w x y z (.slice A n ca) 25).below hb
  replace B := nxt (al B _) hb
  clear hb
  obtain ⟨l2, p2, q2, u2, r2⟩ := id H2
  go_wp2_with fail
  refine (toPattern_any x y z A n ca w.heap.size c _ (by omega) B.size (HR.out.below B)).mono ?_
  rintro e w3 ⟨g1, rfl, hg1, hb, R1⟩
  replace H2 := (H2).below hb
  replace B := nxt B hb
  clear hb l2 p2 q2 u2 r2 
  obtain ⟨l2, p2, q2, u2, r2⟩ := id H2
  go_wp2_with fail
  refine (HS.out _ g1 B.size R1).mono ?_
  rintro e w5 ⟨rfl, hb⟩
  replace H2 := (H2).below hb
  replace B := nxt B hb
  clear hb l2 p2 q2 u2 r2 
  obtain ⟨l2, p2, q2, u2, r2⟩ := id H2
  clear R1 hg1
  go_wp2_with fail
  refine (toPattern_any x y z A n ca w.heap.size c _ (by omega) B.size (HR.out.below B)).mono ?_
  rintro e w6 ⟨g7, rfl, hg7, hb, R7⟩
  replace H2 := (H2).below hb
  replace B := nxt B hb
  clear hb l2 p2 q2 u2 r2 
  obtain ⟨l2, p2, q2, u2, r2⟩ := id H2
  go_wp2_with fail
  have hB := al B (.cells #[.int .i8 x, .int .i8 y, .int .i8 z, .slice (some ⟨g7, 0, none⟩) n n] 30)
  refine (HI.out _ g7 hB.size (R7.alloc _)).mono ?_
  rintro e w9 ⟨rfl, hb⟩
  clear hB
  have H7 := (Pt.new w6 x y z (.slice (some ⟨g7, 0, none⟩) n n) 30).below hb
  replace H2 := (H2.alloc _).below hb
  replace R7 := rowNext1 R7 hb
  replace B := nxt (al B _) hb
  clear hb l2 p2 q2 u2 r2
  obtain ⟨l2, p2, q2, u2, r2⟩ := id H2
  obtain ⟨l7, p7, q7, u7, r7⟩ := id H7
  have hrr0 : (r0 != r0) = false := by simp
  have hrr1 : (r1 != r1) = false := by simp
  go_wp2_with fail
  replace B := B.drew
  replace H2 : Pt w9.drew w.heap.size x y z (.slice A n ca) := H2
  replace H7 : Pt w9.drew w6.heap.size x y z (.slice (some ⟨g7, 0, none⟩) n n) := H7
  replace R7 : w9.drew.rowIs g7 67 (4 * n) (fun j => .int .i8 (c j)) := R7
  clear l2 p2 q2 u2 r2  l7 p7 q7 u7 r7
  obtain ⟨l2, p2, q2, u2, r2⟩ := id H2
  obtain ⟨l7, p7, q7, u7, r7⟩ := id H7
  go_region_held3 (fun w' => w'.cell? ⟨w6.heap.size, 0, none⟩ = some (.int .i8 x) ∧ w'.cell? ⟨w6.heap.size, 1, none⟩ = some (.int .i8 y) ∧ w'.cell? ⟨w6.heap.size, 2, none⟩ = some (.int .i8 z) ∧ w'.cell? ⟨w6.heap.size, 3, none⟩ = some (.slice (some ⟨g7, 0, none⟩) n n) ∧ w'.cell? ⟨w.heap.size, 0, none⟩ = some (.int .i8 x) ∧ w'.cell? ⟨w.heap.size, 1, none⟩ = some (.int .i8 y) ∧ w'.cell? ⟨w.heap.size, 2, none⟩ = some (.int .i8 z) ∧ w'.cell? ⟨w.heap.size, 3, none⟩ = some (.slice A n ca))
    (first | exact ⟨p7, q7, u7, r7, p2, q2, u2, r2⟩)
    (first
      | (go_at_call 17
         with_reducible refine (toPattern_any x y z A n ca w.heap.size c _ (by omega) B.size (HR.out.below B)).mono ?_
         rintro e w10 ⟨g10, rfl, hg10, hb, R10⟩
         replace H2 := (H2).below hb
         replace H7 := (H7).below hb
         replace R7 := rowNext0 R7 hb
         replace B := nxt B hb
         clear hb l2 p2 q2 u2 r2  l7 p7 q7 u7 r7
         obtain ⟨l2, p2, q2, u2, r2⟩ := id H2
         obtain ⟨l7, p7, q7, u7, r7⟩ := id H7)
      | (go_at_call 19
         with_reducible refine (eqPattern_yes x y z (some ⟨g7, 0, none⟩) (some ⟨g10, 0, none⟩) n n n n w10.heap.size c c _ (by omega) (by omega) (Nat.le_refl _) ((Own8.of_row R7).rd R7.lt) ((Own8.of_row R10).rd R10.lt) ⟨rfl, fun _ _ => rfl⟩).mono ?_
         rintro e w11 ⟨rfl, hb⟩
         replace H2 := (H2).below hb
         replace H7 := (H7).below hb
         replace R7 := rowNext0 R7 hb
         replace B := nxt B hb
         clear hb l2 p2 q2 u2 r2  l7 p7 q7 u7 r7
         obtain ⟨l2, p2, q2, u2, r2⟩ := id H2
         obtain ⟨l7, p7, q7, u7, r7⟩ := id H7
         clear R10 hg10))
  go_wp2_with fail
  go_ret
  exact ⟨rfl, B⟩

theorem big (x y z : Int) (A : Option Addr) (n ca : Nat) (w : World) (hn : 1048576 < n) (hm : n ≤ 9223372036854775807) :
    Calls Try.prog 5 #[.agg #[.int .i8 x, .int .i8 y, .int .i8 z, .slice A n ca]] w fun e w' => e = .returned (.bool true) ∧ Below w.heap.size w w' := by
  have B : Below w.heap.size w w := Below.refl _ _
  go_enter Try.func5, Try.ntmps5
  go_wp2_with fail
  refine (szPattern_big x y z 1048576 A n ca _ (by omega) (by omega) (by omega) hm).mono ?_
  rintro e w1 ⟨rfl, hb⟩
  replace B := nxt (al B _) hb
  clear hb
  go_wp2_with fail
  go_ret
  exact ⟨rfl, B⟩

theorem walk (x y z : Int) (A : Option Addr) (n ca : Nat) (c : Nat → Int) (w : World) (hX : -128 ≤ x ∧ x ≤ 127) (hY : -128 ≤ y ∧ y ≤ 127) (hZ : -128 ≤ z ∧ z ≤ 127) (hc : ∀ j, -128 ≤ c j ∧ c j ≤ 127) (hn0 : n ≤ 9223372036854775807)
    (hr : Rd8 w w.heap.size A (4 * n) c) :
    Calls Try.prog 5 #[.agg #[.int .i8 x, .int .i8 y, .int .i8 z, .slice A n ca]] w fun e w' => e = .returned (.bool true) ∧ Below w.heap.size w w' := by
  by_cases hn : 1048576 < n
  · exact big x y z A n ca  w hn hn0
  obtain ⟨r0, r1, hS, hI⟩ := both x y z n c hX hY hZ hc  (by omega)
  exact law x y z A n ca c  r0 r1 w (by omega) hr (fun W g _ R => hS W g R) (fun W g _ R => hI W g R)

theorem lifted (os : Os) (started : os.Started) (H : Type) (enc : TypeId × Value → H) :
    ReturnsInHanded {} Try.checked os 5 .any (Rows.fnExactAreaOfPatternSpec.pre6 enc Try.prog Try.f5 Rows.fnExactAreaOfPatternRow.domain false) (Rows.fnExactAreaOfPatternSpec.post enc Try.prog Try.f5 false true false false) := by
  refine returnsInHanded_of_change (C := Try.checked) own started (by kernel_rfl) Try.func5
    (ChangeSpec.witness6 (enc := enc) (C := Try.checked) false ⟨#[], #[.agg #[.int .i8 0, .int .i8 0, .int .i8 0, .slice none 0 0]], []⟩ 8 (by kernel_rfl) (by kernel_rfl) (by kernel_rfl) (by kernel_rfl)) ?_
  intro W base args ds gs before hval0 hW hcnd _
  have hval : ∀ (j : Nat) t v, Try.f5.params[j]? = some t → args[j]? = some v → Value.okWide Try.prog W .any base t v := hval0
  have hW' := hW
  obtain ⟨p, q, hA0, hV, rfl, hfz, hnd⟩ := hW
  have hA : DataW.TrodAll enc Try.prog W 0 (fun _ => true) true Try.f5.params.toList args.toList ds p := hA0
  rw [Try.params5] at hA hval
  obtain ⟨v0, d0, rfl, rfl, h0⟩ := trodAll_one hA
  obtain ⟨rfl, rfl⟩ := trodVars_none hV
  obtain ⟨x, y, z, A, n, ca, c, rfl, hX, hY, hZ, hn, hr, hc⟩ := open_pattern (hval 0 25 v0 rfl rfl) h0
  unfold maxLen at hn
  refine (walk x y z A n ca c  W hX hY hZ hc  hn hr).mono fun e W' ⟨he, hb⟩ => ?_
  subst he
  exact ⟨_, rfl, law_post (tb := 4) laidOut (by rw [Try.params5]; intro t ht; simp at ht; subst ht; exact ⟨by kernel_rfl, by decide +kernel⟩) (by kernel_rfl) Try.underlying4 rfl hW' rfl hb⟩

theorem proved : Rows.FnExactAreaOfPatternSaid :=
  OpenClaim.holds_of_wide 5 Try.f5 rfl rfl rfl rfl rfl rfl rfl ⟨rfl, rfl, rfl, rfl, rfl⟩ rfl rfl rfl rfl rfl (by kernel_rfl) Try.func5 (by kernel_rfl)
    (of_decide_eq_true (by kernel_rfl)) (by unfold Func.isWrapper; rw [if_neg (of_decide_eq_false (by kernel_rfl))]; exact ⟨rfl, rfl⟩)
    (fun os started H enc _ => lifted os started H enc)
#print axioms proved
end Go.Proofs.Yteebkookoidheab.areaOfPattern
