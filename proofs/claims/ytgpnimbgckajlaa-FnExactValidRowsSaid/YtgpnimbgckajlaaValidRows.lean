/-
  FnExactValidRows: at every argument ValidRows answers as its model, writes into no argument. No condition.
-/
import Derived.Test.YtgpnimbgckajlaaRows
import Derived.Test.YtgpnimbgckajlaaNums
import Derived.Test.YtgpnimbgckajlaaRowsA
import Derived.Test.YtgpnimbgckajlaaValidRowsB
import Derived.Deep.RegionHeld3
import Derived.Lib.SmallJoins
namespace Go.Proofs.Ytgpnimbgckajlaa.validRows
open Go Go.ChangeShapes Go.WideShapes Go.ChangeAt Go.RowKit
set_option linter.unusedVariables false
set_option linter.unusedSimpArgs false
set_option maxRecDepth 100000
set_option maxHeartbeats 2000000

theorem law (A0 : Option Addr) (n0 ca0 : Nat) (c0 d0 : Nat → Int) (z1 : Bool) (w : World) (hn0 : n0 ≤ 1048576)
    (hr0 : RdS w w.heap.size A0 n0 c0 d0)
    (hS : ∀ (W : World) (G0 : Nat), w.heap.size ≤ W.heap.size → As W G0 n0 c0 d0 → 
      Calls Try.prog 17 #[.slice (some ⟨G0, 0, none⟩) n0 n0] W fun e w' => e = .returned (.bool z1) ∧ Below W.heap.size W w')
    (hI : ∀ (W : World) (G0 : Nat), w.heap.size ≤ W.heap.size → As W G0 n0 c0 d0 → 
      Calls Try.prog 19 #[.slice (some ⟨G0, 0, none⟩) n0 n0] W fun e w' => e = .returned (.bool z1) ∧ Below W.heap.size W w') :
    Calls Try.prog 4 #[.slice A0 n0 ca0] w fun e w' => e = .returned (.bool true) ∧ Below w.heap.size w w' := by
  have HS := Lib.hid hS
  have HI := Lib.hid hI
  have HR0 := Lib.hid hr0
  have hz0 : 0 ≤ 1048576 - (n0 : Int) := by omega
  have hy0 : 0 ≤ 1 + 2 * (n0 : Int) := by omega
  have B : Below w.heap.size w w := Below.refl _ _
  clear hS hI hr0
  go_enter Try.func4, Try.ntmps4
  have hrrz1 : (z1 != z1) = false := by simp
  go_wp2_with fail
  refine (szRowS_ok A0 n0 ca0 1048576 _ (by omega) (by omega) (by omega)).mono ?_
  rintro e w1 ⟨rfl, rfl⟩
  go_wp2_with fail
  refine (toRowS_any A0 n0 ca0 w.heap.size c0 d0 _ (by omega) B.size (HR0.out.below B)).mono ?_
  rintro e w2 ⟨ga0, rfl, hg, hb, Xa0⟩
  have bzga0 : w.heap.size ≤ ga0 := Nat.le_trans B.size hg
  replace B := nxt B hb
  clear hb
  clear hg
  go_wp2_with fail
  refine (HS.out _ ga0 B.size Xa0).mono ?_
  rintro e w3 ⟨rfl, hb⟩
  replace Xa0 := Xa0.below hb
  replace B := nxt B hb
  clear hb
  clear Xa0
  go_wp2_with fail
  refine (toRowS_any A0 n0 ca0 w.heap.size c0 d0 _ (by omega) B.size (HR0.out.below B)).mono ?_
  rintro e w4 ⟨gb0, rfl, hg, hb, Xb0⟩
  have bzgb0 : w.heap.size ≤ gb0 := Nat.le_trans B.size hg
  replace B := nxt B hb
  clear hb
  clear hg
  go_wp2_with fail
  refine (HI.out _ gb0 B.size Xb0).mono ?_
  rintro e w5 ⟨rfl, hb⟩
  replace Xb0 := Xb0.below hb
  replace B := nxt B hb
  clear hb
  go_wp2_with fail
  refine (toRowS_any A0 n0 ca0 w.heap.size c0 d0 _ (by omega) B.size (HR0.out.below B)).mono ?_
  rintro e w6 ⟨gc0, rfl, hg, hb, Xc0⟩
  have qgb0gc0 : gb0 < gc0 := Nat.lt_of_lt_of_le Xb0.1 hg
  have bzgc0 : w.heap.size ≤ gc0 := Nat.le_trans B.size hg
  replace Xb0 := Xb0.below hb
  replace B := nxt B hb
  clear hb
  clear hg
  go_wp2_with fail
  refine (eqRowS_any (some ⟨gb0, 0, none⟩) (some ⟨gc0, 0, none⟩) n0 n0 n0 n0 _ c0 d0 c0 d0 _ (by omega) (by omega) (Nat.le_refl _) Xb0.rd Xc0.rd ⟨rfl, fun _ _ => ⟨rfl, rfl⟩⟩).mono ?_
  rintro e w7 ⟨rfl, hb⟩
  replace Xb0 := Xb0.below hb
  replace Xc0 := Xc0.below hb
  replace B := nxt B hb
  clear hb
  clear Xc0
  go_wp2_with fail
  go_ret
  exact ⟨rfl, B⟩

theorem big0 (A0 : Option Addr) (n0 ca0 : Nat) (c0 d0 : Nat → Int) (w : World)  (hn : 1048576 < n0) (hm : n0 ≤ 9223372036854775807) :
    Calls Try.prog 4 #[.slice A0 n0 ca0] w fun e w' => e = .returned (.bool true) ∧ Below w.heap.size w w' := by
  go_enter Try.func4, Try.ntmps4
  go_wp2_with fail
  refine (szRowS_big A0 n0 ca0 1048576 _ (by omega) (by omega) (by omega) hm).mono ?_
  rintro e w1 ⟨rfl, rfl⟩
  go_wp2_with fail
  go_ret
  exact ⟨rfl, Below.refl _ _⟩

theorem walk (A0 : Option Addr) (n0 ca0 : Nat) (c0 d0 : Nat → Int) (w : World) (hm0 : n0 ≤ 9223372036854775807) (hc0 : ∀ j, -128 ≤ c0 j ∧ c0 j ≤ 127) (hd0 : ∀ j, -32768 ≤ d0 j ∧ d0 j ≤ 32767)
    (hr0 : RdS w w.heap.size A0 n0 c0 d0) :
    Calls Try.prog 4 #[.slice A0 n0 ca0] w fun e w' => e = .returned (.bool true) ∧ Below w.heap.size w w' := by
  by_cases hn0 : 1048576 < n0
  · exact big0 A0 n0 ca0 c0 d0 w  hn0 hm0
  obtain ⟨z1, hS, hI⟩ := both n0 c0 d0 hc0 hd0 (by omega)
  exact law A0 n0 ca0 c0 d0 z1 w (by omega) hr0 (fun W G0 _ R0 => hS W G0 R0) (fun W G0 _ R0 => hI W G0 R0)

theorem lifted (os : Os) (started : os.Started) (H : Type) (enc : TypeId × Value → H) :
    ReturnsInHanded {} Try.checked os 4 .any (Rows.fnExactValidRowsSpec.pre6 enc Try.prog Try.f4 Rows.fnExactValidRowsRow.domain false) (Rows.fnExactValidRowsSpec.post enc Try.prog Try.f4 false true false false) := by
  refine returnsInHanded_of_change (C := Try.checked) own started (by kernel_rfl) Try.func4
    (ChangeSpec.witness6 (enc := enc) (C := Try.checked) false ⟨#[], #[.slice none 0 0], []⟩ 8 (by kernel_rfl) (by kernel_rfl) (by kernel_rfl) (by kernel_rfl)) ?_
  intro W base args ds gs before hval0 hW hcnd _
  have hval : ∀ (j : Nat) t v, Try.f4.params[j]? = some t → args[j]? = some v → Value.okWide Try.prog W .any base t v := hval0
  have hW' := hW
  obtain ⟨p, q, hA0, hV, rfl, hfz, hnd⟩ := hW
  have hA : DataW.TrodAll enc Try.prog W 0 (fun _ => true) true Try.f4.params.toList args.toList ds p := hA0
  rw [Try.params4] at hA hval
  obtain ⟨v0, d0, rfl, rfl, h0⟩ := trodAll_one hA
  obtain ⟨rfl, rfl⟩ := trodVars_none hV
  obtain ⟨A0, n0, ca0, c0, e0, rfl, hm0, hr0, hc0, he0⟩ := open_rows (hval 0 30 v0 rfl rfl) h0
  unfold maxLen at hm0
  refine (walk A0 n0 ca0 c0 e0 W hm0 hc0 he0 hr0).mono fun e W' ⟨he, hb⟩ => ?_
  subst he
  exact ⟨_, rfl, law_post (tb := 4) laidOut (by rw [Try.params4]; intro t ht; simp at ht; subst ht; exact ⟨by kernel_rfl, by decide +kernel⟩) (by kernel_rfl) Try.underlying4 rfl hW' rfl hb⟩

theorem proved : Rows.FnExactValidRowsSaid :=
  OpenClaim.holds_of_wide 4 Try.f4 rfl rfl rfl rfl rfl rfl rfl ⟨rfl, rfl, rfl, rfl, rfl⟩ rfl rfl rfl rfl rfl (by kernel_rfl) Try.func4 (by kernel_rfl)
    (of_decide_eq_true (by kernel_rfl)) (by unfold Func.isWrapper; rw [if_neg (of_decide_eq_false (by kernel_rfl))]; exact ⟨rfl, rfl⟩)
    (fun os started H enc _ => lifted os started H enc)
#print axioms proved
end Go.Proofs.Ytgpnimbgckajlaa.validRows
