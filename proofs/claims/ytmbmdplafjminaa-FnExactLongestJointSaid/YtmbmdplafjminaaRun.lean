/-
  Rows of joints: contracts of impl.jointsEast and impl.jointsSouth. Conditions stand at each.
-/
import Derived.Test.YtmbmdplafjminaaRows
import Derived.Test.YtmbmdplafjminaaJoint
import Derived.Test.YtmbmdplafjminaaOpen
namespace Go.Proofs.Ytmbmdplafjminaa
open Go Go.ChangeShapes Go.WideShapes Go.ChangeAt Go.RowKit
set_option linter.unusedVariables false
set_option linter.unusedSimpArgs false
set_option maxRecDepth 100000
set_option maxHeartbeats 2000000

/-- k is the first number at which T does not hold. -/
def FirstNot (T : Nat → Bool) (k : Nat) : Prop := (∀ i, i < k → T i = true) ∧ T k = false
theorem FirstNot.uniq {T : Nat → Bool} {a b : Nat} (h : FirstNot T a) (k : FirstNot T b) : a = b := by
  rcases Nat.lt_trichotomy a b with e | e | e
  · have := k.1 a e; rw [h.2] at this; cases this
  · exact e
  · have := h.1 b e; rw [k.2] at this; cases this
def RunPost (T : Nat → Bool) (w : World) (e : Ending) (w' : World) : Prop := Below w.heap.size w w' ∧ ∃ k : Nat, k ≤ 12 ∧ FirstNot T k ∧ e = .returned (.int .i64 k)

def runEast (G : Nat → Int) (x y : Nat) (i : Nat) : Bool := jb (gA G ((x : Int) + i) ((y : Int) - 1)) (gA G ((x : Int) + i) y)
theorem runEast_end (G : Nat → Int) (x y k : Nat) (h : 12 ≤ x + k) : runEast G x y k = false := by
  unfold runEast
  rw [gA_out (x := (x : Int) + (k : Int)) (y := (y : Int)) (by omega)]
  simp [jb]
theorem jointsEast_any (b x y : Nat) (G : Nat → Int) (w : World) (hx : x < 12) (hy : y < 12) (hG : w.rowIs b 82 144 (fun p => .int .i8 (G p))) :
    Calls Try.prog 87 #[.pointer (some ⟨b, 0, none⟩), .agg #[.int .i8 (x : Int), .int .i8 (y : Int)]] w (RunPost (runEast G x y) w) := by
  have HJ := Lib.hid (fun a b' c d W hW => jb_any b a b' c d G W hW)
  go_enter Try.func87, Try.ntmps87
  go_wp2_with fail
  have H3 := C2.new w (x : Int) (y : Int) 45
  have B := al (Below.refl w.heap.size w) (.cells #[.int .i8 (x : Int), .int .i8 (y : Int)] 45)
  have F3 : (w.alloc (.cells #[.int .i8 (x : Int), .int .i8 (y : Int)] 45)).heap[w.heap.size]? = some (.cells #[.int .i8 (x : Int), .int .i8 (y : Int)] 45 (0, 0)) := heap_alloc_new w _
  obtain ⟨W0, hW0⟩ : ∃ W0 : World, W0 = w.alloc (.cells #[.int .i8 (x : Int), .int .i8 (y : Int)] 45) := ⟨_, rfl⟩
  rw [← hW0] at H3 B F3 ⊢
  clear hW0 H3
  go_loopw [5] (fun t5 wr => ∃ k : Nat, x + k ≤ 12 ∧ t5 = .int .i64 k ∧ Below w.heap.size w wr ∧ wr.heap[w.heap.size]? = some (.cells #[.int .i8 ((x : Int) + (k : Int)), .int .i8 (y : Int)] 45 (0, 0)) ∧ ∀ i, i < k → runEast G x y i = true) (fun t5 wr => 13 - (intOf t5).toNat)
  case atStart => exact ⟨0, by omega, rfl, B, by simpa using F3, fun i hi => absurd hi (by omega)⟩
  case round =>
    clear B F3
    obtain ⟨k, hk, rfl, B, F3, hall⟩ := hrel
    have HA := Lib.hid hall
    clear hall
    have R := hG.of_block (B.block _ hG.lt)
    have c0 := cell_of_row wr w.heap.size 0 _ _ _ F3
    have c1 := cell_of_row wr w.heap.size 1 _ _ _ F3
    have f0 := frozen_of_row wr w.heap.size 0 _ _ F3
    simp at c0 c1
    have HF := Lib.hid F3
    clear F3
    have hxi : (x : Int) ≤ 11 := by omega
    have hyi : (y : Int) ≤ 11 := by omega
    have hki : (x : Int) + (k : Int) ≤ 12 := by omega
    by_cases hr : runEast G x y k = true
    · have HRR := Lib.hid hr
      clear hr
      go_wp2_with fail
      refine (HJ.out _ _ _ _ _ R).mono ?_
      rintro e w3 ⟨he, hb⟩
      have he' : e = .returned (.bool true) := he.trans (congrArg (fun b => Ending.returned (Value.bool b)) HRR.out)
      subst he'
      have B3 := B.trans (hb.mono B.size)
      have F4 := (hb.block _ (Array.getElem?_eq_some_iff.1 HF.out).1).trans HF.out
      have d0 := cell_of_row w3 w.heap.size 0 _ _ _ F4
      have g0 := frozen_of_row w3 w.heap.size 0 _ _ F4
      simp at d0
      have HF4 := Lib.hid F4
      clear he hb F4 c0 c1 f0
      have hlt : x + k < 12 := by
        rcases Nat.lt_or_ge (x + k) 12 with h | h
        · exact h
        · have := runEast_end G x y k h
          rw [HRR.out] at this
          cases this
      go_wp2_with fail
      refine ⟨⟨k + 1, by omega, by first | go_num | simp, B3.setCell (p := ⟨w.heap.size, 0, none⟩) (Nat.le_refl _) _, ?_, ?_⟩, by simp [intOf]; omega⟩
      · rw [heap_setCell_same w3 w.heap.size 0 _ _ _ HF4.out]
        simp
        omega
      · intro i hi
        by_cases e : i = k
        · subst e; exact HRR.out
        · exact HA.out i (by omega)
    · rw [Bool.not_eq_true] at hr
      have HRR := Lib.hid hr
      clear hr
      go_wp2_with fail
      refine (HJ.out _ _ _ _ _ R).mono ?_
      rintro e w3 ⟨he, hb⟩
      have he' : e = .returned (.bool false) := he.trans (congrArg (fun b => Ending.returned (Value.bool b)) HRR.out)
      subst he'
      have B3 := B.trans (hb.mono B.size)
      clear he hb
      go_wp2_with fail
      go_ret
      exact ⟨B3, k, by omega, ⟨HA.out, HRR.out⟩, rfl⟩

def runSouth (G : Nat → Int) (x y : Nat) (i : Nat) : Bool := jb (gA G ((x : Int) - 1) ((y : Int) + i)) (gA G x ((y : Int) + i))
theorem runSouth_end (G : Nat → Int) (x y k : Nat) (h : 12 ≤ y + k) : runSouth G x y k = false := by
  unfold runSouth
  rw [gA_out (x := (x : Int)) (y := (y : Int) + (k : Int)) (by omega)]
  simp [jb]
theorem jointsSouth_any (b x y : Nat) (G : Nat → Int) (w : World) (hx : x < 12) (hy : y < 12) (hG : w.rowIs b 82 144 (fun p => .int .i8 (G p))) :
    Calls Try.prog 88 #[.pointer (some ⟨b, 0, none⟩), .agg #[.int .i8 (x : Int), .int .i8 (y : Int)]] w (RunPost (runSouth G x y) w) := by
  have HJ := Lib.hid (fun a b' c d W hW => jb_any b a b' c d G W hW)
  go_enter Try.func88, Try.ntmps88
  go_wp2_with fail
  have H3 := C2.new w (x : Int) (y : Int) 45
  have B := al (Below.refl w.heap.size w) (.cells #[.int .i8 (x : Int), .int .i8 (y : Int)] 45)
  have F3 : (w.alloc (.cells #[.int .i8 (x : Int), .int .i8 (y : Int)] 45)).heap[w.heap.size]? = some (.cells #[.int .i8 (x : Int), .int .i8 (y : Int)] 45 (0, 0)) := heap_alloc_new w _
  obtain ⟨W0, hW0⟩ : ∃ W0 : World, W0 = w.alloc (.cells #[.int .i8 (x : Int), .int .i8 (y : Int)] 45) := ⟨_, rfl⟩
  rw [← hW0] at H3 B F3 ⊢
  clear hW0 H3
  go_loopw [5] (fun t5 wr => ∃ k : Nat, y + k ≤ 12 ∧ t5 = .int .i64 k ∧ Below w.heap.size w wr ∧ wr.heap[w.heap.size]? = some (.cells #[.int .i8 (x : Int), .int .i8 ((y : Int) + (k : Int))] 45 (0, 0)) ∧ ∀ i, i < k → runSouth G x y i = true) (fun t5 wr => 13 - (intOf t5).toNat)
  case atStart => exact ⟨0, by omega, rfl, B, by simpa using F3, fun i hi => absurd hi (by omega)⟩
  case round =>
    clear B F3
    obtain ⟨k, hk, rfl, B, F3, hall⟩ := hrel
    have HA := Lib.hid hall
    clear hall
    have R := hG.of_block (B.block _ hG.lt)
    have c0 := cell_of_row wr w.heap.size 0 _ _ _ F3
    have c1 := cell_of_row wr w.heap.size 1 _ _ _ F3
    have f0 := frozen_of_row wr w.heap.size 0 _ _ F3
    simp at c0 c1
    have HF := Lib.hid F3
    clear F3
    have hxi : (x : Int) ≤ 11 := by omega
    have hyi : (y : Int) ≤ 11 := by omega
    have hki : (y : Int) + (k : Int) ≤ 12 := by omega
    by_cases hr : runSouth G x y k = true
    · have HRR := Lib.hid hr
      clear hr
      go_wp2_with fail
      refine (HJ.out _ _ _ _ _ R).mono ?_
      rintro e w3 ⟨he, hb⟩
      have he' : e = .returned (.bool true) := he.trans (congrArg (fun b => Ending.returned (Value.bool b)) HRR.out)
      subst he'
      have B3 := B.trans (hb.mono B.size)
      have F4 := (hb.block _ (Array.getElem?_eq_some_iff.1 HF.out).1).trans HF.out
      have d0 := cell_of_row w3 w.heap.size 1 _ _ _ F4
      have g0 := frozen_of_row w3 w.heap.size 1 _ _ F4
      simp at d0
      have HF4 := Lib.hid F4
      clear he hb F4 c0 c1 f0
      have hlt : y + k < 12 := by
        rcases Nat.lt_or_ge (y + k) 12 with h | h
        · exact h
        · have := runSouth_end G x y k h
          rw [HRR.out] at this
          cases this
      go_wp2_with fail
      refine ⟨⟨k + 1, by omega, by first | go_num | simp, B3.setCell (p := ⟨w.heap.size, 1, none⟩) (Nat.le_refl _) _, ?_, ?_⟩, by simp [intOf]; omega⟩
      · rw [heap_setCell_same w3 w.heap.size 1 _ _ _ HF4.out]
        simp
        omega
      · intro i hi
        by_cases e : i = k
        · subst e; exact HRR.out
        · exact HA.out i (by omega)
    · rw [Bool.not_eq_true] at hr
      have HRR := Lib.hid hr
      clear hr
      go_wp2_with fail
      refine (HJ.out _ _ _ _ _ R).mono ?_
      rintro e w3 ⟨he, hb⟩
      have he' : e = .returned (.bool false) := he.trans (congrArg (fun b => Ending.returned (Value.bool b)) HRR.out)
      subst he'
      have B3 := B.trans (hb.mono B.size)
      clear he hb
      go_wp2_with fail
      go_ret
      exact ⟨B3, k, by omega, ⟨HA.out, HRR.out⟩, rfl⟩
end Go.Proofs.Ytmbmdplafjminaa
