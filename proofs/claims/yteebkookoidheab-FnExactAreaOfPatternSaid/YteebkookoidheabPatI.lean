/-
  The contract of impl.ValidPattern. Conditions stand at it.
-/
import Derived.Test.YteebkookoidheabRows
import Derived.Test.YteebkookoidheabPat
import Derived.Test.YteebkookoidheabCmp
import Derived.Test.YteebkookoidheabPlain
import Derived.Test.YteebkookoidheabAt
import Derived.IntWalk
import Derived.Deep.RegionHeld3
namespace Go.Proofs.Yteebkookoidheab
open Go Go.ChangeShapes Go.WideShapes Go.ChangeAt Go.RowKit
set_option linter.unusedVariables false
set_option linter.unusedSimpArgs false
set_option maxRecDepth 100000
set_option maxHeartbeats 2000000

def pIn (X Y : Int) (c : Nat → Int) (i : Nat) : Prop := 0 ≤ c (4 * i) ∧ c (4 * i) < X ∧ 0 ≤ c (4 * i + 1) ∧ c (4 * i + 1) < Y
def pSz (c : Nat → Int) (i : Nat) : Prop := (1 ≤ c (4 * i + 2) ∧ c (4 * i + 2) ≤ 12) ∧ (1 ≤ c (4 * i + 3) ∧ c (4 * i + 3) ≤ 12)
def pAt (X Y : Int) (c : Nat → Int) (i : Nat) : Prop := pIn X Y c i ∧ pSz c i ∧ ∀ j, i = j + 1 → befo c j
def pHead (X Y Z : Int) : Prop := (1 ≤ X ∧ X ≤ 8) ∧ (1 ≤ Y ∧ Y ≤ 8) ∧ (0 ≤ Z ∧ Z < X)
def pTo (X Y : Int) (c : Nat → Int) (k : Nat) : Prop := ∀ i, i < k → pAt X Y c i
def PValid (X Y Z : Int) (n : Nat) (c : Nat → Int) : Prop := pHead X Y Z ∧ (1 ≤ n ∧ n ≤ 12) ∧ pTo X Y c n
theorem pTo.step {X Y : Int} {c : Nat → Int} {k : Nat} (h : pTo X Y c k) (h1 : pAt X Y c k) : pTo X Y c (k + 1) := fun i hi => by
  by_cases e : i = k
  · subst e; exact h1
  · exact h i (by omega)
def PVPost (X Y Z : Int) (n : Nat) (c : Nat → Int) (w : World) (e : Ending) (w' : World) : Prop :=
  Below w.heap.size w w' ∧ ((PValid X Y Z n c ∧ e = .returned (.bool true)) ∨ (¬ PValid X Y Z n c ∧ e = .returned (.bool false)))

theorem pval_bad (X Y Z : Int) (g n : Nat) (c : Nat → Int) (w : World) (h : ¬ (pHead X Y Z ∧ (1 ≤ n ∧ n ≤ 12))) (hm : n ≤ 1048576) :
    Calls Try.prog 18 #[.agg #[.int .i8 X, .int .i8 Y, .int .i8 Z, .slice (some ⟨g, 0, none⟩) n n]] w (PVPost X Y Z n c w) := by
  unfold pHead at h
  go_enter Try.func18, Try.ntmps18
  go_wp2
  all_goals first
    | (exfalso; simp only [Bool.or_eq_true, decide_eq_true_eq, Bool.or_eq_false_iff, decide_eq_false_iff_not] at *; omega)
    | (go_ret; exact ⟨al (Below.refl _ _) _, .inr ⟨fun hv => h ⟨hv.1, hv.2.1⟩, rfl⟩⟩)
    | (trace_state; sorry)

theorem pval_loop (X Y Z : Int) (g n : Nat) (c : Nat → Int) (w : World) (hc : ∀ j, -128 ≤ c j ∧ c j ≤ 127) (hrow : w.rowIs g 67 (4 * n) (fun j => .int .i8 (c j))) (hd : pHead X Y Z) (hn : 1 ≤ n ∧ n ≤ 12) :
    Calls Try.prog 18 #[.agg #[.int .i8 X, .int .i8 Y, .int .i8 Z, .slice (some ⟨g, 0, none⟩) n n]] w (PVPost X Y Z n c w) := by
  obtain ⟨⟨x1, x2⟩, ⟨y1, y2⟩, z1, z2⟩ := id hd
  have d1 : decide (X < 1) = false := by simp; omega
  have d2 : decide (8 < X) = false := by simp; omega
  have d3 : decide (Y < 1) = false := by simp; omega
  have d4 : decide (8 < Y) = false := by simp; omega
  have d5 : decide (Z < 0) = false := by simp; omega
  have d6 : decide (X ≤ Z) = false := by simp; omega
  have d7 : decide ((n : Int) < 1) = false := by simp; omega
  have d8 : decide ((12 : Int) < (n : Int)) = false := by simp; omega
  have HC := Lib.hid hc
  have HD := Lib.hid hd
  clear hc hd
  go_enter Try.func18, Try.ntmps18
  go_wp2
  have B0 := al (Below.refl w.heap.size w) (.cells #[.int .i8 X, .int .i8 Y, .int .i8 Z, .slice (some ⟨g, 0, none⟩) n n] 30)
  have hq0 := Pt.new w X Y Z (.slice (some ⟨g, 0, none⟩) n n) 30
  obtain ⟨W0, hW0⟩ : ∃ W0 : World, W0 = w.alloc (.cells #[.int .i8 X, .int .i8 Y, .int .i8 Z, .slice (some ⟨g, 0, none⟩) n n] 30) := ⟨_, rfl⟩
  rw [← hW0] at B0 hq0 ⊢
  clear hW0
  go_loopw [48, 3, 4] (fun t48 t3 t4 wr => ∃ i : Nat, i ≤ n ∧ t48 = .int .i64 i ∧ Below w.heap.size w wr ∧ Pt wr w.heap.size X Y Z (.slice (some ⟨g, 0, none⟩) n n) ∧ pTo X Y c i) (fun t48 t3 t4 wr => n - (intOf t48).toNat)
  case atStart => exact ⟨0, by omega, rfl, B0, hq0, fun i hi => absurd hi (by omega)⟩
  case round =>
    clear B0 hq0
    obtain ⟨i, hi, rfl, B, hq, hok⟩ := hrel
    obtain ⟨lq, pq, qq, uq, rq⟩ := id hq
    by_cases hlt : i < n
    · have hslab := (Own8.of_row (f := c) (hrow.of_block (B.block _ hrow.lt)))
      obtain ⟨c0, c1, c2, c3⟩ := hslab.at4 hlt |>.1
      simp only [Nat.zero_add] at c0 c1 c2 c3
      have hb4 := HC.out (4 * i)
      have hb5 := HC.out (4 * i + 1)
      have hb6 := HC.out (4 * i + 2)
      have hb7 := HC.out (4 * i + 3)
      obtain ⟨wo, rfl⟩ : ∃ wo : World, wo = wr := ⟨_, rfl⟩
      by_cases hl : ¬ pIn X Y c i
      · have hl' : ¬ (0 ≤ c (4 * i) ∧ 0 ≤ c (4 * i + 1) ∧ (1 : Int) ≤ 1 ∧ (1 : Int) ≤ 1 ∧ c (4 * i) + 1 ≤ X ∧ c (4 * i + 1) + 1 ≤ Y) := by unfold pIn at hl; omega
        go_wp2_with fail
        refine (lw_no X Y _ _ _ _ _ (by omega) (by omega) hb4 hb5 (by omega) (by omega) hl').mono ?_
        rintro e w1 ⟨rfl, hb⟩
        replace B := nxt (al B _) hb
        clear hb lq pq qq uq rq c0 c1 c2 c3 hq
        go_wp2_with fail
        go_ret
        exact ⟨B, .inr ⟨fun hv => hl (hv.2.2 i hlt).1, rfl⟩⟩
      replace hl := Classical.not_not.1 hl
      have hl' : (0 ≤ c (4 * i) ∧ 0 ≤ c (4 * i + 1) ∧ (1 : Int) ≤ 1 ∧ (1 : Int) ≤ 1 ∧ c (4 * i) + 1 ≤ X ∧ c (4 * i + 1) + 1 ≤ Y) := by unfold pIn at hl; omega
      go_wp2_with fail
      refine (lw_yes X Y _ _ _ _ _ (by omega) (by omega) hb4 hb5 (by omega) (by omega) hl').mono ?_
      rintro e w1 ⟨rfl, hb⟩
      have H5 := (Sl.new wo (c (4 * i)) (c (4 * i + 1)) (c (4 * i + 2)) (c (4 * i + 3)) 67).below hb
      replace B := nxt (al B _) hb
      replace hq := (hq.alloc _).below hb
      clear hb lq pq qq uq rq c0 c1 c2 c3
      obtain ⟨l5, p5, q5, r5, s5⟩ := id H5
      by_cases ha : ¬ (1 ≤ c (4 * i + 2) ∧ c (4 * i + 2) ≤ 12)
      · go_wp2_with (go_at_call 54; with_reducible refine (side_no (c (4 * i + 2)) _ ha).mono ?_; rintro e w' ⟨rfl, rfl⟩)
        go_ret
        exact ⟨B, .inr ⟨fun hv => ha (hv.2.2 i hlt).2.1.1, rfl⟩⟩
      replace ha := Classical.not_not.1 ha
      by_cases hb : ¬ (1 ≤ c (4 * i + 3) ∧ c (4 * i + 3) ≤ 12)
      · go_wp2_with (first
          | (go_at_call 54; with_reducible refine (side_yes (c (4 * i + 2)) _ ha.1 ha.2).mono ?_; rintro e w' ⟨rfl, rfl⟩)
          | (go_at_call 54; with_reducible refine (side_no (c (4 * i + 3)) _ hb).mono ?_; rintro e w' ⟨rfl, rfl⟩))
        go_ret
        exact ⟨B, .inr ⟨fun hv => hb (hv.2.2 i hlt).2.1.2, rfl⟩⟩
      replace hb := Classical.not_not.1 hb
      have HA := Lib.hid ha
      have HBB := Lib.hid hb
      have HL := Lib.hid hl
      go_wp2_with (first
        | (go_at_call 54; with_reducible refine (side_yes (c (4 * i + 2)) _ HA.out.1 HA.out.2).mono ?_; rintro e w' ⟨rfl, rfl⟩)
        | (go_at_call 54; with_reducible refine (side_yes (c (4 * i + 3)) _ HBB.out.1 HBB.out.2).mono ?_; rintro e w' ⟨rfl, rfl⟩))
      clear ha hb hl hl'
      by_cases hi0 : i = 0
      · have d1 : decide (0 < (i : Int)) = false := by simp; omega
        refine wp_region_held_drew (S := (fun _ => True)) (by kernel_rfl) trivial (fun hHeld => ?_)
        refine wpAnyH_take (i := 0) (oi := _) (v := ?_) rfl (by kernel_rfl) (by kernel_rfl) (by kernel_rfl) (fun _ _ _ h => h) (Or.inl ⟨by kernel_rfl, ?_⟩) (by assumption) ?_
        rotate_left
        · intro w hSw; (try dsimp only at hSw); go_simp; first | done | with_reducible rfl
        try simp only [List.getElem_toArray, List.getElem_cons_zero, List.getElem_cons_succ, Act.put, List.setIfInBounds_toArray, List.set_cons_zero, List.set_cons_succ]
        refine wpAnyH_take (i := 1) (oi := _) (v := ?_) rfl (by kernel_rfl) (by kernel_rfl) (by kernel_rfl) (fun _ _ _ h => h) (Or.inl ⟨by kernel_rfl, ?_⟩) (by assumption) ?_
        rotate_left
        · intro w hSw; (try dsimp only at hSw); go_simp; first | done | with_reducible rfl
        try simp only [List.getElem_toArray, List.getElem_cons_zero, List.getElem_cons_succ, Act.put, List.setIfInBounds_toArray, List.set_cons_zero, List.set_cons_succ]
        refine wpAnyH_take (i := 2) (oi := _) (v := ?_) rfl (by kernel_rfl) (by kernel_rfl) (by kernel_rfl) (fun _ _ _ h => h) (Or.inl ⟨by kernel_rfl, ?_⟩) (by assumption) ?_
        rotate_left
        · intro w hSw; (try dsimp only at hSw); go_simp; first | done | with_reducible rfl
        try simp only [List.getElem_toArray, List.getElem_cons_zero, List.getElem_cons_succ, Act.put, List.setIfInBounds_toArray, List.set_cons_zero, List.set_cons_succ]
        refine wpAnyH_take (i := 3) (oi := _) (v := undef) rfl (by kernel_rfl) (by kernel_rfl) (by kernel_rfl) (fun _ _ _ h => h) (Or.inr ⟨by kernel_rfl, rfl⟩) (by assumption) ?_
        try simp only [List.getElem_toArray, List.getElem_cons_zero, List.getElem_cons_succ, Act.put, List.setIfInBounds_toArray, List.set_cons_zero, List.set_cons_succ]
        refine wpAnyH_take (i := 4) (oi := _) (v := undef) rfl (by kernel_rfl) (by kernel_rfl) (by kernel_rfl) (fun _ _ _ h => h) (Or.inr ⟨by kernel_rfl, rfl⟩) (by assumption) ?_
        try simp only [List.getElem_toArray, List.getElem_cons_zero, List.getElem_cons_succ, Act.put, List.setIfInBounds_toArray, List.set_cons_zero, List.set_cons_succ]
        refine wpAnyH_take (i := 5) (oi := _) (v := undef) rfl (by kernel_rfl) (by kernel_rfl) (by kernel_rfl) (fun _ _ _ h => h) (Or.inr ⟨by kernel_rfl, rfl⟩) (by assumption) ?_
        try simp only [List.getElem_toArray, List.getElem_cons_zero, List.getElem_cons_succ, Act.put, List.setIfInBounds_toArray, List.set_cons_zero, List.set_cons_succ]
        refine wpAnyH_take (i := 6) (oi := _) (v := undef) rfl (by kernel_rfl) (by kernel_rfl) (by kernel_rfl) (fun _ _ _ h => h) (Or.inr ⟨by kernel_rfl, rfl⟩) (by assumption) ?_
        try simp only [List.getElem_toArray, List.getElem_cons_zero, List.getElem_cons_succ, Act.put, List.setIfInBounds_toArray, List.set_cons_zero, List.set_cons_succ]
        refine wpAnyH_take (i := 7) (oi := _) (v := undef) rfl (by kernel_rfl) (by kernel_rfl) (by kernel_rfl) (fun _ _ _ h => h) (Or.inr ⟨by kernel_rfl, rfl⟩) (by assumption) ?_
        try simp only [List.getElem_toArray, List.getElem_cons_zero, List.getElem_cons_succ, Act.put, List.setIfInBounds_toArray, List.set_cons_zero, List.set_cons_succ]
        refine wpAnyH_take (i := 8) (oi := _) (v := undef) rfl (by kernel_rfl) (by kernel_rfl) (by kernel_rfl) (fun _ _ _ h => h) (Or.inr ⟨by kernel_rfl, rfl⟩) (by assumption) ?_
        try simp only [List.getElem_toArray, List.getElem_cons_zero, List.getElem_cons_succ, Act.put, List.setIfInBounds_toArray, List.set_cons_zero, List.set_cons_succ]
        refine wpAnyH_take (i := 9) (oi := _) (v := undef) rfl (by kernel_rfl) (by kernel_rfl) (by kernel_rfl) (fun _ _ _ h => h) (Or.inr ⟨by kernel_rfl, rfl⟩) (by assumption) ?_
        try simp only [List.getElem_toArray, List.getElem_cons_zero, List.getElem_cons_succ, Act.put, List.setIfInBounds_toArray, List.set_cons_zero, List.set_cons_succ]
        refine wpAnyH_take (i := 10) (oi := _) (v := undef) rfl (by kernel_rfl) (by kernel_rfl) (by kernel_rfl) (fun _ _ _ h => h) (Or.inr ⟨by kernel_rfl, rfl⟩) (by assumption) ?_
        try simp only [List.getElem_toArray, List.getElem_cons_zero, List.getElem_cons_succ, Act.put, List.setIfInBounds_toArray, List.set_cons_zero, List.set_cons_succ]
        refine wpAnyH_take (i := 11) (oi := _) (v := undef) rfl (by kernel_rfl) (by kernel_rfl) (by kernel_rfl) (fun _ _ _ h => h) (Or.inr ⟨by kernel_rfl, rfl⟩) (by assumption) ?_
        try simp only [List.getElem_toArray, List.getElem_cons_zero, List.getElem_cons_succ, Act.put, List.setIfInBounds_toArray, List.set_cons_zero, List.set_cons_succ]
        refine wpAnyH_take (i := 12) (oi := _) (v := ?_) rfl (by kernel_rfl) (by kernel_rfl) (by kernel_rfl) (fun _ _ _ h => h) (Or.inl ⟨by kernel_rfl, ?_⟩) (by assumption) ?_
        rotate_left
        · intro w hSw; (try dsimp only at hSw); go_simp; first | done | with_reducible rfl
        try simp only [List.getElem_toArray, List.getElem_cons_zero, List.getElem_cons_succ, Act.put, List.setIfInBounds_toArray, List.set_cons_zero, List.set_cons_succ]
        refine wpAnyH_done (by kernel_rfl) ?_ _
        replace B := B.drew
        replace hq : Pt w1.drew w.heap.size X Y Z (.slice (some ⟨g, 0, none⟩) n n) := hq
        clear l5 p5 q5 r5 s5 H5
        go_wp2_with fail
        exact ⟨⟨i + 1, by omega, by first | go_num | simp, B, hq, hok.step ⟨HL.out, ⟨HA.out, HBB.out⟩, fun j hj => absurd hi0 (by omega)⟩⟩, by simp [intOf]; omega⟩
      obtain ⟨j, rfl⟩ : ∃ j, i = j + 1 := ⟨i - 1, by omega⟩
      have d1 : decide (0 < ((j + 1 : Nat) : Int)) = true := by first | (simp; done) | (simp; omega)
      have d2 : decide (0 < (j : Int) + 1) = true := by first | (simp; done) | (simp; omega)
      have hslab := (Own8.of_row (f := c) (hrow.of_block (B.block _ hrow.lt)))
      obtain ⟨c0, c1, c2, c3⟩ := hslab.at4 (k := j) (by omega) |>.1
      simp only [Nat.zero_add] at c0 c1 c2 c3
      obtain ⟨lq, pq, qq, uq, rq⟩ := id hq
      have wj : IntKind.i64.wrap (j : Int) = (j : Int) := IntWalk.i64_in _ (by omega)
      have hj0 : 0 ≤ (j : Int) := by omega
      have hjn : (j : Int) < (n : Int) := by omega
      by_cases hbf : ¬ befo c j
      · have hbf' : ¬ (c (4 * j + 1) < c (4 * (j + 1) + 1) ∨ (c (4 * j + 1) = c (4 * (j + 1) + 1) ∧ c (4 * j) < c (4 * (j + 1)))) := hbf
        replace B := B.drew
        replace hq : Pt w1.drew w.heap.size X Y Z (.slice (some ⟨g, 0, none⟩) n n) := hq
        replace H5 : Sl w1.drew wo.heap.size (c (4 * (j + 1))) (c (4 * (j + 1) + 1)) (c (4 * (j + 1) + 2)) (c (4 * (j + 1) + 3)) := H5
        refine wp_region_held_drew (S := (fun w' => w'.cell? ⟨wo.heap.size, 0, none⟩ = some (.int .i8 (c (4 * (j + 1)))) ∧ w'.cell? ⟨wo.heap.size, 1, none⟩ = some (.int .i8 (c (4 * (j + 1) + 1))) ∧ w'.cell? ⟨wo.heap.size, 2, none⟩ = some (.int .i8 (c (4 * (j + 1) + 2))) ∧ w'.cell? ⟨wo.heap.size, 3, none⟩ = some (.int .i8 (c (4 * (j + 1) + 3))) ∧ w'.cell? ⟨w.heap.size, 3, none⟩ = some (.slice (some ⟨g, 0, none⟩) n n) ∧ w'.cell? ⟨g, j * 4, none⟩ = some (.int .i8 (c (4 * j))) ∧ w'.cell? ⟨g, j * 4 + 1, none⟩ = some (.int .i8 (c (4 * j + 1))) ∧ w'.cell? ⟨g, j * 4 + 2, none⟩ = some (.int .i8 (c (4 * j + 2))) ∧ w'.cell? ⟨g, j * 4 + 3, none⟩ = some (.int .i8 (c (4 * j + 3))))) (by kernel_rfl) ⟨p5, q5, r5, s5, rq, c0, c1, c2, c3⟩ (fun hHeld => ?_)
        refine wpAnyH_take (i := 0) (oi := _) (v := ?_) rfl (by kernel_rfl) (by kernel_rfl) (by kernel_rfl) (fun _ _ _ h => h) (Or.inl ⟨by kernel_rfl, ?_⟩) (by assumption) ?_
        rotate_left
        · intro w hSw; (try dsimp only at hSw); go_simp; first | done | with_reducible rfl
        try simp only [List.getElem_toArray, List.getElem_cons_zero, List.getElem_cons_succ, Act.put, List.setIfInBounds_toArray, List.set_cons_zero, List.set_cons_succ]
        refine wpAnyH_take (i := 1) (oi := _) (v := ?_) rfl (by kernel_rfl) (by kernel_rfl) (by kernel_rfl) (fun _ _ _ h => h) (Or.inl ⟨by kernel_rfl, ?_⟩) (by assumption) ?_
        rotate_left
        · intro w hSw; (try dsimp only at hSw); go_simp; first | done | with_reducible rfl
        try simp only [List.getElem_toArray, List.getElem_cons_zero, List.getElem_cons_succ, Act.put, List.setIfInBounds_toArray, List.set_cons_zero, List.set_cons_succ]
        refine wpAnyH_take (i := 2) (oi := _) (v := ?_) rfl (by kernel_rfl) (by kernel_rfl) (by kernel_rfl) (fun _ _ _ h => h) (Or.inl ⟨by kernel_rfl, ?_⟩) (by assumption) ?_
        rotate_left
        · intro w hSw; (try dsimp only at hSw); go_simp; first | done | with_reducible rfl
        try simp only [List.getElem_toArray, List.getElem_cons_zero, List.getElem_cons_succ, Act.put, List.setIfInBounds_toArray, List.set_cons_zero, List.set_cons_succ]
        refine wpAnyH_take (i := 3) (oi := _) (v := ?_) rfl (by kernel_rfl) (by kernel_rfl) (by kernel_rfl) (fun _ _ _ h => h) (Or.inl ⟨by kernel_rfl, ?_⟩) (by assumption) ?_
        rotate_left
        · intro w hSw; (try dsimp only at hSw); go_simp; first | done | with_reducible rfl
        try simp only [List.getElem_toArray, List.getElem_cons_zero, List.getElem_cons_succ, Act.put, List.setIfInBounds_toArray, List.set_cons_zero, List.set_cons_succ]
        refine wpAnyH_take (i := 4) (oi := _) (v := ?_) rfl (by kernel_rfl) (by kernel_rfl) (by kernel_rfl) (fun _ _ _ h => h) (Or.inl ⟨by kernel_rfl, ?_⟩) (by assumption) ?_
        rotate_left
        · intro w hSw; (try dsimp only at hSw); go_simp; first | done | with_reducible rfl
        try simp only [List.getElem_toArray, List.getElem_cons_zero, List.getElem_cons_succ, Act.put, List.setIfInBounds_toArray, List.set_cons_zero, List.set_cons_succ]
        refine wpAnyH_take (i := 5) (oi := _) (v := ?_) rfl (by kernel_rfl) (by kernel_rfl) (by kernel_rfl) (fun _ _ _ h => h) (Or.inl ⟨by kernel_rfl, ?_⟩) (by assumption) ?_
        rotate_left
        · intro w hSw; (try dsimp only at hSw); go_simp; first | done | with_reducible rfl
        try simp only [List.getElem_toArray, List.getElem_cons_zero, List.getElem_cons_succ, Act.put, List.setIfInBounds_toArray, List.set_cons_zero, List.set_cons_succ]
        refine wpAnyH_take (i := 6) (oi := _) (v := ?_) rfl (by kernel_rfl) (by kernel_rfl) (by kernel_rfl) (fun _ _ _ h => h) (Or.inl ⟨by kernel_rfl, ?_⟩) (by assumption) ?_
        rotate_left
        · intro w hSw; (try dsimp only at hSw); go_simp; first | done | with_reducible rfl
        try simp only [List.getElem_toArray, List.getElem_cons_zero, List.getElem_cons_succ, Act.put, List.setIfInBounds_toArray, List.set_cons_zero, List.set_cons_succ]
        refine wpAnyH_take (i := 7) (oi := _) (v := ?_) rfl (by kernel_rfl) (by kernel_rfl) (by kernel_rfl) (fun _ _ _ h => h) (Or.inl ⟨by kernel_rfl, ?_⟩) (by assumption) ?_
        rotate_left
        · intro w hSw; (try dsimp only at hSw); go_simp; first | done | with_reducible rfl
        try simp only [List.getElem_toArray, List.getElem_cons_zero, List.getElem_cons_succ, Act.put, List.setIfInBounds_toArray, List.set_cons_zero, List.set_cons_succ]
        refine wpAnyH_take (i := 8) (oi := _) (v := ?_) rfl (by kernel_rfl) (by kernel_rfl) (by kernel_rfl) (fun _ _ _ h => h) (Or.inl ⟨by kernel_rfl, ?_⟩) (by assumption) ?_
        rotate_left
        · intro w hSw; (try dsimp only at hSw); go_simp; first | done | with_reducible rfl
        try simp only [List.getElem_toArray, List.getElem_cons_zero, List.getElem_cons_succ, Act.put, List.setIfInBounds_toArray, List.set_cons_zero, List.set_cons_succ]
        refine wpAnyH_take (i := 9) (oi := _) (v := ?_) rfl (by kernel_rfl) (by kernel_rfl) (by kernel_rfl) (fun _ _ _ h => h) (Or.inl ⟨by kernel_rfl, ?_⟩) (by assumption) ?_
        rotate_left
        · intro w hSw; (try dsimp only at hSw); go_simp; first | done | with_reducible rfl
        try simp only [List.getElem_toArray, List.getElem_cons_zero, List.getElem_cons_succ, Act.put, List.setIfInBounds_toArray, List.set_cons_zero, List.set_cons_succ]
        refine wpAnyH_ready (rs := [10]) (by kernel_rfl) (by simp) ?_
        refine AllReadyH.cons (o := _) rfl (fun K hK => ?_) AllReadyH.nil
        go_simp
        refine (cp_any _ _ _ _ _ _ _ _ _).mono ?_
        rintro e w3 ⟨hb, r, rfl, hr⟩
        have dr : decide (0 ≤ r) = true := by have := (not_congr hr).2 hbf'; simp; omega
        replace B := nxt B hb
        replace hq := hq.below hb
        replace H5 := H5.below hb
        clear hb hr
        clear l5 p5 q5 r5 s5 lq pq qq uq rq c0 c1 c2 c3
        obtain ⟨l5, p5, q5, r5, s5⟩ := id H5
        obtain ⟨lq, pq, qq, uq, rq⟩ := id hq
        obtain ⟨c0, c1, c2, c3⟩ := (Own8.of_row (f := c) (hrow.of_block (B.block _ hrow.lt))).at4 (k := j) (by omega) |>.1
        simp only [Nat.zero_add] at c0 c1 c2 c3
        refine hK.out _ _ ⟨p5, q5, r5, s5, rq, c0, c1, c2, c3⟩ (fun hHeld => ?_)
        clear hK K
        try simp only [List.getElem_toArray, List.getElem_cons_zero, List.getElem_cons_succ, Act.put, List.setIfInBounds_toArray, List.set_cons_zero, List.set_cons_succ]
        refine wpAnyH_take (i := 11) (oi := _) (v := ?_) rfl (by kernel_rfl) (by kernel_rfl) (by kernel_rfl) (fun _ _ _ h => h) (Or.inl ⟨by kernel_rfl, ?_⟩) (by assumption) ?_
        rotate_left
        · intro w hSw; (try dsimp only at hSw); go_simp; first | done | with_reducible rfl
        try simp only [List.getElem_toArray, List.getElem_cons_zero, List.getElem_cons_succ, Act.put, List.setIfInBounds_toArray, List.set_cons_zero, List.set_cons_succ]
        refine wpAnyH_take (i := 12) (oi := _) (v := ?_) rfl (by kernel_rfl) (by kernel_rfl) (by kernel_rfl) (fun _ _ _ h => h) (Or.inl ⟨by kernel_rfl, ?_⟩) (by assumption) ?_
        rotate_left
        · intro w hSw; (try dsimp only at hSw); go_simp; first | done | with_reducible rfl
        try simp only [List.getElem_toArray, List.getElem_cons_zero, List.getElem_cons_succ, Act.put, List.setIfInBounds_toArray, List.set_cons_zero, List.set_cons_succ]
        refine wpAnyH_done (by kernel_rfl) ?_ _
        go_wp2_with fail
        go_ret
        exact ⟨B, .inr ⟨fun hv => hbf ((hv.2.2 (j + 1) hlt).2.2 j rfl), rfl⟩⟩
      replace hbf := Classical.not_not.1 hbf
      have hbf' : (c (4 * j + 1) < c (4 * (j + 1) + 1) ∨ (c (4 * j + 1) = c (4 * (j + 1) + 1) ∧ c (4 * j) < c (4 * (j + 1)))) := hbf
      replace B := B.drew
      replace hq : Pt w1.drew w.heap.size X Y Z (.slice (some ⟨g, 0, none⟩) n n) := hq
      replace H5 : Sl w1.drew wo.heap.size (c (4 * (j + 1))) (c (4 * (j + 1) + 1)) (c (4 * (j + 1) + 2)) (c (4 * (j + 1) + 3)) := H5
      refine wp_region_held_drew (S := (fun w' => w'.cell? ⟨wo.heap.size, 0, none⟩ = some (.int .i8 (c (4 * (j + 1)))) ∧ w'.cell? ⟨wo.heap.size, 1, none⟩ = some (.int .i8 (c (4 * (j + 1) + 1))) ∧ w'.cell? ⟨wo.heap.size, 2, none⟩ = some (.int .i8 (c (4 * (j + 1) + 2))) ∧ w'.cell? ⟨wo.heap.size, 3, none⟩ = some (.int .i8 (c (4 * (j + 1) + 3))) ∧ w'.cell? ⟨w.heap.size, 3, none⟩ = some (.slice (some ⟨g, 0, none⟩) n n) ∧ w'.cell? ⟨g, j * 4, none⟩ = some (.int .i8 (c (4 * j))) ∧ w'.cell? ⟨g, j * 4 + 1, none⟩ = some (.int .i8 (c (4 * j + 1))) ∧ w'.cell? ⟨g, j * 4 + 2, none⟩ = some (.int .i8 (c (4 * j + 2))) ∧ w'.cell? ⟨g, j * 4 + 3, none⟩ = some (.int .i8 (c (4 * j + 3))))) (by kernel_rfl) ⟨p5, q5, r5, s5, rq, c0, c1, c2, c3⟩ (fun hHeld => ?_)
      refine wpAnyH_take (i := 0) (oi := _) (v := ?_) rfl (by kernel_rfl) (by kernel_rfl) (by kernel_rfl) (fun _ _ _ h => h) (Or.inl ⟨by kernel_rfl, ?_⟩) (by assumption) ?_
      rotate_left
      · intro w hSw; (try dsimp only at hSw); go_simp; first | done | with_reducible rfl
      try simp only [List.getElem_toArray, List.getElem_cons_zero, List.getElem_cons_succ, Act.put, List.setIfInBounds_toArray, List.set_cons_zero, List.set_cons_succ]
      refine wpAnyH_take (i := 1) (oi := _) (v := ?_) rfl (by kernel_rfl) (by kernel_rfl) (by kernel_rfl) (fun _ _ _ h => h) (Or.inl ⟨by kernel_rfl, ?_⟩) (by assumption) ?_
      rotate_left
      · intro w hSw; (try dsimp only at hSw); go_simp; first | done | with_reducible rfl
      try simp only [List.getElem_toArray, List.getElem_cons_zero, List.getElem_cons_succ, Act.put, List.setIfInBounds_toArray, List.set_cons_zero, List.set_cons_succ]
      refine wpAnyH_take (i := 2) (oi := _) (v := ?_) rfl (by kernel_rfl) (by kernel_rfl) (by kernel_rfl) (fun _ _ _ h => h) (Or.inl ⟨by kernel_rfl, ?_⟩) (by assumption) ?_
      rotate_left
      · intro w hSw; (try dsimp only at hSw); go_simp; first | done | with_reducible rfl
      try simp only [List.getElem_toArray, List.getElem_cons_zero, List.getElem_cons_succ, Act.put, List.setIfInBounds_toArray, List.set_cons_zero, List.set_cons_succ]
      refine wpAnyH_take (i := 3) (oi := _) (v := ?_) rfl (by kernel_rfl) (by kernel_rfl) (by kernel_rfl) (fun _ _ _ h => h) (Or.inl ⟨by kernel_rfl, ?_⟩) (by assumption) ?_
      rotate_left
      · intro w hSw; (try dsimp only at hSw); go_simp; first | done | with_reducible rfl
      try simp only [List.getElem_toArray, List.getElem_cons_zero, List.getElem_cons_succ, Act.put, List.setIfInBounds_toArray, List.set_cons_zero, List.set_cons_succ]
      refine wpAnyH_take (i := 4) (oi := _) (v := ?_) rfl (by kernel_rfl) (by kernel_rfl) (by kernel_rfl) (fun _ _ _ h => h) (Or.inl ⟨by kernel_rfl, ?_⟩) (by assumption) ?_
      rotate_left
      · intro w hSw; (try dsimp only at hSw); go_simp; first | done | with_reducible rfl
      try simp only [List.getElem_toArray, List.getElem_cons_zero, List.getElem_cons_succ, Act.put, List.setIfInBounds_toArray, List.set_cons_zero, List.set_cons_succ]
      refine wpAnyH_take (i := 5) (oi := _) (v := ?_) rfl (by kernel_rfl) (by kernel_rfl) (by kernel_rfl) (fun _ _ _ h => h) (Or.inl ⟨by kernel_rfl, ?_⟩) (by assumption) ?_
      rotate_left
      · intro w hSw; (try dsimp only at hSw); go_simp; first | done | with_reducible rfl
      try simp only [List.getElem_toArray, List.getElem_cons_zero, List.getElem_cons_succ, Act.put, List.setIfInBounds_toArray, List.set_cons_zero, List.set_cons_succ]
      refine wpAnyH_take (i := 6) (oi := _) (v := ?_) rfl (by kernel_rfl) (by kernel_rfl) (by kernel_rfl) (fun _ _ _ h => h) (Or.inl ⟨by kernel_rfl, ?_⟩) (by assumption) ?_
      rotate_left
      · intro w hSw; (try dsimp only at hSw); go_simp; first | done | with_reducible rfl
      try simp only [List.getElem_toArray, List.getElem_cons_zero, List.getElem_cons_succ, Act.put, List.setIfInBounds_toArray, List.set_cons_zero, List.set_cons_succ]
      refine wpAnyH_take (i := 7) (oi := _) (v := ?_) rfl (by kernel_rfl) (by kernel_rfl) (by kernel_rfl) (fun _ _ _ h => h) (Or.inl ⟨by kernel_rfl, ?_⟩) (by assumption) ?_
      rotate_left
      · intro w hSw; (try dsimp only at hSw); go_simp; first | done | with_reducible rfl
      try simp only [List.getElem_toArray, List.getElem_cons_zero, List.getElem_cons_succ, Act.put, List.setIfInBounds_toArray, List.set_cons_zero, List.set_cons_succ]
      refine wpAnyH_take (i := 8) (oi := _) (v := ?_) rfl (by kernel_rfl) (by kernel_rfl) (by kernel_rfl) (fun _ _ _ h => h) (Or.inl ⟨by kernel_rfl, ?_⟩) (by assumption) ?_
      rotate_left
      · intro w hSw; (try dsimp only at hSw); go_simp; first | done | with_reducible rfl
      try simp only [List.getElem_toArray, List.getElem_cons_zero, List.getElem_cons_succ, Act.put, List.setIfInBounds_toArray, List.set_cons_zero, List.set_cons_succ]
      refine wpAnyH_take (i := 9) (oi := _) (v := ?_) rfl (by kernel_rfl) (by kernel_rfl) (by kernel_rfl) (fun _ _ _ h => h) (Or.inl ⟨by kernel_rfl, ?_⟩) (by assumption) ?_
      rotate_left
      · intro w hSw; (try dsimp only at hSw); go_simp; first | done | with_reducible rfl
      try simp only [List.getElem_toArray, List.getElem_cons_zero, List.getElem_cons_succ, Act.put, List.setIfInBounds_toArray, List.set_cons_zero, List.set_cons_succ]
      refine wpAnyH_ready (rs := [10]) (by kernel_rfl) (by simp) ?_
      refine AllReadyH.cons (o := _) rfl (fun K hK => ?_) AllReadyH.nil
      go_simp
      refine (cp_any _ _ _ _ _ _ _ _ _).mono ?_
      rintro e w3 ⟨hb, r, rfl, hr⟩
      have dr : decide (0 ≤ r) = false := by simp; exact hr.2 hbf'
      replace B := nxt B hb
      replace hq := hq.below hb
      replace H5 := H5.below hb
      clear hb hr
      clear l5 p5 q5 r5 s5 lq pq qq uq rq c0 c1 c2 c3
      obtain ⟨l5, p5, q5, r5, s5⟩ := id H5
      obtain ⟨lq, pq, qq, uq, rq⟩ := id hq
      obtain ⟨c0, c1, c2, c3⟩ := (Own8.of_row (f := c) (hrow.of_block (B.block _ hrow.lt))).at4 (k := j) (by omega) |>.1
      simp only [Nat.zero_add] at c0 c1 c2 c3
      refine hK.out _ _ ⟨p5, q5, r5, s5, rq, c0, c1, c2, c3⟩ (fun hHeld => ?_)
      clear hK K
      try simp only [List.getElem_toArray, List.getElem_cons_zero, List.getElem_cons_succ, Act.put, List.setIfInBounds_toArray, List.set_cons_zero, List.set_cons_succ]
      refine wpAnyH_take (i := 11) (oi := _) (v := ?_) rfl (by kernel_rfl) (by kernel_rfl) (by kernel_rfl) (fun _ _ _ h => h) (Or.inl ⟨by kernel_rfl, ?_⟩) (by assumption) ?_
      rotate_left
      · intro w hSw; (try dsimp only at hSw); go_simp; first | done | with_reducible rfl
      try simp only [List.getElem_toArray, List.getElem_cons_zero, List.getElem_cons_succ, Act.put, List.setIfInBounds_toArray, List.set_cons_zero, List.set_cons_succ]
      refine wpAnyH_take (i := 12) (oi := _) (v := ?_) rfl (by kernel_rfl) (by kernel_rfl) (by kernel_rfl) (fun _ _ _ h => h) (Or.inl ⟨by kernel_rfl, ?_⟩) (by assumption) ?_
      rotate_left
      · intro w hSw; (try dsimp only at hSw); go_simp; first | done | with_reducible rfl
      try simp only [List.getElem_toArray, List.getElem_cons_zero, List.getElem_cons_succ, Act.put, List.setIfInBounds_toArray, List.set_cons_zero, List.set_cons_succ]
      refine wpAnyH_done (by kernel_rfl) ?_ _
      clear lq pq qq uq rq c0 c1 c2 c3 hslab l5 p5 q5 r5 s5 hHeld
      go_wp2_with fail
      exact ⟨⟨j + 1 + 1, by omega, by first | go_num | simp, B, hq, hok.step ⟨HL.out, ⟨HA.out, HBB.out⟩, (fun k hk => by cases hk; exact hbf)⟩⟩, by simp [intOf]; omega⟩
    · obtain rfl : i = n := by omega
      clear lq pq qq uq rq
      go_wp2_with fail
      go_ret
      exact ⟨B, .inl ⟨⟨HD.out, hn, hok⟩, rfl⟩⟩
theorem implPVal_any (X Y Z : Int) (g n : Nat) (c : Nat → Int) (w : World) (hc : ∀ j, -128 ≤ c j ∧ c j ≤ 127) (hm : n ≤ 1048576) (hrow : w.rowIs g 67 (4 * n) (fun j => .int .i8 (c j))) :
    Calls Try.prog 18 #[.agg #[.int .i8 X, .int .i8 Y, .int .i8 Z, .slice (some ⟨g, 0, none⟩) n n]] w (PVPost X Y Z n c w) := by
  by_cases h : pHead X Y Z ∧ (1 ≤ n ∧ n ≤ 12)
  · exact pval_loop X Y Z g n c w hc hrow h.1 h.2
  · exact pval_bad X Y Z g n c w h hm
end Go.Proofs.Yteebkookoidheab
