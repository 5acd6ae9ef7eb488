/-
  The contract of spec.l02Ok. Conditions stand at it.
-/
import Derived.Test.YteebkookoidheabRows
import Derived.Test.YteebkookoidheabPatI
import Derived.Test.YteebkookoidheabIn
import Derived.Test.YteebkookoidheabLay
import Derived.Test.YteebkookoidheabBefore
namespace Go.Proofs.Yteebkookoidheab
open Go Go.ChangeShapes Go.WideShapes Go.ChangeAt Go.RowKit
set_option linter.unusedVariables false
set_option linter.unusedSimpArgs false
set_option maxRecDepth 100000
set_option maxHeartbeats 2000000

theorem pedge_no (x : Int) (w : World) (h : ¬ (1 ≤ x ∧ x ≤ 12)) : Calls Try.prog 83 #[.int .i64 x] w fun e w' => e = .returned (.bool false) ∧ w = w' := by
  by_cases h1 : x < 1
  · exact edge_low x w h1
  · exact edge_high x w (by omega)
theorem pok_bad (X Y Z : Int) (bq g n : Nat) (c : Nat → Int) (w : World) (hX : -128 ≤ X ∧ X ≤ 127) (hY : -128 ≤ Y ∧ Y ≤ 127) (hZ : -128 ≤ Z ∧ Z ≤ 127) (hq : Pt w bq X Y Z (.slice (some ⟨g, 0, none⟩) n n)) (h : ¬ pHead X Y Z) :
    Calls Try.prog 51 #[.pointer (some ⟨bq, 0, none⟩)] w (PVPost X Y Z n c w) := by
  obtain ⟨lq, pq, qq, uq, rq⟩ := hq
  have wX : IntKind.i64.wrap (X - 1) = X - 1 := IntWalk.i64_in _ (by omega)
  by_cases h1 : ¬ (1 ≤ X ∧ X ≤ 8)
  · go_enter Try.func51, Try.ntmps51
    go_wp2_with (go_at_call 82; with_reducible refine (in_no X 1 8 _ h1).mono ?_; rintro e w' ⟨rfl, rfl⟩)
    go_ret
    exact ⟨Below.refl _ _, .inr ⟨fun hv => h hv.1, rfl⟩⟩
  replace h1 := Classical.not_not.1 h1
  by_cases h2 : ¬ (1 ≤ Y ∧ Y ≤ 8)
  · go_enter Try.func51, Try.ntmps51
    go_wp2_with (first
      | (go_at_call 82; with_reducible refine (in_yes X 1 8 _ h1.1 h1.2).mono ?_; rintro e w' ⟨rfl, rfl⟩)
      | (go_at_call 82; with_reducible refine (in_no Y 1 8 _ h2).mono ?_; rintro e w' ⟨rfl, rfl⟩))
    go_ret
    exact ⟨Below.refl _ _, .inr ⟨fun hv => h hv.1, rfl⟩⟩
  replace h2 := Classical.not_not.1 h2
  have h3 : ¬ (0 ≤ Z ∧ Z ≤ X - 1) := by unfold pHead at h; omega
  go_enter Try.func51, Try.ntmps51
  go_wp2_with (first
    | (go_at_call 82; with_reducible refine (in_yes X 1 8 _ h1.1 h1.2).mono ?_; rintro e w' ⟨rfl, rfl⟩)
    | (go_at_call 82; with_reducible refine (in_yes Y 1 8 _ h2.1 h2.2).mono ?_; rintro e w' ⟨rfl, rfl⟩)
    | (go_at_call 82; with_reducible refine (in_no Z 0 (X - 1) _ h3).mono ?_; rintro e w' ⟨rfl, rfl⟩))
  go_ret
  exact ⟨Below.refl _ _, .inr ⟨fun hv => h hv.1, rfl⟩⟩

theorem pok_loop (X Y Z : Int) (bq g n : Nat) (c : Nat → Int) (w : World) (hc : ∀ j, -128 ≤ c j ∧ c j ≤ 127) (hm : n ≤ 1048576) (hq : Pt w bq X Y Z (.slice (some ⟨g, 0, none⟩) n n)) (hrow : w.rowIs g 67 (4 * n) (fun j => .int .i8 (c j))) (hd : pHead X Y Z) :
    Calls Try.prog 51 #[.pointer (some ⟨bq, 0, none⟩)] w (PVPost X Y Z n c w) := by
  obtain ⟨⟨x1, x2⟩, ⟨y1, y2⟩, z1, z2⟩ := id hd
  have wX : IntKind.i64.wrap (X - 1) = X - 1 := IntWalk.i64_in _ (by omega)
  have wY : IntKind.i64.wrap (Y - 1) = Y - 1 := IntWalk.i64_in _ (by omega)
  have HC := Lib.hid hc
  have HD := Lib.hid hd
  clear hc hd
  obtain ⟨lq, pq, qq, uq, rq⟩ := id hq
  go_enter Try.func51, Try.ntmps51
  go_wp2_with (first
    | (go_at_call 82; with_reducible refine (in_yes X 1 8 _ x1 x2).mono ?_; rintro e w' ⟨rfl, rfl⟩)
    | (go_at_call 82; with_reducible refine (in_yes Y 1 8 _ y1 y2).mono ?_; rintro e w' ⟨rfl, rfl⟩)
    | (go_at_call 82; with_reducible refine (in_yes Z 0 (X - 1) _ z1 (by omega)).mono ?_; rintro e w' ⟨rfl, rfl⟩))
  obtain ⟨w0, rfl⟩ : ∃ w0 : World, w0 = w' := ⟨_, rfl⟩
  clear lq pq qq uq rq
  go_loopw [5, 6] (fun t5 t6 wr => ∃ i : Nat, i ≤ n ∧ t5 = .int .i64 i ∧ Below w0.heap.size w0 wr ∧ pTo X Y c i) (fun t5 t6 wr => n - (intOf t5).toNat)
  case atStart => exact ⟨0, by omega, by simp, Below.refl _ _, fun i hi => absurd hi (by omega)⟩
  case round =>
    obtain ⟨i, hi, rfl, B, hok⟩ := hrel
    have hq1 := hq.of_block B.size (B.block _ hq.1)
    obtain ⟨lq, pq, qq, uq, rq⟩ := id hq1
    by_cases hlt : i < n
    · have hli : (i : Int) < (n : Int) := by omega
      have hli0 : (0 : Int) ≤ (i : Int) := by omega
      have hslab := (Own8.of_row (f := c) (hrow.of_block (B.block _ hrow.lt)))
      obtain ⟨c0, c1, c2, c3⟩ := hslab.at4 hlt |>.1
      simp only [Nat.zero_add] at c0 c1 c2 c3
      have hb4 := HC.out (4 * i)
      have hb5 := HC.out (4 * i + 1)
      have hb6 := HC.out (4 * i + 2)
      have hb7 := HC.out (4 * i + 3)
      obtain ⟨wo, rfl⟩ : ∃ wo : World, wo = wr := ⟨_, rfl⟩
      have H5 := Sl.new wo (c (4 * i)) (c (4 * i + 1)) (c (4 * i + 2)) (c (4 * i + 3)) 67
      have B1 := al B (.cells #[.int .i8 (c (4 * i)), .int .i8 (c (4 * i + 1)), .int .i8 (c (4 * i + 2)), .int .i8 (c (4 * i + 3))] 67)
      by_cases ha : ¬ (1 ≤ c (4 * i + 2) ∧ c (4 * i + 2) ≤ 12)
      · go_wp2_with (go_at_call 83; with_reducible refine (pedge_no (c (4 * i + 2)) _ ha).mono ?_; rintro e w' ⟨rfl, rfl⟩)
        go_ret
        exact ⟨B1, .inr ⟨fun hv => ha (hv.2.2 i hlt).2.1.1, rfl⟩⟩
      replace ha := Classical.not_not.1 ha
      by_cases hb : ¬ (1 ≤ c (4 * i + 3) ∧ c (4 * i + 3) ≤ 12)
      · go_wp2_with (first
          | (go_at_call 83; with_reducible refine (edge_yes (c (4 * i + 2)) _ ha.1 ha.2).mono ?_; rintro e w' ⟨rfl, rfl⟩)
          | (go_at_call 83; with_reducible refine (pedge_no (c (4 * i + 3)) _ hb).mono ?_; rintro e w' ⟨rfl, rfl⟩))
        go_ret
        exact ⟨B1, .inr ⟨fun hv => hb (hv.2.2 i hlt).2.1.2, rfl⟩⟩
      replace hb := Classical.not_not.1 hb
      by_cases hx : ¬ (0 ≤ c (4 * i) ∧ c (4 * i) ≤ X - 1)
      · go_wp2_with (first
          | (go_at_call 83; with_reducible refine (edge_yes (c (4 * i + 2)) _ ha.1 ha.2).mono ?_; rintro e w' ⟨rfl, rfl⟩)
          | (go_at_call 83; with_reducible refine (edge_yes (c (4 * i + 3)) _ hb.1 hb.2).mono ?_; rintro e w' ⟨rfl, rfl⟩)
          | (go_at_call 82; with_reducible refine (in_no (c (4 * i)) 0 (X - 1) _ hx).mono ?_; rintro e w' ⟨rfl, rfl⟩))
        go_ret
        exact ⟨B1, .inr ⟨fun hv => hx (by have := (hv.2.2 i hlt).1; unfold pIn at this; omega), rfl⟩⟩
      replace hx := Classical.not_not.1 hx
      by_cases hy : ¬ (0 ≤ c (4 * i + 1) ∧ c (4 * i + 1) ≤ Y - 1)
      · go_wp2_with (first
          | (go_at_call 83; with_reducible refine (edge_yes (c (4 * i + 2)) _ ha.1 ha.2).mono ?_; rintro e w' ⟨rfl, rfl⟩)
          | (go_at_call 83; with_reducible refine (edge_yes (c (4 * i + 3)) _ hb.1 hb.2).mono ?_; rintro e w' ⟨rfl, rfl⟩)
          | (go_at_call 82; with_reducible refine (in_yes (c (4 * i)) 0 (X - 1) _ hx.1 hx.2).mono ?_; rintro e w' ⟨rfl, rfl⟩)
          | (go_at_call 82; with_reducible refine (in_no (c (4 * i + 1)) 0 (Y - 1) _ hy).mono ?_; rintro e w' ⟨rfl, rfl⟩))
        go_ret
        exact ⟨B1, .inr ⟨fun hv => hy (by have := (hv.2.2 i hlt).1; unfold pIn at this; omega), rfl⟩⟩
      replace hy := Classical.not_not.1 hy
      have hpin : pIn X Y c i := by unfold pIn; omega
      have HP := Lib.hid hpin
      have HA := Lib.hid ha
      have HBB := Lib.hid hb
      have HX := Lib.hid hx
      have HY := Lib.hid hy
      clear ha hb hx hy hpin
      go_wp2_with (first
        | (go_at_call 83; with_reducible refine (edge_yes (c (4 * i + 2)) _ HA.out.1 HA.out.2).mono ?_; rintro e w' ⟨rfl, rfl⟩)
        | (go_at_call 83; with_reducible refine (edge_yes (c (4 * i + 3)) _ HBB.out.1 HBB.out.2).mono ?_; rintro e w' ⟨rfl, rfl⟩)
        | (go_at_call 82; with_reducible refine (in_yes (c (4 * i)) 0 (X - 1) _ HX.out.1 HX.out.2).mono ?_; rintro e w' ⟨rfl, rfl⟩)
        | (go_at_call 82; with_reducible refine (in_yes (c (4 * i + 1)) 0 (Y - 1) _ HY.out.1 HY.out.2).mono ?_; rintro e w' ⟨rfl, rfl⟩))
      have hq2 := hq1.alloc (.cells #[.int .i8 (c (4 * i)), .int .i8 (c (4 * i + 1)), .int .i8 (c (4 * i + 2)), .int .i8 (c (4 * i + 3))] 67)
      obtain ⟨w1, hw1⟩ : ∃ w1, w1 = wo.alloc (.cells #[.int .i8 (c (4 * i)), .int .i8 (c (4 * i + 1)), .int .i8 (c (4 * i + 2)), .int .i8 (c (4 * i + 3))] 67) := ⟨_, rfl⟩
      rw [← hw1] at H5 B1 hq2 ⊢
      clear hw1 lq pq qq uq rq c0 c1 c2 c3 hq1 hslab
      by_cases hi0 : i = 0
      · have d1 : decide (0 < (i : Int)) = false := by simp; omega
        refine wp_region_held_drew (S := (fun _ => True)) (by kernel_rfl) trivial (fun hHeld => ?_)
        refine wpAnyH_take (i := 0) (oi := _) (v := ?_) rfl (by kernel_rfl) (by kernel_rfl) (by kernel_rfl) (fun _ _ _ h => h) (Or.inl ⟨by kernel_rfl, ?_⟩) (by assumption) ?_
        rotate_left
        · intro w hSw; (try dsimp only at hSw); go_simp; first | done | with_reducible rfl
        try simp only [List.getElem_toArray, List.getElem_cons_zero, List.getElem_cons_succ, Act.put, List.setIfInBounds_toArray, List.set_cons_zero, List.set_cons_succ]
        refine wpAnyH_take (i := 1) (oi := _) (v := ?_) rfl (by kernel_rfl) (by kernel_rfl) (by kernel_rfl) (fun _ _ _ h => h) (Or.inl ⟨by kernel_rfl, ?_⟩) (by assumption) ?_
        rotate_left
        · intro w hSw; (try dsimp only at hSw); go_simp; first | done | with_reducible rfl
        try simp only [List.getElem_toArray, List.getElem_cons_zero, List.getElem_cons_succ, Act.put, List.setIfInBounds_toArray, List.set_cons_zero, List.set_cons_succ]
        refine wpAnyH_take (i := 2) (oi := _) (v := ?_) rfl (by kernel_rfl) (by kernel_rfl) (by kernel_rfl) (fun _ _ _ h => h) (Or.inl ⟨by kernel_rfl, ?_⟩) (by assumption) ?_
        rotate_left
        · intro w hSw; (try dsimp only at hSw); go_simp; first | done | with_reducible rfl
        try simp only [List.getElem_toArray, List.getElem_cons_zero, List.getElem_cons_succ, Act.put, List.setIfInBounds_toArray, List.set_cons_zero, List.set_cons_succ]
        refine wpAnyH_take (i := 3) (oi := _) (v := undef) rfl (by kernel_rfl) (by kernel_rfl) (by kernel_rfl) (fun _ _ _ h => h) (Or.inr ⟨by kernel_rfl, rfl⟩) (by assumption) ?_
        try simp only [List.getElem_toArray, List.getElem_cons_zero, List.getElem_cons_succ, Act.put, List.setIfInBounds_toArray, List.set_cons_zero, List.set_cons_succ]
        refine wpAnyH_take (i := 4) (oi := _) (v := undef) rfl (by kernel_rfl) (by kernel_rfl) (by kernel_rfl) (fun _ _ _ h => h) (Or.inr ⟨by kernel_rfl, rfl⟩) (by assumption) ?_
        try simp only [List.getElem_toArray, List.getElem_cons_zero, List.getElem_cons_succ, Act.put, List.setIfInBounds_toArray, List.set_cons_zero, List.set_cons_succ]
        refine wpAnyH_take (i := 5) (oi := _) (v := undef) rfl (by kernel_rfl) (by kernel_rfl) (by kernel_rfl) (fun _ _ _ h => h) (Or.inr ⟨by kernel_rfl, rfl⟩) (by assumption) ?_
        try simp only [List.getElem_toArray, List.getElem_cons_zero, List.getElem_cons_succ, Act.put, List.setIfInBounds_toArray, List.set_cons_zero, List.set_cons_succ]
        refine wpAnyH_take (i := 6) (oi := _) (v := undef) rfl (by kernel_rfl) (by kernel_rfl) (by kernel_rfl) (fun _ _ _ h => h) (Or.inr ⟨by kernel_rfl, rfl⟩) (by assumption) ?_
        try simp only [List.getElem_toArray, List.getElem_cons_zero, List.getElem_cons_succ, Act.put, List.setIfInBounds_toArray, List.set_cons_zero, List.set_cons_succ]
        refine wpAnyH_take (i := 7) (oi := _) (v := undef) rfl (by kernel_rfl) (by kernel_rfl) (by kernel_rfl) (fun _ _ _ h => h) (Or.inr ⟨by kernel_rfl, rfl⟩) (by assumption) ?_
        try simp only [List.getElem_toArray, List.getElem_cons_zero, List.getElem_cons_succ, Act.put, List.setIfInBounds_toArray, List.set_cons_zero, List.set_cons_succ]
        refine wpAnyH_take (i := 8) (oi := _) (v := undef) rfl (by kernel_rfl) (by kernel_rfl) (by kernel_rfl) (fun _ _ _ h => h) (Or.inr ⟨by kernel_rfl, rfl⟩) (by assumption) ?_
        try simp only [List.getElem_toArray, List.getElem_cons_zero, List.getElem_cons_succ, Act.put, List.setIfInBounds_toArray, List.set_cons_zero, List.set_cons_succ]
        refine wpAnyH_take (i := 9) (oi := _) (v := undef) rfl (by kernel_rfl) (by kernel_rfl) (by kernel_rfl) (fun _ _ _ h => h) (Or.inr ⟨by kernel_rfl, rfl⟩) (by assumption) ?_
        try simp only [List.getElem_toArray, List.getElem_cons_zero, List.getElem_cons_succ, Act.put, List.setIfInBounds_toArray, List.set_cons_zero, List.set_cons_succ]
        refine wpAnyH_take (i := 10) (oi := _) (v := undef) rfl (by kernel_rfl) (by kernel_rfl) (by kernel_rfl) (fun _ _ _ h => h) (Or.inr ⟨by kernel_rfl, rfl⟩) (by assumption) ?_
        try simp only [List.getElem_toArray, List.getElem_cons_zero, List.getElem_cons_succ, Act.put, List.setIfInBounds_toArray, List.set_cons_zero, List.set_cons_succ]
        refine wpAnyH_take (i := 11) (oi := _) (v := undef) rfl (by kernel_rfl) (by kernel_rfl) (by kernel_rfl) (fun _ _ _ h => h) (Or.inr ⟨by kernel_rfl, rfl⟩) (by assumption) ?_
        try simp only [List.getElem_toArray, List.getElem_cons_zero, List.getElem_cons_succ, Act.put, List.setIfInBounds_toArray, List.set_cons_zero, List.set_cons_succ]
        refine wpAnyH_take (i := 12) (oi := _) (v := undef) rfl (by kernel_rfl) (by kernel_rfl) (by kernel_rfl) (fun _ _ _ h => h) (Or.inr ⟨by kernel_rfl, rfl⟩) (by assumption) ?_
        try simp only [List.getElem_toArray, List.getElem_cons_zero, List.getElem_cons_succ, Act.put, List.setIfInBounds_toArray, List.set_cons_zero, List.set_cons_succ]
        refine wpAnyH_take (i := 13) (oi := _) (v := undef) rfl (by kernel_rfl) (by kernel_rfl) (by kernel_rfl) (fun _ _ _ h => h) (Or.inr ⟨by kernel_rfl, rfl⟩) (by assumption) ?_
        try simp only [List.getElem_toArray, List.getElem_cons_zero, List.getElem_cons_succ, Act.put, List.setIfInBounds_toArray, List.set_cons_zero, List.set_cons_succ]
        refine wpAnyH_take (i := 14) (oi := _) (v := ?_) rfl (by kernel_rfl) (by kernel_rfl) (by kernel_rfl) (fun _ _ _ h => h) (Or.inl ⟨by kernel_rfl, ?_⟩) (by assumption) ?_
        rotate_left
        · intro w hSw; (try dsimp only at hSw); go_simp; first | done | with_reducible rfl
        try simp only [List.getElem_toArray, List.getElem_cons_zero, List.getElem_cons_succ, Act.put, List.setIfInBounds_toArray, List.set_cons_zero, List.set_cons_succ]
        refine wpAnyH_done (by kernel_rfl) ?_ _
        replace B1 := B1.drew
        clear H5
        go_wp2_with fail
        exact ⟨⟨i + 1, by omega, by first | go_num | simp, B1, hok.step ⟨HP.out, ⟨HA.out, HBB.out⟩, fun j hj => absurd hi0 (by omega)⟩⟩, by simp [intOf]; omega⟩
      obtain ⟨j, rfl⟩ : ∃ j, i = j + 1 := ⟨i - 1, by omega⟩
      have d1 : decide (0 < ((j + 1 : Nat) : Int)) = true := by first | (simp; done) | (simp; omega)
      have d2 : decide (0 < (j : Int) + 1) = true := by first | (simp; done) | (simp; omega)
      have wj : IntKind.i64.wrap (j : Int) = (j : Int) := IntWalk.i64_in _ (by omega)
      have hj0 : 0 ≤ (j : Int) := by omega
      have hjn : (j : Int) < (n : Int) := by omega
      have hslab := (Own8.of_row (f := c) (hrow.of_block (B1.block _ hrow.lt)))
      obtain ⟨c0, c1, c2, c3⟩ := hslab.at4 (k := j) (by omega) |>.1
      simp only [Nat.zero_add] at c0 c1 c2 c3
      obtain ⟨lq, pq, qq, uq, rq⟩ := id hq2
      obtain ⟨l5, p5, q5, r5, s5⟩ := id H5
      by_cases hbf : ¬ befo c j
      · have hbf' : ¬ (c (4 * j + 1) < c (4 * (j + 1) + 1) ∨ (c (4 * j + 1) = c (4 * (j + 1) + 1) ∧ c (4 * j) < c (4 * (j + 1)))) := hbf
        replace B1 := B1.drew
        replace hq2 : Pt w1.drew bq X Y Z (.slice (some ⟨g, 0, none⟩) n n) := hq2
        replace H5 : Sl w1.drew wo.heap.size (c (4 * (j + 1))) (c (4 * (j + 1) + 1)) (c (4 * (j + 1) + 2)) (c (4 * (j + 1) + 3)) := H5
        refine wp_region_held_drew (S := (fun w' => w'.cell? ⟨wo.heap.size, 0, none⟩ = some (.int .i8 (c (4 * (j + 1)))) ∧ w'.cell? ⟨wo.heap.size, 1, none⟩ = some (.int .i8 (c (4 * (j + 1) + 1))) ∧ w'.cell? ⟨wo.heap.size, 2, none⟩ = some (.int .i8 (c (4 * (j + 1) + 2))) ∧ w'.cell? ⟨wo.heap.size, 3, none⟩ = some (.int .i8 (c (4 * (j + 1) + 3))) ∧ w'.cell? ⟨bq, 3, none⟩ = some (.slice (some ⟨g, 0, none⟩) n n) ∧ w'.cell? ⟨g, j * 4, none⟩ = some (.int .i8 (c (4 * j))) ∧ w'.cell? ⟨g, j * 4 + 1, none⟩ = some (.int .i8 (c (4 * j + 1))) ∧ w'.cell? ⟨g, j * 4 + 2, none⟩ = some (.int .i8 (c (4 * j + 2))) ∧ w'.cell? ⟨g, j * 4 + 3, none⟩ = some (.int .i8 (c (4 * j + 3))))) (by kernel_rfl) ⟨p5, q5, r5, s5, rq, c0, c1, c2, c3⟩ (fun hHeld => ?_)
        refine wpAnyH_take (i := 0) (oi := _) (v := ?_) rfl (by kernel_rfl) (by kernel_rfl) (by kernel_rfl) (fun _ _ _ h => h) (Or.inl ⟨by kernel_rfl, ?_⟩) (by assumption) ?_
        rotate_left
        · intro w hSw; (try dsimp only at hSw); go_simp; first | done | with_reducible rfl
        try simp only [List.getElem_toArray, List.getElem_cons_zero, List.getElem_cons_succ, Act.put, List.setIfInBounds_toArray, List.set_cons_zero, List.set_cons_succ]
        refine wpAnyH_take (i := 1) (oi := _) (v := ?_) rfl (by kernel_rfl) (by kernel_rfl) (by kernel_rfl) (fun _ _ _ h => h) (Or.inl ⟨by kernel_rfl, ?_⟩) (by assumption) ?_
        rotate_left
        · intro w hSw; (try dsimp only at hSw); go_simp; first | done | with_reducible rfl
        try simp only [List.getElem_toArray, List.getElem_cons_zero, List.getElem_cons_succ, Act.put, List.setIfInBounds_toArray, List.set_cons_zero, List.set_cons_succ]
        refine wpAnyH_take (i := 2) (oi := _) (v := ?_) rfl (by kernel_rfl) (by kernel_rfl) (by kernel_rfl) (fun _ _ _ h => h) (Or.inl ⟨by kernel_rfl, ?_⟩) (by assumption) ?_
        rotate_left
        · intro w hSw; (try dsimp only at hSw); go_simp; first | done | with_reducible rfl
        try simp only [List.getElem_toArray, List.getElem_cons_zero, List.getElem_cons_succ, Act.put, List.setIfInBounds_toArray, List.set_cons_zero, List.set_cons_succ]
        refine wpAnyH_take (i := 3) (oi := _) (v := ?_) rfl (by kernel_rfl) (by kernel_rfl) (by kernel_rfl) (fun _ _ _ h => h) (Or.inl ⟨by kernel_rfl, ?_⟩) (by assumption) ?_
        rotate_left
        · intro w hSw; (try dsimp only at hSw); go_simp; first | done | with_reducible rfl
        try simp only [List.getElem_toArray, List.getElem_cons_zero, List.getElem_cons_succ, Act.put, List.setIfInBounds_toArray, List.set_cons_zero, List.set_cons_succ]
        refine wpAnyH_take (i := 4) (oi := _) (v := ?_) rfl (by kernel_rfl) (by kernel_rfl) (by kernel_rfl) (fun _ _ _ h => h) (Or.inl ⟨by kernel_rfl, ?_⟩) (by assumption) ?_
        rotate_left
        · intro w hSw; (try dsimp only at hSw); go_simp; first | done | with_reducible rfl
        try simp only [List.getElem_toArray, List.getElem_cons_zero, List.getElem_cons_succ, Act.put, List.setIfInBounds_toArray, List.set_cons_zero, List.set_cons_succ]
        refine wpAnyH_take (i := 5) (oi := _) (v := ?_) rfl (by kernel_rfl) (by kernel_rfl) (by kernel_rfl) (fun _ _ _ h => h) (Or.inl ⟨by kernel_rfl, ?_⟩) (by assumption) ?_
        rotate_left
        · intro w hSw; (try dsimp only at hSw); go_simp; first | done | with_reducible rfl
        try simp only [List.getElem_toArray, List.getElem_cons_zero, List.getElem_cons_succ, Act.put, List.setIfInBounds_toArray, List.set_cons_zero, List.set_cons_succ]
        refine wpAnyH_take (i := 6) (oi := _) (v := ?_) rfl (by kernel_rfl) (by kernel_rfl) (by kernel_rfl) (fun _ _ _ h => h) (Or.inl ⟨by kernel_rfl, ?_⟩) (by assumption) ?_
        rotate_left
        · intro w hSw; (try dsimp only at hSw); go_simp; first | done | with_reducible rfl
        try simp only [List.getElem_toArray, List.getElem_cons_zero, List.getElem_cons_succ, Act.put, List.setIfInBounds_toArray, List.set_cons_zero, List.set_cons_succ]
        refine wpAnyH_take (i := 7) (oi := _) (v := ?_) rfl (by kernel_rfl) (by kernel_rfl) (by kernel_rfl) (fun _ _ _ h => h) (Or.inl ⟨by kernel_rfl, ?_⟩) (by assumption) ?_
        rotate_left
        · intro w hSw; (try dsimp only at hSw); go_simp; first | done | with_reducible rfl
        try simp only [List.getElem_toArray, List.getElem_cons_zero, List.getElem_cons_succ, Act.put, List.setIfInBounds_toArray, List.set_cons_zero, List.set_cons_succ]
        refine wpAnyH_take (i := 8) (oi := _) (v := ?_) rfl (by kernel_rfl) (by kernel_rfl) (by kernel_rfl) (fun _ _ _ h => h) (Or.inl ⟨by kernel_rfl, ?_⟩) (by assumption) ?_
        rotate_left
        · intro w hSw; (try dsimp only at hSw); go_simp; first | done | with_reducible rfl
        try simp only [List.getElem_toArray, List.getElem_cons_zero, List.getElem_cons_succ, Act.put, List.setIfInBounds_toArray, List.set_cons_zero, List.set_cons_succ]
        refine wpAnyH_take (i := 9) (oi := _) (v := ?_) rfl (by kernel_rfl) (by kernel_rfl) (by kernel_rfl) (fun _ _ _ h => h) (Or.inl ⟨by kernel_rfl, ?_⟩) (by assumption) ?_
        rotate_left
        · intro w hSw; (try dsimp only at hSw); go_simp; first | done | with_reducible rfl
        try simp only [List.getElem_toArray, List.getElem_cons_zero, List.getElem_cons_succ, Act.put, List.setIfInBounds_toArray, List.set_cons_zero, List.set_cons_succ]
        refine wpAnyH_take (i := 10) (oi := _) (v := ?_) rfl (by kernel_rfl) (by kernel_rfl) (by kernel_rfl) (fun _ _ _ h => h) (Or.inl ⟨by kernel_rfl, ?_⟩) (by assumption) ?_
        rotate_left
        · intro w hSw; (try dsimp only at hSw); go_simp; first | done | with_reducible rfl
        try simp only [List.getElem_toArray, List.getElem_cons_zero, List.getElem_cons_succ, Act.put, List.setIfInBounds_toArray, List.set_cons_zero, List.set_cons_succ]
        refine wpAnyH_take (i := 11) (oi := _) (v := ?_) rfl (by kernel_rfl) (by kernel_rfl) (by kernel_rfl) (fun _ _ _ h => h) (Or.inl ⟨by kernel_rfl, ?_⟩) (by assumption) ?_
        rotate_left
        · intro w hSw; (try dsimp only at hSw); go_simp; first | done | with_reducible rfl
        try simp only [List.getElem_toArray, List.getElem_cons_zero, List.getElem_cons_succ, Act.put, List.setIfInBounds_toArray, List.set_cons_zero, List.set_cons_succ]
        refine wpAnyH_ready (rs := [12]) (by kernel_rfl) (by simp) ?_
        refine AllReadyH.cons (o := _) rfl (fun K hK => ?_) AllReadyH.nil
        go_simp
        refine (bef_no _ _ _ _ _ _ _ _ _ hbf').mono ?_
        rintro e w3 ⟨rfl, hb⟩
        replace B1 := nxt B1 hb
        replace hq2 := hq2.below hb
        replace H5 := H5.below hb
        clear hb
        clear l5 p5 q5 r5 s5 lq pq qq uq rq c0 c1 c2 c3
        obtain ⟨l5, p5, q5, r5, s5⟩ := id H5
        obtain ⟨lq, pq, qq, uq, rq⟩ := id hq2
        obtain ⟨c0, c1, c2, c3⟩ := (Own8.of_row (f := c) (hrow.of_block (B1.block _ hrow.lt))).at4 (k := j) (by omega) |>.1
        simp only [Nat.zero_add] at c0 c1 c2 c3
        refine hK.out _ _ ⟨p5, q5, r5, s5, rq, c0, c1, c2, c3⟩ (fun hHeld => ?_)
        clear hK K
        try simp only [List.getElem_toArray, List.getElem_cons_zero, List.getElem_cons_succ, Act.put, List.setIfInBounds_toArray, List.set_cons_zero, List.set_cons_succ]
        refine wpAnyH_take (i := 13) (oi := _) (v := ?_) rfl (by kernel_rfl) (by kernel_rfl) (by kernel_rfl) (fun _ _ _ h => h) (Or.inl ⟨by kernel_rfl, ?_⟩) (by assumption) ?_
        rotate_left
        · intro w hSw; (try dsimp only at hSw); go_simp; first | done | with_reducible rfl
        try simp only [List.getElem_toArray, List.getElem_cons_zero, List.getElem_cons_succ, Act.put, List.setIfInBounds_toArray, List.set_cons_zero, List.set_cons_succ]
        refine wpAnyH_take (i := 14) (oi := _) (v := ?_) rfl (by kernel_rfl) (by kernel_rfl) (by kernel_rfl) (fun _ _ _ h => h) (Or.inl ⟨by kernel_rfl, ?_⟩) (by assumption) ?_
        rotate_left
        · intro w hSw; (try dsimp only at hSw); go_simp; first | done | with_reducible rfl
        try simp only [List.getElem_toArray, List.getElem_cons_zero, List.getElem_cons_succ, Act.put, List.setIfInBounds_toArray, List.set_cons_zero, List.set_cons_succ]
        refine wpAnyH_done (by kernel_rfl) ?_ _
        go_wp2_with fail
        go_ret
        exact ⟨B1, .inr ⟨fun hv => hbf ((hv.2.2 (j + 1) hlt).2.2 j rfl), rfl⟩⟩
      replace hbf := Classical.not_not.1 hbf
      have hbf' : (c (4 * j + 1) < c (4 * (j + 1) + 1) ∨ (c (4 * j + 1) = c (4 * (j + 1) + 1) ∧ c (4 * j) < c (4 * (j + 1)))) := hbf
      replace B1 := B1.drew
      replace hq2 : Pt w1.drew bq X Y Z (.slice (some ⟨g, 0, none⟩) n n) := hq2
      replace H5 : Sl w1.drew wo.heap.size (c (4 * (j + 1))) (c (4 * (j + 1) + 1)) (c (4 * (j + 1) + 2)) (c (4 * (j + 1) + 3)) := H5
      refine wp_region_held_drew (S := (fun w' => w'.cell? ⟨wo.heap.size, 0, none⟩ = some (.int .i8 (c (4 * (j + 1)))) ∧ w'.cell? ⟨wo.heap.size, 1, none⟩ = some (.int .i8 (c (4 * (j + 1) + 1))) ∧ w'.cell? ⟨wo.heap.size, 2, none⟩ = some (.int .i8 (c (4 * (j + 1) + 2))) ∧ w'.cell? ⟨wo.heap.size, 3, none⟩ = some (.int .i8 (c (4 * (j + 1) + 3))) ∧ w'.cell? ⟨bq, 3, none⟩ = some (.slice (some ⟨g, 0, none⟩) n n) ∧ w'.cell? ⟨g, j * 4, none⟩ = some (.int .i8 (c (4 * j))) ∧ w'.cell? ⟨g, j * 4 + 1, none⟩ = some (.int .i8 (c (4 * j + 1))) ∧ w'.cell? ⟨g, j * 4 + 2, none⟩ = some (.int .i8 (c (4 * j + 2))) ∧ w'.cell? ⟨g, j * 4 + 3, none⟩ = some (.int .i8 (c (4 * j + 3))))) (by kernel_rfl) ⟨p5, q5, r5, s5, rq, c0, c1, c2, c3⟩ (fun hHeld => ?_)
      refine wpAnyH_take (i := 0) (oi := _) (v := ?_) rfl (by kernel_rfl) (by kernel_rfl) (by kernel_rfl) (fun _ _ _ h => h) (Or.inl ⟨by kernel_rfl, ?_⟩) (by assumption) ?_
      rotate_left
      · intro w hSw; (try dsimp only at hSw); go_simp; first | done | with_reducible rfl
      try simp only [List.getElem_toArray, List.getElem_cons_zero, List.getElem_cons_succ, Act.put, List.setIfInBounds_toArray, List.set_cons_zero, List.set_cons_succ]
      refine wpAnyH_take (i := 1) (oi := _) (v := ?_) rfl (by kernel_rfl) (by kernel_rfl) (by kernel_rfl) (fun _ _ _ h => h) (Or.inl ⟨by kernel_rfl, ?_⟩) (by assumption) ?_
      rotate_left
      · intro w hSw; (try dsimp only at hSw); go_simp; first | done | with_reducible rfl
      try simp only [List.getElem_toArray, List.getElem_cons_zero, List.getElem_cons_succ, Act.put, List.setIfInBounds_toArray, List.set_cons_zero, List.set_cons_succ]
      refine wpAnyH_take (i := 2) (oi := _) (v := ?_) rfl (by kernel_rfl) (by kernel_rfl) (by kernel_rfl) (fun _ _ _ h => h) (Or.inl ⟨by kernel_rfl, ?_⟩) (by assumption) ?_
      rotate_left
      · intro w hSw; (try dsimp only at hSw); go_simp; first | done | with_reducible rfl
      try simp only [List.getElem_toArray, List.getElem_cons_zero, List.getElem_cons_succ, Act.put, List.setIfInBounds_toArray, List.set_cons_zero, List.set_cons_succ]
      refine wpAnyH_take (i := 3) (oi := _) (v := ?_) rfl (by kernel_rfl) (by kernel_rfl) (by kernel_rfl) (fun _ _ _ h => h) (Or.inl ⟨by kernel_rfl, ?_⟩) (by assumption) ?_
      rotate_left
      · intro w hSw; (try dsimp only at hSw); go_simp; first | done | with_reducible rfl
      try simp only [List.getElem_toArray, List.getElem_cons_zero, List.getElem_cons_succ, Act.put, List.setIfInBounds_toArray, List.set_cons_zero, List.set_cons_succ]
      refine wpAnyH_take (i := 4) (oi := _) (v := ?_) rfl (by kernel_rfl) (by kernel_rfl) (by kernel_rfl) (fun _ _ _ h => h) (Or.inl ⟨by kernel_rfl, ?_⟩) (by assumption) ?_
      rotate_left
      · intro w hSw; (try dsimp only at hSw); go_simp; first | done | with_reducible rfl
      try simp only [List.getElem_toArray, List.getElem_cons_zero, List.getElem_cons_succ, Act.put, List.setIfInBounds_toArray, List.set_cons_zero, List.set_cons_succ]
      refine wpAnyH_take (i := 5) (oi := _) (v := ?_) rfl (by kernel_rfl) (by kernel_rfl) (by kernel_rfl) (fun _ _ _ h => h) (Or.inl ⟨by kernel_rfl, ?_⟩) (by assumption) ?_
      rotate_left
      · intro w hSw; (try dsimp only at hSw); go_simp; first | done | with_reducible rfl
      try simp only [List.getElem_toArray, List.getElem_cons_zero, List.getElem_cons_succ, Act.put, List.setIfInBounds_toArray, List.set_cons_zero, List.set_cons_succ]
      refine wpAnyH_take (i := 6) (oi := _) (v := ?_) rfl (by kernel_rfl) (by kernel_rfl) (by kernel_rfl) (fun _ _ _ h => h) (Or.inl ⟨by kernel_rfl, ?_⟩) (by assumption) ?_
      rotate_left
      · intro w hSw; (try dsimp only at hSw); go_simp; first | done | with_reducible rfl
      try simp only [List.getElem_toArray, List.getElem_cons_zero, List.getElem_cons_succ, Act.put, List.setIfInBounds_toArray, List.set_cons_zero, List.set_cons_succ]
      refine wpAnyH_take (i := 7) (oi := _) (v := ?_) rfl (by kernel_rfl) (by kernel_rfl) (by kernel_rfl) (fun _ _ _ h => h) (Or.inl ⟨by kernel_rfl, ?_⟩) (by assumption) ?_
      rotate_left
      · intro w hSw; (try dsimp only at hSw); go_simp; first | done | with_reducible rfl
      try simp only [List.getElem_toArray, List.getElem_cons_zero, List.getElem_cons_succ, Act.put, List.setIfInBounds_toArray, List.set_cons_zero, List.set_cons_succ]
      refine wpAnyH_take (i := 8) (oi := _) (v := ?_) rfl (by kernel_rfl) (by kernel_rfl) (by kernel_rfl) (fun _ _ _ h => h) (Or.inl ⟨by kernel_rfl, ?_⟩) (by assumption) ?_
      rotate_left
      · intro w hSw; (try dsimp only at hSw); go_simp; first | done | with_reducible rfl
      try simp only [List.getElem_toArray, List.getElem_cons_zero, List.getElem_cons_succ, Act.put, List.setIfInBounds_toArray, List.set_cons_zero, List.set_cons_succ]
      refine wpAnyH_take (i := 9) (oi := _) (v := ?_) rfl (by kernel_rfl) (by kernel_rfl) (by kernel_rfl) (fun _ _ _ h => h) (Or.inl ⟨by kernel_rfl, ?_⟩) (by assumption) ?_
      rotate_left
      · intro w hSw; (try dsimp only at hSw); go_simp; first | done | with_reducible rfl
      try simp only [List.getElem_toArray, List.getElem_cons_zero, List.getElem_cons_succ, Act.put, List.setIfInBounds_toArray, List.set_cons_zero, List.set_cons_succ]
      refine wpAnyH_take (i := 10) (oi := _) (v := ?_) rfl (by kernel_rfl) (by kernel_rfl) (by kernel_rfl) (fun _ _ _ h => h) (Or.inl ⟨by kernel_rfl, ?_⟩) (by assumption) ?_
      rotate_left
      · intro w hSw; (try dsimp only at hSw); go_simp; first | done | with_reducible rfl
      try simp only [List.getElem_toArray, List.getElem_cons_zero, List.getElem_cons_succ, Act.put, List.setIfInBounds_toArray, List.set_cons_zero, List.set_cons_succ]
      refine wpAnyH_take (i := 11) (oi := _) (v := ?_) rfl (by kernel_rfl) (by kernel_rfl) (by kernel_rfl) (fun _ _ _ h => h) (Or.inl ⟨by kernel_rfl, ?_⟩) (by assumption) ?_
      rotate_left
      · intro w hSw; (try dsimp only at hSw); go_simp; first | done | with_reducible rfl
      try simp only [List.getElem_toArray, List.getElem_cons_zero, List.getElem_cons_succ, Act.put, List.setIfInBounds_toArray, List.set_cons_zero, List.set_cons_succ]
      refine wpAnyH_ready (rs := [12]) (by kernel_rfl) (by simp) ?_
      refine AllReadyH.cons (o := _) rfl (fun K hK => ?_) AllReadyH.nil
      go_simp
      refine (bef_yes _ _ _ _ _ _ _ _ _ hbf').mono ?_
      rintro e w3 ⟨rfl, hb⟩
      replace B1 := nxt B1 hb
      replace hq2 := hq2.below hb
      replace H5 := H5.below hb
      clear hb
      clear l5 p5 q5 r5 s5 lq pq qq uq rq c0 c1 c2 c3
      obtain ⟨l5, p5, q5, r5, s5⟩ := id H5
      obtain ⟨lq, pq, qq, uq, rq⟩ := id hq2
      obtain ⟨c0, c1, c2, c3⟩ := (Own8.of_row (f := c) (hrow.of_block (B1.block _ hrow.lt))).at4 (k := j) (by omega) |>.1
      simp only [Nat.zero_add] at c0 c1 c2 c3
      refine hK.out _ _ ⟨p5, q5, r5, s5, rq, c0, c1, c2, c3⟩ (fun hHeld => ?_)
      clear hK K
      try simp only [List.getElem_toArray, List.getElem_cons_zero, List.getElem_cons_succ, Act.put, List.setIfInBounds_toArray, List.set_cons_zero, List.set_cons_succ]
      refine wpAnyH_take (i := 13) (oi := _) (v := ?_) rfl (by kernel_rfl) (by kernel_rfl) (by kernel_rfl) (fun _ _ _ h => h) (Or.inl ⟨by kernel_rfl, ?_⟩) (by assumption) ?_
      rotate_left
      · intro w hSw; (try dsimp only at hSw); go_simp; first | done | with_reducible rfl
      try simp only [List.getElem_toArray, List.getElem_cons_zero, List.getElem_cons_succ, Act.put, List.setIfInBounds_toArray, List.set_cons_zero, List.set_cons_succ]
      refine wpAnyH_take (i := 14) (oi := _) (v := ?_) rfl (by kernel_rfl) (by kernel_rfl) (by kernel_rfl) (fun _ _ _ h => h) (Or.inl ⟨by kernel_rfl, ?_⟩) (by assumption) ?_
      rotate_left
      · intro w hSw; (try dsimp only at hSw); go_simp; first | done | with_reducible rfl
      try simp only [List.getElem_toArray, List.getElem_cons_zero, List.getElem_cons_succ, Act.put, List.setIfInBounds_toArray, List.set_cons_zero, List.set_cons_succ]
      refine wpAnyH_done (by kernel_rfl) ?_ _
      clear lq pq qq uq rq c0 c1 c2 c3 hslab l5 p5 q5 r5 s5 hHeld
      go_wp2_with fail
      exact ⟨⟨j + 1 + 1, by omega, by first | go_num | simp, B1, hok.step ⟨HP.out, ⟨HA.out, HBB.out⟩, (fun k hk => by cases hk; exact hbf)⟩⟩, by simp [intOf]; omega⟩
    · obtain rfl : i = n := by omega
      by_cases hn : 1 ≤ i ∧ i ≤ 12
      · go_wp2_with (go_at_call 82; with_reducible refine (in_yes (i : Int) 1 12 _ (by omega) (by omega)).mono ?_; rintro e w' ⟨rfl, rfl⟩)
        go_ret
        exact ⟨B, .inl ⟨⟨HD.out, hn, hok⟩, rfl⟩⟩
      · go_wp2_with (go_at_call 82; with_reducible refine (in_no (i : Int) 1 12 _ (by omega)).mono ?_; rintro e w' ⟨rfl, rfl⟩)
        go_ret
        exact ⟨B, .inr ⟨fun hv => hn hv.2.1, rfl⟩⟩
theorem pok_any (X Y Z : Int) (bq g n : Nat) (c : Nat → Int) (w : World) (hX : -128 ≤ X ∧ X ≤ 127) (hY : -128 ≤ Y ∧ Y ≤ 127) (hZ : -128 ≤ Z ∧ Z ≤ 127) (hc : ∀ j, -128 ≤ c j ∧ c j ≤ 127) (hm : n ≤ 1048576) (hq : Pt w bq X Y Z (.slice (some ⟨g, 0, none⟩) n n)) (hrow : w.rowIs g 67 (4 * n) (fun j => .int .i8 (c j))) :
    Calls Try.prog 51 #[.pointer (some ⟨bq, 0, none⟩)] w (PVPost X Y Z n c w) := by
  by_cases h : pHead X Y Z
  · exact pok_loop X Y Z bq g n c w hc hm hq hrow h
  · exact pok_bad X Y Z bq g n c w hX hY hZ hq h
theorem specPVal_any (X Y Z : Int) (g n : Nat) (c : Nat → Int) (w : World) (hX : -128 ≤ X ∧ X ≤ 127) (hY : -128 ≤ Y ∧ Y ≤ 127) (hZ : -128 ≤ Z ∧ Z ≤ 127) (hc : ∀ j, -128 ≤ c j ∧ c j ≤ 127) (hm : n ≤ 1048576) (hrow : w.rowIs g 67 (4 * n) (fun j => .int .i8 (c j))) :
    Calls Try.prog 16 #[.agg #[.int .i8 X, .int .i8 Y, .int .i8 Z, .slice (some ⟨g, 0, none⟩) n n]] w (PVPost X Y Z n c w) := by
  have HL := Lib.hid (pok_any X Y Z w.heap.size g n c (w.alloc (.cells #[.int .i8 X, .int .i8 Y, .int .i8 Z, .slice (some ⟨g, 0, none⟩) n n] 30)) hX hY hZ hc hm (Pt.new w X Y Z _ _) (hrow.alloc _))
  go_enter Try.func16, Try.ntmps16
  go_wp2_with fail
  refine HL.out.mono ?_
  rintro e w1 ⟨hb, hcase⟩
  have B := nxt (al (Below.refl w.heap.size w) _) hb
  rcases hcase with ⟨hv, rfl⟩ | ⟨hv, rfl⟩
  · go_wp2_with fail
    go_ret
    exact ⟨B, .inl ⟨hv, rfl⟩⟩
  · go_wp2_with fail
    go_ret
    exact ⟨B, .inr ⟨hv, rfl⟩⟩
end Go.Proofs.Yteebkookoidheab
