/-
  The contract of impl.ValidSquare. Conditions stand at it.
-/
import Derived.Test.YtmkcdelfgaogaaaDoorRows
import Derived.Test.YtmkcdelfgaogaaaDoorLink
import Derived.Test.YtmkcdelfgaogaaaDoorCmp
import Derived.Test.YtmkcdelfgaogaaaDoorLay2
import Derived.IntWalk
namespace Go.Proofs.YtmkcdelfgaogaaaDoor
open Go Go.ChangeShapes Go.WideShapes Go.ChangeAt Go.RowKit
set_option linter.unusedVariables false
set_option linter.unusedSimpArgs false
set_option maxRecDepth 100000
set_option maxHeartbeats 2000000

theorem val_bad1 (X Y : Int) (g n : Nat) (c : Nat → Int) (w : World) (hX : -128 ≤ X ∧ X ≤ 127) (hY : -128 ≤ Y ∧ Y ≤ 127) (h : ¬ (1 ≤ X ∧ X ≤ 12)) :
    Calls Tryd.prog 55 #[.agg #[.int .i8 X, .int .i8 Y, .slice (some ⟨g, 0, none⟩) n n]] w (ValPost X Y n c w) := by
  go_enter Tryd.func55, Tryd.ntmps55
  go_wp2_with (go_at_call 71; with_reducible refine (side_no X _ h).mono ?_; rintro e w' ⟨rfl, rfl⟩)
  go_ret
  exact ⟨al (Below.refl _ _) _, .inr ⟨fun hv => h ⟨hv.1, hv.2.1⟩, rfl⟩⟩
theorem val_bad2 (X Y : Int) (g n : Nat) (c : Nat → Int) (w : World) (hX : -128 ≤ X ∧ X ≤ 127) (hY : -128 ≤ Y ∧ Y ≤ 127) (h1 : 1 ≤ X ∧ X ≤ 12) (h : ¬ (1 ≤ Y ∧ Y ≤ 12)) :
    Calls Tryd.prog 55 #[.agg #[.int .i8 X, .int .i8 Y, .slice (some ⟨g, 0, none⟩) n n]] w (ValPost X Y n c w) := by
  go_enter Tryd.func55, Tryd.ntmps55
  go_wp2_with (first
    | (go_at_call 71; with_reducible refine (side_yes X _ h1.1 h1.2).mono ?_; rintro e w' ⟨rfl, rfl⟩)
    | (go_at_call 71; with_reducible refine (side_no Y _ h).mono ?_; rintro e w' ⟨rfl, rfl⟩))
  go_ret
  exact ⟨al (Below.refl _ _) _, .inr ⟨fun hv => h ⟨hv.2.2.1, hv.2.2.2.1⟩, rfl⟩⟩
theorem val_bad3 (X Y : Int) (g n : Nat) (c : Nat → Int) (w : World) (hX : -128 ≤ X ∧ X ≤ 127) (hY : -128 ≤ Y ∧ Y ≤ 127) (h1 : 1 ≤ X ∧ X ≤ 12) (h2 : 1 ≤ Y ∧ Y ≤ 12) (h : 60 < n) (hm : n ≤ 1048576) :
    Calls Tryd.prog 55 #[.agg #[.int .i8 X, .int .i8 Y, .slice (some ⟨g, 0, none⟩) n n]] w (ValPost X Y n c w) := by
  have d0 : decide ((60 : Int) < (n : Int)) = true := by simp; omega
  go_enter Tryd.func55, Tryd.ntmps55
  go_wp2_with (first
    | (go_at_call 71; with_reducible refine (side_yes X _ h1.1 h1.2).mono ?_; rintro e w' ⟨rfl, rfl⟩)
    | (go_at_call 71; with_reducible refine (side_yes Y _ h2.1 h2.2).mono ?_; rintro e w' ⟨rfl, rfl⟩))
  go_ret
  exact ⟨al (Below.refl _ _) _, .inr ⟨fun hv => absurd hv.2.2.2.2.1 (by omega), rfl⟩⟩

def isZero8 : Option Value → Bool
  | some (.int .i8 n) => n == 0
  | _ => false
theorem of_isZero8 {v : Option Value} (h : isZero8 v = true) : v = some (.int .i8 0) := by
  unfold isZero8 at h
  split at h
  · simp only [beq_iff_eq] at h; subst h; rfl
  · cases h
theorem zi_size : Tryd.zeroCells129.size = 144 := by kernel_rfl
theorem zi_one : Tryd.zeroCells129.all (·.oneCell') = true := by kernel_rfl
theorem zi_cell (p : Nat) (h : p < 144) : Tryd.zeroCells129[p]? = some (.int .i8 0) := by
  have hall : (List.range 144).all (fun p => isZero8 Tryd.zeroCells129[p]?) = true := by kernel_rfl
  exact of_isZero8 (List.all_eq_true.1 hall p (List.mem_range.2 h))
theorem infoGrid : (Tryd.prog.info? 129).map (·.size) = some 144 := by kernel_rfl

theorem val_loop (X Y : Int) (g n : Nat) (c : Nat → Int) (w : World) (hX : -128 ≤ X ∧ X ≤ 127) (hY : -128 ≤ Y ∧ Y ≤ 127) (hc : ∀ j, -128 ≤ c j ∧ c j ≤ 127) (hrow : w.rowIs g 105 (4 * n) (fun j => .int .i8 (c j))) (h1 : 1 ≤ X ∧ X ≤ 12) (h2 : 1 ≤ Y ∧ Y ≤ 12) (hn : n ≤ 60) :
    Calls Tryd.prog 55 #[.agg #[.int .i8 X, .int .i8 Y, .slice (some ⟨g, 0, none⟩) n n]] w (ValPost X Y n c w) := by
  have d0 : decide ((60 : Int) < (n : Int)) = false := by simp; omega
  have HC := Lib.hid hc
  clear hc
  go_enter Tryd.func55, Tryd.ntmps55
  go_wp2_with (first
    | (go_at_call 71; with_reducible refine (side_yes X _ h1.1 h1.2).mono ?_; rintro e w' ⟨rfl, rfl⟩)
    | (go_at_call 71; with_reducible refine (side_yes Y _ h2.1 h2.2).mono ?_; rintro e w' ⟨rfl, rfl⟩))
  obtain ⟨W0, hW0⟩ : ∃ W0 : World, W0 = ((w.alloc (.cells #[.int .i8 X, .int .i8 Y, .slice (some ⟨g, 0, none⟩) n n] 33)).alloc (Obj.cells Tryd.zeroCells129 129)) := ⟨_, rfl⟩
  have B0 : Below w.heap.size w W0 := by rw [hW0]; exact al (al (Below.refl _ _) _) _
  have hq0 : Sq W0 w.heap.size X Y (.slice (some ⟨g, 0, none⟩) n n) := by rw [hW0]; exact (Sq.new w X Y _ _).alloc _
  have hz0 : W0.rowIs (w.heap.size + 1) 129 144 (fun p => .int .i8 (gridN c 0 p)) := ⟨Tryd.zeroCells129, by rw [hW0]; exact heap_alloc2_new w _ _, zi_size, fun p hp => zi_cell p hp⟩
  rw [← hW0]
  clear hW0
  go_loopw [27, 4, 5] (fun t27 t4 t5 wr => ∃ i : Nat, i ≤ n ∧ t27 = .int .i64 i ∧ Below w.heap.size w wr ∧ Sq wr w.heap.size X Y (.slice (some ⟨g, 0, none⟩) n n) ∧ wr.rowIs (w.heap.size + 1) 129 144 (fun p => .int .i8 (gridN c i p)) ∧ okTo X Y c i) (fun t27 t4 t5 wr => n - (intOf t27).toNat)
  case atStart => exact ⟨0, by omega, rfl, B0, hq0, hz0, okTo.zero _ _ _⟩
  case round =>
    clear B0 hq0 hz0
    obtain ⟨i, hi, rfl, B, hq, hz, hok⟩ := hrel
    obtain ⟨lq, pq, qq, rq⟩ := id hq
    by_cases hlt : i < n
    · have hslab := (Own8.of_row (f := c) (hrow.of_block (B.block _ hrow.lt)))
      obtain ⟨c0, c1, c2, c3⟩ := hslab.at4 hlt |>.1
      simp only [Nat.zero_add] at c0 c1 c2 c3
      have hb4 := HC.out (4 * i)
      have hb5 := HC.out (4 * i + 1)
      have hb6 := HC.out (4 * i + 2)
      have hb7 := HC.out (4 * i + 3)
      obtain ⟨wo, rfl⟩ : ∃ wo : World, wo = wr := ⟨_, rfl⟩
      by_cases hl : ¬ lies X Y c i
      · have hl' : ¬ (0 ≤ c (4 * i) ∧ 0 ≤ c (4 * i + 1) ∧ 1 ≤ c (4 * i + 2) ∧ 1 ≤ c (4 * i + 3) ∧ c (4 * i) + c (4 * i + 2) ≤ X ∧ c (4 * i + 1) + c (4 * i + 3) ≤ Y) := hl
        go_wp2_with fail
        refine (lw_no X Y _ _ _ _ _ hX hY hb4 hb5 hb6 hb7 hl').mono ?_
        rintro e w1 ⟨rfl, hb⟩
        replace B := nxt (al B _) hb
        clear hb lq pq qq rq c0 c1 c2 c3 hq hz
        go_wp2_with fail
        go_ret
        exact ⟨B, .inr ⟨fun hv => hl (hv.2.2.2.2.2 i hlt).1, rfl⟩⟩
      replace hl := Classical.not_not.1 hl
      have hl' : (0 ≤ c (4 * i) ∧ 0 ≤ c (4 * i + 1) ∧ 1 ≤ c (4 * i + 2) ∧ 1 ≤ c (4 * i + 3) ∧ c (4 * i) + c (4 * i + 2) ≤ X ∧ c (4 * i + 1) + c (4 * i + 3) ≤ Y) := hl
      obtain ⟨x0, y0, wd, ht, e0, e1, e2, e3, hx, hy⟩ := lies_nat h1.2 h2.2 hl
      rw [e0] at c0 hb4 hl'
      rw [e1] at c1 hb5 hl'
      rw [e2] at c2 hb6 hl'
      rw [e3] at c3 hb7 hl'
      have E0 := Lib.hid e0
      have E1 := Lib.hid e1
      have E2 := Lib.hid e2
      have E3 := Lib.hid e3
      clear e0 e1 e2 e3
      go_wp2_with fail
      refine (lw_yes X Y _ _ _ _ _ hX hY hb4 hb5 hb6 hb7 hl').mono ?_
      rintro e w1 ⟨rfl, hb⟩
      have H5 := (Sl.new wo (x0 : Int) y0 wd ht 105).below hb
      replace B := nxt (al B _) hb
      replace hq := (hq.alloc _).below hb
      replace hz := (hz.alloc _).of_block (hb.block _ (hz.alloc _).lt)
      clear hb lq pq qq rq c0 c1 c2 c3
      obtain ⟨l5, p5, q5, r5, s5⟩ := id H5
      go_wp2_with fail
      refine (callsIn_wide.1 (isOpen_in 6 (by omega) (w.heap.size + 1) x0 y0 wd ht (fun p => gridN c i p) _ hx hy hz)).mono ?_
      rintro e w2 ⟨hb, hcase⟩
      replace B := nxt B hb
      replace hq := hq.below hb
      replace hz := hz.of_block (hb.block _ hz.lt)
      replace H5 := H5.below hb
      clear hb l5 p5 q5 r5 s5
      rcases hcase with ⟨rfl, ho⟩ | ⟨rfl, ho⟩
      case inr =>
        go_wp2_with fail
        go_ret
        exact ⟨B, .inr ⟨fun hv => opn_no E0.out E1.out E2.out E3.out hx hy ho (hv.2.2.2.2.2 i hlt).2.2, rfl⟩⟩
      replace ho := opn_yes E0.out E1.out E2.out E3.out hx hy ho
      obtain ⟨l5, p5, q5, r5, s5⟩ := id H5
      have w8 : IntKind.i8.wrap ((i : Int) + 1) = (i : Int) + 1 := IntWalk.i8_in _ (by omega)
      go_wp2_with fail
      by_cases hi0 : i = 0
      · have d1 : decide (0 < (i : Int)) = false := by simp; omega
        refine wp_region_held_drew (S := (fun _ => True)) (by kernel_rfl) trivial (fun hHeld => ?_)
        refine wpAnyH_take (i := 0) (oi := _) (v := ?_) rfl (by kernel_rfl) (by kernel_rfl) (by kernel_rfl) (fun _ _ _ h => h) (Or.inl ⟨by kernel_rfl, ?_⟩) (by assumption) ?_
        rotate_left
        · intro w hSw; (try dsimp only at hSw); go_simp; first | done | with_reducible rfl
        try simp only [List.getElem_toArray, List.getElem_cons_zero, List.getElem_cons_succ, Act.put, List.setIfInBounds_toArray, List.set_cons_zero, List.set_cons_succ]
        refine wpAnyH_take (i := 1) (oi := _) (v := ?_) rfl (by kernel_rfl) (by kernel_rfl) (by kernel_rfl) (fun _ _ _ h => h) (Or.inl ⟨by kernel_rfl, ?_⟩) (by assumption) ?_
        rotate_left
        · intro w hSw; (try dsimp only at hSw); go_simp; first | done | with_reducible rfl
        try simp only [List.getElem_toArray, List.getElem_cons_zero, List.getElem_cons_succ, Act.put, List.setIfInBounds_toArray, List.set_cons_zero, List.set_cons_succ]
        refine wpAnyH_take (i := 2) (oi := _) (v := ?_) rfl (by kernel_rfl) (by kernel_rfl) (by kernel_rfl) (fun _ _ _ h => h) (Or.inl ⟨by kernel_rfl, ?_⟩) (by assumption) ?_
        rotate_left
        · intro w hSw; (try dsimp only at hSw); go_simp; first | done | with_reducible rfl
        try simp only [List.getElem_toArray, List.getElem_cons_zero, List.getElem_cons_succ, Act.put, List.setIfInBounds_toArray, List.set_cons_zero, List.set_cons_succ]
        refine wpAnyH_take (i := 3) (oi := _) (v := undef) rfl (by kernel_rfl) (by kernel_rfl) (by kernel_rfl) (fun _ _ _ h => h) (Or.inr ⟨by kernel_rfl, rfl⟩) (by assumption) ?_
        try simp only [List.getElem_toArray, List.getElem_cons_zero, List.getElem_cons_succ, Act.put, List.setIfInBounds_toArray, List.set_cons_zero, List.set_cons_succ]
        refine wpAnyH_take (i := 4) (oi := _) (v := undef) rfl (by kernel_rfl) (by kernel_rfl) (by kernel_rfl) (fun _ _ _ h => h) (Or.inr ⟨by kernel_rfl, rfl⟩) (by assumption) ?_
        try simp only [List.getElem_toArray, List.getElem_cons_zero, List.getElem_cons_succ, Act.put, List.setIfInBounds_toArray, List.set_cons_zero, List.set_cons_succ]
        refine wpAnyH_take (i := 5) (oi := _) (v := undef) rfl (by kernel_rfl) (by kernel_rfl) (by kernel_rfl) (fun _ _ _ h => h) (Or.inr ⟨by kernel_rfl, rfl⟩) (by assumption) ?_
        try simp only [List.getElem_toArray, List.getElem_cons_zero, List.getElem_cons_succ, Act.put, List.setIfInBounds_toArray, List.set_cons_zero, List.set_cons_succ]
        refine wpAnyH_take (i := 6) (oi := _) (v := undef) rfl (by kernel_rfl) (by kernel_rfl) (by kernel_rfl) (fun _ _ _ h => h) (Or.inr ⟨by kernel_rfl, rfl⟩) (by assumption) ?_
        try simp only [List.getElem_toArray, List.getElem_cons_zero, List.getElem_cons_succ, Act.put, List.setIfInBounds_toArray, List.set_cons_zero, List.set_cons_succ]
        refine wpAnyH_take (i := 7) (oi := _) (v := undef) rfl (by kernel_rfl) (by kernel_rfl) (by kernel_rfl) (fun _ _ _ h => h) (Or.inr ⟨by kernel_rfl, rfl⟩) (by assumption) ?_
        try simp only [List.getElem_toArray, List.getElem_cons_zero, List.getElem_cons_succ, Act.put, List.setIfInBounds_toArray, List.set_cons_zero, List.set_cons_succ]
        refine wpAnyH_take (i := 8) (oi := _) (v := undef) rfl (by kernel_rfl) (by kernel_rfl) (by kernel_rfl) (fun _ _ _ h => h) (Or.inr ⟨by kernel_rfl, rfl⟩) (by assumption) ?_
        try simp only [List.getElem_toArray, List.getElem_cons_zero, List.getElem_cons_succ, Act.put, List.setIfInBounds_toArray, List.set_cons_zero, List.set_cons_succ]
        refine wpAnyH_take (i := 9) (oi := _) (v := undef) rfl (by kernel_rfl) (by kernel_rfl) (by kernel_rfl) (fun _ _ _ h => h) (Or.inr ⟨by kernel_rfl, rfl⟩) (by assumption) ?_
        try simp only [List.getElem_toArray, List.getElem_cons_zero, List.getElem_cons_succ, Act.put, List.setIfInBounds_toArray, List.set_cons_zero, List.set_cons_succ]
        refine wpAnyH_take (i := 10) (oi := _) (v := undef) rfl (by kernel_rfl) (by kernel_rfl) (by kernel_rfl) (fun _ _ _ h => h) (Or.inr ⟨by kernel_rfl, rfl⟩) (by assumption) ?_
        try simp only [List.getElem_toArray, List.getElem_cons_zero, List.getElem_cons_succ, Act.put, List.setIfInBounds_toArray, List.set_cons_zero, List.set_cons_succ]
        refine wpAnyH_take (i := 11) (oi := _) (v := undef) rfl (by kernel_rfl) (by kernel_rfl) (by kernel_rfl) (fun _ _ _ h => h) (Or.inr ⟨by kernel_rfl, rfl⟩) (by assumption) ?_
        try simp only [List.getElem_toArray, List.getElem_cons_zero, List.getElem_cons_succ, Act.put, List.setIfInBounds_toArray, List.set_cons_zero, List.set_cons_succ]
        refine wpAnyH_take (i := 12) (oi := _) (v := ?_) rfl (by kernel_rfl) (by kernel_rfl) (by kernel_rfl) (fun _ _ _ h => h) (Or.inl ⟨by kernel_rfl, ?_⟩) (by assumption) ?_
        rotate_left
        · intro w hSw; (try dsimp only at hSw); go_simp; first | done | with_reducible rfl
        try simp only [List.getElem_toArray, List.getElem_cons_zero, List.getElem_cons_succ, Act.put, List.setIfInBounds_toArray, List.set_cons_zero, List.set_cons_succ]
        refine wpAnyH_done (by kernel_rfl) ?_ _
        clear l5 p5 q5 r5 s5
        replace B := B.drew
        replace hq : Sq w2.drew w.heap.size X Y (.slice (some ⟨g, 0, none⟩) n n) := hq
        replace hz : w2.drew.rowIs (w.heap.size + 1) 129 144 (fun p => .int .i8 (gridN c i p)) := hz
        replace H5 : Sl w2.drew wo.heap.size (x0 : Int) y0 wd ht := H5
        obtain ⟨l5, p5, q5, r5, s5⟩ := id H5
        go_wp2_with fail
        refine (callsIn_wide.1 (lay_in 6 (by omega) (w.heap.size + 1) x0 y0 wd ht _ (fun p => gridN c i p) _ hx hy hz)).mono ?_
        rintro e w4 ⟨⟨v, rfl⟩, hg, hz'⟩
        replace B := below_grown B hg B.size (by omega)
        replace hq := hq.grown hg (by omega)
        clear hz H5 l5 p5 q5 r5 s5 hg
        go_wp2_with fail
        exact ⟨⟨i + 1, by omega, by first | go_num | simp, B, hq, hz'.congr (fun p hp => by have := gridQ_next hp E0.out E1.out E2.out E3.out hx hy; rw [show ((i : Int) + 1) = 1 by omega] at this; exact congrArg (Value.int IntKind.i8) this), hok.step ⟨hl, (fun j hj => absurd hi0 (by omega)), ho⟩⟩, by simp [intOf]; omega⟩
      obtain ⟨j, rfl⟩ : ∃ j, i = j + 1 := ⟨i - 1, by omega⟩
      have d1 : decide (0 < ((j + 1 : Nat) : Int)) = true := by first | (simp; done) | (simp; omega)
      have d2 : decide (0 < (j : Int) + 1) = true := by first | (simp; done) | (simp; omega)
      have hslab := (Own8.of_row (f := c) (hrow.of_block (B.block _ hrow.lt)))
      obtain ⟨c0, c1, c2, c3⟩ := hslab.at4 (k := j) (by omega) |>.1
      simp only [Nat.zero_add] at c0 c1 c2 c3
      obtain ⟨lq, pq, qq, rq⟩ := id hq
      have wj : IntKind.i64.wrap (j : Int) = (j : Int) := IntWalk.i64_in _ (by omega)
      have hj0 : 0 ≤ (j : Int) := by omega
      have hjn : (j : Int) < (n : Int) := by omega
      by_cases hbf : ¬ befo c j
      · have hbf' : ¬ (c (4 * j + 1) < (y0 : Int) ∨ (c (4 * j + 1) = (y0 : Int) ∧ c (4 * j) < (x0 : Int))) := by
          have := hbf
          unfold befo at this
          rwa [E0.out, E1.out] at this
        replace B := B.drew
        replace hq : Sq w2.drew w.heap.size X Y (.slice (some ⟨g, 0, none⟩) n n) := hq
        replace hz : w2.drew.rowIs (w.heap.size + 1) 129 144 (fun p => .int .i8 (gridN c (j + 1) p)) := hz
        replace H5 : Sl w2.drew wo.heap.size (x0 : Int) y0 wd ht := H5
        refine wp_region_held_drew (S := (fun w' => w'.cell? ⟨wo.heap.size, 0, none⟩ = some (.int .i8 (x0 : Int)) ∧ w'.cell? ⟨wo.heap.size, 1, none⟩ = some (.int .i8 (y0 : Int)) ∧ w'.cell? ⟨wo.heap.size, 2, none⟩ = some (.int .i8 (wd : Int)) ∧ w'.cell? ⟨wo.heap.size, 3, none⟩ = some (.int .i8 (ht : Int)) ∧ w'.cell? ⟨w.heap.size, 2, none⟩ = some (.slice (some ⟨g, 0, none⟩) n n) ∧ w'.cell? ⟨g, j * 4, none⟩ = some (.int .i8 (c (4 * j))) ∧ w'.cell? ⟨g, j * 4 + 1, none⟩ = some (.int .i8 (c (4 * j + 1))) ∧ w'.cell? ⟨g, j * 4 + 2, none⟩ = some (.int .i8 (c (4 * j + 2))) ∧ w'.cell? ⟨g, j * 4 + 3, none⟩ = some (.int .i8 (c (4 * j + 3))))) (by kernel_rfl) ⟨p5, q5, r5, s5, rq, c0, c1, c2, c3⟩ (fun hHeld => ?_)
        refine wpAnyH_take (i := 0) (oi := _) (v := ?_) rfl (by kernel_rfl) (by kernel_rfl) (by kernel_rfl) (fun _ _ _ h => h) (Or.inl ⟨by kernel_rfl, ?_⟩) (by assumption) ?_
        rotate_left
        · intro w hSw; (try dsimp only at hSw); go_simp; first | done | with_reducible rfl
        try simp only [List.getElem_toArray, List.getElem_cons_zero, List.getElem_cons_succ, Act.put, List.setIfInBounds_toArray, List.set_cons_zero, List.set_cons_succ]
        refine wpAnyH_take (i := 1) (oi := _) (v := ?_) rfl (by kernel_rfl) (by kernel_rfl) (by kernel_rfl) (fun _ _ _ h => h) (Or.inl ⟨by kernel_rfl, ?_⟩) (by assumption) ?_
        rotate_left
        · intro w hSw; (try dsimp only at hSw); go_simp; first | done | with_reducible rfl
        try simp only [List.getElem_toArray, List.getElem_cons_zero, List.getElem_cons_succ, Act.put, List.setIfInBounds_toArray, List.set_cons_zero, List.set_cons_succ]
        refine wpAnyH_take (i := 2) (oi := _) (v := ?_) rfl (by kernel_rfl) (by kernel_rfl) (by kernel_rfl) (fun _ _ _ h => h) (Or.inl ⟨by kernel_rfl, ?_⟩) (by assumption) ?_
        rotate_left
        · intro w hSw; (try dsimp only at hSw); go_simp; first | done | with_reducible rfl
        try simp only [List.getElem_toArray, List.getElem_cons_zero, List.getElem_cons_succ, Act.put, List.setIfInBounds_toArray, List.set_cons_zero, List.set_cons_succ]
        refine wpAnyH_take (i := 3) (oi := _) (v := ?_) rfl (by kernel_rfl) (by kernel_rfl) (by kernel_rfl) (fun _ _ _ h => h) (Or.inl ⟨by kernel_rfl, ?_⟩) (by assumption) ?_
        rotate_left
        · intro w hSw; (try dsimp only at hSw); go_simp; first | done | with_reducible rfl
        try simp only [List.getElem_toArray, List.getElem_cons_zero, List.getElem_cons_succ, Act.put, List.setIfInBounds_toArray, List.set_cons_zero, List.set_cons_succ]
        refine wpAnyH_take (i := 4) (oi := _) (v := ?_) rfl (by kernel_rfl) (by kernel_rfl) (by kernel_rfl) (fun _ _ _ h => h) (Or.inl ⟨by kernel_rfl, ?_⟩) (by assumption) ?_
        rotate_left
        · intro w hSw; (try dsimp only at hSw); go_simp; first | done | with_reducible rfl
        try simp only [List.getElem_toArray, List.getElem_cons_zero, List.getElem_cons_succ, Act.put, List.setIfInBounds_toArray, List.set_cons_zero, List.set_cons_succ]
        refine wpAnyH_take (i := 5) (oi := _) (v := ?_) rfl (by kernel_rfl) (by kernel_rfl) (by kernel_rfl) (fun _ _ _ h => h) (Or.inl ⟨by kernel_rfl, ?_⟩) (by assumption) ?_
        rotate_left
        · intro w hSw; (try dsimp only at hSw); go_simp; first | done | with_reducible rfl
        try simp only [List.getElem_toArray, List.getElem_cons_zero, List.getElem_cons_succ, Act.put, List.setIfInBounds_toArray, List.set_cons_zero, List.set_cons_succ]
        refine wpAnyH_take (i := 6) (oi := _) (v := ?_) rfl (by kernel_rfl) (by kernel_rfl) (by kernel_rfl) (fun _ _ _ h => h) (Or.inl ⟨by kernel_rfl, ?_⟩) (by assumption) ?_
        rotate_left
        · intro w hSw; (try dsimp only at hSw); go_simp; first | done | with_reducible rfl
        try simp only [List.getElem_toArray, List.getElem_cons_zero, List.getElem_cons_succ, Act.put, List.setIfInBounds_toArray, List.set_cons_zero, List.set_cons_succ]
        refine wpAnyH_take (i := 7) (oi := _) (v := ?_) rfl (by kernel_rfl) (by kernel_rfl) (by kernel_rfl) (fun _ _ _ h => h) (Or.inl ⟨by kernel_rfl, ?_⟩) (by assumption) ?_
        rotate_left
        · intro w hSw; (try dsimp only at hSw); go_simp; first | done | with_reducible rfl
        try simp only [List.getElem_toArray, List.getElem_cons_zero, List.getElem_cons_succ, Act.put, List.setIfInBounds_toArray, List.set_cons_zero, List.set_cons_succ]
        refine wpAnyH_take (i := 8) (oi := _) (v := ?_) rfl (by kernel_rfl) (by kernel_rfl) (by kernel_rfl) (fun _ _ _ h => h) (Or.inl ⟨by kernel_rfl, ?_⟩) (by assumption) ?_
        rotate_left
        · intro w hSw; (try dsimp only at hSw); go_simp; first | done | with_reducible rfl
        try simp only [List.getElem_toArray, List.getElem_cons_zero, List.getElem_cons_succ, Act.put, List.setIfInBounds_toArray, List.set_cons_zero, List.set_cons_succ]
        refine wpAnyH_take (i := 9) (oi := _) (v := ?_) rfl (by kernel_rfl) (by kernel_rfl) (by kernel_rfl) (fun _ _ _ h => h) (Or.inl ⟨by kernel_rfl, ?_⟩) (by assumption) ?_
        rotate_left
        · intro w hSw; (try dsimp only at hSw); go_simp; first | done | with_reducible rfl
        try simp only [List.getElem_toArray, List.getElem_cons_zero, List.getElem_cons_succ, Act.put, List.setIfInBounds_toArray, List.set_cons_zero, List.set_cons_succ]
        refine wpAnyH_ready (rs := [10]) (by kernel_rfl) (by simp) ?_
        refine AllReadyH.cons (o := _) rfl (fun K hK => ?_) AllReadyH.nil
        go_simp
        refine (cp_any _ _ _ _ _ _ _ _ _).mono ?_
        rintro e w3 ⟨hb, r, rfl, hr⟩
        have dr : decide (0 ≤ r) = true := by have := (not_congr hr).2 hbf'; simp; omega
        replace B := nxt B hb
        replace hq := hq.below hb
        replace hz := rowNext0 hz hb
        replace H5 := H5.below hb
        clear hb hr
        clear l5 p5 q5 r5 s5 lq pq qq rq c0 c1 c2 c3
        obtain ⟨l5, p5, q5, r5, s5⟩ := id H5
        obtain ⟨lq, pq, qq, rq⟩ := id hq
        obtain ⟨c0, c1, c2, c3⟩ := (Own8.of_row (f := c) (hrow.of_block (B.block _ hrow.lt))).at4 (k := j) (by omega) |>.1
        simp only [Nat.zero_add] at c0 c1 c2 c3
        refine hK.out _ _ ⟨p5, q5, r5, s5, rq, c0, c1, c2, c3⟩ (fun hHeld => ?_)
        clear hK K
        try simp only [List.getElem_toArray, List.getElem_cons_zero, List.getElem_cons_succ, Act.put, List.setIfInBounds_toArray, List.set_cons_zero, List.set_cons_succ]
        refine wpAnyH_take (i := 11) (oi := _) (v := ?_) rfl (by kernel_rfl) (by kernel_rfl) (by kernel_rfl) (fun _ _ _ h => h) (Or.inl ⟨by kernel_rfl, ?_⟩) (by assumption) ?_
        rotate_left
        · intro w hSw; (try dsimp only at hSw); go_simp; first | done | with_reducible rfl
        try simp only [List.getElem_toArray, List.getElem_cons_zero, List.getElem_cons_succ, Act.put, List.setIfInBounds_toArray, List.set_cons_zero, List.set_cons_succ]
        refine wpAnyH_take (i := 12) (oi := _) (v := ?_) rfl (by kernel_rfl) (by kernel_rfl) (by kernel_rfl) (fun _ _ _ h => h) (Or.inl ⟨by kernel_rfl, ?_⟩) (by assumption) ?_
        rotate_left
        · intro w hSw; (try dsimp only at hSw); go_simp; first | done | with_reducible rfl
        try simp only [List.getElem_toArray, List.getElem_cons_zero, List.getElem_cons_succ, Act.put, List.setIfInBounds_toArray, List.set_cons_zero, List.set_cons_succ]
        refine wpAnyH_done (by kernel_rfl) ?_ _
        go_wp2_with fail
        go_ret
        exact ⟨B, .inr ⟨fun hv => hbf ((hv.2.2.2.2.2 (j + 1) hlt).2.1 j rfl), rfl⟩⟩
      replace hbf := Classical.not_not.1 hbf
      have hbf' : (c (4 * j + 1) < (y0 : Int) ∨ (c (4 * j + 1) = (y0 : Int) ∧ c (4 * j) < (x0 : Int))) := by
        have := hbf
        unfold befo at this
        rwa [E0.out, E1.out] at this
      replace B := B.drew
      replace hq : Sq w2.drew w.heap.size X Y (.slice (some ⟨g, 0, none⟩) n n) := hq
      replace hz : w2.drew.rowIs (w.heap.size + 1) 129 144 (fun p => .int .i8 (gridN c (j + 1) p)) := hz
      replace H5 : Sl w2.drew wo.heap.size (x0 : Int) y0 wd ht := H5
      refine wp_region_held_drew (S := (fun w' => w'.cell? ⟨wo.heap.size, 0, none⟩ = some (.int .i8 (x0 : Int)) ∧ w'.cell? ⟨wo.heap.size, 1, none⟩ = some (.int .i8 (y0 : Int)) ∧ w'.cell? ⟨wo.heap.size, 2, none⟩ = some (.int .i8 (wd : Int)) ∧ w'.cell? ⟨wo.heap.size, 3, none⟩ = some (.int .i8 (ht : Int)) ∧ w'.cell? ⟨w.heap.size, 2, none⟩ = some (.slice (some ⟨g, 0, none⟩) n n) ∧ w'.cell? ⟨g, j * 4, none⟩ = some (.int .i8 (c (4 * j))) ∧ w'.cell? ⟨g, j * 4 + 1, none⟩ = some (.int .i8 (c (4 * j + 1))) ∧ w'.cell? ⟨g, j * 4 + 2, none⟩ = some (.int .i8 (c (4 * j + 2))) ∧ w'.cell? ⟨g, j * 4 + 3, none⟩ = some (.int .i8 (c (4 * j + 3))))) (by kernel_rfl) ⟨p5, q5, r5, s5, rq, c0, c1, c2, c3⟩ (fun hHeld => ?_)
      refine wpAnyH_take (i := 0) (oi := _) (v := ?_) rfl (by kernel_rfl) (by kernel_rfl) (by kernel_rfl) (fun _ _ _ h => h) (Or.inl ⟨by kernel_rfl, ?_⟩) (by assumption) ?_
      rotate_left
      · intro w hSw; (try dsimp only at hSw); go_simp; first | done | with_reducible rfl
      try simp only [List.getElem_toArray, List.getElem_cons_zero, List.getElem_cons_succ, Act.put, List.setIfInBounds_toArray, List.set_cons_zero, List.set_cons_succ]
      refine wpAnyH_take (i := 1) (oi := _) (v := ?_) rfl (by kernel_rfl) (by kernel_rfl) (by kernel_rfl) (fun _ _ _ h => h) (Or.inl ⟨by kernel_rfl, ?_⟩) (by assumption) ?_
      rotate_left
      · intro w hSw; (try dsimp only at hSw); go_simp; first | done | with_reducible rfl
      try simp only [List.getElem_toArray, List.getElem_cons_zero, List.getElem_cons_succ, Act.put, List.setIfInBounds_toArray, List.set_cons_zero, List.set_cons_succ]
      refine wpAnyH_take (i := 2) (oi := _) (v := ?_) rfl (by kernel_rfl) (by kernel_rfl) (by kernel_rfl) (fun _ _ _ h => h) (Or.inl ⟨by kernel_rfl, ?_⟩) (by assumption) ?_
      rotate_left
      · intro w hSw; (try dsimp only at hSw); go_simp; first | done | with_reducible rfl
      try simp only [List.getElem_toArray, List.getElem_cons_zero, List.getElem_cons_succ, Act.put, List.setIfInBounds_toArray, List.set_cons_zero, List.set_cons_succ]
      refine wpAnyH_take (i := 3) (oi := _) (v := ?_) rfl (by kernel_rfl) (by kernel_rfl) (by kernel_rfl) (fun _ _ _ h => h) (Or.inl ⟨by kernel_rfl, ?_⟩) (by assumption) ?_
      rotate_left
      · intro w hSw; (try dsimp only at hSw); go_simp; first | done | with_reducible rfl
      try simp only [List.getElem_toArray, List.getElem_cons_zero, List.getElem_cons_succ, Act.put, List.setIfInBounds_toArray, List.set_cons_zero, List.set_cons_succ]
      refine wpAnyH_take (i := 4) (oi := _) (v := ?_) rfl (by kernel_rfl) (by kernel_rfl) (by kernel_rfl) (fun _ _ _ h => h) (Or.inl ⟨by kernel_rfl, ?_⟩) (by assumption) ?_
      rotate_left
      · intro w hSw; (try dsimp only at hSw); go_simp; first | done | with_reducible rfl
      try simp only [List.getElem_toArray, List.getElem_cons_zero, List.getElem_cons_succ, Act.put, List.setIfInBounds_toArray, List.set_cons_zero, List.set_cons_succ]
      refine wpAnyH_take (i := 5) (oi := _) (v := ?_) rfl (by kernel_rfl) (by kernel_rfl) (by kernel_rfl) (fun _ _ _ h => h) (Or.inl ⟨by kernel_rfl, ?_⟩) (by assumption) ?_
      rotate_left
      · intro w hSw; (try dsimp only at hSw); go_simp; first | done | with_reducible rfl
      try simp only [List.getElem_toArray, List.getElem_cons_zero, List.getElem_cons_succ, Act.put, List.setIfInBounds_toArray, List.set_cons_zero, List.set_cons_succ]
      refine wpAnyH_take (i := 6) (oi := _) (v := ?_) rfl (by kernel_rfl) (by kernel_rfl) (by kernel_rfl) (fun _ _ _ h => h) (Or.inl ⟨by kernel_rfl, ?_⟩) (by assumption) ?_
      rotate_left
      · intro w hSw; (try dsimp only at hSw); go_simp; first | done | with_reducible rfl
      try simp only [List.getElem_toArray, List.getElem_cons_zero, List.getElem_cons_succ, Act.put, List.setIfInBounds_toArray, List.set_cons_zero, List.set_cons_succ]
      refine wpAnyH_take (i := 7) (oi := _) (v := ?_) rfl (by kernel_rfl) (by kernel_rfl) (by kernel_rfl) (fun _ _ _ h => h) (Or.inl ⟨by kernel_rfl, ?_⟩) (by assumption) ?_
      rotate_left
      · intro w hSw; (try dsimp only at hSw); go_simp; first | done | with_reducible rfl
      try simp only [List.getElem_toArray, List.getElem_cons_zero, List.getElem_cons_succ, Act.put, List.setIfInBounds_toArray, List.set_cons_zero, List.set_cons_succ]
      refine wpAnyH_take (i := 8) (oi := _) (v := ?_) rfl (by kernel_rfl) (by kernel_rfl) (by kernel_rfl) (fun _ _ _ h => h) (Or.inl ⟨by kernel_rfl, ?_⟩) (by assumption) ?_
      rotate_left
      · intro w hSw; (try dsimp only at hSw); go_simp; first | done | with_reducible rfl
      try simp only [List.getElem_toArray, List.getElem_cons_zero, List.getElem_cons_succ, Act.put, List.setIfInBounds_toArray, List.set_cons_zero, List.set_cons_succ]
      refine wpAnyH_take (i := 9) (oi := _) (v := ?_) rfl (by kernel_rfl) (by kernel_rfl) (by kernel_rfl) (fun _ _ _ h => h) (Or.inl ⟨by kernel_rfl, ?_⟩) (by assumption) ?_
      rotate_left
      · intro w hSw; (try dsimp only at hSw); go_simp; first | done | with_reducible rfl
      try simp only [List.getElem_toArray, List.getElem_cons_zero, List.getElem_cons_succ, Act.put, List.setIfInBounds_toArray, List.set_cons_zero, List.set_cons_succ]
      refine wpAnyH_ready (rs := [10]) (by kernel_rfl) (by simp) ?_
      refine AllReadyH.cons (o := _) rfl (fun K hK => ?_) AllReadyH.nil
      go_simp
      refine (cp_any _ _ _ _ _ _ _ _ _).mono ?_
      rintro e w3 ⟨hb, r, rfl, hr⟩
      have dr : decide (0 ≤ r) = false := by simp; exact hr.2 hbf'
      replace B := nxt B hb
      replace hq := hq.below hb
      replace hz := rowNext0 hz hb
      replace H5 := H5.below hb
      clear hb hr
      clear l5 p5 q5 r5 s5 lq pq qq rq c0 c1 c2 c3
      obtain ⟨l5, p5, q5, r5, s5⟩ := id H5
      obtain ⟨lq, pq, qq, rq⟩ := id hq
      obtain ⟨c0, c1, c2, c3⟩ := (Own8.of_row (f := c) (hrow.of_block (B.block _ hrow.lt))).at4 (k := j) (by omega) |>.1
      simp only [Nat.zero_add] at c0 c1 c2 c3
      refine hK.out _ _ ⟨p5, q5, r5, s5, rq, c0, c1, c2, c3⟩ (fun hHeld => ?_)
      clear hK K
      try simp only [List.getElem_toArray, List.getElem_cons_zero, List.getElem_cons_succ, Act.put, List.setIfInBounds_toArray, List.set_cons_zero, List.set_cons_succ]
      refine wpAnyH_take (i := 11) (oi := _) (v := ?_) rfl (by kernel_rfl) (by kernel_rfl) (by kernel_rfl) (fun _ _ _ h => h) (Or.inl ⟨by kernel_rfl, ?_⟩) (by assumption) ?_
      rotate_left
      · intro w hSw; (try dsimp only at hSw); go_simp; first | done | with_reducible rfl
      try simp only [List.getElem_toArray, List.getElem_cons_zero, List.getElem_cons_succ, Act.put, List.setIfInBounds_toArray, List.set_cons_zero, List.set_cons_succ]
      refine wpAnyH_take (i := 12) (oi := _) (v := ?_) rfl (by kernel_rfl) (by kernel_rfl) (by kernel_rfl) (fun _ _ _ h => h) (Or.inl ⟨by kernel_rfl, ?_⟩) (by assumption) ?_
      rotate_left
      · intro w hSw; (try dsimp only at hSw); go_simp; first | done | with_reducible rfl
      try simp only [List.getElem_toArray, List.getElem_cons_zero, List.getElem_cons_succ, Act.put, List.setIfInBounds_toArray, List.set_cons_zero, List.set_cons_succ]
      refine wpAnyH_done (by kernel_rfl) ?_ _
      clear lq pq qq rq c0 c1 c2 c3 hslab
      clear l5 p5 q5 r5 s5
      obtain ⟨l5, p5, q5, r5, s5⟩ := id H5
      go_wp2_with fail
      refine (callsIn_wide.1 (lay_in 6 (by omega) (w.heap.size + 1) x0 y0 wd ht _ (fun p => gridN c (j + 1) p) _ hx hy hz)).mono ?_
      rintro e w4 ⟨⟨v, rfl⟩, hg, hz'⟩
      replace B := below_grown B hg B.size (by omega)
      replace hq := hq.grown hg (by omega)
      clear hz H5 l5 p5 q5 r5 s5 hg
      go_wp2_with fail
      exact ⟨⟨j + 1 + 1, by omega, by first | go_num | simp, B, hq, hz'.congr (fun p hp => congrArg (Value.int IntKind.i8) (gridQ_next hp E0.out E1.out E2.out E3.out hx hy)), hok.step ⟨hl, (fun k hk => by cases hk; exact hbf), ho⟩⟩, by simp [intOf]; omega⟩
    · obtain rfl : i = n := by omega
      go_wp2_with fail
      go_ret
      exact ⟨B, .inl ⟨⟨h1.1, h1.2, h2.1, h2.2, hn, hok⟩, rfl⟩⟩

theorem implValid_any (X Y : Int) (g n : Nat) (c : Nat → Int) (w : World) (hX : -128 ≤ X ∧ X ≤ 127) (hY : -128 ≤ Y ∧ Y ≤ 127) (hc : ∀ j, -128 ≤ c j ∧ c j ≤ 127) (hm : n ≤ 1048576) (hrow : w.rowIs g 105 (4 * n) (fun j => .int .i8 (c j))) :
    Calls Tryd.prog 55 #[.agg #[.int .i8 X, .int .i8 Y, .slice (some ⟨g, 0, none⟩) n n]] w (ValPost X Y n c w) := by
  by_cases h1 : 1 ≤ X ∧ X ≤ 12
  · by_cases h2 : 1 ≤ Y ∧ Y ≤ 12
    · by_cases hn : n ≤ 60
      · exact val_loop X Y g n c w hX hY hc hrow h1 h2 hn
      · exact val_bad3 X Y g n c w hX hY h1 h2 (by omega) hm
    · exact val_bad2 X Y g n c w hX hY h1 h2
  · exact val_bad1 X Y g n c w hX hY h1
end Go.Proofs.YtmkcdelfgaogaaaDoor
