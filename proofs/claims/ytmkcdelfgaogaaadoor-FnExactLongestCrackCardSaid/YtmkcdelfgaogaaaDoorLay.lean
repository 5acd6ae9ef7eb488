/-
  The contract of spec.l01Lay: which squares are valid, and the numbers on their cells. Conditions stand at each.
-/
import Derived.Test.YtmkcdelfgaogaaaDoorRows
import Derived.Test.YtmkcdelfgaogaaaDoorMark
import Derived.Test.YtmkcdelfgaogaaaDoorPlain
import Derived.Test.YtmkcdelfgaogaaaDoorLies
import Derived.Test.YtmkcdelfgaogaaaDoorBefore
import Derived.Deep.RegionWith
import Derived.Deep.RegionHeld3
import Derived.Laws.Tables
import Derived.Laws.Rows
import Derived.Laws.ResultCell
import Derived.Deep.WholeRow
import Derived.IntWalk
namespace Go.Proofs.YtmkcdelfgaogaaaDoor
open Go Go.ChangeShapes Go.WideShapes Go.ChangeAt Go.RowKit
set_option linter.unusedVariables false
set_option linter.unusedSimpArgs false
set_option maxRecDepth 100000
set_option maxHeartbeats 2000000

theorem edge_yes (x : Int) (w : World) (h1 : 1 ≤ x) (h2 : x ≤ 12) : Calls Tryd.prog 68 #[.int .i64 x] w fun e w' => e = .returned (.bool true) ∧ w = w' := by
  go_enter Tryd.func68, Tryd.ntmps68
  go_wp2
  go_ret
  exact ⟨rfl, rfl⟩
theorem edge_low (x : Int) (w : World) (h1 : x < 1) : Calls Tryd.prog 68 #[.int .i64 x] w fun e w' => e = .returned (.bool false) ∧ w = w' := by
  go_enter Tryd.func68, Tryd.ntmps68
  go_wp2
  go_ret
  exact ⟨rfl, rfl⟩
theorem edge_high (x : Int) (w : World) (h1 : 12 < x) : Calls Tryd.prog 68 #[.int .i64 x] w fun e w' => e = .returned (.bool false) ∧ w = w' := by
  have d1 : decide (x ≤ 12) = false := by simp; omega
  have d0 : decide (1 ≤ x) = true := by simp; omega
  go_enter Tryd.func68, Tryd.ntmps68
  go_wp2
  go_ret
  exact ⟨rfl, rfl⟩
theorem edge_no (x : Int) (w : World) (h : ¬ (1 ≤ x ∧ x ≤ 12)) : Calls Tryd.prog 68 #[.int .i64 x] w fun e w' => e = .returned (.bool false) ∧ w = w' := by
  by_cases h1 : x < 1
  · exact edge_low x w h1
  · exact edge_high x w (by omega)

def isZero64 : Option Value → Bool
  | some (.int .i64 n) => n == 0
  | _ => false
theorem of_isZero64 {v : Option Value} (h : isZero64 v = true) : v = some (.int .i64 0) := by
  unfold isZero64 at h
  split at h
  · simp only [beq_iff_eq] at h; subst h; rfl
  · cases h
theorem zc_size : Tryd.zeroCells64.size = 144 := by kernel_rfl
theorem zc_one : Tryd.zeroCells64.all (·.oneCell') = true := by kernel_rfl
theorem zc_cell (p : Nat) (h : p < 144) : Tryd.zeroCells64[p]? = some (.int .i64 0) := by
  have hall : (List.range 144).all (fun p => isZero64 Tryd.zeroCells64[p]?) = true := by kernel_rfl
  exact of_isZero64 (List.all_eq_true.1 hall p (List.mem_range.2 h))
theorem info93 : (Tryd.prog.info? 64).map (·.size) = some 144 := by kernel_rfl

theorem below_setRow {B : Nat} {a w : World} (h : Below B a w) {g : Nat} (hg : B ≤ g) (cs : Array Value) : Below B a (w.setRow g cs) :=
  ⟨h.os, h.tape, h.output, by rw [setRow_size]; exact h.size, fun k hk => (setRow_other w g k cs (by omega)).trans (h.block k hk)⟩
theorem one_of_ints {k : IntKind} {cs : Array Value} {G : Nat → Int} (hs : cs.size = 144) (hc : ∀ p, p < 144 → cs[p]? = some (.int k (G p))) : cs.all (·.oneCell') = true := by
  rw [Array.all_eq_true_iff_forall_mem]
  intro v hv
  obtain ⟨i, hi, rfl⟩ := Array.mem_iff_getElem.1 hv
  have := hc i (by omega)
  rw [Array.getElem?_eq_getElem hi] at this
  injection this with this
  rw [this]; rfl

def LayPost (X Y : Int) (n : Nat) (c : Nat → Int) (w : World) (e : Ending) (w' : World) : Prop :=
  Below w.heap.size w w' ∧ ∃ cs : Array Value, cs.size = 144 ∧ cs.all (·.oneCell') = true ∧
    ((Valid X Y n c ∧ (∀ p, p < 144 → cs[p]? = some (.int .i64 (gridN c n p))) ∧ e = .returned (.tuple #[.agg cs, .bool true])) ∨ (¬ Valid X Y n c ∧ e = .returned (.tuple #[.agg cs, .bool false])))

theorem lay_results (tmps : Array Value) (W : World) (b : Nat) (ok : Bool) (cs : Array Value) (h2 : tmps.getD 2 undef = .pointer (some ⟨b, 0, none⟩)) (h3 : tmps.getD 3 undef = .bool ok)
    (hW : W.heap[b]? = some (.cells cs 64 (0, 0))) (hs : cs.size = 144) : (results Tryd.f51 tmps).run Tryd.prog W = .ok (.tuple #[.agg cs, .bool ok]) W := by
  rw [results_cell_tmp Tryd.results51, h2, h3]
  simp only [asAddr, Sem.run_pure, Result.andThen_ok, run_loadVar_row W b 64 64 cs (0, 0) _ hW Tryd.underlying64 rfl (by rw [info93, hs])]

set_option maxHeartbeats 20000000 in
theorem lay_loop (X Y : Int) (bq g n : Nat) (c : Nat → Int) (w : World) (hX : -128 ≤ X ∧ X ≤ 127) (hY : -128 ≤ Y ∧ Y ≤ 127) (hc : ∀ j, -128 ≤ c j ∧ c j ≤ 127) (hq : Sq w bq X Y (.slice (some ⟨g, 0, none⟩) n n)) (hrow : w.rowIs g 105 (4 * n) (fun j => .int .i8 (c j))) (h1 : 1 ≤ X) (h2 : X ≤ 12) (h3 : 1 ≤ Y) (h4 : Y ≤ 12) (hn : n ≤ 60) :
    Calls Tryd.prog 51 #[.pointer (some ⟨bq, 0, none⟩)] w (LayPost X Y n c w) := by
  obtain ⟨lq, pq, qq, rq⟩ := id hq
  have hst : Sem.run Tryd.prog (storeCells ⟨w.heap.size + 1, 0, none⟩ Tryd.zeroCells64.toList) ((w.alloc (Obj.cells Tryd.zeroCells64 64)).alloc (Obj.cells Tryd.zeroCells64 64)) = .ok () ((w.alloc (Obj.cells Tryd.zeroCells64 64)).alloc (Obj.cells Tryd.zeroCells64 64)) := by
    have := run_storeCells_new (P := Tryd.prog) (w.alloc (Obj.cells Tryd.zeroCells64 64)) 64 Tryd.zeroCells64 Tryd.zeroCells64 (by kernel_rfl) rfl zc_one
    rwa [World.size_alloc] at this
  have HC := Lib.hid hc
  clear hc
  go_enter Tryd.func51, Tryd.ntmps51
  go_wp2_with (go_at_call 68; refine (edge_yes _ _ (by omega) (by omega)).mono ?_; rintro e w' ⟨rfl, rfl⟩)
  clear hst pq qq rq lq
  obtain ⟨W0, hW0⟩ : ∃ W0 : World, W0 = ((w.alloc (Obj.cells Tryd.zeroCells64 64)).alloc (Obj.cells Tryd.zeroCells64 64)) := ⟨_, rfl⟩
  have B0 : Below w.heap.size w W0 := by rw [hW0]; exact al (al (Below.refl _ _) _) _
  have hz2 : W0.heap[w.heap.size]? = some (.cells Tryd.zeroCells64 64 (0, 0)) := by rw [hW0]; exact heap_alloc2_old w _ _
  have hz4 : W0.rowIs (w.heap.size + 1) 64 144 (fun p => .int .i64 (gridN c 0 p)) := ⟨Tryd.zeroCells64, by rw [hW0]; exact heap_alloc2_new w _ _, zc_size, fun p hp => zc_cell p hp⟩
  rw [← hW0]
  clear hW0
  go_loopw [5, 6, 7, 8] (fun t5 t6 t7 t8 wr => ∃ i : Nat, i ≤ n ∧ t5 = .int .i64 i ∧ Below w.heap.size w wr ∧ wr.heap[w.heap.size]? = some (.cells Tryd.zeroCells64 64 (0, 0)) ∧ wr.rowIs (w.heap.size + 1) 64 144 (fun p => .int .i64 (gridN c i p)) ∧ okTo X Y c i) (fun t5 t6 t7 t8 wr => n - (intOf t5).toNat)
  case atStart => exact ⟨0, by omega, rfl, B0, hz2, hz4, okTo.zero _ _ _⟩
  case round =>
    clear B0 hz2 hz4
    obtain ⟨i, hi, rfl, B, hz2, hz4, hok⟩ := hrel
    have hq0 := hq.of_block B.size (B.block _ hq.1)
    obtain ⟨lq, pq, qq, rq⟩ := id hq0
    by_cases hlt : i < n
    · have hslab := (Own8.of_row (f := c) (hrow.of_block (B.block _ hrow.lt)))
      obtain ⟨c0, c1, c2, c3⟩ := hslab.at4 hlt |>.1
      simp only [Nat.zero_add] at c0 c1 c2 c3
      have hb4 := HC.out (4 * i)
      have hb5 := HC.out (4 * i + 1)
      have hb6 := HC.out (4 * i + 2)
      have hb7 := HC.out (4 * i + 3)
      by_cases hl : ¬ lies X Y c i
      · go_wp2_with fail
        have B1 := al B (.cells #[.int .i8 (c (4 * i)), .int .i8 (c (4 * i + 1)), .int .i8 (c (4 * i + 2)), .int .i8 (c (4 * i + 3))] 105)
        have H6 := Sl.new wr (c (4 * i)) (c (4 * i + 1)) (c (4 * i + 2)) (c (4 * i + 3)) 105
        have HQ := hq0.alloc (.cells #[.int .i8 (c (4 * i)), .int .i8 (c (4 * i + 1)), .int .i8 (c (4 * i + 2)), .int .i8 (c (4 * i + 3))] 105)
        replace hz2 := (Below.heap_alloc wr (.cells #[.int .i8 (c (4 * i)), .int .i8 (c (4 * i + 1)), .int .i8 (c (4 * i + 2)), .int .i8 (c (4 * i + 3))] 105) _ (Array.getElem?_eq_some_iff.1 hz2).1).trans hz2
        replace hz4 := hz4.alloc (.cells #[.int .i8 (c (4 * i)), .int .i8 (c (4 * i + 1)), .int .i8 (c (4 * i + 2)), .int .i8 (c (4 * i + 3))] 105)
        obtain ⟨W1, hW1⟩ : ∃ W1 : World, W1 = wr.alloc (.cells #[.int .i8 (c (4 * i)), .int .i8 (c (4 * i + 1)), .int .i8 (c (4 * i + 2)), .int .i8 (c (4 * i + 3))] 105) := ⟨_, rfl⟩
        rw [← hW1] at B1 H6 HQ hz2 hz4 ⊢
        clear hW1
        replace HQ : Sq W1.drew bq X Y (.slice (some ⟨g, 0, none⟩) n n) := HQ
        replace H6 : Sl W1.drew wr.heap.size (c (4 * i)) (c (4 * i + 1)) (c (4 * i + 2)) (c (4 * i + 3)) := H6
        replace hz2 : W1.drew.heap[w.heap.size]? = _ := hz2
        replace hz4 : W1.drew.rowIs (w.heap.size + 1) 64 144 (fun p => .int .i64 (gridN c i p)) := hz4
        replace B := B1.drew
        clear B1
        obtain ⟨l6, p6, q6, r6, s6⟩ := id H6
        have hl' : ¬ (0 ≤ c (4 * i) ∧ 0 ≤ c (4 * i + 1) ∧ 1 ≤ c (4 * i + 2) ∧ 1 ≤ c (4 * i + 3) ∧ c (4 * i) + c (4 * i + 2) ≤ X ∧ c (4 * i + 1) + c (4 * i + 3) ≤ Y) := hl
        refine wp_region_held_drew (S := (fun w' => w'.cell? ⟨wr.heap.size, 0, none⟩ = some (.int .i8 (c (4 * i))) ∧ w'.cell? ⟨wr.heap.size, 1, none⟩ = some (.int .i8 (c (4 * i + 1))) ∧ w'.cell? ⟨wr.heap.size, 2, none⟩ = some (.int .i8 (c (4 * i + 2))) ∧ w'.cell? ⟨wr.heap.size, 3, none⟩ = some (.int .i8 (c (4 * i + 3))))) (by kernel_rfl) ⟨p6, q6, r6, s6⟩ (fun hHeld => ?_)
        refine wpAnyH_take (i := 0) (oi := _) (v := ?_) rfl (by kernel_rfl) (by kernel_rfl) (by kernel_rfl) (fun _ _ _ h => h) (Or.inl ⟨by kernel_rfl, ?_⟩) (by assumption) ?_
        rotate_left
        · intro w hSw; (try dsimp only at hSw); go_simp; first | done | with_reducible rfl
        try simp only [List.getElem_toArray, List.getElem_cons_zero, List.getElem_cons_succ, Act.put, List.setIfInBounds_toArray, List.set_cons_zero, List.set_cons_succ]
        refine wpAnyH_take (i := 1) (oi := _) (v := ?_) rfl (by kernel_rfl) (by kernel_rfl) (by kernel_rfl) (fun _ _ _ h => h) (Or.inl ⟨by kernel_rfl, ?_⟩) (by assumption) ?_
        rotate_left
        · intro w hSw; (try dsimp only at hSw); go_simp; first | done | with_reducible rfl
        try simp only [List.getElem_toArray, List.getElem_cons_zero, List.getElem_cons_succ, Act.put, List.setIfInBounds_toArray, List.set_cons_zero, List.set_cons_succ]
        refine wpAnyH_ready (rs := [2]) (by kernel_rfl) (by simp) ?_
        refine AllReadyH.cons (o := _) rfl (fun K hK => ?_) AllReadyH.nil
        go_simp
        refine (lies_no X Y _ _ _ _ bq _ _ hX hY hb4 hb5 hb6 hb7 HQ hl').mono ?_
        rintro e w3 ⟨rfl, hb⟩
        replace B := nxt B hb
        replace HQ := HQ.below hb
        replace hz2 := (hb.block _ (Array.getElem?_eq_some_iff.1 hz2).1).trans hz2
        replace hz4 := rowNext0 hz4 hb
        replace H6 := H6.below hb
        clear hb l6 p6 q6 r6 s6
        obtain ⟨l6, p6, q6, r6, s6⟩ := id H6
        refine hK.out _ _ ⟨p6, q6, r6, s6⟩ (fun hHeld => ?_)
        clear hK K
        try simp only [List.getElem_toArray, List.getElem_cons_zero, List.getElem_cons_succ, Act.put, List.setIfInBounds_toArray, List.set_cons_zero, List.set_cons_succ]
        refine wpAnyH_take (i := 3) (oi := _) (v := ?_) rfl (by kernel_rfl) (by kernel_rfl) (by kernel_rfl) (fun _ _ _ h => h) (Or.inl ⟨by kernel_rfl, ?_⟩) (by assumption) ?_
        rotate_left
        · intro w hSw; (try dsimp only at hSw); go_simp; first | done | with_reducible rfl
        try simp only [List.getElem_toArray, List.getElem_cons_zero, List.getElem_cons_succ, Act.put, List.setIfInBounds_toArray, List.set_cons_zero, List.set_cons_succ]
        refine wpAnyH_take (i := 4) (oi := _) (v := ?_) rfl (by kernel_rfl) (by kernel_rfl) (by kernel_rfl) (fun _ _ _ h => h) (Or.inl ⟨by kernel_rfl, ?_⟩) (by assumption) ?_
        rotate_left
        · intro w hSw; (try dsimp only at hSw); go_simp; first | done | with_reducible rfl
        try simp only [List.getElem_toArray, List.getElem_cons_zero, List.getElem_cons_succ, Act.put, List.setIfInBounds_toArray, List.set_cons_zero, List.set_cons_succ]
        refine wpAnyH_take (i := 5) (oi := _) (v := undef) rfl (by kernel_rfl) (by kernel_rfl) (by kernel_rfl) (fun _ _ _ h => h) (Or.inr ⟨by kernel_rfl, rfl⟩) (by assumption) ?_
        try simp only [List.getElem_toArray, List.getElem_cons_zero, List.getElem_cons_succ, Act.put, List.setIfInBounds_toArray, List.set_cons_zero, List.set_cons_succ]
        refine wpAnyH_take (i := 6) (oi := _) (v := undef) rfl (by kernel_rfl) (by kernel_rfl) (by kernel_rfl) (fun _ _ _ h => h) (Or.inr ⟨by kernel_rfl, rfl⟩) (by assumption) ?_
        try simp only [List.getElem_toArray, List.getElem_cons_zero, List.getElem_cons_succ, Act.put, List.setIfInBounds_toArray, List.set_cons_zero, List.set_cons_succ]
        refine wpAnyH_take (i := 7) (oi := _) (v := undef) rfl (by kernel_rfl) (by kernel_rfl) (by kernel_rfl) (fun _ _ _ h => h) (Or.inr ⟨by kernel_rfl, rfl⟩) (by assumption) ?_
        try simp only [List.getElem_toArray, List.getElem_cons_zero, List.getElem_cons_succ, Act.put, List.setIfInBounds_toArray, List.set_cons_zero, List.set_cons_succ]
        refine wpAnyH_take (i := 8) (oi := _) (v := undef) rfl (by kernel_rfl) (by kernel_rfl) (by kernel_rfl) (fun _ _ _ h => h) (Or.inr ⟨by kernel_rfl, rfl⟩) (by assumption) ?_
        try simp only [List.getElem_toArray, List.getElem_cons_zero, List.getElem_cons_succ, Act.put, List.setIfInBounds_toArray, List.set_cons_zero, List.set_cons_succ]
        refine wpAnyH_take (i := 9) (oi := _) (v := undef) rfl (by kernel_rfl) (by kernel_rfl) (by kernel_rfl) (fun _ _ _ h => h) (Or.inr ⟨by kernel_rfl, rfl⟩) (by assumption) ?_
        try simp only [List.getElem_toArray, List.getElem_cons_zero, List.getElem_cons_succ, Act.put, List.setIfInBounds_toArray, List.set_cons_zero, List.set_cons_succ]
        refine wpAnyH_take (i := 10) (oi := _) (v := undef) rfl (by kernel_rfl) (by kernel_rfl) (by kernel_rfl) (fun _ _ _ h => h) (Or.inr ⟨by kernel_rfl, rfl⟩) (by assumption) ?_
        try simp only [List.getElem_toArray, List.getElem_cons_zero, List.getElem_cons_succ, Act.put, List.setIfInBounds_toArray, List.set_cons_zero, List.set_cons_succ]
        refine wpAnyH_take (i := 11) (oi := _) (v := undef) rfl (by kernel_rfl) (by kernel_rfl) (by kernel_rfl) (fun _ _ _ h => h) (Or.inr ⟨by kernel_rfl, rfl⟩) (by assumption) ?_
        try simp only [List.getElem_toArray, List.getElem_cons_zero, List.getElem_cons_succ, Act.put, List.setIfInBounds_toArray, List.set_cons_zero, List.set_cons_succ]
        refine wpAnyH_take (i := 12) (oi := _) (v := undef) rfl (by kernel_rfl) (by kernel_rfl) (by kernel_rfl) (fun _ _ _ h => h) (Or.inr ⟨by kernel_rfl, rfl⟩) (by assumption) ?_
        try simp only [List.getElem_toArray, List.getElem_cons_zero, List.getElem_cons_succ, Act.put, List.setIfInBounds_toArray, List.set_cons_zero, List.set_cons_succ]
        refine wpAnyH_take (i := 13) (oi := _) (v := undef) rfl (by kernel_rfl) (by kernel_rfl) (by kernel_rfl) (fun _ _ _ h => h) (Or.inr ⟨by kernel_rfl, rfl⟩) (by assumption) ?_
        try simp only [List.getElem_toArray, List.getElem_cons_zero, List.getElem_cons_succ, Act.put, List.setIfInBounds_toArray, List.set_cons_zero, List.set_cons_succ]
        refine wpAnyH_take (i := 14) (oi := _) (v := undef) rfl (by kernel_rfl) (by kernel_rfl) (by kernel_rfl) (fun _ _ _ h => h) (Or.inr ⟨by kernel_rfl, rfl⟩) (by assumption) ?_
        try simp only [List.getElem_toArray, List.getElem_cons_zero, List.getElem_cons_succ, Act.put, List.setIfInBounds_toArray, List.set_cons_zero, List.set_cons_succ]
        refine wpAnyH_take (i := 15) (oi := _) (v := undef) rfl (by kernel_rfl) (by kernel_rfl) (by kernel_rfl) (fun _ _ _ h => h) (Or.inr ⟨by kernel_rfl, rfl⟩) (by assumption) ?_
        try simp only [List.getElem_toArray, List.getElem_cons_zero, List.getElem_cons_succ, Act.put, List.setIfInBounds_toArray, List.set_cons_zero, List.set_cons_succ]
        refine wpAnyH_take (i := 16) (oi := _) (v := undef) rfl (by kernel_rfl) (by kernel_rfl) (by kernel_rfl) (fun _ _ _ h => h) (Or.inr ⟨by kernel_rfl, rfl⟩) (by assumption) ?_
        try simp only [List.getElem_toArray, List.getElem_cons_zero, List.getElem_cons_succ, Act.put, List.setIfInBounds_toArray, List.set_cons_zero, List.set_cons_succ]
        refine wpAnyH_take (i := 17) (oi := _) (v := undef) rfl (by kernel_rfl) (by kernel_rfl) (by kernel_rfl) (fun _ _ _ h => h) (Or.inr ⟨by kernel_rfl, rfl⟩) (by assumption) ?_
        try simp only [List.getElem_toArray, List.getElem_cons_zero, List.getElem_cons_succ, Act.put, List.setIfInBounds_toArray, List.set_cons_zero, List.set_cons_succ]
        refine wpAnyH_take (i := 18) (oi := _) (v := undef) rfl (by kernel_rfl) (by kernel_rfl) (by kernel_rfl) (fun _ _ _ h => h) (Or.inr ⟨by kernel_rfl, rfl⟩) (by assumption) ?_
        try simp only [List.getElem_toArray, List.getElem_cons_zero, List.getElem_cons_succ, Act.put, List.setIfInBounds_toArray, List.set_cons_zero, List.set_cons_succ]
        refine wpAnyH_take (i := 19) (oi := _) (v := undef) rfl (by kernel_rfl) (by kernel_rfl) (by kernel_rfl) (fun _ _ _ h => h) (Or.inr ⟨by kernel_rfl, rfl⟩) (by assumption) ?_
        try simp only [List.getElem_toArray, List.getElem_cons_zero, List.getElem_cons_succ, Act.put, List.setIfInBounds_toArray, List.set_cons_zero, List.set_cons_succ]
        refine wpAnyH_take (i := 20) (oi := _) (v := ?_) rfl (by kernel_rfl) (by kernel_rfl) (by kernel_rfl) (fun _ _ _ h => h) (Or.inl ⟨by kernel_rfl, ?_⟩) (by assumption) ?_
        rotate_left
        · intro w hSw; (try dsimp only at hSw); go_simp; first | done | with_reducible rfl
        try simp only [List.getElem_toArray, List.getElem_cons_zero, List.getElem_cons_succ, Act.put, List.setIfInBounds_toArray, List.set_cons_zero, List.set_cons_succ]
        refine wpAnyH_done (by kernel_rfl) ?_ _
        obtain ⟨cs, hcs, hsz, hcell⟩ := hz4
        go_wp2_with (first
          | (refine wpList_load_row rfl 64 (.tmp 4) rfl (w.heap.size + 1) rfl 64 cs (0, 0) _ hcs Tryd.underlying64 rfl (by rw [info93, hsz]) ?_)
          | (refine wpList_store_row rfl 64 (.tmp 2) (.tmp 72) rfl w.heap.size cs rfl rfl 64 Tryd.zeroCells64 hz2 (by rw [info93, hsz]) (by rw [zc_size, hsz]) (one_of_ints hsz hcell) ?_))
        exact bodyPost_ret (lay_results _ _ w.heap.size false cs rfl rfl (setRow_heap _ _ _ _ _ _ hz2) hsz) rfl ⟨below_setRow B (Nat.le_refl _) _, cs, hsz, one_of_ints hsz hcell, .inr ⟨fun hv => hl (hv.2.2.2.2.2 i hlt).1, rfl⟩⟩
      replace hl := Classical.not_not.1 hl
      have hl' : 0 ≤ c (4 * i) ∧ 0 ≤ c (4 * i + 1) ∧ 1 ≤ c (4 * i + 2) ∧ 1 ≤ c (4 * i + 3) ∧ c (4 * i) + c (4 * i + 2) ≤ X ∧ c (4 * i + 1) + c (4 * i + 3) ≤ Y := hl
      by_cases hi0 : ¬ 0 < i
      · have d0 : decide (0 < (i : Int)) = false := by simp; omega
        go_wp2_with fail
        have hwo := hz4.lt
        have B1 := al B (.cells #[.int .i8 (c (4 * i)), .int .i8 (c (4 * i + 1)), .int .i8 (c (4 * i + 2)), .int .i8 (c (4 * i + 3))] 105)
        have H6 := Sl.new wr (c (4 * i)) (c (4 * i + 1)) (c (4 * i + 2)) (c (4 * i + 3)) 105
        have HQ := hq0.alloc (.cells #[.int .i8 (c (4 * i)), .int .i8 (c (4 * i + 1)), .int .i8 (c (4 * i + 2)), .int .i8 (c (4 * i + 3))] 105)
        replace hz2 := (Below.heap_alloc wr (.cells #[.int .i8 (c (4 * i)), .int .i8 (c (4 * i + 1)), .int .i8 (c (4 * i + 2)), .int .i8 (c (4 * i + 3))] 105) _ (Array.getElem?_eq_some_iff.1 hz2).1).trans hz2
        replace hz4 := hz4.alloc (.cells #[.int .i8 (c (4 * i)), .int .i8 (c (4 * i + 1)), .int .i8 (c (4 * i + 2)), .int .i8 (c (4 * i + 3))] 105)
        obtain ⟨W1, hW1⟩ : ∃ W1 : World, W1 = wr.alloc (.cells #[.int .i8 (c (4 * i)), .int .i8 (c (4 * i + 1)), .int .i8 (c (4 * i + 2)), .int .i8 (c (4 * i + 3))] 105) := ⟨_, rfl⟩
        rw [← hW1] at B1 H6 HQ hz2 hz4 ⊢
        clear hW1
        replace HQ : Sq W1.drew bq X Y (.slice (some ⟨g, 0, none⟩) n n) := HQ
        replace H6 : Sl W1.drew wr.heap.size (c (4 * i)) (c (4 * i + 1)) (c (4 * i + 2)) (c (4 * i + 3)) := H6
        replace hz2 : W1.drew.heap[w.heap.size]? = _ := hz2
        replace hz4 : W1.drew.rowIs (w.heap.size + 1) 64 144 (fun p => .int .i64 (gridN c i p)) := hz4
        replace B := B1.drew
        clear B1
        obtain ⟨l6, p6, q6, r6, s6⟩ := id H6
        refine wp_region_held_drew (S := (fun w' => w'.cell? ⟨wr.heap.size, 0, none⟩ = some (.int .i8 (c (4 * i))) ∧ w'.cell? ⟨wr.heap.size, 1, none⟩ = some (.int .i8 (c (4 * i + 1))) ∧ w'.cell? ⟨wr.heap.size, 2, none⟩ = some (.int .i8 (c (4 * i + 2))) ∧ w'.cell? ⟨wr.heap.size, 3, none⟩ = some (.int .i8 (c (4 * i + 3))))) (by kernel_rfl) ⟨p6, q6, r6, s6⟩ (fun hHeld => ?_)
        refine wpAnyH_take (i := 0) (oi := _) (v := ?_) rfl (by kernel_rfl) (by kernel_rfl) (by kernel_rfl) (fun _ _ _ h => h) (Or.inl ⟨by kernel_rfl, ?_⟩) (by assumption) ?_
        rotate_left
        · intro w hSw; (try dsimp only at hSw); go_simp; first | done | with_reducible rfl
        try simp only [List.getElem_toArray, List.getElem_cons_zero, List.getElem_cons_succ, Act.put, List.setIfInBounds_toArray, List.set_cons_zero, List.set_cons_succ]
        refine wpAnyH_take (i := 1) (oi := _) (v := ?_) rfl (by kernel_rfl) (by kernel_rfl) (by kernel_rfl) (fun _ _ _ h => h) (Or.inl ⟨by kernel_rfl, ?_⟩) (by assumption) ?_
        rotate_left
        · intro w hSw; (try dsimp only at hSw); go_simp; first | done | with_reducible rfl
        try simp only [List.getElem_toArray, List.getElem_cons_zero, List.getElem_cons_succ, Act.put, List.setIfInBounds_toArray, List.set_cons_zero, List.set_cons_succ]
        refine wpAnyH_ready (rs := [2]) (by kernel_rfl) (by simp) ?_
        refine AllReadyH.cons (o := _) rfl (fun K hK => ?_) AllReadyH.nil
        go_simp
        refine (lies_yes X Y _ _ _ _ bq _ _ hX hY hb4 hb5 hb6 hb7 HQ hl').mono ?_
        rintro e w3 ⟨rfl, hb⟩
        replace B := nxt B hb
        replace HQ := HQ.below hb
        replace hz2 := (hb.block _ (Array.getElem?_eq_some_iff.1 hz2).1).trans hz2
        replace hz4 := rowNext0 hz4 hb
        replace H6 := H6.below hb
        clear hb l6 p6 q6 r6 s6
        obtain ⟨l6, p6, q6, r6, s6⟩ := id H6
        refine hK.out _ _ ⟨p6, q6, r6, s6⟩ (fun hHeld => ?_)
        clear hK K
        try simp only [List.getElem_toArray, List.getElem_cons_zero, List.getElem_cons_succ, Act.put, List.setIfInBounds_toArray, List.set_cons_zero, List.set_cons_succ]
        refine wpAnyH_take (i := 3) (oi := _) (v := ?_) rfl (by kernel_rfl) (by kernel_rfl) (by kernel_rfl) (fun _ _ _ h => h) (Or.inl ⟨by kernel_rfl, ?_⟩) (by assumption) ?_
        rotate_left
        · intro w hSw; (try dsimp only at hSw); go_simp; first | done | with_reducible rfl
        try simp only [List.getElem_toArray, List.getElem_cons_zero, List.getElem_cons_succ, Act.put, List.setIfInBounds_toArray, List.set_cons_zero, List.set_cons_succ]
        refine wpAnyH_take (i := 4) (oi := _) (v := ?_) rfl (by kernel_rfl) (by kernel_rfl) (by kernel_rfl) (fun _ _ _ h => h) (Or.inl ⟨by kernel_rfl, ?_⟩) (by assumption) ?_
        rotate_left
        · intro w hSw; (try dsimp only at hSw); go_simp; first | done | with_reducible rfl
        try simp only [List.getElem_toArray, List.getElem_cons_zero, List.getElem_cons_succ, Act.put, List.setIfInBounds_toArray, List.set_cons_zero, List.set_cons_succ]
        refine wpAnyH_take (i := 5) (oi := _) (v := ?_) rfl (by kernel_rfl) (by kernel_rfl) (by kernel_rfl) (fun _ _ _ h => h) (Or.inl ⟨by kernel_rfl, ?_⟩) (by assumption) ?_
        rotate_left
        · intro w hSw; (try dsimp only at hSw); go_simp; first | done | with_reducible rfl
        try simp only [List.getElem_toArray, List.getElem_cons_zero, List.getElem_cons_succ, Act.put, List.setIfInBounds_toArray, List.set_cons_zero, List.set_cons_succ]
        refine wpAnyH_take (i := 6) (oi := _) (v := ?_) rfl (by kernel_rfl) (by kernel_rfl) (by kernel_rfl) (fun _ _ _ h => h) (Or.inl ⟨by kernel_rfl, ?_⟩) (by assumption) ?_
        rotate_left
        · intro w hSw; (try dsimp only at hSw); go_simp; first | done | with_reducible rfl
        try simp only [List.getElem_toArray, List.getElem_cons_zero, List.getElem_cons_succ, Act.put, List.setIfInBounds_toArray, List.set_cons_zero, List.set_cons_succ]
        refine wpAnyH_take (i := 7) (oi := _) (v := ?_) rfl (by kernel_rfl) (by kernel_rfl) (by kernel_rfl) (fun _ _ _ h => h) (Or.inl ⟨by kernel_rfl, ?_⟩) (by assumption) ?_
        rotate_left
        · intro w hSw; (try dsimp only at hSw); go_simp; first | done | with_reducible rfl
        try simp only [List.getElem_toArray, List.getElem_cons_zero, List.getElem_cons_succ, Act.put, List.setIfInBounds_toArray, List.set_cons_zero, List.set_cons_succ]
        refine wpAnyH_take (i := 8) (oi := _) (v := undef) rfl (by kernel_rfl) (by kernel_rfl) (by kernel_rfl) (fun _ _ _ h => h) (Or.inr ⟨by kernel_rfl, rfl⟩) (by assumption) ?_
        try simp only [List.getElem_toArray, List.getElem_cons_zero, List.getElem_cons_succ, Act.put, List.setIfInBounds_toArray, List.set_cons_zero, List.set_cons_succ]
        refine wpAnyH_take (i := 9) (oi := _) (v := undef) rfl (by kernel_rfl) (by kernel_rfl) (by kernel_rfl) (fun _ _ _ h => h) (Or.inr ⟨by kernel_rfl, rfl⟩) (by assumption) ?_
        try simp only [List.getElem_toArray, List.getElem_cons_zero, List.getElem_cons_succ, Act.put, List.setIfInBounds_toArray, List.set_cons_zero, List.set_cons_succ]
        refine wpAnyH_take (i := 10) (oi := _) (v := undef) rfl (by kernel_rfl) (by kernel_rfl) (by kernel_rfl) (fun _ _ _ h => h) (Or.inr ⟨by kernel_rfl, rfl⟩) (by assumption) ?_
        try simp only [List.getElem_toArray, List.getElem_cons_zero, List.getElem_cons_succ, Act.put, List.setIfInBounds_toArray, List.set_cons_zero, List.set_cons_succ]
        refine wpAnyH_take (i := 11) (oi := _) (v := undef) rfl (by kernel_rfl) (by kernel_rfl) (by kernel_rfl) (fun _ _ _ h => h) (Or.inr ⟨by kernel_rfl, rfl⟩) (by assumption) ?_
        try simp only [List.getElem_toArray, List.getElem_cons_zero, List.getElem_cons_succ, Act.put, List.setIfInBounds_toArray, List.set_cons_zero, List.set_cons_succ]
        refine wpAnyH_take (i := 12) (oi := _) (v := undef) rfl (by kernel_rfl) (by kernel_rfl) (by kernel_rfl) (fun _ _ _ h => h) (Or.inr ⟨by kernel_rfl, rfl⟩) (by assumption) ?_
        try simp only [List.getElem_toArray, List.getElem_cons_zero, List.getElem_cons_succ, Act.put, List.setIfInBounds_toArray, List.set_cons_zero, List.set_cons_succ]
        refine wpAnyH_take (i := 13) (oi := _) (v := undef) rfl (by kernel_rfl) (by kernel_rfl) (by kernel_rfl) (fun _ _ _ h => h) (Or.inr ⟨by kernel_rfl, rfl⟩) (by assumption) ?_
        try simp only [List.getElem_toArray, List.getElem_cons_zero, List.getElem_cons_succ, Act.put, List.setIfInBounds_toArray, List.set_cons_zero, List.set_cons_succ]
        refine wpAnyH_take (i := 14) (oi := _) (v := undef) rfl (by kernel_rfl) (by kernel_rfl) (by kernel_rfl) (fun _ _ _ h => h) (Or.inr ⟨by kernel_rfl, rfl⟩) (by assumption) ?_
        try simp only [List.getElem_toArray, List.getElem_cons_zero, List.getElem_cons_succ, Act.put, List.setIfInBounds_toArray, List.set_cons_zero, List.set_cons_succ]
        refine wpAnyH_take (i := 15) (oi := _) (v := undef) rfl (by kernel_rfl) (by kernel_rfl) (by kernel_rfl) (fun _ _ _ h => h) (Or.inr ⟨by kernel_rfl, rfl⟩) (by assumption) ?_
        try simp only [List.getElem_toArray, List.getElem_cons_zero, List.getElem_cons_succ, Act.put, List.setIfInBounds_toArray, List.set_cons_zero, List.set_cons_succ]
        refine wpAnyH_take (i := 16) (oi := _) (v := undef) rfl (by kernel_rfl) (by kernel_rfl) (by kernel_rfl) (fun _ _ _ h => h) (Or.inr ⟨by kernel_rfl, rfl⟩) (by assumption) ?_
        try simp only [List.getElem_toArray, List.getElem_cons_zero, List.getElem_cons_succ, Act.put, List.setIfInBounds_toArray, List.set_cons_zero, List.set_cons_succ]
        refine wpAnyH_take (i := 17) (oi := _) (v := undef) rfl (by kernel_rfl) (by kernel_rfl) (by kernel_rfl) (fun _ _ _ h => h) (Or.inr ⟨by kernel_rfl, rfl⟩) (by assumption) ?_
        try simp only [List.getElem_toArray, List.getElem_cons_zero, List.getElem_cons_succ, Act.put, List.setIfInBounds_toArray, List.set_cons_zero, List.set_cons_succ]
        refine wpAnyH_take (i := 18) (oi := _) (v := undef) rfl (by kernel_rfl) (by kernel_rfl) (by kernel_rfl) (fun _ _ _ h => h) (Or.inr ⟨by kernel_rfl, rfl⟩) (by assumption) ?_
        try simp only [List.getElem_toArray, List.getElem_cons_zero, List.getElem_cons_succ, Act.put, List.setIfInBounds_toArray, List.set_cons_zero, List.set_cons_succ]
        refine wpAnyH_take (i := 19) (oi := _) (v := ?_) rfl (by kernel_rfl) (by kernel_rfl) (by kernel_rfl) (fun _ _ _ h => h) (Or.inl ⟨by kernel_rfl, ?_⟩) (by assumption) ?_
        rotate_left
        · intro w hSw; (try dsimp only at hSw); go_simp; first | done | with_reducible rfl
        try simp only [List.getElem_toArray, List.getElem_cons_zero, List.getElem_cons_succ, Act.put, List.setIfInBounds_toArray, List.set_cons_zero, List.set_cons_succ]
        refine wpAnyH_take (i := 20) (oi := _) (v := ?_) rfl (by kernel_rfl) (by kernel_rfl) (by kernel_rfl) (fun _ _ _ h => h) (Or.inl ⟨by kernel_rfl, ?_⟩) (by assumption) ?_
        rotate_left
        · intro w hSw; (try dsimp only at hSw); go_simp; first | done | with_reducible rfl
        try simp only [List.getElem_toArray, List.getElem_cons_zero, List.getElem_cons_succ, Act.put, List.setIfInBounds_toArray, List.set_cons_zero, List.set_cons_succ]
        refine wpAnyH_done (by kernel_rfl) ?_ _
        clear p6 q6 r6 s6 l6 HQ
        obtain ⟨y0, hy0⟩ := Int.eq_ofNat_of_zero_le hl'.2.1
        obtain ⟨x0, hx0⟩ := Int.eq_ofNat_of_zero_le hl'.1
        have HY0 := Lib.hid hy0
        have HX0 := Lib.hid hx0
        have hyl : (y0 : Int) ≤ 11 := by omega
        have hxl : (x0 : Int) ≤ 11 := by omega
        clear hy0 hx0
        obtain ⟨wo, rfl⟩ : ∃ wo : World, wo = wr := ⟨_, rfl⟩
        obtain ⟨l6, p6, q6, r6, s6⟩ := id H6
        go_wp2_with fail
        clear p6 q6 r6 s6 l6
        go_loopw [7, 8] (fun t7 t8 W => ∃ y : Nat, t7 = .int .i8 y ∧ c (4 * (i) + 1) ≤ (y : Int) ∧ (y : Int) ≤ c (4 * (i) + 1) + c (4 * (i) + 3) ∧ Below w.heap.size w W ∧ W.heap[w.heap.size]? = some (.cells Tryd.zeroCells64 64 (0, 0)) ∧ W.rowIs (w.heap.size + 1) 64 144 (fun p => .int .i64 (gridP c (i) y 0 p)) ∧ Sl W wo.heap.size (c (4 * (i))) (c (4 * (i) + 1)) (c (4 * (i) + 2)) (c (4 * (i) + 3)) ∧ opnP c (i) y 0)
          (fun t7 t8 W => (c (4 * (i) + 1) + c (4 * (i) + 3) - intOf t7).toNat)
        case atStart => exact ⟨y0, by rw [HY0.out], Int.le_of_eq HY0.out, by have := HY0.out; omega, B, hz2, hz4.congr (fun p _ => by rw [gridP_start HY0.out.symm]), H6, opnP_start HY0.out.symm⟩
        case round =>
          clear B hz2 hz4 H6 HY0 hyl
          obtain ⟨y, rfl, hy1, hy2, B, hz2, hz4, H6, ho⟩ := hrel
          obtain ⟨wo2, rfl⟩ : ∃ wo2 : World, wo2 = wr := ⟨_, rfl⟩
          obtain ⟨l6, p6, q6, r6, s6⟩ := id H6
          by_cases hyt : (y : Int) < c (4 * (i) + 1) + c (4 * (i) + 3)
          · have hy11 : (y : Int) ≤ 11 := by omega
            go_wp2_with fail
            clear p6 q6 r6 s6 l6
            go_loopw [8] (fun t8 W => ∃ x : Nat, t8 = .int .i8 x ∧ c (4 * (i)) ≤ (x : Int) ∧ (x : Int) ≤ c (4 * (i)) + c (4 * (i) + 2) ∧ Below w.heap.size w W ∧ W.heap[w.heap.size]? = some (.cells Tryd.zeroCells64 64 (0, 0)) ∧ W.rowIs (w.heap.size + 1) 64 144 (fun p => .int .i64 (gridP c (i) y x p)) ∧ Sl W wo.heap.size (c (4 * (i))) (c (4 * (i) + 1)) (c (4 * (i) + 2)) (c (4 * (i) + 3)) ∧ opnP c (i) y x)
              (fun t8 W => (c (4 * (i)) + c (4 * (i) + 2) - intOf t8).toNat)
            case atStart => exact ⟨x0, by rw [HX0.out], Int.le_of_eq HX0.out, by have := HX0.out; omega, B, hz2, hz4.congr (fun p _ => by rw [gridP_row HX0.out.symm]), H6, opnP_row HX0.out.symm ho⟩
            case round =>
              clear B hz2 hz4 H6 HX0 hxl ho
              obtain ⟨x, rfl, hx1, hx2, B, hz2, hz4, H6, ho⟩ := hrel
              obtain ⟨wo3, rfl⟩ : ∃ wo3 : World, wo3 = wr := ⟨_, rfl⟩
              obtain ⟨l6, p6, q6, r6, s6⟩ := id H6
              by_cases hxt : (x : Int) < c (4 * (i)) + c (4 * (i) + 2)
              · have hx11 : (x : Int) ≤ 11 := by omega
                have hx12 : x < 12 := by omega
                have hcl := hz4.cell (i := y * 12 + x) (by omega)
                have hfz := hz4.frozen (y * 12 + x)
                simp only [gridP_self hx12] at hcl
                by_cases h0 : gridN c (i) (y * 12 + x) = 0
                · have b1 : (gridN c (i) (y * 12 + x) != 0) = false := by simpa using h0
                  have H0 := Lib.hid h0
                  clear h0
                  go_wp2_with fail
                  exact ⟨⟨x + 1, by first | go_num | simp, by omega, by omega, B.setCell (Nat.le_succ _) _, (Below.heap_setCell _ _ _ _ (Nat.ne_of_lt (Nat.lt_succ_self _))).trans hz2,
                    (hz4.set (y * 12 + x) _).congr (fun p _ => by rw [gridP_cell hx12 hx1 hxt hy1 hyt]; split <;> first | rfl | (congr 1; omega)), H6.of_block (by simp) (Below.heap_setCell _ _ _ _ (by simp; omega)), opnP_cell hx12 hx1 hxt hy1 hyt ho H0.out⟩, by simp [intOf]; omega⟩
                · have b1 : (gridN c (i) (y * 12 + x) != 0) = true := by simpa using h0
                  have HN : ¬ opn c (i) := fun h => h0 (h (y * 12 + x) (by omega) (cov_self hx12 hx1 hxt hy1 hyt))
                  clear h0
                  obtain ⟨cs, hcs, hsz, hcell⟩ := hz4
                  go_wp2_with (first
                    | (refine wpList_load_row rfl 64 (.tmp 4) rfl (w.heap.size + 1) rfl 64 cs (0, 0) _ hcs Tryd.underlying64 rfl (by rw [info93, hsz]) ?_)
                    | (refine wpList_store_row rfl 64 (.tmp 2) (.tmp 101) rfl w.heap.size cs rfl rfl 64 Tryd.zeroCells64 hz2 (by rw [info93, hsz]) (by rw [zc_size, hsz]) (one_of_ints hsz hcell) ?_))
                  refine bodyPost_ret (lay_results _ _ w.heap.size false cs rfl rfl (setRow_heap _ _ _ _ _ _ hz2) hsz) rfl ⟨below_setRow B (Nat.le_refl _) _, cs, hsz, one_of_ints hsz hcell, ?_⟩
                  · exact .inr ⟨fun hv => HN (hv.2.2.2.2.2 (i) hlt).2.2, rfl⟩
              · obtain hxe : (x : Int) = c (4 * (i)) + c (4 * (i) + 2) := by omega
                have HXE := Lib.hid hxe
                clear hxe
                go_wp2_with fail
                exact ⟨⟨y + 1, by first | go_num | simp, by omega, by omega, B, hz2, hz4.congr (fun p _ => by rw [gridP_next HXE.out]), H6, opnP_next HXE.out ho⟩, by simp [intOf]; omega⟩
          · obtain hye : (y : Int) = c (4 * (i) + 1) + c (4 * (i) + 3) := by omega
            have HYE := Lib.hid hye
            clear hye
            go_wp2_with fail
            exact ⟨⟨i + 1, by omega, by first | go_num | simp, B, hz2, hz4.congr (fun p _ => by rw [gridP_end HYE.out]), hok.step ⟨hl, (fun j hj => absurd hi0 (by omega)), opn_end HYE.out ho⟩⟩, by simp [intOf]; omega⟩
      replace hi0 := Classical.not_not.1 hi0
      obtain ⟨j, rfl⟩ : ∃ j, i = j + 1 := ⟨i - 1, by omega⟩
      have d0 : decide (0 < ((j + 1 : Nat) : Int)) = true := by first | (simp; done) | (simp; omega)
      have d1 : decide (0 < (j : Int) + 1) = true := by first | (simp; done) | (simp; omega)
      by_cases hbf : ¬ befo c j
      · have hbf' : ¬ (c (4 * j + 1) < c (4 * (j + 1) + 1) ∨ (c (4 * j + 1) = c (4 * (j + 1) + 1) ∧ c (4 * j) < c (4 * (j + 1)))) := hbf
        go_wp2_with fail
        have hwo := hz4.lt
        have B1 := al B (.cells #[.int .i8 (c (4 * (j + 1))), .int .i8 (c (4 * (j + 1) + 1)), .int .i8 (c (4 * (j + 1) + 2)), .int .i8 (c (4 * (j + 1) + 3))] 105)
        have H6 := Sl.new wr (c (4 * (j + 1))) (c (4 * (j + 1) + 1)) (c (4 * (j + 1) + 2)) (c (4 * (j + 1) + 3)) 105
        have HQ := hq0.alloc (.cells #[.int .i8 (c (4 * (j + 1))), .int .i8 (c (4 * (j + 1) + 1)), .int .i8 (c (4 * (j + 1) + 2)), .int .i8 (c (4 * (j + 1) + 3))] 105)
        replace hz2 := (Below.heap_alloc wr (.cells #[.int .i8 (c (4 * (j + 1))), .int .i8 (c (4 * (j + 1) + 1)), .int .i8 (c (4 * (j + 1) + 2)), .int .i8 (c (4 * (j + 1) + 3))] 105) _ (Array.getElem?_eq_some_iff.1 hz2).1).trans hz2
        replace hz4 := hz4.alloc (.cells #[.int .i8 (c (4 * (j + 1))), .int .i8 (c (4 * (j + 1) + 1)), .int .i8 (c (4 * (j + 1) + 2)), .int .i8 (c (4 * (j + 1) + 3))] 105)
        obtain ⟨W1, hW1⟩ : ∃ W1 : World, W1 = wr.alloc (.cells #[.int .i8 (c (4 * (j + 1))), .int .i8 (c (4 * (j + 1) + 1)), .int .i8 (c (4 * (j + 1) + 2)), .int .i8 (c (4 * (j + 1) + 3))] 105) := ⟨_, rfl⟩
        rw [← hW1] at B1 H6 HQ hz2 hz4 ⊢
        clear hW1
        replace HQ : Sq W1.drew bq X Y (.slice (some ⟨g, 0, none⟩) n n) := HQ
        replace H6 : Sl W1.drew wr.heap.size (c (4 * (j + 1))) (c (4 * (j + 1) + 1)) (c (4 * (j + 1) + 2)) (c (4 * (j + 1) + 3)) := H6
        replace hz2 : W1.drew.heap[w.heap.size]? = _ := hz2
        replace hz4 : W1.drew.rowIs (w.heap.size + 1) 64 144 (fun p => .int .i64 (gridN c (j + 1) p)) := hz4
        replace B := B1.drew
        clear B1
        obtain ⟨l6, p6, q6, r6, s6⟩ := id H6
        obtain ⟨e0, e1, e2, e3⟩ := (Own8.of_row (f := c) (hrow.of_block (B.block _ hrow.lt))).at4 (k := j) (by omega) |>.1
        simp only [Nat.zero_add] at e0 e1 e2 e3
        refine wp_region_held_drew (S := (fun w' => w'.cell? ⟨wr.heap.size, 0, none⟩ = some (.int .i8 (c (4 * (j + 1)))) ∧ w'.cell? ⟨wr.heap.size, 1, none⟩ = some (.int .i8 (c (4 * (j + 1) + 1))) ∧ w'.cell? ⟨wr.heap.size, 2, none⟩ = some (.int .i8 (c (4 * (j + 1) + 2))) ∧ w'.cell? ⟨wr.heap.size, 3, none⟩ = some (.int .i8 (c (4 * (j + 1) + 3))) ∧ w'.cell? ⟨bq, 2, none⟩ = some (.slice (some ⟨g, 0, none⟩) n n) ∧ w'.cell? ⟨g, j * 4, none⟩ = some (.int .i8 (c (4 * j))) ∧ w'.cell? ⟨g, j * 4 + 1, none⟩ = some (.int .i8 (c (4 * j + 1))) ∧ w'.cell? ⟨g, j * 4 + 2, none⟩ = some (.int .i8 (c (4 * j + 2))) ∧ w'.cell? ⟨g, j * 4 + 3, none⟩ = some (.int .i8 (c (4 * j + 3))))) (by kernel_rfl) ⟨p6, q6, r6, s6, HQ.2.2.2, e0, e1, e2, e3⟩ (fun hHeld => ?_)
        refine wpAnyH_take (i := 0) (oi := _) (v := ?_) rfl (by kernel_rfl) (by kernel_rfl) (by kernel_rfl) (fun _ _ _ h => h) (Or.inl ⟨by kernel_rfl, ?_⟩) (by assumption) ?_
        rotate_left
        · intro w hSw; (try dsimp only at hSw); go_simp; first | done | with_reducible rfl
        try simp only [List.getElem_toArray, List.getElem_cons_zero, List.getElem_cons_succ, Act.put, List.setIfInBounds_toArray, List.set_cons_zero, List.set_cons_succ]
        refine wpAnyH_take (i := 1) (oi := _) (v := ?_) rfl (by kernel_rfl) (by kernel_rfl) (by kernel_rfl) (fun _ _ _ h => h) (Or.inl ⟨by kernel_rfl, ?_⟩) (by assumption) ?_
        rotate_left
        · intro w hSw; (try dsimp only at hSw); go_simp; first | done | with_reducible rfl
        try simp only [List.getElem_toArray, List.getElem_cons_zero, List.getElem_cons_succ, Act.put, List.setIfInBounds_toArray, List.set_cons_zero, List.set_cons_succ]
        refine wpAnyH_ready (rs := [2]) (by kernel_rfl) (by simp) ?_
        refine AllReadyH.cons (o := _) rfl (fun K hK => ?_) AllReadyH.nil
        go_simp
        refine (lies_yes X Y _ _ _ _ bq _ _ hX hY hb4 hb5 hb6 hb7 HQ hl').mono ?_
        rintro e w3 ⟨rfl, hb⟩
        replace B := nxt B hb
        replace HQ := HQ.below hb
        replace hz2 := (hb.block _ (Array.getElem?_eq_some_iff.1 hz2).1).trans hz2
        replace hz4 := rowNext0 hz4 hb
        replace H6 := H6.below hb
        clear hb l6 p6 q6 r6 s6 e0 e1 e2 e3
        obtain ⟨l6, p6, q6, r6, s6⟩ := id H6
        obtain ⟨e0, e1, e2, e3⟩ := (Own8.of_row (f := c) (hrow.of_block (B.block _ hrow.lt))).at4 (k := j) (by omega) |>.1
        simp only [Nat.zero_add] at e0 e1 e2 e3
        refine hK.out _ _ ⟨p6, q6, r6, s6, HQ.2.2.2, e0, e1, e2, e3⟩ (fun hHeld => ?_)
        clear hK K
        try simp only [List.getElem_toArray, List.getElem_cons_zero, List.getElem_cons_succ, Act.put, List.setIfInBounds_toArray, List.set_cons_zero, List.set_cons_succ]
        have wj : IntKind.i64.wrap (j : Int) = (j : Int) := IntWalk.i64_in _ (by omega)
        have hj0 : 0 ≤ (j : Int) := by omega
        have hjn : (j : Int) < (n : Int) := by omega
        refine wpAnyH_take (i := 3) (oi := _) (v := ?_) rfl (by kernel_rfl) (by kernel_rfl) (by kernel_rfl) (fun _ _ _ h => h) (Or.inl ⟨by kernel_rfl, ?_⟩) (by assumption) ?_
        rotate_left
        · intro w hSw; (try dsimp only at hSw); go_simp; first | done | with_reducible rfl
        try simp only [List.getElem_toArray, List.getElem_cons_zero, List.getElem_cons_succ, Act.put, List.setIfInBounds_toArray, List.set_cons_zero, List.set_cons_succ]
        refine wpAnyH_take (i := 4) (oi := _) (v := ?_) rfl (by kernel_rfl) (by kernel_rfl) (by kernel_rfl) (fun _ _ _ h => h) (Or.inl ⟨by kernel_rfl, ?_⟩) (by assumption) ?_
        rotate_left
        · intro w hSw; (try dsimp only at hSw); go_simp; first | done | with_reducible rfl
        try simp only [List.getElem_toArray, List.getElem_cons_zero, List.getElem_cons_succ, Act.put, List.setIfInBounds_toArray, List.set_cons_zero, List.set_cons_succ]
        refine wpAnyH_take (i := 5) (oi := _) (v := ?_) rfl (by kernel_rfl) (by kernel_rfl) (by kernel_rfl) (fun _ _ _ h => h) (Or.inl ⟨by kernel_rfl, ?_⟩) (by assumption) ?_
        rotate_left
        · intro w hSw; (try dsimp only at hSw); go_simp; first | done | with_reducible rfl
        try simp only [List.getElem_toArray, List.getElem_cons_zero, List.getElem_cons_succ, Act.put, List.setIfInBounds_toArray, List.set_cons_zero, List.set_cons_succ]
        refine wpAnyH_take (i := 6) (oi := _) (v := ?_) rfl (by kernel_rfl) (by kernel_rfl) (by kernel_rfl) (fun _ _ _ h => h) (Or.inl ⟨by kernel_rfl, ?_⟩) (by assumption) ?_
        rotate_left
        · intro w hSw; (try dsimp only at hSw); go_simp; first | done | with_reducible rfl
        try simp only [List.getElem_toArray, List.getElem_cons_zero, List.getElem_cons_succ, Act.put, List.setIfInBounds_toArray, List.set_cons_zero, List.set_cons_succ]
        refine wpAnyH_take (i := 7) (oi := _) (v := ?_) rfl (by kernel_rfl) (by kernel_rfl) (by kernel_rfl) (fun _ _ _ h => h) (Or.inl ⟨by kernel_rfl, ?_⟩) (by assumption) ?_
        rotate_left
        · intro w hSw; (try dsimp only at hSw); go_simp; first | done | with_reducible rfl
        try simp only [List.getElem_toArray, List.getElem_cons_zero, List.getElem_cons_succ, Act.put, List.setIfInBounds_toArray, List.set_cons_zero, List.set_cons_succ]
        refine wpAnyH_take (i := 8) (oi := _) (v := ?_) rfl (by kernel_rfl) (by kernel_rfl) (by kernel_rfl) (fun _ _ _ h => h) (Or.inl ⟨by kernel_rfl, ?_⟩) (by assumption) ?_
        rotate_left
        · intro w hSw; (try dsimp only at hSw); go_simp; first | done | with_reducible rfl
        try simp only [List.getElem_toArray, List.getElem_cons_zero, List.getElem_cons_succ, Act.put, List.setIfInBounds_toArray, List.set_cons_zero, List.set_cons_succ]
        refine wpAnyH_take (i := 9) (oi := _) (v := ?_) rfl (by kernel_rfl) (by kernel_rfl) (by kernel_rfl) (fun _ _ _ h => h) (Or.inl ⟨by kernel_rfl, ?_⟩) (by assumption) ?_
        rotate_left
        · intro w hSw; (try dsimp only at hSw); go_simp; first | done | with_reducible rfl
        try simp only [List.getElem_toArray, List.getElem_cons_zero, List.getElem_cons_succ, Act.put, List.setIfInBounds_toArray, List.set_cons_zero, List.set_cons_succ]
        refine wpAnyH_take (i := 10) (oi := _) (v := ?_) rfl (by kernel_rfl) (by kernel_rfl) (by kernel_rfl) (fun _ _ _ h => h) (Or.inl ⟨by kernel_rfl, ?_⟩) (by assumption) ?_
        rotate_left
        · intro w hSw; (try dsimp only at hSw); go_simp; first | done | with_reducible rfl
        try simp only [List.getElem_toArray, List.getElem_cons_zero, List.getElem_cons_succ, Act.put, List.setIfInBounds_toArray, List.set_cons_zero, List.set_cons_succ]
        refine wpAnyH_take (i := 11) (oi := _) (v := ?_) rfl (by kernel_rfl) (by kernel_rfl) (by kernel_rfl) (fun _ _ _ h => h) (Or.inl ⟨by kernel_rfl, ?_⟩) (by assumption) ?_
        rotate_left
        · intro w hSw; (try dsimp only at hSw); go_simp; first | done | with_reducible rfl
        try simp only [List.getElem_toArray, List.getElem_cons_zero, List.getElem_cons_succ, Act.put, List.setIfInBounds_toArray, List.set_cons_zero, List.set_cons_succ]
        refine wpAnyH_take (i := 12) (oi := _) (v := ?_) rfl (by kernel_rfl) (by kernel_rfl) (by kernel_rfl) (fun _ _ _ h => h) (Or.inl ⟨by kernel_rfl, ?_⟩) (by assumption) ?_
        rotate_left
        · intro w hSw; (try dsimp only at hSw); go_simp; first | done | with_reducible rfl
        try simp only [List.getElem_toArray, List.getElem_cons_zero, List.getElem_cons_succ, Act.put, List.setIfInBounds_toArray, List.set_cons_zero, List.set_cons_succ]
        refine wpAnyH_take (i := 13) (oi := _) (v := ?_) rfl (by kernel_rfl) (by kernel_rfl) (by kernel_rfl) (fun _ _ _ h => h) (Or.inl ⟨by kernel_rfl, ?_⟩) (by assumption) ?_
        rotate_left
        · intro w hSw; (try dsimp only at hSw); go_simp; first | done | with_reducible rfl
        try simp only [List.getElem_toArray, List.getElem_cons_zero, List.getElem_cons_succ, Act.put, List.setIfInBounds_toArray, List.set_cons_zero, List.set_cons_succ]
        refine wpAnyH_take (i := 14) (oi := _) (v := ?_) rfl (by kernel_rfl) (by kernel_rfl) (by kernel_rfl) (fun _ _ _ h => h) (Or.inl ⟨by kernel_rfl, ?_⟩) (by assumption) ?_
        rotate_left
        · intro w hSw; (try dsimp only at hSw); go_simp; first | done | with_reducible rfl
        try simp only [List.getElem_toArray, List.getElem_cons_zero, List.getElem_cons_succ, Act.put, List.setIfInBounds_toArray, List.set_cons_zero, List.set_cons_succ]
        refine wpAnyH_take (i := 15) (oi := _) (v := ?_) rfl (by kernel_rfl) (by kernel_rfl) (by kernel_rfl) (fun _ _ _ h => h) (Or.inl ⟨by kernel_rfl, ?_⟩) (by assumption) ?_
        rotate_left
        · intro w hSw; (try dsimp only at hSw); go_simp; first | done | with_reducible rfl
        try simp only [List.getElem_toArray, List.getElem_cons_zero, List.getElem_cons_succ, Act.put, List.setIfInBounds_toArray, List.set_cons_zero, List.set_cons_succ]
        refine wpAnyH_take (i := 16) (oi := _) (v := ?_) rfl (by kernel_rfl) (by kernel_rfl) (by kernel_rfl) (fun _ _ _ h => h) (Or.inl ⟨by kernel_rfl, ?_⟩) (by assumption) ?_
        rotate_left
        · intro w hSw; (try dsimp only at hSw); go_simp; first | done | with_reducible rfl
        try simp only [List.getElem_toArray, List.getElem_cons_zero, List.getElem_cons_succ, Act.put, List.setIfInBounds_toArray, List.set_cons_zero, List.set_cons_succ]
        clear wj hj0 hjn
        refine wpAnyH_ready (rs := [17]) (by kernel_rfl) (by simp) ?_
        refine AllReadyH.cons (o := _) rfl (fun K hK => ?_) AllReadyH.nil
        go_simp
        refine (bef_no _ _ _ _ _ _ _ _ _ hbf').mono ?_
        rintro e w4 ⟨rfl, hb⟩
        replace B := nxt B hb
        replace HQ := HQ.below hb
        replace hz2 := (hb.block _ (Array.getElem?_eq_some_iff.1 hz2).1).trans hz2
        replace hz4 := rowNext0 hz4 hb
        replace H6 := H6.below hb
        clear hb l6 p6 q6 r6 s6 e0 e1 e2 e3
        obtain ⟨l6, p6, q6, r6, s6⟩ := id H6
        obtain ⟨e0, e1, e2, e3⟩ := (Own8.of_row (f := c) (hrow.of_block (B.block _ hrow.lt))).at4 (k := j) (by omega) |>.1
        simp only [Nat.zero_add] at e0 e1 e2 e3
        refine hK.out _ _ ⟨p6, q6, r6, s6, HQ.2.2.2, e0, e1, e2, e3⟩ (fun hHeld => ?_)
        clear hK K
        try simp only [List.getElem_toArray, List.getElem_cons_zero, List.getElem_cons_succ, Act.put, List.setIfInBounds_toArray, List.set_cons_zero, List.set_cons_succ]
        refine wpAnyH_take (i := 18) (oi := _) (v := ?_) rfl (by kernel_rfl) (by kernel_rfl) (by kernel_rfl) (fun _ _ _ h => h) (Or.inl ⟨by kernel_rfl, ?_⟩) (by assumption) ?_
        rotate_left
        · intro w hSw; (try dsimp only at hSw); go_simp; first | done | with_reducible rfl
        try simp only [List.getElem_toArray, List.getElem_cons_zero, List.getElem_cons_succ, Act.put, List.setIfInBounds_toArray, List.set_cons_zero, List.set_cons_succ]
        refine wpAnyH_take (i := 19) (oi := _) (v := ?_) rfl (by kernel_rfl) (by kernel_rfl) (by kernel_rfl) (fun _ _ _ h => h) (Or.inl ⟨by kernel_rfl, ?_⟩) (by assumption) ?_
        rotate_left
        · intro w hSw; (try dsimp only at hSw); go_simp; first | done | with_reducible rfl
        try simp only [List.getElem_toArray, List.getElem_cons_zero, List.getElem_cons_succ, Act.put, List.setIfInBounds_toArray, List.set_cons_zero, List.set_cons_succ]
        refine wpAnyH_take (i := 20) (oi := _) (v := ?_) rfl (by kernel_rfl) (by kernel_rfl) (by kernel_rfl) (fun _ _ _ h => h) (Or.inl ⟨by kernel_rfl, ?_⟩) (by assumption) ?_
        rotate_left
        · intro w hSw; (try dsimp only at hSw); go_simp; first | done | with_reducible rfl
        try simp only [List.getElem_toArray, List.getElem_cons_zero, List.getElem_cons_succ, Act.put, List.setIfInBounds_toArray, List.set_cons_zero, List.set_cons_succ]
        refine wpAnyH_done (by kernel_rfl) ?_ _
        obtain ⟨cs, hcs, hsz, hcell⟩ := hz4
        go_wp2_with (first
          | (refine wpList_load_row rfl 64 (.tmp 4) rfl (w.heap.size + 1) rfl 64 cs (0, 0) _ hcs Tryd.underlying64 rfl (by rw [info93, hsz]) ?_)
          | (refine wpList_store_row rfl 64 (.tmp 2) (.tmp 72) rfl w.heap.size cs rfl rfl 64 Tryd.zeroCells64 hz2 (by rw [info93, hsz]) (by rw [zc_size, hsz]) (one_of_ints hsz hcell) ?_))
        exact bodyPost_ret (lay_results _ _ w.heap.size false cs rfl rfl (setRow_heap _ _ _ _ _ _ hz2) hsz) rfl ⟨below_setRow B (Nat.le_refl _) _, cs, hsz, one_of_ints hsz hcell, .inr ⟨fun hv => hbf ((hv.2.2.2.2.2 (j + 1) hlt).2.1 j rfl), rfl⟩⟩
      · replace hbf := Classical.not_not.1 hbf
        have hbf' : c (4 * j + 1) < c (4 * (j + 1) + 1) ∨ (c (4 * j + 1) = c (4 * (j + 1) + 1) ∧ c (4 * j) < c (4 * (j + 1))) := hbf
        go_wp2_with fail
        have hwo := hz4.lt
        have B1 := al B (.cells #[.int .i8 (c (4 * (j + 1))), .int .i8 (c (4 * (j + 1) + 1)), .int .i8 (c (4 * (j + 1) + 2)), .int .i8 (c (4 * (j + 1) + 3))] 105)
        have H6 := Sl.new wr (c (4 * (j + 1))) (c (4 * (j + 1) + 1)) (c (4 * (j + 1) + 2)) (c (4 * (j + 1) + 3)) 105
        have HQ := hq0.alloc (.cells #[.int .i8 (c (4 * (j + 1))), .int .i8 (c (4 * (j + 1) + 1)), .int .i8 (c (4 * (j + 1) + 2)), .int .i8 (c (4 * (j + 1) + 3))] 105)
        replace hz2 := (Below.heap_alloc wr (.cells #[.int .i8 (c (4 * (j + 1))), .int .i8 (c (4 * (j + 1) + 1)), .int .i8 (c (4 * (j + 1) + 2)), .int .i8 (c (4 * (j + 1) + 3))] 105) _ (Array.getElem?_eq_some_iff.1 hz2).1).trans hz2
        replace hz4 := hz4.alloc (.cells #[.int .i8 (c (4 * (j + 1))), .int .i8 (c (4 * (j + 1) + 1)), .int .i8 (c (4 * (j + 1) + 2)), .int .i8 (c (4 * (j + 1) + 3))] 105)
        obtain ⟨W1, hW1⟩ : ∃ W1 : World, W1 = wr.alloc (.cells #[.int .i8 (c (4 * (j + 1))), .int .i8 (c (4 * (j + 1) + 1)), .int .i8 (c (4 * (j + 1) + 2)), .int .i8 (c (4 * (j + 1) + 3))] 105) := ⟨_, rfl⟩
        rw [← hW1] at B1 H6 HQ hz2 hz4 ⊢
        clear hW1
        replace HQ : Sq W1.drew bq X Y (.slice (some ⟨g, 0, none⟩) n n) := HQ
        replace H6 : Sl W1.drew wr.heap.size (c (4 * (j + 1))) (c (4 * (j + 1) + 1)) (c (4 * (j + 1) + 2)) (c (4 * (j + 1) + 3)) := H6
        replace hz2 : W1.drew.heap[w.heap.size]? = _ := hz2
        replace hz4 : W1.drew.rowIs (w.heap.size + 1) 64 144 (fun p => .int .i64 (gridN c (j + 1) p)) := hz4
        replace B := B1.drew
        clear B1
        obtain ⟨l6, p6, q6, r6, s6⟩ := id H6
        obtain ⟨e0, e1, e2, e3⟩ := (Own8.of_row (f := c) (hrow.of_block (B.block _ hrow.lt))).at4 (k := j) (by omega) |>.1
        simp only [Nat.zero_add] at e0 e1 e2 e3
        refine wp_region_held_drew (S := (fun w' => w'.cell? ⟨wr.heap.size, 0, none⟩ = some (.int .i8 (c (4 * (j + 1)))) ∧ w'.cell? ⟨wr.heap.size, 1, none⟩ = some (.int .i8 (c (4 * (j + 1) + 1))) ∧ w'.cell? ⟨wr.heap.size, 2, none⟩ = some (.int .i8 (c (4 * (j + 1) + 2))) ∧ w'.cell? ⟨wr.heap.size, 3, none⟩ = some (.int .i8 (c (4 * (j + 1) + 3))) ∧ w'.cell? ⟨bq, 2, none⟩ = some (.slice (some ⟨g, 0, none⟩) n n) ∧ w'.cell? ⟨g, j * 4, none⟩ = some (.int .i8 (c (4 * j))) ∧ w'.cell? ⟨g, j * 4 + 1, none⟩ = some (.int .i8 (c (4 * j + 1))) ∧ w'.cell? ⟨g, j * 4 + 2, none⟩ = some (.int .i8 (c (4 * j + 2))) ∧ w'.cell? ⟨g, j * 4 + 3, none⟩ = some (.int .i8 (c (4 * j + 3))))) (by kernel_rfl) ⟨p6, q6, r6, s6, HQ.2.2.2, e0, e1, e2, e3⟩ (fun hHeld => ?_)
        refine wpAnyH_take (i := 0) (oi := _) (v := ?_) rfl (by kernel_rfl) (by kernel_rfl) (by kernel_rfl) (fun _ _ _ h => h) (Or.inl ⟨by kernel_rfl, ?_⟩) (by assumption) ?_
        rotate_left
        · intro w hSw; (try dsimp only at hSw); go_simp; first | done | with_reducible rfl
        try simp only [List.getElem_toArray, List.getElem_cons_zero, List.getElem_cons_succ, Act.put, List.setIfInBounds_toArray, List.set_cons_zero, List.set_cons_succ]
        refine wpAnyH_take (i := 1) (oi := _) (v := ?_) rfl (by kernel_rfl) (by kernel_rfl) (by kernel_rfl) (fun _ _ _ h => h) (Or.inl ⟨by kernel_rfl, ?_⟩) (by assumption) ?_
        rotate_left
        · intro w hSw; (try dsimp only at hSw); go_simp; first | done | with_reducible rfl
        try simp only [List.getElem_toArray, List.getElem_cons_zero, List.getElem_cons_succ, Act.put, List.setIfInBounds_toArray, List.set_cons_zero, List.set_cons_succ]
        refine wpAnyH_ready (rs := [2]) (by kernel_rfl) (by simp) ?_
        refine AllReadyH.cons (o := _) rfl (fun K hK => ?_) AllReadyH.nil
        go_simp
        refine (lies_yes X Y _ _ _ _ bq _ _ hX hY hb4 hb5 hb6 hb7 HQ hl').mono ?_
        rintro e w3 ⟨rfl, hb⟩
        replace B := nxt B hb
        replace HQ := HQ.below hb
        replace hz2 := (hb.block _ (Array.getElem?_eq_some_iff.1 hz2).1).trans hz2
        replace hz4 := rowNext0 hz4 hb
        replace H6 := H6.below hb
        clear hb l6 p6 q6 r6 s6 e0 e1 e2 e3
        obtain ⟨l6, p6, q6, r6, s6⟩ := id H6
        obtain ⟨e0, e1, e2, e3⟩ := (Own8.of_row (f := c) (hrow.of_block (B.block _ hrow.lt))).at4 (k := j) (by omega) |>.1
        simp only [Nat.zero_add] at e0 e1 e2 e3
        refine hK.out _ _ ⟨p6, q6, r6, s6, HQ.2.2.2, e0, e1, e2, e3⟩ (fun hHeld => ?_)
        clear hK K
        try simp only [List.getElem_toArray, List.getElem_cons_zero, List.getElem_cons_succ, Act.put, List.setIfInBounds_toArray, List.set_cons_zero, List.set_cons_succ]
        have wj : IntKind.i64.wrap (j : Int) = (j : Int) := IntWalk.i64_in _ (by omega)
        have hj0 : 0 ≤ (j : Int) := by omega
        have hjn : (j : Int) < (n : Int) := by omega
        refine wpAnyH_take (i := 3) (oi := _) (v := ?_) rfl (by kernel_rfl) (by kernel_rfl) (by kernel_rfl) (fun _ _ _ h => h) (Or.inl ⟨by kernel_rfl, ?_⟩) (by assumption) ?_
        rotate_left
        · intro w hSw; (try dsimp only at hSw); go_simp; first | done | with_reducible rfl
        try simp only [List.getElem_toArray, List.getElem_cons_zero, List.getElem_cons_succ, Act.put, List.setIfInBounds_toArray, List.set_cons_zero, List.set_cons_succ]
        refine wpAnyH_take (i := 4) (oi := _) (v := ?_) rfl (by kernel_rfl) (by kernel_rfl) (by kernel_rfl) (fun _ _ _ h => h) (Or.inl ⟨by kernel_rfl, ?_⟩) (by assumption) ?_
        rotate_left
        · intro w hSw; (try dsimp only at hSw); go_simp; first | done | with_reducible rfl
        try simp only [List.getElem_toArray, List.getElem_cons_zero, List.getElem_cons_succ, Act.put, List.setIfInBounds_toArray, List.set_cons_zero, List.set_cons_succ]
        refine wpAnyH_take (i := 5) (oi := _) (v := ?_) rfl (by kernel_rfl) (by kernel_rfl) (by kernel_rfl) (fun _ _ _ h => h) (Or.inl ⟨by kernel_rfl, ?_⟩) (by assumption) ?_
        rotate_left
        · intro w hSw; (try dsimp only at hSw); go_simp; first | done | with_reducible rfl
        try simp only [List.getElem_toArray, List.getElem_cons_zero, List.getElem_cons_succ, Act.put, List.setIfInBounds_toArray, List.set_cons_zero, List.set_cons_succ]
        refine wpAnyH_take (i := 6) (oi := _) (v := ?_) rfl (by kernel_rfl) (by kernel_rfl) (by kernel_rfl) (fun _ _ _ h => h) (Or.inl ⟨by kernel_rfl, ?_⟩) (by assumption) ?_
        rotate_left
        · intro w hSw; (try dsimp only at hSw); go_simp; first | done | with_reducible rfl
        try simp only [List.getElem_toArray, List.getElem_cons_zero, List.getElem_cons_succ, Act.put, List.setIfInBounds_toArray, List.set_cons_zero, List.set_cons_succ]
        refine wpAnyH_take (i := 7) (oi := _) (v := ?_) rfl (by kernel_rfl) (by kernel_rfl) (by kernel_rfl) (fun _ _ _ h => h) (Or.inl ⟨by kernel_rfl, ?_⟩) (by assumption) ?_
        rotate_left
        · intro w hSw; (try dsimp only at hSw); go_simp; first | done | with_reducible rfl
        try simp only [List.getElem_toArray, List.getElem_cons_zero, List.getElem_cons_succ, Act.put, List.setIfInBounds_toArray, List.set_cons_zero, List.set_cons_succ]
        refine wpAnyH_take (i := 8) (oi := _) (v := ?_) rfl (by kernel_rfl) (by kernel_rfl) (by kernel_rfl) (fun _ _ _ h => h) (Or.inl ⟨by kernel_rfl, ?_⟩) (by assumption) ?_
        rotate_left
        · intro w hSw; (try dsimp only at hSw); go_simp; first | done | with_reducible rfl
        try simp only [List.getElem_toArray, List.getElem_cons_zero, List.getElem_cons_succ, Act.put, List.setIfInBounds_toArray, List.set_cons_zero, List.set_cons_succ]
        refine wpAnyH_take (i := 9) (oi := _) (v := ?_) rfl (by kernel_rfl) (by kernel_rfl) (by kernel_rfl) (fun _ _ _ h => h) (Or.inl ⟨by kernel_rfl, ?_⟩) (by assumption) ?_
        rotate_left
        · intro w hSw; (try dsimp only at hSw); go_simp; first | done | with_reducible rfl
        try simp only [List.getElem_toArray, List.getElem_cons_zero, List.getElem_cons_succ, Act.put, List.setIfInBounds_toArray, List.set_cons_zero, List.set_cons_succ]
        refine wpAnyH_take (i := 10) (oi := _) (v := ?_) rfl (by kernel_rfl) (by kernel_rfl) (by kernel_rfl) (fun _ _ _ h => h) (Or.inl ⟨by kernel_rfl, ?_⟩) (by assumption) ?_
        rotate_left
        · intro w hSw; (try dsimp only at hSw); go_simp; first | done | with_reducible rfl
        try simp only [List.getElem_toArray, List.getElem_cons_zero, List.getElem_cons_succ, Act.put, List.setIfInBounds_toArray, List.set_cons_zero, List.set_cons_succ]
        refine wpAnyH_take (i := 11) (oi := _) (v := ?_) rfl (by kernel_rfl) (by kernel_rfl) (by kernel_rfl) (fun _ _ _ h => h) (Or.inl ⟨by kernel_rfl, ?_⟩) (by assumption) ?_
        rotate_left
        · intro w hSw; (try dsimp only at hSw); go_simp; first | done | with_reducible rfl
        try simp only [List.getElem_toArray, List.getElem_cons_zero, List.getElem_cons_succ, Act.put, List.setIfInBounds_toArray, List.set_cons_zero, List.set_cons_succ]
        refine wpAnyH_take (i := 12) (oi := _) (v := ?_) rfl (by kernel_rfl) (by kernel_rfl) (by kernel_rfl) (fun _ _ _ h => h) (Or.inl ⟨by kernel_rfl, ?_⟩) (by assumption) ?_
        rotate_left
        · intro w hSw; (try dsimp only at hSw); go_simp; first | done | with_reducible rfl
        try simp only [List.getElem_toArray, List.getElem_cons_zero, List.getElem_cons_succ, Act.put, List.setIfInBounds_toArray, List.set_cons_zero, List.set_cons_succ]
        refine wpAnyH_take (i := 13) (oi := _) (v := ?_) rfl (by kernel_rfl) (by kernel_rfl) (by kernel_rfl) (fun _ _ _ h => h) (Or.inl ⟨by kernel_rfl, ?_⟩) (by assumption) ?_
        rotate_left
        · intro w hSw; (try dsimp only at hSw); go_simp; first | done | with_reducible rfl
        try simp only [List.getElem_toArray, List.getElem_cons_zero, List.getElem_cons_succ, Act.put, List.setIfInBounds_toArray, List.set_cons_zero, List.set_cons_succ]
        refine wpAnyH_take (i := 14) (oi := _) (v := ?_) rfl (by kernel_rfl) (by kernel_rfl) (by kernel_rfl) (fun _ _ _ h => h) (Or.inl ⟨by kernel_rfl, ?_⟩) (by assumption) ?_
        rotate_left
        · intro w hSw; (try dsimp only at hSw); go_simp; first | done | with_reducible rfl
        try simp only [List.getElem_toArray, List.getElem_cons_zero, List.getElem_cons_succ, Act.put, List.setIfInBounds_toArray, List.set_cons_zero, List.set_cons_succ]
        refine wpAnyH_take (i := 15) (oi := _) (v := ?_) rfl (by kernel_rfl) (by kernel_rfl) (by kernel_rfl) (fun _ _ _ h => h) (Or.inl ⟨by kernel_rfl, ?_⟩) (by assumption) ?_
        rotate_left
        · intro w hSw; (try dsimp only at hSw); go_simp; first | done | with_reducible rfl
        try simp only [List.getElem_toArray, List.getElem_cons_zero, List.getElem_cons_succ, Act.put, List.setIfInBounds_toArray, List.set_cons_zero, List.set_cons_succ]
        refine wpAnyH_take (i := 16) (oi := _) (v := ?_) rfl (by kernel_rfl) (by kernel_rfl) (by kernel_rfl) (fun _ _ _ h => h) (Or.inl ⟨by kernel_rfl, ?_⟩) (by assumption) ?_
        rotate_left
        · intro w hSw; (try dsimp only at hSw); go_simp; first | done | with_reducible rfl
        try simp only [List.getElem_toArray, List.getElem_cons_zero, List.getElem_cons_succ, Act.put, List.setIfInBounds_toArray, List.set_cons_zero, List.set_cons_succ]
        clear wj hj0 hjn
        refine wpAnyH_ready (rs := [17]) (by kernel_rfl) (by simp) ?_
        refine AllReadyH.cons (o := _) rfl (fun K hK => ?_) AllReadyH.nil
        go_simp
        refine (bef_yes _ _ _ _ _ _ _ _ _ hbf').mono ?_
        rintro e w4 ⟨rfl, hb⟩
        replace B := nxt B hb
        replace HQ := HQ.below hb
        replace hz2 := (hb.block _ (Array.getElem?_eq_some_iff.1 hz2).1).trans hz2
        replace hz4 := rowNext0 hz4 hb
        replace H6 := H6.below hb
        clear hb l6 p6 q6 r6 s6 e0 e1 e2 e3
        obtain ⟨l6, p6, q6, r6, s6⟩ := id H6
        obtain ⟨e0, e1, e2, e3⟩ := (Own8.of_row (f := c) (hrow.of_block (B.block _ hrow.lt))).at4 (k := j) (by omega) |>.1
        simp only [Nat.zero_add] at e0 e1 e2 e3
        refine hK.out _ _ ⟨p6, q6, r6, s6, HQ.2.2.2, e0, e1, e2, e3⟩ (fun hHeld => ?_)
        clear hK K
        try simp only [List.getElem_toArray, List.getElem_cons_zero, List.getElem_cons_succ, Act.put, List.setIfInBounds_toArray, List.set_cons_zero, List.set_cons_succ]
        refine wpAnyH_take (i := 18) (oi := _) (v := ?_) rfl (by kernel_rfl) (by kernel_rfl) (by kernel_rfl) (fun _ _ _ h => h) (Or.inl ⟨by kernel_rfl, ?_⟩) (by assumption) ?_
        rotate_left
        · intro w hSw; (try dsimp only at hSw); go_simp; first | done | with_reducible rfl
        try simp only [List.getElem_toArray, List.getElem_cons_zero, List.getElem_cons_succ, Act.put, List.setIfInBounds_toArray, List.set_cons_zero, List.set_cons_succ]
        refine wpAnyH_take (i := 19) (oi := _) (v := ?_) rfl (by kernel_rfl) (by kernel_rfl) (by kernel_rfl) (fun _ _ _ h => h) (Or.inl ⟨by kernel_rfl, ?_⟩) (by assumption) ?_
        rotate_left
        · intro w hSw; (try dsimp only at hSw); go_simp; first | done | with_reducible rfl
        try simp only [List.getElem_toArray, List.getElem_cons_zero, List.getElem_cons_succ, Act.put, List.setIfInBounds_toArray, List.set_cons_zero, List.set_cons_succ]
        refine wpAnyH_take (i := 20) (oi := _) (v := ?_) rfl (by kernel_rfl) (by kernel_rfl) (by kernel_rfl) (fun _ _ _ h => h) (Or.inl ⟨by kernel_rfl, ?_⟩) (by assumption) ?_
        rotate_left
        · intro w hSw; (try dsimp only at hSw); go_simp; first | done | with_reducible rfl
        try simp only [List.getElem_toArray, List.getElem_cons_zero, List.getElem_cons_succ, Act.put, List.setIfInBounds_toArray, List.set_cons_zero, List.set_cons_succ]
        refine wpAnyH_done (by kernel_rfl) ?_ _
        clear p6 q6 r6 s6 l6 HQ
        obtain ⟨y0, hy0⟩ := Int.eq_ofNat_of_zero_le hl'.2.1
        obtain ⟨x0, hx0⟩ := Int.eq_ofNat_of_zero_le hl'.1
        have HY0 := Lib.hid hy0
        have HX0 := Lib.hid hx0
        have hyl : (y0 : Int) ≤ 11 := by omega
        have hxl : (x0 : Int) ≤ 11 := by omega
        clear hy0 hx0
        obtain ⟨wo, rfl⟩ : ∃ wo : World, wo = wr := ⟨_, rfl⟩
        obtain ⟨l6, p6, q6, r6, s6⟩ := id H6
        go_wp2_with fail
        clear p6 q6 r6 s6 l6
        go_loopw [7, 8] (fun t7 t8 W => ∃ y : Nat, t7 = .int .i8 y ∧ c (4 * (j + 1) + 1) ≤ (y : Int) ∧ (y : Int) ≤ c (4 * (j + 1) + 1) + c (4 * (j + 1) + 3) ∧ Below w.heap.size w W ∧ W.heap[w.heap.size]? = some (.cells Tryd.zeroCells64 64 (0, 0)) ∧ W.rowIs (w.heap.size + 1) 64 144 (fun p => .int .i64 (gridP c (j + 1) y 0 p)) ∧ Sl W wo.heap.size (c (4 * (j + 1))) (c (4 * (j + 1) + 1)) (c (4 * (j + 1) + 2)) (c (4 * (j + 1) + 3)) ∧ opnP c (j + 1) y 0)
          (fun t7 t8 W => (c (4 * (j + 1) + 1) + c (4 * (j + 1) + 3) - intOf t7).toNat)
        case atStart => exact ⟨y0, by rw [HY0.out], Int.le_of_eq HY0.out, by have := HY0.out; omega, B, hz2, hz4.congr (fun p _ => by rw [gridP_start HY0.out.symm]), H6, opnP_start HY0.out.symm⟩
        case round =>
          clear B hz2 hz4 H6 HY0 hyl
          obtain ⟨y, rfl, hy1, hy2, B, hz2, hz4, H6, ho⟩ := hrel
          obtain ⟨wo2, rfl⟩ : ∃ wo2 : World, wo2 = wr := ⟨_, rfl⟩
          obtain ⟨l6, p6, q6, r6, s6⟩ := id H6
          by_cases hyt : (y : Int) < c (4 * (j + 1) + 1) + c (4 * (j + 1) + 3)
          · have hy11 : (y : Int) ≤ 11 := by omega
            go_wp2_with fail
            clear p6 q6 r6 s6 l6
            go_loopw [8] (fun t8 W => ∃ x : Nat, t8 = .int .i8 x ∧ c (4 * (j + 1)) ≤ (x : Int) ∧ (x : Int) ≤ c (4 * (j + 1)) + c (4 * (j + 1) + 2) ∧ Below w.heap.size w W ∧ W.heap[w.heap.size]? = some (.cells Tryd.zeroCells64 64 (0, 0)) ∧ W.rowIs (w.heap.size + 1) 64 144 (fun p => .int .i64 (gridP c (j + 1) y x p)) ∧ Sl W wo.heap.size (c (4 * (j + 1))) (c (4 * (j + 1) + 1)) (c (4 * (j + 1) + 2)) (c (4 * (j + 1) + 3)) ∧ opnP c (j + 1) y x)
              (fun t8 W => (c (4 * (j + 1)) + c (4 * (j + 1) + 2) - intOf t8).toNat)
            case atStart => exact ⟨x0, by rw [HX0.out], Int.le_of_eq HX0.out, by have := HX0.out; omega, B, hz2, hz4.congr (fun p _ => by rw [gridP_row HX0.out.symm]), H6, opnP_row HX0.out.symm ho⟩
            case round =>
              clear B hz2 hz4 H6 HX0 hxl ho
              obtain ⟨x, rfl, hx1, hx2, B, hz2, hz4, H6, ho⟩ := hrel
              obtain ⟨wo3, rfl⟩ : ∃ wo3 : World, wo3 = wr := ⟨_, rfl⟩
              obtain ⟨l6, p6, q6, r6, s6⟩ := id H6
              by_cases hxt : (x : Int) < c (4 * (j + 1)) + c (4 * (j + 1) + 2)
              · have hx11 : (x : Int) ≤ 11 := by omega
                have hx12 : x < 12 := by omega
                have hcl := hz4.cell (i := y * 12 + x) (by omega)
                have hfz := hz4.frozen (y * 12 + x)
                simp only [gridP_self hx12] at hcl
                by_cases h0 : gridN c (j + 1) (y * 12 + x) = 0
                · have b1 : (gridN c (j + 1) (y * 12 + x) != 0) = false := by simpa using h0
                  have H0 := Lib.hid h0
                  clear h0
                  go_wp2_with fail
                  exact ⟨⟨x + 1, by first | go_num | simp, by omega, by omega, B.setCell (Nat.le_succ _) _, (Below.heap_setCell _ _ _ _ (Nat.ne_of_lt (Nat.lt_succ_self _))).trans hz2,
                    (hz4.set (y * 12 + x) _).congr (fun p _ => by rw [gridP_cell hx12 hx1 hxt hy1 hyt]; split <;> first | rfl | (congr 1; omega)), H6.of_block (by simp) (Below.heap_setCell _ _ _ _ (by simp; omega)), opnP_cell hx12 hx1 hxt hy1 hyt ho H0.out⟩, by simp [intOf]; omega⟩
                · have b1 : (gridN c (j + 1) (y * 12 + x) != 0) = true := by simpa using h0
                  have HN : ¬ opn c (j + 1) := fun h => h0 (h (y * 12 + x) (by omega) (cov_self hx12 hx1 hxt hy1 hyt))
                  clear h0
                  obtain ⟨cs, hcs, hsz, hcell⟩ := hz4
                  go_wp2_with (first
                    | (refine wpList_load_row rfl 64 (.tmp 4) rfl (w.heap.size + 1) rfl 64 cs (0, 0) _ hcs Tryd.underlying64 rfl (by rw [info93, hsz]) ?_)
                    | (refine wpList_store_row rfl 64 (.tmp 2) (.tmp 101) rfl w.heap.size cs rfl rfl 64 Tryd.zeroCells64 hz2 (by rw [info93, hsz]) (by rw [zc_size, hsz]) (one_of_ints hsz hcell) ?_))
                  refine bodyPost_ret (lay_results _ _ w.heap.size false cs rfl rfl (setRow_heap _ _ _ _ _ _ hz2) hsz) rfl ⟨below_setRow B (Nat.le_refl _) _, cs, hsz, one_of_ints hsz hcell, ?_⟩
                  · exact .inr ⟨fun hv => HN (hv.2.2.2.2.2 (j + 1) hlt).2.2, rfl⟩
              · obtain hxe : (x : Int) = c (4 * (j + 1)) + c (4 * (j + 1) + 2) := by omega
                have HXE := Lib.hid hxe
                clear hxe
                go_wp2_with fail
                exact ⟨⟨y + 1, by first | go_num | simp, by omega, by omega, B, hz2, hz4.congr (fun p _ => by rw [gridP_next HXE.out]), H6, opnP_next HXE.out ho⟩, by simp [intOf]; omega⟩
          · obtain hye : (y : Int) = c (4 * (j + 1) + 1) + c (4 * (j + 1) + 3) := by omega
            have HYE := Lib.hid hye
            clear hye
            go_wp2_with fail
            exact ⟨⟨j + 1 + 1, by omega, by first | go_num | simp, B, hz2, hz4.congr (fun p _ => by rw [gridP_end HYE.out]), hok.step ⟨hl, (fun j' hj' => (show j = j' by omega) ▸ hbf), opn_end HYE.out ho⟩⟩, by simp [intOf]; omega⟩
    · obtain rfl : i = n := by omega
      obtain ⟨cs, hcs, hsz, hcell⟩ := hz4
      go_wp2_with (first
        | (refine wpList_load_row rfl 64 (.tmp 4) rfl (w.heap.size + 1) rfl 64 cs (0, 0) _ hcs Tryd.underlying64 rfl (by rw [info93, hsz]) ?_)
        | (refine wpList_store_row rfl 64 (.tmp 2) (.tmp 108) rfl w.heap.size cs rfl rfl 64 Tryd.zeroCells64 hz2 (by rw [info93, hsz]) (by rw [zc_size, hsz]) (one_of_ints hsz hcell) ?_))
      exact bodyPost_ret (lay_results _ _ w.heap.size true cs rfl rfl (setRow_heap _ _ _ _ _ _ hz2) hsz) rfl ⟨below_setRow B (Nat.le_refl _) _, cs, hsz, one_of_ints hsz hcell, .inl ⟨⟨h1, h2, h3, h4, hn, hok⟩, hcell, rfl⟩⟩
end Go.Proofs.YtmkcdelfgaogaaaDoor
