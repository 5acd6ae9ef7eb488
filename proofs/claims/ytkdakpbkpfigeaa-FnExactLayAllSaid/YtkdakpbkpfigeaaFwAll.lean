/-
  Slabs of a square in a block that may be written, whatever its capacity. Conditions stand at each. The contract of spec.l01Lay on any such square. Conditions stand at each. The contracts of spec.l01Can and spec.l01Place on any such square. Conditions stand at each. Slabs that lie in a square together, in whatever order: what is covered does not hang on the order; sorted they are the slabs of a valid square. It names no program. The contract of impl.placeFor at any grid. Conditions stand at each. Slabs that are put one after another, each one at its first place: what they are does not hang on the order in which they are kept. It names no program. The contract of spec.l01Put on any such square. Conditions stand at each. FillWith's model: slabs are put one after another at their first places. Conditions stand at each. FillWith: slabs are put one after another at their first places; the program's side. Conditions stand at each. Both sides of FillWith answer the same. Conditions stand at each.
-/
import Derived.Test.YtkdakpbkpfigeaaRows
import Derived.Test.YtkdakpbkpfigeaaLay
import Derived.Test.YtkdakpbkpfigeaaLay2
import Derived.Test.YtkdakpbkpfigeaaPlace
import Derived.Test.YtkdakpbkpfigeaaApart
import Derived.Test.YtkdakpbkpfigeaaCan
import Derived.Test.YtkdakpbkpfigeaaPlaceI
import Derived.Test.YtkdakpbkpfigeaaPutS
import Derived.Test.YtkdakpbkpfigeaaTold
import Derived.Test.YtkdakpbkpfigeaaIv
import Derived.Test.YtkdakpbkpfigeaaSqW
import Derived.Test.YtkdakpbkpfigeaaHasSort
import Derived.Test.YtkdakpbkpfigeaaSlabN
namespace Go.Proofs.Ytkdakpbkpfigeaa
open Go Go.ChangeShapes Go.WideShapes Go.ChangeAt Go.RowKit
set_option linter.unusedVariables false
set_option linter.unusedSimpArgs false
set_option maxRecDepth 100000
set_option maxHeartbeats 4000000

/-- the first n slabs of block g have the numbers c 0, c 1, .. -/
def Rw (w : World) (g n : Nat) (c : Nat → Int) : Prop := g < w.heap.size ∧ Own8 w g 0 (4 * n) c
theorem Rw.lt {w : World} {g n : Nat} {c : Nat → Int} (h : Rw w g n c) : g < w.heap.size := h.1
theorem Rw.own {w : World} {g n : Nat} {c : Nat → Int} (h : Rw w g n c) : Own8 w g 0 (4 * n) c := h.2
theorem Rw.of_block {w w' : World} {g n : Nat} {c : Nat → Int} (h : Rw w g n c) (e : w'.heap[g]? = w.heap[g]?) : Rw w' g n c := by
  refine ⟨?_, h.2.of_block e⟩
  have hg := h.1
  have h1 : w.heap[g]? = some w.heap[g] := Array.getElem?_eq_getElem hg
  rw [h1] at e
  exact (Array.getElem?_eq_some_iff.1 e).1
theorem Rw.below {w w' : World} {g n : Nat} {c : Nat → Int} (h : Rw w g n c) (hb : Below w.heap.size w w') : Rw w' g n c := h.of_block (hb.block _ h.1)
theorem Rw.alloc {w : World} {g n : Nat} {c : Nat → Int} (h : Rw w g n c) (o : Obj) : Rw (w.alloc o) g n c := h.of_block (Below.heap_alloc w o g h.1)
theorem Rw.congr {w : World} {g n : Nat} {c d : Nat → Int} (h : Rw w g n c) (e : ∀ j, j < 4 * n → c j = d j) : Rw w g n d := ⟨h.1, fun j hj => by rw [← e j hj]; exact h.2 j hj⟩
end Go.Proofs.Ytkdakpbkpfigeaa

namespace Go.Proofs.Ytkdakpbkpfigeaa
open Go Go.ChangeShapes Go.WideShapes Go.ChangeAt Go.RowKit
set_option linter.unusedVariables false
set_option linter.unusedSimpArgs false
set_option maxRecDepth 100000
set_option maxHeartbeats 4000000
section
variable (qc : Nat)
theorem lay_loopG (X Y : Int) (bq g n : Nat) (c : Nat → Int) (w : World) (hX : -128 ≤ X ∧ X ≤ 127) (hY : -128 ≤ Y ∧ Y ≤ 127) (hc : ∀ j, -128 ≤ c j ∧ c j ≤ 127) (hq : Sq w bq X Y (.slice (some ⟨g, 0, none⟩) n qc)) (hrow : Rw w g n c) (h1 : 1 ≤ X) (h2 : X ≤ 12) (h3 : 1 ≤ Y) (h4 : Y ≤ 12) (hn : n ≤ 60) :
    Calls Try.prog 135 #[.pointer (some ⟨bq, 0, none⟩)] w (LayPost X Y n c w) := by
  obtain ⟨lq, pq, qq, rq⟩ := id hq
  have hst : Sem.run Try.prog (storeCells ⟨w.heap.size + 1, 0, none⟩ Try.zeroCells192.toList) ((w.alloc (Obj.cells Try.zeroCells192 192)).alloc (Obj.cells Try.zeroCells192 192)) = .ok () ((w.alloc (Obj.cells Try.zeroCells192 192)).alloc (Obj.cells Try.zeroCells192 192)) := by
    have := run_storeCells_new (P := Try.prog) (w.alloc (Obj.cells Try.zeroCells192 192)) 192 Try.zeroCells192 Try.zeroCells192 (by kernel_rfl) rfl zc_one
    rwa [World.size_alloc] at this
  have HC := Lib.hid hc
  clear hc
  go_enter Try.func135, Try.ntmps135
  go_wp2_with (go_at_call 79; refine (edge_yes _ _ (by omega) (by omega)).mono ?_; rintro e w' ⟨rfl, rfl⟩)
  clear hst pq qq rq lq
  obtain ⟨W0, hW0⟩ : ∃ W0 : World, W0 = ((w.alloc (Obj.cells Try.zeroCells192 192)).alloc (Obj.cells Try.zeroCells192 192)) := ⟨_, rfl⟩
  have B0 : Below w.heap.size w W0 := by rw [hW0]; exact al (al (Below.refl _ _) _) _
  have hz2 : W0.heap[w.heap.size]? = some (.cells Try.zeroCells192 192 (0, 0)) := by rw [hW0]; exact heap_alloc2_old w _ _
  have hz4 : W0.rowIs (w.heap.size + 1) 192 144 (fun p => .int .i64 (gridN c 0 p)) := ⟨Try.zeroCells192, by rw [hW0]; exact heap_alloc2_new w _ _, zc_size, fun p hp => zc_cell p hp⟩
  rw [← hW0]
  clear hW0
  go_loopw [5, 6, 7, 8] (fun t5 t6 t7 t8 wr => ∃ i : Nat, i ≤ n ∧ t5 = .int .i64 i ∧ Below w.heap.size w wr ∧ wr.heap[w.heap.size]? = some (.cells Try.zeroCells192 192 (0, 0)) ∧ wr.rowIs (w.heap.size + 1) 192 144 (fun p => .int .i64 (gridN c i p)) ∧ okTo X Y c i) (fun t5 t6 t7 t8 wr => n - (intOf t5).toNat)
  case atStart => exact ⟨0, by omega, rfl, B0, hz2, hz4, okTo.zero _ _ _⟩
  case round =>
    clear B0 hz2 hz4
    obtain ⟨i, hi, rfl, B, hz2, hz4, hok⟩ := hrel
    have hq0 := hq.of_block B.size (B.block _ hq.1)
    obtain ⟨lq, pq, qq, rq⟩ := id hq0
    by_cases hlt : i < n
    · have hslab := (Rw.own (hrow.of_block (B.block _ hrow.lt)))
      obtain ⟨c0, c1, c2, c3⟩ := hslab.at4 hlt |>.1
      simp only [Nat.zero_add] at c0 c1 c2 c3
      have hb4 := HC.out (4 * i)
      have hb5 := HC.out (4 * i + 1)
      have hb6 := HC.out (4 * i + 2)
      have hb7 := HC.out (4 * i + 3)
      by_cases hl : ¬ lies X Y c i
      · go_wp2_with fail
        have B1 := al B (.cells #[.int .i8 (c (4 * i)), .int .i8 (c (4 * i + 1)), .int .i8 (c (4 * i + 2)), .int .i8 (c (4 * i + 3))] 110)
        have H6 := Sl.new wr (c (4 * i)) (c (4 * i + 1)) (c (4 * i + 2)) (c (4 * i + 3)) 110
        have HQ := hq0.alloc (.cells #[.int .i8 (c (4 * i)), .int .i8 (c (4 * i + 1)), .int .i8 (c (4 * i + 2)), .int .i8 (c (4 * i + 3))] 110)
        replace hz2 := (Below.heap_alloc wr (.cells #[.int .i8 (c (4 * i)), .int .i8 (c (4 * i + 1)), .int .i8 (c (4 * i + 2)), .int .i8 (c (4 * i + 3))] 110) _ (Array.getElem?_eq_some_iff.1 hz2).1).trans hz2
        replace hz4 := hz4.alloc (.cells #[.int .i8 (c (4 * i)), .int .i8 (c (4 * i + 1)), .int .i8 (c (4 * i + 2)), .int .i8 (c (4 * i + 3))] 110)
        obtain ⟨W1, hW1⟩ : ∃ W1 : World, W1 = wr.alloc (.cells #[.int .i8 (c (4 * i)), .int .i8 (c (4 * i + 1)), .int .i8 (c (4 * i + 2)), .int .i8 (c (4 * i + 3))] 110) := ⟨_, rfl⟩
        rw [← hW1] at B1 H6 HQ hz2 hz4 ⊢
        clear hW1
        replace HQ : Sq W1.drew bq X Y (.slice (some ⟨g, 0, none⟩) n qc) := HQ
        replace H6 : Sl W1.drew wr.heap.size (c (4 * i)) (c (4 * i + 1)) (c (4 * i + 2)) (c (4 * i + 3)) := H6
        replace hz2 : W1.drew.heap[w.heap.size]? = _ := hz2
        replace hz4 : W1.drew.rowIs (w.heap.size + 1) 192 144 (fun p => .int .i64 (gridN c i p)) := hz4
        replace B := B1.drew
        clear B1
        obtain ⟨l6, p6, q6, r6, s6⟩ := id H6
        have hl' : ¬ (0 ≤ c (4 * i) ∧ 0 ≤ c (4 * i + 1) ∧ 1 ≤ c (4 * i + 2) ∧ 1 ≤ c (4 * i + 3) ∧ c (4 * i) + c (4 * i + 2) ≤ X ∧ c (4 * i + 1) + c (4 * i + 3) ≤ Y) := hl
        refine wp_region_held_drew (S := (fun w' => w'.cell? ⟨wr.heap.size, 0, none⟩ = some (.int .i8 (c (4 * i))) ∧ w'.cell? ⟨wr.heap.size, 1, none⟩ = some (.int .i8 (c (4 * i + 1))) ∧ w'.cell? ⟨wr.heap.size, 2, none⟩ = some (.int .i8 (c (4 * i + 2))) ∧ w'.cell? ⟨wr.heap.size, 3, none⟩ = some (.int .i8 (c (4 * i + 3))))) (by kernel_rfl) ⟨p6, q6, r6, s6⟩ (fun hHeld => ?_)
        refine wpAnyH_take (i := 0) (oi := _) (v := ?_) rfl (by kernel_rfl) (by kernel_rfl) (by kernel_rfl) (fun _ _ _ h => h) (Or.inl ⟨by kernel_rfl, ?_⟩) (by assumption) ?_
        rotate_left
        · intro w hSw; (try dsimp only at hSw); go_simp; first | done | with_reducible rfl
        try simp only [List.getElem_toArray, List.getElem_cons_zero, List.getElem_cons_succ, Act.put, List.setIfInBounds_toArray, List.set_cons_zero, List.set_cons_succ]
        refine wpAnyH_take (i := 1) (oi := _) (v := ?_) rfl (by kernel_rfl) (by kernel_rfl) (by kernel_rfl) (fun _ _ _ h => h) (Or.inl ⟨by kernel_rfl, ?_⟩) (by assumption) ?_
        rotate_left
        · intro w hSw; (try dsimp only at hSw); go_simp; first | done | with_reducible rfl
        try simp only [List.getElem_toArray, List.getElem_cons_zero, List.getElem_cons_succ, Act.put, List.setIfInBounds_toArray, List.set_cons_zero, List.set_cons_succ]
        refine wpAnyH_ready (rs := [2]) (by kernel_rfl) (by simp) ?_
        refine AllReadyH.cons (o := _) rfl (fun K hK => ?_) AllReadyH.nil
        go_simp
        refine (lies_no X Y _ _ _ _ bq _ _ hX hY hb4 hb5 hb6 hb7 HQ hl').mono ?_
        rintro e w3 ⟨rfl, hb⟩
        replace B := nxt B hb
        replace HQ := HQ.below hb
        replace hz2 := (hb.block _ (Array.getElem?_eq_some_iff.1 hz2).1).trans hz2
        replace hz4 := rowNext0 hz4 hb
        replace H6 := H6.below hb
        clear hb l6 p6 q6 r6 s6
        obtain ⟨l6, p6, q6, r6, s6⟩ := id H6
        refine hK.out _ _ ⟨p6, q6, r6, s6⟩ (fun hHeld => ?_)
        clear hK K
        try simp only [List.getElem_toArray, List.getElem_cons_zero, List.getElem_cons_succ, Act.put, List.setIfInBounds_toArray, List.set_cons_zero, List.set_cons_succ]
        refine wpAnyH_take (i := 3) (oi := _) (v := ?_) rfl (by kernel_rfl) (by kernel_rfl) (by kernel_rfl) (fun _ _ _ h => h) (Or.inl ⟨by kernel_rfl, ?_⟩) (by assumption) ?_
        rotate_left
        · intro w hSw; (try dsimp only at hSw); go_simp; first | done | with_reducible rfl
        try simp only [List.getElem_toArray, List.getElem_cons_zero, List.getElem_cons_succ, Act.put, List.setIfInBounds_toArray, List.set_cons_zero, List.set_cons_succ]
        refine wpAnyH_take (i := 4) (oi := _) (v := ?_) rfl (by kernel_rfl) (by kernel_rfl) (by kernel_rfl) (fun _ _ _ h => h) (Or.inl ⟨by kernel_rfl, ?_⟩) (by assumption) ?_
        rotate_left
        · intro w hSw; (try dsimp only at hSw); go_simp; first | done | with_reducible rfl
        try simp only [List.getElem_toArray, List.getElem_cons_zero, List.getElem_cons_succ, Act.put, List.setIfInBounds_toArray, List.set_cons_zero, List.set_cons_succ]
        refine wpAnyH_take (i := 5) (oi := _) (v := undef) rfl (by kernel_rfl) (by kernel_rfl) (by kernel_rfl) (fun _ _ _ h => h) (Or.inr ⟨by kernel_rfl, rfl⟩) (by assumption) ?_
        try simp only [List.getElem_toArray, List.getElem_cons_zero, List.getElem_cons_succ, Act.put, List.setIfInBounds_toArray, List.set_cons_zero, List.set_cons_succ]
        refine wpAnyH_take (i := 6) (oi := _) (v := undef) rfl (by kernel_rfl) (by kernel_rfl) (by kernel_rfl) (fun _ _ _ h => h) (Or.inr ⟨by kernel_rfl, rfl⟩) (by assumption) ?_
        try simp only [List.getElem_toArray, List.getElem_cons_zero, List.getElem_cons_succ, Act.put, List.setIfInBounds_toArray, List.set_cons_zero, List.set_cons_succ]
        refine wpAnyH_take (i := 7) (oi := _) (v := undef) rfl (by kernel_rfl) (by kernel_rfl) (by kernel_rfl) (fun _ _ _ h => h) (Or.inr ⟨by kernel_rfl, rfl⟩) (by assumption) ?_
        try simp only [List.getElem_toArray, List.getElem_cons_zero, List.getElem_cons_succ, Act.put, List.setIfInBounds_toArray, List.set_cons_zero, List.set_cons_succ]
        refine wpAnyH_take (i := 8) (oi := _) (v := undef) rfl (by kernel_rfl) (by kernel_rfl) (by kernel_rfl) (fun _ _ _ h => h) (Or.inr ⟨by kernel_rfl, rfl⟩) (by assumption) ?_
        try simp only [List.getElem_toArray, List.getElem_cons_zero, List.getElem_cons_succ, Act.put, List.setIfInBounds_toArray, List.set_cons_zero, List.set_cons_succ]
        refine wpAnyH_take (i := 9) (oi := _) (v := undef) rfl (by kernel_rfl) (by kernel_rfl) (by kernel_rfl) (fun _ _ _ h => h) (Or.inr ⟨by kernel_rfl, rfl⟩) (by assumption) ?_
        try simp only [List.getElem_toArray, List.getElem_cons_zero, List.getElem_cons_succ, Act.put, List.setIfInBounds_toArray, List.set_cons_zero, List.set_cons_succ]
        refine wpAnyH_take (i := 10) (oi := _) (v := undef) rfl (by kernel_rfl) (by kernel_rfl) (by kernel_rfl) (fun _ _ _ h => h) (Or.inr ⟨by kernel_rfl, rfl⟩) (by assumption) ?_
        try simp only [List.getElem_toArray, List.getElem_cons_zero, List.getElem_cons_succ, Act.put, List.setIfInBounds_toArray, List.set_cons_zero, List.set_cons_succ]
        refine wpAnyH_take (i := 11) (oi := _) (v := undef) rfl (by kernel_rfl) (by kernel_rfl) (by kernel_rfl) (fun _ _ _ h => h) (Or.inr ⟨by kernel_rfl, rfl⟩) (by assumption) ?_
        try simp only [List.getElem_toArray, List.getElem_cons_zero, List.getElem_cons_succ, Act.put, List.setIfInBounds_toArray, List.set_cons_zero, List.set_cons_succ]
        refine wpAnyH_take (i := 12) (oi := _) (v := undef) rfl (by kernel_rfl) (by kernel_rfl) (by kernel_rfl) (fun _ _ _ h => h) (Or.inr ⟨by kernel_rfl, rfl⟩) (by assumption) ?_
        try simp only [List.getElem_toArray, List.getElem_cons_zero, List.getElem_cons_succ, Act.put, List.setIfInBounds_toArray, List.set_cons_zero, List.set_cons_succ]
        refine wpAnyH_take (i := 13) (oi := _) (v := undef) rfl (by kernel_rfl) (by kernel_rfl) (by kernel_rfl) (fun _ _ _ h => h) (Or.inr ⟨by kernel_rfl, rfl⟩) (by assumption) ?_
        try simp only [List.getElem_toArray, List.getElem_cons_zero, List.getElem_cons_succ, Act.put, List.setIfInBounds_toArray, List.set_cons_zero, List.set_cons_succ]
        refine wpAnyH_take (i := 14) (oi := _) (v := undef) rfl (by kernel_rfl) (by kernel_rfl) (by kernel_rfl) (fun _ _ _ h => h) (Or.inr ⟨by kernel_rfl, rfl⟩) (by assumption) ?_
        try simp only [List.getElem_toArray, List.getElem_cons_zero, List.getElem_cons_succ, Act.put, List.setIfInBounds_toArray, List.set_cons_zero, List.set_cons_succ]
        refine wpAnyH_take (i := 15) (oi := _) (v := undef) rfl (by kernel_rfl) (by kernel_rfl) (by kernel_rfl) (fun _ _ _ h => h) (Or.inr ⟨by kernel_rfl, rfl⟩) (by assumption) ?_
        try simp only [List.getElem_toArray, List.getElem_cons_zero, List.getElem_cons_succ, Act.put, List.setIfInBounds_toArray, List.set_cons_zero, List.set_cons_succ]
        refine wpAnyH_take (i := 16) (oi := _) (v := undef) rfl (by kernel_rfl) (by kernel_rfl) (by kernel_rfl) (fun _ _ _ h => h) (Or.inr ⟨by kernel_rfl, rfl⟩) (by assumption) ?_
        try simp only [List.getElem_toArray, List.getElem_cons_zero, List.getElem_cons_succ, Act.put, List.setIfInBounds_toArray, List.set_cons_zero, List.set_cons_succ]
        refine wpAnyH_take (i := 17) (oi := _) (v := undef) rfl (by kernel_rfl) (by kernel_rfl) (by kernel_rfl) (fun _ _ _ h => h) (Or.inr ⟨by kernel_rfl, rfl⟩) (by assumption) ?_
        try simp only [List.getElem_toArray, List.getElem_cons_zero, List.getElem_cons_succ, Act.put, List.setIfInBounds_toArray, List.set_cons_zero, List.set_cons_succ]
        refine wpAnyH_take (i := 18) (oi := _) (v := undef) rfl (by kernel_rfl) (by kernel_rfl) (by kernel_rfl) (fun _ _ _ h => h) (Or.inr ⟨by kernel_rfl, rfl⟩) (by assumption) ?_
        try simp only [List.getElem_toArray, List.getElem_cons_zero, List.getElem_cons_succ, Act.put, List.setIfInBounds_toArray, List.set_cons_zero, List.set_cons_succ]
        refine wpAnyH_take (i := 19) (oi := _) (v := undef) rfl (by kernel_rfl) (by kernel_rfl) (by kernel_rfl) (fun _ _ _ h => h) (Or.inr ⟨by kernel_rfl, rfl⟩) (by assumption) ?_
        try simp only [List.getElem_toArray, List.getElem_cons_zero, List.getElem_cons_succ, Act.put, List.setIfInBounds_toArray, List.set_cons_zero, List.set_cons_succ]
        refine wpAnyH_take (i := 20) (oi := _) (v := ?_) rfl (by kernel_rfl) (by kernel_rfl) (by kernel_rfl) (fun _ _ _ h => h) (Or.inl ⟨by kernel_rfl, ?_⟩) (by assumption) ?_
        rotate_left
        · intro w hSw; (try dsimp only at hSw); go_simp; first | done | with_reducible rfl
        try simp only [List.getElem_toArray, List.getElem_cons_zero, List.getElem_cons_succ, Act.put, List.setIfInBounds_toArray, List.set_cons_zero, List.set_cons_succ]
        refine wpAnyH_done (by kernel_rfl) ?_ _
        obtain ⟨cs, hcs, hsz, hcell⟩ := hz4
        go_wp2_with (first
          | (refine wpList_load_row rfl 192 (.tmp 4) rfl (w.heap.size + 1) rfl 192 cs (0, 0) _ hcs Try.underlying192 rfl (by rw [info93, hsz]) ?_)
          | (refine wpList_store_row rfl 192 (.tmp 2) (.tmp 72) rfl w.heap.size cs rfl rfl 192 Try.zeroCells192 hz2 (by rw [info93, hsz]) (by rw [zc_size, hsz]) (one_of_ints hsz hcell) ?_))
        exact bodyPost_ret (lay_results _ _ w.heap.size false cs rfl rfl (setRow_heap _ _ _ _ _ _ hz2) hsz) rfl ⟨below_setRow B (Nat.le_refl _) _, cs, hsz, one_of_ints hsz hcell, .inr ⟨fun hv => hl (hv.2.2.2.2.2 i hlt).1, rfl⟩⟩
      replace hl := Classical.not_not.1 hl
      have hl' : 0 ≤ c (4 * i) ∧ 0 ≤ c (4 * i + 1) ∧ 1 ≤ c (4 * i + 2) ∧ 1 ≤ c (4 * i + 3) ∧ c (4 * i) + c (4 * i + 2) ≤ X ∧ c (4 * i + 1) + c (4 * i + 3) ≤ Y := hl
      by_cases hi0 : ¬ 0 < i
      · have d0 : decide (0 < (i : Int)) = false := by simp; omega
        go_wp2_with fail
        have hwo := hz4.lt
        have B1 := al B (.cells #[.int .i8 (c (4 * i)), .int .i8 (c (4 * i + 1)), .int .i8 (c (4 * i + 2)), .int .i8 (c (4 * i + 3))] 110)
        have H6 := Sl.new wr (c (4 * i)) (c (4 * i + 1)) (c (4 * i + 2)) (c (4 * i + 3)) 110
        have HQ := hq0.alloc (.cells #[.int .i8 (c (4 * i)), .int .i8 (c (4 * i + 1)), .int .i8 (c (4 * i + 2)), .int .i8 (c (4 * i + 3))] 110)
        replace hz2 := (Below.heap_alloc wr (.cells #[.int .i8 (c (4 * i)), .int .i8 (c (4 * i + 1)), .int .i8 (c (4 * i + 2)), .int .i8 (c (4 * i + 3))] 110) _ (Array.getElem?_eq_some_iff.1 hz2).1).trans hz2
        replace hz4 := hz4.alloc (.cells #[.int .i8 (c (4 * i)), .int .i8 (c (4 * i + 1)), .int .i8 (c (4 * i + 2)), .int .i8 (c (4 * i + 3))] 110)
        obtain ⟨W1, hW1⟩ : ∃ W1 : World, W1 = wr.alloc (.cells #[.int .i8 (c (4 * i)), .int .i8 (c (4 * i + 1)), .int .i8 (c (4 * i + 2)), .int .i8 (c (4 * i + 3))] 110) := ⟨_, rfl⟩
        rw [← hW1] at B1 H6 HQ hz2 hz4 ⊢
        clear hW1
        replace HQ : Sq W1.drew bq X Y (.slice (some ⟨g, 0, none⟩) n qc) := HQ
        replace H6 : Sl W1.drew wr.heap.size (c (4 * i)) (c (4 * i + 1)) (c (4 * i + 2)) (c (4 * i + 3)) := H6
        replace hz2 : W1.drew.heap[w.heap.size]? = _ := hz2
        replace hz4 : W1.drew.rowIs (w.heap.size + 1) 192 144 (fun p => .int .i64 (gridN c i p)) := hz4
        replace B := B1.drew
        clear B1
        obtain ⟨l6, p6, q6, r6, s6⟩ := id H6
        refine wp_region_held_drew (S := (fun w' => w'.cell? ⟨wr.heap.size, 0, none⟩ = some (.int .i8 (c (4 * i))) ∧ w'.cell? ⟨wr.heap.size, 1, none⟩ = some (.int .i8 (c (4 * i + 1))) ∧ w'.cell? ⟨wr.heap.size, 2, none⟩ = some (.int .i8 (c (4 * i + 2))) ∧ w'.cell? ⟨wr.heap.size, 3, none⟩ = some (.int .i8 (c (4 * i + 3))))) (by kernel_rfl) ⟨p6, q6, r6, s6⟩ (fun hHeld => ?_)
        refine wpAnyH_take (i := 0) (oi := _) (v := ?_) rfl (by kernel_rfl) (by kernel_rfl) (by kernel_rfl) (fun _ _ _ h => h) (Or.inl ⟨by kernel_rfl, ?_⟩) (by assumption) ?_
        rotate_left
        · intro w hSw; (try dsimp only at hSw); go_simp; first | done | with_reducible rfl
        try simp only [List.getElem_toArray, List.getElem_cons_zero, List.getElem_cons_succ, Act.put, List.setIfInBounds_toArray, List.set_cons_zero, List.set_cons_succ]
        refine wpAnyH_take (i := 1) (oi := _) (v := ?_) rfl (by kernel_rfl) (by kernel_rfl) (by kernel_rfl) (fun _ _ _ h => h) (Or.inl ⟨by kernel_rfl, ?_⟩) (by assumption) ?_
        rotate_left
        · intro w hSw; (try dsimp only at hSw); go_simp; first | done | with_reducible rfl
        try simp only [List.getElem_toArray, List.getElem_cons_zero, List.getElem_cons_succ, Act.put, List.setIfInBounds_toArray, List.set_cons_zero, List.set_cons_succ]
        refine wpAnyH_ready (rs := [2]) (by kernel_rfl) (by simp) ?_
        refine AllReadyH.cons (o := _) rfl (fun K hK => ?_) AllReadyH.nil
        go_simp
        refine (lies_yes X Y _ _ _ _ bq _ _ hX hY hb4 hb5 hb6 hb7 HQ hl').mono ?_
        rintro e w3 ⟨rfl, hb⟩
        replace B := nxt B hb
        replace HQ := HQ.below hb
        replace hz2 := (hb.block _ (Array.getElem?_eq_some_iff.1 hz2).1).trans hz2
        replace hz4 := rowNext0 hz4 hb
        replace H6 := H6.below hb
        clear hb l6 p6 q6 r6 s6
        obtain ⟨l6, p6, q6, r6, s6⟩ := id H6
        refine hK.out _ _ ⟨p6, q6, r6, s6⟩ (fun hHeld => ?_)
        clear hK K
        try simp only [List.getElem_toArray, List.getElem_cons_zero, List.getElem_cons_succ, Act.put, List.setIfInBounds_toArray, List.set_cons_zero, List.set_cons_succ]
        refine wpAnyH_take (i := 3) (oi := _) (v := ?_) rfl (by kernel_rfl) (by kernel_rfl) (by kernel_rfl) (fun _ _ _ h => h) (Or.inl ⟨by kernel_rfl, ?_⟩) (by assumption) ?_
        rotate_left
        · intro w hSw; (try dsimp only at hSw); go_simp; first | done | with_reducible rfl
        try simp only [List.getElem_toArray, List.getElem_cons_zero, List.getElem_cons_succ, Act.put, List.setIfInBounds_toArray, List.set_cons_zero, List.set_cons_succ]
        refine wpAnyH_take (i := 4) (oi := _) (v := ?_) rfl (by kernel_rfl) (by kernel_rfl) (by kernel_rfl) (fun _ _ _ h => h) (Or.inl ⟨by kernel_rfl, ?_⟩) (by assumption) ?_
        rotate_left
        · intro w hSw; (try dsimp only at hSw); go_simp; first | done | with_reducible rfl
        try simp only [List.getElem_toArray, List.getElem_cons_zero, List.getElem_cons_succ, Act.put, List.setIfInBounds_toArray, List.set_cons_zero, List.set_cons_succ]
        refine wpAnyH_take (i := 5) (oi := _) (v := ?_) rfl (by kernel_rfl) (by kernel_rfl) (by kernel_rfl) (fun _ _ _ h => h) (Or.inl ⟨by kernel_rfl, ?_⟩) (by assumption) ?_
        rotate_left
        · intro w hSw; (try dsimp only at hSw); go_simp; first | done | with_reducible rfl
        try simp only [List.getElem_toArray, List.getElem_cons_zero, List.getElem_cons_succ, Act.put, List.setIfInBounds_toArray, List.set_cons_zero, List.set_cons_succ]
        refine wpAnyH_take (i := 6) (oi := _) (v := ?_) rfl (by kernel_rfl) (by kernel_rfl) (by kernel_rfl) (fun _ _ _ h => h) (Or.inl ⟨by kernel_rfl, ?_⟩) (by assumption) ?_
        rotate_left
        · intro w hSw; (try dsimp only at hSw); go_simp; first | done | with_reducible rfl
        try simp only [List.getElem_toArray, List.getElem_cons_zero, List.getElem_cons_succ, Act.put, List.setIfInBounds_toArray, List.set_cons_zero, List.set_cons_succ]
        refine wpAnyH_take (i := 7) (oi := _) (v := ?_) rfl (by kernel_rfl) (by kernel_rfl) (by kernel_rfl) (fun _ _ _ h => h) (Or.inl ⟨by kernel_rfl, ?_⟩) (by assumption) ?_
        rotate_left
        · intro w hSw; (try dsimp only at hSw); go_simp; first | done | with_reducible rfl
        try simp only [List.getElem_toArray, List.getElem_cons_zero, List.getElem_cons_succ, Act.put, List.setIfInBounds_toArray, List.set_cons_zero, List.set_cons_succ]
        refine wpAnyH_take (i := 8) (oi := _) (v := undef) rfl (by kernel_rfl) (by kernel_rfl) (by kernel_rfl) (fun _ _ _ h => h) (Or.inr ⟨by kernel_rfl, rfl⟩) (by assumption) ?_
        try simp only [List.getElem_toArray, List.getElem_cons_zero, List.getElem_cons_succ, Act.put, List.setIfInBounds_toArray, List.set_cons_zero, List.set_cons_succ]
        refine wpAnyH_take (i := 9) (oi := _) (v := undef) rfl (by kernel_rfl) (by kernel_rfl) (by kernel_rfl) (fun _ _ _ h => h) (Or.inr ⟨by kernel_rfl, rfl⟩) (by assumption) ?_
        try simp only [List.getElem_toArray, List.getElem_cons_zero, List.getElem_cons_succ, Act.put, List.setIfInBounds_toArray, List.set_cons_zero, List.set_cons_succ]
        refine wpAnyH_take (i := 10) (oi := _) (v := undef) rfl (by kernel_rfl) (by kernel_rfl) (by kernel_rfl) (fun _ _ _ h => h) (Or.inr ⟨by kernel_rfl, rfl⟩) (by assumption) ?_
        try simp only [List.getElem_toArray, List.getElem_cons_zero, List.getElem_cons_succ, Act.put, List.setIfInBounds_toArray, List.set_cons_zero, List.set_cons_succ]
        refine wpAnyH_take (i := 11) (oi := _) (v := undef) rfl (by kernel_rfl) (by kernel_rfl) (by kernel_rfl) (fun _ _ _ h => h) (Or.inr ⟨by kernel_rfl, rfl⟩) (by assumption) ?_
        try simp only [List.getElem_toArray, List.getElem_cons_zero, List.getElem_cons_succ, Act.put, List.setIfInBounds_toArray, List.set_cons_zero, List.set_cons_succ]
        refine wpAnyH_take (i := 12) (oi := _) (v := undef) rfl (by kernel_rfl) (by kernel_rfl) (by kernel_rfl) (fun _ _ _ h => h) (Or.inr ⟨by kernel_rfl, rfl⟩) (by assumption) ?_
        try simp only [List.getElem_toArray, List.getElem_cons_zero, List.getElem_cons_succ, Act.put, List.setIfInBounds_toArray, List.set_cons_zero, List.set_cons_succ]
        refine wpAnyH_take (i := 13) (oi := _) (v := undef) rfl (by kernel_rfl) (by kernel_rfl) (by kernel_rfl) (fun _ _ _ h => h) (Or.inr ⟨by kernel_rfl, rfl⟩) (by assumption) ?_
        try simp only [List.getElem_toArray, List.getElem_cons_zero, List.getElem_cons_succ, Act.put, List.setIfInBounds_toArray, List.set_cons_zero, List.set_cons_succ]
        refine wpAnyH_take (i := 14) (oi := _) (v := undef) rfl (by kernel_rfl) (by kernel_rfl) (by kernel_rfl) (fun _ _ _ h => h) (Or.inr ⟨by kernel_rfl, rfl⟩) (by assumption) ?_
        try simp only [List.getElem_toArray, List.getElem_cons_zero, List.getElem_cons_succ, Act.put, List.setIfInBounds_toArray, List.set_cons_zero, List.set_cons_succ]
        refine wpAnyH_take (i := 15) (oi := _) (v := undef) rfl (by kernel_rfl) (by kernel_rfl) (by kernel_rfl) (fun _ _ _ h => h) (Or.inr ⟨by kernel_rfl, rfl⟩) (by assumption) ?_
        try simp only [List.getElem_toArray, List.getElem_cons_zero, List.getElem_cons_succ, Act.put, List.setIfInBounds_toArray, List.set_cons_zero, List.set_cons_succ]
        refine wpAnyH_take (i := 16) (oi := _) (v := undef) rfl (by kernel_rfl) (by kernel_rfl) (by kernel_rfl) (fun _ _ _ h => h) (Or.inr ⟨by kernel_rfl, rfl⟩) (by assumption) ?_
        try simp only [List.getElem_toArray, List.getElem_cons_zero, List.getElem_cons_succ, Act.put, List.setIfInBounds_toArray, List.set_cons_zero, List.set_cons_succ]
        refine wpAnyH_take (i := 17) (oi := _) (v := undef) rfl (by kernel_rfl) (by kernel_rfl) (by kernel_rfl) (fun _ _ _ h => h) (Or.inr ⟨by kernel_rfl, rfl⟩) (by assumption) ?_
        try simp only [List.getElem_toArray, List.getElem_cons_zero, List.getElem_cons_succ, Act.put, List.setIfInBounds_toArray, List.set_cons_zero, List.set_cons_succ]
        refine wpAnyH_take (i := 18) (oi := _) (v := undef) rfl (by kernel_rfl) (by kernel_rfl) (by kernel_rfl) (fun _ _ _ h => h) (Or.inr ⟨by kernel_rfl, rfl⟩) (by assumption) ?_
        try simp only [List.getElem_toArray, List.getElem_cons_zero, List.getElem_cons_succ, Act.put, List.setIfInBounds_toArray, List.set_cons_zero, List.set_cons_succ]
        refine wpAnyH_take (i := 19) (oi := _) (v := ?_) rfl (by kernel_rfl) (by kernel_rfl) (by kernel_rfl) (fun _ _ _ h => h) (Or.inl ⟨by kernel_rfl, ?_⟩) (by assumption) ?_
        rotate_left
        · intro w hSw; (try dsimp only at hSw); go_simp; first | done | with_reducible rfl
        try simp only [List.getElem_toArray, List.getElem_cons_zero, List.getElem_cons_succ, Act.put, List.setIfInBounds_toArray, List.set_cons_zero, List.set_cons_succ]
        refine wpAnyH_take (i := 20) (oi := _) (v := ?_) rfl (by kernel_rfl) (by kernel_rfl) (by kernel_rfl) (fun _ _ _ h => h) (Or.inl ⟨by kernel_rfl, ?_⟩) (by assumption) ?_
        rotate_left
        · intro w hSw; (try dsimp only at hSw); go_simp; first | done | with_reducible rfl
        try simp only [List.getElem_toArray, List.getElem_cons_zero, List.getElem_cons_succ, Act.put, List.setIfInBounds_toArray, List.set_cons_zero, List.set_cons_succ]
        refine wpAnyH_done (by kernel_rfl) ?_ _
        clear p6 q6 r6 s6 l6 HQ
        obtain ⟨y0, hy0⟩ := Int.eq_ofNat_of_zero_le hl'.2.1
        obtain ⟨x0, hx0⟩ := Int.eq_ofNat_of_zero_le hl'.1
        have HY0 := Lib.hid hy0
        have HX0 := Lib.hid hx0
        have hyl : (y0 : Int) ≤ 11 := by omega
        have hxl : (x0 : Int) ≤ 11 := by omega
        clear hy0 hx0
        obtain ⟨wo, rfl⟩ : ∃ wo : World, wo = wr := ⟨_, rfl⟩
        obtain ⟨l6, p6, q6, r6, s6⟩ := id H6
        go_wp2_with fail
        clear p6 q6 r6 s6 l6
        go_loopw [7, 8] (fun t7 t8 W => ∃ y : Nat, t7 = .int .i8 y ∧ c (4 * (i) + 1) ≤ (y : Int) ∧ (y : Int) ≤ c (4 * (i) + 1) + c (4 * (i) + 3) ∧ Below w.heap.size w W ∧ W.heap[w.heap.size]? = some (.cells Try.zeroCells192 192 (0, 0)) ∧ W.rowIs (w.heap.size + 1) 192 144 (fun p => .int .i64 (gridP c (i) y 0 p)) ∧ Sl W wo.heap.size (c (4 * (i))) (c (4 * (i) + 1)) (c (4 * (i) + 2)) (c (4 * (i) + 3)) ∧ opnP c (i) y 0)
          (fun t7 t8 W => (c (4 * (i) + 1) + c (4 * (i) + 3) - intOf t7).toNat)
        case atStart => exact ⟨y0, by rw [HY0.out], Int.le_of_eq HY0.out, by have := HY0.out; omega, B, hz2, hz4.congr (fun p _ => by rw [gridP_start HY0.out.symm]), H6, opnP_start HY0.out.symm⟩
        case round =>
          clear B hz2 hz4 H6 HY0 hyl
          obtain ⟨y, rfl, hy1, hy2, B, hz2, hz4, H6, ho⟩ := hrel
          obtain ⟨wo2, rfl⟩ : ∃ wo2 : World, wo2 = wr := ⟨_, rfl⟩
          obtain ⟨l6, p6, q6, r6, s6⟩ := id H6
          by_cases hyt : (y : Int) < c (4 * (i) + 1) + c (4 * (i) + 3)
          · have hy11 : (y : Int) ≤ 11 := by omega
            go_wp2_with fail
            clear p6 q6 r6 s6 l6
            go_loopw [8] (fun t8 W => ∃ x : Nat, t8 = .int .i8 x ∧ c (4 * (i)) ≤ (x : Int) ∧ (x : Int) ≤ c (4 * (i)) + c (4 * (i) + 2) ∧ Below w.heap.size w W ∧ W.heap[w.heap.size]? = some (.cells Try.zeroCells192 192 (0, 0)) ∧ W.rowIs (w.heap.size + 1) 192 144 (fun p => .int .i64 (gridP c (i) y x p)) ∧ Sl W wo.heap.size (c (4 * (i))) (c (4 * (i) + 1)) (c (4 * (i) + 2)) (c (4 * (i) + 3)) ∧ opnP c (i) y x)
              (fun t8 W => (c (4 * (i)) + c (4 * (i) + 2) - intOf t8).toNat)
            case atStart => exact ⟨x0, by rw [HX0.out], Int.le_of_eq HX0.out, by have := HX0.out; omega, B, hz2, hz4.congr (fun p _ => by rw [gridP_row HX0.out.symm]), H6, opnP_row HX0.out.symm ho⟩
            case round =>
              clear B hz2 hz4 H6 HX0 hxl ho
              obtain ⟨x, rfl, hx1, hx2, B, hz2, hz4, H6, ho⟩ := hrel
              obtain ⟨wo3, rfl⟩ : ∃ wo3 : World, wo3 = wr := ⟨_, rfl⟩
              obtain ⟨l6, p6, q6, r6, s6⟩ := id H6
              by_cases hxt : (x : Int) < c (4 * (i)) + c (4 * (i) + 2)
              · have hx11 : (x : Int) ≤ 11 := by omega
                have hx12 : x < 12 := by omega
                have hcl := hz4.cell (i := y * 12 + x) (by omega)
                have hfz := hz4.frozen (y * 12 + x)
                simp only [gridP_self hx12] at hcl
                by_cases h0 : gridN c (i) (y * 12 + x) = 0
                · have b1 : (gridN c (i) (y * 12 + x) != 0) = false := by simpa using h0
                  have H0 := Lib.hid h0
                  clear h0
                  go_wp2_with fail
                  exact ⟨⟨x + 1, by first | go_num | simp, by omega, by omega, B.setCell (Nat.le_succ _) _, (Below.heap_setCell _ _ _ _ (Nat.ne_of_lt (Nat.lt_succ_self _))).trans hz2,
                    (hz4.set (y * 12 + x) _).congr (fun p _ => by rw [gridP_cell hx12 hx1 hxt hy1 hyt]; split <;> first | rfl | (congr 1; omega)), H6.of_block (by simp) (Below.heap_setCell _ _ _ _ (by simp; omega)), opnP_cell hx12 hx1 hxt hy1 hyt ho H0.out⟩, by simp [intOf]; omega⟩
                · have b1 : (gridN c (i) (y * 12 + x) != 0) = true := by simpa using h0
                  have HN : ¬ opn c (i) := fun h => h0 (h (y * 12 + x) (by omega) (cov_self hx12 hx1 hxt hy1 hyt))
                  clear h0
                  obtain ⟨cs, hcs, hsz, hcell⟩ := hz4
                  go_wp2_with (first
                    | (refine wpList_load_row rfl 192 (.tmp 4) rfl (w.heap.size + 1) rfl 192 cs (0, 0) _ hcs Try.underlying192 rfl (by rw [info93, hsz]) ?_)
                    | (refine wpList_store_row rfl 192 (.tmp 2) (.tmp 101) rfl w.heap.size cs rfl rfl 192 Try.zeroCells192 hz2 (by rw [info93, hsz]) (by rw [zc_size, hsz]) (one_of_ints hsz hcell) ?_))
                  refine bodyPost_ret (lay_results _ _ w.heap.size false cs rfl rfl (setRow_heap _ _ _ _ _ _ hz2) hsz) rfl ⟨below_setRow B (Nat.le_refl _) _, cs, hsz, one_of_ints hsz hcell, ?_⟩
                  · exact .inr ⟨fun hv => HN (hv.2.2.2.2.2 (i) hlt).2.2, rfl⟩
              · obtain hxe : (x : Int) = c (4 * (i)) + c (4 * (i) + 2) := by omega
                have HXE := Lib.hid hxe
                clear hxe
                go_wp2_with fail
                exact ⟨⟨y + 1, by first | go_num | simp, by omega, by omega, B, hz2, hz4.congr (fun p _ => by rw [gridP_next HXE.out]), H6, opnP_next HXE.out ho⟩, by simp [intOf]; omega⟩
          · obtain hye : (y : Int) = c (4 * (i) + 1) + c (4 * (i) + 3) := by omega
            have HYE := Lib.hid hye
            clear hye
            go_wp2_with fail
            exact ⟨⟨i + 1, by omega, by first | go_num | simp, B, hz2, hz4.congr (fun p _ => by rw [gridP_end HYE.out]), hok.step ⟨hl, (fun j hj => absurd hi0 (by omega)), opn_end HYE.out ho⟩⟩, by simp [intOf]; omega⟩
      replace hi0 := Classical.not_not.1 hi0
      obtain ⟨j, rfl⟩ : ∃ j, i = j + 1 := ⟨i - 1, by omega⟩
      have d0 : decide (0 < ((j + 1 : Nat) : Int)) = true := by first | (simp; done) | (simp; omega)
      have d1 : decide (0 < (j : Int) + 1) = true := by first | (simp; done) | (simp; omega)
      by_cases hbf : ¬ befo c j
      · have hbf' : ¬ (c (4 * j + 1) < c (4 * (j + 1) + 1) ∨ (c (4 * j + 1) = c (4 * (j + 1) + 1) ∧ c (4 * j) < c (4 * (j + 1)))) := hbf
        go_wp2_with fail
        have hwo := hz4.lt
        have B1 := al B (.cells #[.int .i8 (c (4 * (j + 1))), .int .i8 (c (4 * (j + 1) + 1)), .int .i8 (c (4 * (j + 1) + 2)), .int .i8 (c (4 * (j + 1) + 3))] 110)
        have H6 := Sl.new wr (c (4 * (j + 1))) (c (4 * (j + 1) + 1)) (c (4 * (j + 1) + 2)) (c (4 * (j + 1) + 3)) 110
        have HQ := hq0.alloc (.cells #[.int .i8 (c (4 * (j + 1))), .int .i8 (c (4 * (j + 1) + 1)), .int .i8 (c (4 * (j + 1) + 2)), .int .i8 (c (4 * (j + 1) + 3))] 110)
        replace hz2 := (Below.heap_alloc wr (.cells #[.int .i8 (c (4 * (j + 1))), .int .i8 (c (4 * (j + 1) + 1)), .int .i8 (c (4 * (j + 1) + 2)), .int .i8 (c (4 * (j + 1) + 3))] 110) _ (Array.getElem?_eq_some_iff.1 hz2).1).trans hz2
        replace hz4 := hz4.alloc (.cells #[.int .i8 (c (4 * (j + 1))), .int .i8 (c (4 * (j + 1) + 1)), .int .i8 (c (4 * (j + 1) + 2)), .int .i8 (c (4 * (j + 1) + 3))] 110)
        obtain ⟨W1, hW1⟩ : ∃ W1 : World, W1 = wr.alloc (.cells #[.int .i8 (c (4 * (j + 1))), .int .i8 (c (4 * (j + 1) + 1)), .int .i8 (c (4 * (j + 1) + 2)), .int .i8 (c (4 * (j + 1) + 3))] 110) := ⟨_, rfl⟩
        rw [← hW1] at B1 H6 HQ hz2 hz4 ⊢
        clear hW1
        replace HQ : Sq W1.drew bq X Y (.slice (some ⟨g, 0, none⟩) n qc) := HQ
        replace H6 : Sl W1.drew wr.heap.size (c (4 * (j + 1))) (c (4 * (j + 1) + 1)) (c (4 * (j + 1) + 2)) (c (4 * (j + 1) + 3)) := H6
        replace hz2 : W1.drew.heap[w.heap.size]? = _ := hz2
        replace hz4 : W1.drew.rowIs (w.heap.size + 1) 192 144 (fun p => .int .i64 (gridN c (j + 1) p)) := hz4
        replace B := B1.drew
        clear B1
        obtain ⟨l6, p6, q6, r6, s6⟩ := id H6
        obtain ⟨e0, e1, e2, e3⟩ := (Rw.own (hrow.of_block (B.block _ hrow.lt))).at4 (k := j) (by omega) |>.1
        simp only [Nat.zero_add] at e0 e1 e2 e3
        refine wp_region_held_drew (S := (fun w' => w'.cell? ⟨wr.heap.size, 0, none⟩ = some (.int .i8 (c (4 * (j + 1)))) ∧ w'.cell? ⟨wr.heap.size, 1, none⟩ = some (.int .i8 (c (4 * (j + 1) + 1))) ∧ w'.cell? ⟨wr.heap.size, 2, none⟩ = some (.int .i8 (c (4 * (j + 1) + 2))) ∧ w'.cell? ⟨wr.heap.size, 3, none⟩ = some (.int .i8 (c (4 * (j + 1) + 3))) ∧ w'.cell? ⟨bq, 2, none⟩ = some (.slice (some ⟨g, 0, none⟩) n qc) ∧ w'.cell? ⟨g, j * 4, none⟩ = some (.int .i8 (c (4 * j))) ∧ w'.cell? ⟨g, j * 4 + 1, none⟩ = some (.int .i8 (c (4 * j + 1))) ∧ w'.cell? ⟨g, j * 4 + 2, none⟩ = some (.int .i8 (c (4 * j + 2))) ∧ w'.cell? ⟨g, j * 4 + 3, none⟩ = some (.int .i8 (c (4 * j + 3))))) (by kernel_rfl) ⟨p6, q6, r6, s6, HQ.2.2.2, e0, e1, e2, e3⟩ (fun hHeld => ?_)
        refine wpAnyH_take (i := 0) (oi := _) (v := ?_) rfl (by kernel_rfl) (by kernel_rfl) (by kernel_rfl) (fun _ _ _ h => h) (Or.inl ⟨by kernel_rfl, ?_⟩) (by assumption) ?_
        rotate_left
        · intro w hSw; (try dsimp only at hSw); go_simp; first | done | with_reducible rfl
        try simp only [List.getElem_toArray, List.getElem_cons_zero, List.getElem_cons_succ, Act.put, List.setIfInBounds_toArray, List.set_cons_zero, List.set_cons_succ]
        refine wpAnyH_take (i := 1) (oi := _) (v := ?_) rfl (by kernel_rfl) (by kernel_rfl) (by kernel_rfl) (fun _ _ _ h => h) (Or.inl ⟨by kernel_rfl, ?_⟩) (by assumption) ?_
        rotate_left
        · intro w hSw; (try dsimp only at hSw); go_simp; first | done | with_reducible rfl
        try simp only [List.getElem_toArray, List.getElem_cons_zero, List.getElem_cons_succ, Act.put, List.setIfInBounds_toArray, List.set_cons_zero, List.set_cons_succ]
        refine wpAnyH_ready (rs := [2]) (by kernel_rfl) (by simp) ?_
        refine AllReadyH.cons (o := _) rfl (fun K hK => ?_) AllReadyH.nil
        go_simp
        refine (lies_yes X Y _ _ _ _ bq _ _ hX hY hb4 hb5 hb6 hb7 HQ hl').mono ?_
        rintro e w3 ⟨rfl, hb⟩
        replace B := nxt B hb
        replace HQ := HQ.below hb
        replace hz2 := (hb.block _ (Array.getElem?_eq_some_iff.1 hz2).1).trans hz2
        replace hz4 := rowNext0 hz4 hb
        replace H6 := H6.below hb
        clear hb l6 p6 q6 r6 s6 e0 e1 e2 e3
        obtain ⟨l6, p6, q6, r6, s6⟩ := id H6
        obtain ⟨e0, e1, e2, e3⟩ := (Rw.own (hrow.of_block (B.block _ hrow.lt))).at4 (k := j) (by omega) |>.1
        simp only [Nat.zero_add] at e0 e1 e2 e3
        refine hK.out _ _ ⟨p6, q6, r6, s6, HQ.2.2.2, e0, e1, e2, e3⟩ (fun hHeld => ?_)
        clear hK K
        try simp only [List.getElem_toArray, List.getElem_cons_zero, List.getElem_cons_succ, Act.put, List.setIfInBounds_toArray, List.set_cons_zero, List.set_cons_succ]
        have wj : IntKind.i64.wrap (j : Int) = (j : Int) := IntWalk.i64_in _ (by omega)
        have hj0 : 0 ≤ (j : Int) := by omega
        have hjn : (j : Int) < (n : Int) := by omega
        refine wpAnyH_take (i := 3) (oi := _) (v := ?_) rfl (by kernel_rfl) (by kernel_rfl) (by kernel_rfl) (fun _ _ _ h => h) (Or.inl ⟨by kernel_rfl, ?_⟩) (by assumption) ?_
        rotate_left
        · intro w hSw; (try dsimp only at hSw); go_simp; first | done | with_reducible rfl
        try simp only [List.getElem_toArray, List.getElem_cons_zero, List.getElem_cons_succ, Act.put, List.setIfInBounds_toArray, List.set_cons_zero, List.set_cons_succ]
        refine wpAnyH_take (i := 4) (oi := _) (v := ?_) rfl (by kernel_rfl) (by kernel_rfl) (by kernel_rfl) (fun _ _ _ h => h) (Or.inl ⟨by kernel_rfl, ?_⟩) (by assumption) ?_
        rotate_left
        · intro w hSw; (try dsimp only at hSw); go_simp; first | done | with_reducible rfl
        try simp only [List.getElem_toArray, List.getElem_cons_zero, List.getElem_cons_succ, Act.put, List.setIfInBounds_toArray, List.set_cons_zero, List.set_cons_succ]
        refine wpAnyH_take (i := 5) (oi := _) (v := ?_) rfl (by kernel_rfl) (by kernel_rfl) (by kernel_rfl) (fun _ _ _ h => h) (Or.inl ⟨by kernel_rfl, ?_⟩) (by assumption) ?_
        rotate_left
        · intro w hSw; (try dsimp only at hSw); go_simp; first | done | with_reducible rfl
        try simp only [List.getElem_toArray, List.getElem_cons_zero, List.getElem_cons_succ, Act.put, List.setIfInBounds_toArray, List.set_cons_zero, List.set_cons_succ]
        refine wpAnyH_take (i := 6) (oi := _) (v := ?_) rfl (by kernel_rfl) (by kernel_rfl) (by kernel_rfl) (fun _ _ _ h => h) (Or.inl ⟨by kernel_rfl, ?_⟩) (by assumption) ?_
        rotate_left
        · intro w hSw; (try dsimp only at hSw); go_simp; first | done | with_reducible rfl
        try simp only [List.getElem_toArray, List.getElem_cons_zero, List.getElem_cons_succ, Act.put, List.setIfInBounds_toArray, List.set_cons_zero, List.set_cons_succ]
        refine wpAnyH_take (i := 7) (oi := _) (v := ?_) rfl (by kernel_rfl) (by kernel_rfl) (by kernel_rfl) (fun _ _ _ h => h) (Or.inl ⟨by kernel_rfl, ?_⟩) (by assumption) ?_
        rotate_left
        · intro w hSw; (try dsimp only at hSw); go_simp; first | done | with_reducible rfl
        try simp only [List.getElem_toArray, List.getElem_cons_zero, List.getElem_cons_succ, Act.put, List.setIfInBounds_toArray, List.set_cons_zero, List.set_cons_succ]
        refine wpAnyH_take (i := 8) (oi := _) (v := ?_) rfl (by kernel_rfl) (by kernel_rfl) (by kernel_rfl) (fun _ _ _ h => h) (Or.inl ⟨by kernel_rfl, ?_⟩) (by assumption) ?_
        rotate_left
        · intro w hSw; (try dsimp only at hSw); go_simp; first | done | with_reducible rfl
        try simp only [List.getElem_toArray, List.getElem_cons_zero, List.getElem_cons_succ, Act.put, List.setIfInBounds_toArray, List.set_cons_zero, List.set_cons_succ]
        refine wpAnyH_take (i := 9) (oi := _) (v := ?_) rfl (by kernel_rfl) (by kernel_rfl) (by kernel_rfl) (fun _ _ _ h => h) (Or.inl ⟨by kernel_rfl, ?_⟩) (by assumption) ?_
        rotate_left
        · intro w hSw; (try dsimp only at hSw); go_simp; first | done | with_reducible rfl
        try simp only [List.getElem_toArray, List.getElem_cons_zero, List.getElem_cons_succ, Act.put, List.setIfInBounds_toArray, List.set_cons_zero, List.set_cons_succ]
        refine wpAnyH_take (i := 10) (oi := _) (v := ?_) rfl (by kernel_rfl) (by kernel_rfl) (by kernel_rfl) (fun _ _ _ h => h) (Or.inl ⟨by kernel_rfl, ?_⟩) (by assumption) ?_
        rotate_left
        · intro w hSw; (try dsimp only at hSw); go_simp; first | done | with_reducible rfl
        try simp only [List.getElem_toArray, List.getElem_cons_zero, List.getElem_cons_succ, Act.put, List.setIfInBounds_toArray, List.set_cons_zero, List.set_cons_succ]
        refine wpAnyH_take (i := 11) (oi := _) (v := ?_) rfl (by kernel_rfl) (by kernel_rfl) (by kernel_rfl) (fun _ _ _ h => h) (Or.inl ⟨by kernel_rfl, ?_⟩) (by assumption) ?_
        rotate_left
        · intro w hSw; (try dsimp only at hSw); go_simp; first | done | with_reducible rfl
        try simp only [List.getElem_toArray, List.getElem_cons_zero, List.getElem_cons_succ, Act.put, List.setIfInBounds_toArray, List.set_cons_zero, List.set_cons_succ]
        refine wpAnyH_take (i := 12) (oi := _) (v := ?_) rfl (by kernel_rfl) (by kernel_rfl) (by kernel_rfl) (fun _ _ _ h => h) (Or.inl ⟨by kernel_rfl, ?_⟩) (by assumption) ?_
        rotate_left
        · intro w hSw; (try dsimp only at hSw); go_simp; first | done | with_reducible rfl
        try simp only [List.getElem_toArray, List.getElem_cons_zero, List.getElem_cons_succ, Act.put, List.setIfInBounds_toArray, List.set_cons_zero, List.set_cons_succ]
        refine wpAnyH_take (i := 13) (oi := _) (v := ?_) rfl (by kernel_rfl) (by kernel_rfl) (by kernel_rfl) (fun _ _ _ h => h) (Or.inl ⟨by kernel_rfl, ?_⟩) (by assumption) ?_
        rotate_left
        · intro w hSw; (try dsimp only at hSw); go_simp; first | done | with_reducible rfl
        try simp only [List.getElem_toArray, List.getElem_cons_zero, List.getElem_cons_succ, Act.put, List.setIfInBounds_toArray, List.set_cons_zero, List.set_cons_succ]
        refine wpAnyH_take (i := 14) (oi := _) (v := ?_) rfl (by kernel_rfl) (by kernel_rfl) (by kernel_rfl) (fun _ _ _ h => h) (Or.inl ⟨by kernel_rfl, ?_⟩) (by assumption) ?_
        rotate_left
        · intro w hSw; (try dsimp only at hSw); go_simp; first | done | with_reducible rfl
        try simp only [List.getElem_toArray, List.getElem_cons_zero, List.getElem_cons_succ, Act.put, List.setIfInBounds_toArray, List.set_cons_zero, List.set_cons_succ]
        refine wpAnyH_take (i := 15) (oi := _) (v := ?_) rfl (by kernel_rfl) (by kernel_rfl) (by kernel_rfl) (fun _ _ _ h => h) (Or.inl ⟨by kernel_rfl, ?_⟩) (by assumption) ?_
        rotate_left
        · intro w hSw; (try dsimp only at hSw); go_simp; first | done | with_reducible rfl
        try simp only [List.getElem_toArray, List.getElem_cons_zero, List.getElem_cons_succ, Act.put, List.setIfInBounds_toArray, List.set_cons_zero, List.set_cons_succ]
        refine wpAnyH_take (i := 16) (oi := _) (v := ?_) rfl (by kernel_rfl) (by kernel_rfl) (by kernel_rfl) (fun _ _ _ h => h) (Or.inl ⟨by kernel_rfl, ?_⟩) (by assumption) ?_
        rotate_left
        · intro w hSw; (try dsimp only at hSw); go_simp; first | done | with_reducible rfl
        try simp only [List.getElem_toArray, List.getElem_cons_zero, List.getElem_cons_succ, Act.put, List.setIfInBounds_toArray, List.set_cons_zero, List.set_cons_succ]
        clear wj hj0 hjn
        refine wpAnyH_ready (rs := [17]) (by kernel_rfl) (by simp) ?_
        refine AllReadyH.cons (o := _) rfl (fun K hK => ?_) AllReadyH.nil
        go_simp
        refine (bef_no _ _ _ _ _ _ _ _ _ hbf').mono ?_
        rintro e w4 ⟨rfl, hb⟩
        replace B := nxt B hb
        replace HQ := HQ.below hb
        replace hz2 := (hb.block _ (Array.getElem?_eq_some_iff.1 hz2).1).trans hz2
        replace hz4 := rowNext0 hz4 hb
        replace H6 := H6.below hb
        clear hb l6 p6 q6 r6 s6 e0 e1 e2 e3
        obtain ⟨l6, p6, q6, r6, s6⟩ := id H6
        obtain ⟨e0, e1, e2, e3⟩ := (Rw.own (hrow.of_block (B.block _ hrow.lt))).at4 (k := j) (by omega) |>.1
        simp only [Nat.zero_add] at e0 e1 e2 e3
        refine hK.out _ _ ⟨p6, q6, r6, s6, HQ.2.2.2, e0, e1, e2, e3⟩ (fun hHeld => ?_)
        clear hK K
        try simp only [List.getElem_toArray, List.getElem_cons_zero, List.getElem_cons_succ, Act.put, List.setIfInBounds_toArray, List.set_cons_zero, List.set_cons_succ]
        refine wpAnyH_take (i := 18) (oi := _) (v := ?_) rfl (by kernel_rfl) (by kernel_rfl) (by kernel_rfl) (fun _ _ _ h => h) (Or.inl ⟨by kernel_rfl, ?_⟩) (by assumption) ?_
        rotate_left
        · intro w hSw; (try dsimp only at hSw); go_simp; first | done | with_reducible rfl
        try simp only [List.getElem_toArray, List.getElem_cons_zero, List.getElem_cons_succ, Act.put, List.setIfInBounds_toArray, List.set_cons_zero, List.set_cons_succ]
        refine wpAnyH_take (i := 19) (oi := _) (v := ?_) rfl (by kernel_rfl) (by kernel_rfl) (by kernel_rfl) (fun _ _ _ h => h) (Or.inl ⟨by kernel_rfl, ?_⟩) (by assumption) ?_
        rotate_left
        · intro w hSw; (try dsimp only at hSw); go_simp; first | done | with_reducible rfl
        try simp only [List.getElem_toArray, List.getElem_cons_zero, List.getElem_cons_succ, Act.put, List.setIfInBounds_toArray, List.set_cons_zero, List.set_cons_succ]
        refine wpAnyH_take (i := 20) (oi := _) (v := ?_) rfl (by kernel_rfl) (by kernel_rfl) (by kernel_rfl) (fun _ _ _ h => h) (Or.inl ⟨by kernel_rfl, ?_⟩) (by assumption) ?_
        rotate_left
        · intro w hSw; (try dsimp only at hSw); go_simp; first | done | with_reducible rfl
        try simp only [List.getElem_toArray, List.getElem_cons_zero, List.getElem_cons_succ, Act.put, List.setIfInBounds_toArray, List.set_cons_zero, List.set_cons_succ]
        refine wpAnyH_done (by kernel_rfl) ?_ _
        obtain ⟨cs, hcs, hsz, hcell⟩ := hz4
        go_wp2_with (first
          | (refine wpList_load_row rfl 192 (.tmp 4) rfl (w.heap.size + 1) rfl 192 cs (0, 0) _ hcs Try.underlying192 rfl (by rw [info93, hsz]) ?_)
          | (refine wpList_store_row rfl 192 (.tmp 2) (.tmp 72) rfl w.heap.size cs rfl rfl 192 Try.zeroCells192 hz2 (by rw [info93, hsz]) (by rw [zc_size, hsz]) (one_of_ints hsz hcell) ?_))
        exact bodyPost_ret (lay_results _ _ w.heap.size false cs rfl rfl (setRow_heap _ _ _ _ _ _ hz2) hsz) rfl ⟨below_setRow B (Nat.le_refl _) _, cs, hsz, one_of_ints hsz hcell, .inr ⟨fun hv => hbf ((hv.2.2.2.2.2 (j + 1) hlt).2.1 j rfl), rfl⟩⟩
      · replace hbf := Classical.not_not.1 hbf
        have hbf' : c (4 * j + 1) < c (4 * (j + 1) + 1) ∨ (c (4 * j + 1) = c (4 * (j + 1) + 1) ∧ c (4 * j) < c (4 * (j + 1))) := hbf
        go_wp2_with fail
        have hwo := hz4.lt
        have B1 := al B (.cells #[.int .i8 (c (4 * (j + 1))), .int .i8 (c (4 * (j + 1) + 1)), .int .i8 (c (4 * (j + 1) + 2)), .int .i8 (c (4 * (j + 1) + 3))] 110)
        have H6 := Sl.new wr (c (4 * (j + 1))) (c (4 * (j + 1) + 1)) (c (4 * (j + 1) + 2)) (c (4 * (j + 1) + 3)) 110
        have HQ := hq0.alloc (.cells #[.int .i8 (c (4 * (j + 1))), .int .i8 (c (4 * (j + 1) + 1)), .int .i8 (c (4 * (j + 1) + 2)), .int .i8 (c (4 * (j + 1) + 3))] 110)
        replace hz2 := (Below.heap_alloc wr (.cells #[.int .i8 (c (4 * (j + 1))), .int .i8 (c (4 * (j + 1) + 1)), .int .i8 (c (4 * (j + 1) + 2)), .int .i8 (c (4 * (j + 1) + 3))] 110) _ (Array.getElem?_eq_some_iff.1 hz2).1).trans hz2
        replace hz4 := hz4.alloc (.cells #[.int .i8 (c (4 * (j + 1))), .int .i8 (c (4 * (j + 1) + 1)), .int .i8 (c (4 * (j + 1) + 2)), .int .i8 (c (4 * (j + 1) + 3))] 110)
        obtain ⟨W1, hW1⟩ : ∃ W1 : World, W1 = wr.alloc (.cells #[.int .i8 (c (4 * (j + 1))), .int .i8 (c (4 * (j + 1) + 1)), .int .i8 (c (4 * (j + 1) + 2)), .int .i8 (c (4 * (j + 1) + 3))] 110) := ⟨_, rfl⟩
        rw [← hW1] at B1 H6 HQ hz2 hz4 ⊢
        clear hW1
        replace HQ : Sq W1.drew bq X Y (.slice (some ⟨g, 0, none⟩) n qc) := HQ
        replace H6 : Sl W1.drew wr.heap.size (c (4 * (j + 1))) (c (4 * (j + 1) + 1)) (c (4 * (j + 1) + 2)) (c (4 * (j + 1) + 3)) := H6
        replace hz2 : W1.drew.heap[w.heap.size]? = _ := hz2
        replace hz4 : W1.drew.rowIs (w.heap.size + 1) 192 144 (fun p => .int .i64 (gridN c (j + 1) p)) := hz4
        replace B := B1.drew
        clear B1
        obtain ⟨l6, p6, q6, r6, s6⟩ := id H6
        obtain ⟨e0, e1, e2, e3⟩ := (Rw.own (hrow.of_block (B.block _ hrow.lt))).at4 (k := j) (by omega) |>.1
        simp only [Nat.zero_add] at e0 e1 e2 e3
        refine wp_region_held_drew (S := (fun w' => w'.cell? ⟨wr.heap.size, 0, none⟩ = some (.int .i8 (c (4 * (j + 1)))) ∧ w'.cell? ⟨wr.heap.size, 1, none⟩ = some (.int .i8 (c (4 * (j + 1) + 1))) ∧ w'.cell? ⟨wr.heap.size, 2, none⟩ = some (.int .i8 (c (4 * (j + 1) + 2))) ∧ w'.cell? ⟨wr.heap.size, 3, none⟩ = some (.int .i8 (c (4 * (j + 1) + 3))) ∧ w'.cell? ⟨bq, 2, none⟩ = some (.slice (some ⟨g, 0, none⟩) n qc) ∧ w'.cell? ⟨g, j * 4, none⟩ = some (.int .i8 (c (4 * j))) ∧ w'.cell? ⟨g, j * 4 + 1, none⟩ = some (.int .i8 (c (4 * j + 1))) ∧ w'.cell? ⟨g, j * 4 + 2, none⟩ = some (.int .i8 (c (4 * j + 2))) ∧ w'.cell? ⟨g, j * 4 + 3, none⟩ = some (.int .i8 (c (4 * j + 3))))) (by kernel_rfl) ⟨p6, q6, r6, s6, HQ.2.2.2, e0, e1, e2, e3⟩ (fun hHeld => ?_)
        refine wpAnyH_take (i := 0) (oi := _) (v := ?_) rfl (by kernel_rfl) (by kernel_rfl) (by kernel_rfl) (fun _ _ _ h => h) (Or.inl ⟨by kernel_rfl, ?_⟩) (by assumption) ?_
        rotate_left
        · intro w hSw; (try dsimp only at hSw); go_simp; first | done | with_reducible rfl
        try simp only [List.getElem_toArray, List.getElem_cons_zero, List.getElem_cons_succ, Act.put, List.setIfInBounds_toArray, List.set_cons_zero, List.set_cons_succ]
        refine wpAnyH_take (i := 1) (oi := _) (v := ?_) rfl (by kernel_rfl) (by kernel_rfl) (by kernel_rfl) (fun _ _ _ h => h) (Or.inl ⟨by kernel_rfl, ?_⟩) (by assumption) ?_
        rotate_left
        · intro w hSw; (try dsimp only at hSw); go_simp; first | done | with_reducible rfl
        try simp only [List.getElem_toArray, List.getElem_cons_zero, List.getElem_cons_succ, Act.put, List.setIfInBounds_toArray, List.set_cons_zero, List.set_cons_succ]
        refine wpAnyH_ready (rs := [2]) (by kernel_rfl) (by simp) ?_
        refine AllReadyH.cons (o := _) rfl (fun K hK => ?_) AllReadyH.nil
        go_simp
        refine (lies_yes X Y _ _ _ _ bq _ _ hX hY hb4 hb5 hb6 hb7 HQ hl').mono ?_
        rintro e w3 ⟨rfl, hb⟩
        replace B := nxt B hb
        replace HQ := HQ.below hb
        replace hz2 := (hb.block _ (Array.getElem?_eq_some_iff.1 hz2).1).trans hz2
        replace hz4 := rowNext0 hz4 hb
        replace H6 := H6.below hb
        clear hb l6 p6 q6 r6 s6 e0 e1 e2 e3
        obtain ⟨l6, p6, q6, r6, s6⟩ := id H6
        obtain ⟨e0, e1, e2, e3⟩ := (Rw.own (hrow.of_block (B.block _ hrow.lt))).at4 (k := j) (by omega) |>.1
        simp only [Nat.zero_add] at e0 e1 e2 e3
        refine hK.out _ _ ⟨p6, q6, r6, s6, HQ.2.2.2, e0, e1, e2, e3⟩ (fun hHeld => ?_)
        clear hK K
        try simp only [List.getElem_toArray, List.getElem_cons_zero, List.getElem_cons_succ, Act.put, List.setIfInBounds_toArray, List.set_cons_zero, List.set_cons_succ]
        have wj : IntKind.i64.wrap (j : Int) = (j : Int) := IntWalk.i64_in _ (by omega)
        have hj0 : 0 ≤ (j : Int) := by omega
        have hjn : (j : Int) < (n : Int) := by omega
        refine wpAnyH_take (i := 3) (oi := _) (v := ?_) rfl (by kernel_rfl) (by kernel_rfl) (by kernel_rfl) (fun _ _ _ h => h) (Or.inl ⟨by kernel_rfl, ?_⟩) (by assumption) ?_
        rotate_left
        · intro w hSw; (try dsimp only at hSw); go_simp; first | done | with_reducible rfl
        try simp only [List.getElem_toArray, List.getElem_cons_zero, List.getElem_cons_succ, Act.put, List.setIfInBounds_toArray, List.set_cons_zero, List.set_cons_succ]
        refine wpAnyH_take (i := 4) (oi := _) (v := ?_) rfl (by kernel_rfl) (by kernel_rfl) (by kernel_rfl) (fun _ _ _ h => h) (Or.inl ⟨by kernel_rfl, ?_⟩) (by assumption) ?_
        rotate_left
        · intro w hSw; (try dsimp only at hSw); go_simp; first | done | with_reducible rfl
        try simp only [List.getElem_toArray, List.getElem_cons_zero, List.getElem_cons_succ, Act.put, List.setIfInBounds_toArray, List.set_cons_zero, List.set_cons_succ]
        refine wpAnyH_take (i := 5) (oi := _) (v := ?_) rfl (by kernel_rfl) (by kernel_rfl) (by kernel_rfl) (fun _ _ _ h => h) (Or.inl ⟨by kernel_rfl, ?_⟩) (by assumption) ?_
        rotate_left
        · intro w hSw; (try dsimp only at hSw); go_simp; first | done | with_reducible rfl
        try simp only [List.getElem_toArray, List.getElem_cons_zero, List.getElem_cons_succ, Act.put, List.setIfInBounds_toArray, List.set_cons_zero, List.set_cons_succ]
        refine wpAnyH_take (i := 6) (oi := _) (v := ?_) rfl (by kernel_rfl) (by kernel_rfl) (by kernel_rfl) (fun _ _ _ h => h) (Or.inl ⟨by kernel_rfl, ?_⟩) (by assumption) ?_
        rotate_left
        · intro w hSw; (try dsimp only at hSw); go_simp; first | done | with_reducible rfl
        try simp only [List.getElem_toArray, List.getElem_cons_zero, List.getElem_cons_succ, Act.put, List.setIfInBounds_toArray, List.set_cons_zero, List.set_cons_succ]
        refine wpAnyH_take (i := 7) (oi := _) (v := ?_) rfl (by kernel_rfl) (by kernel_rfl) (by kernel_rfl) (fun _ _ _ h => h) (Or.inl ⟨by kernel_rfl, ?_⟩) (by assumption) ?_
        rotate_left
        · intro w hSw; (try dsimp only at hSw); go_simp; first | done | with_reducible rfl
        try simp only [List.getElem_toArray, List.getElem_cons_zero, List.getElem_cons_succ, Act.put, List.setIfInBounds_toArray, List.set_cons_zero, List.set_cons_succ]
        refine wpAnyH_take (i := 8) (oi := _) (v := ?_) rfl (by kernel_rfl) (by kernel_rfl) (by kernel_rfl) (fun _ _ _ h => h) (Or.inl ⟨by kernel_rfl, ?_⟩) (by assumption) ?_
        rotate_left
        · intro w hSw; (try dsimp only at hSw); go_simp; first | done | with_reducible rfl
        try simp only [List.getElem_toArray, List.getElem_cons_zero, List.getElem_cons_succ, Act.put, List.setIfInBounds_toArray, List.set_cons_zero, List.set_cons_succ]
        refine wpAnyH_take (i := 9) (oi := _) (v := ?_) rfl (by kernel_rfl) (by kernel_rfl) (by kernel_rfl) (fun _ _ _ h => h) (Or.inl ⟨by kernel_rfl, ?_⟩) (by assumption) ?_
        rotate_left
        · intro w hSw; (try dsimp only at hSw); go_simp; first | done | with_reducible rfl
        try simp only [List.getElem_toArray, List.getElem_cons_zero, List.getElem_cons_succ, Act.put, List.setIfInBounds_toArray, List.set_cons_zero, List.set_cons_succ]
        refine wpAnyH_take (i := 10) (oi := _) (v := ?_) rfl (by kernel_rfl) (by kernel_rfl) (by kernel_rfl) (fun _ _ _ h => h) (Or.inl ⟨by kernel_rfl, ?_⟩) (by assumption) ?_
        rotate_left
        · intro w hSw; (try dsimp only at hSw); go_simp; first | done | with_reducible rfl
        try simp only [List.getElem_toArray, List.getElem_cons_zero, List.getElem_cons_succ, Act.put, List.setIfInBounds_toArray, List.set_cons_zero, List.set_cons_succ]
        refine wpAnyH_take (i := 11) (oi := _) (v := ?_) rfl (by kernel_rfl) (by kernel_rfl) (by kernel_rfl) (fun _ _ _ h => h) (Or.inl ⟨by kernel_rfl, ?_⟩) (by assumption) ?_
        rotate_left
        · intro w hSw; (try dsimp only at hSw); go_simp; first | done | with_reducible rfl
        try simp only [List.getElem_toArray, List.getElem_cons_zero, List.getElem_cons_succ, Act.put, List.setIfInBounds_toArray, List.set_cons_zero, List.set_cons_succ]
        refine wpAnyH_take (i := 12) (oi := _) (v := ?_) rfl (by kernel_rfl) (by kernel_rfl) (by kernel_rfl) (fun _ _ _ h => h) (Or.inl ⟨by kernel_rfl, ?_⟩) (by assumption) ?_
        rotate_left
        · intro w hSw; (try dsimp only at hSw); go_simp; first | done | with_reducible rfl
        try simp only [List.getElem_toArray, List.getElem_cons_zero, List.getElem_cons_succ, Act.put, List.setIfInBounds_toArray, List.set_cons_zero, List.set_cons_succ]
        refine wpAnyH_take (i := 13) (oi := _) (v := ?_) rfl (by kernel_rfl) (by kernel_rfl) (by kernel_rfl) (fun _ _ _ h => h) (Or.inl ⟨by kernel_rfl, ?_⟩) (by assumption) ?_
        rotate_left
        · intro w hSw; (try dsimp only at hSw); go_simp; first | done | with_reducible rfl
        try simp only [List.getElem_toArray, List.getElem_cons_zero, List.getElem_cons_succ, Act.put, List.setIfInBounds_toArray, List.set_cons_zero, List.set_cons_succ]
        refine wpAnyH_take (i := 14) (oi := _) (v := ?_) rfl (by kernel_rfl) (by kernel_rfl) (by kernel_rfl) (fun _ _ _ h => h) (Or.inl ⟨by kernel_rfl, ?_⟩) (by assumption) ?_
        rotate_left
        · intro w hSw; (try dsimp only at hSw); go_simp; first | done | with_reducible rfl
        try simp only [List.getElem_toArray, List.getElem_cons_zero, List.getElem_cons_succ, Act.put, List.setIfInBounds_toArray, List.set_cons_zero, List.set_cons_succ]
        refine wpAnyH_take (i := 15) (oi := _) (v := ?_) rfl (by kernel_rfl) (by kernel_rfl) (by kernel_rfl) (fun _ _ _ h => h) (Or.inl ⟨by kernel_rfl, ?_⟩) (by assumption) ?_
        rotate_left
        · intro w hSw; (try dsimp only at hSw); go_simp; first | done | with_reducible rfl
        try simp only [List.getElem_toArray, List.getElem_cons_zero, List.getElem_cons_succ, Act.put, List.setIfInBounds_toArray, List.set_cons_zero, List.set_cons_succ]
        refine wpAnyH_take (i := 16) (oi := _) (v := ?_) rfl (by kernel_rfl) (by kernel_rfl) (by kernel_rfl) (fun _ _ _ h => h) (Or.inl ⟨by kernel_rfl, ?_⟩) (by assumption) ?_
        rotate_left
        · intro w hSw; (try dsimp only at hSw); go_simp; first | done | with_reducible rfl
        try simp only [List.getElem_toArray, List.getElem_cons_zero, List.getElem_cons_succ, Act.put, List.setIfInBounds_toArray, List.set_cons_zero, List.set_cons_succ]
        clear wj hj0 hjn
        refine wpAnyH_ready (rs := [17]) (by kernel_rfl) (by simp) ?_
        refine AllReadyH.cons (o := _) rfl (fun K hK => ?_) AllReadyH.nil
        go_simp
        refine (bef_yes _ _ _ _ _ _ _ _ _ hbf').mono ?_
        rintro e w4 ⟨rfl, hb⟩
        replace B := nxt B hb
        replace HQ := HQ.below hb
        replace hz2 := (hb.block _ (Array.getElem?_eq_some_iff.1 hz2).1).trans hz2
        replace hz4 := rowNext0 hz4 hb
        replace H6 := H6.below hb
        clear hb l6 p6 q6 r6 s6 e0 e1 e2 e3
        obtain ⟨l6, p6, q6, r6, s6⟩ := id H6
        obtain ⟨e0, e1, e2, e3⟩ := (Rw.own (hrow.of_block (B.block _ hrow.lt))).at4 (k := j) (by omega) |>.1
        simp only [Nat.zero_add] at e0 e1 e2 e3
        refine hK.out _ _ ⟨p6, q6, r6, s6, HQ.2.2.2, e0, e1, e2, e3⟩ (fun hHeld => ?_)
        clear hK K
        try simp only [List.getElem_toArray, List.getElem_cons_zero, List.getElem_cons_succ, Act.put, List.setIfInBounds_toArray, List.set_cons_zero, List.set_cons_succ]
        refine wpAnyH_take (i := 18) (oi := _) (v := ?_) rfl (by kernel_rfl) (by kernel_rfl) (by kernel_rfl) (fun _ _ _ h => h) (Or.inl ⟨by kernel_rfl, ?_⟩) (by assumption) ?_
        rotate_left
        · intro w hSw; (try dsimp only at hSw); go_simp; first | done | with_reducible rfl
        try simp only [List.getElem_toArray, List.getElem_cons_zero, List.getElem_cons_succ, Act.put, List.setIfInBounds_toArray, List.set_cons_zero, List.set_cons_succ]
        refine wpAnyH_take (i := 19) (oi := _) (v := ?_) rfl (by kernel_rfl) (by kernel_rfl) (by kernel_rfl) (fun _ _ _ h => h) (Or.inl ⟨by kernel_rfl, ?_⟩) (by assumption) ?_
        rotate_left
        · intro w hSw; (try dsimp only at hSw); go_simp; first | done | with_reducible rfl
        try simp only [List.getElem_toArray, List.getElem_cons_zero, List.getElem_cons_succ, Act.put, List.setIfInBounds_toArray, List.set_cons_zero, List.set_cons_succ]
        refine wpAnyH_take (i := 20) (oi := _) (v := ?_) rfl (by kernel_rfl) (by kernel_rfl) (by kernel_rfl) (fun _ _ _ h => h) (Or.inl ⟨by kernel_rfl, ?_⟩) (by assumption) ?_
        rotate_left
        · intro w hSw; (try dsimp only at hSw); go_simp; first | done | with_reducible rfl
        try simp only [List.getElem_toArray, List.getElem_cons_zero, List.getElem_cons_succ, Act.put, List.setIfInBounds_toArray, List.set_cons_zero, List.set_cons_succ]
        refine wpAnyH_done (by kernel_rfl) ?_ _
        clear p6 q6 r6 s6 l6 HQ
        obtain ⟨y0, hy0⟩ := Int.eq_ofNat_of_zero_le hl'.2.1
        obtain ⟨x0, hx0⟩ := Int.eq_ofNat_of_zero_le hl'.1
        have HY0 := Lib.hid hy0
        have HX0 := Lib.hid hx0
        have hyl : (y0 : Int) ≤ 11 := by omega
        have hxl : (x0 : Int) ≤ 11 := by omega
        clear hy0 hx0
        obtain ⟨wo, rfl⟩ : ∃ wo : World, wo = wr := ⟨_, rfl⟩
        obtain ⟨l6, p6, q6, r6, s6⟩ := id H6
        go_wp2_with fail
        clear p6 q6 r6 s6 l6
        go_loopw [7, 8] (fun t7 t8 W => ∃ y : Nat, t7 = .int .i8 y ∧ c (4 * (j + 1) + 1) ≤ (y : Int) ∧ (y : Int) ≤ c (4 * (j + 1) + 1) + c (4 * (j + 1) + 3) ∧ Below w.heap.size w W ∧ W.heap[w.heap.size]? = some (.cells Try.zeroCells192 192 (0, 0)) ∧ W.rowIs (w.heap.size + 1) 192 144 (fun p => .int .i64 (gridP c (j + 1) y 0 p)) ∧ Sl W wo.heap.size (c (4 * (j + 1))) (c (4 * (j + 1) + 1)) (c (4 * (j + 1) + 2)) (c (4 * (j + 1) + 3)) ∧ opnP c (j + 1) y 0)
          (fun t7 t8 W => (c (4 * (j + 1) + 1) + c (4 * (j + 1) + 3) - intOf t7).toNat)
        case atStart => exact ⟨y0, by rw [HY0.out], Int.le_of_eq HY0.out, by have := HY0.out; omega, B, hz2, hz4.congr (fun p _ => by rw [gridP_start HY0.out.symm]), H6, opnP_start HY0.out.symm⟩
        case round =>
          clear B hz2 hz4 H6 HY0 hyl
          obtain ⟨y, rfl, hy1, hy2, B, hz2, hz4, H6, ho⟩ := hrel
          obtain ⟨wo2, rfl⟩ : ∃ wo2 : World, wo2 = wr := ⟨_, rfl⟩
          obtain ⟨l6, p6, q6, r6, s6⟩ := id H6
          by_cases hyt : (y : Int) < c (4 * (j + 1) + 1) + c (4 * (j + 1) + 3)
          · have hy11 : (y : Int) ≤ 11 := by omega
            go_wp2_with fail
            clear p6 q6 r6 s6 l6
            go_loopw [8] (fun t8 W => ∃ x : Nat, t8 = .int .i8 x ∧ c (4 * (j + 1)) ≤ (x : Int) ∧ (x : Int) ≤ c (4 * (j + 1)) + c (4 * (j + 1) + 2) ∧ Below w.heap.size w W ∧ W.heap[w.heap.size]? = some (.cells Try.zeroCells192 192 (0, 0)) ∧ W.rowIs (w.heap.size + 1) 192 144 (fun p => .int .i64 (gridP c (j + 1) y x p)) ∧ Sl W wo.heap.size (c (4 * (j + 1))) (c (4 * (j + 1) + 1)) (c (4 * (j + 1) + 2)) (c (4 * (j + 1) + 3)) ∧ opnP c (j + 1) y x)
              (fun t8 W => (c (4 * (j + 1)) + c (4 * (j + 1) + 2) - intOf t8).toNat)
            case atStart => exact ⟨x0, by rw [HX0.out], Int.le_of_eq HX0.out, by have := HX0.out; omega, B, hz2, hz4.congr (fun p _ => by rw [gridP_row HX0.out.symm]), H6, opnP_row HX0.out.symm ho⟩
            case round =>
              clear B hz2 hz4 H6 HX0 hxl ho
              obtain ⟨x, rfl, hx1, hx2, B, hz2, hz4, H6, ho⟩ := hrel
              obtain ⟨wo3, rfl⟩ : ∃ wo3 : World, wo3 = wr := ⟨_, rfl⟩
              obtain ⟨l6, p6, q6, r6, s6⟩ := id H6
              by_cases hxt : (x : Int) < c (4 * (j + 1)) + c (4 * (j + 1) + 2)
              · have hx11 : (x : Int) ≤ 11 := by omega
                have hx12 : x < 12 := by omega
                have hcl := hz4.cell (i := y * 12 + x) (by omega)
                have hfz := hz4.frozen (y * 12 + x)
                simp only [gridP_self hx12] at hcl
                by_cases h0 : gridN c (j + 1) (y * 12 + x) = 0
                · have b1 : (gridN c (j + 1) (y * 12 + x) != 0) = false := by simpa using h0
                  have H0 := Lib.hid h0
                  clear h0
                  go_wp2_with fail
                  exact ⟨⟨x + 1, by first | go_num | simp, by omega, by omega, B.setCell (Nat.le_succ _) _, (Below.heap_setCell _ _ _ _ (Nat.ne_of_lt (Nat.lt_succ_self _))).trans hz2,
                    (hz4.set (y * 12 + x) _).congr (fun p _ => by rw [gridP_cell hx12 hx1 hxt hy1 hyt]; split <;> first | rfl | (congr 1; omega)), H6.of_block (by simp) (Below.heap_setCell _ _ _ _ (by simp; omega)), opnP_cell hx12 hx1 hxt hy1 hyt ho H0.out⟩, by simp [intOf]; omega⟩
                · have b1 : (gridN c (j + 1) (y * 12 + x) != 0) = true := by simpa using h0
                  have HN : ¬ opn c (j + 1) := fun h => h0 (h (y * 12 + x) (by omega) (cov_self hx12 hx1 hxt hy1 hyt))
                  clear h0
                  obtain ⟨cs, hcs, hsz, hcell⟩ := hz4
                  go_wp2_with (first
                    | (refine wpList_load_row rfl 192 (.tmp 4) rfl (w.heap.size + 1) rfl 192 cs (0, 0) _ hcs Try.underlying192 rfl (by rw [info93, hsz]) ?_)
                    | (refine wpList_store_row rfl 192 (.tmp 2) (.tmp 101) rfl w.heap.size cs rfl rfl 192 Try.zeroCells192 hz2 (by rw [info93, hsz]) (by rw [zc_size, hsz]) (one_of_ints hsz hcell) ?_))
                  refine bodyPost_ret (lay_results _ _ w.heap.size false cs rfl rfl (setRow_heap _ _ _ _ _ _ hz2) hsz) rfl ⟨below_setRow B (Nat.le_refl _) _, cs, hsz, one_of_ints hsz hcell, ?_⟩
                  · exact .inr ⟨fun hv => HN (hv.2.2.2.2.2 (j + 1) hlt).2.2, rfl⟩
              · obtain hxe : (x : Int) = c (4 * (j + 1)) + c (4 * (j + 1) + 2) := by omega
                have HXE := Lib.hid hxe
                clear hxe
                go_wp2_with fail
                exact ⟨⟨y + 1, by first | go_num | simp, by omega, by omega, B, hz2, hz4.congr (fun p _ => by rw [gridP_next HXE.out]), H6, opnP_next HXE.out ho⟩, by simp [intOf]; omega⟩
          · obtain hye : (y : Int) = c (4 * (j + 1) + 1) + c (4 * (j + 1) + 3) := by omega
            have HYE := Lib.hid hye
            clear hye
            go_wp2_with fail
            exact ⟨⟨j + 1 + 1, by omega, by first | go_num | simp, B, hz2, hz4.congr (fun p _ => by rw [gridP_end HYE.out]), hok.step ⟨hl, (fun j' hj' => (show j = j' by omega) ▸ hbf), opn_end HYE.out ho⟩⟩, by simp [intOf]; omega⟩
    · obtain rfl : i = n := by omega
      obtain ⟨cs, hcs, hsz, hcell⟩ := hz4
      go_wp2_with (first
        | (refine wpList_load_row rfl 192 (.tmp 4) rfl (w.heap.size + 1) rfl 192 cs (0, 0) _ hcs Try.underlying192 rfl (by rw [info93, hsz]) ?_)
        | (refine wpList_store_row rfl 192 (.tmp 2) (.tmp 108) rfl w.heap.size cs rfl rfl 192 Try.zeroCells192 hz2 (by rw [info93, hsz]) (by rw [zc_size, hsz]) (one_of_ints hsz hcell) ?_))
      exact bodyPost_ret (lay_results _ _ w.heap.size true cs rfl rfl (setRow_heap _ _ _ _ _ _ hz2) hsz) rfl ⟨below_setRow B (Nat.le_refl _) _, cs, hsz, one_of_ints hsz hcell, .inl ⟨⟨h1, h2, h3, h4, hn, hok⟩, hcell, rfl⟩⟩
theorem lay_bad1G (X Y : Int) (bq g n : Nat) (c : Nat → Int) (w : World) (hX : -128 ≤ X ∧ X ≤ 127) (hY : -128 ≤ Y ∧ Y ≤ 127) (hq : Sq w bq X Y (.slice (some ⟨g, 0, none⟩) n qc)) (h : ¬ (1 ≤ X ∧ X ≤ 12)) :
    Calls Try.prog 135 #[.pointer (some ⟨bq, 0, none⟩)] w (LayPost X Y n c w) := by
  obtain ⟨lq, pq, qq, rq⟩ := id hq
  have hst : Sem.run Try.prog (storeCells ⟨w.heap.size + 1, 0, none⟩ Try.zeroCells192.toList) ((w.alloc (Obj.cells Try.zeroCells192 192)).alloc (Obj.cells Try.zeroCells192 192)) = .ok () ((w.alloc (Obj.cells Try.zeroCells192 192)).alloc (Obj.cells Try.zeroCells192 192)) := by
    have := run_storeCells_new (P := Try.prog) (w.alloc (Obj.cells Try.zeroCells192 192)) 192 Try.zeroCells192 Try.zeroCells192 (by kernel_rfl) rfl zc_one
    rwa [World.size_alloc] at this
  have hz2 : ((w.alloc (Obj.cells Try.zeroCells192 192)).alloc (Obj.cells Try.zeroCells192 192)).heap[w.heap.size]? = some (.cells Try.zeroCells192 192 (0, 0)) := heap_alloc2_old w _ _
  have hcs : ((w.alloc (Obj.cells Try.zeroCells192 192)).alloc (Obj.cells Try.zeroCells192 192)).heap[w.heap.size + 1]? = some (.cells Try.zeroCells192 192 (0, 0)) := heap_alloc2_new w _ _
  have HZ2 := Lib.hid hz2
  have HCS := Lib.hid hcs
  have B : Below w.heap.size w ((w.alloc (Obj.cells Try.zeroCells192 192)).alloc (Obj.cells Try.zeroCells192 192)) := al (al (Below.refl _ _) _) _
  clear hz2 hcs
  go_enter Try.func135, Try.ntmps135
  go_wp2_with (first
    | (go_at_call 79; with_reducible refine (edge_no X _ h).mono ?_; rintro e w' ⟨rfl, rfl⟩)
    | (refine wpList_load_row rfl 192 (.tmp 4) rfl (w.heap.size + 1) rfl 192 Try.zeroCells192 (0, 0) _ HCS.out Try.underlying192 rfl (by rw [info93, zc_size]) ?_)
    | (refine wpList_store_row rfl 192 (.tmp 2) (.tmp 34) rfl w.heap.size Try.zeroCells192 rfl rfl 192 Try.zeroCells192 HZ2.out (by rw [info93, zc_size]) rfl zc_one ?_))
  exact bodyPost_ret (lay_results _ _ w.heap.size false Try.zeroCells192 rfl rfl (setRow_heap _ _ _ _ _ _ HZ2.out) zc_size) rfl ⟨below_setRow B (Nat.le_refl _) _, Try.zeroCells192, zc_size, zc_one, .inr ⟨fun hv => h ⟨hv.1, hv.2.1⟩, rfl⟩⟩
theorem lay_bad2G (X Y : Int) (bq g n : Nat) (c : Nat → Int) (w : World) (hX : -128 ≤ X ∧ X ≤ 127) (hY : -128 ≤ Y ∧ Y ≤ 127) (hq : Sq w bq X Y (.slice (some ⟨g, 0, none⟩) n qc)) (h1 : 1 ≤ X) (h2 : X ≤ 12) (h : ¬ (1 ≤ Y ∧ Y ≤ 12)) :
    Calls Try.prog 135 #[.pointer (some ⟨bq, 0, none⟩)] w (LayPost X Y n c w) := by
  obtain ⟨lq, pq, qq, rq⟩ := id hq
  have hst : Sem.run Try.prog (storeCells ⟨w.heap.size + 1, 0, none⟩ Try.zeroCells192.toList) ((w.alloc (Obj.cells Try.zeroCells192 192)).alloc (Obj.cells Try.zeroCells192 192)) = .ok () ((w.alloc (Obj.cells Try.zeroCells192 192)).alloc (Obj.cells Try.zeroCells192 192)) := by
    have := run_storeCells_new (P := Try.prog) (w.alloc (Obj.cells Try.zeroCells192 192)) 192 Try.zeroCells192 Try.zeroCells192 (by kernel_rfl) rfl zc_one
    rwa [World.size_alloc] at this
  have hz2 : ((w.alloc (Obj.cells Try.zeroCells192 192)).alloc (Obj.cells Try.zeroCells192 192)).heap[w.heap.size]? = some (.cells Try.zeroCells192 192 (0, 0)) := heap_alloc2_old w _ _
  have hcs : ((w.alloc (Obj.cells Try.zeroCells192 192)).alloc (Obj.cells Try.zeroCells192 192)).heap[w.heap.size + 1]? = some (.cells Try.zeroCells192 192 (0, 0)) := heap_alloc2_new w _ _
  have HZ2 := Lib.hid hz2
  have HCS := Lib.hid hcs
  have B : Below w.heap.size w ((w.alloc (Obj.cells Try.zeroCells192 192)).alloc (Obj.cells Try.zeroCells192 192)) := al (al (Below.refl _ _) _) _
  clear hz2 hcs
  go_enter Try.func135, Try.ntmps135
  go_wp2_with (first
    | (go_at_call 79; with_reducible refine (edge_yes X _ (by omega) (by omega)).mono ?_; rintro e w' ⟨rfl, rfl⟩)
    | (go_at_call 79; with_reducible refine (edge_no Y _ h).mono ?_; rintro e w' ⟨rfl, rfl⟩)
    | (refine wpList_load_row rfl 192 (.tmp 4) rfl (w.heap.size + 1) rfl 192 Try.zeroCells192 (0, 0) _ HCS.out Try.underlying192 rfl (by rw [info93, zc_size]) ?_)
    | (refine wpList_store_row rfl 192 (.tmp 2) (.tmp 34) rfl w.heap.size Try.zeroCells192 rfl rfl 192 Try.zeroCells192 HZ2.out (by rw [info93, zc_size]) rfl zc_one ?_))
  exact bodyPost_ret (lay_results _ _ w.heap.size false Try.zeroCells192 rfl rfl (setRow_heap _ _ _ _ _ _ HZ2.out) zc_size) rfl ⟨below_setRow B (Nat.le_refl _) _, Try.zeroCells192, zc_size, zc_one, .inr ⟨fun hv => h ⟨hv.2.2.1, hv.2.2.2.1⟩, rfl⟩⟩
theorem lay_bad3G (X Y : Int) (bq g n : Nat) (c : Nat → Int) (w : World) (hX : -128 ≤ X ∧ X ≤ 127) (hY : -128 ≤ Y ∧ Y ≤ 127) (hq : Sq w bq X Y (.slice (some ⟨g, 0, none⟩) n qc)) (h1 : 1 ≤ X) (h2 : X ≤ 12) (h3 : 1 ≤ Y) (h4 : Y ≤ 12) (h : 60 < n) (hm : n ≤ 1048576) :
    Calls Try.prog 135 #[.pointer (some ⟨bq, 0, none⟩)] w (LayPost X Y n c w) := by
  obtain ⟨lq, pq, qq, rq⟩ := id hq
  have d0 : decide ((60 : Int) < (n : Int)) = true := by simp; omega
  have hst : Sem.run Try.prog (storeCells ⟨w.heap.size + 1, 0, none⟩ Try.zeroCells192.toList) ((w.alloc (Obj.cells Try.zeroCells192 192)).alloc (Obj.cells Try.zeroCells192 192)) = .ok () ((w.alloc (Obj.cells Try.zeroCells192 192)).alloc (Obj.cells Try.zeroCells192 192)) := by
    have := run_storeCells_new (P := Try.prog) (w.alloc (Obj.cells Try.zeroCells192 192)) 192 Try.zeroCells192 Try.zeroCells192 (by kernel_rfl) rfl zc_one
    rwa [World.size_alloc] at this
  have hz2 : ((w.alloc (Obj.cells Try.zeroCells192 192)).alloc (Obj.cells Try.zeroCells192 192)).heap[w.heap.size]? = some (.cells Try.zeroCells192 192 (0, 0)) := heap_alloc2_old w _ _
  have hcs : ((w.alloc (Obj.cells Try.zeroCells192 192)).alloc (Obj.cells Try.zeroCells192 192)).heap[w.heap.size + 1]? = some (.cells Try.zeroCells192 192 (0, 0)) := heap_alloc2_new w _ _
  have HZ2 := Lib.hid hz2
  have HCS := Lib.hid hcs
  have B : Below w.heap.size w ((w.alloc (Obj.cells Try.zeroCells192 192)).alloc (Obj.cells Try.zeroCells192 192)) := al (al (Below.refl _ _) _) _
  clear hz2 hcs
  go_enter Try.func135, Try.ntmps135
  go_wp2_with (first
    | (go_at_call 79; with_reducible refine (edge_yes X _ (by omega) (by omega)).mono ?_; rintro e w' ⟨rfl, rfl⟩)
    | (go_at_call 79; with_reducible refine (edge_yes Y _ (by omega) (by omega)).mono ?_; rintro e w' ⟨rfl, rfl⟩)
    | (refine wpList_load_row rfl 192 (.tmp 4) rfl (w.heap.size + 1) rfl 192 Try.zeroCells192 (0, 0) _ HCS.out Try.underlying192 rfl (by rw [info93, zc_size]) ?_)
    | (refine wpList_store_row rfl 192 (.tmp 2) (.tmp 34) rfl w.heap.size Try.zeroCells192 rfl rfl 192 Try.zeroCells192 HZ2.out (by rw [info93, zc_size]) rfl zc_one ?_))
  exact bodyPost_ret (lay_results _ _ w.heap.size false Try.zeroCells192 rfl rfl (setRow_heap _ _ _ _ _ _ HZ2.out) zc_size) rfl ⟨below_setRow B (Nat.le_refl _) _, Try.zeroCells192, zc_size, zc_one, .inr ⟨fun hv => absurd hv.2.2.2.2.1 (by omega), rfl⟩⟩
theorem lay_anyG (X Y : Int) (bq g n : Nat) (c : Nat → Int) (w : World) (hX : -128 ≤ X ∧ X ≤ 127) (hY : -128 ≤ Y ∧ Y ≤ 127) (hc : ∀ j, -128 ≤ c j ∧ c j ≤ 127) (hm : n ≤ 1048576) (hq : Sq w bq X Y (.slice (some ⟨g, 0, none⟩) n qc)) (hrow : Rw w g n c) :
    Calls Try.prog 135 #[.pointer (some ⟨bq, 0, none⟩)] w (LayPost X Y n c w) := by
  by_cases h : 1 ≤ X ∧ X ≤ 12
  · by_cases h' : 1 ≤ Y ∧ Y ≤ 12
    · by_cases hn : n ≤ 60
      · exact lay_loopG qc X Y bq g n c w hX hY hc hq hrow h.1 h.2 h'.1 h'.2 hn
      · exact lay_bad3G qc X Y bq g n c w hX hY hq h.1 h.2 h'.1 h'.2 (by omega) hm
    · exact lay_bad2G qc X Y bq g n c w hX hY hq h.1 h.2 h'
  · exact lay_bad1G qc X Y bq g n c w hX hY hq h
end
end Go.Proofs.Ytkdakpbkpfigeaa

namespace Go.Proofs.Ytkdakpbkpfigeaa
open Go Go.ChangeShapes Go.WideShapes Go.ChangeAt Go.RowKit canPut
set_option linter.unusedVariables false
set_option linter.unusedSimpArgs false
set_option maxRecDepth 100000
set_option maxHeartbeats 4000000
section
variable (qc : Nat)
theorem can_outG (X Y : Int) (bq g n : Nat) (c : Nat → Int) (a0 a1 a2 a3 : Int) (w : World) (hX : -128 ≤ X ∧ X ≤ 127) (hY : -128 ≤ Y ∧ Y ≤ 127) (b0 : -128 ≤ a0 ∧ a0 ≤ 127) (b1 : -128 ≤ a1 ∧ a1 ≤ 127) (b2 : -128 ≤ a2 ∧ a2 ≤ 127) (b3 : -128 ≤ a3 ∧ a3 ≤ 127)
    (hq : Sq w bq X Y (.slice (some ⟨g, 0, none⟩) n qc)) (hl : ¬ (0 ≤ a0 ∧ 0 ≤ a1 ∧ 1 ≤ a2 ∧ 1 ≤ a3 ∧ a0 + a2 ≤ X ∧ a1 + a3 ≤ Y)) :
    Calls Try.prog 140 #[.pointer (some ⟨bq, 0, none⟩), .agg #[.int .i8 a0, .int .i8 a1, .int .i8 a2, .int .i8 a3]] w fun e w' => Below w.heap.size w w' ∧ e = .returned (.bool false) := by
  go_enter Try.func140, Try.ntmps140
  go_wp2_with fail
  refine (lies_no X Y _ _ _ _ bq _ _ hX hY b0 b1 b2 b3 (hq.alloc _) hl).mono ?_
  rintro e w1 ⟨rfl, hb⟩
  have B := nxt (al (Below.refl w.heap.size w) _) hb
  go_wp2_with fail
  go_ret
  exact ⟨B, rfl⟩
theorem can_inG (X Y : Int) (bq g n x0 y0 wd ht : Nat) (c cx : Nat → Int) (w : World) (hX : -128 ≤ X ∧ X ≤ 127) (hY : -128 ≤ Y ∧ Y ≤ 127) (hc : ∀ j, -128 ≤ c j ∧ c j ≤ 127) (hm : n ≤ 1048576)
    (hq : Sq w bq X Y (.slice (some ⟨g, 0, none⟩) n qc)) (hrow : Rw w g n c) (hv : Valid X Y n c)
    (e0 : cx (4 * n) = x0) (e1 : cx (4 * n + 1) = y0) (e2 : cx (4 * n + 2) = wd) (e3 : cx (4 * n + 3) = ht) (hcx : ∀ p, gridN cx n p = gridN c n p) (hx : x0 + wd ≤ 12) (hy : y0 + ht ≤ 12)
    (hl : (0 : Int) ≤ x0 ∧ (0 : Int) ≤ y0 ∧ (1 : Int) ≤ wd ∧ (1 : Int) ≤ ht ∧ (x0 : Int) + wd ≤ X ∧ (y0 : Int) + ht ≤ Y) :
    Calls Try.prog 140 #[.pointer (some ⟨bq, 0, none⟩), .agg #[.int .i8 (x0 : Int), .int .i8 (y0 : Int), .int .i8 (wd : Int), .int .i8 (ht : Int)]] w fun e w' => Below w.heap.size w w' ∧ ((opn cx n ∧ e = .returned (.bool true)) ∨ (¬ opn cx n ∧ e = .returned (.bool false))) := by
  have HC := Lib.hid hc
  have HX := Lib.hid hcx
  have E0 := Lib.hid e0
  have E1 := Lib.hid e1
  have E2 := Lib.hid e2
  have E3 := Lib.hid e3
  clear hc hcx e0 e1 e2 e3
  have hxi : (x0 : Int) + (wd : Int) ≤ 12 := by omega
  have hyi : (y0 : Int) + (ht : Int) ≤ 12 := by omega
  go_enter Try.func140, Try.ntmps140
  go_wp2_with fail
  refine (lies_yes X Y _ _ _ _ bq _ _ hX hY (by omega) (by omega) (by omega) (by omega) (hq.alloc _) hl).mono ?_
  rintro e w1 ⟨rfl, hb⟩
  have H3 := (Sl.new w (x0 : Int) y0 wd ht 110).below hb
  have B := nxt (al (Below.refl w.heap.size w) _) hb
  replace hq := (hq.alloc _).below hb
  clear hb
  go_wp2_with fail
  refine (lay_anyG qc X Y bq g n c _ hX hY HC.out hm hq (hrow.of_block (B.block _ hrow.lt))).mono ?_
  rintro e w3 ⟨hb, cs, hsz, hone, hcase⟩
  rcases hcase with ⟨_, hcell, rfl⟩ | ⟨hn, _⟩
  case inr => exact absurd hv hn
  replace H3 := H3.below hb
  replace B := nxt B hb
  clear hb hq
  have hG : (w3.alloc (.cells Try.zeroCells192 192)).heap[w3.heap.size]? = some (.cells Try.zeroCells192 192 (0, 0)) := heap_alloc_new w3 _
  have B4 := below_setRow (al B (.cells Try.zeroCells192 192)) B.size cs
  have H4 : Sl ((w3.alloc (.cells Try.zeroCells192 192)).setRow w3.heap.size cs) w.heap.size (x0 : Int) y0 wd ht := (H3.alloc _).of_block (by rw [setRow_size]; exact Nat.le_refl _) (setRow_other _ _ _ _ (by have := H3.1; omega))
  have R4 : ((w3.alloc (.cells Try.zeroCells192 192)).setRow w3.heap.size cs).rowIs w3.heap.size 192 144 (fun p => .int .i64 (gridN cx n p)) := ⟨cs, setRow_heap _ _ _ _ _ _ hG, hsz, fun p hp => by show cs[p]? = some (Value.int IntKind.i64 (gridN cx n p)); rw [hcell p hp, HX.out]⟩
  obtain ⟨W4, hW4⟩ : ∃ W4 : World, W4 = ((w3.alloc (.cells Try.zeroCells192 192)).setRow w3.heap.size cs) := ⟨_, rfl⟩
  rw [← hW4] at B4 H4 R4
  clear H3 B hG
  have H4' := H4
  obtain ⟨l6, p6, q6, r6, s6⟩ := H4'
  go_wp2_with (first
    | (refine wpList_store_row rfl 192 (.tmp 5) (.tmp 16) rfl w3.heap.size cs rfl rfl 192 Try.zeroCells192 (heap_alloc_new w3 _) (by rw [info93, hsz]) (by rw [zc_size, hsz]) hone ?_
       rw [← hW4]
       clear hW4 hcell hone hsz))
  clear p6 q6 r6 s6 l6
  go_loopw [7, 8] (fun t7 t8 W => ∃ y : Nat, t7 = .int .i8 y ∧ (y0 : Int) ≤ (y : Int) ∧ (y : Int) ≤ (y0 : Int) + ht ∧ W = W4 ∧ opnP cx n y 0)
    (fun t7 t8 W => ((y0 : Int) + ht - intOf t7).toNat)
  case atStart => exact ⟨y0, rfl, by omega, by omega, rfl, opnP_start E1.out.symm⟩
  case round =>
    obtain ⟨y, rfl, hy1, hy2, rfl, ho⟩ := hrel
    obtain ⟨wo, rfl⟩ : ∃ wo : World, wo = wr := ⟨_, rfl⟩
    have H4' := H4
    obtain ⟨l6, p6, q6, r6, s6⟩ := H4'
    by_cases hyt : (y : Int) < (y0 : Int) + ht
    · have hy11 : (y : Int) ≤ 11 := by omega
      go_wp2_with fail
      clear p6 q6 r6 s6 l6
      go_loopw [8] (fun t8 W' => ∃ x : Nat, t8 = .int .i8 x ∧ (x0 : Int) ≤ (x : Int) ∧ (x : Int) ≤ (x0 : Int) + wd ∧ W' = wo ∧ opnP cx n y x)
        (fun t8 W' => ((x0 : Int) + wd - intOf t8).toNat)
      case atStart => exact ⟨x0, rfl, by omega, by omega, rfl, opnP_row E0.out.symm ho⟩
      case round =>
        clear ho
        obtain ⟨x, rfl, hx1, hx2, rfl, ho⟩ := hrel
        have H4' := H4
        obtain ⟨l6, p6, q6, r6, s6⟩ := H4'
        by_cases hxt : (x : Int) < (x0 : Int) + wd
        · have hx11 : (x : Int) ≤ 11 := by omega
          have hx12 : x < 12 := by omega
          have hcl := R4.cell (i := y * 12 + x) (by omega)
          have k1 : cx (4 * n) ≤ (x : Int) := by rw [E0.out]; omega
          have k2 : (x : Int) < cx (4 * n) + cx (4 * n + 2) := by rw [E0.out, E2.out]; omega
          have k3 : cx (4 * n + 1) ≤ (y : Int) := by rw [E1.out]; omega
          have k4 : (y : Int) < cx (4 * n + 1) + cx (4 * n + 3) := by rw [E1.out, E3.out]; omega
          have K1 := Lib.hid k1
          have K2 := Lib.hid k2
          have K3 := Lib.hid k3
          have K4 := Lib.hid k4
          clear k1 k2 k3 k4
          by_cases h0 : gridN cx n (y * 12 + x) = 0
          · have b1 : (gridN cx n (y * 12 + x) != 0) = false := by simpa using h0
            have H0 := Lib.hid h0
            clear h0
            go_wp2_with fail
            exact ⟨⟨x + 1, by first | go_num | simp, by omega, by omega, trivial, opnP_cell hx12 K1.out K2.out K3.out K4.out ho H0.out⟩, by simp [intOf]; omega⟩
          · have b1 : (gridN cx n (y * 12 + x) != 0) = true := by simpa using h0
            have HN : ¬ opn cx n := fun h => h0 (h (y * 12 + x) (by omega) (cov_self hx12 K1.out K2.out K3.out K4.out))
            clear h0
            go_wp2_with fail
            go_ret
            exact ⟨B4, .inr ⟨HN, rfl⟩⟩
        · have hxe : (x : Int) = cx (4 * n) + cx (4 * n + 2) := by rw [E0.out, E2.out]; omega
          have HXE := Lib.hid hxe
          clear hxe
          go_wp2_with fail
          exact ⟨⟨y + 1, by first | go_num | simp, by omega, by omega, trivial, opnP_next HXE.out ho⟩, by simp [intOf]; omega⟩
    · have hye : (y : Int) = cx (4 * n + 1) + cx (4 * n + 3) := by rw [E1.out, E3.out]; omega
      have HYE := Lib.hid hye
      clear hye
      go_wp2_with fail
      go_ret
      exact ⟨B4, .inl ⟨opn_end HYE.out ho, rfl⟩⟩
theorem canAt_anyG (W H bq g n x y wd ht : Nat) (c : Nat → Int) (w : World) (hx : x < 12) (hy : y < 12) (hwd : 1 ≤ wd ∧ wd ≤ 12) (hht : 1 ≤ ht ∧ ht ≤ 12) (hc : ∀ j, -128 ≤ c j ∧ c j ≤ 127) (hm : n ≤ 1048576)
    (hq : Sq w bq W H (.slice (some ⟨g, 0, none⟩) n qc)) (hrow : Rw w g n c) (hv : Valid W H n c) :
    Calls Try.prog 140 #[.pointer (some ⟨bq, 0, none⟩), .agg #[.int .i8 (x : Int), .int .i8 (y : Int), .int .i8 (wd : Int), .int .i8 (ht : Int)]] w fun e w' => Below w.heap.size w w' ∧ ((fits W H n c wd ht (x, y) ∧ e = .returned (.bool true)) ∨ (¬ fits W H n c wd ht (x, y) ∧ e = .returned (.bool false))) := by
  have hW : W ≤ 12 := by have := hv.2.1; omega
  have hH : H ≤ 12 := by have := hv.2.2.2.1; omega
  by_cases hl : x + wd ≤ W ∧ y + ht ≤ H
  · refine (can_inG qc W H bq g n x y wd ht c _ w (by omega) (by omega) hc hm hq hrow hv (ext0 c n (x : Int) y wd ht) (ext1 c n (x : Int) y wd ht) (ext2 c n (x : Int) y wd ht) (ext3 c n (x : Int) y wd ht) (gridN_ext c n (x : Int) y wd ht) (by omega) (by omega) (by omega)).mono ?_
    rintro e w1 ⟨hb, ⟨ho, rfl⟩ | ⟨ho, rfl⟩⟩
    · exact ⟨hb, .inl ⟨⟨hl.1, hl.2, ho⟩, rfl⟩⟩
    · exact ⟨hb, .inr ⟨fun h => ho h.2.2, rfl⟩⟩
  · refine (can_outG qc W H bq g n c (x : Int) y wd ht w (by omega) (by omega) (by omega) (by omega) (by omega) (by omega) hq (by omega)).mono ?_
    rintro e w1 ⟨hb, rfl⟩
    exact ⟨hb, .inr ⟨fun h => hl ⟨h.1, h.2.1⟩, rfl⟩⟩
theorem place_anyG (W H bq g n wd ht : Nat) (c : Nat → Int) (w : World) (hwd : 1 ≤ wd ∧ wd ≤ 12) (hht : 1 ≤ ht ∧ ht ≤ 12) (hc : ∀ j, -128 ≤ c j ∧ c j ≤ 127) (hm : n ≤ 1048576)
    (hq : Sq w bq W H (.slice (some ⟨g, 0, none⟩) n qc)) (hrow : Rw w g n c) (hv : Valid W H n c) :
    Calls Try.prog 80 #[.pointer (some ⟨bq, 0, none⟩), .int .i64 (wd : Int), .int .i64 (ht : Int)] w (PlacePost W H n c wd ht w) := by
  have hW0 : 1 ≤ W := by have := hv.1; omega
  have hW : W ≤ 12 := by have := hv.2.1; omega
  have hH : H ≤ 12 := by have := hv.2.2.2.1; omega
  have HC := Lib.hid hc
  clear hc
  go_enter Try.func80, Try.ntmps80
  go_wp2_with fail
  have H6 : (w.alloc (.cells #[.int .i8 0, .int .i8 0, .int .i8 0, .int .i8 0] 110)).heap[w.heap.size]? = some (.cells #[.int .i8 0, .int .i8 0, .int .i8 0, .int .i8 0] 110 (0, 0)) := heap_alloc_new w _
  have B := al (Below.refl w.heap.size w) (.cells #[.int .i8 0, .int .i8 0, .int .i8 0, .int .i8 0] 110)
  replace hq := hq.alloc (.cells #[.int .i8 0, .int .i8 0, .int .i8 0, .int .i8 0] 110)
  refine (all_any W H bq _ _ hW0 hW hH hq).mono ?_
  rintro e w5 ⟨hb, va, rfl, OA⟩
  obtain ⟨N, hN'⟩ : ∃ N, N = W * H := ⟨_, rfl⟩
  rw [← hN'] at OA
  have hN0 : 0 < N := by rw [hN']; exact Nat.mul_pos hW0 (by have := hv.2.2.1; omega)
  have hN144 : N ≤ 144 := by rw [hN']; exact mul12 hW hH
  obtain ⟨ga, cap, rfl, hga, hga2⟩ := own_some OA (by rw [allC_length]; exact hN0)
  rw [allC_length] at *
  have HN' := Lib.hid hN'
  clear hN'
  replace H6 := (hb.block _ (by simp)).trans H6
  replace hq := hq.below hb
  replace B := nxt B hb
  clear hb
  have HH6 := Lib.hid H6
  clear H6
  go_wp2_with fail
  obtain ⟨bA, hbA⟩ : ∃ bA, bA = (w.alloc (.cells #[.int .i8 0, .int .i8 0, .int .i8 0, .int .i8 0] 110)).heap.size := ⟨_, rfl⟩
  rw [← hbA] at OA hga
  clear hbA
  have hbq := hq.1
  go_loopw [9] (fun t9 wr => ∃ i : Nat, i ≤ N ∧ t9 = .int .i64 i ∧ Below w.heap.size w wr ∧ OwnC wr bA (.slice (some ⟨ga, 0, none⟩) N cap) (allC W N) ∧ Sq wr bq W H (.slice (some ⟨g, 0, none⟩) n qc) ∧ wr.heap[w.heap.size]? = some (.cells #[.int .i8 0, .int .i8 0, .int .i8 0, .int .i8 0] 110 (0, 0)) ∧ ∀ j, j < i → ¬ fits W H n c wd ht (cl W j)) (fun t9 wr => N - (intOf t9).toNat)
  case atStart => exact ⟨0, by omega, rfl, B, OA, hq, HH6.out, fun j hj => absurd hj (by omega)⟩
  case round =>
    clear B OA hq HH6
    obtain ⟨i, hi, rfl, B, OA, hq, H6, hall⟩ := hrel
    have HALL := Lib.hid hall
    have hs6 : w.heap.size < wr.heap.size := (Array.getElem?_eq_some_iff.1 H6).1
    have HH6 := Lib.hid H6
    clear hall H6
    by_cases hlt : i < N
    · obtain ⟨x, y, hxy⟩ : ∃ x y, cl W i = (x, y) := ⟨_, _, rfl⟩
      have hb12 := cl_lt hW hH (show i < W * H by rw [← HN'.out]; exact hlt)
      rw [hxy] at hb12
      obtain ⟨hx, hy⟩ := hb12
      have hx12 : x < 12 := by dsimp only at hx; omega
      have hy12 : y < 12 := by dsimp only at hy; omega
      obtain ⟨c0, c1⟩ := OwnC.get OA (allC_length W N) (q := (x, y)) (by rw [allC_get W N i hlt, hxy])
      have HXY := Lib.hid hxy
      clear hxy hx hy
      have w1 : IntKind.i8.wrap (wd : Int) = (wd : Int) := IntWalk.i8_in _ (by omega)
      have w2 : IntKind.i8.wrap (ht : Int) = (ht : Int) := IntWalk.i8_in _ (by omega)
      have hsz := (World.ownsRow.lt OA ga rfl).2
      have a0 : (wr.alloc (.cells #[.int .i8 0, .int .i8 0, .int .i8 0, .int .i8 0] 110)).cell? ⟨ga, i * 2, none⟩ = some (.int .i8 (x : Int)) := by rw [World.cell?_alloc_past _ _ _ hsz]; exact c0
      have a1 : (wr.alloc (.cells #[.int .i8 0, .int .i8 0, .int .i8 0, .int .i8 0] 110)).cell? ⟨ga, i * 2 + 1, none⟩ = some (.int .i8 (y : Int)) := by rw [World.cell?_alloc_past _ _ _ hsz]; exact c1
      go_wp2
      go_region
      have H10 := Sl.new wr (x : Int) y wd ht 110
      replace B := al B (.cells #[.int .i8 (x : Int), .int .i8 (y : Int), .int .i8 (wd : Int), .int .i8 (ht : Int)] 110)
      replace OA := OwnC.alloc OA (.cells #[.int .i8 (x : Int), .int .i8 (y : Int), .int .i8 (wd : Int), .int .i8 (ht : Int)] 110)
      replace hq := hq.alloc (.cells #[.int .i8 (x : Int), .int .i8 (y : Int), .int .i8 (wd : Int), .int .i8 (ht : Int)] 110)
      have H6 := (Below.heap_alloc wr (.cells #[.int .i8 (x : Int), .int .i8 (y : Int), .int .i8 (wd : Int), .int .i8 (ht : Int)] 110) _ hs6).trans HH6.out
      obtain ⟨wq, hwq⟩ : ∃ wq, (wr.alloc (.cells #[.int .i8 (x : Int), .int .i8 (y : Int), .int .i8 (wd : Int), .int .i8 (ht : Int)] 110)).drew = wq := ⟨_, rfl⟩
      replace H10 : Sl wq wr.heap.size (x : Int) y wd ht := by rw [← hwq]; exact H10
      replace B : Below w.heap.size w wq := by rw [← hwq]; exact B.drew
      replace OA : OwnC wq bA (.slice (some ⟨ga, 0, none⟩) N cap) (allC W N) := by rw [← hwq]; exact OA
      replace hq : Sq wq bq W H (.slice (some ⟨g, 0, none⟩) n qc) := by rw [← hwq]; exact hq
      replace H6 : wq.heap[w.heap.size]? = some (.cells #[.int .i8 0, .int .i8 0, .int .i8 0, .int .i8 0] 110 (0, 0)) := by rw [← hwq]; exact H6
      have hrow' := hrow.of_block (B.block _ hrow.lt)
      rw [hwq]
      replace HH6 := Lib.hid H6
      have hs6q := (Array.getElem?_eq_some_iff.1 H6).1
      clear H6 hwq a0 a1 c0 c1 hsz
      obtain ⟨l3, p3, q3, r3, s3⟩ := id H10
      go_wp2_with fail
      refine (canAt_anyG qc W H bq g n x y wd ht c _ hx12 hy12 hwd hht HC.out hm hq hrow' hv).mono ?_
      rintro e w7 ⟨hb, hcase⟩
      replace H10 := H10.below hb
      replace OA := OA.below hb
      replace hq := hq.below hb
      have H6 := (hb.block _ hs6q).trans HH6.out
      replace HH6 := Lib.hid H6
      replace B := nxt B hb
      clear H6 hb l3 p3 q3 r3 s3 hrow'
      obtain ⟨l3, p3, q3, r3, s3⟩ := id H10
      rcases hcase with ⟨hf, rfl⟩ | ⟨hf, rfl⟩
      · have HF := Lib.hid hf
        clear hf
        have e0 := cell_of_row w7 w.heap.size 0 _ _ _ HH6.out
        have f0 := frozen_of_row w7 w.heap.size 0 _ _ HH6.out
        have e1 := cell_of_row w7 w.heap.size 1 _ _ _ HH6.out
        have f1 := frozen_of_row w7 w.heap.size 1 _ _ HH6.out
        have e2 := cell_of_row w7 w.heap.size 2 _ _ _ HH6.out
        have f2 := frozen_of_row w7 w.heap.size 2 _ _ HH6.out
        have e3 := cell_of_row w7 w.heap.size 3 _ _ _ HH6.out
        have f3 := frozen_of_row w7 w.heap.size 3 _ _ HH6.out
        simp at e0 e1 e2 e3
        go_wp2
        refine bodyPost_ret (v := .tuple #[.agg #[.int .i8 (x : Int), .int .i8 (y : Int), .int .i8 (wd : Int), .int .i8 (ht : Int)], .bool true]) (by simp [results, Try.results80, go_sem, e0, e1, e2, e3]) rfl ⟨?_, _, rfl, .inl ⟨i, by rw [← HN'.out]; exact hlt, by rw [HXY.out]; exact HF.out, HALL.out, by rw [HXY.out]⟩⟩
        exact (((B.setCell (p := ⟨w.heap.size, 0, none⟩) (by simp) _).setCell (p := ⟨w.heap.size, 1, none⟩) (by simp) _).setCell (p := ⟨w.heap.size, 2, none⟩) (by simp) _).setCell (p := ⟨w.heap.size, 3, none⟩) (by simp) _
      · have HF := Lib.hid hf
        clear hf
        go_wp2
        refine ⟨⟨i + 1, by omega, by first | go_num | simp, B, OA, hq, HH6.out, ?_⟩, by simp [intOf]; omega⟩
        intro j hj
        by_cases e : j = i
        · subst e; rw [HXY.out]; exact HF.out
        · exact HALL.out j (by omega)
    · obtain rfl : i = N := by omega
      have e0 := cell_of_row wr w.heap.size 0 _ _ _ HH6.out
      have f0 := frozen_of_row wr w.heap.size 0 _ _ HH6.out
      have e1 := cell_of_row wr w.heap.size 1 _ _ _ HH6.out
      have f1 := frozen_of_row wr w.heap.size 1 _ _ HH6.out
      have e2 := cell_of_row wr w.heap.size 2 _ _ _ HH6.out
      have f2 := frozen_of_row wr w.heap.size 2 _ _ HH6.out
      have e3 := cell_of_row wr w.heap.size 3 _ _ _ HH6.out
      have f3 := frozen_of_row wr w.heap.size 3 _ _ HH6.out
      simp at e0 e1 e2 e3
      go_wp2
      refine bodyPost_ret (v := .tuple #[.agg #[.int .i8 0, .int .i8 0, .int .i8 0, .int .i8 0], .bool false]) (by simp [results, Try.results80, go_sem, e0, e1, e2, e3]) rfl ⟨?_, _, rfl, .inr ⟨by rw [← HN'.out]; exact HALL.out, rfl⟩⟩
      exact (((B.setCell (p := ⟨w.heap.size, 0, none⟩) (by simp) _).setCell (p := ⟨w.heap.size, 1, none⟩) (by simp) _).setCell (p := ⟨w.heap.size, 2, none⟩) (by simp) _).setCell (p := ⟨w.heap.size, 3, none⟩) (by simp) _
end
end Go.Proofs.Ytkdakpbkpfigeaa

namespace Go.Proofs.Ytkdakpbkpfigeaa
open canPut
set_option linter.unusedVariables false
set_option maxRecDepth 100000

/-- does a slab cover a cell? -/
def cv (s : S4) (p : Nat) : Prop :=
  s.1 ≤ ((p % 12 : Nat) : Int) ∧ ((p % 12 : Nat) : Int) < s.1 + s.2.2.1 ∧ s.2.1 ≤ ((p / 12 : Nat) : Int) ∧ ((p / 12 : Nat) : Int) < s.2.1 + s.2.2.2
instance (s : S4) (p : Nat) : Decidable (cv s p) := by unfold cv; infer_instance
theorem cov_cv (c : Nat → Int) (i p : Nat) : cov c i p ↔ cv (s4 c i) p := Iff.rfl
/-- does a slab lie within a square? -/
def ls (X Y : Int) (s : S4) : Prop := 0 ≤ s.1 ∧ 0 ≤ s.2.1 ∧ 1 ≤ s.2.2.1 ∧ 1 ≤ s.2.2.2 ∧ s.1 + s.2.2.1 ≤ X ∧ s.2.1 + s.2.2.2 ≤ Y
/-- slabs that lie in a square together, in whatever order. -/
def Fit4 (X Y : Int) (L : List S4) : Prop := (∀ s ∈ L, ls X Y s) ∧ L.Pairwise (fun a b => ∀ p, p < 144 → cv a p → ¬ cv b p)

theorem grid_zero (c : Nat → Int) (p : Nat) : ∀ n, gridN c n p = 0 ↔ ∀ i, i < n → ¬ cov c i p
  | 0 => by simp [gridN]
  | n + 1 => by
    show (if cov c n p then (n : Int) + 1 else gridN c n p) = 0 ↔ _
    by_cases h : cov c n p
    · rw [if_pos h]
      exact ⟨fun e => by omega, fun e => absurd h (e n (by omega))⟩
    · rw [if_neg h, grid_zero c p n]
      refine ⟨fun e i hi => ?_, fun e i hi => e i (by omega)⟩
      by_cases e' : i = n
      · subst e'; exact h
      · exact e i (by omega)
theorem s4_fL {L : List S4} {i : Nat} (h : i < L.length) : s4 (fL L) i = L[i] := by
  unfold s4
  rw [show 4 * i = i * 4 + 0 by omega, fL_at h (by omega), show i * 4 + 0 + 1 = i * 4 + 1 by omega, fL_at h (by omega), show i * 4 + 0 + 2 = i * 4 + 2 by omega, fL_at h (by omega), show i * 4 + 0 + 3 = i * 4 + 3 by omega, fL_at h (by omega)]
  rfl
/-- a cell is open if no slab covers it, whatever the order of the slabs. -/
theorem zero_fL (L : List S4) (p : Nat) : gridN (fL L) L.length p = 0 ↔ ∀ s ∈ L, ¬ cv s p := by
  rw [grid_zero]
  constructor
  · intro h s hs
    obtain ⟨i, hi, rfl⟩ := List.getElem_of_mem hs
    have := h i hi
    rw [cov_cv, s4_fL hi] at this
    exact this
  · intro h i hi
    rw [cov_cv, s4_fL hi]
    exact h _ (List.getElem_mem hi)
theorem zero_perm {L M : List S4} (h : L.Perm M) (p : Nat) : gridN (fL L) L.length p = 0 ↔ gridN (fL M) M.length p = 0 := by
  rw [zero_fL, zero_fL]
  exact ⟨fun g s hs => g s (h.mem_iff.2 hs), fun g s hs => g s (h.mem_iff.1 hs)⟩
theorem Fit4.perm {X Y : Int} {L M : List S4} (h : Fit4 X Y L) (hp : L.Perm M) : Fit4 X Y M :=
  ⟨fun s hs => h.1 s (hp.mem_iff.2 hs), (hp.pairwise_iff (fun {a b} hab p h1 h2 h3 => hab p h1 h3 h2)).1 h.2⟩
theorem Fit4.snoc {X Y : Int} {L : List S4} {s : S4} (h : Fit4 X Y L) (hs : ls X Y s) (ho : ∀ p, p < 144 → cv s p → gridN (fL L) L.length p = 0) : Fit4 X Y (L ++ [s]) := by
  refine ⟨fun t ht => ?_, ?_⟩
  · rcases List.mem_append.1 ht with ht | ht
    · exact h.1 t ht
    · rw [List.mem_singleton.1 ht]; exact hs
  · rw [List.pairwise_append]
    refine ⟨h.2, List.pairwise_singleton _ _, fun a ha b hb p hp h1 h2 => ?_⟩
    rw [List.mem_singleton.1 hb] at h2
    exact (zero_fL L p).1 (ho p hp h2) a ha h1
theorem Fit4.of_valid {X Y : Int} {n : Nat} {c : Nat → Int} (h : Valid X Y n c) : Fit4 X Y (toL c n) := by
  refine ⟨fun s hs => ?_, ?_⟩
  · obtain ⟨i, hi, rfl⟩ := List.mem_map.1 hs
    rw [List.mem_range] at hi
    exact (h.2.2.2.2.2 i hi).1
  · rw [List.pairwise_iff_getElem]
    intro i j hi hj hij p hp h1 h2
    rw [toL_length] at hi hj
    simp only [toL, List.getElem_map, List.getElem_range] at h1 h2
    exact (grid_zero c p j).1 ((h.2.2.2.2.2 j hj).2.2 p hp h2) i hij h1
theorem ls_first {X Y : Int} {s : S4} (hX : X ≤ 12) (hY : Y ≤ 12) (h : ls X Y s) : s.2.1.toNat * 12 + s.1.toNat < 144 ∧ ((s.2.1.toNat * 12 + s.1.toNat) % 12 = s.1.toNat ∧ (s.2.1.toNat * 12 + s.1.toNat) / 12 = s.2.1.toNat) ∧ cv s (s.2.1.toNat * 12 + s.1.toNat) := by
  obtain ⟨h1, h2, h3, h4, h5, h6⟩ := h
  have e1 : (s.2.1.toNat * 12 + s.1.toNat) % 12 = s.1.toNat := by omega
  have e2 : (s.2.1.toNat * 12 + s.1.toNat) / 12 = s.2.1.toNat := by omega
  refine ⟨by omega, ⟨e1, e2⟩, ?_⟩
  unfold cv
  rw [e1, e2]
  omega
theorem Fit4.apart {X Y : Int} {L : List S4} (hX : X ≤ 12) (hY : Y ≤ 12) (h : Fit4 X Y L) : Apart L := by
  unfold Apart
  refine List.Pairwise.imp_of_mem ?_ h.2
  rintro a b ha hb hab ⟨e1, e2⟩
  obtain ⟨p1, _, c1⟩ := ls_first hX hY (h.1 a ha)
  obtain ⟨_, _, c2⟩ := ls_first hX hY (h.1 b hb)
  rw [← e1, ← e2] at c2
  exact hab _ p1 c1 c2
/-- slabs that lie together, in their order, are those of a valid square. -/
theorem Fit4.valid {X Y : Int} {D L : List S4} (hX1 : 1 ≤ X) (hX : X ≤ 12) (hY1 : 1 ≤ Y) (hY : Y ≤ 12) (h : Fit4 X Y D) (hs : SortedOf D L) (hn : D.length ≤ 60) : Valid X Y L.length (fL L) := by
  have hL : Fit4 X Y L := h.perm hs.1.symm
  have hA := hL.apart hX hY
  refine ⟨hX1, hX, hY1, hY, by rw [hs.1.length_eq]; exact hn, fun i hi => ⟨?_, ?_, ?_⟩⟩
  · have := hL.1 _ (List.getElem_mem hi)
    rw [← s4_fL hi] at this
    exact this
  · rintro j rfl
    have hj : j < L.length := by omega
    have h1 := (List.pairwise_iff_getElem.1 hs.2) j (j + 1) hj hi (by omega)
    have h2 := (List.pairwise_iff_getElem.1 hA) j (j + 1) hj hi (by omega)
    rw [← s4_fL hj, ← s4_fL hi] at h1 h2
    unfold bfr s4 at h1
    unfold s4 at h2
    unfold befo
    dsimp only at h1 h2
    omega
  · intro p hp hc
    rw [grid_zero]
    intro j hj hcj
    rw [cov_cv, s4_fL hi] at hc
    rw [cov_cv, s4_fL (by omega)] at hcj
    exact (List.pairwise_iff_getElem.1 hL.2) j i (by omega) hi hj p hp hcj hc
/-- the grid when one slab more is laid. -/
theorem grid_snoc (L : List S4) (s : S4) (p : Nat) : gridN (fL (L ++ [s])) (L.length + 1) p = if cv s p then (L.length : Int) + 1 else gridN (fL L) L.length p := by
  have e1 : s4 (fL (L ++ [s])) L.length = s := by rw [s4_fL (by simp)]; simp
  have e2 : gridN (fL (L ++ [s])) L.length p = gridN (fL L) L.length p := gridN_congr (fun j hj => by
    unfold fL
    rw [List.getElem?_append_left (by omega)]) p
  show (if cov (fL (L ++ [s])) L.length p then (L.length : Int) + 1 else gridN (fL (L ++ [s])) L.length p) = _
  rw [e2]
  have e3 : cov (fL (L ++ [s])) L.length p ↔ cv s p := by rw [cov_cv, e1]
  by_cases h : cv s p
  · rw [if_pos h, if_pos (e3.2 h)]
  · rw [if_neg h, if_neg (fun g => h (e3.1 g))]
theorem grid_toL (c : Nat → Int) (n p : Nat) : gridN (fL (toL c n)) n p = gridN c n p := gridN_congr (fun j hj => by
  unfold fL toL
  rw [List.getElem?_map, List.getElem?_range (by omega)]
  show c4 (s4 c (j / 4)) (j % 4) = c j
  unfold c4 s4
  have : j % 4 = 0 ∨ j % 4 = 1 ∨ j % 4 = 2 ∨ j % 4 = 3 := by omega
  rcases this with e | e | e | e <;> simp only [e] <;> simp <;> congr 1 <;> omega) p
theorem SortedOf.perm_left {D E L : List S4} (h : SortedOf D L) (hp : D.Perm E) : SortedOf E L := ⟨h.1.trans hp, h.2⟩
/-- the order's own list, with one slab more, sorted: what is sorted out of all. -/
theorem SortedOf.snoc {D L M : List S4} {s : S4} (h : SortedOf D L) (hM : SortedOf (L ++ [s]) M) : SortedOf (D ++ [s]) M := ⟨hM.1.trans (h.1.append_right [s]), hM.2⟩
end Go.Proofs.Ytkdakpbkpfigeaa

namespace Go.Proofs.Ytkdakpbkpfigeaa
open Go Go.ChangeShapes Go.WideShapes Go.ChangeAt Go.RowKit canPut
set_option linter.unusedVariables false
set_option linter.unusedSimpArgs false
set_option maxRecDepth 100000
set_option maxHeartbeats 2000000
attribute [local go_sem] Oper.semAt_some

/-- is there place for a slab at a cell, in a grid? -/
def fitsG (W H : Nat) (G : Nat → Int) (wd ht : Nat) (q : Nat × Nat) : Prop := q.1 + wd ≤ W ∧ q.2 + ht ≤ H ∧ ∀ k, k < wd * ht → G (posC (cellAt q.1 q.2 wd k)) = 0
theorem fitsG_iff {W H x y wd ht : Nat} {G : Nat → Int} (hl : x + wd ≤ W ∧ y + ht ≤ H) : fitsG W H G wd ht (x, y) ↔ ∀ k, k < wd * ht → G (posC (cellAt x y wd k)) = 0 := ⟨fun h => h.2.2, fun h => ⟨hl.1, hl.2, h⟩⟩
/-- what is told of the first place. -/
def PlaceResG (W H : Nat) (G : Nat → Int) (wd ht : Nat) (v : Value) : Prop :=
  (∃ k, k < W * H ∧ fitsG W H G wd ht (cl W k) ∧ (∀ j, j < k → ¬ fitsG W H G wd ht (cl W j)) ∧ v = .tuple #[.agg #[.int .i8 ((cl W k).1 : Int), .int .i8 ((cl W k).2 : Int), .int .i8 (wd : Int), .int .i8 (ht : Int)], .bool true]) ∨
    ((∀ j, j < W * H → ¬ fitsG W H G wd ht (cl W j)) ∧ v = .tuple #[.agg #[.int .i8 0, .int .i8 0, .int .i8 0, .int .i8 0], .bool false])
def PlacePostG (W H : Nat) (G : Nat → Int) (wd ht : Nat) (w : World) (e : Ending) (w' : World) : Prop :=
  Below w.heap.size w w' ∧ ∃ v, e = .returned v ∧ PlaceResG W H G wd ht v

theorem placeG_in (W H b wd ht : Nat) (sA : Option Addr) (sn sc : Nat) (G : Nat → Int) (w : World) (hwd : 1 ≤ wd ∧ wd ≤ 12) (hht : 1 ≤ ht ∧ ht ≤ 12) (hW0 : 1 ≤ W) (hW : W ≤ 12) (hH : H ≤ 12) (hG : w.rowIs b 105 144 (fun p => .int .i8 (G p))) :
    CallsIn Fence.wide 12 Try.prog 84 #[.agg #[.int .i8 (W : Int), .int .i8 (H : Int), .slice sA sn sc], .pointer (some ⟨b, 0, none⟩), .int .i8 (wd : Int), .int .i8 (ht : Int)] w (PlacePostG W H G wd ht w) := by
  have hro : Fence.wide.round = none := rfl
  have hWi : (W : Int) ≤ 12 := by omega
  have hHi : (H : Int) ≤ 12 := by omega
  refine callsIn_of_wp_marks Try.func84 rfl trivial ?_ hro
  simp only [Try.ntmps84, List.size_toArray, List.length_cons, List.length_nil, Nat.reduceAdd, Nat.reduceSub, Array.replicate_succ, Array.replicate_zero, List.push_toArray, List.append_toArray, List.nil_append, List.cons_append]
  gi_wp2_with fail
  refine ⟨trivial, ?_⟩
  have hB6 : Below w.heap.size w ((((((w.alloc (.cells #[.int .i8 (W : Int), .int .i8 (H : Int), .slice sA sn sc] 31)).alloc (.cells #[.pointer (some ⟨b, 0, none⟩)] 108)).alloc (.cells #[.int .i8 (wd : Int)] 22)).alloc (.cells #[.int .i8 (ht : Int)] 22)).alloc (.cells #[.int .i8 0, .int .i8 0, .int .i8 0, .int .i8 0] 110)).alloc (.cells #[.bool false] 4)) := al (al (al (al (al (al (Below.refl _ _) _) _) _) _) _) _
  have hs6 : ((((((w.alloc (.cells #[.int .i8 (W : Int), .int .i8 (H : Int), .slice sA sn sc] 31)).alloc (.cells #[.pointer (some ⟨b, 0, none⟩)] 108)).alloc (.cells #[.int .i8 (wd : Int)] 22)).alloc (.cells #[.int .i8 (ht : Int)] 22)).alloc (.cells #[.int .i8 0, .int .i8 0, .int .i8 0, .int .i8 0] 110)).alloc (.cells #[.bool false] 4)).heap.size = w.heap.size + 6 := by simp
  have z0 : ((((((w.alloc (.cells #[.int .i8 (W : Int), .int .i8 (H : Int), .slice sA sn sc] 31)).alloc (.cells #[.pointer (some ⟨b, 0, none⟩)] 108)).alloc (.cells #[.int .i8 (wd : Int)] 22)).alloc (.cells #[.int .i8 (ht : Int)] 22)).alloc (.cells #[.int .i8 0, .int .i8 0, .int .i8 0, .int .i8 0] 110)).alloc (.cells #[.bool false] 4)).heap[w.heap.size]? = some (.cells #[.int .i8 (W : Int), .int .i8 (H : Int), .slice sA sn sc] 31 (0, 0)) := by
    refine (Below.heap_alloc _ _ _ (by simp; try omega)).trans ?_
    refine (Below.heap_alloc _ _ _ (by simp; try omega)).trans ?_
    refine (Below.heap_alloc _ _ _ (by simp; try omega)).trans ?_
    refine (Below.heap_alloc _ _ _ (by simp; try omega)).trans ?_
    refine (Below.heap_alloc _ _ _ (by simp; try omega)).trans ?_
    have := heap_alloc_new w (.cells #[.int .i8 (W : Int), .int .i8 (H : Int), .slice sA sn sc] 31)
    simpa using this
  have z1 : ((((((w.alloc (.cells #[.int .i8 (W : Int), .int .i8 (H : Int), .slice sA sn sc] 31)).alloc (.cells #[.pointer (some ⟨b, 0, none⟩)] 108)).alloc (.cells #[.int .i8 (wd : Int)] 22)).alloc (.cells #[.int .i8 (ht : Int)] 22)).alloc (.cells #[.int .i8 0, .int .i8 0, .int .i8 0, .int .i8 0] 110)).alloc (.cells #[.bool false] 4)).heap[w.heap.size + 1]? = some (.cells #[.pointer (some ⟨b, 0, none⟩)] 108 (0, 0)) := by
    refine (Below.heap_alloc _ _ _ (by simp; try omega)).trans ?_
    refine (Below.heap_alloc _ _ _ (by simp; try omega)).trans ?_
    refine (Below.heap_alloc _ _ _ (by simp; try omega)).trans ?_
    refine (Below.heap_alloc _ _ _ (by simp; try omega)).trans ?_
    have := heap_alloc_new (w.alloc (.cells #[.int .i8 (W : Int), .int .i8 (H : Int), .slice sA sn sc] 31)) (.cells #[.pointer (some ⟨b, 0, none⟩)] 108)
    simpa using this
  have z2 : ((((((w.alloc (.cells #[.int .i8 (W : Int), .int .i8 (H : Int), .slice sA sn sc] 31)).alloc (.cells #[.pointer (some ⟨b, 0, none⟩)] 108)).alloc (.cells #[.int .i8 (wd : Int)] 22)).alloc (.cells #[.int .i8 (ht : Int)] 22)).alloc (.cells #[.int .i8 0, .int .i8 0, .int .i8 0, .int .i8 0] 110)).alloc (.cells #[.bool false] 4)).heap[w.heap.size + 2]? = some (.cells #[.int .i8 (wd : Int)] 22 (0, 0)) := by
    refine (Below.heap_alloc _ _ _ (by simp; try omega)).trans ?_
    refine (Below.heap_alloc _ _ _ (by simp; try omega)).trans ?_
    refine (Below.heap_alloc _ _ _ (by simp; try omega)).trans ?_
    have := heap_alloc_new ((w.alloc (.cells #[.int .i8 (W : Int), .int .i8 (H : Int), .slice sA sn sc] 31)).alloc (.cells #[.pointer (some ⟨b, 0, none⟩)] 108)) (.cells #[.int .i8 (wd : Int)] 22)
    simpa using this
  have z3 : ((((((w.alloc (.cells #[.int .i8 (W : Int), .int .i8 (H : Int), .slice sA sn sc] 31)).alloc (.cells #[.pointer (some ⟨b, 0, none⟩)] 108)).alloc (.cells #[.int .i8 (wd : Int)] 22)).alloc (.cells #[.int .i8 (ht : Int)] 22)).alloc (.cells #[.int .i8 0, .int .i8 0, .int .i8 0, .int .i8 0] 110)).alloc (.cells #[.bool false] 4)).heap[w.heap.size + 3]? = some (.cells #[.int .i8 (ht : Int)] 22 (0, 0)) := by
    refine (Below.heap_alloc _ _ _ (by simp; try omega)).trans ?_
    refine (Below.heap_alloc _ _ _ (by simp; try omega)).trans ?_
    have := heap_alloc_new (((w.alloc (.cells #[.int .i8 (W : Int), .int .i8 (H : Int), .slice sA sn sc] 31)).alloc (.cells #[.pointer (some ⟨b, 0, none⟩)] 108)).alloc (.cells #[.int .i8 (wd : Int)] 22)) (.cells #[.int .i8 (ht : Int)] 22)
    simpa using this
  have z4 : ((((((w.alloc (.cells #[.int .i8 (W : Int), .int .i8 (H : Int), .slice sA sn sc] 31)).alloc (.cells #[.pointer (some ⟨b, 0, none⟩)] 108)).alloc (.cells #[.int .i8 (wd : Int)] 22)).alloc (.cells #[.int .i8 (ht : Int)] 22)).alloc (.cells #[.int .i8 0, .int .i8 0, .int .i8 0, .int .i8 0] 110)).alloc (.cells #[.bool false] 4)).heap[w.heap.size + 4]? = some (.cells #[.int .i8 0, .int .i8 0, .int .i8 0, .int .i8 0] 110 (0, 0)) := by
    refine (Below.heap_alloc _ _ _ (by simp; try omega)).trans ?_
    have := heap_alloc_new ((((w.alloc (.cells #[.int .i8 (W : Int), .int .i8 (H : Int), .slice sA sn sc] 31)).alloc (.cells #[.pointer (some ⟨b, 0, none⟩)] 108)).alloc (.cells #[.int .i8 (wd : Int)] 22)).alloc (.cells #[.int .i8 (ht : Int)] 22)) (.cells #[.int .i8 0, .int .i8 0, .int .i8 0, .int .i8 0] 110)
    simpa using this
  have z5 : ((((((w.alloc (.cells #[.int .i8 (W : Int), .int .i8 (H : Int), .slice sA sn sc] 31)).alloc (.cells #[.pointer (some ⟨b, 0, none⟩)] 108)).alloc (.cells #[.int .i8 (wd : Int)] 22)).alloc (.cells #[.int .i8 (ht : Int)] 22)).alloc (.cells #[.int .i8 0, .int .i8 0, .int .i8 0, .int .i8 0] 110)).alloc (.cells #[.bool false] 4)).heap[w.heap.size + 5]? = some (.cells #[.bool false] 4 (0, 0)) := by
    have := heap_alloc_new (((((w.alloc (.cells #[.int .i8 (W : Int), .int .i8 (H : Int), .slice sA sn sc] 31)).alloc (.cells #[.pointer (some ⟨b, 0, none⟩)] 108)).alloc (.cells #[.int .i8 (wd : Int)] 22)).alloc (.cells #[.int .i8 (ht : Int)] 22)).alloc (.cells #[.int .i8 0, .int .i8 0, .int .i8 0, .int .i8 0] 110)) (.cells #[.bool false] 4)
    simpa using this
  obtain ⟨W6, hW6⟩ : ∃ W6, ((((((w.alloc (.cells #[.int .i8 (W : Int), .int .i8 (H : Int), .slice sA sn sc] 31)).alloc (.cells #[.pointer (some ⟨b, 0, none⟩)] 108)).alloc (.cells #[.int .i8 (wd : Int)] 22)).alloc (.cells #[.int .i8 (ht : Int)] 22)).alloc (.cells #[.int .i8 0, .int .i8 0, .int .i8 0, .int .i8 0] 110)).alloc (.cells #[.bool false] 4)) = W6 := ⟨_, rfl⟩
  rw [hW6] at hB6 hs6 z0 z1 z2 z3 z4 z5 ⊢
  clear hW6
  have hG6 := hG.of_block (hB6.block _ hG.lt)
  refine (whole_in Fence.wide 11 trivial hro _ _ _ _).mono ?_
  rintro e w7 ⟨rfl, hb⟩
  replace hB6 := nxt hB6 hb
  replace z0 := (hb.block _ (by omega)).trans z0
  replace z1 := (hb.block _ (by omega)).trans z1
  replace z2 := (hb.block _ (by omega)).trans z2
  replace z3 := (hb.block _ (by omega)).trans z3
  replace z4 := (hb.block _ (by omega)).trans z4
  replace z5 := (hb.block _ (by omega)).trans z5
  replace hG6 := rowNext0 hG6 hb
  have hs7 : w.heap.size + 6 ≤ w7.heap.size := by have := hb.size; omega
  clear hb hs6
  have Z0 := Lib.hid z0
  have Z1 := Lib.hid z1
  have Z2 := Lib.hid z2
  have Z3 := Lib.hid z3
  have Z4 := Lib.hid z4
  have Z5 := Lib.hid z5
  clear z0 z1 z2 z3 z4 z5
  gi_wp2_with (refine ⟨trivial, ?_⟩; gi_at_call 136; refine (cellsOf_in Fence.wide 11 trivial hro _ _ _ _ _).mono ?_; rintro e w' ⟨rfl, rfl⟩)
  obtain ⟨W0, hW0'⟩ : ∃ W0, w7.alloc (.cells #[.int .i8 0, .int .i8 0, .int .i8 (W : Int), .int .i8 (H : Int)] 110) = W0 := ⟨_, rfl⟩
  have B0 : Below w.heap.size w W0 := by rw [← hW0']; exact al hB6 _
  have zs : Sl W0 w7.heap.size 0 0 W H := by rw [← hW0']; exact Sl.new w7 0 0 W H 110
  have hs0 : W0.heap.size = w7.heap.size + 1 := by rw [← hW0']; simp
  have hG0 : W0.rowIs b 105 144 (fun p => .int .i8 (G p)) := by rw [← hW0']; exact hG6.alloc _
  have y0 : W0.heap[w.heap.size]? = some (.cells #[.int .i8 (W : Int), .int .i8 (H : Int), .slice sA sn sc] 31 (0, 0)) := by rw [← hW0']; exact (Below.heap_alloc _ _ _ (by omega)).trans Z0.out
  have y1 : W0.heap[w.heap.size + 1]? = some (.cells #[.pointer (some ⟨b, 0, none⟩)] 108 (0, 0)) := by rw [← hW0']; exact (Below.heap_alloc _ _ _ (by omega)).trans Z1.out
  have y2 : W0.heap[w.heap.size + 2]? = some (.cells #[.int .i8 (wd : Int)] 22 (0, 0)) := by rw [← hW0']; exact (Below.heap_alloc _ _ _ (by omega)).trans Z2.out
  have y3 : W0.heap[w.heap.size + 3]? = some (.cells #[.int .i8 (ht : Int)] 22 (0, 0)) := by rw [← hW0']; exact (Below.heap_alloc _ _ _ (by omega)).trans Z3.out
  have y4 : W0.heap[w.heap.size + 4]? = some (.cells #[.int .i8 0, .int .i8 0, .int .i8 0, .int .i8 0] 110 (0, 0)) := by rw [← hW0']; exact (Below.heap_alloc _ _ _ (by omega)).trans Z4.out
  have y5 : W0.heap[w.heap.size + 5]? = some (.cells #[.bool false] 4 (0, 0)) := by rw [← hW0']; exact (Below.heap_alloc _ _ _ (by omega)).trans Z5.out
  rw [hW0']
  clear hW0' hB6 hG6 Z0 Z1 Z2 Z3 Z4 Z5
  have hstops := cells_stops Fence.wide 11 trivial hro (by omega) w7.heap.size 0 0 W H (by omega) (by omega) W0 (by simpa using zs)
  refine wpIn_rangeFunc_ownH hro (by omega) (gf := 172) (lb := #[.pointer (some ⟨w7.heap.size, 0, none⟩)]) rfl trivial (enters_of Try.func172 (by kernel_rfl) rfl)
    hstops kpB_trans (kpB_put (by omega)) (Below.refl _ _) (fun _ => rfl)
    (fun pre W' => Below W0.heap.size W0 W' ∧ ∀ q ∈ pre, ¬ fitsG W H G wd ht q.1)
    (fun cc pre W' => (Below w.heap.size w W' ∧ cc = .ret ∧ ∃ pre' q, pre = pre' ++ [q] ∧ fitsG W H G wd ht q.1 ∧ (∀ p ∈ pre', ¬ fitsG W H G wd ht p.1) ∧
      W'.heap[w.heap.size + 4]? = some (.cells #[.int .i8 (q.1.1 : Int), .int .i8 (q.1.2 : Int), .int .i8 (wd : Int), .int .i8 (ht : Int)] 110 (0, 0)) ∧ W'.heap[w.heap.size + 5]? = some (.cells #[.bool true] 4 (0, 0))))
    (OwnFrom.and (ownFrom_below (Nat.le_refl _) (Nat.le_refl _)) (ownFrom_pure _ _))
    (fun cc s X Y row hs hg hr => by
      obtain ⟨h1, h2, pre', q, h3, h4, h5, h6, h7⟩ := hs
      exact ⟨ownFrom_below (β := Unit) (n₀ := w.heap.size) (w₀ := w) (B := W0.heap.size) (Nat.le_refl _) (by omega) () X Y row h1 hg hr, h2, pre', q, h3, h4, h5, cellsKept h6 hg (fun r e => (hr r e).2), cellsKept h7 hg (fun r e => (hr r e).2)⟩)
    ⟨Below.refl _ _, fun q hq => by cases hq⟩
    (fun x a' W' => ∃ Bx, W0.heap.size ≤ Bx ∧ W'.heap[Bx]? = some (.cells #[.int .i8 (x.1.1 : Int), .int .i8 (x.1.2 : Int)] 130 (0, 0)) ∧ a' = { tmps := #[.agg #[.int .i8 (W : Int), .int .i8 (H : Int), .slice sA sn sc], .pointer (some ⟨b, 0, none⟩), .int .i8 (wd : Int), .int .i8 (ht : Int), .pointer (some ⟨w.heap.size, 0, none⟩), .pointer (some ⟨w.heap.size + 1, 0, none⟩), .pointer (some ⟨w.heap.size + 1 + 1, 0, none⟩), .pointer (some ⟨w.heap.size + 1 + 1 + 1, 0, none⟩), .pointer (some ⟨w.heap.size + 1 + 1 + 1 + 1, 0, none⟩), .pointer (some ⟨w.heap.size + 1 + 1 + 1 + 1 + 1, 0, none⟩), .pointer (some ⟨Bx, 0, none⟩), undef, .agg #[.int .i8 (W : Int), .int .i8 (H : Int), .slice sA sn sc], .agg #[.int .i8 0, .int .i8 0, .int .i8 (W : Int), .int .i8 (H : Int)], .func (.func 172) #[] #[.pointer (some ⟨w7.heap.size, 0, none⟩)], .agg #[.int .i8 (x.1.1 : Int), .int .i8 (x.1.2 : Int)], undef, undef, undef, undef, undef, undef, undef, undef, undef, undef, undef, undef, undef, undef, undef, undef, undef, undef, undef, undef], defers := [] })
    (fun x a' _ X Y row hs hg hr => by obtain ⟨Bx, h1, h2, h3⟩ := hs; exact ⟨Bx, h1, cellsKept h2 hg (fun r e => (hr r e).2), h3⟩)
    ?assign ?body ?done ?stop
  case assign =>
    rintro l pre x W' K ⟨hB1, hall⟩ hK
    dsimp only [encC]
    gi_wp2
    exact hK _ _ ((KeepsOthers.alloc _ _).from _) (kpB_below ((Below.refl _ W').alloc (Nat.le_refl _) _) (by have := hB1.size; omega)) ⟨hB1.alloc hB1.size _, hall⟩ ⟨W'.heap.size, hB1.size, heap_alloc_new W' _, rfl⟩
  case body =>
    rintro l pre x a' W' hl hrr ⟨hB1, hall⟩ ⟨Bx, hBx, hX, rfl⟩ hlt
    have hsW := hB1.size
    have hBx2 := (Array.getElem?_eq_some_iff.1 hX).1
    have cX0 := cell_of_row W' Bx 0 _ _ _ hX
    have cX1 := cell_of_row W' Bx 1 _ _ _ hX
    have q0 := cell_of_row W' w.heap.size 0 _ _ _ ((hB1.block _ (by omega)).trans y0)
    have q1 := cell_of_row W' w.heap.size 1 _ _ _ ((hB1.block _ (by omega)).trans y0)
    have q4 := cell_of_row W' (w.heap.size + 1) 0 _ _ _ ((hB1.block _ (by omega)).trans y1)
    have q5 := cell_of_row W' (w.heap.size + 2) 0 _ _ _ ((hB1.block _ (by omega)).trans y2)
    have q6 := cell_of_row W' (w.heap.size + 3) 0 _ _ _ ((hB1.block _ (by omega)).trans y3)
    simp at cX0 cX1 q0 q1 q4 q5 q6
    have hl0 : w.heap.size < W'.heap.size := by omega
    have hl1 : w.heap.size + 1 < W'.heap.size := by omega
    have hl2 : w.heap.size + 2 < W'.heap.size := by omega
    have hl3 : w.heap.size + 3 < W'.heap.size := by omega
    have HALL := Lib.hid hall
    have HX := Lib.hid hX
    have Y0 := Lib.hid y0
    have Y1 := Lib.hid y1
    have Y4 := Lib.hid y4
    have Y5 := Lib.hid y5
    clear hall hX y0 y1 y2 y3 y4 y5
    gi_wp2_with fail
    have H11 := Sl.new W' (x.1.1 : Int) x.1.2 wd ht 110
    have B1 := hB1.alloc hB1.size (.cells #[.int .i8 (x.1.1 : Int), .int .i8 (x.1.2 : Int), .int .i8 (wd : Int), .int .i8 (ht : Int)] 110)
    have hkA : KeepsFrom W0.heap.size W' (W'.alloc (.cells #[.int .i8 (x.1.1 : Int), .int .i8 (x.1.2 : Int), .int .i8 (wd : Int), .int .i8 (ht : Int)] 110)) := (KeepsOthers.alloc _ _).from _
    have hpA : KpB w7.heap.size W' (W'.alloc (.cells #[.int .i8 (x.1.1 : Int), .int .i8 (x.1.2 : Int), .int .i8 (wd : Int), .int .i8 (ht : Int)] 110)) := kpB_below ((Below.refl _ W').alloc (Nat.le_refl _) _) (by omega)
    obtain ⟨W1, hW1⟩ : ∃ W1, (W'.alloc (.cells #[.int .i8 (x.1.1 : Int), .int .i8 (x.1.2 : Int), .int .i8 (wd : Int), .int .i8 (ht : Int)] 110)) = W1 := ⟨_, rfl⟩
    rw [hW1] at H11 B1 hkA hpA ⊢
    have hs1 : W'.heap.size < W1.heap.size := H11.1
    clear hW1 cX0 cX1 q0 q1 q4 q5 q6
    have hx12 := x.2.1
    have hy12 := x.2.2
    by_cases hlw : x.1.1 + wd ≤ W ∧ x.1.2 + ht ≤ H
    · refine ⟨trivial, (CallsIn.inRound l (callsIn_wide.2 (lw_yes (W : Int) (H : Int) _ _ _ _ _ (by omega) (by omega) (by omega) (by omega) (by omega) (by omega) (by omega)))).mono ?_⟩
      rintro e w8 ⟨rfl, hb⟩
      replace H11 := H11.below hb
      replace B1 := B1.trans (hb.mono B1.size)
      replace hkA := hkA.trans (keepsFrom_below hb)
      replace hpA := kpB_trans hpA (kpB_below hb (by omega))
      have hs8 := H11.1
      clear hb
      obtain ⟨l3, p3, q3, r3, s3⟩ := id H11
      have q4 := cell_of_row w8 (w.heap.size + 1) 0 _ _ _ ((B1.block _ (by omega)).trans Y1.out)
      simp at q4
      gi_wp2_with fail
      refine ⟨trivial, (CallsIn.inRound l (isOpen_in 9 (by omega) b x.1.1 x.1.2 wd ht (fun p => G p) _ (by omega) (by omega) (hG0.of_block (B1.block _ hG0.lt)))).mono ?_⟩
      rintro e w9 ⟨hb, hcase⟩
      replace H11 := H11.below hb
      replace B1 := B1.trans (hb.mono B1.size)
      replace hkA := hkA.trans (keepsFrom_below hb)
      replace hpA := kpB_trans hpA (kpB_below hb (by omega))
      have hs9 := H11.1
      clear hb l3 p3 q3 r3 s3 q4
      obtain ⟨l3, p3, q3, r3, s3⟩ := id H11
      rcases hcase with ⟨rfl, hf⟩ | ⟨rfl, hf⟩
      · have HF : fitsG W H G wd ht x.1 := (fitsG_iff (x := x.1.1) (y := x.1.2) hlw).2 hf
        have hY4 := (B1.block _ (by omega)).trans Y4.out
        have hY5 := (B1.block _ (by omega)).trans Y5.out
        have e0 := cell_of_row w9 (w.heap.size + 4) 0 _ _ _ hY4
        have f0 := frozen_of_row w9 (w.heap.size + 4) 0 _ _ hY4
        have e1 := cell_of_row w9 (w.heap.size + 4) 1 _ _ _ hY4
        have f1 := frozen_of_row w9 (w.heap.size + 4) 1 _ _ hY4
        have e2 := cell_of_row w9 (w.heap.size + 4) 2 _ _ _ hY4
        have f2 := frozen_of_row w9 (w.heap.size + 4) 2 _ _ hY4
        have e3 := cell_of_row w9 (w.heap.size + 4) 3 _ _ _ hY4
        have f3 := frozen_of_row w9 (w.heap.size + 4) 3 _ _ hY4
        have e4 := cell_of_row w9 (w.heap.size + 5) 0 _ _ _ hY5
        have f4 := frozen_of_row w9 (w.heap.size + 5) 0 _ _ hY5
        simp at e0 e1 e2 e3 e4
        have HF' := Lib.hid HF
        have HY4 := Lib.hid hY4
        have HY5 := Lib.hid hY5
        clear hf HF hY4 hY5
        gi_wp2
        have hBw := B0.trans (B1.mono (by omega))
        have g1 := heap_setCell_same w9 (w.heap.size + 4) 0 _ _ (.int .i8 (x.1.1 : Int)) HY4.out
        have g2 := heap_setCell_same _ (w.heap.size + 4) 1 _ _ (.int .i8 (x.1.2 : Int)) g1
        have g3 := heap_setCell_same _ (w.heap.size + 4) 2 _ _ (.int .i8 (wd : Int)) g2
        have g4 := heap_setCell_same _ (w.heap.size + 4) 3 _ _ (.int .i8 (ht : Int)) g3
        have k5 := (Below.heap_setCell w9 ⟨w.heap.size + 4, 0, none⟩ (.int .i8 (x.1.1 : Int)) (w.heap.size + 5) (by simp)).trans HY5.out
        have k6 := (Below.heap_setCell _ ⟨w.heap.size + 4, 1, none⟩ (.int .i8 (x.1.2 : Int)) (w.heap.size + 5) (by simp)).trans k5
        have k7 := (Below.heap_setCell _ ⟨w.heap.size + 4, 2, none⟩ (.int .i8 (wd : Int)) (w.heap.size + 5) (by simp)).trans k6
        have k8 := (Below.heap_setCell _ ⟨w.heap.size + 4, 3, none⟩ (.int .i8 (ht : Int)) (w.heap.size + 5) (by simp)).trans k7
        have g5 := (Below.heap_setCell _ ⟨w.heap.size + 5, 0, none⟩ (.bool true) (w.heap.size + 4) (by simp)).trans g4
        have k9 := heap_setCell_same _ (w.heap.size + 5) 0 _ _ (.bool true) k8
        refine ⟨?_, ?_, rfl, pre, x, rfl, HF'.out, HALL.out, g5, k9⟩
        · exact ((((hkA.trans ((KeepsOthers.setCell _ _ _).from _)).trans ((KeepsOthers.setCell _ _ _).from _)).trans ((KeepsOthers.setCell _ _ _).from _)).trans ((KeepsOthers.setCell _ _ _).from _)).trans ((KeepsOthers.setCell _ _ _).from _)
        · exact ((((hBw.setCell (p := ⟨w.heap.size + 4, 0, none⟩) (by simp) _).setCell (p := ⟨w.heap.size + 4, 1, none⟩) (by simp) _).setCell (p := ⟨w.heap.size + 4, 2, none⟩) (by simp) _).setCell (p := ⟨w.heap.size + 4, 3, none⟩) (by simp) _).setCell (p := ⟨w.heap.size + 5, 0, none⟩) (by simp) _
      · have HF : ¬ fitsG W H G wd ht x.1 := fun h => by
          obtain ⟨k, hk, hne⟩ := hf
          exact hne ((fitsG_iff (x := x.1.1) (y := x.1.2) hlw).1 h k hk)
        have HF' := Lib.hid HF
        clear hf HF
        gi_wp2
        refine ⟨hkA, hpA, B1, fun q hq => ?_⟩
        rcases List.mem_append.1 hq with h | h
        · exact HALL.out q h
        · obtain rfl : q = x := by simpa using h
          exact HF'.out
    · refine ⟨trivial, (CallsIn.inRound l (callsIn_wide.2 (lw_no (W : Int) (H : Int) _ _ _ _ _ (by omega) (by omega) (by omega) (by omega) (by omega) (by omega) (by omega)))).mono ?_⟩
      rintro e w8 ⟨rfl, hb⟩
      replace B1 := B1.trans (hb.mono B1.size)
      replace hkA := hkA.trans (keepsFrom_below hb)
      replace hpA := kpB_trans hpA (kpB_below hb (by omega))
      clear hb
      gi_wp2_with fail
      refine ⟨trivial, ?_⟩
      gi_wp2
      refine ⟨hkA, hpA, B1, fun q hq => ?_⟩
      rcases List.mem_append.1 hq with h | h
      · exact HALL.out q h
      · obtain rfl : q = x := by simpa using h
        exact fun h => hlw ⟨h.1, h.2.1⟩
  case done =>
    rintro D zs' W' hD rfl ⟨hB1, hall⟩ hK
    have hY4 := (hB1.block _ (by omega)).trans y4
    have hY5 := (hB1.block _ (by omega)).trans y5
    have e0 := cell_of_row W' (w.heap.size + 4) 0 _ _ _ hY4
    have f0 := frozen_of_row W' (w.heap.size + 4) 0 _ _ hY4
    have e1 := cell_of_row W' (w.heap.size + 4) 1 _ _ _ hY4
    have f1 := frozen_of_row W' (w.heap.size + 4) 1 _ _ hY4
    have e2 := cell_of_row W' (w.heap.size + 4) 2 _ _ _ hY4
    have f2 := frozen_of_row W' (w.heap.size + 4) 2 _ _ hY4
    have e3 := cell_of_row W' (w.heap.size + 4) 3 _ _ _ hY4
    have f3 := frozen_of_row W' (w.heap.size + 4) 3 _ _ hY4
    have e4 := cell_of_row W' (w.heap.size + 5) 0 _ _ _ hY5
    have f4 := frozen_of_row W' (w.heap.size + 5) 0 _ _ hY5
    simp at e0 e1 e2 e3 e4
    have HY4 := Lib.hid hY4
    have HY5 := Lib.hid hY5
    clear hY4 hY5 y0 y1 y2 y3 y4 y5
    gi_wp2
    have g1 := heap_setCell_same W' (w.heap.size + 4) 0 _ _ (.int .i8 0) HY4.out
    have g2 := heap_setCell_same _ (w.heap.size + 4) 1 _ _ (.int .i8 0) g1
    have g3 := heap_setCell_same _ (w.heap.size + 4) 2 _ _ (.int .i8 0) g2
    have g4 := heap_setCell_same _ (w.heap.size + 4) 3 _ _ (.int .i8 0) g3
    have k5 := (Below.heap_setCell W' ⟨w.heap.size + 4, 0, none⟩ (.int .i8 0) (w.heap.size + 5) (by simp)).trans HY5.out
    have k6 := (Below.heap_setCell _ ⟨w.heap.size + 4, 1, none⟩ (.int .i8 0) (w.heap.size + 5) (by simp)).trans k5
    have k7 := (Below.heap_setCell _ ⟨w.heap.size + 4, 2, none⟩ (.int .i8 0) (w.heap.size + 5) (by simp)).trans k6
    have k8 := (Below.heap_setCell _ ⟨w.heap.size + 4, 3, none⟩ (.int .i8 0) (w.heap.size + 5) (by simp)).trans k7
    have g5 := (Below.heap_setCell _ ⟨w.heap.size + 5, 0, none⟩ (.bool false) (w.heap.size + 4) (by simp)).trans g4
    have k9 := heap_setCell_same _ (w.heap.size + 5) 0 _ _ (.bool false) k8
    have hBw := B0.trans (hB1.mono (by omega))
    have hBf := ((((hBw.setCell (p := ⟨w.heap.size + 4, 0, none⟩) (by simp) (.int .i8 0)).setCell (p := ⟨w.heap.size + 4, 1, none⟩) (by simp) (.int .i8 0)).setCell (p := ⟨w.heap.size + 4, 2, none⟩) (by simp) (.int .i8 0)).setCell (p := ⟨w.heap.size + 4, 3, none⟩) (by simp) (.int .i8 0)).setCell (p := ⟨w.heap.size + 5, 0, none⟩) (by simp) (.bool false)
    have hKf := ((((((KeepsOthers.setCell W' ⟨w.heap.size + 4, 0, none⟩ (.int .i8 0)).trans (KeepsOthers.setCell _ ⟨w.heap.size + 4, 1, none⟩ (.int .i8 0))).trans (KeepsOthers.setCell _ ⟨w.heap.size + 4, 2, none⟩ (.int .i8 0))).trans (KeepsOthers.setCell _ ⟨w.heap.size + 4, 3, none⟩ (.int .i8 0))).trans (KeepsOthers.setCell _ ⟨w.heap.size + 5, 0, none⟩ (.bool false))).same D _ hK rfl)
    clear g1 g2 g3 g4 k5 k6 k7 k8 e0 e1 e2 e3 e4 f0 f1 f2 f3 f4 HY4 HY5 hK
    refine ⟨by simp, .inl ⟨_, _, rfl, run_takeDeferred hKf, ?_⟩⟩
    have m4 := cellsKept g5 (grownBy_putObj' _ D (.deferred none)) (fun r e => by cases e; exact ⟨_, hKf, rfl⟩)
    have m5 := cellsKept k9 (grownBy_putObj' _ D (.deferred none)) (fun r e => by cases e; exact ⟨_, hKf, rfl⟩)
    refine ⟨.tuple #[.agg #[.int .i8 0, .int .i8 0, .int .i8 0, .int .i8 0], .bool false], ?_, hBf.trans (belowK_b (w := w) (Nat.le_refl _) _ D _ _ (by omega) hKf rfl rfl), _, rfl, .inr ⟨fun j hj => ?_, rfl⟩⟩
    · exact two_cells Try.results84 _ _ (w.heap.size + 4) (w.heap.size + 5) _ _ _ _ _ rfl rfl m4 m5
    · rw [← cellAt_val hW hH hj]; exact hall _ (mem_uptoC hj)
  case stop =>
    rintro D cc pre W' hD ⟨k, hk, rfl⟩ ⟨hB1, rfl, pre', q, he, hf, hall, h6, h7⟩ hK
    gi_wp2
    obtain ⟨j, rfl, rfl⟩ := uptoC_snoc he
    have hp : pre' = uptoC 0 0 W j := by
      rw [uptoC_succ] at he
      exact (List.append_inj_left' he rfl).symm
    subst hp
    refine ⟨by simp, .inl ⟨_, _, rfl, run_takeDeferred hK, ?_⟩⟩
    have m4 := cellsKept h6 (grownBy_putObj' _ D (.deferred none)) (fun r e => by cases e; exact ⟨_, hK, rfl⟩)
    have m5 := cellsKept h7 (grownBy_putObj' _ D (.deferred none)) (fun r e => by cases e; exact ⟨_, hK, rfl⟩)
    have hj : j < W * H := by omega
    rw [cellAt_val hW hH hj] at m4 hf
    refine ⟨.tuple #[.agg #[.int .i8 ((cl W j).1 : Int), .int .i8 ((cl W j).2 : Int), .int .i8 (wd : Int), .int .i8 (ht : Int)], .bool true], ?_, hB1.trans (belowK_b (w := w) (Nat.le_refl _) _ D _ _ (by omega) hK rfl rfl), _, rfl, .inl ⟨j, hj, hf, fun i hi => ?_, rfl⟩⟩
    · exact two_cells Try.results84 _ _ (w.heap.size + 4) (w.heap.size + 5) _ _ _ _ _ rfl rfl m4 m5
    · rw [← cellAt_val hW hH (show i < W * H by omega)]; exact hall _ (mem_uptoC hi)
end Go.Proofs.Ytkdakpbkpfigeaa

namespace Go.Proofs.Ytkdakpbkpfigeaa
open canPut
set_option linter.unusedVariables false
set_option maxRecDepth 100000
instance (W H : Nat) (G : Nat → Int) (wd ht : Nat) (q : Nat × Nat) : Decidable (fitsG W H G wd ht q) := by unfold fitsG; infer_instance
theorem fitsG_congr {W H wd ht : Nat} {G G' : Nat → Int} (h : ∀ p, G p = 0 ↔ G' p = 0) (q : Nat × Nat) : fitsG W H G wd ht q ↔ fitsG W H G' wd ht q := by
  unfold fitsG
  constructor
  · rintro ⟨h1, h2, h3⟩; exact ⟨h1, h2, fun k hk => (h _).1 (h3 k hk)⟩
  · rintro ⟨h1, h2, h3⟩; exact ⟨h1, h2, fun k hk => (h _).2 (h3 k hk)⟩
/-- the grid of slabs in whatever order. -/
def gridL (D : List S4) (p : Nat) : Int := gridN (fL D) D.length p
/-- the slab that is put next, if there is a place for one. -/
def nextS (W H wd ht : Nat) (D : List S4) : Option S4 :=
  ((List.range (W * H)).find? fun k => decide (fitsG W H (gridL D) wd ht (cl W k))).map fun k => (((cl W k).1 : Int), ((cl W k).2 : Int), (wd : Int), (ht : Int))
/-- all slabs when at most t are put. -/
def runS (W H wd ht : Nat) : Nat → List S4 → List S4
  | 0, D => D
  | t + 1, D => match nextS W H wd ht D with | some s => runS W H wd ht t (D ++ [s]) | none => D
section
variable {W H wd ht : Nat} {D : List S4}
theorem runS_some {t : Nat} {s : S4} (h : nextS W H wd ht D = some s) : runS W H wd ht (t + 1) D = runS W H wd ht t (D ++ [s]) := by
  show (match nextS W H wd ht D with | some s => runS W H wd ht t (D ++ [s]) | none => D) = _
  rw [h]
theorem runS_none {t : Nat} (h : nextS W H wd ht D = none) : runS W H wd ht t D = D := by
  cases t with
  | zero => rfl
  | succ t =>
    show (match nextS W H wd ht D with | some s => runS W H wd ht t (D ++ [s]) | none => D) = _
    rw [h]
theorem nextS_some {k : Nat} (hk : k < W * H) (hf : fitsG W H (gridL D) wd ht (cl W k)) (hno : ∀ j, j < k → ¬ fitsG W H (gridL D) wd ht (cl W j)) : nextS W H wd ht D = some (((cl W k).1 : Int), ((cl W k).2 : Int), (wd : Int), (ht : Int)) := by
  have e : (List.range (W * H)).find? (fun k => decide (fitsG W H (gridL D) wd ht (cl W k))) = some k := by
    rw [List.find?_range_eq_some]
    exact ⟨by simpa using hf, by simpa using hk, fun j hj => by simpa using hno j hj⟩
  unfold nextS
  rw [e]
  rfl
theorem nextS_none (hno : ∀ j, j < W * H → ¬ fitsG W H (gridL D) wd ht (cl W j)) : nextS W H wd ht D = none := by
  have e : (List.range (W * H)).find? (fun k => decide (fitsG W H (gridL D) wd ht (cl W k))) = none := by
    rw [List.find?_range_eq_none]
    exact fun j hj => by simpa using hno j hj
  unfold nextS
  rw [e]
  rfl
theorem nextS_fit {s : S4} (hW : W ≤ 12) (hH : H ≤ 12) (hwd : 1 ≤ wd) (hht : 1 ≤ ht) (h : Fit4 W H D) (hs : nextS W H wd ht D = some s) : Fit4 W H (D ++ [s]) ∧ ls W H s := by
  unfold nextS at hs
  cases e : (List.range (W * H)).find? (fun k => decide (fitsG W H (gridL D) wd ht (cl W k))) with
  | none => rw [e] at hs; cases hs
  | some k =>
    rw [e] at hs
    injection hs with hs
    subst hs
    have hf := List.find?_some e
    obtain ⟨f1, f2, f3⟩ := of_decide_eq_true hf
    have hl : ls W H (((cl W k).1 : Int), ((cl W k).2 : Int), (wd : Int), (ht : Int)) := by
      unfold ls
      dsimp only
      omega
    refine ⟨h.snoc hl fun p hp hc => ?_, hl⟩
    unfold cv at hc
    dsimp only at hc
    obtain ⟨x, y, hxy⟩ : ∃ x y, cl W k = (x, y) := ⟨_, _, rfl⟩
    rw [hxy] at f1 f2 f3 hc
    dsimp only at f1 f2 f3 hc
    have hi : (p / 12 - y) * wd + (p % 12 - x) < wd * ht := by
      have h1 : p / 12 - y + 1 ≤ ht := by omega
      have h2 : (p / 12 - y + 1) * wd ≤ ht * wd := Nat.mul_le_mul_right _ h1
      rw [Nat.add_mul, Nat.one_mul] at h2
      rw [Nat.mul_comm wd ht]
      omega
    have h3 := f3 _ hi
    have key : ∀ a b : Nat, b < wd → (a * wd + b) % wd = b ∧ (a * wd + b) / wd = a := fun a b hb => by
      rw [Nat.mul_comm a wd]
      refine ⟨by rw [Nat.mul_add_mod]; exact Nat.mod_eq_of_lt hb, ?_⟩
      rw [Nat.mul_add_div (by omega), Nat.div_eq_of_lt hb]
      rfl
    obtain ⟨e1, e2⟩ := key (p / 12 - y) (p % 12 - x) (by omega)
    have e3 : posC (cellAt x y wd ((p / 12 - y) * wd + (p % 12 - x))) = p := by
      unfold posC cellAt
      dsimp only
      rw [e1, e2]
      omega
    rw [e3] at h3
    exact h3
end
end Go.Proofs.Ytkdakpbkpfigeaa

namespace Go.Proofs.Ytkdakpbkpfigeaa
open Go Go.ChangeShapes Go.WideShapes Go.ChangeAt Go.RowKit
set_option linter.unusedVariables false
set_option linter.unusedSimpArgs false
set_option maxRecDepth 100000
set_option maxHeartbeats 4000000
theorem rw_adds {w : World} {g n : Nat} {c : Nat → Int} (h : Rw w g n c) : ∀ j u, (encL (toL c n))[j]? = some u → w.cell? ((⟨g, 0, none⟩ : Addr).add j) = some u := by
  intro j u hu
  rw [← rowV_enc] at hu
  obtain ⟨hj, rfl⟩ := rowV_of hu
  rw [Addr.add_lit, Nat.zero_add]
  have := (h.2 j hj).1
  rw [Nat.zero_add] at this
  exact this
section
variable (qc : Nat)
theorem put_anyG (X Y : Int) (bq g n : Nat) (c : Nat → Int) (a0 a1 a2 a3 : Int) (w : World) (hn : n ≤ 60) (hq : Sq w bq X Y (.slice (some ⟨g, 0, none⟩) n qc)) (hrow : Rw w g n c) :
    Calls Try.prog 81 #[.pointer (some ⟨bq, 0, none⟩), .agg #[.int .i8 a0, .int .i8 a1, .int .i8 a2, .int .i8 a3]] w fun e w' => Below w.heap.size w w' ∧ ∃ v L, e = .returned (.agg #[.int .i8 X, .int .i8 Y, v]) ∧ SortedOf (putL c n (a0, a1, a2, a3)) L ∧ HasSlice .i8 4 w' w.heap.size v (n + 1) (fL L) := by
  obtain ⟨i0, hi0, hz0, hz1, hz2⟩ := info_parts infoSlab
  have HI := Lib.hid hi0
  have hl0 : (encL (toL c n)).length = n * 4 := by rw [encL_length, toL_length]
  have HL0 := Lib.hid hl0
  clear hi0 hl0
  go_enter Try.func81, Try.ntmps81
  go_upto_region 1 with fail
  have H3 := (Sl.new w a0 a1 a2 a3 110).alloc (.cells #[.int .i8 0, .int .i8 0, .slice none 0 0] 31)
  have H1 : Bx ((w.alloc (.cells #[.int .i8 a0, .int .i8 a1, .int .i8 a2, .int .i8 a3] 110)).alloc (.cells #[.int .i8 0, .int .i8 0, .slice none 0 0] 31)) (w.heap.size + 1) #[.int .i8 0, .int .i8 0, .slice none 0 0] 31 := by
    have := Bx.new (w.alloc (.cells #[.int .i8 a0, .int .i8 a1, .int .i8 a2, .int .i8 a3] 110)) #[.int .i8 0, .int .i8 0, .slice none 0 0] 31
    rwa [World.size_alloc] at this
  have B := al (al (Below.refl w.heap.size w) (.cells #[.int .i8 a0, .int .i8 a1, .int .i8 a2, .int .i8 a3] 110)) (.cells #[.int .i8 0, .int .i8 0, .slice none 0 0] 31)
  obtain ⟨W0, hW0⟩ : ∃ W0 : World, W0 = (w.alloc (.cells #[.int .i8 a0, .int .i8 a1, .int .i8 a2, .int .i8 a3] 110)).alloc (.cells #[.int .i8 0, .int .i8 0, .slice none 0 0] 31) := ⟨_, rfl⟩
  have hz : w.heap.size + 2 ≤ W0.heap.size := by rw [hW0]; simp
  rw [← hW0] at H3 H1 B ⊢
  clear hW0
  go_cut [5] (fun t5 wx => ∃ (g8 cp8 : Nat), t5 = .slice (some ⟨g8, 0, none⟩) (n + 1 : Nat) cp8 ∧ Below w.heap.size w wx ∧ w.heap.size + 2 ≤ wx.heap.size ∧ Bx wx (w.heap.size + 1) #[.int .i8 0, .int .i8 0, .slice none 0 0] 31 ∧ wx.ownsRow (w.heap.size + 2) 110 4 (.slice (some ⟨g8, 0, none⟩) (n + 1 : Nat) cp8) (n + 1) (encL (putL c n (a0, a1, a2, a3))))
  case first =>
    replace B := B.drew
    replace H3 : Sl W0.drew w.heap.size a0 a1 a2 a3 := H3
    replace H1 : Bx W0.drew (w.heap.size + 1) #[.int .i8 0, .int .i8 0, .slice none 0 0] 31 := H1
    replace hz : w.heap.size + 2 ≤ W0.drew.heap.size := hz
    obtain ⟨lq, pq, qq, rq⟩ := hq.below B
    obtain ⟨l3, p3, q3, r3, s3⟩ := id H3
    refine wp_region_held_drew (S := (fun w' => w'.cell? ⟨bq, 2, none⟩ = some (.slice (some ⟨g, 0, none⟩) n qc) ∧ w'.cell? ⟨w.heap.size, 0, none⟩ = some (.int .i8 a0) ∧ w'.cell? ⟨w.heap.size, 1, none⟩ = some (.int .i8 a1) ∧ w'.cell? ⟨w.heap.size, 2, none⟩ = some (.int .i8 a2) ∧ w'.cell? ⟨w.heap.size, 3, none⟩ = some (.int .i8 a3))) (by kernel_rfl) ⟨rq, p3, q3, r3, s3⟩ (fun hHeld => ?_)
    obtain ⟨w0, hw0⟩ : ∃ w0, W0.drew = w0 := ⟨_, rfl⟩
    rw [hw0] at hHeld B H3 H1 hz lq pq qq rq l3 p3 q3 r3 s3 ⊢
    clear hw0
    refine wpAnyH_take (i := 1) (oi := _) (v := ?_) rfl (by kernel_rfl) (by kernel_rfl) (by kernel_rfl) (fun _ _ _ h => h) (Or.inl ⟨by kernel_rfl, ?_⟩) (by assumption) ?_
    rotate_left
    · intro w hSw; (try dsimp only at hSw); go_simp; first | done | with_reducible rfl
    try simp only [List.getElem_toArray, List.getElem_cons_zero, List.getElem_cons_succ, Act.put, List.setIfInBounds_toArray, List.set_cons_zero, List.set_cons_succ]
    refine wpAnyH_take (i := 2) (oi := _) (v := ?_) rfl (by kernel_rfl) (by kernel_rfl) (by kernel_rfl) (fun _ _ _ h => h) (Or.inl ⟨by kernel_rfl, ?_⟩) (by assumption) ?_
    rotate_left
    · intro w hSw; (try dsimp only at hSw); go_simp; first | done | with_reducible rfl
    try simp only [List.getElem_toArray, List.getElem_cons_zero, List.getElem_cons_succ, Act.put, List.setIfInBounds_toArray, List.set_cons_zero, List.set_cons_succ]
    refine wpAnyH_take (i := 3) (oi := _) (v := ?_) rfl (by kernel_rfl) (by kernel_rfl) (by kernel_rfl) (fun _ _ _ h => h) (Or.inl ⟨by kernel_rfl, ?_⟩) (by assumption) ?_
    rotate_left
    · intro w hSw; (try dsimp only at hSw); go_simp; first | done | with_reducible rfl
    try simp only [List.getElem_toArray, List.getElem_cons_zero, List.getElem_cons_succ, Act.put, List.setIfInBounds_toArray, List.set_cons_zero, List.set_cons_succ]
    refine wpAnyH_take (i := 4) (oi := _) (v := ?_) rfl (by kernel_rfl) (by kernel_rfl) (by kernel_rfl) (fun _ _ _ h => h) (Or.inl ⟨by kernel_rfl, ?_⟩) (by assumption) ?_
    rotate_left
    · intro w hSw; (try dsimp only at hSw); go_simp; first | done | with_reducible rfl
    try simp only [List.getElem_toArray, List.getElem_cons_zero, List.getElem_cons_succ, Act.put, List.setIfInBounds_toArray, List.set_cons_zero, List.set_cons_succ]
    refine wpAnyH_take (i := 6) (oi := _) (v := ?_) rfl (by kernel_rfl) (by kernel_rfl) (by kernel_rfl) (fun _ _ _ h => h) (Or.inl ⟨by kernel_rfl, ?_⟩) (by assumption) ?_
    rotate_left
    · intro w hSw; (try dsimp only at hSw); go_simp; first | done | with_reducible rfl
    try simp only [List.getElem_toArray, List.getElem_cons_zero, List.getElem_cons_succ, Act.put, List.setIfInBounds_toArray, List.set_cons_zero, List.set_cons_succ]
    refine wpAnyH_ready (rs := [0, 7]) (by kernel_rfl) (by simp) ?_
    refine AllReadyH.cons (o := _) rfl (fun K hK => ?_) (AllReadyH.cons (o := _) rfl (fun K hK => ?_) AllReadyH.nil)
    · skip
      go_simp
      have O0 : (w0.alloc (.cells #[] 110)).ownsRow (w.heap.size + 2) 110 4 (.slice (some ⟨w0.heap.size, 0, none⟩) 0 0) 0 [] := World.ownsRow_made w0 #[] 0 hz (Nat.zero_le _) rfl
      have nb0 : w.heap.size + 2 ≤ w0.heap.size := hz
      replace H3 := H3.alloc (.cells #[] 110)
      replace H1 := H1.alloc (.cells #[] 110)
      replace hz : w.heap.size + 2 ≤ (w0.alloc (.cells #[] 110)).heap.size := by rw [World.size_alloc]; omega
      replace B := al B (.cells #[] 110)
      obtain ⟨wv1, hwn⟩ : ∃ wv1, w0.alloc (.cells #[] 110) = wv1 := ⟨_, rfl⟩
      rw [hwn] at B hz H3 H1 O0 ⊢
      clear hwn lq pq qq rq l3 p3 q3 r3 s3
      obtain ⟨lq, pq, qq, rq⟩ := hq.below B
      obtain ⟨l3, p3, q3, r3, s3⟩ := id H3
      refine hK.out _ _ ⟨rq, p3, q3, r3, s3⟩ (fun hHeld => ?_)
      clear hK K
      try simp only [List.getElem_toArray, List.getElem_cons_zero, List.getElem_cons_succ, Act.put, List.setIfInBounds_toArray, List.set_cons_zero, List.set_cons_succ]
      refine wpAnyH_ready (rs := [5, 7]) (by kernel_rfl) (by simp) ?_
      refine AllReadyH.cons (o := _) rfl (fun K hK => ?_) (AllReadyH.cons (o := _) rfl (fun K hK => ?_) AllReadyH.nil)
      · skip
        have N5 : Hid (∀ j u, (encL (toL c n))[j]? = some u → wv1.cell? ((⟨g, 0, none⟩ : Addr).add j) = some u) := rw_adds (hrow.of_block (B.block _ hrow.lt))
        have HO0 := Lib.hid O0
        clear O0
        refine wp_append_own _ _ _ 29 rfl (w.heap.size + 2) 110 i0 (.agg #[.int .i8 0, .int .i8 0, .int .i8 0, .int .i8 0]) 4 4 Try.underlying29 HI.out hz0 hz1 hz2 rfl (by decide) (.slice (some ⟨w0.heap.size, 0, none⟩) 0 0) 0 ([]) rfl HO0.out ⟨g, 0, none⟩ n qc (encL (toL c n)) rfl HL0.out (N5) (encL_one _) (by unfold maxLen; omega) (by omega) (by omega) ?_
        intro v2 wv2 ow hg hn
        rw [Nat.zero_add] at ow
        obtain ⟨g5, cp5, rfl⟩ := own_block ow (fun e => by first | exact hn e | (have := hn.1 e; simp at this))
        replace H3 := H3.of_block hg.size (hg.block _ H3.1 (fun e => by simp [Value.ownBlock] at e; omega))
        replace H1 := H1.of_block (hg.block _ H1.lt (fun e => by simp [Value.ownBlock] at e; omega))
        replace B := B.grown hg B.size (fun k e => by simp [Value.ownBlock] at e; omega)
        replace hz : w.heap.size + 2 ≤ wv2.heap.size := Nat.le_trans hz hg.size
        have O5 : wv2.ownsRow (w.heap.size + 2) 110 4 (.slice (some ⟨g5, 0, none⟩) n cp5) n (encL (toL c n)) := ow
        clear HO0 N5 ow hg hn lq pq qq rq l3 p3 q3 r3 s3
        obtain ⟨lq, pq, qq, rq⟩ := hq.below B
        obtain ⟨l3, p3, q3, r3, s3⟩ := id H3
        refine hK.out _ _ ⟨rq, p3, q3, r3, s3⟩ (fun hHeld => ?_)
        clear hK K
        try simp only [List.getElem_toArray, List.getElem_cons_zero, List.getElem_cons_succ, Act.put, List.setIfInBounds_toArray, List.set_cons_zero, List.set_cons_succ]
        refine wpAnyH_ready (rs := [7]) (by kernel_rfl) (by simp) ?_
        refine AllReadyH.cons (o := _) rfl (fun K hK => ?_) AllReadyH.nil
        go_simp
        have X7 := Bx.new wv2 #[.int .i8 a0, .int .i8 a1, .int .i8 a2, .int .i8 a3] 110
        have nb7 : w.heap.size + 2 ≤ wv2.heap.size := hz
        replace H3 := H3.alloc (.cells #[.int .i8 a0, .int .i8 a1, .int .i8 a2, .int .i8 a3] 110)
        replace H1 := H1.alloc (.cells #[.int .i8 a0, .int .i8 a1, .int .i8 a2, .int .i8 a3] 110)
        replace O5 := World.ownsRow.alloc O5 (.cells #[.int .i8 a0, .int .i8 a1, .int .i8 a2, .int .i8 a3] 110)
        replace hz : w.heap.size + 2 ≤ (wv2.alloc (.cells #[.int .i8 a0, .int .i8 a1, .int .i8 a2, .int .i8 a3] 110)).heap.size := by rw [World.size_alloc]; omega
        replace B := al B (.cells #[.int .i8 a0, .int .i8 a1, .int .i8 a2, .int .i8 a3] 110)
        obtain ⟨wv3, hwn⟩ : ∃ wv3, wv2.alloc (.cells #[.int .i8 a0, .int .i8 a1, .int .i8 a2, .int .i8 a3] 110) = wv3 := ⟨_, rfl⟩
        rw [hwn] at B hz H3 H1 O5 X7 ⊢
        clear hwn lq pq qq rq l3 p3 q3 r3 s3
        obtain ⟨lq, pq, qq, rq⟩ := hq.below B
        obtain ⟨l3, p3, q3, r3, s3⟩ := id H3
        refine hK.out _ _ ⟨rq, p3, q3, r3, s3⟩ (fun hHeld => ?_)
        clear hK K
        try simp only [List.getElem_toArray, List.getElem_cons_zero, List.getElem_cons_succ, Act.put, List.setIfInBounds_toArray, List.set_cons_zero, List.set_cons_succ]
        refine wpAnyH_ready (rs := [8]) (by kernel_rfl) (by simp) ?_
        refine AllReadyH.cons (o := _) rfl (fun K hK => ?_) AllReadyH.nil
        have HO5 := Lib.hid O5
        have N8 : Hid (∀ j u, (encS (a0, a1, a2, a3))[j]? = some u → wv3.cell? ((⟨wv2.heap.size, 0, none⟩ : Addr).add j) = some u) := X7.adds
        clear O5
        refine wp_append_own _ _ _ 29 rfl (w.heap.size + 2) 110 i0 (.agg #[.int .i8 0, .int .i8 0, .int .i8 0, .int .i8 0]) 4 4 Try.underlying29 HI.out hz0 hz1 hz2 rfl (by decide) ((.slice (some ⟨g5, 0, none⟩) n cp5)) n (encL (toL c n)) rfl HO5.out ⟨wv2.heap.size, 0, none⟩ 1 1 (encS (a0, a1, a2, a3)) rfl rfl (N8) (encL_one [(a0, a1, a2, a3)]) (by unfold maxLen; omega) (by omega) (by omega) ?_
        intro v4 wv4 ow hg hn
        obtain ⟨g8, cp8, rfl⟩ := own_block ow (fun e => by first | exact hn e | (have := hn.1 e; simp at this))
        have hlo := World.ownsRow.lt HO5.out g5 rfl
        replace H3 := H3.of_block hg.size (hg.block _ H3.1 (fun e => by simp [Value.ownBlock] at e; omega))
        replace H1 := H1.of_block (hg.block _ H1.lt (fun e => by simp [Value.ownBlock] at e; omega))
        replace B := B.grown hg B.size (fun k e => by simp [Value.ownBlock] at e; omega)
        replace hz : w.heap.size + 2 ≤ wv4.heap.size := Nat.le_trans hz hg.size
        have O8 : wv4.ownsRow (w.heap.size + 2) 110 4 (.slice (some ⟨g8, 0, none⟩) (n + 1 : Nat) cp8) (n + 1) (encL (putL c n (a0, a1, a2, a3))) := by rw [putL_enc]; exact ow
        clear HO5 N8 ow hg hn X7 hlo lq pq qq rq l3 p3 q3 r3 s3
        obtain ⟨lq, pq, qq, rq⟩ := hq.below B
        obtain ⟨l3, p3, q3, r3, s3⟩ := id H3
        refine hK.out _ _ ⟨rq, p3, q3, r3, s3⟩ (fun hHeld => ?_)
        clear hK K
        try simp only [List.getElem_toArray, List.getElem_cons_zero, List.getElem_cons_succ, Act.put, List.setIfInBounds_toArray, List.set_cons_zero, List.set_cons_succ]
        refine wpAnyH_take (i := 9) (oi := _) (v := ?_) rfl (by kernel_rfl) (by kernel_rfl) (by kernel_rfl) (fun _ _ _ h => h) (Or.inl ⟨by kernel_rfl, ?_⟩) (by assumption) ?_
        rotate_left
        · intro w hSw; (try dsimp only at hSw); go_simp; first | done | with_reducible rfl
        try simp only [List.getElem_toArray, List.getElem_cons_zero, List.getElem_cons_succ, Act.put, List.setIfInBounds_toArray, List.set_cons_zero, List.set_cons_succ]
        refine wpAnyH_done (by kernel_rfl) ?_ _
        go_wp2_with fail
        go_meet
        exact ⟨g8, cp8, rfl, B, hz, H1, O8⟩
      · skip
        go_simp
        have X7 := Bx.new wv1 #[.int .i8 a0, .int .i8 a1, .int .i8 a2, .int .i8 a3] 110
        have nb7 : w.heap.size + 2 ≤ wv1.heap.size := hz
        have n07 : w0.heap.size ≠ wv1.heap.size := by have := (World.ownsRow.lt O0 w0.heap.size rfl).2; omega
        replace H3 := H3.alloc (.cells #[.int .i8 a0, .int .i8 a1, .int .i8 a2, .int .i8 a3] 110)
        replace H1 := H1.alloc (.cells #[.int .i8 a0, .int .i8 a1, .int .i8 a2, .int .i8 a3] 110)
        replace O0 := World.ownsRow.alloc O0 (.cells #[.int .i8 a0, .int .i8 a1, .int .i8 a2, .int .i8 a3] 110)
        replace hz : w.heap.size + 2 ≤ (wv1.alloc (.cells #[.int .i8 a0, .int .i8 a1, .int .i8 a2, .int .i8 a3] 110)).heap.size := by rw [World.size_alloc]; omega
        replace B := al B (.cells #[.int .i8 a0, .int .i8 a1, .int .i8 a2, .int .i8 a3] 110)
        obtain ⟨wv5, hwn⟩ : ∃ wv5, wv1.alloc (.cells #[.int .i8 a0, .int .i8 a1, .int .i8 a2, .int .i8 a3] 110) = wv5 := ⟨_, rfl⟩
        rw [hwn] at B hz H3 H1 O0 X7 ⊢
        clear hwn lq pq qq rq l3 p3 q3 r3 s3
        obtain ⟨lq, pq, qq, rq⟩ := hq.below B
        obtain ⟨l3, p3, q3, r3, s3⟩ := id H3
        refine hK.out _ _ ⟨rq, p3, q3, r3, s3⟩ (fun hHeld => ?_)
        clear hK K
        try simp only [List.getElem_toArray, List.getElem_cons_zero, List.getElem_cons_succ, Act.put, List.setIfInBounds_toArray, List.set_cons_zero, List.set_cons_succ]
        refine wpAnyH_ready (rs := [5]) (by kernel_rfl) (by simp) ?_
        refine AllReadyH.cons (o := _) rfl (fun K hK => ?_) AllReadyH.nil
        have N5 : Hid (∀ j u, (encL (toL c n))[j]? = some u → wv5.cell? ((⟨g, 0, none⟩ : Addr).add j) = some u) := rw_adds (hrow.of_block (B.block _ hrow.lt))
        have HO0 := Lib.hid O0
        clear O0
        refine wp_append_own _ _ _ 29 rfl (w.heap.size + 2) 110 i0 (.agg #[.int .i8 0, .int .i8 0, .int .i8 0, .int .i8 0]) 4 4 Try.underlying29 HI.out hz0 hz1 hz2 rfl (by decide) (.slice (some ⟨w0.heap.size, 0, none⟩) 0 0) 0 ([]) rfl HO0.out ⟨g, 0, none⟩ n qc (encL (toL c n)) rfl HL0.out (N5) (encL_one _) (by unfold maxLen; omega) (by omega) (by omega) ?_
        intro v6 wv6 ow hg hn
        rw [Nat.zero_add] at ow
        obtain ⟨g5, cp5, rfl⟩ := own_block ow (fun e => by first | exact hn e | (have := hn.1 e; simp at this))
        replace H3 := H3.of_block hg.size (hg.block _ H3.1 (fun e => by simp [Value.ownBlock] at e; omega))
        replace H1 := H1.of_block (hg.block _ H1.lt (fun e => by simp [Value.ownBlock] at e; omega))
        replace X7 := X7.of_block (hg.block _ X7.lt (fun e => by simp [Value.ownBlock] at e; omega))
        replace B := B.grown hg B.size (fun k e => by simp [Value.ownBlock] at e; omega)
        replace hz : w.heap.size + 2 ≤ wv6.heap.size := Nat.le_trans hz hg.size
        have O5 : wv6.ownsRow (w.heap.size + 2) 110 4 (.slice (some ⟨g5, 0, none⟩) n cp5) n (encL (toL c n)) := ow
        clear HO0 N5 ow hg hn lq pq qq rq l3 p3 q3 r3 s3
        obtain ⟨lq, pq, qq, rq⟩ := hq.below B
        obtain ⟨l3, p3, q3, r3, s3⟩ := id H3
        refine hK.out _ _ ⟨rq, p3, q3, r3, s3⟩ (fun hHeld => ?_)
        clear hK K
        try simp only [List.getElem_toArray, List.getElem_cons_zero, List.getElem_cons_succ, Act.put, List.setIfInBounds_toArray, List.set_cons_zero, List.set_cons_succ]
        refine wpAnyH_ready (rs := [8]) (by kernel_rfl) (by simp) ?_
        refine AllReadyH.cons (o := _) rfl (fun K hK => ?_) AllReadyH.nil
        have HO5 := Lib.hid O5
        have N8 : Hid (∀ j u, (encS (a0, a1, a2, a3))[j]? = some u → wv6.cell? ((⟨wv1.heap.size, 0, none⟩ : Addr).add j) = some u) := X7.adds
        clear O5
        refine wp_append_own _ _ _ 29 rfl (w.heap.size + 2) 110 i0 (.agg #[.int .i8 0, .int .i8 0, .int .i8 0, .int .i8 0]) 4 4 Try.underlying29 HI.out hz0 hz1 hz2 rfl (by decide) ((.slice (some ⟨g5, 0, none⟩) n cp5)) n (encL (toL c n)) rfl HO5.out ⟨wv1.heap.size, 0, none⟩ 1 1 (encS (a0, a1, a2, a3)) rfl rfl (N8) (encL_one [(a0, a1, a2, a3)]) (by unfold maxLen; omega) (by omega) (by omega) ?_
        intro v7 wv7 ow hg hn
        obtain ⟨g8, cp8, rfl⟩ := own_block ow (fun e => by first | exact hn e | (have := hn.1 e; simp at this))
        have hlo := World.ownsRow.lt HO5.out g5 rfl
        replace H3 := H3.of_block hg.size (hg.block _ H3.1 (fun e => by simp [Value.ownBlock] at e; omega))
        replace H1 := H1.of_block (hg.block _ H1.lt (fun e => by simp [Value.ownBlock] at e; omega))
        replace B := B.grown hg B.size (fun k e => by simp [Value.ownBlock] at e; omega)
        replace hz : w.heap.size + 2 ≤ wv7.heap.size := Nat.le_trans hz hg.size
        have O8 : wv7.ownsRow (w.heap.size + 2) 110 4 (.slice (some ⟨g8, 0, none⟩) (n + 1 : Nat) cp8) (n + 1) (encL (putL c n (a0, a1, a2, a3))) := by rw [putL_enc]; exact ow
        clear HO5 N8 ow hg hn X7 hlo lq pq qq rq l3 p3 q3 r3 s3
        obtain ⟨lq, pq, qq, rq⟩ := hq.below B
        obtain ⟨l3, p3, q3, r3, s3⟩ := id H3
        refine hK.out _ _ ⟨rq, p3, q3, r3, s3⟩ (fun hHeld => ?_)
        clear hK K
        try simp only [List.getElem_toArray, List.getElem_cons_zero, List.getElem_cons_succ, Act.put, List.setIfInBounds_toArray, List.set_cons_zero, List.set_cons_succ]
        refine wpAnyH_take (i := 9) (oi := _) (v := ?_) rfl (by kernel_rfl) (by kernel_rfl) (by kernel_rfl) (fun _ _ _ h => h) (Or.inl ⟨by kernel_rfl, ?_⟩) (by assumption) ?_
        rotate_left
        · intro w hSw; (try dsimp only at hSw); go_simp; first | done | with_reducible rfl
        try simp only [List.getElem_toArray, List.getElem_cons_zero, List.getElem_cons_succ, Act.put, List.setIfInBounds_toArray, List.set_cons_zero, List.set_cons_succ]
        refine wpAnyH_done (by kernel_rfl) ?_ _
        go_wp2_with fail
        go_meet
        exact ⟨g8, cp8, rfl, B, hz, H1, O8⟩
    · skip
      go_simp
      have X7 := Bx.new w0 #[.int .i8 a0, .int .i8 a1, .int .i8 a2, .int .i8 a3] 110
      have nb7 : w.heap.size + 2 ≤ w0.heap.size := hz
      replace H3 := H3.alloc (.cells #[.int .i8 a0, .int .i8 a1, .int .i8 a2, .int .i8 a3] 110)
      replace H1 := H1.alloc (.cells #[.int .i8 a0, .int .i8 a1, .int .i8 a2, .int .i8 a3] 110)
      replace hz : w.heap.size + 2 ≤ (w0.alloc (.cells #[.int .i8 a0, .int .i8 a1, .int .i8 a2, .int .i8 a3] 110)).heap.size := by rw [World.size_alloc]; omega
      replace B := al B (.cells #[.int .i8 a0, .int .i8 a1, .int .i8 a2, .int .i8 a3] 110)
      obtain ⟨wv8, hwn⟩ : ∃ wv8, w0.alloc (.cells #[.int .i8 a0, .int .i8 a1, .int .i8 a2, .int .i8 a3] 110) = wv8 := ⟨_, rfl⟩
      rw [hwn] at B hz H3 H1 X7 ⊢
      clear hwn lq pq qq rq l3 p3 q3 r3 s3
      obtain ⟨lq, pq, qq, rq⟩ := hq.below B
      obtain ⟨l3, p3, q3, r3, s3⟩ := id H3
      refine hK.out _ _ ⟨rq, p3, q3, r3, s3⟩ (fun hHeld => ?_)
      clear hK K
      try simp only [List.getElem_toArray, List.getElem_cons_zero, List.getElem_cons_succ, Act.put, List.setIfInBounds_toArray, List.set_cons_zero, List.set_cons_succ]
      refine wpAnyH_ready (rs := [0]) (by kernel_rfl) (by simp) ?_
      refine AllReadyH.cons (o := _) rfl (fun K hK => ?_) AllReadyH.nil
      go_simp
      have O0 : (wv8.alloc (.cells #[] 110)).ownsRow (w.heap.size + 2) 110 4 (.slice (some ⟨wv8.heap.size, 0, none⟩) 0 0) 0 [] := World.ownsRow_made wv8 #[] 0 hz (Nat.zero_le _) rfl
      have nb0 : w.heap.size + 2 ≤ wv8.heap.size := hz
      have n07 : wv8.heap.size ≠ w0.heap.size := by have := X7.lt; omega
      replace H3 := H3.alloc (.cells #[] 110)
      replace H1 := H1.alloc (.cells #[] 110)
      replace X7 := X7.alloc (.cells #[] 110)
      replace hz : w.heap.size + 2 ≤ (wv8.alloc (.cells #[] 110)).heap.size := by rw [World.size_alloc]; omega
      replace B := al B (.cells #[] 110)
      obtain ⟨wv9, hwn⟩ : ∃ wv9, wv8.alloc (.cells #[] 110) = wv9 := ⟨_, rfl⟩
      rw [hwn] at B hz H3 H1 X7 O0 ⊢
      clear hwn lq pq qq rq l3 p3 q3 r3 s3
      obtain ⟨lq, pq, qq, rq⟩ := hq.below B
      obtain ⟨l3, p3, q3, r3, s3⟩ := id H3
      refine hK.out _ _ ⟨rq, p3, q3, r3, s3⟩ (fun hHeld => ?_)
      clear hK K
      try simp only [List.getElem_toArray, List.getElem_cons_zero, List.getElem_cons_succ, Act.put, List.setIfInBounds_toArray, List.set_cons_zero, List.set_cons_succ]
      refine wpAnyH_ready (rs := [5]) (by kernel_rfl) (by simp) ?_
      refine AllReadyH.cons (o := _) rfl (fun K hK => ?_) AllReadyH.nil
      have N5 : Hid (∀ j u, (encL (toL c n))[j]? = some u → wv9.cell? ((⟨g, 0, none⟩ : Addr).add j) = some u) := rw_adds (hrow.of_block (B.block _ hrow.lt))
      have HO0 := Lib.hid O0
      clear O0
      refine wp_append_own _ _ _ 29 rfl (w.heap.size + 2) 110 i0 (.agg #[.int .i8 0, .int .i8 0, .int .i8 0, .int .i8 0]) 4 4 Try.underlying29 HI.out hz0 hz1 hz2 rfl (by decide) (.slice (some ⟨wv8.heap.size, 0, none⟩) 0 0) 0 ([]) rfl HO0.out ⟨g, 0, none⟩ n qc (encL (toL c n)) rfl HL0.out (N5) (encL_one _) (by unfold maxLen; omega) (by omega) (by omega) ?_
      intro v10 wv10 ow hg hn
      rw [Nat.zero_add] at ow
      obtain ⟨g5, cp5, rfl⟩ := own_block ow (fun e => by first | exact hn e | (have := hn.1 e; simp at this))
      replace H3 := H3.of_block hg.size (hg.block _ H3.1 (fun e => by simp [Value.ownBlock] at e; omega))
      replace H1 := H1.of_block (hg.block _ H1.lt (fun e => by simp [Value.ownBlock] at e; omega))
      replace X7 := X7.of_block (hg.block _ X7.lt (fun e => by simp [Value.ownBlock] at e; omega))
      replace B := B.grown hg B.size (fun k e => by simp [Value.ownBlock] at e; omega)
      replace hz : w.heap.size + 2 ≤ wv10.heap.size := Nat.le_trans hz hg.size
      have O5 : wv10.ownsRow (w.heap.size + 2) 110 4 (.slice (some ⟨g5, 0, none⟩) n cp5) n (encL (toL c n)) := ow
      clear HO0 N5 ow hg hn lq pq qq rq l3 p3 q3 r3 s3
      obtain ⟨lq, pq, qq, rq⟩ := hq.below B
      obtain ⟨l3, p3, q3, r3, s3⟩ := id H3
      refine hK.out _ _ ⟨rq, p3, q3, r3, s3⟩ (fun hHeld => ?_)
      clear hK K
      try simp only [List.getElem_toArray, List.getElem_cons_zero, List.getElem_cons_succ, Act.put, List.setIfInBounds_toArray, List.set_cons_zero, List.set_cons_succ]
      refine wpAnyH_ready (rs := [8]) (by kernel_rfl) (by simp) ?_
      refine AllReadyH.cons (o := _) rfl (fun K hK => ?_) AllReadyH.nil
      have HO5 := Lib.hid O5
      have N8 : Hid (∀ j u, (encS (a0, a1, a2, a3))[j]? = some u → wv10.cell? ((⟨w0.heap.size, 0, none⟩ : Addr).add j) = some u) := X7.adds
      clear O5
      refine wp_append_own _ _ _ 29 rfl (w.heap.size + 2) 110 i0 (.agg #[.int .i8 0, .int .i8 0, .int .i8 0, .int .i8 0]) 4 4 Try.underlying29 HI.out hz0 hz1 hz2 rfl (by decide) ((.slice (some ⟨g5, 0, none⟩) n cp5)) n (encL (toL c n)) rfl HO5.out ⟨w0.heap.size, 0, none⟩ 1 1 (encS (a0, a1, a2, a3)) rfl rfl (N8) (encL_one [(a0, a1, a2, a3)]) (by unfold maxLen; omega) (by omega) (by omega) ?_
      intro v11 wv11 ow hg hn
      obtain ⟨g8, cp8, rfl⟩ := own_block ow (fun e => by first | exact hn e | (have := hn.1 e; simp at this))
      have hlo := World.ownsRow.lt HO5.out g5 rfl
      replace H3 := H3.of_block hg.size (hg.block _ H3.1 (fun e => by simp [Value.ownBlock] at e; omega))
      replace H1 := H1.of_block (hg.block _ H1.lt (fun e => by simp [Value.ownBlock] at e; omega))
      replace B := B.grown hg B.size (fun k e => by simp [Value.ownBlock] at e; omega)
      replace hz : w.heap.size + 2 ≤ wv11.heap.size := Nat.le_trans hz hg.size
      have O8 : wv11.ownsRow (w.heap.size + 2) 110 4 (.slice (some ⟨g8, 0, none⟩) (n + 1 : Nat) cp8) (n + 1) (encL (putL c n (a0, a1, a2, a3))) := by rw [putL_enc]; exact ow
      clear HO5 N8 ow hg hn X7 hlo lq pq qq rq l3 p3 q3 r3 s3
      obtain ⟨lq, pq, qq, rq⟩ := hq.below B
      obtain ⟨l3, p3, q3, r3, s3⟩ := id H3
      refine hK.out _ _ ⟨rq, p3, q3, r3, s3⟩ (fun hHeld => ?_)
      clear hK K
      try simp only [List.getElem_toArray, List.getElem_cons_zero, List.getElem_cons_succ, Act.put, List.setIfInBounds_toArray, List.set_cons_zero, List.set_cons_succ]
      refine wpAnyH_take (i := 9) (oi := _) (v := ?_) rfl (by kernel_rfl) (by kernel_rfl) (by kernel_rfl) (fun _ _ _ h => h) (Or.inl ⟨by kernel_rfl, ?_⟩) (by assumption) ?_
      rotate_left
      · intro w hSw; (try dsimp only at hSw); go_simp; first | done | with_reducible rfl
      try simp only [List.getElem_toArray, List.getElem_cons_zero, List.getElem_cons_succ, Act.put, List.setIfInBounds_toArray, List.set_cons_zero, List.set_cons_succ]
      refine wpAnyH_done (by kernel_rfl) ?_ _
      go_wp2_with fail
      go_meet
      exact ⟨g8, cp8, rfl, B, hz, H1, O8⟩
  clear B H1 H3 hz
  obtain ⟨g8, cp8, rfl, B, hz, H1, O8⟩ := hcut
  have hn1 : (((n : Nat) : Int) + 1) = ((n + 1 : Nat) : Int) := by simp
  go_wp2_with fail
  obtain ⟨A9, g9, cp9, e9, h91, h92⟩ := own_has O8 (f := fL (putL c n (a0, a1, a2, a3))) (fun j hj => encL_get _ j (by rw [putL_length]; exact hj))
  have hrd : Rd8 wc.drew wc.drew.heap.size (some ⟨g8, 0, none⟩) (4 * (n + 1)) (fL (putL c n (a0, a1, a2, a3))) := fun h0 => by
    obtain ⟨e, _, l⟩ := h91 (by omega)
    injection e9 with e9
    rw [← e9] at e
    injection e with e
    injection e with e
    subst e
    exact ⟨g8, 0, rfl, l, fun j hj => (h92 j hj).1⟩
  have HRD := Lib.hid hrd
  clear e9 h91 h92 hrd O8
  replace B := B.drew
  replace H1 : Bx wc.drew (w.heap.size + 1) #[.int .i8 0, .int .i8 0, .slice none 0 0] 31 := H1
  replace hz : w.heap.size + 2 ≤ wc.drew.heap.size := hz
  obtain ⟨lq, pq, qq, rq⟩ := hq.below B
  refine wp_region_held_drew (S := (fun w' => w'.cell? ⟨bq, 0, none⟩ = some (.int .i8 X) ∧ w'.cell? ⟨bq, 1, none⟩ = some (.int .i8 Y))) (by kernel_rfl) ⟨pq, qq⟩ (fun hHeld => ?_)
  obtain ⟨wd, hwd⟩ : ∃ wd, wc.drew = wd := ⟨_, rfl⟩
  rw [hwd] at hHeld B H1 hz HRD lq pq qq rq ⊢
  clear hwd
  refine wpAnyH_take (i := 0) (oi := _) (v := ?_) rfl (by kernel_rfl) (by kernel_rfl) (by kernel_rfl) (fun _ _ _ h => h) (Or.inl ⟨by kernel_rfl, ?_⟩) (by assumption) ?_
  rotate_left
  · intro w hSw; (try dsimp only at hSw); go_simp; first | done | with_reducible rfl
  try simp only [List.getElem_toArray, List.getElem_cons_zero, List.getElem_cons_succ, Act.put, List.setIfInBounds_toArray, List.set_cons_zero, List.set_cons_succ]
  refine wpAnyH_take (i := 1) (oi := _) (v := ?_) rfl (by kernel_rfl) (by kernel_rfl) (by kernel_rfl) (fun _ _ _ h => h) (Or.inl ⟨by kernel_rfl, ?_⟩) (by assumption) ?_
  rotate_left
  · intro w hSw; (try dsimp only at hSw); go_simp; first | done | with_reducible rfl
  try simp only [List.getElem_toArray, List.getElem_cons_zero, List.getElem_cons_succ, Act.put, List.setIfInBounds_toArray, List.set_cons_zero, List.set_cons_succ]
  refine wpAnyH_take (i := 2) (oi := _) (v := ?_) rfl (by kernel_rfl) (by kernel_rfl) (by kernel_rfl) (fun _ _ _ h => h) (Or.inl ⟨by kernel_rfl, ?_⟩) (by assumption) ?_
  rotate_left
  · intro w hSw; (try dsimp only at hSw); go_simp; first | done | with_reducible rfl
  try simp only [List.getElem_toArray, List.getElem_cons_zero, List.getElem_cons_succ, Act.put, List.setIfInBounds_toArray, List.set_cons_zero, List.set_cons_succ]
  refine wpAnyH_take (i := 3) (oi := _) (v := ?_) rfl (by kernel_rfl) (by kernel_rfl) (by kernel_rfl) (fun _ _ _ h => h) (Or.inl ⟨by kernel_rfl, ?_⟩) (by assumption) ?_
  rotate_left
  · intro w hSw; (try dsimp only at hSw); go_simp; first | done | with_reducible rfl
  try simp only [List.getElem_toArray, List.getElem_cons_zero, List.getElem_cons_succ, Act.put, List.setIfInBounds_toArray, List.set_cons_zero, List.set_cons_succ]
  refine wpAnyH_take (i := 4) (oi := _) (v := ?_) rfl (by kernel_rfl) (by kernel_rfl) (by kernel_rfl) (fun _ _ _ h => h) (Or.inl ⟨by kernel_rfl, ?_⟩) (by assumption) ?_
  rotate_left
  · intro w hSw; (try dsimp only at hSw); go_simp; first | done | with_reducible rfl
  try simp only [List.getElem_toArray, List.getElem_cons_zero, List.getElem_cons_succ, Act.put, List.setIfInBounds_toArray, List.set_cons_zero, List.set_cons_succ]
  refine wpAnyH_take (i := 5) (oi := _) (v := ?_) rfl (by kernel_rfl) (by kernel_rfl) (by kernel_rfl) (fun _ _ _ h => h) (Or.inl ⟨by kernel_rfl, ?_⟩) (by assumption) ?_
  rotate_left
  · intro w hSw; (try dsimp only at hSw); go_simp; first | done | with_reducible rfl
  try simp only [List.getElem_toArray, List.getElem_cons_zero, List.getElem_cons_succ, Act.put, List.setIfInBounds_toArray, List.set_cons_zero, List.set_cons_succ]
  refine wpAnyH_take (i := 6) (oi := _) (v := ?_) rfl (by kernel_rfl) (by kernel_rfl) (by kernel_rfl) (fun _ _ _ h => h) (Or.inl ⟨by kernel_rfl, ?_⟩) (by assumption) ?_
  rotate_left
  · intro w hSw; (try dsimp only at hSw); go_simp; first | done | with_reducible rfl
  try simp only [List.getElem_toArray, List.getElem_cons_zero, List.getElem_cons_succ, Act.put, List.setIfInBounds_toArray, List.set_cons_zero, List.set_cons_succ]
  refine wpAnyH_take (i := 7) (oi := _) (v := ?_) rfl (by kernel_rfl) (by kernel_rfl) (by kernel_rfl) (fun _ _ _ h => h) (Or.inl ⟨by kernel_rfl, ?_⟩) (by assumption) ?_
  rotate_left
  · intro w hSw; (try dsimp only at hSw); go_simp; first | done | with_reducible rfl
  try simp only [List.getElem_toArray, List.getElem_cons_zero, List.getElem_cons_succ, Act.put, List.setIfInBounds_toArray, List.set_cons_zero, List.set_cons_succ]
  refine wpAnyH_take (i := 8) (oi := _) (v := ?_) rfl (by kernel_rfl) (by kernel_rfl) (by kernel_rfl) (fun _ _ _ h => h) (Or.inl ⟨by kernel_rfl, ?_⟩) (by assumption) ?_
  rotate_left
  · intro w hSw; (try dsimp only at hSw); go_simp; first | done | with_reducible rfl
  try simp only [List.getElem_toArray, List.getElem_cons_zero, List.getElem_cons_succ, Act.put, List.setIfInBounds_toArray, List.set_cons_zero, List.set_cons_succ]
  refine wpAnyH_ready (rs := [9]) (by kernel_rfl) (by simp) ?_
  refine AllReadyH.cons (o := _) rfl (fun K hK => ?_) AllReadyH.nil
  go_simp
  refine (sorted_any (some ⟨g8, 0, none⟩) (n + 1) cp8 (fL (putL c n (a0, a1, a2, a3))) _ (by omega) HRD.out).mono ?_
  rintro e w5 ⟨hb, go, cpo, L, rfl, hLL, hSo, hOL⟩
  have hzz : toL (fL (putL c n (a0, a1, a2, a3))) (n + 1) = (putL c n (a0, a1, a2, a3)) := by have := toL_fL (putL c n (a0, a1, a2, a3)); rwa [putL_length] at this
  rw [hzz] at hSo
  have hsb := B.size
  replace H1 := H1.below hb
  replace B := nxt B hb
  have HSo := Lib.hid hSo
  have HOL := Lib.hid hOL
  clear hb hSo hOL hzz lq pq qq rq
  obtain ⟨lq, pq, qq, rq⟩ := hq.below B
  obtain ⟨p1, q1, r1⟩ := H1.cells3
  have f10 := H1.frozen 0
  have f11 := H1.frozen 1
  have f12 := H1.frozen 2
  have hbq := hq.1
  have hne : bq ≠ w.heap.size + 1 := by omega
  refine hK.out _ _ ⟨pq, qq⟩ (fun hHeld => ?_)
  clear hK K
  try simp only [List.getElem_toArray, List.getElem_cons_zero, List.getElem_cons_succ, Act.put, List.setIfInBounds_toArray, List.set_cons_zero, List.set_cons_succ]
  refine wpAnyH_take (i := 10) (oi := _) (v := ?_) rfl (by kernel_rfl) (by kernel_rfl) (by kernel_rfl) (fun _ _ _ h => h) (Or.inl ⟨by kernel_rfl, ?_⟩) (by assumption) ?_
  rotate_left
  · intro w hSw; (try dsimp only at hSw); go_simp; first | done | with_reducible rfl
  try simp only [List.getElem_toArray, List.getElem_cons_zero, List.getElem_cons_succ, Act.put, List.setIfInBounds_toArray, List.set_cons_zero, List.set_cons_succ]
  refine wpAnyH_ready (rs := [11]) (by kernel_rfl) (by simp) ?_
  refine AllReadyH.cons (o := _) rfl (fun K hK => ?_) AllReadyH.nil
  go_simp
  refine hK.out _ _ ⟨(World.cell?_of_block (w := w5) (blk3 hne)).trans pq, (World.cell?_of_block (w := w5) (blk3 hne)).trans qq⟩ (fun hHeld => ?_)
  clear hK K
  try simp only [List.getElem_toArray, List.getElem_cons_zero, List.getElem_cons_succ, Act.put, List.setIfInBounds_toArray, List.set_cons_zero, List.set_cons_succ]
  refine wpAnyH_done (by kernel_rfl) ?_ _
  clear hHeld
  go_wp2_with fail
  have F1 := H1.set3 (.int .i8 X) (.int .i8 Y) (.slice (some ⟨go, 0, none⟩) (n + 1 : Nat) cpo)
  have B3 := below_set3 (g := w.heap.size + 1) (v0 := .int .i8 X) (v1 := .int .i8 Y) (v2 := .slice (some ⟨go, 0, none⟩) (n + 1 : Nat) cpo) B (by omega)
  obtain ⟨x1, y1, z1⟩ := F1.cells3
  obtain ⟨A8, g9', cp9', e8, h81, h82⟩ := OwnQ.has HOL.out
  rw [hLL] at e8 h81 h82
  refine bodyPost_ret (v := .agg #[.int .i8 X, .int .i8 Y, .slice (some ⟨go, 0, none⟩) (n + 1 : Nat) cpo]) (by simp [results, Try.results81, go_sem, x1, y1, z1]) rfl ⟨B3, _, L, rfl, HSo.out, A8, g9', cp9', SliceOf.kept (w := w5) ⟨e8, fun h => ⟨(h81 h).1, by have := (h81 h).2.1; omega, (h81 h).2.2⟩, h82⟩ (by simp) (fun h => blk3 (by have := (h81 h).2.1; omega))⟩
end
end Go.Proofs.Ytkdakpbkpfigeaa

namespace Go.Proofs.Ytkdakpbkpfigeaa
open Go Go.ChangeShapes Go.WideShapes Go.ChangeAt Go.RowKit canPut
set_option linter.unusedVariables false
set_option linter.unusedSimpArgs false
set_option maxRecDepth 100000
set_option maxHeartbeats 4000000

/-- a slab's numbers are small. -/
theorem fL_bd {X Y : Int} {L : List S4} (hX : X ≤ 12) (hY : Y ≤ 12) (h : Fit4 X Y L) (j : Nat) : -128 ≤ fL L j ∧ fL L j ≤ 127 := by
  unfold fL
  cases e : L[j / 4]? with
  | none => simp
  | some s =>
    obtain ⟨h1, h2, h3, h4, h5, h6⟩ := h.1 s (List.mem_of_getElem? e)
    show -128 ≤ c4 s (j % 4) ∧ c4 s (j % 4) ≤ 127
    unfold c4
    split
    · omega
    · split
      · omega
      · split <;> omega
theorem fits_gridL {W H wd ht : Nat} {D L : List S4} (hW : W ≤ 12) (hH : H ≤ 12) (hs : SortedOf D L) (q : Nat × Nat) : fits W H L.length (fL L) wd ht q ↔ fitsG W H (gridL D) wd ht q := by
  refine Iff.trans ?_ (fitsG_congr (G := gridN (fL L) L.length) (G' := gridL D) (fun p => zero_perm hs.1 p) q)
  obtain ⟨x, y⟩ := q
  constructor
  · rintro ⟨h1, h2, h3⟩
    exact ⟨h1, h2, (fits_iff hW hH ⟨h1, h2⟩).1 ⟨h1, h2, h3⟩⟩
  · rintro ⟨h1, h2, h3⟩
    exact (fits_iff hW hH ⟨h1, h2⟩).2 h3
/-- what is told of the next slab. -/
def PlaceN (W H wd ht : Nat) (D : List S4) (v : Value) : Prop :=
  (∃ a0 a1 : Int, nextS W H wd ht D = some (a0, a1, (wd : Int), (ht : Int)) ∧ v = .tuple #[.agg #[.int .i8 a0, .int .i8 a1, .int .i8 (wd : Int), .int .i8 (ht : Int)], .bool true]) ∨
    (nextS W H wd ht D = none ∧ v = .tuple #[.agg #[.int .i8 0, .int .i8 0, .int .i8 0, .int .i8 0], .bool false])
theorem PlaceRes.next {W H wd ht : Nat} {D L : List S4} {v : Value} (hW : W ≤ 12) (hH : H ≤ 12) (hs : SortedOf D L) (h : PlaceRes W H L.length (fL L) wd ht v) : PlaceN W H wd ht D v := by
  rcases h with ⟨k, hk, hf, hno, rfl⟩ | ⟨hno, rfl⟩
  · exact .inl ⟨_, _, nextS_some hk ((fits_gridL hW hH hs _).1 hf) (fun j hj h => hno j hj ((fits_gridL hW hH hs _).2 h)), rfl⟩
  · exact .inr ⟨nextS_none fun j hj h => hno j hj ((fits_gridL hW hH hs _).2 h), rfl⟩
theorem PlaceResG.next {W H wd ht : Nat} {D : List S4} {v : Value} (h : PlaceResG W H (gridL D) wd ht v) : PlaceN W H wd ht D v := by
  rcases h with ⟨k, hk, hf, hno, rfl⟩ | ⟨hno, rfl⟩
  · exact .inl ⟨_, _, nextS_some hk hf hno, rfl⟩
  · exact .inr ⟨nextS_none hno, rfl⟩
theorem runS_len (W H wd ht : Nat) : ∀ t (D : List S4), (runS W H wd ht t D).length ≤ D.length + t
  | 0, D => by simp [runS]
  | t + 1, D => by
    cases e : nextS W H wd ht D with
    | none => rw [runS_none e]; omega
    | some s =>
      rw [runS_some e]
      have := runS_len W H wd ht t (D ++ [s])
      rw [List.length_append] at this
      simp at this
      omega
theorem Bx.sq {w : World} {b : Nat} {x y : Int} {v : Value} {t : TypeId} (h : Bx w b #[.int .i8 x, .int .i8 y, v] t) : Sq w b x y v := ⟨h.lt, h.cells3.1, h.cells3.2.1, h.cells3.2.2⟩
theorem has_rw {w : World} {base n : Nat} {v : Value} {f : Nat → Int} (h : HasSlice .i8 4 w base v (n + 1) f) : ∃ go cp, v = .slice (some ⟨go, 0, none⟩) (n + 1) cp ∧ base ≤ go ∧ Rw w go (n + 1) f := by
  obtain ⟨A, go, cp, h1, h2, h3⟩ := h
  obtain ⟨rfl, h5, h6⟩ := h2 (by omega)
  exact ⟨go, cp, h1, h5, h6, h3⟩
theorem rw_has {w : World} {base n go cp : Nat} {f : Nat → Int} (h : Rw w go n f) (hb : base ≤ go) : HasSlice .i8 4 w base (.slice (some ⟨go, 0, none⟩) n cp) n f := ⟨_, go, cp, rfl, fun _ => ⟨rfl, hb, h.1⟩, h.2⟩
theorem rw_own {w : World} {base go cp n : Nat} {L : List S4} (h : w.ownsRow base 110 4 (.slice (some ⟨go, 0, none⟩) n cp) n (encL L)) (hn : L.length = n) : Rw w go n (fL L) := by
  subst hn
  have hO := OwnQ.of h
  refine ⟨hO.bd.2, fun j hj => ?_⟩
  have h2 := hO.cells (j := j) (by omega)
  rw [encL_get L j hj] at h2
  rw [Nat.zero_add]
  exact ⟨h2, World.ownsRow.frozenAt h j⟩
/-- what both sides tell: all slabs, sorted. -/
def FwPost (W H n : Nat) (R : List S4) (w : World) (e : Ending) (w' : World) : Prop :=
  Below w.heap.size w w' ∧ ∃ v L, e = .returned (.tuple #[.agg #[.int .i8 (W : Int), .int .i8 (H : Int), v], .int .i64 ((R.length : Int) - n), .int .i64 0]) ∧ SortedOf R L ∧ HasSlice .i8 4 w' w.heap.size v R.length (fL L)
theorem types_apart {w : World} {base g cp n : Nat} {xs : List Value} {cs : Array Value} {t : TypeId} (h : w.ownsRow base 110 4 (.slice (some ⟨g, 0, none⟩) n cp) n xs) (hX : Bx w g cs t) (hne : 110 ≠ t) : False := by
  rcases h.2 with ⟨h1, _⟩ | ⟨g', cap, cur, h1, h2, h3, _⟩
  · cases h1
  · injection h1 with h1
    injection h1 with h1
    injection h1 with h1
    subst h1
    have h4 := h3.symm.trans hX
    injection h4 with h4
    injection h4 with _ h5
    exact hne h5
/-- the slabs of a valid square are sorted. -/
theorem befo_all {X Y : Int} {n : Nat} {c : Nat → Int} (hv : Valid X Y n c) (i : Nat) : ∀ k, i + k + 1 < n → bfr (s4 c i) (s4 c (i + k + 1))
  | 0, h => (hv.2.2.2.2.2 (i + 1) h).2.1 i rfl
  | k + 1, h => by
    have h1 := befo_all hv i k (by omega)
    have h2 : befo c (i + k + 1) := (hv.2.2.2.2.2 (i + k + 1 + 1) (by omega)).2.1 _ rfl
    unfold befo at h2
    unfold bfr s4 at h1 ⊢
    dsimp only at h1 ⊢
    rw [show i + (k + 1) + 1 = i + k + 1 + 1 by omega]
    omega
theorem sorted_self {X Y : Int} {n : Nat} {c : Nat → Int} (hv : Valid X Y n c) : SortedOf (toL c n) (toL c n) := by
  refine ⟨List.Perm.refl _, ?_⟩
  rw [List.pairwise_iff_getElem]
  intro i j hi hj hij
  rw [toL_length] at hi hj
  have h := befo_all hv i (j - i - 1) (by omega)
  rw [show i + (j - i - 1) + 1 = j by omega] at h
  simp only [toL, List.getElem_map, List.getElem_range]
  unfold bfr at h ⊢
  omega
def FwRel (W H wd ht n : Nat) (R D L : List S4) : Prop :=
  n ≤ D.length ∧ D.length ≤ 60 ∧ Fit4 W H D ∧ SortedOf D L ∧ runS W H wd ht (60 - D.length) D = R

namespace fillWith
theorem spec_in (W H g n wd ht : Nat) (c : Nat → Int) (w : World) (hwd : 1 ≤ wd ∧ wd ≤ 12) (hht : 1 ≤ ht ∧ ht ≤ 12) (hc : ∀ j, -128 ≤ c j ∧ c j ≤ 127) (hm : n ≤ 1048576) (hrow : w.rowIs g 110 (4 * n) (fun j => .int .i8 (c j))) (hv : Valid W H n c) :
    Calls Try.prog 33 #[.agg #[.int .i8 (W : Int), .int .i8 (H : Int), .slice (some ⟨g, 0, none⟩) n n], .int .i64 (wd : Int), .int .i64 (ht : Int)] w (FwPost W H n (runS W H wd ht (60 - n) (toL c n)) w) := by
  have hW : W ≤ 12 := by have := hv.2.1; omega
  have hH : H ≤ 12 := by have := hv.2.2.2.1; omega
  have hW1 : 1 ≤ W := by have := hv.1; omega
  have hH1 : 1 ≤ H := by have := hv.2.2.1; omega
  have hn60 : n ≤ 60 := hv.2.2.2.2.1
  obtain ⟨i0, hi0, hz0, hz1, hz2⟩ := info_parts infoSlab
  have HI := Lib.hid hi0
  have HC := Lib.hid hc
  have HL0 : Hid ((encL (toL c n)).length = n * 4) := Lib.hid (by rw [encL_length, toL_length])
  have HFIT := Lib.hid (Fit4.of_valid hv)
  obtain ⟨R, hR⟩ : ∃ R, R = runS W H wd ht (60 - n) (toL c n) := ⟨_, rfl⟩
  rw [← hR]
  have HRR := Lib.hid hR
  have hgl := hrow.lt
  have HROW := Lib.hid hrow
  have HV := Lib.hid hv
  clear hc hi0 hR hrow hv
  go_enter Try.func33, Try.ntmps33
  go_wp2_with fail
  have HQ := (Sq.new w (W : Int) (H : Int) (.slice (some ⟨g, 0, none⟩) n n) 31).alloc (.cells #[.int .i8 0, .int .i8 0, .slice none 0 0] 31)
  have B := al (al (Below.refl w.heap.size w) (.cells #[.int .i8 (W : Int), .int .i8 (H : Int), .slice (some ⟨g, 0, none⟩) n n] 31)) (.cells #[.int .i8 0, .int .i8 0, .slice none 0 0] 31)
  have H1 : Bx ((w.alloc (.cells #[.int .i8 (W : Int), .int .i8 (H : Int), .slice (some ⟨g, 0, none⟩) n n] 31)).alloc (.cells #[.int .i8 0, .int .i8 0, .slice none 0 0] 31)) (w.heap.size + 1) #[.int .i8 0, .int .i8 0, .slice none 0 0] 31 := Bx.newAt _ _ _ _ (by simp)
  obtain ⟨W0, hW0⟩ : ∃ W0 : World, W0 = ((w.alloc (.cells #[.int .i8 (W : Int), .int .i8 (H : Int), .slice (some ⟨g, 0, none⟩) n n] 31)).alloc (.cells #[.int .i8 0, .int .i8 0, .slice none 0 0] 31)) := ⟨_, rfl⟩
  rw [← hW0] at HQ B H1 ⊢
  clear hW0
  refine (edge_yes (wd : Int) _ (by omega) (by omega)).mono ?_
  rintro e w1 ⟨rfl, rfl⟩
  go_wp2_with fail
  refine (edge_yes (ht : Int) _ (by omega) (by omega)).mono ?_
  rintro e w1 ⟨rfl, rfl⟩
  go_wp2_with fail
  refine (told_ok W H _ g n c true _ (by omega) (by omega) HC.out hm HQ (HROW.out.of_block (B.block _ hgl)) HV.out).mono ?_
  rintro e w2 ⟨he, hb⟩
  replace he : e = .returned (.int .i64 0) := he
  subst he
  replace HQ := HQ.below hb
  replace H1 := H1.below hb
  replace B := nxt B hb
  clear hb
  have hsz2 : w.heap.size + 2 ≤ w2.heap.size := H1.lt
  go_upto_region 4 with fail
  go_cut [10] (fun t10 wx => ∃ bo go cp : Nat, t10 = .pointer (some ⟨bo, 0, none⟩) ∧ Below w.heap.size w wx ∧ Bx wx (w.heap.size + 1) #[.int .i8 0, .int .i8 0, .slice none 0 0] 31 ∧ Bx wx bo #[.int .i8 (W : Int), .int .i8 (H : Int), .slice (some ⟨go, 0, none⟩) n cp] 31 ∧ Rw wx go n (fL (toL c n)) ∧ w.heap.size + 2 ≤ bo ∧ w.heap.size + 2 ≤ go ∧ go ≠ bo)
  case first =>
    replace B := B.drew
    replace H1 : Bx w2.drew (w.heap.size + 1) #[.int .i8 0, .int .i8 0, .slice none 0 0] 31 := H1
    replace HQ : Sq w2.drew w.heap.size (W : Int) (H : Int) (.slice (some ⟨g, 0, none⟩) n n) := HQ
    replace hsz2 : w.heap.size + 2 ≤ w2.drew.heap.size := hsz2
    obtain ⟨lq, pq, qq, rq⟩ := id HQ
    refine wp_region_held_drew (S := (fun w' : World => w'.cell? ⟨w.heap.size, 0, none⟩ = some (.int .i8 (W : Int)) ∧ w'.cell? ⟨w.heap.size, 1, none⟩ = some (.int .i8 (H : Int)) ∧ w'.cell? ⟨w.heap.size, 2, none⟩ = some (.slice (some ⟨g, 0, none⟩) n n))) (by kernel_rfl) ⟨pq, qq, rq⟩ (fun hHeld => ?_)
    obtain ⟨w3, hw3⟩ : ∃ w3, w2.drew = w3 := ⟨_, rfl⟩
    rw [hw3] at hHeld B H1 HQ hsz2 lq pq qq rq ⊢
    clear hw3
    refine wpAnyH_take (i := 0) (oi := _) (v := ?_) rfl (by kernel_rfl) (by kernel_rfl) (by kernel_rfl) (fun _ _ _ h => h) (Or.inl ⟨by kernel_rfl, ?_⟩) (by assumption) ?_
    rotate_left
    · intro w hSw; (try dsimp only at hSw); go_simp; first | done | with_reducible rfl
    try simp only [List.getElem_toArray, List.getElem_cons_zero, List.getElem_cons_succ, Act.put, List.setIfInBounds_toArray, List.set_cons_zero, List.set_cons_succ]
    refine wpAnyH_take (i := 1) (oi := _) (v := ?_) rfl (by kernel_rfl) (by kernel_rfl) (by kernel_rfl) (fun _ _ _ h => h) (Or.inl ⟨by kernel_rfl, ?_⟩) (by assumption) ?_
    rotate_left
    · intro w hSw; (try dsimp only at hSw); go_simp; first | done | with_reducible rfl
    try simp only [List.getElem_toArray, List.getElem_cons_zero, List.getElem_cons_succ, Act.put, List.setIfInBounds_toArray, List.set_cons_zero, List.set_cons_succ]
    refine wpAnyH_take (i := 2) (oi := _) (v := ?_) rfl (by kernel_rfl) (by kernel_rfl) (by kernel_rfl) (fun _ _ _ h => h) (Or.inl ⟨by kernel_rfl, ?_⟩) (by assumption) ?_
    rotate_left
    · intro w hSw; (try dsimp only at hSw); go_simp; first | done | with_reducible rfl
    try simp only [List.getElem_toArray, List.getElem_cons_zero, List.getElem_cons_succ, Act.put, List.setIfInBounds_toArray, List.set_cons_zero, List.set_cons_succ]
    refine wpAnyH_take (i := 3) (oi := _) (v := ?_) rfl (by kernel_rfl) (by kernel_rfl) (by kernel_rfl) (fun _ _ _ h => h) (Or.inl ⟨by kernel_rfl, ?_⟩) (by assumption) ?_
    rotate_left
    · intro w hSw; (try dsimp only at hSw); go_simp; first | done | with_reducible rfl
    try simp only [List.getElem_toArray, List.getElem_cons_zero, List.getElem_cons_succ, Act.put, List.setIfInBounds_toArray, List.set_cons_zero, List.set_cons_succ]
    refine wpAnyH_take (i := 5) (oi := _) (v := ?_) rfl (by kernel_rfl) (by kernel_rfl) (by kernel_rfl) (fun _ _ _ h => h) (Or.inl ⟨by kernel_rfl, ?_⟩) (by assumption) ?_
    rotate_left
    · intro w hSw; (try dsimp only at hSw); go_simp; first | done | with_reducible rfl
    try simp only [List.getElem_toArray, List.getElem_cons_zero, List.getElem_cons_succ, Act.put, List.setIfInBounds_toArray, List.set_cons_zero, List.set_cons_succ]
    refine wpAnyH_take (i := 6) (oi := _) (v := ?_) rfl (by kernel_rfl) (by kernel_rfl) (by kernel_rfl) (fun _ _ _ h => h) (Or.inl ⟨by kernel_rfl, ?_⟩) (by assumption) ?_
    rotate_left
    · intro w hSw; (try dsimp only at hSw); go_simp; first | done | with_reducible rfl
    try simp only [List.getElem_toArray, List.getElem_cons_zero, List.getElem_cons_succ, Act.put, List.setIfInBounds_toArray, List.set_cons_zero, List.set_cons_succ]
    refine wpAnyH_ready (rs := [4, 9]) (by kernel_rfl) (by simp) ?_
    refine AllReadyH.cons (o := _) rfl (fun K hK => ?_) (AllReadyH.cons (o := _) rfl (fun K hK => ?_) AllReadyH.nil)
    · skip
      go_simp
      have sb0 : w.heap.size + 2 ≤ w3.heap.size := hsz2
      have O0 : (w3.alloc (.cells #[] 110)).ownsRow (w.heap.size + 2) 110 4 (.slice (some ⟨w3.heap.size, 0, none⟩) 0 0) 0 [] := World.ownsRow_made w3 #[] 0 hsz2 (Nat.zero_le _) rfl
      replace HQ := HQ.alloc (.cells #[] 110)
      replace H1 := H1.alloc (.cells #[] 110)
      replace hsz2 : w.heap.size + 2 ≤ (w3.alloc (.cells #[] 110)).heap.size := by rw [World.size_alloc]; omega
      replace B := al B (.cells #[] 110)
      obtain ⟨sb, hsb⟩ : ∃ sb, sb = w3.heap.size := ⟨_, rfl⟩
      rw [← hsb] at O0 sb0 ⊢
      obtain ⟨wv1, hwn⟩ : ∃ v, w3.alloc (.cells #[] 110) = v := ⟨_, rfl⟩
      rw [hwn] at B hsz2 HQ H1 O0 ⊢
      clear hwn hsb
      clear lq pq qq rq
      obtain ⟨lq, pq, qq, rq⟩ := id HQ
      refine hK.out _ _ ⟨pq, qq, rq⟩ (fun hHeld => ?_)
      clear hK K
      try simp only [List.getElem_toArray, List.getElem_cons_zero, List.getElem_cons_succ, Act.put, List.setIfInBounds_toArray, List.set_cons_zero, List.set_cons_succ]
      refine wpAnyH_ready (rs := [7, 9]) (by kernel_rfl) (by simp) ?_
      refine AllReadyH.cons (o := _) rfl (fun K hK => ?_) (AllReadyH.cons (o := _) rfl (fun K hK => ?_) AllReadyH.nil)
      · skip
        have N5 : Hid (∀ j u, (encL (toL c n))[j]? = some u → wv1.cell? ((⟨g, 0, none⟩ : Addr).add j) = some u) := row_adds (HROW.out.of_block (B.block _ hgl))
        have HO0 := Lib.hid O0
        clear O0
        refine wp_append_own _ _ _ 29 rfl (w.heap.size + 2) 110 i0 (.agg #[.int .i8 0, .int .i8 0, .int .i8 0, .int .i8 0]) 4 4 Try.underlying29 HI.out hz0 hz1 hz2 rfl (by decide) (.slice (some ⟨sb, 0, none⟩) 0 0) 0 ([]) rfl HO0.out ⟨g, 0, none⟩ n n (encL (toL c n)) rfl HL0.out (N5) (encL_one _) (by unfold maxLen; omega) (by omega) (by omega) ?_
        intro v2 wv2 ow hg hn
        rw [Nat.zero_add] at ow
        obtain ⟨g5, cp5, rfl⟩ := own_block ow (fun e => by first | exact hn e | (have := hn.1 e; simp at this))
        replace HQ := HQ.of_block hg.size (hg.block _ HQ.1 (fun e => by simp [Value.ownBlock] at e; omega))
        replace H1 := H1.of_block (hg.block _ H1.lt (fun e => by simp [Value.ownBlock] at e; omega))
        replace B := B.grown hg B.size (fun k e => by simp [Value.ownBlock] at e; omega)
        replace hsz2 : w.heap.size + 2 ≤ wv2.heap.size := Nat.le_trans hsz2 hg.size
        have O : Rw wv2 g5 n (fL (toL c n)) := rw_own ow (toL_length c n)
        have g50 : w.heap.size + 2 ≤ g5 := (World.ownsRow.lt ow g5 rfl).1
        clear HO0 N5 ow hg hn
        clear lq pq qq rq
        obtain ⟨lq, pq, qq, rq⟩ := id HQ
        refine hK.out _ _ ⟨pq, qq, rq⟩ (fun hHeld => ?_)
        clear hK K
        try simp only [List.getElem_toArray, List.getElem_cons_zero, List.getElem_cons_succ, Act.put, List.setIfInBounds_toArray, List.set_cons_zero, List.set_cons_succ]
        refine wpAnyH_take (i := 8) (oi := _) (v := ?_) rfl (by kernel_rfl) (by kernel_rfl) (by kernel_rfl) (fun _ _ _ h => h) (Or.inl ⟨by kernel_rfl, ?_⟩) (by assumption) ?_
        rotate_left
        · intro w hSw; (try dsimp only at hSw); go_simp; first | done | with_reducible rfl
        try simp only [List.getElem_toArray, List.getElem_cons_zero, List.getElem_cons_succ, Act.put, List.setIfInBounds_toArray, List.set_cons_zero, List.set_cons_succ]
        refine wpAnyH_ready (rs := [9]) (by kernel_rfl) (by simp) ?_
        refine AllReadyH.cons (o := _) rfl (fun K hK => ?_) AllReadyH.nil
        go_simp
        have X := Bx.new wv2 #[.int .i8 0, .int .i8 0, .slice none 0 0] 31
        have bx0 : w.heap.size + 2 ≤ wv2.heap.size := hsz2
        have nx : g5 < wv2.heap.size := O.1
        replace O := O.alloc (.cells #[.int .i8 0, .int .i8 0, .slice none 0 0] 31)
        replace HQ := HQ.alloc (.cells #[.int .i8 0, .int .i8 0, .slice none 0 0] 31)
        replace H1 := H1.alloc (.cells #[.int .i8 0, .int .i8 0, .slice none 0 0] 31)
        replace hsz2 : w.heap.size + 2 ≤ (wv2.alloc (.cells #[.int .i8 0, .int .i8 0, .slice none 0 0] 31)).heap.size := by rw [World.size_alloc]; omega
        replace B := al B (.cells #[.int .i8 0, .int .i8 0, .slice none 0 0] 31)
        obtain ⟨bx, hbx⟩ : ∃ bx, bx = wv2.heap.size := ⟨_, rfl⟩
        rw [← hbx] at X bx0 nx ⊢
        obtain ⟨wv3, hwn⟩ : ∃ v, wv2.alloc (.cells #[.int .i8 0, .int .i8 0, .slice none 0 0] 31) = v := ⟨_, rfl⟩
        rw [hwn] at B hsz2 HQ H1 X O ⊢
        clear hwn hbx
        clear lq pq qq rq
        obtain ⟨lq, pq, qq, rq⟩ := id HQ
        refine hK.out _ _ ⟨pq, qq, rq⟩ (fun hHeld => ?_)
        clear hK K
        try simp only [List.getElem_toArray, List.getElem_cons_zero, List.getElem_cons_succ, Act.put, List.setIfInBounds_toArray, List.set_cons_zero, List.set_cons_succ]
        refine wpAnyH_ready (rs := [10]) (by kernel_rfl) (by simp) ?_
        refine AllReadyH.cons (o := _) rfl (fun K hK => ?_) AllReadyH.nil
        obtain ⟨p1, q1, r1⟩ := X.cells3
        have f10 := X.frozen 0
        have f11 := X.frozen 1
        have f12 := X.frozen 2
        have hneq : w.heap.size ≠ bx := by omega
        go_simp
        have F1 := X.set3 (.int .i8 (W : Int)) (.int .i8 (H : Int)) (.slice (some ⟨g5, 0, none⟩) n cp5)
        have B3 := below_set3 (g := bx) (v0 := .int .i8 (W : Int)) (v1 := .int .i8 (H : Int)) (v2 := .slice (some ⟨g5, 0, none⟩) n cp5) B (by omega)
        have H13 := H1.other3 (g := bx) (v0 := .int .i8 (W : Int)) (v1 := .int .i8 (H : Int)) (v2 := .slice (some ⟨g5, 0, none⟩) n cp5) (by omega)
        have hng : g5 ≠ bx := by omega
        have O3 := O.of_block (blk3 (v0 := .int .i8 (W : Int)) (v1 := .int .i8 (H : Int)) (v2 := .slice (some ⟨g5, 0, none⟩) n cp5) hng)
        have HQ3 := HQ.of_block (by simp) (blk3 (v0 := .int .i8 (W : Int)) (v1 := .int .i8 (H : Int)) (v2 := .slice (some ⟨g5, 0, none⟩) n cp5) hneq)
        clear lq pq qq rq
        obtain ⟨lq, pq, qq, rq⟩ := id HQ3
        refine hK.out _ _ ⟨pq, qq, rq⟩ (fun hHeld => ?_)
        clear hK K
        try simp only [List.getElem_toArray, List.getElem_cons_zero, List.getElem_cons_succ, Act.put, List.setIfInBounds_toArray, List.set_cons_zero, List.set_cons_succ]
        refine wpAnyH_done (by kernel_rfl) ?_ _
        go_wp2_with fail
        go_meet
        exact ⟨bx, g5, cp5, rfl, B3, H13, F1, O3, by omega, by omega, hng⟩
      · skip
        go_simp
        have X := Bx.new wv1 #[.int .i8 0, .int .i8 0, .slice none 0 0] 31
        have bx0 : w.heap.size + 2 ≤ wv1.heap.size := hsz2
        have nx : sb < wv1.heap.size := (World.ownsRow.lt O0 sb rfl).2
        replace O0 := World.ownsRow.alloc O0 (.cells #[.int .i8 0, .int .i8 0, .slice none 0 0] 31)
        replace HQ := HQ.alloc (.cells #[.int .i8 0, .int .i8 0, .slice none 0 0] 31)
        replace H1 := H1.alloc (.cells #[.int .i8 0, .int .i8 0, .slice none 0 0] 31)
        replace hsz2 : w.heap.size + 2 ≤ (wv1.alloc (.cells #[.int .i8 0, .int .i8 0, .slice none 0 0] 31)).heap.size := by rw [World.size_alloc]; omega
        replace B := al B (.cells #[.int .i8 0, .int .i8 0, .slice none 0 0] 31)
        obtain ⟨bx, hbx⟩ : ∃ bx, bx = wv1.heap.size := ⟨_, rfl⟩
        rw [← hbx] at X bx0 nx ⊢
        obtain ⟨wv2, hwn⟩ : ∃ v, wv1.alloc (.cells #[.int .i8 0, .int .i8 0, .slice none 0 0] 31) = v := ⟨_, rfl⟩
        rw [hwn] at B hsz2 HQ H1 X O0 ⊢
        clear hwn hbx
        clear lq pq qq rq
        obtain ⟨lq, pq, qq, rq⟩ := id HQ
        refine hK.out _ _ ⟨pq, qq, rq⟩ (fun hHeld => ?_)
        clear hK K
        try simp only [List.getElem_toArray, List.getElem_cons_zero, List.getElem_cons_succ, Act.put, List.setIfInBounds_toArray, List.set_cons_zero, List.set_cons_succ]
        refine wpAnyH_ready (rs := [7]) (by kernel_rfl) (by simp) ?_
        refine AllReadyH.cons (o := _) rfl (fun K hK => ?_) AllReadyH.nil
        have N5 : Hid (∀ j u, (encL (toL c n))[j]? = some u → wv2.cell? ((⟨g, 0, none⟩ : Addr).add j) = some u) := row_adds (HROW.out.of_block (B.block _ hgl))
        have HO0 := Lib.hid O0
        clear O0
        refine wp_append_own _ _ _ 29 rfl (w.heap.size + 2) 110 i0 (.agg #[.int .i8 0, .int .i8 0, .int .i8 0, .int .i8 0]) 4 4 Try.underlying29 HI.out hz0 hz1 hz2 rfl (by decide) (.slice (some ⟨sb, 0, none⟩) 0 0) 0 ([]) rfl HO0.out ⟨g, 0, none⟩ n n (encL (toL c n)) rfl HL0.out (N5) (encL_one _) (by unfold maxLen; omega) (by omega) (by omega) ?_
        intro v2 wv3 ow hg hn
        rw [Nat.zero_add] at ow
        obtain ⟨g5, cp5, rfl⟩ := own_block ow (fun e => by first | exact hn e | (have := hn.1 e; simp at this))
        replace HQ := HQ.of_block hg.size (hg.block _ HQ.1 (fun e => by simp [Value.ownBlock] at e; omega))
        replace H1 := H1.of_block (hg.block _ H1.lt (fun e => by simp [Value.ownBlock] at e; omega))
        replace X := X.of_block (hg.block _ X.lt (fun e => by simp [Value.ownBlock] at e; omega))
        replace B := B.grown hg B.size (fun k e => by simp [Value.ownBlock] at e; omega)
        replace hsz2 : w.heap.size + 2 ≤ wv3.heap.size := Nat.le_trans hsz2 hg.size
        have O : Rw wv3 g5 n (fL (toL c n)) := rw_own ow (toL_length c n)
        have g50 : w.heap.size + 2 ≤ g5 := (World.ownsRow.lt ow g5 rfl).1
        have ngx : g5 ≠ bx := fun e => types_apart ow (e ▸ X) (by decide)
        clear HO0 N5 ow hg hn
        clear lq pq qq rq
        obtain ⟨lq, pq, qq, rq⟩ := id HQ
        refine hK.out _ _ ⟨pq, qq, rq⟩ (fun hHeld => ?_)
        clear hK K
        try simp only [List.getElem_toArray, List.getElem_cons_zero, List.getElem_cons_succ, Act.put, List.setIfInBounds_toArray, List.set_cons_zero, List.set_cons_succ]
        refine wpAnyH_take (i := 8) (oi := _) (v := ?_) rfl (by kernel_rfl) (by kernel_rfl) (by kernel_rfl) (fun _ _ _ h => h) (Or.inl ⟨by kernel_rfl, ?_⟩) (by assumption) ?_
        rotate_left
        · intro w hSw; (try dsimp only at hSw); go_simp; first | done | with_reducible rfl
        try simp only [List.getElem_toArray, List.getElem_cons_zero, List.getElem_cons_succ, Act.put, List.setIfInBounds_toArray, List.set_cons_zero, List.set_cons_succ]
        refine wpAnyH_ready (rs := [10]) (by kernel_rfl) (by simp) ?_
        refine AllReadyH.cons (o := _) rfl (fun K hK => ?_) AllReadyH.nil
        obtain ⟨p1, q1, r1⟩ := X.cells3
        have f10 := X.frozen 0
        have f11 := X.frozen 1
        have f12 := X.frozen 2
        have hneq : w.heap.size ≠ bx := by omega
        go_simp
        have F1 := X.set3 (.int .i8 (W : Int)) (.int .i8 (H : Int)) (.slice (some ⟨g5, 0, none⟩) n cp5)
        have B3 := below_set3 (g := bx) (v0 := .int .i8 (W : Int)) (v1 := .int .i8 (H : Int)) (v2 := .slice (some ⟨g5, 0, none⟩) n cp5) B (by omega)
        have H13 := H1.other3 (g := bx) (v0 := .int .i8 (W : Int)) (v1 := .int .i8 (H : Int)) (v2 := .slice (some ⟨g5, 0, none⟩) n cp5) (by omega)
        have hng : g5 ≠ bx := ngx
        have O3 := O.of_block (blk3 (v0 := .int .i8 (W : Int)) (v1 := .int .i8 (H : Int)) (v2 := .slice (some ⟨g5, 0, none⟩) n cp5) hng)
        have HQ3 := HQ.of_block (by simp) (blk3 (v0 := .int .i8 (W : Int)) (v1 := .int .i8 (H : Int)) (v2 := .slice (some ⟨g5, 0, none⟩) n cp5) hneq)
        clear lq pq qq rq
        obtain ⟨lq, pq, qq, rq⟩ := id HQ3
        refine hK.out _ _ ⟨pq, qq, rq⟩ (fun hHeld => ?_)
        clear hK K
        try simp only [List.getElem_toArray, List.getElem_cons_zero, List.getElem_cons_succ, Act.put, List.setIfInBounds_toArray, List.set_cons_zero, List.set_cons_succ]
        refine wpAnyH_done (by kernel_rfl) ?_ _
        go_wp2_with fail
        go_meet
        exact ⟨bx, g5, cp5, rfl, B3, H13, F1, O3, by omega, by omega, hng⟩
    · skip
      go_simp
      have X := Bx.new w3 #[.int .i8 0, .int .i8 0, .slice none 0 0] 31
      have bx0 : w.heap.size + 2 ≤ w3.heap.size := hsz2
      replace HQ := HQ.alloc (.cells #[.int .i8 0, .int .i8 0, .slice none 0 0] 31)
      replace H1 := H1.alloc (.cells #[.int .i8 0, .int .i8 0, .slice none 0 0] 31)
      replace hsz2 : w.heap.size + 2 ≤ (w3.alloc (.cells #[.int .i8 0, .int .i8 0, .slice none 0 0] 31)).heap.size := by rw [World.size_alloc]; omega
      replace B := al B (.cells #[.int .i8 0, .int .i8 0, .slice none 0 0] 31)
      obtain ⟨bx, hbx⟩ : ∃ bx, bx = w3.heap.size := ⟨_, rfl⟩
      rw [← hbx] at X bx0 ⊢
      obtain ⟨wv1, hwn⟩ : ∃ v, w3.alloc (.cells #[.int .i8 0, .int .i8 0, .slice none 0 0] 31) = v := ⟨_, rfl⟩
      rw [hwn] at B hsz2 HQ H1 X ⊢
      clear hwn hbx
      clear lq pq qq rq
      obtain ⟨lq, pq, qq, rq⟩ := id HQ
      refine hK.out _ _ ⟨pq, qq, rq⟩ (fun hHeld => ?_)
      clear hK K
      try simp only [List.getElem_toArray, List.getElem_cons_zero, List.getElem_cons_succ, Act.put, List.setIfInBounds_toArray, List.set_cons_zero, List.set_cons_succ]
      refine wpAnyH_ready (rs := [4]) (by kernel_rfl) (by simp) ?_
      refine AllReadyH.cons (o := _) rfl (fun K hK => ?_) AllReadyH.nil
      go_simp
      have sb0 : w.heap.size + 2 ≤ wv1.heap.size := hsz2
      have O0 : (wv1.alloc (.cells #[] 110)).ownsRow (w.heap.size + 2) 110 4 (.slice (some ⟨wv1.heap.size, 0, none⟩) 0 0) 0 [] := World.ownsRow_made wv1 #[] 0 hsz2 (Nat.zero_le _) rfl
      have nx : bx < wv1.heap.size := X.lt
      replace X := X.alloc (.cells #[] 110)
      replace HQ := HQ.alloc (.cells #[] 110)
      replace H1 := H1.alloc (.cells #[] 110)
      replace hsz2 : w.heap.size + 2 ≤ (wv1.alloc (.cells #[] 110)).heap.size := by rw [World.size_alloc]; omega
      replace B := al B (.cells #[] 110)
      obtain ⟨sb, hsb⟩ : ∃ sb, sb = wv1.heap.size := ⟨_, rfl⟩
      rw [← hsb] at O0 sb0 nx ⊢
      obtain ⟨wv2, hwn⟩ : ∃ v, wv1.alloc (.cells #[] 110) = v := ⟨_, rfl⟩
      rw [hwn] at B hsz2 HQ H1 O0 X ⊢
      clear hwn hsb
      clear lq pq qq rq
      obtain ⟨lq, pq, qq, rq⟩ := id HQ
      refine hK.out _ _ ⟨pq, qq, rq⟩ (fun hHeld => ?_)
      clear hK K
      try simp only [List.getElem_toArray, List.getElem_cons_zero, List.getElem_cons_succ, Act.put, List.setIfInBounds_toArray, List.set_cons_zero, List.set_cons_succ]
      refine wpAnyH_ready (rs := [7]) (by kernel_rfl) (by simp) ?_
      refine AllReadyH.cons (o := _) rfl (fun K hK => ?_) AllReadyH.nil
      have N5 : Hid (∀ j u, (encL (toL c n))[j]? = some u → wv2.cell? ((⟨g, 0, none⟩ : Addr).add j) = some u) := row_adds (HROW.out.of_block (B.block _ hgl))
      have HO0 := Lib.hid O0
      clear O0
      refine wp_append_own _ _ _ 29 rfl (w.heap.size + 2) 110 i0 (.agg #[.int .i8 0, .int .i8 0, .int .i8 0, .int .i8 0]) 4 4 Try.underlying29 HI.out hz0 hz1 hz2 rfl (by decide) (.slice (some ⟨sb, 0, none⟩) 0 0) 0 ([]) rfl HO0.out ⟨g, 0, none⟩ n n (encL (toL c n)) rfl HL0.out (N5) (encL_one _) (by unfold maxLen; omega) (by omega) (by omega) ?_
      intro v2 wv3 ow hg hn
      rw [Nat.zero_add] at ow
      obtain ⟨g5, cp5, rfl⟩ := own_block ow (fun e => by first | exact hn e | (have := hn.1 e; simp at this))
      replace HQ := HQ.of_block hg.size (hg.block _ HQ.1 (fun e => by simp [Value.ownBlock] at e; omega))
      replace H1 := H1.of_block (hg.block _ H1.lt (fun e => by simp [Value.ownBlock] at e; omega))
      replace X := X.of_block (hg.block _ X.lt (fun e => by simp [Value.ownBlock] at e; omega))
      replace B := B.grown hg B.size (fun k e => by simp [Value.ownBlock] at e; omega)
      replace hsz2 : w.heap.size + 2 ≤ wv3.heap.size := Nat.le_trans hsz2 hg.size
      have O : Rw wv3 g5 n (fL (toL c n)) := rw_own ow (toL_length c n)
      have g50 : w.heap.size + 2 ≤ g5 := (World.ownsRow.lt ow g5 rfl).1
      have ngx : g5 ≠ bx := fun e => types_apart ow (e ▸ X) (by decide)
      clear HO0 N5 ow hg hn
      clear lq pq qq rq
      obtain ⟨lq, pq, qq, rq⟩ := id HQ
      refine hK.out _ _ ⟨pq, qq, rq⟩ (fun hHeld => ?_)
      clear hK K
      try simp only [List.getElem_toArray, List.getElem_cons_zero, List.getElem_cons_succ, Act.put, List.setIfInBounds_toArray, List.set_cons_zero, List.set_cons_succ]
      refine wpAnyH_take (i := 8) (oi := _) (v := ?_) rfl (by kernel_rfl) (by kernel_rfl) (by kernel_rfl) (fun _ _ _ h => h) (Or.inl ⟨by kernel_rfl, ?_⟩) (by assumption) ?_
      rotate_left
      · intro w hSw; (try dsimp only at hSw); go_simp; first | done | with_reducible rfl
      try simp only [List.getElem_toArray, List.getElem_cons_zero, List.getElem_cons_succ, Act.put, List.setIfInBounds_toArray, List.set_cons_zero, List.set_cons_succ]
      refine wpAnyH_ready (rs := [10]) (by kernel_rfl) (by simp) ?_
      refine AllReadyH.cons (o := _) rfl (fun K hK => ?_) AllReadyH.nil
      obtain ⟨p1, q1, r1⟩ := X.cells3
      have f10 := X.frozen 0
      have f11 := X.frozen 1
      have f12 := X.frozen 2
      have hneq : w.heap.size ≠ bx := by omega
      go_simp
      have F1 := X.set3 (.int .i8 (W : Int)) (.int .i8 (H : Int)) (.slice (some ⟨g5, 0, none⟩) n cp5)
      have B3 := below_set3 (g := bx) (v0 := .int .i8 (W : Int)) (v1 := .int .i8 (H : Int)) (v2 := .slice (some ⟨g5, 0, none⟩) n cp5) B (by omega)
      have H13 := H1.other3 (g := bx) (v0 := .int .i8 (W : Int)) (v1 := .int .i8 (H : Int)) (v2 := .slice (some ⟨g5, 0, none⟩) n cp5) (by omega)
      have hng : g5 ≠ bx := ngx
      have O3 := O.of_block (blk3 (v0 := .int .i8 (W : Int)) (v1 := .int .i8 (H : Int)) (v2 := .slice (some ⟨g5, 0, none⟩) n cp5) hng)
      have HQ3 := HQ.of_block (by simp) (blk3 (v0 := .int .i8 (W : Int)) (v1 := .int .i8 (H : Int)) (v2 := .slice (some ⟨g5, 0, none⟩) n cp5) hneq)
      clear lq pq qq rq
      obtain ⟨lq, pq, qq, rq⟩ := id HQ3
      refine hK.out _ _ ⟨pq, qq, rq⟩ (fun hHeld => ?_)
      clear hK K
      try simp only [List.getElem_toArray, List.getElem_cons_zero, List.getElem_cons_succ, Act.put, List.setIfInBounds_toArray, List.set_cons_zero, List.set_cons_succ]
      refine wpAnyH_done (by kernel_rfl) ?_ _
      go_wp2_with fail
      go_meet
      exact ⟨bx, g5, cp5, rfl, B3, H13, F1, O3, by omega, by omega, hng⟩
  clear HQ H1 B
  obtain ⟨bo, go, cp, rfl, B, H1, HO, HR, hbo, hgo, hne⟩ := hcut
  obtain ⟨w4, rfl⟩ : ∃ V : World, wc = V := ⟨_, rfl⟩
  obtain ⟨D0, hD0⟩ : ∃ D0, D0 = toL c n := ⟨_, rfl⟩
  have hl0 : D0.length = n := by rw [hD0, toL_length]
  have HR0 : Hid (FwRel W H wd ht n R D0 D0) := Lib.hid (by
    rw [hD0]
    refine ⟨by rw [toL_length]; exact Nat.le_refl _, by rw [toL_length]; exact hn60, HFIT.out, sorted_self HV.out, by rw [toL_length]; exact HRR.out.symm⟩)
  rw [← hD0, ← hl0] at HR
  rw [← hl0] at HO
  have HL00 := Lib.hid hl0
  clear hD0 hl0 HRR HFIT HV HC HROW
  go_wp2_with fail
  go_loopw [11, 12, 13] (fun t11 t12 t13 wr => ∃ (D L : List S4) (go cp : Nat), t11 = .int .i64 ((D.length : Int) - n) ∧ Below w.heap.size w wr ∧ Bx wr (w.heap.size + 1) #[.int .i8 0, .int .i8 0, .slice none 0 0] 31 ∧ Bx wr bo #[.int .i8 (W : Int), .int .i8 (H : Int), .slice (some ⟨go, 0, none⟩) D.length cp] 31 ∧ Rw wr go D.length (fL L) ∧ w.heap.size + 2 ≤ go ∧ go ≠ bo ∧ Hid (FwRel W H wd ht n R D L)) (fun t11 t12 t13 wr => 60 - n - (intOf t11).toNat)
  case atStart => exact ⟨D0, D0, go, cp, by rw [HL00.out]; first | rfl | simp, B, H1, HO, HR, hgo, hne, HR0⟩
  case round =>
    clear B H1 HO HR hgo hne HR0
    obtain ⟨D, L, go, cp, rfl, B, H1, HO, HR, hgo, hne, HF⟩ := hrel
    have hDn : n ≤ D.length := HF.out.1
    have hD60 : D.length ≤ 60 := HF.out.2.1
    obtain ⟨m, hm'⟩ : ∃ m, m = D.length := ⟨_, rfl⟩
    rw [← hm'] at hDn hD60 HO HR ⊢
    have HM := Lib.hid hm'
    clear hm'
    have HLen : Hid (L.length = m) := Lib.hid (by rw [HM.out]; exact HF.out.2.2.2.1.1.length_eq)
    have hszo : bo < wr.heap.size := HO.lt
    obtain ⟨p0, q0, r0⟩ := HO.cells3
    by_cases hlt : m < 60
    · have hki : (m : Int) < 60 := by omega
      go_wp2_with fail
      clear p0 q0 r0
      refine (place_anyG cp W H bo go m wd ht (fL L) _ hwd hht (fL_bd (by omega) (by omega) (HF.out.2.2.1.perm HF.out.2.2.2.1.1.symm)) (by omega) HO.sq HR (by
        have := HF.out.2.2.1.valid (by omega) (by omega) (by omega) (by omega) HF.out.2.2.2.1 (by rw [← HM.out]; omega)
        rw [HLen.out] at this
        exact this)).mono ?_
      rintro e w1 ⟨hb, v, rfl, hres⟩
      replace B := nxt B hb
      replace H1 := H1.below hb
      replace HO := HO.below hb
      replace HR := HR.below hb
      clear hb hszo
      have hN : PlaceN W H wd ht D v := PlaceRes.next hW hH HF.out.2.2.2.1 (by rw [HLen.out]; exact hres)
      clear hres
      rcases hN with ⟨a0, a1, hs, rfl⟩ | ⟨hs, rfl⟩
      · have HS := Lib.hid hs
        clear hs
        go_wp2_with fail
        replace B := al B (.cells #[.int .i8 a0, .int .i8 a1, .int .i8 (wd : Int), .int .i8 (ht : Int)] 110)
        replace H1 := H1.alloc (.cells #[.int .i8 a0, .int .i8 a1, .int .i8 (wd : Int), .int .i8 (ht : Int)] 110)
        replace HO := HO.alloc (.cells #[.int .i8 a0, .int .i8 a1, .int .i8 (wd : Int), .int .i8 (ht : Int)] 110)
        replace HR := HR.alloc (.cells #[.int .i8 a0, .int .i8 a1, .int .i8 (wd : Int), .int .i8 (ht : Int)] 110)
        obtain ⟨w2, hw2⟩ : ∃ V : World, V = w1.alloc (.cells #[.int .i8 a0, .int .i8 a1, .int .i8 (wd : Int), .int .i8 (ht : Int)] 110) := ⟨_, rfl⟩
        rw [← hw2] at B H1 HO HR ⊢
        clear hw2
        have hbo2 : bo < w2.heap.size := HO.lt
        have HP := Lib.hid (put_anyG cp W H bo go m (fL L) a0 a1 wd ht _ hD60 HO.sq HR)
        refine HP.out.mono ?_
        clear HP
        rintro e w3 ⟨hb, v3, L3, rfl, hs3, S3⟩
        replace B := nxt B hb
        replace H1 := H1.below hb
        replace HO := HO.below hb
        clear hb HR
        obtain ⟨go3, cp3, rfl, hgo3, HR3⟩ := has_rw S3
        have hne3 : go3 ≠ bo := by have h1 := hbo2; omega
        clear S3
        have HF3 : Hid (FwRel W H wd ht n R (D ++ [(a0, a1, (wd : Int), (ht : Int))]) L3) := Lib.hid (by
          have hfit := nextS_fit hW hH hwd.1 hht.1 HF.out.2.2.1 HS.out
          refine ⟨by rw [List.length_append]; have := HF.out.1; omega, by rw [List.length_append, ← HM.out]; simp; omega, hfit.1, ?_, ?_⟩
          · refine SortedOf.snoc HF.out.2.2.2.1 ?_
            have h := hs3
            unfold putL at h
            rw [← HLen.out, toL_fL] at h
            exact h
          · have h := HF.out.2.2.2.2
            rw [← HM.out, show 60 - m = (60 - (m + 1)) + 1 by omega, runS_some HS.out] at h
            rw [List.length_append, ← HM.out]
            exact h)
        have HS3 := Lib.hid hs3
        clear hs3
        obtain ⟨p0, q0, r0⟩ := HO.cells3
        have f0 := HO.frozen 0
        have f1 := HO.frozen 1
        have f2 := HO.frozen 2
        go_wp2_with fail
        have F1 := HO.set3 (.int .i8 (W : Int)) (.int .i8 (H : Int)) (.slice (some ⟨go3, 0, none⟩) (m + 1) cp3)
        have B3 := below_set3 (g := bo) (v0 := .int .i8 (W : Int)) (v1 := .int .i8 (H : Int)) (v2 := .slice (some ⟨go3, 0, none⟩) (m + 1) cp3) B (by omega)
        have H13 := H1.other3 (g := bo) (v0 := .int .i8 (W : Int)) (v1 := .int .i8 (H : Int)) (v2 := .slice (some ⟨go3, 0, none⟩) (m + 1) cp3) (by omega)
        have HR4 := HR3.of_block (blk3 (v0 := .int .i8 (W : Int)) (v1 := .int .i8 (H : Int)) (v2 := .slice (some ⟨go3, 0, none⟩) (m + 1) cp3) hne3)
        have hlen : (D ++ [(a0, a1, (wd : Int), (ht : Int))]).length = m + 1 := by rw [List.length_append, ← HM.out]; rfl
        refine ⟨⟨D ++ [(a0, a1, (wd : Int), (ht : Int))], L3, go3, cp3, by rw [hlen]; congr 1; omega, B3, H13, by rw [hlen]; exact F1, by rw [hlen]; exact HR4, by omega, hne3, HF3⟩, by simp [intOf]; omega⟩
      · have HS := Lib.hid hs
        clear hs
        have HRD : Hid (R = D) := Lib.hid (by rw [← HF.out.2.2.2.2, runS_none HS.out])
        replace B := al B (.cells #[.int .i8 0, .int .i8 0, .int .i8 0, .int .i8 0] 110)
        replace H1 := H1.alloc (.cells #[.int .i8 0, .int .i8 0, .int .i8 0, .int .i8 0] 110)
        replace HO := HO.alloc (.cells #[.int .i8 0, .int .i8 0, .int .i8 0, .int .i8 0] 110)
        replace HR := HR.alloc (.cells #[.int .i8 0, .int .i8 0, .int .i8 0, .int .i8 0] 110)
        go_upto_region 11 with fail
        obtain ⟨w2, hw2⟩ : ∃ V : World, V = w1.alloc (.cells #[.int .i8 0, .int .i8 0, .int .i8 0, .int .i8 0] 110) := ⟨_, rfl⟩
        rw [← hw2] at B H1 HO HR ⊢
        clear hw2
        obtain ⟨p0, q0, r0⟩ := HO.cells3
        obtain ⟨p1, q1, r1⟩ := H1.cells3
        have f0 := H1.frozen 0
        have f1 := H1.frozen 1
        have f2 := H1.frozen 2
        have hsz2 : w.heap.size ≤ w2.heap.size := B.size
        have HSO := Lib.hid HF.out.2.2.2.1
        go_wp2_with fail
        have F1 := H1.set3 (.int .i8 (W : Int)) (.int .i8 (H : Int)) (.slice (some ⟨go, 0, none⟩) m cp)
        have B3 := below_set3 (g := w.heap.size + 1) (v0 := .int .i8 (W : Int)) (v1 := .int .i8 (H : Int)) (v2 := .slice (some ⟨go, 0, none⟩) m cp) B (by omega)
        have HR4 := HR.of_block (blk3 (g := w.heap.size + 1) (v0 := .int .i8 (W : Int)) (v1 := .int .i8 (H : Int)) (v2 := .slice (some ⟨go, 0, none⟩) m cp) (by omega))
        obtain ⟨x1, y1, z1⟩ := F1.cells3
        refine bodyPost_ret (v := .tuple #[.agg #[.int .i8 (W : Int), .int .i8 (H : Int), .slice (some ⟨go, 0, none⟩) m cp], .int .i64 ((m : Int) - n), .int .i64 0]) (by simp [results, Try.results33, go_sem, x1, y1, z1]) rfl ⟨B3, .slice (some ⟨go, 0, none⟩) m cp, L, ?_, by rw [HRD.out]; exact HSO.out, ?_⟩
        · rw [HRD.out, ← HM.out]
        · rw [HRD.out, ← HM.out]; exact rw_has HR4 (by omega)
    · have HRD : Hid (R = D) := Lib.hid (by rw [← HF.out.2.2.2.2, ← HM.out, show 60 - m = 0 by omega]; rfl)
      have hki : ¬ ((m : Int) < 60) := by omega
      obtain ⟨w2, rfl⟩ : ∃ V : World, V = wr := ⟨_, rfl⟩
      clear p0 q0 r0
      obtain ⟨p0, q0, r0⟩ := HO.cells3
      obtain ⟨p1, q1, r1⟩ := H1.cells3
      have f0 := H1.frozen 0
      have f1 := H1.frozen 1
      have f2 := H1.frozen 2
      have hsz2 : w.heap.size ≤ w2.heap.size := B.size
      have HSO := Lib.hid HF.out.2.2.2.1
      go_wp2_with fail
      have F1 := H1.set3 (.int .i8 (W : Int)) (.int .i8 (H : Int)) (.slice (some ⟨go, 0, none⟩) m cp)
      have B3 := below_set3 (g := w.heap.size + 1) (v0 := .int .i8 (W : Int)) (v1 := .int .i8 (H : Int)) (v2 := .slice (some ⟨go, 0, none⟩) m cp) B (by omega)
      have HR4 := HR.of_block (blk3 (g := w.heap.size + 1) (v0 := .int .i8 (W : Int)) (v1 := .int .i8 (H : Int)) (v2 := .slice (some ⟨go, 0, none⟩) m cp) (by omega))
      obtain ⟨x1, y1, z1⟩ := F1.cells3
      refine bodyPost_ret (v := .tuple #[.agg #[.int .i8 (W : Int), .int .i8 (H : Int), .slice (some ⟨go, 0, none⟩) m cp], .int .i64 ((m : Int) - n), .int .i64 0]) (by simp [results, Try.results33, go_sem, x1, y1, z1]) rfl ⟨B3, .slice (some ⟨go, 0, none⟩) m cp, L, ?_, by rw [HRD.out]; exact HSO.out, ?_⟩
      · rw [HRD.out, ← HM.out]
      · rw [HRD.out, ← HM.out]; exact rw_has HR4 (by omega)
end fillWith
end Go.Proofs.Ytkdakpbkpfigeaa

namespace Go.Proofs.Ytkdakpbkpfigeaa
open Go Go.ChangeShapes Go.WideShapes Go.ChangeAt Go.RowKit canPut
set_option linter.unusedVariables false
set_option linter.unusedSimpArgs false
set_option maxRecDepth 100000
set_option maxHeartbeats 4000000

namespace fillWith
/-- how long a slice is. -/
def lenV : Value → Nat
  | .slice _ n _ => n
  | _ => 0
def FwI (W H wd ht n : Nat) (R D : List S4) : Prop := n ≤ D.length ∧ D.length ≤ 60 ∧ Fit4 W H D ∧ runS W H wd ht (60 - D.length) D = R
theorem grid_next {D : List S4} {x0 y0 wd ht p : Nat} (hp : p < 144) (hx : x0 + wd ≤ 12) (hy : y0 + ht ≤ 12) : gridQ (fun p => gridL D p) ((D.length : Int) + 1) (uptoC x0 y0 wd (wd * ht)) p = gridL (D ++ [((x0 : Int), (y0 : Int), (wd : Int), (ht : Int))]) p := by
  obtain ⟨s, hs⟩ : ∃ s : S4, s = ((x0 : Int), (y0 : Int), (wd : Int), (ht : Int)) := ⟨_, rfl⟩
  have e := s4_fL (L := D ++ [s]) (i := D.length) (by simp)
  rw [List.getElem_append_right (Nat.le_refl _)] at e
  simp only [Nat.sub_self, List.getElem_cons_zero] at e
  unfold s4 at e
  rw [hs] at e
  simp only [Prod.mk.injEq] at e
  rw [← hs] at e ⊢
  have h := gridQ_next (c := fL (D ++ [s])) (i := D.length) hp e.1 e.2.1 e.2.2.1 e.2.2.2 hx hy
  have e2 : gridN (fL (D ++ [s])) D.length = gridL D := by
    funext q
    exact gridN_congr (fun j hj => by
      unfold fL
      rw [List.getElem?_append_left (by omega)]) q
  have h3 : gridL (D ++ [s]) p = gridN (fL (D ++ [s])) (D.length + 1) p := by
    show gridN (fL (D ++ [s])) (D ++ [s]).length p = _
    rw [List.length_append]
    rfl
  rw [h3, ← h, ← e2]
theorem own_belowF {w w' : World} {base m : Nat} {v : Value} {L : List Value} (h : w.ownsRow base 110 4 v m L) (hb : Below w.heap.size w w') : w'.ownsRow base 110 4 v m L := by
  refine ⟨h.1, h.2.imp id ?_⟩
  rintro ⟨g, cap, cur, h1, h2, h3, h4⟩
  exact ⟨g, cap, cur, h1, h2, (hb.block g (Array.getElem?_eq_some_iff.1 h3).1).trans h3, h4⟩
theorem own_empty {w : World} {base n : Nat} {A : Option Addr} {cap : Nat} {xs : List Value} (h : w.ownsRow base 110 4 (.slice A n cap) n xs) : (A = none ∧ n = 0) ∨ ∃ go, A = some ⟨go, 0, none⟩ ∧ base ≤ go ∧ go < w.heap.size := by
  rcases h.2 with ⟨h1, h2⟩ | ⟨g', cap', cur, h1, h2, h3, _⟩
  · injection h1 with h1
    exact .inl ⟨h1, h2⟩
  · injection h1 with h1
    exact .inr ⟨g', h1, h2, (Array.getElem?_eq_some_iff.1 h3).1⟩
theorem impl_in (W H g n wd ht : Nat) (c : Nat → Int) (w : World) (hwd : 1 ≤ wd ∧ wd ≤ 12) (hht : 1 ≤ ht ∧ ht ≤ 12) (hc : ∀ j, -128 ≤ c j ∧ c j ≤ 127) (hm : n ≤ 1048576) (hrow : w.rowIs g 110 (4 * n) (fun j => .int .i8 (c j))) (hv : Valid W H n c) :
    Calls Try.prog 34 #[.agg #[.int .i8 (W : Int), .int .i8 (H : Int), .slice (some ⟨g, 0, none⟩) n n], .int .i64 (wd : Int), .int .i64 (ht : Int)] w (FwPost W H n (runS W H wd ht (60 - n) (toL c n)) w) := by
  have hW : W ≤ 12 := by have := hv.2.1; omega
  have hH : H ≤ 12 := by have := hv.2.2.2.1; omega
  have hW1 : 1 ≤ W := by have := hv.1; omega
  have hH1 : 1 ≤ H := by have := hv.2.2.1; omega
  have hn60 : n ≤ 60 := hv.2.2.2.2.1
  obtain ⟨i0, hi0, hz0, hz1, hz2⟩ := info_parts infoSlab
  have HI := Lib.hid hi0
  have HC := Lib.hid hc
  have HFIT := Lib.hid (Fit4.of_valid hv)
  obtain ⟨R, hR⟩ : ∃ R, R = runS W H wd ht (60 - n) (toL c n) := ⟨_, rfl⟩
  rw [← hR]
  have HRR := Lib.hid hR
  have hgl := hrow.lt
  have HROW := Lib.hid hrow
  have HV := Lib.hid hv
  have HW1 := Lib.hid (IntWalk.i8_in (wd : Int) (by omega) : IntKind.i8.wrap (wd : Int) = (wd : Int))
  have HW2 := Lib.hid (IntWalk.i8_in (ht : Int) (by omega) : IntKind.i8.wrap (ht : Int) = (ht : Int))
  clear hc hi0 hR hrow hv
  go_enter Try.func34, Try.ntmps34
  go_wp2_with fail
  have HQ := (Sq.new w (W : Int) (H : Int) (.slice (some ⟨g, 0, none⟩) n n) 31).alloc (.cells #[.int .i8 0, .int .i8 0, .slice none 0 0] 31)
  have B := al (al (Below.refl w.heap.size w) (.cells #[.int .i8 (W : Int), .int .i8 (H : Int), .slice (some ⟨g, 0, none⟩) n n] 31)) (.cells #[.int .i8 0, .int .i8 0, .slice none 0 0] 31)
  have H1 : Bx ((w.alloc (.cells #[.int .i8 (W : Int), .int .i8 (H : Int), .slice (some ⟨g, 0, none⟩) n n] 31)).alloc (.cells #[.int .i8 0, .int .i8 0, .slice none 0 0] 31)) (w.heap.size + 1) #[.int .i8 0, .int .i8 0, .slice none 0 0] 31 := Bx.newAt _ _ _ _ (by simp)
  obtain ⟨W0, hW0⟩ : ∃ W0 : World, W0 = ((w.alloc (.cells #[.int .i8 (W : Int), .int .i8 (H : Int), .slice (some ⟨g, 0, none⟩) n n] 31)).alloc (.cells #[.int .i8 0, .int .i8 0, .slice none 0 0] 31)) := ⟨_, rfl⟩
  rw [← hW0] at HQ B H1 ⊢
  clear hW0
  refine (implValid_any W H g n c _ (by omega) (by omega) HC.out hm (HROW.out.of_block (B.block _ hgl))).mono ?_
  rintro e w2 ⟨hb, ⟨h, rfl⟩ | ⟨h, _⟩⟩
  case inr => exact absurd HV.out h
  clear h
  replace HQ := HQ.below hb
  replace H1 := H1.below hb
  replace B := nxt B hb
  clear hb
  go_wp2_with fail
  refine (side_yes (wd : Int) _ (by omega) (by omega)).mono ?_
  rintro e w3 ⟨rfl, rfl⟩
  go_wp2_with fail
  refine (side_yes (ht : Int) _ (by omega) (by omega)).mono ?_
  rintro e w3 ⟨rfl, rfl⟩
  obtain ⟨lq, pq, qq, rq⟩ := id HQ
  go_wp2_with fail
  refine (gridOf_any W H g n c _ HC.out HV.out (HROW.out.of_block (B.block _ hgl))).mono ?_
  rintro e w4 ⟨hb, cs, rfl, hsz, hone, hcell⟩
  replace HQ := HQ.below hb
  replace H1 := H1.below hb
  replace B := nxt B hb
  clear hb lq pq qq rq
  have hG : (w4.alloc (.cells Try.zeroCells105 105)).heap[w4.heap.size]? = some (.cells Try.zeroCells105 105 (0, 0)) := heap_alloc_new w4 _
  have B4 := below_setRow (al B (.cells Try.zeroCells105 105)) B.size cs
  have R4 : ((w4.alloc (.cells Try.zeroCells105 105)).setRow w4.heap.size cs).rowIs w4.heap.size 105 144 (fun p => .int .i8 (gridL (toL c n) p)) := ⟨cs, setRow_heap _ _ _ _ _ _ hG, hsz, fun p hp => by show cs[p]? = some (Value.int IntKind.i8 (gridL (toL c n) p)); rw [hcell p hp]; unfold gridL; rw [toL_length, grid_toL]⟩
  have HQ4 : Sq ((w4.alloc (.cells Try.zeroCells105 105)).setRow w4.heap.size cs) w.heap.size (W : Int) (H : Int) (.slice (some ⟨g, 0, none⟩) n n) := (HQ.alloc _).of_block (by rw [setRow_size]; exact Nat.le_refl _) (setRow_other _ _ _ _ (by have := HQ.1; omega))
  have H14 : Bx ((w4.alloc (.cells Try.zeroCells105 105)).setRow w4.heap.size cs) (w.heap.size + 1) #[.int .i8 0, .int .i8 0, .slice none 0 0] 31 := (H1.alloc _).of_block (setRow_other _ _ _ _ (by have := H1.lt; omega))
  have hbg : w.heap.size + 2 ≤ w4.heap.size := H1.lt
  obtain ⟨W4, hW4⟩ : ∃ W4 : World, W4 = ((w4.alloc (.cells Try.zeroCells105 105)).setRow w4.heap.size cs) := ⟨_, rfl⟩
  have hs4 : w4.heap.size + 1 ≤ W4.heap.size := by rw [hW4, setRow_size]; simp
  go_wp2_with (first
    | (refine wpList_store_row rfl 105 (.tmp 9) (.tmp 28) rfl w4.heap.size cs rfl rfl 105 Try.zeroCells105 (heap_alloc_new w4 _) (by rw [infoGrid, hsz]) (by rw [zi_size, hsz]) hone ?_
       rw [← hW4] at B4 HQ4 H14 R4 ⊢
       clear hW4 hG HQ H1 B hcell hsz hone
       obtain ⟨lq, pq, qq, rq⟩ := id HQ4))
  obtain ⟨bg, hbgE⟩ : ∃ bg, bg = w4.heap.size := ⟨_, rfl⟩
  rw [← hbgE] at R4 hbg hs4 ⊢
  clear hbgE lq pq qq rq
  refine (clone_any g n n c _ hm (HROW.out.of_block (B4.block _ hgl))).mono ?_
  rintro e w5 ⟨hb, vc, rfl, OC⟩
  have HQ := HQ4.below hb
  have H1 := H14.below hb
  have RG := rowNext0 R4 hb
  have B := nxt B4 hb
  rw [rowV_enc] at OC
  have O : w5.ownsRow (bg + 1) 110 4 vc n (encL (toL c n)) := World.ownsRow.mono OC hs4
  clear hb HQ4 H14 R4 B4 OC hs4
  obtain ⟨D0, hD0⟩ : ∃ D0, D0 = toL c n := ⟨_, rfl⟩
  have hl0 : D0.length = n := by rw [hD0, toL_length]
  have HF0 : Hid (FwI W H wd ht n R D0) := Lib.hid (by
    rw [hD0]
    refine ⟨by rw [toL_length]; exact Nat.le_refl _, by rw [toL_length]; exact hn60, HFIT.out, by rw [toL_length]; exact HRR.out.symm⟩)
  rw [← hD0] at O RG
  have O' : w5.ownsRow (bg + 1) 110 4 vc D0.length (encL D0) := by rw [hl0]; exact O
  clear O hD0 hl0 HRR HFIT HV HC HROW
  go_wp2_with fail
  go_loopw [10, 11, 12] (fun t10 t11 t12 wr => ∃ (D : List S4), lenV t10 = D.length ∧ Below w.heap.size w wr ∧ Sq wr w.heap.size (W : Int) (H : Int) (.slice (some ⟨g, 0, none⟩) n n) ∧ Bx wr (w.heap.size + 1) #[.int .i8 0, .int .i8 0, .slice none 0 0] 31 ∧ wr.rowIs bg 105 144 (fun p => .int .i8 (gridL D p)) ∧ wr.ownsRow (bg + 1) 110 4 t10 D.length (encL D) ∧ Hid (FwI W H wd ht n R D)) (fun t10 t11 t12 wr => 60 - lenV t10)
  case atStart =>
    obtain ⟨A, cap, rfl⟩ := row_shape O'
    exact ⟨D0, rfl, B, HQ, H1, RG, O', HF0⟩
  case round =>
    clear B HQ H1 RG O' HF0
    obtain ⟨D, hlv, B, HQ, H1, RG, O, HF⟩ := hrel
    clear hlv
    obtain ⟨A, cap, hu⟩ := row_shape O
    obtain ⟨v0, rfl⟩ : ∃ v0 : Value, v0 = u10 := ⟨_, rfl⟩
    subst hu
    have hDn : n ≤ D.length := HF.out.1
    have hD60 : D.length ≤ 60 := HF.out.2.1
    obtain ⟨m, hm'⟩ : ∃ m, m = D.length := ⟨_, rfl⟩
    rw [← hm'] at hDn hD60 O ⊢
    have HM := Lib.hid hm'
    clear hm'
    have hszb : bg + 1 ≤ wr.heap.size := RG.lt
    by_cases hlt : m < 60
    · have hki : (m : Int) < 60 := by omega
      obtain ⟨lq, pq, qq, rq⟩ := id HQ
      have w1 := HW1.out
      have w2 := HW2.out
      go_wp2_with fail
      clear lq pq qq rq w1 w2
      refine (callsIn_wide.1 (placeG_in W H bg wd ht (some ⟨g, 0, none⟩) n n (fun p => gridL D p) _ hwd hht hW1 hW hH RG)).mono ?_
      rintro e w1 ⟨hb, v, rfl, hres⟩
      replace HQ := HQ.below hb
      replace H1 := H1.below hb
      replace RG := rowNext0 RG hb
      replace O := own_belowF O hb
      replace hszb : bg + 1 ≤ w1.heap.size := Nat.le_trans hszb hb.size
      replace B := nxt B hb
      clear hb
      have hN : PlaceN W H wd ht D v := PlaceResG.next hres
      clear hres
      rcases hN with ⟨a0, a1, hs, rfl⟩ | ⟨hs, rfl⟩
      · have hfit := nextS_fit hW hH hwd.1 hht.1 HF.out.2.2.1 hs
        obtain ⟨hl1, hl2, hl3, hl4, hl5, hl6⟩ := hfit.2
        dsimp only at hl1 hl2 hl5 hl6
        obtain ⟨x0, rfl⟩ := Int.eq_ofNat_of_zero_le hl1
        obtain ⟨y0, rfl⟩ := Int.eq_ofNat_of_zero_le hl2
        have HS := Lib.hid hs
        have HFF := Lib.hid hfit.1
        have hx12 : x0 + wd ≤ 12 := by omega
        have hy12 : y0 + ht ≤ 12 := by omega
        clear hs hfit hl1 hl2 hl3 hl4 hl5 hl6
        go_upto_region 10 with fail
        have X := Bx.new w1 #[.int .i8 (x0 : Int), .int .i8 (y0 : Int), .int .i8 (wd : Int), .int .i8 (ht : Int)] 110
        replace HQ := HQ.alloc (.cells #[.int .i8 (x0 : Int), .int .i8 (y0 : Int), .int .i8 (wd : Int), .int .i8 (ht : Int)] 110)
        replace H1 := H1.alloc (.cells #[.int .i8 (x0 : Int), .int .i8 (y0 : Int), .int .i8 (wd : Int), .int .i8 (ht : Int)] 110)
        replace RG := RG.alloc (.cells #[.int .i8 (x0 : Int), .int .i8 (y0 : Int), .int .i8 (wd : Int), .int .i8 (ht : Int)] 110)
        have hox : Value.ownBlock (.slice A m cap) ≠ some w1.heap.size := fun e => by have := (World.ownsRow.lt O _ e).2; omega
        replace O := World.ownsRow.alloc O (.cells #[.int .i8 (x0 : Int), .int .i8 (y0 : Int), .int .i8 (wd : Int), .int .i8 (ht : Int)] 110)
        replace B := al B (.cells #[.int .i8 (x0 : Int), .int .i8 (y0 : Int), .int .i8 (wd : Int), .int .i8 (ht : Int)] 110)
        obtain ⟨bx, hbx⟩ : ∃ bx, bx = w1.heap.size := ⟨_, rfl⟩
        obtain ⟨w2, hw2⟩ : ∃ V : World, V = w1.alloc (.cells #[.int .i8 (x0 : Int), .int .i8 (y0 : Int), .int .i8 (wd : Int), .int .i8 (ht : Int)] 110) := ⟨_, rfl⟩
        rw [← hw2] at HQ H1 RG O B X ⊢
        have hszb2 : bg + 1 ≤ w2.heap.size := by rw [hw2]; simp; omega
        rw [← hbx] at X hszb hox ⊢
        clear hw2 hbx
        have hlo : ∀ b, Value.ownBlock (.slice A m cap) = some b → bg + 1 ≤ b := fun b e => (World.ownsRow.lt O b e).1
        have hxb : bx < w2.heap.size := X.lt
        obtain ⟨p0, q0, r0, s0⟩ := X.cells4
        have HO := Lib.hid O
        clear O
        go_upto_region 11 with (at_builtin; refine wpList_append_own _ rfl _ _ 29 rfl (bg + 1) 110 i0 (.agg #[.int .i8 0, .int .i8 0, .int .i8 0, .int .i8 0]) 4 4 Try.underlying29 HI.out hz0 hz1 hz2 rfl (by decide) _ m (encL D) rfl (World.ownsRow.alloc HO.out _) ⟨w2.heap.size, 0, none⟩ 1 1 (encS ((x0 : Int), (y0 : Int), (wd : Int), (ht : Int))) rfl rfl (new_cells w2 #[.int .i8 (x0 : Int), .int .i8 (y0 : Int), .int .i8 (wd : Int), .int .i8 (ht : Int)] 110) (encL_one [((x0 : Int), (y0 : Int), (wd : Int), (ht : Int))]) (by unfold maxLen; omega) (by omega) (by simp; omega) ?_; intro v' w3 own' hgr hn3)
        have B3 : Below w.heap.size w w3 := (al B (.cells #[.int .i8 (x0 : Int), .int .i8 (y0 : Int), .int .i8 (wd : Int), .int .i8 (ht : Int)] 110)).grown hgr (al B _).size (fun k e => by have := hlo k e; omega)
        have HQ3 := (HQ.alloc (.cells #[.int .i8 (x0 : Int), .int .i8 (y0 : Int), .int .i8 (wd : Int), .int .i8 (ht : Int)] 110)).of_block hgr.size (hgr.block _ (HQ.alloc (.cells #[.int .i8 (x0 : Int), .int .i8 (y0 : Int), .int .i8 (wd : Int), .int .i8 (ht : Int)] 110)).1 (fun e => by have := hlo _ e.symm; omega))
        have H13 := (H1.alloc (.cells #[.int .i8 (x0 : Int), .int .i8 (y0 : Int), .int .i8 (wd : Int), .int .i8 (ht : Int)] 110)).of_block (hgr.block _ (H1.alloc (.cells #[.int .i8 (x0 : Int), .int .i8 (y0 : Int), .int .i8 (wd : Int), .int .i8 (ht : Int)] 110)).lt (fun e => by have := hlo _ e.symm; omega))
        have RG3 := (RG.alloc (.cells #[.int .i8 (x0 : Int), .int .i8 (y0 : Int), .int .i8 (wd : Int), .int .i8 (ht : Int)] 110)).of_block (hgr.block _ (RG.alloc (.cells #[.int .i8 (x0 : Int), .int .i8 (y0 : Int), .int .i8 (wd : Int), .int .i8 (ht : Int)] 110)).lt (fun e => by have := hlo _ e.symm; omega))
        have X3 := (X.alloc (.cells #[.int .i8 (x0 : Int), .int .i8 (y0 : Int), .int .i8 (wd : Int), .int .i8 (ht : Int)] 110)).of_block (hgr.block _ (X.alloc (.cells #[.int .i8 (x0 : Int), .int .i8 (y0 : Int), .int .i8 (wd : Int), .int .i8 (ht : Int)] 110)).lt (fun e => hox e.symm))
        have O3 : w3.ownsRow (bg + 1) 110 4 v' (m + 1) (encL (D ++ [((x0 : Int), (y0 : Int), (wd : Int), (ht : Int))])) := by rw [encL_append]; exact own'
        obtain ⟨A', cap', hv'⟩ := row_shape O3
        subst hv'
        clear HQ H1 RG X B own' hgr hn3 HO hlo hox p0 q0 r0 s0
        obtain ⟨p0, q0, r0, s0⟩ := X3.cells4
        have e8 : IntKind.i8.wrap ((m : Int) + 1) = (m : Int) + 1 := IntWalk.i8_in _ (by omega)
        go_wp2_with fail
        refine (callsIn_wide.1 (lay_in 6 (by omega) bg x0 y0 wd ht _ (fun p => gridL D p) _ hx12 hy12 RG3)).mono ?_
        rintro e w4' ⟨⟨v, rfl⟩, hg, hz'⟩
        have B4 := below_grown B3 hg B3.size (by omega)
        have HQ4 := HQ3.of_block hg.size (hg.block _ HQ3.1 (fun e => by injection e; omega))
        have H14 := H13.of_block (hg.block _ H13.lt (fun e => by injection e; omega))
        have O4 := World.ownsRow.kept O3 hg (.inr (fun e => by have := (World.ownsRow.lt O3 _ e).1; omega))
        have RG4 : w4'.rowIs bg 105 144 (fun p => .int .i8 (gridL (D ++ [((x0 : Int), (y0 : Int), (wd : Int), (ht : Int))]) p)) := hz'.congr (fun p hp => by
          have h := grid_next (D := D) hp hx12 hy12
          rw [← HM.out] at h
          exact congrArg (Value.int IntKind.i8) h)
        clear hg hz' B3 HQ3 H13 RG3 X3 O3 p0 q0 r0 s0 e8
        have hlen : (D ++ [((x0 : Int), (y0 : Int), (wd : Int), (ht : Int))]).length = m + 1 := by rw [List.length_append, ← HM.out]; rfl
        have HF3 : Hid (FwI W H wd ht n R (D ++ [((x0 : Int), (y0 : Int), (wd : Int), (ht : Int))])) := Lib.hid (by
          refine ⟨by rw [hlen]; omega, by rw [hlen]; omega, HFF.out, ?_⟩
          have h := HF.out.2.2.2
          rw [← HM.out, show 60 - m = (60 - (m + 1)) + 1 by omega, runS_some HS.out] at h
          rw [hlen]
          exact h)
        have HLEN := Lib.hid hlen
        clear hlen
        go_wp2_with fail
        exact ⟨⟨D ++ [((x0 : Int), (y0 : Int), (wd : Int), (ht : Int))], by rw [HLEN.out]; rfl, B4, HQ4, H14, RG4, by rw [HLEN.out]; exact O4, HF3⟩, by simp [lenV]; omega⟩
      · have HS := Lib.hid hs
        clear hs
        have HRD : Hid (R = D) := Lib.hid (by rw [← HF.out.2.2.2, runS_none HS.out])
        replace HQ := HQ.alloc (.cells #[.int .i8 0, .int .i8 0, .int .i8 0, .int .i8 0] 110)
        replace H1 := H1.alloc (.cells #[.int .i8 0, .int .i8 0, .int .i8 0, .int .i8 0] 110)
        replace O := World.ownsRow.alloc O (.cells #[.int .i8 0, .int .i8 0, .int .i8 0, .int .i8 0] 110)
        replace B := al B (.cells #[.int .i8 0, .int .i8 0, .int .i8 0, .int .i8 0] 110)
        go_upto_region 12 with fail
        obtain ⟨w2, hw2⟩ : ∃ V : World, V = w1.alloc (.cells #[.int .i8 0, .int .i8 0, .int .i8 0, .int .i8 0] 110) := ⟨_, rfl⟩
        rw [← hw2] at HQ H1 O B ⊢
        clear hw2 RG hszb
        obtain ⟨lq, pq, qq, rq⟩ := id HQ
        have e9 : IntKind.i64.wrap ((m : Int) - (n : Int)) = (m : Int) - (n : Int) := IntWalk.i64_in _ (by omega)
        go_wp2_with fail
        clear lq pq qq rq
        have hmD : D.length = m := HM.out.symm
        rcases own_empty O with ⟨rfl, h0⟩ | ⟨go, rfl, hgo1, hgo2⟩
        · have HM0 := Lib.hid h0
          clear h0 hmD
          have hsq := squareWith_none (W : Int) (H : Int) cap w2
          have HSQ : Hid (Calls Try.prog 86 #[.int .i8 (W : Int), .int .i8 (H : Int), .slice none m cap] w2 fun e w' => e = .returned (.agg #[.int .i8 (W : Int), .int .i8 (H : Int), .slice none 0 cap]) ∧ Below w2.heap.size w2 w') := Lib.hid (by rw [HM0.out]; exact hsq)
          clear hsq
          refine HSQ.out.mono ?_
          rintro e w6 ⟨rfl, hb⟩
          replace HQ := HQ.below hb
          replace H1 := H1.below hb
          replace B := nxt B hb
          clear hb HSQ
          obtain ⟨p1, q1, r1⟩ := H1.cells3
          have f0 := H1.frozen 0
          have f1 := H1.frozen 1
          have f2 := H1.frozen 2
          have hsz2 : w.heap.size ≤ w6.heap.size := B.size
          go_wp2_with fail
          have F1 := H1.set3 (.int .i8 (W : Int)) (.int .i8 (H : Int)) (.slice none 0 cap)
          have B3 := below_set3 (g := w.heap.size + 1) (v0 := .int .i8 (W : Int)) (v1 := .int .i8 (H : Int)) (v2 := .slice none 0 cap) B (by omega)
          obtain ⟨x1, y1, z1⟩ := F1.cells3
          have hD0 : D = [] := List.eq_nil_of_length_eq_zero (by rw [← HM.out]; exact HM0.out)
          refine bodyPost_ret (v := .tuple #[.agg #[.int .i8 (W : Int), .int .i8 (H : Int), .slice none 0 cap], .int .i64 ((m : Int) - n), .int .i64 0]) (by simp [results, Try.results34, go_sem, x1, y1, z1]) rfl ⟨B3, .slice none 0 cap, [], ?_, ?_, ?_⟩
          · rw [HRD.out, ← HM.out]
          · rw [HRD.out, hD0]; exact ⟨List.Perm.refl _, List.Pairwise.nil⟩
          · rw [HRD.out, hD0]; exact ⟨none, 0, cap, rfl, fun h => absurd h (by simp), fun j hj => absurd hj (by simp)⟩
        · have hRW := rw_own O hmD
          have HSQ := Lib.hid (squareWith_any (W : Int) (H : Int) go m cap (fL D) w2 (by omega) hRW.1 hRW.2)
          clear hRW hmD
          refine HSQ.out.mono ?_
          rintro e w6 ⟨rfl, hgr, L, hSo, hOL⟩
          have hng : go ≠ w.heap.size := by omega
          have hng1 : go ≠ w.heap.size + 1 := by omega
          replace H1 := H1.of_block (hgr.block _ H1.lt (fun e => by injection e; omega))
          replace B := below_grown B hgr B.size (by omega)
          have hs6 : go < w6.heap.size := Nat.lt_of_lt_of_le hgo2 hgr.size
          have HSo : Hid (SortedOf D L) := Lib.hid (by
            have h := hSo
            rw [HM.out, toL_fL] at h
            exact h)
          have HOL := Lib.hid hOL
          clear hgr hSo hOL HSQ O HQ
          obtain ⟨p1, q1, r1⟩ := H1.cells3
          have f0 := H1.frozen 0
          have f1 := H1.frozen 1
          have f2 := H1.frozen 2
          have hsz2 : w.heap.size ≤ w6.heap.size := B.size
          go_wp2_with fail
          have F1 := H1.set3 (.int .i8 (W : Int)) (.int .i8 (H : Int)) (.slice (some ⟨go, 0, none⟩) m cap)
          have B3 := below_set3 (g := w.heap.size + 1) (v0 := .int .i8 (W : Int)) (v1 := .int .i8 (H : Int)) (v2 := .slice (some ⟨go, 0, none⟩) m cap) B (by omega)
          obtain ⟨x1, y1, z1⟩ := F1.cells3
          have HR4 : Rw (((w6.setCell ⟨w.heap.size + 1, 0, none⟩ (.int .i8 (W : Int))).setCell ⟨w.heap.size + 1, 1, none⟩ (.int .i8 (H : Int))).setCell ⟨w.heap.size + 1, 2, none⟩ (.slice (some ⟨go, 0, none⟩) m cap)) go m (fL L) := Rw.of_block (w := w6) ⟨hs6, HOL.out⟩ (blk3 hng1)
          refine bodyPost_ret (v := .tuple #[.agg #[.int .i8 (W : Int), .int .i8 (H : Int), .slice (some ⟨go, 0, none⟩) m cap], .int .i64 ((m : Int) - n), .int .i64 0]) (by simp [results, Try.results34, go_sem, x1, y1, z1]) rfl ⟨B3, .slice (some ⟨go, 0, none⟩) m cap, L, ?_, by rw [HRD.out]; exact HSo.out, ?_⟩
          · rw [HRD.out, ← HM.out]
          · rw [HRD.out, ← HM.out]; exact rw_has HR4 (by omega)
    · have HRD : Hid (R = D) := Lib.hid (by rw [← HF.out.2.2.2, ← HM.out, show 60 - m = 0 by omega]; rfl)
      have hki : ¬ ((m : Int) < 60) := by omega
      obtain ⟨w2, rfl⟩ : ∃ V : World, V = wr := ⟨_, rfl⟩
      clear RG hszb
      obtain ⟨lq, pq, qq, rq⟩ := id HQ
      have e9 : IntKind.i64.wrap ((m : Int) - (n : Int)) = (m : Int) - (n : Int) := IntWalk.i64_in _ (by omega)
      go_wp2_with fail
      clear lq pq qq rq
      have hmD : D.length = m := HM.out.symm
      rcases own_empty O with ⟨rfl, h0⟩ | ⟨go, rfl, hgo1, hgo2⟩
      · have HM0 := Lib.hid h0
        clear h0 hmD
        have hsq := squareWith_none (W : Int) (H : Int) cap w2
        have HSQ : Hid (Calls Try.prog 86 #[.int .i8 (W : Int), .int .i8 (H : Int), .slice none m cap] w2 fun e w' => e = .returned (.agg #[.int .i8 (W : Int), .int .i8 (H : Int), .slice none 0 cap]) ∧ Below w2.heap.size w2 w') := Lib.hid (by rw [HM0.out]; exact hsq)
        clear hsq
        refine HSQ.out.mono ?_
        rintro e w6 ⟨rfl, hb⟩
        replace HQ := HQ.below hb
        replace H1 := H1.below hb
        replace B := nxt B hb
        clear hb HSQ
        obtain ⟨p1, q1, r1⟩ := H1.cells3
        have f0 := H1.frozen 0
        have f1 := H1.frozen 1
        have f2 := H1.frozen 2
        have hsz2 : w.heap.size ≤ w6.heap.size := B.size
        go_wp2_with fail
        have F1 := H1.set3 (.int .i8 (W : Int)) (.int .i8 (H : Int)) (.slice none 0 cap)
        have B3 := below_set3 (g := w.heap.size + 1) (v0 := .int .i8 (W : Int)) (v1 := .int .i8 (H : Int)) (v2 := .slice none 0 cap) B (by omega)
        obtain ⟨x1, y1, z1⟩ := F1.cells3
        have hD0 : D = [] := List.eq_nil_of_length_eq_zero (by rw [← HM.out]; exact HM0.out)
        refine bodyPost_ret (v := .tuple #[.agg #[.int .i8 (W : Int), .int .i8 (H : Int), .slice none 0 cap], .int .i64 ((m : Int) - n), .int .i64 0]) (by simp [results, Try.results34, go_sem, x1, y1, z1]) rfl ⟨B3, .slice none 0 cap, [], ?_, ?_, ?_⟩
        · rw [HRD.out, ← HM.out]
        · rw [HRD.out, hD0]; exact ⟨List.Perm.refl _, List.Pairwise.nil⟩
        · rw [HRD.out, hD0]; exact ⟨none, 0, cap, rfl, fun h => absurd h (by simp), fun j hj => absurd hj (by simp)⟩
      · have hRW := rw_own O hmD
        have HSQ := Lib.hid (squareWith_any (W : Int) (H : Int) go m cap (fL D) w2 (by omega) hRW.1 hRW.2)
        clear hRW hmD
        refine HSQ.out.mono ?_
        rintro e w6 ⟨rfl, hgr, L, hSo, hOL⟩
        have hng : go ≠ w.heap.size := by omega
        have hng1 : go ≠ w.heap.size + 1 := by omega
        replace H1 := H1.of_block (hgr.block _ H1.lt (fun e => by injection e; omega))
        replace B := below_grown B hgr B.size (by omega)
        have hs6 : go < w6.heap.size := Nat.lt_of_lt_of_le hgo2 hgr.size
        have HSo : Hid (SortedOf D L) := Lib.hid (by
          have h := hSo
          rw [HM.out, toL_fL] at h
          exact h)
        have HOL := Lib.hid hOL
        clear hgr hSo hOL HSQ O HQ
        obtain ⟨p1, q1, r1⟩ := H1.cells3
        have f0 := H1.frozen 0
        have f1 := H1.frozen 1
        have f2 := H1.frozen 2
        have hsz2 : w.heap.size ≤ w6.heap.size := B.size
        go_wp2_with fail
        have F1 := H1.set3 (.int .i8 (W : Int)) (.int .i8 (H : Int)) (.slice (some ⟨go, 0, none⟩) m cap)
        have B3 := below_set3 (g := w.heap.size + 1) (v0 := .int .i8 (W : Int)) (v1 := .int .i8 (H : Int)) (v2 := .slice (some ⟨go, 0, none⟩) m cap) B (by omega)
        obtain ⟨x1, y1, z1⟩ := F1.cells3
        have HR4 : Rw (((w6.setCell ⟨w.heap.size + 1, 0, none⟩ (.int .i8 (W : Int))).setCell ⟨w.heap.size + 1, 1, none⟩ (.int .i8 (H : Int))).setCell ⟨w.heap.size + 1, 2, none⟩ (.slice (some ⟨go, 0, none⟩) m cap)) go m (fL L) := Rw.of_block (w := w6) ⟨hs6, HOL.out⟩ (blk3 hng1)
        refine bodyPost_ret (v := .tuple #[.agg #[.int .i8 (W : Int), .int .i8 (H : Int), .slice (some ⟨go, 0, none⟩) m cap], .int .i64 ((m : Int) - n), .int .i64 0]) (by simp [results, Try.results34, go_sem, x1, y1, z1]) rfl ⟨B3, .slice (some ⟨go, 0, none⟩) m cap, L, ?_, by rw [HRD.out]; exact HSo.out, ?_⟩
        · rw [HRD.out, ← HM.out]
        · rw [HRD.out, ← HM.out]; exact rw_has HR4 (by omega)
end fillWith
end Go.Proofs.Ytkdakpbkpfigeaa

namespace Go.Proofs.Ytkdakpbkpfigeaa
open Go Go.ChangeShapes Go.WideShapes Go.ChangeAt Go.RowKit canPut
set_option linter.unusedVariables false
set_option linter.unusedSimpArgs false
set_option maxRecDepth 100000
set_option maxHeartbeats 4000000

namespace fillWith
/-- a refusal. -/
def FbPost (code : Int) (w : World) (e : Ending) (w' : World) : Prop :=
  Below w.heap.size w w' ∧ ∃ v, e = .returned (.tuple #[.agg #[.int .i8 0, .int .i8 0, v], .int .i64 0, .int .i64 code]) ∧ HasSlice .i8 4 w' w.heap.size v 0 (fL [])
theorem has_nil (w : World) (base : Nat) : HasSlice .i8 4 w base (.slice none 0 0) 0 (fL []) := ⟨none, 0, 0, rfl, fun h => absurd h (by omega), fun j hj => absurd hj (by omega)⟩
theorem specA (X Y : Int) (g n : Nat) (c : Nat → Int) (k0 k1 : Int) (w : World) (hX : -128 ≤ X ∧ X ≤ 127) (hY : -128 ≤ Y ∧ Y ≤ 127) (hc : ∀ j, -128 ≤ c j ∧ c j ≤ 127) (hm : n ≤ 1048576) (hrow : w.rowIs g 110 (4 * n) (fun j => .int .i8 (c j))) (hk : ¬ (1 ≤ k0 ∧ k0 ≤ 12)) (code : Int) (hcd : (code != 0) = true)
    (hT : ∀ (W : World) (bq : Nat), Sq W bq X Y (.slice (some ⟨g, 0, none⟩) n n) → W.rowIs g 110 (4 * n) (fun j => .int .i8 (c j)) → Calls Try.prog 73 #[.pointer (some ⟨bq, 0, none⟩), .bool false] W fun e w' => e = .returned (.int .i64 code) ∧ Below W.heap.size W w') :
    Calls Try.prog 33 #[.agg #[.int .i8 X, .int .i8 Y, .slice (some ⟨g, 0, none⟩) n n], .int .i64 k0, .int .i64 k1] w (FbPost code w) := by
  have HT := Lib.hid hT
  clear hT
  go_enter Try.func33, Try.ntmps33
  go_wp2_with fail
  have HQ := (Sq.new w X Y (.slice (some ⟨g, 0, none⟩) n n) 31).alloc (.cells #[.int .i8 0, .int .i8 0, .slice none 0 0] 31)
  have B := al (al (Below.refl w.heap.size w) (.cells #[.int .i8 X, .int .i8 Y, .slice (some ⟨g, 0, none⟩) n n] 31)) (.cells #[.int .i8 0, .int .i8 0, .slice none 0 0] 31)
  have H1 : Bx ((w.alloc (.cells #[.int .i8 X, .int .i8 Y, .slice (some ⟨g, 0, none⟩) n n] 31)).alloc (.cells #[.int .i8 0, .int .i8 0, .slice none 0 0] 31)) (w.heap.size + 1) #[.int .i8 0, .int .i8 0, .slice none 0 0] 31 := Bx.newAt _ _ _ _ (by simp)
  obtain ⟨W0, hW0⟩ : ∃ W0 : World, W0 = ((w.alloc (.cells #[.int .i8 X, .int .i8 Y, .slice (some ⟨g, 0, none⟩) n n] 31)).alloc (.cells #[.int .i8 0, .int .i8 0, .slice none 0 0] 31)) := ⟨_, rfl⟩
  rw [← hW0] at HQ B H1 ⊢
  clear hW0
  refine (edge_no k0 _ hk).mono ?_
  rintro e w1 ⟨rfl, rfl⟩
  go_wp2_with fail
  refine (HT.out _ _ HQ (hrow.of_block (B.block _ hrow.lt))).mono ?_
  rintro e w2 ⟨rfl, hb⟩
  replace HQ := HQ.below hb
  replace H1 := H1.below hb
  replace B := nxt B hb
  clear hb
  obtain ⟨p1, q1, r1⟩ := H1.cells3
  have f10 := H1.frozen 0
  have f11 := H1.frozen 1
  have f12 := H1.frozen 2
  go_wp2_with fail
  have F1 := H1.set3 (.int .i8 0) (.int .i8 0) (.slice none 0 0)
  have B3 := below_set3 (g := w.heap.size + 1) (v0 := .int .i8 0) (v1 := .int .i8 0) (v2 := .slice none 0 0) B (by omega)
  obtain ⟨x1, y1, z1⟩ := F1.cells3
  exact bodyPost_ret (v := .tuple #[.agg #[.int .i8 0, .int .i8 0, .slice none 0 0], .int .i64 0, .int .i64 code]) (by simp [results, Try.results33, go_sem, x1, y1, z1]) rfl ⟨B3, _, rfl, has_nil _ _⟩
theorem specB (X Y : Int) (g n : Nat) (c : Nat → Int) (k0 k1 : Int) (w : World) (hX : -128 ≤ X ∧ X ≤ 127) (hY : -128 ≤ Y ∧ Y ≤ 127) (hc : ∀ j, -128 ≤ c j ∧ c j ≤ 127) (hm : n ≤ 1048576) (hrow : w.rowIs g 110 (4 * n) (fun j => .int .i8 (c j))) (hk0 : 1 ≤ k0 ∧ k0 ≤ 12) (hk : ¬ (1 ≤ k1 ∧ k1 ≤ 12)) (code : Int) (hcd : (code != 0) = true)
    (hT : ∀ (W : World) (bq : Nat), Sq W bq X Y (.slice (some ⟨g, 0, none⟩) n n) → W.rowIs g 110 (4 * n) (fun j => .int .i8 (c j)) → Calls Try.prog 73 #[.pointer (some ⟨bq, 0, none⟩), .bool false] W fun e w' => e = .returned (.int .i64 code) ∧ Below W.heap.size W w') :
    Calls Try.prog 33 #[.agg #[.int .i8 X, .int .i8 Y, .slice (some ⟨g, 0, none⟩) n n], .int .i64 k0, .int .i64 k1] w (FbPost code w) := by
  have HT := Lib.hid hT
  clear hT
  go_enter Try.func33, Try.ntmps33
  go_wp2_with fail
  have HQ := (Sq.new w X Y (.slice (some ⟨g, 0, none⟩) n n) 31).alloc (.cells #[.int .i8 0, .int .i8 0, .slice none 0 0] 31)
  have B := al (al (Below.refl w.heap.size w) (.cells #[.int .i8 X, .int .i8 Y, .slice (some ⟨g, 0, none⟩) n n] 31)) (.cells #[.int .i8 0, .int .i8 0, .slice none 0 0] 31)
  have H1 : Bx ((w.alloc (.cells #[.int .i8 X, .int .i8 Y, .slice (some ⟨g, 0, none⟩) n n] 31)).alloc (.cells #[.int .i8 0, .int .i8 0, .slice none 0 0] 31)) (w.heap.size + 1) #[.int .i8 0, .int .i8 0, .slice none 0 0] 31 := Bx.newAt _ _ _ _ (by simp)
  obtain ⟨W0, hW0⟩ : ∃ W0 : World, W0 = ((w.alloc (.cells #[.int .i8 X, .int .i8 Y, .slice (some ⟨g, 0, none⟩) n n] 31)).alloc (.cells #[.int .i8 0, .int .i8 0, .slice none 0 0] 31)) := ⟨_, rfl⟩
  rw [← hW0] at HQ B H1 ⊢
  clear hW0
  refine (edge_yes k0 _ hk0.1 hk0.2).mono ?_
  rintro e w1 ⟨rfl, rfl⟩
  go_wp2_with fail
  refine (edge_no k1 _ hk).mono ?_
  rintro e w1 ⟨rfl, rfl⟩
  go_wp2_with fail
  refine (HT.out _ _ HQ (hrow.of_block (B.block _ hrow.lt))).mono ?_
  rintro e w2 ⟨rfl, hb⟩
  replace HQ := HQ.below hb
  replace H1 := H1.below hb
  replace B := nxt B hb
  clear hb
  obtain ⟨p1, q1, r1⟩ := H1.cells3
  have f10 := H1.frozen 0
  have f11 := H1.frozen 1
  have f12 := H1.frozen 2
  go_wp2_with fail
  have F1 := H1.set3 (.int .i8 0) (.int .i8 0) (.slice none 0 0)
  have B3 := below_set3 (g := w.heap.size + 1) (v0 := .int .i8 0) (v1 := .int .i8 0) (v2 := .slice none 0 0) B (by omega)
  obtain ⟨x1, y1, z1⟩ := F1.cells3
  exact bodyPost_ret (v := .tuple #[.agg #[.int .i8 0, .int .i8 0, .slice none 0 0], .int .i64 0, .int .i64 code]) (by simp [results, Try.results33, go_sem, x1, y1, z1]) rfl ⟨B3, _, rfl, has_nil _ _⟩
theorem specC (X Y : Int) (g n : Nat) (c : Nat → Int) (k0 k1 : Int) (w : World) (hX : -128 ≤ X ∧ X ≤ 127) (hY : -128 ≤ Y ∧ Y ≤ 127) (hc : ∀ j, -128 ≤ c j ∧ c j ≤ 127) (hm : n ≤ 1048576) (hrow : w.rowIs g 110 (4 * n) (fun j => .int .i8 (c j))) (hk0 : 1 ≤ k0 ∧ k0 ≤ 12) (hk : 1 ≤ k1 ∧ k1 ≤ 12) (code : Int) (hcd : (code != 0) = true)
    (hT : ∀ (W : World) (bq : Nat), Sq W bq X Y (.slice (some ⟨g, 0, none⟩) n n) → W.rowIs g 110 (4 * n) (fun j => .int .i8 (c j)) → Calls Try.prog 73 #[.pointer (some ⟨bq, 0, none⟩), .bool true] W fun e w' => e = .returned (.int .i64 code) ∧ Below W.heap.size W w') :
    Calls Try.prog 33 #[.agg #[.int .i8 X, .int .i8 Y, .slice (some ⟨g, 0, none⟩) n n], .int .i64 k0, .int .i64 k1] w (FbPost code w) := by
  have HT := Lib.hid hT
  clear hT
  go_enter Try.func33, Try.ntmps33
  go_wp2_with fail
  have HQ := (Sq.new w X Y (.slice (some ⟨g, 0, none⟩) n n) 31).alloc (.cells #[.int .i8 0, .int .i8 0, .slice none 0 0] 31)
  have B := al (al (Below.refl w.heap.size w) (.cells #[.int .i8 X, .int .i8 Y, .slice (some ⟨g, 0, none⟩) n n] 31)) (.cells #[.int .i8 0, .int .i8 0, .slice none 0 0] 31)
  have H1 : Bx ((w.alloc (.cells #[.int .i8 X, .int .i8 Y, .slice (some ⟨g, 0, none⟩) n n] 31)).alloc (.cells #[.int .i8 0, .int .i8 0, .slice none 0 0] 31)) (w.heap.size + 1) #[.int .i8 0, .int .i8 0, .slice none 0 0] 31 := Bx.newAt _ _ _ _ (by simp)
  obtain ⟨W0, hW0⟩ : ∃ W0 : World, W0 = ((w.alloc (.cells #[.int .i8 X, .int .i8 Y, .slice (some ⟨g, 0, none⟩) n n] 31)).alloc (.cells #[.int .i8 0, .int .i8 0, .slice none 0 0] 31)) := ⟨_, rfl⟩
  rw [← hW0] at HQ B H1 ⊢
  clear hW0
  refine (edge_yes k0 _ hk0.1 hk0.2).mono ?_
  rintro e w1 ⟨rfl, rfl⟩
  go_wp2_with fail
  refine (edge_yes k1 _ hk.1 hk.2).mono ?_
  rintro e w1 ⟨rfl, rfl⟩
  go_wp2_with fail
  refine (HT.out _ _ HQ (hrow.of_block (B.block _ hrow.lt))).mono ?_
  rintro e w2 ⟨rfl, hb⟩
  replace HQ := HQ.below hb
  replace H1 := H1.below hb
  replace B := nxt B hb
  clear hb
  obtain ⟨p1, q1, r1⟩ := H1.cells3
  have f10 := H1.frozen 0
  have f11 := H1.frozen 1
  have f12 := H1.frozen 2
  go_wp2_with fail
  have F1 := H1.set3 (.int .i8 0) (.int .i8 0) (.slice none 0 0)
  have B3 := below_set3 (g := w.heap.size + 1) (v0 := .int .i8 0) (v1 := .int .i8 0) (v2 := .slice none 0 0) B (by omega)
  obtain ⟨x1, y1, z1⟩ := F1.cells3
  exact bodyPost_ret (v := .tuple #[.agg #[.int .i8 0, .int .i8 0, .slice none 0 0], .int .i64 0, .int .i64 code]) (by simp [results, Try.results33, go_sem, x1, y1, z1]) rfl ⟨B3, _, rfl, has_nil _ _⟩
theorem implA (X Y : Int) (g n : Nat) (c : Nat → Int) (k0 k1 : Int) (w : World) (hX : -128 ≤ X ∧ X ≤ 127) (hY : -128 ≤ Y ∧ Y ≤ 127) (hc : ∀ j, -128 ≤ c j ∧ c j ≤ 127) (hm : n ≤ 1048576) (hrow : w.rowIs g 110 (4 * n) (fun j => .int .i8 (c j))) (hv : ¬ Valid X Y n c) :
    Calls Try.prog 34 #[.agg #[.int .i8 X, .int .i8 Y, .slice (some ⟨g, 0, none⟩) n n], .int .i64 k0, .int .i64 k1] w (FbPost 1 w) := by
  go_enter Try.func34, Try.ntmps34
  go_wp2_with fail
  have HQ := (Sq.new w X Y (.slice (some ⟨g, 0, none⟩) n n) 31).alloc (.cells #[.int .i8 0, .int .i8 0, .slice none 0 0] 31)
  have B := al (al (Below.refl w.heap.size w) (.cells #[.int .i8 X, .int .i8 Y, .slice (some ⟨g, 0, none⟩) n n] 31)) (.cells #[.int .i8 0, .int .i8 0, .slice none 0 0] 31)
  have H1 : Bx ((w.alloc (.cells #[.int .i8 X, .int .i8 Y, .slice (some ⟨g, 0, none⟩) n n] 31)).alloc (.cells #[.int .i8 0, .int .i8 0, .slice none 0 0] 31)) (w.heap.size + 1) #[.int .i8 0, .int .i8 0, .slice none 0 0] 31 := Bx.newAt _ _ _ _ (by simp)
  obtain ⟨W0, hW0⟩ : ∃ W0 : World, W0 = ((w.alloc (.cells #[.int .i8 X, .int .i8 Y, .slice (some ⟨g, 0, none⟩) n n] 31)).alloc (.cells #[.int .i8 0, .int .i8 0, .slice none 0 0] 31)) := ⟨_, rfl⟩
  rw [← hW0] at HQ B H1 ⊢
  clear hW0
  refine (implValid_any X Y g n c _ hX hY hc hm (hrow.of_block (B.block _ hrow.lt))).mono ?_
  rintro e w2 ⟨hb, ⟨h, he⟩ | ⟨h, he⟩⟩
  case inl => exact absurd h hv
  subst he
  clear h
  replace HQ := HQ.below hb
  replace H1 := H1.below hb
  replace B := nxt B hb
  clear hb
  obtain ⟨p1, q1, r1⟩ := H1.cells3
  have f10 := H1.frozen 0
  have f11 := H1.frozen 1
  have f12 := H1.frozen 2
  go_wp2_with fail
  have F1 := H1.set3 (.int .i8 0) (.int .i8 0) (.slice none 0 0)
  have B3 := below_set3 (g := w.heap.size + 1) (v0 := .int .i8 0) (v1 := .int .i8 0) (v2 := .slice none 0 0) B (by omega)
  obtain ⟨x1, y1, z1⟩ := F1.cells3
  exact bodyPost_ret (v := .tuple #[.agg #[.int .i8 0, .int .i8 0, .slice none 0 0], .int .i64 0, .int .i64 1]) (by simp [results, Try.results34, go_sem, x1, y1, z1]) rfl ⟨B3, _, rfl, has_nil _ _⟩
theorem implB (X Y : Int) (g n : Nat) (c : Nat → Int) (k0 k1 : Int) (w : World) (hX : -128 ≤ X ∧ X ≤ 127) (hY : -128 ≤ Y ∧ Y ≤ 127) (hc : ∀ j, -128 ≤ c j ∧ c j ≤ 127) (hm : n ≤ 1048576) (hrow : w.rowIs g 110 (4 * n) (fun j => .int .i8 (c j))) (hv : Valid X Y n c) (hk : ¬ (1 ≤ k0 ∧ k0 ≤ 12)) :
    Calls Try.prog 34 #[.agg #[.int .i8 X, .int .i8 Y, .slice (some ⟨g, 0, none⟩) n n], .int .i64 k0, .int .i64 k1] w (FbPost 2 w) := by
  go_enter Try.func34, Try.ntmps34
  go_wp2_with fail
  have HQ := (Sq.new w X Y (.slice (some ⟨g, 0, none⟩) n n) 31).alloc (.cells #[.int .i8 0, .int .i8 0, .slice none 0 0] 31)
  have B := al (al (Below.refl w.heap.size w) (.cells #[.int .i8 X, .int .i8 Y, .slice (some ⟨g, 0, none⟩) n n] 31)) (.cells #[.int .i8 0, .int .i8 0, .slice none 0 0] 31)
  have H1 : Bx ((w.alloc (.cells #[.int .i8 X, .int .i8 Y, .slice (some ⟨g, 0, none⟩) n n] 31)).alloc (.cells #[.int .i8 0, .int .i8 0, .slice none 0 0] 31)) (w.heap.size + 1) #[.int .i8 0, .int .i8 0, .slice none 0 0] 31 := Bx.newAt _ _ _ _ (by simp)
  obtain ⟨W0, hW0⟩ : ∃ W0 : World, W0 = ((w.alloc (.cells #[.int .i8 X, .int .i8 Y, .slice (some ⟨g, 0, none⟩) n n] 31)).alloc (.cells #[.int .i8 0, .int .i8 0, .slice none 0 0] 31)) := ⟨_, rfl⟩
  rw [← hW0] at HQ B H1 ⊢
  clear hW0
  refine (implValid_any X Y g n c _ hX hY hc hm (hrow.of_block (B.block _ hrow.lt))).mono ?_
  rintro e w2 ⟨hb, ⟨h, he⟩ | ⟨h, he⟩⟩
  case inr => exact absurd hv h
  subst he
  clear h
  replace HQ := HQ.below hb
  replace H1 := H1.below hb
  replace B := nxt B hb
  clear hb
  go_wp2_with fail
  refine (side_no k0 _ hk).mono ?_
  rintro e w3 ⟨rfl, rfl⟩
  obtain ⟨p1, q1, r1⟩ := H1.cells3
  have f10 := H1.frozen 0
  have f11 := H1.frozen 1
  have f12 := H1.frozen 2
  go_wp2_with fail
  have F1 := H1.set3 (.int .i8 0) (.int .i8 0) (.slice none 0 0)
  have B3 := below_set3 (g := w.heap.size + 1) (v0 := .int .i8 0) (v1 := .int .i8 0) (v2 := .slice none 0 0) B (by omega)
  obtain ⟨x1, y1, z1⟩ := F1.cells3
  exact bodyPost_ret (v := .tuple #[.agg #[.int .i8 0, .int .i8 0, .slice none 0 0], .int .i64 0, .int .i64 2]) (by simp [results, Try.results34, go_sem, x1, y1, z1]) rfl ⟨B3, _, rfl, has_nil _ _⟩
theorem implC (X Y : Int) (g n : Nat) (c : Nat → Int) (k0 k1 : Int) (w : World) (hX : -128 ≤ X ∧ X ≤ 127) (hY : -128 ≤ Y ∧ Y ≤ 127) (hc : ∀ j, -128 ≤ c j ∧ c j ≤ 127) (hm : n ≤ 1048576) (hrow : w.rowIs g 110 (4 * n) (fun j => .int .i8 (c j))) (hv : Valid X Y n c) (hk0 : 1 ≤ k0 ∧ k0 ≤ 12) (hk : ¬ (1 ≤ k1 ∧ k1 ≤ 12)) :
    Calls Try.prog 34 #[.agg #[.int .i8 X, .int .i8 Y, .slice (some ⟨g, 0, none⟩) n n], .int .i64 k0, .int .i64 k1] w (FbPost 2 w) := by
  go_enter Try.func34, Try.ntmps34
  go_wp2_with fail
  have HQ := (Sq.new w X Y (.slice (some ⟨g, 0, none⟩) n n) 31).alloc (.cells #[.int .i8 0, .int .i8 0, .slice none 0 0] 31)
  have B := al (al (Below.refl w.heap.size w) (.cells #[.int .i8 X, .int .i8 Y, .slice (some ⟨g, 0, none⟩) n n] 31)) (.cells #[.int .i8 0, .int .i8 0, .slice none 0 0] 31)
  have H1 : Bx ((w.alloc (.cells #[.int .i8 X, .int .i8 Y, .slice (some ⟨g, 0, none⟩) n n] 31)).alloc (.cells #[.int .i8 0, .int .i8 0, .slice none 0 0] 31)) (w.heap.size + 1) #[.int .i8 0, .int .i8 0, .slice none 0 0] 31 := Bx.newAt _ _ _ _ (by simp)
  obtain ⟨W0, hW0⟩ : ∃ W0 : World, W0 = ((w.alloc (.cells #[.int .i8 X, .int .i8 Y, .slice (some ⟨g, 0, none⟩) n n] 31)).alloc (.cells #[.int .i8 0, .int .i8 0, .slice none 0 0] 31)) := ⟨_, rfl⟩
  rw [← hW0] at HQ B H1 ⊢
  clear hW0
  refine (implValid_any X Y g n c _ hX hY hc hm (hrow.of_block (B.block _ hrow.lt))).mono ?_
  rintro e w2 ⟨hb, ⟨h, he⟩ | ⟨h, he⟩⟩
  case inr => exact absurd hv h
  subst he
  clear h
  replace HQ := HQ.below hb
  replace H1 := H1.below hb
  replace B := nxt B hb
  clear hb
  go_wp2_with fail
  refine (side_yes k0 _ hk0.1 hk0.2).mono ?_
  rintro e w3 ⟨rfl, rfl⟩
  go_wp2_with fail
  refine (side_no k1 _ hk).mono ?_
  rintro e w3 ⟨rfl, rfl⟩
  obtain ⟨p1, q1, r1⟩ := H1.cells3
  have f10 := H1.frozen 0
  have f11 := H1.frozen 1
  have f12 := H1.frozen 2
  go_wp2_with fail
  have F1 := H1.set3 (.int .i8 0) (.int .i8 0) (.slice none 0 0)
  have B3 := below_set3 (g := w.heap.size + 1) (v0 := .int .i8 0) (v1 := .int .i8 0) (v2 := .slice none 0 0) B (by omega)
  obtain ⟨x1, y1, z1⟩ := F1.cells3
  exact bodyPost_ret (v := .tuple #[.agg #[.int .i8 0, .int .i8 0, .slice none 0 0], .int .i64 0, .int .i64 2]) (by simp [results, Try.results34, go_sem, x1, y1, z1]) rfl ⟨B3, _, rfl, has_nil _ _⟩
theorem runS_fit {W H wd ht : Nat} (hW : W ≤ 12) (hH : H ≤ 12) (hwd : 1 ≤ wd) (hht : 1 ≤ ht) : ∀ t (D : List S4), Fit4 W H D → Fit4 W H (runS W H wd ht t D)
  | 0, D, h => h
  | t + 1, D, h => by
    cases e : nextS W H wd ht D with
    | none => rw [runS_none e]; exact h
    | some s => rw [runS_some e]; exact runS_fit hW hH hwd hht t _ (nextS_fit hW hH hwd hht h e).1
theorem both (X Y : Int) (n : Nat) (c : Nat → Int) (k0 k1 : Int) (hX : -128 ≤ X ∧ X ≤ 127) (hY : -128 ≤ Y ∧ Y ≤ 127) (hc : ∀ j, -128 ≤ c j ∧ c j ≤ 127) (hm : n ≤ 1048576) (bk0 : (Lit.int .i64 k0).wf = true) (bk1 : (Lit.int .i64 k1).wf = true) :
    ∃ (rX rY z1 z2 : Int) (nn : Nat) (ff : Nat → Int), nn ≤ 1000 ∧
      (∀ (W : World) (G0 : Nat), Ab W G0 n c → Calls Try.prog 33 #[.agg #[.int .i8 X, .int .i8 Y, .slice (some ⟨G0, 0, none⟩) n n], .int .i64 k0, .int .i64 k1] W fun e w' => Below W.heap.size W w' ∧ ∃ v, e = .returned (.tuple #[.agg #[.int .i8 rX, .int .i8 rY, v], .int .i64 z1, .int .i64 z2]) ∧ HasSlice .i8 4 w' W.heap.size v nn ff) ∧
      (∀ (W : World) (G0 : Nat), Ab W G0 n c → Calls Try.prog 34 #[.agg #[.int .i8 X, .int .i8 Y, .slice (some ⟨G0, 0, none⟩) n n], .int .i64 k0, .int .i64 k1] W fun e w' => Below W.heap.size W w' ∧ ∃ v, e = .returned (.tuple #[.agg #[.int .i8 rX, .int .i8 rY, v], .int .i64 z1, .int .i64 z2]) ∧ HasSlice .i8 4 w' W.heap.size v nn ff) := by
  have bad : ∀ code, (∀ (W : World) (G0 : Nat), Ab W G0 n c → Calls Try.prog 33 #[.agg #[.int .i8 X, .int .i8 Y, .slice (some ⟨G0, 0, none⟩) n n], .int .i64 k0, .int .i64 k1] W (FbPost code W)) → (∀ (W : World) (G0 : Nat), Ab W G0 n c → Calls Try.prog 34 #[.agg #[.int .i8 X, .int .i8 Y, .slice (some ⟨G0, 0, none⟩) n n], .int .i64 k0, .int .i64 k1] W (FbPost code W)) → ∃ (rX rY z1 z2 : Int) (nn : Nat) (ff : Nat → Int), nn ≤ 1000 ∧
      (∀ (W : World) (G0 : Nat), Ab W G0 n c → Calls Try.prog 33 #[.agg #[.int .i8 X, .int .i8 Y, .slice (some ⟨G0, 0, none⟩) n n], .int .i64 k0, .int .i64 k1] W fun e w' => Below W.heap.size W w' ∧ ∃ v, e = .returned (.tuple #[.agg #[.int .i8 rX, .int .i8 rY, v], .int .i64 z1, .int .i64 z2]) ∧ HasSlice .i8 4 w' W.heap.size v nn ff) ∧
      (∀ (W : World) (G0 : Nat), Ab W G0 n c → Calls Try.prog 34 #[.agg #[.int .i8 X, .int .i8 Y, .slice (some ⟨G0, 0, none⟩) n n], .int .i64 k0, .int .i64 k1] W fun e w' => Below W.heap.size W w' ∧ ∃ v, e = .returned (.tuple #[.agg #[.int .i8 rX, .int .i8 rY, v], .int .i64 z1, .int .i64 z2]) ∧ HasSlice .i8 4 w' W.heap.size v nn ff) :=
    fun code h1 h2 => ⟨0, 0, 0, code, 0, fL [], by omega, fun W G0 hA => (h1 W G0 hA).mono fun _ _ h => h, fun W G0 hA => (h2 W G0 hA).mono fun _ _ h => h⟩
  by_cases hv : Valid X Y n c
  · by_cases h0 : 1 ≤ k0 ∧ k0 ≤ 12
    · by_cases h1 : 1 ≤ k1 ∧ k1 ≤ 12
      · obtain ⟨W', rfl⟩ := Int.eq_ofNat_of_zero_le (show 0 ≤ X by have := hv.1; omega)
        obtain ⟨H', rfl⟩ := Int.eq_ofNat_of_zero_le (show 0 ≤ Y by have := hv.2.2.1; omega)
        obtain ⟨wd, rfl⟩ := Int.eq_ofNat_of_zero_le (show 0 ≤ k0 by omega)
        obtain ⟨ht, rfl⟩ := Int.eq_ofNat_of_zero_le (show 0 ≤ k1 by omega)
        have hW : W' ≤ 12 := by have := hv.2.1; omega
        have hH : H' ≤ 12 := by have := hv.2.2.2.1; omega
        obtain ⟨R, hR⟩ : ∃ R, R = runS W' H' wd ht (60 - n) (toL c n) := ⟨_, rfl⟩
        have hfit : Fit4 W' H' R := by rw [hR]; exact runS_fit hW hH (by omega) (by omega) _ _ (Fit4.of_valid hv)
        have hlen : R.length ≤ 60 := by
          have := runS_len W' H' wd ht (60 - n) (toL c n)
          rw [← hR, toL_length] at this
          have := hv.2.2.2.2.1
          omega
        obtain ⟨L, hL⟩ := exists_sorted R
        have key : ∀ (W : World) (e : Ending) (w' : World), FwPost W' H' n R W e w' → Below W.heap.size W w' ∧ ∃ v, e = .returned (.tuple #[.agg #[.int .i8 (W' : Int), .int .i8 (H' : Int), v], .int .i64 ((R.length : Int) - n), .int .i64 0]) ∧ HasSlice .i8 4 w' W.heap.size v R.length (fL L) := by
          rintro W e w' ⟨hb, v, L', he, hs, hS⟩
          obtain rfl := hs.unique hL (hfit.apart (by omega) (by omega))
          exact ⟨hb, v, he, hS⟩
        refine ⟨(W' : Int), (H' : Int), (R.length : Int) - n, 0, R.length, fL L, by omega, fun W G0 hA => ?_, fun W G0 hA => ?_⟩
        · have h := spec_in W' H' G0 n wd ht c W (by omega) (by omega) hc hm hA.row hv
          rw [← hR] at h
          exact h.mono (key W)
        · have h := impl_in W' H' G0 n wd ht c W (by omega) (by omega) hc hm hA.row hv
          rw [← hR] at h
          exact h.mono (key W)
      · exact bad 2 (fun W g hA => specB X Y g n c k0 k1 W hX hY hc hm hA.row h0 h1 2 rfl (fun W' bq hq R' => told_ok X Y bq g n c false W' hX hY hc hm hq R' hv)) (fun W g hA => implC X Y g n c k0 k1 W hX hY hc hm hA.row hv h0 h1)
    · exact bad 2 (fun W g hA => specA X Y g n c k0 k1 W hX hY hc hm hA.row h0 2 rfl (fun W' bq hq R' => told_ok X Y bq g n c false W' hX hY hc hm hq R' hv)) (fun W g hA => implB X Y g n c k0 k1 W hX hY hc hm hA.row hv h0)
  · refine bad 1 (fun W g hA => ?_) (fun W g hA => implA X Y g n c k0 k1 W hX hY hc hm hA.row hv)
    by_cases h0 : 1 ≤ k0 ∧ k0 ≤ 12
    · by_cases h1 : 1 ≤ k1 ∧ k1 ≤ 12
      · exact specC X Y g n c k0 k1 W hX hY hc hm hA.row h0 h1 1 rfl (fun W' bq hq R' => told_bad X Y bq g n c true W' hX hY hc hm hq R' hv)
      · exact specB X Y g n c k0 k1 W hX hY hc hm hA.row h0 h1 1 rfl (fun W' bq hq R' => told_bad X Y bq g n c false W' hX hY hc hm hq R' hv)
    · exact specA X Y g n c k0 k1 W hX hY hc hm hA.row h0 1 rfl (fun W' bq hq R' => told_bad X Y bq g n c false W' hX hY hc hm hq R' hv)
end fillWith
end Go.Proofs.Ytkdakpbkpfigeaa
