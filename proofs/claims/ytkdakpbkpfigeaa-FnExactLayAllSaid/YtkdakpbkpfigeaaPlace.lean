/-
  The first place of a slab: contracts of spec.l01Can at every cell, and of spec.l01Place. Conditions stand at each.
-/
import Derived.Test.YtkdakpbkpfigeaaRows
import Derived.Test.YtkdakpbkpfigeaaCan
import Derived.Test.YtkdakpbkpfigeaaCells
import Derived.BigRegion
namespace Go.Proofs.Ytkdakpbkpfigeaa
open Go Go.ChangeShapes Go.WideShapes Go.ChangeAt Go.RowKit canPut
set_option linter.unusedVariables false
set_option linter.unusedSimpArgs false
set_option maxRecDepth 100000
set_option maxHeartbeats 2000000

/-- can a slab be put at a cell? -/
def fits (W H n : Nat) (c : Nat → Int) (wd ht : Nat) (q : Nat × Nat) : Prop := q.1 + wd ≤ W ∧ q.2 + ht ≤ H ∧ opn (ext c n (q.1 : Int) q.2 wd ht) n

theorem canAt_any (W H bq g n x y wd ht : Nat) (c : Nat → Int) (w : World) (hx : x < 12) (hy : y < 12) (hwd : 1 ≤ wd ∧ wd ≤ 12) (hht : 1 ≤ ht ∧ ht ≤ 12) (hc : ∀ j, -128 ≤ c j ∧ c j ≤ 127) (hm : n ≤ 1048576)
    (hq : Sq w bq W H (.slice (some ⟨g, 0, none⟩) n n)) (hrow : w.rowIs g 110 (4 * n) (fun j => .int .i8 (c j))) (hv : Valid W H n c) :
    Calls Try.prog 140 #[.pointer (some ⟨bq, 0, none⟩), .agg #[.int .i8 (x : Int), .int .i8 (y : Int), .int .i8 (wd : Int), .int .i8 (ht : Int)]] w fun e w' => Below w.heap.size w w' ∧ ((fits W H n c wd ht (x, y) ∧ e = .returned (.bool true)) ∨ (¬ fits W H n c wd ht (x, y) ∧ e = .returned (.bool false))) := by
  have hW : W ≤ 12 := by have := hv.2.1; omega
  have hH : H ≤ 12 := by have := hv.2.2.2.1; omega
  by_cases hl : x + wd ≤ W ∧ y + ht ≤ H
  · refine (can_in W H bq g n x y wd ht c _ w (by omega) (by omega) hc hm hq hrow hv (ext0 c n (x : Int) y wd ht) (ext1 c n (x : Int) y wd ht) (ext2 c n (x : Int) y wd ht) (ext3 c n (x : Int) y wd ht) (gridN_ext c n (x : Int) y wd ht) (by omega) (by omega) (by omega)).mono ?_
    rintro e w1 ⟨hb, ⟨ho, rfl⟩ | ⟨ho, rfl⟩⟩
    · exact ⟨hb, .inl ⟨⟨hl.1, hl.2, ho⟩, rfl⟩⟩
    · exact ⟨hb, .inr ⟨fun h => ho h.2.2, rfl⟩⟩
  · refine (can_out W H bq g n c (x : Int) y wd ht w (by omega) (by omega) (by omega) (by omega) (by omega) (by omega) hq (by omega)).mono ?_
    rintro e w1 ⟨hb, rfl⟩
    exact ⟨hb, .inr ⟨fun h => hl ⟨h.1, h.2.1⟩, rfl⟩⟩

theorem infoSlab4 : (Try.prog.info? 110).map (·.size) = some 4 := by kernel_rfl
/-- what is told of the first place. -/
def PlaceRes (W H n : Nat) (c : Nat → Int) (wd ht : Nat) (v : Value) : Prop :=
  (∃ k, k < W * H ∧ fits W H n c wd ht (cl W k) ∧ (∀ j, j < k → ¬ fits W H n c wd ht (cl W j)) ∧ v = .tuple #[.agg #[.int .i8 ((cl W k).1 : Int), .int .i8 ((cl W k).2 : Int), .int .i8 (wd : Int), .int .i8 (ht : Int)], .bool true]) ∨
    ((∀ j, j < W * H → ¬ fits W H n c wd ht (cl W j)) ∧ v = .tuple #[.agg #[.int .i8 0, .int .i8 0, .int .i8 0, .int .i8 0], .bool false])
def PlacePost (W H n : Nat) (c : Nat → Int) (wd ht : Nat) (w : World) (e : Ending) (w' : World) : Prop :=
  Below w.heap.size w w' ∧ ∃ v, e = .returned v ∧ PlaceRes W H n c wd ht v

theorem place_any (W H bq g n wd ht : Nat) (c : Nat → Int) (w : World) (hwd : 1 ≤ wd ∧ wd ≤ 12) (hht : 1 ≤ ht ∧ ht ≤ 12) (hc : ∀ j, -128 ≤ c j ∧ c j ≤ 127) (hm : n ≤ 1048576)
    (hq : Sq w bq W H (.slice (some ⟨g, 0, none⟩) n n)) (hrow : w.rowIs g 110 (4 * n) (fun j => .int .i8 (c j))) (hv : Valid W H n c) :
    Calls Try.prog 80 #[.pointer (some ⟨bq, 0, none⟩), .int .i64 (wd : Int), .int .i64 (ht : Int)] w (PlacePost W H n c wd ht w) := by
  have hW0 : 1 ≤ W := by have := hv.1; omega
  have hW : W ≤ 12 := by have := hv.2.1; omega
  have hH : H ≤ 12 := by have := hv.2.2.2.1; omega
  have HC := Lib.hid hc
  clear hc
  go_enter Try.func80, Try.ntmps80
  go_wp2_with fail
  have H6 : (w.alloc (.cells #[.int .i8 0, .int .i8 0, .int .i8 0, .int .i8 0] 110)).heap[w.heap.size]? = some (.cells #[.int .i8 0, .int .i8 0, .int .i8 0, .int .i8 0] 110 (0, 0)) := heap_alloc_new w _
  have B := al (Below.refl w.heap.size w) (.cells #[.int .i8 0, .int .i8 0, .int .i8 0, .int .i8 0] 110)
  replace hq := hq.alloc (.cells #[.int .i8 0, .int .i8 0, .int .i8 0, .int .i8 0] 110)
  refine (all_any W H bq _ _ hW0 hW hH hq).mono ?_
  rintro e w5 ⟨hb, va, rfl, OA⟩
  obtain ⟨N, hN'⟩ : ∃ N, N = W * H := ⟨_, rfl⟩
  rw [← hN'] at OA
  have hN0 : 0 < N := by rw [hN']; exact Nat.mul_pos hW0 (by have := hv.2.2.1; omega)
  have hN144 : N ≤ 144 := by rw [hN']; exact mul12 hW hH
  obtain ⟨ga, cap, rfl, hga, hga2⟩ := own_some OA (by rw [allC_length]; exact hN0)
  rw [allC_length] at *
  have HN' := Lib.hid hN'
  clear hN'
  replace H6 := (hb.block _ (by simp)).trans H6
  replace hq := hq.below hb
  replace B := nxt B hb
  clear hb
  have HH6 := Lib.hid H6
  clear H6
  go_wp2_with fail
  obtain ⟨bA, hbA⟩ : ∃ bA, bA = (w.alloc (.cells #[.int .i8 0, .int .i8 0, .int .i8 0, .int .i8 0] 110)).heap.size := ⟨_, rfl⟩
  rw [← hbA] at OA hga
  clear hbA
  have hbq := hq.1
  go_loopw [9] (fun t9 wr => ∃ i : Nat, i ≤ N ∧ t9 = .int .i64 i ∧ Below w.heap.size w wr ∧ OwnC wr bA (.slice (some ⟨ga, 0, none⟩) N cap) (allC W N) ∧ Sq wr bq W H (.slice (some ⟨g, 0, none⟩) n n) ∧ wr.heap[w.heap.size]? = some (.cells #[.int .i8 0, .int .i8 0, .int .i8 0, .int .i8 0] 110 (0, 0)) ∧ ∀ j, j < i → ¬ fits W H n c wd ht (cl W j)) (fun t9 wr => N - (intOf t9).toNat)
  case atStart => exact ⟨0, by omega, rfl, B, OA, hq, HH6.out, fun j hj => absurd hj (by omega)⟩
  case round =>
    clear B OA hq HH6
    obtain ⟨i, hi, rfl, B, OA, hq, H6, hall⟩ := hrel
    have HALL := Lib.hid hall
    have hs6 : w.heap.size < wr.heap.size := (Array.getElem?_eq_some_iff.1 H6).1
    have HH6 := Lib.hid H6
    clear hall H6
    by_cases hlt : i < N
    · obtain ⟨x, y, hxy⟩ : ∃ x y, cl W i = (x, y) := ⟨_, _, rfl⟩
      have hb12 := cl_lt hW hH (show i < W * H by rw [← HN'.out]; exact hlt)
      rw [hxy] at hb12
      obtain ⟨hx, hy⟩ := hb12
      have hx12 : x < 12 := by dsimp only at hx; omega
      have hy12 : y < 12 := by dsimp only at hy; omega
      obtain ⟨c0, c1⟩ := OwnC.get OA (allC_length W N) (q := (x, y)) (by rw [allC_get W N i hlt, hxy])
      have HXY := Lib.hid hxy
      clear hxy hx hy
      have w1 : IntKind.i8.wrap (wd : Int) = (wd : Int) := IntWalk.i8_in _ (by omega)
      have w2 : IntKind.i8.wrap (ht : Int) = (ht : Int) := IntWalk.i8_in _ (by omega)
      have hsz := (World.ownsRow.lt OA ga rfl).2
      have a0 : (wr.alloc (.cells #[.int .i8 0, .int .i8 0, .int .i8 0, .int .i8 0] 110)).cell? ⟨ga, i * 2, none⟩ = some (.int .i8 (x : Int)) := by rw [World.cell?_alloc_past _ _ _ hsz]; exact c0
      have a1 : (wr.alloc (.cells #[.int .i8 0, .int .i8 0, .int .i8 0, .int .i8 0] 110)).cell? ⟨ga, i * 2 + 1, none⟩ = some (.int .i8 (y : Int)) := by rw [World.cell?_alloc_past _ _ _ hsz]; exact c1
      go_wp2
      go_region
      have H10 := Sl.new wr (x : Int) y wd ht 110
      replace B := al B (.cells #[.int .i8 (x : Int), .int .i8 (y : Int), .int .i8 (wd : Int), .int .i8 (ht : Int)] 110)
      replace OA := OwnC.alloc OA (.cells #[.int .i8 (x : Int), .int .i8 (y : Int), .int .i8 (wd : Int), .int .i8 (ht : Int)] 110)
      replace hq := hq.alloc (.cells #[.int .i8 (x : Int), .int .i8 (y : Int), .int .i8 (wd : Int), .int .i8 (ht : Int)] 110)
      have H6 := (Below.heap_alloc wr (.cells #[.int .i8 (x : Int), .int .i8 (y : Int), .int .i8 (wd : Int), .int .i8 (ht : Int)] 110) _ hs6).trans HH6.out
      obtain ⟨wq, hwq⟩ : ∃ wq, (wr.alloc (.cells #[.int .i8 (x : Int), .int .i8 (y : Int), .int .i8 (wd : Int), .int .i8 (ht : Int)] 110)).drew = wq := ⟨_, rfl⟩
      replace H10 : Sl wq wr.heap.size (x : Int) y wd ht := by rw [← hwq]; exact H10
      replace B : Below w.heap.size w wq := by rw [← hwq]; exact B.drew
      replace OA : OwnC wq bA (.slice (some ⟨ga, 0, none⟩) N cap) (allC W N) := by rw [← hwq]; exact OA
      replace hq : Sq wq bq W H (.slice (some ⟨g, 0, none⟩) n n) := by rw [← hwq]; exact hq
      replace H6 : wq.heap[w.heap.size]? = some (.cells #[.int .i8 0, .int .i8 0, .int .i8 0, .int .i8 0] 110 (0, 0)) := by rw [← hwq]; exact H6
      have hrow' := hrow.of_block (B.block _ hrow.lt)
      rw [hwq]
      replace HH6 := Lib.hid H6
      have hs6q := (Array.getElem?_eq_some_iff.1 H6).1
      clear H6 hwq a0 a1 c0 c1 hsz
      obtain ⟨l3, p3, q3, r3, s3⟩ := id H10
      go_wp2_with fail
      refine (canAt_any W H bq g n x y wd ht c _ hx12 hy12 hwd hht HC.out hm hq hrow' hv).mono ?_
      rintro e w7 ⟨hb, hcase⟩
      replace H10 := H10.below hb
      replace OA := OA.below hb
      replace hq := hq.below hb
      have H6 := (hb.block _ hs6q).trans HH6.out
      replace HH6 := Lib.hid H6
      replace B := nxt B hb
      clear H6 hb l3 p3 q3 r3 s3 hrow'
      obtain ⟨l3, p3, q3, r3, s3⟩ := id H10
      rcases hcase with ⟨hf, rfl⟩ | ⟨hf, rfl⟩
      · have HF := Lib.hid hf
        clear hf
        have e0 := cell_of_row w7 w.heap.size 0 _ _ _ HH6.out
        have f0 := frozen_of_row w7 w.heap.size 0 _ _ HH6.out
        have e1 := cell_of_row w7 w.heap.size 1 _ _ _ HH6.out
        have f1 := frozen_of_row w7 w.heap.size 1 _ _ HH6.out
        have e2 := cell_of_row w7 w.heap.size 2 _ _ _ HH6.out
        have f2 := frozen_of_row w7 w.heap.size 2 _ _ HH6.out
        have e3 := cell_of_row w7 w.heap.size 3 _ _ _ HH6.out
        have f3 := frozen_of_row w7 w.heap.size 3 _ _ HH6.out
        simp at e0 e1 e2 e3
        go_wp2
        refine bodyPost_ret (v := .tuple #[.agg #[.int .i8 (x : Int), .int .i8 (y : Int), .int .i8 (wd : Int), .int .i8 (ht : Int)], .bool true]) (by simp [results, Try.results80, go_sem, e0, e1, e2, e3]) rfl ⟨?_, _, rfl, .inl ⟨i, by rw [← HN'.out]; exact hlt, by rw [HXY.out]; exact HF.out, HALL.out, by rw [HXY.out]⟩⟩
        exact (((B.setCell (p := ⟨w.heap.size, 0, none⟩) (by simp) _).setCell (p := ⟨w.heap.size, 1, none⟩) (by simp) _).setCell (p := ⟨w.heap.size, 2, none⟩) (by simp) _).setCell (p := ⟨w.heap.size, 3, none⟩) (by simp) _
      · have HF := Lib.hid hf
        clear hf
        go_wp2
        refine ⟨⟨i + 1, by omega, by first | go_num | simp, B, OA, hq, HH6.out, ?_⟩, by simp [intOf]; omega⟩
        intro j hj
        by_cases e : j = i
        · subst e; rw [HXY.out]; exact HF.out
        · exact HALL.out j (by omega)
    · obtain rfl : i = N := by omega
      have e0 := cell_of_row wr w.heap.size 0 _ _ _ HH6.out
      have f0 := frozen_of_row wr w.heap.size 0 _ _ HH6.out
      have e1 := cell_of_row wr w.heap.size 1 _ _ _ HH6.out
      have f1 := frozen_of_row wr w.heap.size 1 _ _ HH6.out
      have e2 := cell_of_row wr w.heap.size 2 _ _ _ HH6.out
      have f2 := frozen_of_row wr w.heap.size 2 _ _ HH6.out
      have e3 := cell_of_row wr w.heap.size 3 _ _ _ HH6.out
      have f3 := frozen_of_row wr w.heap.size 3 _ _ HH6.out
      simp at e0 e1 e2 e3
      go_wp2
      refine bodyPost_ret (v := .tuple #[.agg #[.int .i8 0, .int .i8 0, .int .i8 0, .int .i8 0], .bool false]) (by simp [results, Try.results80, go_sem, e0, e1, e2, e3]) rfl ⟨?_, _, rfl, .inr ⟨by rw [← HN'.out]; exact HALL.out, rfl⟩⟩
      exact (((B.setCell (p := ⟨w.heap.size, 0, none⟩) (by simp) _).setCell (p := ⟨w.heap.size, 1, none⟩) (by simp) _).setCell (p := ⟨w.heap.size, 2, none⟩) (by simp) _).setCell (p := ⟨w.heap.size, 3, none⟩) (by simp) _
end Go.Proofs.Ytkdakpbkpfigeaa
