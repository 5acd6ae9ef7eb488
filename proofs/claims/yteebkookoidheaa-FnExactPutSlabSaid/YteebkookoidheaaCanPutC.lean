/-
  Both sides of CanPut answer the same. Conditions stand at each.
-/
import Derived.Test.YteebkookoidheaaRows
import Derived.Test.YteebkookoidheaaCan
import Derived.Test.YteebkookoidheaaLink
namespace Go.Proofs.Yteebkookoidheaa.canPut
open Go Go.ChangeShapes Go.WideShapes Go.ChangeAt Go.RowKit
set_option linter.unusedVariables false
set_option linter.unusedSimpArgs false
set_option maxRecDepth 100000
set_option maxHeartbeats 2000000

theorem impl_bad (X Y : Int) (g n : Nat) (c : Nat → Int) (a0 a1 a2 a3 : Int) (w : World) (hX : -128 ≤ X ∧ X ≤ 127) (hY : -128 ≤ Y ∧ Y ≤ 127) (hc : ∀ j, -128 ≤ c j ∧ c j ≤ 127) (hm : n ≤ 1048576) (hrow : w.rowIs g 31 (4 * n) (fun j => .int .i8 (c j))) (hv : ¬ Valid X Y n c) :
    Calls Try.prog 72 #[.agg #[.int .i8 X, .int .i8 Y, .slice (some ⟨g, 0, none⟩) n n], .agg #[.int .i8 a0, .int .i8 a1, .int .i8 a2, .int .i8 a3]] w fun e w' => e = .returned (.tuple #[.bool false, .int .i64 1]) ∧ Below w.heap.size w w' := by
  go_enter Try.func72, Try.ntmps72
  go_wp2_with fail
  have B := al (al (Below.refl w.heap.size w) (.cells #[.int .i8 X, .int .i8 Y, .slice (some ⟨g, 0, none⟩) n n] 29)) (.cells #[.int .i8 a0, .int .i8 a1, .int .i8 a2, .int .i8 a3] 31)
  refine (implValid_any X Y g n c _ hX hY hc hm (hrow.of_block (B.block _ hrow.lt))).mono ?_
  rintro e w1 ⟨hb, ⟨h, _⟩ | ⟨_, rfl⟩⟩
  · exact absurd h hv
  replace B := nxt B hb
  clear hb
  go_wp2_with fail
  exact bodyPost_ret (results_tmp2 Try.results72 _ _ _) rfl ⟨rfl, B⟩

theorem impl_out (X Y : Int) (g n : Nat) (c : Nat → Int) (a0 a1 a2 a3 : Int) (w : World) (hX : -128 ≤ X ∧ X ≤ 127) (hY : -128 ≤ Y ∧ Y ≤ 127) (hc : ∀ j, -128 ≤ c j ∧ c j ≤ 127) (hm : n ≤ 1048576) (hrow : w.rowIs g 31 (4 * n) (fun j => .int .i8 (c j))) (hv : Valid X Y n c)
    (b0 : -128 ≤ a0 ∧ a0 ≤ 127) (b1 : -128 ≤ a1 ∧ a1 ≤ 127) (b2 : -128 ≤ a2 ∧ a2 ≤ 127) (b3 : -128 ≤ a3 ∧ a3 ≤ 127) (hl : ¬ (0 ≤ a0 ∧ 0 ≤ a1 ∧ 1 ≤ a2 ∧ 1 ≤ a3 ∧ a0 + a2 ≤ X ∧ a1 + a3 ≤ Y)) :
    Calls Try.prog 72 #[.agg #[.int .i8 X, .int .i8 Y, .slice (some ⟨g, 0, none⟩) n n], .agg #[.int .i8 a0, .int .i8 a1, .int .i8 a2, .int .i8 a3]] w fun e w' => e = .returned (.tuple #[.bool false, .int .i64 0]) ∧ Below w.heap.size w w' := by
  go_enter Try.func72, Try.ntmps72
  go_wp2_with fail
  have HQ := (Sq.new w X Y (.slice (some ⟨g, 0, none⟩) n n) 29).alloc (.cells #[.int .i8 a0, .int .i8 a1, .int .i8 a2, .int .i8 a3] 31)
  have B := al (al (Below.refl w.heap.size w) (.cells #[.int .i8 X, .int .i8 Y, .slice (some ⟨g, 0, none⟩) n n] 29)) (.cells #[.int .i8 a0, .int .i8 a1, .int .i8 a2, .int .i8 a3] 31)
  have H3 : Sl ((w.alloc (.cells #[.int .i8 X, .int .i8 Y, .slice (some ⟨g, 0, none⟩) n n] 29)).alloc (.cells #[.int .i8 a0, .int .i8 a1, .int .i8 a2, .int .i8 a3] 31)) (w.heap.size + 1) a0 a1 a2 a3 := by
    have := Sl.new (w.alloc (.cells #[.int .i8 X, .int .i8 Y, .slice (some ⟨g, 0, none⟩) n n] 29)) a0 a1 a2 a3 31
    rwa [World.size_alloc] at this
  obtain ⟨W0, hW0⟩ : ∃ W0 : World, W0 = ((w.alloc (.cells #[.int .i8 X, .int .i8 Y, .slice (some ⟨g, 0, none⟩) n n] 29)).alloc (.cells #[.int .i8 a0, .int .i8 a1, .int .i8 a2, .int .i8 a3] 31)) := ⟨_, rfl⟩
  rw [← hW0] at HQ H3 B ⊢
  clear hW0
  refine (implValid_any X Y g n c _ hX hY hc hm (hrow.of_block (B.block _ hrow.lt))).mono ?_
  rintro e w1 ⟨hb, ⟨_, rfl⟩ | ⟨h, _⟩⟩
  case inr => exact absurd hv h
  replace HQ := HQ.below hb
  replace H3 := H3.below hb
  replace B := nxt B hb
  clear hb
  obtain ⟨lq, pq, qq, rq⟩ := id HQ
  obtain ⟨l3, p3, q3, r3, s3⟩ := id H3
  go_wp2_with fail
  refine (gridOf_any X Y g n c _ hc hv (hrow.of_block (B.block _ hrow.lt))).mono ?_
  rintro e w3 ⟨hb, cs, rfl, hsz, hone, hcell⟩
  replace HQ := HQ.below hb
  replace H3 := H3.below hb
  replace B := nxt B hb
  clear hb lq pq qq rq l3 p3 q3 r3 s3
  have hG : (w3.alloc (.cells Try.zeroCells100 100)).heap[w3.heap.size]? = some (.cells Try.zeroCells100 100 (0, 0)) := heap_alloc_new w3 _
  have B4 := below_setRow (al B (.cells Try.zeroCells100 100)) B.size cs
  have H4 : Sl ((w3.alloc (.cells Try.zeroCells100 100)).setRow w3.heap.size cs) (w.heap.size + 1) a0 a1 a2 a3 := (H3.alloc _).of_block (by rw [setRow_size]; exact Nat.le_refl _) (setRow_other _ _ _ _ (by have := H3.1; omega))
  have HQ4 : Sq ((w3.alloc (.cells Try.zeroCells100 100)).setRow w3.heap.size cs) w.heap.size X Y (.slice (some ⟨g, 0, none⟩) n n) := (HQ.alloc _).of_block (by rw [setRow_size]; exact Nat.le_refl _) (setRow_other _ _ _ _ (by have := HQ.1; omega))
  obtain ⟨W4, hW4⟩ : ∃ W4 : World, W4 = ((w3.alloc (.cells Try.zeroCells100 100)).setRow w3.heap.size cs) := ⟨_, rfl⟩
  go_wp2_with (first
    | (refine wpList_store_row rfl 100 (.tmp 6) (.tmp 11) rfl w3.heap.size cs rfl rfl 100 Try.zeroCells100 (heap_alloc_new w3 _) (by rw [infoGrid, hsz]) (by rw [zi_size, hsz]) hone ?_
       rw [← hW4] at B4 H4 HQ4 ⊢
       clear hW4 hG HQ H3 B hcell
       obtain ⟨lq, pq, qq, rq⟩ := id HQ4
       obtain ⟨l3, p3, q3, r3, s3⟩ := id H4))
  refine (lw_no X Y a0 a1 a2 a3 _ hX hY b0 b1 b2 b3 hl).mono ?_
  rintro e w5 ⟨rfl, hb⟩
  replace B4 := nxt B4 hb
  clear hb
  go_wp2_with fail
  exact bodyPost_ret (results_tmp2 Try.results72 _ _ _) rfl ⟨rfl, B4⟩

theorem impl_in (X Y : Int) (g n x0 y0 wd ht : Nat) (c cx : Nat → Int) (w : World) (hX : -128 ≤ X ∧ X ≤ 127) (hY : -128 ≤ Y ∧ Y ≤ 127) (hc : ∀ j, -128 ≤ c j ∧ c j ≤ 127) (hm : n ≤ 1048576) (hrow : w.rowIs g 31 (4 * n) (fun j => .int .i8 (c j))) (hv : Valid X Y n c)
    (e0 : cx (4 * n) = x0) (e1 : cx (4 * n + 1) = y0) (e2 : cx (4 * n + 2) = wd) (e3 : cx (4 * n + 3) = ht) (hcx : ∀ p, gridN cx n p = gridN c n p) (hx : x0 + wd ≤ 12) (hy : y0 + ht ≤ 12)
    (hl : (0 : Int) ≤ x0 ∧ (0 : Int) ≤ y0 ∧ (1 : Int) ≤ wd ∧ (1 : Int) ≤ ht ∧ (x0 : Int) + wd ≤ X ∧ (y0 : Int) + ht ≤ Y) (r : Bool) (hr : r = true ↔ opn cx n) :
    Calls Try.prog 72 #[.agg #[.int .i8 X, .int .i8 Y, .slice (some ⟨g, 0, none⟩) n n], .agg #[.int .i8 (x0 : Int), .int .i8 (y0 : Int), .int .i8 (wd : Int), .int .i8 (ht : Int)]] w fun e w' => e = .returned (.tuple #[.bool r, .int .i64 0]) ∧ Below w.heap.size w w' := by
  go_enter Try.func72, Try.ntmps72
  go_wp2_with fail
  have HQ := (Sq.new w X Y (.slice (some ⟨g, 0, none⟩) n n) 29).alloc (.cells #[.int .i8 (x0 : Int), .int .i8 (y0 : Int), .int .i8 (wd : Int), .int .i8 (ht : Int)] 31)
  have B := al (al (Below.refl w.heap.size w) (.cells #[.int .i8 X, .int .i8 Y, .slice (some ⟨g, 0, none⟩) n n] 29)) (.cells #[.int .i8 (x0 : Int), .int .i8 (y0 : Int), .int .i8 (wd : Int), .int .i8 (ht : Int)] 31)
  have H3 : Sl ((w.alloc (.cells #[.int .i8 X, .int .i8 Y, .slice (some ⟨g, 0, none⟩) n n] 29)).alloc (.cells #[.int .i8 (x0 : Int), .int .i8 (y0 : Int), .int .i8 (wd : Int), .int .i8 (ht : Int)] 31)) (w.heap.size + 1) (x0 : Int) (y0 : Int) (wd : Int) (ht : Int) := by
    have := Sl.new (w.alloc (.cells #[.int .i8 X, .int .i8 Y, .slice (some ⟨g, 0, none⟩) n n] 29)) (x0 : Int) (y0 : Int) (wd : Int) (ht : Int) 31
    rwa [World.size_alloc] at this
  obtain ⟨W0, hW0⟩ : ∃ W0 : World, W0 = ((w.alloc (.cells #[.int .i8 X, .int .i8 Y, .slice (some ⟨g, 0, none⟩) n n] 29)).alloc (.cells #[.int .i8 (x0 : Int), .int .i8 (y0 : Int), .int .i8 (wd : Int), .int .i8 (ht : Int)] 31)) := ⟨_, rfl⟩
  rw [← hW0] at HQ H3 B ⊢
  clear hW0
  refine (implValid_any X Y g n c _ hX hY hc hm (hrow.of_block (B.block _ hrow.lt))).mono ?_
  rintro e w1 ⟨hb, ⟨_, rfl⟩ | ⟨h, _⟩⟩
  case inr => exact absurd hv h
  replace HQ := HQ.below hb
  replace H3 := H3.below hb
  replace B := nxt B hb
  clear hb
  obtain ⟨lq, pq, qq, rq⟩ := id HQ
  obtain ⟨l3, p3, q3, r3, s3⟩ := id H3
  go_wp2_with fail
  refine (gridOf_any X Y g n c _ hc hv (hrow.of_block (B.block _ hrow.lt))).mono ?_
  rintro e w3 ⟨hb, cs, rfl, hsz, hone, hcell⟩
  replace HQ := HQ.below hb
  replace H3 := H3.below hb
  replace B := nxt B hb
  clear hb lq pq qq rq l3 p3 q3 r3 s3
  have hG : (w3.alloc (.cells Try.zeroCells100 100)).heap[w3.heap.size]? = some (.cells Try.zeroCells100 100 (0, 0)) := heap_alloc_new w3 _
  have B4 := below_setRow (al B (.cells Try.zeroCells100 100)) B.size cs
  have R4 : ((w3.alloc (.cells Try.zeroCells100 100)).setRow w3.heap.size cs).rowIs w3.heap.size 100 144 (fun p => .int .i8 (gridN cx n p)) := ⟨cs, setRow_heap _ _ _ _ _ _ hG, hsz, fun p hp => by show cs[p]? = some (Value.int IntKind.i8 (gridN cx n p)); rw [hcell p hp, hcx]⟩
  have H4 : Sl ((w3.alloc (.cells Try.zeroCells100 100)).setRow w3.heap.size cs) (w.heap.size + 1) (x0 : Int) (y0 : Int) (wd : Int) (ht : Int) := (H3.alloc _).of_block (by rw [setRow_size]; exact Nat.le_refl _) (setRow_other _ _ _ _ (by have := H3.1; omega))
  have HQ4 : Sq ((w3.alloc (.cells Try.zeroCells100 100)).setRow w3.heap.size cs) w.heap.size X Y (.slice (some ⟨g, 0, none⟩) n n) := (HQ.alloc _).of_block (by rw [setRow_size]; exact Nat.le_refl _) (setRow_other _ _ _ _ (by have := HQ.1; omega))
  obtain ⟨W4, hW4⟩ : ∃ W4 : World, W4 = ((w3.alloc (.cells Try.zeroCells100 100)).setRow w3.heap.size cs) := ⟨_, rfl⟩
  go_wp2_with (first
    | (refine wpList_store_row rfl 100 (.tmp 6) (.tmp 11) rfl w3.heap.size cs rfl rfl 100 Try.zeroCells100 (heap_alloc_new w3 _) (by rw [infoGrid, hsz]) (by rw [zi_size, hsz]) hone ?_
       rw [← hW4] at B4 H4 HQ4 R4 ⊢
       clear hW4 hG HQ H3 B hcell
       obtain ⟨lq, pq, qq, rq⟩ := id HQ4
       obtain ⟨l3, p3, q3, r3, s3⟩ := id H4))
  refine (lw_yes X Y _ _ _ _ _ hX hY (by omega) (by omega) (by omega) (by omega) hl).mono ?_
  rintro e w5 ⟨rfl, hb⟩
  replace B4 := nxt B4 hb
  replace H4 := H4.below hb
  replace R4 := rowNext0 R4 hb
  clear hb lq pq qq rq l3 p3 q3 r3 s3
  obtain ⟨l3, p3, q3, r3, s3⟩ := id H4
  go_wp2_with fail
  refine (callsIn_wide.1 (isOpen_in 6 (by omega) w3.heap.size x0 y0 wd ht (fun p => gridN cx n p) _ hx hy R4)).mono ?_
  rintro e w6 ⟨hb, hcase⟩
  replace B4 := nxt B4 hb
  have HR : e = .returned (.bool r) := by
    rcases hcase with ⟨rfl, h⟩ | ⟨rfl, h⟩
    · rw [hr.2 (opn_yes e0 e1 e2 e3 hx hy h)]
    · rw [Bool.eq_false_iff.2 (fun h' => opn_no e0 e1 e2 e3 hx hy h (hr.1 h'))]
  subst HR
  clear hcase hb
  go_wp2_with fail
  exact bodyPost_ret (results_tmp2 Try.results72 _ _ _) rfl ⟨rfl, B4⟩

end Go.Proofs.Yteebkookoidheaa.canPut
