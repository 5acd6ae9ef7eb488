/-
  Both sides of CanLay answer the same. Conditions stand at each.
-/
import Derived.Test.YtkggimalkjjnoaaRows
import Derived.Test.YtkggimalkjjnoaaCanLayS
namespace Go.Proofs.Ytkggimalkjjnoaa
open Go Go.ChangeShapes Go.WideShapes Go.ChangeAt Go.RowKit canPut
set_option linter.unusedVariables false
set_option linter.unusedSimpArgs false
set_option maxRecDepth 100000
set_option maxHeartbeats 4000000
theorem l05Can_out (X Y : Int) (bq g n : Nat) (c : Nat → Int) (a0 a1 a2 a3 : Int) (w : World) (hX : -128 ≤ X ∧ X ≤ 127) (hY : -128 ≤ Y ∧ Y ≤ 127) (b0 : -128 ≤ a0 ∧ a0 ≤ 127) (b1 : -128 ≤ a1 ∧ a1 ≤ 127) (b2 : -128 ≤ a2 ∧ a2 ≤ 127) (b3 : -128 ≤ a3 ∧ a3 ≤ 127)
    (hq : Sq w bq X Y (.slice (some ⟨g, 0, none⟩) n n)) (hl : ¬ (0 ≤ a0 ∧ 0 ≤ a1 ∧ 1 ≤ a2 ∧ 1 ≤ a3 ∧ a0 + a2 ≤ X ∧ a1 + a3 ≤ Y)) :
    Calls Try.prog 112 #[.pointer (some ⟨bq, 0, none⟩), .agg #[.int .i8 a0, .int .i8 a1, .int .i8 a2, .int .i8 a3]] w fun e w' => e = .returned (.bool false) ∧ Below w.heap.size w w' := by
  have H3 := Sl.new w a0 a1 a2 a3 55
  have B := al (Below.refl w.heap.size w) (.cells #[.int .i8 a0, .int .i8 a1, .int .i8 a2, .int .i8 a3] 55)
  have hq' := hq.alloc (.cells #[.int .i8 a0, .int .i8 a1, .int .i8 a2, .int .i8 a3] 55)
  go_enter Try.func112, Try.ntmps112
  go_upto_region 1 with fail
  obtain ⟨W0, hW0⟩ : ∃ W0 : World, W0 = (w.alloc (.cells #[.int .i8 a0, .int .i8 a1, .int .i8 a2, .int .i8 a3] 55)) := ⟨_, rfl⟩
  rw [← hW0] at hq' H3 B ⊢
  clear hW0
  obtain ⟨l3, p3, q3, r3, s3⟩ := id H3
  go_wp2_with fail
  refine (can_out X Y bq g n c a0 a1 a2 a3 _ hX hY b0 b1 b2 b3 hq' hl).mono ?_
  rintro e w1 ⟨hb, rfl⟩
  replace B := nxt B hb
  clear l3 p3 q3 r3 s3 hb
  go_wp2
  go_ret
  exact ⟨rfl, B⟩
/-- spec.l05Can, at any slab. -/
theorem l05Can_any (X Y : Int) (bq g n : Nat) (c : Nat → Int) (a0 a1 a2 a3 : Int) (r : Bool) (w : World) (hX : -128 ≤ X ∧ X ≤ 127) (hY : -128 ≤ Y ∧ Y ≤ 127) (hc : ∀ j, -128 ≤ c j ∧ c j ≤ 127) (hm : n ≤ 1048576) (b0 : -128 ≤ a0 ∧ a0 ≤ 127) (b1 : -128 ≤ a1 ∧ a1 ≤ 127) (b2 : -128 ≤ a2 ∧ a2 ≤ 127) (b3 : -128 ≤ a3 ∧ a3 ≤ 127)
    (hq : Sq w bq X Y (.slice (some ⟨g, 0, none⟩) n n)) (hrow : w.rowIs g 55 (4 * n) (fun j => .int .i8 (c j))) (hv : Valid X Y n c) (hr : r = true ↔ Layable X Y (gridN c n) a0 a1 a2 a3) :
    Calls Try.prog 112 #[.pointer (some ⟨bq, 0, none⟩), .agg #[.int .i8 a0, .int .i8 a1, .int .i8 a2, .int .i8 a3]] w fun e w' => e = .returned (.bool r) ∧ Below w.heap.size w w' := by
  by_cases hl : 0 ≤ a0 ∧ 0 ≤ a1 ∧ 1 ≤ a2 ∧ 1 ≤ a3 ∧ a0 + a2 ≤ X ∧ a1 + a3 ≤ Y
  · obtain ⟨x0, rfl⟩ := Int.eq_ofNat_of_zero_le hl.1
    obtain ⟨y0, rfl⟩ := Int.eq_ofNat_of_zero_le hl.2.1
    obtain ⟨wd, rfl⟩ := Int.eq_ofNat_of_zero_le (show 0 ≤ a2 by omega)
    obtain ⟨ht, rfl⟩ := Int.eq_ofNat_of_zero_le (show 0 ≤ a3 by omega)
    have hx : x0 + wd ≤ 12 := by have := hv.2.1; omega
    have hy : y0 + ht ≤ 12 := by have := hv.2.2.2.1; omega
    exact l05Can_in X Y bq g n x0 y0 wd ht c r w hX hY hc hm hq hrow hv hx hy hl hr
  · have hf : r = false := by
      cases r with
      | false => rfl
      | true =>
        obtain ⟨x0, y0, wd, ht, rfl, rfl, rfl, rfl, h1, h2, h3, h4, _⟩ := hr.1 rfl
        exact absurd ⟨by omega, by omega, by omega, by omega, h3, h4⟩ hl
    subst hf
    exact l05Can_out X Y bq g n c a0 a1 a2 a3 w hX hY b0 b1 b2 b3 hq hl
namespace canLay
theorem spec_bad (X Y : Int) (g n : Nat) (c : Nat → Int) (a0 a1 a2 a3 : Int) (w : World) (hX : -128 ≤ X ∧ X ≤ 127) (hY : -128 ≤ Y ∧ Y ≤ 127) (hc : ∀ j, -128 ≤ c j ∧ c j ≤ 127) (hm : n ≤ 1048576) (hrow : w.rowIs g 55 (4 * n) (fun j => .int .i8 (c j))) (hv : ¬ Valid X Y n c) :
    Calls Try.prog 45 #[.agg #[.int .i8 X, .int .i8 Y, .slice (some ⟨g, 0, none⟩) n n], .agg #[.int .i8 a0, .int .i8 a1, .int .i8 a2, .int .i8 a3]] w fun e w' => e = .returned (.tuple #[.bool false, .int .i64 1]) ∧ Below w.heap.size w w' := by
  go_enter Try.func45, Try.ntmps45
  go_wp2_with fail
  have HQ := (Sq.new w X Y (.slice (some ⟨g, 0, none⟩) n n) 34).alloc (.cells #[.int .i8 a0, .int .i8 a1, .int .i8 a2, .int .i8 a3] 55)
  have B := al (al (Below.refl w.heap.size w) (.cells #[.int .i8 X, .int .i8 Y, .slice (some ⟨g, 0, none⟩) n n] 34)) (.cells #[.int .i8 a0, .int .i8 a1, .int .i8 a2, .int .i8 a3] 55)
  refine (ok_any X Y w.heap.size g n c _ hX hY hc hm HQ (hrow.of_block (B.block _ hrow.lt))).mono ?_
  rintro e w1 ⟨hb, ⟨h, _⟩ | ⟨_, rfl⟩⟩
  · exact absurd h hv
  replace B := nxt B hb
  clear hb
  go_wp2_with fail
  exact bodyPost_ret (results_tmp2 Try.results45 _ _ _) rfl ⟨rfl, B⟩
theorem spec_in (X Y : Int) (g n : Nat) (c : Nat → Int) (a0 a1 a2 a3 : Int) (r : Bool) (w : World) (hX : -128 ≤ X ∧ X ≤ 127) (hY : -128 ≤ Y ∧ Y ≤ 127) (hc : ∀ j, -128 ≤ c j ∧ c j ≤ 127) (hm : n ≤ 1048576) (hrow : w.rowIs g 55 (4 * n) (fun j => .int .i8 (c j))) (hv : Valid X Y n c)
    (hcan : ∀ (W : World) (bq : Nat), Sq W bq X Y (.slice (some ⟨g, 0, none⟩) n n) → W.rowIs g 55 (4 * n) (fun j => .int .i8 (c j)) →
      Calls Try.prog 112 #[.pointer (some ⟨bq, 0, none⟩), .agg #[.int .i8 a0, .int .i8 a1, .int .i8 a2, .int .i8 a3]] W fun e w' => Below W.heap.size W w' ∧ e = .returned (.bool r)) :
    Calls Try.prog 45 #[.agg #[.int .i8 X, .int .i8 Y, .slice (some ⟨g, 0, none⟩) n n], .agg #[.int .i8 a0, .int .i8 a1, .int .i8 a2, .int .i8 a3]] w fun e w' => e = .returned (.tuple #[.bool r, .int .i64 0]) ∧ Below w.heap.size w w' := by
  have HCAN := Lib.hid hcan
  clear hcan
  go_enter Try.func45, Try.ntmps45
  go_wp2_with fail
  have HQ := (Sq.new w X Y (.slice (some ⟨g, 0, none⟩) n n) 34).alloc (.cells #[.int .i8 a0, .int .i8 a1, .int .i8 a2, .int .i8 a3] 55)
  have B := al (al (Below.refl w.heap.size w) (.cells #[.int .i8 X, .int .i8 Y, .slice (some ⟨g, 0, none⟩) n n] 34)) (.cells #[.int .i8 a0, .int .i8 a1, .int .i8 a2, .int .i8 a3] 55)
  have H3 : Sl ((w.alloc (.cells #[.int .i8 X, .int .i8 Y, .slice (some ⟨g, 0, none⟩) n n] 34)).alloc (.cells #[.int .i8 a0, .int .i8 a1, .int .i8 a2, .int .i8 a3] 55)) (w.heap.size + 1) a0 a1 a2 a3 := by
    have := Sl.new (w.alloc (.cells #[.int .i8 X, .int .i8 Y, .slice (some ⟨g, 0, none⟩) n n] 34)) a0 a1 a2 a3 55
    rwa [World.size_alloc] at this
  refine (ok_any X Y w.heap.size g n c _ hX hY hc hm HQ (hrow.of_block (B.block _ hrow.lt))).mono ?_
  rintro e w1 ⟨hb, ⟨_, rfl⟩ | ⟨h, _⟩⟩
  case inr => exact absurd hv h
  replace HQ := HQ.below hb
  replace H3 := H3.below hb
  replace B := nxt B hb
  clear hb
  obtain ⟨l3, p3, q3, r3, s3⟩ := id H3
  go_wp2_with fail
  refine (HCAN.out _ _ HQ (hrow.of_block (B.block _ hrow.lt))).mono ?_
  rintro e w2 ⟨hb, rfl⟩
  replace B := nxt B hb
  clear hb
  go_wp2_with fail
  exact bodyPost_ret (results_tmp2 Try.results45 _ _ _) rfl ⟨rfl, B⟩
theorem impl_bad (X Y : Int) (g n : Nat) (c : Nat → Int) (a0 a1 a2 a3 : Int) (w : World) (hX : -128 ≤ X ∧ X ≤ 127) (hY : -128 ≤ Y ∧ Y ≤ 127) (hc : ∀ j, -128 ≤ c j ∧ c j ≤ 127) (hm : n ≤ 1048576) (hrow : w.rowIs g 55 (4 * n) (fun j => .int .i8 (c j))) (hv : ¬ Valid X Y n c) :
    Calls Try.prog 47 #[.agg #[.int .i8 X, .int .i8 Y, .slice (some ⟨g, 0, none⟩) n n], .agg #[.int .i8 a0, .int .i8 a1, .int .i8 a2, .int .i8 a3]] w fun e w' => e = .returned (.tuple #[.bool false, .int .i64 1]) ∧ Below w.heap.size w w' := by
  go_enter Try.func47, Try.ntmps47
  go_wp2_with fail
  have B := al (al (Below.refl w.heap.size w) (.cells #[.int .i8 X, .int .i8 Y, .slice (some ⟨g, 0, none⟩) n n] 34)) (.cells #[.int .i8 a0, .int .i8 a1, .int .i8 a2, .int .i8 a3] 55)
  refine (implValid_any X Y g n c _ hX hY hc hm (hrow.of_block (B.block _ hrow.lt))).mono ?_
  rintro e w1 ⟨hb, ⟨h, _⟩ | ⟨_, rfl⟩⟩
  · exact absurd h hv
  replace B := nxt B hb
  clear hb
  go_wp2_with fail
  exact bodyPost_ret (results_tmp2 Try.results47 _ _ _) rfl ⟨rfl, B⟩
theorem impl_in (X Y : Int) (g n : Nat) (c : Nat → Int) (a0 a1 a2 a3 : Int) (r : Bool) (w : World) (hX : -128 ≤ X ∧ X ≤ 127) (hY : -128 ≤ Y ∧ Y ≤ 127) (hc : ∀ j, -128 ≤ c j ∧ c j ≤ 127) (hm : n ≤ 1048576) (hrow : w.rowIs g 55 (4 * n) (fun j => .int .i8 (c j))) (hv : Valid X Y n c)
    (b0 : -128 ≤ a0 ∧ a0 ≤ 127) (b1 : -128 ≤ a1 ∧ a1 ≤ 127) (b2 : -128 ≤ a2 ∧ a2 ≤ 127) (b3 : -128 ≤ a3 ∧ a3 ≤ 127) (hr : r = true ↔ Layable X Y (gridN c n) a0 a1 a2 a3) :
    Calls Try.prog 47 #[.agg #[.int .i8 X, .int .i8 Y, .slice (some ⟨g, 0, none⟩) n n], .agg #[.int .i8 a0, .int .i8 a1, .int .i8 a2, .int .i8 a3]] w fun e w' => e = .returned (.tuple #[.bool r, .int .i64 0]) ∧ Below w.heap.size w w' := by
  have HRR := Lib.hid hr
  clear hr
  go_enter Try.func47, Try.ntmps47
  go_wp2_with fail
  have HQ := (Sq.new w X Y (.slice (some ⟨g, 0, none⟩) n n) 34).alloc (.cells #[.int .i8 a0, .int .i8 a1, .int .i8 a2, .int .i8 a3] 55)
  have B := al (al (Below.refl w.heap.size w) (.cells #[.int .i8 X, .int .i8 Y, .slice (some ⟨g, 0, none⟩) n n] 34)) (.cells #[.int .i8 a0, .int .i8 a1, .int .i8 a2, .int .i8 a3] 55)
  have H3 : Sl ((w.alloc (.cells #[.int .i8 X, .int .i8 Y, .slice (some ⟨g, 0, none⟩) n n] 34)).alloc (.cells #[.int .i8 a0, .int .i8 a1, .int .i8 a2, .int .i8 a3] 55)) (w.heap.size + 1) a0 a1 a2 a3 := Sl.newAt _ _ _ _ _ _ _ (by simp)
  obtain ⟨W0, hW0⟩ : ∃ W0 : World, W0 = ((w.alloc (.cells #[.int .i8 X, .int .i8 Y, .slice (some ⟨g, 0, none⟩) n n] 34)).alloc (.cells #[.int .i8 a0, .int .i8 a1, .int .i8 a2, .int .i8 a3] 55)) := ⟨_, rfl⟩
  rw [← hW0] at HQ H3 B ⊢
  clear hW0
  refine (implValid_any X Y g n c _ hX hY hc hm (hrow.of_block (B.block _ hrow.lt))).mono ?_
  rintro e w1 ⟨hb, ⟨_, rfl⟩ | ⟨h, _⟩⟩
  case inr => exact absurd hv h
  replace HQ := HQ.below hb
  replace H3 := H3.below hb
  replace B := nxt B hb
  clear hb
  obtain ⟨lq, pq, qq, rq⟩ := id HQ
  obtain ⟨l3, p3, q3, r3, s3⟩ := id H3
  go_wp2_with fail
  refine (gridOf_any X Y g n c _ hc hv (hrow.of_block (B.block _ hrow.lt))).mono ?_
  rintro e w3 ⟨hb, cs, rfl, hsz, hone, hcell⟩
  replace HQ := HQ.below hb
  replace H3 := H3.below hb
  replace B := nxt B hb
  clear hb lq pq qq rq l3 p3 q3 r3 s3
  have hG : (w3.alloc (.cells Try.zeroCells129 129)).heap[w3.heap.size]? = some (.cells Try.zeroCells129 129 (0, 0)) := heap_alloc_new w3 _
  have B4 := below_setRow (al B (.cells Try.zeroCells129 129)) B.size cs
  have R4 : ((w3.alloc (.cells Try.zeroCells129 129)).setRow w3.heap.size cs).rowIs w3.heap.size 129 144 (fun p => .int .i8 (gridN c n p)) := ⟨cs, setRow_heap _ _ _ _ _ _ hG, hsz, fun p hp => by show cs[p]? = some (Value.int IntKind.i8 (gridN c n p)); rw [hcell p hp]⟩
  have H4 : Sl ((w3.alloc (.cells Try.zeroCells129 129)).setRow w3.heap.size cs) (w.heap.size + 1) a0 a1 a2 a3 := (H3.alloc _).of_block (by rw [setRow_size]; exact Nat.le_refl _) (setRow_other _ _ _ _ (by have := H3.1; omega))
  have HQ4 : Sq ((w3.alloc (.cells Try.zeroCells129 129)).setRow w3.heap.size cs) w.heap.size X Y (.slice (some ⟨g, 0, none⟩) n n) := (HQ.alloc _).of_block (by rw [setRow_size]; exact Nat.le_refl _) (setRow_other _ _ _ _ (by have := HQ.1; omega))
  obtain ⟨W4, hW4⟩ : ∃ W4 : World, W4 = ((w3.alloc (.cells Try.zeroCells129 129)).setRow w3.heap.size cs) := ⟨_, rfl⟩
  go_wp2_with (first
    | (refine wpList_store_row rfl 129 (.tmp 6) (.tmp 11) rfl w3.heap.size cs rfl rfl 129 Try.zeroCells129 (heap_alloc_new w3 _) (by rw [infoGrid, hsz]) (by rw [zi_size, hsz]) hone ?_
       rw [← hW4] at B4 H4 HQ4 R4 ⊢
       clear hW4 hG HQ H3 B hcell
       obtain ⟨lq, pq, qq, rq⟩ := id HQ4
       obtain ⟨l3, p3, q3, r3, s3⟩ := id H4))
  refine (canLay_any X Y _ w3.heap.size (fun p => gridN c n p) a0 a1 a2 a3 r _ ⟨by omega, by have := hv.2.1; omega⟩ ⟨by omega, by have := hv.2.2.2.1; omega⟩ b0 b1 b2 b3 R4 HRR.out).mono ?_
  rintro e w5 ⟨rfl, hb⟩
  replace B4 := nxt B4 hb
  clear hb lq pq qq rq l3 p3 q3 r3 s3
  go_wp2_with fail
  exact bodyPost_ret (results_tmp2 Try.results47 _ _ _) rfl ⟨rfl, B4⟩

theorem both (X Y : Int) (n : Nat) (c : Nat → Int) (a0 a1 a2 a3 : Int) (hX : -128 ≤ X ∧ X ≤ 127) (hY : -128 ≤ Y ∧ Y ≤ 127) (hc : ∀ j, -128 ≤ c j ∧ c j ≤ 127) (b0 : -128 ≤ a0 ∧ a0 ≤ 127) (b1 : -128 ≤ a1 ∧ a1 ≤ 127) (b2 : -128 ≤ a2 ∧ a2 ≤ 127) (b3 : -128 ≤ a3 ∧ a3 ≤ 127) (hm : n ≤ 1048576) :
    ∃ (r0 : Bool) (r1 : Int), (∀ (W : World) (g : Nat), W.rowIs g 55 (4 * n) (fun j => .int .i8 (c j)) → Calls Try.prog 45 #[.agg #[.int .i8 X, .int .i8 Y, .slice (some ⟨g, 0, none⟩) n n], .agg #[.int .i8 a0, .int .i8 a1, .int .i8 a2, .int .i8 a3]] W fun e w' => e = .returned (.tuple #[.bool r0, .int .i64 r1]) ∧ Below W.heap.size W w') ∧
      (∀ (W : World) (g : Nat), W.rowIs g 55 (4 * n) (fun j => .int .i8 (c j)) → Calls Try.prog 47 #[.agg #[.int .i8 X, .int .i8 Y, .slice (some ⟨g, 0, none⟩) n n], .agg #[.int .i8 a0, .int .i8 a1, .int .i8 a2, .int .i8 a3]] W fun e w' => e = .returned (.tuple #[.bool r0, .int .i64 r1]) ∧ Below W.heap.size W w') := by
  by_cases hv : Valid X Y n c
  · obtain ⟨r, hr⟩ : ∃ r : Bool, r = true ↔ Layable X Y (gridN c n) a0 a1 a2 a3 := by
      by_cases h : Layable X Y (gridN c n) a0 a1 a2 a3
      · exact ⟨true, by simp [h]⟩
      · exact ⟨false, by simp [h]⟩
    refine ⟨r, 0, fun W g R => spec_in X Y g n c a0 a1 a2 a3 r W hX hY hc hm R hv (fun W' bq hq R' => (l05Can_any X Y bq g n c a0 a1 a2 a3 r W' hX hY hc hm b0 b1 b2 b3 hq R' hv hr).mono fun e w' h => ⟨h.2, h.1⟩), fun W g R => impl_in X Y g n c a0 a1 a2 a3 r W hX hY hc hm R hv b0 b1 b2 b3 hr⟩
  · exact ⟨false, 1, fun W g R => spec_bad X Y g n c a0 a1 a2 a3 W hX hY hc hm R hv, fun W g R => impl_bad X Y g n c a0 a1 a2 a3 W hX hY hc hm R hv⟩
end canLay
end Go.Proofs.Ytkggimalkjjnoaa
