/-
  The contract of spec.l01Beside. Conditions stand at each.
-/
import Derived.Test.YtkdakpbkpfigeaaRows
import Derived.Test.YtkdakpbkpfigeaaBesideM
import Derived.Test.YtkdakpbkpfigeaaLiftSlabB
import Derived.Test.YtkdakpbkpfigeaaNums
namespace Go.Proofs.Ytkdakpbkpfigeaa
open Go Go.ChangeShapes Go.WideShapes Go.ChangeAt Go.RowKit
set_option linter.unusedVariables false
set_option linter.unusedSimpArgs false
set_option maxRecDepth 100000
set_option maxHeartbeats 8000000

theorem infoBoolE : (Try.prog.info? 4).map (fun i => (i.zero, i.size, i.bytes)) = some (some (.bool false), 1, 1) := by kernel_rfl
theorem make_bool (L M : Nat) (hM : M = L + 1) (hL : L ≤ 1000) (W : World) :
    (Instr.makeSlice 195 (.int .i64 ((L : Int) + 1)) (.int .i64 ((L : Int) + 1))).run Try.prog W = .ok (.slice (some ⟨W.heap.size, 0, none⟩) M M) (W.alloc (.cells (madeCells #[.bool false] M) 4)) := by
  obtain ⟨i0, hi, hz0, hz1, hz2⟩ := info_parts infoBoolE
  have h := run_make_rowN (P := Try.prog) 195 4 i0 _ Try.underlying195 hi hz0 .i64 .i64 M M (Nat.le_refl _) (by rw [hz2]; omega) (by omega) W
  rw [hz1, Nat.mul_one] at h
  rw [show ((L : Int) + 1) = (M : Int) by omega]
  exact h

theorem nbE_iff (G : Nat → Int) (v : Int) (x y : Nat) (o : Int) : nbE G v x y o ↔ ((0 < x ∧ G (y * 12 + x) = v ∧ o = G (y * 12 + (x - 1))) ∨ (0 < x ∧ G (y * 12 + (x - 1)) = v ∧ o = G (y * 12 + x)) ∨ (0 < y ∧ G (y * 12 + x) = v ∧ o = G ((y - 1) * 12 + x)) ∨ (0 < y ∧ G ((y - 1) * 12 + x) = v ∧ o = G (y * 12 + x))) := Iff.rfl
theorem rowSetO {w : World} {b b' : Nat} {t : TypeId} {n : Nat} {f : Nat → Value} (h : w.rowIs b t n f) (hne : b ≠ b') (i : Nat) (v : Value) : (w.setCell ⟨b', i, none⟩ v).rowIs b t n f := h.of_block (Below.heap_setCell w ⟨b', i, none⟩ v b hne)

theorem l01Beside_any (W H g n k bq : Nat) (c : Nat → Int) (w : World) (hc : ∀ j, -128 ≤ c j ∧ c j ≤ 127) (hm : n ≤ 1048576) (hq : Sq w bq W H (.slice (some ⟨g, 0, none⟩) n n)) (hrow : w.rowIs g 110 (4 * n) (fun j => .int .i8 (c j))) (hv : Valid W H n c) (hk : k < n) :
    Calls Try.prog 75 #[.pointer (some ⟨bq, 0, none⟩), .int .i64 (k : Int)] w fun e w' => Below w.heap.size w w' ∧ ∃ v, e = .returned v ∧ OwnI w' w.heap.size v (pickL (fun i => bS (mkS (gridN c n) W ((k : Int) + 1) H 0 ((i : Int) + 1)) && !(i == k)) n) := by
  have hn60 : n ≤ 60 := hv.2.2.2.2.1
  have hW0 : 1 ≤ W := by have := hv.1; omega
  have hW : W ≤ 12 := by have := hv.2.1; omega
  have hH : H ≤ 12 := by have := hv.2.2.2.1; omega
  have hWi : (W : Int) ≤ 12 := by omega
  have hHi : (H : Int) ≤ 12 := by omega
  have HC := Lib.hid hc
  clear hc
  obtain ⟨G, hG0⟩ : ∃ G : Nat → Int, G = gridN c n := ⟨_, rfl⟩
  have HGn := Lib.hid (fun p => grid_nonneg c n p)
  obtain ⟨M, hM⟩ : ∃ M, M = n + 1 := ⟨_, rfl⟩
  have hMi : (M : Int) = (n : Int) + 1 := by omega
  have hmk := make_bool n M hM (by omega)
  obtain ⟨v, hve⟩ : ∃ v : Int, (k : Int) + 1 = v := ⟨_, rfl⟩
  have hkM : (k : Int) + 1 < (M : Int) := by omega
  have HM := Lib.hid hM
  clear hM
  rw [← hG0, hve]
  obtain ⟨bf, hbf⟩ : ∃ bf : Nat → Bool, bf = fun i : Nat => bS (mkS G W v H 0 ((i : Int) + 1)) && !(i == k) := ⟨_, rfl⟩
  rw [← hbf]
  have HBF := Lib.hid hbf
  clear hbf
  go_enter Try.func75, Try.ntmps75
  go_wp2_with fail
  refine (lay_any W H bq g n c _ (by omega) (by omega) HC.out hm hq hrow).mono ?_
  rintro e w3 ⟨hb, cs, hsz, hone, hcase⟩
  rcases hcase with ⟨_, hcell, rfl⟩ | ⟨hn, _⟩
  case inr => exact absurd hv hn
  have hq3 := hq.below hb
  have hsz0 : w.heap.size ≤ w3.heap.size := hb.size
  have hG : (w3.alloc (.cells Try.zeroCells192 192)).heap[w3.heap.size]? = some (.cells Try.zeroCells192 192 (0, 0)) := heap_alloc_new w3 _
  have B4 := below_setRow (al hb (.cells Try.zeroCells192 192)) hb.size cs
  have HQ4 : Sq ((w3.alloc (.cells Try.zeroCells192 192)).setRow w3.heap.size cs) bq W H (.slice (some ⟨g, 0, none⟩) n n) := (hq3.alloc _).of_block (by rw [setRow_size]; exact Nat.le_refl _) (setRow_other _ _ _ _ (by have := hq3.1; omega))
  have R4 : ((w3.alloc (.cells Try.zeroCells192 192)).setRow w3.heap.size cs).rowIs w3.heap.size 192 144 (fun p => .int .i64 (G p)) := by rw [hG0]; exact ⟨cs, setRow_heap _ _ _ _ _ _ hG, hsz, hcell⟩
  obtain ⟨W4, hW4⟩ : ∃ W4 : World, W4 = ((w3.alloc (.cells Try.zeroCells192 192)).setRow w3.heap.size cs) := ⟨_, rfl⟩
  have HG0 := Lib.hid hG0
  have HVE := Lib.hid hve
  clear hG0 hve
  go_wp2_with (first
    | (refine wpList_store_row rfl 192 (.tmp 5) (.tmp 15) rfl w3.heap.size cs rfl rfl 192 Try.zeroCells192 (heap_alloc_new w3 _) (by rw [info93, hsz]) (by rw [zc_size, hsz]) hone ?_
       rw [← hW4] at B4 HQ4 R4 ⊢
       clear hW4 hG hb hcell hq3
       obtain ⟨lq, pq, qq, rq⟩ := id HQ4))
  have hsz4 : w3.heap.size < W4.heap.size := R4.lt
  have M4 := World.rowIs_made W4 (.bool false) M 4
  have R5 := R4.alloc (.cells (madeCells #[.bool false] M) 4)
  have HQ5 := HQ4.alloc (.cells (madeCells #[.bool false] M) 4)
  have B5 := al B4 (.cells (madeCells #[.bool false] M) 4)
  obtain ⟨b7, hb7⟩ : ∃ b7, b7 = W4.heap.size := ⟨_, rfl⟩
  obtain ⟨b5, hb5⟩ : ∃ b5, b5 = w3.heap.size := ⟨_, rfl⟩
  obtain ⟨W5, hW5⟩ : ∃ W5 : World, W5 = W4.alloc (.cells (madeCells #[.bool false] M) 4) := ⟨_, rfl⟩
  rw [← hb7] at M4 ⊢
  rw [← hb5] at R5 ⊢
  rw [← hW5] at M4 R5 HQ5 B5 ⊢
  have hne : b5 ≠ b7 := by omega
  have hw5 : w.heap.size ≤ b5 := by omega
  have hw7 : w.heap.size ≤ b7 := by omega
  have hbq : bq < w.heap.size := hq.1
  have M5 : W5.rowIs b7 4 M (fun p => .bool (bS (mkS G W v 0 0 (p : Int)))) := M4.congr fun p _ => by rw [bS_no (mkS_zero _ _ _ _)]
  clear hb7 hb5 hW5 M4 R4 HQ4 B4 lq pq qq rq hsz4 hsz0 HQ5
  go_loopw [8] (fun t8 wr => ∃ y : Nat, y ≤ H ∧ t8 = .int .i8 y ∧ Below w.heap.size w wr ∧ wr.rowIs b5 192 144 (fun p => .int .i64 (G p)) ∧ wr.rowIs b7 4 M (fun p => .bool (bS (mkS G W v y 0 (p : Int))))) (fun t8 wr => H - (intOf t8).toNat)
  case atStart => exact ⟨0, by omega, rfl, B5, R5, M5⟩
  case round =>
    clear B5 R5 M5
    obtain ⟨y, hy, rfl, B, R, MB⟩ := hrel
    have hq0 := hq.of_block B.size (B.block _ hq.1)
    obtain ⟨lq, pq, qq, rq⟩ := id hq0
    by_cases hyt : y < H
    · have HR := Lib.hid R
      have HMB := Lib.hid MB
      have HB := Lib.hid B
      clear R MB B
      go_wp2
      clear lq pq qq rq hq0
      go_loopw [9] (fun t9 wr => ∃ x : Nat, x ≤ W ∧ t9 = .int .i8 x ∧ Below w.heap.size w wr ∧ wr.rowIs b5 192 144 (fun p => .int .i64 (G p)) ∧ wr.rowIs b7 4 M (fun p => .bool (bS (mkS G W v y x (p : Int))))) (fun t9 wr => W - (intOf t9).toNat)
      case atStart => exact ⟨0, by omega, rfl, HB.out, HR.out, HMB.out⟩
      case round =>
        clear HB HR HMB
        obtain ⟨x, hx, rfl, B, R, MB⟩ := hrel
        have hq0 := hq.of_block B.size (B.block _ hq.1)
        obtain ⟨lq, pq, qq, rq⟩ := id hq0
        obtain ⟨wo, rfl⟩ : ∃ wo : World, wo = wr := ⟨_, rfl⟩
        by_cases hxt : x < W
        · have hyi : (y : Int) ≤ 11 := by omega
          have hxi : (x : Int) ≤ 11 := by omega
          have hyl : (y : Int) < 12 := by omega
          have hxl : (x : Int) < 12 := by omega
          have hcl : ∀ p, p < 144 → ∃ q : Nat, G p = (q : Int) ∧ q < M ∧ wo.cell? ⟨b5, p, none⟩ = some (.int .i64 (q : Int)) ∧ wo.frozen? ⟨b7, q, none⟩ = false ∧ (∃ z, wo.cell? ⟨b7, q, none⟩ = some z) := fun p hp => by
            have h := HGn.out p
            rw [← HG0.out] at h
            refine ⟨(G p).toNat, by omega, by have := HM.out; omega, ?_, MB.frozen _, _, MB.cell (by have := HM.out; omega)⟩
            have := R.cell hp
            rw [show (((G p).toNat : Nat) : Int) = G p by omega]
            exact this
          obtain ⟨k0, E0, hk0, c0, f0, z0, g0⟩ := hcl (y * 12 + x) (by omega)
          have hk0i : (k0 : Int) < (M : Int) := by omega
          have ev : (k : Int) + 1 = v := HVE.out
          have wv : IntKind.i64.wrap v = v := IntWalk.i64_in _ (by omega)
          have hX : (decide (0 < x) = false ∧ x = 0) ∨ ∃ m k1 : Nat, decide (0 < x) = true ∧ x = m + 1 ∧ (x : Int) - 1 = (m : Int) ∧ (m : Int) < 12 ∧ G (y * 12 + (x - 1)) = (k1 : Int) ∧ (k1 : Int) < (M : Int) ∧ k1 < M ∧ wo.cell? ⟨b5, y * 12 + m, none⟩ = some (.int .i64 (k1 : Int)) ∧ wo.frozen? ⟨b7, k1, none⟩ = false ∧ (∃ z, wo.cell? ⟨b7, k1, none⟩ = some z) ∧ ((((k1 : Int) == v) = true ∧ ((k1 : Int) = v) = True) ∨ (((k1 : Int) == v) = false ∧ ((k1 : Int) = v) = False)) := by
            by_cases h0 : x = 0
            · exact .inl ⟨by simp [h0], h0⟩
            · obtain ⟨k1, E1, hk1, c1, f1, g1⟩ := hcl (y * 12 + (x - 1)) (by omega)
              refine .inr ⟨x - 1, k1, by simp; omega, by omega, by omega, by omega, E1, by omega, hk1, c1, f1, g1, ?_⟩
              by_cases h : (k1 : Int) = v
              · exact .inl ⟨by simpa using h, eq_true h⟩
              · exact .inr ⟨by simpa using h, eq_false h⟩
          have hY : (decide (0 < y) = false ∧ y = 0) ∨ ∃ m k1 : Nat, decide (0 < y) = true ∧ y = m + 1 ∧ (y : Int) - 1 = (m : Int) ∧ (m : Int) < 12 ∧ G ((y - 1) * 12 + x) = (k1 : Int) ∧ (k1 : Int) < (M : Int) ∧ k1 < M ∧ wo.cell? ⟨b5, m * 12 + x, none⟩ = some (.int .i64 (k1 : Int)) ∧ wo.frozen? ⟨b7, k1, none⟩ = false ∧ (∃ z, wo.cell? ⟨b7, k1, none⟩ = some z) ∧ ((((k1 : Int) == v) = true ∧ ((k1 : Int) = v) = True) ∨ (((k1 : Int) == v) = false ∧ ((k1 : Int) = v) = False)) := by
            by_cases h0 : y = 0
            · exact .inl ⟨by simp [h0], h0⟩
            · obtain ⟨k1, E1, hk1, c1, f1, g1⟩ := hcl ((y - 1) * 12 + x) (by omega)
              refine .inr ⟨y - 1, k1, by simp; omega, by omega, by omega, by omega, E1, by omega, hk1, c1, f1, g1, ?_⟩
              by_cases h : (k1 : Int) = v
              · exact .inl ⟨by simpa using h, eq_true h⟩
              · exact .inr ⟨by simpa using h, eq_false h⟩
          have h0v : (((k0 : Int) == v) = true ∧ ((k0 : Int) = v) = True) ∨ (((k0 : Int) == v) = false ∧ ((k0 : Int) = v) = False) := by
            by_cases h : (k0 : Int) = v
            · exact .inl ⟨by simpa using h, eq_true h⟩
            · exact .inr ⟨by simpa using h, eq_false h⟩
          have HR := Lib.hid R
          have HMB := Lib.hid MB
          have HB := Lib.hid B
          have HE0 := Lib.hid E0
          clear R MB B hcl E0
          rcases hX with ⟨d1, x0⟩ | ⟨m, k1, d1, x0, ex, hm12, E1, hk1i, hk1, c1, f1, ⟨z1, g1⟩, hD1⟩ <;> rcases hY with ⟨d2, y0⟩ | ⟨l, k2, d2, y0, ey, hl12, E2, hk2i, hk2, c2, f2, ⟨z2, g2⟩, hD2⟩
          all_goals
            have HX0 := Lib.hid x0
            have HY0 := Lib.hid y0
            clear x0 y0
          · rcases h0v with ⟨D0, e0⟩ | ⟨D0, e0⟩
            all_goals
              have HE0' := Lib.hid e0
              clear e0
              go_wp2_with fail
              refine ⟨⟨x + 1, by omega, by first | go_num | simp, ?_, ?_, ?_⟩, by simp [intOf]; omega⟩
              · repeat (first | with_reducible exact HB.out | with_reducible refine Below.setCell ?_ hw7 _)
              · repeat (first | with_reducible exact HR.out | with_reducible refine rowSetO ?_ hne _ _)
              · first | with_reducible refine World.rowIs.congr HMB.out ?_ | with_reducible refine World.rowIs.congr (HMB.out.set _ _) ?_ | with_reducible refine World.rowIs.congr ((HMB.out.set _ _).set _ _) ?_ | with_reducible refine World.rowIs.congr (((HMB.out.set _ _).set _ _).set _ _) ?_ | with_reducible refine World.rowIs.congr ((((HMB.out.set _ _).set _ _).set _ _).set _ _) ?_
                intro j hj
                have px := eq_false (show ¬ 0 < x by have := HX0.out; omega)
                have py := eq_false (show ¬ 0 < y by have := HY0.out; omega)
                have hN := nbE_iff G v x y (j : Int)
                simp only [HE0.out, HE0'.out, px, py, true_and, false_and, or_false, false_or, Int.natCast_inj] at hN
                (try dsimp only)
                rw [bS_congr (mkS_step G W v y x (j : Int))]
                clear HR HMB HB HVE HM HG0 HGn HC HBF hmk hv px py
                by_cases hp : mkS G W v y x (j : Int)
                · rw [bS_yes hp, bS_yes (.inl hp)]
                  all_goals ((repeat' split) <;> rfl)
                · rw [bS_no hp]
                  (repeat' split) <;> first
                    | (rw [bS_yes (.inr (hN.2 (by first | assumption | (left; assumption) | (right; assumption) | (right; left; assumption) | (right; right; assumption) | (right; right; left; assumption) | (right; right; right; assumption))))])
                    | (rw [bS_no (fun h => h.elim hp (fun h => by
                        have h3 := hN.1 h
                        first | exact h3 | contradiction | (rcases h3 with e | e <;> contradiction) | (rcases h3 with e | e | e <;> contradiction) | (rcases h3 with e | e | e | e <;> contradiction)))]) | exact absurd (hN.2 (.inr (.inr (.inr ⟨by clear hN hq2 hp; omega, by clear hN hq2 hp; omega, by clear hN hq2 hp; omega⟩)))) hq2
          · have HE2 := Lib.hid E2
            clear E2
            obtain ⟨z3, g3⟩ : ∃ z, (wo.setCell ⟨b7, k2, none⟩ (.bool true)).cell? ⟨b7, k0, none⟩ = some z := ⟨_, (HMB.out.set k2 (.bool true)).cell hk0⟩
            have f3 : (wo.setCell ⟨b7, k2, none⟩ (.bool true)).frozen? ⟨b7, k0, none⟩ = false := (HMB.out.set k2 (.bool true)).frozen k0
            rcases h0v with ⟨D0, e0⟩ | ⟨D0, e0⟩ <;> rcases hD2 with ⟨D2, e2⟩ | ⟨D2, e2⟩
            all_goals
              have HE0' := Lib.hid e0
              have HE2' := Lib.hid e2
              clear e0 e2
              go_wp2_with fail
              refine ⟨⟨x + 1, by omega, by first | go_num | simp, ?_, ?_, ?_⟩, by simp [intOf]; omega⟩
              · repeat (first | with_reducible exact HB.out | with_reducible refine Below.setCell ?_ hw7 _)
              · repeat (first | with_reducible exact HR.out | with_reducible refine rowSetO ?_ hne _ _)
              · first | with_reducible refine World.rowIs.congr HMB.out ?_ | with_reducible refine World.rowIs.congr (HMB.out.set _ _) ?_ | with_reducible refine World.rowIs.congr ((HMB.out.set _ _).set _ _) ?_ | with_reducible refine World.rowIs.congr (((HMB.out.set _ _).set _ _).set _ _) ?_ | with_reducible refine World.rowIs.congr ((((HMB.out.set _ _).set _ _).set _ _).set _ _) ?_
                intro j hj
                have px := eq_false (show ¬ 0 < x by have := HX0.out; omega)
                have py := eq_true (show 0 < y by have := HY0.out; omega)
                have hN := nbE_iff G v x y (j : Int)
                simp only [HE0.out, HE2.out, HE0'.out, HE2'.out, px, py, true_and, false_and, or_false, false_or, Int.natCast_inj] at hN
                (try dsimp only)
                rw [bS_congr (mkS_step G W v y x (j : Int))]
                clear HR HMB HB HVE HM HG0 HGn HC HBF hmk hv px py
                by_cases hp : mkS G W v y x (j : Int)
                · rw [bS_yes hp, bS_yes (.inl hp)]
                  all_goals ((repeat' split) <;> rfl)
                · rw [bS_no hp]
                  (repeat' split) <;> first
                    | (rw [bS_yes (.inr (hN.2 (by first | assumption | (left; assumption) | (right; assumption) | (right; left; assumption) | (right; right; assumption) | (right; right; left; assumption) | (right; right; right; assumption))))])
                    | (rw [bS_no (fun h => h.elim hp (fun h => by
                        have h3 := hN.1 h
                        first | exact h3 | contradiction | (rcases h3 with e | e <;> contradiction) | (rcases h3 with e | e | e <;> contradiction) | (rcases h3 with e | e | e | e <;> contradiction)))]) | exact absurd (hN.2 (.inr (.inr (.inr ⟨by clear hN hq2 hp; omega, by clear hN hq2 hp; omega, by clear hN hq2 hp; omega⟩)))) hq2
          · have HE1 := Lib.hid E1
            clear E1
            obtain ⟨z4, g4⟩ : ∃ z, (wo.setCell ⟨b7, k1, none⟩ (.bool true)).cell? ⟨b7, k0, none⟩ = some z := ⟨_, (HMB.out.set k1 (.bool true)).cell hk0⟩
            have f4 : (wo.setCell ⟨b7, k1, none⟩ (.bool true)).frozen? ⟨b7, k0, none⟩ = false := (HMB.out.set k1 (.bool true)).frozen k0
            rcases h0v with ⟨D0, e0⟩ | ⟨D0, e0⟩ <;> rcases hD1 with ⟨D1, e1⟩ | ⟨D1, e1⟩
            all_goals
              have HE0' := Lib.hid e0
              have HE1' := Lib.hid e1
              clear e0 e1
              go_wp2_with fail
              refine ⟨⟨x + 1, by omega, by first | go_num | simp, ?_, ?_, ?_⟩, by simp [intOf]; omega⟩
              · repeat (first | with_reducible exact HB.out | with_reducible refine Below.setCell ?_ hw7 _)
              · repeat (first | with_reducible exact HR.out | with_reducible refine rowSetO ?_ hne _ _)
              · first | with_reducible refine World.rowIs.congr HMB.out ?_ | with_reducible refine World.rowIs.congr (HMB.out.set _ _) ?_ | with_reducible refine World.rowIs.congr ((HMB.out.set _ _).set _ _) ?_ | with_reducible refine World.rowIs.congr (((HMB.out.set _ _).set _ _).set _ _) ?_ | with_reducible refine World.rowIs.congr ((((HMB.out.set _ _).set _ _).set _ _).set _ _) ?_
                intro j hj
                have px := eq_true (show 0 < x by have := HX0.out; omega)
                have py := eq_false (show ¬ 0 < y by have := HY0.out; omega)
                have hN := nbE_iff G v x y (j : Int)
                simp only [HE0.out, HE1.out, HE0'.out, HE1'.out, px, py, true_and, false_and, or_false, false_or, Int.natCast_inj] at hN
                (try dsimp only)
                rw [bS_congr (mkS_step G W v y x (j : Int))]
                clear HR HMB HB HVE HM HG0 HGn HC HBF hmk hv px py
                by_cases hp : mkS G W v y x (j : Int)
                · rw [bS_yes hp, bS_yes (.inl hp)]
                  all_goals ((repeat' split) <;> rfl)
                · rw [bS_no hp]
                  (repeat' split) <;> first
                    | (rw [bS_yes (.inr (hN.2 (by first | assumption | (left; assumption) | (right; assumption) | (right; left; assumption) | (right; right; assumption) | (right; right; left; assumption) | (right; right; right; assumption))))])
                    | (rw [bS_no (fun h => h.elim hp (fun h => by
                        have h3 := hN.1 h
                        first | exact h3 | contradiction | (rcases h3 with e | e <;> contradiction) | (rcases h3 with e | e | e <;> contradiction) | (rcases h3 with e | e | e | e <;> contradiction)))]) | exact absurd (hN.2 (.inr (.inr (.inr ⟨by clear hN hq2 hp; omega, by clear hN hq2 hp; omega, by clear hN hq2 hp; omega⟩)))) hq2
          · have HE1 := Lib.hid E1
            have HE2 := Lib.hid E2
            clear E1 E2
            obtain ⟨z5, g5⟩ : ∃ z, (wo.setCell ⟨b7, k1, none⟩ (.bool true)).cell? ⟨b7, k0, none⟩ = some z := ⟨_, (HMB.out.set k1 (.bool true)).cell hk0⟩
            have f5 : (wo.setCell ⟨b7, k1, none⟩ (.bool true)).frozen? ⟨b7, k0, none⟩ = false := (HMB.out.set k1 (.bool true)).frozen k0
            obtain ⟨z6, g6⟩ : ∃ z, (wo.setCell ⟨b7, k1, none⟩ (.bool true)).cell? ⟨b7, k2, none⟩ = some z := ⟨_, (HMB.out.set k1 (.bool true)).cell hk2⟩
            have f6 : (wo.setCell ⟨b7, k1, none⟩ (.bool true)).frozen? ⟨b7, k2, none⟩ = false := (HMB.out.set k1 (.bool true)).frozen k2
            obtain ⟨z7, g7⟩ : ∃ z, ((wo.setCell ⟨b7, k1, none⟩ (.bool true)).setCell ⟨b7, k0, none⟩ (.bool true)).cell? ⟨b7, k2, none⟩ = some z := ⟨_, ((HMB.out.set k1 (.bool true)).set k0 (.bool true)).cell hk2⟩
            have f7 : ((wo.setCell ⟨b7, k1, none⟩ (.bool true)).setCell ⟨b7, k0, none⟩ (.bool true)).frozen? ⟨b7, k2, none⟩ = false := ((HMB.out.set k1 (.bool true)).set k0 (.bool true)).frozen k2
            obtain ⟨z8, g8⟩ : ∃ z, ((wo.setCell ⟨b7, k1, none⟩ (.bool true)).setCell ⟨b7, k2, none⟩ (.bool true)).cell? ⟨b7, k0, none⟩ = some z := ⟨_, ((HMB.out.set k1 (.bool true)).set k2 (.bool true)).cell hk0⟩
            have f8 : ((wo.setCell ⟨b7, k1, none⟩ (.bool true)).setCell ⟨b7, k2, none⟩ (.bool true)).frozen? ⟨b7, k0, none⟩ = false := ((HMB.out.set k1 (.bool true)).set k2 (.bool true)).frozen k0
            obtain ⟨z9, g9⟩ : ∃ z, (((wo.setCell ⟨b7, k1, none⟩ (.bool true)).setCell ⟨b7, k0, none⟩ (.bool true)).setCell ⟨b7, k2, none⟩ (.bool true)).cell? ⟨b7, k0, none⟩ = some z := ⟨_, (((HMB.out.set k1 (.bool true)).set k0 (.bool true)).set k2 (.bool true)).cell hk0⟩
            have f9 : (((wo.setCell ⟨b7, k1, none⟩ (.bool true)).setCell ⟨b7, k0, none⟩ (.bool true)).setCell ⟨b7, k2, none⟩ (.bool true)).frozen? ⟨b7, k0, none⟩ = false := (((HMB.out.set k1 (.bool true)).set k0 (.bool true)).set k2 (.bool true)).frozen k0
            obtain ⟨z10, g10⟩ : ∃ z, (wo.setCell ⟨b7, k0, none⟩ (.bool true)).cell? ⟨b7, k0, none⟩ = some z := ⟨_, (HMB.out.set k0 (.bool true)).cell hk0⟩
            have f10 : (wo.setCell ⟨b7, k0, none⟩ (.bool true)).frozen? ⟨b7, k0, none⟩ = false := (HMB.out.set k0 (.bool true)).frozen k0
            rcases h0v with ⟨D0, e0⟩ | ⟨D0, e0⟩ <;> rcases hD1 with ⟨D1, e1⟩ | ⟨D1, e1⟩ <;> rcases hD2 with ⟨D2, e2⟩ | ⟨D2, e2⟩
            all_goals
              have HE0' := Lib.hid e0
              have HE1' := Lib.hid e1
              have HE2' := Lib.hid e2
              clear e0 e1 e2
              go_wp2_with fail
              refine ⟨⟨x + 1, by omega, by first | go_num | simp, ?_, ?_, ?_⟩, by simp [intOf]; omega⟩
              · repeat (first | with_reducible exact HB.out | with_reducible refine Below.setCell ?_ hw7 _)
              · repeat (first | with_reducible exact HR.out | with_reducible refine rowSetO ?_ hne _ _)
              · first | with_reducible refine World.rowIs.congr HMB.out ?_ | with_reducible refine World.rowIs.congr (HMB.out.set _ _) ?_ | with_reducible refine World.rowIs.congr ((HMB.out.set _ _).set _ _) ?_ | with_reducible refine World.rowIs.congr (((HMB.out.set _ _).set _ _).set _ _) ?_ | with_reducible refine World.rowIs.congr ((((HMB.out.set _ _).set _ _).set _ _).set _ _) ?_
                intro j hj
                have px := eq_true (show 0 < x by have := HX0.out; omega)
                have py := eq_true (show 0 < y by have := HY0.out; omega)
                have hN := nbE_iff G v x y (j : Int)
                simp only [HE0.out, HE1.out, HE2.out, HE0'.out, HE1'.out, HE2'.out, px, py, true_and, false_and, or_false, false_or, Int.natCast_inj] at hN
                (try dsimp only)
                rw [bS_congr (mkS_step G W v y x (j : Int))]
                clear HR HMB HB HVE HM HG0 HGn HC HBF hmk hv px py
                by_cases hp : mkS G W v y x (j : Int)
                · rw [bS_yes hp, bS_yes (.inl hp)]
                  all_goals ((repeat' split) <;> rfl)
                · rw [bS_no hp]
                  (repeat' split) <;> first
                    | (rw [bS_yes (.inr (hN.2 (by first | assumption | (left; assumption) | (right; assumption) | (right; left; assumption) | (right; right; assumption) | (right; right; left; assumption) | (right; right; right; assumption))))])
                    | (rw [bS_no (fun h => h.elim hp (fun h => by
                        have h3 := hN.1 h
                        first | exact h3 | contradiction | (rcases h3 with e | e <;> contradiction) | (rcases h3 with e | e | e <;> contradiction) | (rcases h3 with e | e | e | e <;> contradiction)))]) | exact absurd (hN.2 (.inr (.inr (.inr ⟨by clear hN hq2 hp; omega, by clear hN hq2 hp; omega, by clear hN hq2 hp; omega⟩)))) hq2
        · obtain rfl : x = W := by omega
          have HR := Lib.hid R
          have HMB := Lib.hid (MB.congr fun p _ => by rw [bS_congr (mkS_row G x v y (p : Int))] : wo.rowIs b7 4 M (fun p => .bool (bS (mkS G x v (y + 1) 0 (p : Int)))))
          have HB := Lib.hid B
          clear R MB B
          go_wp2
          exact ⟨⟨y + 1, by omega, by first | go_num | simp, HB.out, HR.out, HMB.out⟩, by simp [intOf]; omega⟩
    · obtain rfl : y = H := by omega
      obtain ⟨wo, rfl⟩ : ∃ wo : World, wo = wr := ⟨_, rfl⟩
      have HMB := Lib.hid MB
      have HB := Lib.hid B
      clear R MB B
      go_wp2_with fail
      obtain ⟨W6, hW6⟩ : ∃ W6 : World, W6 = wo.alloc (.cells #[] 2) := ⟨_, rfl⟩
      have B6 : Below w.heap.size w W6 := by rw [hW6]; exact al HB.out _
      have O6 : OwnI W6 wo.heap.size (.slice (some ⟨wo.heap.size, 0, none⟩) 0 0) [] := by rw [hW6]; exact OwnI.made wo (Nat.le_refl _)
      have M6 : W6.rowIs b7 4 M (fun p => .bool (bS (mkS G W v y 0 (p : Int)))) := by rw [hW6]; exact HMB.out.alloc _
      have hb7 : b7 < wo.heap.size := HMB.out.lt
      have hs6 : wo.heap.size ≤ W6.heap.size := by rw [hW6]; simp
      have hw0 : w.heap.size ≤ wo.heap.size := HB.out.size
      rw [← hW6]
      have HM6 := Lib.hid M6
      have HB6 := Lib.hid B6
      have HO6 := Lib.hid O6
      clear hW6 HMB HB M6 B6 O6 lq pq qq rq hq0
      go_loopw [10, 11] (fun t10 t11 wr => ∃ i : Nat, i ≤ n ∧ t11 = .int .i64 i ∧ Below wo.heap.size W6 wr ∧ OwnI wr wo.heap.size t10 (pickL bf i)) (fun t10 t11 wr => n - (intOf t11).toNat)
      case atStart => exact ⟨0, by omega, rfl, (Below.refl W6.heap.size W6).mono hs6, HO6.out⟩
      case round =>
        clear HO6
        obtain ⟨i, hi, rfl, B, O⟩ := hrel
        obtain ⟨v0, rfl⟩ : ∃ v0 : Value, v0 = u10 := ⟨_, rfl⟩
        have Bw : Below w.heap.size w wr := HB6.out.trans (B.mono hw0)
        have hq0 := hq.of_block Bw.size (Bw.block _ hq.1)
        obtain ⟨lq, pq, qq, rq⟩ := id hq0
        have HO := Lib.hid O
        have HB := Lib.hid B
        have HBw := Lib.hid Bw
        clear O B Bw
        by_cases hlt : i < n
        · have hlti : (i : Int) < (n : Int) := by omega
          have hi1 : (i : Int) + 1 < (M : Int) := by have := HM.out; omega
          have t1 : ((i : Int) + 1).toNat = i + 1 := by omega
          have s1 : IntKind.i64.wrap ((i : Int) + 1) = (i : Int) + 1 := IntWalk.i64_in _ (by omega)
          have c1 := (HM6.out.of_block (HB.out.block _ hb7)).cell (i := i + 1) (by have := HM.out; omega)
          have hbi : bf i = (bS (mkS G W v y 0 ((i : Int) + 1)) && !(i == k)) := by rw [HBF.out]
          rw [show (((i + 1 : Nat) : Int)) = (i : Int) + 1 by omega] at c1
          obtain ⟨bb, hbb⟩ : ∃ bb, bb = bS (mkS G W v y 0 ((i : Int) + 1)) := ⟨_, rfl⟩
          rw [← hbb] at c1 hbi
          have HBI := Lib.hid hbi
          have ev : (k : Int) + 1 = v := HVE.out
          clear hbb hbi
          cases bb
          · have hno : bf i = false := by rw [HBI.out]; rfl
            have HNO := Lib.hid hno
            clear hno
            go_wp2_with fail
            exact ⟨⟨i + 1, by omega, by first | go_num | simp, HB.out, by rw [pickL_no HNO.out]; exact HO.out⟩, by simp [intOf]; omega⟩
          · by_cases hik : i = k
            · have hno : bf i = false := by rw [HBI.out, hik]; simp
              have HNO := Lib.hid hno
              have D1 : ((i : Int) != (k : Int)) = false := by rw [hik]; simp
              have D2 : (i != k) = false := by rw [hik]; simp
              have D3 : ((i : Int) == (k : Int)) = true := by rw [hik]; simp
              clear hno hik
              go_wp2_with fail
              exact ⟨⟨i + 1, by omega, by first | go_num | simp, HB.out, by rw [pickL_no HNO.out]; exact HO.out⟩, by simp [intOf]; omega⟩
            · have hno : bf i = true := by rw [HBI.out]; simpa using hik
              have HNO := Lib.hid hno
              have D1 : ((i : Int) != (k : Int)) = true := by simp; omega
              have D2 : (i != k) = true := by simpa using hik
              have D3 : ((i : Int) == (k : Int)) = false := by simp; omega
              clear hno hik
              obtain ⟨i0, hi, hz0, hz1, hz2⟩ := info_parts infoI64
              go_wp2_with (at_builtin; refine wpList_append_own _ rfl _ _ 26 rfl wo.heap.size 2 i0 (.int .i64 0) 1 8 Try.underlying26 hi hz0 hz1 hz2 rfl (by decide) _ _ _ rfl (World.ownsRow.alloc HO.out _) ⟨wr.heap.size, 0, none⟩ 1 1 [.int .i64 _] rfl rfl (ncells wr #[.int .i64 _] 2) one64 (by have := HB.out.size; have := pickL_length bf i; unfold maxLen; omega) (by have := HB.out.size; have := pickL_length bf i; omega) (by have := HB.out.size; have := pickL_length bf i; simp; omega) ?_; intro v' w1 own' hgr _)
              have B1 : Below wo.heap.size W6 w1 := (HB.out.alloc (by have := HB.out.size; omega) _).grown hgr (by have := HB.out.size; simp; omega) (fun k e => (HO.out.lt k e).1)
              have O1 : OwnI w1 wo.heap.size v' (pickL bf (i + 1)) := by
                rw [pickL_yes HNO.out]
                exact OwnI.snoc own'
              clear own' hgr
              go_wp2
              exact ⟨⟨i + 1, by omega, by first | go_num | simp, B1, O1⟩, by simp [intOf]; omega⟩
        · obtain rfl : i = n := by omega
          go_wp2_with fail
          go_ret
          exact ⟨HBw.out, v0, rfl, HO.out.mono hw0⟩
end Go.Proofs.Ytkdakpbkpfigeaa
