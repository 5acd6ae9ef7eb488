/-
  The contract of spec.LongestJoint. Conditions stand at each.
-/
import Derived.Test.YtmbmdplafjminaaRows
import Derived.Test.YtmbmdplafjminaaLongest
namespace Go.Proofs.Ytmbmdplafjminaa
open Go Go.ChangeShapes Go.WideShapes Go.ChangeAt Go.RowKit
set_option linter.unusedVariables false
set_option linter.unusedSimpArgs false
set_option maxRecDepth 100000
set_option maxHeartbeats 4000000

/-- what is told of the longest row. -/
def LongRes (s : JS) : Value := if s.2.1 = 0 then .tuple #[.agg #[.int .i8 0, .int .i8 0], .int .i64 0, .bool false, .int .i64 6] else .tuple #[.agg #[.int .i8 (s.1.1 : Int), .int .i8 (s.1.2 : Int)], .int .i64 (s.2.1 : Int), .bool s.2.2, .int .i64 0]

/-- what the walk keeps: the grid, the list of all cells, the best cell's box, the result's box. -/
structure LJ (w : World) (b2 b6 b8 ga N cap bA Wd : Nat) (G : Nat → Int) (q : Nat × Nat) (W : World) : Prop where
  B : Below w.heap.size w W
  R : W.rowIs b6 93 144 (fun p => .int .i64 (G p))
  O : OwnC W bA (.slice (some ⟨ga, 0, none⟩) N cap) (allC Wd N)
  H8 : W.heap[b8]? = some (.cells #[.int .i8 (q.1 : Int), .int .i8 (q.2 : Int)] 45 (0, 0))
  H2 : W.heap[b2]? = some (.cells #[.int .i8 0, .int .i8 0] 45 (0, 0))
  o1 : w.heap.size ≤ b8
  o2 : b8 ≠ b6
  o3 : b8 ≠ ga
  o4 : b8 ≠ b2
theorem LJ.below {w W W' : World} {b2 b6 b8 ga N cap bA Wd : Nat} {G : Nat → Int} {q : Nat × Nat} (h : LJ w b2 b6 b8 ga N cap bA Wd G q W) (hb : Below W.heap.size W W') : LJ w b2 b6 b8 ga N cap bA Wd G q W' :=
  ⟨nxt h.B hb, rowNext0 h.R hb, h.O.below hb, (hb.block _ (Array.getElem?_eq_some_iff.1 h.H8).1).trans h.H8, (hb.block _ (Array.getElem?_eq_some_iff.1 h.H2).1).trans h.H2, h.o1, h.o2, h.o3, h.o4⟩
theorem LJ.set {w W : World} {b2 b6 b8 ga N cap bA Wd : Nat} {G : Nat → Int} {q : Nat × Nat} (h : LJ w b2 b6 b8 ga N cap bA Wd G q W) (x y : Nat) :
    LJ w b2 b6 b8 ga N cap bA Wd G (x, y) ((W.setCell ⟨b8, 0, none⟩ (.int .i8 (x : Int))).setCell ⟨b8, 1, none⟩ (.int .i8 (y : Int))) := by
  have hk : ∀ k, k ≠ b8 → ((W.setCell ⟨b8, 0, none⟩ (.int .i8 (x : Int))).setCell ⟨b8, 1, none⟩ (.int .i8 (y : Int))).heap[k]? = W.heap[k]? := fun k hk =>
    (Below.heap_setCell _ ⟨b8, 1, none⟩ _ k hk).trans (Below.heap_setCell W ⟨b8, 0, none⟩ _ k hk)
  refine ⟨(h.B.setCell (p := ⟨b8, 0, none⟩) h.o1 _).setCell (p := ⟨b8, 1, none⟩) h.o1 _, h.R.of_block (hk _ (fun e => h.o2 e.symm)), ?_, ?_, (hk _ (fun e => h.o4 e.symm)).trans h.H2, h.o1, h.o2, h.o3, h.o4⟩
  · refine ⟨h.O.1, h.O.2.imp id ?_⟩
    rintro ⟨g, cap', cur, h1, h2, h3, h4⟩
    have : g = ga := by injection h1 with h1; injection h1 with h1; injection h1 with h1; exact h1.symm
    exact ⟨g, cap', cur, h1, h2, (hk g (fun e => h.o3 (by rw [← e, this]))).trans h3, h4⟩
  · exact heap_setCell_same _ b8 1 _ _ _ (heap_setCell_same W b8 0 _ _ _ h.H8)

/-- where the inner loop stands. -/
def Mid (G : Nat → Int) (s : JS) (q : Nat × Nat) (t13 t9 t10 : Value) (P : Nat × Nat → Prop) : Prop :=
  (t13 = .int .i64 0 ∧ t9 = .int .i64 (s.2.1 : Int) ∧ t10 = .bool s.2.2 ∧ P s.1) ∨
  (t13 = .int .i64 1 ∧ t9 = .int .i64 ((stepE G s q).2.1 : Int) ∧ t10 = .bool (stepE G s q).2.2 ∧ P (stepE G s q).1) ∨
  (t13 = .int .i64 2 ∧ t9 = .int .i64 ((stepS G (stepE G s q) q).2.1 : Int) ∧ t10 = .bool (stepS G (stepE G s q) q).2.2 ∧ P (stepS G (stepE G s q) q).1)

theorem specLong_in (W H g n : Nat) (c : Nat → Int) (w : World) (hc : ∀ j, -128 ≤ c j ∧ c j ≤ 127) (hm : n ≤ 1048576) (hrow : w.rowIs g 58 (4 * n) (fun j => .int .i8 (c j))) (hv : Valid W H n c) :
    Calls Try.prog 49 #[.agg #[.int .i8 (W : Int), .int .i8 (H : Int), .slice (some ⟨g, 0, none⟩) n n]] w fun e w' => e = .returned (LongRes (bestJ (gridN c n) (allC W (W * H)))) ∧ Below w.heap.size w w' := by
  have HC := Lib.hid hc
  clear hc
  have hW0 : 1 ≤ W := by have := hv.1; omega
  have hW : W ≤ 12 := by have := hv.2.1; omega
  have hH : H ≤ 12 := by have := hv.2.2.2.1; omega
  go_enter Try.func49, Try.ntmps49
  go_wp2_with fail
  have HQ := (Sq.new w (W : Int) (H : Int) (.slice (some ⟨g, 0, none⟩) n n) 32).alloc (.cells #[.int .i8 0, .int .i8 0] 45)
  have B := al (al (Below.refl w.heap.size w) (.cells #[.int .i8 (W : Int), .int .i8 (H : Int), .slice (some ⟨g, 0, none⟩) n n] 32)) (.cells #[.int .i8 0, .int .i8 0] 45)
  have H2 : ((w.alloc (.cells #[.int .i8 (W : Int), .int .i8 (H : Int), .slice (some ⟨g, 0, none⟩) n n] 32)).alloc (.cells #[.int .i8 0, .int .i8 0] 45)).heap[w.heap.size + 1]? = some (.cells #[.int .i8 0, .int .i8 0] 45 (0, 0)) := by
    have := heap_alloc_new (w.alloc (.cells #[.int .i8 (W : Int), .int .i8 (H : Int), .slice (some ⟨g, 0, none⟩) n n] 32)) (.cells #[.int .i8 0, .int .i8 0] 45)
    simpa using this
  refine (ok_any W H w.heap.size g n c _ (by omega) (by omega) HC.out hm HQ (hrow.of_block (B.block _ hrow.lt))).mono ?_
  rintro e w1 ⟨hb, ⟨h, rfl⟩ | ⟨h, _⟩⟩
  case inr => exact absurd hv h
  clear h
  have HH2 := Lib.hid ((hb.block _ (by simp)).trans H2)
  clear H2
  replace HQ := HQ.below hb
  replace B := nxt B hb
  clear hb
  go_wp2_with fail
  refine (lay_any W H _ g n c _ (by omega) (by omega) HC.out hm HQ (hrow.of_block (B.block _ hrow.lt))).mono ?_
  rintro e w3 ⟨hb, cs, hsz, hone, hcase⟩
  rcases hcase with ⟨_, hcell, rfl⟩ | ⟨hn, _⟩
  case inr => exact absurd hv hn
  have h21 := (Array.getElem?_eq_some_iff.1 HH2.out).1
  replace HH2 := Lib.hid ((hb.block _ h21).trans HH2.out)
  replace HQ := HQ.below hb
  replace B := nxt B hb
  replace h21 := (Array.getElem?_eq_some_iff.1 HH2.out).1
  clear hb
  have hsz0 : w.heap.size ≤ w3.heap.size := B.size
  have hG : (w3.alloc (.cells Try.zeroCells93 93)).heap[w3.heap.size]? = some (.cells Try.zeroCells93 93 (0, 0)) := heap_alloc_new w3 _
  have B4 := below_setRow (al B (.cells Try.zeroCells93 93)) B.size cs
  have HQ4 : Sq ((w3.alloc (.cells Try.zeroCells93 93)).setRow w3.heap.size cs) w.heap.size W H (.slice (some ⟨g, 0, none⟩) n n) := (HQ.alloc _).of_block (by rw [setRow_size]; exact Nat.le_refl _) (setRow_other _ _ _ _ (by have := HQ.1; omega))
  have R4 : ((w3.alloc (.cells Try.zeroCells93 93)).setRow w3.heap.size cs).rowIs w3.heap.size 93 144 (fun p => .int .i64 (gridN c n p)) := ⟨cs, setRow_heap _ _ _ _ _ _ hG, hsz, hcell⟩
  have H24 : ((w3.alloc (.cells Try.zeroCells93 93)).setRow w3.heap.size cs).heap[w.heap.size + 1]? = some (.cells #[.int .i8 0, .int .i8 0] 45 (0, 0)) := (setRow_other _ _ _ _ (by omega)).trans ((Below.heap_alloc _ _ _ h21).trans HH2.out)
  obtain ⟨W4, hW4⟩ : ∃ W4 : World, W4 = ((w3.alloc (.cells Try.zeroCells93 93)).setRow w3.heap.size cs) := ⟨_, rfl⟩
  go_wp2_with (first
    | (refine wpList_store_row rfl 93 (.tmp 6) (.tmp 23) rfl w3.heap.size cs rfl rfl 93 Try.zeroCells93 (heap_alloc_new w3 _) (by rw [info93, hsz]) (by rw [zc_size, hsz]) hone ?_
       rw [← hW4] at B4 HQ4 R4 H24 ⊢
       clear hW4 hG HQ HH2 B hcell
       replace H24 := Lib.hid H24))
  have hsz4 : w3.heap.size < W4.heap.size := R4.lt
  replace HQ4 := HQ4.alloc (.cells #[.int .i8 0, .int .i8 0] 45)
  refine (all_any W H _ _ _ hW0 hW hH HQ4).mono ?_
  rintro e w5 ⟨hb, va, rfl, OA⟩
  obtain ⟨N, hN'⟩ : ∃ N, N = W * H := ⟨_, rfl⟩
  rw [← hN'] at OA
  have hN0 : 0 < N := by rw [hN']; exact Nat.mul_pos hW0 (by have := hv.2.2.1; omega)
  have hN144 : N ≤ 144 := by rw [hN']; exact mul12 hW hH
  obtain ⟨ga, cap, rfl, hga, hga2⟩ := own_some OA (by rw [allC_length]; exact hN0)
  rw [allC_length] at *
  have HN' := Lib.hid hN'
  clear hN'
  obtain ⟨bA, hbA⟩ : ∃ bA, bA = (W4.alloc (.cells #[.int .i8 0, .int .i8 0] 45)).heap.size := ⟨_, rfl⟩
  rw [← hbA] at OA hga
  have hbA1 : bA = W4.heap.size + 1 := by rw [hbA]; simp
  clear hbA
  have h24 := (Array.getElem?_eq_some_iff.1 H24.out).1
  have h0 : LJ w (w.heap.size + 1) w3.heap.size W4.heap.size ga N cap bA W (gridN c n) (0, 0) w5 :=
    ⟨nxt (al B4 _) hb, rowNext1 R4 hb, OA, (hb.block _ (by simp)).trans (heap_alloc_new W4 _), (hb.block _ (by simp; omega)).trans ((Below.heap_alloc _ _ _ h24).trans H24.out), by omega, by omega, by omega, by omega⟩
  have HH0 := Lib.hid h0
  clear h0 hb R4 HQ4 B4 OA H24
  go_wp2_with fail
  go_loopw [9, 10, 12] (fun t9 t10 t12 wr => ∃ i : Nat, i ≤ N ∧ t12 = .int .i64 i ∧ t9 = .int .i64 ((bestJ (gridN c n) (allC W i)).2.1 : Int) ∧ t10 = .bool (bestJ (gridN c n) (allC W i)).2.2 ∧ LJ w (w.heap.size + 1) w3.heap.size W4.heap.size ga N cap bA W (gridN c n) (bestJ (gridN c n) (allC W i)).1 wr) (fun t9 t10 t12 wr => N - (intOf t12).toNat)
  case atStart => exact ⟨0, by omega, rfl, rfl, rfl, HH0.out⟩
  case round =>
    clear HH0
    obtain ⟨i, hi, rfl, h9, h10, h⟩ := hrel
    obtain ⟨s, hs⟩ : ∃ s, s = bestJ (gridN c n) (allC W i) := ⟨_, rfl⟩
    rw [← hs] at h9 h10 h
    subst h9 h10
    have hsl : s.2.1 ≤ 13 := by rw [hs]; exact bestJ_le _ _ _
    have HSL := Lib.hid hsl
    have HS := Lib.hid hs
    clear hs
    by_cases hlt : i < N
    · obtain ⟨x, y, hxy⟩ : ∃ x y, cl W i = (x, y) := ⟨_, _, rfl⟩
      have hb12 := cl_lt hW hH (show i < W * H by rw [← HN'.out]; exact hlt)
      rw [hxy] at hb12
      have hx12 : x < 12 := by have := hb12.1; dsimp only at this; omega
      have hy12 : y < 12 := by have := hb12.2; dsimp only at this; omega
      have HXY := Lib.hid hxy
      clear hxy hb12
      have HH := Lib.hid h
      clear h
      have hxi : (x : Int) < 12 := by omega
      have hyi : (y : Int) < 12 := by omega
      go_wp2_with fail
      go_loopw [9, 10, 13] (fun t9 t10 t13 wr => Mid (gridN c n) s (x, y) t13 t9 t10 (fun p => LJ w (w.heap.size + 1) w3.heap.size W4.heap.size ga N cap bA W (gridN c n) p wr)) (fun t9 t10 t13 wr => 2 - (intOf t13).toNat)
      case atStart => exact .inl ⟨rfl, rfl, rfl, HH.out⟩
      case round =>
        clear HH
        rcases hrel with ⟨rfl, rfl, rfl, h⟩ | ⟨rfl, rfl, rfl, h⟩ | ⟨rfl, rfl, rfl, h⟩
        · have hx0 := (h.O.get (allC_length W N) (q := (x, y)) (by rw [allC_get W N i hlt, HXY.out]))
          obtain ⟨c0, c1⟩ := hx0
          obtain ⟨s1, hs1⟩ : ∃ s1, s1 = s := ⟨_, rfl⟩
          rw [← hs1] at h
          have hle1 : s1.2.1 ≤ 13 := by rw [hs1]; exact HSL.out
          rw [← hs1]
          have HS1 := Lib.hid hs1
          have HH := Lib.hid h
          clear hs1 h
          go_wp2_with fail
          clear c0 c1
          go_loopw [15, 16, 17] (fun t15 t16 t17 wr => ∃ k : Nat, x + k ≤ 12 ∧ t15 = .int .i64 k ∧ t16 = .int .i8 ((x : Int) + k) ∧ t17 = .int .i8 (y : Int) ∧ LJ w (w.heap.size + 1) w3.heap.size W4.heap.size ga N cap bA W (gridN c n) s1.1 wr ∧ ∀ j, j < k → runEast (gridN c n) x y j = true) (fun t15 t16 t17 wr => 13 - (intOf t15).toNat)
          case atStart => exact ⟨0, by omega, rfl, by simp, by simp, HH.out, fun j hj => absurd hj (by omega)⟩
          case round =>
            clear HH
            obtain ⟨k, hk, rfl, rfl, rfl, h, hall⟩ := hrel
            have HA := Lib.hid hall
            have HH := Lib.hid h
            clear hall h
            have hki : (x : Int) + (k : Int) ≤ 12 := by omega
            by_cases hr : runEast (gridN c n) x y k = true
            · have hlt12 : x + k < 12 := by
                rcases Nat.lt_or_ge (x + k) 12 with h | h
                · exact h
                · have := runEast_end (gridN c n) x y k h
                  rw [hr] at this
                  cases this
              have HRR := Lib.hid hr
              clear hr
              have hki2 : (x : Int) + (k : Int) < 12 := by omega
              go_wp2_with fail
              refine (sjE w3.heap.size x y k (gridN c n) _ hx12 (by omega) hy12 HH.out.R).mono ?_
              rintro e w7 ⟨he, hb⟩
              have he' : e = .returned (.bool true) := he.trans (congrArg (fun b => Ending.returned (Value.bool b)) HRR.out)
              subst he'
              have h := HH.out.below hb
              replace HH := Lib.hid h
              clear he hb h
              go_wp2
              refine ⟨⟨k + 1, by omega, by first | go_num | simp, by first | go_num | (congr 1; omega) | rfl, by first | go_num | (congr 1; omega) | rfl, HH.out, ?_⟩, by simp [intOf]; omega⟩
              intro j hj
              by_cases e : j = k
              · subst e; exact HRR.out
              · exact HA.out j (by omega)
            · rw [Bool.not_eq_true] at hr
              have hkk : k = eastL (gridN c n) (x, y) := eastL_eq ⟨HA.out, hr⟩ (by omega)
              have HRR := Lib.hid hr
              have HKK := Lib.hid hkk
              clear hr hkk
              go_wp2_with fail
              refine (sjE w3.heap.size x y k (gridN c n) _ hx12 (by omega) hy12 HH.out.R).mono ?_
              rintro e w7 ⟨he, hb⟩
              have he' : e = .returned (.bool false) := he.trans (congrArg (fun b => Ending.returned (Value.bool b)) HRR.out)
              subst he'
              have h := HH.out.below hb
              replace HH := Lib.hid h
              clear he hb h
              obtain ⟨c0, c1⟩ := HH.out.O.get (allC_length W N) (q := (x, y)) (by rw [allC_get W N i hlt, HXY.out])
              by_cases hgt : s1.2.1 < k
              · have hgti : (s1.2.1 : Int) < (k : Int) := by omega
                have e0 := cell_of_row w7 W4.heap.size 0 _ _ _ HH.out.H8
                have e1 := cell_of_row w7 W4.heap.size 1 _ _ _ HH.out.H8
                have f0 := frozen_of_row w7 W4.heap.size 0 _ _ HH.out.H8
                have f1 := frozen_of_row w7 W4.heap.size 1 _ _ HH.out.H8
                simp at e0 e1
                have hst : stepE (gridN c n) s (x, y) = ((x, y), k, true) := by unfold stepE; rw [← HS1.out, if_pos (by rw [← HKK.out]; exact hgt), ← HKK.out]
                have HST := Lib.hid hst
                clear hst
                have hst' := HST.out
                rw [← HS1.out] at hst'
                have HST' := Lib.hid hst'
                clear hst'
                go_wp2
                refine ⟨.inr (.inl ⟨rfl, by rw [HST'.out], by rw [HST'.out], ?_⟩), by simp [intOf]⟩
                rw [HST'.out]
                exact HH.out.set x y
              · have hgti : ¬ (s1.2.1 : Int) < (k : Int) := by omega
                have hst : stepE (gridN c n) s (x, y) = s1 := by unfold stepE; rw [← HS1.out, if_neg (by rw [← HKK.out]; exact hgt)]
                have HST := Lib.hid hst
                clear hst
                have hst' := HST.out
                rw [← HS1.out] at hst'
                have HST' := Lib.hid hst'
                clear hst'
                go_wp2
                refine ⟨.inr (.inl ⟨rfl, by rw [HST'.out], by rw [HST'.out], ?_⟩), by simp [intOf]⟩
                rw [HST'.out]
                exact HH.out
        · have hx0 := (h.O.get (allC_length W N) (q := (x, y)) (by rw [allC_get W N i hlt, HXY.out]))
          obtain ⟨c0, c1⟩ := hx0
          obtain ⟨s1, hs1⟩ : ∃ s1, s1 = (stepE (gridN c n) s (x, y)) := ⟨_, rfl⟩
          rw [← hs1] at h
          have hle1 : s1.2.1 ≤ 13 := by rw [hs1]; exact stepE_le HSL.out
          rw [← hs1]
          have HS1 := Lib.hid hs1
          have HH := Lib.hid h
          clear hs1 h
          go_wp2_with fail
          clear c0 c1
          go_loopw [15, 16, 17] (fun t15 t16 t17 wr => ∃ k : Nat, y + k ≤ 12 ∧ t15 = .int .i64 k ∧ t16 = .int .i8 (x : Int) ∧ t17 = .int .i8 ((y : Int) + k) ∧ LJ w (w.heap.size + 1) w3.heap.size W4.heap.size ga N cap bA W (gridN c n) s1.1 wr ∧ ∀ j, j < k → runSouth (gridN c n) x y j = true) (fun t15 t16 t17 wr => 13 - (intOf t15).toNat)
          case atStart => exact ⟨0, by omega, rfl, by simp, by simp, HH.out, fun j hj => absurd hj (by omega)⟩
          case round =>
            clear HH
            obtain ⟨k, hk, rfl, rfl, rfl, h, hall⟩ := hrel
            have HA := Lib.hid hall
            have HH := Lib.hid h
            clear hall h
            have hki : (y : Int) + (k : Int) ≤ 12 := by omega
            by_cases hr : runSouth (gridN c n) x y k = true
            · have hlt12 : y + k < 12 := by
                rcases Nat.lt_or_ge (y + k) 12 with h | h
                · exact h
                · have := runSouth_end (gridN c n) x y k h
                  rw [hr] at this
                  cases this
              have HRR := Lib.hid hr
              clear hr
              have hki2 : (y : Int) + (k : Int) < 12 := by omega
              go_wp2_with fail
              refine (sjS w3.heap.size x y k (gridN c n) _ hx12 (by omega) hy12 HH.out.R).mono ?_
              rintro e w7 ⟨he, hb⟩
              have he' : e = .returned (.bool true) := he.trans (congrArg (fun b => Ending.returned (Value.bool b)) HRR.out)
              subst he'
              have h := HH.out.below hb
              replace HH := Lib.hid h
              clear he hb h
              go_wp2
              refine ⟨⟨k + 1, by omega, by first | go_num | simp, by first | go_num | (congr 1; omega) | rfl, by first | go_num | (congr 1; omega) | rfl, HH.out, ?_⟩, by simp [intOf]; omega⟩
              intro j hj
              by_cases e : j = k
              · subst e; exact HRR.out
              · exact HA.out j (by omega)
            · rw [Bool.not_eq_true] at hr
              have hkk : k = southL (gridN c n) (x, y) := southL_eq ⟨HA.out, hr⟩ (by omega)
              have HRR := Lib.hid hr
              have HKK := Lib.hid hkk
              clear hr hkk
              go_wp2_with fail
              refine (sjS w3.heap.size x y k (gridN c n) _ hx12 (by omega) hy12 HH.out.R).mono ?_
              rintro e w7 ⟨he, hb⟩
              have he' : e = .returned (.bool false) := he.trans (congrArg (fun b => Ending.returned (Value.bool b)) HRR.out)
              subst he'
              have h := HH.out.below hb
              replace HH := Lib.hid h
              clear he hb h
              obtain ⟨c0, c1⟩ := HH.out.O.get (allC_length W N) (q := (x, y)) (by rw [allC_get W N i hlt, HXY.out])
              by_cases hgt : s1.2.1 < k
              · have hgti : (s1.2.1 : Int) < (k : Int) := by omega
                have e0 := cell_of_row w7 W4.heap.size 0 _ _ _ HH.out.H8
                have e1 := cell_of_row w7 W4.heap.size 1 _ _ _ HH.out.H8
                have f0 := frozen_of_row w7 W4.heap.size 0 _ _ HH.out.H8
                have f1 := frozen_of_row w7 W4.heap.size 1 _ _ HH.out.H8
                simp at e0 e1
                have hst : stepS (gridN c n) (stepE (gridN c n) s (x, y)) (x, y) = ((x, y), k, false) := by unfold stepS; rw [← HS1.out, if_pos (by rw [← HKK.out]; exact hgt), ← HKK.out]
                have HST := Lib.hid hst
                clear hst
                go_wp2
                refine ⟨.inr (.inr ⟨rfl, by rw [HST.out], by rw [HST.out], ?_⟩), by simp [intOf]⟩
                rw [HST.out]
                exact HH.out.set x y
              · have hgti : ¬ (s1.2.1 : Int) < (k : Int) := by omega
                have hst : stepS (gridN c n) (stepE (gridN c n) s (x, y)) (x, y) = s1 := by unfold stepS; rw [← HS1.out, if_neg (by rw [← HKK.out]; exact hgt)]
                have HST := Lib.hid hst
                clear hst
                go_wp2
                refine ⟨.inr (.inr ⟨rfl, by rw [HST.out], by rw [HST.out], ?_⟩), by simp [intOf]⟩
                rw [HST.out]
                exact HH.out
        · have HH := Lib.hid h
          clear h
          have hb := bestJ_snoc (gridN c n) (allC W i) (x, y)
          rw [← HS.out, ← HXY.out, ← allC_succ, HXY.out] at hb
          have HB := Lib.hid hb
          clear hb
          go_wp2
          exact ⟨⟨i + 1, by omega, by first | go_num | simp, by rw [HB.out], by rw [HB.out], by rw [HB.out]; exact HH.out⟩, by simp [intOf]; omega⟩
    · obtain rfl : i = N := by omega
      have HH := Lib.hid h
      clear h
      have e0 := cell_of_row wr W4.heap.size 0 _ _ _ HH.out.H8
      have e1 := cell_of_row wr W4.heap.size 1 _ _ _ HH.out.H8
      have d0 := cell_of_row wr (w.heap.size + 1) 0 _ _ _ HH.out.H2
      have d1 := cell_of_row wr (w.heap.size + 1) 1 _ _ _ HH.out.H2
      have f0 := frozen_of_row wr (w.heap.size + 1) 0 _ _ HH.out.H2
      have f1 := frozen_of_row wr (w.heap.size + 1) 1 _ _ HH.out.H2
      simp at e0 e1 d0 d1
      have hne : (w.heap.size + 1) ≠ W4.heap.size := fun e => HH.out.o4 e.symm
      by_cases hz : s.2.1 = 0
      · have hzi : ((s.2.1 : Int) == 0) = true := by simp [hz]
        have hres : LongRes s = .tuple #[.agg #[.int .i8 0, .int .i8 0], .int .i64 0, .bool false, .int .i64 6] := if_pos hz
        have HRES := Lib.hid hres
        clear hz hres
        go_wp2
        refine bodyPost_ret (v := .tuple #[.agg #[.int .i8 0, .int .i8 0], .int .i64 0, .bool false, .int .i64 6]) (by simp [results, Try.results49, go_sem, d0, d1]) rfl ⟨by rw [← HN'.out, ← HS.out, HRES.out], ?_⟩
        exact (HH.out.B.setCell (p := ⟨w.heap.size + 1, 0, none⟩) (by simp) _).setCell (p := ⟨w.heap.size + 1, 1, none⟩) (by simp) _
      · have hzi : ((s.2.1 : Int) == 0) = false := by simp [hz]
        have hres : LongRes s = .tuple #[.agg #[.int .i8 (s.1.1 : Int), .int .i8 (s.1.2 : Int)], .int .i64 (s.2.1 : Int), .bool s.2.2, .int .i64 0] := if_neg hz
        have HRES := Lib.hid hres
        clear hz hres
        go_wp2
        refine bodyPost_ret (v := .tuple #[.agg #[.int .i8 (s.1.1 : Int), .int .i8 (s.1.2 : Int)], .int .i64 (s.2.1 : Int), .bool s.2.2, .int .i64 0]) (by simp [results, Try.results49, go_sem, d0, d1]) rfl ⟨by rw [← HN'.out, ← HS.out, HRES.out], ?_⟩
        exact (HH.out.B.setCell (p := ⟨w.heap.size + 1, 0, none⟩) (by simp) _).setCell (p := ⟨w.heap.size + 1, 1, none⟩) (by simp) _
end Go.Proofs.Ytmbmdplafjminaa
