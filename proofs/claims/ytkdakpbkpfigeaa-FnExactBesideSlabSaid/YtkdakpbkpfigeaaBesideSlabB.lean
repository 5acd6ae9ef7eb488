/-
  Both sides of BesideSlab answer the same. Conditions stand at each.
-/
import Derived.Test.YtkdakpbkpfigeaaRows
import Derived.Test.YtkdakpbkpfigeaaBesideS
import Derived.Test.YtkdakpbkpfigeaaBesideI
import Derived.Test.YtkdakpbkpfigeaaValidI
import Derived.Test.YtkdakpbkpfigeaaGrid
import Derived.Test.YtkdakpbkpfigeaaSlabN
namespace Go.Proofs.Ytkdakpbkpfigeaa
open Go Go.ChangeShapes Go.WideShapes Go.ChangeAt Go.RowKit
set_option linter.unusedVariables false
set_option linter.unusedSimpArgs false
set_option maxRecDepth 100000
set_option maxHeartbeats 4000000
namespace besideSlab

theorem mem_slab {x0 y0 wd ht : Nat} (hx : x0 + wd ≤ 12) (hy : y0 + ht ≤ 12) {q : CX} : q ∈ uptoC x0 y0 wd (wd * ht) ↔ (x0 ≤ q.1.1 ∧ q.1.1 < x0 + wd ∧ y0 ≤ q.1.2 ∧ q.1.2 < y0 + ht) := by
  constructor
  · intro h
    obtain ⟨j, hj, rfl⟩ := List.mem_map.1 h
    have hj' := List.mem_range.1 hj
    have hwd : 0 < wd := by
      rcases Nat.eq_zero_or_pos wd with h0 | h0
      · rw [h0, Nat.zero_mul] at hj'; omega
      · exact h0
    have h1 : j % wd < wd := Nat.mod_lt _ hwd
    have h2 : j / wd < ht := Nat.div_lt_of_lt_mul hj'
    show x0 ≤ min (x0 + j % wd) 11 ∧ min (x0 + j % wd) 11 < x0 + wd ∧ y0 ≤ min (y0 + j / wd) 11 ∧ min (y0 + j / wd) 11 < y0 + ht
    clear hj hj'
    generalize j % wd = a at *
    generalize j / wd = b at *
    omega
  · rintro ⟨h1, h2, h3, h4⟩
    have e := cellAt_eq (x0 := x0) (y0 := y0) (wd := wd) (ht := ht) q.2.1 q.2.2 h1 h2 h3
    have := mem_uptoC (x0 := x0) (y0 := y0) (wd := wd) (idx_lt h1 h2 h3 h4)
    rw [e] at this
    exact this
theorem slab_in {X Y : Int} {n k : Nat} {c : Nat → Int} (hv : Valid X Y n c) (hk : k < n) : SlabIn c k := by
  obtain ⟨hl, _, _⟩ := hv.2.2.2.2.2 k hk
  unfold lies at hl
  have h1 := hv.2.1
  have h2 := hv.2.2.2.1
  exact ⟨(c (4 * k)).toNat, (c (4 * k + 1)).toNat, (c (4 * k + 2)).toNat, (c (4 * k + 3)).toNat, by omega, by omega, by omega, by omega, by omega, by omega, rfl⟩
theorem mem_slabC {X Y : Int} {n k : Nat} {c : Nat → Int} (hv : Valid X Y n c) (hk : k < n) {q : CX} : q ∈ slabC c k ↔ gridN c n (q.1.2 * 12 + q.1.1) = (k : Int) + 1 := by
  obtain ⟨x0, y0, wd, ht, e1, e2, e3, e4, hx, hy, e⟩ := slab_in hv hk
  rw [e, mem_slab hx hy]
  have hq1 := q.2.1
  have hq2 := q.2.2
  have hd := cell_div (y := q.1.2) hq1
  constructor
  · rintro h
    refine grid_of_cov (by omega) ?_ n hv.2.2.2.2.2 hk
    unfold cov
    rw [hd.1, hd.2, e1, e2, e3, e4]
    omega
  · intro h
    obtain ⟨_, h⟩ := grid_cov n h
    unfold cov at h
    rw [hd.1, hd.2, e1, e2, e3, e4] at h
    omega
theorem out_zero {X Y : Int} {n : Nat} {c : Nat → Int} (hv : Valid X Y n c) {x y : Nat} (hx : x < 12) (hy : y < 12) (h : ¬ ((x : Int) < X ∧ (y : Int) < Y)) : gridN c n (y * 12 + x) = 0 := by
  have hb := grid_nonneg c n (y * 12 + x)
  refine Classical.byContradiction fun hne => ?_
  obtain ⟨i, hi⟩ : ∃ i : Nat, gridN c n (y * 12 + x) = (i : Int) + 1 := ⟨(gridN c n (y * 12 + x) - 1).toNat, by omega⟩
  obtain ⟨h1, h2⟩ := grid_cov n hi
  obtain ⟨hl, _, _⟩ := hv.2.2.2.2.2 i h1
  unfold lies at hl
  unfold cov at h2
  rw [(cell_div hx).1, (cell_div hx).2] at h2
  omega
theorem same_list {W H n k : Nat} {c : Nat → Int} (hv : Valid W H n c) (hk : k < n) :
    pickL (fun p => bS (mI (gridN c n) (slabC c k) ((p : Int) + 1))) 60 = pickL (fun i => bS (mkS (gridN c n) W ((k : Int) + 1) H 0 ((i : Int) + 1)) && !(i == k)) n := by
  have hW : W ≤ 12 := by have := hv.2.1; omega
  have hH : H ≤ 12 := by have := hv.2.2.2.1; omega
  have hn : n ≤ 60 := hv.2.2.2.2.1
  have hI : ∀ o, mI (gridN c n) (slabC c k) o ↔ ∃ x y, x < 12 ∧ y < 12 ∧ gridN c n (y * 12 + x) = (k : Int) + 1 ∧ nbI (gridN c n) x y o := by
    intro o
    constructor
    · rintro ⟨q, hq, h⟩
      exact ⟨q.1.1, q.1.2, q.2.1, q.2.2, (mem_slabC hv hk).1 hq, h⟩
    · rintro ⟨x, y, hx, hy, h1, h2⟩
      exact ⟨mkC x y hx hy, (mem_slabC hv hk (q := mkC x y hx hy)).2 h1, h2⟩
  have hsame : ∀ o, o ≠ 0 → (mI (gridN c n) (slabC c k) o ↔ (mkS (gridN c n) W ((k : Int) + 1) H 0 o ∧ o ≠ (k : Int) + 1)) := fun o ho => by
    rw [hI o]
    exact (beside_same hW hH (fun x y hx hy h => out_zero hv hx hy (by omega)) (by omega) ho).symm
  have hmax : ∀ p : Nat, n ≤ p → bS (mI (gridN c n) (slabC c k) ((p : Int) + 1)) = false := fun p hp => bS_no (by
    rw [hI]
    rintro ⟨x, y, _, _, _, t, _, hj, e⟩
    have : (p : Int) + 1 ≤ n := by
      rw [e]
      unfold gA
      split
      · exact (grid_nonneg c n _).2
      · omega
    omega)
  have h1 := pickL_more (b := fun p => bS (mI (gridN c n) (slabC c k) ((p : Int) + 1))) (n := n) (60 - n) (fun p hp _ => hmax p hp)
  rw [show n + (60 - n) = 60 by omega] at h1
  rw [h1]
  refine pickL_congr n fun i hi => ?_
  show bS (mI (gridN c n) (slabC c k) ((i : Int) + 1)) = (bS (mkS (gridN c n) W ((k : Int) + 1) H 0 ((i : Int) + 1)) && !(i == k))
  rw [bS_congr (hsame ((i : Int) + 1) (by omega))]
  by_cases hik : i = k
  · subst hik
    rw [bS_no (fun h => h.2 rfl)]
    simp
  · rw [show (!(i == k)) = true by simpa using hik, Bool.and_true]
    exact bS_congr ⟨fun h => h.1, fun h => ⟨h, by omega⟩⟩

def BsPost (code : Int) (L : List Int) (w : World) (e : Ending) (w' : World) : Prop := Below w.heap.size w w' ∧ ∃ v, e = .returned (.tuple #[v, .int .i64 code]) ∧ OwnI w' w.heap.size v L

theorem spec_bad (X Y k : Int) (g n : Nat) (c : Nat → Int) (w : World) (hX : -128 ≤ X ∧ X ≤ 127) (hY : -128 ≤ Y ∧ Y ≤ 127) (hc : ∀ j, -128 ≤ c j ∧ c j ≤ 127) (hm : n ≤ 1048576) (hrow : w.rowIs g 110 (4 * n) (fun j => .int .i8 (c j))) (hv : ¬ Valid X Y n c) :
    Calls Try.prog 31 #[.agg #[.int .i8 X, .int .i8 Y, .slice (some ⟨g, 0, none⟩) n n], .int .i64 k] w (BsPost 1 [] w) := by
  have HC := Lib.hid hc
  clear hc
  go_enter Try.func31, Try.ntmps31
  go_wp2_with fail
  have HQ := Sq.new w X Y (.slice (some ⟨g, 0, none⟩) n n) 31
  have B := al (Below.refl w.heap.size w) (.cells #[.int .i8 X, .int .i8 Y, .slice (some ⟨g, 0, none⟩) n n] 31)
  obtain ⟨W0, hW0⟩ : ∃ W0 : World, W0 = (w.alloc (.cells #[.int .i8 X, .int .i8 Y, .slice (some ⟨g, 0, none⟩) n n] 31)) := ⟨_, rfl⟩
  rw [← hW0] at HQ B ⊢
  clear hW0
  refine (liftSlab.index_any X Y k w.heap.size g n _ hm HQ).mono ?_
  rintro e w1 ⟨rfl, hb⟩
  replace HQ := HQ.below hb
  replace B := nxt B hb
  clear hb
  generalize decide (0 ≤ k ∧ k < n) = fine
  go_wp2_with fail
  refine (told_bad X Y w.heap.size g n c fine _ hX hY HC.out hm HQ (hrow.of_block (B.block _ hrow.lt)) hv).mono ?_
  rintro e wz ⟨rfl, hb⟩
  replace B := nxt B hb
  clear hb
  go_wp2_with fail
  exact bodyPost_ret (results_tmp2 Try.results31 _ _ _) rfl ⟨al B _, _, rfl, OwnI.made _ B.size⟩
theorem spec_out (X Y k : Int) (g n : Nat) (c : Nat → Int) (w : World) (hX : -128 ≤ X ∧ X ≤ 127) (hY : -128 ≤ Y ∧ Y ≤ 127) (hc : ∀ j, -128 ≤ c j ∧ c j ≤ 127) (hm : n ≤ 1048576) (hrow : w.rowIs g 110 (4 * n) (fun j => .int .i8 (c j))) (hv : Valid X Y n c) (hk : ¬ (0 ≤ k ∧ k < n)) :
    Calls Try.prog 31 #[.agg #[.int .i8 X, .int .i8 Y, .slice (some ⟨g, 0, none⟩) n n], .int .i64 k] w (BsPost 2 [] w) := by
  have HC := Lib.hid hc
  clear hc
  go_enter Try.func31, Try.ntmps31
  go_wp2_with fail
  have HQ := Sq.new w X Y (.slice (some ⟨g, 0, none⟩) n n) 31
  have B := al (Below.refl w.heap.size w) (.cells #[.int .i8 X, .int .i8 Y, .slice (some ⟨g, 0, none⟩) n n] 31)
  obtain ⟨W0, hW0⟩ : ∃ W0 : World, W0 = (w.alloc (.cells #[.int .i8 X, .int .i8 Y, .slice (some ⟨g, 0, none⟩) n n] 31)) := ⟨_, rfl⟩
  rw [← hW0] at HQ B ⊢
  clear hW0
  refine (liftSlab.index_any X Y k w.heap.size g n _ hm HQ).mono ?_
  rintro e w1 ⟨rfl, hb⟩
  replace HQ := HQ.below hb
  replace B := nxt B hb
  clear hb
  rw [decide_eq_false hk]
  go_wp2_with fail
  refine (told_ok X Y w.heap.size g n c false _ hX hY HC.out hm HQ (hrow.of_block (B.block _ hrow.lt)) hv).mono ?_
  rintro e wz ⟨rfl, hb⟩
  replace B := nxt B hb
  clear hb
  go_wp2_with fail
  exact bodyPost_ret (results_tmp2 Try.results31 _ _ _) rfl ⟨al B _, _, rfl, OwnI.made _ B.size⟩
theorem spec_in (W H k g n : Nat) (c : Nat → Int) (w : World) (hc : ∀ j, -128 ≤ c j ∧ c j ≤ 127) (hm : n ≤ 1048576) (hrow : w.rowIs g 110 (4 * n) (fun j => .int .i8 (c j))) (hv : Valid W H n c) (hk : k < n) :
    Calls Try.prog 31 #[.agg #[.int .i8 (W : Int), .int .i8 (H : Int), .slice (some ⟨g, 0, none⟩) n n], .int .i64 (k : Int)] w (BsPost 0 (pickL (fun i => bS (mkS (gridN c n) W ((k : Int) + 1) H 0 ((i : Int) + 1)) && !(i == k)) n) w) := by
  have hW : (W : Int) ≤ 12 := hv.2.1
  have hH : (H : Int) ≤ 12 := hv.2.2.2.1
  have HC := Lib.hid hc
  clear hc
  go_enter Try.func31, Try.ntmps31
  go_wp2_with fail
  have HQ := Sq.new w (W : Int) (H : Int) (.slice (some ⟨g, 0, none⟩) n n) 31
  have B := al (Below.refl w.heap.size w) (.cells #[.int .i8 (W : Int), .int .i8 (H : Int), .slice (some ⟨g, 0, none⟩) n n] 31)
  obtain ⟨W0, hW0⟩ : ∃ W0 : World, W0 = (w.alloc (.cells #[.int .i8 (W : Int), .int .i8 (H : Int), .slice (some ⟨g, 0, none⟩) n n] 31)) := ⟨_, rfl⟩
  rw [← hW0] at HQ B ⊢
  clear hW0
  refine (liftSlab.index_any W H k w.heap.size g n _ hm HQ).mono ?_
  rintro e w1 ⟨rfl, hb⟩
  replace HQ := HQ.below hb
  replace B := nxt B hb
  clear hb
  rw [decide_eq_true (show (0 : Int) ≤ k ∧ (k : Int) < n by omega)]
  go_wp2_with fail
  refine (told_ok W H w.heap.size g n c true _ (by omega) (by omega) HC.out hm HQ (hrow.of_block (B.block _ hrow.lt)) hv).mono ?_
  rintro e wz ⟨rfl, hb⟩
  replace HQ := HQ.below hb
  replace B := nxt B hb
  clear hb
  go_wp2_with fail
  refine (l01Beside_any W H g n k w.heap.size c _ HC.out hm HQ (hrow.of_block (B.block _ hrow.lt)) hv hk).mono ?_
  rintro e w3 ⟨hb, v, rfl, O⟩
  have hs := B.size
  replace B := nxt B hb
  clear hb HQ
  go_wp2_with fail
  exact bodyPost_ret (results_tmp2 Try.results31 _ _ _) rfl ⟨B, v, rfl, O.mono hs⟩

theorem impl_bad (X Y k : Int) (g n : Nat) (c : Nat → Int) (w : World) (hX : -128 ≤ X ∧ X ≤ 127) (hY : -128 ≤ Y ∧ Y ≤ 127) (hc : ∀ j, -128 ≤ c j ∧ c j ≤ 127) (hm : n ≤ 1048576) (hrow : w.rowIs g 110 (4 * n) (fun j => .int .i8 (c j))) (hv : ¬ Valid X Y n c) :
    Calls Try.prog 32 #[.agg #[.int .i8 X, .int .i8 Y, .slice (some ⟨g, 0, none⟩) n n], .int .i64 k] w (BsPost 1 [] w) := by
  have HC := Lib.hid hc
  clear hc
  go_enter Try.func32, Try.ntmps32
  go_wp2_with fail
  have HQ := Sq.new w X Y (.slice (some ⟨g, 0, none⟩) n n) 31
  have B := al (Below.refl w.heap.size w) (.cells #[.int .i8 X, .int .i8 Y, .slice (some ⟨g, 0, none⟩) n n] 31)
  obtain ⟨W0, hW0⟩ : ∃ W0 : World, W0 = (w.alloc (.cells #[.int .i8 X, .int .i8 Y, .slice (some ⟨g, 0, none⟩) n n] 31)) := ⟨_, rfl⟩
  rw [← hW0] at HQ B ⊢
  clear hW0
  refine (implValid_any X Y g n c _ hX hY HC.out hm (hrow.of_block (B.block _ hrow.lt))).mono ?_
  rintro e wz ⟨hb, ⟨h, rfl⟩ | ⟨h, rfl⟩⟩
  case inl => exact absurd h hv
  replace B := nxt B hb
  clear hb
  go_wp2_with fail
  exact bodyPost_ret (results_tmp2 Try.results32 _ _ _) rfl ⟨B, _, rfl, OwnI.nil _ _⟩
theorem impl_out (X Y k : Int) (g n : Nat) (c : Nat → Int) (w : World) (hX : -128 ≤ X ∧ X ≤ 127) (hY : -128 ≤ Y ∧ Y ≤ 127) (hc : ∀ j, -128 ≤ c j ∧ c j ≤ 127) (hm : n ≤ 1048576) (hrow : w.rowIs g 110 (4 * n) (fun j => .int .i8 (c j))) (hv : Valid X Y n c) (hk : ¬ (0 ≤ k ∧ k < n)) :
    Calls Try.prog 32 #[.agg #[.int .i8 X, .int .i8 Y, .slice (some ⟨g, 0, none⟩) n n], .int .i64 k] w (BsPost 2 [] w) := by
  have HC := Lib.hid hc
  clear hc
  go_enter Try.func32, Try.ntmps32
  go_wp2_with fail
  have HQ := Sq.new w X Y (.slice (some ⟨g, 0, none⟩) n n) 31
  have B := al (Below.refl w.heap.size w) (.cells #[.int .i8 X, .int .i8 Y, .slice (some ⟨g, 0, none⟩) n n] 31)
  obtain ⟨W0, hW0⟩ : ∃ W0 : World, W0 = (w.alloc (.cells #[.int .i8 X, .int .i8 Y, .slice (some ⟨g, 0, none⟩) n n] 31)) := ⟨_, rfl⟩
  rw [← hW0] at HQ B ⊢
  clear hW0
  refine (implValid_any X Y g n c _ hX hY HC.out hm (hrow.of_block (B.block _ hrow.lt))).mono ?_
  rintro e wz ⟨hb, ⟨h, rfl⟩ | ⟨h, rfl⟩⟩
  case inr => exact absurd hv h
  replace HQ := HQ.below hb
  replace B := nxt B hb
  clear hb h
  obtain ⟨lq, pq, qq, rq⟩ := id HQ
  go_wp2_with fail
  refine (liftSlab.hasSlab_any X Y k _ n _ _ hm).mono ?_
  rw [decide_eq_false hk]
  rintro e wz ⟨rfl, hb⟩
  replace B := nxt B hb
  clear hb lq pq qq rq
  go_wp2_with fail
  exact bodyPost_ret (results_tmp2 Try.results32 _ _ _) rfl ⟨B, _, rfl, OwnI.nil _ _⟩
theorem impl_in (W H k g n : Nat) (c : Nat → Int) (w : World) (hc : ∀ j, -128 ≤ c j ∧ c j ≤ 127) (hm : n ≤ 1048576) (hrow : w.rowIs g 110 (4 * n) (fun j => .int .i8 (c j))) (hv : Valid W H n c) (hk : k < n) :
    Calls Try.prog 32 #[.agg #[.int .i8 (W : Int), .int .i8 (H : Int), .slice (some ⟨g, 0, none⟩) n n], .int .i64 (k : Int)] w (BsPost 0 (pickL (fun i => bS (mkS (gridN c n) W ((k : Int) + 1) H 0 ((i : Int) + 1)) && !(i == k)) n) w) := by
  have hW : (W : Int) ≤ 12 := hv.2.1
  have hH : (H : Int) ≤ 12 := hv.2.2.2.1
  have hn60 : n ≤ 60 := hv.2.2.2.2.1
  have HC := Lib.hid hc
  clear hc
  go_enter Try.func32, Try.ntmps32
  go_wp2_with fail
  have HQ := Sq.new w (W : Int) (H : Int) (.slice (some ⟨g, 0, none⟩) n n) 31
  have B := al (Below.refl w.heap.size w) (.cells #[.int .i8 (W : Int), .int .i8 (H : Int), .slice (some ⟨g, 0, none⟩) n n] 31)
  obtain ⟨W0, hW0⟩ : ∃ W0 : World, W0 = (w.alloc (.cells #[.int .i8 (W : Int), .int .i8 (H : Int), .slice (some ⟨g, 0, none⟩) n n] 31)) := ⟨_, rfl⟩
  rw [← hW0] at HQ B ⊢
  clear hW0
  refine (implValid_any W H g n c _ (by omega) (by omega) HC.out hm (hrow.of_block (B.block _ hrow.lt))).mono ?_
  rintro e wz ⟨hb, ⟨h, rfl⟩ | ⟨h, rfl⟩⟩
  case inr => exact absurd hv h
  replace HQ := HQ.below hb
  replace B := nxt B hb
  clear hb h
  obtain ⟨lq, pq, qq, rq⟩ := id HQ
  go_wp2_with fail
  refine (liftSlab.hasSlab_any W H k _ n _ _ hm).mono ?_
  rw [decide_eq_true (show (0 : Int) ≤ k ∧ (k : Int) < n by omega)]
  rintro e w2 ⟨rfl, hb⟩
  replace HQ := HQ.below hb
  replace B := nxt B hb
  clear hb lq pq qq rq
  obtain ⟨lq, pq, qq, rq⟩ := id HQ
  go_wp2_with fail
  refine (gridOf_any W H g n c _ HC.out hv (hrow.of_block (B.block _ hrow.lt))).mono ?_
  rintro e w3 ⟨hb, cs, rfl, hsz, hone, hcell⟩
  replace HQ := HQ.below hb
  replace B := nxt B hb
  clear hb lq pq qq rq
  have hG : (w3.alloc (.cells Try.zeroCells105 105)).heap[w3.heap.size]? = some (.cells Try.zeroCells105 105 (0, 0)) := heap_alloc_new w3 _
  have B4 := below_setRow (al B (.cells Try.zeroCells105 105)) B.size cs
  have HQ4 : Sq ((w3.alloc (.cells Try.zeroCells105 105)).setRow w3.heap.size cs) w.heap.size W H (.slice (some ⟨g, 0, none⟩) n n) := (HQ.alloc _).of_block (by rw [setRow_size]; exact Nat.le_refl _) (setRow_other _ _ _ _ (by have := HQ.1; omega))
  have R4 : ((w3.alloc (.cells Try.zeroCells105 105)).setRow w3.heap.size cs).rowIs w3.heap.size 105 144 (fun p => .int .i8 (gridN c n p)) := ⟨cs, setRow_heap _ _ _ _ _ _ hG, hsz, hcell⟩
  obtain ⟨W4, hW4⟩ : ∃ W4 : World, W4 = ((w3.alloc (.cells Try.zeroCells105 105)).setRow w3.heap.size cs) := ⟨_, rfl⟩
  go_wp2_with (first
    | (refine wpList_store_row rfl 105 (.tmp 6) (.tmp 15) rfl w3.heap.size cs rfl rfl 105 Try.zeroCells105 (heap_alloc_new w3 _) (by rw [infoGrid, hsz]) (by rw [zi_size, hsz]) hone ?_
       rw [← hW4] at B4 R4 HQ4 ⊢
       clear hW4 hG HQ B hcell hone hsz
       obtain ⟨lq, pq, qq, rq⟩ := id HQ4))
  refine (callsIn_wide.1 (besideOf_in W H g n k w3.heap.size c (gridN c n) _ hn60 hk HC.out (slab_in hv hk) (fun p => by have := grid_nonneg c n p; omega) (hrow.of_block (B4.block _ hrow.lt)) R4)).mono ?_
  rintro e w5 ⟨hb, v, rfl, O⟩
  rw [same_list hv hk] at O
  have hs := B4.size
  replace B4 := nxt B4 hb
  clear hb lq pq qq rq
  go_wp2_with fail
  exact bodyPost_ret (results_tmp2 Try.results32 _ _ _) rfl ⟨B4, v, rfl, O.mono hs⟩

theorem both (X Y : Int) (n : Nat) (c : Nat → Int) (k : Int) (hX : -128 ≤ X ∧ X ≤ 127) (hY : -128 ≤ Y ∧ Y ≤ 127) (hc : ∀ j, -128 ≤ c j ∧ c j ≤ 127) (hm : n ≤ 1048576) (bk : (Lit.int .i64 k).wf = true) :
    ∃ (z1 : Int) (nn : Nat) (ff : Nat → Int), nn ≤ 1000 ∧
      (∀ (W : World) (G0 : Nat), Ab W G0 n c → Calls Try.prog 31 #[.agg #[.int .i8 X, .int .i8 Y, .slice (some ⟨G0, 0, none⟩) n n], .int .i64 k] W fun e w' => Below W.heap.size W w' ∧ ∃ v, e = .returned (.tuple #[v, .int .i64 z1]) ∧ HasSlice .i64 1 w' W.heap.size v nn ff) ∧
      (∀ (W : World) (G0 : Nat), Ab W G0 n c → Calls Try.prog 32 #[.agg #[.int .i8 X, .int .i8 Y, .slice (some ⟨G0, 0, none⟩) n n], .int .i64 k] W fun e w' => Below W.heap.size W w' ∧ ∃ v, e = .returned (.tuple #[v, .int .i64 z1]) ∧ HasSlice .i64 1 w' W.heap.size v nn ff) := by
  have key : ∀ (code : Int) (L : List Int), L.length ≤ 1000 → (∀ (W : World) (G0 : Nat), Ab W G0 n c → Calls Try.prog 31 #[.agg #[.int .i8 X, .int .i8 Y, .slice (some ⟨G0, 0, none⟩) n n], .int .i64 k] W (BsPost code L W)) → (∀ (W : World) (G0 : Nat), Ab W G0 n c → Calls Try.prog 32 #[.agg #[.int .i8 X, .int .i8 Y, .slice (some ⟨G0, 0, none⟩) n n], .int .i64 k] W (BsPost code L W)) → ∃ (z1 : Int) (nn : Nat) (ff : Nat → Int), nn ≤ 1000 ∧
      (∀ (W : World) (G0 : Nat), Ab W G0 n c → Calls Try.prog 31 #[.agg #[.int .i8 X, .int .i8 Y, .slice (some ⟨G0, 0, none⟩) n n], .int .i64 k] W fun e w' => Below W.heap.size W w' ∧ ∃ v, e = .returned (.tuple #[v, .int .i64 z1]) ∧ HasSlice .i64 1 w' W.heap.size v nn ff) ∧
      (∀ (W : World) (G0 : Nat), Ab W G0 n c → Calls Try.prog 32 #[.agg #[.int .i8 X, .int .i8 Y, .slice (some ⟨G0, 0, none⟩) n n], .int .i64 k] W fun e w' => Below W.heap.size W w' ∧ ∃ v, e = .returned (.tuple #[v, .int .i64 z1]) ∧ HasSlice .i64 1 w' W.heap.size v nn ff) := by
    intro code L hL h1 h2
    have hk : ∀ (W : World) (e : Ending) (w' : World), BsPost code L W e w' → Below W.heap.size W w' ∧ ∃ v, e = .returned (.tuple #[v, .int .i64 code]) ∧ HasSlice .i64 1 w' W.heap.size v L.length (fun j => L.getD j 0) := by
      rintro W e w' ⟨hb, v, he, o⟩
      exact ⟨hb, v, he, o.has⟩
    exact ⟨code, L.length, fun j => L.getD j 0, hL, fun W G0 a => (h1 W G0 a).mono (hk W), fun W G0 a => (h2 W G0 a).mono (hk W)⟩
  by_cases hv : Valid X Y n c
  · by_cases hk : 0 ≤ k ∧ k < n
    · obtain ⟨W', rfl⟩ := Int.eq_ofNat_of_zero_le (show 0 ≤ X by have := hv.1; omega)
      obtain ⟨H', rfl⟩ := Int.eq_ofNat_of_zero_le (show 0 ≤ Y by have := hv.2.2.1; omega)
      obtain ⟨k', rfl⟩ := Int.eq_ofNat_of_zero_le hk.1
      refine key 0 _ ?_ (fun W G0 a => spec_in W' H' k' G0 n c W hc hm a.row hv (by omega)) (fun W G0 a => impl_in W' H' k' G0 n c W hc hm a.row hv (by omega))
      refine Nat.le_trans (pickL_length _ n) ?_
      have := hv.2.2.2.2.1
      omega
    · exact key 2 [] (by simp) (fun W G0 a => spec_out X Y k G0 n c W hX hY hc hm a.row hv hk) (fun W G0 a => impl_out X Y k G0 n c W hX hY hc hm a.row hv hk)
  · exact key 1 [] (by simp) (fun W G0 a => spec_bad X Y k G0 n c W hX hY hc hm a.row hv) (fun W G0 a => impl_bad X Y k G0 n c W hX hY hc hm a.row hv)
end besideSlab
end Go.Proofs.Ytkdakpbkpfigeaa
