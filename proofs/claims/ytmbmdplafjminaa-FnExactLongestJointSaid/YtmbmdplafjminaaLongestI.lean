/-
  The contract of impl.LongestJoint. Conditions stand at each.
-/
import Derived.Test.YtmbmdplafjminaaRows
import Derived.Test.YtmbmdplafjminaaLongestS
import Derived.Test.YtmbmdplafjminaaLink
import Derived.BigRegion
namespace Go.Proofs.Ytmbmdplafjminaa
open Go Go.ChangeShapes Go.WideShapes Go.ChangeAt Go.RowKit
set_option linter.unusedVariables false
set_option linter.unusedSimpArgs false
set_option maxRecDepth 100000
set_option maxHeartbeats 2000000
attribute [local go_sem] Oper.semAt_some

/-- the three boxes of the best row so far. -/
def Bst (b : Nat) (s : JS) (W : World) : Prop :=
  W.heap[b]? = some (.cells #[.int .i8 (s.1.1 : Int), .int .i8 (s.1.2 : Int)] 45 (0, 0)) ∧ W.heap[b + 1]? = some (.cells #[.int .i64 (s.2.1 : Int)] 2 (0, 0)) ∧ W.heap[b + 2]? = some (.cells #[.bool s.2.2] 4 (0, 0))
theorem Bst.below {b : Nat} {s : JS} {W W' : World} (h : Bst b s W) (hb : Below W.heap.size W W') : Bst b s W' :=
  ⟨(hb.block _ (Array.getElem?_eq_some_iff.1 h.1).1).trans h.1, (hb.block _ (Array.getElem?_eq_some_iff.1 h.2.1).1).trans h.2.1, (hb.block _ (Array.getElem?_eq_some_iff.1 h.2.2).1).trans h.2.2⟩

def set4 (W : World) (b : Nat) (x y k : Nat) (v : Bool) : World := (((W.setCell ⟨b, 0, none⟩ (.int .i8 (x : Int))).setCell ⟨b, 1, none⟩ (.int .i8 (y : Int))).setCell ⟨b + 1, 0, none⟩ (.int .i64 (k : Int))).setCell ⟨b + 1 + 1, 0, none⟩ (.bool v)
theorem set4_other {W : World} {b x y k : Nat} {v : Bool} (j : Nat) (h0 : j ≠ b) (h1 : j ≠ b + 1) (h2 : j ≠ b + 2) : (set4 W b x y k v).heap[j]? = W.heap[j]? :=
  (Below.heap_setCell _ ⟨b + 1 + 1, 0, none⟩ _ j h2).trans ((Below.heap_setCell _ ⟨b + 1, 0, none⟩ _ j h1).trans ((Below.heap_setCell _ ⟨b, 1, none⟩ _ j h0).trans (Below.heap_setCell _ ⟨b, 0, none⟩ _ j h0)))
theorem set4_size (W : World) (b x y k : Nat) (v : Bool) : (set4 W b x y k v).heap.size = W.heap.size := by simp [set4]
theorem set4_keeps (W : World) (b x y k : Nat) (v : Bool) (B : Nat) : KeepsFrom B W (set4 W b x y k v) := ((((KeepsOthers.setCell _ _ _).trans (KeepsOthers.setCell _ _ _)).trans (KeepsOthers.setCell _ _ _)).trans (KeepsOthers.setCell _ _ _)).from _
theorem set4_below {A W : World} {b x y k B : Nat} {v : Bool} (h : Below B A W) (hb : B ≤ b) : Below B A (set4 W b x y k v) :=
  (((h.setCell (p := ⟨b, 0, none⟩) hb _).setCell (p := ⟨b, 1, none⟩) hb _).setCell (p := ⟨b + 1, 0, none⟩) (by show B ≤ b + 1; omega) _).setCell (p := ⟨b + 1 + 1, 0, none⟩) (by show B ≤ b + 1 + 1; omega) _
theorem Bst.set4 {b : Nat} {s : JS} {W : World} (h : Bst b s W) (x y k : Nat) (v : Bool) : Bst b ((x, y), k, v) (set4 W b x y k v) := by
  have g1 := heap_setCell_same W b 0 _ _ (.int .i8 (x : Int)) h.1
  have g2 := heap_setCell_same _ b 1 _ _ (.int .i8 (y : Int)) g1
  have k1 := (Below.heap_setCell _ ⟨b, 1, none⟩ (.int .i8 (y : Int)) (b + 1) (by simp)).trans ((Below.heap_setCell W ⟨b, 0, none⟩ (.int .i8 (x : Int)) (b + 1) (by simp)).trans h.2.1)
  have k2 := heap_setCell_same _ (b + 1) 0 _ _ (.int .i64 (k : Int)) k1
  have m1 := (Below.heap_setCell _ ⟨b + 1, 0, none⟩ (.int .i64 (k : Int)) (b + 2) (by simp)).trans ((Below.heap_setCell _ ⟨b, 1, none⟩ (.int .i8 (y : Int)) (b + 2) (by simp)).trans ((Below.heap_setCell W ⟨b, 0, none⟩ (.int .i8 (x : Int)) (b + 2) (by simp)).trans h.2.2))
  have m2 := heap_setCell_same _ (b + 2) 0 _ _ (.bool v) m1
  refine ⟨?_, ?_, m2⟩
  · exact (Below.heap_setCell _ ⟨b + 1 + 1, 0, none⟩ _ b (by simp; omega)).trans ((Below.heap_setCell _ ⟨b + 1, 0, none⟩ _ b (by simp)).trans g2)
  · exact (Below.heap_setCell _ ⟨b + 1 + 1, 0, none⟩ _ (b + 1) (by simp)).trans k2

theorem cell_and3 {fn : Func} (h : fn.results = #[.cell 2 45, .tmp 3, .tmp 4, .tmp 5]) (tmps : Array Value) (w : World) (b : Nat) (x y : Int) (v3 v4 v5 : Value) (h2 : tmps[2]? = some (.pointer (some ⟨b, 0, none⟩))) (h3 : tmps[3]? = some v3) (h4 : tmps[4]? = some v4) (h5 : tmps[5]? = some v5)
    (h1 : w.heap[b]? = some (.cells #[.int .i8 x, .int .i8 y] 45 (0, 0))) :
    (results fn tmps).run Try.prog w = .ok (.tuple #[.agg #[.int .i8 x, .int .i8 y], v3, v4, v5]) w := by
  have c0 := cell_of_row w b 0 _ _ _ h1
  have c1 := cell_of_row w b 1 _ _ _ h1
  simp at c0 c1
  simp [results, h, go_sem, h2, h3, h4, h5, c0, c1]

theorem implLong_in (W H g n : Nat) (c : Nat → Int) (w : World) (hc : ∀ j, -128 ≤ c j ∧ c j ≤ 127) (hm : n ≤ 1048576) (hrow : w.rowIs g 58 (4 * n) (fun j => .int .i8 (c j))) (hv : Valid W H n c) :
    CallsIn Fence.wide 7 Try.prog 50 #[.agg #[.int .i8 (W : Int), .int .i8 (H : Int), .slice (some ⟨g, 0, none⟩) n n]] w fun e w' => e = .returned (LongRes (bestJ (gridN c n) (allC W (W * H)))) ∧ Below w.heap.size w w' := by
  have hro : Fence.wide.round = none := rfl
  have hW0 : 1 ≤ W := by have := hv.1; omega
  have hW : W ≤ 12 := by have := hv.2.1; omega
  have hH : H ≤ 12 := by have := hv.2.2.2.1; omega
  have hWi : (W : Int) ≤ 12 := by omega
  have hHi : (H : Int) ≤ 12 := by omega
  have HC := Lib.hid hc
  clear hc
  refine callsIn_of_wp_marks Try.func50 rfl trivial ?_ hro
  simp only [Try.ntmps50, List.size_toArray, List.length_cons, List.length_nil, Nat.reduceAdd, Nat.reduceSub, Array.replicate_succ, Array.replicate_zero, List.push_toArray, List.append_toArray, List.nil_append, List.cons_append]
  have HQ := (Sq.new w (W : Int) (H : Int) (.slice (some ⟨g, 0, none⟩) n n) 32).alloc (.cells #[.int .i8 0, .int .i8 0] 45)
  have B := al (al (Below.refl w.heap.size w) (.cells #[.int .i8 (W : Int), .int .i8 (H : Int), .slice (some ⟨g, 0, none⟩) n n] 32)) (.cells #[.int .i8 0, .int .i8 0] 45)
  have H2 : ((w.alloc (.cells #[.int .i8 (W : Int), .int .i8 (H : Int), .slice (some ⟨g, 0, none⟩) n n] 32)).alloc (.cells #[.int .i8 0, .int .i8 0] 45)).heap[w.heap.size + 1]? = some (.cells #[.int .i8 0, .int .i8 0] 45 (0, 0)) := by
    have := heap_alloc_new (w.alloc (.cells #[.int .i8 (W : Int), .int .i8 (H : Int), .slice (some ⟨g, 0, none⟩) n n] 32)) (.cells #[.int .i8 0, .int .i8 0] 45)
    simpa using this
  replace H2 := Lib.hid H2
  gi_wp2_with fail
  obtain ⟨Wa, hWa⟩ : ∃ Wa, ((w.alloc (.cells #[.int .i8 (W : Int), .int .i8 (H : Int), .slice (some ⟨g, 0, none⟩) n n] 32)).alloc (.cells #[.int .i8 0, .int .i8 0] 45)) = Wa := ⟨_, rfl⟩
  rw [hWa] at HQ B H2 ⊢
  have ha1 : w.heap.size + 1 < Wa.heap.size := by rw [← hWa]; simp
  clear hWa
  refine ⟨trivial, (callsIn_wide.2 (implValid_any W H g n c _ (by omega) (by omega) HC.out hm (hrow.of_block (B.block _ hrow.lt)))).mono ?_⟩
  rintro e w1 ⟨hb, ⟨h, rfl⟩ | ⟨h, _⟩⟩
  case inr => exact absurd hv h
  clear h
  replace H2 := Lib.hid ((hb.block _ ha1).trans H2.out)
  replace ha1 := Nat.lt_of_lt_of_le ha1 hb.size
  replace HQ := HQ.below hb
  replace B := nxt B hb
  clear hb
  obtain ⟨lq, pq, qq, rq⟩ := id HQ
  gi_wp2_with (refine ⟨trivial, ?_⟩; gi_at_call 72; refine (callsIn_wide.2 (gridOf_any W H g n c _ HC.out hv (hrow.of_block (B.block _ hrow.lt)))).mono ?_)
  rintro e w3 ⟨hb, cs, rfl, hsz, hone, hcell⟩
  replace H2 := Lib.hid ((hb.block _ ha1).trans H2.out)
  replace ha1 := Nat.lt_of_lt_of_le ha1 hb.size
  replace HQ := HQ.below hb
  replace B := nxt B hb
  clear hb lq pq qq rq
  have hG : (w3.alloc (.cells Try.zeroCells82 82)).heap[w3.heap.size]? = some (.cells Try.zeroCells82 82 (0, 0)) := heap_alloc_new w3 _
  have B4 := below_setRow (al B (.cells Try.zeroCells82 82)) B.size cs
  have R4 : ((w3.alloc (.cells Try.zeroCells82 82)).setRow w3.heap.size cs).rowIs w3.heap.size 82 144 (fun p => .int .i8 (gridN c n p)) := ⟨cs, setRow_heap _ _ _ _ _ _ hG, hsz, hcell⟩
  have HQ4 : Sq ((w3.alloc (.cells Try.zeroCells82 82)).setRow w3.heap.size cs) w.heap.size W H (.slice (some ⟨g, 0, none⟩) n n) := (HQ.alloc _).of_block (by rw [setRow_size]; exact Nat.le_refl _) (setRow_other _ _ _ _ (by have := HQ.1; omega))
  have H24 : ((w3.alloc (.cells Try.zeroCells82 82)).setRow w3.heap.size cs).heap[w.heap.size + 1]? = some (.cells #[.int .i8 0, .int .i8 0] 45 (0, 0)) := (setRow_other _ _ _ _ (by omega)).trans ((Below.heap_alloc _ _ _ ha1).trans H2.out)
  obtain ⟨W4, hW4⟩ : ∃ W4 : World, W4 = ((w3.alloc (.cells Try.zeroCells82 82)).setRow w3.heap.size cs) := ⟨_, rfl⟩
  have hs4 : w.heap.size + 1 < W4.heap.size := by rw [hW4, setRow_size]; simp; omega
  gi_wp2_with (first
    | (refine wpListIn_store_row rfl 82 (.tmp 6) (.tmp 18) rfl w3.heap.size cs rfl rfl 82 Try.zeroCells82 (heap_alloc_new w3 _) (by rw [infoGrid, hsz]) (by rw [zi_size, hsz]) hone ?_
       rw [← hW4] at B4 HQ4 R4 H24 ⊢
       clear hW4 hG HQ B hcell H2
       replace H24 := Lib.hid H24
       obtain ⟨lq, pq, qq, rq⟩ := id HQ4
       have hl1 : w.heap.size < W4.heap.size + 1 := by omega
       have hl2 : w.heap.size < W4.heap.size + 1 + 1 := by omega
       have hl3 : w.heap.size < W4.heap.size + 2 := by omega))
  refine ⟨trivial, ?_⟩
  have hB6 : Below w.heap.size w (((W4.alloc (.cells #[.int .i8 0, .int .i8 0] 45)).alloc (.cells #[.int .i64 0] 2)).alloc (.cells #[.bool false] 4)) := al (al (al B4 _) _) _
  have hs6 : (((W4.alloc (.cells #[.int .i8 0, .int .i8 0] 45)).alloc (.cells #[.int .i64 0] 2)).alloc (.cells #[.bool false] 4)).heap.size = W4.heap.size + 3 := by simp
  have z0 : (((W4.alloc (.cells #[.int .i8 0, .int .i8 0] 45)).alloc (.cells #[.int .i64 0] 2)).alloc (.cells #[.bool false] 4)).heap[W4.heap.size]? = some (.cells #[.int .i8 0, .int .i8 0] 45 (0, 0)) := by
    refine (Below.heap_alloc _ _ _ (by simp; try omega)).trans ?_
    refine (Below.heap_alloc _ _ _ (by simp; try omega)).trans ?_
    have := heap_alloc_new W4 (.cells #[.int .i8 0, .int .i8 0] 45)
    simpa using this
  have z1 : (((W4.alloc (.cells #[.int .i8 0, .int .i8 0] 45)).alloc (.cells #[.int .i64 0] 2)).alloc (.cells #[.bool false] 4)).heap[W4.heap.size + 1]? = some (.cells #[.int .i64 0] 2 (0, 0)) := by
    refine (Below.heap_alloc _ _ _ (by simp; try omega)).trans ?_
    have := heap_alloc_new (W4.alloc (.cells #[.int .i8 0, .int .i8 0] 45)) (.cells #[.int .i64 0] 2)
    simpa using this
  have z2 : (((W4.alloc (.cells #[.int .i8 0, .int .i8 0] 45)).alloc (.cells #[.int .i64 0] 2)).alloc (.cells #[.bool false] 4)).heap[W4.heap.size + 2]? = some (.cells #[.bool false] 4 (0, 0)) := by
    have := heap_alloc_new ((W4.alloc (.cells #[.int .i8 0, .int .i8 0] 45)).alloc (.cells #[.int .i64 0] 2)) (.cells #[.bool false] 4)
    simpa using this
  have z3 : (((W4.alloc (.cells #[.int .i8 0, .int .i8 0] 45)).alloc (.cells #[.int .i64 0] 2)).alloc (.cells #[.bool false] 4)).heap[w.heap.size + 1]? = some (.cells #[.int .i8 0, .int .i8 0] 45 (0, 0)) := (Below.heap_alloc _ _ _ (by simp; omega)).trans ((Below.heap_alloc _ _ _ (by simp; omega)).trans ((Below.heap_alloc _ _ _ (by omega)).trans H24.out))
  have hG6 := ((R4.alloc (.cells #[.int .i8 0, .int .i8 0] 45)).alloc (.cells #[.int .i64 0] 2)).alloc (.cells #[.bool false] 4)
  obtain ⟨W6, hW6⟩ : ∃ W6, (((W4.alloc (.cells #[.int .i8 0, .int .i8 0] 45)).alloc (.cells #[.int .i64 0] 2)).alloc (.cells #[.bool false] 4)) = W6 := ⟨_, rfl⟩
  rw [hW6] at hB6 hs6 z0 z1 z2 z3 hG6 ⊢
  clear hW6
  have hgs : w3.heap.size < W4.heap.size := R4.lt
  clear hl1 hl2 hl3 lq pq qq rq HQ4 R4 B4 H24
  refine (whole_in Fence.wide 6 trivial hro _ _ _ _).mono ?_
  rintro e w7 ⟨rfl, hb⟩
  replace hB6 := nxt hB6 hb
  replace z0 := (hb.block _ (by omega)).trans z0
  replace z1 := (hb.block _ (by omega)).trans z1
  replace z2 := (hb.block _ (by omega)).trans z2
  replace z3 := (hb.block _ (by omega)).trans z3
  replace hG6 := rowNext0 hG6 hb
  have hs7 : W4.heap.size + 3 ≤ w7.heap.size := by have := hb.size; omega
  clear hb hs6
  have Z0 := Lib.hid z0
  have Z1 := Lib.hid z1
  have Z2 := Lib.hid z2
  have Z3 := Lib.hid z3
  clear z0 z1 z2 z3
  gi_wp2_with (refine ⟨trivial, ?_⟩; gi_at_call 75; refine (cellsOf_in Fence.wide 6 trivial hro _ _ _ _ _).mono ?_; rintro e w' ⟨rfl, rfl⟩)
  obtain ⟨W0, hW0'⟩ : ∃ W0, w7.alloc (.cells #[.int .i8 0, .int .i8 0, .int .i8 (W : Int), .int .i8 (H : Int)] 58) = W0 := ⟨_, rfl⟩
  have B0 : Below w.heap.size w W0 := by rw [← hW0']; exact al hB6 _
  have zs : Sl W0 w7.heap.size 0 0 W H := by rw [← hW0']; exact Sl.new w7 0 0 W H 58
  have hs0 : W0.heap.size = w7.heap.size + 1 := by rw [← hW0']; simp
  have hG0 : W0.rowIs w3.heap.size 82 144 (fun p => .int .i8 (gridN c n p)) := by rw [← hW0']; exact hG6.alloc _
  have y0 : W0.heap[W4.heap.size]? = some (.cells #[.int .i8 0, .int .i8 0] 45 (0, 0)) := by rw [← hW0']; exact (Below.heap_alloc _ _ _ (by omega)).trans Z0.out
  have y1 : W0.heap[W4.heap.size + 1]? = some (.cells #[.int .i64 0] 2 (0, 0)) := by rw [← hW0']; exact (Below.heap_alloc _ _ _ (by omega)).trans Z1.out
  have y2 : W0.heap[W4.heap.size + 2]? = some (.cells #[.bool false] 4 (0, 0)) := by rw [← hW0']; exact (Below.heap_alloc _ _ _ (by omega)).trans Z2.out
  have y3 : W0.heap[w.heap.size + 1]? = some (.cells #[.int .i8 0, .int .i8 0] 45 (0, 0)) := by rw [← hW0']; exact (Below.heap_alloc _ _ _ (by omega)).trans Z3.out
  rw [hW0']
  clear hW0' hB6 hG6 Z0 Z1 Z2 Z3
  have hstops := cells_stops Fence.wide 6 trivial hro (by omega) w7.heap.size 0 0 W H (by omega) (by omega) W0 (by simpa using zs)
  refine wpIn_rangeFunc_ownH hro (by omega) (gf := 95) (lb := #[.pointer (some ⟨w7.heap.size, 0, none⟩)]) rfl trivial (enters_of Try.func95 (by kernel_rfl) rfl)
    hstops kpB_trans (kpB_put (by omega)) (Below.refl _ _) (fun _ => rfl)
    (fun pre W' => Below W4.heap.size W0 W' ∧ Bst W4.heap.size (bestJ (gridN c n) (pre.map (·.1))) W')
    (fun _ _ _ => False)
    (fun s X Y row hs hg hr => ⟨ownFrom_below (β := Unit) (n₀ := W4.heap.size) (w₀ := W0) (B := W0.heap.size) (by omega) (by omega) () X Y row hs.1 hg hr, ⟨cellsKept hs.2.1 hg (fun r e => (hr r e).2), cellsKept hs.2.2.1 hg (fun r e => (hr r e).2), cellsKept hs.2.2.2 hg (fun r e => (hr r e).2)⟩⟩)
    (fun _ _ _ _ _ hs _ _ => hs)
    ⟨(Below.refl W0.heap.size W0).mono (by omega), y0, y1, y2⟩
    (fun x a' W' => ∃ Bx, W0.heap.size ≤ Bx ∧ W'.heap[Bx]? = some (.cells #[.int .i8 (x.1.1 : Int), .int .i8 (x.1.2 : Int)] 45 (0, 0)) ∧ a' = { tmps := #[.agg #[.int .i8 (W : Int), .int .i8 (H : Int), .slice (some ⟨g, 0, none⟩) n n], .pointer (some ⟨w.heap.size, 0, none⟩), .pointer (some ⟨w.heap.size + 1, 0, none⟩), .int .i64 0, .bool false, .int .i64 0, .pointer (some ⟨w3.heap.size, 0, none⟩), .pointer (some ⟨W4.heap.size, 0, none⟩), .pointer (some ⟨W4.heap.size + 1, 0, none⟩), .pointer (some ⟨W4.heap.size + 1 + 1, 0, none⟩), .pointer (some ⟨Bx, 0, none⟩), undef, undef, .agg #[.int .i8 (W : Int), .int .i8 (H : Int), .slice (some ⟨g, 0, none⟩) n n], .bool true, .bool false, undef, .agg #[.int .i8 (W : Int), .int .i8 (H : Int), .slice (some ⟨g, 0, none⟩) n n], .agg cs, .agg #[.int .i8 (W : Int), .int .i8 (H : Int), .slice (some ⟨g, 0, none⟩) n n], .agg #[.int .i8 0, .int .i8 0, .int .i8 (W : Int), .int .i8 (H : Int)], .func (.func 95) #[] #[.pointer (some ⟨w7.heap.size, 0, none⟩)], .agg #[.int .i8 (x.1.1 : Int), .int .i8 (x.1.2 : Int)], undef, undef, undef, undef, undef, undef, undef, undef, undef, undef, undef, undef, undef, undef, undef, undef, undef, undef, undef, undef], defers := [] })
    (fun x a' _ X Y row hs hg hr => by obtain ⟨Bx, h1, h2, h3⟩ := hs; exact ⟨Bx, h1, cellsKept h2 hg (fun r e => (hr r e).2), h3⟩)
    ?assign ?body ?done ?stop
  case assign =>
    rintro l pre x W' K ⟨hB1, hall⟩ hK
    dsimp only [encC]
    gi_wp2_with fail
    have hsW := hB1.size
    exact hK _ _ ((KeepsOthers.alloc _ _).from _) (kpB_below ((Below.refl _ W').alloc (Nat.le_refl _) _) (by omega)) ⟨hB1.alloc (by omega) _, hall.below ((Below.refl _ W').alloc (Nat.le_refl _) _)⟩ ⟨W'.heap.size, hB1.size, heap_alloc_new W' _, rfl⟩
  case body =>
    rintro l pre x a' W' hl hrr ⟨hB1, hst⟩ ⟨Bx, hBx, hX, rfl⟩ hlt
    have hsW := hB1.size
    obtain ⟨s, hs⟩ : ∃ s, s = (bestJ (gridN c n) (pre.map (·.1))) := ⟨_, rfl⟩
    rw [← hs] at hst
    have HS := Lib.hid hs
    have HX := Lib.hid hX
    have HST := Lib.hid hst
    clear hs hX hst y0 y1 y2 y3
    have hbB : W4.heap.size + 2 < W0.heap.size := by omega
    have cX0 := cell_of_row W' Bx 0 _ _ _ HX.out
    have cX1 := cell_of_row W' Bx 1 _ _ _ HX.out
    simp at cX0 cX1
    gi_wp2_with fail
    refine ⟨trivial, (CallsIn.inRound l (callsIn_wide.2 (jointsEast_any w3.heap.size x.1.1 x.1.2 (gridN c n) _ x.2.1 x.2.2 (hG0.of_block (hB1.block _ hgs))))).mono ?_⟩
    rintro e w8 ⟨hb, k, hk12, hfn, rfl⟩
    have hke := eastL_eq hfn hk12
    have HKE := Lib.hid hke
    replace HX := Lib.hid ((hb.block _ (Array.getElem?_eq_some_iff.1 HX.out).1).trans HX.out)
    replace HST := Lib.hid (HST.out.below hb)
    have hkA := keepsFrom_below (B := W0.heap.size) hb
    have hpA : KpB w7.heap.size W' w8 := kpB_below hb (by omega)
    replace hB1 := hB1.trans (hb.mono (by omega))
    have hs8 := hB1.size
    clear hb hfn hke cX0 cX1
    have hmid : ∃ Wm, KeepsFrom W0.heap.size W' Wm ∧ KpB w7.heap.size W' Wm ∧ Below W4.heap.size W0 Wm ∧ Wm.heap[Bx]? = some (.cells #[.int .i8 (x.1.1 : Int), .int .i8 (x.1.2 : Int)] 45 (0, 0)) ∧ Bst W4.heap.size (stepE (gridN c n) s x.1) Wm ∧ (Wm = w8 ∧ ¬ s.2.1 < k ∨ Wm = set4 w8 W4.heap.size x.1.1 x.1.2 k true ∧ s.2.1 < k) := by
      by_cases hgt : s.2.1 < k
      · refine ⟨_, hkA.trans (set4_keeps w8 W4.heap.size x.1.1 x.1.2 k true _), kpB_trans hpA ⟨by rw [set4_size]; exact Nat.le_refl _, set4_other _ (by omega) (by omega) (by omega)⟩, set4_below hB1 (Nat.le_refl _), (set4_other _ (by omega) (by omega) (by omega)).trans HX.out, ?_, .inr ⟨rfl, hgt⟩⟩
        have e : stepE (gridN c n) s x.1 = ((x.1.1, x.1.2), k, true) := by unfold stepE; rw [← HKE.out, if_pos hgt]
        rw [e]
        exact HST.out.set4 _ _ _ _
      · refine ⟨w8, hkA, hpA, hB1, HX.out, ?_, .inl ⟨rfl, hgt⟩⟩
        have e : stepE (gridN c n) s x.1 = s := by unfold stepE; rw [← HKE.out, if_neg hgt]
        rw [e]
        exact HST.out
    obtain ⟨Wm, mA, mP, mB, mX, mS, hcase⟩ := hmid
    have cX0 := cell_of_row w8 Bx 0 _ _ _ HX.out
    have cX1 := cell_of_row w8 Bx 1 _ _ _ HX.out
    have e0 := cell_of_row w8 W4.heap.size 0 _ _ _ HST.out.1
    have e1 := cell_of_row w8 W4.heap.size 1 _ _ _ HST.out.1
    have e2 := cell_of_row w8 (W4.heap.size + 1) 0 _ _ _ HST.out.2.1
    have e3 := cell_of_row w8 (W4.heap.size + 2) 0 _ _ _ HST.out.2.2
    have f0 := frozen_of_row w8 W4.heap.size 0 _ _ HST.out.1
    have f1 := frozen_of_row w8 W4.heap.size 1 _ _ HST.out.1
    have f2 := frozen_of_row w8 (W4.heap.size + 1) 0 _ _ HST.out.2.1
    have f3 := frozen_of_row w8 (W4.heap.size + 2) 0 _ _ HST.out.2.2
    simp at cX0 cX1 e0 e1 e2 e3
    have MX := Lib.hid mX
    have MS := Lib.hid mS
    clear mX mS
    rcases hcase with ⟨hWm, hgt⟩ | ⟨hWm, hgt⟩
    · subst hWm
      have hgti : ¬ (s.2.1 : Int) < (k : Int) := by omega
      gi_wp2_with fail
      clear cX0 cX1 e0 e1 e2 e3 f0 f1 f2 f3
      refine ⟨trivial, (CallsIn.inRound l (callsIn_wide.2 (jointsSouth_any w3.heap.size x.1.1 x.1.2 (gridN c n) _ x.2.1 x.2.2 (hG0.of_block (mB.block _ hgs))))).mono ?_⟩
      rintro e w9 ⟨hb, k2, hk212, hfn2, rfl⟩
      have hks := southL_eq hfn2 hk212
      have HKS := Lib.hid hks
      replace HX := Lib.hid ((hb.block _ (Array.getElem?_eq_some_iff.1 MX.out).1).trans MX.out)
      replace HST := Lib.hid (MS.out.below hb)
      have hsm := mB.size
      have nA := mA.trans (keepsFrom_below (B := W0.heap.size) hb)
      have nP := kpB_trans mP (kpB_below hb (by omega))
      have nB := mB.trans (hb.mono (by omega))
      have hs9 := nB.size
      clear hb hfn2 hks
      obtain ⟨s1, hs1⟩ : ∃ s1, s1 = stepE (gridN c n) s x.1 := ⟨_, rfl⟩
      replace HST : Hid (Bst W4.heap.size s1 w9) := by rw [hs1]; exact HST
      have HS1 := Lib.hid hs1
      clear hs1
      have cX0 := cell_of_row w9 Bx 0 _ _ _ HX.out
      have cX1 := cell_of_row w9 Bx 1 _ _ _ HX.out
      have e0 := cell_of_row w9 W4.heap.size 0 _ _ _ HST.out.1
      have e1 := cell_of_row w9 W4.heap.size 1 _ _ _ HST.out.1
      have e2 := cell_of_row w9 (W4.heap.size + 1) 0 _ _ _ HST.out.2.1
      have e3 := cell_of_row w9 (W4.heap.size + 2) 0 _ _ _ HST.out.2.2
      have f0 := frozen_of_row w9 W4.heap.size 0 _ _ HST.out.1
      have f1 := frozen_of_row w9 W4.heap.size 1 _ _ HST.out.1
      have f2 := frozen_of_row w9 (W4.heap.size + 1) 0 _ _ HST.out.2.1
      have f3 := frozen_of_row w9 (W4.heap.size + 2) 0 _ _ HST.out.2.2
      simp at cX0 cX1 e0 e1 e2 e3
      have hfin : bestJ (gridN c n) ((pre ++ [x]).map (·.1)) = stepS (gridN c n) s1 x.1 := by
        rw [List.map_append, List.map_cons, List.map_nil, bestJ_snoc, ← HS.out, ← HS1.out]
      have HFIN := Lib.hid hfin
      clear hfin
      by_cases hgt2 : s1.2.1 < k2
      · have hgti : (s1.2.1 : Int) < (k2 : Int) := by omega
        have e : stepS (gridN c n) s1 x.1 = ((x.1.1, x.1.2), k2, false) := by unfold stepS; rw [← HKS.out, if_pos hgt2]
        have HE := Lib.hid e
        clear e
        gi_wp2
        refine ⟨nA.trans (set4_keeps w9 W4.heap.size x.1.1 x.1.2 k2 false _), kpB_trans nP ⟨by show _ ≤ (set4 w9 W4.heap.size x.1.1 x.1.2 k2 false).heap.size; rw [set4_size]; exact Nat.le_refl _, set4_other _ (by omega) (by omega) (by omega)⟩, set4_below nB (Nat.le_refl _), ?_⟩
        rw [HFIN.out, HE.out]
        exact HST.out.set4 _ _ _ _
      · have hgti : ¬ (s1.2.1 : Int) < (k2 : Int) := by omega
        have e : stepS (gridN c n) s1 x.1 = s1 := by unfold stepS; rw [← HKS.out, if_neg hgt2]
        have HE := Lib.hid e
        clear e
        gi_wp2
        refine ⟨nA, nP, nB, ?_⟩
        rw [HFIN.out, HE.out]
        exact HST.out
    · have hgti : (s.2.1 : Int) < (k : Int) := by omega
      have HWM := Lib.hid hWm
      clear hWm
      have hx1 : Bx ≠ W4.heap.size := by omega
      have hx2 : Bx ≠ W4.heap.size + 1 := by omega
      have hx3 : Bx ≠ W4.heap.size + 2 := by omega
      gi_wp2_with fail
      show _ ∧ CallsIn _ _ _ _ _ (set4 w8 W4.heap.size x.1.1 x.1.2 k true) _
      rw [← HWM.out]
      clear cX0 cX1 e0 e1 e2 e3 f0 f1 f2 f3
      refine ⟨trivial, (CallsIn.inRound l (callsIn_wide.2 (jointsSouth_any w3.heap.size x.1.1 x.1.2 (gridN c n) _ x.2.1 x.2.2 (hG0.of_block (mB.block _ hgs))))).mono ?_⟩
      rintro e w9 ⟨hb, k2, hk212, hfn2, rfl⟩
      have hks := southL_eq hfn2 hk212
      have HKS := Lib.hid hks
      replace HX := Lib.hid ((hb.block _ (Array.getElem?_eq_some_iff.1 MX.out).1).trans MX.out)
      replace HST := Lib.hid (MS.out.below hb)
      have hsm := mB.size
      have nA := mA.trans (keepsFrom_below (B := W0.heap.size) hb)
      have nP := kpB_trans mP (kpB_below hb (by omega))
      have nB := mB.trans (hb.mono (by omega))
      have hs9 := nB.size
      clear hb hfn2 hks
      obtain ⟨s1, hs1⟩ : ∃ s1, s1 = stepE (gridN c n) s x.1 := ⟨_, rfl⟩
      replace HST : Hid (Bst W4.heap.size s1 w9) := by rw [hs1]; exact HST
      have HS1 := Lib.hid hs1
      clear hs1
      have cX0 := cell_of_row w9 Bx 0 _ _ _ HX.out
      have cX1 := cell_of_row w9 Bx 1 _ _ _ HX.out
      have e0 := cell_of_row w9 W4.heap.size 0 _ _ _ HST.out.1
      have e1 := cell_of_row w9 W4.heap.size 1 _ _ _ HST.out.1
      have e2 := cell_of_row w9 (W4.heap.size + 1) 0 _ _ _ HST.out.2.1
      have e3 := cell_of_row w9 (W4.heap.size + 2) 0 _ _ _ HST.out.2.2
      have f0 := frozen_of_row w9 W4.heap.size 0 _ _ HST.out.1
      have f1 := frozen_of_row w9 W4.heap.size 1 _ _ HST.out.1
      have f2 := frozen_of_row w9 (W4.heap.size + 1) 0 _ _ HST.out.2.1
      have f3 := frozen_of_row w9 (W4.heap.size + 2) 0 _ _ HST.out.2.2
      simp at cX0 cX1 e0 e1 e2 e3
      have hfin : bestJ (gridN c n) ((pre ++ [x]).map (·.1)) = stepS (gridN c n) s1 x.1 := by
        rw [List.map_append, List.map_cons, List.map_nil, bestJ_snoc, ← HS.out, ← HS1.out]
      have HFIN := Lib.hid hfin
      clear hfin
      by_cases hgt2 : s1.2.1 < k2
      · have hgti : (s1.2.1 : Int) < (k2 : Int) := by omega
        have e : stepS (gridN c n) s1 x.1 = ((x.1.1, x.1.2), k2, false) := by unfold stepS; rw [← HKS.out, if_pos hgt2]
        have HE := Lib.hid e
        clear e
        gi_wp2
        refine ⟨nA.trans (set4_keeps w9 W4.heap.size x.1.1 x.1.2 k2 false _), kpB_trans nP ⟨by show _ ≤ (set4 w9 W4.heap.size x.1.1 x.1.2 k2 false).heap.size; rw [set4_size]; exact Nat.le_refl _, set4_other _ (by omega) (by omega) (by omega)⟩, set4_below nB (Nat.le_refl _), ?_⟩
        rw [HFIN.out, HE.out]
        exact HST.out.set4 _ _ _ _
      · have hgti : ¬ (s1.2.1 : Int) < (k2 : Int) := by omega
        have e : stepS (gridN c n) s1 x.1 = s1 := by unfold stepS; rw [← HKS.out, if_neg hgt2]
        have HE := Lib.hid e
        clear e
        gi_wp2
        refine ⟨nA, nP, nB, ?_⟩
        rw [HFIN.out, HE.out]
        exact HST.out
  case done =>
    rintro D zs' W' hD rfl ⟨hB1, hst⟩ hK
    obtain ⟨s, hs⟩ : ∃ s, s = (bestJ (gridN c n) ((uptoC 0 0 W (W * H)).map (·.1))) := ⟨_, rfl⟩
    rw [← hs] at hst
    have hse : s = bestJ (gridN c n) (allC W (W * H)) := by rw [hs, upto_all hW hH _ (Nat.le_refl _)]
    have HSE := Lib.hid hse
    have HST := Lib.hid hst
    have hY3 := (hB1.block _ (by omega)).trans y3
    have e0 := cell_of_row W' W4.heap.size 0 _ _ _ HST.out.1
    have e1 := cell_of_row W' W4.heap.size 1 _ _ _ HST.out.1
    have e2 := cell_of_row W' (W4.heap.size + 1) 0 _ _ _ HST.out.2.1
    have e3 := cell_of_row W' (W4.heap.size + 2) 0 _ _ _ HST.out.2.2
    have d0 := cell_of_row W' (w.heap.size + 1) 0 _ _ _ hY3
    have d1 := cell_of_row W' (w.heap.size + 1) 1 _ _ _ hY3
    have f0 := frozen_of_row W' (w.heap.size + 1) 0 _ _ hY3
    have f1 := frozen_of_row W' (w.heap.size + 1) 1 _ _ hY3
    simp at e0 e1 e2 e3 d0 d1
    have HY3 := Lib.hid hY3
    have hne : w.heap.size + 1 ≠ W4.heap.size := by omega
    have hne1 : w.heap.size + 1 ≠ W4.heap.size + 1 := by omega
    have hne2 : w.heap.size + 1 ≠ W4.heap.size + 2 := by omega
    clear hs hst hse hY3 y0 y1 y2 y3
    by_cases hz : s.2.1 = 0
    · have hzi : ((s.2.1 : Int) == 0) = true := by simp [hz]
      have hres : LongRes s = .tuple #[.agg #[.int .i8 0, .int .i8 0], .int .i64 0, .bool false, .int .i64 6] := if_pos hz
      have HRES := Lib.hid hres
      clear hz hres
      gi_wp2
      have g1 := heap_setCell_same W' (w.heap.size + 1) 0 _ _ (.int .i8 0) HY3.out
      have g2 := heap_setCell_same _ (w.heap.size + 1) 1 _ _ (.int .i8 0) g1
      have hBw := B0.trans (hB1.mono (by omega))
      have hBf := (hBw.setCell (p := ⟨w.heap.size + 1, 0, none⟩) (by simp) (.int .i8 0)).setCell (p := ⟨w.heap.size + 1, 1, none⟩) (by simp) (.int .i8 0)
      have hKf := ((KeepsOthers.setCell W' ⟨w.heap.size + 1, 0, none⟩ (.int .i8 0)).trans (KeepsOthers.setCell _ ⟨w.heap.size + 1, 1, none⟩ (.int .i8 0))).same D _ hK rfl
      clear g1 e0 e1 e2 e3 d0 d1 f0 f1 HY3 hK
      refine ⟨by simp, .inl ⟨_, _, rfl, run_takeDeferred hKf, ?_⟩⟩
      have m4 := cellsKept g2 (grownBy_putObj' _ D (.deferred none)) (fun r e => by cases e; exact ⟨_, hKf, rfl⟩)
      refine ⟨.tuple #[.agg #[.int .i8 0, .int .i8 0], .int .i64 0, .bool false, .int .i64 6], ?_, by rw [← HSE.out, HRES.out], hBf.trans (belowK_b (w := w) (Nat.le_refl _) _ D _ _ (by omega) hKf rfl rfl)⟩
      exact cell_and3 Try.results50 _ _ (w.heap.size + 1) _ _ _ _ _ rfl rfl rfl rfl m4
    · have hzi : ((s.2.1 : Int) == 0) = false := by simp [hz]
      have hres : LongRes s = .tuple #[.agg #[.int .i8 (s.1.1 : Int), .int .i8 (s.1.2 : Int)], .int .i64 (s.2.1 : Int), .bool s.2.2, .int .i64 0] := if_neg hz
      have HRES := Lib.hid hres
      clear hz hres
      gi_wp2_with fail
      gi_region
      gi_wp2
      have g1 := heap_setCell_same W' (w.heap.size + 1) 0 _ _ (.int .i8 (s.1.1 : Int)) HY3.out
      have g2 : (((W'.setCell ⟨w.heap.size + 1, 0, none⟩ (.int .i8 (s.1.1 : Int))).setCell ⟨w.heap.size + 1, 1, none⟩ (.int .i8 (s.1.2 : Int))).drew).heap[w.heap.size + 1]? = some (.cells #[.int .i8 (s.1.1 : Int), .int .i8 (s.1.2 : Int)] 45 (0, 0)) := heap_setCell_same _ (w.heap.size + 1) 1 _ _ (.int .i8 (s.1.2 : Int)) g1
      have hBw := B0.trans (hB1.mono (by omega))
      have hBf := ((hBw.setCell (p := ⟨w.heap.size + 1, 0, none⟩) (by simp) (.int .i8 (s.1.1 : Int))).setCell (p := ⟨w.heap.size + 1, 1, none⟩) (by simp) (.int .i8 (s.1.2 : Int))).drew
      have hKf : (((W'.setCell ⟨w.heap.size + 1, 0, none⟩ (.int .i8 (s.1.1 : Int))).setCell ⟨w.heap.size + 1, 1, none⟩ (.int .i8 (s.1.2 : Int))).drew).heap[D]? = some (.deferred (some [])) := ((KeepsOthers.setCell W' ⟨w.heap.size + 1, 0, none⟩ (.int .i8 (s.1.1 : Int))).trans (KeepsOthers.setCell _ ⟨w.heap.size + 1, 1, none⟩ (.int .i8 (s.1.2 : Int)))).same D _ hK rfl
      clear g1 e0 e1 e2 e3 d0 d1 f0 f1 HY3 hK
      refine ⟨by simp, .inl ⟨_, _, rfl, run_takeDeferred hKf, ?_⟩⟩
      have m4 := cellsKept g2 (grownBy_putObj' _ D (.deferred none)) (fun r e => by cases e; exact ⟨_, hKf, rfl⟩)
      refine ⟨.tuple #[.agg #[.int .i8 (s.1.1 : Int), .int .i8 (s.1.2 : Int)], .int .i64 (s.2.1 : Int), .bool s.2.2, .int .i64 0], ?_, by rw [← HSE.out, HRES.out], hBf.trans (belowK_b (w := w) (Nat.le_refl _) _ D _ _ (by omega) hKf rfl rfl)⟩
      exact cell_and3 Try.results50 _ _ (w.heap.size + 1) _ _ _ _ _ rfl rfl rfl rfl m4
  case stop =>
    rintro D c pre W _ _ h _
    exact h.elim
end Go.Proofs.Ytmbmdplafjminaa
