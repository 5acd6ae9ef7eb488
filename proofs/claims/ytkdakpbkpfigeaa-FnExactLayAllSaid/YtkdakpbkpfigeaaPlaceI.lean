/-
  The contract of impl.placeFor. Conditions stand at each.
-/
import Derived.Test.YtkdakpbkpfigeaaRows
import Derived.Test.YtkdakpbkpfigeaaPlace
import Derived.Test.YtkdakpbkpfigeaaWhole
import Derived.Test.YtkdakpbkpfigeaaLink
namespace Go.Proofs.Ytkdakpbkpfigeaa
open Go Go.ChangeShapes Go.WideShapes Go.ChangeAt Go.RowKit canPut
set_option linter.unusedVariables false
set_option linter.unusedSimpArgs false
set_option maxRecDepth 100000
set_option maxHeartbeats 2000000
attribute [local go_sem] Oper.semAt_some

theorem fits_iff {W H n x y wd ht : Nat} {c : Nat → Int} (hW : W ≤ 12) (hH : H ≤ 12) (hl : x + wd ≤ W ∧ y + ht ≤ H) : fits W H n c wd ht (x, y) ↔ ∀ k, k < wd * ht → gridN c n (posC (cellAt x y wd k)) = 0 := by
  have e0 := ext0 c n (x : Int) y wd ht
  have e1 := ext1 c n (x : Int) y wd ht
  have e2 := ext2 c n (x : Int) y wd ht
  have e3 := ext3 c n (x : Int) y wd ht
  have hx : x + wd ≤ 12 := by omega
  have hy : y + ht ≤ 12 := by omega
  constructor
  · intro h k hk
    rw [← gridN_ext c n (x : Int) y wd ht]
    refine Classical.byContradiction fun hne => opn_no e0 e1 e2 e3 hx hy ⟨k, hk, hne⟩ h.2.2
  · intro h
    exact ⟨hl.1, hl.2, opn_yes e0 e1 e2 e3 hx hy (fun k hk => by rw [gridN_ext]; exact h k hk)⟩

theorem two_cells {fn : Func} (h : fn.results = #[.cell 8 110, .cell 9 4]) (tmps : Array Value) (w : World) (b1 b2 : Nat) (x y z u : Int) (r : Bool) (h8 : tmps[8]? = some (.pointer (some ⟨b1, 0, none⟩))) (h9 : tmps[9]? = some (.pointer (some ⟨b2, 0, none⟩)))
    (h1 : w.heap[b1]? = some (.cells #[.int .i8 x, .int .i8 y, .int .i8 z, .int .i8 u] 110 (0, 0))) (h2 : w.heap[b2]? = some (.cells #[.bool r] 4 (0, 0))) :
    (results fn tmps).run Try.prog w = .ok (.tuple #[.agg #[.int .i8 x, .int .i8 y, .int .i8 z, .int .i8 u], .bool r]) w := by
  have c0 := cell_of_row w b1 0 _ _ _ h1
  have c1 := cell_of_row w b1 1 _ _ _ h1
  have c2 := cell_of_row w b1 2 _ _ _ h1
  have c3 := cell_of_row w b1 3 _ _ _ h1
  have c4 := cell_of_row w b2 0 _ _ _ h2
  simp at c0 c1 c2 c3 c4
  simp [results, h, go_sem, h8, h9, c0, c1, c2, c3, c4]

theorem placeI_in (W H b g n wd ht : Nat) (c : Nat → Int) (w : World) (hwd : 1 ≤ wd ∧ wd ≤ 12) (hht : 1 ≤ ht ∧ ht ≤ 12) (hv : Valid W H n c) (hG : w.rowIs b 105 144 (fun p => .int .i8 (gridN c n p))) :
    CallsIn Fence.wide 12 Try.prog 84 #[.agg #[.int .i8 (W : Int), .int .i8 (H : Int), .slice (some ⟨g, 0, none⟩) n n], .pointer (some ⟨b, 0, none⟩), .int .i8 (wd : Int), .int .i8 (ht : Int)] w (PlacePost W H n c wd ht w) := by
  have hro : Fence.wide.round = none := rfl
  have hW0 : 1 ≤ W := by have := hv.1; omega
  have hW : W ≤ 12 := by have := hv.2.1; omega
  have hH : H ≤ 12 := by have := hv.2.2.2.1; omega
  have hWi : (W : Int) ≤ 12 := by omega
  have hHi : (H : Int) ≤ 12 := by omega
  refine callsIn_of_wp_marks Try.func84 rfl trivial ?_ hro
  simp only [Try.ntmps84, List.size_toArray, List.length_cons, List.length_nil, Nat.reduceAdd, Nat.reduceSub, Array.replicate_succ, Array.replicate_zero, List.push_toArray, List.append_toArray, List.nil_append, List.cons_append]
  gi_wp2_with fail
  refine ⟨trivial, ?_⟩
  have hB6 : Below w.heap.size w ((((((w.alloc (.cells #[.int .i8 (W : Int), .int .i8 (H : Int), .slice (some ⟨g, 0, none⟩) n n] 31)).alloc (.cells #[.pointer (some ⟨b, 0, none⟩)] 108)).alloc (.cells #[.int .i8 (wd : Int)] 22)).alloc (.cells #[.int .i8 (ht : Int)] 22)).alloc (.cells #[.int .i8 0, .int .i8 0, .int .i8 0, .int .i8 0] 110)).alloc (.cells #[.bool false] 4)) := al (al (al (al (al (al (Below.refl _ _) _) _) _) _) _) _
  have hs6 : ((((((w.alloc (.cells #[.int .i8 (W : Int), .int .i8 (H : Int), .slice (some ⟨g, 0, none⟩) n n] 31)).alloc (.cells #[.pointer (some ⟨b, 0, none⟩)] 108)).alloc (.cells #[.int .i8 (wd : Int)] 22)).alloc (.cells #[.int .i8 (ht : Int)] 22)).alloc (.cells #[.int .i8 0, .int .i8 0, .int .i8 0, .int .i8 0] 110)).alloc (.cells #[.bool false] 4)).heap.size = w.heap.size + 6 := by simp
  have z0 : ((((((w.alloc (.cells #[.int .i8 (W : Int), .int .i8 (H : Int), .slice (some ⟨g, 0, none⟩) n n] 31)).alloc (.cells #[.pointer (some ⟨b, 0, none⟩)] 108)).alloc (.cells #[.int .i8 (wd : Int)] 22)).alloc (.cells #[.int .i8 (ht : Int)] 22)).alloc (.cells #[.int .i8 0, .int .i8 0, .int .i8 0, .int .i8 0] 110)).alloc (.cells #[.bool false] 4)).heap[w.heap.size]? = some (.cells #[.int .i8 (W : Int), .int .i8 (H : Int), .slice (some ⟨g, 0, none⟩) n n] 31 (0, 0)) := by
    refine (Below.heap_alloc _ _ _ (by simp; try omega)).trans ?_
    refine (Below.heap_alloc _ _ _ (by simp; try omega)).trans ?_
    refine (Below.heap_alloc _ _ _ (by simp; try omega)).trans ?_
    refine (Below.heap_alloc _ _ _ (by simp; try omega)).trans ?_
    refine (Below.heap_alloc _ _ _ (by simp; try omega)).trans ?_
    have := heap_alloc_new w (.cells #[.int .i8 (W : Int), .int .i8 (H : Int), .slice (some ⟨g, 0, none⟩) n n] 31)
    simpa using this
  have z1 : ((((((w.alloc (.cells #[.int .i8 (W : Int), .int .i8 (H : Int), .slice (some ⟨g, 0, none⟩) n n] 31)).alloc (.cells #[.pointer (some ⟨b, 0, none⟩)] 108)).alloc (.cells #[.int .i8 (wd : Int)] 22)).alloc (.cells #[.int .i8 (ht : Int)] 22)).alloc (.cells #[.int .i8 0, .int .i8 0, .int .i8 0, .int .i8 0] 110)).alloc (.cells #[.bool false] 4)).heap[w.heap.size + 1]? = some (.cells #[.pointer (some ⟨b, 0, none⟩)] 108 (0, 0)) := by
    refine (Below.heap_alloc _ _ _ (by simp; try omega)).trans ?_
    refine (Below.heap_alloc _ _ _ (by simp; try omega)).trans ?_
    refine (Below.heap_alloc _ _ _ (by simp; try omega)).trans ?_
    refine (Below.heap_alloc _ _ _ (by simp; try omega)).trans ?_
    have := heap_alloc_new (w.alloc (.cells #[.int .i8 (W : Int), .int .i8 (H : Int), .slice (some ⟨g, 0, none⟩) n n] 31)) (.cells #[.pointer (some ⟨b, 0, none⟩)] 108)
    simpa using this
  have z2 : ((((((w.alloc (.cells #[.int .i8 (W : Int), .int .i8 (H : Int), .slice (some ⟨g, 0, none⟩) n n] 31)).alloc (.cells #[.pointer (some ⟨b, 0, none⟩)] 108)).alloc (.cells #[.int .i8 (wd : Int)] 22)).alloc (.cells #[.int .i8 (ht : Int)] 22)).alloc (.cells #[.int .i8 0, .int .i8 0, .int .i8 0, .int .i8 0] 110)).alloc (.cells #[.bool false] 4)).heap[w.heap.size + 2]? = some (.cells #[.int .i8 (wd : Int)] 22 (0, 0)) := by
    refine (Below.heap_alloc _ _ _ (by simp; try omega)).trans ?_
    refine (Below.heap_alloc _ _ _ (by simp; try omega)).trans ?_
    refine (Below.heap_alloc _ _ _ (by simp; try omega)).trans ?_
    have := heap_alloc_new ((w.alloc (.cells #[.int .i8 (W : Int), .int .i8 (H : Int), .slice (some ⟨g, 0, none⟩) n n] 31)).alloc (.cells #[.pointer (some ⟨b, 0, none⟩)] 108)) (.cells #[.int .i8 (wd : Int)] 22)
    simpa using this
  have z3 : ((((((w.alloc (.cells #[.int .i8 (W : Int), .int .i8 (H : Int), .slice (some ⟨g, 0, none⟩) n n] 31)).alloc (.cells #[.pointer (some ⟨b, 0, none⟩)] 108)).alloc (.cells #[.int .i8 (wd : Int)] 22)).alloc (.cells #[.int .i8 (ht : Int)] 22)).alloc (.cells #[.int .i8 0, .int .i8 0, .int .i8 0, .int .i8 0] 110)).alloc (.cells #[.bool false] 4)).heap[w.heap.size + 3]? = some (.cells #[.int .i8 (ht : Int)] 22 (0, 0)) := by
    refine (Below.heap_alloc _ _ _ (by simp; try omega)).trans ?_
    refine (Below.heap_alloc _ _ _ (by simp; try omega)).trans ?_
    have := heap_alloc_new (((w.alloc (.cells #[.int .i8 (W : Int), .int .i8 (H : Int), .slice (some ⟨g, 0, none⟩) n n] 31)).alloc (.cells #[.pointer (some ⟨b, 0, none⟩)] 108)).alloc (.cells #[.int .i8 (wd : Int)] 22)) (.cells #[.int .i8 (ht : Int)] 22)
    simpa using this
  have z4 : ((((((w.alloc (.cells #[.int .i8 (W : Int), .int .i8 (H : Int), .slice (some ⟨g, 0, none⟩) n n] 31)).alloc (.cells #[.pointer (some ⟨b, 0, none⟩)] 108)).alloc (.cells #[.int .i8 (wd : Int)] 22)).alloc (.cells #[.int .i8 (ht : Int)] 22)).alloc (.cells #[.int .i8 0, .int .i8 0, .int .i8 0, .int .i8 0] 110)).alloc (.cells #[.bool false] 4)).heap[w.heap.size + 4]? = some (.cells #[.int .i8 0, .int .i8 0, .int .i8 0, .int .i8 0] 110 (0, 0)) := by
    refine (Below.heap_alloc _ _ _ (by simp; try omega)).trans ?_
    have := heap_alloc_new ((((w.alloc (.cells #[.int .i8 (W : Int), .int .i8 (H : Int), .slice (some ⟨g, 0, none⟩) n n] 31)).alloc (.cells #[.pointer (some ⟨b, 0, none⟩)] 108)).alloc (.cells #[.int .i8 (wd : Int)] 22)).alloc (.cells #[.int .i8 (ht : Int)] 22)) (.cells #[.int .i8 0, .int .i8 0, .int .i8 0, .int .i8 0] 110)
    simpa using this
  have z5 : ((((((w.alloc (.cells #[.int .i8 (W : Int), .int .i8 (H : Int), .slice (some ⟨g, 0, none⟩) n n] 31)).alloc (.cells #[.pointer (some ⟨b, 0, none⟩)] 108)).alloc (.cells #[.int .i8 (wd : Int)] 22)).alloc (.cells #[.int .i8 (ht : Int)] 22)).alloc (.cells #[.int .i8 0, .int .i8 0, .int .i8 0, .int .i8 0] 110)).alloc (.cells #[.bool false] 4)).heap[w.heap.size + 5]? = some (.cells #[.bool false] 4 (0, 0)) := by
    have := heap_alloc_new (((((w.alloc (.cells #[.int .i8 (W : Int), .int .i8 (H : Int), .slice (some ⟨g, 0, none⟩) n n] 31)).alloc (.cells #[.pointer (some ⟨b, 0, none⟩)] 108)).alloc (.cells #[.int .i8 (wd : Int)] 22)).alloc (.cells #[.int .i8 (ht : Int)] 22)).alloc (.cells #[.int .i8 0, .int .i8 0, .int .i8 0, .int .i8 0] 110)) (.cells #[.bool false] 4)
    simpa using this
  obtain ⟨W6, hW6⟩ : ∃ W6, ((((((w.alloc (.cells #[.int .i8 (W : Int), .int .i8 (H : Int), .slice (some ⟨g, 0, none⟩) n n] 31)).alloc (.cells #[.pointer (some ⟨b, 0, none⟩)] 108)).alloc (.cells #[.int .i8 (wd : Int)] 22)).alloc (.cells #[.int .i8 (ht : Int)] 22)).alloc (.cells #[.int .i8 0, .int .i8 0, .int .i8 0, .int .i8 0] 110)).alloc (.cells #[.bool false] 4)) = W6 := ⟨_, rfl⟩
  rw [hW6] at hB6 hs6 z0 z1 z2 z3 z4 z5 ⊢
  clear hW6
  have hG6 := hG.of_block (hB6.block _ hG.lt)
  refine (whole_in Fence.wide 11 trivial hro _ _ _ _).mono ?_
  rintro e w7 ⟨rfl, hb⟩
  replace hB6 := nxt hB6 hb
  replace z0 := (hb.block _ (by omega)).trans z0
  replace z1 := (hb.block _ (by omega)).trans z1
  replace z2 := (hb.block _ (by omega)).trans z2
  replace z3 := (hb.block _ (by omega)).trans z3
  replace z4 := (hb.block _ (by omega)).trans z4
  replace z5 := (hb.block _ (by omega)).trans z5
  replace hG6 := rowNext0 hG6 hb
  have hs7 : w.heap.size + 6 ≤ w7.heap.size := by have := hb.size; omega
  clear hb hs6
  have Z0 := Lib.hid z0
  have Z1 := Lib.hid z1
  have Z2 := Lib.hid z2
  have Z3 := Lib.hid z3
  have Z4 := Lib.hid z4
  have Z5 := Lib.hid z5
  clear z0 z1 z2 z3 z4 z5
  gi_wp2_with (refine ⟨trivial, ?_⟩; gi_at_call 136; refine (cellsOf_in Fence.wide 11 trivial hro _ _ _ _ _).mono ?_; rintro e w' ⟨rfl, rfl⟩)
  obtain ⟨W0, hW0'⟩ : ∃ W0, w7.alloc (.cells #[.int .i8 0, .int .i8 0, .int .i8 (W : Int), .int .i8 (H : Int)] 110) = W0 := ⟨_, rfl⟩
  have B0 : Below w.heap.size w W0 := by rw [← hW0']; exact al hB6 _
  have zs : Sl W0 w7.heap.size 0 0 W H := by rw [← hW0']; exact Sl.new w7 0 0 W H 110
  have hs0 : W0.heap.size = w7.heap.size + 1 := by rw [← hW0']; simp
  have hG0 : W0.rowIs b 105 144 (fun p => .int .i8 (gridN c n p)) := by rw [← hW0']; exact hG6.alloc _
  have y0 : W0.heap[w.heap.size]? = some (.cells #[.int .i8 (W : Int), .int .i8 (H : Int), .slice (some ⟨g, 0, none⟩) n n] 31 (0, 0)) := by rw [← hW0']; exact (Below.heap_alloc _ _ _ (by omega)).trans Z0.out
  have y1 : W0.heap[w.heap.size + 1]? = some (.cells #[.pointer (some ⟨b, 0, none⟩)] 108 (0, 0)) := by rw [← hW0']; exact (Below.heap_alloc _ _ _ (by omega)).trans Z1.out
  have y2 : W0.heap[w.heap.size + 2]? = some (.cells #[.int .i8 (wd : Int)] 22 (0, 0)) := by rw [← hW0']; exact (Below.heap_alloc _ _ _ (by omega)).trans Z2.out
  have y3 : W0.heap[w.heap.size + 3]? = some (.cells #[.int .i8 (ht : Int)] 22 (0, 0)) := by rw [← hW0']; exact (Below.heap_alloc _ _ _ (by omega)).trans Z3.out
  have y4 : W0.heap[w.heap.size + 4]? = some (.cells #[.int .i8 0, .int .i8 0, .int .i8 0, .int .i8 0] 110 (0, 0)) := by rw [← hW0']; exact (Below.heap_alloc _ _ _ (by omega)).trans Z4.out
  have y5 : W0.heap[w.heap.size + 5]? = some (.cells #[.bool false] 4 (0, 0)) := by rw [← hW0']; exact (Below.heap_alloc _ _ _ (by omega)).trans Z5.out
  rw [hW0']
  clear hW0' hB6 hG6 Z0 Z1 Z2 Z3 Z4 Z5
  have hstops := cells_stops Fence.wide 11 trivial hro (by omega) w7.heap.size 0 0 W H (by omega) (by omega) W0 (by simpa using zs)
  refine wpIn_rangeFunc_ownH hro (by omega) (gf := 172) (lb := #[.pointer (some ⟨w7.heap.size, 0, none⟩)]) rfl trivial (enters_of Try.func172 (by kernel_rfl) rfl)
    hstops kpB_trans (kpB_put (by omega)) (Below.refl _ _) (fun _ => rfl)
    (fun pre W' => Below W0.heap.size W0 W' ∧ ∀ q ∈ pre, ¬ fits W H n c wd ht q.1)
    (fun cc pre W' => (Below w.heap.size w W' ∧ cc = .ret ∧ ∃ pre' q, pre = pre' ++ [q] ∧ fits W H n c wd ht q.1 ∧ (∀ p ∈ pre', ¬ fits W H n c wd ht p.1) ∧
      W'.heap[w.heap.size + 4]? = some (.cells #[.int .i8 (q.1.1 : Int), .int .i8 (q.1.2 : Int), .int .i8 (wd : Int), .int .i8 (ht : Int)] 110 (0, 0)) ∧ W'.heap[w.heap.size + 5]? = some (.cells #[.bool true] 4 (0, 0))))
    (OwnFrom.and (ownFrom_below (Nat.le_refl _) (Nat.le_refl _)) (ownFrom_pure _ _))
    (fun cc s X Y row hs hg hr => by
      obtain ⟨h1, h2, pre', q, h3, h4, h5, h6, h7⟩ := hs
      exact ⟨ownFrom_below (β := Unit) (n₀ := w.heap.size) (w₀ := w) (B := W0.heap.size) (Nat.le_refl _) (by omega) () X Y row h1 hg hr, h2, pre', q, h3, h4, h5, cellsKept h6 hg (fun r e => (hr r e).2), cellsKept h7 hg (fun r e => (hr r e).2)⟩)
    ⟨Below.refl _ _, fun q hq => by cases hq⟩
    (fun x a' W' => ∃ Bx, W0.heap.size ≤ Bx ∧ W'.heap[Bx]? = some (.cells #[.int .i8 (x.1.1 : Int), .int .i8 (x.1.2 : Int)] 130 (0, 0)) ∧ a' = { tmps := #[.agg #[.int .i8 (W : Int), .int .i8 (H : Int), .slice (some ⟨g, 0, none⟩) n n], .pointer (some ⟨b, 0, none⟩), .int .i8 (wd : Int), .int .i8 (ht : Int), .pointer (some ⟨w.heap.size, 0, none⟩), .pointer (some ⟨w.heap.size + 1, 0, none⟩), .pointer (some ⟨w.heap.size + 1 + 1, 0, none⟩), .pointer (some ⟨w.heap.size + 1 + 1 + 1, 0, none⟩), .pointer (some ⟨w.heap.size + 1 + 1 + 1 + 1, 0, none⟩), .pointer (some ⟨w.heap.size + 1 + 1 + 1 + 1 + 1, 0, none⟩), .pointer (some ⟨Bx, 0, none⟩), undef, .agg #[.int .i8 (W : Int), .int .i8 (H : Int), .slice (some ⟨g, 0, none⟩) n n], .agg #[.int .i8 0, .int .i8 0, .int .i8 (W : Int), .int .i8 (H : Int)], .func (.func 172) #[] #[.pointer (some ⟨w7.heap.size, 0, none⟩)], .agg #[.int .i8 (x.1.1 : Int), .int .i8 (x.1.2 : Int)], undef, undef, undef, undef, undef, undef, undef, undef, undef, undef, undef, undef, undef, undef, undef, undef, undef, undef, undef, undef], defers := [] })
    (fun x a' _ X Y row hs hg hr => by obtain ⟨Bx, h1, h2, h3⟩ := hs; exact ⟨Bx, h1, cellsKept h2 hg (fun r e => (hr r e).2), h3⟩)
    ?assign ?body ?done ?stop
  case assign =>
    rintro l pre x W' K ⟨hB1, hall⟩ hK
    dsimp only [encC]
    gi_wp2
    exact hK _ _ ((KeepsOthers.alloc _ _).from _) (kpB_below ((Below.refl _ W').alloc (Nat.le_refl _) _) (by have := hB1.size; omega)) ⟨hB1.alloc hB1.size _, hall⟩ ⟨W'.heap.size, hB1.size, heap_alloc_new W' _, rfl⟩
  case body =>
    rintro l pre x a' W' hl hrr ⟨hB1, hall⟩ ⟨Bx, hBx, hX, rfl⟩ hlt
    have hsW := hB1.size
    have hBx2 := (Array.getElem?_eq_some_iff.1 hX).1
    have cX0 := cell_of_row W' Bx 0 _ _ _ hX
    have cX1 := cell_of_row W' Bx 1 _ _ _ hX
    have q0 := cell_of_row W' w.heap.size 0 _ _ _ ((hB1.block _ (by omega)).trans y0)
    have q1 := cell_of_row W' w.heap.size 1 _ _ _ ((hB1.block _ (by omega)).trans y0)
    have q4 := cell_of_row W' (w.heap.size + 1) 0 _ _ _ ((hB1.block _ (by omega)).trans y1)
    have q5 := cell_of_row W' (w.heap.size + 2) 0 _ _ _ ((hB1.block _ (by omega)).trans y2)
    have q6 := cell_of_row W' (w.heap.size + 3) 0 _ _ _ ((hB1.block _ (by omega)).trans y3)
    simp at cX0 cX1 q0 q1 q4 q5 q6
    have hl0 : w.heap.size < W'.heap.size := by omega
    have hl1 : w.heap.size + 1 < W'.heap.size := by omega
    have hl2 : w.heap.size + 2 < W'.heap.size := by omega
    have hl3 : w.heap.size + 3 < W'.heap.size := by omega
    have HALL := Lib.hid hall
    have HX := Lib.hid hX
    have Y0 := Lib.hid y0
    have Y1 := Lib.hid y1
    have Y4 := Lib.hid y4
    have Y5 := Lib.hid y5
    clear hall hX y0 y1 y2 y3 y4 y5
    gi_wp2_with fail
    have H11 := Sl.new W' (x.1.1 : Int) x.1.2 wd ht 110
    have B1 := hB1.alloc hB1.size (.cells #[.int .i8 (x.1.1 : Int), .int .i8 (x.1.2 : Int), .int .i8 (wd : Int), .int .i8 (ht : Int)] 110)
    have hkA : KeepsFrom W0.heap.size W' (W'.alloc (.cells #[.int .i8 (x.1.1 : Int), .int .i8 (x.1.2 : Int), .int .i8 (wd : Int), .int .i8 (ht : Int)] 110)) := (KeepsOthers.alloc _ _).from _
    have hpA : KpB w7.heap.size W' (W'.alloc (.cells #[.int .i8 (x.1.1 : Int), .int .i8 (x.1.2 : Int), .int .i8 (wd : Int), .int .i8 (ht : Int)] 110)) := kpB_below ((Below.refl _ W').alloc (Nat.le_refl _) _) (by omega)
    obtain ⟨W1, hW1⟩ : ∃ W1, (W'.alloc (.cells #[.int .i8 (x.1.1 : Int), .int .i8 (x.1.2 : Int), .int .i8 (wd : Int), .int .i8 (ht : Int)] 110)) = W1 := ⟨_, rfl⟩
    rw [hW1] at H11 B1 hkA hpA ⊢
    have hs1 : W'.heap.size < W1.heap.size := H11.1
    clear hW1 cX0 cX1 q0 q1 q4 q5 q6
    have hx12 := x.2.1
    have hy12 := x.2.2
    by_cases hlw : x.1.1 + wd ≤ W ∧ x.1.2 + ht ≤ H
    · refine ⟨trivial, (CallsIn.inRound l (callsIn_wide.2 (lw_yes (W : Int) (H : Int) _ _ _ _ _ (by omega) (by omega) (by omega) (by omega) (by omega) (by omega) (by omega)))).mono ?_⟩
      rintro e w8 ⟨rfl, hb⟩
      replace H11 := H11.below hb
      replace B1 := B1.trans (hb.mono B1.size)
      replace hkA := hkA.trans (keepsFrom_below hb)
      replace hpA := kpB_trans hpA (kpB_below hb (by omega))
      have hs8 := H11.1
      clear hb
      obtain ⟨l3, p3, q3, r3, s3⟩ := id H11
      have q4 := cell_of_row w8 (w.heap.size + 1) 0 _ _ _ ((B1.block _ (by omega)).trans Y1.out)
      simp at q4
      gi_wp2_with fail
      refine ⟨trivial, (CallsIn.inRound l (isOpen_in 9 (by omega) b x.1.1 x.1.2 wd ht (fun p => gridN c n p) _ (by omega) (by omega) (hG0.of_block (B1.block _ hG0.lt)))).mono ?_⟩
      rintro e w9 ⟨hb, hcase⟩
      replace H11 := H11.below hb
      replace B1 := B1.trans (hb.mono B1.size)
      replace hkA := hkA.trans (keepsFrom_below hb)
      replace hpA := kpB_trans hpA (kpB_below hb (by omega))
      have hs9 := H11.1
      clear hb l3 p3 q3 r3 s3 q4
      obtain ⟨l3, p3, q3, r3, s3⟩ := id H11
      rcases hcase with ⟨rfl, hf⟩ | ⟨rfl, hf⟩
      · have HF : fits W H n c wd ht x.1 := (fits_iff (x := x.1.1) (y := x.1.2) hW hH hlw).2 hf
        have hY4 := (B1.block _ (by omega)).trans Y4.out
        have hY5 := (B1.block _ (by omega)).trans Y5.out
        have e0 := cell_of_row w9 (w.heap.size + 4) 0 _ _ _ hY4
        have f0 := frozen_of_row w9 (w.heap.size + 4) 0 _ _ hY4
        have e1 := cell_of_row w9 (w.heap.size + 4) 1 _ _ _ hY4
        have f1 := frozen_of_row w9 (w.heap.size + 4) 1 _ _ hY4
        have e2 := cell_of_row w9 (w.heap.size + 4) 2 _ _ _ hY4
        have f2 := frozen_of_row w9 (w.heap.size + 4) 2 _ _ hY4
        have e3 := cell_of_row w9 (w.heap.size + 4) 3 _ _ _ hY4
        have f3 := frozen_of_row w9 (w.heap.size + 4) 3 _ _ hY4
        have e4 := cell_of_row w9 (w.heap.size + 5) 0 _ _ _ hY5
        have f4 := frozen_of_row w9 (w.heap.size + 5) 0 _ _ hY5
        simp at e0 e1 e2 e3 e4
        have HF' := Lib.hid HF
        have HY4 := Lib.hid hY4
        have HY5 := Lib.hid hY5
        clear hf HF hY4 hY5
        gi_wp2
        have hBw := B0.trans (B1.mono (by omega))
        have g1 := heap_setCell_same w9 (w.heap.size + 4) 0 _ _ (.int .i8 (x.1.1 : Int)) HY4.out
        have g2 := heap_setCell_same _ (w.heap.size + 4) 1 _ _ (.int .i8 (x.1.2 : Int)) g1
        have g3 := heap_setCell_same _ (w.heap.size + 4) 2 _ _ (.int .i8 (wd : Int)) g2
        have g4 := heap_setCell_same _ (w.heap.size + 4) 3 _ _ (.int .i8 (ht : Int)) g3
        have k5 := (Below.heap_setCell w9 ⟨w.heap.size + 4, 0, none⟩ (.int .i8 (x.1.1 : Int)) (w.heap.size + 5) (by simp)).trans HY5.out
        have k6 := (Below.heap_setCell _ ⟨w.heap.size + 4, 1, none⟩ (.int .i8 (x.1.2 : Int)) (w.heap.size + 5) (by simp)).trans k5
        have k7 := (Below.heap_setCell _ ⟨w.heap.size + 4, 2, none⟩ (.int .i8 (wd : Int)) (w.heap.size + 5) (by simp)).trans k6
        have k8 := (Below.heap_setCell _ ⟨w.heap.size + 4, 3, none⟩ (.int .i8 (ht : Int)) (w.heap.size + 5) (by simp)).trans k7
        have g5 := (Below.heap_setCell _ ⟨w.heap.size + 5, 0, none⟩ (.bool true) (w.heap.size + 4) (by simp)).trans g4
        have k9 := heap_setCell_same _ (w.heap.size + 5) 0 _ _ (.bool true) k8
        refine ⟨?_, ?_, rfl, pre, x, rfl, HF'.out, HALL.out, g5, k9⟩
        · exact ((((hkA.trans ((KeepsOthers.setCell _ _ _).from _)).trans ((KeepsOthers.setCell _ _ _).from _)).trans ((KeepsOthers.setCell _ _ _).from _)).trans ((KeepsOthers.setCell _ _ _).from _)).trans ((KeepsOthers.setCell _ _ _).from _)
        · exact ((((hBw.setCell (p := ⟨w.heap.size + 4, 0, none⟩) (by simp) _).setCell (p := ⟨w.heap.size + 4, 1, none⟩) (by simp) _).setCell (p := ⟨w.heap.size + 4, 2, none⟩) (by simp) _).setCell (p := ⟨w.heap.size + 4, 3, none⟩) (by simp) _).setCell (p := ⟨w.heap.size + 5, 0, none⟩) (by simp) _
      · have HF : ¬ fits W H n c wd ht x.1 := fun h => by
          obtain ⟨k, hk, hne⟩ := hf
          exact hne ((fits_iff (x := x.1.1) (y := x.1.2) hW hH hlw).1 h k hk)
        have HF' := Lib.hid HF
        clear hf HF
        gi_wp2
        refine ⟨hkA, hpA, B1, fun q hq => ?_⟩
        rcases List.mem_append.1 hq with h | h
        · exact HALL.out q h
        · obtain rfl : q = x := by simpa using h
          exact HF'.out
    · refine ⟨trivial, (CallsIn.inRound l (callsIn_wide.2 (lw_no (W : Int) (H : Int) _ _ _ _ _ (by omega) (by omega) (by omega) (by omega) (by omega) (by omega) (by omega)))).mono ?_⟩
      rintro e w8 ⟨rfl, hb⟩
      replace B1 := B1.trans (hb.mono B1.size)
      replace hkA := hkA.trans (keepsFrom_below hb)
      replace hpA := kpB_trans hpA (kpB_below hb (by omega))
      clear hb
      gi_wp2_with fail
      refine ⟨trivial, ?_⟩
      gi_wp2
      refine ⟨hkA, hpA, B1, fun q hq => ?_⟩
      rcases List.mem_append.1 hq with h | h
      · exact HALL.out q h
      · obtain rfl : q = x := by simpa using h
        exact fun h => hlw ⟨h.1, h.2.1⟩
  case done =>
    rintro D zs' W' hD rfl ⟨hB1, hall⟩ hK
    have hY4 := (hB1.block _ (by omega)).trans y4
    have hY5 := (hB1.block _ (by omega)).trans y5
    have e0 := cell_of_row W' (w.heap.size + 4) 0 _ _ _ hY4
    have f0 := frozen_of_row W' (w.heap.size + 4) 0 _ _ hY4
    have e1 := cell_of_row W' (w.heap.size + 4) 1 _ _ _ hY4
    have f1 := frozen_of_row W' (w.heap.size + 4) 1 _ _ hY4
    have e2 := cell_of_row W' (w.heap.size + 4) 2 _ _ _ hY4
    have f2 := frozen_of_row W' (w.heap.size + 4) 2 _ _ hY4
    have e3 := cell_of_row W' (w.heap.size + 4) 3 _ _ _ hY4
    have f3 := frozen_of_row W' (w.heap.size + 4) 3 _ _ hY4
    have e4 := cell_of_row W' (w.heap.size + 5) 0 _ _ _ hY5
    have f4 := frozen_of_row W' (w.heap.size + 5) 0 _ _ hY5
    simp at e0 e1 e2 e3 e4
    have HY4 := Lib.hid hY4
    have HY5 := Lib.hid hY5
    clear hY4 hY5 y0 y1 y2 y3 y4 y5
    gi_wp2
    have g1 := heap_setCell_same W' (w.heap.size + 4) 0 _ _ (.int .i8 0) HY4.out
    have g2 := heap_setCell_same _ (w.heap.size + 4) 1 _ _ (.int .i8 0) g1
    have g3 := heap_setCell_same _ (w.heap.size + 4) 2 _ _ (.int .i8 0) g2
    have g4 := heap_setCell_same _ (w.heap.size + 4) 3 _ _ (.int .i8 0) g3
    have k5 := (Below.heap_setCell W' ⟨w.heap.size + 4, 0, none⟩ (.int .i8 0) (w.heap.size + 5) (by simp)).trans HY5.out
    have k6 := (Below.heap_setCell _ ⟨w.heap.size + 4, 1, none⟩ (.int .i8 0) (w.heap.size + 5) (by simp)).trans k5
    have k7 := (Below.heap_setCell _ ⟨w.heap.size + 4, 2, none⟩ (.int .i8 0) (w.heap.size + 5) (by simp)).trans k6
    have k8 := (Below.heap_setCell _ ⟨w.heap.size + 4, 3, none⟩ (.int .i8 0) (w.heap.size + 5) (by simp)).trans k7
    have g5 := (Below.heap_setCell _ ⟨w.heap.size + 5, 0, none⟩ (.bool false) (w.heap.size + 4) (by simp)).trans g4
    have k9 := heap_setCell_same _ (w.heap.size + 5) 0 _ _ (.bool false) k8
    have hBw := B0.trans (hB1.mono (by omega))
    have hBf := ((((hBw.setCell (p := ⟨w.heap.size + 4, 0, none⟩) (by simp) (.int .i8 0)).setCell (p := ⟨w.heap.size + 4, 1, none⟩) (by simp) (.int .i8 0)).setCell (p := ⟨w.heap.size + 4, 2, none⟩) (by simp) (.int .i8 0)).setCell (p := ⟨w.heap.size + 4, 3, none⟩) (by simp) (.int .i8 0)).setCell (p := ⟨w.heap.size + 5, 0, none⟩) (by simp) (.bool false)
    have hKf := ((((((KeepsOthers.setCell W' ⟨w.heap.size + 4, 0, none⟩ (.int .i8 0)).trans (KeepsOthers.setCell _ ⟨w.heap.size + 4, 1, none⟩ (.int .i8 0))).trans (KeepsOthers.setCell _ ⟨w.heap.size + 4, 2, none⟩ (.int .i8 0))).trans (KeepsOthers.setCell _ ⟨w.heap.size + 4, 3, none⟩ (.int .i8 0))).trans (KeepsOthers.setCell _ ⟨w.heap.size + 5, 0, none⟩ (.bool false))).same D _ hK rfl)
    clear g1 g2 g3 g4 k5 k6 k7 k8 e0 e1 e2 e3 e4 f0 f1 f2 f3 f4 HY4 HY5 hK
    refine ⟨by simp, .inl ⟨_, _, rfl, run_takeDeferred hKf, ?_⟩⟩
    have m4 := cellsKept g5 (grownBy_putObj' _ D (.deferred none)) (fun r e => by cases e; exact ⟨_, hKf, rfl⟩)
    have m5 := cellsKept k9 (grownBy_putObj' _ D (.deferred none)) (fun r e => by cases e; exact ⟨_, hKf, rfl⟩)
    refine ⟨.tuple #[.agg #[.int .i8 0, .int .i8 0, .int .i8 0, .int .i8 0], .bool false], ?_, hBf.trans (belowK_b (w := w) (Nat.le_refl _) _ D _ _ (by omega) hKf rfl rfl), _, rfl, .inr ⟨fun j hj => ?_, rfl⟩⟩
    · exact two_cells Try.results84 _ _ (w.heap.size + 4) (w.heap.size + 5) _ _ _ _ _ rfl rfl m4 m5
    · rw [← cellAt_val hW hH hj]; exact hall _ (mem_uptoC hj)
  case stop =>
    rintro D cc pre W' hD ⟨k, hk, rfl⟩ ⟨hB1, rfl, pre', q, he, hf, hall, h6, h7⟩ hK
    gi_wp2
    obtain ⟨j, rfl, rfl⟩ := uptoC_snoc he
    have hp : pre' = uptoC 0 0 W j := by
      rw [uptoC_succ] at he
      exact (List.append_inj_left' he rfl).symm
    subst hp
    refine ⟨by simp, .inl ⟨_, _, rfl, run_takeDeferred hK, ?_⟩⟩
    have m4 := cellsKept h6 (grownBy_putObj' _ D (.deferred none)) (fun r e => by cases e; exact ⟨_, hK, rfl⟩)
    have m5 := cellsKept h7 (grownBy_putObj' _ D (.deferred none)) (fun r e => by cases e; exact ⟨_, hK, rfl⟩)
    have hj : j < W * H := by omega
    rw [cellAt_val hW hH hj] at m4 hf
    refine ⟨.tuple #[.agg #[.int .i8 ((cl W j).1 : Int), .int .i8 ((cl W j).2 : Int), .int .i8 (wd : Int), .int .i8 (ht : Int)], .bool true], ?_, hB1.trans (belowK_b (w := w) (Nat.le_refl _) _ D _ _ (by omega) hK rfl rfl), _, rfl, .inl ⟨j, hj, hf, fun i hi => ?_, rfl⟩⟩
    · exact two_cells Try.results84 _ _ (w.heap.size + 4) (w.heap.size + 5) _ _ _ _ _ rfl rfl m4 m5
    · rw [← cellAt_val hW hH (show i < W * H by omega)]; exact hall _ (mem_uptoC hi)
end Go.Proofs.Ytkdakpbkpfigeaa
