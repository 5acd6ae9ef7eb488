/-
  The contract of (*grid).lay: it gives a number to all cells of a slab. Conditions stand at it.
-/
import Derived.Test.YtmkcdelfgaogaaaDoorRows
import Derived.Test.YtmkcdelfgaogaaaDoorOpen
import Derived.Test.YtmkcdelfgaogaaaDoorRound
namespace Go.Proofs.YtmkcdelfgaogaaaDoor
open Go Go.RowKit Go.Shelf
set_option linter.unusedVariables false
set_option linter.unusedSimpArgs false
set_option maxRecDepth 100000
set_option maxHeartbeats 2000000
attribute [local go_sem] Oper.semAt_some

/-- the grid when the cells qs have got the number m. -/
def gridQ (G : Nat → Int) (m : Int) (qs : List CX) (p : Nat) : Int := if (∃ q ∈ qs, posC q = p) then m else G p

theorem gridQ_snoc (G : Nat → Int) (m : Int) (pre : List CX) (x : CX) (p : Nat) : gridQ G m (pre ++ [x]) p = if posC x = p then m else gridQ G m pre p := by
  unfold gridQ
  by_cases h : posC x = p
  · rw [if_pos h, if_pos ⟨x, by simp, h⟩]
  · rw [if_neg h]
    by_cases h' : ∃ q ∈ pre, posC q = p
    · rw [if_pos h', if_pos (by obtain ⟨q, hq, e⟩ := h'; exact ⟨q, List.mem_append.2 (.inl hq), e⟩)]
    · rw [if_neg h', if_neg (by
        rintro ⟨q, hq, e⟩
        rcases List.mem_append.1 hq with hq | hq
        · exact h' ⟨q, hq, e⟩
        · obtain rfl : q = x := by simpa using hq
          exact h e)]
theorem grown_drew {a b : World} {row : Option Nat} (h : a.grownBy b row) : a.grownBy b.drew row := ⟨h.os, h.tape, h.output, h.size, h.block⟩
theorem grown_own2 {w W0 Y : World} {b : Nat} (hb : Below w.heap.size w W0) (h : W0.grownBy Y (some b)) : w.grownBy Y (some b) :=
  ⟨h.os.trans hb.os, h.tape.trans hb.tape, h.output.trans hb.output, Nat.le_trans hb.size h.size, fun i hi hne => (h.block i (Nat.lt_of_lt_of_le hi hb.size) hne).trans (hb.block i hi)⟩
theorem grown_own {W0 X Y : World} {row : Option Nat} {b : Nat} (h : W0.grownBy X (some b)) (hg : X.grownBy Y row) (hr : ∀ r, row = some r → W0.heap.size ≤ r) : W0.grownBy Y (some b) :=
  ⟨hg.os.trans h.os, hg.tape.trans h.tape, hg.output.trans h.output, Nat.le_trans h.size hg.size, fun i hi hne =>
    (hg.block i (Nat.lt_of_lt_of_le hi h.size) (fun e => by have := hr i e.symm; omega)).trans (h.block i hi hne)⟩

theorem lay_in (n : Nat) (hn : 6 ≤ n) (b x0 y0 wd ht : Nat) (m : Int) (G : Nat → Int) (w : World) (hx : x0 + wd ≤ 12) (hy : y0 + ht ≤ 12) (hG : w.rowIs b 129 144 (fun p => .int .i8 (G p))) :
    CallsIn Fence.wide n Tryd.prog 75 #[.pointer (some ⟨b, 0, none⟩), .agg #[.int .i8 (x0 : Int), .int .i8 (y0 : Int), .int .i8 (wd : Int), .int .i8 (ht : Int)], .int .i8 m] w fun e w' =>
      (∃ v, e = .returned v) ∧ w.grownBy w' (some b) ∧ w'.rowIs b 129 144 (fun p => .int .i8 (gridQ G m (uptoC x0 y0 wd (wd * ht)) p)) := by
  have h1 : 1 ≤ n := by omega
  have hro : Fence.wide.round = none := rfl
  have hbl := hG.lt
  refine callsIn_of_wp_marks Tryd.func75 rfl trivial ?_ hro
  simp only [Tryd.ntmps75, List.size_toArray, List.length_cons, List.length_nil, Nat.reduceAdd, Nat.reduceSub, Array.replicate_succ, Array.replicate_zero, List.push_toArray, List.append_toArray, List.nil_append, List.cons_append]
  gi_wp2_with (refine ⟨trivial, ?_⟩; gi_at_call 65; refine (cellsOf_in Fence.wide (n - 1) trivial hro _ _ _ _ _).mono ?_; rintro e w' ⟨rfl, rfl⟩)
  obtain ⟨W0, hW0⟩ : ∃ W0, (((w.alloc (.cells #[.pointer (some ⟨b, 0, none⟩)] 149)).alloc (.cells #[.int .i8 (x0 : Int), .int .i8 (y0 : Int), .int .i8 (wd : Int), .int .i8 (ht : Int)] 105)).alloc (.cells #[.int .i8 m] 22)).alloc (.cells #[.int .i8 (x0 : Int), .int .i8 (y0 : Int), .int .i8 (wd : Int), .int .i8 (ht : Int)] 105) = W0 := ⟨_, rfl⟩
  have hB0 : Below w.heap.size w W0 := by rw [← hW0]; exact al (al (al (al (Below.refl _ _) _) _) _) _
  have hsz : W0.heap.size = w.heap.size + 4 := by rw [← hW0]; simp
  have z2 : W0.heap[w.heap.size]? = some (.cells #[.pointer (some ⟨b, 0, none⟩)] 149 (0, 0)) := by
    rw [← hW0]
    refine (Below.heap_alloc _ _ _ (by simp; omega)).trans ((Below.heap_alloc _ _ _ (by simp; omega)).trans ((Below.heap_alloc _ _ _ (by simp)).trans (heap_alloc_new w _)))
  have z5 : W0.heap[w.heap.size + 2]? = some (.cells #[.int .i8 m] 22 (0, 0)) := by
    rw [← hW0]
    refine (Below.heap_alloc _ _ _ (by simp)).trans ?_
    have := heap_alloc_new ((w.alloc (.cells #[.pointer (some ⟨b, 0, none⟩)] 149)).alloc (.cells #[.int .i8 (x0 : Int), .int .i8 (y0 : Int), .int .i8 (wd : Int), .int .i8 (ht : Int)] 105)) (.cells #[.int .i8 m] 22)
    simpa using this
  have zs : Sl W0 (w.heap.size + 3) x0 y0 wd ht := by
    rw [← hW0]
    have := Sl.new (((w.alloc (.cells #[.pointer (some ⟨b, 0, none⟩)] 149)).alloc (.cells #[.int .i8 (x0 : Int), .int .i8 (y0 : Int), .int .i8 (wd : Int), .int .i8 (ht : Int)] 105)).alloc (.cells #[.int .i8 m] 22)) x0 y0 wd ht 105
    simpa using this
  have hG0 : W0.rowIs b 129 144 (fun p => .int .i8 (G p)) := hG.of_block (hB0.block _ hG.lt)
  rw [hW0]
  clear hW0
  refine wpIn_rangeFunc_ownH hro h1 (gf := 85) (lb := #[.pointer (some ⟨w.heap.size + 3, 0, none⟩)]) rfl trivial (enters_of Tryd.func85 (by kernel_rfl) rfl)
    (cells_stops Fence.wide (n - 1) trivial hro (by omega) (w.heap.size + 3) x0 y0 wd ht hx hy W0 zs) kpB_trans (kpB_put (by omega)) (Below.refl _ _) (fun _ => rfl)
    (fun pre W => W0.grownBy W (some b) ∧ W.rowIs b 129 144 (fun p => .int .i8 (gridQ G m pre p)))
    (fun _ _ _ => False)
    (fun s X Y row hs hg hr => ⟨grown_own hs.1 hg (fun r e => (hr r e).1), by obtain ⟨c, h1, h2, h3⟩ := hs.2; exact ⟨c, cellsKept h1 hg (fun r e => (hr r e).2), h2, h3⟩⟩)
    (fun _ _ _ _ _ hs _ _ => hs)
    ⟨World.grownBy.refl _ _, hG0.congr (fun p _ => by unfold gridQ; rw [if_neg (by rintro ⟨q, hq, _⟩; cases hq)])⟩
    (fun x a' W => ∃ Bx, W0.heap.size ≤ Bx ∧ W.heap[Bx]? = some (.cells #[.int .i8 (x.1.1 : Int), .int .i8 (x.1.2 : Int)] 35 (0, 0)) ∧ a' = { tmps := #[.pointer (some ⟨b, 0, none⟩), .agg #[.int .i8 (x0 : Int), .int .i8 (y0 : Int), .int .i8 (wd : Int), .int .i8 (ht : Int)], .int .i8 m, .pointer (some ⟨w.heap.size, 0, none⟩), .pointer (some ⟨w.heap.size + 1, 0, none⟩), .pointer (some ⟨w.heap.size + 1 + 1, 0, none⟩), .pointer (some ⟨Bx, 0, none⟩), .agg #[.int .i8 (x0 : Int), .int .i8 (y0 : Int), .int .i8 (wd : Int), .int .i8 (ht : Int)], .func (.func 85) #[] #[.pointer (some ⟨w.heap.size + 1 + 1 + 1, 0, none⟩)], .agg #[.int .i8 (x.1.1 : Int), .int .i8 (x.1.2 : Int)], undef, undef, undef, undef, undef, undef, undef, undef, undef], defers := [] })
    (fun x a' _ X Y row hs hg hr => by obtain ⟨Bx, h1, h2, h3⟩ := hs; exact ⟨Bx, h1, cellsKept h2 hg (fun r e => (hr r e).2), h3⟩)
    ?assign ?body ?done ?stop
  case assign =>
    rintro l pre x W K ⟨hB1, hall⟩ hK
    dsimp only [encC]
    gi_wp2
    exact hK _ _ ((KeepsOthers.alloc _ _).from _) (kpB_below ((Below.refl _ W).alloc (Nat.le_refl _) _) (by have := hB1.size; omega)) ⟨hB1.trans (World.grownBy_alloc _ _ _), hall.alloc _⟩ ⟨W.heap.size, hB1.size, heap_alloc_new W _, rfl⟩
  case body =>
    rintro l pre x a' W hl hrr ⟨hB1, hall⟩ ⟨Bx, hBx, hX, rfl⟩ hlt
    have cX0 := cell_of_row W Bx 0 _ _ _ hX
    have cX1 := cell_of_row W Bx 1 _ _ _ hX
    have c2 := cell_of_row W w.heap.size 0 _ _ _ ((hB1.block _ (by omega) (by simp; omega)).trans z2)
    have c5 := cell_of_row W (w.heap.size + 2) 0 _ _ _ ((hB1.block _ (by omega) (by simp; omega)).trans z5)
    have hx12 := x.2.1
    have hy12 := x.2.2
    have hxi : (x.1.1 : Int) < 12 := by omega
    have hyi : (x.1.2 : Int) < 12 := by omega
    have cg := hall.cell (i := x.1.2 * 12 + x.1.1) (by omega)
    have fg := hall.frozen (x.1.2 * 12 + x.1.1)
    simp at cX0 cX1 c2 c5
    gi_wp2
    refine region_held_in (S := (fun w' => w'.cell? ⟨Bx, 0, none⟩ = some (.int .i8 (x.1.1 : Int)) ∧ w'.cell? ⟨Bx, 1, none⟩ = some (.int .i8 (x.1.2 : Int)) ∧ w'.cell? ⟨w.heap.size, 0, none⟩ = some (.pointer (some ⟨b, 0, none⟩)) ∧ w'.cell? ⟨w.heap.size + 1 + 1, 0, none⟩ = some (.int .i8 m))) (fun ⟨_, _, h⟩ => h) (of_noDefer (by kernel_rfl)) (by kernel_rfl) ⟨cX0, cX1, c2, c5⟩ (fun hHeld => ?_)
    refine wpAnyH_take (i := 0) (oi := _) (v := ?_) rfl (by kernel_rfl) (by kernel_rfl) (by kernel_rfl) (fun _ _ _ h => h) (Or.inl ⟨by kernel_rfl, ?_⟩) (by assumption) ?_
    rotate_left
    · intro w hSw; (try dsimp only at hSw); go_simp; first | done | with_reducible rfl
    try simp only [List.getElem_toArray, List.getElem_cons_zero, List.getElem_cons_succ, Act.put, List.setIfInBounds_toArray, List.set_cons_zero, List.set_cons_succ]
    refine wpAnyH_take (i := 1) (oi := _) (v := ?_) rfl (by kernel_rfl) (by kernel_rfl) (by kernel_rfl) (fun _ _ _ h => h) (Or.inl ⟨by kernel_rfl, ?_⟩) (by assumption) ?_
    rotate_left
    · intro w hSw; (try dsimp only at hSw); go_simp; first | done | with_reducible rfl
    try simp only [List.getElem_toArray, List.getElem_cons_zero, List.getElem_cons_succ, Act.put, List.setIfInBounds_toArray, List.set_cons_zero, List.set_cons_succ]
    refine wpAnyH_take (i := 2) (oi := _) (v := ?_) rfl (by kernel_rfl) (by kernel_rfl) (by kernel_rfl) (fun _ _ _ h => h) (Or.inl ⟨by kernel_rfl, ?_⟩) (by assumption) ?_
    rotate_left
    · intro w hSw; (try dsimp only at hSw); go_simp; first | done | with_reducible rfl
    try simp only [List.getElem_toArray, List.getElem_cons_zero, List.getElem_cons_succ, Act.put, List.setIfInBounds_toArray, List.set_cons_zero, List.set_cons_succ]
    refine wpAnyH_take (i := 3) (oi := _) (v := ?_) rfl (by kernel_rfl) (by kernel_rfl) (by kernel_rfl) (fun _ _ _ h => h) (Or.inl ⟨by kernel_rfl, ?_⟩) (by assumption) ?_
    rotate_left
    · intro w hSw; (try dsimp only at hSw); go_simp; first | done | with_reducible rfl
    try simp only [List.getElem_toArray, List.getElem_cons_zero, List.getElem_cons_succ, Act.put, List.setIfInBounds_toArray, List.set_cons_zero, List.set_cons_succ]
    refine wpAnyH_take (i := 4) (oi := _) (v := ?_) rfl (by kernel_rfl) (by kernel_rfl) (by kernel_rfl) (fun _ _ _ h => h) (Or.inl ⟨by kernel_rfl, ?_⟩) (by assumption) ?_
    rotate_left
    · intro w hSw; (try dsimp only at hSw); go_simp; first | done | with_reducible rfl
    try simp only [List.getElem_toArray, List.getElem_cons_zero, List.getElem_cons_succ, Act.put, List.setIfInBounds_toArray, List.set_cons_zero, List.set_cons_succ]
    refine wpAnyH_take (i := 5) (oi := _) (v := ?_) rfl (by kernel_rfl) (by kernel_rfl) (by kernel_rfl) (fun _ _ _ h => h) (Or.inl ⟨by kernel_rfl, ?_⟩) (by assumption) ?_
    rotate_left
    · intro w hSw; (try dsimp only at hSw); go_simp; first | done | with_reducible rfl
    try simp only [List.getElem_toArray, List.getElem_cons_zero, List.getElem_cons_succ, Act.put, List.setIfInBounds_toArray, List.set_cons_zero, List.set_cons_succ]
    refine wpAnyH_take (i := 6) (oi := _) (v := ?_) rfl (by kernel_rfl) (by kernel_rfl) (by kernel_rfl) (fun _ _ _ h => h) (Or.inl ⟨by kernel_rfl, ?_⟩) (by assumption) ?_
    rotate_left
    · intro w hSw; (try dsimp only at hSw); go_simp; first | done | with_reducible rfl
    try simp only [List.getElem_toArray, List.getElem_cons_zero, List.getElem_cons_succ, Act.put, List.setIfInBounds_toArray, List.set_cons_zero, List.set_cons_succ]
    refine wpAnyH_take (i := 7) (oi := _) (v := ?_) rfl (by kernel_rfl) (by kernel_rfl) (by kernel_rfl) (fun _ _ _ h => h) (Or.inl ⟨by kernel_rfl, ?_⟩) (by assumption) ?_
    rotate_left
    · intro w hSw; (try dsimp only at hSw); go_simp; first | done | with_reducible rfl
    try simp only [List.getElem_toArray, List.getElem_cons_zero, List.getElem_cons_succ, Act.put, List.setIfInBounds_toArray, List.set_cons_zero, List.set_cons_succ]
    refine wpAnyH_take (i := 8) (oi := _) (v := ?_) rfl (by kernel_rfl) (by kernel_rfl) (by kernel_rfl) (fun _ _ _ h => h) (Or.inl ⟨by kernel_rfl, ?_⟩) (by assumption) ?_
    rotate_left
    · intro w hSw; (try dsimp only at hSw); go_simp; first | done | with_reducible rfl
    try simp only [List.getElem_toArray, List.getElem_cons_zero, List.getElem_cons_succ, Act.put, List.setIfInBounds_toArray, List.set_cons_zero, List.set_cons_succ]
    refine wpAnyH_ready (rs := [9]) (by kernel_rfl) (by simp) ?_
    refine AllReadyH.cons (o := _) rfl (fun K hK => ?_) AllReadyH.nil
    go_simp
    have nb1 : (⟨b, x.1.2 * 12 + x.1.1, none⟩ : Addr) ≠ ⟨Bx, 0, none⟩ := fun e => by injection e; omega
    have nb2 : (⟨b, x.1.2 * 12 + x.1.1, none⟩ : Addr) ≠ ⟨Bx, 1, none⟩ := fun e => by injection e; omega
    have nb3 : (⟨b, x.1.2 * 12 + x.1.1, none⟩ : Addr) ≠ ⟨w.heap.size, 0, none⟩ := fun e => by injection e; omega
    have nb4 : (⟨b, x.1.2 * 12 + x.1.1, none⟩ : Addr) ≠ ⟨w.heap.size + 1 + 1, 0, none⟩ := fun e => by injection e; omega
    refine hK.out _ _ ⟨(World.cell?_setCell_other W _ _ _ nb1).trans cX0, (World.cell?_setCell_other W _ _ _ nb2).trans cX1, (World.cell?_setCell_other W _ _ _ nb3).trans c2, (World.cell?_setCell_other W _ _ _ nb4).trans c5⟩ (fun hHeld => ?_)
    clear hK K
    refine wpAnyH_done (by kernel_rfl) ?_ _
    exact ⟨((KeepsOthers.setCell _ _ _).trans (KeepsOthers.drew _)).from _, ⟨by simp, Below.heap_setCell W _ _ _ (by simp; omega)⟩, grown_drew (grown_set hB1 _ _), (hall.set (x.1.2 * 12 + x.1.1) (.int .i8 m)).congr fun p _ => by
      rw [gridQ_snoc]
      by_cases e : p = x.1.2 * 12 + x.1.1
      · rw [if_pos e, if_pos (show posC x = p from e.symm)]
      · rw [if_neg e, if_neg (show ¬ posC x = p from fun e' => e e'.symm)]⟩
  case done =>
    rintro D zs' W hD rfl ⟨hB1, hall⟩ hK
    gi_wp2
    refine ⟨by simp, .inl ⟨_, _, rfl, run_takeDeferred hK, ?_⟩⟩
    refine ⟨_, results_none rfl _ _ _, ⟨_, rfl⟩, ?_, ?_⟩
    · exact grown_own2 hB0 (grown_own hB1 (grownBy_putObj' W D _) (fun r e => by cases e; omega))
    · obtain ⟨c, h1, h2, h3⟩ := hall
      exact ⟨c, cellsKept h1 (grownBy_putObj' W D _) (fun r e => by cases e; exact ⟨_, hK, rfl⟩), h2, h3⟩
  case stop =>
    rintro D c pre W _ _ h _
    exact h.elim
end Go.Proofs.YtmkcdelfgaogaaaDoor
