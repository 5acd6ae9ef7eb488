/-
  Contracts of (*grid).isOpen and (*grid).lay. Conditions stand at each.
-/
import Derived.Test.YtmkcdelfgaogaaaDoorRows
import Derived.Test.YtmkcdelfgaogaaaDoorAt
import Derived.Test.YtmkcdelfgaogaaaDoorIter
import Derived.Test.YtmkcdelfgaogaaaDoorPlain
namespace Go.Proofs.YtmkcdelfgaogaaaDoor
open Go Go.RowKit Go.Shelf
set_option linter.unusedVariables false
set_option linter.unusedSimpArgs false
set_option maxRecDepth 100000
set_option maxHeartbeats 2000000
attribute [local go_sem] Oper.semAt_some

def posC (q : CX) : Nat := q.1.2 * 12 + q.1.1

theorem keepsFrom_below {B : Nat} {W W' : World} (h : Below W.heap.size W W') : KeepsFrom B W W' :=
  ⟨h.size, fun k o _ h0 _ => (h.block k (Array.getElem?_eq_some_iff.1 h0).1).trans h0⟩
theorem cellsKept {X Y : World} {row : Option Nat} {Bx : Nat} {c : Array Value} {t : TypeId} (h : X.heap[Bx]? = some (.cells c t (0, 0))) (hg : X.grownBy Y row)
    (hr : ∀ r, row = some r → ∃ o : Obj, X.heap[r]? = some o ∧ o.isCells = false) : Y.heap[Bx]? = some (.cells c t (0, 0)) :=
  (hg.block Bx (Array.getElem?_eq_some_iff.1 h).1 (fun e => by obtain ⟨o, ho, hc⟩ := hr Bx e.symm; rw [h] at ho; cases ho; cases hc)).trans h
theorem own_cells {β : Type} (B Bx : Nat) (c : Array Value) (t : TypeId) : OwnFrom B (fun (_ : β) W => W.heap[Bx]? = some (.cells c t (0, 0))) :=
  fun _ X Y row hs hg hr => cellsKept hs hg (fun r e => (hr r e).2)
theorem uptoC_snoc {x0 y0 wd k : Nat} {pre : List CX} {q : CX} (h : uptoC x0 y0 wd k = pre ++ [q]) : ∃ j, k = j + 1 ∧ q = cellAt x0 y0 wd j := by
  cases k with
  | zero => simp [uptoC] at h
  | succ j =>
    rw [uptoC_succ] at h
    have := List.append_inj_right' h rfl
    exact ⟨j, rfl, (by simpa using this.symm)⟩
theorem mem_uptoC {x0 y0 wd k j : Nat} (h : j < k) : cellAt x0 y0 wd j ∈ uptoC x0 y0 wd k := List.mem_map.2 ⟨j, List.mem_range.2 h, rfl⟩
theorem kpB_trans {b : Nat} {A B C : World} (h : KpB b A B) (k : KpB b B C) : KpB b A C := ⟨Nat.le_trans h.1 k.1, k.2.trans h.2⟩
theorem kpB_put {b : Nat} {w : World} (hb : b < w.heap.size) (W : World) (l : Nat) (o o' : Obj) (hl : w.heap.size ≤ l) (h : W.heap[l]? = some o) (_ : o.isCells = false) (_ : o.isWalk = false) : KpB b W (W.putObj l o') := by
  have hg := grownBy_putObj' W l o'
  by_cases hbW : b < W.heap.size
  · exact ⟨hg.size, hg.block b hbW (fun e => by injection e; omega)⟩
  · have := (Array.getElem?_eq_some_iff.1 h).1
    omega
theorem kpB_below {b B : Nat} {W W' : World} (h : Below B W W') (hb : b < B) : KpB b W W' := ⟨h.size, h.block b hb⟩

theorem isOpen_in (n : Nat) (hn : 6 ≤ n) (b x0 y0 wd ht : Nat) (G : Nat → Int) (w : World) (hx : x0 + wd ≤ 12) (hy : y0 + ht ≤ 12) (hG : w.rowIs b 129 144 (fun p => .int .i8 (G p))) :
    CallsIn Fence.wide n Tryd.prog 73 #[.pointer (some ⟨b, 0, none⟩), .agg #[.int .i8 (x0 : Int), .int .i8 (y0 : Int), .int .i8 (wd : Int), .int .i8 (ht : Int)]] w fun e w' =>
      Below w.heap.size w w' ∧ ((e = .returned (.bool true) ∧ ∀ k, k < wd * ht → G (posC (cellAt x0 y0 wd k)) = 0) ∨ (e = .returned (.bool false) ∧ ∃ k, k < wd * ht ∧ G (posC (cellAt x0 y0 wd k)) ≠ 0)) := by
  have h1 : 1 ≤ n := by omega
  have hro : Fence.wide.round = none := rfl
  refine callsIn_of_wp_marks Tryd.func73 rfl trivial ?_ hro
  simp only [Tryd.ntmps73, List.size_toArray, List.length_cons, List.length_nil, Nat.reduceAdd, Nat.reduceSub, Array.replicate_succ, Array.replicate_zero, List.push_toArray, List.append_toArray, List.nil_append, List.cons_append]
  gi_wp2_with (refine ⟨trivial, ?_⟩; gi_at_call 65; refine (cellsOf_in Fence.wide (n - 1) trivial hro _ _ _ _ _).mono ?_; rintro e w' ⟨rfl, rfl⟩)
  obtain ⟨W0, hW0⟩ : ∃ W0, (((w.alloc (.cells #[.pointer (some ⟨b, 0, none⟩)] 149)).alloc (.cells #[.int .i8 (x0 : Int), .int .i8 (y0 : Int), .int .i8 (wd : Int), .int .i8 (ht : Int)] 105)).alloc (.cells #[.bool false] 4)).alloc (.cells #[.int .i8 (x0 : Int), .int .i8 (y0 : Int), .int .i8 (wd : Int), .int .i8 (ht : Int)] 105) = W0 := ⟨_, rfl⟩
  have hB0 : Below w.heap.size w W0 := by rw [← hW0]; exact al (al (al (al (Below.refl _ _) _) _) _) _
  have hsz : W0.heap.size = w.heap.size + 4 := by rw [← hW0]; simp
  have z2 : W0.heap[w.heap.size]? = some (.cells #[.pointer (some ⟨b, 0, none⟩)] 149 (0, 0)) := by
    rw [← hW0]
    refine (Below.heap_alloc _ _ _ (by simp; omega)).trans ((Below.heap_alloc _ _ _ (by simp; omega)).trans ((Below.heap_alloc _ _ _ (by simp)).trans (heap_alloc_new w _)))
  have z4 : W0.heap[w.heap.size + 2]? = some (.cells #[.bool false] 4 (0, 0)) := by
    rw [← hW0]
    refine (Below.heap_alloc _ _ _ (by simp)).trans ?_
    have := heap_alloc_new ((w.alloc (.cells #[.pointer (some ⟨b, 0, none⟩)] 149)).alloc (.cells #[.int .i8 (x0 : Int), .int .i8 (y0 : Int), .int .i8 (wd : Int), .int .i8 (ht : Int)] 105)) (.cells #[.bool false] 4)
    simpa using this
  have zs : Sl W0 (w.heap.size + 3) x0 y0 wd ht := by
    rw [← hW0]
    have := Sl.new (((w.alloc (.cells #[.pointer (some ⟨b, 0, none⟩)] 149)).alloc (.cells #[.int .i8 (x0 : Int), .int .i8 (y0 : Int), .int .i8 (wd : Int), .int .i8 (ht : Int)] 105)).alloc (.cells #[.bool false] 4)) x0 y0 wd ht 105
    simpa using this
  have hG0 : W0.rowIs b 129 144 (fun p => .int .i8 (G p)) := hG.of_block (hB0.block _ hG.lt)
  rw [hW0]
  clear hW0
  refine wpIn_rangeFunc_ownH hro h1 (gf := 85) (lb := #[.pointer (some ⟨w.heap.size + 3, 0, none⟩)]) rfl trivial (enters_of Tryd.func85 (by kernel_rfl) rfl)
    (cells_stops Fence.wide (n - 1) trivial hro (by omega) (w.heap.size + 3) x0 y0 wd ht hx hy W0 zs) kpB_trans (kpB_put (by omega)) (Below.refl _ _) (fun _ => rfl)
    (fun pre W => Below W0.heap.size W0 W ∧ ∀ q ∈ pre, G (posC q) = 0)
    (fun c pre W => (Below w.heap.size w W ∧ W.heap[w.heap.size + 2]? = some (.cells #[.bool false] 4 (0, 0))) ∧ (c = .ret ∧ ∃ pre' q, pre = pre' ++ [q] ∧ G (posC q) ≠ 0))
    (OwnFrom.and (ownFrom_below (Nat.le_refl _) (Nat.le_refl _)) (ownFrom_pure _ _))
    (fun c => OwnFrom.and (OwnFrom.and (ownFrom_below (Nat.le_refl _) (by omega)) (own_cells _ _ _ _)) (ownFrom_pure _ (fun pre => c = .ret ∧ ∃ pre' q, pre = pre' ++ [q] ∧ G (posC q) ≠ 0)))
    ⟨Below.refl _ _, fun q hq => by cases hq⟩
    (fun x a' W => ∃ Bx, W0.heap.size ≤ Bx ∧ W.heap[Bx]? = some (.cells #[.int .i8 (x.1.1 : Int), .int .i8 (x.1.2 : Int)] 35 (0, 0)) ∧ a' = { tmps := #[.pointer (some ⟨b, 0, none⟩), .agg #[.int .i8 (x0 : Int), .int .i8 (y0 : Int), .int .i8 (wd : Int), .int .i8 (ht : Int)], .pointer (some ⟨w.heap.size, 0, none⟩), .pointer (some ⟨w.heap.size + 1, 0, none⟩), .pointer (some ⟨w.heap.size + 1 + 1, 0, none⟩), .pointer (some ⟨Bx, 0, none⟩), .agg #[.int .i8 (x0 : Int), .int .i8 (y0 : Int), .int .i8 (wd : Int), .int .i8 (ht : Int)], .func (.func 85) #[] #[.pointer (some ⟨w.heap.size + 1 + 1 + 1, 0, none⟩)], .agg #[.int .i8 (x.1.1 : Int), .int .i8 (x.1.2 : Int)], undef, undef, undef, undef], defers := [] })
    (fun x a' _ X Y row hs hg hr => by obtain ⟨Bx, h1, h2, h3⟩ := hs; exact ⟨Bx, h1, cellsKept h2 hg (fun r e => (hr r e).2), h3⟩)
    ?assign ?body ?done ?stop
  case assign =>
    rintro l pre x W K ⟨hB1, hall⟩ hK
    dsimp only [encC]
    gi_wp2
    exact hK _ _ ((KeepsOthers.alloc _ _).from _) (kpB_below ((Below.refl _ W).alloc (Nat.le_refl _) _) (by have := hB1.size; omega)) ⟨hB1.alloc hB1.size _, hall⟩ ⟨W.heap.size, hB1.size, heap_alloc_new W _, rfl⟩
  case body =>
    rintro l pre x a' W hl hrr ⟨hB1, hall⟩ ⟨Bx, hBx, hX, rfl⟩ hlt
    have cX0 := cell_of_row W Bx 0 _ _ _ hX
    have cX1 := cell_of_row W Bx 1 _ _ _ hX
    have c2 := cell_of_row W w.heap.size 0 _ _ _ ((hB1.block _ (by omega)).trans z2)
    have z4' := (hB1.block _ (show w.heap.size + 2 < _ by omega)).trans z4
    have hG1 := hG0.of_block (hB1.block _ hG0.lt)
    have h1' : 1 ≤ n - 1 - 1 := by omega
    have hsW := hB1.size
    simp at cX0 cX1 c2
    by_cases hz : G (x.1.2 * 12 + x.1.1) = 0
    · have bz : (G (x.1.2 * 12 + x.1.1) != 0) = false := by simpa using hz
      have HZ := Lib.hid hz
      clear hz
      gi_wp2_with (refine ⟨trivial, ?_⟩; gi_at_call 79; refine (CallsIn.inRound l (callsIn_wide.2 (at_in b x.1.1 x.1.2 G _ x.2.1 x.2.2 hG1))).mono ?_; rintro e w' ⟨rfl, hb⟩)
      exact ⟨keepsFrom_below hb, kpB_below hb (by omega), hB1.trans (hb.mono hsW), fun q hq => by
        rcases List.mem_append.1 hq with h | h
        · exact hall q h
        · obtain rfl : q = x := by simpa using h
          exact HZ.out⟩
    · have bz : (G (x.1.2 * 12 + x.1.1) != 0) = true := by simpa using hz
      have HZ := Lib.hid hz
      clear hz
      gi_wp2_with (refine ⟨trivial, ?_⟩; gi_at_call 79; refine (CallsIn.inRound l (callsIn_wide.2 (at_in b x.1.1 x.1.2 G _ x.2.1 x.2.2 hG1))).mono ?_; rintro e w' ⟨rfl, hb⟩; have z4'' := (hb.block _ (by omega)).trans z4'; have c4 := cell_of_row w' (w.heap.size + 2) 0 _ _ _ z4''; have f4 := frozen_of_row w' (w.heap.size + 2) 0 _ _ z4''; simp at c4)
      have hBw : Below w.heap.size w w' := (hB0.trans (hB1.mono (by omega))).trans (hb.mono (by omega))
      refine ⟨(keepsFrom_below hb).trans ((KeepsOthers.setCell _ _ _).from _), ⟨hBw.setCell (p := ⟨w.heap.size + 1 + 1, 0, none⟩) (by simp; omega) _, heap_setCell_same w' (w.heap.size + 2) 0 _ _ (.bool false) z4''⟩, rfl, pre, x, rfl, HZ.out⟩
  case done =>
    rintro D zs' W hD rfl ⟨hB1, hall⟩ hK
    have z4' := (hB1.block _ (show w.heap.size + 2 < _ by omega)).trans z4
    have c4 := cell_of_row W (w.heap.size + 2) 0 _ _ _ z4'
    have f4 := frozen_of_row W (w.heap.size + 2) 0 _ _ z4'
    simp at c4
    gi_wp2
    have z5 : (W.setCell ⟨w.heap.size + 2, 0, none⟩ (.bool true)).heap[w.heap.size + 2]? = some (.cells #[.bool true] 4 (0, 0)) := heap_setCell_same W (w.heap.size + 2) 0 _ _ (.bool true) z4'
    have hK2 : (W.setCell ⟨w.heap.size + 2, 0, none⟩ (.bool true)).heap[D]? = some (.deferred (some [])) := (KeepsOthers.setCell _ _ _).same D _ hK rfl
    have z6 := cellsKept z5 (grownBy_putObj' _ D (.deferred none)) (fun r e => by cases e; exact ⟨_, hK2, rfl⟩)
    have c6 := cell_of_row _ (w.heap.size + 2) 0 _ _ _ z6
    have hBw : Below w.heap.size w (W.setCell ⟨w.heap.size + 2, 0, none⟩ (.bool true)) := (hB0.trans (hB1.mono (by omega))).setCell (p := ⟨w.heap.size + 2, 0, none⟩) (by simp) _
    refine ⟨by simp, .inl ⟨_, _, rfl, run_takeDeferred hK2, ?_⟩⟩
    refine ⟨.bool true, ?_, hBw.trans (belowK_b (w := w) (Nat.le_refl _) _ D _ _ (by omega) hK2 rfl rfl), .inl ⟨rfl, fun k hk => hall _ (mem_uptoC hk)⟩⟩
    simp at c6
    simp [results, Tryd.results73, go_sem, c6]
  case stop =>
    rintro D c pre W hD ⟨k, hk, rfl⟩ ⟨⟨hB1, hres⟩, rfl, pre', q, he, hq⟩ hK
    obtain ⟨j, rfl, rfl⟩ := uptoC_snoc he
    gi_wp2
    have z6 := cellsKept hres (grownBy_putObj' _ D (.deferred none)) (fun r e => by cases e; exact ⟨_, hK, rfl⟩)
    have c6 := cell_of_row _ (w.heap.size + 2) 0 _ _ _ z6
    refine ⟨by simp, .inl ⟨_, _, rfl, run_takeDeferred hK, ?_⟩⟩
    refine ⟨.bool false, ?_, hB1.trans (belowK_b (w := w) (Nat.le_refl _) _ D _ _ (by omega) hK rfl rfl), .inr ⟨rfl, j, by omega, hq⟩⟩
    simp at c6
    simp [results, Tryd.results73, go_sem, c6]
end Go.Proofs.YtmkcdelfgaogaaaDoor
