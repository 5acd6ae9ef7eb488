/-
  The contract of impl.areCovered, and of what leans. Conditions stand at each. What leans: impl.areCovered, impl.leans. Conditions stand at each. Conditions stand at each. Whether a slab can be laid: impl.canLay, spec.l05Can; both sides of CanLay. Conditions stand at each. Whether a slab can be laid: spec.l05Can; both sides of CanLay. Conditions stand at each. Both sides of CanLay answer the same. Conditions stand at each. Stacks of slabs: the mathematics. Conditions stand at each. Where a number lies in a list: spec.l00Has, spec.l05Where, slices.Index, slices.Contains. Conditions stand at each. The codes of orders and stacks: spec.l05Twice, spec.l05Both, impl.liftCode, impl.turnsOf, impl.areStacks. Conditions stand at each. An order of a list: spec.l05Each and impl.hasEach. Conditions stand at each.
-/
import Derived.Test.YtkdakpbkpfigeaaRows
import Derived.Test.YtkdakpbkpfigeaaOpen
import Derived.Test.YtkdakpbkpfigeaaJoint
import Derived.BigRegion
import Derived.Deep.Cut
import Derived.Deep.DeepCutAuto
import Derived.Deep.RegionHeld3
import Derived.Test.YtkdakpbkpfigeaaCanPutC
import Derived.Deep.QuietTactic
import Derived.BigQuiet
import Derived.Test.YtkdakpbkpfigeaaNums
import Derived.Test.YtkdakpbkpfigeaaResInt64
import Derived.Test.YtkdakpbkpfigeaaIn
namespace Go.Proofs.Ytkdakpbkpfigeaa
open Go Go.RowKit Go.Shelf
set_option linter.unusedVariables false
set_option linter.unusedSimpArgs false
set_option maxRecDepth 100000
set_option maxHeartbeats 2000000
attribute [local go_sem] Oper.semAt_some

theorem covered_in (n : Nat) (hn : 6 ≤ n) (b x0 y0 wd ht : Nat) (G : Nat → Int) (w : World) (hx : x0 + wd ≤ 12) (hy : y0 + ht ≤ 12) (hG : w.rowIs b 105 144 (fun p => .int .i8 (G p))) :
    CallsIn Fence.wide n Try.prog 176 #[.pointer (some ⟨b, 0, none⟩), .agg #[.int .i8 (x0 : Int), .int .i8 (y0 : Int), .int .i8 (wd : Int), .int .i8 (ht : Int)]] w fun e w' =>
      Below w.heap.size w w' ∧ ((e = .returned (.bool true) ∧ ∀ k, k < wd * ht → G (posC (cellAt x0 y0 wd k)) ≠ 0) ∨ (e = .returned (.bool false) ∧ ∃ k, k < wd * ht ∧ G (posC (cellAt x0 y0 wd k)) = 0)) := by
  have h1 : 1 ≤ n := by omega
  have hro : Fence.wide.round = none := rfl
  refine callsIn_of_wp_marks Try.func176 rfl trivial ?_ hro
  simp only [Try.ntmps176, List.size_toArray, List.length_cons, List.length_nil, Nat.reduceAdd, Nat.reduceSub, Array.replicate_succ, Array.replicate_zero, List.push_toArray, List.append_toArray, List.nil_append, List.cons_append]
  gi_wp2_with (refine ⟨trivial, ?_⟩; gi_at_call 136; refine (cellsOf_in Fence.wide (n - 1) trivial hro _ _ _ _ _).mono ?_; rintro e w' ⟨rfl, rfl⟩)
  obtain ⟨W0, hW0⟩ : ∃ W0, (((w.alloc (.cells #[.pointer (some ⟨b, 0, none⟩)] 108)).alloc (.cells #[.int .i8 (x0 : Int), .int .i8 (y0 : Int), .int .i8 (wd : Int), .int .i8 (ht : Int)] 110)).alloc (.cells #[.bool false] 4)).alloc (.cells #[.int .i8 (x0 : Int), .int .i8 (y0 : Int), .int .i8 (wd : Int), .int .i8 (ht : Int)] 110) = W0 := ⟨_, rfl⟩
  have hB0 : Below w.heap.size w W0 := by rw [← hW0]; exact al (al (al (al (Below.refl _ _) _) _) _) _
  have hsz : W0.heap.size = w.heap.size + 4 := by rw [← hW0]; simp
  have z2 : W0.heap[w.heap.size]? = some (.cells #[.pointer (some ⟨b, 0, none⟩)] 108 (0, 0)) := by
    rw [← hW0]
    refine (Below.heap_alloc _ _ _ (by simp; omega)).trans ((Below.heap_alloc _ _ _ (by simp; omega)).trans ((Below.heap_alloc _ _ _ (by simp)).trans (heap_alloc_new w _)))
  have z4 : W0.heap[w.heap.size + 2]? = some (.cells #[.bool false] 4 (0, 0)) := by
    rw [← hW0]
    refine (Below.heap_alloc _ _ _ (by simp)).trans ?_
    have := heap_alloc_new ((w.alloc (.cells #[.pointer (some ⟨b, 0, none⟩)] 108)).alloc (.cells #[.int .i8 (x0 : Int), .int .i8 (y0 : Int), .int .i8 (wd : Int), .int .i8 (ht : Int)] 110)) (.cells #[.bool false] 4)
    simpa using this
  have zs : Sl W0 (w.heap.size + 3) x0 y0 wd ht := by
    rw [← hW0]
    have := Sl.new (((w.alloc (.cells #[.pointer (some ⟨b, 0, none⟩)] 108)).alloc (.cells #[.int .i8 (x0 : Int), .int .i8 (y0 : Int), .int .i8 (wd : Int), .int .i8 (ht : Int)] 110)).alloc (.cells #[.bool false] 4)) x0 y0 wd ht 110
    simpa using this
  have hG0 : W0.rowIs b 105 144 (fun p => .int .i8 (G p)) := hG.of_block (hB0.block _ hG.lt)
  rw [hW0]
  clear hW0
  refine wpIn_rangeFunc_ownH hro h1 (gf := 172) (lb := #[.pointer (some ⟨w.heap.size + 3, 0, none⟩)]) rfl trivial (enters_of Try.func172 (by kernel_rfl) rfl)
    (cells_stops Fence.wide (n - 1) trivial hro (by omega) (w.heap.size + 3) x0 y0 wd ht hx hy W0 zs) kpB_trans (kpB_put (by omega)) (Below.refl _ _) (fun _ => rfl)
    (fun pre W => Below W0.heap.size W0 W ∧ ∀ q ∈ pre, G (posC q) ≠ 0)
    (fun c pre W => (Below w.heap.size w W ∧ W.heap[w.heap.size + 2]? = some (.cells #[.bool false] 4 (0, 0))) ∧ (c = .ret ∧ ∃ pre' q, pre = pre' ++ [q] ∧ G (posC q) = 0))
    (OwnFrom.and (ownFrom_below (Nat.le_refl _) (Nat.le_refl _)) (ownFrom_pure _ _))
    (fun c => OwnFrom.and (OwnFrom.and (ownFrom_below (Nat.le_refl _) (by omega)) (own_cells _ _ _ _)) (ownFrom_pure _ (fun pre => c = .ret ∧ ∃ pre' q, pre = pre' ++ [q] ∧ G (posC q) = 0)))
    ⟨Below.refl _ _, fun q hq => by cases hq⟩
    (fun x a' W => ∃ Bx, W0.heap.size ≤ Bx ∧ W.heap[Bx]? = some (.cells #[.int .i8 (x.1.1 : Int), .int .i8 (x.1.2 : Int)] 130 (0, 0)) ∧ a' = { tmps := #[.pointer (some ⟨b, 0, none⟩), .agg #[.int .i8 (x0 : Int), .int .i8 (y0 : Int), .int .i8 (wd : Int), .int .i8 (ht : Int)], .pointer (some ⟨w.heap.size, 0, none⟩), .pointer (some ⟨w.heap.size + 1, 0, none⟩), .pointer (some ⟨w.heap.size + 1 + 1, 0, none⟩), .pointer (some ⟨Bx, 0, none⟩), .agg #[.int .i8 (x0 : Int), .int .i8 (y0 : Int), .int .i8 (wd : Int), .int .i8 (ht : Int)], .func (.func 172) #[] #[.pointer (some ⟨w.heap.size + 1 + 1 + 1, 0, none⟩)], .agg #[.int .i8 (x.1.1 : Int), .int .i8 (x.1.2 : Int)], undef, undef, undef, undef], defers := [] })
    (fun x a' _ X Y row hs hg hr => by obtain ⟨Bx, h1, h2, h3⟩ := hs; exact ⟨Bx, h1, cellsKept h2 hg (fun r e => (hr r e).2), h3⟩)
    ?assign ?body ?done ?stop
  case assign =>
    rintro l pre x W K ⟨hB1, hall⟩ hK
    dsimp only [encC]
    gi_wp2
    exact hK _ _ ((KeepsOthers.alloc _ _).from _) (kpB_below ((Below.refl _ W).alloc (Nat.le_refl _) _) (by have := hB1.size; omega)) ⟨hB1.alloc hB1.size _, hall⟩ ⟨W.heap.size, hB1.size, heap_alloc_new W _, rfl⟩
  case body =>
    rintro l pre x a' W hl hrr ⟨hB1, hall⟩ ⟨Bx, hBx, hX, rfl⟩ hlt
    have cX0 := cell_of_row W Bx 0 _ _ _ hX
    have cX1 := cell_of_row W Bx 1 _ _ _ hX
    have c2 := cell_of_row W w.heap.size 0 _ _ _ ((hB1.block _ (by omega)).trans z2)
    have z4' := (hB1.block _ (show w.heap.size + 2 < _ by omega)).trans z4
    have hG1 := hG0.of_block (hB1.block _ hG0.lt)
    have h1' : 1 ≤ n - 1 - 1 := by omega
    have hsW := hB1.size
    simp at cX0 cX1 c2
    by_cases hz : G (x.1.2 * 12 + x.1.1) ≠ 0
    · have bz : (G (x.1.2 * 12 + x.1.1) == 0) = false := by simpa using hz
      have HZ := Lib.hid hz
      clear hz
      gi_wp2_with (refine ⟨trivial, ?_⟩; gi_at_call 138; refine (CallsIn.inRound l (callsIn_wide.2 (at_in b x.1.1 x.1.2 G _ x.2.1 x.2.2 hG1))).mono ?_; rintro e w' ⟨rfl, hb⟩)
      exact ⟨keepsFrom_below hb, kpB_below hb (by omega), hB1.trans (hb.mono hsW), fun q hq => by
        rcases List.mem_append.1 hq with h | h
        · exact hall q h
        · obtain rfl : q = x := by simpa using h
          exact HZ.out⟩
    · replace hz := Classical.not_not.1 hz
      have bz : (G (x.1.2 * 12 + x.1.1) == 0) = true := by simpa using hz
      have HZ := Lib.hid hz
      clear hz
      gi_wp2_with (refine ⟨trivial, ?_⟩; gi_at_call 138; refine (CallsIn.inRound l (callsIn_wide.2 (at_in b x.1.1 x.1.2 G _ x.2.1 x.2.2 hG1))).mono ?_; rintro e w' ⟨rfl, hb⟩; have z4'' := (hb.block _ (by omega)).trans z4'; have c4 := cell_of_row w' (w.heap.size + 2) 0 _ _ _ z4''; have f4 := frozen_of_row w' (w.heap.size + 2) 0 _ _ z4''; simp at c4)
      have hBw : Below w.heap.size w w' := (hB0.trans (hB1.mono (by omega))).trans (hb.mono (by omega))
      refine ⟨(keepsFrom_below hb).trans ((KeepsOthers.setCell _ _ _).from _), ⟨hBw.setCell (p := ⟨w.heap.size + 1 + 1, 0, none⟩) (by simp; omega) _, heap_setCell_same w' (w.heap.size + 2) 0 _ _ (.bool false) z4''⟩, rfl, pre, x, rfl, HZ.out⟩
  case done =>
    rintro D zs' W hD rfl ⟨hB1, hall⟩ hK
    have z4' := (hB1.block _ (show w.heap.size + 2 < _ by omega)).trans z4
    have c4 := cell_of_row W (w.heap.size + 2) 0 _ _ _ z4'
    have f4 := frozen_of_row W (w.heap.size + 2) 0 _ _ z4'
    simp at c4
    gi_wp2
    have z5 : (W.setCell ⟨w.heap.size + 2, 0, none⟩ (.bool true)).heap[w.heap.size + 2]? = some (.cells #[.bool true] 4 (0, 0)) := heap_setCell_same W (w.heap.size + 2) 0 _ _ (.bool true) z4'
    have hK2 : (W.setCell ⟨w.heap.size + 2, 0, none⟩ (.bool true)).heap[D]? = some (.deferred (some [])) := (KeepsOthers.setCell _ _ _).same D _ hK rfl
    have z6 := cellsKept z5 (grownBy_putObj' _ D (.deferred none)) (fun r e => by cases e; exact ⟨_, hK2, rfl⟩)
    have c6 := cell_of_row _ (w.heap.size + 2) 0 _ _ _ z6
    have hBw : Below w.heap.size w (W.setCell ⟨w.heap.size + 2, 0, none⟩ (.bool true)) := (hB0.trans (hB1.mono (by omega))).setCell (p := ⟨w.heap.size + 2, 0, none⟩) (by simp) _
    refine ⟨by simp, .inl ⟨_, _, rfl, run_takeDeferred hK2, ?_⟩⟩
    refine ⟨.bool true, ?_, hBw.trans (belowK_b (w := w) (Nat.le_refl _) _ D _ _ (by omega) hK2 rfl rfl), .inl ⟨rfl, fun k hk => hall _ (mem_uptoC hk)⟩⟩
    simp at c6
    simp [results, Try.results176, go_sem, c6]
  case stop =>
    rintro D c pre W hD ⟨k, hk, rfl⟩ ⟨⟨hB1, hres⟩, rfl, pre', q, he, hq⟩ hK
    obtain ⟨j, rfl, rfl⟩ := uptoC_snoc he
    gi_wp2
    have z6 := cellsKept hres (grownBy_putObj' _ D (.deferred none)) (fun r e => by cases e; exact ⟨_, hK, rfl⟩)
    have c6 := cell_of_row _ (w.heap.size + 2) 0 _ _ _ z6
    refine ⟨by simp, .inl ⟨_, _, rfl, run_takeDeferred hK, ?_⟩⟩
    refine ⟨.bool false, ?_, hB1.trans (belowK_b (w := w) (Nat.le_refl _) _ D _ _ (by omega) hK rfl rfl), .inr ⟨rfl, j, by omega, hq⟩⟩
    simp at c6
    simp [results, Try.results176, go_sem, c6]
end Go.Proofs.Ytkdakpbkpfigeaa

namespace Go.Proofs.Ytkdakpbkpfigeaa
open Go Go.ChangeShapes Go.WideShapes Go.ChangeAt Go.RowKit
set_option linter.unusedVariables false
set_option linter.unusedSimpArgs false
set_option maxRecDepth 100000
set_option maxHeartbeats 4000000
def North (G : Nat → Int) (x0 y0 wd : Nat) : Prop := ∀ i, i < wd → G ((y0 - 1) * 12 + (x0 + i)) ≠ 0
def West (G : Nat → Int) (x0 y0 ht : Nat) : Prop := ∀ i, i < ht → G ((y0 + i) * 12 + (x0 - 1)) ≠ 0
def Lean (G : Nat → Int) (x0 y0 wd ht : Nat) : Prop := y0 = 0 ∨ x0 = 0 ∨ North G x0 y0 wd ∨ West G x0 y0 ht
theorem covered_b (b x0 y0 wd ht : Nat) (X Y Z U : Int) (G : Nat → Int) (r : Bool) (w : World) (hx : x0 + wd ≤ 12) (hy : y0 + ht ≤ 12) (eX : X = x0) (eY : Y = y0) (eZ : Z = wd) (eU : U = ht) (hG : w.rowIs b 105 144 (fun p => .int .i8 (G p)))
    (hr : r = true ↔ ∀ k, k < wd * ht → G (posC (cellAt x0 y0 wd k)) ≠ 0) :
    Calls Try.prog 176 #[.pointer (some ⟨b, 0, none⟩), .agg #[.int .i8 X, .int .i8 Y, .int .i8 Z, .int .i8 U]] w fun e w' => e = .returned (.bool r) ∧ Below w.heap.size w w' := by
  subst eX eY eZ eU
  refine (callsIn_wide.1 (covered_in 6 (by omega) b x0 y0 wd ht G w hx hy hG)).mono ?_
  rintro e w' ⟨hb, ⟨rfl, h⟩ | ⟨rfl, k, hk, h⟩⟩
  · rw [hr.2 h]; exact ⟨rfl, hb⟩
  · have : r = false := by
      cases r with
      | false => rfl
      | true => exact absurd h (hr.1 rfl k hk)
    rw [this]; exact ⟨rfl, hb⟩
theorem north_iff {G : Nat → Int} {x0 y0 wd : Nat} (hx : x0 + wd ≤ 12) (hy : y0 < 12) : (∀ k, k < wd * 1 → G (posC (cellAt x0 (y0 - 1) wd k)) ≠ 0) ↔ North G x0 y0 wd := by
  have key : ∀ k, k < wd → posC (cellAt x0 (y0 - 1) wd k) = (y0 - 1) * 12 + (x0 + k) := fun k hk => by
    show min (y0 - 1 + k / wd) 11 * 12 + min (x0 + k % wd) 11 = _
    rw [Nat.mod_eq_of_lt hk, Nat.div_eq_of_lt hk]
    omega
  constructor
  · intro h i hi
    rw [← key i hi]
    exact h i (by omega)
  · intro h k hk
    rw [key k (by omega)]
    exact h k (by omega)
theorem west_iff {G : Nat → Int} {x0 y0 ht : Nat} (hy : y0 + ht ≤ 12) (hx : x0 < 13) : (∀ k, k < 1 * ht → G (posC (cellAt (x0 - 1) y0 1 k)) ≠ 0) ↔ West G x0 y0 ht := by
  have key : ∀ k, k < ht → posC (cellAt (x0 - 1) y0 1 k) = (y0 + k) * 12 + (x0 - 1) := fun k hk => by
    show min (y0 + k / 1) 11 * 12 + min (x0 - 1 + k % 1) 11 = _
    rw [Nat.mod_one, Nat.div_one]
    omega
  constructor
  · intro h i hi
    rw [← key i hi]
    exact h i (by omega)
  · intro h k hk
    rw [key k (by omega)]
    exact h k (by omega)
theorem Sl.newAt (w : World) (k : Nat) (x y z u : Int) (t : TypeId) (hk : k = w.heap.size) : Sl (w.alloc (.cells #[.int .i8 x, .int .i8 y, .int .i8 z, .int .i8 u] t)) k x y z u := by
  subst hk; exact Sl.new w x y z u t
def Lean2 (w : World) (b x0 y0 wd ht : Nat) (G : Nat → Int) (t5 t6 : Value) (W : World) : Prop :=
  ∃ b5 b6 : Nat, t5 = .pointer (some ⟨b5, 0, none⟩) ∧ t6 = .pointer (some ⟨b6, 0, none⟩) ∧ Below w.heap.size w W ∧ W.rowIs b 105 144 (fun p => .int .i8 (G p)) ∧
    Sl W w.heap.size (x0 : Int) (y0 : Int) (wd : Int) (ht : Int) ∧ Sl W b5 (x0 : Int) ((y0 : Int) - 1) (wd : Int) 1 ∧ Sl W b6 ((x0 : Int) - 1) (y0 : Int) 1 (ht : Int)

set_option maxHeartbeats 40000000 in
theorem leans_any (b x0 y0 wd ht : Nat) (G : Nat → Int) (r : Bool) (w : World) (hx : x0 + wd ≤ 12) (hy : y0 + ht ≤ 12) (hw1 : 1 ≤ wd) (hh1 : 1 ≤ ht) (hG : w.rowIs b 105 144 (fun p => .int .i8 (G p))) (hr : r = true ↔ Lean G x0 y0 wd ht) :
    Calls Try.prog 146 #[.pointer (some ⟨b, 0, none⟩), .agg #[.int .i8 (x0 : Int), .int .i8 (y0 : Int), .int .i8 (wd : Int), .int .i8 (ht : Int)]] w fun e w' => e = .returned (.bool r) ∧ Below w.heap.size w w' := by
  have HRR := Lib.hid hr
  have hbl := hG.lt
  clear hr
  go_enter Try.func146, Try.ntmps146
  go_upto_region 1 with fail
  have H3 := Sl.new w (x0 : Int) (y0 : Int) (wd : Int) (ht : Int) 110
  have B := al (Below.refl w.heap.size w) (.cells #[.int .i8 (x0 : Int), .int .i8 (y0 : Int), .int .i8 (wd : Int), .int .i8 (ht : Int)] 110)
  have R := hG.alloc (.cells #[.int .i8 (x0 : Int), .int .i8 (y0 : Int), .int .i8 (wd : Int), .int .i8 (ht : Int)] 110)
  obtain ⟨W0, hW0⟩ : ∃ W0 : World, W0 = w.alloc (.cells #[.int .i8 (x0 : Int), .int .i8 (y0 : Int), .int .i8 (wd : Int), .int .i8 (ht : Int)] 110) := ⟨_, rfl⟩
  have hs0 : W0.heap.size = w.heap.size + 1 := by rw [hW0]; simp
  rw [← hW0] at H3 B R ⊢
  have HS0 := Lib.hid hs0
  have hlt0 : w.heap.size < W0.heap.size := by omega
  have hblt : b < W0.heap.size := by omega
  clear hW0 hs0
  go_cut [5, 6] (fun t5 t6 wx => Lean2 w b x0 y0 wd ht G t5 t6 wx)
  case first =>
    obtain ⟨l3, p3, q3, r3, s3⟩ := id H3
    have v1 : IntKind.i8.wrap ((x0 : Int) - 1) = (x0 : Int) - 1 := IntWalk.i8_in _ (by omega)
    have v2 : IntKind.i8.wrap ((y0 : Int) - 1) = (y0 : Int) - 1 := IntWalk.i8_in _ (by omega)
    have p3' : W0.drew.cell? ⟨w.heap.size, 0, none⟩ = some (.int .i8 (x0 : Int)) := p3
    have q3' : W0.drew.cell? ⟨w.heap.size, 1, none⟩ = some (.int .i8 (y0 : Int)) := q3
    have r3' : W0.drew.cell? ⟨w.heap.size, 2, none⟩ = some (.int .i8 (wd : Int)) := r3
    have s3' : W0.drew.cell? ⟨w.heap.size, 3, none⟩ = some (.int .i8 (ht : Int)) := s3
    have l3' : w.heap.size < W0.drew.heap.size := l3
    go_region_held3 (fun w' => w.heap.size < w'.heap.size ∧ w'.cell? ⟨w.heap.size, 0, none⟩ = some (.int .i8 (x0 : Int)) ∧ w'.cell? ⟨w.heap.size, 1, none⟩ = some (.int .i8 (y0 : Int)) ∧ w'.cell? ⟨w.heap.size, 2, none⟩ = some (.int .i8 (wd : Int)) ∧ w'.cell? ⟨w.heap.size, 3, none⟩ = some (.int .i8 (ht : Int)))
      (first | exact ⟨l3', p3', q3', r3', s3'⟩ | exact Sl.alloc ‹_› _ | exact Sl.alloc (Sl.alloc ‹_› _) _ | exact Sl.alloc (id (α := Sl _ _ _ _ _ _) ⟨by assumption, by assumption, by assumption, by assumption, by assumption⟩) _)
      (first | fail)
    all_goals
      go_wp2_with fail
      go_meet
      refine ⟨_, _, rfl, rfl, (al (al B _) _).drew, (R.alloc _).alloc _, (H3.alloc _).alloc _, ?_, ?_⟩
      all_goals first
        | exact Sl.newAt _ _ _ _ _ _ _ (by simp)
        | exact (Sl.newAt _ _ _ _ _ _ _ (by simp)).alloc _
  case rest =>
    obtain ⟨b5, b6, rfl, rfl, B, R, H3, H5, H6⟩ := hcut
    obtain ⟨W1, rfl⟩ : ∃ W1 : World, wc = W1 := ⟨_, rfl⟩
    clear HS0 hlt0 hblt
    obtain ⟨l3, p3, q3, r3, s3⟩ := id H3
    obtain ⟨l5, p5, q5, r5, s5⟩ := id H5
    obtain ⟨l6, p6, q6, r6, s6⟩ := id H6
    by_cases h1 : y0 = 0
    · have d1 : ((y0 : Int) == 0) = true := by simpa using h1
      obtain rfl : r = true := HRR.out.2 (.inl h1)
      clear h1 HRR
      go_wp2
      go_ret
      exact ⟨rfl, B⟩
    have d1 : ((y0 : Int) == 0) = false := by simpa using h1
    by_cases h2 : x0 = 0
    · have d2 : ((x0 : Int) == 0) = true := by simpa using h2
      obtain rfl : r = true := HRR.out.2 (.inr (.inl h2))
      clear h1 h2 HRR
      go_wp2
      go_ret
      exact ⟨rfl, B⟩
    have d2 : ((x0 : Int) == 0) = false := by simpa using h2
    obtain ⟨rn, hrn⟩ : ∃ rn : Bool, rn = true ↔ North G x0 y0 wd := by
      by_cases h : North G x0 y0 wd
      · exact ⟨true, by simp [h]⟩
      · exact ⟨false, by simp [h]⟩
    obtain ⟨rw_, hrw⟩ : ∃ rw_ : Bool, rw_ = true ↔ West G x0 y0 ht := by
      by_cases h : West G x0 y0 ht
      · exact ⟨true, by simp [h]⟩
      · exact ⟨false, by simp [h]⟩
    have hrr : r = true ↔ (rn = true ∨ rw_ = true) := by
      rw [HRR.out, hrn, hrw]
      unfold Lean
      constructor
      · rintro (h | h | h)
        · exact absurd h h1
        · exact absurd h h2
        · exact h
      · intro h; exact .inr (.inr h)
    have CN := Lib.hid (fun (W : World) (h : W.rowIs b 105 144 (fun p => .int .i8 (G p))) => covered_b b x0 (y0 - 1) wd 1 (x0 : Int) ((y0 : Int) - 1) (wd : Int) 1 G rn W hx (by omega) rfl (by omega) rfl rfl h (hrn.trans (north_iff hx (by omega)).symm))
    have CW := Lib.hid (fun (W : World) (h : W.rowIs b 105 144 (fun p => .int .i8 (G p))) => covered_b b (x0 - 1) y0 1 ht ((x0 : Int) - 1) (y0 : Int) 1 (ht : Int) G rw_ W (by omega) hy (by omega) rfl rfl rfl h (hrw.trans (west_iff hy (by omega)).symm))
    have HRN := Lib.hid hrr
    clear hrn hrw hrr HRR h1 h2
    cases rn with
    | true =>
      obtain rfl : r = true := HRN.out.2 (.inl rfl)
      go_wp2_with fail
      refine (CN.out _ R).mono ?_
      rintro e w2 ⟨rfl, hb⟩
      replace B := nxt B hb
      go_wp2
      go_ret
      exact ⟨rfl, B⟩
    | false =>
      have hrw : r = rw_ := by
        have h := HRN.out
        cases rw_ with
        | true => exact h.2 (.inr rfl)
        | false =>
          cases r with
          | false => rfl
          | true => rcases h.1 rfl with h | h <;> cases h
      subst hrw
      go_wp2_with fail
      refine (CN.out _ R).mono ?_
      rintro e w2 ⟨rfl, hb⟩
      replace B := nxt B hb
      replace R := rowNext0 R hb
      replace H6 := H6.below hb
      clear l6 p6 q6 r6 s6 l5 p5 q5 r5 s5 l3 p3 q3 r3 s3 hb
      obtain ⟨l6, p6, q6, r6, s6⟩ := id H6
      go_wp2_with fail
      refine (CW.out _ R).mono ?_
      rintro e w3 ⟨rfl, hb⟩
      replace B := nxt B hb
      clear l6 p6 q6 r6 s6 hb
      go_wp2
      go_ret
      exact ⟨rfl, B⟩
end Go.Proofs.Ytkdakpbkpfigeaa

namespace Go.Proofs.Ytkdakpbkpfigeaa
open Go Go.ChangeShapes Go.WideShapes Go.ChangeAt Go.RowKit
set_option linter.unusedVariables false
set_option linter.unusedSimpArgs false
set_option maxRecDepth 100000
set_option maxHeartbeats 4000000
/-- slab x0, y0, wd, ht may be laid upon a grid. -/
def Layable (X Y : Int) (G : Nat → Int) (a0 a1 a2 a3 : Int) : Prop :=
  ∃ x0 y0 wd ht : Nat, a0 = x0 ∧ a1 = y0 ∧ a2 = wd ∧ a3 = ht ∧ 1 ≤ wd ∧ 1 ≤ ht ∧ (x0 : Int) + wd ≤ X ∧ (y0 : Int) + ht ≤ Y ∧ (∀ k, k < wd * ht → G (posC (cellAt x0 y0 wd k)) = 0) ∧ Lean G x0 y0 wd ht
theorem layable_nat {X Y : Int} {G : Nat → Int} {x0 y0 wd ht : Nat} : Layable X Y G (x0 : Int) (y0 : Int) (wd : Int) (ht : Int) ↔ 1 ≤ wd ∧ 1 ≤ ht ∧ (x0 : Int) + wd ≤ X ∧ (y0 : Int) + ht ≤ Y ∧ (∀ k, k < wd * ht → G (posC (cellAt x0 y0 wd k)) = 0) ∧ Lean G x0 y0 wd ht := by
  constructor
  · rintro ⟨x, y, z, u, e0, e1, e2, e3, h⟩
    obtain rfl : x0 = x := by omega
    obtain rfl : y0 = y := by omega
    obtain rfl : wd = z := by omega
    obtain rfl : ht = u := by omega
    exact h
  · intro h
    exact ⟨x0, y0, wd, ht, rfl, rfl, rfl, rfl, h⟩
theorem canLay_any (X Y : Int) (sl : Value) (b : Nat) (G : Nat → Int) (a0 a1 a2 a3 : Int) (r : Bool) (w : World) (hX : -128 ≤ X ∧ X ≤ 12) (hY : -128 ≤ Y ∧ Y ≤ 12) (b0 : -128 ≤ a0 ∧ a0 ≤ 127) (b1 : -128 ≤ a1 ∧ a1 ≤ 127) (b2 : -128 ≤ a2 ∧ a2 ≤ 127) (b3 : -128 ≤ a3 ∧ a3 ≤ 127)
    (hG : w.rowIs b 105 144 (fun p => .int .i8 (G p))) (hr : r = true ↔ Layable X Y G a0 a1 a2 a3) :
    Calls Try.prog 93 #[.agg #[.int .i8 X, .int .i8 Y, sl], .pointer (some ⟨b, 0, none⟩), .agg #[.int .i8 a0, .int .i8 a1, .int .i8 a2, .int .i8 a3]] w fun e w' => e = .returned (.bool r) ∧ Below w.heap.size w w' := by
  have HRR := Lib.hid hr
  clear hr
  have HQ := (Sq.new w X Y sl 31).alloc (.cells #[.int .i8 a0, .int .i8 a1, .int .i8 a2, .int .i8 a3] 110)
  have B := al (al (Below.refl w.heap.size w) (.cells #[.int .i8 X, .int .i8 Y, sl] 31)) (.cells #[.int .i8 a0, .int .i8 a1, .int .i8 a2, .int .i8 a3] 110)
  have R := (hG.alloc (.cells #[.int .i8 X, .int .i8 Y, sl] 31)).alloc (.cells #[.int .i8 a0, .int .i8 a1, .int .i8 a2, .int .i8 a3] 110)
  have H3 : Sl ((w.alloc (.cells #[.int .i8 X, .int .i8 Y, sl] 31)).alloc (.cells #[.int .i8 a0, .int .i8 a1, .int .i8 a2, .int .i8 a3] 110)) (w.heap.size + 1) a0 a1 a2 a3 := Sl.newAt _ _ _ _ _ _ _ (by simp)
  go_enter Try.func93, Try.ntmps93
  go_upto_region 1 with fail
  obtain ⟨W0, hW0⟩ : ∃ W0 : World, W0 = ((w.alloc (.cells #[.int .i8 X, .int .i8 Y, sl] 31)).alloc (.cells #[.int .i8 a0, .int .i8 a1, .int .i8 a2, .int .i8 a3] 110)) := ⟨_, rfl⟩
  rw [← hW0] at HQ H3 B R ⊢
  clear hW0
  obtain ⟨lq, pq, qq, rq⟩ := id HQ
  obtain ⟨l3, p3, q3, r3, s3⟩ := id H3
  by_cases hl : 0 ≤ a0 ∧ 0 ≤ a1 ∧ 1 ≤ a2 ∧ 1 ≤ a3 ∧ a0 + a2 ≤ X ∧ a1 + a3 ≤ Y
  case neg =>
    have hf : r = false := by
      cases r with
      | false => rfl
      | true =>
        obtain ⟨x0, y0, wd, ht, rfl, rfl, rfl, rfl, h1, h2, h3, h4, _⟩ := HRR.out.1 rfl
        exact absurd ⟨by omega, by omega, by omega, by omega, h3, h4⟩ hl
    subst hf
    clear HRR
    go_wp2_with fail
    refine (lw_no X Y a0 a1 a2 a3 _ (by omega) (by omega) b0 b1 b2 b3 hl).mono ?_
    rintro e w1 ⟨rfl, hb⟩
    replace B := nxt B hb
    clear hb hl
    go_wp2
    go_ret
    exact ⟨rfl, B⟩
  obtain ⟨x0, rfl⟩ := Int.eq_ofNat_of_zero_le hl.1
  obtain ⟨y0, rfl⟩ := Int.eq_ofNat_of_zero_le hl.2.1
  obtain ⟨wd, rfl⟩ := Int.eq_ofNat_of_zero_le (show 0 ≤ a2 by omega)
  obtain ⟨ht, rfl⟩ := Int.eq_ofNat_of_zero_le (show 0 ≤ a3 by omega)
  have hx : x0 + wd ≤ 12 := by omega
  have hy : y0 + ht ≤ 12 := by omega
  have hw1 : 1 ≤ wd := by omega
  have hh1 : 1 ≤ ht := by omega
  have hr2 : r = true ↔ (∀ k, k < wd * ht → G (posC (cellAt x0 y0 wd k)) = 0) ∧ Lean G x0 y0 wd ht := by
    rw [HRR.out, layable_nat]
    constructor
    · rintro ⟨_, _, _, _, h⟩; exact h
    · intro h; exact ⟨hw1, hh1, by omega, by omega, h⟩
  have HR2 := Lib.hid hr2
  have HL := Lib.hid hl
  clear HRR hr2 hl
  go_wp2_with fail
  refine (lw_yes X Y _ _ _ _ _ (by omega) (by omega) (by omega) (by omega) (by omega) (by omega) HL.out).mono ?_
  rintro e w1 ⟨rfl, hb⟩
  replace B := nxt B hb
  replace R := rowNext0 R hb
  replace H3 := H3.below hb
  clear lq pq qq rq l3 p3 q3 r3 s3 hb HQ
  obtain ⟨l3, p3, q3, r3, s3⟩ := id H3
  go_wp2_with fail
  refine (callsIn_wide.1 (isOpen_in 6 (by omega) b x0 y0 wd ht G _ hx hy R)).mono ?_
  rintro e w2 ⟨hb, ⟨rfl, ho⟩ | ⟨rfl, k, hk, ho⟩⟩
  · have hr3 : r = true ↔ Lean G x0 y0 wd ht := by
      rw [HR2.out]
      exact ⟨fun h => h.2, fun h => ⟨ho, h⟩⟩
    have HR3 := Lib.hid hr3
    replace B := nxt B hb
    replace R := rowNext0 R hb
    replace H3 := H3.below hb
    clear l3 p3 q3 r3 s3 hb ho hr3 HR2
    obtain ⟨l3, p3, q3, r3, s3⟩ := id H3
    go_wp2_with fail
    refine (leans_any b x0 y0 wd ht G r _ hx hy hw1 hh1 R HR3.out).mono ?_
    rintro e w3 ⟨rfl, hb⟩
    replace B := nxt B hb
    clear l3 p3 q3 r3 s3 hb
    go_wp2
    go_ret
    exact ⟨rfl, B⟩
  · have hf : r = false := by
      cases r with
      | false => rfl
      | true => exact absurd ((HR2.out.1 rfl).1 k hk) ho
    subst hf
    replace B := nxt B hb
    clear l3 p3 q3 r3 s3 hb ho HR2
    go_wp2
    go_ret
    exact ⟨rfl, B⟩
end Go.Proofs.Ytkdakpbkpfigeaa

namespace Go.Proofs.Ytkdakpbkpfigeaa
open Go Go.ChangeShapes Go.WideShapes Go.ChangeAt Go.RowKit canPut
set_option linter.unusedVariables false
set_option linter.unusedSimpArgs false
set_option maxRecDepth 100000
set_option maxHeartbeats 4000000
theorem l05Can_in (X Y : Int) (bq g n x0 y0 wd ht : Nat) (c : Nat → Int) (r : Bool) (w : World) (hX : -128 ≤ X ∧ X ≤ 127) (hY : -128 ≤ Y ∧ Y ≤ 127) (hc : ∀ j, -128 ≤ c j ∧ c j ≤ 127) (hm : n ≤ 1048576)
    (hq : Sq w bq X Y (.slice (some ⟨g, 0, none⟩) n n)) (hrow : w.rowIs g 110 (4 * n) (fun j => .int .i8 (c j))) (hv : Valid X Y n c) (hx : x0 + wd ≤ 12) (hy : y0 + ht ≤ 12)
    (hl : (0 : Int) ≤ x0 ∧ (0 : Int) ≤ y0 ∧ (1 : Int) ≤ wd ∧ (1 : Int) ≤ ht ∧ (x0 : Int) + wd ≤ X ∧ (y0 : Int) + ht ≤ Y) (hr : r = true ↔ Layable X Y (gridN c n) (x0 : Int) (y0 : Int) (wd : Int) (ht : Int)) :
    Calls Try.prog 90 #[.pointer (some ⟨bq, 0, none⟩), .agg #[.int .i8 (x0 : Int), .int .i8 (y0 : Int), .int .i8 (wd : Int), .int .i8 (ht : Int)]] w fun e w' => e = .returned (.bool r) ∧ Below w.heap.size w w' := by
  have hr2 : r = true ↔ (∀ k, k < wd * ht → gridN c n (posC (cellAt x0 y0 wd k)) = 0) ∧ Lean (gridN c n) x0 y0 wd ht := by
    rw [hr, layable_nat]
    constructor
    · rintro ⟨_, _, _, _, h⟩; exact h
    · intro h; exact ⟨by omega, by omega, by omega, by omega, h⟩
  have HR2 := Lib.hid hr2
  have HC := Lib.hid hc
  have HL := Lib.hid hl
  clear hr hr2 hc hl
  have e0 := ext0 c n (x0 : Int) y0 wd ht
  have e1 := ext1 c n (x0 : Int) y0 wd ht
  have e2 := ext2 c n (x0 : Int) y0 wd ht
  have e3 := ext3 c n (x0 : Int) y0 wd ht
  have hcx := gridN_ext c n (x0 : Int) y0 wd ht
  have hop1 : (∀ k, k < wd * ht → gridN c n (posC (cellAt x0 y0 wd k)) = 0) → opn (ext c n (x0 : Int) y0 wd ht) n := fun h => opn_yes e0 e1 e2 e3 hx hy (fun k hk => by rw [hcx]; exact h k hk)
  have hop2 : opn (ext c n (x0 : Int) y0 wd ht) n → ∀ k, k < wd * ht → gridN c n (posC (cellAt x0 y0 wd k)) = 0 := fun ho k hk => by
    apply Classical.byContradiction
    intro h
    exact opn_no e0 e1 e2 e3 hx hy ⟨k, hk, by rw [hcx]; exact h⟩ ho
  have CC := Lib.hid (fun (W : World) (h : Sq W bq X Y (.slice (some ⟨g, 0, none⟩) n n)) (h2 : W.rowIs g 110 (4 * n) (fun j => .int .i8 (c j))) => canPut.can_in X Y bq g n x0 y0 wd ht c (ext c n (x0 : Int) y0 wd ht) W hX hY HC.out hm h h2 hv e0 e1 e2 e3 hcx hx hy HL.out)
  have HO1 := Lib.hid hop1
  have HO2 := Lib.hid hop2
  clear e0 e1 e2 e3 hcx hop1 hop2
  have H3 := Sl.new w (x0 : Int) (y0 : Int) (wd : Int) (ht : Int) 110
  have B := al (Below.refl w.heap.size w) (.cells #[.int .i8 (x0 : Int), .int .i8 (y0 : Int), .int .i8 (wd : Int), .int .i8 (ht : Int)] 110)
  have hq' := hq.alloc (.cells #[.int .i8 (x0 : Int), .int .i8 (y0 : Int), .int .i8 (wd : Int), .int .i8 (ht : Int)] 110)
  have R := hrow.alloc (.cells #[.int .i8 (x0 : Int), .int .i8 (y0 : Int), .int .i8 (wd : Int), .int .i8 (ht : Int)] 110)
  go_enter Try.func90, Try.ntmps90
  go_upto_region 1 with fail
  obtain ⟨W0, hW0⟩ : ∃ W0 : World, W0 = (w.alloc (.cells #[.int .i8 (x0 : Int), .int .i8 (y0 : Int), .int .i8 (wd : Int), .int .i8 (ht : Int)] 110)) := ⟨_, rfl⟩
  rw [← hW0] at hq' H3 B R ⊢
  clear hW0
  obtain ⟨l3, p3, q3, r3, s3⟩ := id H3
  go_wp2_with fail
  refine (CC.out _ hq' R).mono ?_
  rintro e w1 ⟨hb, ⟨ho, rfl⟩ | ⟨ho, rfl⟩⟩
  case inr =>
    have hf : r = false := by
      cases r with
      | false => rfl
      | true => exact absurd (HO1.out (HR2.out.1 rfl).1) ho
    subst hf
    replace B := nxt B hb
    clear l3 p3 q3 r3 s3 hb ho HR2 HO1 HO2 CC
    go_wp2
    go_ret
    exact ⟨rfl, B⟩
  have hr3 : r = true ↔ Lean (gridN c n) x0 y0 wd ht := by
    rw [HR2.out]
    exact ⟨fun h => h.2, fun h => ⟨HO2.out ho, h⟩⟩
  have HR3 := Lib.hid hr3
  replace B := nxt B hb
  replace H3 := H3.below hb
  replace hq' := hq'.below hb
  replace R := rowNext0 R hb
  clear l3 p3 q3 r3 s3 hb ho HR2 HO1 HO2 CC hr3
  go_wp2_with fail
  refine (lay_any X Y bq g n c _ hX hY HC.out hm hq' R).mono ?_
  rintro e w3 ⟨hb, cs, hsz, hone, hcase⟩
  rcases hcase with ⟨_, hcell, rfl⟩ | ⟨hn, _⟩
  case inr => exact absurd hv hn
  replace H3 := H3.below hb
  replace B := nxt B hb
  clear hb hq' R
  have hG : (w3.alloc (.cells Try.zeroCells192 192)).heap[w3.heap.size]? = some (.cells Try.zeroCells192 192 (0, 0)) := heap_alloc_new w3 _
  have B4 := below_setRow (al B (.cells Try.zeroCells192 192)) B.size cs
  have H4 : Sl ((w3.alloc (.cells Try.zeroCells192 192)).setRow w3.heap.size cs) w.heap.size (x0 : Int) y0 wd ht := (H3.alloc _).of_block (by rw [setRow_size]; exact Nat.le_refl _) (setRow_other _ _ _ _ (by have := H3.1; omega))
  have R4 : ((w3.alloc (.cells Try.zeroCells192 192)).setRow w3.heap.size cs).rowIs w3.heap.size 192 144 (fun p => .int .i64 (gridN c n p)) := ⟨cs, setRow_heap _ _ _ _ _ _ hG, hsz, fun p hp => by show cs[p]? = some (Value.int IntKind.i64 (gridN c n p)); rw [hcell p hp]⟩
  obtain ⟨W4, hW4⟩ : ∃ W4 : World, W4 = ((w3.alloc (.cells Try.zeroCells192 192)).setRow w3.heap.size cs) := ⟨_, rfl⟩
  rw [← hW4] at B4 H4 R4
  clear H3 B hG
  have H4' := H4
  obtain ⟨l6, p6, q6, r6, s6⟩ := H4'
  go_wp2_with (first
    | (refine wpList_store_row rfl 192 (.tmp 5) (.tmp 18) rfl w3.heap.size cs rfl rfl 192 Try.zeroCells192 (heap_alloc_new w3 _) (by rw [info93, hsz]) (by rw [zc_size, hsz]) hone ?_
       rw [← hW4]
       clear hW4 hcell hone hsz))
  clear p6 q6 r6 s6 l6
  obtain ⟨G, hGe⟩ : ∃ G, G = gridN c n := ⟨_, rfl⟩
  rw [← hGe] at R4 HR3
  obtain ⟨gb, hgb⟩ : ∃ gb, gb = w3.heap.size := ⟨_, rfl⟩
  rw [← hgb] at R4 ⊢
  clear hGe hgb
  go_loopw [7, 8] (fun t7 t8 wr => ∃ (x : Nat) (q : Bool), t8 = .int .i8 x ∧ x0 ≤ x ∧ x ≤ x0 + wd ∧ Below w.heap.size w wr ∧ Sl wr w.heap.size (x0 : Int) (y0 : Int) (wd : Int) (ht : Int) ∧ wr.rowIs gb 192 144 (fun p => .int .i64 (G p)) ∧ t7 = .bool q ∧ (q = true ↔ ∀ i, x0 ≤ i → i < x → y0 = 0 ∨ G ((y0 - 1) * 12 + i) ≠ 0)) (fun t7 t8 wr => ((x0 : Int) + wd - intOf t8).toNat)
  case atStart => exact ⟨x0, true, rfl, by omega, by omega, B4, H4, R4, rfl, by simp; intro i h1 h2; omega⟩
  case round =>
    clear B4 H4 R4
    obtain ⟨x, q, rfl, hx1, hx2, B4, H4, R4, rfl, hq⟩ := hrel
    have HQ := Lib.hid hq
    clear hq
    obtain ⟨l6, p6, q6, r6, s6⟩ := id H4
    by_cases hxt : x < x0 + wd
    · have hxi : (x : Int) < (x0 : Int) + (wd : Int) := by omega
      have hx12 : x < 12 := by omega
      have hxi2 : (x : Int) < 12 := by omega
      have hx0 : (0 : Int) ≤ (x : Int) := by omega
      cases q with
      | false =>
        have HN : Hid (¬ ∀ i, x0 ≤ i → i < x → y0 = 0 ∨ G ((y0 - 1) * 12 + i) ≠ 0) := Lib.hid (fun h => Bool.noConfusion (HQ.out.2 h))
        clear HQ
        go_wp2_with fail
        exact ⟨⟨x + 1, false, by first | go_num | simp, by omega, by omega, B4, H4, R4, by first | trivial | rfl, ⟨fun h => (by cases h), fun h => absurd (fun i h1 h2 => h i h1 (by omega)) HN.out⟩⟩, by simp [intOf]; omega⟩
      | true =>
        have HY := Lib.hid (HQ.out.1 rfl)
        clear HQ
        by_cases hz : y0 = 0
        · have d : ((y0 : Int) == 0) = true := by simpa using hz
          have HZ := Lib.hid hz
          clear hz
          go_wp2_with fail
          exact ⟨⟨x + 1, true, by first | go_num | simp, by omega, by omega, B4, H4, R4, by first | trivial | rfl, by simp; intro i h1 h2; exact .inl HZ.out⟩, by simp [intOf]; omega⟩
        · have d : ((y0 : Int) == 0) = false := by simpa using hz
          have HZ := Lib.hid hz
          have v2 : IntKind.i8.wrap ((y0 : Int) - 1) = (y0 : Int) - 1 := IntWalk.i8_in _ (by omega)
          have v3 : 0 ≤ (y0 : Int) - 1 := by omega
          have v4 : ((y0 : Int) - 1).toNat = y0 - 1 := by omega
          have v5 : (y0 : Int) - 1 < 12 := by omega
          have hc := R4.cell (i := (y0 - 1) * 12 + x) (by omega)
          obtain ⟨y, hy⟩ : ∃ y, y = G ((y0 - 1) * 12 + x) := ⟨_, rfl⟩
          (try dsimp only at hc)
          rw [← hy] at hc
          have HG := Lib.hid hy
          clear hz hy
          by_cases h0 : y = 0
          · have d2 : (y != 0) = false := by simpa using h0
            have H0 := Lib.hid h0
            clear h0
            go_wp2_with fail
            exact ⟨⟨x + 1, false, by first | go_num | simp, by omega, by omega, B4, H4, R4, by first | trivial | rfl, by
              constructor
              · intro h; cases h
              · intro h
                rcases h x (by omega) (by omega) with e | e
                · exact absurd e HZ.out
                · exact absurd (by rw [← HG.out]; exact H0.out) e⟩, by simp [intOf]; omega⟩
          · have d2 : (y != 0) = true := by simpa using h0
            have H0 := Lib.hid h0
            clear h0
            go_wp2_with fail
            exact ⟨⟨x + 1, true, by first | go_num | simp, by omega, by omega, B4, H4, R4, by first | trivial | rfl, by
              constructor
              · intro _ i h1 h2
                by_cases e : i = x
                · subst e; exact .inr (by rw [← HG.out]; exact H0.out)
                · exact HY.out i h1 (by omega)
              · intro _; rfl⟩, by simp [intOf]; omega⟩
    · obtain rfl : x = x0 + wd := by omega
      have hxi : ¬ (((x0 + wd : Nat) : Int) < (x0 : Int) + (wd : Int)) := by omega
      have HNQ := HQ
      clear HQ hxt hx1 hx2
      go_wp2_with fail
      clear p6 q6 r6 s6 l6 hxi
      obtain ⟨qn, rfl⟩ : ∃ qn, qn = q := ⟨_, rfl⟩
      go_loopw [9, 10] (fun t9 t10 wr => ∃ (x : Nat) (q : Bool), t10 = .int .i8 x ∧ y0 ≤ x ∧ x ≤ y0 + ht ∧ Below w.heap.size w wr ∧ Sl wr w.heap.size (x0 : Int) (y0 : Int) (wd : Int) (ht : Int) ∧ wr.rowIs gb 192 144 (fun p => .int .i64 (G p)) ∧ t9 = .bool q ∧ (q = true ↔ ∀ i, y0 ≤ i → i < x → x0 = 0 ∨ G (i * 12 + (x0 - 1)) ≠ 0)) (fun t9 t10 wr => ((y0 : Int) + ht - intOf t10).toNat)
      case atStart => exact ⟨y0, true, rfl, by omega, by omega, B4, H4, R4, rfl, by simp; intro i h1 h2; omega⟩
      case round =>
        clear B4 H4 R4
        obtain ⟨x, q, rfl, hx1, hx2, B4, H4, R4, rfl, hq⟩ := hrel
        have HQ := Lib.hid hq
        clear hq
        obtain ⟨l6, p6, q6, r6, s6⟩ := id H4
        by_cases hxt : x < y0 + ht
        · have hxi : (x : Int) < (y0 : Int) + (ht : Int) := by omega
          have hx12 : x < 12 := by omega
          have hxi2 : (x : Int) < 12 := by omega
          have hx0 : (0 : Int) ≤ (x : Int) := by omega
          cases q with
          | false =>
            have HN : Hid (¬ ∀ i, y0 ≤ i → i < x → x0 = 0 ∨ G (i * 12 + (x0 - 1)) ≠ 0) := Lib.hid (fun h => Bool.noConfusion (HQ.out.2 h))
            clear HQ
            go_wp2_with fail
            go_quiet (fail)
            go_wp2_with fail
            exact ⟨⟨x + 1, false, by first | go_num | simp, by omega, by omega, below_drewN' B4 _, H4, R4, by first | trivial | rfl, ⟨fun h => (by cases h), fun h => absurd (fun i h1 h2 => h i h1 (by omega)) HN.out⟩⟩, by simp [intOf]; omega⟩
          | true =>
            have HY := Lib.hid (HQ.out.1 rfl)
            clear HQ
            by_cases hz : x0 = 0
            · have d : ((x0 : Int) == 0) = true := by simpa using hz
              have HZ := Lib.hid hz
              clear hz
              go_wp2_with fail
              go_quiet (fail)
              go_wp2_with fail
              exact ⟨⟨x + 1, true, by first | go_num | simp, by omega, by omega, below_drewN' B4 _, H4, R4, by first | trivial | rfl, by simp; intro i h1 h2; exact .inl HZ.out⟩, by simp [intOf]; omega⟩
            · have d : ((x0 : Int) == 0) = false := by simpa using hz
              have HZ := Lib.hid hz
              have v2 : IntKind.i8.wrap ((x0 : Int) - 1) = (x0 : Int) - 1 := IntWalk.i8_in _ (by omega)
              have v3 : 0 ≤ (x0 : Int) - 1 := by omega
              have v4 : ((x0 : Int) - 1).toNat = x0 - 1 := by omega
              have v5 : (x0 : Int) - 1 < 12 := by omega
              have hc := R4.cell (i := x * 12 + (x0 - 1)) (by omega)
              obtain ⟨y, hy⟩ : ∃ y, y = G (x * 12 + (x0 - 1)) := ⟨_, rfl⟩
              (try dsimp only at hc)
              rw [← hy] at hc
              have HG := Lib.hid hy
              clear hz hy
              by_cases h0 : y = 0
              · have d2 : (y != 0) = false := by simpa using h0
                have H0 := Lib.hid h0
                clear h0
                go_wp2_with fail
                go_quiet (fail)
                go_wp2_with fail
                exact ⟨⟨x + 1, false, by first | go_num | simp, by omega, by omega, below_drewN' B4 _, H4, R4, by first | trivial | rfl, by
                  constructor
                  · intro h; cases h
                  · intro h
                    rcases h x (by omega) (by omega) with e | e
                    · exact absurd e HZ.out
                    · exact absurd (by rw [← HG.out]; exact H0.out) e⟩, by simp [intOf]; omega⟩
              · have d2 : (y != 0) = true := by simpa using h0
                have H0 := Lib.hid h0
                clear h0
                go_wp2_with fail
                go_quiet (fail)
                go_wp2_with fail
                exact ⟨⟨x + 1, true, by first | go_num | simp, by omega, by omega, below_drewN' B4 _, H4, R4, by first | trivial | rfl, by
                  constructor
                  · intro _ i h1 h2
                    by_cases e : i = x
                    · subst e; exact .inr (by rw [← HG.out]; exact H0.out)
                    · exact HY.out i h1 (by omega)
                  · intro _; rfl⟩, by simp [intOf]; omega⟩
        · obtain rfl : x = y0 + ht := by omega
          have hxi : ¬ (((y0 + ht : Nat) : Int) < (y0 : Int) + (ht : Int)) := by omega
          have HWQ := HQ
          clear HQ hxt hx1 hx2
          have hfin : r = true ↔ (qn = true ∨ q = true) := by
            rw [HR3.out, HNQ.out, HWQ.out]
            unfold Lean North West
            constructor
            · rintro (h | h | h | h)
              · exact .inl (fun i h1 h2 => .inl h)
              · exact .inr (fun i h1 h2 => .inl h)
              · exact .inl (fun i h1 h2 => .inr (by have := h (i - x0) (by omega); rwa [show x0 + (i - x0) = i by omega] at this))
              · exact .inr (fun i h1 h2 => .inr (by have := h (i - y0) (by omega); rwa [show y0 + (i - y0) = i by omega] at this))
            · rintro (h | h)
              · by_cases e : y0 = 0
                · exact .inl e
                · exact .inr (.inr (.inl (fun i hi => (h (x0 + i) (by omega) (by omega)).resolve_left e)))
              · by_cases e : x0 = 0
                · exact .inr (.inl e)
                · exact .inr (.inr (.inr (fun i hi => (h (y0 + i) (by omega) (by omega)).resolve_left e)))
          have HFIN := Lib.hid hfin
          clear hfin HR3 HNQ HWQ
          cases qn with
          | true =>
            obtain rfl : r = true := HFIN.out.2 (.inl rfl)
            go_wp2
            go_ret
            exact ⟨rfl, B4⟩
          | false =>
            have hrq : r = q := by
              have h := HFIN.out
              cases q with
              | true => exact h.2 (.inr rfl)
              | false =>
                cases r with
                | false => rfl
                | true => rcases h.1 rfl with h | h <;> cases h
            subst hrq
            go_wp2
            go_ret
            exact ⟨rfl, B4⟩
end Go.Proofs.Ytkdakpbkpfigeaa

namespace Go.Proofs.Ytkdakpbkpfigeaa
open Go Go.ChangeShapes Go.WideShapes Go.ChangeAt Go.RowKit canPut
set_option linter.unusedVariables false
set_option linter.unusedSimpArgs false
set_option maxRecDepth 100000
set_option maxHeartbeats 4000000
theorem l05Can_out (X Y : Int) (bq g n : Nat) (c : Nat → Int) (a0 a1 a2 a3 : Int) (w : World) (hX : -128 ≤ X ∧ X ≤ 127) (hY : -128 ≤ Y ∧ Y ≤ 127) (b0 : -128 ≤ a0 ∧ a0 ≤ 127) (b1 : -128 ≤ a1 ∧ a1 ≤ 127) (b2 : -128 ≤ a2 ∧ a2 ≤ 127) (b3 : -128 ≤ a3 ∧ a3 ≤ 127)
    (hq : Sq w bq X Y (.slice (some ⟨g, 0, none⟩) n n)) (hl : ¬ (0 ≤ a0 ∧ 0 ≤ a1 ∧ 1 ≤ a2 ∧ 1 ≤ a3 ∧ a0 + a2 ≤ X ∧ a1 + a3 ≤ Y)) :
    Calls Try.prog 90 #[.pointer (some ⟨bq, 0, none⟩), .agg #[.int .i8 a0, .int .i8 a1, .int .i8 a2, .int .i8 a3]] w fun e w' => e = .returned (.bool false) ∧ Below w.heap.size w w' := by
  have H3 := Sl.new w a0 a1 a2 a3 110
  have B := al (Below.refl w.heap.size w) (.cells #[.int .i8 a0, .int .i8 a1, .int .i8 a2, .int .i8 a3] 110)
  have hq' := hq.alloc (.cells #[.int .i8 a0, .int .i8 a1, .int .i8 a2, .int .i8 a3] 110)
  go_enter Try.func90, Try.ntmps90
  go_upto_region 1 with fail
  obtain ⟨W0, hW0⟩ : ∃ W0 : World, W0 = (w.alloc (.cells #[.int .i8 a0, .int .i8 a1, .int .i8 a2, .int .i8 a3] 110)) := ⟨_, rfl⟩
  rw [← hW0] at hq' H3 B ⊢
  clear hW0
  obtain ⟨l3, p3, q3, r3, s3⟩ := id H3
  go_wp2_with fail
  refine (can_out X Y bq g n c a0 a1 a2 a3 _ hX hY b0 b1 b2 b3 hq' hl).mono ?_
  rintro e w1 ⟨hb, rfl⟩
  replace B := nxt B hb
  clear l3 p3 q3 r3 s3 hb
  go_wp2
  go_ret
  exact ⟨rfl, B⟩
/-- spec.l05Can, at any slab. -/
theorem l05Can_any (X Y : Int) (bq g n : Nat) (c : Nat → Int) (a0 a1 a2 a3 : Int) (r : Bool) (w : World) (hX : -128 ≤ X ∧ X ≤ 127) (hY : -128 ≤ Y ∧ Y ≤ 127) (hc : ∀ j, -128 ≤ c j ∧ c j ≤ 127) (hm : n ≤ 1048576) (b0 : -128 ≤ a0 ∧ a0 ≤ 127) (b1 : -128 ≤ a1 ∧ a1 ≤ 127) (b2 : -128 ≤ a2 ∧ a2 ≤ 127) (b3 : -128 ≤ a3 ∧ a3 ≤ 127)
    (hq : Sq w bq X Y (.slice (some ⟨g, 0, none⟩) n n)) (hrow : w.rowIs g 110 (4 * n) (fun j => .int .i8 (c j))) (hv : Valid X Y n c) (hr : r = true ↔ Layable X Y (gridN c n) a0 a1 a2 a3) :
    Calls Try.prog 90 #[.pointer (some ⟨bq, 0, none⟩), .agg #[.int .i8 a0, .int .i8 a1, .int .i8 a2, .int .i8 a3]] w fun e w' => e = .returned (.bool r) ∧ Below w.heap.size w w' := by
  by_cases hl : 0 ≤ a0 ∧ 0 ≤ a1 ∧ 1 ≤ a2 ∧ 1 ≤ a3 ∧ a0 + a2 ≤ X ∧ a1 + a3 ≤ Y
  · obtain ⟨x0, rfl⟩ := Int.eq_ofNat_of_zero_le hl.1
    obtain ⟨y0, rfl⟩ := Int.eq_ofNat_of_zero_le hl.2.1
    obtain ⟨wd, rfl⟩ := Int.eq_ofNat_of_zero_le (show 0 ≤ a2 by omega)
    obtain ⟨ht, rfl⟩ := Int.eq_ofNat_of_zero_le (show 0 ≤ a3 by omega)
    have hx : x0 + wd ≤ 12 := by have := hv.2.1; omega
    have hy : y0 + ht ≤ 12 := by have := hv.2.2.2.1; omega
    exact l05Can_in X Y bq g n x0 y0 wd ht c r w hX hY hc hm hq hrow hv hx hy hl hr
  · have hf : r = false := by
      cases r with
      | false => rfl
      | true =>
        obtain ⟨x0, y0, wd, ht, rfl, rfl, rfl, rfl, h1, h2, h3, h4, _⟩ := hr.1 rfl
        exact absurd ⟨by omega, by omega, by omega, by omega, h3, h4⟩ hl
    subst hf
    exact l05Can_out X Y bq g n c a0 a1 a2 a3 w hX hY b0 b1 b2 b3 hq hl
namespace canLay
end canLay
end Go.Proofs.Ytkdakpbkpfigeaa

namespace Go.Proofs.Ytkdakpbkpfigeaa
open Go
set_option linter.unusedVariables false
set_option linter.unusedSimpArgs false

/-- i is the first place of a number. -/
def FirstAt (d : Nat → Int) (m : Nat) (v : Int) (i : Nat) : Prop := i < m ∧ d i = v ∧ ∀ j, j < i → d j ≠ v
theorem FirstAt.one {d : Nat → Int} {m i j : Nat} {v : Int} (h : FirstAt d m v i) (k : FirstAt d m v j) : i = j := by
  rcases Nat.lt_trichotomy i j with e | e | e
  · exact absurd h.2.1 (k.2.2 i e)
  · exact e
  · exact absurd k.2.1 (h.2.2 j e)
theorem firstAt_ex (d : Nat → Int) (v : Int) : ∀ m, (∃ k, k < m ∧ d k = v) → ∃ i, FirstAt d m v i
  | 0, ⟨k, hk, _⟩ => by omega
  | m + 1, ⟨k, hk, e⟩ => by
    by_cases h : ∃ k, k < m ∧ d k = v
    · obtain ⟨i, hi⟩ := firstAt_ex d v m h
      exact ⟨i, by have := hi.1; omega, hi.2⟩
    · have : k = m := by
        apply Classical.byContradiction
        intro hne
        exact h ⟨k, by omega, e⟩
      subst this
      exact ⟨k, by omega, e, fun j hj he => h ⟨j, hj, he⟩⟩
open Classical in
/-- the turn of a number. -/
noncomputable def tn (d : Nat → Int) (m : Nat) (v : Int) : Nat := if h : ∃ i, FirstAt d m v i then Classical.choose h else 0
theorem tn_eq {d : Nat → Int} {m i : Nat} {v : Int} (h : FirstAt d m v i) : tn d m v = i := by
  have he : ∃ i, FirstAt d m v i := ⟨i, h⟩
  unfold tn
  rw [dif_pos he]
  exact (Classical.choose_spec he).one h
/-- no number comes twice. -/
def Apart1 (n : Nat) (c : Nat → Int) : Prop := ∀ i, i < n → ∀ j, j < i → c j ≠ c i
/-- two orders of the same numbers. -/
def Again (n : Nat) (c : Nat → Int) (m : Nat) (d : Nat → Int) : Prop := Apart1 n c ∧ n = m ∧ ∀ i, i < n → ∃ k, k < m ∧ d k = c i
def LfCode (n : Nat) (c : Nat → Int) (r : Int) : Prop := (10 < n ∧ r = 3) ∨ (n ≤ 10 ∧ ¬ Apart1 n c ∧ r = 4) ∨ (n ≤ 10 ∧ Apart1 n c ∧ r = 0)
def StCode (n : Nat) (c : Nat → Int) (m : Nat) (d : Nat → Int) (r : Int) : Prop := (10 < n ∧ r = 3) ∨ (n ≤ 10 ∧ ¬ Again n c m d ∧ r = 4) ∨ (n ≤ 10 ∧ Again n c m d ∧ r = 0)
theorem LfCode.one {n : Nat} {c : Nat → Int} {r s : Int} (h : LfCode n c r) (k : LfCode n c s) : r = s := by
  rcases h with ⟨a, rfl⟩ | ⟨a, b, rfl⟩ | ⟨a, b, rfl⟩ <;> rcases k with ⟨a', rfl⟩ | ⟨a', b', rfl⟩ | ⟨a', b', rfl⟩ <;> first | rfl | omega | exact absurd b' b | exact absurd b b'
theorem StCode.one {n : Nat} {c : Nat → Int} {m : Nat} {d : Nat → Int} {r s : Int} (h : StCode n c m d r) (k : StCode n c m d s) : r = s := by
  rcases h with ⟨a, rfl⟩ | ⟨a, b, rfl⟩ | ⟨a, b, rfl⟩ <;> rcases k with ⟨a', rfl⟩ | ⟨a', b', rfl⟩ | ⟨a', b', rfl⟩ <;> first | rfl | omega | exact absurd b' b | exact absurd b b'
/-- the turns of slabs that are lifted. -/
noncomputable def tnF (c : Nat → Int) (m : Nat) (d : Nat → Int) (i : Nat) : Int := (tn d m (c i) : Int)
theorem tnF_at {n : Nat} {c : Nat → Int} {m : Nat} {d : Nat → Int} (h : Again n c m d) {i : Nat} (hi : i < n) : FirstAt d m (c i) (tn d m (c i)) := by
  obtain ⟨k, hk⟩ := firstAt_ex d (c i) m (h.2.2 i hi)
  rwa [tn_eq hk]
theorem tnF_bd {n : Nat} {c : Nat → Int} {m : Nat} {d : Nat → Int} (h : Again n c m d) {i : Nat} (hi : i < n) : 0 ≤ tnF c m d i ∧ tnF c m d i < (n : Int) := by
  have := (tnF_at h hi).1
  have e := h.2.1
  unfold tnF
  omega
theorem tnF_ne {n : Nat} {c : Nat → Int} {m : Nat} {d : Nat → Int} (h : Again n c m d) {i j : Nat} (hi : i < n) (hj : j < i) : tnF c m d j ≠ tnF c m d i := by
  intro e
  have e' : tn d m (c j) = tn d m (c i) := by unfold tnF at e; omega
  have h1 := (tnF_at h (show j < n by omega)).2.1
  have h2 := (tnF_at h hi).2.1
  rw [e', h2] at h1
  exact h.1 i hi j hj h1.symm
/-- among as many places no number of another list comes twice, if all of a list without such ones lie there. -/
theorem apart_len : ∀ (l r : List Int), l.Nodup → (∀ x ∈ l, x ∈ r) → l.length ≤ r.length
  | [], r, _, _ => by simp
  | a :: l, r, hn, hs => by
    have ha : a ∈ r := hs a (by simp)
    have h1 := apart_len l (r.erase a) (List.nodup_cons.1 hn).2 (fun x hx => by
      have hne : x ≠ a := fun e => (List.nodup_cons.1 hn).1 (e ▸ hx)
      exact (List.mem_erase_of_ne hne).2 (hs x (by simp [hx])))
    rw [List.length_erase_of_mem ha] at h1
    have : 0 < r.length := List.length_pos_of_mem ha
    simp only [List.length_cons]
    omega
theorem again_apart {n : Nat} {c d : Nat → Int} (h : Again n c n d) : Apart1 n d := by
  intro i hi j hj e
  -- the numbers of d without the place i hold all of c
  let l := (List.range n).map c
  let r := ((List.range n).eraseIdx i).map d
  have hl : l.Nodup := by
    show ((List.range n).map c).Nodup
    rw [List.nodup_iff_pairwise_ne, List.pairwise_map]
    refine List.Pairwise.imp_of_mem ?_ (List.pairwise_lt_range (n := n))
    intro a b ha hb hab
    exact h.1 b (List.mem_range.1 hb) a hab
  have hs : ∀ x ∈ l, x ∈ r := by
    intro x hx
    obtain ⟨k, hk, rfl⟩ := List.mem_map.1 hx
    obtain ⟨p, hp, e'⟩ := h.2.2 k (List.mem_range.1 hk)
    have key : ∀ q, q < n → q ≠ i → d q ∈ r := by
      intro q hq hne
      refine List.mem_map.2 ⟨q, ?_, rfl⟩
      rw [List.mem_eraseIdx_iff_getElem]
      exact ⟨q, by simpa using hq, hne, by simp⟩
    by_cases hpi : p = i
    · rw [← e', hpi, ← e]
      exact key j (by omega) (by omega)
    · rw [← e']
      exact key p hp hpi
  have := apart_len l r hl hs
  have h1 : l.length = n := by simp [l]
  have h2 : r.length = n - 1 := by
    show (((List.range n).eraseIdx i).map d).length = _
    rw [List.length_map, List.length_eraseIdx_of_lt (by simpa using hi)]
    simp
  omega

/-- what lies on stack p behind k slabs, the uppermost one last. -/
def pl (s : Nat → Int) (f : Nat → Int) (k : Nat) (p : Nat) : List Int := ((List.range k).filter fun j => s j == (p : Int)).map f
theorem pl_zero (s f : Nat → Int) (p : Nat) : pl s f 0 p = [] := rfl
theorem pl_on {s f : Nat → Int} {k p : Nat} (h : s k = (p : Int)) : pl s f (k + 1) p = pl s f k p ++ [f k] := by
  unfold pl
  rw [List.range_succ, List.filter_append, List.map_append]
  simp [h]
theorem pl_off {s f : Nat → Int} {k p : Nat} (h : s k ≠ (p : Int)) : pl s f (k + 1) p = pl s f k p := by
  unfold pl
  rw [List.range_succ, List.filter_append, List.map_append]
  simp [h]
theorem pl_length (s f : Nat → Int) (k p : Nat) : (pl s f k p).length ≤ k := by
  unfold pl
  rw [List.length_map]
  exact Nat.le_trans (List.length_filter_le _ _) (by simp)
theorem pl_mem {s f : Nat → Int} {k p : Nat} {x : Int} : x ∈ pl s f k p ↔ ∃ j, j < k ∧ s j = (p : Int) ∧ f j = x := by
  unfold pl
  rw [List.mem_map]
  constructor
  · rintro ⟨j, hj, rfl⟩
    have := List.mem_filter.1 hj
    exact ⟨j, List.mem_range.1 this.1, by simpa using this.2, rfl⟩
  · rintro ⟨j, hj, hs, rfl⟩
    exact ⟨j, List.mem_filter.2 ⟨List.mem_range.2 hj, by simpa using hs⟩, rfl⟩
theorem pl_congr {s s' f : Nat → Int} {k : Nat} (h : ∀ j, j < k → s j = s' j) (p : Nat) : pl s f k p = pl s' f k p := by
  unfold pl
  congr 1
  refine List.filter_congr fun j hj => ?_
  rw [h j (List.mem_range.1 hj)]
/-- the stacks of the first k slabs are right. -/
def StRight (s f : Nat → Int) (k : Nat) : Prop := ∀ i, i < k → ∀ j, j < i → s j = s i → ¬ f j < f i
/-- a slab may be put upon what lies there. -/
def Takes (l : List Int) (x : Int) : Prop := ∀ y, l.getLast? = some y → x < y
theorem stRight_last {s f : Nat → Int} : ∀ {k p : Nat}, StRight s f k → ∀ {y : Int}, (pl s f k p).getLast? = some y → ∀ x ∈ pl s f k p, y ≤ x
  | 0, p, _, y, h, x, hx => by simp [pl_zero] at hx
  | k + 1, p, hR, y, h, x, hx => by
    have hR' : StRight s f k := fun i hi j hj e => hR i (by omega) j hj e
    by_cases e : s k = (p : Int)
    · rw [pl_on e] at h hx
      rw [List.getLast?_append] at h
      have hy : f k = y := by simpa using h
      rcases List.mem_append.1 hx with hx | hx
      · obtain ⟨j, hj, hs, rfl⟩ := pl_mem.1 hx
        have := hR k (by omega) j hj (by rw [hs, e])
        omega
      · have : x = f k := by simpa using hx
        omega
    · rw [pl_off e] at h hx
      exact stRight_last hR' h x hx
theorem stRight_succ {s f : Nat → Int} {k p : Nat} (hp : s k = (p : Int)) (hne : ∀ j, j < k → f j ≠ f k) : StRight s f (k + 1) ↔ StRight s f k ∧ Takes (pl s f k p) (f k) := by
  constructor
  · intro h
    refine ⟨fun i hi j hj e => h i (by omega) j hj e, fun y hy => ?_⟩
    obtain ⟨j, hj, hs, rfl⟩ := pl_mem.1 (List.mem_of_getLast? hy)
    have h1 := h k (by omega) j hj (by rw [hs, hp])
    have h2 := hne j hj
    omega
  · rintro ⟨h, ht⟩ i hi j hj e
    rcases Nat.lt_or_ge i k with hik | hik
    · exact h i hik j hj e
    · obtain rfl : i = k := by omega
      have hm : f j ∈ pl s f i p := pl_mem.2 ⟨j, hj, by rw [e, hp], rfl⟩
      cases hl : (pl s f i p).getLast? with
      | none => rw [List.getLast?_eq_none_iff] at hl; rw [hl] at hm; cases hm
      | some y =>
        have h1 := stRight_last h hl _ hm
        have h2 := ht y hl
        omega
end Go.Proofs.Ytkdakpbkpfigeaa

namespace Go.Proofs.Ytkdakpbkpfigeaa
open Go Go.ChangeShapes Go.WideShapes Go.ChangeAt Go.RowKit
set_option linter.unusedVariables false
set_option linter.unusedSimpArgs false
set_option maxRecDepth 100000
set_option maxHeartbeats 4000000
def InL (n : Nat) (c : Nat → Int) (v : Int) : Prop := ∃ j, j < n ∧ c j = v
theorem InL.first {n : Nat} {c : Nat → Int} {v : Int} (h : InL n c v) : ∃ i, FirstAt c n v i := firstAt_ex c v n h
theorem hasN_at (A : Option Addr) (n cap : Nat) (c : Nat → Int) (v : Int) (i : Nat) (w : World) (hn : n ≤ 1048576) (hr : RdK .i64 w w.heap.size A n c) (h : FirstAt c n v i) :
    Calls Try.prog 144 #[.slice A n cap, .int .i64 v] w fun e w' => e = .returned (.bool true) ∧ w' = w := by
  have HR := Lib.hid hr
  have HF := Lib.hid h
  have hi := h.1
  clear hr h
  go_enter Try.func144, Try.ntmps144
  go_wp2
  go_loop [5] (fun t5 => ∃ k : Nat, k ≤ i ∧ t5 = .int .i64 k) (fun t5 => i - (intOf t5).toNat)
  case atStart => exact ⟨0, by omega, rfl⟩
  case round =>
    obtain ⟨k, hk, rfl⟩ := hrel
    have hki : (k : Int) < (n : Int) := by omega
    obtain ⟨b, off, rfl, hbl, c0⟩ := rdInt64 HR.out (show k < n by omega)
    by_cases hlt : k < i
    · have hne := HF.out.2.2 k hlt
      obtain ⟨x, hx⟩ : ∃ x, x = c k := ⟨_, rfl⟩
      rw [← hx] at c0 hne
      have d : (x == v) = false := by simpa using hne
      have d' : (v == x) = false := by simpa using fun e => hne e.symm
      clear hx hne
      go_wp2
      exact ⟨⟨k + 1, by omega, by first | go_num | simp⟩, by simp [intOf]; omega⟩
    · obtain rfl : k = i := by omega
      have he := HF.out.2.1
      rw [he] at c0
      have d : (v == v) = true := by simp
      clear he
      go_wp2
      go_ret
      exact ⟨rfl, rfl⟩
theorem hasN_no (A : Option Addr) (n cap : Nat) (c : Nat → Int) (v : Int) (w : World) (hn : n ≤ 1048576) (hr : RdK .i64 w w.heap.size A n c) (h : ¬ InL n c v) :
    Calls Try.prog 144 #[.slice A n cap, .int .i64 v] w fun e w' => e = .returned (.bool false) ∧ w' = w := by
  have HR := Lib.hid hr
  have HF := Lib.hid h
  clear hr h
  go_enter Try.func144, Try.ntmps144
  go_wp2
  go_loop [5] (fun t5 => ∃ k : Nat, k ≤ n ∧ t5 = .int .i64 k) (fun t5 => n - (intOf t5).toNat)
  case atStart => exact ⟨0, by omega, rfl⟩
  case round =>
    obtain ⟨k, hk, rfl⟩ := hrel
    by_cases hlt : k < n
    · have hki : (k : Int) < (n : Int) := by omega
      obtain ⟨b, off, rfl, hbl, c0⟩ := rdInt64 HR.out hlt
      have hne : c k ≠ v := fun e => HF.out ⟨k, hlt, e⟩
      obtain ⟨x, hx⟩ : ∃ x, x = c k := ⟨_, rfl⟩
      rw [← hx] at c0 hne
      have d : (x == v) = false := by simpa using hne
      have d' : (v == x) = false := by simpa using fun e => hne e.symm
      clear hx hne
      go_wp2
      exact ⟨⟨k + 1, by omega, by first | go_num | simp⟩, by simp [intOf]; omega⟩
    · obtain rfl : k = n := by omega
      have hki : ¬ ((k : Int) < (k : Int)) := by omega
      go_wp2
      go_ret
      exact ⟨rfl, rfl⟩
theorem index_at (A : Option Addr) (n cap : Nat) (c : Nat → Int) (v : Int) (i : Nat) (w : World) (hn : n ≤ 1048576) (hr : RdK .i64 w w.heap.size A n c) (h : FirstAt c n v i) :
    Calls Try.prog 175 #[.slice A n cap, .int .i64 v] w fun e w' => e = .returned (.int .i64 (i : Int)) ∧ w' = w := by
  have HR := Lib.hid hr
  have HF := Lib.hid h
  have hi := h.1
  clear hr h
  go_enter Try.func175, Try.ntmps175
  go_wp2
  go_loop [5, 8] (fun t5 t8 => ∃ k : Nat, k ≤ i ∧ t8 = .int .i64 k) (fun t5 t8 => i - (intOf t8).toNat)
  case atStart => exact ⟨0, by omega, rfl⟩
  case round =>
    obtain ⟨k, hk, rfl⟩ := hrel
    have hki : (k : Int) < (n : Int) := by omega
    obtain ⟨b, off, rfl, hbl, c0⟩ := rdInt64 HR.out (show k < n by omega)
    by_cases hlt : k < i
    · have hne := HF.out.2.2 k hlt
      obtain ⟨x, hx⟩ : ∃ x, x = c k := ⟨_, rfl⟩
      rw [← hx] at c0 hne
      have d : (x == v) = false := by simpa using hne
      have d' : (v == x) = false := by simpa using fun e => hne e.symm
      clear hx hne
      go_wp2
      exact ⟨⟨k + 1, by omega, by first | go_num | simp⟩, by simp [intOf]; omega⟩
    · obtain rfl : k = i := by omega
      have he := HF.out.2.1
      rw [he] at c0
      have d : (v == v) = true := by simp
      clear he
      go_wp2
      go_ret
      exact ⟨rfl, rfl⟩
theorem index_no (A : Option Addr) (n cap : Nat) (c : Nat → Int) (v : Int) (w : World) (hn : n ≤ 1048576) (hr : RdK .i64 w w.heap.size A n c) (h : ¬ InL n c v) :
    Calls Try.prog 175 #[.slice A n cap, .int .i64 v] w fun e w' => e = .returned (.int .i64 (-1)) ∧ w' = w := by
  have HR := Lib.hid hr
  have HF := Lib.hid h
  clear hr h
  go_enter Try.func175, Try.ntmps175
  go_wp2
  go_loop [5, 8] (fun t5 t8 => ∃ k : Nat, k ≤ n ∧ t8 = .int .i64 k) (fun t5 t8 => n - (intOf t8).toNat)
  case atStart => exact ⟨0, by omega, rfl⟩
  case round =>
    obtain ⟨k, hk, rfl⟩ := hrel
    by_cases hlt : k < n
    · have hki : (k : Int) < (n : Int) := by omega
      obtain ⟨b, off, rfl, hbl, c0⟩ := rdInt64 HR.out hlt
      have hne : c k ≠ v := fun e => HF.out ⟨k, hlt, e⟩
      obtain ⟨x, hx⟩ : ∃ x, x = c k := ⟨_, rfl⟩
      rw [← hx] at c0 hne
      have d : (x == v) = false := by simpa using hne
      have d' : (v == x) = false := by simpa using fun e => hne e.symm
      clear hx hne
      go_wp2
      exact ⟨⟨k + 1, by omega, by first | go_num | simp⟩, by simp [intOf]; omega⟩
    · obtain rfl : k = n := by omega
      have hki : ¬ ((k : Int) < (k : Int)) := by omega
      go_wp2
      go_ret
      exact ⟨rfl, rfl⟩
theorem hasN_yes (A : Option Addr) (n cap : Nat) (c : Nat → Int) (v : Int) (w : World) (hn : n ≤ 1048576) (hr : RdK .i64 w w.heap.size A n c) (h : InL n c v) :
    Calls Try.prog 144 #[.slice A n cap, .int .i64 v] w fun e w' => e = .returned (.bool true) ∧ w' = w := by
  obtain ⟨i, hi⟩ := h.first
  exact hasN_at A n cap c v i w hn hr hi
theorem contains_yes (A : Option Addr) (n cap : Nat) (c : Nat → Int) (v : Int) (w : World) (hn : n ≤ 1048576) (hr : RdK .i64 w w.heap.size A n c) (h : InL n c v) :
    Calls Try.prog 145 #[.slice A n cap, .int .i64 v] w fun e w' => e = .returned (.bool true) ∧ w' = w := by
  obtain ⟨i, hi⟩ := h.first
  have d : (0 : Int) ≤ (i : Int) := by omega
  have HI := Lib.hid (index_at A n cap c v i w hn hr hi)
  clear hi hr h
  go_enter Try.func145, Try.ntmps145
  go_wp2_with fail
  refine HI.out.mono ?_
  rintro e w1 ⟨rfl, rfl⟩
  go_wp2
  go_ret
  exact ⟨rfl, rfl⟩
theorem contains_no (A : Option Addr) (n cap : Nat) (c : Nat → Int) (v : Int) (w : World) (hn : n ≤ 1048576) (hr : RdK .i64 w w.heap.size A n c) (h : ¬ InL n c v) :
    Calls Try.prog 145 #[.slice A n cap, .int .i64 v] w fun e w' => e = .returned (.bool false) ∧ w' = w := by
  have HI := Lib.hid (index_no A n cap c v w hn hr h)
  clear hr h
  go_enter Try.func145, Try.ntmps145
  go_wp2_with fail
  refine HI.out.mono ?_
  rintro e w1 ⟨rfl, rfl⟩
  go_wp2
  go_ret
  exact ⟨rfl, rfl⟩
end Go.Proofs.Ytkdakpbkpfigeaa

namespace Go.Proofs.Ytkdakpbkpfigeaa
open Go Go.ChangeShapes Go.WideShapes Go.ChangeAt Go.RowKit
set_option linter.unusedVariables false
set_option linter.unusedSimpArgs false
set_option maxRecDepth 100000
set_option maxHeartbeats 4000000
theorem RdK.pre {kd : IntKind} {w : World} {B n k : Nat} {A : Option Addr} {c : Nat → Int} (h : RdK kd w B A n c) (hk : k ≤ n) : RdK kd w B A k c := fun h0 => by
  obtain ⟨b, off, e, hl, hc⟩ := h (by omega)
  exact ⟨b, off, e, hl, fun j hj => hc j (by omega)⟩
theorem apart_not {n : Nat} {c : Nat → Int} {k : Nat} (hk : k < n) (h : InL k c (c k)) : ¬ Apart1 n c := fun ha => by
  obtain ⟨j, hj, e⟩ := h
  exact ha k hk j hj e
theorem apart_next {c : Nat → Int} {k : Nat} (h : Apart1 k c) (hn : ¬ InL k c (c k)) : Apart1 (k + 1) c := fun i hi j hj e => by
  by_cases hik : i < k
  · exact h i hik j hj e
  · obtain rfl : i = k := by omega
    exact hn ⟨j, hj, e⟩
/-- what a test of an order answers. -/
def TwPost (n : Nat) (c : Nat → Int) (w : World) (e : Ending) (w' : World) : Prop := Below w.heap.size w w' ∧ ((¬ Apart1 n c ∧ e = .returned (.bool true)) ∨ (Apart1 n c ∧ e = .returned (.bool false)))
def LfPost (n : Nat) (c : Nat → Int) (w : World) (e : Ending) (w' : World) : Prop := w' = w ∧ ∃ r, LfCode n c r ∧ e = .returned (.int .i64 r)
def StPost (n : Nat) (c : Nat → Int) (m : Nat) (d : Nat → Int) (w : World) (e : Ending) (w' : World) : Prop := Below w.heap.size w w' ∧ ∃ r, StCode n c m d r ∧ e = .returned (.int .i64 r)
noncomputable def tnL (c : Nat → Int) (m : Nat) (d : Nat → Int) (k : Nat) : List Int := (List.range k).map (tnF c m d)
theorem tnL_length (c : Nat → Int) (m : Nat) (d : Nat → Int) (k : Nat) : (tnL c m d k).length = k := by simp [tnL]
theorem tnL_succ (c : Nat → Int) (m : Nat) (d : Nat → Int) (k : Nat) : tnL c m d (k + 1) = tnL c m d k ++ [tnF c m d k] := by simp [tnL, List.range_succ]
theorem tnL_get (c : Nat → Int) (m : Nat) (d : Nat → Int) {k j : Nat} (h : j < k) : (tnL c m d k).getD j 0 = tnF c m d j := by simp [tnL, List.getD, h]
def TuPost (n : Nat) (c : Nat → Int) (m : Nat) (d : Nat → Int) (w : World) (e : Ending) (w' : World) : Prop :=
  Below w.heap.size w w' ∧ ((StCode n c m d 0 ∧ ∃ v, e = .returned (.tuple #[v, .int .i64 0]) ∧ OwnI w' w.heap.size v (tnL c m d n)) ∨ ∃ r, r ≠ 0 ∧ StCode n c m d r ∧ e = .returned (.tuple #[.slice none 0 0, .int .i64 r]))
/-- stacks of so many slabs. -/
def StkOk (n m : Nat) (s : Nat → Int) : Prop := m = n ∧ ∀ j, j < m → 0 ≤ s j ∧ s j ≤ 9

end Go.Proofs.Ytkdakpbkpfigeaa

namespace Go.Proofs.Ytkdakpbkpfigeaa
open Go Go.ChangeShapes Go.WideShapes Go.ChangeAt Go.RowKit
set_option linter.unusedVariables false
set_option linter.unusedSimpArgs false
set_option maxRecDepth 100000
set_option maxHeartbeats 4000000
def InAll (n m : Nat) (l : Nat → Int) : Prop := ∀ i, i < m → 0 ≤ l i ∧ l i < n
theorem apart_leE : ∀ (n m : Nat) (l : Nat → Int), (∀ i, i < m → 0 ≤ l i ∧ l i < n) → Apart1 m l → m ≤ n
  | 0, m, l, h, _ => by
    rcases Nat.eq_zero_or_pos m with h0 | h0
    · omega
    · have := h 0 h0; omega
  | n + 1, m, l, h, ha => by
    have hne : ∀ i, i < m → ∀ j, j < m → i ≠ j → l i ≠ l j := by
      intro i hi j hj hij
      rcases Nat.lt_or_gt_of_ne hij with hl | hl
      · exact ha j hj i hl
      · exact fun e => ha i hi j hl e.symm
    by_cases hx : ∃ i, i < m ∧ l i = n
    · obtain ⟨i, hi, e⟩ := hx
      have := apart_leE n (m - 1) (fun j => if j = i then l (m - 1) else l j) (fun j hj => by
        (try dsimp only)
        split
        · have h1 := h (m - 1) (by omega)
          have h2 := hne (m - 1) (by omega) i hi (by omega)
          omega
        · rename_i hji
          have h1 := h j (by omega)
          have h2 := hne j (by omega) i hi hji
          omega) (fun a ha' b hb => by
        (try dsimp only)
        split <;> split
        · omega
        · exact hne _ (by omega) _ (by omega) (by omega)
        · exact hne _ (by omega) _ (by omega) (by omega)
        · exact hne _ (by omega) _ (by omega) (by omega))
      omega
    · have := apart_leE n m l (fun j hj => by
        have h1 := h j hj
        have h2 : l j ≠ n := fun e => hx ⟨j, hj, e⟩
        omega) ha
      omega
/-- does an order have each index once? -/
def Each (n m : Nat) (o : Nat → Int) : Prop := m = n ∧ InAll n m o ∧ Apart1 m o
theorem no_hole {n : Nat} (g : Nat → Nat) (i0 : Nat) (hi : i0 < n) (h1 : ∀ v, v < n → g v < n) (h2 : ∀ v, v < n → g v ≠ i0) (h3 : ∀ v u, v < n → u < n → g v = g u → v = u) : False := by
  have := apart_leE (n - 1) n (fun v => if g v < i0 then ((g v : Nat) : Int) else ((g v : Nat) : Int) - 1) (fun v hv => by
    have a := h1 v hv
    have b := h2 v hv
    show 0 ≤ (if g v < i0 then ((g v : Nat) : Int) else ((g v : Nat) : Int) - 1) ∧ (if g v < i0 then ((g v : Nat) : Int) else ((g v : Nat) : Int) - 1) < ((n - 1 : Nat) : Int)
    split <;> omega) (fun i hi j hj e => by
    have e' : (if g j < i0 then ((g j : Nat) : Int) else ((g j : Nat) : Int) - 1) = (if g i < i0 then ((g i : Nat) : Int) else ((g i : Nat) : Int) - 1) := e
    have a := h2 i hi
    have b := h2 j (by omega)
    have c : g j = g i := by
      split at e' <;> split at e' <;> omega
    have := h3 j i (by omega) hi c
    omega)
  omega
theorem each_surj {n m : Nat} {o : Nat → Int} : Each n m o ↔ m = n ∧ ∀ v : Nat, v < n → InL m o (v : Int) := by
  constructor
  · rintro ⟨rfl, h1, h2⟩
    refine ⟨rfl, fun v hv => Classical.byContradiction fun hn => ?_⟩
    have := apart_leE m (m + 1) (fun i => if i < m then o i else (v : Int)) (fun i hi => by
      show 0 ≤ (if i < m then o i else (v : Int)) ∧ (if i < m then o i else (v : Int)) < (m : Int)
      by_cases e : i < m
      · rw [if_pos e]; exact h1 i e
      · rw [if_neg e]; omega) (fun i hi j hj e => by
      have e' : (if j < m then o j else (v : Int)) = (if i < m then o i else (v : Int)) := e
      rw [if_pos (show j < m by omega)] at e'
      by_cases hi' : i < m
      · rw [if_pos hi'] at e'; exact h2 i hi' j hj e'
      · rw [if_neg hi'] at e'; exact hn ⟨j, by omega, e'⟩)
    omega
  · rintro ⟨rfl, h⟩
    have hg : ∃ g : Nat → Nat, ∀ v, v < m → g v < m ∧ o (g v) = (v : Int) := by
      refine ⟨fun v => if hv : v < m then Classical.choose (h v hv) else 0, fun v hv => ?_⟩
      simp only [dif_pos hv]
      exact Classical.choose_spec (h v hv)
    obtain ⟨g, hg⟩ := hg
    have hinj : ∀ v u, v < m → u < m → g v = g u → v = u := fun v u hv hu e => by
      have a := (hg v hv).2
      have b := (hg u hu).2
      rw [e] at a
      rw [a] at b
      omega
    have hin : InAll m m o := fun i hi => Classical.byContradiction fun hn =>
      no_hole g i hi (fun v hv => (hg v hv).1) (fun v hv e => hn (by have := (hg v hv).2; rw [e] at this; omega)) hinj
    refine ⟨rfl, hin, fun i hi j hj e => ?_⟩
    obtain ⟨u, hu⟩ := Int.eq_ofNat_of_zero_le (hin i hi).1
    have hum : u < m := by have := (hin i hi).2; omega
    by_cases hgi : g u = i
    · exact no_hole g j (by omega) (fun v hv => (hg v hv).1) (fun v hv e' => by
        have h1 := (hg v hv).2
        rw [e', e, hu] at h1
        have : v = u := by omega
        subst this
        omega) hinj
    · exact no_hole g i hi (fun v hv => (hg v hv).1) (fun v hv e' => by
        have h1 := (hg v hv).2
        rw [e', hu] at h1
        have : v = u := by omega
        subst this
        exact hgi e') hinj

def EcPost (n m : Nat) (o : Nat → Int) (w : World) (e : Ending) (w' : World) : Prop := Below w.heap.size w w' ∧ ((¬ Each n m o ∧ e = .returned (.bool false)) ∨ (Each n m o ∧ e = .returned (.bool true)))
theorem l05Each_any (A : Option Addr) (n m cap : Nat) (o : Nat → Int) (w : World) (hn : n ≤ 1048576) (hm : m ≤ 1048576) (hcap : m ≤ cap) (hr : RdK .i64 w w.heap.size A m o) :
    Calls Try.prog 89 #[.int .i64 (n : Int), .slice A m cap] w (EcPost n m o w) := by
  have HR := Lib.hid hr
  clear hr
  have e1 : IntKind.i64.wrap ((n : Int) - 1) = (n : Int) - 1 := IntWalk.i64_in _ (by omega)
  have E1 := Lib.hid e1
  clear e1
  go_enter Try.func89, Try.ntmps89
  go_wp2
  go_loopw [5] (fun t5 wr => ∃ k : Nat, k ≤ m ∧ t5 = .int .i64 k ∧ Below w.heap.size w wr ∧ InAll n k o ∧ Apart1 k o) (fun t5 wr => m - (intOf t5).toNat)
  case atStart => exact ⟨0, by omega, rfl, Below.refl _ _, (fun i hi => by omega), fun i hi => by omega⟩
  case round =>
    obtain ⟨k, hk, rfl, hb, hall, hap⟩ := hrel
    have HA := Lib.hid hall
    have HP := Lib.hid hap
    clear hall hap
    by_cases hlt : k < m
    · have hki : (k : Int) < (m : Int) := by omega
      have hkc : (k : Int) ≤ (cap : Int) := by omega
      have hk0 : (0 : Int) ≤ (k : Int) := by omega
      have hrd := (HR.out.below hb).mono hb.size
      have hpre := hrd.pre hk
      obtain ⟨b, off, rfl, hbl, c0⟩ := rdInt64 hrd hlt
      have HPre := Lib.hid hpre
      clear hrd hpre
      by_cases hin : 0 ≤ o k ∧ o k < n
      · have HIN := Lib.hid hin
        by_cases h : InL k o (o k)
        · have H := Lib.hid h
          obtain ⟨x, hx⟩ : ∃ x, x = o k := ⟨_, rfl⟩
          rw [← hx] at c0 h hin
          have HI := Lib.hid h
          have HL := Lib.hid (fun W => in_yes x 0 ((n : Int) - 1) W hin.1 (by omega))
          clear hx h hin
          have e1 := E1.out
          go_wp2
          go_quiet ((first | (go_at_call 134; with_reducible exact Calls.quiet_of_same (HL.out _)) | (go_at_call 144; exact Calls.quiet_of_same (hasN_yes _ _ _ o _ _ (by omega) HPre.out HI.out))))
          clear e1
          go_wp2
          go_ret
          exact ⟨below_drewN' hb _, .inl ⟨(fun hE => apart_not hlt H.out hE.2.2), rfl⟩⟩
        · have H := Lib.hid h
          obtain ⟨x, hx⟩ : ∃ x, x = o k := ⟨_, rfl⟩
          rw [← hx] at c0 h hin
          have HI := Lib.hid h
          have HL := Lib.hid (fun W => in_yes x 0 ((n : Int) - 1) W hin.1 (by omega))
          clear hx h hin
          have e1 := E1.out
          go_wp2
          go_quiet ((first | (go_at_call 134; with_reducible exact Calls.quiet_of_same (HL.out _)) | (go_at_call 144; exact Calls.quiet_of_same (hasN_no _ _ _ o _ _ (by omega) HPre.out HI.out))))
          clear e1
          go_wp2
          exact ⟨⟨k + 1, by omega, by first | go_num | simp, below_drewN' hb _, (fun i hi => by
            by_cases e : i = k
            · subst e; exact HIN.out
            · exact HA.out i (by omega)), apart_next HP.out H.out⟩, by simp [intOf]; omega⟩
      · have HIN := Lib.hid hin
        obtain ⟨x, hx⟩ : ∃ x, x = o k := ⟨_, rfl⟩
        rw [← hx] at c0 hin
        have HL := Lib.hid (fun W => in_no x 0 ((n : Int) - 1) W (by omega))
        clear hx hin
        have e1 := E1.out
        go_wp2
        go_quiet ((go_at_call 134; with_reducible exact Calls.quiet_of_same (HL.out _)))
        clear e1
        go_wp2
        go_ret
        exact ⟨below_drewN' hb _, .inl ⟨(fun hE => HIN.out (hE.2.1 k hlt)), rfl⟩⟩
    · obtain rfl : k = m := by omega
      have hki : ¬ ((k : Int) < (k : Int)) := by omega
      by_cases hmn : k = n
      · have d1 : ((k : Int) == (n : Int)) = true := by rw [hmn]; exact beq_self_eq_true _
        have HM := Lib.hid hmn
        clear hmn
        go_wp2
        go_ret
        exact ⟨hb, .inr ⟨⟨HM.out, HA.out, HP.out⟩, rfl⟩⟩
      · have d1 : ((k : Int) == (n : Int)) = false := by rw [beq_eq_false_iff_ne]; omega
        have HM := Lib.hid hmn
        clear hmn
        go_wp2
        go_ret
        exact ⟨hb, .inl ⟨(fun hE => HM.out hE.1), rfl⟩⟩
theorem hasEach_any (A : Option Addr) (n m cap : Nat) (o : Nat → Int) (w : World) (hn : n ≤ 1048576) (hm : m ≤ 1048576) (hr : RdK .i64 w w.heap.size A m o) :
    Calls Try.prog 92 #[.slice A m cap, .int .i64 (n : Int)] w (EcPost n m o w) := by
  have HR := Lib.hid hr
  clear hr
  by_cases hmn : m = n
  case neg =>
    have d1 : ((m : Int) != (n : Int)) = true := by rw [bne_iff_ne]; omega
    have HM := Lib.hid hmn
    clear hmn
    go_enter Try.func92, Try.ntmps92
    go_wp2
    go_ret
    exact ⟨Below.refl _ _, .inl ⟨(fun hE => HM.out hE.1), rfl⟩⟩
  have d1 : ((m : Int) != (n : Int)) = false := by rw [hmn]; simp
  have HM := Lib.hid hmn
  clear hmn
  go_enter Try.func92, Try.ntmps92
  go_wp2
  clear d1
  go_loopw [5, 11] (fun t5 t11 wr => ∃ k : Nat, k ≤ n ∧ t11 = .int .i64 k ∧ Below w.heap.size w wr ∧ ∀ v : Nat, v < k → InL m o (v : Int)) (fun t5 t11 wr => n - (intOf t11).toNat)
  case atStart => exact ⟨0, by omega, rfl, Below.refl _ _, fun v hv => by omega⟩
  case round =>
    obtain ⟨k, hk, rfl, hb, hall⟩ := hrel
    have HA := Lib.hid hall
    clear hall
    by_cases hlt : k < n
    · have hki : (k : Int) < (n : Int) := by omega
      have hrd := Lib.hid ((HR.out.below hb).mono hb.size)
      obtain ⟨wo, rfl⟩ : ∃ wo : World, wo = wr := ⟨_, rfl⟩
      by_cases h : InL m o (k : Int)
      · have H := Lib.hid h
        have HL := Lib.hid (contains_yes A m cap o (k : Int) wo hm hrd.out h)
        clear h
        go_wp2_with fail
        refine HL.out.mono ?_
        rintro e w2 ⟨rfl, hw⟩
        replace hw := hw.symm
        subst hw
        go_wp2
        exact ⟨⟨k + 1, by omega, by first | go_num | simp, hb, fun v hv => by
          by_cases e : v = k
          · subst e; exact H.out
          · exact HA.out v (by omega)⟩, by simp [intOf]; omega⟩
      · have H := Lib.hid h
        have HL := Lib.hid (contains_no A m cap o (k : Int) wo hm hrd.out h)
        clear h
        go_wp2_with fail
        refine HL.out.mono ?_
        rintro e w2 ⟨rfl, hw⟩
        replace hw := hw.symm
        subst hw
        go_wp2
        go_ret
        exact ⟨hb, .inl ⟨(fun hE => H.out ((each_surj.1 hE).2 k hlt)), rfl⟩⟩
    · obtain rfl : k = n := by omega
      have hki : ¬ ((k : Int) < (k : Int)) := by omega
      go_wp2
      go_ret
      exact ⟨hb, .inr ⟨each_surj.2 ⟨HM.out, HA.out⟩, rfl⟩⟩
end Go.Proofs.Ytkdakpbkpfigeaa
