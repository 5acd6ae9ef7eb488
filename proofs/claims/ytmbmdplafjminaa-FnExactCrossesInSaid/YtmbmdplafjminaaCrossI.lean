/-
  The contract of impl.CrossesIn. Conditions stand at each.
-/
import Derived.Test.YtmbmdplafjminaaRows
import Derived.Test.YtmbmdplafjminaaCells
import Derived.Test.YtmbmdplafjminaaWhole
import Derived.Test.YtmbmdplafjminaaLayI
import Derived.Test.YtmbmdplafjminaaOpen
import Derived.Test.YtmbmdplafjminaaOpenCellsC
import Derived.Test.YtmbmdplafjminaaCross
import Derived.Test.YtmbmdplafjminaaCrossS
import Derived.OwnWalkIn
import Derived.Maps.OwnIn
namespace Go.Proofs.Ytmbmdplafjminaa
open Go Go.ChangeShapes Go.WideShapes Go.ChangeAt Go.RowKit
set_option linter.unusedVariables false
set_option linter.unusedSimpArgs false
set_option maxRecDepth 100000
set_option maxHeartbeats 2000000
attribute [local go_sem] Oper.semAt_some

def CrossIPost (W H : Nat) (G : Nat → Int) (w : World) (e : Ending) (w' : World) : Prop :=
  Below w.heap.size w w' ∧ ∃ v, e = .returned (.tuple #[v, .int .i64 0]) ∧ OwnC w' w.heap.size v (crossC W G (W * H))

theorem crossI_in (W H g n : Nat) (c : Nat → Int) (w : World) (hc : ∀ j, -128 ≤ c j ∧ c j ≤ 127) (hm : n ≤ 1048576) (hrow : w.rowIs g 58 (4 * n) (fun j => .int .i8 (c j))) (hv : Valid W H n c) :
    CallsIn Fence.wide 7 Try.prog 53 #[.agg #[.int .i8 (W : Int), .int .i8 (H : Int), .slice (some ⟨g, 0, none⟩) n n]] w (CrossIPost W H (gridN c n) w) := by
  have hro : Fence.wide.round = none := rfl
  have hW0 : 1 ≤ W := by have := hv.1; omega
  have hW : W ≤ 12 := by have := hv.2.1; omega
  have hH : H ≤ 12 := by have := hv.2.2.2.1; omega
  have hWi : (W : Int) ≤ 12 := by omega
  have hHi : (H : Int) ≤ 12 := by omega
  have HC := Lib.hid hc
  clear hc
  refine callsIn_of_wp_marks Try.func53 rfl trivial ?_ hro
  simp only [Try.ntmps53, List.size_toArray, List.length_cons, List.length_nil, Nat.reduceAdd, Nat.reduceSub, Array.replicate_succ, Array.replicate_zero, List.push_toArray, List.append_toArray, List.nil_append, List.cons_append]
  have HQ := Sq.new w (W : Int) (H : Int) (.slice (some ⟨g, 0, none⟩) n n) 32
  have B := al (Below.refl w.heap.size w) (.cells #[.int .i8 (W : Int), .int .i8 (H : Int), .slice (some ⟨g, 0, none⟩) n n] 32)
  gi_wp2_with (refine ⟨trivial, ?_⟩; gi_at_call 20; refine (callsIn_wide.2 (implValid_any W H g n c _ (by omega) (by omega) HC.out hm (hrow.of_block (B.block _ hrow.lt)))).mono ?_)
  rintro e w1 ⟨hb, ⟨_, rfl⟩ | ⟨h, _⟩⟩
  case inr => exact absurd hv h
  replace HQ := HQ.below hb
  replace B := nxt B hb
  clear hb
  obtain ⟨lq, pq, qq, rq⟩ := id HQ
  gi_wp2_with (refine ⟨trivial, ?_⟩; gi_at_call 72; refine (callsIn_wide.2 (gridOf_any W H g n c _ HC.out hv (hrow.of_block (B.block _ hrow.lt)))).mono ?_)
  rintro e w3 ⟨hb, cs, rfl, hsz, hone, hcell⟩
  replace HQ := HQ.below hb
  replace B := nxt B hb
  clear hb lq pq qq rq
  have hG : (w3.alloc (.cells Try.zeroCells82 82)).heap[w3.heap.size]? = some (.cells Try.zeroCells82 82 (0, 0)) := heap_alloc_new w3 _
  have B4 := below_setRow (al B (.cells Try.zeroCells82 82)) B.size cs
  have R4 : ((w3.alloc (.cells Try.zeroCells82 82)).setRow w3.heap.size cs).rowIs w3.heap.size 82 144 (fun p => .int .i8 (gridN c n p)) := ⟨cs, setRow_heap _ _ _ _ _ _ hG, hsz, hcell⟩
  have HQ4 : Sq ((w3.alloc (.cells Try.zeroCells82 82)).setRow w3.heap.size cs) w.heap.size W H (.slice (some ⟨g, 0, none⟩) n n) := (HQ.alloc _).of_block (by rw [setRow_size]; exact Nat.le_refl _) (setRow_other _ _ _ _ (by have := HQ.1; omega))
  obtain ⟨W4, hW4⟩ : ∃ W4 : World, W4 = ((w3.alloc (.cells Try.zeroCells82 82)).setRow w3.heap.size cs) := ⟨_, rfl⟩
  gi_wp2_with (first
    | (refine wpListIn_store_row rfl 82 (.tmp 4) (.tmp 11) rfl w3.heap.size cs rfl rfl 82 Try.zeroCells82 (heap_alloc_new w3 _) (by rw [infoGrid, hsz]) (by rw [zi_size, hsz]) hone ?_
       rw [← hW4] at B4 HQ4 R4 ⊢
       clear hW4 hG HQ B hcell
       obtain ⟨lq, pq, qq, rq⟩ := id HQ4))
  refine ⟨trivial, (whole_in Fence.wide 6 trivial hro _ _ _ _).mono ?_⟩
  rintro e w5 ⟨rfl, hb⟩
  have hG4 := R4.lt
  have hsz4 := HQ4.1
  have HB : w5.heap[W4.heap.size]? = some (.cells #[.slice none 0 0] 48 (0, 0)) := (hb.block _ (by simp)).trans (heap_alloc_new W4 _)
  have R5 := rowNext1 R4 hb
  have B5 := nxt (al B4 (.cells #[.slice none 0 0] 48)) hb
  have hs5 : W4.heap.size < w5.heap.size := by have := hb.size; simp at this; omega
  have hw4 : w.heap.size ≤ W4.heap.size := B4.size
  clear hb lq pq qq rq HQ4 R4 B4
  gi_wp2_with (refine ⟨trivial, ?_⟩; gi_at_call 75; refine (cellsOf_in Fence.wide 6 trivial hro _ _ _ _ _).mono ?_; rintro e w' ⟨rfl, rfl⟩)
  obtain ⟨W0, hW0'⟩ : ∃ W0, w5.alloc (.cells #[.int .i8 0, .int .i8 0, .int .i8 (W : Int), .int .i8 (H : Int)] 58) = W0 := ⟨_, rfl⟩
  have B0 : Below w.heap.size w W0 := by rw [← hW0']; exact al B5 _
  have zs : Sl W0 w5.heap.size 0 0 W H := by rw [← hW0']; exact Sl.new w5 0 0 W H 58
  have hs0 : W0.heap.size = w5.heap.size + 1 := by rw [← hW0']; simp
  have HB0 : W0.heap[W4.heap.size]? = some (.cells #[.slice none 0 0] 48 (0, 0)) := by rw [← hW0']; exact (Below.heap_alloc _ _ _ hs5).trans HB
  have R0 : W0.rowIs w3.heap.size 82 144 (fun p => .int .i8 (gridN c n p)) := by rw [← hW0']; exact R5.alloc _
  rw [hW0']
  clear hW0' HB R5 B5
  have hstops := cells_stops Fence.wide 6 trivial hro (by omega) w5.heap.size 0 0 W H (by omega) (by omega) W0 (by simpa using zs)
  refine wpIn_rangeFunc_ownH hro (by omega) (gf := 95) (lb := #[.pointer (some ⟨w5.heap.size, 0, none⟩)]) rfl trivial (enters_of Try.func95 (by kernel_rfl) rfl)
    hstops kpB_trans (kpB_put (by omega)) (Below.refl _ _) (fun _ => rfl)
    (fun pre W' => Below W4.heap.size W0 W' ∧ ∃ v, W'.heap[W4.heap.size]? = some (.cells #[v] 48 (0, 0)) ∧ OwnC W' W0.heap.size v (pickP (crossB (gridN c n)) pre))
    (fun _ _ _ => False)
    (fun s X Y row hs hg hr => ⟨ownFrom_below (β := Unit) (n₀ := W4.heap.size) (w₀ := W0) (B := W0.heap.size) (by omega) (by omega) () X Y row hs.1 hg hr, by obtain ⟨v, h1, h2⟩ := hs.2; exact ⟨v, cellsKept h1 hg (fun r e => (hr r e).2), h2.kept hg (fun r e => (hr r e).2)⟩⟩)
    (fun _ _ _ _ _ hs _ _ => hs)
    ⟨(Below.refl W0.heap.size W0).mono (by omega), .slice none 0 0, HB0, World.ownsRow_nil _ _ _ _⟩
    (fun x a' W' => ∃ Bx, W0.heap.size ≤ Bx ∧ W'.heap[Bx]? = some (.cells #[.int .i8 (x.1.1 : Int), .int .i8 (x.1.2 : Int)] 45 (0, 0)) ∧ a' = { tmps := #[.agg #[.int .i8 (W : Int), .int .i8 (H : Int), .slice (some ⟨g, 0, none⟩) n n], .pointer (some ⟨w.heap.size, 0, none⟩), .slice none 0 0, .int .i64 0, .pointer (some ⟨w3.heap.size, 0, none⟩), .pointer (some ⟨W4.heap.size, 0, none⟩), .pointer (some ⟨Bx, 0, none⟩), .agg #[.int .i8 (W : Int), .int .i8 (H : Int), .slice (some ⟨g, 0, none⟩) n n], .bool true, .bool false, .agg #[.int .i8 (W : Int), .int .i8 (H : Int), .slice (some ⟨g, 0, none⟩) n n], .agg cs, .agg #[.int .i8 (W : Int), .int .i8 (H : Int), .slice (some ⟨g, 0, none⟩) n n], .agg #[.int .i8 0, .int .i8 0, .int .i8 (W : Int), .int .i8 (H : Int)], .func (.func 95) #[] #[.pointer (some ⟨w5.heap.size, 0, none⟩)], .agg #[.int .i8 (x.1.1 : Int), .int .i8 (x.1.2 : Int)], undef, undef, undef, undef, undef, undef, undef], defers := [] })
    (fun x a' _ X Y row hs hg hr => by obtain ⟨Bx, h1, h2, h3⟩ := hs; exact ⟨Bx, h1, cellsKept h2 hg (fun r e => (hr r e).2), h3⟩)
    ?assign ?body ?done ?stop
  case assign =>
    rintro l pre x W' K ⟨hB1, hall⟩ hK
    dsimp only [encC]
    gi_wp2
    have hsW := hB1.size
    obtain ⟨v, h1, h2⟩ := hall
    exact hK _ _ ((KeepsOthers.alloc _ _).from _) (kpB_below ((Below.refl _ W').alloc (Nat.le_refl _) _) (by omega)) ⟨hB1.alloc (by omega) _, v, (Below.heap_alloc _ _ _ (by omega)).trans h1, h2.alloc _⟩ ⟨W'.heap.size, hB1.size, heap_alloc_new W' _, rfl⟩
  case body =>
    rintro l pre x a' W' hl hrr ⟨hB1, v, hv1, hv2⟩ ⟨Bx, hBx, hX, rfl⟩ hlt
    have hsW := hB1.size
    have hG1 : W'.rowIs w3.heap.size 82 144 (fun p => .int .i8 (gridN c n p)) := R0.of_block (hB1.block _ hG4)
    have cX0 := cell_of_row W' Bx 0 _ _ _ hX
    have cX1 := cell_of_row W' Bx 1 _ _ _ hX
    simp at cX0 cX1
    have HT := fun WW hWW => cross_any w3.heap.size x.1.1 x.1.2 (gridN c n) WW x.2.1 x.2.2 hWW
    obtain ⟨z, hz⟩ : ∃ z, z = crossB (gridN c n) (x.1.1, x.1.2) := ⟨_, rfl⟩
    simp only [← hz] at HT
    have HU := Lib.hid HT
    have HZ := Lib.hid hz
    clear HT hz
    cases z
    case true =>
      gi_wp2_with (refine ⟨trivial, ?_⟩; gi_at_call 90; refine (CallsIn.inRound l (callsIn_wide.2 (HU.out _ hG1))).mono ?_)
      rintro e w6 ⟨rfl, hb⟩
      replace hv1 := (hb.block _ (by omega)).trans hv1
      replace hv2 := hv2.below hb
      replace hX := (hb.block _ (Array.getElem?_eq_some_iff.1 hX).1).trans hX
      have hBn := hB1.trans (hb.mono (by omega))
      have hkb : KpB w5.heap.size W' w6 := kpB_below hb (by omega)
      have hkf := keepsFrom_below (B := W0.heap.size) hb
      clear hb cX0 cX1 hB1 hG1
      have cX0 := cell_of_row w6 Bx 0 _ _ _ hX
      have cX1 := cell_of_row w6 Bx 1 _ _ _ hX
      have cB := cell_of_row w6 W4.heap.size 0 _ _ _ hv1
      have fB := frozen_of_row w6 W4.heap.size 0 _ _ hv1
      simp at cX0 cX1 cB
      obtain ⟨i0, hi, hz0, hz1, hz2⟩ := info_parts infoCell
      have hle : (pickP (crossB (gridN c n)) pre).length ≤ 144 := by have := pickP_length (crossB (gridN c n)) pre; have := mul12 hW hH; omega
      have hs6 := hkb.1
      gi_wp2_with (first
        | (gi_at_builtin
           refine wpListIn_append_own _ rfl _ _ 48 rfl W0.heap.size 45 i0 (.agg #[.int .i8 0, .int .i8 0]) 2 2 Try.underlying48 hi hz0 hz1 hz2 rfl (by decide) _ _ _ rfl (World.ownsRow.alloc hv2 _) ⟨w6.heap.size, 0, none⟩ 1 1 [.int .i8 (x.1.1 : Int), .int .i8 (x.1.2 : Int)] rfl rfl (new_cells w6 #[.int .i8 (x.1.1 : Int), .int .i8 (x.1.2 : Int)] 45) one_ints (by unfold maxLen; omega) (by omega) (by simp; omega) ?_
           intro v' w7 own' hgr _
           obtain ⟨A', cap', rfl⟩ := row_shape own'
           have hlo : ∀ k, v.ownBlock = some k → W0.heap.size ≤ k ∧ k < w6.heap.size := fun k e => World.ownsRow.lt hv2 k e
           have hv3 : w7.heap[W4.heap.size]? = some (.cells #[v] 48 (0, 0)) := (hgr.block _ (by simp; omega) (fun e => by have := (hlo _ e.symm).1; omega)).trans ((Below.heap_alloc w6 _ _ (by omega)).trans hv1)
           have cB7 := cell_of_row w7 W4.heap.size 0 _ _ _ hv3
           have fB7 := frozen_of_row w7 W4.heap.size 0 _ _ hv3
           simp at cB7))
      have hB7 := (hBn.alloc (by omega) _).grown hgr (by simp; omega) (fun k e => by have := (hlo k e).1; omega)
      have hk7 : KpB w5.heap.size w6 w7 := ⟨by have := hgr.size; simp at this; omega, (hgr.block _ (by simp; omega) (fun e => by have := (hlo _ e.symm).1; omega)).trans (Below.heap_alloc w6 _ _ (by omega))⟩
      have hcells : ∀ (j : Nat) (o : Obj), v.ownBlock = some j → (w6.alloc (.cells #[.int .i8 (x.1.1 : Int), .int .i8 (x.1.2 : Int)] 45)).heap[j]? = some o → o.isCells = true := by
        intro j o e ho
        rcases hv2.2 with ⟨hn, _⟩ | ⟨g', cap', cur', he, _, hg', _⟩
        · rw [hn] at e; cases e
        · rw [he] at e
          injection e with e
          subst e
          rw [Below.heap_alloc w6 _ _ (Array.getElem?_eq_some_iff.1 hg').1, hg'] at ho
          injection ho with ho
          rw [← ho]; rfl
      have hf7 : KeepsFrom W0.heap.size w6 w7 := ((KeepsOthers.alloc w6 _).trans (KeepsOthers.of_grownBy hgr hcells)).from _
      have O7 : OwnC w7 W0.heap.size (.slice A' ((pickP (crossB (gridN c n)) pre).length + 1) cap') (pickP (crossB (gridN c n)) (pre ++ [x])) := by
        unfold OwnC
        rw [pickP_snoc_yes HZ.out.symm, cellsL_append, cellsL_one, List.length_append]
        exact own'
      clear own' hgr hv1 hv2 hX cX0 cX1 cB fB
      refine ⟨(hkf.trans hf7).trans ((KeepsOthers.setCell _ _ _).from _), kpB_trans hkb (kpB_trans hk7 ⟨by simp, Below.heap_setCell w7 _ _ _ (by simp; omega)⟩), hB7.setCell (p := ⟨W4.heap.size, 0, none⟩) (by simp) _, _, heap_setCell_same w7 W4.heap.size 0 _ _ _ hv3, ?_⟩
      exact O7.kept' (by simp) (fun k hk => Below.heap_setCell w7 _ _ _ (by have := hk.1; show k ≠ W4.heap.size; omega))
    case false =>
      gi_wp2_with (refine ⟨trivial, ?_⟩; gi_at_call 90; refine (CallsIn.inRound l (callsIn_wide.2 (HU.out _ hG1))).mono ?_; rintro e w6 ⟨rfl, hb⟩)
      exact ⟨keepsFrom_below hb, kpB_below hb (by omega), hB1.trans (hb.mono (by omega)), v, (hb.block _ (by omega)).trans hv1, by rw [pickP_snoc_no HZ.out.symm]; exact hv2.below hb⟩
  case done =>
    rintro D zs' W' hD rfl ⟨hB1, v, hv1, hv2⟩ hK
    have cB := cell_of_row W' W4.heap.size 0 _ _ _ hv1
    simp at cB
    gi_wp2
    refine ⟨by simp, .inl ⟨_, _, rfl, run_takeDeferred hK, ?_⟩⟩
    refine ⟨.tuple #[v, .int .i64 0], results_tmp2 Try.results53 _ _ _, ?_, v, rfl, ?_⟩
    · exact (B0.trans (hB1.mono (by omega))).trans (belowK_b (w := w) (Nat.le_refl _) _ D _ _ (by omega) hK rfl rfl)
    · have := hv2.kept (grownBy_putObj' W' D (.deferred none)) (fun r e => by cases e; exact ⟨_, hK, rfl⟩)
      have e : pickP (crossB (gridN c n)) (uptoC 0 0 W (W * H)) = crossC W (gridN c n) (W * H) := by
        unfold pickP crossC
        rw [upto_all hW hH _ (Nat.le_refl _)]
      rw [e] at this
      exact World.ownsRow.mono this (by have := B0.size; omega)
  case stop =>
    rintro D c pre W _ _ h _
    exact h.elim
end Go.Proofs.Ytmbmdplafjminaa
