/-
  The contract of spec.l01Open. Conditions stand at each.
-/
import Derived.Test.YtmbmdplafjminaaRows
import Derived.Test.YtmbmdplafjminaaCells
namespace Go.Proofs.Ytmbmdplafjminaa
open Go Go.ChangeShapes Go.WideShapes Go.ChangeAt Go.RowKit
set_option linter.unusedVariables false
set_option linter.unusedSimpArgs false
set_option maxRecDepth 100000
set_option maxHeartbeats 2000000

def OpenPost (W H : Nat) (G : Nat → Int) (w : World) (e : Ending) (w' : World) : Prop :=
  Below w.heap.size w w' ∧ ∃ v, e = .returned v ∧ OwnC w' w.heap.size v (openC W G (W * H))

theorem openL_any (W H bq g n : Nat) (c : Nat → Int) (w : World) (hW0 : 1 ≤ W) (hW : W ≤ 12) (hH : H ≤ 12) (hc : ∀ j, -128 ≤ c j ∧ c j ≤ 127) (hm : n ≤ 1048576) (hq : Sq w bq W H (.slice (some ⟨g, 0, none⟩) n n)) (hrow : w.rowIs g 58 (4 * n) (fun j => .int .i8 (c j))) (hv : Valid W H n c) :
    Calls Try.prog 74 #[.pointer (some ⟨bq, 0, none⟩)] w (OpenPost W H (gridN c n) w) := by
  obtain ⟨i0, hi, hz0, hz1, hz2⟩ := info_parts infoCell
  have HL := Lib.hid (lay_any W H bq g n c w (by omega) (by omega) hc hm hq hrow)
  have hWi : (W : Int) ≤ 12 := by omega
  have hHi : (H : Int) ≤ 12 := by omega
  go_enter Try.func74, Try.ntmps74
  go_wp2_with fail
  refine HL.out.mono ?_
  rintro e w3 ⟨hb, cs, hsz, hone, hcase⟩
  rcases hcase with ⟨_, hcell, rfl⟩ | ⟨hn, _⟩
  case inr => exact absurd hv hn
  have hq3 := hq.below hb
  have hG : (w3.alloc (.cells Try.zeroCells93 93)).heap[w3.heap.size]? = some (.cells Try.zeroCells93 93 (0, 0)) := heap_alloc_new w3 _
  have B4 := below_setRow (al hb (.cells Try.zeroCells93 93)) hb.size cs
  have H4 : Sq ((w3.alloc (.cells Try.zeroCells93 93)).setRow w3.heap.size cs) bq W H (.slice (some ⟨g, 0, none⟩) n n) := (hq3.alloc _).of_block (by rw [setRow_size]; exact Nat.le_refl _) (setRow_other _ _ _ _ (by have := hq3.1; omega))
  have R4 : ((w3.alloc (.cells Try.zeroCells93 93)).setRow w3.heap.size cs).rowIs w3.heap.size 93 144 (fun p => .int .i64 (gridN c n p)) := ⟨cs, setRow_heap _ _ _ _ _ _ hG, hsz, hcell⟩
  have hN : w.heap.size ≤ w3.heap.size := hb.size
  obtain ⟨W4, hW4⟩ : ∃ W4 : World, W4 = ((w3.alloc (.cells Try.zeroCells93 93)).setRow w3.heap.size cs) := ⟨_, rfl⟩
  rw [← hW4] at B4 H4 R4
  clear hb hG HL hq3
  go_wp2_with (first
    | (refine wpList_store_row rfl 93 (.tmp 3) (.tmp 11) rfl w3.heap.size cs rfl rfl 93 Try.zeroCells93 (heap_alloc_new w3 _) (by rw [info93, hsz]) (by rw [zc_size, hsz]) hone ?_
       rw [← hW4]
       clear hW4 hcell hone hsz))
  have hsz4 : w3.heap.size < W4.heap.size := R4.lt
  have hsz0 : w.heap.size ≤ W4.heap.size := B4.size
  refine (all_any W H bq _ _ hW0 hW hH (H4.alloc _)).mono ?_
  rintro e w5 ⟨hb5, va, rfl, O5⟩
  obtain ⟨N, hN'⟩ : ∃ N, N = W * H := ⟨_, rfl⟩
  rw [← hN'] at O5
  have hN0 : 0 < N := by rw [hN']; exact Nat.mul_pos hW0 (by have := hv.2.2.1; omega)
  have hN144 : N ≤ 144 := by rw [hN']; exact mul12 hW hH
  obtain ⟨ga, cap, rfl, hga, hga2⟩ := own_some O5 (by rw [allC_length]; exact hN0)
  rw [allC_length] at *
  have HN' := Lib.hid hN'
  clear hN'
  have B5 : Below w.heap.size w w5 := nxt (al B4 _) hb5
  have R5 := rowNext1 R4 hb5
  have O0 : OwnC w5 W4.heap.size (.slice (some ⟨W4.heap.size, 0, none⟩) 0 0) (openC W (gridN c n) 0) :=
    OwnC.below (w := W4.alloc (.cells #[] 45)) (World.ownsRow_made W4 #[] 0 (Nat.le_refl _) (Nat.zero_le _) rfl) hb5
  have hsz5 : W4.heap.size < ga := by have := hga; simp at this; omega
  clear hb5 R4 H4 B4 hN
  go_wp2_with fail
  go_loopw [5, 7] (fun t5 t7 wr => ∃ i : Nat, i ≤ N ∧ t7 = .int .i64 i ∧ Below w.heap.size w wr ∧ OwnC wr W4.heap.size t5 (openC W (gridN c n) i) ∧ t5.ownBlock ≠ some ga ∧ wr.rowIs w3.heap.size 93 144 (fun p => .int .i64 (gridN c n p)) ∧ OwnC wr (W4.heap.size + 1) (.slice (some ⟨ga, 0, none⟩) N cap) (allC W N)) (fun t5 t7 wr => N - (intOf t7).toNat)
  case atStart => exact ⟨0, by omega, by simp, B5, O0, by simp [Value.ownBlock]; omega, R5, by simpa using O5⟩
  case round =>
    clear B5 O0 R5 O5
    obtain ⟨i, hi1, rfl, B, O, hne, R, OA⟩ := hrel
    obtain ⟨v0, rfl⟩ : ∃ v0 : Value, v0 = u5 := ⟨_, rfl⟩
    by_cases hlt : i < N
    · obtain ⟨x, y, hxy⟩ : ∃ x y, cl W i = (x, y) := ⟨_, _, rfl⟩
      have hb12 := cl_lt hW hH (show i < W * H by rw [← HN'.out]; exact hlt)
      rw [hxy] at hb12
      obtain ⟨hx, hy⟩ := hb12
      have hx12 : x < 12 := by dsimp only at hx; omega
      have hy12 : y < 12 := by dsimp only at hy; omega
      obtain ⟨c0, c1⟩ := OwnC.get OA (allC_length W N) (q := (x, y)) (by rw [allC_get W N i hlt, hxy])
      have cg := R.cell (i := y * 12 + x) (by omega)
      have hsz := (World.ownsRow.lt OA ga rfl).2
      clear hx hy
      have hxi : (x : Int) ≤ 11 := by omega
      have hyi : (y : Int) ≤ 11 := by omega
      have HXY := Lib.hid hxy
      clear hxy
      by_cases hz : gridN c n (y * 12 + x) = 0
      · have bz : (gridN c n (y * 12 + x) == 0) = true := by simpa using hz
        have HZ := Lib.hid hz
        clear hz
        go_wp2
        go_quiet (fail)
        replace B := below_drewN' B nq
        replace O : OwnC (wr.drewN nq) W4.heap.size v0 (openC W (gridN c n) i) := O
        replace OA : OwnC (wr.drewN nq) (W4.heap.size + 1) (.slice (some ⟨ga, 0, none⟩) N cap) (allC W N) := OA
        replace R : (wr.drewN nq).rowIs w3.heap.size 93 144 (fun p => .int .i64 (gridN c n p)) := R
        replace hsz : ga < (wr.drewN nq).heap.size := hsz
        obtain ⟨wq, hwq⟩ : ∃ wq, wr.drewN nq = wq := ⟨_, rfl⟩
        rw [hwq] at B O OA R hsz ⊢
        clear hwq c0 c1 cg
        obtain ⟨c0, c1⟩ := OwnC.get OA (allC_length W N) (q := (x, y)) (by rw [allC_get W N i hlt, HXY.out])
        have hle := openC_length W (gridN c n) i
        have HLE := Lib.hid hle
        clear hle
        go_wp2_with (at_builtin; refine wpList_append_own_at _ rfl _ _ 48 rfl W4.heap.size 45 i0 (.agg #[.int .i8 0, .int .i8 0]) 2 2 Try.underlying48 hi hz0 hz1 hz2 rfl (by decide) _ _ _ rfl (World.ownsRow.alloc O _) ⟨wq.heap.size, 0, none⟩ 1 1 [.int .i8 (x : Int), .int .i8 (y : Int)] rfl rfl (new_cells wq #[.int .i8 (x : Int), .int .i8 (y : Int)] 45) one_ints (by have := HLE.out; unfold maxLen; omega) (by have := HLE.out; omega) (by simp; omega) ?_; intro v' w1 own' hgr _ hat)
        have B1 : Below w.heap.size w w1 := (al B _).grown hgr (al B _).size (fun k e => by have := (World.ownsRow.lt O k e).1; omega)
        have O1 : OwnC w1 W4.heap.size v' (openC W (gridN c n) (i + 1)) := by
          unfold OwnC
          have hz' := HZ.out
          rw [openC_succ_yes (by rw [HXY.out]; exact hz'), HXY.out, cellsL_append, cellsL_one, List.length_append]
          exact own'
        have OA1 : OwnC w1 (W4.heap.size + 1) (.slice (some ⟨ga, 0, none⟩) N cap) (allC W N) := World.ownsRow.kept (OwnC.alloc OA _) hgr (.inr (fun e => hne e.symm))
        have R1 : w1.rowIs w3.heap.size 93 144 (fun p => .int .i64 (gridN c n p)) := (R.alloc _).of_block (hgr.block _ (by simp; have := R.lt; omega) (fun e => by have := (World.ownsRow.lt O _ e.symm).1; omega))
        have hne1 : v'.ownBlock ≠ some ga := by
          rcases hat with h | h
          · rw [h]; exact hne
          · rw [h]; simp; omega
        clear own' hgr hat O OA R B hne hsz c0 c1
        go_wp2
        exact ⟨⟨i + 1, by omega, by first | go_num | simp, B1, O1, hne1, R1, OA1⟩, by simp [intOf]; omega⟩
      · have bz : (gridN c n (y * 12 + x) == 0) = false := by simpa using hz
        have HZ := Lib.hid hz
        clear hz
        go_wp2
        go_quiet (fail)
        replace B := below_drewN' B nq
        replace O : OwnC (wr.drewN nq) W4.heap.size v0 (openC W (gridN c n) i) := O
        replace OA : OwnC (wr.drewN nq) (W4.heap.size + 1) (.slice (some ⟨ga, 0, none⟩) N cap) (allC W N) := OA
        replace R : (wr.drewN nq).rowIs w3.heap.size 93 144 (fun p => .int .i64 (gridN c n p)) := R
        replace hsz : ga < (wr.drewN nq).heap.size := hsz
        obtain ⟨wq, hwq⟩ : ∃ wq, wr.drewN nq = wq := ⟨_, rfl⟩
        rw [hwq] at B O OA R hsz ⊢
        clear hwq c0 c1 cg
        go_wp2
        exact ⟨⟨i + 1, by omega, by first | go_num | simp, B, by rw [openC_succ_no (by rw [HXY.out]; exact HZ.out)]; exact O, hne, R, OA⟩, by simp [intOf]; omega⟩
    · obtain rfl : i = N := by omega
      go_wp2
      go_ret
      exact ⟨B, v0, rfl, by rw [← HN'.out]; exact World.ownsRow.mono O (by omega)⟩
end Go.Proofs.Ytmbmdplafjminaa
