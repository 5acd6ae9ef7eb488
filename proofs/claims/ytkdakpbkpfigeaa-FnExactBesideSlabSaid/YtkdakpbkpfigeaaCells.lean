/-
  Lists of cells: the contract of spec.l01All. Conditions stand at each.
-/
import Derived.Test.YtkdakpbkpfigeaaRows
import Derived.Test.YtkdakpbkpfigeaaTold
import Derived.Test.YtkdakpbkpfigeaaOwnC
import Derived.Test.YtkdakpbkpfigeaaC2
import Derived.Deep.AppendLies
import Derived.Laws.OwnMore
import Derived.Maps.AppendAt
import Derived.Deep.Onto
import Derived.Lib.Hide
namespace Go.Proofs.Ytkdakpbkpfigeaa
open Go Go.ChangeShapes Go.WideShapes Go.ChangeAt Go.RowKit
set_option linter.unusedVariables false
set_option linter.unusedSimpArgs false
set_option maxRecDepth 100000
set_option maxHeartbeats 2000000

theorem all_any (W H bq : Nat) (q : Value) (w : World) (hW0 : 1 ≤ W) (hW : W ≤ 12) (hH : H ≤ 12) (hq : Sq w bq W H q) :
    Calls Try.prog 139 #[.pointer (some ⟨bq, 0, none⟩)] w (AllPost W H w) := by
  obtain ⟨i0, hi, hz0, hz1, hz2⟩ := info_parts infoCell
  have hWi : (W : Int) ≤ 12 := by omega
  have hHi : (H : Int) ≤ 12 := by omega
  go_enter Try.func139, Try.ntmps139
  go_wp2
  have B0 : Below w.heap.size w (w.alloc (.cells #[] 130)) := al (Below.refl _ _) _
  have O0 : (w.alloc (.cells #[] 130)).ownsRow w.heap.size 130 2 (.slice (some ⟨w.heap.size, 0, none⟩) 0 0) 0 [] := World.ownsRow_made w #[] 0 (Nat.le_refl _) (Nat.zero_le _) rfl
  obtain ⟨W0, hW0'⟩ : ∃ W0 : World, W0 = w.alloc (.cells #[] 130) := ⟨_, rfl⟩
  rw [← hW0'] at B0 O0 ⊢
  clear hW0'
  go_loopw [3, 4] (fun t3 t4 wr => ∃ y : Nat, y ≤ H ∧ t4 = .int .i8 y ∧ Below w.heap.size w wr ∧ OwnC wr w.heap.size t3 (allC W (W * y))) (fun t3 t4 wr => H - (intOf t4).toNat)
  case atStart => exact ⟨0, by omega, by simp, B0, O0⟩
  case round =>
    clear B0 O0
    obtain ⟨y, hy, rfl, B, O⟩ := hrel
    obtain ⟨v0, rfl⟩ : ∃ v0 : Value, v0 = u3 := ⟨_, rfl⟩
    have hq0 := hq.of_block B.size (B.block _ hq.1)
    obtain ⟨lq, pq, qq, rq⟩ := id hq0
    by_cases hyt : y < H
    · go_wp2
      clear lq pq qq rq
      go_loopw [3, 5] (fun t3 t5 wr => ∃ x : Nat, x ≤ W ∧ t5 = .int .i8 x ∧ Below w.heap.size w wr ∧ OwnC wr w.heap.size t3 (allC W (W * y + x))) (fun t3 t5 wr => W - (intOf t5).toNat)
      case atStart => exact ⟨0, by omega, by simp, B, O⟩
      case round =>
        clear B O hq0
        obtain ⟨x, hx, rfl, B, O⟩ := hrel
        have hq0 := hq.of_block B.size (B.block _ hq.1)
        obtain ⟨lq, pq, qq, rq⟩ := id hq0
        by_cases hxt : x < W
        · have h144 : W * y + x < 144 := by
            have : W * y + W ≤ W * 12 := by rw [← Nat.mul_succ]; exact Nat.mul_le_mul_left _ (by omega)
            omega
          have hyi : (y : Int) ≤ 11 := by omega
          have hxi : (x : Int) ≤ 11 := by omega
          have H144 := Lib.hid h144
          clear h144
          go_wp2_with (at_builtin; refine wpList_append_own _ rfl _ _ 67 rfl w.heap.size 130 i0 (.agg #[.int .i8 0, .int .i8 0]) 2 2 Try.underlying67 hi hz0 hz1 hz2 rfl (by decide) _ _ _ rfl (World.ownsRow.alloc O _) ⟨wr.heap.size, 0, none⟩ 1 1 [.int .i8 (x : Int), .int .i8 (y : Int)] rfl rfl (new_cells wr #[.int .i8 (x : Int), .int .i8 (y : Int)] 130) one_ints (by rw [allC_length]; have := H144.out; unfold maxLen; omega) (by rw [allC_length]; have := H144.out; omega) (by have := B.size; simp; omega) ?_; intro v' w1 own' hgr _)
          have B1 : Below w.heap.size w w1 := (al B _).grown hgr (al B _).size (fun k e => (O.lt k e).1)
          have O1 : OwnC w1 w.heap.size v' (allC W (W * y + (x + 1))) := by
            unfold OwnC
            rw [← Nat.add_assoc, allC_succ, cl_eq hxt, cellsL_append, cellsL_one, List.length_append]
            exact own'
          clear own' hgr O B lq pq qq rq hq0 H144
          go_wp2
          exact ⟨⟨x + 1, by omega, by first | go_num | simp, B1, O1⟩, by simp [intOf]; omega⟩
        · obtain rfl : x = W := by omega
          go_wp2
          exact ⟨⟨y + 1, by omega, by first | go_num | simp, B, by rw [Nat.mul_succ]; exact O⟩, by simp [intOf]; omega⟩
    · obtain rfl : y = H := by omega
      go_wp2
      go_ret
      exact ⟨B, v0, rfl, O⟩
end Go.Proofs.Ytkdakpbkpfigeaa
