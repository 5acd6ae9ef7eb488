/-
  The contract of impl.squareWith. Conditions stand at each.
-/
import Derived.Test.YtkdakpbkpfigeaaRows
import Derived.Test.YtkdakpbkpfigeaaSort
import Derived.Test.YtkdakpbkpfigeaaRet
namespace Go.Proofs.Ytkdakpbkpfigeaa
open Go Go.ChangeShapes Go.WideShapes Go.ChangeAt Go.RowKit
set_option linter.unusedVariables false
set_option linter.unusedSimpArgs false
set_option maxRecDepth 100000
set_option maxHeartbeats 2000000

theorem grown_setNew {w wr : World} {g b : Nat} (h : w.grownBy wr (some g)) (hb : w.heap.size ≤ b) (i : Nat) (v : Value) : w.grownBy (wr.setCell ⟨b, i, none⟩ v) (some g) :=
  ⟨h.os, h.tape, h.output, by simpa [World.setCell] using h.size, fun j hj hne => (Below.heap_setCell wr ⟨b, i, none⟩ v j (by show j ≠ b; omega)).trans (h.block j hj hne)⟩
theorem grown_alloc (w : World) (o : Obj) (g : Nat) : w.grownBy (w.alloc o) (some g) := ⟨rfl, rfl, rfl, by simp, fun j hj _ => Below.heap_alloc w o j hj⟩

theorem squareWith_any (X Y : Int) (g n cap : Nat) (f : Nat → Int) (w : World) (hn : n ≤ 1048576) (hg : g < w.heap.size) (hO : Own8 w g 0 (4 * n) f) :
    Calls Try.prog 86 #[.int .i8 X, .int .i8 Y, .slice (some ⟨g, 0, none⟩) n cap] w fun e w' => e = .returned (.agg #[.int .i8 X, .int .i8 Y, .slice (some ⟨g, 0, none⟩) n cap]) ∧ w.grownBy w' (some g) ∧ ∃ L, SortedOf (toL f n) L ∧ Own8 w' g 0 (4 * n) (fL L) := by
  have HO := Lib.hid hO
  clear hO
  go_enter Try.func86, Try.ntmps86
  go_wp2_with fail
  have HB := Bx.new w #[.int .i8 0, .int .i8 0, .slice none 0 0] 31
  have HO1 := HO.out.of_block (Below.heap_alloc w (.cells #[.int .i8 0, .int .i8 0, .slice none 0 0] 31) g hg)
  have hgr0 := grown_alloc w (.cells #[.int .i8 0, .int .i8 0, .slice none 0 0] 31) g
  refine (sort_any g n cap f _ hn (by simp; omega) HO1).mono ?_
  rintro e w1 ⟨rfl, hgr, L, hS, hL⟩
  replace HB := HB.of_block (hgr.block _ HB.lt (fun e => by injection e; omega))
  replace hgr := hgr0.trans hgr
  obtain ⟨p1, q1, r1⟩ := HB.cells3
  have f10 := HB.frozen 0
  have f11 := HB.frozen 1
  have f12 := HB.frozen 2
  have HLL := Lib.hid hL
  have HSS := Lib.hid hS
  clear HO1 hgr0 hL hS
  go_wp2_with fail
  have F1 := HB.set3 (.int .i8 X) (.int .i8 Y) (.slice (some ⟨g, 0, none⟩) n cap)
  obtain ⟨x1, y1, z1⟩ := F1.cells3
  refine bodyPost_ret (v := .agg #[.int .i8 X, .int .i8 Y, .slice (some ⟨g, 0, none⟩) n cap]) (by simp [results, Try.results86, go_sem, x1, y1, z1]) rfl ⟨rfl, grown_setNew (grown_setNew (grown_setNew hgr (Nat.le_refl _) _ _) (Nat.le_refl _) _ _) (Nat.le_refl _) _ _, L, HSS.out, HLL.out.of_block (blk3 (by omega))⟩

theorem squareWith_none (X Y : Int) (cap : Nat) (w : World) :
    Calls Try.prog 86 #[.int .i8 X, .int .i8 Y, .slice none 0 cap] w fun e w' => e = .returned (.agg #[.int .i8 X, .int .i8 Y, .slice none 0 cap]) ∧ Below w.heap.size w w' := by
  go_enter Try.func86, Try.ntmps86
  go_wp2_with fail
  have HB := Bx.new w #[.int .i8 0, .int .i8 0, .slice none 0 0] 31
  have B := al (Below.refl w.heap.size w) (.cells #[.int .i8 0, .int .i8 0, .slice none 0 0] 31)
  refine (sort_none _ _ _).mono ?_
  rintro e w1 ⟨rfl, rfl⟩
  obtain ⟨w1, hw1⟩ : ∃ w1, w1 = w.alloc (.cells #[.int .i8 0, .int .i8 0, .slice none 0 0] 31) := ⟨_, rfl⟩
  rw [← hw1] at HB B ⊢
  clear hw1
  obtain ⟨p1, q1, r1⟩ := HB.cells3
  have f10 := HB.frozen 0
  have f11 := HB.frozen 1
  have f12 := HB.frozen 2
  go_wp2_with fail
  have F1 := HB.set3 (.int .i8 X) (.int .i8 Y) (.slice none 0 cap)
  obtain ⟨x1, y1, z1⟩ := F1.cells3
  refine bodyPost_ret (v := .agg #[.int .i8 X, .int .i8 Y, .slice none 0 cap]) (by simp [results, Try.results86, go_sem, x1, y1, z1]) rfl ⟨rfl, below_set3 B (Nat.le_refl _)⟩
end Go.Proofs.Ytkdakpbkpfigeaa
