/-
  Lists of cells that a law copies: contracts of toCellS and szCellS. Conditions stand at each.
-/
import Derived.Test.YtmkcdelfgaogaaaDoorRows
import Derived.Test.YtmkcdelfgaogaaaDoorLawA
import Derived.Test.YtmkcdelfgaogaaaDoorSetts
import Derived.Test.YtmkcdelfgaogaaaDoorResCell
namespace Go.Proofs.YtmkcdelfgaogaaaDoor
open Go Go.ChangeShapes Go.WideShapes Go.ChangeAt Go.RowKit
set_option linter.unusedVariables false
set_option linter.unusedSimpArgs false
set_option maxRecDepth 100000
set_option maxHeartbeats 2000000

theorem RdK.mono' {kd : IntKind} {w : World} {B B' n : Nat} {A : Option Addr} {c : Nat → Int} (h : RdK kd w B A n c) (hb : B ≤ B') : RdK kd w B' A n c := fun h0 => by
  obtain ⟨b, off, e, hl, hc⟩ := h h0
  exact ⟨b, off, e, by omega, hc⟩
/-- block g is a copy of n cells, of the call's own. -/
def Ac (w : World) (g n : Nat) (c : Nat → Int) : Prop := g < w.heap.size ∧ OwnK .i8 w g 0 (2 * n) c
section
variable {w w' : World} {g n : Nat} {c : Nat → Int}
theorem Ac.kept (h : Ac w g n c) (hs : w.heap.size ≤ w'.heap.size) (e : w'.heap[g]? = w.heap[g]?) : Ac w' g n c := ⟨Nat.lt_of_lt_of_le h.1 hs, h.2.of_block e⟩
theorem Ac.below (h : Ac w g n c) (hb : Below w.heap.size w w') : Ac w' g n c := h.kept hb.size (hb.block g h.1)
theorem Ac.alloc (h : Ac w g n c) (o : Obj) : Ac (w.alloc o) g n c := h.kept (by simp) (Below.heap_alloc w o g h.1)
theorem Ac.rd (h : Ac w g n c) : RdK .i8 w w.heap.size (some ⟨g, 0, none⟩) (2 * n) c := h.2.rd fun _ => ⟨rfl, h.1⟩
theorem Ac.sub (h : Ac w g n c) {B : Nat} (hb : Below B w w') (hg : g < B) : Ac w' g n c := h.kept hb.size (hb.block g hg)
end

theorem infoCell' : (Tryd.prog.info? 35).map (fun i => (i.zero, i.size, i.bytes)) = some (some (.agg #[.int .i8 0, .int .i8 0]), 2, 2) := by kernel_rfl
theorem toCellS_any (A : Option Addr) (n cap N : Nat) (c : Nat → Int) (w : World) (hn : n ≤ 1048576) (hN : N ≤ w.heap.size) (hr : RdK .i8 w N A (2 * n) c) :
    Calls Tryd.prog 24 #[.slice A n cap] w fun e w' => ∃ g, e = .returned (.slice (some ⟨g, 0, none⟩) n n) ∧ w.heap.size ≤ g ∧ Below w.heap.size w w' ∧ Ac w' g n c := by
  obtain ⟨i0, hi, hz0, hz1, hz2⟩ := info_parts infoCell'
  have hmk := fun W => run_make_rowN (P := Tryd.prog) 53 35 i0 _ Tryd.underlying53 hi hz0 .i64 .i64 n n (Nat.le_refl _) (by rw [hz2]; omega) (by omega) W
  have HR := Lib.hid hr
  clear hr
  go_enter Tryd.func24, Tryd.ntmps24
  go_wp2
  obtain ⟨W0, hW0⟩ : ∃ W0 : World, W0 = (w.alloc (.cells (madeCells #[.int .i8 0, .int .i8 0] (n * 2)) 35)) := ⟨_, rfl⟩
  have hb0 : Below w.heap.size w W0 := by rw [hW0]; exact (Below.refl _ _).alloc (Nat.le_refl _) _
  have hg0 : w.heap.size < W0.heap.size := by rw [hW0]; simp
  have hrow0 : OwnK .i8 W0 w.heap.size 0 (2 * n) (fun _ => 0) := by
    rw [hW0]
    intro j hj
    have h2 := rowIs_made2 w (.int .i8 0) (.int .i8 0) (n * 2) 35 (j / 2) (by omega)
    have : j % 2 = 0 ∨ j % 2 = 1 := by omega
    rcases this with e | e
    · rw [show 0 + j = j / 2 * 2 by omega]; exact ⟨h2.1.1, h2.2.1⟩
    · rw [show 0 + j = j / 2 * 2 + 1 by omega]; exact ⟨h2.1.2, h2.2.2⟩
  rw [← hW0]
  clear hW0 hmk
  go_loopw [4] (fun i wr => ∃ k : Nat, k ≤ n ∧ i = .int .i64 k ∧ Below w.heap.size w wr ∧ w.heap.size < wr.heap.size ∧ OwnK .i8 wr w.heap.size 0 (2 * n) (fun j => if j < 2 * k then c j else 0)) (fun i _ => n - (intOf i).toNat)
  case atStart => exact ⟨0, by omega, rfl, hb0, hg0, hrow0.congr (fun j _ => by simp)⟩
  case round =>
    obtain ⟨k, hk, rfl, hb, hg, hrow⟩ := hrel
    by_cases hlt : k < n
    · obtain ⟨b, off, rfl, hbl, c0, c1⟩ := rdCell (HR.out.below (hb.mono hN)) hlt
      go_wp2_with (go_at_call 11; refine (toCell_any _ _ _).mono ?_; rintro e w1 ⟨rfl, hb1⟩; have hrow1 := hrow.of_block (hb1.block _ hg); obtain ⟨⟨d0, d1⟩, f0, f1⟩ := atCell hrow1 hlt; simp only [Nat.zero_add] at d0 d1 f0 f1; have hz := Nat.lt_of_lt_of_le hg hb1.size)
      go_roundw
      case rel =>
        refine ⟨k + 1, by omega, by go_num, (((hb.trans (hb1.mono hb.size)).setCell (Nat.le_refl _) _).setCell (Nat.le_refl _) _), by simpa using hz, ?_⟩
        have h2 := (setCell hrow1 hlt (c (2 * k)) (c (2 * k + 1)))
        simp only [Nat.zero_add] at h2
        refine h2.congr fun j hj => ?_
        by_cases e1 : j = k * 2 + 1
        · subst e1; simp only [if_pos]; rw [if_pos (by omega)]; congr 1; omega
        rw [if_neg e1]
        by_cases e0 : j = k * 2
        · subst e0; simp only [if_pos]; rw [if_pos (by omega)]; congr 1; omega
        rw [if_neg e0]
        by_cases hj' : j < 2 * k
        · rw [if_pos hj', if_pos (by omega)]
        · rw [if_neg hj', if_neg (by omega)]
      case measure => simp [intOf]; omega
    · obtain rfl : k = n := by omega
      go_wp2
      go_ret
      exact ⟨_, rfl, Nat.le_refl _, hb, hg, hrow.congr (fun j hj => by simp only [if_pos hj])⟩

theorem szCellS_ok (A : Option Addr) (n cap : Nat) (L : Int) (w : World) (hL0 : 0 ≤ L) (hL : L ≤ 1048576) (hn : (n : Int) ≤ L) :
    Calls Tryd.prog 22 #[.slice A n cap, .int .i64 L] w fun e w' => e = .returned (.int .i64 (L - n)) ∧ w = w' := by
  have h1 : 0 ≤ L - (n : Int) := by omega
  go_enter Tryd.func22, Tryd.ntmps22
  go_wp2
  go_ret
  exact ⟨rfl, rfl⟩
theorem szCellS_big (A : Option Addr) (n cap : Nat) (L : Int) (w : World) (hL0 : 0 ≤ L) (hL : L ≤ 1048576) (hn : L < (n : Int)) (hm : n ≤ 9223372036854775807) :
    Calls Tryd.prog 22 #[.slice A n cap, .int .i64 L] w fun e w' => e = .returned (.int .i64 (-1)) ∧ w = w' := by
  have h1 : L - (n : Int) < 0 := by omega
  go_enter Tryd.func22, Tryd.ntmps22
  go_wp2
  go_ret
  exact ⟨rfl, rfl⟩
end Go.Proofs.YtmkcdelfgaogaaaDoor
