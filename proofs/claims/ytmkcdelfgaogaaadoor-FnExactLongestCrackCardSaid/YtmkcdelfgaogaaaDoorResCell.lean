/-
  Contracts of the law's helpers over slices of Cell (eq, mark, held). Conditions stand at each.
-/
import Derived.Test.YtmkcdelfgaogaaaDoorRows
import Derived.Test.YtmkcdelfgaogaaaDoorRes
import Derived.Test.YtmkcdelfgaogaaaDoorEqCell
namespace Go.Proofs.YtmkcdelfgaogaaaDoor
open Go Go.ChangeShapes Go.WideShapes Go.ChangeAt Go.RowKit
set_option linter.unusedVariables false
set_option linter.unusedSimpArgs false
set_option maxRecDepth 100000
set_option maxHeartbeats 2000000

theorem atCell {w : World} {g off n k : Nat} {f : Nat → Int} (h : OwnK .i8 w g off (2 * n) f) (hk : k < n) : (w.cell? ⟨g, off + k * 2, none⟩ = some (.int .i8 (f (2 * k))) ∧ w.cell? ⟨g, off + k * 2 + 1, none⟩ = some (.int .i8 (f (2 * k + 1)))) ∧ (w.frozen? ⟨g, off + k * 2, none⟩ = false ∧ w.frozen? ⟨g, off + k * 2 + 1, none⟩ = false) := by
  have h0 := h (2 * k) (by omega)
  rw [show off + (2 * k) = off + k * 2 by omega] at h0
  have h1 := h (2 * k + 1) (by omega)
  rw [show off + (2 * k + 1) = off + k * 2 + 1 by omega] at h1
  exact ⟨⟨h0.1, h1.1⟩, h0.2, h1.2⟩

theorem rdCell {w : World} {B n k : Nat} {A : Option Addr} {f : Nat → Int} (h : RdK .i8 w B A (2 * n) f) (hk : k < n) : ∃ g off, A = some ⟨g, off, none⟩ ∧ g < B ∧ w.cell? ⟨g, off + k * 2, none⟩ = some (.int .i8 (f (2 * k))) ∧ w.cell? ⟨g, off + k * 2 + 1, none⟩ = some (.int .i8 (f (2 * k + 1))) := by
  obtain ⟨g, off, e, hl, hc⟩ := h (by omega)
  have h0 := hc (2 * k) (by omega)
  rw [show off + (2 * k) = off + k * 2 by omega] at h0
  have h1 := hc (2 * k + 1) (by omega)
  rw [show off + (2 * k + 1) = off + k * 2 + 1 by omega] at h1
  exact ⟨g, off, e, hl, h0, h1⟩

theorem eqCellS_any (A B : Option Addr) (n m ca cb N : Nat) (c d : Nat → Int) (w : World) (hn : n ≤ 1048576) (hm : m ≤ 1048576) (hN : N ≤ w.heap.size) (hr : RdK .i8 w N A (2 * n) c) (hs : RdK .i8 w N B (2 * m) d) (heq : n = m ∧ ∀ j, j < 2 * n → c j = d j) :
    Calls Tryd.prog 27 #[.slice A n ca, .slice B m cb] w fun e w' => e = .returned (.bool true) ∧ Below w.heap.size w w' := by
  obtain ⟨rfl, hcd⟩ := heq
  have HC := Lib.hid hcd
  have HR := Lib.hid hr
  have HS := Lib.hid hs
  clear hcd hr hs
  have hnn : ((n : Int) == (n : Int)) = true := by simp
  have hnb : ((n : Int) != (n : Int)) = false := by simp
  go_enter Tryd.func27, Tryd.ntmps27
  go_wp2
  go_loopw [5] (fun i wr => ∃ k : Nat, k ≤ n ∧ i = .int .i64 k ∧ Below w.heap.size w wr) (fun i wr => n - (intOf i).toNat)
  case atStart => exact ⟨0, by omega, rfl, Below.refl _ _⟩
  case round =>
    obtain ⟨k, hk, rfl, hb⟩ := hrel
    by_cases hlt : k < n
    · obtain ⟨b, off, rfl, hbl, c0, c1⟩ := rdCell (HR.out.below (hb.mono hN)) hlt
      obtain ⟨b', off', rfl, hbl', d0, d1⟩ := rdCell (HS.out.below (hb.mono hN)) hlt
      rw [← HC.out _ (by omega)] at d0 d1
      go_wp2
      go_still_tail 8, (by kernel_rfl)
      change wpList _ _ _ _ _ wr.drew
      go_wp2_with (go_at_call 26; refine (eqCell_yes _ _ _).mono ?_; rintro e w1 ⟨rfl, hb1⟩)
      go_roundw
      case rel => exact ⟨k + 1, by omega, by go_num, hb.drew.trans (hb1.mono hb.size)⟩
      case measure => simp [intOf]; omega
    · obtain rfl : k = n := by omega
      go_wp2
      go_ret
      exact ⟨rfl, hb⟩

theorem setCell {w : World} {g off n k : Nat} {f : Nat → Int} (h : OwnK .i8 w g off (2 * n) f) (hk : k < n) (v0 v1 : Int) :
    OwnK .i8 ((w.setCell ⟨g, off + k * 2, none⟩ (.int .i8 v0)).setCell ⟨g, off + k * 2 + 1, none⟩ (.int .i8 v1)) g off (2 * n) (fun j => if j = k * 2 + 1 then v1 else if j = k * 2 then v0 else f j) :=
  ((h.set (i := k * 2) (by omega) v0).set (i := k * 2 + 1) (by omega) v1)

end Go.Proofs.YtmkcdelfgaogaaaDoor
