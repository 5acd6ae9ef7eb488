/-
  Contracts of the law's helpers over slices of Cell (eq, mark, held). Conditions stand at each.
-/
import Derived.Test.YtkggimalkjjnoaaRows
import Derived.Test.YtkggimalkjjnoaaRes
import Derived.Test.YtkggimalkjjnoaaEqCell
namespace Go.Proofs.Ytkggimalkjjnoaa
open Go Go.ChangeShapes Go.WideShapes Go.ChangeAt Go.RowKit
set_option linter.unusedVariables false
set_option linter.unusedSimpArgs false
set_option maxRecDepth 100000
set_option maxHeartbeats 2000000

theorem atCell {w : World} {g off n k : Nat} {f : Nat → Int} (h : OwnK .i8 w g off (2 * n) f) (hk : k < n) : (w.cell? ⟨g, off + k * 2, none⟩ = some (.int .i8 (f (2 * k))) ∧ w.cell? ⟨g, off + k * 2 + 1, none⟩ = some (.int .i8 (f (2 * k + 1)))) ∧ (w.frozen? ⟨g, off + k * 2, none⟩ = false ∧ w.frozen? ⟨g, off + k * 2 + 1, none⟩ = false) := by
  have h0 := h (2 * k) (by omega)
  rw [show off + (2 * k) = off + k * 2 by omega] at h0
  have h1 := h (2 * k + 1) (by omega)
  rw [show off + (2 * k + 1) = off + k * 2 + 1 by omega] at h1
  exact ⟨⟨h0.1, h1.1⟩, h0.2, h1.2⟩

theorem rdCell {w : World} {B n k : Nat} {A : Option Addr} {f : Nat → Int} (h : RdK .i8 w B A (2 * n) f) (hk : k < n) : ∃ g off, A = some ⟨g, off, none⟩ ∧ g < B ∧ w.cell? ⟨g, off + k * 2, none⟩ = some (.int .i8 (f (2 * k))) ∧ w.cell? ⟨g, off + k * 2 + 1, none⟩ = some (.int .i8 (f (2 * k + 1))) := by
  obtain ⟨g, off, e, hl, hc⟩ := h (by omega)
  have h0 := hc (2 * k) (by omega)
  rw [show off + (2 * k) = off + k * 2 by omega] at h0
  have h1 := hc (2 * k + 1) (by omega)
  rw [show off + (2 * k + 1) = off + k * 2 + 1 by omega] at h1
  exact ⟨g, off, e, hl, h0, h1⟩

theorem eqCellS_any (A B : Option Addr) (n m ca cb N : Nat) (c d : Nat → Int) (w : World) (hn : n ≤ 1048576) (hm : m ≤ 1048576) (hN : N ≤ w.heap.size) (hr : RdK .i8 w N A (2 * n) c) (hs : RdK .i8 w N B (2 * m) d) (heq : n = m ∧ ∀ j, j < 2 * n → c j = d j) :
    Calls Try.prog 33 #[.slice A n ca, .slice B m cb] w fun e w' => e = .returned (.bool true) ∧ Below w.heap.size w w' := by
  obtain ⟨rfl, hcd⟩ := heq
  have HC := Lib.hid hcd
  have HR := Lib.hid hr
  have HS := Lib.hid hs
  clear hcd hr hs
  have hnn : ((n : Int) == (n : Int)) = true := by simp
  have hnb : ((n : Int) != (n : Int)) = false := by simp
  go_enter Try.func33, Try.ntmps33
  go_wp2
  go_loopw [5] (fun i wr => ∃ k : Nat, k ≤ n ∧ i = .int .i64 k ∧ Below w.heap.size w wr) (fun i wr => n - (intOf i).toNat)
  case atStart => exact ⟨0, by omega, rfl, Below.refl _ _⟩
  case round =>
    obtain ⟨k, hk, rfl, hb⟩ := hrel
    by_cases hlt : k < n
    · obtain ⟨b, off, rfl, hbl, c0, c1⟩ := rdCell (HR.out.below (hb.mono hN)) hlt
      obtain ⟨b', off', rfl, hbl', d0, d1⟩ := rdCell (HS.out.below (hb.mono hN)) hlt
      rw [← HC.out _ (by omega)] at d0 d1
      go_wp2
      go_still_tail 8, (by kernel_rfl)
      change wpList _ _ _ _ _ wr.drew
      go_wp2_with (go_at_call 96; refine (eqCell_yes _ _ _).mono ?_; rintro e w1 ⟨rfl, hb1⟩)
      go_roundw
      case rel => exact ⟨k + 1, by omega, by go_num, hb.drew.trans (hb1.mono hb.size)⟩
      case measure => simp [intOf]; omega
    · obtain rfl : k = n := by omega
      go_wp2
      go_ret
      exact ⟨rfl, hb⟩

theorem setCell {w : World} {g off n k : Nat} {f : Nat → Int} (h : OwnK .i8 w g off (2 * n) f) (hk : k < n) (v0 v1 : Int) :
    OwnK .i8 ((w.setCell ⟨g, off + k * 2, none⟩ (.int .i8 v0)).setCell ⟨g, off + k * 2 + 1, none⟩ (.int .i8 v1)) g off (2 * n) (fun j => if j = k * 2 + 1 then v1 else if j = k * 2 then v0 else f j) :=
  ((h.set (i := k * 2) (by omega) v0).set (i := k * 2 + 1) (by omega) v1)

theorem markCellS_any (A : Option Addr) (g off n cap : Nat) (c : Nat → Int) (k0 : Int) (w : World) (hk0 : 0 ≤ k0) (hk1 : k0 ≤ 1000000000) (hn : n ≤ 1048576) (hA : 0 < n → A = some ⟨g, off, none⟩) (ho : OwnK .i8 w g off (2 * n) c) :
    Calls Try.prog 35 #[.slice A n cap, .int .i64 k0] w fun e w' => e = .returned (.int .i64 (k0 + 2 * n)) ∧ w.grownBy w' (rowOf n g) ∧ OwnK .i8 w' g off (2 * n) (mkK .i8 k0) := by
  go_enter Try.func35, Try.ntmps35
  go_wp2
  go_loopw [1, 5] (fun kk i wr => ∃ m : Nat, m ≤ n ∧ i = .int .i64 m ∧ kk = .int .i64 (k0 + 2 * m) ∧ w.grownBy wr (rowOf n g) ∧ OwnK .i8 wr g off (2 * n) (fun j => if j < 2 * m then mkK .i8 k0 j else c j)) (fun kk i wr => n - (intOf i).toNat)
  case atStart => exact ⟨0, by omega, rfl, by simp, World.grownBy.refl _ _, ho.congr (fun j _ => by simp)⟩
  case round =>
    obtain ⟨m, hm, rfl, rfl, hgr, hr⟩ := hrel
    by_cases hlt : m < n
    · obtain rfl := hA (by omega)
      rw [rowOf_pos (show 0 < n by omega)] at *
      obtain ⟨⟨c0, c1⟩, f0, f1⟩ := atCell hr hlt
      go_wp2
      refine ⟨⟨m + 1, by omega, by go_num, ?_, (grown_set (grown_set hgr _ _) _ _), (setCell hr hlt _ _).congr fun j hj => ?_⟩, by simp [intOf]; omega⟩
      · congr 1; omega
      · skip
        by_cases h1 : j = m * 2 + 1
        · rw [if_pos h1, if_pos (by omega)]; show _ = IntKind.i8.wrap _; exact congrArg _ (by omega)
        rw [if_neg h1]
        by_cases h0 : j = m * 2
        · rw [if_pos h0, if_pos (by omega)]; show _ = IntKind.i8.wrap _; exact congrArg _ (by omega)
        rw [if_neg h0]
        by_cases hj : j < 2 * m
        · rw [if_pos hj, if_pos (by omega)]
        · rw [if_neg hj, if_neg (by omega)]
    · obtain rfl : m = n := by omega
      go_wp2
      go_ret
      exact ⟨rfl, hgr, hr.congr (fun j hj => by rw [if_pos hj])⟩

theorem heldCellS_any (A : Option Addr) (g off n cap : Nat) (k0 : Int) (w : World) (hk0 : 0 ≤ k0) (hk1 : k0 ≤ 1000000000) (hn : n ≤ 1048576) (hA : 0 < n → A = some ⟨g, off, none⟩) (ho : OwnK .i8 w g off (2 * n) (mkK .i8 k0)) :
    Calls Try.prog 75 #[.slice A n cap, .int .i64 k0] w fun e w' => e = .returned (.int .i64 (k0 + 2 * n)) ∧ w' = w := by
  go_enter Try.func75, Try.ntmps75
  go_wp2
  go_loop [1, 5] (fun kk i => ∃ m : Nat, m ≤ n ∧ i = .int .i64 m ∧ kk = .int .i64 (k0 + 2 * m)) (fun kk i => n - (intOf i).toNat)
  case atStart => exact ⟨0, by omega, rfl, by simp⟩
  case round =>
    obtain ⟨m, hm, rfl, rfl⟩ := hrel
    by_cases hlt : m < n
    · obtain rfl := hA (by omega)
      obtain ⟨⟨c0, c1⟩, f0, f1⟩ := atCell ho hlt
      have e0 : mkK .i8 k0 (2 * m) = IntKind.i8.wrap (k0 + 2 * ↑m) := by show IntKind.i8.wrap _ = _; exact congrArg _ (by omega)
      have e1 : mkK .i8 k0 (2 * m + 1) = IntKind.i8.wrap (k0 + 2 * ↑m + 1) := by show IntKind.i8.wrap _ = _; exact congrArg _ (by omega)
      rw [e0] at c0
      rw [e1] at c1
      clear e0 e1 hA
      go_wp2
      refine ⟨⟨m + 1, by omega, by go_num, ?_⟩, by simp [intOf]; omega⟩
      congr 1; omega
    · obtain rfl : m = n := by omega
      go_wp2
      go_ret
      exact ⟨rfl, rfl⟩
end Go.Proofs.Ytkggimalkjjnoaa
