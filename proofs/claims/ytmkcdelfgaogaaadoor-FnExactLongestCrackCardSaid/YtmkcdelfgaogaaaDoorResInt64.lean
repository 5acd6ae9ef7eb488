/-
  Contracts of the law's helpers over slices of Int64 (eq, mark, held). Conditions stand at each.
-/
import Derived.Test.YtmkcdelfgaogaaaDoorRows
import Derived.Test.YtmkcdelfgaogaaaDoorRes
namespace Go.Proofs.YtmkcdelfgaogaaaDoor
open Go Go.ChangeShapes Go.WideShapes Go.ChangeAt Go.RowKit
set_option linter.unusedVariables false
set_option linter.unusedSimpArgs false
set_option maxRecDepth 100000
set_option maxHeartbeats 2000000

theorem atInt64 {w : World} {g off n k : Nat} {f : Nat → Int} (h : OwnK .i64 w g off (n) f) (hk : k < n) : (w.cell? ⟨g, off + k, none⟩ = some (.int .i64 (f (k)))) ∧ (w.frozen? ⟨g, off + k, none⟩ = false) := by
  have h0 := h (k) (by omega)
  exact ⟨h0.1, h0.2⟩

theorem rdInt64 {w : World} {B n k : Nat} {A : Option Addr} {f : Nat → Int} (h : RdK .i64 w B A (n) f) (hk : k < n) : ∃ g off, A = some ⟨g, off, none⟩ ∧ g < B ∧ w.cell? ⟨g, off + k, none⟩ = some (.int .i64 (f (k))) := by
  obtain ⟨g, off, e, hl, hc⟩ := h (by omega)
  have h0 := hc (k) (by omega)
  exact ⟨g, off, e, hl, h0⟩

theorem eqInt64S_any (A B : Option Addr) (n m ca cb N : Nat) (c d : Nat → Int) (w : World) (hn : n ≤ 1048576) (hm : m ≤ 1048576) (hN : N ≤ w.heap.size) (hr : RdK .i64 w N A (n) c) (hs : RdK .i64 w N B (m) d) (heq : n = m ∧ ∀ j, j < n → c j = d j) :
    Calls Tryd.prog 18 #[.slice A n ca, .slice B m cb] w fun e w' => e = .returned (.bool true) ∧ Below w.heap.size w w' := by
  obtain ⟨rfl, hcd⟩ := heq
  have HC := Lib.hid hcd
  have HR := Lib.hid hr
  have HS := Lib.hid hs
  clear hcd hr hs
  have hnn : ((n : Int) == (n : Int)) = true := by simp
  have hnb : ((n : Int) != (n : Int)) = false := by simp
  go_enter Tryd.func18, Tryd.ntmps18
  go_wp2
  go_loopw [5] (fun i wr => ∃ k : Nat, k ≤ n ∧ i = .int .i64 k ∧ Below w.heap.size w wr) (fun i wr => n - (intOf i).toNat)
  case atStart => exact ⟨0, by omega, rfl, Below.refl _ _⟩
  case round =>
    obtain ⟨k, hk, rfl, hb⟩ := hrel
    by_cases hlt : k < n
    · obtain ⟨b, off, rfl, hbl, c0⟩ := rdInt64 (HR.out.below (hb.mono hN)) hlt
      obtain ⟨b', off', rfl, hbl', d0⟩ := rdInt64 (HS.out.below (hb.mono hN)) hlt
      rw [← HC.out _ (by omega)] at d0
      have hcc : (c k != c k) = false := by simp
      go_wp2
      first
        | exact ⟨⟨k + 1, by omega, by first | go_num | simp, hb⟩, by simp [intOf]; omega⟩
        | (go_quiet (fail)
           go_wp2
           exact ⟨⟨k + 1, by omega, by first | go_num | simp, below_drewN' hb _⟩, by simp [intOf]; omega⟩)
    · obtain rfl : k = n := by omega
      go_wp2
      go_ret
      exact ⟨rfl, hb⟩

theorem setInt64 {w : World} {g off n k : Nat} {f : Nat → Int} (h : OwnK .i64 w g off (n) f) (hk : k < n) (v0 : Int) :
    OwnK .i64 (w.setCell ⟨g, off + k, none⟩ (.int .i64 v0)) g off (n) (fun j => if j = k then v0 else f j) :=
  (h.set (i := k) (by omega) v0)

theorem markInt64S_any (A : Option Addr) (g off n cap : Nat) (c : Nat → Int) (k0 : Int) (w : World) (hk0 : 0 ≤ k0) (hk1 : k0 ≤ 1000000000) (hn : n ≤ 1048576) (hA : 0 < n → A = some ⟨g, off, none⟩) (ho : OwnK .i64 w g off (n) c) :
    Calls Tryd.prog 20 #[.slice A n cap, .int .i64 k0] w fun e w' => e = .returned (.int .i64 (k0 + n)) ∧ w.grownBy w' (rowOf n g) ∧ OwnK .i64 w' g off (n) (mkK .i64 k0) := by
  go_enter Tryd.func20, Tryd.ntmps20
  go_wp2
  go_loopw [1, 5] (fun kk i wr => ∃ m : Nat, m ≤ n ∧ i = .int .i64 m ∧ kk = .int .i64 (k0 + m) ∧ w.grownBy wr (rowOf n g) ∧ OwnK .i64 wr g off (n) (fun j => if j < m then mkK .i64 k0 j else c j)) (fun kk i wr => n - (intOf i).toNat)
  case atStart => exact ⟨0, by omega, rfl, by simp, World.grownBy.refl _ _, ho.congr (fun j _ => by simp)⟩
  case round =>
    obtain ⟨m, hm, rfl, rfl, hgr, hr⟩ := hrel
    by_cases hlt : m < n
    · obtain rfl := hA (by omega)
      rw [rowOf_pos (show 0 < n by omega)] at *
      obtain ⟨c0, f0⟩ := atInt64 hr hlt
      go_wp2
      refine ⟨⟨m + 1, by omega, by go_num, ?_, (grown_set hgr _ _), (setInt64 hr hlt _).congr fun j hj => ?_⟩, by simp [intOf]; omega⟩
      · congr 1; omega
      · skip
        by_cases h0 : j = m
        · rw [if_pos h0, if_pos (by omega)]; show _ = IntKind.i64.wrap _; rw [IntWalk.i64_in _ (by omega)]; omega
        rw [if_neg h0]
        by_cases hj : j < m
        · rw [if_pos hj, if_pos (by omega)]
        · rw [if_neg hj, if_neg (by omega)]
    · obtain rfl : m = n := by omega
      go_wp2
      go_ret
      exact ⟨rfl, hgr, hr.congr (fun j hj => by rw [if_pos hj])⟩

theorem heldInt64S_any (A : Option Addr) (g off n cap : Nat) (k0 : Int) (w : World) (hk0 : 0 ≤ k0) (hk1 : k0 ≤ 1000000000) (hn : n ≤ 1048576) (hA : 0 < n → A = some ⟨g, off, none⟩) (ho : OwnK .i64 w g off (n) (mkK .i64 k0)) :
    Calls Tryd.prog 21 #[.slice A n cap, .int .i64 k0] w fun e w' => e = .returned (.int .i64 (k0 + n)) ∧ w' = w := by
  go_enter Tryd.func21, Tryd.ntmps21
  go_wp2
  go_loop [1, 5] (fun kk i => ∃ m : Nat, m ≤ n ∧ i = .int .i64 m ∧ kk = .int .i64 (k0 + m)) (fun kk i => n - (intOf i).toNat)
  case atStart => exact ⟨0, by omega, rfl, by simp⟩
  case round =>
    obtain ⟨m, hm, rfl, rfl⟩ := hrel
    by_cases hlt : m < n
    · obtain rfl := hA (by omega)
      obtain ⟨c0, f0⟩ := atInt64 ho hlt
      have e0 : mkK .i64 k0 (m) = k0 + ↑m := by show IntKind.i64.wrap _ = _; rw [IntWalk.i64_in _ (by omega)]
      rw [e0] at c0
      clear e0 hA
      go_wp2
      refine ⟨⟨m + 1, by omega, by go_num, ?_⟩, by simp [intOf]; omega⟩
      congr 1; omega
    · obtain rfl : m = n := by omega
      go_wp2
      go_ret
      exact ⟨rfl, rfl⟩
end Go.Proofs.YtmkcdelfgaogaaaDoor
