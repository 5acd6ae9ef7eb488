/-
  Duties: contracts of masters, with, together, and how lists of duties and crews read. Conditions stand at each.
-/
import Derived.Test.YtfpoikeibjojgaaDoorRows
import Derived.Test.YtfpoikeibjojgaaDoorWith
import Derived.Test.YtfpoikeibjojgaaDoorGangM
import Derived.Test.YtfpoikeibjojgaaDoorRet
import Derived.Deep.AppendLies
import Derived.Laws.OwnMore
namespace Go.Proofs.YtfpoikeibjojgaaDoor
open Go Go.ChangeShapes Go.WideShapes Go.ChangeAt Go.RowKit
set_option linter.unusedVariables false
set_option linter.unusedSimpArgs false
set_option maxRecDepth 100000
set_option maxHeartbeats 4000000
theorem masters_any (a b c d : Int) (r : Bool) (w : World) (hr : r = true ↔ c ≤ a) :
    Calls Tryd.prog 71 #[.agg #[.int .i64 a, .int .i64 b], .agg #[.int .i64 c, .int .i64 d]] w (BPost r w) := by
  have B := al (al (Below.refl w.heap.size w) (.cells #[.int .i64 a, .int .i64 b] 107)) (.cells #[.int .i64 c, .int .i64 d] 107)
  by_cases h : c ≤ a
  · obtain rfl : r = true := hr.2 h
    have d1 : decide (c ≤ a) = true := by simpa using h
    clear hr h
    go_enter Tryd.func71, Tryd.ntmps71
    go_wp2
    go_ret
    exact ⟨B, by first | rfl | (show Ending.returned (Value.bool (decide (c ≤ a))) = _; rw [d1])⟩
  · obtain rfl : r = false := Bool.eq_false_iff.2 fun hh => h (hr.1 hh)
    have d1 : decide (c ≤ a) = false := by simpa using h
    clear hr h
    go_enter Tryd.func71, Tryd.ntmps71
    go_wp2
    go_ret
    exact ⟨B, by first | rfl | (show Ending.returned (Value.bool (decide (c ≤ a))) = _; rw [d1])⟩
theorem with_any (a b c d M : Int) (w : World) (hM : max a c = M) (hb : -1000000 ≤ b ∧ b ≤ 1000000) (hd : -1000000 ≤ d ∧ d ≤ 1000000) :
    Calls Tryd.prog 101 #[.agg #[.int .i64 a, .int .i64 b], .agg #[.int .i64 c, .int .i64 d]] w fun e w' => Below w.heap.size w w' ∧ e = .returned (.agg #[.int .i64 M, .int .i64 (b + d)]) := by
  have e1 : IntKind.i64.wrap (b + d) = b + d := IntWalk.i64_in _ (by omega)
  by_cases h : a < c
  · obtain rfl : M = c := by omega
    go_enter Tryd.func101, Tryd.ntmps101
    go_wp2
    refine bodyPost_ret (v := .agg #[.int .i64 M, .int .i64 (b + d)]) (by simp [results, Tryd.results101, go_sem]) rfl ⟨?_, rfl⟩
    (repeat (first | exact Below.refl _ _ | apply Below.drew | refine Below.setCell ?_ (by first | (simp; done) | (simp; omega)) _ | refine Below.alloc ?_ (by first | (simp; done) | (simp; omega)) _))
  · have h' : c ≤ a := by omega
    obtain rfl : M = a := by omega
    go_enter Tryd.func101, Tryd.ntmps101
    go_wp2
    refine bodyPost_ret (v := .agg #[.int .i64 M, .int .i64 (b + d)]) (by simp [results, Tryd.results101, go_sem]) rfl ⟨?_, rfl⟩
    (repeat (first | exact Below.refl _ _ | apply Below.drew | refine Below.setCell ?_ (by first | (simp; done) | (simp; omega)) _ | refine Below.alloc ?_ (by first | (simp; done) | (simp; omega)) _))
/-- n duties from somewhere. -/
def RdU (w : World) (B : Nat) (A : Option Addr) (n : Nat) (x y : Nat → Int) : Prop :=
  0 < n → ∃ b off, A = some ⟨b, off, none⟩ ∧ b < B ∧ ∀ j, j < n → w.cell? ⟨b, off + j * 2, none⟩ = some (.int .i64 (x j)) ∧ w.cell? ⟨b, off + j * 2 + 1, none⟩ = some (.int .i64 (y j))
theorem RdU.below {w w' : World} {B n : Nat} {A : Option Addr} {x y : Nat → Int} (h : RdU w B A n x y) (hb : Below B w w') : RdU w' B A n x y := fun h0 => by
  obtain ⟨b, off, e, hl, hc⟩ := h h0
  exact ⟨b, off, e, hl, fun j hj => ⟨(hb.cell (p := ⟨b, off + j * 2, none⟩) hl).trans (hc j hj).1, (hb.cell (p := ⟨b, off + j * 2 + 1, none⟩) hl).trans (hc j hj).2⟩⟩
theorem RdU.at {w : World} {B n k : Nat} {A : Option Addr} {x y : Nat → Int} (h : RdU w B A n x y) (hk : k < n) : ∃ b off, A = some ⟨b, off, none⟩ ∧ b < B ∧ w.cell? ⟨b, off + k * 2, none⟩ = some (.int .i64 (x k)) ∧ w.cell? ⟨b, off + k * 2 + 1, none⟩ = some (.int .i64 (y k)) := by
  obtain ⟨b, off, e, hl, hc⟩ := h (by omega)
  exact ⟨b, off, e, hl, hc k hk⟩
/-- the greatest skill, and all work. -/
def maxK (x : Nat → Int) : Nat → Int
  | 0 => 0
  | k + 1 => max (maxK x k) (x k)
def sumN (y : Nat → Int) : Nat → Int
  | 0 => 0
  | k + 1 => sumN y k + y k
theorem sumN_bd {y : Nat → Int} {n : Nat} (h : ∀ j, j < n → 0 ≤ y j ∧ y j ≤ 2000) : ∀ k, k ≤ n → 0 ≤ sumN y k ∧ sumN y k ≤ 2000 * k
  | 0, _ => by simp only [sumN]; omega
  | k + 1, hk => by
    have h1 := sumN_bd h k (by omega)
    have h2 := h k (by omega)
    simp only [sumN]
    omega
theorem together_any (A : Option Addr) (n cap : Nat) (x y : Nat → Int) (w : World) (hn : n ≤ 6) (hr : RdU w w.heap.size A n x y) (hy : ∀ j, j < n → 0 ≤ y j ∧ y j ≤ 2000) :
    Calls Tryd.prog 72 #[.slice A n cap] w fun e w' => Below w.heap.size w w' ∧ e = .returned (.agg #[.int .i64 (maxK x n), .int .i64 (sumN y n)]) := by
  have HR := Lib.hid hr
  have HY := Lib.hid hy
  have X2 := (Bx.new w #[.int .i64 0, .int .i64 0] 107).alloc (.cells #[.int .i64 0, .int .i64 0] 107)
  have X3 : Bx ((w.alloc (.cells #[.int .i64 0, .int .i64 0] 107)).alloc (.cells #[.int .i64 0, .int .i64 0] 107)) (w.heap.size + 1) #[.int .i64 (maxK x 0), .int .i64 (sumN y 0)] 107 := by
    have := Bx.new (w.alloc (.cells #[.int .i64 0, .int .i64 0] 107)) #[.int .i64 0, .int .i64 0] 107
    rwa [World.size_alloc] at this
  have B := al (al (Below.refl w.heap.size w) (.cells #[.int .i64 0, .int .i64 0] 107)) (.cells #[.int .i64 0, .int .i64 0] 107)
  clear hr hy
  go_enter Tryd.func72, Tryd.ntmps72
  go_wp2
  obtain ⟨W0, hW0⟩ : ∃ W0 : World, W0 = (w.alloc (.cells #[.int .i64 0, .int .i64 0] 107)).alloc (.cells #[.int .i64 0, .int .i64 0] 107) := ⟨_, rfl⟩
  rw [← hW0] at X2 X3 B ⊢
  clear hW0
  obtain ⟨b2, h2⟩ : ∃ b2, b2 = w.heap.size := ⟨_, rfl⟩
  have hb2 : w.heap.size ≤ b2 := by omega
  have hb3 : w.heap.size ≤ b2 + 1 := by omega
  rw [← h2] at X2 X3 ⊢
  clear h2
  go_loopw [5, 8] (fun t5 t8 wr => ∃ k : Nat, k ≤ n ∧ t8 = .int .i64 k ∧ Below w.heap.size w wr ∧ Bx wr b2 #[.int .i64 0, .int .i64 0] 107 ∧ Bx wr (b2 + 1) #[.int .i64 (maxK x k), .int .i64 (sumN y k)] 107) (fun t5 t8 wr => n - (intOf t8).toNat)
  case atStart => exact ⟨0, by omega, rfl, B, X2, X3⟩
  case round =>
    clear B X2 X3
    obtain ⟨k, hk, rfl, B, X2, X3⟩ := hrel
    by_cases hlt : k < n
    · have hki : (k : Int) < (n : Int) := by omega
      obtain ⟨b, off, rfl, hbl, c0, c1⟩ := (HR.out.below B).at hlt
      have hsb := sumN_bd HY.out k hk
      have hyk := HY.out k hlt
      have HW := Lib.hid (fun W => with_any (maxK x k) (sumN y k) (x k) (y k) (maxK x (k + 1)) W rfl (by omega) (by omega))
      have l2 : b2 < wr.heap.size := X2.lt
      have l3 : b2 + 1 < wr.heap.size := X3.lt
      have d0 := X3.cell 0
      have d1 := X3.cell 1
      simp only [List.getElem?_toArray, List.getElem?_cons_zero, List.getElem?_cons_succ] at d0 d1
      go_wp2_with fail
      refine (HW.out _).mono ?_
      rintro e w1 ⟨hb, rfl⟩
      have Y2 := (X2.alloc (.cells #[.int .i64 (x k), .int .i64 (y k)] 107)).below hb
      have Y3 := (X3.alloc (.cells #[.int .i64 (x k), .int .i64 (y k)] 107)).below hb
      replace B := nxt (al B (.cells #[.int .i64 (x k), .int .i64 (y k)] 107)) hb
      clear hb X2 X3 c0 c1 d0 d1 l2 l3
      have d0 := Y3.cell 0
      have d1 := Y3.cell 1
      simp only [List.getElem?_toArray, List.getElem?_cons_zero, List.getElem?_cons_succ] at d0 d1
      have z0 := Y3.frozen 0
      have z1 := Y3.frozen 1
      go_wp2
      exact ⟨⟨k + 1, by omega, by first | go_num | simp, (B.setCell (p := ⟨b2 + 1, 0, none⟩) hb3 _).setCell (p := ⟨b2 + 1, 1, none⟩) hb3 _, (Y2.other _ (by omega)).other _ (by omega), (Y3.set 0 _).set 1 _⟩, by simp [intOf]; omega⟩
    · obtain rfl : k = n := by omega
      have hki : ¬ ((k : Int) < (k : Int)) := by omega
      have d0 := X3.cell 0
      have d1 := X3.cell 1
      have x0 := X2.cell 0
      have x1 := X2.cell 1
      simp only [List.getElem?_toArray, List.getElem?_cons_zero, List.getElem?_cons_succ] at d0 d1 x0 x1
      have z0 := X2.frozen 0
      have z1 := X2.frozen 1
      have Y := (X2.set 0 (.int .i64 (maxK x k))).set 1 (.int .i64 (sumN y k))
      have y0 := Y.cell 0
      have y1 := Y.cell 1
      simp only [List.setIfInBounds_toArray, List.set_cons_zero, List.set_cons_succ, List.getElem?_toArray, List.getElem?_cons_zero, List.getElem?_cons_succ] at y0 y1
      have B' := (B.setCell (p := ⟨b2, 0, none⟩) hb2 (.int .i64 (maxK x k))).setCell (p := ⟨b2, 1, none⟩) hb2 (.int .i64 (sumN y k))
      clear X2 X3 Y B
      go_wp2
      refine bodyPost_ret (v := .agg #[.int .i64 (maxK x k), .int .i64 (sumN y k)]) (by simp [results, Tryd.results72, go_sem, y0, y1]) rfl ⟨B', rfl⟩
end Go.Proofs.YtfpoikeibjojgaaDoor
