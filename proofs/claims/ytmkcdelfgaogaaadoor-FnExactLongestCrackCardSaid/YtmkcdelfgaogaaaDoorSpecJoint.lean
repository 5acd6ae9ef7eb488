/-
  The contract of spec.l01Joint. Conditions stand at each.
-/
import Derived.Test.YtmkcdelfgaogaaaDoorRows
import Derived.Test.YtmkcdelfgaogaaaDoorRun
import Derived.Test.YtmkcdelfgaogaaaDoorLay
import Derived.Deep.QuietTactic
import Derived.BigQuiet
namespace Go.Proofs.YtmkcdelfgaogaaaDoor
open Go Go.ChangeShapes Go.WideShapes Go.ChangeAt Go.RowKit
set_option linter.unusedVariables false
set_option linter.unusedSimpArgs false
set_option maxRecDepth 100000
set_option maxHeartbeats 2000000

theorem less_yes (x : Int) (w : World) : Calls Tryd.prog 83 #[.int .i8 x, .bool true] w fun e w' => e = .returned (.int .i8 x) ∧ w' = w := by
  go_enter Tryd.func83, Tryd.ntmps83
  go_wp2
  go_ret
  exact ⟨rfl, rfl⟩
theorem less_no (x : Int) (w : World) (h : 0 ≤ x) (h2 : x ≤ 12) : Calls Tryd.prog 83 #[.int .i8 x, .bool false] w fun e w' => e = .returned (.int .i8 (x - 1)) ∧ w' = w := by
  go_enter Tryd.func83, Tryd.ntmps83
  go_wp2
  go_ret
  exact ⟨rfl, rfl⟩

theorem less_no1 (m : Nat) (w : World) (h : m + 1 < 12) : Calls Tryd.prog 83 #[.int .i8 ((m : Int) + 1), .bool false] w fun e w' => e = .returned (.int .i8 (m : Int)) ∧ w' = w := by
  have hi : (m : Int) + 1 < 12 := by omega
  have e : (m : Int) + 1 - 1 = (m : Int) := by omega
  refine (less_no ((m : Int) + 1) w (by omega) (by omega)).mono ?_
  rintro r w' ⟨h1, h2⟩
  rw [e] at h1
  exact ⟨h1, h2⟩

theorem sj_out1 (b x y : Nat) (a : Bool) (w : World) (hx : 12 ≤ x) (hx2 : x ≤ 12) (hy : y ≤ 12) :
    Calls Tryd.prog 61 #[.pointer (some ⟨b, 0, none⟩), .int .i8 (x : Int), .int .i8 (y : Int), .bool a] w fun e w' => e = .returned (.bool false) ∧ w' = w := by
  have d1 : decide ((12 : Int) ≤ (x : Int)) = true := by simp; omega
  go_enter Tryd.func61, Tryd.ntmps61
  go_wp2
  go_ret
  exact ⟨rfl, rfl⟩
theorem sj_out2 (b x y : Nat) (a : Bool) (w : World) (hx : x < 12) (hy : 12 ≤ y) (hy2 : y ≤ 12) :
    Calls Tryd.prog 61 #[.pointer (some ⟨b, 0, none⟩), .int .i8 (x : Int), .int .i8 (y : Int), .bool a] w fun e w' => e = .returned (.bool false) ∧ w' = w := by
  have d1 : decide ((12 : Int) ≤ (x : Int)) = false := by simp; omega
  have d2 : decide ((12 : Int) ≤ (y : Int)) = true := by simp; omega
  go_enter Tryd.func61, Tryd.ntmps61
  go_wp2
  go_ret
  exact ⟨rfl, rfl⟩
theorem sj_top (b x : Nat) (w : World) (hx : x < 12) :
    Calls Tryd.prog 61 #[.pointer (some ⟨b, 0, none⟩), .int .i8 (x : Int), .int .i8 0, .bool true] w fun e w' => e = .returned (.bool false) ∧ w' = w := by
  have d1 : decide ((12 : Int) ≤ (x : Int)) = false := by simp; omega
  go_enter Tryd.func61, Tryd.ntmps61
  go_wp2
  go_ret
  exact ⟨rfl, rfl⟩
theorem sj_left (b y : Nat) (w : World) (hy : y < 12) :
    Calls Tryd.prog 61 #[.pointer (some ⟨b, 0, none⟩), .int .i8 0, .int .i8 (y : Int), .bool false] w fun e w' => e = .returned (.bool false) ∧ w' = w := by
  have d1 : decide ((12 : Int) ≤ (y : Int)) = false := by simp; omega
  go_enter Tryd.func61, Tryd.ntmps61
  go_wp2
  go_ret
  exact ⟨rfl, rfl⟩

theorem jb_ways (a b : Int) : ((b != 0) = false ∧ jb a b = false) ∨ ((b != 0) = true ∧ (a != 0) = false ∧ jb a b = false) ∨ ((b != 0) = true ∧ (a != 0) = true ∧ (b != a) = false ∧ jb a b = false) ∨ ((b != 0) = true ∧ (a != 0) = true ∧ (b != a) = true ∧ jb a b = true) := by
  have e : (a != b) = (b != a) := by
    rw [Bool.eq_iff_iff]; simp; exact ⟨fun h e => h e.symm, fun h e => h e.symm⟩
  unfold jb
  rw [e]
  cases hb : (b != 0) <;> cases ha : (a != 0) <;> cases hab : (b != a) <;> simp

theorem sj_across (b x m : Nat) (G : Nat → Int) (w : World) (hx : x < 12) (hy : m + 1 < 12) (hG : w.rowIs b 64 144 (fun p => .int .i64 (G p))) :
    Calls Tryd.prog 61 #[.pointer (some ⟨b, 0, none⟩), .int .i8 (x : Int), .int .i8 ((m : Int) + 1), .bool true] w fun e w' => e = .returned (.bool (jb (G (m * 12 + x)) (G ((m + 1) * 12 + x)))) ∧ Below w.heap.size w w' := by
  have d1 : decide ((12 : Int) ≤ (x : Int)) = false := by simp; omega
  have d2 : decide ((12 : Int) ≤ (m : Int) + 1) = false := by simp; omega
  have d3 : decide ((x : Int) < 0) = false := by simp
  have d4 : decide ((m : Int) + 1 < 0) = false := by simp; omega
  have d5 : ((m : Int) + 1 == 0) = false := by simp; omega
  have t1 : ((m : Int) + 1).toNat = m + 1 := by omega
  have hlm : (m : Int) + 1 < 12 := by omega
  have hlx : (x : Int) < 12 := by omega
  have c1 := hG.cell (i := (m + 1) * 12 + x) (by omega)
  have c2 := hG.cell (i := m * 12 + x) (by omega)
  obtain ⟨n1, hn1⟩ : ∃ n1, n1 = G (m * 12 + x) := ⟨_, rfl⟩
  obtain ⟨n2, hn2⟩ : ∃ n2, n2 = G ((m + 1) * 12 + x) := ⟨_, rfl⟩
  rw [← hn2] at c1
  rw [← hn1] at c2
  rw [← hn1, ← hn2]
  clear hn1 hn2
  rcases jb_ways n1 n2 with ⟨b1, ej⟩ | ⟨b1, b2, ej⟩ | ⟨b1, b2, b3, ej⟩ | ⟨b1, b2, b3, ej⟩
  all_goals
    rw [ej]
    clear ej
    go_enter Tryd.func61, Tryd.ntmps61
    go_wp2_with fail
    go_quiet ((go_at_call 83; exact Calls.quiet_of_same (less_yes _ _)))
    go_wp2
    go_ret
    exact ⟨rfl, below_drewN' (Below.refl _ _) _⟩

theorem sj_down (b y m : Nat) (G : Nat → Int) (w : World) (hx : m + 1 < 12) (hy : y < 12) (hG : w.rowIs b 64 144 (fun p => .int .i64 (G p))) :
    Calls Tryd.prog 61 #[.pointer (some ⟨b, 0, none⟩), .int .i8 ((m : Int) + 1), .int .i8 (y : Int), .bool false] w fun e w' => e = .returned (.bool (jb (G (y * 12 + m)) (G (y * 12 + (m + 1))))) ∧ Below w.heap.size w w' := by
  have d1 : decide ((12 : Int) ≤ (y : Int)) = false := by simp; omega
  have d2 : decide ((12 : Int) ≤ (m : Int) + 1) = false := by simp; omega
  have d3 : decide ((y : Int) < 0) = false := by simp
  have d4 : decide ((m : Int) + 1 < 0) = false := by simp; omega
  have d5 : ((m : Int) + 1 == 0) = false := by simp; omega
  have t1 : ((m : Int) + 1).toNat = m + 1 := by omega
  have hlm : (m : Int) + 1 < 12 := by omega
  have hlx : (y : Int) < 12 := by omega
  have c1 := hG.cell (i := y * 12 + (m + 1)) (by omega)
  have c2 := hG.cell (i := y * 12 + m) (by omega)
  obtain ⟨n1, hn1⟩ : ∃ n1, n1 = G (y * 12 + m) := ⟨_, rfl⟩
  obtain ⟨n2, hn2⟩ : ∃ n2, n2 = G (y * 12 + (m + 1)) := ⟨_, rfl⟩
  rw [← hn2] at c1
  rw [← hn1] at c2
  rw [← hn1, ← hn2]
  clear hn1 hn2
  rcases jb_ways n1 n2 with ⟨b1, ej⟩ | ⟨b1, b2, ej⟩ | ⟨b1, b2, b3, ej⟩ | ⟨b1, b2, b3, ej⟩
  all_goals
    rw [ej]
    clear ej
    go_enter Tryd.func61, Tryd.ntmps61
    go_wp2_with fail
    go_quiet ((go_at_call 83; exact Calls.quiet_of_same (less_no1 m _ (by omega))))
    go_wp2
    go_ret
    exact ⟨rfl, below_drewN' (Below.refl _ _) _⟩
end Go.Proofs.YtmkcdelfgaogaaaDoor
