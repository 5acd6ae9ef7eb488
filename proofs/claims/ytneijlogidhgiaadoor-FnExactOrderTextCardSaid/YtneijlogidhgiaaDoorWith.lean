/-
  Numbers that lie within: the contract of impl.areWithin. Conditions stand at each.
-/
import Derived.Test.YtneijlogidhgiaaDoorRows
import Derived.Test.YtneijlogidhgiaaDoorNums
import Derived.Test.YtneijlogidhgiaaDoorIn
import Derived.Test.YtneijlogidhgiaaDoorRet
import Derived.Test.YtneijlogidhgiaaDoorResInt64
namespace Go.Proofs.YtneijlogidhgiaaDoor
open Go Go.ChangeShapes Go.WideShapes Go.ChangeAt Go.RowKit
set_option linter.unusedVariables false
set_option linter.unusedSimpArgs false
set_option maxRecDepth 100000
set_option maxHeartbeats 4000000

/-- do m numbers lie from lo to hi? -/
def allIn (d : Nat → Int) (m : Nat) (lo hi : Int) : Prop := ∀ j, j < m → lo ≤ d j ∧ d j ≤ hi
theorem allIn.step {d : Nat → Int} {k : Nat} {lo hi : Int} (h : allIn d k lo hi) (h1 : lo ≤ d k ∧ d k ≤ hi) : allIn d (k + 1) lo hi := fun j hj => by
  by_cases e : j = k
  · subst e; exact h1
  · exact h j (by omega)
def BPost (r : Bool) (w : World) (e : Ending) (w' : World) : Prop := Below w.heap.size w w' ∧ e = .returned (.bool r)
theorem dec_ex (p : Prop) : ∃ r : Bool, r = true ↔ p := by
  by_cases h : p
  · exact ⟨true, by simp [h]⟩
  · exact ⟨false, by simp [h]⟩

theorem within_any (lo hi : Int) (A : Option Addr) (m cap : Nat) (d : Nat → Int) (r : Bool) (w : World) (hmm : m ≤ 1048576) (hr : RdK .i64 w w.heap.size A m d) (hrr : r = true ↔ allIn d m lo hi) :
    Calls Tryd.prog 46 #[.int .i64 lo, .int .i64 hi, .slice A m cap] w (BPost r w) := by
  have HR := Lib.hid hr
  have HRR := Lib.hid hrr
  clear hr hrr
  go_enter Tryd.func46, Tryd.ntmps46
  go_wp2
  go_loopw [8, 11] (fun t8 ti wr => ∃ k : Nat, k ≤ m ∧ ti = .int .i64 k ∧ Below w.heap.size w wr ∧ allIn d k lo hi) (fun t8 ti wr => m - (intOf ti).toNat)
  case atStart => exact ⟨0, by omega, rfl, Below.refl _ _, fun j hj => by omega⟩
  case round =>
    obtain ⟨k, hk, rfl, hb, hall⟩ := hrel
    have HA := Lib.hid hall
    clear hall
    by_cases hlt : k < m
    · have hki : (k : Int) < (m : Int) := by omega
      obtain ⟨b, off, rfl, hbl, c0⟩ := rdInt64 (HR.out.below hb) hlt
      by_cases h1 : d k < lo
      · have hf : r = false := Bool.eq_false_iff.2 fun h => by have := HRR.out.1 h k hlt; omega
        subst hf
        go_wp2
        go_ret
        exact ⟨hb, rfl⟩
      · by_cases h2 : hi < d k
        · have hf : r = false := Bool.eq_false_iff.2 fun h => by have := HRR.out.1 h k hlt; omega
          subst hf
          go_wp2
          go_ret
          exact ⟨hb, rfl⟩
        · have HI : Hid (lo ≤ d k ∧ d k ≤ hi) := Lib.hid ⟨by omega, by omega⟩
          go_wp2
          exact ⟨⟨k + 1, by omega, by first | go_num | simp, hb, HA.out.step HI.out⟩, by simp [intOf]; omega⟩
    · obtain rfl : k = m := by omega
      have hki : ¬ ((k : Int) < (k : Int)) := by omega
      have ht : r = true := HRR.out.2 HA.out
      subst ht
      go_wp2
      go_ret
      exact ⟨hb, rfl⟩

theorem within1 (v lo hi : Int) (r : Bool) (W : World) (hr : r = true ↔ lo ≤ v ∧ v ≤ hi) :
    Calls Tryd.prog 46 #[.int .i64 lo, .int .i64 hi, .slice (some ⟨W.heap.size, 0, none⟩) 1 1] (W.alloc (.cells #[.int .i64 v] 2)) fun e w' => e = .returned (.bool r) ∧ Below W.heap.size W w' := by
  have B := al (Below.refl W.heap.size W) (.cells #[.int .i64 v] 2)
  refine (within_any lo hi _ 1 1 (fun _ => v) r _ (by omega) ?_ ?_).mono ?_
  · intro _
    refine ⟨W.heap.size, 0, rfl, by simp, fun j hj => ?_⟩
    obtain rfl : j = 0 := by omega
    exact (Bx.new W #[.int .i64 v] 2).cell 0
  · rw [hr]
    exact ⟨fun h j hj => h, fun h => h 0 (by omega)⟩
  · rintro e w' ⟨hb, rfl⟩
    exact ⟨rfl, nxt B hb⟩
theorem within1b (v lo hi : Int) (r : Bool) (W : World) (b : Nat) (hb : b = W.heap.size) (hr : r = true ↔ lo ≤ v ∧ v ≤ hi) :
    Calls Tryd.prog 46 #[.int .i64 lo, .int .i64 hi, .slice (some ⟨b, 0, none⟩) 1 1] (W.alloc (.cells #[.int .i64 v] 2)) fun e w' => e = .returned (.bool r) ∧ Below W.heap.size W w' := by
  subst hb
  exact within1 v lo hi r W hr
end Go.Proofs.YtneijlogidhgiaaDoor
