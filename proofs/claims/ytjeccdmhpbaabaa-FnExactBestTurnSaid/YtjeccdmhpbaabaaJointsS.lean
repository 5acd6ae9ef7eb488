/-
  The contract of spec.l03Joints. Conditions stand at each.
-/
import Derived.Test.YtjeccdmhpbaabaaRows
import Derived.Test.YtjeccdmhpbaabaaSeqK
namespace Go.Proofs.Ytjeccdmhpbaabaa
open Go Go.ChangeShapes Go.WideShapes Go.ChangeAt Go.RowKit
set_option linter.unusedVariables false
set_option linter.unusedSimpArgs false
set_option maxRecDepth 100000
set_option maxHeartbeats 2000000

theorem l03Joints_any (A : Option Addr) (n cap : Nat) (c : Nat → Int) (joint : Int) (w : World) (h1 : 1 ≤ n) (h60 : n ≤ 60) (hr : RdK .i64 w w.heap.size A n c) :
    Calls Try.prog 110 #[.slice A n cap, .int .i64 joint] w fun e w' => Below w.heap.size w w' ∧ ∃ v, e = .returned v ∧ OwnI w' w.heap.size v (jtL joint c (n - 1)) := by
  obtain ⟨i0, hi, hz0, hz1, hz2⟩ := info_parts infoI64
  have HR := Lib.hid hr
  clear hr
  go_enter Try.func110, Try.ntmps110
  go_wp2_with fail
  obtain ⟨W0, hW0⟩ : ∃ W0 : World, W0 = (w.alloc (.cells #[] 2)) := ⟨_, rfl⟩
  have B0 : Below w.heap.size w W0 := by rw [hW0]; exact al (Below.refl _ _) _
  have O0 : OwnI W0 w.heap.size (.slice (some ⟨w.heap.size, 0, none⟩) 0 0) [] := by rw [hW0]; exact OwnI.made w (Nat.le_refl _)
  rw [← hW0]
  clear hW0
  go_loopw [5, 6, 7] (fun t5 t6 t7 wr => ∃ m : Nat, m ≤ n - 1 ∧ t7 = .int .i64 m ∧ t6 = .int .i64 (jp joint c m) ∧ Below w.heap.size w wr ∧ OwnI wr w.heap.size t5 (jtL joint c m)) (fun t5 t6 t7 wr => n - (intOf t7).toNat)
  case atStart => exact ⟨0, by omega, rfl, rfl, B0, O0⟩
  case round =>
    clear B0 O0
    obtain ⟨m, hm, rfl, rfl, B, O⟩ := hrel
    obtain ⟨v0, rfl⟩ : ∃ v0 : Value, v0 = u5 := ⟨_, rfl⟩
    have s5 : IntKind.i64.wrap ((m : Int) + 1) = (m : Int) + 1 := IntWalk.i64_in _ (by omega)
    have HO := Lib.hid O
    have HB := Lib.hid B
    clear O B
    by_cases hlt : m < n - 1
    · have hlti : (m : Int) + 1 < (n : Int) := by omega
      obtain ⟨b, off, rfl, hbl, ck⟩ := rdInt64 (HR.out.below HB.out) (show m < n by omega)
      obtain ⟨x, hx⟩ : ∃ x, x = c m := ⟨_, rfl⟩
      obtain ⟨y, hy⟩ : ∃ y, y = jp joint c m := ⟨_, rfl⟩
      have ej : jt joint c m = wrap64 (y + x) := by rw [hx, hy]; rfl
      have ep : jp joint c (m + 1) = wrap64 (wrap64 (y + x) + joint) := by rw [hx, hy]; rfl
      have es := jtL_succ joint c m
      rw [ej] at es
      have HE := Lib.hid (And.intro ep es)
      rw [← hx] at ck
      rw [← hy]
      clear hx hy ej ep es
      have hmn : (m : Int) < (n : Int) := by omega
      go_wp2_with (at_builtin; refine wpList_append_own _ rfl _ _ 29 rfl w.heap.size 2 i0 (.int .i64 0) 1 8 Try.underlying29 hi hz0 hz1 hz2 rfl (by decide) _ _ _ rfl (World.ownsRow.alloc HO.out _) ⟨wr.heap.size, 0, none⟩ 1 1 [.int .i64 _] rfl rfl (ncells wr #[.int .i64 _] 2) one64 (by have := HB.out.size; have := jtL_length joint c m; unfold maxLen; omega) (by have := HB.out.size; have := jtL_length joint c m; omega) (by have := HB.out.size; have := jtL_length joint c m; simp; omega) ?_; intro v' w1 own' hgr _)
      have B1 : Below w.heap.size w w1 := (al HB.out _).grown hgr (al HB.out _).size (fun k e => (HO.out.lt k e).1)
      have O1 : OwnI w1 w.heap.size v' (jtL joint c (m + 1)) := by
        rw [HE.out.2]
        exact OwnI.snoc own'
      clear own' hgr
      exact ⟨⟨m + 1, by omega, by first | go_num | simp, by rw [HE.out.1], B1, O1⟩, by simp [intOf]; omega⟩
    · have hlti : ¬ (m : Int) + 1 < (n : Int) := by omega
      obtain rfl : m = n - 1 := by omega
      go_wp2_with fail
      go_ret
      exact ⟨HB.out, _, rfl, HO.out⟩
end Go.Proofs.Ytjeccdmhpbaabaa
