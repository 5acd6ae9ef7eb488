/-
  The contracts of spec.l03Ok and impl.ValidSetts: whether setts are valid. Conditions stand at each.
-/
import Derived.Test.YtneijlogidhgiaaDoorRows
import Derived.Test.YtneijlogidhgiaaDoorSetts
import Derived.Test.YtneijlogidhgiaaDoorIn
namespace Go.Proofs.YtneijlogidhgiaaDoor
open Go Go.ChangeShapes Go.WideShapes Go.ChangeAt Go.RowKit
set_option linter.unusedVariables false
set_option linter.unusedSimpArgs false
set_option maxRecDepth 100000
set_option maxHeartbeats 2000000

/-- sort j is fine. -/
def SAt (c d : Nat → Int) (j : Nat) : Prop := (1 ≤ c j ∧ c j ≤ 20) ∧ (0 ≤ d j ∧ d j ≤ 60) ∧ (0 < j → c (j - 1) < c j)
def SOk (n : Nat) (c d : Nat → Int) : Prop := (1 ≤ n ∧ n ≤ 6) ∧ ∀ j, j < n → SAt c d j
/-- what a test of setts answers. -/
def Sorts (n : Nat) (c d : Nat → Int) (w : World) (e : Ending) (w' : World) : Prop :=
  Below w.heap.size w w' ∧ ((SOk n c d ∧ e = .returned (.bool true)) ∨ (¬ SOk n c d ∧ e = .returned (.bool false)))

theorem l03Ok_any (A : Option Addr) (n cap : Nat) (c d : Nat → Int) (w : World) (hn : n ≤ 1048576) (hr : RdS w w.heap.size A n c d) (hc : ∀ j, -128 ≤ c j ∧ c j ≤ 127) (hd : ∀ j, -32768 ≤ d j ∧ d j ≤ 32767) :
    Calls Tryd.prog 20 #[.slice A n cap] w (Sorts n c d w) := by
  have HR := Lib.hid hr
  have HC := Lib.hid hc
  have HD := Lib.hid hd
  clear hr hc hd
  go_enter Tryd.func20, Tryd.ntmps20
  go_wp2
  go_loopw [3] (fun t3 wr => ∃ k : Nat, k ≤ n ∧ t3 = .int .i64 k ∧ Below w.heap.size w wr ∧ ∀ j, j < k → SAt c d j) (fun t3 wr => n - (intOf t3).toNat)
  case atStart => exact ⟨0, by omega, rfl, Below.refl _ _, fun j hj => by omega⟩
  case round =>
    obtain ⟨k, hk, rfl, hb, hall⟩ := hrel
    have HA := Lib.hid hall
    clear hall
    by_cases hlt : k < n
    · have hki : (k : Int) < (n : Int) := by omega
      obtain ⟨b, off, rfl, hbl, c0, c1⟩ := (HR.out.below hb).at hlt
      have bc := HC.out k
      have bd := HD.out k
      have bc' := HC.out (k - 1)
      have wc : IntKind.i64.wrap (c k) = c k := IntWalk.i64_in _ (by omega)
      have wd : IntKind.i64.wrap (d k) = d k := IntWalk.i64_in _ (by omega)
      go_wp2
      by_cases h1 : 1 ≤ c k ∧ c k ≤ 20
      · by_cases h2 : 0 ≤ d k ∧ d k ≤ 60
        · by_cases h0 : k = 0
          · have hk0 : decide (0 < k) = false := by simp; omega
            have H0 := Lib.hid h0
            clear h0
            go_quiet ((go_at_call 36; (first | exact Calls.quiet_of_same (in_yes _ _ _ _ (by omega) (by omega)) | exact Calls.quiet_of_same (in_no _ _ _ _ (by omega)))))
            go_wp2
            exact ⟨⟨k + 1, by omega, by first | go_num | simp, below_drewN' hb _, fun j hj => by
              by_cases e : j = k
              · subst e; exact ⟨h1, h2, fun h => by have := H0.out; omega⟩
              · exact HA.out j (by omega)⟩, by simp [intOf]; omega⟩
          · have hk0 : decide (0 < k) = true := by simp; omega
            obtain ⟨b', off', e', hbl', c0', c1'⟩ := (HR.out.below hb).at (show k - 1 < n by omega)
            injection e' with e'
            injection e' with eb eo _
            subst eb eo
            have hs1 : IntKind.i64.wrap ((k : Int) - 1) = (k : Int) - 1 := IntWalk.i64_in _ (by omega)
            have hs2 : 0 ≤ (k : Int) - 1 := by omega
            have hs3 : ((k : Int) - 1).toNat = k - 1 := by omega
            have hs4 : (k : Int) - 1 < (n : Int) := by omega
            by_cases h3 : c (k - 1) < c k
            · have h3' : decide (c k ≤ c (k - 1)) = false := by simp; omega
              go_quiet ((go_at_call 36; (first | exact Calls.quiet_of_same (in_yes _ _ _ _ (by omega) (by omega)) | exact Calls.quiet_of_same (in_no _ _ _ _ (by omega)))))
              go_wp2
              exact ⟨⟨k + 1, by omega, by first | go_num | simp, below_drewN' hb _, fun j hj => by
                by_cases e : j = k
                · subst e; exact ⟨h1, h2, fun _ => h3⟩
                · exact HA.out j (by omega)⟩, by simp [intOf]; omega⟩
            · have h3' : decide (c k ≤ c (k - 1)) = true := by simp; omega
              go_quiet ((go_at_call 36; (first | exact Calls.quiet_of_same (in_yes _ _ _ _ (by omega) (by omega)) | exact Calls.quiet_of_same (in_no _ _ _ _ (by omega)))))
              go_wp2
              go_ret
              exact ⟨below_drewN' hb _, .inr ⟨fun h => by have := (h.2 k hlt).2.2 (by omega); omega, rfl⟩⟩
        · go_quiet ((go_at_call 36; (first | exact Calls.quiet_of_same (in_yes _ _ _ _ (by omega) (by omega)) | exact Calls.quiet_of_same (in_no _ _ _ _ (by omega)))))
          go_wp2
          go_ret
          exact ⟨below_drewN' hb _, .inr ⟨fun h => h2 (h.2 k hlt).2.1, rfl⟩⟩
      · go_quiet ((go_at_call 36; (first | exact Calls.quiet_of_same (in_yes _ _ _ _ (by omega) (by omega)) | exact Calls.quiet_of_same (in_no _ _ _ _ (by omega)))))
        go_wp2
        go_ret
        exact ⟨below_drewN' hb _, .inr ⟨fun h => h1 (h.2 k hlt).1, rfl⟩⟩
    · obtain rfl : k = n := by omega
      have hki : ¬ ((k : Int) < (k : Int)) := by omega
      by_cases h1 : 1 ≤ k ∧ k ≤ 6
      · go_wp2_with (go_at_call 36; refine (in_yes _ _ _ _ (by omega) (by omega)).mono ?_; rintro e w1 ⟨rfl, rfl⟩)
        go_ret
        exact ⟨hb, .inl ⟨⟨h1, HA.out⟩, rfl⟩⟩
      · go_wp2_with (go_at_call 36; refine (in_no _ _ _ _ (by omega)).mono ?_; rintro e w1 ⟨rfl, rfl⟩)
        go_ret
        exact ⟨hb, .inr ⟨fun h => h1 h.1, rfl⟩⟩

theorem validSetts_any (A : Option Addr) (n cap : Nat) (c d : Nat → Int) (w : World) (hn : n ≤ 1048576) (hr : RdS w w.heap.size A n c d) (hc : ∀ j, -128 ≤ c j ∧ c j ≤ 127) (hd : ∀ j, -32768 ≤ d j ∧ d j ≤ 32767) :
    Calls Tryd.prog 23 #[.slice A n cap] w (Sorts n c d w) := by
  have HR := Lib.hid hr
  have HC := Lib.hid hc
  have HD := Lib.hid hd
  clear hr hc hd
  by_cases h1 : 1 ≤ n
  case neg =>
    have d1 : decide (n < 1) = true := by simp; omega
    go_enter Tryd.func23, Tryd.ntmps23
    go_wp2
    go_ret
    exact ⟨Below.refl _ _, .inr ⟨fun h => by have := h.1; omega, rfl⟩⟩
  have d1 : decide (n < 1) = false := by simp; omega
  by_cases h6 : n ≤ 6
  case neg =>
    have d6 : decide (6 < n) = true := by simp; omega
    go_enter Tryd.func23, Tryd.ntmps23
    go_wp2
    go_ret
    exact ⟨Below.refl _ _, .inr ⟨fun h => by have := h.1; omega, rfl⟩⟩
  have d6 : decide (6 < n) = false := by simp; omega
  go_enter Tryd.func23, Tryd.ntmps23
  go_wp2
  clear d1 d6
  go_loopw [3, 4, 15] (fun t3 t4 t15 wr => ∃ k : Nat, k ≤ n ∧ t15 = .int .i64 k ∧ Below w.heap.size w wr ∧ ∀ j, j < k → SAt c d j) (fun t3 t4 t15 wr => n - (intOf t15).toNat)
  case atStart => exact ⟨0, by omega, rfl, Below.refl _ _, fun j hj => by omega⟩
  case round =>
    obtain ⟨k, hk, rfl, hb, hall⟩ := hrel
    have HA := Lib.hid hall
    clear hall
    by_cases hlt : k < n
    · obtain ⟨b, off, rfl, hbl, c0, c1⟩ := (HR.out.below hb).at hlt
      have bc := HC.out k
      have bd := HD.out k
      have bc' := HC.out (k - 1)
      have hbs : b < wr.heap.size := Nat.lt_of_lt_of_le hbl hb.size
      by_cases h1 : 1 ≤ c k ∧ c k ≤ 20
      · by_cases h2 : 0 ≤ d k ∧ d k ≤ 60
        · by_cases h0 : k = 0
          · have hk0 : decide (0 < k) = false := by simp; omega
            have H0 := Lib.hid h0
            clear h0
            go_wp2
            go_quiet (fail)
            go_wp2
            exact ⟨⟨k + 1, by omega, by first | go_num | simp, below_drewN' (hb.alloc hb.size _) _, fun j hj => by
              by_cases e : j = k
              · subst e; exact ⟨h1, h2, fun h => by have := H0.out; omega⟩
              · exact HA.out j (by omega)⟩, by simp [intOf]; omega⟩
          · have hk0 : decide (0 < k) = true := by simp; omega
            obtain ⟨b', off', e', hbl', c0', c1'⟩ := (HR.out.below hb).at (show k - 1 < n by omega)
            injection e' with e'
            injection e' with eb eo _
            subst eb eo
            have hs1 : IntKind.i64.wrap ((k : Int) - 1) = (k : Int) - 1 := IntWalk.i64_in _ (by omega)
            have hs2 : 0 ≤ (k : Int) - 1 := by omega
            have hs3 : ((k : Int) - 1).toNat = k - 1 := by omega
            have hs4 : (k : Int) - 1 < (n : Int) := by omega
            by_cases h3 : c (k - 1) < c k
            · have h3' : decide (c k ≤ c (k - 1)) = false := by simp; omega
              go_wp2
              go_quiet (fail)
              go_wp2
              exact ⟨⟨k + 1, by omega, by first | go_num | simp, below_drewN' (hb.alloc hb.size _) _, fun j hj => by
                by_cases e : j = k
                · subst e; exact ⟨h1, h2, fun _ => h3⟩
                · exact HA.out j (by omega)⟩, by simp [intOf]; omega⟩
            · have h3' : decide (c k ≤ c (k - 1)) = true := by simp; omega
              go_wp2
              go_quiet (fail)
              go_wp2
              go_ret
              exact ⟨below_drewN' (hb.alloc hb.size _) _, .inr ⟨fun h => by have := (h.2 k hlt).2.2 (by omega); omega, rfl⟩⟩
        · by_cases h2' : 0 ≤ d k
          · have e1 : decide (d k < 0) = false := by simp; omega
            have e2 : decide (60 < d k) = true := by simp; omega
            go_wp2
            go_ret
            exact ⟨hb.alloc hb.size _, .inr ⟨fun h => h2 (h.2 k hlt).2.1, rfl⟩⟩
          · have e1 : decide (d k < 0) = true := by simp; omega
            go_wp2
            go_ret
            exact ⟨hb.alloc hb.size _, .inr ⟨fun h => h2 (h.2 k hlt).2.1, rfl⟩⟩
      · by_cases h1' : 1 ≤ c k
        · have e1 : decide (c k < 1) = false := by simp; omega
          have e2 : decide (20 < c k) = true := by simp; omega
          go_wp2
          go_ret
          exact ⟨hb.alloc hb.size _, .inr ⟨fun h => h1 (h.2 k hlt).1, rfl⟩⟩
        · have e1 : decide (c k < 1) = true := by simp; omega
          go_wp2
          go_ret
          exact ⟨hb.alloc hb.size _, .inr ⟨fun h => h1 (h.2 k hlt).1, rfl⟩⟩
    · obtain rfl : k = n := by omega
      go_wp2
      go_ret
      exact ⟨hb, .inl ⟨⟨⟨h1, h6⟩, HA.out⟩, rfl⟩⟩
end Go.Proofs.YtneijlogidhgiaaDoor
