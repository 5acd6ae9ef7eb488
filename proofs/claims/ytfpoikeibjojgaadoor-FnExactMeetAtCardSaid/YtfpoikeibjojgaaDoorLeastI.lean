/-
  The contract of impl.leastOf over numbers. Conditions stand at each.
-/
import Derived.StillTailTactics
import Derived.Test.YtfpoikeibjojgaaDoorRows
import Derived.Test.YtfpoikeibjojgaaDoorNums
import Derived.Test.YtfpoikeibjojgaaDoorMeetM
import Derived.Deep.Cut
namespace Go.Proofs.YtfpoikeibjojgaaDoor
open Go Go.ChangeShapes Go.WideShapes Go.ChangeAt Go.RowKit
set_option linter.unusedVariables false
set_option linter.unusedSimpArgs false
set_option maxRecDepth 100000
set_option maxHeartbeats 4000000
/-- the first of the least of f 0, .. f (k - 1), and what it is; nothing yet at 0. -/
def lsS (f : Nat → Int) : Nat → Nat × Int
  | 0 => (0, 0)
  | k + 1 => if k = 0 ∨ f k < (lsS f k).2 then (k, f k) else lsS f k
theorem lsS_yes {f : Nat → Int} {k : Nat} (h : k = 0 ∨ f k < (lsS f k).2) : lsS f (k + 1) = (k, f k) := if_pos h
theorem lsS_no {f : Nat → Int} {k : Nat} (h0 : k ≠ 0) (h : ¬ f k < (lsS f k).2) : lsS f (k + 1) = lsS f k := if_neg (fun hh => hh.elim h0 h)
/-- it is the first one of the least. -/
theorem lsS_spec (f : Nat → Int) : ∀ n, 1 ≤ n → (lsS f n).1 < n ∧ (lsS f n).2 = f (lsS f n).1 ∧ (∀ j, j < n → f (lsS f n).1 ≤ f j) ∧ (∀ j, j < (lsS f n).1 → f (lsS f n).1 < f j)
  | 0, h => absurd h (by omega)
  | n + 1, _ => by
    by_cases h : n = 0 ∨ f n < (lsS f n).2
    · rw [lsS_yes h]
      refine ⟨by omega, rfl, ?_, ?_⟩
      · intro j hj
        by_cases e : j = n
        · subst e; exact Int.le_refl _
        · rcases h with h | h
          · omega
          · obtain ⟨h1, h2, h3, h4⟩ := lsS_spec f n (by omega)
            have := h3 j (by omega)
            show f n ≤ f j
            omega
      · intro j hj
        rcases h with h | h
        · have : j < n := hj
          omega
        · obtain ⟨h1, h2, h3, h4⟩ := lsS_spec f n (by have : j < n := hj; omega)
          have := h3 j hj
          show f n < f j
          omega
    · have h0 : n ≠ 0 := fun e => h (.inl e)
      have hl : ¬ f n < (lsS f n).2 := fun e => h (.inr e)
      rw [lsS_no h0 hl]
      obtain ⟨h1, h2, h3, h4⟩ := lsS_spec f n (by omega)
      refine ⟨by omega, h2, fun j hj => ?_, h4⟩
      by_cases e : j = n
      · subst e; omega
      · exact h3 j (by omega)

theorem leastI_any (gf : Nat) (lb : Array Value) (A : Option Addr) (n cap : Nat) (c f : Nat → Int) (w : World) (hn1 : 1 ≤ n) (hn : n ≤ 1000) (hr : RdK .i64 w w.heap.size A n c)
    (hE : ∀ args w, (callFunc gf args).run Tryd.prog w = .ok (.enter gf args) w)
    (hF : ∀ W, Below w.heap.size w W → ∀ i : Nat, i < n → Calls Tryd.prog gf (#[.int .i64 (c i)] ++ lb) W fun e w' => e = .returned (.int .i64 (f i)) ∧ Below W.heap.size W w') :
    Calls Tryd.prog 73 #[.slice A n cap, .func (.func gf) #[] lb] w fun e w' => Below w.heap.size w w' ∧ e = .returned (.tuple #[.int .i64 (c (lsS f n).1), .int .i64 (f (lsS f n).1)]) := by
  have HR := Lib.hid hr
  have HF := Lib.hid hF
  have HE := Lib.hid hE
  clear hr hF hE
  go_enter Tryd.func73, Tryd.ntmps73
  go_wp2_with fail
  go_loopw [6, 7, 8, 9, 10, 13] (fun t6 t7 t8 t9 t10 t13 wr => ∃ (k : Nat) (a : Int), k ≤ n ∧ t13 = .int .i64 k ∧ t6 = .int .i64 a ∧ t7 = .int .i64 (lsS f k).2 ∧ Below w.heap.size w wr ∧ (k ≠ 0 → a = c (lsS f k).1)) (fun t6 t7 t8 t9 t10 t13 wr => n - (intOf t13).toNat)
  case atStart => exact ⟨0, 0, by omega, rfl, rfl, rfl, Below.refl _ _, fun h => absurd rfl h⟩
  case round =>
    obtain ⟨k, a, hk, rfl, rfl, rfl, B, hab⟩ := hrel
    have HAB := Lib.hid hab
    clear hab
    by_cases hlt : k < n
    · have hki : (k : Int) < n := by omega
      obtain ⟨bg, off, rfl, hbl, hck⟩ := (HR.out.below B) (by omega)
      have ck := hck k hlt
      clear hck
      obtain ⟨l, hl⟩ : ∃ l, l = (lsS f k).2 := ⟨_, rfl⟩
      obtain ⟨x, hx⟩ : ∃ x, x = f k := ⟨_, rfl⟩
      obtain ⟨cx, hcx⟩ : ∃ cx, cx = c k := ⟨_, rfl⟩
      have hyes := lsS_yes (f := f) (k := k)
      have hno := lsS_no (f := f) (k := k)
      rw [← hx, ← hl] at hyes hno
      rw [← hcx] at ck
      have hcall := HF.out wr B k hlt
      rw [← hx, ← hcx] at hcall
      rw [← hl]
      have HY := Lib.hid hyes
      have HN := Lib.hid hno
      have HC := Lib.hid hcall
      have HX := Lib.hid hcx
      have HL := Lib.hid hl
      have hE := HE.out
      clear hl hx hyes hno hcall hcx
      go_wp2_with fail
      refine HC.out.mono ?_
      rintro e w1 ⟨rfl, hb⟩
      replace B := nxt B hb
      clear hb hE ck
      by_cases h0 : k = 0
      · have hk0 : ((k : Int) == 0) = true := by simp; exact h0
        have H0 := Lib.hid h0
        clear h0
        go_wp2_with fail
        exact ⟨⟨k + 1, cx, by omega, by first | go_num | simp, rfl, by rw [HY.out (.inl H0.out)], B, fun _ => by rw [HY.out (.inl H0.out)]; exact HX.out⟩, by simp [intOf]; omega⟩
      · have hk0 : ((k : Int) == 0) = false := by simp; exact h0
        by_cases hlt2 : x < l
        · have D : decide (x < l) = true := by simpa using hlt2
          go_wp2_with fail
          exact ⟨⟨k + 1, cx, by omega, by first | go_num | simp, rfl, by rw [HY.out (.inr hlt2)], B, fun _ => by rw [HY.out (.inr hlt2)]; exact HX.out⟩, by simp [intOf]; omega⟩
        · have D : decide (x < l) = false := by simpa using hlt2
          go_wp2_with fail
          exact ⟨⟨k + 1, a, by omega, by first | go_num | simp, rfl, by rw [HN.out h0 hlt2, ← HL.out], B, fun _ => by rw [HN.out h0 hlt2]; exact HAB.out h0⟩, by simp [intOf]; omega⟩
    · obtain rfl : n = k := by omega
      have hki : ¬ ((n : Int) < (n : Int)) := by omega
      have ha := HAB.out (by omega)
      have h2 := (lsS_spec f n hn1).2.1
      have HA := Lib.hid ha
      have H2 := Lib.hid h2
      obtain ⟨l, hl⟩ : ∃ l, l = (lsS f n).2 := ⟨_, rfl⟩
      rw [← hl]
      have HL := Lib.hid hl
      clear ha h2 hl
      go_wp2_with fail
      exact bodyPost_ret (v := .tuple #[.int .i64 a, .int .i64 l]) (by simp [results, Tryd.results73, go_sem]) rfl ⟨B, by rw [HA.out, HL.out, H2.out]⟩
end Go.Proofs.YtfpoikeibjojgaaDoor
