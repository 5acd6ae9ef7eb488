/-
  The contract of impl.leastOf over cells. Conditions stand at each.
-/
import Derived.StillTailTactics
import Derived.Test.YtegnhpanlbfmdaaRows
import Derived.Test.YtegnhpanlbfmdaaFallS
import Derived.Test.YtegnhpanlbfmdaaLandOf
import Derived.Deep.Cut
namespace Go.Proofs.Ytegnhpanlbfmdaa
open Go Go.ChangeShapes Go.WideShapes Go.ChangeAt Go.RowKit
set_option linter.unusedVariables false
set_option linter.unusedSimpArgs false
set_option maxRecDepth 100000
set_option maxHeartbeats 4000000

/-- the first of the least of f 0, .. f (k - 1), and what it is; nothing yet at 0. -/
def lsS (f : Nat → Int) : Nat → Nat × Int
  | 0 => (0, 0)
  | k + 1 => if k = 0 ∨ f k < (lsS f k).2 then (k, f k) else lsS f k
theorem lsS_yes {f : Nat → Int} {k : Nat} (h : k = 0 ∨ f k < (lsS f k).2) : lsS f (k + 1) = (k, f k) := if_pos h
theorem lsS_no {f : Nat → Int} {k : Nat} (h0 : k ≠ 0) (h : ¬ f k < (lsS f k).2) : lsS f (k + 1) = lsS f k := if_neg (fun hh => hh.elim h0 h)
/-- it is the first one of the least. -/
theorem lsS_spec (f : Nat → Int) : ∀ n, 1 ≤ n → (lsS f n).1 < n ∧ (lsS f n).2 = f (lsS f n).1 ∧ (∀ j, j < n → f (lsS f n).1 ≤ f j) ∧ (∀ j, j < (lsS f n).1 → f (lsS f n).1 < f j)
  | 0, h => absurd h (by omega)
  | n + 1, _ => by
    by_cases h : n = 0 ∨ f n < (lsS f n).2
    · rw [lsS_yes h]
      refine ⟨by omega, rfl, ?_, ?_⟩
      · intro j hj
        by_cases e : j = n
        · subst e; exact Int.le_refl _
        · rcases h with h | h
          · omega
          · obtain ⟨h1, h2, h3, h4⟩ := lsS_spec f n (by omega)
            have := h3 j (by omega)
            show f n ≤ f j
            omega
      · intro j hj
        rcases h with h | h
        · have : j < n := hj
          omega
        · obtain ⟨h1, h2, h3, h4⟩ := lsS_spec f n (by have : j < n := hj; omega)
          have := h3 j hj
          show f n < f j
          omega
    · have h0 : n ≠ 0 := fun e => h (.inl e)
      have hl : ¬ f n < (lsS f n).2 := fun e => h (.inr e)
      rw [lsS_no h0 hl]
      obtain ⟨h1, h2, h3, h4⟩ := lsS_spec f n (by omega)
      refine ⟨by omega, h2, fun j hj => ?_, h4⟩
      by_cases e : j = n
      · subst e; omega
      · exact h3 j (by omega)

theorem leastC_any (gf : Nat) (lb : Array Value) (A : Option Addr) (n cap : Nat) (c f : Nat → Int) (w : World) (hn1 : 1 ≤ n) (hn : n ≤ 1000) (hr : RdK .i8 w w.heap.size A (2 * n) c)
    (hE : ∀ args w, (callFunc gf args).run Try.prog w = .ok (.enter gf args) w)
    (hF : ∀ W, Below w.heap.size w W → ∀ i : Nat, i < n → Calls Try.prog gf (#[.agg #[.int .i8 (c (2 * i)), .int .i8 (c (2 * i + 1))]] ++ lb) W fun e w' => e = .returned (.int .i64 (f i)) ∧ Below W.heap.size W w') :
    Calls Try.prog 138 #[.slice A n cap, .func (.func gf) #[] lb] w fun e w' => Below w.heap.size w w' ∧ e = .returned (.tuple #[.agg #[.int .i8 (c (2 * (lsS f n).1)), .int .i8 (c (2 * (lsS f n).1 + 1))], .int .i64 (f (lsS f n).1)]) := by
  have HR := Lib.hid hr
  have HF := Lib.hid hF
  have HE := Lib.hid hE
  clear hr hF hE
  have X4 := (Bx.new w #[.int .i8 0, .int .i8 0] 40).alloc (.cells #[.int .i8 0, .int .i8 0] 40)
  have X6 := Bx.newAt (w.alloc (.cells #[.int .i8 0, .int .i8 0] 40)) (w.heap.size + 1) #[.int .i8 0, .int .i8 0] 40 (by simp)
  have B := al (al (Below.refl w.heap.size w) (.cells #[.int .i8 0, .int .i8 0] 40)) (.cells #[.int .i8 0, .int .i8 0] 40)
  go_enter Try.func138, Try.ntmps138
  go_wp2_with fail
  obtain ⟨W0, hW0⟩ : ∃ W0 : World, W0 = (w.alloc (.cells #[.int .i8 0, .int .i8 0] 40)).alloc (.cells #[.int .i8 0, .int .i8 0] 40) := ⟨_, rfl⟩
  rw [← hW0] at X4 X6 B ⊢
  clear hW0
  go_loopw [7, 8, 9, 10, 13] (fun t7 t8 t9 t10 t13 wr => ∃ k : Nat, k ≤ n ∧ t13 = .int .i64 k ∧ t7 = .int .i64 (lsS f k).2 ∧ Below w.heap.size w wr ∧ Bx wr w.heap.size #[.int .i8 0, .int .i8 0] 40 ∧ ∃ a b : Int, Bx wr (w.heap.size + 1) #[.int .i8 a, .int .i8 b] 40 ∧ (k ≠ 0 → a = c (2 * (lsS f k).1) ∧ b = c (2 * (lsS f k).1 + 1))) (fun t7 t8 t9 t10 t13 wr => n - (intOf t13).toNat)
  case atStart => exact ⟨0, by omega, rfl, rfl, B, X4, 0, 0, X6, fun h => absurd rfl h⟩
  case round =>
    clear B X4 X6
    obtain ⟨k, hk, rfl, rfl, B, X4, a, b, X6, hab⟩ := hrel
    obtain ⟨wo, rfl⟩ : ∃ wo : World, wo = wr := ⟨_, rfl⟩
    have HAB := Lib.hid hab
    clear hab
    by_cases hlt : k < n
    · have hki : (k : Int) < n := by omega
      obtain ⟨bg, off, rfl, hbl, ck0, ck1⟩ := rdCell (HR.out.below B) hlt
      obtain ⟨l, hl⟩ : ∃ l, l = (lsS f k).2 := ⟨_, rfl⟩
      obtain ⟨x, hx⟩ : ∃ x, x = f k := ⟨_, rfl⟩
      obtain ⟨cx, hcx⟩ : ∃ cx, cx = c (2 * k) := ⟨_, rfl⟩
      obtain ⟨cy, hcy⟩ : ∃ cy, cy = c (2 * k + 1) := ⟨_, rfl⟩
      have hyes := lsS_yes (f := f) (k := k)
      have hno := lsS_no (f := f) (k := k)
      rw [← hx, ← hl] at hyes hno
      rw [← hcx] at ck0
      rw [← hcy] at ck1
      have hcall := HF.out (wo.alloc (.cells #[.int .i8 cx, .int .i8 cy] 40)) (al B _) k hlt
      rw [← hx, ← hcx, ← hcy] at hcall
      rw [← hl]
      have HY := Lib.hid hyes
      have HN := Lib.hid hno
      have HC := Lib.hid hcall
      have HX := Lib.hid hcx
      have HL := Lib.hid hl
      have HY2 := Lib.hid hcy
      have hE := HE.out
      have X9 := Bx.new wo #[.int .i8 cx, .int .i8 cy] 40
      have e0 := X9.cell 0
      have e1 := X9.cell 1
      simp only [List.getElem?_toArray, List.getElem?_cons_zero, List.getElem?_cons_succ] at e0 e1
      have hs6 := X6.lt
      clear hl hx hyes hno hcall hcx hcy
      go_wp2_with fail
      refine HC.out.mono ?_
      rintro e w1 ⟨rfl, hb⟩
      replace X9 := X9.below hb
      replace X4 := (X4.alloc (.cells #[.int .i8 cx, .int .i8 cy] 40)).below hb
      replace X6 := (X6.alloc (.cells #[.int .i8 cx, .int .i8 cy] 40)).below hb
      replace B := nxt (al B (.cells #[.int .i8 cx, .int .i8 cy] 40)) hb
      clear hb hE e0 e1 ck0 ck1
      have e0 : w1.cell? ⟨wo.heap.size, 0, none⟩ = some (.int .i8 cx) := X9.cell 0
      have e1 : w1.cell? ⟨wo.heap.size, 1, none⟩ = some (.int .i8 cy) := X9.cell 1
      have s0 := X6.cell 0
      have s1 := X6.cell 1
      have f0 := X6.frozen 0
      have f1 := X6.frozen 1
      simp only [List.getElem?_toArray, List.getElem?_cons_zero, List.getElem?_cons_succ] at s0 s1
      have B' := (B.setCell (p := ⟨w.heap.size + 1, 0, none⟩) (by simp) (.int .i8 cx)).setCell (p := ⟨w.heap.size + 1, 1, none⟩) (by simp) (.int .i8 cy)
      have X4' := (X4.other (g := w.heap.size + 1) (o := 0) (.int .i8 cx) (by omega)).other (g := w.heap.size + 1) (o := 1) (.int .i8 cy) (by omega)
      have X6' := (X6.set 0 (.int .i8 cx)).set 1 (.int .i8 cy)
      by_cases h0 : k = 0
      · have hk0 : ((k : Int) == 0) = true := by simp; exact h0
        have H0 := Lib.hid h0
        clear h0
        go_wp2_with fail
        exact ⟨⟨k + 1, by omega, by first | go_num | simp, by rw [HY.out (.inl H0.out)], B', X4', _, _, X6', fun _ => by rw [HY.out (.inl H0.out)]; exact ⟨HX.out, HY2.out⟩⟩, by simp [intOf]; omega⟩
      · have hk0 : ((k : Int) == 0) = false := by simp; exact h0
        by_cases hlt2 : x < l
        · have D : decide (x < l) = true := by simpa using hlt2
          go_wp2_with fail
          exact ⟨⟨k + 1, by omega, by first | go_num | simp, by rw [HY.out (.inr hlt2)], B', X4', _, _, X6', fun _ => by rw [HY.out (.inr hlt2)]; exact ⟨HX.out, HY2.out⟩⟩, by simp [intOf]; omega⟩
        · have D : decide (x < l) = false := by simpa using hlt2
          go_wp2_with fail
          exact ⟨⟨k + 1, by omega, by first | go_num | simp, by rw [HN.out h0 hlt2, ← HL.out], B, X4, _, _, X6, fun _ => by rw [HN.out h0 hlt2]; exact HAB.out h0⟩, by simp [intOf]; omega⟩
    · obtain rfl : k = n := by omega
      obtain ⟨ha, hb⟩ := HAB.out (by omega)
      obtain ⟨_, h2, _, _⟩ := lsS_spec f k hn1
      have HA := Lib.hid ha
      have HBq := Lib.hid hb
      have H2 := Lib.hid h2
      obtain ⟨l, hl⟩ : ∃ l, l = (lsS f k).2 := ⟨_, rfl⟩
      rw [← hl]
      have HL := Lib.hid hl
      have s0 := X6.cell 0
      have s1 := X6.cell 1
      have q0 := X4.cell 0
      have q1 := X4.cell 1
      have f0 := X4.frozen 0
      have f1 := X4.frozen 1
      simp only [List.getElem?_toArray, List.getElem?_cons_zero, List.getElem?_cons_succ] at s0 s1 q0 q1
      have Y4 := (X4.set 0 (.int .i8 a)).set 1 (.int .i8 b)
      have y0 := Y4.cell 0
      have y1 := Y4.cell 1
      simp at y0 y1
      clear ha hb h2 hl
      go_wp2_with fail
      exact bodyPost_ret (v := .tuple #[.agg #[.int .i8 a, .int .i8 b], .int .i64 l]) (by simp [results, Try.results138, go_sem, y0, y1]) rfl ⟨(B.setCell (p := ⟨w.heap.size, 0, none⟩) (by simp) (.int .i8 a)).setCell (p := ⟨w.heap.size, 1, none⟩) (by simp) (.int .i8 b), by rw [HA.out, HBq.out, HL.out, H2.out]⟩
end Go.Proofs.Ytegnhpanlbfmdaa
