/-
  The greatest amount for which a stock is enough: contracts of spec.l07Stock, l07Most, impl.isEnough, greatestOf. Conditions stand at each.
-/
import Derived.Test.YtgpnimbgckajlaaRows
import Derived.Test.YtgpnimbgckajlaaMixN
namespace Go.Proofs.Ytgpnimbgckajlaa
open Go Go.ChangeShapes Go.WideShapes Go.ChangeAt Go.RowKit
set_option linter.unusedVariables false
set_option linter.unusedSimpArgs false
set_option maxRecDepth 100000
set_option maxHeartbeats 4000000
def StockOk (s : Nat → Int) : Prop := ∀ j, j < 3 → 0 ≤ s j ∧ s j ≤ 5000
theorem l07Stock_any (b : Nat) (m : Nat → Int) (r : Bool) (w : World) (h16 : In16 m) (h : MixP w b 0 m) (hr : r = true ↔ StockOk m) :
    Calls Try.prog 70 #[.pointer (some ⟨b, 0, none⟩)] w (BPost r w) := by
  have c0 := h.2 0 (by decide)
  have c1 := h.2 1 (by decide)
  have c2 := h.2 2 (by decide)
  simp only [Nat.zero_add] at c0 c1 c2
  have b0 := h16 0 (by decide)
  have b1 := h16 1 (by decide)
  have b2 := h16 2 (by decide)
  have w0 : IntKind.i64.wrap (m 0) = m 0 := IntWalk.i64_in _ (by omega)
  have w1 : IntKind.i64.wrap (m 1) = m 1 := IntWalk.i64_in _ (by omega)
  have w2 : IntKind.i64.wrap (m 2) = m 2 := IntWalk.i64_in _ (by omega)
  obtain ⟨r0, e0⟩ := dec_ex (0 ≤ m 0 ∧ m 0 ≤ 5000)
  obtain ⟨r1, e1⟩ := dec_ex (0 ≤ m 1 ∧ m 1 ≤ 5000)
  obtain ⟨r2, e2⟩ := dec_ex (0 ≤ m 2 ∧ m 2 ≤ 5000)
  have H0 := Lib.hid (fun W => amount_any (m 0) r0 W e0)
  have H1 := Lib.hid (fun W => amount_any (m 1) r1 W e1)
  have H2 := Lib.hid (fun W => amount_any (m 2) r2 W e2)
  have E0 := Lib.hid e0
  have E1 := Lib.hid e1
  have E2 := Lib.hid e2
  have HR := Lib.hid hr
  clear e0 e1 e2 hr h h16 b0 b1 b2
  go_enter Try.func70, Try.ntmps70
  go_wp2_with fail
  refine (H0.out _).mono ?_
  rintro e wn ⟨rfl, hw⟩
  subst hw
  cases r0 with
  | false =>
    obtain rfl : r = false := Bool.eq_false_iff.2 fun h => by have := E0.out.2 (HR.out.1 h 0 (by decide)); cases this
    go_wp2
    go_ret
    exact ⟨Below.refl _ _, rfl⟩
  | true =>
    have P0 := Lib.hid (E0.out.1 rfl)
    go_wp2_with fail
    refine (H1.out _).mono ?_
    rintro e wn ⟨rfl, hw⟩
    subst hw
    cases r1 with
    | false =>
      obtain rfl : r = false := Bool.eq_false_iff.2 fun h => by have := E1.out.2 (HR.out.1 h 1 (by decide)); cases this
      go_wp2
      go_ret
      exact ⟨Below.refl _ _, rfl⟩
    | true =>
      have P1 := Lib.hid (E1.out.1 rfl)
      go_wp2_with fail
      refine (H2.out _).mono ?_
      rintro e wn ⟨rfl, hw⟩
      subst hw
      obtain rfl : r = r2 := by
        rw [Bool.eq_iff_iff]
        refine ⟨fun h => E2.out.2 (HR.out.1 h 2 (by decide)), fun h => HR.out.2 fun j hj => ?_⟩
        obtain rfl | rfl | rfl : j = 0 ∨ j = 1 ∨ j = 2 := by omega
        · exact P0.out
        · exact P1.out
        · exact E2.out.1 h
      go_wp2
      go_ret
      exact ⟨Below.refl _ _, rfl⟩
theorem enough3 {m st : Nat → Int} {n : Int} : Enough m st n ↔ needM m n 0 ≤ st 0 ∧ needM m n 1 ≤ st 1 ∧ needM m n 2 ≤ st 2 := by
  refine ⟨fun h => ⟨h 0 (by decide), h 1 (by decide), h 2 (by decide)⟩, fun ⟨h0, h1, h2⟩ j hj => ?_⟩
  obtain rfl | rfl | rfl : j = 0 ∨ j = 1 ∨ j = 2 := by omega
  · exact h0
  · exact h1
  · exact h2
theorem l07Most_any (b o b' : Nat) (m st : Nat → Int) (z : Int) (w : World) (h16 : In16 m) (hm : MixOk m) (h : MixP w b o m) (hs : MixP w b' 0 st) (hst : StockOk st) (hz : MostAt m st z) :
    Calls Try.prog 71 #[.pointer (some ⟨b, o, none⟩), .pointer (some ⟨b', 0, none⟩)] w fun e w' => Below w.heap.size w w' ∧ e = .returned (.int .i64 z) := by
  have HF := Lib.hid (fun W n hn (h : MixP W b o m) => l07For_any b o m n W h16 hm hn h)
  have HB := Lib.hid h
  have HS := Lib.hid hs
  have HZ := Lib.hid hz
  have HST := Lib.hid hst
  clear h hs hm h16 hz hst
  go_enter Try.func71, Try.ntmps71
  go_wp2
  go_loopw [5, 6] (fun t5 t6 wr => ∃ k : Nat, k ≤ 5000 ∧ t5 = .int .i64 k ∧ Below w.heap.size w wr ∧ ∀ y : Int, (k : Int) < y → y ≤ 5000 → ¬ Enough m st y) (fun t5 t6 wr => (intOf t5).toNat)
  case atStart => exact ⟨5000, by omega, rfl, Below.refl _ _, fun y h1 h2 => by omega⟩
  case round =>
    obtain ⟨k, hk, rfl, B, hno⟩ := hrel
    have HN := Lib.hid hno
    clear hno
    by_cases hk0 : k = 0
    · have hz : z = 0 := by
        refine HZ.out.one ⟨by omega, fun j hj => ?_, fun y h1 h2 => HN.out y (by omega) h2⟩
        rw [needM_nil]
        exact (HST.out j hj).1
      subst hk0
      subst hz
      go_wp2
      go_ret
      exact ⟨B, rfl⟩
    · have hki : (0 : Int) < (k : Int) := by omega
      have hk1 : (k : Int) ≤ 5000 := by omega
      go_wp2_with fail
      refine (HF.out _ _ ⟨by omega, hk1⟩ (HB.out.below B)).mono ?_
      rintro e w1 ⟨hb, rfl⟩
      have X := Bx.new w1 (mixC (needM m k)) 44
      replace B := al (nxt B hb) (.cells (mixC (needM m k)) 44)
      have hb1 := (HS.out.below B)
      obtain ⟨hbl, hc⟩ := hb1
      have s0 := hc 0 (by decide)
      have s1 := hc 1 (by decide)
      have s2 := hc 2 (by decide)
      simp only [Nat.zero_add] at s0 s1 s2
      obtain ⟨d0, d1, d2⟩ := X.mix3
      have hex := (enough3 (m := m) (st := st) (n := (k : Int)))
      obtain ⟨q0, hq0⟩ : ∃ q, q = needM m k 0 := ⟨_, rfl⟩
      obtain ⟨q1, hq1⟩ : ∃ q, q = needM m k 1 := ⟨_, rfl⟩
      obtain ⟨q2, hq2⟩ : ∃ q, q = needM m k 2 := ⟨_, rfl⟩
      obtain ⟨x0, hx0⟩ : ∃ q, q = st 0 := ⟨_, rfl⟩
      obtain ⟨x1, hx1⟩ : ∃ q, q = st 1 := ⟨_, rfl⟩
      obtain ⟨x2, hx2⟩ : ∃ q, q = st 2 := ⟨_, rfl⟩
      obtain ⟨W1, hW1⟩ : ∃ W1 : World, W1 = w1.alloc (.cells (mixC (needM m k)) 44) := ⟨_, rfl⟩
      rw [← hW1] at B s0 s1 s2 d0 d1 d2 hbl
      simp only [mixC] at hW1
      rw [← hq0, ← hq1, ← hq2, ← hx0, ← hx1, ← hx2] at hex
      rw [← hx0] at s0
      rw [← hx1] at s1
      rw [← hx2] at s2
      rw [← hq0] at d0 hW1
      rw [← hq1] at d1 hW1
      rw [← hq2] at d2 hW1
      rw [← hq0, ← hq1, ← hq2]
      have HW1 := Lib.hid hW1
      have HEX := Lib.hid hex
      clear hb hc X hq0 hq1 hq2 hx0 hx1 hx2 hex hW1
      by_cases h0 : q0 ≤ x0
      · have g0 : decide (q0 ≤ x0) = true := by simpa using h0
        by_cases h1 : q1 ≤ x1
        · have g1 : decide (q1 ≤ x1) = true := by simpa using h1
          by_cases h2 : q2 ≤ x2
          · have g2 : decide (q2 ≤ x2) = true := by simpa using h2
            have hz : z = k := HZ.out.one ⟨by omega, HEX.out.2 ⟨h0, h1, h2⟩, HN.out⟩
            subst hz
            go_wp2
            rw [← HW1.out]
            go_quiet (fail)
            go_wp2
            go_ret
            exact ⟨below_drewN' B _, rfl⟩
          · have g2 : decide (q2 ≤ x2) = false := by simpa using h2
            have HN' : Hid (∀ y : Int, (k : Int) - 1 < y → y ≤ 5000 → ¬ Enough m st y) := Lib.hid fun y hy1 hy2 => by
              by_cases e : y = k
              · rw [e]; exact fun h => h2 (HEX.out.1 h).2.2
              · exact HN.out y (by omega) hy2
            go_wp2
            rw [← HW1.out]
            go_quiet (fail)
            go_wp2
            exact ⟨⟨k - 1, by omega, by rw [show ((k - 1 : Nat) : Int) = (k : Int) - 1 by omega], below_drewN' B _, by rw [show ((k - 1 : Nat) : Int) = (k : Int) - 1 by omega]; exact HN'.out⟩, by simp [intOf]; omega⟩
        · have g1 : decide (q1 ≤ x1) = false := by simpa using h1
          have HN' : Hid (∀ y : Int, (k : Int) - 1 < y → y ≤ 5000 → ¬ Enough m st y) := Lib.hid fun y hy1 hy2 => by
            by_cases e : y = k
            · rw [e]; exact fun h => h1 (HEX.out.1 h).2.1
            · exact HN.out y (by omega) hy2
          go_wp2
          rw [← HW1.out]
          go_quiet (fail)
          go_wp2
          exact ⟨⟨k - 1, by omega, by rw [show ((k - 1 : Nat) : Int) = (k : Int) - 1 by omega], below_drewN' B _, by rw [show ((k - 1 : Nat) : Int) = (k : Int) - 1 by omega]; exact HN'.out⟩, by simp [intOf]; omega⟩
      · have g0 : decide (q0 ≤ x0) = false := by simpa using h0
        have HN' : Hid (∀ y : Int, (k : Int) - 1 < y → y ≤ 5000 → ¬ Enough m st y) := Lib.hid fun y hy1 hy2 => by
          by_cases e : y = k
          · rw [e]; exact fun h => h0 (HEX.out.1 h).1
          · exact HN.out y (by omega) hy2
        go_wp2
        rw [← HW1.out]
        go_quiet (fail)
        go_wp2
        exact ⟨⟨k - 1, by omega, by rw [show ((k - 1 : Nat) : Int) = (k : Int) - 1 by omega], below_drewN' B _, by rw [show ((k - 1 : Nat) : Int) = (k : Int) - 1 by omega]; exact HN'.out⟩, by simp [intOf]; omega⟩
theorem isEnough_any (st q : Nat → Int) (r : Bool) (w : World) (hr : r = true ↔ ∀ j, j < 3 → q j ≤ st j) :
    Calls Try.prog 91 #[.agg #[.int .i16 (st 0), .int .i16 (st 1), .int .i16 (st 2)], .agg #[.int .i16 (q 0), .int .i16 (q 1), .int .i16 (q 2)]] w (BPost r w) := by
  have X1 := (Bx.new w (mixC st) 44).alloc (.cells (mixC q) 44)
  have X2 := Bx.newAtI (w.alloc (.cells (mixC st) 44)) (w.heap.size + 1) (mixC q) 44 (by simp)
  have B := al (al (Below.refl w.heap.size w) (.cells (mixC st) 44)) (.cells (mixC q) 44)
  have HR := Lib.hid hr
  clear hr
  go_enter Try.func91, Try.ntmps91
  go_wp2
  obtain ⟨W0, hW0⟩ : ∃ W0 : World, W0 = (w.alloc (.cells (mixC st) 44)).alloc (.cells (mixC q) 44) := ⟨_, rfl⟩
  simp only [mixC] at hW0
  rw [← hW0]
  have hW1 : (w.alloc (.cells (mixC st) 44)).alloc (.cells (mixC q) 44) = W0 := hW0.symm
  rw [hW1] at X1 X2 B
  clear hW0 hW1
  obtain ⟨b1, h1⟩ : ∃ b1, b1 = w.heap.size := ⟨_, rfl⟩
  rw [← h1] at X1 X2 ⊢
  clear h1
  go_loopw [5, 6] (fun t5 t6 wr => ∃ k : Nat, k ≤ 3 ∧ t6 = .int .i64 k ∧ Below w.heap.size w wr ∧ Bx wr b1 (mixC st) 44 ∧ Bx wr (b1 + 1) (mixC q) 44 ∧ ∀ j, j < k → q j ≤ st j) (fun t5 t6 wr => 3 - (intOf t6).toNat)
  case atStart => exact ⟨0, by omega, rfl, B, X1, X2, fun j hj => by omega⟩
  case round =>
    clear B X1 X2
    obtain ⟨k, hk, rfl, B, X1, X2, hall⟩ := hrel
    have HA := Lib.hid hall
    clear hall
    by_cases hlt : k < 3
    · have hki : (k : Int) < 3 := by omega
      have hk0 : (0 : Int) ≤ (k : Int) := by omega
      have c1 := X1.mixAt hlt
      have c2 := X2.mixAt hlt
      obtain ⟨x, hx⟩ : ∃ x, x = st k := ⟨_, rfl⟩
      obtain ⟨y, hy⟩ : ∃ y, y = q k := ⟨_, rfl⟩
      rw [← hx] at c1
      rw [← hy] at c2
      have HX := Lib.hid hx
      have HY := Lib.hid hy
      clear hx hy
      by_cases hg : x < y
      · have d1 : decide (x < y) = true := by simpa using hg
        obtain rfl : r = false := Bool.eq_false_iff.2 fun h => by have := HR.out.1 h k hlt; rw [← HX.out, ← HY.out] at this; omega
        go_wp2
        go_quiet (fail)
        go_wp2
        go_ret
        exact ⟨below_drewN' B _, rfl⟩
      · have d1 : decide (x < y) = false := by simpa using hg
        have hn : Hid (∀ j, j < k + 1 → q j ≤ st j) := Lib.hid fun j hj => by
          by_cases e : j = k
          · subst e; rw [← HX.out, ← HY.out]; omega
          · exact HA.out j (by omega)
        go_wp2
        go_quiet (fail)
        go_wp2
        exact ⟨⟨k + 1, by omega, by first | go_num | simp, below_drewN' B _, X1, X2, hn.out⟩, by simp [intOf]; omega⟩
    · obtain rfl : k = 3 := by omega
      obtain rfl : r = true := HR.out.2 HA.out
      go_wp2
      go_ret
      exact ⟨B, rfl⟩
end Go.Proofs.Ytgpnimbgckajlaa
