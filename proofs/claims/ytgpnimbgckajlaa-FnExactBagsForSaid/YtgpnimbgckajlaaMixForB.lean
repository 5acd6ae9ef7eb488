/-
  Both sides of MixFor answer the same; the walk of the law. Conditions stand at each.
-/
import Derived.Test.YtgpnimbgckajlaaRows
import Derived.Test.YtgpnimbgckajlaaMixN
namespace Go.Proofs.Ytgpnimbgckajlaa
open Go Go.ChangeShapes Go.WideShapes Go.ChangeAt Go.RowKit
set_option linter.unusedVariables false
set_option linter.unusedSimpArgs false
set_option maxRecDepth 100000
set_option maxHeartbeats 4000000
theorem eqMix_yes (m : Nat → Int) (w : World) : Calls Try.prog 30 #[.agg #[.int .i16 (m 0), .int .i16 (m 1), .int .i16 (m 2)], .agg #[.int .i16 (m 0), .int .i16 (m 1), .int .i16 (m 2)]] w fun e w' => Below w.heap.size w w' ∧ e = .returned (.bool true) := by
  have X1 := (Bx.new w (mixC m) 44).alloc (.cells (mixC m) 44)
  have X2 := Bx.newAtI (w.alloc (.cells (mixC m) 44)) (w.heap.size + 1) (mixC m) 44 (by simp)
  have B := al (al (Below.refl w.heap.size w) (.cells (mixC m) 44)) (.cells (mixC m) 44)
  go_enter Try.func30, Try.ntmps30
  go_wp2
  obtain ⟨W0, hW0⟩ : ∃ W0 : World, W0 = (w.alloc (.cells (mixC m) 44)).alloc (.cells (mixC m) 44) := ⟨_, rfl⟩
  simp only [mixC] at hW0
  rw [← hW0]
  have hW1 : (w.alloc (.cells (mixC m) 44)).alloc (.cells (mixC m) 44) = W0 := hW0.symm
  rw [hW1] at X1 X2 B
  clear hW0 hW1
  obtain ⟨b1, h1⟩ : ∃ b1, b1 = w.heap.size := ⟨_, rfl⟩
  rw [← h1] at X1 X2 ⊢
  clear h1
  go_loopw [5] (fun t5 wr => ∃ k : Nat, k ≤ 3 ∧ t5 = .int .i64 k ∧ Below w.heap.size w wr ∧ Bx wr b1 (mixC m) 44 ∧ Bx wr (b1 + 1) (mixC m) 44) (fun t5 wr => 3 - (intOf t5).toNat)
  case atStart => exact ⟨0, by omega, rfl, B, X1, X2⟩
  case round =>
    clear B X1 X2
    obtain ⟨k, hk, rfl, B, X1, X2⟩ := hrel
    by_cases hlt : k < 3
    · have hki : (k : Int) < 3 := by omega
      have hk0 : (0 : Int) ≤ (k : Int) := by omega
      have c1 := X1.mixAt hlt
      have c2 := X2.mixAt hlt
      obtain ⟨x, hx⟩ : ∃ x, x = m k := ⟨_, rfl⟩
      rw [← hx] at c1 c2
      have d1 : (x != x) = false := by simp
      clear hx
      go_wp2
      go_quiet (fail)
      go_wp2
      exact ⟨⟨k + 1, by omega, by first | go_num | simp, below_drewN' B _, X1, X2⟩, by simp [intOf]; omega⟩
    · obtain rfl : k = 3 := by omega
      go_wp2
      go_ret
      exact ⟨B, rfl⟩
/-- what MixFor answers. -/
def MfPost (m : Nat → Int) (n : Int) (w : World) (e : Ending) (w' : World) : Prop :=
  Below w.heap.size w w' ∧ ((¬ MixOk m ∧ e = .returned (.tuple #[.agg #[.int .i16 0, .int .i16 0, .int .i16 0], .int .i64 1])) ∨ (MixOk m ∧ ¬ (0 ≤ n ∧ n ≤ 5000) ∧ e = .returned (.tuple #[.agg #[.int .i16 0, .int .i16 0, .int .i16 0], .int .i64 2])) ∨
    (MixOk m ∧ (0 ≤ n ∧ n ≤ 5000) ∧ e = .returned (.tuple #[.agg #[.int .i16 (needM m n 0), .int .i16 (needM m n 1), .int .i16 (needM m n 2)], .int .i64 0])))
theorem set3_new {w : World} {b : Nat} {t : TypeId} (h : Bx w b (mixC fun _ => 0) t) (B0 : Nat) (hb : B0 ≤ b) (f : Nat → Int) :
    (w.cell? ⟨b, 0, none⟩ = some (.int .i16 0) ∧ w.cell? ⟨b, 1, none⟩ = some (.int .i16 0) ∧ w.cell? ⟨b, 2, none⟩ = some (.int .i16 0)) ∧ (w.frozen? ⟨b, 0, none⟩ = false ∧ w.frozen? ⟨b, 1, none⟩ = false ∧ w.frozen? ⟨b, 2, none⟩ = false) ∧
    Bx (((w.setCell ⟨b, 0, none⟩ (.int .i16 (f 0))).setCell ⟨b, 1, none⟩ (.int .i16 (f 1))).setCell ⟨b, 2, none⟩ (.int .i16 (f 2))) b (mixC f) t :=
  ⟨⟨h.cell 0, h.cell 1, h.cell 2⟩, ⟨h.frozen 0, h.frozen 1, h.frozen 2⟩, (show Bx w b #[.int .i16 0, .int .i16 0, .int .i16 0] t from h).set3 _ _ _⟩
theorem specMixFor_any (m : Nat → Int) (n : Int) (w : World) (h16 : In16 m) :
    Calls Try.prog 28 #[.agg #[.int .i16 (m 0), .int .i16 (m 1), .int .i16 (m 2)], .int .i64 n] w (MfPost m n w) := by
  obtain ⟨r0, e0⟩ := dec_ex (MixOk m)
  obtain ⟨r1, e1⟩ := dec_ex (0 ≤ n ∧ n ≤ 5000)
  have H0 := Lib.hid (fun b W (hb : MixP W b 0 m) => l07Mix_any b 0 m r0 W h16 hb e0)
  have H1 := Lib.hid (fun W => amount_any n r1 W e1)
  have H2 := Lib.hid (fun b W hm hn (hb : MixP W b 0 m) => l07For_any b 0 m n W h16 hm hn hb)
  have E0 := Lib.hid e0
  have E1 := Lib.hid e1
  have X2 := (Bx.new w (mixC m) 44).alloc (.cells (mixC fun _ => 0) 44)
  have X4 := Bx.newAtI (w.alloc (.cells (mixC m) 44)) (w.heap.size + 1) (mixC fun _ => 0) 44 (by simp)
  have B := al (al (Below.refl w.heap.size w) (.cells (mixC m) 44)) (.cells (mixC fun _ => 0) 44)
  clear e0 e1 h16
  go_enter Try.func28, Try.ntmps28
  go_wp2_with fail
  refine (H0.out _ _ X2.mixP).mono ?_
  rintro e w1 ⟨hb, rfl⟩
  replace X2 := X2.below hb
  replace X4 := X4.below hb
  replace B := nxt B hb
  clear hb
  obtain ⟨b2, h2⟩ : ∃ b2, b2 = w.heap.size := ⟨_, rfl⟩
  have hb2 : w.heap.size ≤ b2 := by omega
  have hb4 : w.heap.size ≤ b2 + 1 := by omega
  rw [← h2] at X2 X4 ⊢
  clear h2
  cases r0 with
  | false =>
    have N0 := Lib.hid (show ¬ MixOk m from fun h => by have := E0.out.2 h; cases this)
    obtain ⟨⟨x0, x1, x2⟩, ⟨z0, z1, z2⟩, Y⟩ := set3_new X4 w.heap.size hb4 (fun _ => 0)
    obtain ⟨y0, y1, y2⟩ := Y.mix3
    have B' := below_set3 (v0 := .int .i16 0) (v1 := .int .i16 0) (v2 := .int .i16 0) B hb4
    clear X2 X4 Y B
    go_wp2
    refine bodyPost_ret (v := .tuple #[.agg #[.int .i16 0, .int .i16 0, .int .i16 0], .int .i64 1]) (by simp [results, Try.results28, go_sem, y0, y1, y2]) rfl ⟨B', .inl ⟨N0.out, rfl⟩⟩
  | true =>
    have P0 := Lib.hid (E0.out.1 rfl)
    go_wp2_with fail
    refine (H1.out _).mono ?_
    rintro e w2 ⟨rfl, hw⟩
    subst hw
    cases r1 with
    | false =>
      have N1 := Lib.hid (show ¬ (0 ≤ n ∧ n ≤ 5000) from fun h => by have := E1.out.2 h; cases this)
      obtain ⟨⟨x0, x1, x2⟩, ⟨z0, z1, z2⟩, Y⟩ := set3_new X4 w.heap.size hb4 (fun _ => 0)
      obtain ⟨y0, y1, y2⟩ := Y.mix3
      have B' := below_set3 (v0 := .int .i16 0) (v1 := .int .i16 0) (v2 := .int .i16 0) B hb4
      clear X2 X4 Y B
      go_wp2
      refine bodyPost_ret (v := .tuple #[.agg #[.int .i16 0, .int .i16 0, .int .i16 0], .int .i64 2]) (by simp [results, Try.results28, go_sem, y0, y1, y2]) rfl ⟨B', .inr (.inl ⟨P0.out, N1.out, rfl⟩)⟩
    | true =>
      have P1 := Lib.hid (E1.out.1 rfl)
      go_wp2_with fail
      refine (H2.out _ _ P0.out P1.out X2.mixP).mono ?_
      rintro e w3 ⟨hb, rfl⟩
      replace X4 := X4.below hb
      replace B := nxt B hb
      clear hb X2
      obtain ⟨⟨x0, x1, x2⟩, ⟨z0, z1, z2⟩, Y⟩ := set3_new X4 w.heap.size hb4 (needM m n)
      obtain ⟨y0, y1, y2⟩ := Y.mix3
      have B' := below_set3 (v0 := .int .i16 (needM m n 0)) (v1 := .int .i16 (needM m n 1)) (v2 := .int .i16 (needM m n 2)) B hb4
      clear X4 Y B
      go_wp2
      refine bodyPost_ret (v := .tuple #[.agg #[.int .i16 (needM m n 0), .int .i16 (needM m n 1), .int .i16 (needM m n 2)], .int .i64 0]) (by simp [results, Try.results28, go_sem, y0, y1, y2]) rfl ⟨B', .inr (.inr ⟨P0.out, P1.out, rfl⟩)⟩
theorem implMixFor_any (m : Nat → Int) (n : Int) (w : World) (h16 : In16 m) :
    Calls Try.prog 29 #[.agg #[.int .i16 (m 0), .int .i16 (m 1), .int .i16 (m 2)], .int .i64 n] w (MfPost m n w) := by
  obtain ⟨r0, e0⟩ := dec_ex (MixOk m)
  obtain ⟨r1, e1⟩ := dec_ex (0 ≤ n ∧ n ≤ 5000)
  have H0 := Lib.hid (fun W => implMix_any m r0 W h16 e0)
  have H1 := Lib.hid (fun W b hb => within1b n 0 5000 r1 W b hb e1)
  have H2 := Lib.hid (fun W hm hn => neededFor_any m n W h16 hm hn)
  have E0 := Lib.hid e0
  have E1 := Lib.hid e1
  have X2 := (Bx.new w (mixC m) 44).alloc (.cells (mixC fun _ => 0) 44)
  have X4 := Bx.newAtI (w.alloc (.cells (mixC m) 44)) (w.heap.size + 1) (mixC fun _ => 0) 44 (by simp)
  have B := al (al (Below.refl w.heap.size w) (.cells (mixC m) 44)) (.cells (mixC fun _ => 0) 44)
  clear e0 e1 h16
  go_enter Try.func29, Try.ntmps29
  go_wp2_with fail
  refine (H0.out _).mono ?_
  rintro e w1 ⟨hb, rfl⟩
  replace X2 := X2.below hb
  replace X4 := X4.below hb
  replace B := nxt B hb
  clear hb
  obtain ⟨b2, h2⟩ : ∃ b2, b2 = w.heap.size := ⟨_, rfl⟩
  have hb2 : w.heap.size ≤ b2 := by omega
  have hb4 : w.heap.size ≤ b2 + 1 := by omega
  rw [← h2] at X2 X4 ⊢
  clear h2
  cases r0 with
  | false =>
    have N0 := Lib.hid (show ¬ MixOk m from fun h => by have := E0.out.2 h; cases this)
    obtain ⟨⟨x0, x1, x2⟩, ⟨z0, z1, z2⟩, Y⟩ := set3_new X4 w.heap.size hb4 (fun _ => 0)
    obtain ⟨y0, y1, y2⟩ := Y.mix3
    have B' := below_set3 (v0 := .int .i16 0) (v1 := .int .i16 0) (v2 := .int .i16 0) B hb4
    clear X2 X4 Y B
    go_wp2
    refine bodyPost_ret (v := .tuple #[.agg #[.int .i16 0, .int .i16 0, .int .i16 0], .int .i64 1]) (by simp [results, Try.results29, go_sem, y0, y1, y2]) rfl ⟨B', .inl ⟨N0.out, rfl⟩⟩
  | true =>
    have P0 := Lib.hid (E0.out.1 rfl)
    go_wp2_with fail
    refine (H1.out _ _ rfl).mono ?_
    rintro e w2 ⟨rfl, hb⟩
    replace X2 := X2.below hb
    replace X4 := X4.below hb
    replace B := nxt B hb
    clear hb
    cases r1 with
    | false =>
      have N1 := Lib.hid (show ¬ (0 ≤ n ∧ n ≤ 5000) from fun h => by have := E1.out.2 h; cases this)
      obtain ⟨⟨x0, x1, x2⟩, ⟨z0, z1, z2⟩, Y⟩ := set3_new X4 w.heap.size hb4 (fun _ => 0)
      obtain ⟨y0, y1, y2⟩ := Y.mix3
      have B' := below_set3 (v0 := .int .i16 0) (v1 := .int .i16 0) (v2 := .int .i16 0) B hb4
      clear X2 X4 Y B
      go_wp2
      refine bodyPost_ret (v := .tuple #[.agg #[.int .i16 0, .int .i16 0, .int .i16 0], .int .i64 2]) (by simp [results, Try.results29, go_sem, y0, y1, y2]) rfl ⟨B', .inr (.inl ⟨P0.out, N1.out, rfl⟩)⟩
    | true =>
      have P1 := Lib.hid (E1.out.1 rfl)
      obtain ⟨c0, c1, c2⟩ := X2.mix3
      go_wp2_with fail
      refine (H2.out _ P0.out P1.out).mono ?_
      rintro e w3 ⟨hb, rfl⟩
      replace X4 := X4.below hb
      replace B := nxt B hb
      clear hb X2 c0 c1 c2
      obtain ⟨⟨x0, x1, x2⟩, ⟨z0, z1, z2⟩, Y⟩ := set3_new X4 w.heap.size hb4 (needM m n)
      obtain ⟨y0, y1, y2⟩ := Y.mix3
      have B' := below_set3 (v0 := .int .i16 (needM m n 0)) (v1 := .int .i16 (needM m n 1)) (v2 := .int .i16 (needM m n 2)) B hb4
      clear X4 Y B
      go_wp2
      refine bodyPost_ret (v := .tuple #[.agg #[.int .i16 (needM m n 0), .int .i16 (needM m n 1), .int .i16 (needM m n 2)], .int .i64 0]) (by simp [results, Try.results29, go_sem, y0, y1, y2]) rfl ⟨B', .inr (.inr ⟨P0.out, P1.out, rfl⟩)⟩
theorem mixFor_both (m : Nat → Int) (n : Int) (h16 : In16 m) : ∃ (f : Nat → Int) (c : Int),
    (∀ W, Calls Try.prog 28 #[.agg #[.int .i16 (m 0), .int .i16 (m 1), .int .i16 (m 2)], .int .i64 n] W fun e w' => Below W.heap.size W w' ∧ e = .returned (.tuple #[.agg #[.int .i16 (f 0), .int .i16 (f 1), .int .i16 (f 2)], .int .i64 c])) ∧
    ∀ W, Calls Try.prog 29 #[.agg #[.int .i16 (m 0), .int .i16 (m 1), .int .i16 (m 2)], .int .i64 n] W fun e w' => Below W.heap.size W w' ∧ e = .returned (.tuple #[.agg #[.int .i16 (f 0), .int .i16 (f 1), .int .i16 (f 2)], .int .i64 c]) := by
  by_cases h : MixOk m
  · by_cases h1 : 0 ≤ n ∧ n ≤ 5000
    · refine ⟨needM m n, 0, fun W => (specMixFor_any m n W h16).mono ?_, fun W => (implMixFor_any m n W h16).mono ?_⟩ <;>
      · rintro e w' ⟨hb, ⟨h', _⟩ | ⟨_, h', _⟩ | ⟨_, _, he⟩⟩
        · exact absurd h h'
        · exact absurd h1 h'
        · exact ⟨hb, he⟩
    · refine ⟨fun _ => 0, 2, fun W => (specMixFor_any m n W h16).mono ?_, fun W => (implMixFor_any m n W h16).mono ?_⟩ <;>
      · rintro e w' ⟨hb, ⟨h', _⟩ | ⟨_, _, he⟩ | ⟨_, h', _⟩⟩
        · exact absurd h h'
        · exact ⟨hb, he⟩
        · exact absurd h' h1
  · refine ⟨fun _ => 0, 1, fun W => (specMixFor_any m n W h16).mono ?_, fun W => (implMixFor_any m n W h16).mono ?_⟩ <;>
    · rintro e w' ⟨hb, ⟨_, he⟩ | ⟨h', _⟩ | ⟨h', _⟩⟩
      · exact ⟨hb, he⟩
      · exact absurd h' h
      · exact absurd h' h
namespace mixFor
theorem walk (a b d n : Int) (w : World) (ba : -32768 ≤ a ∧ a ≤ 32767) (bb : -32768 ≤ b ∧ b ≤ 32767) (bd : -32768 ≤ d ∧ d ≤ 32767) (bn : (Lit.int .i64 n).wf = true) :
    Calls Try.prog 8 #[.agg #[.int .i16 a, .int .i16 b, .int .i16 d], .int .i64 n] w fun e w' => e = .returned (.bool true) ∧ Below w.heap.size w w' := by
  obtain ⟨m, rfl, rfl, rfl⟩ : ∃ m : Nat → Int, m 0 = a ∧ m 1 = b ∧ m 2 = d := ⟨fun j => if j = 0 then a else if j = 1 then b else d, rfl, rfl, rfl⟩
  have h16 : In16 m := fun j hj => by
    obtain rfl | rfl | rfl : j = 0 ∨ j = 1 ∨ j = 2 := by omega
    · exact ba
    · exact bb
    · exact bd
  obtain ⟨f, c, hS, hI⟩ := mixFor_both m n h16
  have HS := Lib.hid hS
  have HI := Lib.hid hI
  have HT := Lib.hid (fun W => toMix_any m W)
  have HE := Lib.hid (fun W => eqMix_yes f W)
  have hrr : (c != c) = false := by simp
  have HX := Bx.new w (mixC m) 42
  have B := al (Below.refl w.heap.size w) (.cells (mixC m) 42)
  clear hS hI h16
  go_enter Try.func8, Try.ntmps8
  go_wp2_with fail
  refine (HT.out _).mono ?_
  rintro e w1 ⟨hb, rfl⟩
  replace HX := HX.below hb
  replace B := nxt B hb
  clear hb
  go_wp2_with fail
  refine (HS.out _).mono ?_
  rintro e w2 ⟨hb, rfl⟩
  replace HX := HX.below hb
  replace B := nxt B hb
  clear hb
  have hl1 : w.heap.size < w2.heap.size := HX.lt
  obtain ⟨c0, c1, c2⟩ := HX.mix3
  go_wp2_with fail
  refine (HT.out _).mono ?_
  rintro e w3 ⟨hb, rfl⟩
  have X5 := (Bx.new w2 (mixC f) 44).below hb
  replace B := nxt (al B _) hb
  clear hb HX c0 c1 c2
  go_wp2_with fail
  refine (HI.out _).mono ?_
  rintro e w4 ⟨hb, rfl⟩
  replace X5 := X5.below hb
  replace B := nxt B hb
  clear hb
  have hl5 : w2.heap.size < w4.heap.size := X5.lt
  obtain ⟨d0, d1, d2⟩ := X5.mix3
  go_wp2_with fail
  refine (HE.out _).mono ?_
  rintro e w5 ⟨hb, rfl⟩
  replace B := nxt (al B _) hb
  clear hb X5 d0 d1 d2
  go_wp2_with fail
  go_ret
  exact ⟨rfl, B⟩
end mixFor
end Go.Proofs.Ytgpnimbgckajlaa
