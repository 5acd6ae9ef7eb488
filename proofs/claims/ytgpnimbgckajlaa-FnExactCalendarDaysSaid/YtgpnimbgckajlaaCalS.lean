/-
  Days of the calendar: both sides of CalendarDays answer the same; the walk of the law. Conditions stand at each.
-/
import Derived.Test.YtgpnimbgckajlaaRows
import Derived.Test.YtgpnimbgckajlaaWith
import Derived.Test.YtgpnimbgckajlaaGangM
namespace Go.Proofs.Ytgpnimbgckajlaa
open Go Go.ChangeShapes Go.WideShapes Go.ChangeAt Go.RowKit
set_option linter.unusedVariables false
set_option linter.unusedSimpArgs false
set_option maxRecDepth 100000
set_option maxHeartbeats 4000000
theorem calL_step {s : Int} {f : Nat} {n l : Int} (h : 0 < l) : calL s (f + 1) n l = if (s + n) % 7 = 6 then calL s f (n + 1) l else calL s f (n + 1) (l - 1) := by
  rw [calL, if_neg (by omega)]
theorem calL_end {s : Int} : ∀ {f : Nat} {n l : Int}, l ≤ 0 → calL s f n l = n
  | 0, n, l, h => rfl
  | f + 1, n, l, h => by rw [calL, if_pos h]
def sunM (s n : Int) : Int := if (s + n) % 7 = 6 then 1 else 0
/-- what a round keeps: N days have passed, L are left, z will have passed in all. -/
def CalAt (s d z : Int) (N : Nat) (L : Int) : Prop := 0 ≤ L ∧ L ≤ 1000 ∧ 2 * L + sunM s N + N ≤ 2001 ∧ calL s (2001 - N) N L = z
theorem CalAt.start {s d : Int} (hd : 0 ≤ d ∧ d ≤ 1000) : CalAt s d (calL s 2001 0 d) 0 d := ⟨hd.1, hd.2, by unfold sunM; split <;> omega, rfl⟩
theorem CalAt.sunday {s d z : Int} {N : Nat} {L : Int} (h : CalAt s d z N L) (hl : 0 < L) (hs : (s + N) % 7 = 6) : CalAt s d z (N + 1) L := by
  obtain ⟨h1, h2, h3, h4⟩ := h
  have e1 : sunM s N = 1 := if_pos hs
  have e2 : sunM s ((N + 1 : Nat) : Int) = 0 := if_neg (by omega)
  refine ⟨h1, h2, by rw [e2]; rw [e1] at h3; omega, ?_⟩
  rw [e1] at h3
  obtain ⟨f, hf⟩ : ∃ f, 2001 - N = f + 1 := ⟨2001 - N - 1, by omega⟩
  rw [hf, calL_step hl, if_pos hs] at h4
  rw [show 2001 - (N + 1) = f by omega]
  exact_mod_cast h4
theorem CalAt.other {s d z : Int} {N : Nat} {L : Int} (h : CalAt s d z N L) (hl : 0 < L) (hs : ¬ (s + N) % 7 = 6) : CalAt s d z (N + 1) (L - 1) := by
  obtain ⟨h1, h2, h3, h4⟩ := h
  have e1 : sunM s N = 0 := if_neg hs
  have e2 : sunM s ((N + 1 : Nat) : Int) ≤ 1 := by unfold sunM; split <;> omega
  rw [e1] at h3
  refine ⟨by omega, by omega, by omega, ?_⟩
  obtain ⟨f, hf⟩ : ∃ f, 2001 - N = f + 1 := ⟨2001 - N - 1, by omega⟩
  rw [hf, calL_step hl, if_neg hs] at h4
  rw [show 2001 - (N + 1) = f by omega]
  exact_mod_cast h4
theorem CalAt.lt {s d z : Int} {N : Nat} {L : Int} (h : CalAt s d z N L) (hl : 0 < L) : N < 2001 := by
  obtain ⟨h1, h2, h3, h4⟩ := h
  have : 0 ≤ sunM s N := by unfold sunM; split <;> omega
  omega
theorem CalAt.done {s d z : Int} {N : Nat} {L : Int} (h : CalAt s d z N L) (hl : ¬ 0 < L) : z = N := by
  rw [← h.2.2.2, calL_end (by omega)]
/-- the code of a start and days. -/
def CalPost (s d : Int) (w : World) (e : Ending) (w' : World) : Prop :=
  Below w.heap.size w w' ∧ ((((0 ≤ s ∧ s ≤ 6) ∧ (0 ≤ d ∧ d ≤ 1000)) ∧ e = .returned (.tuple #[.int .i64 (calL s 2001 0 d), .int .i64 0])) ∨ (¬ ((0 ≤ s ∧ s ≤ 6) ∧ (0 ≤ d ∧ d ≤ 1000)) ∧ e = .returned (.tuple #[.int .i64 0, .int .i64 2])))

theorem specCal_any (s d : Int) (w : World) : Calls Try.prog 23 #[.int .i64 s, .int .i64 d] w (CalPost s d w) := by
  obtain ⟨r0, e0⟩ := dec_ex (0 ≤ s ∧ s ≤ 6)
  obtain ⟨r1, e1⟩ := dec_ex (0 ≤ d ∧ d ≤ 1000)
  have H0 := Lib.hid (fun W => in_any s 0 6 r0 W e0)
  have H1 := Lib.hid (fun W => in_any d 0 1000 r1 W e1)
  have E0 := Lib.hid e0
  have E1 := Lib.hid e1
  clear e0 e1
  go_enter Try.func23, Try.ntmps23
  go_wp2_with fail
  refine (H0.out _).mono ?_
  rintro e w1 ⟨rfl, rfl⟩
  cases r0 with
  | false =>
    have N0 := Lib.hid (show ¬ (0 ≤ s ∧ s ≤ 6) from fun h => by have := E0.out.2 h; cases this)
    go_wp2
    exact bodyPost_ret (results_tmp2 Try.results23 _ _ _) rfl ⟨Below.refl _ _, .inr ⟨fun h => N0.out h.1, rfl⟩⟩
  | true =>
    have P0 := E0.out.1 rfl
    go_wp2_with fail
    refine (H1.out _).mono ?_
    rintro e w1 ⟨rfl, rfl⟩
    cases r1 with
    | false =>
      have N1 := Lib.hid (show ¬ (0 ≤ d ∧ d ≤ 1000) from fun h => by have := E1.out.2 h; cases this)
      go_wp2
      exact bodyPost_ret (results_tmp2 Try.results23 _ _ _) rfl ⟨Below.refl _ _, .inr ⟨fun h => N1.out h.2, rfl⟩⟩
    | true =>
      have P1 := E1.out.1 rfl
      obtain ⟨z, hz⟩ : ∃ z, z = calL s 2001 0 d := ⟨_, rfl⟩
      have HZ := Lib.hid hz
      have hst := CalAt.start (s := s) P1
      rw [← hz] at hst
      have HST := Lib.hid hst
      clear hz hst E0 E1
      go_wp2
      go_loop [6, 7] (fun t6 t7 => ∃ (N : Nat) (L : Int), t6 = .int .i64 N ∧ t7 = .int .i64 L ∧ CalAt s d z N L) (fun t6 t7 => 2001 - (intOf t6).toNat)
      case atStart => exact ⟨0, d, rfl, rfl, HST.out⟩
      case round =>
        obtain ⟨N, L, rfl, rfl, hat⟩ := hrel
        have HA := Lib.hid hat
        by_cases hl : 0 < L
        · have hlt := hat.lt hl
          have hL := hat.2.1
          obtain ⟨x, hx⟩ : ∃ x, x = (s + (N : Int)) % 7 := ⟨_, rfl⟩
          have hm : Int.tmod (s + (N : Int)) 7 = x := by rw [Int.tmod_eq_emod_of_nonneg (by omega)]; exact hx.symm
          have hx2 : (s + (N : Int)) % 7 = x := hx.symm
          have HX := Lib.hid hx2
          clear hat
          by_cases hs : x = 6
          · have d1 : (x != 6) = false := by simpa using hs
            have h1 := HA.out.sunday hl (by rw [HX.out]; exact hs)
            have HN := Lib.hid h1
            clear h1 hs hx
            go_wp2
            exact ⟨⟨N + 1, L, by first | go_num | simp, rfl, HN.out⟩, by simp [intOf]; omega⟩
          · have d1 : (x != 6) = true := by simpa using hs
            have h1 := HA.out.other hl (by rw [HX.out]; exact hs)
            have HN := Lib.hid h1
            clear h1 hs hx
            go_wp2
            exact ⟨⟨N + 1, L - 1, by first | go_num | simp, by first | rfl | simp, HN.out⟩, by simp [intOf]; omega⟩
        · have hz := hat.done hl
          subst hz
          go_wp2
          exact bodyPost_ret (results_tmp2 Try.results23 _ _ _) rfl ⟨Below.refl _ _, .inl ⟨⟨P0, P1⟩, by rw [← HZ.out]; rfl⟩⟩
theorem implCal_any (s d : Int) (w : World) : Calls Try.prog 24 #[.int .i64 s, .int .i64 d] w (CalPost s d w) := by
  obtain ⟨r0, e0⟩ := dec_ex (0 ≤ s ∧ s ≤ 6)
  obtain ⟨r1, e1⟩ := dec_ex (0 ≤ d ∧ d ≤ 1000)
  have H0 := Lib.hid (fun W => within1 s 0 6 r0 W e0)
  have H1 := Lib.hid (fun W => within1 d 0 1000 r1 W e1)
  have E0 := Lib.hid e0
  have E1 := Lib.hid e1
  clear e0 e1
  go_enter Try.func24, Try.ntmps24
  go_wp2_with fail
  refine (H0.out _).mono ?_
  rintro e w1 ⟨rfl, B⟩
  cases r0 with
  | false =>
    have N0 := Lib.hid (show ¬ (0 ≤ s ∧ s ≤ 6) from fun h => by have := E0.out.2 h; cases this)
    go_wp2
    exact bodyPost_ret (results_tmp2 Try.results24 _ _ _) rfl ⟨B, .inr ⟨fun h => N0.out h.1, rfl⟩⟩
  | true =>
    have P0 := E0.out.1 rfl
    go_wp2_with fail
    refine (H1.out _).mono ?_
    rintro e w2 ⟨rfl, hb⟩
    replace B := nxt B hb
    clear hb
    cases r1 with
    | false =>
      have N1 := Lib.hid (show ¬ (0 ≤ d ∧ d ≤ 1000) from fun h => by have := E1.out.2 h; cases this)
      go_wp2
      exact bodyPost_ret (results_tmp2 Try.results24 _ _ _) rfl ⟨B, .inr ⟨fun h => N1.out h.2, rfl⟩⟩
    | true =>
      have P1 := E1.out.1 rfl
      obtain ⟨z, hz⟩ : ∃ z, z = calL s 2001 0 d := ⟨_, rfl⟩
      have HZ := Lib.hid hz
      have hst := CalAt.start (s := s) P1
      rw [← hz] at hst
      have HST := Lib.hid hst
      clear hz hst E0 E1
      go_wp2
      go_loop [6, 7] (fun t6 t7 => ∃ (N : Nat) (L : Int), t6 = .int .i64 N ∧ t7 = .int .i64 L ∧ CalAt s d z N L) (fun t6 t7 => 2001 - (intOf t6).toNat)
      case atStart => exact ⟨0, d, rfl, rfl, HST.out⟩
      case round =>
        obtain ⟨N, L, rfl, rfl, hat⟩ := hrel
        have HA := Lib.hid hat
        by_cases hl : 0 < L
        · have hlt := hat.lt hl
          have hL := hat.2.1
          obtain ⟨x, hx⟩ : ∃ x, x = (s + (N : Int)) % 7 := ⟨_, rfl⟩
          have hm : Int.tmod (s + (N : Int)) 7 = x := by rw [Int.tmod_eq_emod_of_nonneg (by omega)]; exact hx.symm
          have hx2 : (s + (N : Int)) % 7 = x := hx.symm
          have HX := Lib.hid hx2
          clear hat
          by_cases hs : x = 6
          · have d1 : (x != 6) = false := by simpa using hs
            have h1 := HA.out.sunday hl (by rw [HX.out]; exact hs)
            have HN := Lib.hid h1
            clear h1 hs hx
            go_wp2
            exact ⟨⟨N + 1, L, by first | go_num | simp, rfl, HN.out⟩, by simp [intOf]; omega⟩
          · have d1 : (x != 6) = true := by simpa using hs
            have h1 := HA.out.other hl (by rw [HX.out]; exact hs)
            have HN := Lib.hid h1
            clear h1 hs hx
            go_wp2
            exact ⟨⟨N + 1, L - 1, by first | go_num | simp, by first | rfl | simp, HN.out⟩, by simp [intOf]; omega⟩
        · have hz := hat.done hl
          subst hz
          go_wp2
          exact bodyPost_ret (results_tmp2 Try.results24 _ _ _) rfl ⟨B, .inl ⟨⟨P0, P1⟩, by rw [← HZ.out]; rfl⟩⟩

theorem calendarDays_both (s d : Int) : ∃ z c : Int, (∀ W, Calls Try.prog 23 #[.int .i64 s, .int .i64 d] W fun e w' => Below W.heap.size W w' ∧ e = .returned (.tuple #[.int .i64 z, .int .i64 c])) ∧
    ∀ W, Calls Try.prog 24 #[.int .i64 s, .int .i64 d] W fun e w' => Below W.heap.size W w' ∧ e = .returned (.tuple #[.int .i64 z, .int .i64 c]) := by
  by_cases h : (0 ≤ s ∧ s ≤ 6) ∧ (0 ≤ d ∧ d ≤ 1000)
  · refine ⟨calL s 2001 0 d, 0, fun W => (specCal_any s d W).mono ?_, fun W => (implCal_any s d W).mono ?_⟩ <;>
    · rintro e w' ⟨hb, ⟨_, he⟩ | ⟨h', _⟩⟩
      · exact ⟨hb, he⟩
      · exact absurd h h'
  · refine ⟨0, 2, fun W => (specCal_any s d W).mono ?_, fun W => (implCal_any s d W).mono ?_⟩ <;>
    · rintro e w' ⟨hb, ⟨h', _⟩ | ⟨_, he⟩⟩
      · exact absurd h' h
      · exact ⟨hb, he⟩
end Go.Proofs.Ytgpnimbgckajlaa
