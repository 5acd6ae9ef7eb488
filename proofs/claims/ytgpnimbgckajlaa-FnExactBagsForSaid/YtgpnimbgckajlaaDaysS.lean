/-
  The days that a gang takes: contracts of spec.l07Days, spec.DaysFor, impl.roundedUp, (impl.crew).daysFor, impl.DaysFor. Conditions stand at each.
-/
import Derived.Test.YtgpnimbgckajlaaRows
import Derived.Test.YtgpnimbgckajlaaGangS
namespace Go.Proofs.Ytgpnimbgckajlaa
open Go Go.ChangeShapes Go.WideShapes Go.ChangeAt Go.RowKit
set_option linter.unusedVariables false
set_option linter.unusedSimpArgs false
set_option maxRecDepth 100000
set_option maxHeartbeats 4000000
theorem roundedUp_any (w p : Int) (W : World) (hw : 0 ≤ w ∧ w ≤ 600000) (hp : 1 ≤ p ∧ p ≤ 5000) :
    Calls Try.prog 77 #[.int .i64 w, .int .i64 p] W fun e w' => e = .returned (.int .i64 (upD w p)) ∧ w' = W := by
  have hb := upD_bd hw.1 hp.1
  obtain ⟨d, hd⟩ : ∃ d, d = upD w p := ⟨_, rfl⟩
  rw [← hd] at hb ⊢
  have e1 : Int.tdiv (w + p - 1) p = d := by rw [Int.tdiv_eq_ediv_of_nonneg (by omega)]; exact hd.symm
  have e2 : (w + p - 1) / p = d := hd.symm
  have e3 : IntKind.i64.wrap d = d := IntWalk.i64_in _ (by omega)
  have e4 : wrap64 d = d := IntWalk.wrap64_in _ (by omega)
  clear hd
  go_enter Try.func77, Try.ntmps77
  go_wp2
  go_ret
  exact ⟨rfl, rfl⟩
theorem l07Days_any (b : Nat) (p q s t u : Int) (ty : TypeId) (wk : Int) (w : World) (hG : GangOk p q s t u) (hw : 0 ≤ wk ∧ wk ≤ 2000)
    (h : Bx w b (gangC p q s t u) ty) :
    Calls Try.prog 63 #[.pointer (some ⟨b, 0, none⟩), .int .i64 wk] w fun e w' => Below w.heap.size w w' ∧ e = .returned (.int .i64 (daysL q s t wk)) := by
  obtain ⟨bp, bq, bs, bt, bu⟩ := hG
  obtain ⟨c0, c1, c2, c3, c4⟩ := h.gang
  have hb := upD_bd hw.1 bq.1
  obtain ⟨d, hd⟩ : ∃ d, d = upD wk q := ⟨_, rfl⟩
  have hz : daysL q s t wk = if d = 0 then 0 else d + (d - 1) / s * t := by unfold daysL; rw [← hd]
  rw [hz]
  rw [← hd] at hb
  have w1 : IntKind.i64.wrap q = q := IntWalk.i64_in _ (by omega)
  have w2 : IntKind.i64.wrap s = s := IntWalk.i64_in _ (by omega)
  have w3 : IntKind.i64.wrap t = t := IntWalk.i64_in _ (by omega)
  have e1 : Int.tdiv (wk + q - 1) q = d := by rw [Int.tdiv_eq_ediv_of_nonneg (by omega)]; exact hd.symm
  have e2 : (wk + q - 1) / q = d := hd.symm
  have e3 : IntKind.i64.wrap d = d := IntWalk.i64_in _ (by omega)
  have e4 : wrap64 d = d := IntWalk.wrap64_in _ (by omega)
  clear hd hz h
  by_cases h0 : d = 0
  · have HE := Lib.hid e2
    have HE1 := Lib.hid e1
    rw [if_pos h0]
    subst h0
    go_enter Try.func63, Try.ntmps63
    go_wp2
    go_quiet (fail)
    go_wp2
    go_ret
    exact ⟨below_drewN' (Below.refl _ _) _, rfl⟩
  · have d0 : (d == 0) = false := by simpa using h0
    have hk := rests_bd (d := d - 1) (k := s) (r := t) (by omega) bs.1 bt
    rw [if_neg h0]
    obtain ⟨k, hk1⟩ : ∃ k, k = (d - 1) / s := ⟨_, rfl⟩
    have f1 : Int.tdiv (d - 1) s = k := by rw [Int.tdiv_eq_ediv_of_nonneg (by omega)]; exact hk1.symm
    have f2 : (d - 1) / s = k := hk1.symm
    rw [f2] at hk ⊢
    obtain ⟨m, hm⟩ : ∃ m, m = k * t := ⟨_, rfl⟩
    have f3 : k * t = m := hm.symm
    rw [f3] at hk ⊢
    have f4 : IntKind.i64.wrap k = k := IntWalk.i64_in _ (by omega)
    have f5 : wrap64 k = k := IntWalk.wrap64_in _ (by omega)
    have f6 : IntKind.i64.wrap m = m := IntWalk.i64_in _ (by omega)
    have f7 : wrap64 m = m := IntWalk.wrap64_in _ (by omega)
    clear hk1 hm
    go_enter Try.func63, Try.ntmps63
    go_wp2
    go_quiet (fail)
    go_wp2
    go_quiet (fail)
    go_wp2
    go_ret
    exact ⟨below_drewN' (below_drewN' (Below.refl _ _) _) _, rfl⟩
theorem daysFor_any (p q s t u : Int) (wk : Int) (w : World) (hG : GangOk p q s t u) (hw : 0 ≤ wk ∧ wk ≤ 2000) :
    Calls Try.prog 64 #[.agg #[.int .i64 p, .int .i64 q, .int .i64 s, .int .i64 t, .int .i64 u], .int .i64 wk] w fun e w' => Below w.heap.size w w' ∧ e = .returned (.int .i64 (daysL q s t wk)) := by
  obtain ⟨bp, bq, bs, bt, bu⟩ := hG
  have hb := upD_bd hw.1 bq.1
  have hz := daysL_max (p := q) (k := s) (r := t) bq.1 bs.1 hw.1
  have HR := Lib.hid (fun W => roundedUp_any wk q W ⟨hw.1, by omega⟩ ⟨bq.1, by omega⟩)
  obtain ⟨d, hd⟩ : ∃ d, d = upD wk q := ⟨_, rfl⟩
  rw [← hd] at hb HR hz
  rw [hz]
  clear hz hd
  have B := al (Below.refl w.heap.size w) (.cells #[.int .i64 p, .int .i64 q, .int .i64 s, .int .i64 t, .int .i64 u] 88)
  have HX := Bx.new w (crewC p q s t u) 88
  obtain ⟨x, hx⟩ : ∃ x, x = max (d - 1) 0 := ⟨_, rfl⟩
  have hx2 : (d = 0 ∧ x = 0) ∨ (1 ≤ d ∧ x = d - 1) := by omega
  have x1 : max (d - 1) 0 = x := hx.symm
  rw [x1]
  have hk := rests_bd (d := x) (k := s) (r := t) (by omega) bs.1 bt
  obtain ⟨k, hk1⟩ : ∃ k, k = x / s := ⟨_, rfl⟩
  have f1 : Int.tdiv x s = k := by rw [Int.tdiv_eq_ediv_of_nonneg (by omega)]; exact hk1.symm
  have f2 : x / s = k := hk1.symm
  rw [f2] at hk ⊢
  obtain ⟨m, hm⟩ : ∃ m, m = k * t := ⟨_, rfl⟩
  have f3 : k * t = m := hm.symm
  rw [f3] at hk ⊢
  have f4 : IntKind.i64.wrap k = k := IntWalk.i64_in _ (by omega)
  have f5 : wrap64 k = k := IntWalk.wrap64_in _ (by omega)
  have f6 : IntKind.i64.wrap m = m := IntWalk.i64_in _ (by omega)
  have f7 : wrap64 m = m := IntWalk.wrap64_in _ (by omega)
  have hxb : 0 ≤ x ∧ x ≤ 2000 := by omega
  have f8 : ¬ x < 0 := by omega
  clear hk1 hm hx
  go_enter Try.func64, Try.ntmps64
  go_wp2_with fail
  refine (HR.out _).mono ?_
  rintro e w1 ⟨rfl, hw1⟩
  subst hw1
  obtain ⟨c0, c1, c2, c3, c4⟩ := HX.crew
  obtain ⟨W, hW⟩ : ∃ W : World, W = w.alloc (.cells #[.int .i64 p, .int .i64 q, .int .i64 s, .int .i64 t, .int .i64 u] 88) := ⟨_, rfl⟩
  rw [← hW] at B ⊢
  simp only [crewC] at c0 c1 c2 c3 c4
  rw [← hW] at c0 c1 c2 c3 c4
  clear hW HX
  rcases hx2 with ⟨rfl, rfl⟩ | ⟨h1, rfl⟩
  · go_wp2
    go_quiet (fail)
    go_wp2
    go_ret
    exact ⟨below_drewN' B _, by rw [show (0 : Int) + m = m from Int.zero_add m]; rfl⟩
  · have g1 : 0 ≤ d - 1 := by omega
    go_wp2
    go_quiet (fail)
    go_wp2
    go_ret
    exact ⟨below_drewN' B _, rfl⟩
/-- what DaysFor answers. -/
def DfPost (p q s t u wk : Int) (w : World) (e : Ending) (w' : World) : Prop :=
  Below w.heap.size w w' ∧ ((¬ GangOk p q s t u ∧ e = .returned (.tuple #[.int .i64 0, .int .i64 1])) ∨ (GangOk p q s t u ∧ ¬ (0 ≤ wk ∧ wk ≤ 2000) ∧ e = .returned (.tuple #[.int .i64 0, .int .i64 2])) ∨
    (GangOk p q s t u ∧ (0 ≤ wk ∧ wk ≤ 2000) ∧ e = .returned (.tuple #[.int .i64 (daysL q s t wk), .int .i64 0])))
theorem specDaysFor_any (p q s t u wk : Int) (w : World) (bp : -128 ≤ p ∧ p ≤ 127) (bq : -128 ≤ q ∧ q ≤ 127) (bs : -128 ≤ s ∧ s ≤ 127) (bt : -128 ≤ t ∧ t ≤ 127) (bu : -32768 ≤ u ∧ u ≤ 32767) :
    Calls Try.prog 21 #[.agg #[.int .i8 p, .int .i8 q, .int .i8 s, .int .i8 t, .int .i16 u], .int .i64 wk] w (DfPost p q s t u wk w) := by
  obtain ⟨r0, e0⟩ := dec_ex (GangOk p q s t u)
  obtain ⟨r1, e1⟩ := dec_ex (0 ≤ wk ∧ wk ≤ 2000)
  have H0 := Lib.hid (fun b W (hb : Bx W b (gangC p q s t u) 27) => l07Gang_any b p q s t u 27 r0 W bp bq bs bt bu hb e0)
  have H1 := Lib.hid (fun W => in_any wk 0 2000 r1 W e1)
  have H2 := Lib.hid (fun b W hG hw (hb : Bx W b (gangC p q s t u) 27) => l07Days_any b p q s t u 27 wk W hG hw hb)
  have E0 := Lib.hid e0
  have E1 := Lib.hid e1
  have HX := Bx.new w (gangC p q s t u) 27
  have B := al (Below.refl w.heap.size w) (.cells (gangC p q s t u) 27)
  clear e0 e1 bp bq bs bt bu
  go_enter Try.func21, Try.ntmps21
  go_wp2_with fail
  refine (H0.out _ _ HX).mono ?_
  rintro e w1 ⟨hb, rfl⟩
  replace HX := HX.below hb
  replace B := nxt B hb
  clear hb
  cases r0 with
  | false =>
    have N0 := Lib.hid (show ¬ GangOk p q s t u from fun h => by have := E0.out.2 h; cases this)
    go_wp2
    exact bodyPost_ret (results_tmp2 Try.results21 _ _ _) rfl ⟨B, .inl ⟨N0.out, rfl⟩⟩
  | true =>
    have P0 := Lib.hid (E0.out.1 rfl)
    go_wp2_with fail
    refine (H1.out _).mono ?_
    rintro e w2 ⟨rfl, hw⟩
    subst hw
    cases r1 with
    | false =>
      have N1 := Lib.hid (show ¬ (0 ≤ wk ∧ wk ≤ 2000) from fun h => by have := E1.out.2 h; cases this)
      go_wp2
      exact bodyPost_ret (results_tmp2 Try.results21 _ _ _) rfl ⟨B, .inr (.inl ⟨P0.out, N1.out, rfl⟩)⟩
    | true =>
      have P1 := Lib.hid (E1.out.1 rfl)
      go_wp2_with fail
      refine (H2.out _ _ P0.out P1.out HX).mono ?_
      rintro e w3 ⟨hb, rfl⟩
      replace B := nxt B hb
      clear hb HX
      go_wp2
      exact bodyPost_ret (results_tmp2 Try.results21 _ _ _) rfl ⟨B, .inr (.inr ⟨P0.out, P1.out, rfl⟩)⟩
theorem implDaysFor_any (p q s t u wk : Int) (w : World) (bp : -128 ≤ p ∧ p ≤ 127) (bq : -128 ≤ q ∧ q ≤ 127) (bs : -128 ≤ s ∧ s ≤ 127) (bt : -128 ≤ t ∧ t ≤ 127) (bu : -32768 ≤ u ∧ u ≤ 32767) :
    Calls Try.prog 22 #[.agg #[.int .i8 p, .int .i8 q, .int .i8 s, .int .i8 t, .int .i16 u], .int .i64 wk] w (DfPost p q s t u wk w) := by
  obtain ⟨r0, e0⟩ := dec_ex (GangOk p q s t u)
  obtain ⟨r1, e1⟩ := dec_ex (0 ≤ wk ∧ wk ≤ 2000)
  have H0 := Lib.hid (fun W => implGang_any p q s t u r0 W bp bq bs bt bu e0)
  have H1 := Lib.hid (fun W b hb => within1b wk 0 2000 r1 W b hb e1)
  have H2 := Lib.hid (fun W => crewOf_any p q s t u W bp bq bs bt bu)
  have H3 := Lib.hid (fun W hG hw => daysFor_any p q s t u wk W hG hw)
  have E0 := Lib.hid e0
  have E1 := Lib.hid e1
  have HX := Bx.new w (gangC p q s t u) 27
  have B := al (Below.refl w.heap.size w) (.cells (gangC p q s t u) 27)
  clear e0 e1 bp bq bs bt bu
  go_enter Try.func22, Try.ntmps22
  go_wp2_with fail
  refine (H0.out _).mono ?_
  rintro e w1 ⟨hb, rfl⟩
  replace HX := HX.below hb
  replace B := nxt B hb
  clear hb
  cases r0 with
  | false =>
    have N0 := Lib.hid (show ¬ GangOk p q s t u from fun h => by have := E0.out.2 h; cases this)
    go_wp2
    exact bodyPost_ret (results_tmp2 Try.results22 _ _ _) rfl ⟨B, .inl ⟨N0.out, rfl⟩⟩
  | true =>
    have P0 := Lib.hid (E0.out.1 rfl)
    go_wp2_with fail
    refine (H1.out _ _ rfl).mono ?_
    rintro e w2 ⟨rfl, hb⟩
    replace HX := HX.below hb
    replace B := nxt B hb
    clear hb
    cases r1 with
    | false =>
      have N1 := Lib.hid (show ¬ (0 ≤ wk ∧ wk ≤ 2000) from fun h => by have := E1.out.2 h; cases this)
      go_wp2
      exact bodyPost_ret (results_tmp2 Try.results22 _ _ _) rfl ⟨B, .inr (.inl ⟨P0.out, N1.out, rfl⟩)⟩
    | true =>
      have P1 := Lib.hid (E1.out.1 rfl)
      obtain ⟨c0, c1, c2, c3, c4⟩ := HX.gang
      go_wp2_with fail
      refine (H2.out _).mono ?_
      rintro e w3 ⟨rfl, hb⟩
      replace B := nxt B hb
      clear hb HX c0 c1 c2 c3 c4
      go_wp2_with fail
      refine (H3.out _ P0.out P1.out).mono ?_
      rintro e w4 ⟨hb, rfl⟩
      replace B := nxt B hb
      clear hb
      go_wp2
      exact bodyPost_ret (results_tmp2 Try.results22 _ _ _) rfl ⟨B, .inr (.inr ⟨P0.out, P1.out, rfl⟩)⟩
theorem daysFor_both (p q s t u wk : Int) (bp : -128 ≤ p ∧ p ≤ 127) (bq : -128 ≤ q ∧ q ≤ 127) (bs : -128 ≤ s ∧ s ≤ 127) (bt : -128 ≤ t ∧ t ≤ 127) (bu : -32768 ≤ u ∧ u ≤ 32767) :
    ∃ z c : Int, (∀ W, Calls Try.prog 21 #[.agg #[.int .i8 p, .int .i8 q, .int .i8 s, .int .i8 t, .int .i16 u], .int .i64 wk] W fun e w' => Below W.heap.size W w' ∧ e = .returned (.tuple #[.int .i64 z, .int .i64 c])) ∧
      ∀ W, Calls Try.prog 22 #[.agg #[.int .i8 p, .int .i8 q, .int .i8 s, .int .i8 t, .int .i16 u], .int .i64 wk] W fun e w' => Below W.heap.size W w' ∧ e = .returned (.tuple #[.int .i64 z, .int .i64 c]) := by
  by_cases h : GangOk p q s t u
  · by_cases h1 : 0 ≤ wk ∧ wk ≤ 2000
    · refine ⟨daysL q s t wk, 0, fun W => (specDaysFor_any p q s t u wk W bp bq bs bt bu).mono ?_, fun W => (implDaysFor_any p q s t u wk W bp bq bs bt bu).mono ?_⟩ <;>
      · rintro e w' ⟨hb, ⟨h', _⟩ | ⟨_, h', _⟩ | ⟨_, _, he⟩⟩
        · exact absurd h h'
        · exact absurd h1 h'
        · exact ⟨hb, he⟩
    · refine ⟨0, 2, fun W => (specDaysFor_any p q s t u wk W bp bq bs bt bu).mono ?_, fun W => (implDaysFor_any p q s t u wk W bp bq bs bt bu).mono ?_⟩ <;>
      · rintro e w' ⟨hb, ⟨h', _⟩ | ⟨_, _, he⟩ | ⟨_, h', _⟩⟩
        · exact absurd h h'
        · exact ⟨hb, he⟩
        · exact absurd h' h1
  · refine ⟨0, 1, fun W => (specDaysFor_any p q s t u wk W bp bq bs bt bu).mono ?_, fun W => (implDaysFor_any p q s t u wk W bp bq bs bt bu).mono ?_⟩ <;>
    · rintro e w' ⟨hb, ⟨_, he⟩ | ⟨h', _⟩ | ⟨h', _⟩⟩
      · exact ⟨hb, he⟩
      · exact absurd h' h
      · exact absurd h' h
end Go.Proofs.Ytgpnimbgckajlaa
