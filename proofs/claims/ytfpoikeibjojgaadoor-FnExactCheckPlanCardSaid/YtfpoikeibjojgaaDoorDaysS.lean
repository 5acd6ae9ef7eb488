/-
  The days that a gang takes: contracts of spec.l07Days, spec.DaysFor, impl.roundedUp, (impl.crew).daysFor, impl.DaysFor. Conditions stand at each.
-/
import Derived.Test.YtfpoikeibjojgaaDoorRows
import Derived.Test.YtfpoikeibjojgaaDoorGangS
namespace Go.Proofs.YtfpoikeibjojgaaDoor
open Go Go.ChangeShapes Go.WideShapes Go.ChangeAt Go.RowKit
set_option linter.unusedVariables false
set_option linter.unusedSimpArgs false
set_option maxRecDepth 100000
set_option maxHeartbeats 4000000
theorem roundedUp_any (w p : Int) (W : World) (hw : 0 ≤ w ∧ w ≤ 600000) (hp : 1 ≤ p ∧ p ≤ 5000) :
    Calls Tryd.prog 100 #[.int .i64 w, .int .i64 p] W fun e w' => e = .returned (.int .i64 (upD w p)) ∧ w' = W := by
  have hb := upD_bd hw.1 hp.1
  obtain ⟨d, hd⟩ : ∃ d, d = upD w p := ⟨_, rfl⟩
  rw [← hd] at hb ⊢
  have e1 : Int.tdiv (w + p - 1) p = d := by rw [Int.tdiv_eq_ediv_of_nonneg (by omega)]; exact hd.symm
  have e2 : (w + p - 1) / p = d := hd.symm
  have e3 : IntKind.i64.wrap d = d := IntWalk.i64_in _ (by omega)
  have e4 : wrap64 d = d := IntWalk.wrap64_in _ (by omega)
  clear hd
  go_enter Tryd.func100, Tryd.ntmps100
  go_wp2
  go_ret
  exact ⟨rfl, rfl⟩
theorem l07Days_any (b : Nat) (p q s t u : Int) (ty : TypeId) (wk : Int) (w : World) (hG : GangOk p q s t u) (hw : 0 ≤ wk ∧ wk ≤ 2000)
    (h : Bx w b (gangC p q s t u) ty) :
    Calls Tryd.prog 69 #[.pointer (some ⟨b, 0, none⟩), .int .i64 wk] w fun e w' => Below w.heap.size w w' ∧ e = .returned (.int .i64 (daysL q s t wk)) := by
  obtain ⟨bp, bq, bs, bt, bu⟩ := hG
  obtain ⟨c0, c1, c2, c3, c4⟩ := h.gang
  have hb := upD_bd hw.1 bq.1
  obtain ⟨d, hd⟩ : ∃ d, d = upD wk q := ⟨_, rfl⟩
  have hz : daysL q s t wk = if d = 0 then 0 else d + (d - 1) / s * t := by unfold daysL; rw [← hd]
  rw [hz]
  rw [← hd] at hb
  have w1 : IntKind.i64.wrap q = q := IntWalk.i64_in _ (by omega)
  have w2 : IntKind.i64.wrap s = s := IntWalk.i64_in _ (by omega)
  have w3 : IntKind.i64.wrap t = t := IntWalk.i64_in _ (by omega)
  have e1 : Int.tdiv (wk + q - 1) q = d := by rw [Int.tdiv_eq_ediv_of_nonneg (by omega)]; exact hd.symm
  have e2 : (wk + q - 1) / q = d := hd.symm
  have e3 : IntKind.i64.wrap d = d := IntWalk.i64_in _ (by omega)
  have e4 : wrap64 d = d := IntWalk.wrap64_in _ (by omega)
  clear hd hz h
  by_cases h0 : d = 0
  · have HE := Lib.hid e2
    have HE1 := Lib.hid e1
    rw [if_pos h0]
    subst h0
    go_enter Tryd.func69, Tryd.ntmps69
    go_wp2
    go_quiet (fail)
    go_wp2
    go_ret
    exact ⟨below_drewN' (Below.refl _ _) _, rfl⟩
  · have d0 : (d == 0) = false := by simpa using h0
    have hk := rests_bd (d := d - 1) (k := s) (r := t) (by omega) bs.1 bt
    rw [if_neg h0]
    obtain ⟨k, hk1⟩ : ∃ k, k = (d - 1) / s := ⟨_, rfl⟩
    have f1 : Int.tdiv (d - 1) s = k := by rw [Int.tdiv_eq_ediv_of_nonneg (by omega)]; exact hk1.symm
    have f2 : (d - 1) / s = k := hk1.symm
    rw [f2] at hk ⊢
    obtain ⟨m, hm⟩ : ∃ m, m = k * t := ⟨_, rfl⟩
    have f3 : k * t = m := hm.symm
    rw [f3] at hk ⊢
    have f4 : IntKind.i64.wrap k = k := IntWalk.i64_in _ (by omega)
    have f5 : wrap64 k = k := IntWalk.wrap64_in _ (by omega)
    have f6 : IntKind.i64.wrap m = m := IntWalk.i64_in _ (by omega)
    have f7 : wrap64 m = m := IntWalk.wrap64_in _ (by omega)
    clear hk1 hm
    go_enter Tryd.func69, Tryd.ntmps69
    go_wp2
    go_quiet (fail)
    go_wp2
    go_quiet (fail)
    go_wp2
    go_ret
    exact ⟨below_drewN' (below_drewN' (Below.refl _ _) _) _, rfl⟩
theorem daysFor_any (p q s t u : Int) (wk : Int) (w : World) (hG : GangOk p q s t u) (hw : 0 ≤ wk ∧ wk ≤ 2000) :
    Calls Tryd.prog 75 #[.agg #[.int .i64 p, .int .i64 q, .int .i64 s, .int .i64 t, .int .i64 u], .int .i64 wk] w fun e w' => Below w.heap.size w w' ∧ e = .returned (.int .i64 (daysL q s t wk)) := by
  obtain ⟨bp, bq, bs, bt, bu⟩ := hG
  have hb := upD_bd hw.1 bq.1
  have hz := daysL_max (p := q) (k := s) (r := t) bq.1 bs.1 hw.1
  have HR := Lib.hid (fun W => roundedUp_any wk q W ⟨hw.1, by omega⟩ ⟨bq.1, by omega⟩)
  obtain ⟨d, hd⟩ : ∃ d, d = upD wk q := ⟨_, rfl⟩
  rw [← hd] at hb HR hz
  rw [hz]
  clear hz hd
  have B := al (Below.refl w.heap.size w) (.cells #[.int .i64 p, .int .i64 q, .int .i64 s, .int .i64 t, .int .i64 u] 109)
  have HX := Bx.new w (crewC p q s t u) 109
  obtain ⟨x, hx⟩ : ∃ x, x = max (d - 1) 0 := ⟨_, rfl⟩
  have hx2 : (d = 0 ∧ x = 0) ∨ (1 ≤ d ∧ x = d - 1) := by omega
  have x1 : max (d - 1) 0 = x := hx.symm
  rw [x1]
  have hk := rests_bd (d := x) (k := s) (r := t) (by omega) bs.1 bt
  obtain ⟨k, hk1⟩ : ∃ k, k = x / s := ⟨_, rfl⟩
  have f1 : Int.tdiv x s = k := by rw [Int.tdiv_eq_ediv_of_nonneg (by omega)]; exact hk1.symm
  have f2 : x / s = k := hk1.symm
  rw [f2] at hk ⊢
  obtain ⟨m, hm⟩ : ∃ m, m = k * t := ⟨_, rfl⟩
  have f3 : k * t = m := hm.symm
  rw [f3] at hk ⊢
  have f4 : IntKind.i64.wrap k = k := IntWalk.i64_in _ (by omega)
  have f5 : wrap64 k = k := IntWalk.wrap64_in _ (by omega)
  have f6 : IntKind.i64.wrap m = m := IntWalk.i64_in _ (by omega)
  have f7 : wrap64 m = m := IntWalk.wrap64_in _ (by omega)
  have hxb : 0 ≤ x ∧ x ≤ 2000 := by omega
  have f8 : ¬ x < 0 := by omega
  clear hk1 hm hx
  go_enter Tryd.func75, Tryd.ntmps75
  go_wp2_with fail
  refine (HR.out _).mono ?_
  rintro e w1 ⟨rfl, hw1⟩
  subst hw1
  obtain ⟨c0, c1, c2, c3, c4⟩ := HX.crew
  obtain ⟨W, hW⟩ : ∃ W : World, W = w.alloc (.cells #[.int .i64 p, .int .i64 q, .int .i64 s, .int .i64 t, .int .i64 u] 109) := ⟨_, rfl⟩
  rw [← hW] at B ⊢
  simp only [crewC] at c0 c1 c2 c3 c4
  rw [← hW] at c0 c1 c2 c3 c4
  clear hW HX
  rcases hx2 with ⟨rfl, rfl⟩ | ⟨h1, rfl⟩
  · go_wp2
    go_quiet (fail)
    go_wp2
    go_ret
    exact ⟨below_drewN' B _, by rw [show (0 : Int) + m = m from Int.zero_add m]; rfl⟩
  · have g1 : 0 ≤ d - 1 := by omega
    go_wp2
    go_quiet (fail)
    go_wp2
    go_ret
    exact ⟨below_drewN' B _, rfl⟩