/-
  What the model asks of rows and gangs: contracts of spec.l07Gang at an element, spec.l07Work, spec.l07Asked. Conditions stand at each.
-/
import Derived.Test.YtfpoikeibjojgaaDoorRows
import Derived.Test.YtfpoikeibjojgaaDoorJob
namespace Go.Proofs.YtfpoikeibjojgaaDoor
open Go Go.ChangeShapes Go.WideShapes Go.ChangeAt Go.RowKit
set_option linter.unusedVariables false
set_option linter.unusedSimpArgs false
set_option maxRecDepth 100000
set_option maxHeartbeats 4000000
theorem l07Gang_at (b o : Nat) (p q s t u : Int) (r : Bool) (w : World) (bp : -128 ≤ p ∧ p ≤ 127) (bq : -128 ≤ q ∧ q ≤ 127) (bs : -128 ≤ s ∧ s ≤ 127) (bt : -128 ≤ t ∧ t ≤ 127) (bu : -32768 ≤ u ∧ u ≤ 32767)
    (c0 : w.cell? ⟨b, o, none⟩ = some (.int .i8 p)) (c1 : w.cell? ⟨b, o + 1, none⟩ = some (.int .i8 q)) (c2 : w.cell? ⟨b, o + 2, none⟩ = some (.int .i8 s)) (c3 : w.cell? ⟨b, o + 3, none⟩ = some (.int .i8 t)) (c4 : w.cell? ⟨b, o + 4, none⟩ = some (.int .i16 u)) (hr : r = true ↔ GangOk p q s t u) :
    Calls Tryd.prog 45 #[.pointer (some ⟨b, o, none⟩)] w (BPost r w) := by
  have w0 : IntKind.i64.wrap p = p := IntWalk.i64_in _ (by omega)
  have w1 : IntKind.i64.wrap q = q := IntWalk.i64_in _ (by omega)
  have w2 : IntKind.i64.wrap s = s := IntWalk.i64_in _ (by omega)
  have w3 : IntKind.i64.wrap t = t := IntWalk.i64_in _ (by omega)
  have w4 : IntKind.i64.wrap u = u := IntWalk.i64_in _ (by omega)
  have HR := Lib.hid hr
  clear hr
  obtain ⟨r0, e0⟩ := dec_ex (0 ≤ p ∧ p ≤ 9)
  have E0 := Lib.hid e0
  have H0 := Lib.hid (fun W => in_any p 0 9 r0 W e0)
  clear e0
  obtain ⟨r1, e1⟩ := dec_ex (1 ≤ q ∧ q ≤ 100)
  have E1 := Lib.hid e1
  have H1 := Lib.hid (fun W => in_any q 1 100 r1 W e1)
  clear e1
  obtain ⟨r2, e2⟩ := dec_ex (1 ≤ s ∧ s ≤ 9)
  have E2 := Lib.hid e2
  have H2 := Lib.hid (fun W => in_any s 1 9 r2 W e2)
  clear e2
  obtain ⟨r3, e3⟩ := dec_ex (0 ≤ t ∧ t ≤ 9)
  have E3 := Lib.hid e3
  have H3 := Lib.hid (fun W => in_any t 0 9 r3 W e3)
  clear e3
  obtain ⟨r4, e4⟩ := dec_ex (0 ≤ u ∧ u ≤ 1000)
  have E4 := Lib.hid e4
  have H4 := Lib.hid (fun W => in_any u 0 1000 r4 W e4)
  clear e4
  clear bp bq bs bt bu
  go_enter Tryd.func45, Tryd.ntmps45
  go_wp2_with fail
  refine (H0.out _).mono ?_
  rintro e wn ⟨rfl, rfl⟩
  cases r0 with
  | false =>
    obtain rfl : r = false := Bool.eq_false_iff.2 fun h => by have := E0.out.2 ((HR.out.1 h).1); cases this
    go_wp2
    go_ret
    exact ⟨Below.refl _ _, rfl⟩
  | true =>
    have P0 := Lib.hid (E0.out.1 rfl)
    go_wp2_with fail
    refine (H1.out _).mono ?_
    rintro e wn ⟨rfl, rfl⟩
    cases r1 with
    | false =>
      obtain rfl : r = false := Bool.eq_false_iff.2 fun h => by have := E1.out.2 ((HR.out.1 h).2.1); cases this
      go_wp2
      go_ret
      exact ⟨Below.refl _ _, rfl⟩
    | true =>
      have P1 := Lib.hid (E1.out.1 rfl)
      go_wp2_with fail
      refine (H2.out _).mono ?_
      rintro e wn ⟨rfl, rfl⟩
      cases r2 with
      | false =>
        obtain rfl : r = false := Bool.eq_false_iff.2 fun h => by have := E2.out.2 ((HR.out.1 h).2.2.1); cases this
        go_wp2
        go_ret
        exact ⟨Below.refl _ _, rfl⟩
      | true =>
        have P2 := Lib.hid (E2.out.1 rfl)
        go_wp2_with fail
        refine (H3.out _).mono ?_
        rintro e wn ⟨rfl, rfl⟩
        cases r3 with
        | false =>
          obtain rfl : r = false := Bool.eq_false_iff.2 fun h => by have := E3.out.2 ((HR.out.1 h).2.2.2.1); cases this
          go_wp2
          go_ret
          exact ⟨Below.refl _ _, rfl⟩
        | true =>
          have P3 := Lib.hid (E3.out.1 rfl)
          go_wp2_with fail
          refine (H4.out _).mono ?_
          rintro e wn ⟨rfl, rfl⟩
          obtain rfl : r = r4 := by
            rw [Bool.eq_iff_iff]
            exact ⟨fun h => E4.out.2 (HR.out.1 h).2.2.2.2, fun h => HR.out.2 ⟨P0.out, P1.out, P2.out, P3.out, E4.out.1 h⟩⟩
          go_wp2
          go_ret
          exact ⟨Below.refl _ _, rfl⟩
theorem l07Work_any (A : Option Addr) (n cap : Nat) (c d : Nat → Int) (w : World) (hn : n ≤ 6) (hr : RdS w w.heap.size A n c d) (hd : ∀ j, j < n → 0 ≤ d j ∧ d j ≤ 2000) :
    Calls Tryd.prog 70 #[.slice A n cap] w fun e w' => Below w.heap.size w w' ∧ e = .returned (.int .i64 (sumN d n)) := by
  have HR := Lib.hid hr
  have HD := Lib.hid hd
  clear hr hd
  go_enter Tryd.func70, Tryd.ntmps70
  go_wp2
  go_loopw [3, 4] (fun t3 t4 wr => ∃ k : Nat, k ≤ n ∧ t3 = .int .i64 (sumN d k) ∧ t4 = .int .i64 k ∧ Below w.heap.size w wr) (fun t3 t4 wr => n - (intOf t4).toNat)
  case atStart => exact ⟨0, by omega, rfl, rfl, Below.refl _ _⟩
  case round =>
    obtain ⟨k, hk, rfl, rfl, hb⟩ := hrel
    by_cases hlt : k < n
    · have hki : (k : Int) < (n : Int) := by omega
      obtain ⟨b, off, rfl, hbl, c0, c1⟩ := (HR.out.below hb).at hlt
      have hdk := HD.out k hlt
      have hsb := sumN_bd HD.out k hk
      have wd : IntKind.i64.wrap (d k) = d k := IntWalk.i64_in _ (by omega)
      have ws : IntKind.i64.wrap (sumN d k + d k) = sumN d (k + 1) := by rw [IntWalk.i64_in _ (by omega)]; rfl
      go_wp2
      exact ⟨⟨k + 1, by omega, by first | rfl | simp [wd, ws], by first | go_num | simp, hb⟩, by simp [intOf]; omega⟩
    · obtain rfl : k = n := by omega
      have hki : ¬ ((k : Int) < (k : Int)) := by omega
      go_wp2
      go_ret
      exact ⟨hb, rfl⟩
theorem l07Asked_any (A : Option Addr) (n cap : Nat) (c d : Nat → Int) (A' : Option Addr) (m cap' : Nat) (g : Gs) (w : World) (hn : n ≤ 1048576) (hm : m ≤ 1048576) (hr : RdS w w.heap.size A n c d) (hg : RdG w w.heap.size A' m g)
    (hc : ∀ j, -128 ≤ c j ∧ c j ≤ 127) (hd : ∀ j, -32768 ≤ d j ∧ d j ≤ 32767) (hgb : g.bd) :
    Calls Tryd.prog 51 #[.slice A n cap, .slice A' m cap'] w fun e w' => Below w.heap.size w w' ∧ ∃ r : Int, JobCode n c d m g r ∧ e = .returned (.int .i64 r) := by
  have HG := Lib.hid hg
  have HB := Lib.hid hgb
  obtain ⟨r1, e1⟩ := dec_ex (RowsOk n c d)
  have H1 := Lib.hid (fun W (hb : Below w.heap.size w W) => l07Rows_any A n cap c d r1 W hn ((hr.below hb).mono hb.size) hc hd e1)
  have H2 := Lib.hid (fun W (hb : Below w.heap.size w W) (h : RowsOk n c d) => l07Work_any A n cap c d W h.1 ((hr.below hb).mono hb.size) (fun j hj => ⟨by have := (h.2 j hj).2; omega, (h.2 j hj).2.2⟩))
  have E1 := Lib.hid e1
  clear hg hgb e1 hr hc hd
  go_enter Tryd.func51, Tryd.ntmps51
  go_wp2
  go_loopw [5] (fun t5 wr => ∃ k : Nat, k ≤ m ∧ t5 = .int .i64 k ∧ Below w.heap.size w wr ∧ AllG k g) (fun t5 wr => m - (intOf t5).toNat)
  case atStart => exact ⟨0, by omega, rfl, Below.refl _ _, fun j hj => by omega⟩
  case round =>
    obtain ⟨k, hk, rfl, hb, hall⟩ := hrel
    have HA := Lib.hid hall
    clear hall
    by_cases hlt : k < m
    · have hki : (k : Int) < (m : Int) := by omega
      obtain ⟨b, off, rfl, hbl, c0, c1, c2, c3, c4⟩ := (HG.out.below hb).at hlt
      obtain ⟨r0, e0⟩ := dec_ex (GangOk (g.p k) (g.q k) (g.s k) (g.t k) (g.u k))
      obtain ⟨bp, bq, bs, bt, bu⟩ := HB.out k
      have H0 := Lib.hid (l07Gang_at b (off + k * 5) (g.p k) (g.q k) (g.s k) (g.t k) (g.u k) r0 wr bp bq bs bt bu c0 c1 c2 c3 c4 e0)
      have E0 := Lib.hid e0
      clear e0 c0 c1 c2 c3 c4 bp bq bs bt bu
      go_wp2_with fail
      refine H0.out.mono ?_
      rintro e wn ⟨hw, rfl⟩
      replace hb := nxt hb hw
      clear hw
      cases r0 with
      | false =>
        have N0 := Lib.hid (show ¬ (RowsOk n c d ∧ AllG m g) from fun h => by have := E0.out.2 (h.2 k hlt); cases this)
        go_wp2
        go_ret
        exact ⟨hb, 1, .inl ⟨N0.out, rfl⟩, rfl⟩
      | true =>
        have P0 := Lib.hid (E0.out.1 rfl)
        go_wp2
        exact ⟨⟨k + 1, by omega, by first | go_num | simp, hb, all_stepG HA.out P0.out⟩, by simp [intOf]; omega⟩
    · obtain rfl : k = m := by omega
      have hki : ¬ ((k : Int) < (k : Int)) := by omega
      go_wp2_with fail
      refine (H1.out _ hb).mono ?_
      rintro e wn ⟨hw, rfl⟩
      replace hb := nxt hb hw
      clear hw
      cases r1 with
      | false =>
        have N0 := Lib.hid (show ¬ (RowsOk n c d ∧ AllG k g) from fun h => by have := E1.out.2 h.1; cases this)
        go_wp2
        go_ret
        exact ⟨hb, 1, .inl ⟨N0.out, rfl⟩, rfl⟩
      | true =>
        have P1 := Lib.hid (E1.out.1 rfl)
        by_cases h4 : k ≤ 4
        · have d4 : ¬ ((4 : Int) < (k : Int)) := by omega
          go_wp2_with fail
          refine (H2.out _ hb P1.out).mono ?_
          rintro e wn2 ⟨hw, rfl⟩
          replace hb := nxt hb hw
          clear hw
          by_cases h2 : sumN d n ≤ 2000
          · have d2 : ¬ ((2000 : Int) < sumN d n) := by omega
            go_wp2
            go_ret
            exact ⟨hb, 0, .inr (.inr (.inr ⟨⟨P1.out, HA.out⟩, h4, h2, rfl⟩)), rfl⟩
          · have d2 : (2000 : Int) < sumN d n := by omega
            go_wp2
            go_ret
            exact ⟨hb, 2, .inr (.inr (.inl ⟨⟨P1.out, HA.out⟩, h4, d2, rfl⟩)), rfl⟩
        · have d4 : (4 : Int) < (k : Int) := by omega
          go_wp2
          go_ret
          exact ⟨hb, 3, .inr (.inl ⟨⟨P1.out, HA.out⟩, by omega, rfl⟩), rfl⟩
end Go.Proofs.YtfpoikeibjojgaaDoor
