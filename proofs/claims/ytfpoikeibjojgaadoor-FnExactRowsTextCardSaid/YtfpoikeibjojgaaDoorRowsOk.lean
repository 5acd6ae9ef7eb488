/-
  Rows: contracts of spec.l07Rows, spec.ValidRows, impl.dutyOf, impl.ValidRows. Conditions stand at each.
-/
import Derived.Test.YtfpoikeibjojgaaDoorRows
import Derived.Test.YtfpoikeibjojgaaDoorRowsA
import Derived.Test.YtfpoikeibjojgaaDoorGangS
namespace Go.Proofs.YtfpoikeibjojgaaDoor
open Go Go.ChangeShapes Go.WideShapes Go.ChangeAt Go.RowKit
set_option linter.unusedVariables false
set_option linter.unusedSimpArgs false
set_option maxRecDepth 100000
set_option maxHeartbeats 4000000
/-- row j is fine. -/
def RowAt (c d : Nat → Int) (j : Nat) : Prop := (0 ≤ c j ∧ c j ≤ 9) ∧ (1 ≤ d j ∧ d j ≤ 2000)
def RowsOk (n : Nat) (c d : Nat → Int) : Prop := n ≤ 6 ∧ ∀ j, j < n → RowAt c d j
theorem all_step {P : Nat → Prop} {k : Nat} (h : ∀ j, j < k → P j) (h1 : P k) : ∀ j, j < k + 1 → P j := fun j hj => by
  by_cases e : j = k
  · subst e; exact h1
  · exact h j (by omega)

theorem l07Rows_any (A : Option Addr) (n cap : Nat) (c d : Nat → Int) (r : Bool) (w : World) (hn : n ≤ 1048576) (hr : RdS w w.heap.size A n c d) (hc : ∀ j, -128 ≤ c j ∧ c j ≤ 127) (hd : ∀ j, -32768 ≤ d j ∧ d j ≤ 32767) (hrr : r = true ↔ RowsOk n c d) :
    Calls Tryd.prog 46 #[.slice A n cap] w (BPost r w) := by
  have HR := Lib.hid hr
  have HC := Lib.hid hc
  have HD := Lib.hid hd
  have HRR := Lib.hid hrr
  clear hr hc hd hrr
  go_enter Tryd.func46, Tryd.ntmps46
  go_wp2
  go_loopw [3] (fun t3 wr => ∃ k : Nat, k ≤ n ∧ t3 = .int .i64 k ∧ Below w.heap.size w wr ∧ ∀ j, j < k → RowAt c d j) (fun t3 wr => n - (intOf t3).toNat)
  case atStart => exact ⟨0, by omega, rfl, Below.refl _ _, fun j hj => by omega⟩
  case round =>
    obtain ⟨k, hk, rfl, hb, hall⟩ := hrel
    have HA := Lib.hid hall
    clear hall
    by_cases hlt : k < n
    · have hki : (k : Int) < (n : Int) := by omega
      obtain ⟨b, off, rfl, hbl, c0, c1⟩ := (HR.out.below hb).at hlt
      have wc : IntKind.i64.wrap (c k) = c k := IntWalk.i64_in _ (by have := HC.out k; omega)
      have wd : IntKind.i64.wrap (d k) = d k := IntWalk.i64_in _ (by have := HD.out k; omega)
      obtain ⟨r0, e0⟩ := dec_ex (0 ≤ c k ∧ c k ≤ 9)
      obtain ⟨r1, e1⟩ := dec_ex (1 ≤ d k ∧ d k ≤ 2000)
      have H0 := Lib.hid (fun W => in_any (c k) 0 9 r0 W e0)
      have H1 := Lib.hid (fun W => in_any (d k) 1 2000 r1 W e1)
      have E0 := Lib.hid e0
      have E1 := Lib.hid e1
      clear e0 e1
      obtain ⟨wo, rfl⟩ : ∃ wo : World, wo = wr := ⟨_, rfl⟩
      go_wp2_with fail
      refine (H0.out _).mono ?_
      rintro e wn ⟨rfl, hw⟩
      subst hw
      cases r0 with
      | false =>
        obtain rfl : r = false := Bool.eq_false_iff.2 fun h => by have := E0.out.2 ((HRR.out.1 h).2 k hlt).1; cases this
        go_wp2
        go_ret
        exact ⟨hb, rfl⟩
      | true =>
        have P0 := Lib.hid (E0.out.1 rfl)
        go_wp2_with fail
        refine (H1.out _).mono ?_
        rintro e wn2 ⟨rfl, hw⟩
        subst hw
        cases r1 with
        | false =>
          obtain rfl : r = false := Bool.eq_false_iff.2 fun h => by have := E1.out.2 ((HRR.out.1 h).2 k hlt).2; cases this
          go_wp2
          go_ret
          exact ⟨hb, rfl⟩
        | true =>
          have P1 := Lib.hid (E1.out.1 rfl)
          go_wp2
          exact ⟨⟨k + 1, by omega, by first | go_num | simp, hb, all_step HA.out ⟨P0.out, P1.out⟩⟩, by simp [intOf]; omega⟩
    · obtain rfl : k = n := by omega
      have hki : ¬ ((k : Int) < (k : Int)) := by omega
      by_cases h6 : k ≤ 6
      · have d6 : decide ((k : Int) ≤ 6) = true := by simp; omega
        obtain rfl : r = true := HRR.out.2 ⟨h6, HA.out⟩
        clear h6
        go_wp2
        go_ret
        exact ⟨hb, rfl⟩
      · have d6 : decide ((k : Int) ≤ 6) = false := by simp; omega
        obtain rfl : r = false := Bool.eq_false_iff.2 fun h => h6 (HRR.out.1 h).1
        clear h6
        go_wp2
        go_ret
        exact ⟨hb, rfl⟩
theorem dutyOf_any (x y : Int) (w : World) (bx : -128 ≤ x ∧ x ≤ 127) (by' : -32768 ≤ y ∧ y ≤ 32767) :
    Calls Tryd.prog 88 #[.agg #[.int .i8 x, .int .i16 y]] w fun e w' => e = .returned (.agg #[.int .i64 x, .int .i64 y]) ∧ Below w.heap.size w w' := by
  have w0 : IntKind.i64.wrap x = x := IntWalk.i64_in _ (by omega)
  have w1 : IntKind.i64.wrap y = y := IntWalk.i64_in _ (by omega)
  go_enter Tryd.func88, Tryd.ntmps88
  go_wp2
  refine bodyPost_ret (v := .agg #[.int .i64 x, .int .i64 y]) (by simp [results, Tryd.results88, go_sem, w0, w1]) rfl ⟨rfl, ?_⟩
  (repeat (first | exact Below.refl _ _ | apply Below.drew | refine Below.setCell ?_ (by first | (simp; done) | (simp; omega)) _ | refine Below.alloc ?_ (by first | (simp; done) | (simp; omega)) _))
theorem rowFunc_any (x y : Int) (r : Bool) (w : World) (bx : -128 ≤ x ∧ x ≤ 127) (by' : -32768 ≤ y ∧ y ≤ 32767) (hr : r = true ↔ ¬ ((0 ≤ x ∧ x ≤ 9) ∧ (1 ≤ y ∧ y ≤ 2000))) :
    Calls Tryd.prog 104 #[.agg #[.int .i8 x, .int .i16 y]] w (BPost r w) := by
  have H0 := Lib.hid (fun W => dutyOf_any x y W bx by')
  have H1 := Lib.hid (fun W => isUpTo_any x y 2000 (!r) W (by cases r <;> simp at hr ⊢ <;> omega))
  clear hr
  have B := al (Below.refl w.heap.size w) (.cells #[.int .i8 x, .int .i16 y] 32)
  go_enter Tryd.func104, Tryd.ntmps104
  go_wp2_with fail
  refine (H0.out _).mono ?_
  rintro e w1 ⟨rfl, hb⟩
  replace B := nxt B hb
  clear hb
  go_wp2_with fail
  refine (H1.out _).mono ?_
  rintro e w2 ⟨hb, rfl⟩
  replace B := nxt B hb
  clear hb
  go_wp2
  go_ret
  exact ⟨B, by simp⟩
def IfPost (P : Prop) (w : World) (e : Ending) (w' : World) : Prop := Below w.heap.size w w' ∧ ∃ z : Int, e = .returned (.int .i64 z) ∧ ((0 ≤ z ∧ P) ∨ (z = -1 ∧ ¬ P))
theorem indexFunc_rows (A : Option Addr) (n cap : Nat) (c d : Nat → Int) (w : World) (hn : n ≤ 1048576) (hr : RdS w w.heap.size A n c d) (hc : ∀ j, -128 ≤ c j ∧ c j ≤ 127) (hd : ∀ j, -32768 ≤ d j ∧ d j ≤ 32767) :
    Calls Tryd.prog 121 #[.slice A n cap, .func (.func 104) #[] #[]] w (IfPost (∃ j, j < n ∧ ¬ RowAt c d j) w) := by
  have HR := Lib.hid hr
  have HC := Lib.hid hc
  have HD := Lib.hid hd
  clear hr hc hd
  go_enter Tryd.func121, Tryd.ntmps121
  go_wp2_with fail
  go_loopw [5, 8] (fun t5 t8 wr => ∃ k : Nat, k ≤ n ∧ t8 = .int .i64 k ∧ Below w.heap.size w wr ∧ ∀ j, j < k → RowAt c d j) (fun t5 t8 wr => n - (intOf t8).toNat)
  case atStart => exact ⟨0, by omega, rfl, Below.refl _ _, fun j hj => by omega⟩
  case round =>
    obtain ⟨k, hk, rfl, B, hall⟩ := hrel
    have HA := Lib.hid hall
    clear hall
    by_cases hlt : k < n
    · have hki : (k : Int) < (n : Int) := by omega
      obtain ⟨b, off, rfl, hbl, c0, c1⟩ := (HR.out.below B).at hlt
      obtain ⟨r, hr⟩ := dec_ex (¬ ((0 ≤ c k ∧ c k ≤ 9) ∧ (1 ≤ d k ∧ d k ≤ 2000)))
      have H := Lib.hid (fun W => rowFunc_any (c k) (d k) r W (HC.out k) (HD.out k) hr)
      have E := Lib.hid hr
      clear hr
      go_wp2_with fail
      refine (H.out _).mono ?_
      rintro e w1 ⟨hb, rfl⟩
      replace B := nxt B hb
      clear hb c0 c1
      cases r with
      | true =>
        have N := Lib.hid (E.out.1 rfl)
        go_wp2
        go_ret
        exact ⟨B, (k : Int), rfl, .inl ⟨by omega, k, hlt, N.out⟩⟩
      | false =>
        have P1 : Hid (RowAt c d k) := Lib.hid (Classical.byContradiction fun h => by have := E.out.2 h; cases this)
        go_wp2
        exact ⟨⟨k + 1, by omega, by first | go_num | simp, B, all_step HA.out P1.out⟩, by simp [intOf]; omega⟩
    · obtain rfl : k = n := by omega
      have hki : ¬ ((k : Int) < (k : Int)) := by omega
      go_wp2
      go_ret
      exact ⟨B, -1, rfl, .inr ⟨rfl, fun ⟨j, hj, h⟩ => h (HA.out j hj)⟩⟩
theorem containsFunc_rows (A : Option Addr) (n cap : Nat) (c d : Nat → Int) (r : Bool) (w : World) (hn : n ≤ 1048576) (hr : RdS w w.heap.size A n c d) (hc : ∀ j, -128 ≤ c j ∧ c j ≤ 127) (hd : ∀ j, -32768 ≤ d j ∧ d j ≤ 32767) (hrr : r = true ↔ ∃ j, j < n ∧ ¬ RowAt c d j) :
    Calls Tryd.prog 103 #[.slice A n cap, .func (.func 104) #[] #[]] w (BPost r w) := by
  have H := Lib.hid (indexFunc_rows A n cap c d w hn hr hc hd)
  have E := Lib.hid hrr
  clear hr hc hd hrr
  go_enter Tryd.func103, Tryd.ntmps103
  go_wp2_with fail
  refine H.out.mono ?_
  rintro e w1 ⟨hb, z, rfl, ⟨hz, hp⟩ | ⟨rfl, hp⟩⟩
  · obtain rfl : r = true := E.out.2 hp
    have d1 : decide (0 ≤ z) = true := by simpa using hz
    clear hp hz
    go_wp2
    go_ret
    exact ⟨hb, by first | rfl | (show Ending.returned (Value.bool (decide (0 ≤ z))) = _; rw [d1])⟩
  · obtain rfl : r = false := Bool.eq_false_iff.2 fun h => hp (E.out.1 h)
    clear hp
    go_wp2
    go_ret
    exact ⟨hb, rfl⟩
theorem implRows_any (A : Option Addr) (n cap : Nat) (c d : Nat → Int) (r : Bool) (w : World) (hn : n ≤ 1048576) (hr : RdS w w.heap.size A n c d) (hc : ∀ j, -128 ≤ c j ∧ c j ≤ 127) (hd : ∀ j, -32768 ≤ d j ∧ d j ≤ 32767) (hrr : r = true ↔ RowsOk n c d) :
    Calls Tryd.prog 77 #[.slice A n cap] w (BPost r w) := by
  by_cases h6 : n ≤ 6
  · have d6 : decide ((n : Int) ≤ 6) = true := by simp; omega
    have d7 : (n : Int) ≤ 6 := by omega
    obtain ⟨q, hq⟩ := dec_ex (∃ j, j < n ∧ ¬ RowAt c d j)
    have H := Lib.hid (containsFunc_rows A n cap c d q w hn hr hc hd hq)
    have he : Hid ((!q) = r) := Lib.hid (by
      cases q with
      | true =>
        obtain ⟨j, hj, hn⟩ := hq.1 rfl
        exact (Bool.eq_false_iff.2 fun h => hn ((hrr.1 h).2 j hj)).symm
      | false => exact (hrr.2 ⟨h6, fun j hj => Classical.byContradiction fun h => by have := hq.2 ⟨j, hj, h⟩; cases this⟩).symm)
    clear hr hc hd hrr hq
    go_enter Tryd.func77, Tryd.ntmps77
    go_wp2_with fail
    refine H.out.mono ?_
    rintro e w1 ⟨hb, rfl⟩
    go_wp2
    go_ret
    exact ⟨hb, by rw [← he.out]; rfl⟩
  · have d6 : decide ((n : Int) ≤ 6) = false := by simp; omega
    have d7 : ¬ (n : Int) ≤ 6 := by omega
    obtain rfl : r = false := Bool.eq_false_iff.2 fun h => h6 (hrr.1 h).1
    clear h6 hrr hr hc hd
    go_enter Tryd.func77, Tryd.ntmps77
    go_wp2
    go_ret
    exact ⟨Below.refl _ _, rfl⟩
end Go.Proofs.YtfpoikeibjojgaaDoor
