/-
  Gangs: contracts of spec.l07Gang, spec.ValidGang, impl.crewOf, impl.ValidGang. Conditions stand at each.
-/
import Derived.Test.YtfpoikeibjojgaaDoorRows
import Derived.Test.YtfpoikeibjojgaaDoorIn
import Derived.Test.YtfpoikeibjojgaaDoorWith
import Derived.Test.YtfpoikeibjojgaaDoorRet
import Derived.Test.YtfpoikeibjojgaaDoorGangM
namespace Go.Proofs.YtfpoikeibjojgaaDoor
open Go Go.ChangeShapes Go.WideShapes Go.ChangeAt Go.RowKit
set_option linter.unusedVariables false
set_option linter.unusedSimpArgs false
set_option maxRecDepth 100000
set_option maxHeartbeats 4000000
/-- is a gang valid? -/
def GangOk (p q s t u : Int) : Prop := (0 ≤ p ∧ p ≤ 9) ∧ (1 ≤ q ∧ q ≤ 100) ∧ (1 ≤ s ∧ s ≤ 9) ∧ (0 ≤ t ∧ t ≤ 9) ∧ (0 ≤ u ∧ u ≤ 1000)
def gangC (p q s t u : Int) : Array Value := #[.int .i8 p, .int .i8 q, .int .i8 s, .int .i8 t, .int .i16 u]
theorem Bx.gang {w : World} {b : Nat} {p q s t u : Int} {ty : TypeId} (h : Bx w b (gangC p q s t u) ty) :
    w.cell? ⟨b, 0, none⟩ = some (.int .i8 p) ∧ w.cell? ⟨b, 1, none⟩ = some (.int .i8 q) ∧ w.cell? ⟨b, 2, none⟩ = some (.int .i8 s) ∧ w.cell? ⟨b, 3, none⟩ = some (.int .i8 t) ∧ w.cell? ⟨b, 4, none⟩ = some (.int .i16 u) :=
  ⟨h.cell 0, h.cell 1, h.cell 2, h.cell 3, h.cell 4⟩
theorem l07Gang_any (b : Nat) (p q s t u : Int) (ty : TypeId) (r : Bool) (w : World) (bp : -128 ≤ p ∧ p ≤ 127) (bq : -128 ≤ q ∧ q ≤ 127) (bs : -128 ≤ s ∧ s ≤ 127) (bt : -128 ≤ t ∧ t ≤ 127) (bu : -32768 ≤ u ∧ u ≤ 32767)
    (h : Bx w b (gangC p q s t u) ty) (hr : r = true ↔ GangOk p q s t u) :
    Calls Tryd.prog 45 #[.pointer (some ⟨b, 0, none⟩)] w (BPost r w) := by
  obtain ⟨c0, c1, c2, c3, c4⟩ := h.gang
  have w0 : IntKind.i64.wrap p = p := IntWalk.i64_in _ (by omega)
  have w1 : IntKind.i64.wrap q = q := IntWalk.i64_in _ (by omega)
  have w2 : IntKind.i64.wrap s = s := IntWalk.i64_in _ (by omega)
  have w3 : IntKind.i64.wrap t = t := IntWalk.i64_in _ (by omega)
  have w4 : IntKind.i64.wrap u = u := IntWalk.i64_in _ (by omega)
  have HR := Lib.hid hr
  clear hr
  obtain ⟨r0, e0⟩ := dec_ex (0 ≤ p ∧ p ≤ 9)
  have E0 := Lib.hid e0
  have H0 := Lib.hid (fun W => in_any p 0 9 r0 W e0)
  clear e0
  obtain ⟨r1, e1⟩ := dec_ex (1 ≤ q ∧ q ≤ 100)
  have E1 := Lib.hid e1
  have H1 := Lib.hid (fun W => in_any q 1 100 r1 W e1)
  clear e1
  obtain ⟨r2, e2⟩ := dec_ex (1 ≤ s ∧ s ≤ 9)
  have E2 := Lib.hid e2
  have H2 := Lib.hid (fun W => in_any s 1 9 r2 W e2)
  clear e2
  obtain ⟨r3, e3⟩ := dec_ex (0 ≤ t ∧ t ≤ 9)
  have E3 := Lib.hid e3
  have H3 := Lib.hid (fun W => in_any t 0 9 r3 W e3)
  clear e3
  obtain ⟨r4, e4⟩ := dec_ex (0 ≤ u ∧ u ≤ 1000)
  have E4 := Lib.hid e4
  have H4 := Lib.hid (fun W => in_any u 0 1000 r4 W e4)
  clear e4
  clear bp bq bs bt bu
  go_enter Tryd.func45, Tryd.ntmps45
  go_wp2_with fail
  refine (H0.out _).mono ?_
  rintro e wn ⟨rfl, rfl⟩
  cases r0 with
  | false =>
    obtain rfl : r = false := Bool.eq_false_iff.2 fun h => by have := E0.out.2 ((HR.out.1 h).1); cases this
    go_wp2
    go_ret
    exact ⟨Below.refl _ _, rfl⟩
  | true =>
    have P0 := Lib.hid (E0.out.1 rfl)
    go_wp2_with fail
    refine (H1.out _).mono ?_
    rintro e wn ⟨rfl, rfl⟩
    cases r1 with
    | false =>
      obtain rfl : r = false := Bool.eq_false_iff.2 fun h => by have := E1.out.2 ((HR.out.1 h).2.1); cases this
      go_wp2
      go_ret
      exact ⟨Below.refl _ _, rfl⟩
    | true =>
      have P1 := Lib.hid (E1.out.1 rfl)
      go_wp2_with fail
      refine (H2.out _).mono ?_
      rintro e wn ⟨rfl, rfl⟩
      cases r2 with
      | false =>
        obtain rfl : r = false := Bool.eq_false_iff.2 fun h => by have := E2.out.2 ((HR.out.1 h).2.2.1); cases this
        go_wp2
        go_ret
        exact ⟨Below.refl _ _, rfl⟩
      | true =>
        have P2 := Lib.hid (E2.out.1 rfl)
        go_wp2_with fail
        refine (H3.out _).mono ?_
        rintro e wn ⟨rfl, rfl⟩
        cases r3 with
        | false =>
          obtain rfl : r = false := Bool.eq_false_iff.2 fun h => by have := E3.out.2 ((HR.out.1 h).2.2.2.1); cases this
          go_wp2
          go_ret
          exact ⟨Below.refl _ _, rfl⟩
        | true =>
          have P3 := Lib.hid (E3.out.1 rfl)
          go_wp2_with fail
          refine (H4.out _).mono ?_
          rintro e wn ⟨rfl, rfl⟩
          obtain rfl : r = r4 := by
            rw [Bool.eq_iff_iff]
            exact ⟨fun h => E4.out.2 (HR.out.1 h).2.2.2.2, fun h => HR.out.2 ⟨P0.out, P1.out, P2.out, P3.out, E4.out.1 h⟩⟩
          go_wp2
          go_ret
          exact ⟨Below.refl _ _, rfl⟩
def crewC (p q s t u : Int) : Array Value := #[.int .i64 p, .int .i64 q, .int .i64 s, .int .i64 t, .int .i64 u]
theorem Bx.crew {w : World} {b : Nat} {p q s t u : Int} {ty : TypeId} (h : Bx w b (crewC p q s t u) ty) :
    w.cell? ⟨b, 0, none⟩ = some (.int .i64 p) ∧ w.cell? ⟨b, 1, none⟩ = some (.int .i64 q) ∧ w.cell? ⟨b, 2, none⟩ = some (.int .i64 s) ∧ w.cell? ⟨b, 3, none⟩ = some (.int .i64 t) ∧ w.cell? ⟨b, 4, none⟩ = some (.int .i64 u) :=
  ⟨h.cell 0, h.cell 1, h.cell 2, h.cell 3, h.cell 4⟩
theorem crewOf_any (p q s t u : Int) (w : World) (bp : -128 ≤ p ∧ p ≤ 127) (bq : -128 ≤ q ∧ q ≤ 127) (bs : -128 ≤ s ∧ s ≤ 127) (bt : -128 ≤ t ∧ t ≤ 127) (bu : -32768 ≤ u ∧ u ≤ 32767) :
    Calls Tryd.prog 89 #[.agg #[.int .i8 p, .int .i8 q, .int .i8 s, .int .i8 t, .int .i16 u]] w fun e w' => e = .returned (.agg #[.int .i64 p, .int .i64 q, .int .i64 s, .int .i64 t, .int .i64 u]) ∧ Below w.heap.size w w' := by
  have w0 : IntKind.i64.wrap p = p := IntWalk.i64_in _ (by omega)
  have w1 : IntKind.i64.wrap q = q := IntWalk.i64_in _ (by omega)
  have w2 : IntKind.i64.wrap s = s := IntWalk.i64_in _ (by omega)
  have w3 : IntKind.i64.wrap t = t := IntWalk.i64_in _ (by omega)
  have w4 : IntKind.i64.wrap u = u := IntWalk.i64_in _ (by omega)
  go_enter Tryd.func89, Tryd.ntmps89
  go_wp2
  refine bodyPost_ret (v := .agg #[.int .i64 p, .int .i64 q, .int .i64 s, .int .i64 t, .int .i64 u]) (by simp [results, Tryd.results89, go_sem, w0, w1, w2, w3, w4]) rfl ⟨rfl, ?_⟩
  (repeat (first | exact Below.refl _ _ | apply Below.drew | refine Below.setCell ?_ (by first | (simp; done) | (simp; omega)) _ | refine Below.alloc ?_ (by first | (simp; done) | (simp; omega)) _))
theorem isUpTo_any (p q m : Int) (r : Bool) (w : World) (hr : r = true ↔ (0 ≤ p ∧ p ≤ 9) ∧ (1 ≤ q ∧ q ≤ m)) :
    Calls Tryd.prog 105 #[.agg #[.int .i64 p, .int .i64 q], .int .i64 m] w (BPost r w) := by
  obtain ⟨r0, e0⟩ := dec_ex (0 ≤ p ∧ p ≤ 9)
  obtain ⟨r1, e1⟩ := dec_ex (1 ≤ q ∧ q ≤ m)
  have H0 := Lib.hid (fun W b hb => within1b p 0 9 r0 W b hb e0)
  have H1 := Lib.hid (fun W => within1 q 1 m r1 W e1)
  have E0 := Lib.hid e0
  have E1 := Lib.hid e1
  have HR := Lib.hid hr
  clear e0 e1 hr
  go_enter Tryd.func105, Tryd.ntmps105
  go_wp2_with fail
  refine (H0.out (w.alloc (.cells #[.int .i64 p, .int .i64 q] 107)) _ (by simp)).mono ?_
  rintro e w1 ⟨rfl, hb⟩
  have HX := (Bx.new w #[.int .i64 p, .int .i64 q] 107).below hb
  have B := nxt (al (Below.refl w.heap.size w) (.cells #[.int .i64 p, .int .i64 q] 107)) hb
  have c0 := HX.cell 0
  have c1 := HX.cell 1
  simp only [List.getElem?_toArray, List.getElem?_cons_zero, List.getElem?_cons_succ] at c0 c1
  clear hb
  cases r0 with
  | false =>
    obtain rfl : r = false := Bool.eq_false_iff.2 fun h => by have := E0.out.2 (HR.out.1 h).1; cases this
    go_wp2
    go_ret
    exact ⟨B, rfl⟩
  | true =>
    have P0 := Lib.hid (E0.out.1 rfl)
    go_wp2_with fail
    refine (H1.out _).mono ?_
    rintro e w2 ⟨rfl, hb⟩
    replace B := nxt B hb
    obtain rfl : r = r1 := by
      rw [Bool.eq_iff_iff]
      exact ⟨fun h => E1.out.2 (HR.out.1 h).2, fun h => HR.out.2 ⟨P0.out, E1.out.1 h⟩⟩
    clear hb HX c0 c1
    go_wp2
    go_ret
    exact ⟨B, rfl⟩
theorem implGang_any (p q s t u : Int) (r : Bool) (w : World) (bp : -128 ≤ p ∧ p ≤ 127) (bq : -128 ≤ q ∧ q ≤ 127) (bs : -128 ≤ s ∧ s ≤ 127) (bt : -128 ≤ t ∧ t ≤ 127) (bu : -32768 ≤ u ∧ u ≤ 32767) (hr : r = true ↔ GangOk p q s t u) :
    Calls Tryd.prog 87 #[.agg #[.int .i8 p, .int .i8 q, .int .i8 s, .int .i8 t, .int .i16 u]] w (BPost r w) := by
  obtain ⟨r0, e0⟩ := dec_ex ((0 ≤ p ∧ p ≤ 9) ∧ (1 ≤ q ∧ q ≤ 100))
  obtain ⟨r1, e1⟩ := dec_ex (1 ≤ s ∧ s ≤ 9)
  obtain ⟨r2, e2⟩ := dec_ex (0 ≤ t ∧ t ≤ 9)
  obtain ⟨r3, e3⟩ := dec_ex (0 ≤ u ∧ u ≤ 1000)
  have HC := Lib.hid (fun W => crewOf_any p q s t u W bp bq bs bt bu)
  have H0 := Lib.hid (fun W => isUpTo_any p q 100 r0 W e0)
  have H1 := Lib.hid (fun W => within1 s 1 9 r1 W e1)
  have H2 := Lib.hid (fun W => within1 t 0 9 r2 W e2)
  have H3 := Lib.hid (fun W => within1 u 0 1000 r3 W e3)
  have E0 := Lib.hid e0
  have E1 := Lib.hid e1
  have E2 := Lib.hid e2
  have E3 := Lib.hid e3
  have HR := Lib.hid hr
  clear e0 e1 e2 e3 hr bp bq bs bt bu
  go_enter Tryd.func87, Tryd.ntmps87
  go_wp2_with fail
  refine (HC.out _).mono ?_
  rintro e w1 ⟨rfl, hb⟩
  have B := nxt (al (Below.refl w.heap.size w) (.cells #[.int .i8 p, .int .i8 q, .int .i8 s, .int .i8 t, .int .i16 u] 30)) hb
  clear hb
  go_wp2_with fail
  refine (H0.out _).mono ?_
  rintro e w2 ⟨hb, rfl⟩
  have HX := (Bx.new w1 (crewC p q s t u) 109).below hb
  replace B := nxt (al B _) hb
  clear hb
  obtain ⟨c0, c1, c2, c3, c4⟩ := HX.crew
  cases r0 with
  | false =>
    obtain rfl : r = false := Bool.eq_false_iff.2 fun h => by have := E0.out.2 ⟨(HR.out.1 h).1, (HR.out.1 h).2.1⟩; cases this
    go_wp2
    go_ret
    exact ⟨B, rfl⟩
  | true =>
    have P0 := Lib.hid (E0.out.1 rfl)
    go_wp2_with fail
    refine (H1.out _).mono ?_
    rintro e w3 ⟨rfl, hb⟩
    replace HX := HX.below hb
    replace B := nxt B hb
    clear hb c0 c1 c2 c3 c4
    obtain ⟨c0, c1, c2, c3, c4⟩ := HX.crew
    cases r1 with
    | false =>
      obtain rfl : r = false := Bool.eq_false_iff.2 fun h => by have := E1.out.2 ((HR.out.1 h).2.2.1); cases this
      go_wp2
      go_ret
      exact ⟨B, rfl⟩
    | true =>
      have P1 := Lib.hid (E1.out.1 rfl)
      go_wp2_with fail
      refine (H2.out _).mono ?_
      rintro e w4 ⟨rfl, hb⟩
      replace HX := HX.below hb
      replace B := nxt B hb
      clear hb c0 c1 c2 c3 c4
      obtain ⟨c0, c1, c2, c3, c4⟩ := HX.crew
      cases r2 with
      | false =>
        obtain rfl : r = false := Bool.eq_false_iff.2 fun h => by have := E2.out.2 ((HR.out.1 h).2.2.2.1); cases this
        go_wp2
        go_ret
        exact ⟨B, rfl⟩
      | true =>
        have P2 := Lib.hid (E2.out.1 rfl)
        go_wp2_with fail
        refine (H3.out _).mono ?_
        rintro e w5 ⟨rfl, hb⟩
        replace HX := HX.below hb
        replace B := nxt B hb
        clear hb c0 c1 c2 c3 c4
        obtain ⟨c0, c1, c2, c3, c4⟩ := HX.crew
        obtain rfl : r = r3 := by
          rw [Bool.eq_iff_iff]
          exact ⟨fun h => E3.out.2 (HR.out.1 h).2.2.2.2, fun h => HR.out.2 ⟨P0.out.1, P0.out.2, P1.out, P2.out, E3.out.1 h⟩⟩
        go_wp2
        go_ret
        exact ⟨B, rfl⟩
theorem toGang_any (p q s t u : Int) (w : World) : Calls Tryd.prog 13 #[.agg #[.int .i8 p, .int .i8 q, .int .i8 s, .int .i8 t, .int .i16 u]] w fun e w' => e = .returned (.agg #[.int .i8 p, .int .i8 q, .int .i8 s, .int .i8 t, .int .i16 u]) ∧ Below w.heap.size w w' := by
  go_enter Tryd.func13, Tryd.ntmps13
  go_wp2
  refine bodyPost_ret (v := .agg #[.int .i8 p, .int .i8 q, .int .i8 s, .int .i8 t, .int .i16 u]) (by simp [results, Tryd.results13, go_sem]) rfl ⟨rfl, ?_⟩
  (repeat (first | exact Below.refl _ _ | apply Below.drew | refine Below.setCell ?_ (by first | (simp; done) | (simp; omega)) _ | refine Below.alloc ?_ (by first | (simp; done) | (simp; omega)) _))
end Go.Proofs.YtfpoikeibjojgaaDoor
