/-
  Whether a slab can be laid: impl.canLay, spec.l05Can; both sides of CanLay. Conditions stand at each.
-/
import Derived.Test.YtkggimalkjjnoaaRows
import Derived.Test.YtkggimalkjjnoaaLean
import Derived.Test.YtkggimalkjjnoaaCanPutC
namespace Go.Proofs.Ytkggimalkjjnoaa
open Go Go.ChangeShapes Go.WideShapes Go.ChangeAt Go.RowKit
set_option linter.unusedVariables false
set_option linter.unusedSimpArgs false
set_option maxRecDepth 100000
set_option maxHeartbeats 4000000
/-- slab x0, y0, wd, ht may be laid upon a grid. -/
def Layable (X Y : Int) (G : Nat → Int) (a0 a1 a2 a3 : Int) : Prop :=
  ∃ x0 y0 wd ht : Nat, a0 = x0 ∧ a1 = y0 ∧ a2 = wd ∧ a3 = ht ∧ 1 ≤ wd ∧ 1 ≤ ht ∧ (x0 : Int) + wd ≤ X ∧ (y0 : Int) + ht ≤ Y ∧ (∀ k, k < wd * ht → G (posC (cellAt x0 y0 wd k)) = 0) ∧ Lean G x0 y0 wd ht
theorem layable_nat {X Y : Int} {G : Nat → Int} {x0 y0 wd ht : Nat} : Layable X Y G (x0 : Int) (y0 : Int) (wd : Int) (ht : Int) ↔ 1 ≤ wd ∧ 1 ≤ ht ∧ (x0 : Int) + wd ≤ X ∧ (y0 : Int) + ht ≤ Y ∧ (∀ k, k < wd * ht → G (posC (cellAt x0 y0 wd k)) = 0) ∧ Lean G x0 y0 wd ht := by
  constructor
  · rintro ⟨x, y, z, u, e0, e1, e2, e3, h⟩
    obtain rfl : x0 = x := by omega
    obtain rfl : y0 = y := by omega
    obtain rfl : wd = z := by omega
    obtain rfl : ht = u := by omega
    exact h
  · intro h
    exact ⟨x0, y0, wd, ht, rfl, rfl, rfl, rfl, h⟩
theorem canLay_any (X Y : Int) (sl : Value) (b : Nat) (G : Nat → Int) (a0 a1 a2 a3 : Int) (r : Bool) (w : World) (hX : -128 ≤ X ∧ X ≤ 12) (hY : -128 ≤ Y ∧ Y ≤ 12) (b0 : -128 ≤ a0 ∧ a0 ≤ 127) (b1 : -128 ≤ a1 ∧ a1 ≤ 127) (b2 : -128 ≤ a2 ∧ a2 ≤ 127) (b3 : -128 ≤ a3 ∧ a3 ≤ 127)
    (hG : w.rowIs b 129 144 (fun p => .int .i8 (G p))) (hr : r = true ↔ Layable X Y G a0 a1 a2 a3) :
    Calls Try.prog 113 #[.agg #[.int .i8 X, .int .i8 Y, sl], .pointer (some ⟨b, 0, none⟩), .agg #[.int .i8 a0, .int .i8 a1, .int .i8 a2, .int .i8 a3]] w fun e w' => e = .returned (.bool r) ∧ Below w.heap.size w w' := by
  have HRR := Lib.hid hr
  clear hr
  have HQ := (Sq.new w X Y sl 34).alloc (.cells #[.int .i8 a0, .int .i8 a1, .int .i8 a2, .int .i8 a3] 55)
  have B := al (al (Below.refl w.heap.size w) (.cells #[.int .i8 X, .int .i8 Y, sl] 34)) (.cells #[.int .i8 a0, .int .i8 a1, .int .i8 a2, .int .i8 a3] 55)
  have R := (hG.alloc (.cells #[.int .i8 X, .int .i8 Y, sl] 34)).alloc (.cells #[.int .i8 a0, .int .i8 a1, .int .i8 a2, .int .i8 a3] 55)
  have H3 : Sl ((w.alloc (.cells #[.int .i8 X, .int .i8 Y, sl] 34)).alloc (.cells #[.int .i8 a0, .int .i8 a1, .int .i8 a2, .int .i8 a3] 55)) (w.heap.size + 1) a0 a1 a2 a3 := Sl.newAt _ _ _ _ _ _ _ (by simp)
  go_enter Try.func113, Try.ntmps113
  go_upto_region 1 with fail
  obtain ⟨W0, hW0⟩ : ∃ W0 : World, W0 = ((w.alloc (.cells #[.int .i8 X, .int .i8 Y, sl] 34)).alloc (.cells #[.int .i8 a0, .int .i8 a1, .int .i8 a2, .int .i8 a3] 55)) := ⟨_, rfl⟩
  rw [← hW0] at HQ H3 B R ⊢
  clear hW0
  obtain ⟨lq, pq, qq, rq⟩ := id HQ
  obtain ⟨l3, p3, q3, r3, s3⟩ := id H3
  by_cases hl : 0 ≤ a0 ∧ 0 ≤ a1 ∧ 1 ≤ a2 ∧ 1 ≤ a3 ∧ a0 + a2 ≤ X ∧ a1 + a3 ≤ Y
  case neg =>
    have hf : r = false := by
      cases r with
      | false => rfl
      | true =>
        obtain ⟨x0, y0, wd, ht, rfl, rfl, rfl, rfl, h1, h2, h3, h4, _⟩ := HRR.out.1 rfl
        exact absurd ⟨by omega, by omega, by omega, by omega, h3, h4⟩ hl
    subst hf
    clear HRR
    go_wp2_with fail
    refine (lw_no X Y a0 a1 a2 a3 _ (by omega) (by omega) b0 b1 b2 b3 hl).mono ?_
    rintro e w1 ⟨rfl, hb⟩
    replace B := nxt B hb
    clear hb hl
    go_wp2
    go_ret
    exact ⟨rfl, B⟩
  obtain ⟨x0, rfl⟩ := Int.eq_ofNat_of_zero_le hl.1
  obtain ⟨y0, rfl⟩ := Int.eq_ofNat_of_zero_le hl.2.1
  obtain ⟨wd, rfl⟩ := Int.eq_ofNat_of_zero_le (show 0 ≤ a2 by omega)
  obtain ⟨ht, rfl⟩ := Int.eq_ofNat_of_zero_le (show 0 ≤ a3 by omega)
  have hx : x0 + wd ≤ 12 := by omega
  have hy : y0 + ht ≤ 12 := by omega
  have hw1 : 1 ≤ wd := by omega
  have hh1 : 1 ≤ ht := by omega
  have hr2 : r = true ↔ (∀ k, k < wd * ht → G (posC (cellAt x0 y0 wd k)) = 0) ∧ Lean G x0 y0 wd ht := by
    rw [HRR.out, layable_nat]
    constructor
    · rintro ⟨_, _, _, _, h⟩; exact h
    · intro h; exact ⟨hw1, hh1, by omega, by omega, h⟩
  have HR2 := Lib.hid hr2
  have HL := Lib.hid hl
  clear HRR hr2 hl
  go_wp2_with fail
  refine (lw_yes X Y _ _ _ _ _ (by omega) (by omega) (by omega) (by omega) (by omega) (by omega) HL.out).mono ?_
  rintro e w1 ⟨rfl, hb⟩
  replace B := nxt B hb
  replace R := rowNext0 R hb
  replace H3 := H3.below hb
  clear lq pq qq rq l3 p3 q3 r3 s3 hb HQ
  obtain ⟨l3, p3, q3, r3, s3⟩ := id H3
  go_wp2_with fail
  refine (callsIn_wide.1 (isOpen_in 6 (by omega) b x0 y0 wd ht G _ hx hy R)).mono ?_
  rintro e w2 ⟨hb, ⟨rfl, ho⟩ | ⟨rfl, k, hk, ho⟩⟩
  · have hr3 : r = true ↔ Lean G x0 y0 wd ht := by
      rw [HR2.out]
      exact ⟨fun h => h.2, fun h => ⟨ho, h⟩⟩
    have HR3 := Lib.hid hr3
    replace B := nxt B hb
    replace R := rowNext0 R hb
    replace H3 := H3.below hb
    clear l3 p3 q3 r3 s3 hb ho hr3 HR2
    obtain ⟨l3, p3, q3, r3, s3⟩ := id H3
    go_wp2_with fail
    refine (leans_any b x0 y0 wd ht G r _ hx hy hw1 hh1 R HR3.out).mono ?_
    rintro e w3 ⟨rfl, hb⟩
    replace B := nxt B hb
    clear l3 p3 q3 r3 s3 hb
    go_wp2
    go_ret
    exact ⟨rfl, B⟩
  · have hf : r = false := by
      cases r with
      | false => rfl
      | true => exact absurd ((HR2.out.1 rfl).1 k hk) ho
    subst hf
    replace B := nxt B hb
    clear l3 p3 q3 r3 s3 hb ho HR2
    go_wp2
    go_ret
    exact ⟨rfl, B⟩
end Go.Proofs.Ytkggimalkjjnoaa
