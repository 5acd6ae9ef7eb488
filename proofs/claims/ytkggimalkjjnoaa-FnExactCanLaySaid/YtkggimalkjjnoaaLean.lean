/-
  What leans: impl.areCovered, impl.leans. Conditions stand at each. Conditions stand at each.
-/
import Derived.Test.YtkggimalkjjnoaaRows
import Derived.Test.YtkggimalkjjnoaaCovered
import Derived.Test.YtkggimalkjjnoaaJoint
import Derived.BigRegion
import Derived.Deep.Cut
import Derived.Deep.DeepCutAuto
import Derived.Deep.RegionHeld3
namespace Go.Proofs.Ytkggimalkjjnoaa
open Go Go.ChangeShapes Go.WideShapes Go.ChangeAt Go.RowKit
set_option linter.unusedVariables false
set_option linter.unusedSimpArgs false
set_option maxRecDepth 100000
set_option maxHeartbeats 4000000
def North (G : Nat → Int) (x0 y0 wd : Nat) : Prop := ∀ i, i < wd → G ((y0 - 1) * 12 + (x0 + i)) ≠ 0
def West (G : Nat → Int) (x0 y0 ht : Nat) : Prop := ∀ i, i < ht → G ((y0 + i) * 12 + (x0 - 1)) ≠ 0
def Lean (G : Nat → Int) (x0 y0 wd ht : Nat) : Prop := y0 = 0 ∨ x0 = 0 ∨ North G x0 y0 wd ∨ West G x0 y0 ht
theorem covered_b (b x0 y0 wd ht : Nat) (X Y Z U : Int) (G : Nat → Int) (r : Bool) (w : World) (hx : x0 + wd ≤ 12) (hy : y0 + ht ≤ 12) (eX : X = x0) (eY : Y = y0) (eZ : Z = wd) (eU : U = ht) (hG : w.rowIs b 129 144 (fun p => .int .i8 (G p)))
    (hr : r = true ↔ ∀ k, k < wd * ht → G (posC (cellAt x0 y0 wd k)) ≠ 0) :
    Calls Try.prog 245 #[.pointer (some ⟨b, 0, none⟩), .agg #[.int .i8 X, .int .i8 Y, .int .i8 Z, .int .i8 U]] w fun e w' => e = .returned (.bool r) ∧ Below w.heap.size w w' := by
  subst eX eY eZ eU
  refine (callsIn_wide.1 (covered_in 6 (by omega) b x0 y0 wd ht G w hx hy hG)).mono ?_
  rintro e w' ⟨hb, ⟨rfl, h⟩ | ⟨rfl, k, hk, h⟩⟩
  · rw [hr.2 h]; exact ⟨rfl, hb⟩
  · have : r = false := by
      cases r with
      | false => rfl
      | true => exact absurd h (hr.1 rfl k hk)
    rw [this]; exact ⟨rfl, hb⟩
theorem north_iff {G : Nat → Int} {x0 y0 wd : Nat} (hx : x0 + wd ≤ 12) (hy : y0 < 12) : (∀ k, k < wd * 1 → G (posC (cellAt x0 (y0 - 1) wd k)) ≠ 0) ↔ North G x0 y0 wd := by
  have key : ∀ k, k < wd → posC (cellAt x0 (y0 - 1) wd k) = (y0 - 1) * 12 + (x0 + k) := fun k hk => by
    show min (y0 - 1 + k / wd) 11 * 12 + min (x0 + k % wd) 11 = _
    rw [Nat.mod_eq_of_lt hk, Nat.div_eq_of_lt hk]
    omega
  constructor
  · intro h i hi
    rw [← key i hi]
    exact h i (by omega)
  · intro h k hk
    rw [key k (by omega)]
    exact h k (by omega)
theorem west_iff {G : Nat → Int} {x0 y0 ht : Nat} (hy : y0 + ht ≤ 12) (hx : x0 < 13) : (∀ k, k < 1 * ht → G (posC (cellAt (x0 - 1) y0 1 k)) ≠ 0) ↔ West G x0 y0 ht := by
  have key : ∀ k, k < ht → posC (cellAt (x0 - 1) y0 1 k) = (y0 + k) * 12 + (x0 - 1) := fun k hk => by
    show min (y0 + k / 1) 11 * 12 + min (x0 - 1 + k % 1) 11 = _
    rw [Nat.mod_one, Nat.div_one]
    omega
  constructor
  · intro h i hi
    rw [← key i hi]
    exact h i (by omega)
  · intro h k hk
    rw [key k (by omega)]
    exact h k (by omega)
theorem Sl.newAt (w : World) (k : Nat) (x y z u : Int) (t : TypeId) (hk : k = w.heap.size) : Sl (w.alloc (.cells #[.int .i8 x, .int .i8 y, .int .i8 z, .int .i8 u] t)) k x y z u := by
  subst hk; exact Sl.new w x y z u t
def Lean2 (w : World) (b x0 y0 wd ht : Nat) (G : Nat → Int) (t5 t6 : Value) (W : World) : Prop :=
  ∃ b5 b6 : Nat, t5 = .pointer (some ⟨b5, 0, none⟩) ∧ t6 = .pointer (some ⟨b6, 0, none⟩) ∧ Below w.heap.size w W ∧ W.rowIs b 129 144 (fun p => .int .i8 (G p)) ∧
    Sl W w.heap.size (x0 : Int) (y0 : Int) (wd : Int) (ht : Int) ∧ Sl W b5 (x0 : Int) ((y0 : Int) - 1) (wd : Int) 1 ∧ Sl W b6 ((x0 : Int) - 1) (y0 : Int) 1 (ht : Int)

set_option maxHeartbeats 40000000 in
theorem leans_any (b x0 y0 wd ht : Nat) (G : Nat → Int) (r : Bool) (w : World) (hx : x0 + wd ≤ 12) (hy : y0 + ht ≤ 12) (hw1 : 1 ≤ wd) (hh1 : 1 ≤ ht) (hG : w.rowIs b 129 144 (fun p => .int .i8 (G p))) (hr : r = true ↔ Lean G x0 y0 wd ht) :
    Calls Try.prog 202 #[.pointer (some ⟨b, 0, none⟩), .agg #[.int .i8 (x0 : Int), .int .i8 (y0 : Int), .int .i8 (wd : Int), .int .i8 (ht : Int)]] w fun e w' => e = .returned (.bool r) ∧ Below w.heap.size w w' := by
  have HRR := Lib.hid hr
  have hbl := hG.lt
  clear hr
  go_enter Try.func202, Try.ntmps202
  go_upto_region 1 with fail
  have H3 := Sl.new w (x0 : Int) (y0 : Int) (wd : Int) (ht : Int) 55
  have B := al (Below.refl w.heap.size w) (.cells #[.int .i8 (x0 : Int), .int .i8 (y0 : Int), .int .i8 (wd : Int), .int .i8 (ht : Int)] 55)
  have R := hG.alloc (.cells #[.int .i8 (x0 : Int), .int .i8 (y0 : Int), .int .i8 (wd : Int), .int .i8 (ht : Int)] 55)
  obtain ⟨W0, hW0⟩ : ∃ W0 : World, W0 = w.alloc (.cells #[.int .i8 (x0 : Int), .int .i8 (y0 : Int), .int .i8 (wd : Int), .int .i8 (ht : Int)] 55) := ⟨_, rfl⟩
  have hs0 : W0.heap.size = w.heap.size + 1 := by rw [hW0]; simp
  rw [← hW0] at H3 B R ⊢
  have HS0 := Lib.hid hs0
  have hlt0 : w.heap.size < W0.heap.size := by omega
  have hblt : b < W0.heap.size := by omega
  clear hW0 hs0
  go_cut [5, 6] (fun t5 t6 wx => Lean2 w b x0 y0 wd ht G t5 t6 wx)
  case first =>
    obtain ⟨l3, p3, q3, r3, s3⟩ := id H3
    have v1 : IntKind.i8.wrap ((x0 : Int) - 1) = (x0 : Int) - 1 := IntWalk.i8_in _ (by omega)
    have v2 : IntKind.i8.wrap ((y0 : Int) - 1) = (y0 : Int) - 1 := IntWalk.i8_in _ (by omega)
    have p3' : W0.drew.cell? ⟨w.heap.size, 0, none⟩ = some (.int .i8 (x0 : Int)) := p3
    have q3' : W0.drew.cell? ⟨w.heap.size, 1, none⟩ = some (.int .i8 (y0 : Int)) := q3
    have r3' : W0.drew.cell? ⟨w.heap.size, 2, none⟩ = some (.int .i8 (wd : Int)) := r3
    have s3' : W0.drew.cell? ⟨w.heap.size, 3, none⟩ = some (.int .i8 (ht : Int)) := s3
    have l3' : w.heap.size < W0.drew.heap.size := l3
    go_region_held3 (fun w' => w.heap.size < w'.heap.size ∧ w'.cell? ⟨w.heap.size, 0, none⟩ = some (.int .i8 (x0 : Int)) ∧ w'.cell? ⟨w.heap.size, 1, none⟩ = some (.int .i8 (y0 : Int)) ∧ w'.cell? ⟨w.heap.size, 2, none⟩ = some (.int .i8 (wd : Int)) ∧ w'.cell? ⟨w.heap.size, 3, none⟩ = some (.int .i8 (ht : Int)))
      (first | exact ⟨l3', p3', q3', r3', s3'⟩ | exact Sl.alloc ‹_› _ | exact Sl.alloc (Sl.alloc ‹_› _) _ | exact Sl.alloc (id (α := Sl _ _ _ _ _ _) ⟨by assumption, by assumption, by assumption, by assumption, by assumption⟩) _)
      (first | fail)
    all_goals
      go_wp2_with fail
      go_meet
      refine ⟨_, _, rfl, rfl, (al (al B _) _).drew, (R.alloc _).alloc _, (H3.alloc _).alloc _, ?_, ?_⟩
      all_goals first
        | exact Sl.newAt _ _ _ _ _ _ _ (by simp)
        | exact (Sl.newAt _ _ _ _ _ _ _ (by simp)).alloc _
  case rest =>
    obtain ⟨b5, b6, rfl, rfl, B, R, H3, H5, H6⟩ := hcut
    obtain ⟨W1, rfl⟩ : ∃ W1 : World, wc = W1 := ⟨_, rfl⟩
    clear HS0 hlt0 hblt
    obtain ⟨l3, p3, q3, r3, s3⟩ := id H3
    obtain ⟨l5, p5, q5, r5, s5⟩ := id H5
    obtain ⟨l6, p6, q6, r6, s6⟩ := id H6
    by_cases h1 : y0 = 0
    · have d1 : ((y0 : Int) == 0) = true := by simpa using h1
      obtain rfl : r = true := HRR.out.2 (.inl h1)
      clear h1 HRR
      go_wp2
      go_ret
      exact ⟨rfl, B⟩
    have d1 : ((y0 : Int) == 0) = false := by simpa using h1
    by_cases h2 : x0 = 0
    · have d2 : ((x0 : Int) == 0) = true := by simpa using h2
      obtain rfl : r = true := HRR.out.2 (.inr (.inl h2))
      clear h1 h2 HRR
      go_wp2
      go_ret
      exact ⟨rfl, B⟩
    have d2 : ((x0 : Int) == 0) = false := by simpa using h2
    obtain ⟨rn, hrn⟩ : ∃ rn : Bool, rn = true ↔ North G x0 y0 wd := by
      by_cases h : North G x0 y0 wd
      · exact ⟨true, by simp [h]⟩
      · exact ⟨false, by simp [h]⟩
    obtain ⟨rw_, hrw⟩ : ∃ rw_ : Bool, rw_ = true ↔ West G x0 y0 ht := by
      by_cases h : West G x0 y0 ht
      · exact ⟨true, by simp [h]⟩
      · exact ⟨false, by simp [h]⟩
    have hrr : r = true ↔ (rn = true ∨ rw_ = true) := by
      rw [HRR.out, hrn, hrw]
      unfold Lean
      constructor
      · rintro (h | h | h)
        · exact absurd h h1
        · exact absurd h h2
        · exact h
      · intro h; exact .inr (.inr h)
    have CN := Lib.hid (fun (W : World) (h : W.rowIs b 129 144 (fun p => .int .i8 (G p))) => covered_b b x0 (y0 - 1) wd 1 (x0 : Int) ((y0 : Int) - 1) (wd : Int) 1 G rn W hx (by omega) rfl (by omega) rfl rfl h (hrn.trans (north_iff hx (by omega)).symm))
    have CW := Lib.hid (fun (W : World) (h : W.rowIs b 129 144 (fun p => .int .i8 (G p))) => covered_b b (x0 - 1) y0 1 ht ((x0 : Int) - 1) (y0 : Int) 1 (ht : Int) G rw_ W (by omega) hy (by omega) rfl rfl rfl h (hrw.trans (west_iff hy (by omega)).symm))
    have HRN := Lib.hid hrr
    clear hrn hrw hrr HRR h1 h2
    cases rn with
    | true =>
      obtain rfl : r = true := HRN.out.2 (.inl rfl)
      go_wp2_with fail
      refine (CN.out _ R).mono ?_
      rintro e w2 ⟨rfl, hb⟩
      replace B := nxt B hb
      go_wp2
      go_ret
      exact ⟨rfl, B⟩
    | false =>
      have hrw : r = rw_ := by
        have h := HRN.out
        cases rw_ with
        | true => exact h.2 (.inr rfl)
        | false =>
          cases r with
          | false => rfl
          | true => rcases h.1 rfl with h | h <;> cases h
      subst hrw
      go_wp2_with fail
      refine (CN.out _ R).mono ?_
      rintro e w2 ⟨rfl, hb⟩
      replace B := nxt B hb
      replace R := rowNext0 R hb
      replace H6 := H6.below hb
      clear l6 p6 q6 r6 s6 l5 p5 q5 r5 s5 l3 p3 q3 r3 s3 hb
      obtain ⟨l6, p6, q6, r6, s6⟩ := id H6
      go_wp2_with fail
      refine (CW.out _ R).mono ?_
      rintro e w3 ⟨rfl, hb⟩
      replace B := nxt B hb
      clear l6 p6 q6 r6 s6 hb
      go_wp2
      go_ret
      exact ⟨rfl, B⟩
end Go.Proofs.Ytkggimalkjjnoaa
