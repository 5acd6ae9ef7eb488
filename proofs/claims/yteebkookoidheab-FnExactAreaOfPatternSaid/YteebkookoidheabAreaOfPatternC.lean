/-
  Both sides of AreaOfPattern answer the same. Conditions stand at each.
-/
import Derived.Test.YteebkookoidheabRows
import Derived.Test.YteebkookoidheabPatI
import Derived.Test.YteebkookoidheabPatS
namespace Go.Proofs.Yteebkookoidheab
open Go Go.ChangeShapes Go.WideShapes Go.ChangeAt Go.RowKit
set_option linter.unusedVariables false
set_option linter.unusedSimpArgs false
set_option maxRecDepth 100000
set_option maxHeartbeats 2000000
theorem areaOf_any (x y z u : Int) (w : World) (hz : 1 ≤ z ∧ z ≤ 12) (hu : 1 ≤ u ∧ u ≤ 12) :
    Calls Try.prog 58 #[.agg #[.int .i8 x, .int .i8 y, .int .i8 z, .int .i8 u]] w fun e w' => e = .returned (.int .i64 (z * u)) ∧ Below w.heap.size w w' := by
  have hzu : z * u ≤ 12 * 12 := Int.mul_le_mul hz.2 hu.2 (by omega) (by omega)
  have hzu0 : 0 ≤ z * u := Int.mul_nonneg (by omega) (by omega)
  have w1 : IntKind.i64.wrap z = z := IntWalk.i64_in _ (by omega)
  have w2 : IntKind.i64.wrap u = u := IntWalk.i64_in _ (by omega)
  have w3 : IntKind.i64.wrap (z * u) = z * u := IntWalk.i64_in _ (by omega)
  have w4 : wrap64 (z * u) = z * u := IntWalk.wrap64_in _ (by omega)
  clear hzu hzu0
  go_enter Try.func58, Try.ntmps58
  go_wp2
  go_ret
  exact ⟨rfl, al (Below.refl _ _) _⟩
end Go.Proofs.Yteebkookoidheab
namespace Go.Proofs.Yteebkookoidheab.areaOfPattern
open Go Go.ChangeShapes Go.WideShapes Go.ChangeAt Go.RowKit
/-- the area of the first slabs. -/
def areaP (c : Nat → Int) : Nat → Int
  | 0 => 0
  | k + 1 => areaP c k + c (4 * k + 2) * c (4 * k + 3)
theorem areaP_bd {X Y : Int} {c : Nat → Int} {n : Nat} (h : pTo X Y c n) : ∀ k, k ≤ n → 0 ≤ areaP c k ∧ areaP c k ≤ 144 * (k : Int)
  | 0, _ => by simp [areaP]
  | k + 1, hk => by
    have ih := areaP_bd h k (by omega)
    obtain ⟨⟨a1, a2⟩, b1, b2⟩ := (h k (by omega)).2.1
    have h1 : c (4 * k + 2) * c (4 * k + 3) ≤ 12 * 12 := Int.mul_le_mul a2 b2 (by omega) (by omega)
    have h2 : 0 ≤ c (4 * k + 2) * c (4 * k + 3) := Int.mul_nonneg (by omega) (by omega)
    unfold areaP
    omega

theorem spec_bad (X Y Z : Int) (g n : Nat) (c : Nat → Int) (w : World) (hX : -128 ≤ X ∧ X ≤ 127) (hY : -128 ≤ Y ∧ Y ≤ 127) (hZ : -128 ≤ Z ∧ Z ≤ 127) (hc : ∀ j, -128 ≤ c j ∧ c j ≤ 127) (hm : n ≤ 1048576) (hrow : w.rowIs g 67 (4 * n) (fun j => .int .i8 (c j))) (hv : ¬ PValid X Y Z n c) :
    Calls Try.prog 22 #[.agg #[.int .i8 X, .int .i8 Y, .int .i8 Z, .slice (some ⟨g, 0, none⟩) n n]] w fun e w' => e = .returned (.tuple #[.int .i64 0, .int .i64 1]) ∧ Below w.heap.size w w' := by
  have HL := Lib.hid (pok_any X Y Z w.heap.size g n c (w.alloc (.cells #[.int .i8 X, .int .i8 Y, .int .i8 Z, .slice (some ⟨g, 0, none⟩) n n] 30)) hX hY hZ hc hm (Pt.new w X Y Z _ _) (hrow.alloc _))
  go_enter Try.func22, Try.ntmps22
  go_wp2_with fail
  refine HL.out.mono ?_
  rintro e w1 ⟨hb, ⟨h, _⟩ | ⟨_, rfl⟩⟩
  · exact absurd h hv
  have B := nxt (al (Below.refl w.heap.size w) _) hb
  go_wp2_with fail
  exact bodyPost_ret (results_tmp2 Try.results22 _ _ _) rfl ⟨rfl, B⟩
theorem impl_bad (X Y Z : Int) (g n : Nat) (c : Nat → Int) (w : World) (hc : ∀ j, -128 ≤ c j ∧ c j ≤ 127) (hm : n ≤ 1048576) (hrow : w.rowIs g 67 (4 * n) (fun j => .int .i8 (c j))) (hv : ¬ PValid X Y Z n c) :
    Calls Try.prog 23 #[.agg #[.int .i8 X, .int .i8 Y, .int .i8 Z, .slice (some ⟨g, 0, none⟩) n n]] w fun e w' => e = .returned (.tuple #[.int .i64 0, .int .i64 1]) ∧ Below w.heap.size w w' := by
  have B := al (Below.refl w.heap.size w) (.cells #[.int .i8 X, .int .i8 Y, .int .i8 Z, .slice (some ⟨g, 0, none⟩) n n] 30)
  have HL := Lib.hid (implPVal_any X Y Z g n c _ hc hm (hrow.of_block (B.block _ hrow.lt)))
  clear hc
  go_enter Try.func23, Try.ntmps23
  go_wp2_with fail
  refine HL.out.mono ?_
  rintro e w1 ⟨hb, ⟨h, _⟩ | ⟨_, rfl⟩⟩
  · exact absurd h hv
  replace B := nxt B hb
  go_wp2_with fail
  exact bodyPost_ret (results_tmp2 Try.results23 _ _ _) rfl ⟨rfl, B⟩

theorem impl_in (X Y Z : Int) (g n : Nat) (c : Nat → Int) (w : World) (hc : ∀ j, -128 ≤ c j ∧ c j ≤ 127) (hm : n ≤ 1048576) (hrow : w.rowIs g 67 (4 * n) (fun j => .int .i8 (c j))) (hv : PValid X Y Z n c) :
    Calls Try.prog 23 #[.agg #[.int .i8 X, .int .i8 Y, .int .i8 Z, .slice (some ⟨g, 0, none⟩) n n]] w fun e w' => e = .returned (.tuple #[.int .i64 (areaP c n), .int .i64 0]) ∧ Below w.heap.size w w' := by
  have hn := hv.2.1
  have HBD := Lib.hid (areaP_bd hv.2.2)
  have HS := Lib.hid hv.2.2
  have B := al (Below.refl w.heap.size w) (.cells #[.int .i8 X, .int .i8 Y, .int .i8 Z, .slice (some ⟨g, 0, none⟩) n n] 30)
  have HQ := Pt.new w X Y Z (.slice (some ⟨g, 0, none⟩) n n) 30
  have HL := Lib.hid (implPVal_any X Y Z g n c _ hc hm (hrow.of_block (B.block _ hrow.lt)))
  have HV := Lib.hid hv
  clear hc hv
  go_enter Try.func23, Try.ntmps23
  go_wp2_with fail
  refine HL.out.mono ?_
  rintro e w1 ⟨hb, ⟨_, rfl⟩ | ⟨h, _⟩⟩
  case inr => exact absurd HV.out h
  replace HQ := HQ.below hb
  replace B := nxt B hb
  clear hb HL
  obtain ⟨lq, pq, qq, uq, rq⟩ := id HQ
  go_wp2_with fail
  clear lq pq qq uq rq HQ
  go_loopw [4, 6, 13] (fun t4 t6 t13 wr => ∃ k : Nat, k ≤ n ∧ t13 = .int .i64 k ∧ t4 = .int .i64 (areaP c k) ∧ Below w.heap.size w wr) (fun t4 t6 t13 wr => n - (intOf t13).toNat)
  case atStart => exact ⟨0, by omega, rfl, rfl, B⟩
  case round =>
    clear B
    obtain ⟨k, hk, rfl, rfl, B⟩ := hrel
    by_cases hlt : k < n
    · have hslab := (Own8.of_row (f := c) (hrow.of_block (B.block _ hrow.lt)))
      obtain ⟨c0, c1, c2, c3⟩ := hslab.at4 hlt |>.1
      simp only [Nat.zero_add] at c0 c1 c2 c3
      have hb0 := HBD.out k (by omega)
      have hb1 := HBD.out (k + 1) (by omega)
      have es : areaP c (k + 1) = areaP c k + c (4 * k + 2) * c (4 * k + 3) := rfl
      have wS : wrap64 (areaP c k + c (4 * k + 2) * c (4 * k + 3)) = areaP c (k + 1) := by rw [IntWalk.wrap64_in _ (by omega)]; exact es.symm
      have wT : IntKind.i64.wrap (areaP c k + c (4 * k + 2) * c (4 * k + 3)) = areaP c (k + 1) := by rw [IntWalk.i64_in _ (by omega)]; exact es.symm
      have HT := Lib.hid wT
      have HW := Lib.hid wS
      clear wS wT es hb0 hb1
      go_wp2_with fail
      refine (areaOf_any _ _ _ _ _ (HS.out k hlt).2.1.1 (HS.out k hlt).2.1.2).mono ?_
      rintro e w2 ⟨rfl, hb⟩
      replace B := nxt (al B _) hb
      clear hb c0 c1 c2 c3 hslab
      go_wp2_with fail
      exact ⟨⟨k + 1, by omega, by first | go_num | simp, (by first | exact congrArg (Value.int IntKind.i64) HW.out | exact congrArg (Value.int IntKind.i64) HT.out), B⟩, by simp [intOf]; omega⟩
    · obtain rfl : k = n := by omega
      go_wp2_with fail
      exact bodyPost_ret (results_tmp2 Try.results23 _ _ _) rfl ⟨rfl, B⟩

theorem spec_in (X Y Z : Int) (g n : Nat) (c : Nat → Int) (w : World) (hX : -128 ≤ X ∧ X ≤ 127) (hY : -128 ≤ Y ∧ Y ≤ 127) (hZ : -128 ≤ Z ∧ Z ≤ 127) (hc : ∀ j, -128 ≤ c j ∧ c j ≤ 127) (hm : n ≤ 1048576) (hrow : w.rowIs g 67 (4 * n) (fun j => .int .i8 (c j))) (hv : PValid X Y Z n c) :
    Calls Try.prog 22 #[.agg #[.int .i8 X, .int .i8 Y, .int .i8 Z, .slice (some ⟨g, 0, none⟩) n n]] w fun e w' => e = .returned (.tuple #[.int .i64 (areaP c n), .int .i64 0]) ∧ Below w.heap.size w w' := by
  have hn := hv.2.1
  have HBD := Lib.hid (areaP_bd hv.2.2)
  have HS := Lib.hid hv.2.2
  have B := al (Below.refl w.heap.size w) (.cells #[.int .i8 X, .int .i8 Y, .int .i8 Z, .slice (some ⟨g, 0, none⟩) n n] 30)
  have HQ := Pt.new w X Y Z (.slice (some ⟨g, 0, none⟩) n n) 30
  have HL := Lib.hid (pok_any X Y Z w.heap.size g n c (w.alloc (.cells #[.int .i8 X, .int .i8 Y, .int .i8 Z, .slice (some ⟨g, 0, none⟩) n n] 30)) hX hY hZ hc hm (Pt.new w X Y Z _ _) (hrow.alloc _))
  have HV := Lib.hid hv
  clear hc hv
  go_enter Try.func22, Try.ntmps22
  go_wp2_with fail
  refine HL.out.mono ?_
  rintro e w1 ⟨hb, ⟨_, rfl⟩ | ⟨h, _⟩⟩
  case inr => exact absurd HV.out h
  replace HQ := HQ.below hb
  replace B := nxt B hb
  clear hb HL
  obtain ⟨lq, pq, qq, uq, rq⟩ := id HQ
  go_wp2_with fail
  clear lq pq qq uq rq
  go_loopw [4, 5] (fun t4 t5 wr => ∃ k : Nat, k ≤ n ∧ t5 = .int .i64 k ∧ t4 = .int .i64 (areaP c k) ∧ Below w.heap.size w wr ∧ Pt wr w.heap.size X Y Z (.slice (some ⟨g, 0, none⟩) n n)) (fun t4 t5 wr => n - (intOf t5).toNat)
  case atStart => exact ⟨0, by omega, rfl, rfl, B, HQ⟩
  case round =>
    clear B HQ
    obtain ⟨k, hk, rfl, rfl, B, HQ⟩ := hrel
    obtain ⟨lq, pq, qq, uq, rq⟩ := id HQ
    by_cases hlt : k < n
    · have hslab := (Own8.of_row (f := c) (hrow.of_block (B.block _ hrow.lt)))
      obtain ⟨c0, c1, c2, c3⟩ := hslab.at4 hlt |>.1
      simp only [Nat.zero_add] at c0 c1 c2 c3
      have hkn : (k : Int) < (n : Int) := by omega
      have hk0 : (0 : Int) ≤ (k : Int) := by omega
      have hb0 := HBD.out k (by omega)
      have hb1 := HBD.out (k + 1) (by omega)
      have es : areaP c (k + 1) = areaP c k + c (4 * k + 2) * c (4 * k + 3) := rfl
      obtain ⟨⟨a1, a2⟩, b1, b2⟩ := (HS.out k hlt).2.1
      have wP : IntKind.i64.wrap (c (4 * k + 2) * c (4 * k + 3)) = c (4 * k + 2) * c (4 * k + 3) := IntWalk.i64_in _ (by omega)
      have wT : IntKind.i64.wrap (areaP c k + c (4 * k + 2) * c (4 * k + 3)) = areaP c (k + 1) := by rw [IntWalk.i64_in _ (by omega)]; exact es.symm
      have w2 : IntKind.i64.wrap (c (4 * k + 2)) = c (4 * k + 2) := IntWalk.i64_in _ (by omega)
      have w3 : IntKind.i64.wrap (c (4 * k + 3)) = c (4 * k + 3) := IntWalk.i64_in _ (by omega)
      clear es hb0 hb1 a1 a2 b1 b2
      go_wp2_with fail
      go_quiet (fail)
      clear wP w2 w3
      go_wp2_with fail
      exact ⟨⟨k + 1, by omega, by first | go_num | simp, by simp, below_drewN' B _, HQ⟩, by simp [intOf]; omega⟩
    · obtain rfl : k = n := by omega
      go_wp2_with fail
      exact bodyPost_ret (results_tmp2 Try.results22 _ _ _) rfl ⟨rfl, B⟩

theorem both (X Y Z : Int) (n : Nat) (c : Nat → Int) (hX : -128 ≤ X ∧ X ≤ 127) (hY : -128 ≤ Y ∧ Y ≤ 127) (hZ : -128 ≤ Z ∧ Z ≤ 127) (hc : ∀ j, -128 ≤ c j ∧ c j ≤ 127) (hm : n ≤ 1048576) :
    ∃ r0 r1 : Int, (∀ (W : World) (g : Nat), W.rowIs g 67 (4 * n) (fun j => .int .i8 (c j)) → Calls Try.prog 22 #[.agg #[.int .i8 X, .int .i8 Y, .int .i8 Z, .slice (some ⟨g, 0, none⟩) n n]] W fun e w' => e = .returned (.tuple #[.int .i64 r0, .int .i64 r1]) ∧ Below W.heap.size W w') ∧
      (∀ (W : World) (g : Nat), W.rowIs g 67 (4 * n) (fun j => .int .i8 (c j)) → Calls Try.prog 23 #[.agg #[.int .i8 X, .int .i8 Y, .int .i8 Z, .slice (some ⟨g, 0, none⟩) n n]] W fun e w' => e = .returned (.tuple #[.int .i64 r0, .int .i64 r1]) ∧ Below W.heap.size W w') := by
  by_cases hv : PValid X Y Z n c
  · exact ⟨_, _, fun W g R => spec_in X Y Z g n c W hX hY hZ hc hm R hv, fun W g R => impl_in X Y Z g n c W hc hm R hv⟩
  · exact ⟨_, _, fun W g R => spec_bad X Y Z g n c W hX hY hZ hc hm R hv, fun W g R => impl_bad X Y Z g n c W hc hm R hv⟩
end Go.Proofs.Yteebkookoidheab.areaOfPattern
