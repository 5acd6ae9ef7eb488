/-
  Both sides of LaidArea answer the same. Conditions stand at each.
-/
import Derived.Test.YtmbmdplafjminaaRows
import Derived.Test.YtmbmdplafjminaaArea
import Derived.Deep.RegionHeld3
namespace Go.Proofs.Ytmbmdplafjminaa.laidArea
open Go Go.ChangeShapes Go.WideShapes Go.ChangeAt Go.RowKit
set_option linter.unusedVariables false
set_option linter.unusedSimpArgs false
set_option maxRecDepth 100000
set_option maxHeartbeats 2000000

theorem own_shape {w : World} {base : Nat} {v : Value} {L : List (Nat × Nat)} (h : OwnC w base v L) : ∃ A cap, v = .slice A L.length cap := by
  rcases h.2 with ⟨rfl, h0⟩ | ⟨g, cap, cur, rfl, _⟩
  · exact ⟨none, 0, by rw [h0]⟩
  · exact ⟨_, _, rfl⟩

theorem spec_bad (X Y : Int) (g n : Nat) (c : Nat → Int) (w : World) (hX : -128 ≤ X ∧ X ≤ 127) (hY : -128 ≤ Y ∧ Y ≤ 127) (hc : ∀ j, -128 ≤ c j ∧ c j ≤ 127) (hm : n ≤ 1048576) (hrow : w.rowIs g 58 (4 * n) (fun j => .int .i8 (c j))) (hv : ¬ Valid X Y n c) :
    Calls Try.prog 36 #[.agg #[.int .i8 X, .int .i8 Y, .slice (some ⟨g, 0, none⟩) n n]] w fun e w' => e = .returned (.tuple #[.int .i64 0, .int .i64 1]) ∧ Below w.heap.size w w' := by
  go_enter Try.func36, Try.ntmps36
  go_wp2_with fail
  have HQ := Sq.new w X Y (.slice (some ⟨g, 0, none⟩) n n) 32
  have B := al (Below.refl w.heap.size w) (.cells #[.int .i8 X, .int .i8 Y, .slice (some ⟨g, 0, none⟩) n n] 32)
  refine (ok_any X Y w.heap.size g n c _ hX hY hc hm HQ (hrow.of_block (B.block _ hrow.lt))).mono ?_
  rintro e w1 ⟨hb, ⟨h, _⟩ | ⟨_, rfl⟩⟩
  · exact absurd h hv
  replace B := nxt B hb
  clear hb
  go_wp2_with fail
  exact bodyPost_ret (results_tmp2 Try.results36 _ _ _) rfl ⟨rfl, B⟩

theorem impl_bad (X Y : Int) (g n : Nat) (c : Nat → Int) (w : World) (hX : -128 ≤ X ∧ X ≤ 127) (hY : -128 ≤ Y ∧ Y ≤ 127) (hc : ∀ j, -128 ≤ c j ∧ c j ≤ 127) (hm : n ≤ 1048576) (hrow : w.rowIs g 58 (4 * n) (fun j => .int .i8 (c j))) (hv : ¬ Valid X Y n c) :
    Calls Try.prog 37 #[.agg #[.int .i8 X, .int .i8 Y, .slice (some ⟨g, 0, none⟩) n n]] w fun e w' => e = .returned (.tuple #[.int .i64 0, .int .i64 1]) ∧ Below w.heap.size w w' := by
  go_enter Try.func37, Try.ntmps37
  go_wp2_with fail
  have B := al (Below.refl w.heap.size w) (.cells #[.int .i8 X, .int .i8 Y, .slice (some ⟨g, 0, none⟩) n n] 32)
  refine (implValid_any X Y g n c _ hX hY hc hm (hrow.of_block (B.block _ hrow.lt))).mono ?_
  rintro e w1 ⟨hb, ⟨h, _⟩ | ⟨_, rfl⟩⟩
  · exact absurd h hv
  replace B := nxt B hb
  clear hb
  go_wp2_with fail
  exact bodyPost_ret (results_tmp2 Try.results37 _ _ _) rfl ⟨rfl, B⟩

theorem spec_in (W H g n : Nat) (c : Nat → Int) (w : World) (hc : ∀ j, -128 ≤ c j ∧ c j ≤ 127) (hm : n ≤ 1048576) (hrow : w.rowIs g 58 (4 * n) (fun j => .int .i8 (c j))) (hv : Valid W H n c) :
    Calls Try.prog 36 #[.agg #[.int .i8 (W : Int), .int .i8 (H : Int), .slice (some ⟨g, 0, none⟩) n n]] w fun e w' => e = .returned (.tuple #[.int .i64 (areaN c n), .int .i64 0]) ∧ Below w.heap.size w w' := by
  have hW0 : 1 ≤ W := by have := hv.1; omega
  have hW : W ≤ 12 := by have := hv.2.1; omega
  have hH : H ≤ 12 := by have := hv.2.2.2.1; omega
  have hWi : (W : Int) ≤ 12 := by omega
  have hHi : (H : Int) ≤ 12 := by omega
  have h144 : (W : Int) * (H : Int) ≤ 144 := by have := mul12 hW hH; have e : (W : Int) * H = ((W * H : Nat) : Int) := by push_cast; rfl
                                                omega
  have h0 : 0 ≤ (W : Int) * (H : Int) := by have e : (W : Int) * H = ((W * H : Nat) : Int) := by push_cast; rfl
                                            omega
  have har := area_to hv n (Nat.le_refl _)
  have hln : (openC W (gridN c n) (W * H)).length ≤ 144 := Nat.le_trans (openC_length _ _ _) (mul12 hW hH)
  have wP : IntKind.i64.wrap ((W : Int) * (H : Int)) = (W : Int) * (H : Int) := IntWalk.i64_in _ (by omega)
  have wS : IntKind.i64.wrap ((W : Int) * (H : Int) - ((openC W (gridN c n) (W * H)).length : Int)) = areaN c n := by rw [IntWalk.i64_in _ (by omega)]; omega
  have wS' : (W : Int) * (H : Int) - ((openC W (gridN c n) (W * H)).length : Int) = areaN c n := by omega
  have HS := Lib.hid wS
  have HS' := Lib.hid wS'
  have HP := Lib.hid wP
  have HC := Lib.hid hc
  clear wP wS wS' har hc
  have wW : IntKind.i64.wrap (W : Int) = (W : Int) := IntWalk.i64_in _ (by omega)
  have wH : IntKind.i64.wrap (H : Int) = (H : Int) := IntWalk.i64_in _ (by omega)
  have HWW := Lib.hid wW
  have HWH := Lib.hid wH
  clear wW wH
  go_enter Try.func36, Try.ntmps36
  go_wp2_with fail
  have HQ := Sq.new w (W : Int) (H : Int) (.slice (some ⟨g, 0, none⟩) n n) 32
  have B := al (Below.refl w.heap.size w) (.cells #[.int .i8 (W : Int), .int .i8 (H : Int), .slice (some ⟨g, 0, none⟩) n n] 32)
  refine (ok_any W H w.heap.size g n c _ (by omega) (by omega) HC.out hm HQ (hrow.of_block (B.block _ hrow.lt))).mono ?_
  rintro e w1 ⟨hb, ⟨_, rfl⟩ | ⟨h, _⟩⟩
  case inr => exact absurd hv h
  replace HQ := HQ.below hb
  replace B := nxt B hb
  clear hb
  go_wp2_with fail
  replace B := B.drew
  replace HQ : Sq w1.drew w.heap.size W H (.slice (some ⟨g, 0, none⟩) n n) := HQ
  obtain ⟨lq, pq, qq, rq⟩ := id HQ
  have wP := HP.out
  have wW := HWW.out
  have wH := HWH.out
  go_region_held3 (fun w' => w'.cell? ⟨w.heap.size, 0, none⟩ = some (.int .i8 (W : Int)) ∧ w'.cell? ⟨w.heap.size, 1, none⟩ = some (.int .i8 (H : Int)))
    (first | exact ⟨pq, qq⟩)
    (first
      | (go_at_call 74
         with_reducible refine (openL_any W H _ g n c _ hW0 hW hH HC.out hm HQ (hrow.of_block (B.block _ hrow.lt)) hv).mono ?_
         rintro e w3 ⟨hb, v, rfl, O⟩
         obtain ⟨A, cap, rfl⟩ := own_shape O
         replace HQ := HQ.below hb
         replace B := nxt B hb
         clear hb lq pq qq rq O
         obtain ⟨lq, pq, qq, rq⟩ := id HQ))
  have wS := HS.out
  have wS' := HS'.out
  go_wp2_with fail
  refine bodyPost_ret (results_tmp2 Try.results36 _ _ _) rfl ⟨?_, B⟩
  show Ending.returned (.tuple #[.int .i64 (IntKind.i64.wrap ((W : Int) * (H : Int) - ((openC W (gridN c n) (W * H)).length : Int))), .int .i64 0]) = _
  rw [wS]

theorem impl_in (W H g n : Nat) (c : Nat → Int) (w : World) (hc : ∀ j, -128 ≤ c j ∧ c j ≤ 127) (hm : n ≤ 1048576) (hrow : w.rowIs g 58 (4 * n) (fun j => .int .i8 (c j))) (hv : Valid W H n c) :
    Calls Try.prog 37 #[.agg #[.int .i8 (W : Int), .int .i8 (H : Int), .slice (some ⟨g, 0, none⟩) n n]] w fun e w' => e = .returned (.tuple #[.int .i64 (areaN c n), .int .i64 0]) ∧ Below w.heap.size w w' := by
  have hW : W ≤ 12 := by have := hv.2.1; omega
  have hH : H ≤ 12 := by have := hv.2.2.2.1; omega
  have h144 : (W : Int) * (H : Int) ≤ 144 := by have := mul12 hW hH; have e : (W : Int) * H = ((W * H : Nat) : Int) := by push_cast; rfl
                                                omega
  have hbd : ∀ k, k ≤ n → 0 ≤ areaN c k ∧ areaN c k ≤ 144 := fun k hk => by
    have h1 := area_to hv k hk
    have h2 := openC_length W (gridN c k) (W * H)
    have e : (W : Int) * H = ((W * H : Nat) : Int) := by push_cast; rfl
    omega
  have HC := Lib.hid hc
  have HBD := Lib.hid hbd
  clear hc hbd
  have hn60 := hv.2.2.2.2.1
  go_enter Try.func37, Try.ntmps37
  go_wp2_with fail
  have HQ := Sq.new w (W : Int) (H : Int) (.slice (some ⟨g, 0, none⟩) n n) 32
  have B := al (Below.refl w.heap.size w) (.cells #[.int .i8 (W : Int), .int .i8 (H : Int), .slice (some ⟨g, 0, none⟩) n n] 32)
  refine (implValid_any W H g n c _ (by omega) (by omega) HC.out hm (hrow.of_block (B.block _ hrow.lt))).mono ?_
  rintro e w1 ⟨hb, ⟨_, rfl⟩ | ⟨h, _⟩⟩
  case inr => exact absurd hv h
  replace HQ := HQ.below hb
  replace B := nxt B hb
  clear hb
  obtain ⟨lq, pq, qq, rq⟩ := id HQ
  go_wp2_with fail
  clear lq pq qq rq HQ
  go_loopw [4, 13] (fun t4 t13 wr => ∃ k : Nat, k ≤ n ∧ t13 = .int .i64 k ∧ t4 = .int .i64 (areaN c k) ∧ Below w.heap.size w wr) (fun t4 t13 wr => n - (intOf t13).toNat)
  case atStart => exact ⟨0, by omega, rfl, rfl, B⟩
  case round =>
    clear B
    obtain ⟨k, hk, rfl, rfl, B⟩ := hrel
    by_cases hlt : k < n
    · have hslab := (Own8.of_row (f := c) (hrow.of_block (B.block _ hrow.lt)))
      obtain ⟨c0, c1, c2, c3⟩ := hslab.at4 hlt |>.1
      simp only [Nat.zero_add] at c0 c1 c2 c3
      have hb0 := HBD.out k (by omega)
      have hb1 := HBD.out (k + 1) (by omega)
      have es : areaN c (k + 1) = areaN c k + c (4 * k + 2) * c (4 * k + 3) := rfl
      have wP : IntKind.i64.wrap (c (4 * k + 2) * c (4 * k + 3)) = c (4 * k + 2) * c (4 * k + 3) := IntWalk.i64_in _ (by omega)
      have wS : wrap64 (areaN c k + c (4 * k + 2) * c (4 * k + 3)) = areaN c (k + 1) := by rw [IntWalk.wrap64_in _ (by omega)]; exact es.symm
      have hx2 := HC.out (4 * k + 2)
      have hx3 := HC.out (4 * k + 3)
      have HS := Lib.hid wS
      clear wS es hb0 hb1
      go_wp2
      exact ⟨⟨k + 1, by omega, by first | go_num | simp, congrArg (Value.int IntKind.i64) HS.out, al B _⟩, by simp [intOf]; omega⟩
    · obtain rfl : k = n := by omega
      go_wp2
      exact bodyPost_ret (results_tmp2 Try.results37 _ _ _) rfl ⟨rfl, B⟩

theorem both (X Y : Int) (n : Nat) (c : Nat → Int) (hX : -128 ≤ X ∧ X ≤ 127) (hY : -128 ≤ Y ∧ Y ≤ 127) (hc : ∀ j, -128 ≤ c j ∧ c j ≤ 127) (hm : n ≤ 1048576) :
    ∃ r0 r1 : Int, (∀ (W : World) (g : Nat), W.rowIs g 58 (4 * n) (fun j => .int .i8 (c j)) → Calls Try.prog 36 #[.agg #[.int .i8 X, .int .i8 Y, .slice (some ⟨g, 0, none⟩) n n]] W fun e w' => e = .returned (.tuple #[.int .i64 r0, .int .i64 r1]) ∧ Below W.heap.size W w') ∧
      (∀ (W : World) (g : Nat), W.rowIs g 58 (4 * n) (fun j => .int .i8 (c j)) → Calls Try.prog 37 #[.agg #[.int .i8 X, .int .i8 Y, .slice (some ⟨g, 0, none⟩) n n]] W fun e w' => e = .returned (.tuple #[.int .i64 r0, .int .i64 r1]) ∧ Below W.heap.size W w') := by
  by_cases hv : Valid X Y n c
  · obtain ⟨W', rfl⟩ := Int.eq_ofNat_of_zero_le (show 0 ≤ X by have := hv.1; omega)
    obtain ⟨H', rfl⟩ := Int.eq_ofNat_of_zero_le (show 0 ≤ Y by have := hv.2.2.1; omega)
    exact ⟨_, _, fun W g R => spec_in W' H' g n c W hc hm R hv, fun W g R => impl_in W' H' g n c W hc hm R hv⟩
  · exact ⟨_, _, fun W g R => spec_bad X Y g n c W hX hY hc hm R hv, fun W g R => impl_bad X Y g n c W hX hY hc hm R hv⟩
end Go.Proofs.Ytmbmdplafjminaa.laidArea
