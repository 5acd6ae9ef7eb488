/-
  Mixes: contracts of impl.numbersOf, impl.ValidMix, slices.Max. Conditions stand at each.
-/
import Derived.Test.YtgpnimbgckajlaaRows
import Derived.Test.YtgpnimbgckajlaaMixS
import Derived.Test.YtgpnimbgckajlaaIvEq
namespace Go.Proofs.Ytgpnimbgckajlaa
open Go Go.ChangeShapes Go.WideShapes Go.ChangeAt Go.RowKit
set_option linter.unusedVariables false
set_option linter.unusedSimpArgs false
set_option maxRecDepth 100000
set_option maxHeartbeats 4000000
theorem Bx.newAtI (w : World) (k : Nat) (cs : Array Value) (t : TypeId) (hk : k = w.heap.size) : Bx (w.alloc (.cells cs t)) k cs t := by subst hk; exact Bx.new w cs t
theorem numbersOf_any (m : Nat → Int) (w : World) (h16 : In16 m) :
    Calls Try.prog 66 #[.agg #[.int .i16 (m 0), .int .i16 (m 1), .int .i16 (m 2)]] w fun e w' => Below w.heap.size w w' ∧ ∃ g, e = .returned (.slice (some ⟨g, 0, none⟩) 3 3) ∧ w.heap.size ≤ g ∧ Bx w' g (resC m) 2 := by
  have b0 := h16 0 (by decide)
  have b1 := h16 1 (by decide)
  have b2 := h16 2 (by decide)
  have w0 : IntKind.i64.wrap (m 0) = m 0 := IntWalk.i64_in _ (by omega)
  have w1 : IntKind.i64.wrap (m 1) = m 1 := IntWalk.i64_in _ (by omega)
  have w2 : IntKind.i64.wrap (m 2) = m 2 := IntWalk.i64_in _ (by omega)
  go_enter Try.func66, Try.ntmps66
  go_wp2
  go_ret
  exact ⟨al (al (Below.refl _ _) _) _, _, rfl, by simp, by first | exact Bx.newAtI _ _ (resC m) 2 (by simp) | exact Bx.new (w.alloc _) (resC m) 2 | (have := Bx.new (w.alloc (.cells #[.int .i16 (m 0), .int .i16 (m 1), .int .i16 (m 2)] 44)) (resC m) 2; simpa [resC] using this)⟩
theorem Bx.rdRes {w : World} {g : Nat} {m : Nat → Int} {t : TypeId} (h : Bx w g (resC m) t) : RdK .i64 w w.heap.size (some ⟨g, 0, none⟩) 3 m := fun _ => ⟨g, 0, rfl, h.lt, fun j hj => by rw [Nat.zero_add]; exact h.resAt hj⟩
/-- the greatest one of some numbers. -/
def MaxAt (c : Nat → Int) (n : Nat) (M : Int) : Prop := (∃ i, i < n ∧ c i = M) ∧ ∀ j, j < n → c j ≤ M
theorem maxN_any (A : Option Addr) (n cap : Nat) (c : Nat → Int) (w : World) (hn0 : 0 < n) (hn : n ≤ 1048576) (hr : RdK .i64 w w.heap.size A n c) :
    Calls Try.prog 76 #[.slice A n cap] w fun e w' => w' = w ∧ ∃ M, MaxAt c n M ∧ e = .returned (.int .i64 M) := by
  have HR := Lib.hid hr
  clear hr
  have h1 : ¬ (n : Int) < 1 := by omega
  have h2 : (0 : Int) < (n : Int) := by omega
  obtain ⟨b, off, rfl, hbl, c0⟩ := rdInt64 HR.out hn0
  simp only [Nat.add_zero] at c0
  go_enter Try.func76, Try.ntmps76
  go_wp2
  clear c0 h1
  go_loop [3, 4] (fun t3 t4 => ∃ (k : Nat) (M : Int), 1 ≤ k ∧ k ≤ n ∧ t4 = .int .i64 k ∧ t3 = .int .i64 M ∧ MaxAt c k M) (fun t3 t4 => n - (intOf t4).toNat)
  case atStart => exact ⟨1, c 0, by omega, by omega, rfl, rfl, ⟨0, by omega, rfl⟩, fun j hj => by rw [show j = 0 by omega]; exact Int.le_refl _⟩
  case round =>
    obtain ⟨k, M, hk1, hk, rfl, rfl, hM⟩ := hrel
    have HM := Lib.hid hM
    clear hM
    by_cases hlt : k < n
    · have hki : (k : Int) < (n : Int) := by omega
      obtain ⟨b', off', he, hbl', c0⟩ := rdInt64 HR.out hlt
      injection he with he
      injection he with eb eo _
      subst eb eo
      obtain ⟨x, hx⟩ : ∃ x, x = c k := ⟨_, rfl⟩
      rw [← hx] at c0
      have HX := Lib.hid hx
      clear hx
      by_cases hgt : M < x
      · have e1 : max M x = x := by omega
        have HN : Hid (MaxAt c (k + 1) x) := Lib.hid ⟨⟨k, by omega, HX.out.symm⟩, fun j hj => by
          by_cases e : j = k
          · subst e; rw [← HX.out]; exact Int.le_refl _
          · have := HM.out.2 j (by omega); omega⟩
        go_wp2
        exact ⟨⟨k + 1, x, by omega, by omega, by first | go_num | simp, rfl, HN.out⟩, by simp [intOf]; omega⟩
      · have e1 : max M x = M := by omega
        have hge : x ≤ M := by omega
        have HN : Hid (MaxAt c (k + 1) M) := Lib.hid ⟨by obtain ⟨i, hi, h⟩ := HM.out.1; exact ⟨i, by omega, h⟩, fun j hj => by
          by_cases e : j = k
          · subst e; rw [← HX.out]; omega
          · exact HM.out.2 j (by omega)⟩
        go_wp2
        exact ⟨⟨k + 1, M, by omega, by omega, by first | go_num | simp, rfl, HN.out⟩, by simp [intOf]; omega⟩
    · obtain rfl : k = n := by omega
      have hki : ¬ ((k : Int) < (k : Int)) := by omega
      go_wp2
      go_ret
      exact ⟨rfl, M, HM.out, rfl⟩
theorem within3 (m : Nat → Int) (lo hi : Int) (r : Bool) (w : World) (g : Nat) (t : TypeId) (h : Bx w g (resC m) t) (hr : r = true ↔ allIn m 3 lo hi) :
    Calls Try.prog 55 #[.int .i64 lo, .int .i64 hi, .slice (some ⟨g, 0, none⟩) 3 3] w (BPost r w) :=
  within_any lo hi _ 3 3 m r w (by omega) h.rdRes hr
theorem infoI16m : (Try.prog.info? 23).map (fun i => (i.zero, i.size, i.bytes)) = some (some (.int .i16 0), 1, 2) := by kernel_rfl
theorem mixC_iV (m : Nat → Int) : mixC m = iV .i16 3 m := iV_of rfl fun p hp => by
  obtain rfl | rfl | rfl : p = 0 ∨ p = 1 ∨ p = 2 := by omega
  all_goals rfl
theorem mix_equal (m o : Nat → Int) (W : World) : (Op.equalIn 10000 44 (.agg (mixC m)) (.agg (mixC o))).run Try.prog W = .ok (agreeB m o (List.range 3)) W := by
  obtain ⟨i, hi, -, -, -⟩ := info_parts infoI16m
  rw [mixC_iV, mixC_iV]
  exact run_equal_row W 9998 Try.underlying44 Try.underlying23 hi (by kernel_rfl) m o
theorem agree3 {m o : Nat → Int} : agreeB m o (List.range 3) = true ↔ ∀ j, j < 3 → m j = o j := by
  simp only [agreeB, List.all_eq_true, List.mem_range, beq_iff_eq]
theorem implMix_any (m : Nat → Int) (r : Bool) (w : World) (h16 : In16 m) (hr : r = true ↔ MixOk m) :
    Calls Try.prog 27 #[.agg #[.int .i16 (m 0), .int .i16 (m 1), .int .i16 (m 2)]] w (BPost r w) := by
  have HN := Lib.hid (fun W => numbersOf_any m W h16)
  obtain ⟨q, hq⟩ := dec_ex (allIn m 3 0 100)
  have HW := Lib.hid (fun W g t h => within3 m 0 100 q W g t h hq)
  obtain ⟨z, hz⟩ : ∃ z, z = agreeB m (fun _ => 0) (List.range 3) := ⟨_, rfl⟩
  have he : ∀ W, (Op.equalIn 10000 44 (.agg #[.int .i16 (m 0), .int .i16 (m 1), .int .i16 (m 2)]) (.agg #[.int .i16 0, .int .i16 0, .int .i16 0])).run Try.prog W = .ok z W := fun W => by
    rw [hz]; exact mix_equal m (fun _ => 0) W
  have hz' : z = true ↔ ∀ j, j < 3 → m j = 0 := by rw [hz]; exact agree3
  have HX := Bx.new w (mixC m) 44
  have B := al (Below.refl w.heap.size w) (.cells (mixC m) 44)
  obtain ⟨c0, c1, c2⟩ := HX.mix3
  clear hz
  cases z with
  | true =>
    obtain rfl : r = false := Bool.eq_false_iff.2 fun h => by
      have h1 := (hr.1 h).2
      have h2 := hz'.1 rfl
      have e : sumM m = m 0 + m 1 + m 2 := rfl
      rw [e, h2 0 (by decide), h2 1 (by decide), h2 2 (by decide)] at h1
      exact absurd h1 (by decide)
    clear hz' hr hq
    go_enter Try.func27, Try.ntmps27
    go_wp2
    go_ret
    exact ⟨B, rfl⟩
  | false =>
    obtain rfl : r = q := by
      rw [Bool.eq_iff_iff, hr, hq]
      refine ⟨fun h => h.1, fun h => ⟨h, ?_⟩⟩
      have hne : ¬ ∀ j, j < 3 → m j = 0 := fun h' => by have := hz'.2 h'; cases this
      refine Int.not_le.1 fun hle => hne fun j hj => ?_
      have e : sumM m = m 0 + m 1 + m 2 := rfl
      have h0 := h 0 (by decide)
      have h1 := h 1 (by decide)
      have h2 := h 2 (by decide)
      obtain rfl | rfl | rfl : j = 0 ∨ j = 1 ∨ j = 2 := by omega
      all_goals omega
    clear hz' hr hq
    go_enter Try.func27, Try.ntmps27
    go_wp2_with fail
    refine (HN.out _).mono ?_
    rintro e w1 ⟨hb, g, rfl, hg, HG⟩
    replace B := nxt B hb
    clear hb HX c0 c1 c2
    go_wp2_with fail
    refine (HW.out _ g _ HG).mono ?_
    rintro e w2 ⟨hb, rfl⟩
    replace B := nxt B hb
    clear hb
    go_wp2
    go_ret
    exact ⟨B, rfl⟩
theorem specMix_any (m : Nat → Int) (r : Bool) (w : World) (h16 : In16 m) (hr : r = true ↔ MixOk m) :
    Calls Try.prog 25 #[.agg #[.int .i16 (m 0), .int .i16 (m 1), .int .i16 (m 2)]] w (BPost r w) := by
  have H := Lib.hid (fun b W (hb : MixP W b 0 m) => l07Mix_any b 0 m r W h16 hb hr)
  clear hr
  go_enter Try.func25, Try.ntmps25
  go_wp2_with fail
  refine (H.out _ _ (Bx.new w (mixC m) 44).mixP).mono ?_
  rintro e w1 ⟨hb, rfl⟩
  go_wp2
  go_ret
  exact ⟨nxt (al (Below.refl _ _) _) hb, rfl⟩
theorem toMix_any (m : Nat → Int) (w : World) : Calls Try.prog 26 #[.agg #[.int .i16 (m 0), .int .i16 (m 1), .int .i16 (m 2)]] w fun e w' => Below w.heap.size w w' ∧ e = .returned (.agg #[.int .i16 (m 0), .int .i16 (m 1), .int .i16 (m 2)]) := by
  have X1 := ((Bx.new w (mixC m) 42).alloc (.cells (mixC fun _ => 0) 44)).alloc (.cells (mixC fun _ => 0) 44)
  have X2 := (Bx.newAtI (w.alloc (.cells (mixC m) 42)) (w.heap.size + 1) (mixC fun _ => 0) 44 (by simp)).alloc (.cells (mixC fun _ => 0) 44)
  have X3 := Bx.newAtI ((w.alloc (.cells (mixC m) 42)).alloc (.cells (mixC fun _ => 0) 44)) (w.heap.size + 1 + 1) (mixC fun _ => 0) 44 (by simp)
  have B := al (al (al (Below.refl w.heap.size w) (.cells (mixC m) 42)) (.cells (mixC fun _ => 0) 44)) (.cells (mixC fun _ => 0) 44)
  go_enter Try.func26, Try.ntmps26
  go_wp2
  obtain ⟨W0, hW0⟩ : ∃ W0 : World, W0 = ((w.alloc (.cells (mixC m) 42)).alloc (.cells (mixC fun _ => 0) 44)).alloc (.cells (mixC fun _ => 0) 44) := ⟨_, rfl⟩
  simp only [mixC] at hW0
  rw [← hW0]
  have hW1 : ((w.alloc (.cells (mixC m) 42)).alloc (.cells (mixC fun _ => 0) 44)).alloc (.cells (mixC fun _ => 0) 44) = W0 := hW0.symm
  rw [hW1] at X1 X2 X3 B
  clear hW0 hW1
  obtain ⟨b1, h1⟩ : ∃ b1, b1 = w.heap.size := ⟨_, rfl⟩
  have hb1 : w.heap.size ≤ b1 := by omega
  have hb2 : w.heap.size ≤ b1 + 1 := by omega
  have hb3 : w.heap.size ≤ b1 + 1 + 1 := by omega
  rw [← h1] at X1 X2 X3 ⊢
  clear h1
  go_loopw [4] (fun t4 wr => ∃ k : Nat, k ≤ 3 ∧ t4 = .int .i64 k ∧ Below w.heap.size w wr ∧ Bx wr b1 (mixC m) 42 ∧ Bx wr (b1 + 1) (mixC fun _ => 0) 44 ∧ Bx wr (b1 + 1 + 1) (mixC fun j => if j < k then m j else 0) 44) (fun t4 wr => 3 - (intOf t4).toNat)
  case atStart => exact ⟨0, by omega, rfl, B, X1, X2, X3.mixEq (fun j hj => by simp)⟩
  case round =>
    clear B X1 X2 X3
    obtain ⟨k, hk, rfl, B, X1, X2, X3⟩ := hrel
    by_cases hlt : k < 3
    · have hki : (k : Int) < 3 := by omega
      have hk0 : (0 : Int) ≤ (k : Int) := by omega
      have c1 := X1.mixAt hlt
      have c3 := X3.mixAt hlt
      have z3 := X3.frozen k
      go_wp2
      exact ⟨⟨k + 1, by omega, by first | go_num | simp, B.setCell (p := ⟨b1 + 1 + 1, k, none⟩) hb3 _, X1.other _ (by omega), X2.other _ (by omega), (X3.mixSet hlt (m k)).mixEq (fun j _ => by
        show upd (fun j => if j < k then m j else 0) k (m k) j = _
        unfold upd
        by_cases e : j = k
        · subst e; rw [if_pos rfl, if_pos (by omega)]
        · rw [if_neg e]
          show (if j < k then m j else 0) = _
          by_cases h : j < k
          · rw [if_pos h, if_pos (by omega)]
          · rw [if_neg h, if_neg (by omega)])⟩, by simp [intOf]; omega⟩
    · obtain rfl : k = 3 := by omega
      replace X3 := X3.mixEq (o := m) (fun j hj => if_pos hj)
      obtain ⟨d0, d1, d2⟩ := X3.mix3
      have Y := (show Bx wr (b1 + 1) #[.int .i16 0, .int .i16 0, .int .i16 0] 44 from X2).set3 (.int .i16 (m 0)) (.int .i16 (m 1)) (.int .i16 (m 2))
      obtain ⟨y0, y1, y2⟩ := Y.cells3
      obtain ⟨x0, x1, x2⟩ := X2.mix3
      have z0 := X2.frozen 0
      have z1 := X2.frozen 1
      have z2 := X2.frozen 2
      have B' := below_set3 (v0 := .int .i16 (m 0)) (v1 := .int .i16 (m 1)) (v2 := .int .i16 (m 2)) B hb2
      clear X1 X2 X3 Y
      go_wp2
      refine bodyPost_ret (v := .agg #[.int .i16 (m 0), .int .i16 (m 1), .int .i16 (m 2)]) (by simp [results, Try.results26, go_sem, y0, y1, y2]) rfl ⟨B', rfl⟩
end Go.Proofs.Ytgpnimbgckajlaa
