/-
  How much of each part an amount needs: the contract of spec.l07For. Conditions stand at each.
-/
import Derived.Test.YtgpnimbgckajlaaRows
import Derived.Test.YtgpnimbgckajlaaMixS
namespace Go.Proofs.Ytgpnimbgckajlaa
open Go Go.ChangeShapes Go.WideShapes Go.ChangeAt Go.RowKit
set_option linter.unusedVariables false
set_option linter.unusedSimpArgs false
set_option maxRecDepth 100000
set_option maxHeartbeats 4000000
theorem Bx.newAtM (w : World) (k : Nat) (cs : Array Value) (t : TypeId) (hk : k = w.heap.size) : Bx (w.alloc (.cells cs t)) k cs t := by subst hk; exact Bx.new w cs t
theorem upd_grow {q : Nat → Int} {z : Nat → Int} {k : Nat} (j : Nat) : upd (fun j => if j < k then q j else z j) k (q k) j = if j < k + 1 then q j else z j := by
  unfold upd
  by_cases e : j = k
  · subst e; rw [if_pos rfl, if_pos (by omega)]
  · rw [if_neg e]
    show (if j < k then q j else z j) = _
    by_cases h : j < k
    · rw [if_pos h, if_pos (by omega)]
    · rw [if_neg h, if_neg (by omega)]
theorem l07For_any (b o : Nat) (m : Nat → Int) (n : Int) (w : World) (h16 : In16 m) (hm : MixOk m) (hn : 0 ≤ n ∧ n ≤ 5000) (h : MixP w b o m) :
    Calls Try.prog 68 #[.pointer (some ⟨b, o, none⟩), .int .i64 n] w fun e w' => Below w.heap.size w w' ∧ e = .returned (.agg #[.int .i16 (needM m n 0), .int .i16 (needM m n 1), .int .i16 (needM m n 2)]) := by
  have HP := Lib.hid (fun W (h : MixP W b o m) => parts_any b o m W h16 h)
  have HM := Lib.hid hm
  have HB := Lib.hid h
  have H16 := Lib.hid h16
  obtain ⟨-, -, -, hs0, hs1⟩ := hm.bds
  clear h h16 hm
  go_enter Try.func68, Try.ntmps68
  go_wp2_with fail
  have X4 := ((Bx.new w (mixC fun _ => 0) 44).alloc (.cells (mixC fun _ => 0) 44)).alloc (.cells (resC fun _ => 0) 132)
  have X5 := (Bx.newAtM (w.alloc (.cells (mixC fun _ => 0) 44)) (w.heap.size + 1) (mixC fun _ => 0) 44 (by simp)).alloc (.cells (resC fun _ => 0) 132)
  have X6 := Bx.newAtM ((w.alloc (.cells (mixC fun _ => 0) 44)).alloc (.cells (mixC fun _ => 0) 44)) (w.heap.size + 1 + 1) (resC fun _ => 0) 132 (by simp)
  have B := al (al (al (Below.refl w.heap.size w) (.cells (mixC fun _ => 0) 44)) (.cells (mixC fun _ => 0) 44)) (.cells (resC fun _ => 0) 132)
  have HB' := HB.out.below B
  refine (HP.out _ HB').mono ?_
  rintro e w1 ⟨hb, rfl⟩
  replace X4 := X4.below hb
  replace X5 := X5.below hb
  replace X6 := X6.below hb
  replace B := nxt B hb
  clear hb HB' HP
  obtain ⟨b4, h4⟩ : ∃ b4, b4 = w.heap.size := ⟨_, rfl⟩
  have hb4 : w.heap.size ≤ b4 := by omega
  have hb5 : w.heap.size ≤ b4 + 1 := by omega
  have hb6 : w.heap.size ≤ b4 + 1 + 1 := by omega
  have hbl : b < b4 := by rw [h4]; exact HB.out.1
  rw [← h4] at X4 X5 X6 ⊢
  obtain ⟨s, hs⟩ : ∃ s, s = sumM m := ⟨_, rfl⟩
  rw [← hs] at hs0 hs1 ⊢
  have HS := Lib.hid hs
  clear hs h4
  go_wp2
  go_loopw [7, 9, 10] (fun t7 t9 t10 wr => ∃ k : Nat, k ≤ 3 ∧ t9 = .int .i64 k ∧ t7 = .int .i64 (lackK m n k) ∧ Below w.heap.size w wr ∧ Bx wr b4 (mixC fun _ => 0) 44 ∧ Bx wr (b4 + 1) (mixC fun j => if j < k then qL m n j else 0) 44 ∧ Bx wr (b4 + 1 + 1) (resC fun j => if j < k then rL m n j else 0) 132) (fun t7 t9 t10 wr => 3 - (intOf t9).toNat)
  case atStart => exact ⟨0, by omega, rfl, rfl, B, X4, X5.mixEq (fun j hj => by simp), X6.resEq (fun j hj => by simp)⟩
  case round =>
    clear B X4 X5 X6
    obtain ⟨k, hk, rfl, rfl, B, X4, X5, X6⟩ := hrel
    by_cases hlt : k < 3
    · have hki : (k : Int) < 3 := by omega
      have hk0 : (0 : Int) ≤ (k : Int) := by omega
      have c0 := (HB.out.below B).2 k hlt
      have wk : IntKind.i64.wrap (m k) = m k := IntWalk.i64_in _ (by have := H16.out k hlt; omega)
      have hbd := mix_bd HM.out hn hlt
      have hlk := lackK_bd HM.out hn k hk
      have hlk2 := lackK_bd HM.out hn (k + 1) (by omega)
      have hstep : lackK m n (k + 1) = lackK m n k - qL m n k := rfl
      obtain ⟨L, hL⟩ : ∃ L, L = lackK m n k := ⟨_, rfl⟩
      obtain ⟨q, hq⟩ : ∃ q, q = qL m n k := ⟨_, rfl⟩
      obtain ⟨r, hr⟩ : ∃ r, r = rL m n k := ⟨_, rfl⟩
      obtain ⟨p, hp⟩ : ∃ p, p = n * m k := ⟨_, rfl⟩
      have e1 : n * m k = p := hp.symm
      have e2 : Int.tdiv p s = q := by rw [Int.tdiv_eq_ediv_of_nonneg (by rw [hp]; exact hbd.1.1), hp, hq, HS.out]; rfl
      have e3 : p / s = q := by rw [hp, hq, HS.out]; rfl
      have e4 : Int.tmod p s = r := by rw [Int.tmod_eq_emod_of_nonneg (by rw [hp]; exact hbd.1.1), hp, hr, HS.out]; rfl
      have e5 : p % s = r := by rw [hp, hr, HS.out]; rfl
      rw [← hp, ← hq, ← hr] at hbd
      rw [hstep, ← hL, ← hq] at hlk2
      rw [← hL] at hlk
      have HE := Lib.hid (show lackK m n (k + 1) = L - q by rw [hstep, ← hL, ← hq])
      have HQ := Lib.hid hq
      have HRr := Lib.hid hr
      obtain ⟨⟨p0, p1⟩, ⟨q0, q1⟩, r0, r1⟩ := hbd
      rw [← HS.out] at r1
      have f1 : IntKind.i64.wrap p = p := IntWalk.i64_in _ (by omega)
      have f2 : wrap64 p = p := IntWalk.wrap64_in _ (by omega)
      have f3 : IntKind.i64.wrap q = q := IntWalk.i64_in _ (by omega)
      have f4 : wrap64 q = q := IntWalk.wrap64_in _ (by omega)
      have f5 : IntKind.i16.wrap q = q := IntWalk.i16_in _ (by omega)
      have f6 : IntKind.i64.wrap r = r := IntWalk.i64_in _ (by omega)
      have f7 : wrap64 r = r := IntWalk.wrap64_in _ (by omega)
      have c5 := X5.mixAt hlt
      have c6 := X6.resAt hlt
      have z5 := X5.frozen k
      have z6 := X6.frozen k
      rw [← hL]
      clear hstep hL hq hr hp
      go_wp2
      refine ⟨⟨k + 1, by omega, by first | go_num | simp, by rw [HE.out], (B.setCell (p := ⟨b4 + 1, k, none⟩) hb5 _).setCell (p := ⟨b4 + 1 + 1, k, none⟩) hb6 _, (X4.other _ (by omega)).other _ (by omega), ((X5.mixSet hlt q).other _ (by omega)).mixEq (fun j _ => by rw [HQ.out]; exact upd_grow j), ((X6.other _ (by omega)).resSet hlt r).resEq (fun j _ => by rw [HRr.out]; exact upd_grow j)⟩, by simp [intOf]; omega⟩
    · obtain rfl : k = 3 := by omega
      obtain ⟨l, hl, o, r, ho, hr, hat⟩ := MixAt.start (o := fun j => if j < 3 then qL m n j else 0) (r := fun j => if j < 3 then rL m n j else 0) HM.out hn (z := -1) (.inr rfl) (fun j hj => by rw [if_pos hj]) (fun j hj => by rw [if_pos hj])
      replace X5 := X5.mixEq ho
      replace X6 := X6.resEq hr
      rw [hl, show ((3 : Nat) : Int) = (3 : Int) from rfl]
      have HA0 := Lib.hid hat
      have hl2 := hat.1
      clear hl ho hr hat
      go_wp2
      go_loopw [7, 11, 12] (fun t7 t11 t12 wr' => ∃ (l : Nat) (o r : Nat → Int), t7 = .int .i64 l ∧ Below w.heap.size w wr' ∧ Bx wr' b4 (mixC fun _ => 0) 44 ∧ Bx wr' (b4 + 1) (mixC o) 44 ∧ Bx wr' (b4 + 1 + 1) (resC r) 132 ∧ MixAt (-1) m n l o r) (fun t7 t11 t12 wr' => (intOf t7).toNat)
      case atStart => exact ⟨l, o, r, rfl, B, X4, X5, X6, HA0.out⟩
      case round =>
        clear B X4 X5 X6 HA0 hl2
        obtain ⟨l, o, r, rfl, B, X4, X5, X6, hat⟩ := hrel
        by_cases hl0 : l = 0
        · subst hl0
          have hend := hat.2.2
          obtain ⟨d0, d1, d2⟩ := X5.mix3
          have e0 : o 0 = needM m n 0 := by rw [← hend]; rfl
          have e1 : o 1 = needM m n 1 := by rw [← hend]; rfl
          have e2 : o 2 = needM m n 2 := by rw [← hend]; rfl
          rw [e0] at d0
          rw [e1] at d1
          rw [e2] at d2
          have Y := (show Bx wr b4 #[.int .i16 0, .int .i16 0, .int .i16 0] 44 from X4).set3 (.int .i16 (needM m n 0)) (.int .i16 (needM m n 1)) (.int .i16 (needM m n 2))
          obtain ⟨y0, y1, y2⟩ := Y.cells3
          obtain ⟨x0, x1, x2⟩ := X4.mix3
          have z0 := X4.frozen 0
          have z1 := X4.frozen 1
          have z2 := X4.frozen 2
          have B' := below_set3 (v0 := .int .i16 (needM m n 0)) (v1 := .int .i16 (needM m n 1)) (v2 := .int .i16 (needM m n 2)) B hb4
          clear hat hend e0 e1 e2 X4 X5 X6 Y
          go_wp2
          refine bodyPost_ret (v := .agg #[.int .i16 (needM m n 0), .int .i16 (needM m n 1), .int .i16 (needM m n 2)]) (by simp [results, Try.results68, go_sem, y0, y1, y2]) rfl ⟨B', rfl⟩
        · obtain ⟨l', rfl⟩ : ∃ l', l = l' + 1 := ⟨l - 1, by omega⟩
          have HA := Lib.hid hat
          have hl2 := hat.1
          obtain ⟨lz, hlz⟩ : ∃ lz : Int, lz = ((l' + 1 : Nat) : Int) := ⟨_, rfl⟩
          rw [← hlz]
          have hlz0 : 0 < lz := by omega
          have hlz2 : lz ≤ 2 := by omega
          have HLZ := Lib.hid hlz
          clear hat hlz hl0
          go_wp2
          go_loopw [11, 12] (fun t11 t12 wq => ∃ k : Nat, 1 ≤ k ∧ k ≤ 3 ∧ t12 = .int .i64 k ∧ t11 = .int .i64 (bK r k) ∧ Below w.heap.size w wq ∧ Bx wq b4 (mixC fun _ => 0) 44 ∧ Bx wq (b4 + 1) (mixC o) 44 ∧ Bx wq (b4 + 1 + 1) (resC r) 132) (fun t11 t12 wq => 3 - (intOf t12).toNat)
          case atStart => exact ⟨1, by omega, by omega, rfl, rfl, B, X4, X5, X6⟩
          case round =>
            clear B X4 X5 X6
            obtain ⟨k, hk1, hk, rfl, rfl, B, X4, X5, X6⟩ := hrel
            have hbk := bK_le r k
            by_cases hlt : k < 3
            · have hki : (k : Int) < 3 := by omega
              have hk0 : (0 : Int) ≤ (k : Int) := by omega
              obtain ⟨g, hg⟩ : ∃ g, g = bK r k := ⟨_, rfl⟩
              have hg3 : g < 3 := by omega
              have hgi : (g : Int) < 3 := by omega
              have c1 := X6.resAt hlt
              have c2 := X6.resAt hg3
              have hst : bK r (k + 1) = if r g < r k then k else g := by rw [hg]; show (if k = 0 then 0 else _) = _; rw [if_neg (by omega)]
              obtain ⟨x, hx⟩ : ∃ x, x = r k := ⟨_, rfl⟩
              obtain ⟨y, hy⟩ : ∃ y, y = r g := ⟨_, rfl⟩
              rw [← hx] at c1
              rw [← hy] at c2
              rw [← hx, ← hy] at hst
              rw [← hg]
              have HST := Lib.hid hst
              clear hst hx hy hg hbk
              by_cases hgt : y < x
              · have d1 : decide (y < x) = true := by simpa using hgt
                have HN := Lib.hid (show bK r (k + 1) = k by rw [HST.out, if_pos hgt])
                go_wp2
                go_quiet (fail)
                go_wp2
                exact ⟨⟨k + 1, by omega, by omega, by first | go_num | simp, by rw [HN.out], below_drewN' B _, X4, X5, X6⟩, by simp [intOf]; omega⟩
              · have d1 : decide (y < x) = false := by simpa using hgt
                have HN := Lib.hid (show bK r (k + 1) = g by rw [HST.out, if_neg hgt])
                go_wp2
                go_quiet (fail)
                go_wp2
                exact ⟨⟨k + 1, by omega, by omega, by first | go_num | simp, by rw [HN.out], below_drewN' B _, X4, X5, X6⟩, by simp [intOf]; omega⟩
            · obtain rfl : k = 3 := by omega
              rw [bK_three]
              have hst := HA.out.step
              have hb3 := bst_lt (r 0) (r 1) (r 2)
              obtain ⟨g, hg⟩ : ∃ g, g = bst (r 0) (r 1) (r 2) := ⟨_, rfl⟩
              rw [← hg] at hst hb3 ⊢
              have ho := HA.out.2.1 g hb3
              have HST := Lib.hid hst
              have hgi : (g : Int) < 3 := by omega
              have hg0 : (0 : Int) ≤ (g : Int) := by omega
              have c5 := X5.mixAt hb3
              have c6 := X6.resAt hb3
              have z5 := X5.frozen g
              have z6 := X6.frozen g
              obtain ⟨x, hx⟩ : ∃ x, x = o g := ⟨_, rfl⟩
              rw [← hx] at c5 ho
              have HX := Lib.hid hx
              have e1 : IntKind.i16.wrap (x + 1) = x + 1 := IntWalk.i16_in _ (by omega)
              clear hst hg hx hbk
              go_wp2
              refine ⟨⟨l', _, _, by rw [HLZ.out, show (((l' + 1 : Nat) : Int) - 1) = (l' : Int) by omega], (B.setCell (p := ⟨b4 + 1, g, none⟩) hb5 _).setCell (p := ⟨b4 + 1 + 1, g, none⟩) hb6 _, (X4.other _ (by omega)).other _ (by omega), ?_, ?_, HST.out⟩, by have := HLZ.out; simp only [intOf]; omega⟩
              · rw [← HX.out]
                exact (X5.mixSet hb3 (x + 1)).other _ (by omega)
              · exact (X6.other _ (by omega)).resSet hb3 (-1)
end Go.Proofs.Ytgpnimbgckajlaa
