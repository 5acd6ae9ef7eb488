/-
  The mix of which a stock is enough for most: the contract of impl.BestMix. Conditions stand at each.
-/
import Derived.Test.YtgpnimbgckajlaaRows
import Derived.Test.YtgpnimbgckajlaaBestS
namespace Go.Proofs.Ytgpnimbgckajlaa
open Go Go.ChangeShapes Go.WideShapes Go.ChangeAt Go.RowKit
set_option linter.unusedVariables false
set_option linter.unusedSimpArgs false
set_option maxRecDepth 100000
set_option maxHeartbeats 4000000
theorem mixFunc_any (m : Nat → Int) (r : Bool) (w : World) (h16 : In16 m) (hr : r = true ↔ ¬ MixOk m) :
    Calls Try.prog 73 #[.agg #[.int .i16 (m 0), .int .i16 (m 1), .int .i16 (m 2)]] w (BPost r w) := by
  obtain ⟨q, hq⟩ := dec_ex (MixOk m)
  have H := Lib.hid (fun W => implMix_any m q W h16 hq)
  have he : Hid ((!q) = r) := Lib.hid (by
    rw [Bool.eq_iff_iff, hr, ← hq]
    cases q <;> simp)
  have B := al (Below.refl w.heap.size w) (.cells (mixC m) 44)
  clear hr hq
  go_enter Try.func73, Try.ntmps73
  go_wp2_with fail
  refine (H.out _).mono ?_
  rintro e w1 ⟨hb, rfl⟩
  replace B := nxt B hb
  clear hb
  go_wp2
  go_ret
  exact ⟨B, by rw [← he.out]; rfl⟩
theorem indexFunc_mixes (A : Option Addr) (n cap : Nat) (c : Nat → Int) (w : World) (hn : n ≤ 1048576) (hr : RdK .i16 w w.heap.size A (3 * n) c) (hc : ∀ j, -32768 ≤ c j ∧ c j ≤ 32767) :
    Calls Try.prog 90 #[.slice A n cap, .func (.func 73) #[] #[]] w fun e w' => Below w.heap.size w w' ∧ ∃ z : Int, e = .returned (.int .i64 z) ∧ ((0 ≤ z ∧ ¬ AllMix n c) ∨ (z = -1 ∧ AllMix n c)) := by
  have HR := Lib.hid hr
  have HC := Lib.hid hc
  clear hr hc
  go_enter Try.func90, Try.ntmps90
  go_wp2_with fail
  go_loopw [5, 8] (fun t5 t8 wr => ∃ k : Nat, k ≤ n ∧ t8 = .int .i64 k ∧ Below w.heap.size w wr ∧ AllMix k c) (fun t5 t8 wr => n - (intOf t8).toNat)
  case atStart => exact ⟨0, by omega, rfl, Below.refl _ _, fun j hj => by omega⟩
  case round =>
    obtain ⟨k, hk, rfl, B, hall⟩ := hrel
    have HA := Lib.hid hall
    clear hall
    by_cases hlt : k < n
    · have hki : (k : Int) < (n : Int) := by omega
      obtain ⟨b, off, rfl, hbl, hcs⟩ := mix_at (HR.out.below B) hlt
      have c0 := hcs 0 (by decide)
      have c1 := hcs 1 (by decide)
      have c2 := hcs 2 (by decide)
      rw [Nat.add_zero] at c0
      obtain ⟨r, hr⟩ := dec_ex (¬ MixOk (mk3 c k))
      have H := Lib.hid (fun W => mixFunc_any (mk3 c k) r W (in16_mk HC.out k) hr)
      have E := Lib.hid hr
      clear hr hcs
      go_wp2_with fail
      refine (H.out _).mono ?_
      rintro e w1 ⟨hb, rfl⟩
      replace B := nxt B hb
      clear hb c0 c1 c2
      cases r with
      | true =>
        have hno : ¬ AllMix n c := fun h => E.out.1 rfl (h k hlt)
        have N := Lib.hid hno
        clear hno
        go_wp2
        go_ret
        exact ⟨B, (k : Int), rfl, .inl ⟨by omega, N.out⟩⟩
      | false =>
        have P1 : Hid (MixOk (mk3 c k)) := Lib.hid (Classical.byContradiction fun h => by have := E.out.2 h; cases this)
        go_wp2
        exact ⟨⟨k + 1, by omega, by first | go_num | simp, B, all_step3 HA.out P1.out⟩, by simp [intOf]; omega⟩
    · obtain rfl : k = n := by omega
      have hki : ¬ ((k : Int) < (k : Int)) := by omega
      go_wp2
      go_ret
      exact ⟨B, -1, rfl, .inr ⟨rfl, HA.out⟩⟩
theorem containsFunc_mixes (A : Option Addr) (n cap : Nat) (c : Nat → Int) (r : Bool) (w : World) (hn : n ≤ 1048576) (hr : RdK .i16 w w.heap.size A (3 * n) c) (hc : ∀ j, -32768 ≤ c j ∧ c j ≤ 32767) (hrr : r = true ↔ ¬ AllMix n c) :
    Calls Try.prog 72 #[.slice A n cap, .func (.func 73) #[] #[]] w (BPost r w) := by
  have H := Lib.hid (indexFunc_mixes A n cap c w hn hr hc)
  have E := Lib.hid hrr
  clear hr hc hrr
  go_enter Try.func72, Try.ntmps72
  go_wp2_with fail
  refine H.out.mono ?_
  rintro e w1 ⟨hb, z, rfl, ⟨hz, hp⟩ | ⟨rfl, hp⟩⟩
  · obtain rfl : r = true := E.out.2 hp
    have d1 : decide (0 ≤ z) = true := by simpa using hz
    clear hp hz
    go_wp2
    go_ret
    exact ⟨hb, by first | rfl | (show Ending.returned (Value.bool (decide (0 ≤ z))) = _; rw [d1])⟩
  · obtain rfl : r = false := Bool.eq_false_iff.2 fun h => E.out.1 h hp
    clear hp
    go_wp2
    go_ret
    exact ⟨hb, rfl⟩
/-- the greatest amounts of the first mixes. -/
def gL (G : Nat → Int) (k : Nat) : List Int := (List.range k).map G
theorem gL_length (G : Nat → Int) (k : Nat) : (gL G k).length = k := by simp [gL]
theorem gL_succ (G : Nat → Int) (k : Nat) : gL G (k + 1) = gL G k ++ [G k] := by simp [gL, List.range_succ]
theorem gL_get (G : Nat → Int) {n j : Nat} (h : j < n) : (gL G n).getD j 0 = G j := by simp [gL, List.getD, h]
theorem MaxAt.cong {c d : Nat → Int} {n : Nat} {M : Int} (h : MaxAt c n M) (e : ∀ j, j < n → c j = d j) : MaxAt d n M := by
  obtain ⟨⟨i, hi, hM⟩, hle⟩ := h
  exact ⟨⟨i, hi, by rw [← e i hi]; exact hM⟩, fun j hj => by rw [← e j hj]; exact hle j hj⟩
theorem FirstAt.cong {c d : Nat → Int} {n i : Nat} {M : Int} (h : FirstAt c n M i) (e : ∀ j, j < n → c j = d j) : FirstAt d n M i :=
  ⟨h.1, by rw [← e i h.1]; exact h.2.1, fun j hj => by have := h.1; rw [← e j (by omega)]; exact h.2.2 j hj⟩
theorem implBest_any (A : Option Addr) (n cap : Nat) (c st G : Nat → Int) (w : World) (hn : n ≤ 1048576) (hr : RdK .i16 w w.heap.size A (3 * n) c) (hc : ∀ j, -32768 ≤ c j ∧ c j ≤ 32767) (h16 : In16 st) (hG : GOk n c st G) :
    Calls Try.prog 36 #[.slice A n cap, .agg #[.int .i16 (st 0), .int .i16 (st 1), .int .i16 (st 2)]] w (BmPost n c st G w) := by
  obtain ⟨i0, hi, hz0, hz1, hz2⟩ := info_parts infoI64
  have HR := Lib.hid hr
  have HC := Lib.hid hc
  have HG := Lib.hid hG
  obtain ⟨ra, hra⟩ := dec_ex (¬ AllMix n c)
  obtain ⟨rs, hrs⟩ := dec_ex (allIn st 3 0 5000)
  have H1 := Lib.hid (fun W (hB : Below w.heap.size w W) => containsFunc_mixes A n cap c ra W hn ((hr.below hB).mono hB.size) hc hra)
  have H2 := Lib.hid (fun W => numbersOf_any st W h16)
  have H3 := Lib.hid (fun W g t h => within3 st 0 5000 rs W g t h hrs)
  have EA := Lib.hid hra
  have ES := Lib.hid hrs
  have X3 := Bx.new w (mixC st) 44
  have B := al (Below.refl w.heap.size w) (.cells (mixC st) 44)
  clear hr hc hG hrs h16 hra
  go_enter Try.func36, Try.ntmps36
  go_wp2_with fail
  refine (H1.out _ B).mono ?_
  rintro e w1 ⟨hb, rfl⟩
  replace X3 := X3.below hb
  replace B := nxt B hb
  clear hb H1
  obtain ⟨b3, h3⟩ : ∃ b3, b3 = w.heap.size := ⟨_, rfl⟩
  have hb3 : w.heap.size ≤ b3 := by omega
  rw [← h3] at X3 ⊢
  clear h3
  cases ra with
  | true =>
    have HN := Lib.hid (EA.out.1 rfl)
    clear HG HR
    go_wp2
    exact bodyPost_ret (by simp [results, Try.results36, go_sem]) rfl ⟨B, .inl ⟨HN.out, rfl⟩⟩
  | false =>
    have HA : Hid (AllMix n c) := Lib.hid (Classical.byContradiction fun h => by have := EA.out.2 h; cases this)
    by_cases h20 : 20 < n
    · have d1 : decide ((20 : Int) < (n : Int)) = true := by simp; omega
      have d2 : (20 : Int) < (n : Int) := by omega
      clear HG HR
      go_wp2
      exact bodyPost_ret (by simp [results, Try.results36, go_sem]) rfl ⟨B, .inr (.inl ⟨HA.out, h20, rfl⟩)⟩
    have d1 : decide ((20 : Int) < (n : Int)) = false := by simp; omega
    have d2 : ¬ (20 : Int) < (n : Int) := by omega
    obtain ⟨c0, c1, c2⟩ := X3.mix3
    go_wp2_with fail
    refine (H2.out _).mono ?_
    rintro e w2 ⟨hb, g, rfl, hg, HGx⟩
    replace X3 := X3.below hb
    replace B := nxt B hb
    clear hb c0 c1 c2 H2
    go_wp2_with fail
    refine (H3.out _ g _ HGx).mono ?_
    rintro e w3 ⟨hb, rfl⟩
    replace X3 := X3.below hb
    replace B := nxt B hb
    clear hb H3 HGx hg d1 d2
    cases rs with
    | false =>
      have hno : ¬ StockOk st := fun h => by have := ES.out.2 h; cases this
      have HN := Lib.hid hno
      clear hno HG HR
      go_wp2
      exact bodyPost_ret (by simp [results, Try.results36, go_sem]) rfl ⟨B, .inr (.inr (.inl ⟨HA.out, by omega, HN.out, rfl⟩))⟩
    | true =>
      have HST : Hid (StockOk st) := Lib.hid (ES.out.1 rfl)
      by_cases h0 : n = 0
      · subst h0
        clear HG HR
        go_wp2
        exact bodyPost_ret (by simp [results, Try.results36, go_sem]) rfl ⟨B, .inr (.inr (.inr (.inl ⟨HA.out, HST.out, rfl, rfl⟩)))⟩
      have d0 : ((n : Int) == 0) = false := by rw [beq_eq_false_iff_ne]; omega
      have hpos : 0 < n := by omega
      have hni : (0 : Int) < (n : Int) := by omega
      have HGK := Lib.hid (HG.out HA.out HST.out)
      have HMO := Lib.hid (fun k (hk : k < n) W => greatestOf_any (mk3 c k) st (G k) W (in16_mk HC.out k) (HA.out k hk) HST.out (HGK.out k hk))
      go_wp2
      clear d0
      go_loopw [7, 9, 29] (fun t7 t9 t29 wr => ∃ k : Nat, k ≤ n ∧ t29 = .int .i64 k ∧ Below w.heap.size w wr ∧ Bx wr b3 (mixC st) 44 ∧ OwnI wr (b3 + 1) t7 (gL G k)) (fun t7 t9 t29 wr => n - (intOf t29).toNat)
      case atStart => exact ⟨0, by omega, rfl, B, X3, OwnI.nil _ _⟩
      case round =>
        clear B X3
        obtain ⟨k, hk, rfl, B, X3, O⟩ := hrel
        obtain ⟨v0, rfl⟩ : ∃ v0 : Value, v0 = u7 := ⟨_, rfl⟩
        by_cases hlt : k < n
        · have hki : (k : Int) < (n : Int) := by omega
          obtain ⟨b, off, rfl, hbl, hcs⟩ := mix_at (HR.out.below B) hlt
          have c0 := hcs 0 (by decide)
          have c1 := hcs 1 (by decide)
          have c2 := hcs 2 (by decide)
          rw [Nat.add_zero] at c0
          obtain ⟨x0, x1, x2⟩ := X3.mix3
          have hl3 : b3 < wr.heap.size := X3.lt
          obtain ⟨x, hx⟩ : ∃ x, x = G k := ⟨_, rfl⟩
          have HMK := Lib.hid (HMO.out k hlt)
          rw [← hx] at HMK
          have HX := Lib.hid hx
          clear hx hcs
          go_wp2_with fail
          refine (HMK.out _).mono ?_
          rintro e w4 ⟨hb, rfl⟩
          have B2 := nxt (al B (.cells (mixC (mk3 c k)) 44)) hb
          have O2 := (O.alloc (.cells (mixC (mk3 c k)) 44)).below hb
          have Y3 := (X3.alloc (.cells (mixC (mk3 c k)) 44)).below hb
          have hlen : (gL G k).length ≤ k := by rw [gL_length]; exact Nat.le_refl _
          clear hb B O X3 c0 c1 c2 x0 x1 x2 hbl hl3
          go_wp2_with (at_builtin; refine wpList_append_own _ rfl _ _ 61 rfl (b3 + 1) 2 i0 (.int .i64 0) 1 8 Try.underlying61 hi hz0 hz1 hz2 rfl (by decide) _ _ _ rfl (World.ownsRow.alloc O2 _) ⟨w4.heap.size, 0, none⟩ 1 1 [.int .i64 x] rfl rfl (ncells w4 #[.int .i64 x] 2) one64 (by have := Y3.lt; unfold maxLen; omega) (by have := Y3.lt; omega) (by have := Y3.lt; simp; omega) ?_; intro v' w1 own' hgr _)
          have B1 : Below w.heap.size w w1 := (al B2 _).grown hgr (al B2 _).size (fun k e => by have := (O2.lt k e).1; omega)
          have Z3 : Bx w1 b3 (mixC st) 44 := (Y3.alloc _).of_block (hgr.block _ (Y3.alloc _).lt (fun e => by have := (O2.lt _ e.symm).1; omega))
          have O1 := OwnI.snoc own'
          rw [HX.out, show gL G k ++ [G k] = gL G (k + 1) from (gL_succ G k).symm] at O1
          exact ⟨⟨k + 1, by omega, by first | go_num | simp, B1, Z3, O1⟩, by simp [intOf]; omega⟩
        · obtain rfl : k = n := by omega
          obtain ⟨n, rfl⟩ : ∃ n, n = k := ⟨_, rfl⟩
          have hki : ¬ ((n : Int) < (n : Int)) := by omega
          obtain ⟨A', cap', hv⟩ := O.shape
          subst hv
          have hrd := O.rd.2
          rw [gL_length] at hrd ⊢
          have HRD := Lib.hid hrd
          have HCG := Lib.hid (fun j (hj : j < n) => gL_get G hj)
          clear hrd X3
          go_wp2_with fail
          refine (maxN_any A' n cap' _ wr hpos hn HRD.out).mono ?_
          rintro e w4 ⟨hw4, M, hM, rfl⟩
          subst hw4
          obtain ⟨i, hi⟩ := firstAt_ex (fun j => (gL G n).getD j 0) M n hM.1
          have HM := Lib.hid hM
          have HF := Lib.hid hi
          have hin := hi.1
          clear hM hi
          go_wp2_with fail
          refine (index_at A' n cap' _ M i _ hn HRD.out HF.out).mono ?_
          rintro e w5 ⟨rfl, hw5⟩
          subst hw5
          obtain ⟨b', off', rfl, hbl', c0⟩ := rdInt64 HRD.out hin
          rw [show (gL G n).getD i 0 = M from HF.out.2.1] at c0
          have hii : (i : Int) < (n : Int) := by omega
          go_wp2
          go_quiet (fail)
          go_wp2
          exact bodyPost_ret (by simp [results, Try.results36, go_sem]) rfl ⟨below_drewN' B _, .inr (.inr (.inr (.inr ⟨HA.out, ⟨hpos, by omega⟩, HST.out, i, M, HF.out.cong HCG.out, HM.out.cong HCG.out, rfl⟩)))⟩
end Go.Proofs.Ytgpnimbgckajlaa
