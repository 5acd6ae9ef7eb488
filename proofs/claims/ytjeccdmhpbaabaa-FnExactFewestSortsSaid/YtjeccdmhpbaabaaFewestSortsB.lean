/-
  Both sides of FewestSorts answer the same. Conditions stand at each.
-/
import Derived.Test.YtjeccdmhpbaabaaRows
import Derived.Test.YtjeccdmhpbaabaaSortsM
namespace Go.Proofs.Ytjeccdmhpbaabaa
open Go Go.ChangeShapes Go.WideShapes Go.ChangeAt Go.RowKit
set_option linter.unusedVariables false
set_option linter.unusedSimpArgs false
set_option maxRecDepth 100000
set_option maxHeartbeats 2000000
namespace fewestSorts
/-- whether some sorts fill all rows. -/
def Al (n m : Nat) (c d f : Nat → Int) (k : Int) (s : Nat) : Prop := AllF (selL s n).length (atL (selL s n) c) (atL (selL s n) d) k m f
def Post (s f g : Prop) (z : Int) (w : World) (e : Ending) (w' : World) : Prop :=
  Below w.heap.size w w' ∧ ((s ∧ f ∧ g ∧ 0 ≤ z ∧ e = .returned (.tuple #[.int .i64 z, .int .i64 0])) ∨ (s ∧ f ∧ g ∧ z < 0 ∧ e = .returned (.tuple #[.int .i64 0, .int .i64 6])) ∨
    (¬ s ∧ e = .returned (.tuple #[.int .i64 0, .int .i64 1])) ∨ (s ∧ ¬ f ∧ e = .returned (.tuple #[.int .i64 0, .int .i64 2])) ∨ (s ∧ f ∧ ¬ g ∧ e = .returned (.tuple #[.int .i64 0, .int .i64 3])))

theorem impl_any (A B : Option Addr) (n m cb : Nat) (c d f : Nat → Int) (k : Int) (w : World) (hn : n ≤ 1048576) (hm : m ≤ 1048576) (hr : RdS w w.heap.size A n c d) (hf : RdK .i64 w w.heap.size B m f) (hc : ∀ j, -128 ≤ c j ∧ c j ≤ 127) (hd : ∀ j, -32768 ≤ d j ∧ d j ≤ 32767) :
    Calls Try.prog 67 #[.slice A n n, .slice B m cb, .int .i64 k] w (Post (SOk n c d) (JointOk k ∧ ∀ j, j < m → LongOk (f j)) (m ≤ 8) (sB n (Al n m c d f k) (2 ^ n)) w) := by
  have HR := Lib.hid hr
  have HF := Lib.hid hf
  have HC := Lib.hid hc
  have HD := Lib.hid hd
  clear hr hf hc hd
  go_enter Try.func67, Try.ntmps67
  go_wp2_with fail
  refine (codeOfRows_any A B n n m cb c d f k _ hn hm HR.out HF.out HC.out HD.out).mono ?_
  rintro e w2 ⟨hb, ⟨h, h', rfl⟩ | ⟨h, rfl⟩ | ⟨h, h', rfl⟩⟩
  case inr.inl =>
    have H2 := Lib.hid h
    clear h
    go_wp2_with fail
    go_ret2
    exact ⟨hb, .inr (.inr (.inl ⟨H2.out, rfl⟩))⟩
  case inr.inr =>
    have H2 := Lib.hid h
    have H3 := Lib.hid h'
    clear h h'
    go_wp2_with fail
    go_ret2
    exact ⟨hb, .inr (.inr (.inr (.inl ⟨H2.out, H3.out, rfl⟩)))⟩
  have H2 := Lib.hid h
  have H3 := Lib.hid h'
  clear h h'
  by_cases hm8 : m ≤ 8
  case neg =>
    have D : decide (8 < m) = true := by simp; omega
    go_wp2_with fail
    go_ret2
    exact ⟨hb, .inr (.inr (.inr (.inr ⟨H2.out, H3.out, hm8, rfl⟩)))⟩
  have D : decide (8 < m) = false := by simp; omega
  have h1 := H2.out.1.1
  have h6 := H2.out.1.2
  obtain ⟨N, hN⟩ : ∃ N : Nat, N = 2 ^ n := ⟨_, rfl⟩
  have hN64 : N ≤ 64 := by rw [hN]; exact Nat.pow_le_pow_right (by decide) h6
  have hw : wrap64 ((2 : Int) ^ n) = (N : Int) := by
    have hp : ((2 : Int) ^ n) = (N : Int) := by rw [hN]; exact (Int.natCast_pow 2 n).symm
    rw [hp]
    exact IntWalk.wrap64_in _ (by omega)
  have HN := Lib.hid hN
  have hib := iB_sB n (Al n m c d f k) N
  have HIB := Lib.hid hib
  clear hN hib
  go_wp2_with fail
  rw [hw]
  have HBw := Lib.hid hb
  clear hb hw
  go_loopw [9, 10, 11, 28] (fun t9 t10 t11 t28 wr => ∃ s : Nat, s ≤ N ∧ t28 = .int .i64 s ∧ t9 = .int .i64 (iB n (Al n m c d f k) s) ∧ Below w.heap.size w wr) (fun t9 t10 t11 t28 wr => N - (intOf t28).toNat)
  case atStart => exact ⟨0, Nat.zero_le _, rfl, rfl, HBw.out⟩
  case round =>
    clear HBw
    obtain ⟨s, hs, rfl, rfl, hB⟩ := hrel
    obtain ⟨wo, rfl⟩ : ∃ wo : World, wo = wr := ⟨_, rfl⟩
    have HB := Lib.hid hB
    clear hB
    by_cases hlt : s < N
    · have hlti : (s : Int) < (N : Int) := by omega
      have hyes := iB_yes (n := n) (s := s) (a := Al n m c d f k)
      have hno := iB_no (n := n) (s := s) (a := Al n m c d f k)
      obtain ⟨t, ht⟩ : ∃ t, t = iB n (Al n m c d f k) s := ⟨_, rfl⟩
      rw [← ht] at hyes hno ⊢
      have hso := sortsOf_any A n n s c d wo h6 (by omega) ((HR.out.below HB.out).mono HB.out.size)
      have HSO := Lib.hid hso
      have HYS := Lib.hid hyes
      have HNO := Lib.hid hno
      clear hso hyes hno ht
      go_wp2_with fail
      refine HSO.out.mono ?_
      rintro e w3 ⟨hb3, v, rfl, O⟩
      obtain ⟨A3, cp3, rfl, R3⟩ := O.rd
      have B3 := nxt HB.out hb3
      have hfa := fillsAll_any A3 B (selL s n).length cp3 m cb (atL (selL s n) c) (atL (selL s n) d) f k w3 hm8 (atL_ok H2.out) H3.out.1 H3.out.2 R3 ((HF.out.below B3).mono B3.size)
      have HFA := Lib.hid hfa
      have hal : Al n m c d f k s = AllF (selL s n).length (atL (selL s n) c) (atL (selL s n) d) k m f := rfl
      have HAL := Lib.hid hal
      obtain ⟨x, hx⟩ : ∃ x : Nat, x = (selL s n).length := ⟨_, rfl⟩
      rw [← hx] at HFA HYS HNO HAL ⊢
      clear hfa hal O R3 hb3 hx
      by_cases hxt : (x : Int) < t
      · have D1 : decide ((x : Int) < t) = true := by simpa using hxt
        go_wp2_with fail
        refine HFA.out.mono ?_
        rintro e w4 ⟨hb4, ⟨ha, rfl⟩ | ⟨ha, rfl⟩⟩
        · have B4 := nxt B3 hb4
          have hnew : iB n (Al n m c d f k) (s + 1) = (x : Int) := HYS.out ⟨hxt, by rw [HAL.out]; exact ha⟩
          have HNW := Lib.hid hnew
          clear ha hnew
          go_wp2_with fail
          exact ⟨⟨s + 1, by omega, by first | go_num | simp, by rw [HNW.out], B4⟩, by simp [intOf]; omega⟩
        · have B4 := nxt B3 hb4
          have hnew : iB n (Al n m c d f k) (s + 1) = t := HNO.out (fun h => ha (by rw [← HAL.out]; exact h.2))
          have HNW := Lib.hid hnew
          clear ha hnew
          go_wp2_with fail
          exact ⟨⟨s + 1, by omega, by first | go_num | simp, by rw [HNW.out], B4⟩, by simp [intOf]; omega⟩
      · have D1 : decide ((x : Int) < t) = false := by simpa using hxt
        have hnew : iB n (Al n m c d f k) (s + 1) = t := HNO.out (fun h => hxt h.1)
        have HNW := Lib.hid hnew
        clear hnew
        go_wp2_with fail
        exact ⟨⟨s + 1, by omega, by first | go_num | simp, by rw [HNW.out], B3⟩, by simp [intOf]; omega⟩
    · obtain rfl : s = N := by omega
      have hlti : ¬ (s : Int) < (s : Int) := by omega
      obtain ⟨i1, i2⟩ := HIB.out
      obtain ⟨z, hz⟩ : ∃ z, z = sB n (Al n m c d f k) s := ⟨_, rfl⟩
      rw [← hz] at i1 i2
      rw [i1]
      have hz2 : z = sB n (Al n m c d f k) (2 ^ n) := by rw [hz, HN.out]
      have HZ := Lib.hid hz2
      clear hz i1 hz2
      by_cases hz0 : z < 0
      · rw [if_pos hz0]
        have D2 : decide ((n : Int) < (n : Int) + 1) = true := by simp; omega
        have D3 : (n : Int) < (n : Int) + 1 := by omega
        go_wp2_with fail
        go_ret2
        exact ⟨HB.out, .inr (.inl ⟨H2.out, H3.out, (by first | exact hm8 | trivial), by rw [← HZ.out]; exact hz0, rfl⟩)⟩
      · rw [if_neg hz0]
        have D2 : decide ((n : Int) < z) = false := by simp; omega
        have hz00 : 0 ≤ z := by omega
        go_wp2_with fail
        go_ret2
        exact ⟨HB.out, .inl ⟨H2.out, H3.out, (by first | exact hm8 | trivial), by rw [← HZ.out]; omega, by rw [← HZ.out]; rfl⟩⟩

theorem spec_any (A B : Option Addr) (n m cb : Nat) (c d f : Nat → Int) (k : Int) (w : World) (hn : n ≤ 1048576) (hm : m ≤ 1048576) (hr : RdS w w.heap.size A n c d) (hf : RdK .i64 w w.heap.size B m f) (hc : ∀ j, -128 ≤ c j ∧ c j ≤ 127) (hd : ∀ j, -32768 ≤ d j ∧ d j ≤ 32767) :
    Calls Try.prog 66 #[.slice A n n, .slice B m cb, .int .i64 k] w (Post (SOk n c d) (JointOk k ∧ ∀ j, j < m → LongOk (f j)) (m ≤ 8) (sB n (Al n m c d f k) (2 ^ n)) w) := by
  have HR := Lib.hid hr
  have HF := Lib.hid hf
  have HC := Lib.hid hc
  have HD := Lib.hid hd
  clear hr hf hc hd
  go_enter Try.func66, Try.ntmps66
  go_wp2_with fail
  refine (l03Joint_any k _).mono ?_
  rintro e w1 ⟨hw, hj⟩
  have hj2 : ∃ b, e = .returned (.bool b) ∧ (b = true ↔ JointOk k) := by
    rcases hj with ⟨h, rfl⟩ | ⟨h, rfl⟩
    · exact ⟨true, rfl, by simp [h]⟩
    · exact ⟨false, rfl, by simp [h]⟩
  obtain ⟨b0, rfl, hb0⟩ := hj2
  have HB0 := Lib.hid hb0
  replace hw := hw.symm
  subst hw
  clear hj hb0
  go_wp2_with fail
  go_loopw [8, 9] (fun t8 t9 wr => ∃ i : Nat, i ≤ m ∧ t9 = .int .i64 i ∧ wr = w ∧ ∃ b : Bool, t8 = .bool b ∧ (b = true ↔ JointOk k ∧ ∀ j, j < i → LongOk (f j))) (fun t8 t9 wr => m - (intOf t9).toNat)
  case atStart => exact ⟨0, Nat.zero_le _, rfl, rfl, b0, rfl, ⟨fun h => ⟨HB0.out.1 h, fun j hj => by omega⟩, fun h => HB0.out.2 h.1⟩⟩
  case round =>
    clear HB0
    obtain ⟨i, hi, rfl, hw, b, rfl, hb⟩ := hrel
    replace hw := hw.symm
    subst hw
    have HB := Lib.hid hb
    clear hb
    by_cases hlt : i < m
    · have hlti : (i : Int) < (m : Int) := by omega
      obtain ⟨bk, off, rfl, hbl, ck⟩ := rdInt64 HF.out hlt
      obtain ⟨x, hx⟩ : ∃ x, x = f i := ⟨_, rfl⟩
      rw [← hx] at ck
      have HX := Lib.hid hx
      clear hx
      cases b
      · go_wp2_with fail
        exact ⟨⟨i + 1, by omega, by first | go_num | simp, (by first | rfl | trivial), false, rfl, ⟨fun h => by simp at h, fun h => HB.out.2 ⟨h.1, fun j hj => h.2 j (by omega)⟩⟩⟩, by simp [intOf]; omega⟩
      · go_wp2_with fail
        refine (l03Long_any x _).mono ?_
        rintro e w3 ⟨hw, ⟨h, rfl⟩ | ⟨h, rfl⟩⟩
        · replace hw := hw.symm
          subst hw
          have H := Lib.hid h
          clear h
          go_wp2_with fail
          exact ⟨⟨i + 1, by omega, by first | go_num | simp, (by first | rfl | trivial), true, rfl, ⟨fun _ => ⟨(HB.out.1 (by first | rfl | trivial)).1, fun j hj => by
            by_cases e : j = i
            · subst e; rw [← HX.out]; exact H.out
            · exact (HB.out.1 (by first | rfl | trivial)).2 j (by omega)⟩, fun _ => rfl⟩⟩, by simp [intOf]; omega⟩
        · replace hw := hw.symm
          subst hw
          have H := Lib.hid h
          clear h
          go_wp2_with fail
          exact ⟨⟨i + 1, by omega, by first | go_num | simp, (by first | rfl | trivial), false, rfl, ⟨fun h => by simp at h, fun h => absurd (h.2 i (by omega)) (by rw [← HX.out]; exact H.out)⟩⟩, by simp [intOf]; omega⟩
    · obtain rfl : i = m := by omega
      have hlti : ¬ (i : Int) < (i : Int) := by omega
      go_wp2_with fail
      refine (asked_any A n n c d b _ hn HR.out HC.out HD.out).mono ?_
      rintro e w2 ⟨hb, ⟨h, h', rfl⟩ | ⟨h, rfl⟩ | ⟨h, h', rfl⟩⟩
      case inr.inl =>
        have H2 := Lib.hid h
        clear h
        go_wp2_with fail
        go_ret2
        exact ⟨hb, .inr (.inr (.inl ⟨H2.out, rfl⟩))⟩
      case inr.inr =>
        have H2 := Lib.hid h
        have H3 := Lib.hid h'
        clear h h'
        go_wp2_with fail
        go_ret2
        exact ⟨hb, .inr (.inr (.inr (.inl ⟨H2.out, fun h => H3.out (HB.out.2 h), rfl⟩)))⟩
      have H2 := Lib.hid h
      have H3 := Lib.hid (HB.out.1 h')
      clear h h' HB
      by_cases hm8 : i ≤ 8
      case neg =>
        have D : decide (8 < i) = true := by simp; omega
        go_wp2_with fail
        go_ret2
        exact ⟨hb, .inr (.inr (.inr (.inr ⟨H2.out, H3.out, hm8, rfl⟩)))⟩
      have D : decide (8 < i) = false := by simp; omega
      have h1 := H2.out.1.1
      have h6 := H2.out.1.2
      obtain ⟨N, hN⟩ : ∃ N : Nat, N = 2 ^ n := ⟨_, rfl⟩
      have hN64 : N ≤ 64 := by rw [hN]; exact Nat.pow_le_pow_right (by decide) h6
      have hw : wrap64 ((2 : Int) ^ n) = (N : Int) := by
        have hp : ((2 : Int) ^ n) = (N : Int) := by rw [hN]; exact (Int.natCast_pow 2 n).symm
        rw [hp]
        exact IntWalk.wrap64_in _ (by omega)
      have HW := Lib.hid hw
      have HN := Lib.hid hN
      have HBw := Lib.hid hb
      clear hb hw hN hlt hi
      go_wp2_with fail
      go_loopw [11, 12, 13, 14, 15, 16, 17, 18, 19] (fun t11 t12 t13 t14 t15 t16 t17 t18 t19 wr => ∃ s : Nat, s ≤ N ∧ t12 = .int .i64 s ∧ t11 = .int .i64 (sB n (Al n i c d f k) s) ∧ Below w.heap.size w wr) (fun t11 t12 t13 t14 t15 t16 t17 t18 t19 wr => N - (intOf t12).toNat)
      case atStart => exact ⟨0, Nat.zero_le _, rfl, rfl, HBw.out⟩
      case round =>
        clear HBw
        obtain ⟨s, hs, rfl, rfl, hB⟩ := hrel
        obtain ⟨wo, rfl⟩ : ∃ wo : World, wo = wr := ⟨_, rfl⟩
        have HB := Lib.hid hB
        clear hB
        by_cases hlt : s < N
        · have hlti : (s : Int) < wrap64 ((2 : Int) ^ n) := by rw [HW.out]; omega
          have hsk := sB_skip (n := n) (s := s) (a := Al n i c d f k)
          have hyes := sB_yes (n := n) (s := s) (a := Al n i c d f k)
          have hno := sB_no (n := n) (s := s) (a := Al n i c d f k)
          obtain ⟨t, ht⟩ : ∃ t, t = sB n (Al n i c d f k) s := ⟨_, rfl⟩
          rw [← ht] at hsk hyes hno ⊢
          have hso := l03Sorts_any A n n s c d wo h6 (by omega) ((HR.out.below HB.out).mono HB.out.size)
          have HSO := Lib.hid hso
          have HSK := Lib.hid hsk
          have HYS := Lib.hid hyes
          have HNO := Lib.hid hno
          clear hso hsk hyes hno ht
          go_wp2_with fail
          refine HSO.out.mono ?_
          rintro e w3 ⟨hb3, v, rfl, O⟩
          obtain ⟨A3, cp3, rfl, R3⟩ := O.rd
          have B3 := nxt HB.out hb3
          have HAL : ∀ P : Prop, (P ↔ ∀ p, p < i → 0 ≤ tF (selL s n).length (atL (selL s n) c) (atL (selL s n) d) k (f p)) → (P ↔ Al n i c d f k s) := fun P h => h
          have HAL := Lib.hid HAL
          have EO := Lib.hid (atL_ok (s := s) H2.out)
          have HR3 := Lib.hid R3
          clear O R3 hb3
          obtain ⟨x, hx⟩ : ∃ x : Nat, x = (selL s n).length := ⟨_, rfl⟩
          rw [← hx] at HSK HYS HAL EO HR3 ⊢
          clear hx
          have HB3 := Lib.hid B3
          clear B3
          by_cases hsk : 0 ≤ t ∧ t ≤ (x : Int)
          · obtain ⟨ht0, htx⟩ := hsk
            have hnew : sB n (Al n i c d f k) (s + 1) = t := HSK.out ⟨ht0, htx⟩
            have HNW := Lib.hid hnew
            clear hnew
            go_wp2_with fail
            exact ⟨⟨s + 1, by omega, by first | go_num | simp, by rw [HNW.out], HB3.out⟩, by simp [intOf]; omega⟩
          have HNS := Lib.hid hsk
          have hD : (0 ≤ t ∧ ¬ t ≤ (x : Int)) ∨ ¬ 0 ≤ t := by omega
          have hloop : ∀ (Q : Prop), True := fun _ => trivial
          clear hsk hloop
          rcases hD with ⟨ht0, htx⟩ | ht0
          all_goals
            go_wp2_with fail
            go_loopw [15, 16, 17, 18, 19] (fun t15 t16 t17 t18 t19 wr => ∃ j : Nat, j ≤ i ∧ t16 = .int .i64 j ∧ Below w.heap.size w wr ∧ Below w3.heap.size w3 wr ∧ ∃ b : Bool, t15 = .bool b ∧ (b = true ↔ ∀ p, p < j → 0 ≤ tF x (atL (selL s n) c) (atL (selL s n) d) k (f p))) (fun t15 t16 t17 t18 t19 wr => i - (intOf t16).toNat)
            case atStart => exact ⟨0, Nat.zero_le _, rfl, HB3.out, Below.refl _ _, true, rfl, ⟨fun _ p hp => by omega, fun _ => rfl⟩⟩
            case round =>
              clear HB3
              obtain ⟨j, hj, rfl, B4, B43, b, rfl, hb⟩ := hrel
              obtain ⟨wp, rfl⟩ : ∃ wp : World, wp = wr := ⟨_, rfl⟩
              have HB4 := Lib.hid B4
              have HB43 := Lib.hid B43
              have HBB := Lib.hid hb
              clear B4 B43 hb
              by_cases hjl : j < i
              · have hjli : (j : Int) < (i : Int) := by omega
                cases b
                · have hna : ¬ Al n i c d f k s := fun h => by
                    have := HBB.out.2 (fun p hp => (HAL.out _ Iff.rfl).2 h p (by omega))
                    cases this
                  have hnew : sB n (Al n i c d f k) (s + 1) = t := HNO.out hna
                  have HNW := Lib.hid hnew
                  clear hnew hna
                  go_wp2_with fail
                  exact ⟨⟨s + 1, by omega, by first | go_num | simp, by rw [HNW.out], HB4.out⟩, by simp [intOf]; omega⟩
                · obtain ⟨bk, off, rfl, hbl, ck⟩ := rdInt64 (HF.out.below HB4.out) hjl
                  have hlo := H3.out.2 j hjl
                  have hka := H3.out.1
                  obtain ⟨y, hy⟩ : ∃ y, y = f j := ⟨_, rfl⟩
                  rw [← hy] at ck hlo
                  have HLO := Lib.hid hlo
                  unfold LongOk at hlo
                  unfold JointOk at hka
                  obtain ⟨L, hL⟩ : ∃ L : Nat, y + k = (L : Int) := ⟨(y + k).toNat, by omega⟩
                  have htf : tF x (atL (selL s n) c) (atL (selL s n) d) k (f j) = TT (bF x (atL (selL s n) c) k) (qF x (atL (selL s n) d)) x 0 L := by
                    unfold tF; rw [← hy, hL]; rfl
                  have hfl := l03Fill_any A3 x cp3 (atL (selL s n) c) (atL (selL s n) d) y k L wp EO.out H3.out.1 HLO.out hL ((HR3.out.below HB43.out).mono HB43.out.size)
                  rw [← htf] at hfl
                  obtain ⟨u, hu⟩ : ∃ u, u = tF x (atL (selL s n) c) (atL (selL s n) d) k (f j) := ⟨_, rfl⟩
                  rw [← hu] at hfl
                  have HU := Lib.hid hu
                  have HFL := Lib.hid hfl
                  clear hfl htf hL hy hlo hka hu
                  go_wp2_with fail
                  refine HFL.out.mono ?_
                  rintro e w5 ⟨hb5, ⟨hu, v, rfl, O⟩ | ⟨hu, v, rfl, O⟩⟩
                  · have B5 := nxt HB4.out hb5
                    have B53 := HB43.out.trans (hb5.mono HB43.out.size)
                    clear O
                    go_wp2_with fail
                    exact ⟨⟨j + 1, by omega, by first | go_num | simp, B5, B53, false, rfl, ⟨fun h => by simp at h, fun h => by have := h j (by omega); rw [← HU.out] at this; omega⟩⟩, by simp [intOf]; omega⟩
                  · have B5 := nxt HB4.out hb5
                    have B53 := HB43.out.trans (hb5.mono HB43.out.size)
                    clear O
                    go_wp2_with fail
                    exact ⟨⟨j + 1, by omega, by first | go_num | simp, B5, B53, true, rfl, ⟨fun _ p hp => by
                      by_cases e : p = j
                      · subst e; rw [← HU.out]; exact hu
                      · exact HBB.out.1 (by first | rfl | trivial) p (by omega), fun _ => rfl⟩⟩, by simp [intOf]; omega⟩
              · obtain rfl : j = i := by omega
                have hjli : ¬ (j : Int) < (j : Int) := by omega
                have hal := HAL.out _ HBB.out
                cases b
                · have hnew : sB n (Al n j c d f k) (s + 1) = t := HNO.out (fun h => by have := hal.2 h; cases this)
                  have HNW := Lib.hid hnew
                  clear hnew hal
                  go_wp2_with fail
                  exact ⟨⟨s + 1, by omega, by first | go_num | simp, by rw [HNW.out], HB4.out⟩, by simp [intOf]; omega⟩
                · have hnew : sB n (Al n j c d f k) (s + 1) = (x : Int) := HYS.out HNS.out (hal.1 rfl)
                  have HNW := Lib.hid hnew
                  clear hnew hal
                  go_wp2_with fail
                  exact ⟨⟨s + 1, by omega, by first | go_num | simp, by rw [HNW.out], HB4.out⟩, by simp [intOf]; omega⟩
        · obtain rfl : s = N := by omega
          have hlti : ¬ (s : Int) < wrap64 ((2 : Int) ^ n) := by rw [HW.out]; omega
          obtain ⟨z, hz⟩ : ∃ z, z = sB n (Al n i c d f k) s := ⟨_, rfl⟩
          rw [← hz]
          have hz2 : z = sB n (Al n i c d f k) (2 ^ n) := by rw [hz, HN.out]
          have HZ := Lib.hid hz2
          clear hz hz2
          by_cases hz0 : z < 0
          · have D2 : decide (z < 0) = true := by simpa using hz0
            go_wp2_with fail
            go_ret2
            exact ⟨HB.out, .inr (.inl ⟨H2.out, H3.out, (by first | exact hm8 | trivial), by rw [← HZ.out]; exact hz0, rfl⟩)⟩
          · have D2 : decide (z < 0) = false := by simpa using hz0
            have hz00 : 0 ≤ z := by omega
            go_wp2_with fail
            go_ret2
            exact ⟨HB.out, .inl ⟨H2.out, H3.out, (by first | exact hm8 | trivial), by rw [← HZ.out]; omega, by rw [← HZ.out]; rfl⟩⟩
theorem both (n : Nat) (c d : Nat → Int) (m : Nat) (f : Nat → Int) (k : Int) (hc : ∀ j, -128 ≤ c j ∧ c j ≤ 127) (hd : ∀ j, -32768 ≤ d j ∧ d j ≤ 32767) (hn : n ≤ 1048576) (hf : ∀ j, (Lit.int .i64 (f j)).wf = true) (hm : m ≤ 1048576) (bk : (Lit.int .i64 k).wf = true) :
    ∃ (z1 z2 : Int),
      (∀ (W : World) (G0 G1 : Nat), As W G0 n c d → Ar W G1 m f → Calls Try.prog 66 #[.slice (some ⟨G0, 0, none⟩) n n, .slice (some ⟨G1, 0, none⟩) m m, .int .i64 k] W fun e w' => e = .returned (.tuple #[.int .i64 z1, .int .i64 z2]) ∧ Below W.heap.size W w') ∧
      (∀ (W : World) (G0 G1 : Nat), As W G0 n c d → Ar W G1 m f → Calls Try.prog 67 #[.slice (some ⟨G0, 0, none⟩) n n, .slice (some ⟨G1, 0, none⟩) m m, .int .i64 k] W fun e w' => e = .returned (.tuple #[.int .i64 z1, .int .i64 z2]) ∧ Below W.heap.size W w') := by
  have hS := fun (W : World) (G H : Nat) (R : As W G n c d) (S : Ar W H m f) => spec_any _ _ n m m c d f k W hn hm R.rd S.rd hc hd
  have hI := fun (W : World) (G H : Nat) (R : As W G n c d) (S : Ar W H m f) => impl_any _ _ n m m c d f k W hn hm R.rd S.rd hc hd
  have key : ∃ (z1 z2 : Int), ∀ (W : World) (e : Ending) (w' : World), Post (SOk n c d) (JointOk k ∧ ∀ j, j < m → LongOk (f j)) (m ≤ 8) (sB n (Al n m c d f k) (2 ^ n)) W e w' → e = .returned (.tuple #[.int .i64 z1, .int .i64 z2]) ∧ Below W.heap.size W w' := by
    obtain ⟨z, hz⟩ : ∃ z, z = sB n (Al n m c d f k) (2 ^ n) := ⟨_, rfl⟩
    rw [← hz]
    by_cases h1 : SOk n c d
    · by_cases h2 : JointOk k ∧ ∀ j, j < m → LongOk (f j)
      · by_cases h3 : m ≤ 8
        · by_cases h4 : 0 ≤ z
          · refine ⟨z, 0, fun W e w' h => ?_⟩
            rcases h with ⟨hb, ⟨_, _, _, _, rfl⟩ | ⟨_, _, _, h, _⟩ | ⟨h, _⟩ | ⟨_, h, _⟩ | ⟨_, _, h, _⟩⟩
            · exact ⟨rfl, hb⟩
            · omega
            · exact absurd h1 h
            · exact absurd h2 h
            · exact absurd h3 h
          · refine ⟨0, 6, fun W e w' h => ?_⟩
            rcases h with ⟨hb, ⟨_, _, _, h, _⟩ | ⟨_, _, _, _, rfl⟩ | ⟨h, _⟩ | ⟨_, h, _⟩ | ⟨_, _, h, _⟩⟩
            · exact absurd h h4
            · exact ⟨rfl, hb⟩
            · exact absurd h1 h
            · exact absurd h2 h
            · exact absurd h3 h
        · refine ⟨0, 3, fun W e w' h => ?_⟩
          rcases h with ⟨hb, ⟨_, _, h, _⟩ | ⟨_, _, h, _⟩ | ⟨h, _⟩ | ⟨_, h, _⟩ | ⟨_, _, _, rfl⟩⟩
          · exact absurd h h3
          · exact absurd h h3
          · exact absurd h1 h
          · exact absurd h2 h
          · exact ⟨rfl, hb⟩
      · refine ⟨0, 2, fun W e w' h => ?_⟩
        rcases h with ⟨hb, ⟨_, h, _⟩ | ⟨_, h, _⟩ | ⟨h, _⟩ | ⟨_, _, rfl⟩ | ⟨_, h, _⟩⟩
        · exact absurd h h2
        · exact absurd h h2
        · exact absurd h1 h
        · exact ⟨rfl, hb⟩
        · exact absurd h h2
    · refine ⟨0, 1, fun W e w' h => ?_⟩
      rcases h with ⟨hb, ⟨h, _⟩ | ⟨h, _⟩ | ⟨_, rfl⟩ | ⟨h, _⟩ | ⟨h, _⟩⟩
      · exact absurd h h1
      · exact absurd h h1
      · exact ⟨rfl, hb⟩
      · exact absurd h h1
      · exact absurd h h1
  obtain ⟨z1, z2, hk⟩ := key
  exact ⟨z1, z2, fun W G H R S => (hS W G H R S).mono fun e w' h => hk W e w' h, fun W G H R S => (hI W G H R S).mono fun e w' h => hk W e w' h⟩
end fewestSorts
end Go.Proofs.Ytjeccdmhpbaabaa
