/-
  Both sides of BarrowLoads answer the same. Conditions stand at each.
-/
import Derived.Test.YtkggimalkjjnoaaRows
import Derived.Test.YtkggimalkjjnoaaBarrow
namespace Go.Proofs.Ytkggimalkjjnoaa
open Go Go.ChangeShapes Go.WideShapes Go.ChangeAt Go.RowKit
set_option linter.unusedVariables false
set_option linter.unusedSimpArgs false
set_option maxRecDepth 100000
set_option maxHeartbeats 4000000
namespace barrowLoads
def BlPost (n : Nat) (c : Nat → Int) (h : Int) (w : World) (e : Ending) (w' : World) : Prop :=
  Below w.heap.size w w' ∧ ((LdCode n c h 0 ∧ ∃ v, e = .returned (.tuple #[v, .int .i64 (bl h (wt c) n).1, .int .i64 0]) ∧ OwnI w' w.heap.size v (blL h (wt c) n)) ∨
    ∃ r, r ≠ 0 ∧ LdCode n c h r ∧ ∃ v, e = .returned (.tuple #[v, .int .i64 0, .int .i64 r]) ∧ OwnI w' w.heap.size v [])
theorem ok_of {n : Nat} {c : Nat → Int} {h : Int} (k : LdCode n c h 0) : n ≤ 10 ∧ 0 ≤ h ∧ h ≤ 600 ∧ ∀ j, j < n → 0 < wt c j ∧ wt c j ≤ h := by
  rcases k with ⟨a, _⟩ | ⟨a, b, ⟨_, e⟩ | ⟨x, ⟨_, e⟩ | ⟨y, _⟩⟩⟩
  · exact absurd rfl a
  · exact absurd e (by decide)
  · exact absurd e (by decide)
  · exact ⟨b, by omega, x.2, fun j hj => ⟨by have := a j hj; have := wt_bd c j; omega, y j hj⟩⟩

theorem impl_any (A : Option Addr) (n cap : Nat) (c : Nat → Int) (h : Int) (w : World) (hn : n ≤ 1048576) (hr : Rd8 w w.heap.size A (4 * n) c) (hc : ∀ j, -128 ≤ c j ∧ c j ≤ 127) :
    Calls Try.prog 65 #[.slice A n cap, .int .i64 h] w (BlPost n c h w) := by
  have HH := Lib.hid (weightsFor_any A n cap c h w hn hr hc)
  obtain ⟨i0, hi, hz0, hz1, hz2⟩ := info_parts infoI64
  clear hr hc
  go_enter Try.func65, Try.ntmps65
  go_wp2_with fail
  refine HH.out.mono ?_
  rintro e W ⟨hb, ⟨hv, v, rfl, O⟩ | ⟨r, h0, hv, rfl⟩⟩
  case inr =>
    have d0 : (r != 0) = true := by simpa using h0
    have HV := Lib.hid hv
    have H0 := Lib.hid h0
    clear hv h0
    go_wp2_with fail
    exact bodyPost_ret (results_tmp3 Try.results65 _ _ _) rfl ⟨hb, .inr ⟨r, H0.out, HV.out, _, rfl, OwnI.nil _ _⟩⟩
  obtain ⟨h10, hp, h600, hw⟩ := ok_of hv
  have HV := Lib.hid hv
  have HW := Lib.hid hw
  obtain ⟨A', cap', rfl⟩ := O.shape
  have hrd := O.rd.2
  have hL : (wtL c n).length = n := wtL_length c n
  rw [hL] at hrd ⊢
  have HRD := Lib.hid hrd
  clear hv hw hL hrd O
  go_wp2_with fail
  go_loopw [9, 10, 11, 13, 25] (fun t9 t10 t11 t13 t25 wr => ∃ k : Nat, k ≤ n ∧ t25 = .int .i64 k ∧ t10 = .int .i64 (bl h (wt c) k).1 ∧ t11 = .int .i64 (bl h (wt c) k).2 ∧ Below W.heap.size W wr ∧ OwnI wr W.heap.size t9 (blL h (wt c) k)) (fun t9 t10 t11 t13 t25 wr => n - (intOf t25).toNat)
  case atStart => exact ⟨0, by omega, rfl, rfl, rfl, Below.refl _ _, OwnI.nil _ _⟩
  case round =>
    obtain ⟨k, hk, rfl, rfl, rfl, B, O⟩ := hrel
    obtain ⟨v0, rfl⟩ : ∃ v0 : Value, v0 = u9 := ⟨_, rfl⟩
    by_cases hlt : k < n
    · have hki : (k : Int) < (n : Int) := by omega
      obtain ⟨b, off, rfl, hbl, c0⟩ := rdInt64 (HRD.out.below B) hlt
      rw [wtL_get c hlt] at c0
      have hbd := bl_bd hp HW.out k hk
      have hbd' := bl_bd hp HW.out (k + 1) hlt
      have hwk := HW.out k hlt
      obtain ⟨p, q, hpq⟩ : ∃ p q, bl h (wt c) k = (p, q) := ⟨_, _, rfl⟩
      have hlen : (blL h (wt c) k).length ≤ k := by rw [blL_length]; exact Nat.le_refl _
      by_cases hz : q < wt c k
      · have hs := bl_yes (h := h) (f := wt c) (k := k) (by rw [hpq]; exact hz)
        rw [hpq] at hs
        dsimp only at hs
        have hsl := blL_succ h (wt c) k
        rw [hs] at hbd' hsl
        rw [hpq] at hbd ⊢
        have HPQ := Lib.hid hpq
        have HS := Lib.hid hs
        have HSL := Lib.hid hsl
        clear hpq hs hsl
        obtain ⟨y, hy⟩ : ∃ y, y = wt c k := ⟨_, rfl⟩
        rw [← hy] at c0 hwk hz hbd' HS
        have d : decide (q < y) = true := by simpa using hz
        have HY := Lib.hid hy
        clear hy hz
        dsimp only at hbd hbd' ⊢
        obtain ⟨g1, g2, g3, g4, g5⟩ := hbd
        obtain ⟨g1', g2', g3', g4', g5'⟩ := hbd'
        obtain ⟨g6, g7⟩ := hwk
        clear g5 g5'
        have hO := Lib.hid O
        clear O
        go_wp2_with (at_builtin; refine wpList_append_own _ rfl _ _ 29 rfl W.heap.size 2 i0 (.int .i64 0) 1 8 Try.underlying29 hi hz0 hz1 hz2 rfl (by decide) _ _ _ rfl (World.ownsRow.alloc hO.out _) ⟨wr.heap.size, 0, none⟩ 1 1 [.int .i64 _] rfl rfl (ncells wr #[.int .i64 _] 2) one64 (by have := B.size; unfold maxLen; omega) (by have := B.size; omega) (by have := B.size; simp; omega) ?_; intro v' w1 own' hgr _)
        have B1 : Below W.heap.size W w1 := (al B _).grown hgr (al B _).size (fun k e => (hO.out.lt k e).1)
        have O1 := OwnI.snoc own'
        clear own' hgr hO B
        go_wp2
        refine ⟨⟨k + 1, by omega, by first | go_num | simp, ?_, ?_, B1, ?_⟩, by simp [intOf]; omega⟩
        · rw [HS.out]
        · rw [HS.out]
        · have e : ((p + 1, h - wt c k).fst - 1 : Int) = p := by show p + 1 - 1 = p; omega
          rw [HSL.out, e]; exact O1
      · have hs := bl_no (h := h) (f := wt c) (k := k) (by rw [hpq]; exact hz)
        rw [hpq] at hs
        dsimp only at hs
        have hsl := blL_succ h (wt c) k
        rw [hs] at hbd' hsl
        rw [hpq] at hbd ⊢
        have HPQ := Lib.hid hpq
        have HS := Lib.hid hs
        have HSL := Lib.hid hsl
        clear hpq hs hsl
        obtain ⟨y, hy⟩ : ∃ y, y = wt c k := ⟨_, rfl⟩
        rw [← hy] at c0 hwk hz hbd' HS
        have d : decide (q < y) = false := by simpa using hz
        have HY := Lib.hid hy
        clear hy
        dsimp only at hbd hbd' ⊢
        obtain ⟨g1, g2, g3, g4, g5⟩ := hbd
        obtain ⟨g1', g2', g3', g4', g5'⟩ := hbd'
        obtain ⟨g6, g7⟩ := hwk
        clear g5 g5'
        have hO := Lib.hid O
        clear O
        go_wp2_with (at_builtin; refine wpList_append_own _ rfl _ _ 29 rfl W.heap.size 2 i0 (.int .i64 0) 1 8 Try.underlying29 hi hz0 hz1 hz2 rfl (by decide) _ _ _ rfl (World.ownsRow.alloc hO.out _) ⟨wr.heap.size, 0, none⟩ 1 1 [.int .i64 _] rfl rfl (ncells wr #[.int .i64 _] 2) one64 (by have := B.size; unfold maxLen; omega) (by have := B.size; omega) (by have := B.size; simp; omega) ?_; intro v' w1 own' hgr _)
        have B1 : Below W.heap.size W w1 := (al B _).grown hgr (al B _).size (fun k e => (hO.out.lt k e).1)
        have O1 := OwnI.snoc own'
        clear own' hgr hO B
        go_wp2
        refine ⟨⟨k + 1, by omega, by first | go_num | simp, ?_, ?_, B1, ?_⟩, by simp [intOf]; omega⟩
        · rw [HS.out]
        · rw [HS.out]
        · rw [HSL.out]; exact O1
    · obtain rfl : k = n := by omega
      have hki : ¬ ((k : Int) < (k : Int)) := by omega
      have HB := hb.trans (B.mono hb.size)
      have hO := Lib.hid (O.mono hb.size)
      clear O B
      obtain ⟨p, hp'⟩ : ∃ p, p = (bl h (wt c) k).1 := ⟨_, rfl⟩
      rw [← hp']
      have HP := Lib.hid hp'
      clear hp'
      go_wp2_with fail
      exact bodyPost_ret (results_tmp3 Try.results65 _ _ _) rfl ⟨HB, .inl ⟨HV.out, _, by first | rfl | (rw [HP.out]; rfl), hO.out⟩⟩

theorem spec_any (A : Option Addr) (n cap : Nat) (c : Nat → Int) (h : Int) (w : World) (hn : n ≤ 1048576) (hr : Rd8 w w.heap.size A (4 * n) c) (hc : ∀ j, -128 ≤ c j ∧ c j ≤ 127) :
    Calls Try.prog 64 #[.slice A n cap, .int .i64 h] w (BlPost n c h w) := by
  have HH := Lib.hid (l05Loads_any A n cap c h w hn hr hc)
  have HR := Lib.hid hr
  have HC := Lib.hid hc
  obtain ⟨i0, hi, hz0, hz1, hz2⟩ := info_parts infoI64
  clear hr hc
  go_enter Try.func64, Try.ntmps64
  go_wp2_with fail
  refine HH.out.mono ?_
  rintro e W ⟨hb, r, hv, rfl⟩
  by_cases h0 : r = 0
  case neg =>
    have d0 : (r != 0) = true := by simpa using h0
    have HV := Lib.hid hv
    have H0 := Lib.hid h0
    clear hv h0
    go_wp2_with fail
    exact bodyPost_ret (results_tmp3 Try.results64 _ _ _) rfl ⟨al hb _, .inr ⟨r, H0.out, HV.out, _, rfl, OwnI.made _ hb.size⟩⟩
  subst h0
  obtain ⟨h10, hp, h600, hw⟩ := ok_of hv
  have HV := Lib.hid hv
  have HW := Lib.hid hw
  clear hv hw
  go_wp2_with fail
  have B0 : Below w.heap.size w (W.alloc (.cells #[] 2)) := al hb _
  have O0 : OwnI (W.alloc (.cells #[] 2)) w.heap.size (.slice (some ⟨W.heap.size, 0, none⟩) 0 0) [] := OwnI.made _ hb.size
  obtain ⟨W0, hW0⟩ : ∃ W0 : World, W0 = (W.alloc (.cells #[] 2)) := ⟨_, rfl⟩
  rw [← hW0] at B0 O0 ⊢
  clear hW0
  go_loopw [8, 9, 10, 11, 12] (fun t8 t9 t10 t11 t12 wr => ∃ k : Nat, k ≤ n ∧ t11 = .int .i64 k ∧ t9 = .int .i64 ((bl h (wt c) k).1 - 1) ∧ t10 = .int .i64 (bl h (wt c) k).2 ∧ Below w.heap.size w wr ∧ OwnI wr w.heap.size t8 (blL h (wt c) k)) (fun t8 t9 t10 t11 t12 wr => n - (intOf t11).toNat)
  case atStart => exact ⟨0, by omega, rfl, rfl, rfl, B0, O0⟩
  case round =>
    clear B0 O0
    obtain ⟨k, hk, rfl, rfl, rfl, B, O⟩ := hrel
    obtain ⟨v0, rfl⟩ : ∃ v0 : Value, v0 = u8 := ⟨_, rfl⟩
    by_cases hlt : k < n
    · have hki : (k : Int) < (n : Int) := by omega
      obtain ⟨b, off, rfl, hbl, c0, c1, c2, c3⟩ := (HR.out.below B).at4 hlt
      have hbd := bl_bd hp HW.out k hk
      have hbd' := bl_bd hp HW.out (k + 1) hlt
      have hwk := HW.out k hlt
      have b2 := HC.out (4 * k + 2)
      have b3 := HC.out (4 * k + 3)
      have HL := Lib.hid (fun W => l05Weight_any (c (4 * k)) (c (4 * k + 1)) (c (4 * k + 2)) (c (4 * k + 3)) W b2 b3)
      clear b2 b3
      obtain ⟨p, q, hpq⟩ : ∃ p q, bl h (wt c) k = (p, q) := ⟨_, _, rfl⟩
      have hlen : (blL h (wt c) k).length ≤ k := by rw [blL_length]; exact Nat.le_refl _
      have hcase : (k = 0 ∧ p = 0 ∧ q = 0) ∨ 1 ≤ p := by
        rcases Nat.eq_zero_or_pos k with rfl | hk0
        · have : (0, 0) = (p, q) := hpq
          injection this with e1 e2
          exact .inl ⟨rfl, e1.symm, e2.symm⟩
        · have := hbd.2.2.2.2 hk0
          rw [hpq] at this
          exact .inr this
      rw [hpq] at hbd ⊢
      dsimp only at hbd ⊢
      by_cases hz : q < wt c k
      · have hs := bl_yes (h := h) (f := wt c) (k := k) (by rw [hpq]; exact hz)
        rw [hpq] at hs
        dsimp only at hs
        have hsl := blL_succ h (wt c) k
        rw [hs] at hbd' hsl
        have HS := Lib.hid hs
        have HSL := Lib.hid hsl
        clear hpq hs hsl
        dsimp only at hbd' HSL
        go_wp2_with fail
        refine (HL.out _).mono ?_
        rintro e w2 ⟨rfl, hb2⟩
        replace B := nxt B hb2
        have hO := Lib.hid (O.below hb2)
        clear O hb2 c0 c1 c2 c3
        obtain ⟨y, hy⟩ : ∃ y, y = wtOf (c (4 * k + 2)) (c (4 * k + 3)) := ⟨_, rfl⟩
        rw [show wt c k = y from hy.symm] at hwk hz hbd' HS
        rw [← hy]
        have d : decide (q < y) = true := by simpa using hz
        have HY := Lib.hid hy
        clear hy hz
        obtain ⟨g1, g2, g3, g4, g5⟩ := hbd
        obtain ⟨g1', g2', g3', g4', g5'⟩ := hbd'
        obtain ⟨g6, g7⟩ := hwk
        clear g5 g5'
        have g8 : 0 ≤ h - y := by omega
        rcases hcase with ⟨_, hp0, hq0⟩ | hp1
        · have dp : decide (p - 1 < 0) = true := by simp; omega
          clear hp0 hq0
          go_wp2_with (at_builtin; refine wpList_append_own _ rfl _ _ 29 rfl w.heap.size 2 i0 (.int .i64 0) 1 8 Try.underlying29 hi hz0 hz1 hz2 rfl (by decide) _ _ _ rfl (World.ownsRow.alloc hO.out _) ⟨w2.heap.size, 0, none⟩ 1 1 [.int .i64 _] rfl rfl (ncells w2 #[.int .i64 _] 2) one64 (by have := B.size; unfold maxLen; omega) (by have := B.size; omega) (by have := B.size; simp; omega) ?_; intro v' w1 own' hgr _)
          have B1 : Below w.heap.size w w1 := (al B _).grown hgr (al B _).size (fun k e => (hO.out.lt k e).1)
          have O1 := OwnI.snoc own'
          clear own' hgr hO B
          go_wp2
          refine ⟨⟨k + 1, by omega, by first | go_num | simp, ?_, ?_, B1, ?_⟩, by simp [intOf]; omega⟩
          · rw [HS.out]; congr 1; dsimp only; omega
          · rw [HS.out]
          · rw [HSL.out]
            have e : p + 1 - 1 = p := by omega
            rw [e]
            first | exact O1 | (have e : p - 1 + 1 = p := by omega
                                rw [e] at O1
                                exact O1)
        · have dp : decide (p - 1 < 0) = false := by simp; omega
          go_wp2_with (at_builtin; refine wpList_append_own _ rfl _ _ 29 rfl w.heap.size 2 i0 (.int .i64 0) 1 8 Try.underlying29 hi hz0 hz1 hz2 rfl (by decide) _ _ _ rfl (World.ownsRow.alloc hO.out _) ⟨w2.heap.size, 0, none⟩ 1 1 [.int .i64 _] rfl rfl (ncells w2 #[.int .i64 _] 2) one64 (by have := B.size; unfold maxLen; omega) (by have := B.size; omega) (by have := B.size; simp; omega) ?_; intro v' w1 own' hgr _)
          have B1 : Below w.heap.size w w1 := (al B _).grown hgr (al B _).size (fun k e => (hO.out.lt k e).1)
          have O1 := OwnI.snoc own'
          clear own' hgr hO B
          go_wp2
          refine ⟨⟨k + 1, by omega, by first | go_num | simp, ?_, ?_, B1, ?_⟩, by simp [intOf]; omega⟩
          · rw [HS.out]; congr 1; dsimp only; omega
          · rw [HS.out]
          · rw [HSL.out]
            have e : p + 1 - 1 = p := by omega
            rw [e]
            first | exact O1 | (have e : p - 1 + 1 = p := by omega
                                rw [e] at O1
                                exact O1)
      · have hs := bl_no (h := h) (f := wt c) (k := k) (by rw [hpq]; exact hz)
        rw [hpq] at hs
        dsimp only at hs
        have hsl := blL_succ h (wt c) k
        rw [hs] at hbd' hsl
        have HS := Lib.hid hs
        have HSL := Lib.hid hsl
        clear hpq hs hsl
        dsimp only at hbd' HSL
        go_wp2_with fail
        refine (HL.out _).mono ?_
        rintro e w2 ⟨rfl, hb2⟩
        replace B := nxt B hb2
        have hO := Lib.hid (O.below hb2)
        clear O hb2 c0 c1 c2 c3
        obtain ⟨y, hy⟩ : ∃ y, y = wtOf (c (4 * k + 2)) (c (4 * k + 3)) := ⟨_, rfl⟩
        rw [show wt c k = y from hy.symm] at hwk hz hbd' HS
        rw [← hy]
        have d : decide (q < y) = false := by simpa using hz
        have HY := Lib.hid hy
        clear hy
        obtain ⟨g1, g2, g3, g4, g5⟩ := hbd
        obtain ⟨g1', g2', g3', g4', g5'⟩ := hbd'
        obtain ⟨g6, g7⟩ := hwk
        clear g5 g5'
        have hp1 : 1 ≤ p := by
          rcases hcase with ⟨_, hp0, hq0⟩ | hp1
          · omega
          · exact hp1
        clear hcase hz
        have dp : decide (p - 1 < 0) = false := by simp; omega
        go_wp2_with (at_builtin; refine wpList_append_own _ rfl _ _ 29 rfl w.heap.size 2 i0 (.int .i64 0) 1 8 Try.underlying29 hi hz0 hz1 hz2 rfl (by decide) _ _ _ rfl (World.ownsRow.alloc hO.out _) ⟨w2.heap.size, 0, none⟩ 1 1 [.int .i64 _] rfl rfl (ncells w2 #[.int .i64 _] 2) one64 (by have := B.size; unfold maxLen; omega) (by have := B.size; omega) (by have := B.size; simp; omega) ?_; intro v' w1 own' hgr _)
        have B1 : Below w.heap.size w w1 := (al B _).grown hgr (al B _).size (fun k e => (hO.out.lt k e).1)
        have O1 := OwnI.snoc own'
        clear own' hgr hO B
        go_wp2
        refine ⟨⟨k + 1, by omega, by first | go_num | simp, ?_, ?_, B1, ?_⟩, by simp [intOf]; omega⟩
        · rw [HS.out]
        · rw [HS.out]
        · rw [HSL.out]; exact O1
    · obtain rfl : k = n := by omega
      have hki : ¬ ((k : Int) < (k : Int)) := by omega
      have hO := Lib.hid O
      have hbd := (bl_bd hp HW.out k hk).2.1
      have hbd2 := (bl_bd hp HW.out k hk).1
      clear O
      obtain ⟨p, hp'⟩ : ∃ p, p = (bl h (wt c) k).1 := ⟨_, rfl⟩
      rw [← hp'] at hbd hbd2 ⊢
      have HP := Lib.hid hp'
      clear hp'
      go_wp2_with fail
      refine bodyPost_ret (results_tmp3 Try.results64 _ _ _) rfl ⟨B, .inl ⟨HV.out, _, ?_, hO.out⟩⟩
      rw [← HP.out]
      first | rfl | (congr 4; omega)

theorem both (n : Nat) (c : Nat → Int) (h : Int) (hc : ∀ j, -128 ≤ c j ∧ c j ≤ 127) (hn : n ≤ 1048576) (bh : (Lit.int .i64 h).wf = true) :
    ∃ (nn : Nat) (ff : Nat → Int) (z1 z2 : Int), nn ≤ 1000 ∧
      (∀ (W : World) (G0 : Nat), Ab W G0 n c → Calls Try.prog 64 #[.slice (some ⟨G0, 0, none⟩) n n, .int .i64 h] W fun e w' => Below W.heap.size W w' ∧ ∃ v, e = .returned (.tuple #[v, .int .i64 z1, .int .i64 z2]) ∧ HasSlice .i64 1 w' W.heap.size v nn ff) ∧
      (∀ (W : World) (G0 : Nat), Ab W G0 n c → Calls Try.prog 65 #[.slice (some ⟨G0, 0, none⟩) n n, .int .i64 h] W fun e w' => Below W.heap.size W w' ∧ ∃ v, e = .returned (.tuple #[v, .int .i64 z1, .int .i64 z2]) ∧ HasSlice .i64 1 w' W.heap.size v nn ff) := by
  have key : ∀ r, LdCode n c h r → ∃ (nn : Nat) (ff : Nat → Int) (z1 z2 : Int), nn ≤ 1000 ∧ ∀ (W : World) (e : Ending) (w' : World), BlPost n c h W e w' → Below W.heap.size W w' ∧ ∃ v, e = .returned (.tuple #[v, .int .i64 z1, .int .i64 z2]) ∧ HasSlice .i64 1 w' W.heap.size v nn ff := by
    intro r hr
    by_cases h0 : r = 0
    · subst h0
      refine ⟨(blL h (wt c) n).length, fun j => (blL h (wt c) n).getD j 0, (bl h (wt c) n).1, 0, ?_, fun W e w' ⟨hb, hp⟩ => ?_⟩
      rotate_left
      · rcases hp with ⟨_, v, rfl, O⟩ | ⟨r, hr0, hr', _⟩
        · exact ⟨hb, v, rfl, O.has⟩
        · exact absurd (hr'.one hr) hr0
      · rw [blL_length]; have := (ok_of hr).1; omega
    · refine ⟨([] : List Int).length, fun j => ([] : List Int).getD j 0, 0, r, ?_, fun W e w' ⟨hb, hp⟩ => ?_⟩
      rotate_left
      · rcases hp with ⟨hr', _⟩ | ⟨r', _, hr', v, rfl, O⟩
        · exact absurd (hr.one hr') h0
        · obtain rfl := hr.one hr'
          exact ⟨hb, v, rfl, O.has⟩
      · simp
  obtain ⟨r, hr⟩ : ∃ r, LdCode n c h r := by
    by_cases h1 : HeavyOk n c
    · by_cases h2 : n ≤ 10
      · by_cases h3 : 1 ≤ h ∧ h ≤ 600
        · by_cases h4 : ∀ j, j < n → wt c j ≤ h
          · exact ⟨0, .inr ⟨h1, h2, .inr ⟨h3, .inr ⟨h4, rfl⟩⟩⟩⟩
          · exact ⟨6, .inr ⟨h1, h2, .inr ⟨h3, .inl ⟨h4, rfl⟩⟩⟩⟩
        · exact ⟨2, .inr ⟨h1, h2, .inl ⟨h3, rfl⟩⟩⟩
      · exact ⟨3, .inl ⟨by decide, .inr (.inl ⟨h1, by omega, rfl⟩)⟩⟩
    · exact ⟨1, .inl ⟨by decide, .inl ⟨h1, rfl⟩⟩⟩
  obtain ⟨nn, ff, z1, z2, hnn, hk⟩ := key r hr
  exact ⟨nn, ff, z1, z2, hnn, fun W G0 hA => (spec_any _ n n c h W hn hA.rd hc).mono (hk W), fun W G0 hA => (impl_any _ n n c h W hn hA.rd hc).mono (hk W)⟩
end barrowLoads
end Go.Proofs.Ytkggimalkjjnoaa
