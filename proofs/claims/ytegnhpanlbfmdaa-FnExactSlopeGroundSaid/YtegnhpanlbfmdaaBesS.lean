/-
  Contracts of the model's helpers over a valid ground: l04All, l04Height, l04Beside, l04Asked. Conditions stand at each.
-/
import Derived.Test.YtegnhpanlbfmdaaRows
import Derived.Test.YtegnhpanlbfmdaaBesM
import Derived.Test.YtegnhpanlbfmdaaGndOk
namespace Go.Proofs.Ytegnhpanlbfmdaa
open Go Go.ChangeShapes Go.WideShapes Go.ChangeAt Go.RowKit
set_option linter.unusedVariables false
set_option linter.unusedSimpArgs false
set_option maxRecDepth 100000
set_option maxHeartbeats 2000000

theorem gall_any (W H bq : Nat) (h : Nat → Int) (s : Value) (w : World) (hW0 : 1 ≤ W) (hW : W ≤ 9) (hH : H ≤ 9) (hB : Bx w bq (gV W H h s) 33) :
    Calls Try.prog 132 #[.pointer (some ⟨bq, 0, none⟩)] w (AllPost W H w) := by
  obtain ⟨i0, hi, hz0, hz1, hz2⟩ := info_parts infoCell
  have hWi : (W : Int) ≤ 9 := by omega
  have hHi : (H : Int) ≤ 9 := by omega
  go_enter Try.func132, Try.ntmps132
  go_wp2
  have B0 : Below w.heap.size w (w.alloc (.cells #[] 40)) := al (Below.refl _ _) _
  have O0 : (w.alloc (.cells #[] 40)).ownsRow w.heap.size 40 2 (.slice (some ⟨w.heap.size, 0, none⟩) 0 0) 0 [] := World.ownsRow_made w #[] 0 (Nat.le_refl _) (Nat.zero_le _) rfl
  obtain ⟨W0, hW0'⟩ : ∃ W0 : World, W0 = w.alloc (.cells #[] 40) := ⟨_, rfl⟩
  rw [← hW0'] at B0 O0 ⊢
  clear hW0'
  go_loopw [3, 4] (fun t3 t4 wr => ∃ y : Nat, y ≤ H ∧ t4 = .int .i8 y ∧ Below w.heap.size w wr ∧ OwnC wr w.heap.size t3 (allC W (W * y))) (fun t3 t4 wr => H - (intOf t4).toNat)
  case atStart => exact ⟨0, by omega, by simp, B0, O0⟩
  case round =>
    clear B0 O0
    obtain ⟨y, hy, rfl, B, O⟩ := hrel
    obtain ⟨v0, rfl⟩ : ∃ v0 : Value, v0 = u3 := ⟨_, rfl⟩
    have hq0 := hB.of_block (B.block _ hB.lt)
    obtain ⟨lq, pq, qq, rq⟩ := hq0.gcells
    by_cases hyt : y < H
    · go_wp2
      clear lq pq qq rq
      go_loopw [3, 5] (fun t3 t5 wr => ∃ x : Nat, x ≤ W ∧ t5 = .int .i8 x ∧ Below w.heap.size w wr ∧ OwnC wr w.heap.size t3 (allC W (W * y + x))) (fun t3 t5 wr => W - (intOf t5).toNat)
      case atStart => exact ⟨0, by omega, by simp, B, O⟩
      case round =>
        clear B O hq0
        obtain ⟨x, hx, rfl, B, O⟩ := hrel
        have hq0 := hB.of_block (B.block _ hB.lt)
        obtain ⟨lq, pq, qq, rq⟩ := hq0.gcells
        by_cases hxt : x < W
        · have h144 : W * y + x < 144 := by
            have : W * y + W ≤ W * 12 := by rw [← Nat.mul_succ]; exact Nat.mul_le_mul_left _ (by omega)
            omega
          have hyi : (y : Int) ≤ 8 := by omega
          have hxi : (x : Int) ≤ 8 := by omega
          have H144 := Lib.hid h144
          clear h144
          go_wp2_with (at_builtin; refine wpList_append_own _ rfl _ _ 31 rfl w.heap.size 40 i0 (.agg #[.int .i8 0, .int .i8 0]) 2 2 Try.underlying31 hi hz0 hz1 hz2 rfl (by decide) _ _ _ rfl (World.ownsRow.alloc O _) ⟨wr.heap.size, 0, none⟩ 1 1 [.int .i8 (x : Int), .int .i8 (y : Int)] rfl rfl (new_cells wr #[.int .i8 (x : Int), .int .i8 (y : Int)] 40) one_ints (by rw [allC_length]; have := H144.out; unfold maxLen; omega) (by rw [allC_length]; have := H144.out; omega) (by have := B.size; simp; omega) ?_; intro v' w1 own' hgr _)
          have B1 : Below w.heap.size w w1 := (al B _).grown hgr (al B _).size (fun k e => (O.lt k e).1)
          have O1 : OwnC w1 w.heap.size v' (allC W (W * y + (x + 1))) := by
            unfold OwnC
            rw [← Nat.add_assoc, allC_succ, cl_eq hxt, cellsL_append, cellsL_one, List.length_append]
            exact own'
          clear own' hgr O B lq pq qq rq hq0 H144
          go_wp2
          exact ⟨⟨x + 1, by omega, by first | go_num | simp, B1, O1⟩, by simp [intOf]; omega⟩
        · obtain rfl : x = W := by omega
          go_wp2
          exact ⟨⟨y + 1, by omega, by first | go_num | simp, B, by rw [Nat.mul_succ]; exact O⟩, by simp [intOf]; omega⟩
    · obtain rfl : y = H := by omega
      go_wp2
      go_ret
      exact ⟨B, v0, rfl, O⟩

theorem gheight_any (X Y : Int) (h : Nat → Int) (s : Value) (bq x y : Nat) (w : World) (hx : x < 9) (hy : y < 9) (hh : ∀ p, -32768 ≤ h p ∧ h p ≤ 32767) (hB : Bx w bq (gV X Y h s) 33) :
    Calls Try.prog 125 #[.pointer (some ⟨bq, 0, none⟩), .agg #[.int .i8 (x : Int), .int .i8 (y : Int)]] w fun e w' => e = .returned (.int .i64 (h (y * 9 + x))) ∧ Below w.heap.size w w' := by
  have hxi : (x : Int) < 9 := by omega
  have hyi : (y : Int) < 9 := by omega
  have hx0 : (0 : Int) ≤ (x : Int) := by omega
  have hy0 : (0 : Int) ≤ (y : Int) := by omega
  have hz := hh (y * 9 + x)
  have wz : IntKind.i64.wrap (h (y * 9 + x)) = h (y * 9 + x) := IntWalk.i64_in _ (by omega)
  have hlt := hB.lt
  clear hh
  go_enter Try.func125, Try.ntmps125
  go_wp2_with fail
  have X3 := Bx.new w #[.int .i8 (x : Int), .int .i8 (y : Int)] 40
  have B := al (Below.refl w.heap.size w) (.cells #[.int .i8 (x : Int), .int .i8 (y : Int)] 40)
  have X1 := hB.alloc (.cells #[.int .i8 (x : Int), .int .i8 (y : Int)] 40)
  obtain ⟨W0, hW0⟩ : ∃ W0 : World, W0 = w.alloc (.cells #[.int .i8 (x : Int), .int .i8 (y : Int)] 40) := ⟨_, rfl⟩
  rw [← hW0] at X3 B X1 ⊢
  clear hW0
  have p3 : W0.cell? ⟨w.heap.size, 0, none⟩ = some (.int .i8 (x : Int)) := X3.cell 0
  have q3 : W0.cell? ⟨w.heap.size, 1, none⟩ = some (.int .i8 (y : Int)) := X3.cell 1
  have ch : W0.cell? ⟨bq, 2 + y * 9 + x, none⟩ = some (.int .i16 (h (y * 9 + x))) := by
    have := (X1.cell (2 + (y * 9 + x))).trans (gV_h _ _ _ _ (by omega))
    rwa [show 2 + (y * 9 + x) = 2 + y * 9 + x by omega] at this
  go_quiet (fail)
  go_wp2
  go_ret
  exact ⟨rfl, below_drewN' B _⟩

def GaPost (X Y : Int) (h : Nat → Int) (n : Nat) (c : Nat → Int) (r : Bool) (w : World) (e : Ending) (w' : World) : Prop :=
  Below w.heap.size w w' ∧ ((GValid X Y h n c ∧ r = true ∧ e = .returned (.int .i64 0)) ∨ (GValid X Y h n c ∧ r = false ∧ e = .returned (.int .i64 2)) ∨ (¬ GValid X Y h n c ∧ e = .returned (.int .i64 1)))
theorem gasked_any (X Y : Int) (h : Nat → Int) (bq : Nat) (A : Option Addr) (n cap : Nat) (c : Nat → Int) (r : Bool) (w : World) (hX : -128 ≤ X ∧ X ≤ 127) (hY : -128 ≤ Y ∧ Y ≤ 127) (hh : ∀ p, -32768 ≤ h p ∧ h p ≤ 32767) (hc : ∀ j, -128 ≤ c j ∧ c j ≤ 127) (hm : n ≤ 1048576) (hB : Bx w bq (gV X Y h (.slice A n cap)) 33) (hr : RdK .i8 w w.heap.size A (2 * n) c) :
    Calls Try.prog 122 #[.pointer (some ⟨bq, 0, none⟩), .bool r] w (GaPost X Y h n c r w) := by
  have K := gok_any X Y h bq A n cap c w hX hY hh hc hm hB hr
  have HK := Lib.hid K
  clear K hr hh hc
  go_enter Try.func122, Try.ntmps122
  go_wp2_with fail
  refine HK.out.mono ?_
  rintro e w1 ⟨hb, ⟨hv, rfl⟩ | ⟨hv, rfl⟩⟩
  · have HV := Lib.hid hv
    have HB := Lib.hid hb
    clear hv hb HK
    cases r
    · go_wp2
      go_ret
      exact ⟨HB.out, .inr (.inl ⟨HV.out, rfl, rfl⟩)⟩
    · go_wp2
      go_ret
      exact ⟨HB.out, .inl ⟨HV.out, rfl, rfl⟩⟩
  · have HV := Lib.hid hv
    have HB := Lib.hid hb
    clear hv hb HK
    go_wp2
    go_ret
    exact ⟨HB.out, .inr (.inr ⟨HV.out, rfl⟩)⟩

theorem gbes_any (W H x y : Nat) (h : Nat → Int) (s : Value) (bq : Nat) (w : World) (hW : W ≤ 9) (hH : H ≤ 9) (hx : x < W) (hy : y < H) (hB : Bx w bq (gV W H h s) 33) :
    Calls Try.prog 137 #[.pointer (some ⟨bq, 0, none⟩), .agg #[.int .i8 (x : Int), .int .i8 (y : Int)]] w fun e w' => Below w.heap.size w w' ∧ ∃ v, e = .returned v ∧ OwnC w' w.heap.size v (besL W H x y) := by
  obtain ⟨i0, hi, hz0, hz1, hz2⟩ := info_parts infoCell
  have hx8 : x ≤ 8 := by omega
  have hy8 : y ≤ 8 := by omega
  have wx1 : IntKind.i8.wrap ((x : Int) - 1) = (x : Int) - 1 := IntWalk.i8_in _ (by omega)
  have wy1 : IntKind.i8.wrap ((y : Int) - 1) = (y : Int) - 1 := IntWalk.i8_in _ (by omega)
  have wx2 : IntKind.i8.wrap ((x : Int) + 1) = (x : Int) + 1 := IntWalk.i8_in _ (by omega)
  have wy2 : IntKind.i8.wrap ((y : Int) + 1) = (y : Int) + 1 := IntWalk.i8_in _ (by omega)
  go_enter Try.func137, Try.ntmps137
  go_wp2
  have X1 := ((hB.alloc (.cells #[.int .i8 (x : Int), .int .i8 (y : Int)] 40)).alloc (.cells #[] 40)).alloc (.cells #[.int .i8 (x : Int), .int .i8 ((y : Int) - 1), .int .i8 ((x : Int) - 1), .int .i8 (y : Int), .int .i8 ((x : Int) + 1), .int .i8 (y : Int), .int .i8 (x : Int), .int .i8 ((y : Int) + 1)] 40)
  have X4 := Bx.newAt ((w.alloc (.cells #[.int .i8 (x : Int), .int .i8 (y : Int)] 40)).alloc (.cells #[] 40)) (w.heap.size + 1 + 1) #[.int .i8 (x : Int), .int .i8 ((y : Int) - 1), .int .i8 ((x : Int) - 1), .int .i8 (y : Int), .int .i8 ((x : Int) + 1), .int .i8 (y : Int), .int .i8 (x : Int), .int .i8 ((y : Int) + 1)] 40 (by simp)
  have B0 := al (al (al (Below.refl w.heap.size w) (.cells #[.int .i8 (x : Int), .int .i8 (y : Int)] 40)) (.cells #[] 40)) (.cells #[.int .i8 (x : Int), .int .i8 ((y : Int) - 1), .int .i8 ((x : Int) - 1), .int .i8 (y : Int), .int .i8 ((x : Int) + 1), .int .i8 (y : Int), .int .i8 (x : Int), .int .i8 ((y : Int) + 1)] 40)
  have O0 := World.ownsRow.alloc (World.ownsRow_made (w.alloc (.cells #[.int .i8 (x : Int), .int .i8 (y : Int)] 40)) (base := w.heap.size) (e := 40) (size := 2) #[] 0 (by simp) (Nat.zero_le _) rfl) (.cells #[.int .i8 (x : Int), .int .i8 ((y : Int) - 1), .int .i8 ((x : Int) - 1), .int .i8 (y : Int), .int .i8 ((x : Int) + 1), .int .i8 (y : Int), .int .i8 (x : Int), .int .i8 ((y : Int) + 1)] 40)
  obtain ⟨four, h4⟩ : ∃ four : Array Value, four = #[.int .i8 (x : Int), .int .i8 ((y : Int) - 1), .int .i8 ((x : Int) - 1), .int .i8 (y : Int), .int .i8 ((x : Int) + 1), .int .i8 (y : Int), .int .i8 (x : Int), .int .i8 ((y : Int) + 1)] := ⟨_, rfl⟩
  have hf4 : ∀ k, k < 4 → four[k * 2]? = some (.int .i8 (nbx x k)) ∧ four[k * 2 + 1]? = some (.int .i8 (nby y k)) := fun k hk => by rw [h4]; exact four_get x y hk
  obtain ⟨W0, hW0⟩ : ∃ W0 : World, W0 = ((w.alloc (.cells #[.int .i8 (x : Int), .int .i8 (y : Int)] 40)).alloc (.cells #[] 40)).alloc (.cells #[.int .i8 (x : Int), .int .i8 ((y : Int) - 1), .int .i8 ((x : Int) - 1), .int .i8 (y : Int), .int .i8 ((x : Int) + 1), .int .i8 (y : Int), .int .i8 (x : Int), .int .i8 ((y : Int) + 1)] 40) := ⟨_, rfl⟩
  rw [← hW0] at X1 X4 B0 O0 ⊢
  rw [← h4] at X4
  have HF := Lib.hid hf4
  have hs0 := hB.lt
  have hBg := hB
  clear hW0 h4 hf4 wx1 wx2 wy1 wy2 hB
  rw [World.size_alloc] at O0
  go_loopw [5, 7] (fun t5 t7 wr => ∃ k : Nat, k ≤ 4 ∧ t7 = .int .i64 k ∧ Below w.heap.size w wr ∧ OwnC wr w.heap.size t5 (besK W H x y k) ∧ t5.ownBlock ≠ some (w.heap.size + 1 + 1) ∧ Bx wr (w.heap.size + 1 + 1) four 40) (fun t5 t7 wr => 4 - (intOf t7).toNat)
  case atStart => exact ⟨0, by omega, rfl, B0, O0, by simp [Value.ownBlock], X4⟩
  case round =>
    clear B0 O0
    obtain ⟨k, hk, rfl, B, O, hne, X4⟩ := hrel
    obtain ⟨v0, rfl⟩ : ∃ v0 : Value, v0 = u5 := ⟨_, rfl⟩
    obtain ⟨wo, rfl⟩ : ∃ wo : World, wo = wr := ⟨_, rfl⟩
    by_cases hk4 : k < 4
    · have hki : (k : Int) < 4 := by omega
      have c0 : wo.cell? ⟨w.heap.size + 1 + 1, k * 2, none⟩ = some (.int .i8 (nbx x k)) := (X4.cell _).trans (HF.out k hk4).1
      have c1 : wo.cell? ⟨w.heap.size + 1 + 1, k * 2 + 1, none⟩ = some (.int .i8 (nby y k)) := (X4.cell _).trans (HF.out k hk4).2
      have hnx := nbx_le (x := x) (k := k)
      have hny := nby_le (y := y) (k := k)
      have Xg : Bx wo bq (gV W H h s) 33 := hBg.of_block (B.block _ hs0)
      by_cases hin : gIs W H (nbx x k) (nby y k)
      · obtain ⟨a, b, ha, hb, haW, hbH⟩ := gIs_nat hin
        have e1 := besK_yes hin ha hb
        rw [ha] at c0 hin
        rw [hb] at c1 hin
        have hai : (a : Int) < 9 := by omega
        have hbi : (b : Int) < 9 := by omega
        have HL := Lib.hid (besK_length (W := W) (H := H) (x := x) (y := y) k)
        have HE := Lib.hid e1
        clear e1 ha hb hnx hny
        go_wp2_with fail
        refine (gis_yes W H a b h s bq _ (by omega) (by omega) (by omega) (by omega) Xg hin).mono ?_
        rintro e w5 ⟨rfl, hbl⟩
        replace X4 := X4.below hbl
        have c0 : w5.cell? ⟨w.heap.size + 1 + 1, k * 2, none⟩ = some (.int .i8 (a : Int)) := (hbl.cell (p := ⟨w.heap.size + 1 + 1, k * 2, none⟩) (block_lt_of_cell c0)).trans c0
        have c1 : w5.cell? ⟨w.heap.size + 1 + 1, k * 2 + 1, none⟩ = some (.int .i8 (b : Int)) := (hbl.cell (p := ⟨w.heap.size + 1 + 1, k * 2 + 1, none⟩) (block_lt_of_cell c1)).trans c1
        replace O := OwnC.below O hbl
        replace B := nxt B hbl
        clear hbl Xg
        go_wp2_with (at_builtin; refine wpList_append_own_at _ rfl _ _ 31 rfl w.heap.size 40 i0 (.agg #[.int .i8 0, .int .i8 0]) 2 2 Try.underlying31 hi hz0 hz1 hz2 rfl (by decide) _ _ _ rfl (World.ownsRow.alloc O _) ⟨w5.heap.size, 0, none⟩ 1 1 [.int .i8 (a : Int), .int .i8 (b : Int)] rfl rfl (new_cells w5 #[.int .i8 (a : Int), .int .i8 (b : Int)] 40) one_ints (by have := HL.out; unfold maxLen; omega) (by have := HL.out; omega) (by have := B.size; simp; omega) ?_; intro v' w1 own' hgr _ hat)
        have B1 : Below w.heap.size w w1 := (al B _).grown hgr (al B _).size (fun k e => (World.ownsRow.lt O k e).1)
        have O1 : OwnC w1 w.heap.size v' (besK W H x y (k + 1)) := by
          unfold OwnC
          rw [HE.out, cellsL_append, cellsL_one, List.length_append]
          exact own'
        have X41 : Bx w1 (w.heap.size + 1 + 1) four 40 := (X4.alloc _).of_block (hgr.block _ (X4.alloc _).lt (fun e => hne e.symm))
        have hne1 : v'.ownBlock ≠ some (w.heap.size + 1 + 1) := by
          rcases hat with h | h
          · rw [h]; exact hne
          · rw [h]; have := X4.lt; simp; omega
        clear own' hgr hat O B hne c0 c1
        go_wp2
        exact ⟨⟨k + 1, by omega, by first | go_num | simp, B1, O1, hne1, X41⟩, by simp [intOf]; omega⟩
      · have e1 := besK_no hin
        have HE := Lib.hid e1
        have HIN := Lib.hid hin
        clear e1 hin
        go_wp2_with fail
        refine (gis_no W H (nbx x k) (nby y k) h s bq _ (by omega) (by omega) (by omega) (by omega) Xg HIN.out).mono ?_
        rintro e w5 ⟨rfl, hbl⟩
        replace X4 := X4.below hbl
        replace O := OwnC.below O hbl
        replace B := nxt B hbl
        clear hbl Xg c0 c1
        go_wp2
        exact ⟨⟨k + 1, by omega, by first | go_num | simp, B, by rw [HE.out]; exact O, hne, X4⟩, by simp [intOf]; omega⟩
    · obtain rfl : k = 4 := by omega
      go_wp2
      go_ret
      exact ⟨B, v0, rfl, O⟩
end Go.Proofs.Ytegnhpanlbfmdaa
