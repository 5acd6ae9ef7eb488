/-
  The mix of which a stock is enough for most: the contract of spec.BestMix. Conditions stand at each.
-/
import Derived.Test.YtgpnimbgckajlaaRows
import Derived.Test.YtgpnimbgckajlaaGreat
namespace Go.Proofs.Ytgpnimbgckajlaa
open Go Go.ChangeShapes Go.WideShapes Go.ChangeAt Go.RowKit
set_option linter.unusedVariables false
set_option linter.unusedSimpArgs false
set_option maxRecDepth 100000
set_option maxHeartbeats 4000000
/-- mix k of a list. -/
def mk3 (c : Nat → Int) (k : Nat) : Nat → Int := fun i => c (3 * k + i)
theorem mix_at {w : World} {B n k : Nat} {A : Option Addr} {c : Nat → Int} (h : RdK .i16 w B A (3 * n) c) (hk : k < n) : ∃ b off, A = some ⟨b, off, none⟩ ∧ b < B ∧ ∀ j, j < 3 → w.cell? ⟨b, off + k * 3 + j, none⟩ = some (.int .i16 (mk3 c k j)) := by
  obtain ⟨b, off, e, hl, hc⟩ := h (by omega)
  refine ⟨b, off, e, hl, fun j hj => ?_⟩
  have := hc (3 * k + j) (by omega)
  rw [show off + (3 * k + j) = off + k * 3 + j by omega] at this
  exact this
theorem in16_mk {c : Nat → Int} (h : ∀ j, -32768 ≤ c j ∧ c j ≤ 32767) (k : Nat) : In16 (mk3 c k) := fun j _ => h _
def AllMix (n : Nat) (c : Nat → Int) : Prop := ∀ j, j < n → MixOk (mk3 c j)
theorem all_step3 {c : Nat → Int} {k : Nat} (h : AllMix k c) (h1 : MixOk (mk3 c k)) : AllMix (k + 1) c := fun j hj => by
  by_cases e : j = k
  · subst e; exact h1
  · exact h j (by omega)
def GOk (n : Nat) (c st G : Nat → Int) : Prop := AllMix n c → StockOk st → ∀ j, j < n → MostAt (mk3 c j) st (G j)
def BmPost (n : Nat) (c st G : Nat → Int) (w : World) (e : Ending) (w' : World) : Prop :=
  Below w.heap.size w w' ∧ ((¬ AllMix n c ∧ e = .returned (.tuple #[.int .i64 0, .int .i64 0, .int .i64 1])) ∨ (AllMix n c ∧ 20 < n ∧ e = .returned (.tuple #[.int .i64 0, .int .i64 0, .int .i64 3])) ∨
    (AllMix n c ∧ n ≤ 20 ∧ ¬ StockOk st ∧ e = .returned (.tuple #[.int .i64 0, .int .i64 0, .int .i64 2])) ∨ (AllMix n c ∧ StockOk st ∧ n = 0 ∧ e = .returned (.tuple #[.int .i64 0, .int .i64 0, .int .i64 6])) ∨
    (AllMix n c ∧ (0 < n ∧ n ≤ 20) ∧ StockOk st ∧ ∃ (i : Nat) (M : Int), FirstAt G n M i ∧ MaxAt G n M ∧ e = .returned (.tuple #[.int .i64 i, .int .i64 M, .int .i64 0])))
theorem specBest_any (A : Option Addr) (n cap : Nat) (c st G : Nat → Int) (w : World) (hn : n ≤ 1048576) (hr : RdK .i16 w w.heap.size A (3 * n) c) (hc : ∀ j, -32768 ≤ c j ∧ c j ≤ 32767) (h16 : In16 st) (hG : GOk n c st G) :
    Calls Try.prog 34 #[.slice A n cap, .agg #[.int .i16 (st 0), .int .i16 (st 1), .int .i16 (st 2)]] w (BmPost n c st G w) := by
  have HR := Lib.hid hr
  have HC := Lib.hid hc
  have HG := Lib.hid hG
  obtain ⟨rs, hrs⟩ := dec_ex (StockOk st)
  have HS := Lib.hid (fun b W (h : MixP W b 0 st) => l07Stock_any b st rs W h16 h hrs)
  have ES := Lib.hid hrs
  have X3 := Bx.new w (mixC st) 44
  have B := al (Below.refl w.heap.size w) (.cells (mixC st) 44)
  clear hr hc hG hrs h16
  go_enter Try.func34, Try.ntmps34
  go_wp2
  obtain ⟨W0, hW0⟩ : ∃ W0 : World, W0 = w.alloc (.cells (mixC st) 44) := ⟨_, rfl⟩
  simp only [mixC] at hW0
  rw [← hW0]
  have hW1 : w.alloc (.cells (mixC st) 44) = W0 := hW0.symm
  rw [hW1] at X3 B
  clear hW0 hW1
  obtain ⟨b3, h3⟩ : ∃ b3, b3 = w.heap.size := ⟨_, rfl⟩
  rw [← h3] at X3 ⊢
  clear h3
  go_loopw [7] (fun t7 wr => ∃ k : Nat, k ≤ n ∧ t7 = .int .i64 k ∧ Below w.heap.size w wr ∧ Bx wr b3 (mixC st) 44 ∧ AllMix k c) (fun t7 wr => n - (intOf t7).toNat)
  case atStart => exact ⟨0, by omega, rfl, B, X3, fun j hj => by omega⟩
  case round =>
    clear B X3
    obtain ⟨k, hk, rfl, B, X3, hall⟩ := hrel
    have HA := Lib.hid hall
    clear hall
    by_cases hlt : k < n
    · have hki : (k : Int) < (n : Int) := by omega
      obtain ⟨b, off, rfl, hbl, hcs⟩ := mix_at (HR.out.below B) hlt
      obtain ⟨r, hrr⟩ := dec_ex (MixOk (mk3 c k))
      have HL := Lib.hid (l07Mix_any b (off + k * 3) (mk3 c k) r wr (in16_mk HC.out k) ⟨Nat.lt_of_lt_of_le hbl B.size, hcs⟩ hrr)
      have E := Lib.hid hrr
      clear hrr hcs
      go_wp2_with fail
      refine HL.out.mono ?_
      rintro e w1 ⟨hb, rfl⟩
      replace X3 := X3.below hb
      replace B := nxt B hb
      clear hb HL
      cases r with
      | false =>
        have hno : ¬ AllMix n c := fun h => by have := E.out.2 (h k hlt); cases this
        have HN := Lib.hid hno
        clear hno
        go_wp2
        exact bodyPost_ret (by simp [results, Try.results34, go_sem]) rfl ⟨B, .inl ⟨HN.out, rfl⟩⟩
      | true =>
        have P := Lib.hid (E.out.1 rfl)
        go_wp2
        exact ⟨⟨k + 1, by omega, by first | go_num | simp, B, X3, all_step3 HA.out P.out⟩, by simp [intOf]; omega⟩
    · obtain rfl : k = n := by omega
      have hki : ¬ ((k : Int) < (k : Int)) := by omega
      obtain ⟨n, rfl⟩ : ∃ n, n = k := ⟨_, rfl⟩
      by_cases h20 : 20 < n
      · have d1 : decide ((20 : Int) < (n : Int)) = true := by simp; omega
        have d2 : (20 : Int) < (n : Int) := by omega
        clear HG HR
        go_wp2
        exact bodyPost_ret (by simp [results, Try.results34, go_sem]) rfl ⟨B, .inr (.inl ⟨HA.out, h20, rfl⟩)⟩
      have d1 : decide ((20 : Int) < (n : Int)) = false := by simp; omega
      have d2 : ¬ (20 : Int) < (n : Int) := by omega
      go_wp2_with fail
      refine (HS.out _ _ X3.mixP).mono ?_
      rintro e w1 ⟨hb, rfl⟩
      replace X3 := X3.below hb
      replace B := nxt B hb
      clear hb HS d1 d2
      cases rs with
      | false =>
        have hno : ¬ StockOk st := fun h => by have := ES.out.2 h; cases this
        have HN := Lib.hid hno
        clear hno HG HR
        go_wp2
        exact bodyPost_ret (by simp [results, Try.results34, go_sem]) rfl ⟨B, .inr (.inr (.inl ⟨HA.out, by omega, HN.out, rfl⟩))⟩
      | true =>
        have HST := Lib.hid (ES.out.1 rfl)
        by_cases h0 : n = 0
        · subst h0
          clear HG HR
          go_wp2
          exact bodyPost_ret (by simp [results, Try.results34, go_sem]) rfl ⟨B, .inr (.inr (.inr (.inl ⟨HA.out, HST.out, rfl, rfl⟩)))⟩
        have d0 : ((n : Int) == 0) = false := by rw [beq_eq_false_iff_ne]; omega
        have hpos : 0 < n := by omega
        have hni : (0 : Int) < (n : Int) := by omega
        have HGK := Lib.hid (HG.out HA.out HST.out)
        have HMO := Lib.hid (fun k (hk : k < n) W b' o' (hp : MixP W b' o' (mk3 c k)) (hs : MixP W b3 0 st) => l07Most_any b' o' b3 (mk3 c k) st (G k) W (in16_mk HC.out k) (HA.out k hk) hp hs HST.out (HGK.out k hk))
        obtain ⟨b, off, rfl, hbl, hcs⟩ := mix_at (HR.out.below B) hpos
        rw [show off + 0 * 3 = off by omega] at hcs
        have HP0 := Lib.hid (show MixP w1 b off (mk3 c 0) from ⟨Nat.lt_of_lt_of_le hbl B.size, hcs⟩)
        clear hcs
        go_wp2_with fail
        refine (HMO.out 0 hpos _ _ _ HP0.out X3.mixP).mono ?_
        rintro e w2 ⟨hb, rfl⟩
        replace X3 := X3.below hb
        replace B := nxt B hb
        clear hb HP0
        go_wp2
        go_loopw [8, 9, 10, 11] (fun t8 t9 t10 t11 wr => ∃ (k i : Nat) (M : Int), 1 ≤ k ∧ k ≤ n ∧ t10 = .int .i64 k ∧ t8 = .int .i64 i ∧ t9 = .int .i64 M ∧ FirstAt G k M i ∧ MaxAt G k M ∧ Below w.heap.size w wr ∧ Bx wr b3 (mixC st) 44) (fun t8 t9 t10 t11 wr => n - (intOf t10).toNat)
        case atStart => exact ⟨1, 0, G 0, by omega, by omega, rfl, rfl, rfl, ⟨by omega, rfl, fun j hj => by omega⟩, ⟨⟨0, by omega, rfl⟩, fun j hj => by rw [show j = 0 by omega]; exact Int.le_refl _⟩, B, X3⟩
        case round =>
          clear B X3
          obtain ⟨k, i, M, hk1, hk, rfl, rfl, rfl, hf, hm, B, X3⟩ := hrel
          have HF := Lib.hid hf
          have HM := Lib.hid hm
          clear hf hm
          by_cases hlt : k < n
          · have hki : (k : Int) < (n : Int) := by omega
            obtain ⟨b', off', he, hbl', hcs⟩ := mix_at (HR.out.below B) hlt
            injection he with he
            injection he with eb eo _
            subst eb eo
            have HPk := Lib.hid (show MixP wr b (off + k * 3) (mk3 c k) from ⟨Nat.lt_of_lt_of_le hbl B.size, hcs⟩)
            clear hcs
            go_wp2_with fail
            refine (HMO.out k hlt _ _ _ HPk.out X3.mixP).mono ?_
            rintro e w3 ⟨hb, rfl⟩
            replace X3 := X3.below hb
            replace B := nxt B hb
            clear hb HPk
            obtain ⟨x, hx⟩ : ∃ x, x = G k := ⟨_, rfl⟩
            rw [← hx]
            have HX := Lib.hid hx
            clear hx
            by_cases hgt : M < x
            · have d1 : decide (M < x) = true := by simpa using hgt
              have HN1 : Hid (FirstAt G (k + 1) x k) := Lib.hid ⟨by omega, HX.out.symm, fun j hj => by have := HM.out.2 j hj; omega⟩
              have HN2 : Hid (MaxAt G (k + 1) x) := Lib.hid ⟨⟨k, by omega, HX.out.symm⟩, fun j hj => by
                by_cases e : j = k
                · subst e; rw [← HX.out]; exact Int.le_refl _
                · have := HM.out.2 j (by omega); omega⟩
              go_wp2
              exact ⟨⟨k + 1, k, x, by omega, by omega, by first | go_num | simp, rfl, rfl, HN1.out, HN2.out, B, X3⟩, by simp [intOf]; omega⟩
            · have d1 : decide (M < x) = false := by simpa using hgt
              have HN1 : Hid (FirstAt G (k + 1) M i) := Lib.hid ⟨by have := HF.out.1; omega, HF.out.2.1, HF.out.2.2⟩
              have HN2 : Hid (MaxAt G (k + 1) M) := Lib.hid ⟨by obtain ⟨q, hq, h⟩ := HM.out.1; exact ⟨q, by omega, h⟩, fun j hj => by
                by_cases e : j = k
                · subst e; rw [← HX.out]; omega
                · exact HM.out.2 j (by omega)⟩
              go_wp2
              exact ⟨⟨k + 1, i, M, by omega, by omega, by first | go_num | simp, rfl, rfl, HN1.out, HN2.out, B, X3⟩, by simp [intOf]; omega⟩
          · obtain rfl : k = n := by omega
            have hki : ¬ ((k : Int) < (k : Int)) := by omega
            go_wp2
            exact bodyPost_ret (by simp [results, Try.results34, go_sem]) rfl ⟨B, .inr (.inr (.inr (.inr ⟨HA.out, ⟨hpos, by omega⟩, HST.out, i, M, HF.out, HM.out, rfl⟩)))⟩
end Go.Proofs.Ytgpnimbgckajlaa
