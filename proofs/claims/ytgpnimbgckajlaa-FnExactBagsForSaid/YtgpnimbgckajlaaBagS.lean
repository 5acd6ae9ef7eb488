/-
  Bags for an amount: contracts of spec.BagsFor and impl.BagsFor. Conditions stand at each.
-/
import Derived.Test.YtgpnimbgckajlaaRows
import Derived.Test.YtgpnimbgckajlaaMixForB
import Derived.Test.YtgpnimbgckajlaaDaysS
namespace Go.Proofs.Ytgpnimbgckajlaa
open Go Go.ChangeShapes Go.WideShapes Go.ChangeAt Go.RowKit
set_option linter.unusedVariables false
set_option linter.unusedSimpArgs false
set_option maxRecDepth 100000
set_option maxHeartbeats 4000000
/-- bags of the first parts, and their sum. -/
def bgL (f : Nat → Int) (g : Int) (k : Nat) : List Int := (List.range k).map fun j => upD (f j) g
def sbK (f : Nat → Int) (g : Int) : Nat → Int
  | 0 => 0
  | k + 1 => sbK f g k + upD (f k) g
theorem bgL_length (f : Nat → Int) (g : Int) (k : Nat) : (bgL f g k).length = k := by simp [bgL]
theorem bgL_succ (f : Nat → Int) (g : Int) (k : Nat) : bgL f g (k + 1) = bgL f g k ++ [upD (f k) g] := by simp [bgL, List.range_succ]
theorem sbK_bd {f : Nat → Int} {g : Int} (hf : ∀ j, j < 3 → 0 ≤ f j ∧ f j ≤ 5002) (hg : 1 ≤ g) : ∀ k, k ≤ 3 → 0 ≤ sbK f g k ∧ sbK f g k ≤ 5002 * k
  | 0, _ => by simp only [sbK]; omega
  | k + 1, h => by
    have h1 := sbK_bd hf hg k (by omega)
    have h2 := hf k (by omega)
    have h3 := upD_bd h2.1 hg
    simp only [sbK]
    omega
/-- what BagsFor answers. -/
def BfPost (m : Nat → Int) (n g : Int) (w : World) (e : Ending) (w' : World) : Prop :=
  Below w.heap.size w w' ∧ ((¬ MixOk m ∧ ∃ v, e = .returned (.tuple #[v, .int .i64 0, .int .i64 1]) ∧ OwnI w' w.heap.size v []) ∨
    (MixOk m ∧ ¬ ((0 ≤ n ∧ n ≤ 5000) ∧ (1 ≤ g ∧ g ≤ 5000)) ∧ ∃ v, e = .returned (.tuple #[v, .int .i64 0, .int .i64 2]) ∧ OwnI w' w.heap.size v []) ∨
    (MixOk m ∧ ((0 ≤ n ∧ n ≤ 5000) ∧ (1 ≤ g ∧ g ≤ 5000)) ∧ ∃ v, e = .returned (.tuple #[v, .int .i64 (sbK (needM m n) g 3), .int .i64 0]) ∧ OwnI w' w.heap.size v (bgL (needM m n) g 3)))
theorem specBags_any (m : Nat → Int) (n g : Int) (w : World) (h16 : In16 m) :
    Calls Try.prog 38 #[.agg #[.int .i16 (m 0), .int .i16 (m 1), .int .i16 (m 2)], .int .i64 n, .int .i64 g] w (BfPost m n g w) := by
  obtain ⟨i0, hi, hz0, hz1, hz2⟩ := info_parts infoI64
  obtain ⟨r0, e0⟩ := dec_ex (MixOk m)
  obtain ⟨r1, e1⟩ := dec_ex (0 ≤ n ∧ n ≤ 5000)
  obtain ⟨r2, e2⟩ := dec_ex (1 ≤ g ∧ g ≤ 5000)
  have H0 := Lib.hid (fun b W (hb : MixP W b 0 m) => l07Mix_any b 0 m r0 W h16 hb e0)
  have H1 := Lib.hid (fun W => amount_any n r1 W e1)
  have H2 := Lib.hid (fun W => in_any g 1 5000 r2 W e2)
  have H3 := Lib.hid (fun b W hm hn (hb : MixP W b 0 m) => l07For_any b 0 m n W h16 hm hn hb)
  have E0 := Lib.hid e0
  have E1 := Lib.hid e1
  have E2 := Lib.hid e2
  have X2 := Bx.new w (mixC m) 44
  have B := al (Below.refl w.heap.size w) (.cells (mixC m) 44)
  clear e0 e1 e2 h16
  go_enter Try.func38, Try.ntmps38
  go_wp2_with fail
  refine (H0.out _ _ X2.mixP).mono ?_
  rintro e w1 ⟨hb, rfl⟩
  replace X2 := X2.below hb
  replace B := nxt B hb
  clear hb
  cases r0 with
  | false =>
    have N0 := Lib.hid (show ¬ MixOk m from fun h => by have := E0.out.2 h; cases this)
    go_wp2
    exact bodyPost_ret (results_tmp3 Try.results38 _ _ _) rfl ⟨al B _, .inl ⟨N0.out, _, rfl, OwnI.made _ B.size⟩⟩
  | true =>
    have P0 := Lib.hid (E0.out.1 rfl)
    go_wp2_with fail
    refine (H1.out _).mono ?_
    rintro e w2 ⟨rfl, hw⟩
    subst hw
    cases r1 with
    | false =>
      have N1 := Lib.hid (show ¬ ((0 ≤ n ∧ n ≤ 5000) ∧ (1 ≤ g ∧ g ≤ 5000)) from fun h => by have := E1.out.2 h.1; cases this)
      go_wp2
      exact bodyPost_ret (results_tmp3 Try.results38 _ _ _) rfl ⟨al B _, .inr (.inl ⟨P0.out, N1.out, _, rfl, OwnI.made _ B.size⟩)⟩
    | true =>
      have P1 := Lib.hid (E1.out.1 rfl)
      go_wp2_with fail
      refine (H2.out _).mono ?_
      rintro e w2 ⟨rfl, hw⟩
      subst hw
      cases r2 with
      | false =>
        have N1 := Lib.hid (show ¬ ((0 ≤ n ∧ n ≤ 5000) ∧ (1 ≤ g ∧ g ≤ 5000)) from fun h => by have := E2.out.2 h.2; cases this)
        go_wp2
        exact bodyPost_ret (results_tmp3 Try.results38 _ _ _) rfl ⟨al B _, .inr (.inl ⟨P0.out, N1.out, _, rfl, OwnI.made _ B.size⟩)⟩
      | true =>
        have P2 := Lib.hid (E2.out.1 rfl)
        have hg1 := P2.out.1
        have hg2 := P2.out.2
        go_wp2_with fail
        refine (H3.out _ _ P0.out P1.out X2.mixP).mono ?_
        rintro e w3 ⟨hb, rfl⟩
        replace B := nxt B hb
        have HF := Lib.hid (fun j (hj : j < 3) => needM_bd P0.out P1.out hj)
        obtain ⟨f, hf⟩ : ∃ f, f = needM m n := ⟨_, rfl⟩
        rw [← hf] at HF
        have X9 := (Bx.newAtI w3 w3.heap.size (mixC f) 44 rfl).alloc (.cells #[] 2)
        have O0 : OwnI ((w3.alloc (.cells (mixC f) 44)).alloc (.cells #[] 2)) (w3.heap.size + 1) (.slice (some ⟨w3.heap.size + 1, 0, none⟩) 0 0) [] := by
          have := OwnI.made (w3.alloc (.cells (mixC f) 44)) (base := w3.heap.size + 1) (by simp)
          rwa [World.size_alloc] at this
        have hb3 : w.heap.size ≤ w3.heap.size := B.size
        replace B := al (al B (.cells (mixC f) 44)) (.cells #[] 2)
        clear hb X2 H0 H1 H2 H3
        go_wp2
        rw [← hf]
        obtain ⟨W0, hW0⟩ : ∃ W0 : World, W0 = (w3.alloc (.cells (mixC f) 44)).alloc (.cells #[] 2) := ⟨_, rfl⟩
        simp only [mixC] at hW0
        rw [← hW0]
        have hW1 : (w3.alloc (.cells (mixC f) 44)).alloc (.cells #[] 2) = W0 := hW0.symm
        rw [hW1] at X9 O0 B
        clear hW0 hW1
        obtain ⟨b9, h9⟩ : ∃ b9, b9 = w3.heap.size := ⟨_, rfl⟩
        rw [← h9] at X9 O0 hb3 ⊢
        have HFN := Lib.hid hf
        clear h9 hf
        go_loopw [10, 11, 12, 13] (fun t10 t11 t12 t13 wr => ∃ k : Nat, k ≤ 3 ∧ t12 = .int .i64 k ∧ t11 = .int .i64 (sbK f g k) ∧ Below w.heap.size w wr ∧ Bx wr b9 (mixC f) 44 ∧ OwnI wr (b9 + 1) t10 (bgL f g k)) (fun t10 t11 t12 t13 wr => 3 - (intOf t12).toNat)
        case atStart => exact ⟨0, by omega, rfl, rfl, B, X9, O0⟩
        case round =>
          clear B X9 O0
          obtain ⟨k, hk, rfl, rfl, B, X9, O⟩ := hrel
          obtain ⟨v0, rfl⟩ : ∃ v0 : Value, v0 = u10 := ⟨_, rfl⟩
          by_cases hlt : k < 3
          · have hki : (k : Int) < 3 := by omega
            have hk0 : (0 : Int) ≤ (k : Int) := by omega
            have c9 := X9.mixAt hlt
            have hfb := HF.out k hlt
            have hub := upD_bd hfb.1 hg1
            have hsb := sbK_bd HF.out hg1 k hk
            have hst : sbK f g (k + 1) = sbK f g k + upD (f k) g := rfl
            obtain ⟨x, hx⟩ : ∃ x, x = f k := ⟨_, rfl⟩
            obtain ⟨d, hd⟩ : ∃ d, d = upD (f k) g := ⟨_, rfl⟩
            obtain ⟨s, hs⟩ : ∃ s, s = sbK f g k := ⟨_, rfl⟩
            rw [← hd, ← hs] at hst
            rw [← hd] at hub
            rw [← hs] at hsb ⊢
            rw [← hx] at c9 hfb hub
            have e1 : Int.tdiv (x + g - 1) g = d := by rw [Int.tdiv_eq_ediv_of_nonneg (by omega), hd, hx]; rfl
            have e2 : (x + g - 1) / g = d := by rw [hd, hx]; rfl
            have wx : IntKind.i64.wrap x = x := IntWalk.i64_in _ (by omega)
            have e3 : IntKind.i64.wrap d = d := IntWalk.i64_in _ (by omega)
            have e4 : wrap64 d = d := IntWalk.wrap64_in _ (by omega)
            have hsb2 : s + d ≤ 40000 := by omega
            have hlen : (bgL f g k).length ≤ 3 := by rw [bgL_length]; exact hk
            have HST := Lib.hid hst
            have HD := Lib.hid hd
            clear hst hx hd hs
            go_wp2_with (at_builtin; refine wpList_append_own _ rfl _ _ 61 rfl (b9 + 1) 2 i0 (.int .i64 0) 1 8 Try.underlying61 hi hz0 hz1 hz2 rfl (by decide) _ _ _ rfl (World.ownsRow.alloc O _) ⟨wr.heap.size, 0, none⟩ 1 1 [.int .i64 d] rfl rfl (ncells wr #[.int .i64 d] 2) one64 (by have := X9.lt; unfold maxLen; omega) (by have := X9.lt; omega) (by have := X9.lt; simp; omega) ?_; intro v' w1 own' hgr _)
            have B1 : Below w.heap.size w w1 := (al B _).grown hgr (al B _).size (fun k e => by have := (O.lt k e).1; omega)
            have Z9 : Bx w1 b9 (mixC f) 44 := (X9.alloc _).of_block (hgr.block _ (X9.alloc _).lt (fun e => by have := (O.lt _ e.symm).1; omega))
            have O1 := OwnI.snoc own'
            rw [HD.out, show bgL f g k ++ [upD (f k) g] = bgL f g (k + 1) from (bgL_succ f g k).symm] at O1
            clear own' hgr O B X9 c9
            go_wp2
            exact ⟨⟨k + 1, by omega, by first | go_num | simp, by rw [HST.out], B1, Z9, O1⟩, by simp [intOf]; omega⟩
          · obtain rfl : k = 3 := by omega
            have hO := Lib.hid (O.mono (show w.heap.size ≤ b9 + 1 by omega))
            go_wp2
            exact bodyPost_ret (results_tmp3 Try.results38 _ _ _) rfl ⟨B, .inr (.inr ⟨P0.out, ⟨P1.out, P2.out⟩, _, by rw [← HFN.out]; rfl, by rw [← HFN.out]; exact hO.out⟩)⟩
theorem implBags_any (m : Nat → Int) (n g : Int) (w : World) (h16 : In16 m) :
    Calls Try.prog 39 #[.agg #[.int .i16 (m 0), .int .i16 (m 1), .int .i16 (m 2)], .int .i64 n, .int .i64 g] w (BfPost m n g w) := by
  obtain ⟨i0, hi, hz0, hz1, hz2⟩ := info_parts infoI64
  obtain ⟨r2, e2⟩ := dec_ex (1 ≤ g ∧ g ≤ 5000)
  have H1 := Lib.hid (fun W => implMixFor_any m n W h16)
  have H2 := Lib.hid (fun W b hb => within1b g 1 5000 r2 W b hb e2)
  have H3 := Lib.hid (fun f W (h : In16 f) => numbersOf_any f W h)
  have E2 := Lib.hid e2
  have X2 := Bx.new w (mixC m) 44
  have B := al (Below.refl w.heap.size w) (.cells (mixC m) 44)
  clear e2 h16
  go_enter Try.func39, Try.ntmps39
  go_wp2_with fail
  refine (H1.out _).mono ?_
  rintro e w1 ⟨hb, h⟩
  replace B := nxt B hb
  clear hb X2 H1
  rcases h with ⟨h, rfl⟩ | ⟨h, h1, rfl⟩ | ⟨h, h1, rfl⟩
  · have N0 := Lib.hid h
    clear h
    go_wp2
    exact bodyPost_ret (results_tmp3 Try.results39 _ _ _) rfl ⟨al B _, .inl ⟨N0.out, _, rfl, OwnI.nil _ _⟩⟩
  · have P0 := Lib.hid h
    have N0 := Lib.hid (show ¬ ((0 ≤ n ∧ n ≤ 5000) ∧ (1 ≤ g ∧ g ≤ 5000)) from fun h => h1 h.1)
    clear h h1
    go_wp2
    exact bodyPost_ret (results_tmp3 Try.results39 _ _ _) rfl ⟨al B _, .inr (.inl ⟨P0.out, N0.out, _, rfl, OwnI.nil _ _⟩)⟩
  · have P0 := Lib.hid h
    have P1 := Lib.hid h1
    clear h h1
    have X9 := Bx.new w1 (mixC (needM m n)) 44
    have hb1 : w.heap.size ≤ w1.heap.size := B.size
    replace B := al B (.cells (mixC (needM m n)) 44)
    go_wp2_with fail
    refine (H2.out _ _ (by simp)).mono ?_
    rintro e w2 ⟨rfl, hb⟩
    replace X9 := X9.below hb
    replace B := nxt B hb
    obtain ⟨b9, h9⟩ : ∃ b9, b9 = w1.heap.size := ⟨_, rfl⟩
    rw [← h9] at X9 hb1 ⊢
    clear hb h9
    cases r2 with
    | false =>
      have N1 := Lib.hid (show ¬ ((0 ≤ n ∧ n ≤ 5000) ∧ (1 ≤ g ∧ g ≤ 5000)) from fun h => by have := E2.out.2 h.2; cases this)
      go_wp2
      exact bodyPost_ret (results_tmp3 Try.results39 _ _ _) rfl ⟨B, .inr (.inl ⟨P0.out, N1.out, _, rfl, OwnI.nil _ _⟩)⟩
    | true =>
      have P2 := Lib.hid (E2.out.1 rfl)
      have hg1 := P2.out.1
      have hg2 := P2.out.2
      have HF := Lib.hid (fun j (hj : j < 3) => needM_bd P0.out P1.out hj)
      have hf16 : In16 (needM m n) := fun j hj => by have := HF.out j hj; omega
      have HN := Lib.hid (fun W => H3.out (needM m n) W hf16)
      obtain ⟨c0, c1, c2⟩ := X9.mix3
      clear hf16 H3 H2
      go_wp2_with fail
      refine (HN.out _).mono ?_
      rintro e w3 ⟨hb, g3, rfl, hg3, HG⟩
      have hzw2 := B.size
      replace B := nxt B hb
      have hl3 := HG.lt
      clear hb X9 c0 c1 c2 HN
      obtain ⟨f, hf⟩ : ∃ f, f = needM m n := ⟨_, rfl⟩
      rw [← hf] at HF HG
      have HFN := Lib.hid hf
      have hg3w : w.heap.size ≤ g3 := by omega
      have hb3 : w.heap.size ≤ w3.heap.size := by omega
      go_wp2
      go_loopw [11, 12, 14, 15, 32] (fun t11 t12 t14 t15 t32 wr => ∃ k : Nat, k ≤ 3 ∧ t32 = .int .i64 k ∧ t12 = .int .i64 (sbK f g k) ∧ Below w.heap.size w wr ∧ Bx wr g3 (resC f) 2 ∧ OwnI wr (g3 + 1) t11 (bgL f g k)) (fun t11 t12 t14 t15 t32 wr => 3 - (intOf t32).toNat)
      case atStart => exact ⟨0, by omega, rfl, rfl, B, HG, OwnI.nil _ _⟩
      case round =>
        clear B HG
        obtain ⟨k, hk, rfl, rfl, B, HG, O⟩ := hrel
        obtain ⟨v0, rfl⟩ : ∃ v0 : Value, v0 = u11 := ⟨_, rfl⟩
        by_cases hlt : k < 3
        · have hki : (k : Int) < 3 := by omega
          have hk0 : (0 : Int) ≤ (k : Int) := by omega
          have c9 := HG.resAt hlt
          have hfb := HF.out k hlt
          have hub := upD_bd hfb.1 hg1
          have hsb := sbK_bd HF.out hg1 k hk
          have HR := Lib.hid (fun W => roundedUp_any (f k) g W ⟨hfb.1, by omega⟩ ⟨hg1, hg2⟩)
          have hst : sbK f g (k + 1) = sbK f g k + upD (f k) g := rfl
          obtain ⟨x, hx⟩ : ∃ x, x = f k := ⟨_, rfl⟩
          obtain ⟨d, hd⟩ : ∃ d, d = upD (f k) g := ⟨_, rfl⟩
          obtain ⟨s, hs⟩ : ∃ s, s = sbK f g k := ⟨_, rfl⟩
          rw [← hd, ← hs] at hst
          rw [← hd] at hub HR
          rw [← hs] at hsb ⊢
          rw [← hx] at c9 hfb hub HR
          have hsb2 : s + d ≤ 40000 := by omega
          have hlen : (bgL f g k).length ≤ 3 := by rw [bgL_length]; exact hk
          have HST := Lib.hid hst
          have HD := Lib.hid hd
          clear hst hx hd hs
          go_wp2_with fail
          refine (HR.out _).mono ?_
          rintro e w4 ⟨rfl, hw4⟩
          subst hw4
          go_wp2_with (at_builtin; refine wpList_append_own _ rfl _ _ 61 rfl (g3 + 1) 2 i0 (.int .i64 0) 1 8 Try.underlying61 hi hz0 hz1 hz2 rfl (by decide) _ _ _ rfl (World.ownsRow.alloc O _) ⟨w4.heap.size, 0, none⟩ 1 1 [.int .i64 d] rfl rfl (ncells w4 #[.int .i64 d] 2) one64 (by have := HG.lt; unfold maxLen; omega) (by have := HG.lt; omega) (by have := HG.lt; simp; omega) ?_; intro v' w1 own' hgr _)
          have B1 : Below w.heap.size w w1 := (al B _).grown hgr (al B _).size (fun k e => by have := (O.lt k e).1; omega)
          have Z9 : Bx w1 g3 (resC f) 2 := (HG.alloc _).of_block (hgr.block _ (HG.alloc _).lt (fun e => by have := (O.lt _ e.symm).1; omega))
          have O1 := OwnI.snoc own'
          rw [HD.out, show bgL f g k ++ [upD (f k) g] = bgL f g (k + 1) from (bgL_succ f g k).symm] at O1
          clear own' hgr O B HG c9
          go_wp2
          exact ⟨⟨k + 1, by omega, by first | go_num | simp, by rw [HST.out], B1, Z9, O1⟩, by simp [intOf]; omega⟩
        · obtain rfl : k = 3 := by omega
          have hO := Lib.hid (O.mono (show w.heap.size ≤ g3 + 1 by omega))
          go_wp2
          exact bodyPost_ret (results_tmp3 Try.results39 _ _ _) rfl ⟨B, .inr (.inr ⟨P0.out, ⟨P1.out, P2.out⟩, _, by rw [← HFN.out]; rfl, by rw [← HFN.out]; exact hO.out⟩)⟩
end Go.Proofs.Ytgpnimbgckajlaa
