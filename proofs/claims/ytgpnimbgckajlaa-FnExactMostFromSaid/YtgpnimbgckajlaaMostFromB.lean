/-
  Both sides of MostFrom answer the same; the walk of the law. Conditions stand at each.
-/
import Derived.Test.YtgpnimbgckajlaaRows
import Derived.Test.YtgpnimbgckajlaaBestI
import Derived.Test.YtgpnimbgckajlaaMixForB
import Derived.Test.YtgpnimbgckajlaaIv
namespace Go.Proofs.Ytgpnimbgckajlaa
open Go Go.ChangeShapes Go.WideShapes Go.ChangeAt Go.RowKit
set_option linter.unusedVariables false
set_option linter.unusedSimpArgs false
set_option maxRecDepth 100000
set_option maxHeartbeats 4000000
/-- what MostFrom answers. -/
def MsPost (m st : Nat → Int) (z : Int) (w : World) (e : Ending) (w' : World) : Prop :=
  Below w.heap.size w w' ∧ ((¬ MixOk m ∧ e = .returned (.tuple #[.int .i64 0, .int .i64 1])) ∨ (MixOk m ∧ ¬ StockOk st ∧ e = .returned (.tuple #[.int .i64 0, .int .i64 2])) ∨
    (MixOk m ∧ StockOk st ∧ e = .returned (.tuple #[.int .i64 z, .int .i64 0])))
theorem specMostFrom_any (m st : Nat → Int) (z : Int) (w : World) (h16 : In16 m) (hs16 : In16 st) (hz : MixOk m → StockOk st → MostAt m st z) :
    Calls Try.prog 31 #[.agg #[.int .i16 (m 0), .int .i16 (m 1), .int .i16 (m 2)], .agg #[.int .i16 (st 0), .int .i16 (st 1), .int .i16 (st 2)]] w (MsPost m st z w) := by
  obtain ⟨r0, e0⟩ := dec_ex (MixOk m)
  obtain ⟨r1, e1⟩ := dec_ex (StockOk st)
  have H0 := Lib.hid (fun b W (hb : MixP W b 0 m) => l07Mix_any b 0 m r0 W h16 hb e0)
  have H1 := Lib.hid (fun b W (hb : MixP W b 0 st) => l07Stock_any b st r1 W hs16 hb e1)
  have H2 := Lib.hid (fun b b' W hm hst (hb : MixP W b 0 m) (hb' : MixP W b' 0 st) => l07Most_any b 0 b' m st z W h16 hm hb hb' hst (hz hm hst))
  have E0 := Lib.hid e0
  have E1 := Lib.hid e1
  have X2 := (Bx.new w (mixC m) 44).alloc (.cells (mixC st) 44)
  have X3 := Bx.newAtI (w.alloc (.cells (mixC m) 44)) (w.heap.size + 1) (mixC st) 44 (by simp)
  have B := al (al (Below.refl w.heap.size w) (.cells (mixC m) 44)) (.cells (mixC st) 44)
  clear e0 e1 h16 hs16 hz
  go_enter Try.func31, Try.ntmps31
  go_wp2_with fail
  refine (H0.out _ _ X2.mixP).mono ?_
  rintro e w1 ⟨hb, rfl⟩
  replace X2 := X2.below hb
  replace X3 := X3.below hb
  replace B := nxt B hb
  clear hb
  cases r0 with
  | false =>
    have N0 := Lib.hid (show ¬ MixOk m from fun h => by have := E0.out.2 h; cases this)
    go_wp2
    exact bodyPost_ret (results_tmp2 Try.results31 _ _ _) rfl ⟨B, .inl ⟨N0.out, rfl⟩⟩
  | true =>
    have P0 := Lib.hid (E0.out.1 rfl)
    go_wp2_with fail
    refine (H1.out _ _ X3.mixP).mono ?_
    rintro e w2 ⟨hb, rfl⟩
    replace X2 := X2.below hb
    replace X3 := X3.below hb
    replace B := nxt B hb
    clear hb
    cases r1 with
    | false =>
      have N1 := Lib.hid (show ¬ StockOk st from fun h => by have := E1.out.2 h; cases this)
      go_wp2
      exact bodyPost_ret (results_tmp2 Try.results31 _ _ _) rfl ⟨B, .inr (.inl ⟨P0.out, N1.out, rfl⟩)⟩
    | true =>
      have P1 := Lib.hid (E1.out.1 rfl)
      go_wp2_with fail
      refine (H2.out _ _ _ P0.out P1.out X2.mixP X3.mixP).mono ?_
      rintro e w3 ⟨hb, rfl⟩
      replace B := nxt B hb
      clear hb X2 X3
      go_wp2
      exact bodyPost_ret (results_tmp2 Try.results31 _ _ _) rfl ⟨B, .inr (.inr ⟨P0.out, P1.out, rfl⟩)⟩
/-- a mix as a list of one. -/
def oneC (m : Nat → Int) : Nat → Int := fun j => if j < 3 then m j else 0
theorem mk3_one (m : Nat → Int) {j : Nat} (h : j < 3) : mk3 (oneC m) 0 j = m j := by
  unfold mk3 oneC
  rw [show 3 * 0 + j = j by omega, if_pos h]
theorem MixOk.cong {m o : Nat → Int} (h : MixOk m) (e : ∀ j, j < 3 → m j = o j) : MixOk o := by
  refine ⟨fun j hj => by rw [← e j hj]; exact h.1 j hj, ?_⟩
  have := h.2
  unfold sumM at this ⊢
  rw [← e 0 (by decide), ← e 1 (by decide), ← e 2 (by decide)]
  exact this
theorem needM_cong {m o : Nat → Int} (e : ∀ j, j < 3 → m j = o j) (hm : MixOk m) {n : Int} (hn : 0 ≤ n ∧ n ≤ 5000) : ∀ j, j < 3 → needM m n j = needM o n j := by
  have hs : sumM m = sumM o := by unfold sumM; rw [e 0 (by decide), e 1 (by decide), e 2 (by decide)]
  have hq : ∀ j, j < 3 → qL m n j = qL o n j := fun j hj => by unfold qL; rw [hs, e j hj]
  have hr : ∀ j, j < 3 → rL m n j = rL o n j := fun j hj => by unfold rL; rw [hs, e j hj]
  have hl : lackM m n = lackM o n := by unfold lackM; rw [hq 0 (by decide), hq 1 (by decide), hq 2 (by decide)]
  have key : ∀ (l : Nat) (a b r s : Nat → Int), (∀ j, j < 3 → a j = b j) → (∀ j, j < 3 → r j = s j) → ∀ j, j < 3 → fillZ (-1) l a r j = fillZ (-1) l b s j := by
    intro l
    induction l with
    | zero => exact fun a b r s h _ j hj => h j hj
    | succ l ih =>
      intro a b r s h1 h2 j hj
      simp only [fillZ]
      rw [h2 0 (by decide), h2 1 (by decide), h2 2 (by decide)]
      have h3 := bst_lt (s 0) (s 1) (s 2)
      refine ih _ _ _ _ (fun i hi => ?_) (fun i hi => ?_) j hj
      · unfold upd; rw [h1 _ h3, h1 i hi]
      · unfold upd; rw [h2 i hi]
  intro j hj
  unfold needM
  rw [hl]
  exact key _ _ _ _ _ hq hr j hj
theorem MostAt.cong {m o st : Nat → Int} {z : Int} (hm : MixOk m) (h : MostAt m st z) (e : ∀ j, j < 3 → m j = o j) : MostAt o st z := by
  refine ⟨h.1, fun j hj => by rw [← needM_cong e hm h.1 j hj]; exact h.2.1 j hj, fun y h1 h2 he => h.2.2 y h1 h2 fun j hj => ?_⟩
  rw [needM_cong e hm ⟨by have := h.1.1; omega, h2⟩ j hj]
  exact he j hj
theorem implMostFrom_any (m st : Nat → Int) (z : Int) (w : World) (h16 : In16 m) (hs16 : In16 st) (hz : MixOk m → StockOk st → MostAt m st z) :
    Calls Try.prog 32 #[.agg #[.int .i16 (m 0), .int .i16 (m 1), .int .i16 (m 2)], .agg #[.int .i16 (st 0), .int .i16 (st 1), .int .i16 (st 2)]] w (MsPost m st z w) := by
  have hall : AllMix 1 (oneC m) ↔ MixOk m := ⟨fun h => (h 0 (by decide)).cong (fun j hj => mk3_one m hj), fun h j hj => by
    obtain rfl : j = 0 := by omega
    exact h.cong (fun j hj => (mk3_one m hj).symm)⟩
  have hG : GOk 1 (oneC m) st (fun _ => z) := fun h1 h2 j hj => by
    obtain rfl : j = 0 := by omega
    exact (hz (hall.1 h1) h2).cong (hall.1 h1) (fun j hj => (mk3_one m hj).symm)
  have H := Lib.hid (fun W (b : Nat) (hb : Bx W b (mixC m) 44) => implBest_any (some ⟨b, 0, none⟩) 1 1 (oneC m) st (fun _ => z) W (by omega) (fun _ => ⟨b, 0, rfl, hb.lt, fun j hj => by
      rw [Nat.zero_add, hb.mixAt (by omega)]
      unfold oneC
      rw [if_pos (by omega)]⟩) (fun j => by
      unfold oneC
      split
      · exact h16 j (by assumption)
      · decide) hs16 hG)
  have HA := Lib.hid hall
  have X2 := ((Bx.new w (mixC m) 44).alloc (.cells (mixC st) 44))
  have B := al (al (al (Below.refl w.heap.size w) (.cells (mixC m) 44)) (.cells (mixC st) 44)) (.cells (mixC m) 44)
  have X4 := Bx.newAtI ((w.alloc (.cells (mixC m) 44)).alloc (.cells (mixC st) 44)) (w.heap.size + 1 + 1) (mixC m) 44 (by simp)
  clear hall hG h16 hs16 hz
  go_enter Try.func32, Try.ntmps32
  go_wp2_with fail
  refine (H.out _ _ X4).mono ?_
  rintro e w1 ⟨hb, h⟩
  replace B := nxt B hb
  clear hb X2 X4 H
  rcases h with ⟨h, rfl⟩ | ⟨h, h1, rfl⟩ | ⟨h, h1, h2, rfl⟩ | ⟨h, h1, h2, rfl⟩ | ⟨h, h1, h2, i, M, hf, hm, rfl⟩
  · have N0 := Lib.hid (fun hh => h (HA.out.2 hh))
    clear h
    go_wp2
    exact bodyPost_ret (results_tmp2 Try.results32 _ _ _) rfl ⟨B, .inl ⟨N0.out, rfl⟩⟩
  · omega
  · have P0 := Lib.hid (HA.out.1 h)
    have N0 := Lib.hid h2
    clear h h1 h2
    go_wp2
    exact bodyPost_ret (results_tmp2 Try.results32 _ _ _) rfl ⟨B, .inr (.inl ⟨P0.out, N0.out, rfl⟩)⟩
  · omega
  · have P0 := Lib.hid (HA.out.1 h)
    have P1 := Lib.hid h2
    have hM : M = z := hf.2.1.symm
    subst hM
    clear h h1 h2 hf hm
    go_wp2
    exact bodyPost_ret (results_tmp2 Try.results32 _ _ _) rfl ⟨B, .inr (.inr ⟨P0.out, P1.out, rfl⟩)⟩
theorem mostFrom_both (m st : Nat → Int) (h16 : In16 m) (hs16 : In16 st) : ∃ z c : Int,
    (∀ W, Calls Try.prog 31 #[.agg #[.int .i16 (m 0), .int .i16 (m 1), .int .i16 (m 2)], .agg #[.int .i16 (st 0), .int .i16 (st 1), .int .i16 (st 2)]] W fun e w' => Below W.heap.size W w' ∧ e = .returned (.tuple #[.int .i64 z, .int .i64 c])) ∧
    ∀ W, Calls Try.prog 32 #[.agg #[.int .i16 (m 0), .int .i16 (m 1), .int .i16 (m 2)], .agg #[.int .i16 (st 0), .int .i16 (st 1), .int .i16 (st 2)]] W fun e w' => Below W.heap.size W w' ∧ e = .returned (.tuple #[.int .i64 z, .int .i64 c]) := by
  by_cases h : MixOk m
  · by_cases h1 : StockOk st
    · obtain ⟨z, hz⟩ := mostAt_ex m st (fun j hj => (h1 j hj).1)
      refine ⟨z, 0, fun W => (specMostFrom_any m st z W h16 hs16 (fun _ _ => hz)).mono ?_, fun W => (implMostFrom_any m st z W h16 hs16 (fun _ _ => hz)).mono ?_⟩ <;>
      · rintro e w' ⟨hb, ⟨h', _⟩ | ⟨_, h', _⟩ | ⟨_, _, he⟩⟩
        · exact absurd h h'
        · exact absurd h1 h'
        · exact ⟨hb, he⟩
    · refine ⟨0, 2, fun W => (specMostFrom_any m st 0 W h16 hs16 (fun _ h' => absurd h' h1)).mono ?_, fun W => (implMostFrom_any m st 0 W h16 hs16 (fun _ h' => absurd h' h1)).mono ?_⟩ <;>
      · rintro e w' ⟨hb, ⟨h', _⟩ | ⟨_, _, he⟩ | ⟨_, h', _⟩⟩
        · exact absurd h h'
        · exact ⟨hb, he⟩
        · exact absurd h' h1
  · refine ⟨0, 1, fun W => (specMostFrom_any m st 0 W h16 hs16 (fun h' _ => absurd h' h)).mono ?_, fun W => (implMostFrom_any m st 0 W h16 hs16 (fun h' _ => absurd h' h)).mono ?_⟩ <;>
    · rintro e w' ⟨hb, ⟨_, he⟩ | ⟨h', _⟩ | ⟨h', _⟩⟩
      · exact ⟨hb, he⟩
      · exact absurd h' h
      · exact absurd h' h
namespace mostFrom
theorem mix_ex (a b d : Int) (ba : -32768 ≤ a ∧ a ≤ 32767) (bb : -32768 ≤ b ∧ b ≤ 32767) (bd : -32768 ≤ d ∧ d ≤ 32767) : ∃ m : Nat → Int, m 0 = a ∧ m 1 = b ∧ m 2 = d ∧ In16 m := by
  refine ⟨fun j => if j = 0 then a else if j = 1 then b else d, rfl, rfl, rfl, fun j hj => ?_⟩
  obtain rfl | rfl | rfl : j = 0 ∨ j = 1 ∨ j = 2 := by omega
  · exact ba
  · exact bb
  · exact bd
theorem walk (a b d a1 b1 d1 : Int) (w : World) (ba : -32768 ≤ a ∧ a ≤ 32767) (bb : -32768 ≤ b ∧ b ≤ 32767) (bd : -32768 ≤ d ∧ d ≤ 32767) (ba1 : -32768 ≤ a1 ∧ a1 ≤ 32767) (bb1 : -32768 ≤ b1 ∧ b1 ≤ 32767) (bd1 : -32768 ≤ d1 ∧ d1 ≤ 32767) :
    Calls Try.prog 9 #[.agg #[.int .i16 a, .int .i16 b, .int .i16 d], .agg #[.int .i16 a1, .int .i16 b1, .int .i16 d1]] w fun e w' => e = .returned (.bool true) ∧ Below w.heap.size w w' := by
  obtain ⟨m, rfl, rfl, rfl, h16⟩ := mix_ex a b d ba bb bd
  obtain ⟨st, rfl, rfl, rfl, hs16⟩ := mix_ex a1 b1 d1 ba1 bb1 bd1
  obtain ⟨z, c, hS, hI⟩ := mostFrom_both m st h16 hs16
  have HS := Lib.hid hS
  have HI := Lib.hid hI
  have HT := Lib.hid (fun m W => toMix_any m W)
  have hrr : (z != z) = false := by simp
  have hcc : (c != c) = false := by simp
  have X2 := (Bx.new w (mixC m) 42).alloc (.cells (mixC st) 42)
  have X3 := Bx.newAtI (w.alloc (.cells (mixC m) 42)) (w.heap.size + 1) (mixC st) 42 (by simp)
  have B := al (al (Below.refl w.heap.size w) (.cells (mixC m) 42)) (.cells (mixC st) 42)
  clear hS hI h16 hs16
  go_enter Try.func9, Try.ntmps9
  go_wp2
  obtain ⟨W0, hW0⟩ : ∃ W0 : World, W0 = (w.alloc (.cells (mixC m) 42)).alloc (.cells (mixC st) 42) := ⟨_, rfl⟩
  simp only [mixC] at hW0
  rw [← hW0]
  have hW1 : (w.alloc (.cells (mixC m) 42)).alloc (.cells (mixC st) 42) = W0 := hW0.symm
  rw [hW1] at X2 X3 B
  clear hW0 hW1
  obtain ⟨b2, h2⟩ : ∃ b2, b2 = w.heap.size := ⟨_, rfl⟩
  rw [← h2] at X2 X3 ⊢
  clear h2
  refine wp_region_held_drew (S := (fun w' : World => Bx w' b2 (mixC m) 42 ∧ Bx w' (b2 + 1) (mixC st) 42)) (by kernel_rfl) ⟨X2, X3⟩ (fun hHeld => ?_)
  replace B := B.drew
  replace X2 : Bx W0.drew b2 (mixC m) 42 := X2
  replace X3 : Bx W0.drew (b2 + 1) (mixC st) 42 := X3
  obtain ⟨wq, hwq⟩ : ∃ wq, W0.drew = wq := ⟨_, rfl⟩
  rw [hwq] at B X2 X3 hHeld ⊢
  clear hwq
  refine wpAnyH_take (i := 0) (oi := _) (v := .agg (mixC m)) rfl (by kernel_rfl) (by kernel_rfl) (by kernel_rfl) (fun _ _ _ h => h) (yields_box (by kernel_rfl) _ _ rfl b2 rfl (mixC m) 42 (fun _ hS => hS.1) _ Try.underlying42 rfl (by kernel_rfl)) (by assumption) ?_
  try simp only [List.getElem_toArray, List.getElem_cons_zero, List.getElem_cons_succ, Act.put, List.setIfInBounds_toArray, List.set_cons_zero, List.set_cons_succ]
  refine wpAnyH_take (i := 2) (oi := _) (v := .agg (mixC st)) rfl (by kernel_rfl) (by kernel_rfl) (by kernel_rfl) (fun _ _ _ h => h) (yields_box (by kernel_rfl) _ _ rfl (b2 + 1) rfl (mixC st) 42 (fun _ hS => hS.2) _ Try.underlying42 rfl (by kernel_rfl)) (by assumption) ?_
  try simp only [List.getElem_toArray, List.getElem_cons_zero, List.getElem_cons_succ, Act.put, List.setIfInBounds_toArray, List.set_cons_zero, List.set_cons_succ]
  refine wpAnyH_ready (rs := [1]) (by kernel_rfl) (by simp) ?_
  refine AllReadyH.cons (o := _) rfl (fun K hK => ?_) AllReadyH.nil
  go_simp
  refine (HT.out m _).mono ?_
  rintro e w3 ⟨hb, rfl⟩
  replace X2 := X2.below hb
  replace X3 := X3.below hb
  replace B := nxt B hb
  clear hb
  refine hK.out _ _ ⟨X2, X3⟩ (fun hHeld => ?_)
  clear hK K
  try simp only [List.getElem_toArray, List.getElem_cons_zero, List.getElem_cons_succ, Act.put, List.setIfInBounds_toArray, List.set_cons_zero, List.set_cons_succ]
  refine wpAnyH_ready (rs := [3]) (by kernel_rfl) (by simp) ?_
  refine AllReadyH.cons (o := _) rfl (fun K hK => ?_) AllReadyH.nil
  go_simp
  refine (HT.out st _).mono ?_
  rintro e w4 ⟨hb, rfl⟩
  replace X2 := X2.below hb
  replace X3 := X3.below hb
  replace B := nxt B hb
  clear hb
  refine hK.out _ _ ⟨X2, X3⟩ (fun hHeld => ?_)
  clear hK K
  try simp only [List.getElem_toArray, List.getElem_cons_zero, List.getElem_cons_succ, Act.put, List.setIfInBounds_toArray, List.set_cons_zero, List.set_cons_succ]
  refine wpAnyH_ready (rs := [4]) (by kernel_rfl) (by simp) ?_
  refine AllReadyH.cons (o := _) rfl (fun K hK => ?_) AllReadyH.nil
  go_simp
  refine (HS.out _).mono ?_
  rintro e w5 ⟨hb, rfl⟩
  replace X2 := X2.below hb
  replace X3 := X3.below hb
  replace B := nxt B hb
  clear hb
  refine hK.out _ _ ⟨X2, X3⟩ (fun hHeld => ?_)
  clear hK K
  try simp only [List.getElem_toArray, List.getElem_cons_zero, List.getElem_cons_succ, Act.put, List.setIfInBounds_toArray, List.set_cons_zero, List.set_cons_succ]
  refine wpAnyH_take (i := 5) (oi := _) (v := ?_) rfl (by kernel_rfl) (by kernel_rfl) (by kernel_rfl) (fun _ _ _ h => h) (Or.inl ⟨by kernel_rfl, ?_⟩) (by assumption) ?_
  rotate_left
  · intro w hSw; (try dsimp only at hSw); go_simp; first | done | with_reducible rfl
  try simp only [List.getElem_toArray, List.getElem_cons_zero, List.getElem_cons_succ, Act.put, List.setIfInBounds_toArray, List.set_cons_zero, List.set_cons_succ]
  refine wpAnyH_take (i := 6) (oi := _) (v := ?_) rfl (by kernel_rfl) (by kernel_rfl) (by kernel_rfl) (fun _ _ _ h => h) (Or.inl ⟨by kernel_rfl, ?_⟩) (by assumption) ?_
  rotate_left
  · intro w hSw; (try dsimp only at hSw); go_simp; first | done | with_reducible rfl
  try simp only [List.getElem_toArray, List.getElem_cons_zero, List.getElem_cons_succ, Act.put, List.setIfInBounds_toArray, List.set_cons_zero, List.set_cons_succ]
  refine wpAnyH_take (i := 7) (oi := _) (v := ?_) rfl (by kernel_rfl) (by kernel_rfl) (by kernel_rfl) (fun _ _ _ h => h) (Or.inl ⟨by kernel_rfl, ?_⟩) (by assumption) ?_
  rotate_left
  · intro w hSw; (try dsimp only at hSw); go_simp; first | done | with_reducible rfl
  try simp only [List.getElem_toArray, List.getElem_cons_zero, List.getElem_cons_succ, Act.put, List.setIfInBounds_toArray, List.set_cons_zero, List.set_cons_succ]
  refine wpAnyH_take (i := 8) (oi := _) (v := ?_) rfl (by kernel_rfl) (by kernel_rfl) (by kernel_rfl) (fun _ _ _ h => h) (Or.inl ⟨by kernel_rfl, ?_⟩) (by assumption) ?_
  rotate_left
  · intro w hSw; (try dsimp only at hSw); go_simp; first | done | with_reducible rfl
  try simp only [List.getElem_toArray, List.getElem_cons_zero, List.getElem_cons_succ, Act.put, List.setIfInBounds_toArray, List.set_cons_zero, List.set_cons_succ]
  refine wpAnyH_take (i := 9) (oi := _) (v := ?_) rfl (by kernel_rfl) (by kernel_rfl) (by kernel_rfl) (fun _ _ _ h => h) (Or.inl ⟨by kernel_rfl, ?_⟩) (by assumption) ?_
  rotate_left
  · intro w hSw; (try dsimp only at hSw); go_simp; first | done | with_reducible rfl
  try simp only [List.getElem_toArray, List.getElem_cons_zero, List.getElem_cons_succ, Act.put, List.setIfInBounds_toArray, List.set_cons_zero, List.set_cons_succ]
  refine wpAnyH_done (by kernel_rfl) ?_ _
  go_wp2
  refine wp_region_held_drew (S := (fun w' : World => Bx w' b2 (mixC m) 42 ∧ Bx w' (b2 + 1) (mixC st) 42)) (by kernel_rfl) ⟨X2, X3⟩ (fun hHeld => ?_)
  replace B := B.drew
  replace X2 : Bx w5.drew b2 (mixC m) 42 := X2
  replace X3 : Bx w5.drew (b2 + 1) (mixC st) 42 := X3
  obtain ⟨wq, hwq⟩ : ∃ wq, w5.drew = wq := ⟨_, rfl⟩
  rw [hwq] at B X2 X3 hHeld ⊢
  clear hwq
  refine wpAnyH_take (i := 0) (oi := _) (v := .agg (mixC m)) rfl (by kernel_rfl) (by kernel_rfl) (by kernel_rfl) (fun _ _ _ h => h) (yields_box (by kernel_rfl) _ _ rfl b2 rfl (mixC m) 42 (fun _ hS => hS.1) _ Try.underlying42 rfl (by kernel_rfl)) (by assumption) ?_
  try simp only [List.getElem_toArray, List.getElem_cons_zero, List.getElem_cons_succ, Act.put, List.setIfInBounds_toArray, List.set_cons_zero, List.set_cons_succ]
  refine wpAnyH_take (i := 2) (oi := _) (v := .agg (mixC st)) rfl (by kernel_rfl) (by kernel_rfl) (by kernel_rfl) (fun _ _ _ h => h) (yields_box (by kernel_rfl) _ _ rfl (b2 + 1) rfl (mixC st) 42 (fun _ hS => hS.2) _ Try.underlying42 rfl (by kernel_rfl)) (by assumption) ?_
  try simp only [List.getElem_toArray, List.getElem_cons_zero, List.getElem_cons_succ, Act.put, List.setIfInBounds_toArray, List.set_cons_zero, List.set_cons_succ]
  refine wpAnyH_ready (rs := [1]) (by kernel_rfl) (by simp) ?_
  refine AllReadyH.cons (o := _) rfl (fun K hK => ?_) AllReadyH.nil
  go_simp
  refine (HT.out m _).mono ?_
  rintro e w6 ⟨hb, rfl⟩
  replace X2 := X2.below hb
  replace X3 := X3.below hb
  replace B := nxt B hb
  clear hb
  refine hK.out _ _ ⟨X2, X3⟩ (fun hHeld => ?_)
  clear hK K
  try simp only [List.getElem_toArray, List.getElem_cons_zero, List.getElem_cons_succ, Act.put, List.setIfInBounds_toArray, List.set_cons_zero, List.set_cons_succ]
  refine wpAnyH_ready (rs := [3]) (by kernel_rfl) (by simp) ?_
  refine AllReadyH.cons (o := _) rfl (fun K hK => ?_) AllReadyH.nil
  go_simp
  refine (HT.out st _).mono ?_
  rintro e w7 ⟨hb, rfl⟩
  replace X2 := X2.below hb
  replace X3 := X3.below hb
  replace B := nxt B hb
  clear hb
  refine hK.out _ _ ⟨X2, X3⟩ (fun hHeld => ?_)
  clear hK K
  try simp only [List.getElem_toArray, List.getElem_cons_zero, List.getElem_cons_succ, Act.put, List.setIfInBounds_toArray, List.set_cons_zero, List.set_cons_succ]
  refine wpAnyH_ready (rs := [4]) (by kernel_rfl) (by simp) ?_
  refine AllReadyH.cons (o := _) rfl (fun K hK => ?_) AllReadyH.nil
  go_simp
  refine (HI.out _).mono ?_
  rintro e w8 ⟨hb, rfl⟩
  replace X2 := X2.below hb
  replace X3 := X3.below hb
  replace B := nxt B hb
  clear hb
  refine hK.out _ _ ⟨X2, X3⟩ (fun hHeld => ?_)
  clear hK K
  try simp only [List.getElem_toArray, List.getElem_cons_zero, List.getElem_cons_succ, Act.put, List.setIfInBounds_toArray, List.set_cons_zero, List.set_cons_succ]
  refine wpAnyH_take (i := 5) (oi := _) (v := ?_) rfl (by kernel_rfl) (by kernel_rfl) (by kernel_rfl) (fun _ _ _ h => h) (Or.inl ⟨by kernel_rfl, ?_⟩) (by assumption) ?_
  rotate_left
  · intro w hSw; (try dsimp only at hSw); go_simp; first | done | with_reducible rfl
  try simp only [List.getElem_toArray, List.getElem_cons_zero, List.getElem_cons_succ, Act.put, List.setIfInBounds_toArray, List.set_cons_zero, List.set_cons_succ]
  refine wpAnyH_take (i := 6) (oi := _) (v := ?_) rfl (by kernel_rfl) (by kernel_rfl) (by kernel_rfl) (fun _ _ _ h => h) (Or.inl ⟨by kernel_rfl, ?_⟩) (by assumption) ?_
  rotate_left
  · intro w hSw; (try dsimp only at hSw); go_simp; first | done | with_reducible rfl
  try simp only [List.getElem_toArray, List.getElem_cons_zero, List.getElem_cons_succ, Act.put, List.setIfInBounds_toArray, List.set_cons_zero, List.set_cons_succ]
  refine wpAnyH_take (i := 7) (oi := _) (v := ?_) rfl (by kernel_rfl) (by kernel_rfl) (by kernel_rfl) (fun _ _ _ h => h) (Or.inl ⟨by kernel_rfl, ?_⟩) (by assumption) ?_
  rotate_left
  · intro w hSw; (try dsimp only at hSw); go_simp; first | done | with_reducible rfl
  try simp only [List.getElem_toArray, List.getElem_cons_zero, List.getElem_cons_succ, Act.put, List.setIfInBounds_toArray, List.set_cons_zero, List.set_cons_succ]
  refine wpAnyH_take (i := 8) (oi := _) (v := ?_) rfl (by kernel_rfl) (by kernel_rfl) (by kernel_rfl) (fun _ _ _ h => h) (Or.inl ⟨by kernel_rfl, ?_⟩) (by assumption) ?_
  rotate_left
  · intro w hSw; (try dsimp only at hSw); go_simp; first | done | with_reducible rfl
  try simp only [List.getElem_toArray, List.getElem_cons_zero, List.getElem_cons_succ, Act.put, List.setIfInBounds_toArray, List.set_cons_zero, List.set_cons_succ]
  refine wpAnyH_take (i := 9) (oi := _) (v := ?_) rfl (by kernel_rfl) (by kernel_rfl) (by kernel_rfl) (fun _ _ _ h => h) (Or.inl ⟨by kernel_rfl, ?_⟩) (by assumption) ?_
  rotate_left
  · intro w hSw; (try dsimp only at hSw); go_simp; first | done | with_reducible rfl
  try simp only [List.getElem_toArray, List.getElem_cons_zero, List.getElem_cons_succ, Act.put, List.setIfInBounds_toArray, List.set_cons_zero, List.set_cons_succ]
  refine wpAnyH_done (by kernel_rfl) ?_ _
  go_wp2
  go_ret
  exact ⟨rfl, B⟩
end mostFrom
end Go.Proofs.Ytgpnimbgckajlaa
