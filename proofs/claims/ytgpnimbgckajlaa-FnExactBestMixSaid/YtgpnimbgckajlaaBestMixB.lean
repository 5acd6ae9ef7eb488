/-
  Both sides of BestMix answer the same; the walk of the law. Conditions stand at each.
-/
import Derived.Test.YtgpnimbgckajlaaRows
import Derived.Test.YtgpnimbgckajlaaMixL
import Derived.Test.YtgpnimbgckajlaaIv
namespace Go.Proofs.Ytgpnimbgckajlaa.bestMix
open Go Go.ChangeShapes Go.WideShapes Go.ChangeAt Go.RowKit
set_option linter.unusedVariables false
set_option linter.unusedSimpArgs false
set_option maxRecDepth 100000
set_option maxHeartbeats 4000000
theorem g_ex (n : Nat) (c st : Nat → Int) : ∃ G, GOk n c st G := by
  by_cases hs : StockOk st
  · refine ⟨fun j => Classical.choose (mostAt_ex (mk3 c j) st (fun j hj => (hs j hj).1)), fun _ _ j _ => Classical.choose_spec (mostAt_ex (mk3 c j) st (fun j hj => (hs j hj).1))⟩
  · exact ⟨fun _ => 0, fun _ h => absurd h hs⟩
theorem both (n : Nat) (c st : Nat → Int) (hn : n ≤ 1048576) (hc : ∀ j, -32768 ≤ c j ∧ c j ≤ 32767) (hs16 : In16 st) : ∃ x y z : Int,
    (∀ (W : World) (g : Nat), Am W g n c → Calls Try.prog 34 #[.slice (some ⟨g, 0, none⟩) n n, .agg #[.int .i16 (st 0), .int .i16 (st 1), .int .i16 (st 2)]] W fun e w' => Below W.heap.size W w' ∧ e = .returned (.tuple #[.int .i64 x, .int .i64 y, .int .i64 z])) ∧
    ∀ (W : World) (g : Nat), Am W g n c → Calls Try.prog 36 #[.slice (some ⟨g, 0, none⟩) n n, .agg #[.int .i16 (st 0), .int .i16 (st 1), .int .i16 (st 2)]] W fun e w' => Below W.heap.size W w' ∧ e = .returned (.tuple #[.int .i64 x, .int .i64 y, .int .i64 z]) := by
  obtain ⟨G, hG⟩ := g_ex n c st
  have S := fun (W : World) (g : Nat) (h : Am W g n c) => specBest_any (some ⟨g, 0, none⟩) n n c st G W hn h.rd hc hs16 hG
  have I := fun (W : World) (g : Nat) (h : Am W g n c) => implBest_any (some ⟨g, 0, none⟩) n n c st G W hn h.rd hc hs16 hG
  have key : ∃ x y z : Int, ∀ (W : World) (e : Ending) (w' : World), BmPost n c st G W e w' → Below W.heap.size W w' ∧ e = .returned (.tuple #[.int .i64 x, .int .i64 y, .int .i64 z]) := by
    by_cases h : AllMix n c
    · by_cases h20 : 20 < n
      · refine ⟨0, 0, 3, ?_⟩
        rintro W e w' ⟨hb, ⟨h', _⟩ | ⟨_, _, he⟩ | ⟨_, h', _⟩ | ⟨_, _, h', _⟩ | ⟨_, h', _⟩⟩
        · exact absurd h h'
        · exact ⟨hb, he⟩
        · omega
        · omega
        · omega
      · by_cases hs : StockOk st
        · by_cases h0 : n = 0
          · refine ⟨0, 0, 6, ?_⟩
            rintro W e w' ⟨hb, ⟨h', _⟩ | ⟨_, h', _⟩ | ⟨_, _, h', _⟩ | ⟨_, _, _, he⟩ | ⟨_, h', _⟩⟩
            · exact absurd h h'
            · omega
            · exact absurd hs h'
            · exact ⟨hb, he⟩
            · omega
          · have hmx : ∃ M, MaxAt G n M := by
              have : ∀ k, 0 < k → ∃ M, MaxAt G k M := by
                intro k
                induction k with
                | zero => intro h; omega
                | succ k ih =>
                  intro _
                  by_cases hk : k = 0
                  · subst hk
                    exact ⟨G 0, ⟨0, by omega, rfl⟩, fun j hj => by rw [show j = 0 by omega]; exact Int.le_refl _⟩
                  · obtain ⟨M, ⟨i, hi, e⟩, hle⟩ := ih (by omega)
                    by_cases hg : M < G k
                    · exact ⟨G k, ⟨k, by omega, rfl⟩, fun j hj => by
                        by_cases ej : j = k
                        · rw [ej]; exact Int.le_refl _
                        · have := hle j (by omega); omega⟩
                    · exact ⟨M, ⟨i, by omega, e⟩, fun j hj => by
                        by_cases ej : j = k
                        · rw [ej]; omega
                        · exact hle j (by omega)⟩
              exact this n (by omega)
            obtain ⟨M, hM⟩ := hmx
            obtain ⟨i, hi⟩ := firstAt_ex G M n hM.1
            refine ⟨i, M, 0, ?_⟩
            rintro W e w' ⟨hb, ⟨h', _⟩ | ⟨_, h', _⟩ | ⟨_, _, h', _⟩ | ⟨_, _, h', _⟩ | ⟨_, _, _, i', M', hf, hm, he⟩⟩
            · exact absurd h h'
            · omega
            · exact absurd hs h'
            · exact absurd h' h0
            · have e1 : M' = M := by
                obtain ⟨⟨a, ha, ea⟩, hle⟩ := hM
                obtain ⟨⟨b, hb', eb⟩, hle'⟩ := hm
                have := hle b hb'
                have := hle' a ha
                omega
              subst e1
              have e2 : i' = i := hf.one hi
              subst e2
              exact ⟨hb, he⟩
        · refine ⟨0, 0, 2, ?_⟩
          rintro W e w' ⟨hb, ⟨h', _⟩ | ⟨_, h', _⟩ | ⟨_, _, _, he⟩ | ⟨_, h', _⟩ | ⟨_, _, h', _⟩⟩
          · exact absurd h h'
          · omega
          · exact ⟨hb, he⟩
          · exact absurd h' hs
          · exact absurd h' hs
    · refine ⟨0, 0, 1, ?_⟩
      rintro W e w' ⟨hb, ⟨_, he⟩ | ⟨h', _⟩ | ⟨h', _⟩ | ⟨h', _⟩ | ⟨h', _⟩⟩
      · exact ⟨hb, he⟩
      all_goals exact absurd h' h
  obtain ⟨x, y, z, hk⟩ := key
  exact ⟨x, y, z, fun W g h => (S W g h).mono fun e w' => hk W e w', fun W g h => (I W g h).mono fun e w' => hk W e w'⟩
theorem big (A : Option Addr) (n ca : Nat) (c : Nat → Int) (st : Nat → Int) (w : World) (hn : 1048576 < n) (hm : n ≤ 9223372036854775807) :
    Calls Try.prog 10 #[.slice A n ca, .agg #[.int .i16 (st 0), .int .i16 (st 1), .int .i16 (st 2)]] w fun e w' => e = .returned (.bool true) ∧ Below w.heap.size w w' := by
  have B := al (Below.refl w.heap.size w) (.cells (mixC st) 42)
  go_enter Try.func10, Try.ntmps10
  go_wp2_with fail
  refine (szMixS_big A n ca 1048576 _ (by omega) (by omega) (by omega) hm).mono ?_
  rintro e w1 ⟨rfl, rfl⟩
  go_wp2
  go_ret
  exact ⟨rfl, B⟩
theorem walk (A : Option Addr) (n ca : Nat) (c : Nat → Int) (a b d : Int) (w : World) (hm : n ≤ 9223372036854775807) (hr : RdK .i16 w w.heap.size A (3 * n) c) (hc : ∀ j, -32768 ≤ c j ∧ c j ≤ 32767) (ba : -32768 ≤ a ∧ a ≤ 32767) (bb : -32768 ≤ b ∧ b ≤ 32767) (bd : -32768 ≤ d ∧ d ≤ 32767) :
    Calls Try.prog 10 #[.slice A n ca, .agg #[.int .i16 a, .int .i16 b, .int .i16 d]] w fun e w' => e = .returned (.bool true) ∧ Below w.heap.size w w' := by
  obtain ⟨st, rfl, rfl, rfl, hs16⟩ : ∃ m : Nat → Int, m 0 = a ∧ m 1 = b ∧ m 2 = d ∧ In16 m := by
    refine ⟨fun j => if j = 0 then a else if j = 1 then b else d, rfl, rfl, rfl, fun j hj => ?_⟩
    obtain rfl | rfl | rfl : j = 0 ∨ j = 1 ∨ j = 2 := by omega
    · exact ba
    · exact bb
    · exact bd
  by_cases hn : 1048576 < n
  · exact big A n ca c st w hn hm
  obtain ⟨x, y, z, hS, hI⟩ := both n c st (by omega) hc hs16
  have HS := Lib.hid hS
  have HI := Lib.hid hI
  have HT := Lib.hid (fun m W => toMix_any m W)
  have HR := Lib.hid hr
  have hz0 : 0 ≤ 1048576 - (n : Int) := by omega
  have hxx : (x != x) = false := by simp
  have hyy : (y != y) = false := by simp
  have hzz : (z != z) = false := by simp
  have X3 := Bx.new w (mixC st) 42
  have B := al (Below.refl w.heap.size w) (.cells (mixC st) 42)
  clear hS hI hs16 hr hc
  go_enter Try.func10, Try.ntmps10
  go_wp2_with fail
  refine (szMixS_ok A n ca 1048576 _ (by omega) (by omega) (by omega)).mono ?_
  rintro e w1 ⟨rfl, hw1⟩
  subst hw1
  go_wp2
  obtain ⟨W0, hW0⟩ : ∃ W0 : World, W0 = w.alloc (.cells (mixC st) 42) := ⟨_, rfl⟩
  simp only [mixC] at hW0
  rw [← hW0]
  have hW1 : w.alloc (.cells (mixC st) 42) = W0 := hW0.symm
  rw [hW1] at X3 B
  clear hW0 hW1
  obtain ⟨b3, h3⟩ : ∃ b3, b3 = w.heap.size := ⟨_, rfl⟩
  rw [← h3] at X3 ⊢
  clear h3
  refine wp_region_held_drew (S := (fun w' : World => Bx w' b3 (mixC st) 42)) (by kernel_rfl) X3 (fun hHeld => ?_)
  replace B := B.drew
  replace X3 : Bx W0.drew b3 (mixC st) 42 := X3
  obtain ⟨wq, hwq⟩ : ∃ wq, W0.drew = wq := ⟨_, rfl⟩
  rw [hwq] at B X3 hHeld ⊢
  clear hwq
  refine wpAnyH_take (i := 0) (oi := _) (v := ?_) rfl (by kernel_rfl) (by kernel_rfl) (by kernel_rfl) (fun _ _ _ h => h) (Or.inl ⟨by kernel_rfl, ?_⟩) (by assumption) ?_
  rotate_left
  · intro w hSw; (try dsimp only at hSw); go_simp; first | done | with_reducible rfl
  try simp only [List.getElem_toArray, List.getElem_cons_zero, List.getElem_cons_succ, Act.put, List.setIfInBounds_toArray, List.set_cons_zero, List.set_cons_succ]
  refine wpAnyH_take (i := 2) (oi := _) (v := .agg (mixC st)) rfl (by kernel_rfl) (by kernel_rfl) (by kernel_rfl) (fun _ _ _ h => h) (yields_box (by kernel_rfl) _ _ rfl b3 rfl (mixC st) 42 (fun _ hS => hS) _ Try.underlying42 rfl (by kernel_rfl)) (by assumption) ?_
  try simp only [List.getElem_toArray, List.getElem_cons_zero, List.getElem_cons_succ, Act.put, List.setIfInBounds_toArray, List.set_cons_zero, List.set_cons_succ]
  refine wpAnyH_ready (rs := [1]) (by kernel_rfl) (by simp) ?_
  refine AllReadyH.cons (o := _) rfl (fun K hK => ?_) AllReadyH.nil
  go_simp
  refine (toMixS_any A n ca w.heap.size c _ (by omega) B.size (HR.out.below B)).mono ?_
  rintro e w3 ⟨g, rfl, hg, hb, R⟩
  replace X3 := X3.below hb
  replace B := nxt B hb
  clear hb hg
  refine hK.out _ _ X3 (fun hHeld => ?_)
  clear hK K
  try simp only [List.getElem_toArray, List.getElem_cons_zero, List.getElem_cons_succ, Act.put, List.setIfInBounds_toArray, List.set_cons_zero, List.set_cons_succ]
  refine wpAnyH_ready (rs := [3]) (by kernel_rfl) (by simp) ?_
  refine AllReadyH.cons (o := _) rfl (fun K hK => ?_) AllReadyH.nil
  go_simp
  refine (HT.out st _).mono ?_
  rintro e w4 ⟨hb, rfl⟩
  replace R := R.below hb
  replace X3 := X3.below hb
  replace B := nxt B hb
  clear hb
  refine hK.out _ _ X3 (fun hHeld => ?_)
  clear hK K
  try simp only [List.getElem_toArray, List.getElem_cons_zero, List.getElem_cons_succ, Act.put, List.setIfInBounds_toArray, List.set_cons_zero, List.set_cons_succ]
  refine wpAnyH_ready (rs := [4]) (by kernel_rfl) (by simp) ?_
  refine AllReadyH.cons (o := _) rfl (fun K hK => ?_) AllReadyH.nil
  go_simp
  refine (HS.out _ g R).mono ?_
  rintro e w5 ⟨hb, rfl⟩
  replace X3 := X3.below hb
  replace B := nxt B hb
  clear hb R
  refine hK.out _ _ X3 (fun hHeld => ?_)
  clear hK K
  try simp only [List.getElem_toArray, List.getElem_cons_zero, List.getElem_cons_succ, Act.put, List.setIfInBounds_toArray, List.set_cons_zero, List.set_cons_succ]
  refine wpAnyH_take (i := 5) (oi := _) (v := ?_) rfl (by kernel_rfl) (by kernel_rfl) (by kernel_rfl) (fun _ _ _ h => h) (Or.inl ⟨by kernel_rfl, ?_⟩) (by assumption) ?_
  rotate_left
  · intro w hSw; (try dsimp only at hSw); go_simp; first | done | with_reducible rfl
  try simp only [List.getElem_toArray, List.getElem_cons_zero, List.getElem_cons_succ, Act.put, List.setIfInBounds_toArray, List.set_cons_zero, List.set_cons_succ]
  refine wpAnyH_take (i := 6) (oi := _) (v := ?_) rfl (by kernel_rfl) (by kernel_rfl) (by kernel_rfl) (fun _ _ _ h => h) (Or.inl ⟨by kernel_rfl, ?_⟩) (by assumption) ?_
  rotate_left
  · intro w hSw; (try dsimp only at hSw); go_simp; first | done | with_reducible rfl
  try simp only [List.getElem_toArray, List.getElem_cons_zero, List.getElem_cons_succ, Act.put, List.setIfInBounds_toArray, List.set_cons_zero, List.set_cons_succ]
  refine wpAnyH_take (i := 7) (oi := _) (v := ?_) rfl (by kernel_rfl) (by kernel_rfl) (by kernel_rfl) (fun _ _ _ h => h) (Or.inl ⟨by kernel_rfl, ?_⟩) (by assumption) ?_
  rotate_left
  · intro w hSw; (try dsimp only at hSw); go_simp; first | done | with_reducible rfl
  try simp only [List.getElem_toArray, List.getElem_cons_zero, List.getElem_cons_succ, Act.put, List.setIfInBounds_toArray, List.set_cons_zero, List.set_cons_succ]
  refine wpAnyH_take (i := 8) (oi := _) (v := ?_) rfl (by kernel_rfl) (by kernel_rfl) (by kernel_rfl) (fun _ _ _ h => h) (Or.inl ⟨by kernel_rfl, ?_⟩) (by assumption) ?_
  rotate_left
  · intro w hSw; (try dsimp only at hSw); go_simp; first | done | with_reducible rfl
  try simp only [List.getElem_toArray, List.getElem_cons_zero, List.getElem_cons_succ, Act.put, List.setIfInBounds_toArray, List.set_cons_zero, List.set_cons_succ]
  refine wpAnyH_take (i := 9) (oi := _) (v := ?_) rfl (by kernel_rfl) (by kernel_rfl) (by kernel_rfl) (fun _ _ _ h => h) (Or.inl ⟨by kernel_rfl, ?_⟩) (by assumption) ?_
  rotate_left
  · intro w hSw; (try dsimp only at hSw); go_simp; first | done | with_reducible rfl
  try simp only [List.getElem_toArray, List.getElem_cons_zero, List.getElem_cons_succ, Act.put, List.setIfInBounds_toArray, List.set_cons_zero, List.set_cons_succ]
  refine wpAnyH_take (i := 10) (oi := _) (v := ?_) rfl (by kernel_rfl) (by kernel_rfl) (by kernel_rfl) (fun _ _ _ h => h) (Or.inl ⟨by kernel_rfl, ?_⟩) (by assumption) ?_
  rotate_left
  · intro w hSw; (try dsimp only at hSw); go_simp; first | done | with_reducible rfl
  try simp only [List.getElem_toArray, List.getElem_cons_zero, List.getElem_cons_succ, Act.put, List.setIfInBounds_toArray, List.set_cons_zero, List.set_cons_succ]
  refine wpAnyH_take (i := 11) (oi := _) (v := ?_) rfl (by kernel_rfl) (by kernel_rfl) (by kernel_rfl) (fun _ _ _ h => h) (Or.inl ⟨by kernel_rfl, ?_⟩) (by assumption) ?_
  rotate_left
  · intro w hSw; (try dsimp only at hSw); go_simp; first | done | with_reducible rfl
  try simp only [List.getElem_toArray, List.getElem_cons_zero, List.getElem_cons_succ, Act.put, List.setIfInBounds_toArray, List.set_cons_zero, List.set_cons_succ]
  refine wpAnyH_done (by kernel_rfl) ?_ _
  clear hHeld
  go_wp2_with fail
  refine (toMixS_any A n ca w.heap.size c _ (by omega) B.size (HR.out.below B)).mono ?_
  rintro e w6 ⟨g7, rfl, hg, hb, R7⟩
  replace X3 := X3.below hb
  replace B := nxt B hb
  clear hb hg
  obtain ⟨c0, c1, c2⟩ := X3.mix3
  go_wp2_with fail
  refine (HT.out st _).mono ?_
  rintro e w7 ⟨hb, rfl⟩
  replace R7 := R7.below hb
  replace B := nxt B hb
  clear hb X3 c0 c1 c2
  go_wp2_with fail
  refine (HI.out _ g7 R7).mono ?_
  rintro e w8 ⟨hb, rfl⟩
  replace R7 := R7.below hb
  replace B := nxt B hb
  clear hb
  go_wp2_with fail
  refine (toMixS_any A n ca w.heap.size c _ (by omega) B.size (HR.out.below B)).mono ?_
  rintro e w9 ⟨g9, rfl, hg, hb, R9⟩
  replace R7 := R7.below hb
  replace B := nxt B hb
  clear hb hg
  go_wp2_with fail
  refine (eqMixS_any (some ⟨g7, 0, none⟩) (some ⟨g9, 0, none⟩) n n n _ c _ (by omega) (Nat.le_refl _) R7.rd R9.rd).mono ?_
  rintro e w10 ⟨rfl, hb⟩
  replace B := nxt B hb
  clear hb R7 R9
  go_wp2
  go_ret
  exact ⟨rfl, B⟩
end Go.Proofs.Ytgpnimbgckajlaa.bestMix
