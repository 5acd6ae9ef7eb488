/-
  The walk of the law FnExactBagsFor. Conditions stand at each.
-/
import Derived.Test.YtgpnimbgckajlaaRows
import Derived.Test.YtgpnimbgckajlaaBagS
namespace Go.Proofs.Ytgpnimbgckajlaa.bagsFor
open Go Go.ChangeShapes Go.WideShapes Go.ChangeAt Go.RowKit
set_option linter.unusedVariables false
set_option linter.unusedSimpArgs false
set_option maxRecDepth 100000
set_option maxHeartbeats 4000000
theorem both (m : Nat → Int) (n g : Int) (h16 : In16 m) : ∃ (z1 z2 : Int) (nn : Nat) (ff : Nat → Int), nn ≤ 1000 ∧
    (∀ W, Calls Try.prog 38 #[.agg #[.int .i16 (m 0), .int .i16 (m 1), .int .i16 (m 2)], .int .i64 n, .int .i64 g] W fun e w' => Below W.heap.size W w' ∧ ∃ v, e = .returned (.tuple #[v, .int .i64 z1, .int .i64 z2]) ∧ HasSlice .i64 1 w' W.heap.size v nn ff) ∧
    ∀ W, Calls Try.prog 39 #[.agg #[.int .i16 (m 0), .int .i16 (m 1), .int .i16 (m 2)], .int .i64 n, .int .i64 g] W fun e w' => Below W.heap.size W w' ∧ ∃ v, e = .returned (.tuple #[v, .int .i64 z1, .int .i64 z2]) ∧ HasSlice .i64 1 w' W.heap.size v nn ff := by
  have S := fun W => specBags_any m n g W h16
  have I := fun W => implBags_any m n g W h16
  have key : ∃ (z1 z2 : Int) (L : List Int), L.length ≤ 1000 ∧ ∀ (W : World) (e : Ending) (w' : World), BfPost m n g W e w' → Below W.heap.size W w' ∧ ∃ v, e = .returned (.tuple #[v, .int .i64 z1, .int .i64 z2]) ∧ OwnI w' W.heap.size v L := by
    by_cases h : MixOk m
    · by_cases h1 : (0 ≤ n ∧ n ≤ 5000) ∧ (1 ≤ g ∧ g ≤ 5000)
      · refine ⟨sbK (needM m n) g 3, 0, bgL (needM m n) g 3, by rw [bgL_length]; decide, ?_⟩
        rintro W e w' ⟨hb, ⟨h', _⟩ | ⟨_, h', _⟩ | ⟨_, _, v, he, ho⟩⟩
        · exact absurd h h'
        · exact absurd h1 h'
        · exact ⟨hb, v, he, ho⟩
      · refine ⟨0, 2, [], by decide, ?_⟩
        rintro W e w' ⟨hb, ⟨h', _⟩ | ⟨_, _, v, he, ho⟩ | ⟨_, h', _⟩⟩
        · exact absurd h h'
        · exact ⟨hb, v, he, ho⟩
        · exact absurd h' h1
    · refine ⟨0, 1, [], by decide, ?_⟩
      rintro W e w' ⟨hb, ⟨_, v, he, ho⟩ | ⟨h', _⟩ | ⟨h', _⟩⟩
      · exact ⟨hb, v, he, ho⟩
      · exact absurd h' h
      · exact absurd h' h
  obtain ⟨z1, z2, L, hL, hk⟩ := key
  refine ⟨z1, z2, L.length, fun j => L.getD j 0, hL, fun W => (S W).mono fun e w' h => ?_, fun W => (I W).mono fun e w' h => ?_⟩
  all_goals
    obtain ⟨hb, v, he, ho⟩ := hk W e w' h
    exact ⟨hb, v, he, ho.has⟩
theorem walk (a b d n g : Int) (w : World) (ba : -32768 ≤ a ∧ a ≤ 32767) (bb : -32768 ≤ b ∧ b ≤ 32767) (bd : -32768 ≤ d ∧ d ≤ 32767) (bn : (Lit.int .i64 n).wf = true) (bg : (Lit.int .i64 g).wf = true) :
    Calls Try.prog 11 #[.agg #[.int .i16 a, .int .i16 b, .int .i16 d], .int .i64 n, .int .i64 g] w fun e w' => e = .returned (.bool true) ∧ Below w.heap.size w w' := by
  obtain ⟨m, rfl, rfl, rfl, h16⟩ : ∃ m : Nat → Int, m 0 = a ∧ m 1 = b ∧ m 2 = d ∧ In16 m := by
    refine ⟨fun j => if j = 0 then a else if j = 1 then b else d, rfl, rfl, rfl, fun j hj => ?_⟩
    obtain rfl | rfl | rfl : j = 0 ∨ j = 1 ∨ j = 2 := by omega
    · exact ba
    · exact bb
    · exact bd
  obtain ⟨z1, z2, nn, ff, hnn, hS, hI⟩ := both m n g h16
  have HS := Lib.hid hS
  have HI := Lib.hid hI
  have HT := Lib.hid (fun m W => toMix_any m W)
  have hrr1 : (z1 != z1) = false := by simp
  have hrr2 : (z2 != z2) = false := by simp
  have HX := Bx.new w (mixC m) 42
  have B := al (Below.refl w.heap.size w) (.cells (mixC m) 42)
  clear hS hI h16
  go_enter Try.func11, Try.ntmps11
  go_wp2_with fail
  refine (HT.out m _).mono ?_
  rintro e w1 ⟨hb, rfl⟩
  replace HX := HX.below hb
  replace B := nxt B hb
  clear hb
  obtain ⟨b3, h3⟩ : ∃ b3, b3 = w.heap.size := ⟨_, rfl⟩
  rw [← h3] at HX ⊢
  clear h3
  go_wp2_with fail
  refine (HS.out _).mono ?_
  rintro e w2 ⟨hb, v5, rfl, A5, g5, cap5, S5⟩
  obtain rfl := S5.1
  have bzg5 : 0 < nn → w.heap.size ≤ g5 := fun h => Nat.le_trans B.size (S5.2.1 h).2.1
  have q35 : 0 < nn → b3 < g5 := fun h => Nat.lt_of_lt_of_le HX.lt (S5.2.1 h).2.1
  replace HX := HX.below hb
  replace B := nxt B hb
  clear hb
  obtain ⟨c0, c1, c2⟩ := HX.mix3
  go_wp2_with fail
  refine (HT.out m _).mono ?_
  rintro e w3 ⟨hb, rfl⟩
  replace HX := HX.below hb
  replace S5 := S5.below hb
  replace B := nxt B hb
  clear hb c0 c1 c2
  go_wp2_with fail
  refine (HI.out _).mono ?_
  rintro e w4 ⟨hb, v9, rfl, A9, g9, cap9, S9⟩
  obtain rfl := S9.1
  have qg5g9 : 0 < nn → g5 < g9 := fun h => Nat.lt_of_lt_of_le (S5.2.1 h).2.2 (S9.2.1 h).2.1
  have bzg9 : 0 < nn → w.heap.size ≤ g9 := fun h => Nat.le_trans B.size (S9.2.1 h).2.1
  have q39 : 0 < nn → b3 < g9 := fun h => Nat.lt_of_lt_of_le HX.lt (S9.2.1 h).2.1
  replace HX := HX.below hb
  replace S5 := S5.below hb
  replace B := nxt B hb
  clear hb
  go_wp2_with fail
  refine (eqInt64S_any A9 A5 nn nn cap9 cap5 _ ff ff _ (by omega) (by omega) (Nat.le_refl _) (S9.rdN) (S5.rdN) ⟨rfl, fun _ _ => rfl⟩).mono ?_
  rintro e w6 ⟨rfl, hb⟩
  replace HX := HX.below hb
  replace S5 := S5.below hb
  replace S9 := S9.below hb
  replace B := nxt B hb
  clear hb
  go_wp2_with fail
  have hk9 : 0 ≤ 1 + (nn : Int) := by omega
  have hkk : (1 + (nn : Int) != 1 + (nn : Int)) = false := by simp
  refine (markInt64S_any A9 g9 0 nn cap9 ff 1 _ (by omega) (by omega) (by omega) (fun h => (S9.2.1 h).1) S9.own).mono ?_
  rintro e w11 ⟨rfl, hgr, ho⟩
  replace S5 := S5.kept hgr.size (fun h => blockG hgr (S5.2.1 h).2.2 (fun hm => by have := (qg5g9 h); omega))
  replace HX : Bx w11 b3 (mixC m) 42 := HX.of_block (blockG hgr HX.lt (fun hm => by have := q39 hm; omega))
  replace S9 := S9.marked hgr.size (by simpa using ho)
  replace B := below_rowOf B hgr B.size bzg9
  clear hgr ho
  go_wp2_with fail
  refine (heldInt64S_any A9 g9 0 nn cap9 1 _ (by omega) (by omega) (by omega) (fun h => (S9.2.1 h).1) S9.own).mono ?_
  rintro e w12 ⟨rfl, rfl⟩
  obtain ⟨c0, c1, c2⟩ := HX.mix3
  go_wp2_with fail
  refine (HT.out m _).mono ?_
  rintro e w13 ⟨hb, rfl⟩
  replace S5 := S5.below hb
  replace S9 := S9.below hb
  replace B := nxt B hb
  clear hb c0 c1 c2 HX
  go_wp2_with fail
  refine (HI.out _).mono ?_
  rintro e w14 ⟨hb, v19, rfl, A19, g19, cap19, S19⟩
  obtain rfl := S19.1
  replace S5 := S5.below hb
  replace S9 := S9.below hb
  replace B := nxt B hb
  clear hb
  go_wp2_with fail
  refine (eqInt64S_any A19 A5 nn nn cap19 cap5 _ ff ff _ (by omega) (by omega) (Nat.le_refl _) (S19.rdN) (S5.rdN) ⟨rfl, fun _ _ => rfl⟩).mono ?_
  rintro e w15 ⟨rfl, hb⟩
  replace S9 := S9.below hb
  replace B := nxt B hb
  clear hb S5 S19
  go_wp2_with fail
  refine (heldInt64S_any A9 g9 0 nn cap9 1 _ (by omega) (by omega) (by omega) (fun h => (S9.2.1 h).1) S9.own).mono ?_
  rintro e w16 ⟨rfl, rfl⟩
  go_wp2
  go_ret
  exact ⟨rfl, B⟩
end Go.Proofs.Ytgpnimbgckajlaa.bagsFor
