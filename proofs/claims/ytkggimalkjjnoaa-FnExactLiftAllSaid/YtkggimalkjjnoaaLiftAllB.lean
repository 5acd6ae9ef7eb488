/-
  Both sides of LiftAll answer the same. Conditions stand at each.
-/
import Derived.Test.YtkggimalkjjnoaaRows
import Derived.Test.YtkggimalkjjnoaaLiftAllS
import Derived.Test.YtkggimalkjjnoaaLiftAllI
import Derived.Test.YtkggimalkjjnoaaSlabN
import Derived.Test.YtkggimalkjjnoaaResInt64
namespace Go.Proofs.Ytkggimalkjjnoaa
open Go Go.ChangeShapes Go.WideShapes Go.ChangeAt Go.RowKit
set_option linter.unusedVariables false
set_option linter.unusedSimpArgs false
set_option maxRecDepth 100000
set_option maxHeartbeats 4000000
namespace liftAll
theorem both (X Y : Int) (n : Nat) (c : Nat → Int) (m : Nat) (l : Nat → Int) (hX : -128 ≤ X ∧ X ≤ 127) (hY : -128 ≤ Y ∧ Y ≤ 127) (hc : ∀ j, -128 ≤ c j ∧ c j ≤ 127) (hn : n ≤ 1048576) (hl : ∀ j, (Lit.int .i64 (l j)).wf = true) (hm : m ≤ 1048576) :
    ∃ (rX rY z : Int) (n0 : Nat) (f0 : Nat → Int) (n1 : Nat) (f1 : Nat → Int), n0 ≤ 1000 ∧ n1 ≤ 1000 ∧
      (∀ (W : World) (G0 G1 : Nat), Ab W G0 n c → Ar W G1 m l → Calls Try.prog 38 #[.agg #[.int .i8 X, .int .i8 Y, .slice (some ⟨G0, 0, none⟩) n n], .slice (some ⟨G1, 0, none⟩) m m] W fun e w' => Below W.heap.size W w' ∧ ∃ v0 v1, e = .returned (.tuple #[.agg #[.int .i8 rX, .int .i8 rY, v0], v1, .int .i64 z]) ∧ HasSlice .i8 4 w' W.heap.size v0 n0 f0 ∧ HasSlice .i8 4 w' W.heap.size v1 n1 f1 ∧ (v0.ownBlock = none ∨ v0.ownBlock ≠ v1.ownBlock)) ∧
      (∀ (W : World) (G0 G1 : Nat), Ab W G0 n c → Ar W G1 m l → Calls Try.prog 40 #[.agg #[.int .i8 X, .int .i8 Y, .slice (some ⟨G0, 0, none⟩) n n], .slice (some ⟨G1, 0, none⟩) m m] W fun e w' => Below W.heap.size W w' ∧ ∃ v0 v1, e = .returned (.tuple #[.agg #[.int .i8 rX, .int .i8 rY, v0], v1, .int .i64 z]) ∧ HasSlice .i8 4 w' W.heap.size v0 n0 f0 ∧ HasSlice .i8 4 w' W.heap.size v1 n1 f1 ∧ (v0.ownBlock = none ∨ v0.ownBlock ≠ v1.ownBlock)) := by
  have key : ∃ (rX rY z : Int) (n0 : Nat) (f0 : Nat → Int) (n1 : Nat) (f1 : Nat → Int), n0 ≤ 1000 ∧ n1 ≤ 1000 ∧ ∀ (W : World) (e : Ending) (w' : World), Post X Y n c m l W e w' → Below W.heap.size W w' ∧ ∃ v0 v1, e = .returned (.tuple #[.agg #[.int .i8 rX, .int .i8 rY, v0], v1, .int .i64 z]) ∧ HasSlice .i8 4 w' W.heap.size v0 n0 f0 ∧ HasSlice .i8 4 w' W.heap.size v1 n1 f1 ∧ (v0.ownBlock = none ∨ v0.ownBlock ≠ v1.ownBlock) := by
    have hbad : ∀ (k : Int) (W : World) (e : Ending) (w' : World), Bad k W e w' → Below W.heap.size W w' ∧ ∃ v0 v1, e = .returned (.tuple #[.agg #[.int .i8 0, .int .i8 0, v0], v1, .int .i64 k]) ∧ HasSlice .i8 4 w' W.heap.size v0 0 (ffOf []) ∧ HasSlice .i8 4 w' W.heap.size v1 0 (ffOf []) ∧ (v0.ownBlock = none ∨ v0.ownBlock ≠ v1.ownBlock) := by
      rintro k W e w' ⟨hb, v0, v1, he, h0, h1, ha⟩
      exact ⟨hb, v0, v1, he, has_of h0 (fun u hu => by cases hu), has_of h1 (fun u hu => by cases hu), ha⟩
    by_cases hv : Valid X Y n c
    · by_cases hi : InAll n m l
      · by_cases ha : Apart1 m l
        · refine ⟨X, Y, 0, leftK m l n, ffOf (leftV c m l n), m, ffOf (upV c l m), ?_, ?_, fun W e w' hp => ?_⟩
          · have := leftK_le m l n
            have : n ≤ 60 := hv.2.2.2.2.1
            omega
          · have := apart_le n m l hi ha
            have : n ≤ 60 := hv.2.2.2.2.1
            omega
          · rcases hp with ⟨h, _⟩ | ⟨_, h, _⟩ | ⟨_, _, h, _⟩ | ⟨_, _, _, hb, v0, v1, he, h0, h1, hap⟩
            · exact absurd hv h
            · exact absurd hi h
            · exact absurd ha h
            · exact ⟨hb, v0, v1, he, has_of h0 (leftV_i8 _ _ _ _), has_of h1 (upV_i8 _ _ _), hap⟩
        · refine ⟨0, 0, 4, 0, ffOf [], 0, ffOf [], by omega, by omega, fun W e w' hp => ?_⟩
          rcases hp with ⟨h, _⟩ | ⟨_, h, _⟩ | ⟨_, _, _, h⟩ | ⟨_, _, h, _⟩
          · exact absurd hv h
          · exact absurd hi h
          · exact hbad 4 W e w' h
          · exact absurd h ha
      · refine ⟨0, 0, 2, 0, ffOf [], 0, ffOf [], by omega, by omega, fun W e w' hp => ?_⟩
        rcases hp with ⟨h, _⟩ | ⟨_, _, h⟩ | ⟨_, h, _⟩ | ⟨_, h, _⟩
        · exact absurd hv h
        · exact hbad 2 W e w' h
        · exact absurd h hi
        · exact absurd h hi
    · refine ⟨0, 0, 1, 0, ffOf [], 0, ffOf [], by omega, by omega, fun W e w' hp => ?_⟩
      rcases hp with ⟨_, h⟩ | ⟨h, _⟩ | ⟨h, _⟩ | ⟨h, _⟩
      · exact hbad 1 W e w' h
      · exact absurd h hv
      · exact absurd h hv
      · exact absurd h hv
  obtain ⟨rX, rY, z, n0, f0, n1, f1, h0, h1, hk⟩ := key
  exact ⟨rX, rY, z, n0, f0, n1, f1, h0, h1, fun W G0 G1 g0 g1 => (spec_any X Y G0 n c _ m m l W hX hY hc hn hm (Nat.le_refl _) g0.row g1.rd).mono (hk W), fun W G0 G1 g0 g1 => (impl_any X Y G0 n c _ m m l W hX hY hc hn hm (Nat.le_refl _) g0.row g1.rd).mono (hk W)⟩
end liftAll
end Go.Proofs.Ytkggimalkjjnoaa
