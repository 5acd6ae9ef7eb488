/-
  Both sides of JointsAt answer the same. Conditions stand at each.
-/
import Derived.Test.YtmkcdelfgaogaaaDoorRows
import Derived.Test.YtmkcdelfgaogaaaDoorJointsAtS
import Derived.Test.YtmkcdelfgaogaaaDoorSlabN
namespace Go.Proofs.YtmkcdelfgaogaaaDoor.jointsAt
open Go Go.ChangeShapes Go.WideShapes Go.ChangeAt Go.RowKit
set_option linter.unusedVariables false
set_option linter.unusedSimpArgs false
set_option maxRecDepth 100000
set_option maxHeartbeats 4000000

theorem both (X Y : Int) (n : Nat) (c : Nat → Int) (ax ay : Int) (a0 a1 a2 : Addr) (w : World) (hX : -128 ≤ X ∧ X ≤ 127) (hY : -128 ≤ Y ∧ Y ≤ 127) (hc : ∀ j, -128 ≤ c j ∧ c j ≤ 127) (hm : n ≤ 1048576) (hax : -128 ≤ ax ∧ ax ≤ 127) (hay : -128 ≤ ay ∧ ay ≤ 127) (hE : Sent w a0 a1 a2) :
    ∃ (z1 : Int) (nn : Nat) (ff : Nat → Int), nn ≤ 1000 ∧
      (∀ (W : World) (G0 : Nat), Below w.heap.size w W → Ab W G0 n c → Calls Tryd.prog 16 #[.agg #[.int .i8 X, .int .i8 Y, .slice (some ⟨G0, 0, none⟩) n n], .agg #[.int .i8 ax, .int .i8 ay]] W fun e w' => Below W.heap.size W w' ∧ ∃ v, e = .returned (.tuple #[v, .int .i64 z1]) ∧ HasSlice .i64 1 w' W.heap.size v nn ff) ∧
      (∀ (W : World) (G0 : Nat), Below w.heap.size w W → Ab W G0 n c → Calls Tryd.prog 17 #[.agg #[.int .i8 X, .int .i8 Y, .slice (some ⟨G0, 0, none⟩) n n], .agg #[.int .i8 ax, .int .i8 ay]] W fun e w' => Below W.heap.size W w' ∧ ∃ v, e = .returned (.tuple #[v, .int .i64 z1]) ∧ HasSlice .i64 1 w' W.heap.size v nn ff) := by
  have one : ∃ (z1 : Int) (L : List Int), L.length ≤ 1000 ∧ ∀ W e w', JaPost X Y n c ax ay W e w' → Below W.heap.size W w' ∧ ∃ v, e = .returned (.tuple #[v, .int .i64 z1]) ∧ HasSlice .i64 1 w' W.heap.size v L.length (fun j => L.getD j 0) := by
    by_cases hv : Valid X Y n c
    · by_cases hp : PtIn X Y ax ay
      · refine ⟨0, wyL (gridN c n) ax ay 4, by have := wyL_length (gridN c n) ax ay 4; omega, fun W e w' h => ⟨h.1, ?_⟩⟩
        obtain ⟨v, L, z, he, hO, hcase⟩ := h.2
        rcases hcase with ⟨h1, _⟩ | ⟨_, h1, _⟩ | ⟨_, _, h1, h2⟩
        · exact absurd hv h1
        · exact absurd hp h1
        · subst h1 h2; exact ⟨v, he, hO.has⟩
      · refine ⟨2, [], by simp, fun W e w' h => ⟨h.1, ?_⟩⟩
        obtain ⟨v, L, z, he, hO, hcase⟩ := h.2
        rcases hcase with ⟨h1, _⟩ | ⟨_, _, h1, h2⟩ | ⟨_, h1, _⟩
        · exact absurd hv h1
        · subst h1 h2; exact ⟨v, he, hO.has⟩
        · exact absurd h1 hp
    · refine ⟨1, [], by simp, fun W e w' h => ⟨h.1, ?_⟩⟩
      obtain ⟨v, L, z, he, hO, hcase⟩ := h.2
      rcases hcase with ⟨_, h1, h2⟩ | ⟨h1, _⟩ | ⟨h1, _⟩
      · subst h1 h2; exact ⟨v, he, hO.has⟩
      · exact absurd h1 hv
      · exact absurd h1 hv
  obtain ⟨z1, L, hL, h⟩ := one
  exact ⟨z1, L.length, fun j => L.getD j 0, hL, fun W g hb R => (specJa_any X Y g n c ax ay W hX hY hc hm R.row hax hay).mono fun e w' hp => h W e w' hp,
    fun W g hb R => (implJa_any X Y g n c ax ay a0 a1 a2 W hX hY hc hm R.row hax hay (hE.below hb)).mono fun e w' hp => h W e w' hp⟩
end Go.Proofs.YtmkcdelfgaogaaaDoor.jointsAt
