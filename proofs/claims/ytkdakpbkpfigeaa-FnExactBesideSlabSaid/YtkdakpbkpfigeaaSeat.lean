/-
  What the head of this seat's program says, for the rows of its laws. No condition.
-/
import Derived.Test.YtkdakpbkpfigeaaRows
import Derived.JoinedOf
namespace Go.Proofs.Ytkdakpbkpfigeaa
open Go
set_option maxRecDepth 100000
theorem ws_word (p r : List Char) (hp : ∀ c ∈ p, c ≠ Char.ofNat 32) : wordsSigns (p ++ Char.ofNat 32 :: r) = p :: wordsSigns r := by
  induction p with
  | nil => rfl
  | cons c p ih =>
    have h1 := hp c (by simp)
    have h2 := ih fun d hd => hp d (by simp [hd])
    show wordsSigns (c :: (p ++ Char.ofNat 32 :: r)) = _
    rw [wordsSigns, h2]
    exact h1
theorem seat_chars : Try.prog.initOrder = String.ofList ((List.map Char.ofNat [104, 97, 114, 110, 101, 115, 115]) ++ Char.ofNat 32 :: ((List.map Char.ofNat [56, 57, 51, 57, 57, 49, 57, 56, 98, 49, 52, 51, 54, 53, 50, 99, 57, 52, 54, 51, 100, 56, 49, 101, 52, 101, 57, 49, 57, 54, 98, 97, 98, 49, 102, 55, 101, 102, 99, 97, 54, 102, 102, 52, 102, 98, 57, 53, 56, 101, 99, 100, 97, 101, 55, 100, 52, 56, 56, 54, 53, 100, 53, 48]) ++ Char.ofNat 32 :: ((List.map Char.ofNat [99, 117, 116]) ++ Char.ofNat 32 :: (List.map Char.ofNat [97, 116, 32, 108, 111, 111, 112, 46, 101, 120, 97, 109, 112, 108, 101, 47, 103, 48, 49, 51, 56, 51, 47, 108, 97, 119, 115, 46, 70, 110, 69, 120, 97, 99, 116, 86, 97, 108, 105, 100, 76, 101, 118, 101, 108, 115, 32, 108, 111, 111, 112, 46, 101, 120, 97, 109, 112, 108, 101, 47, 103, 48, 49, 51, 56, 51, 47, 108, 97, 119, 115, 46, 70, 110, 69, 120, 97, 99, 116, 87, 111, 114, 115, 116, 84, 114, 105, 112, 32, 108, 111, 111, 112, 46, 101, 120, 97, 109, 112, 108, 101, 47, 103, 48, 49, 51, 56, 51, 47, 108, 97, 119, 115, 46, 70, 110, 69, 120, 97, 99, 116, 76, 101, 118, 101, 108, 115, 65, 102, 116, 101, 114, 32, 108, 111, 111, 112, 46, 101, 120, 97, 109, 112, 108, 101, 47, 103, 48, 49, 51, 56, 51, 47, 108, 97, 119, 115, 46, 70, 110, 69, 120, 97, 99, 116, 70, 105, 114, 115, 116, 84, 114, 105, 112, 32, 108, 111, 111, 112, 46, 101, 120, 97, 109, 112, 108, 101, 47, 103, 48, 49, 51, 56, 51, 47, 108, 97, 119, 115, 46, 70, 110, 69, 120, 97, 99, 116, 66, 101, 115, 105, 100, 101, 83, 108, 97, 98, 32, 108, 111, 111, 112, 46, 101, 120, 97, 109, 112, 108, 101, 47, 103, 48, 49, 51, 56, 51, 47, 108, 97, 119, 115, 46, 70, 110, 69, 120, 97, 99, 116, 70, 105, 108, 108, 87, 105, 116, 104, 32, 108, 111, 111, 112, 46, 101, 120, 97, 109, 112, 108, 101, 47, 103, 48, 49, 51, 56, 51, 47, 108, 97, 119, 115, 46, 70, 110, 69, 120, 97, 99, 116, 76, 97, 121, 65, 108, 108, 32, 108, 111, 111, 112, 46, 101, 120, 97, 109, 112, 108, 101, 47, 103, 48, 49, 51, 56, 51, 47, 108, 97, 119, 115, 46, 70, 110, 69, 120, 97, 99, 116, 77, 105, 114, 114, 111, 114, 71, 114, 111, 117, 110, 100, 32, 108, 111, 111, 112, 46, 101, 120, 97, 109, 112, 108, 101, 47, 103, 48, 49, 51, 56, 51, 47, 108, 97, 119, 115, 46, 70, 110, 69, 120, 97, 99, 116, 84, 119, 111, 66, 97, 114, 114, 111, 119, 115, 32, 108, 111, 111, 112, 46, 101, 120, 97, 109, 112, 108, 101, 47, 103, 48, 49, 51, 56, 51, 47, 108, 97, 119, 115, 46, 70, 110, 69, 120, 97, 99, 116, 67, 111, 117, 110, 116, 79, 114, 100, 101, 114, 115, 32, 108, 111, 111, 112, 46, 101, 120, 97, 109, 112, 108, 101, 47, 103, 48, 49, 51, 56, 51, 47, 108, 97, 119, 115, 46, 70, 110, 69, 120, 97, 99, 116, 76, 97, 121, 79, 114, 100, 101, 114])))) := by kernel_rfl
theorem seat_words : ∃ T, wordsSigns Try.prog.initOrder.toList = (List.map Char.ofNat [104, 97, 114, 110, 101, 115, 115]) :: (List.map Char.ofNat [56, 57, 51, 57, 57, 49, 57, 56, 98, 49, 52, 51, 54, 53, 50, 99, 57, 52, 54, 51, 100, 56, 49, 101, 52, 101, 57, 49, 57, 54, 98, 97, 98, 49, 102, 55, 101, 102, 99, 97, 54, 102, 102, 52, 102, 98, 57, 53, 56, 101, 99, 100, 97, 101, 55, 100, 52, 56, 56, 54, 53, 100, 53, 48]) :: (List.map Char.ofNat [99, 117, 116]) :: T := by
  rw [seat_chars, String.toList_ofList, ws_word _ _ (by decide), ws_word _ _ (by decide), ws_word _ _ (by decide)]
  exact ⟨_, rfl⟩
theorem seat_behind : ∃ T, behindMainWord (wordsSigns Try.prog.initOrder.toList) = (List.map Char.ofNat [99, 117, 116]) :: T := by
  obtain ⟨T, h⟩ := seat_words
  rw [h]
  exact ⟨T, by kernel_rfl⟩
theorem make_of (P : Program) (T : List (List Char)) (h : behindMainWord (wordsSigns P.initOrder.toList) = (List.map Char.ofNat [99, 117, 116]) :: T) : P.make = some .cut := by
  unfold Program.make
  rw [h]
  rfl
theorem lifts_of (P : Program) (T : List (List Char)) (h : behindMainWord (wordsSigns P.initOrder.toList) = (List.map Char.ofNat [99, 117, 116]) :: T) : P.liftsFinal = false := by
  unfold Program.liftsFinal Program.headLifts
  rw [h]
  rfl
theorem may_of (P : Program) (T : List (List Char)) (h : behindMainWord (wordsSigns P.initOrder.toList) = (List.map Char.ofNat [99, 117, 116]) :: T) (h1 : P.laysLater = false) (h2 : P.bearsReflect = false) (h3 : P.doorFits [] = true) : P.mayEnter = true := by
  unfold Program.mayEnter
  rw [h, h1, h2]
  show (_ || _ || (_ && _ && _ && _ && P.doorFits []) : Bool) = true
  rw [h3]
  rfl
theorem seat_make : Try.prog.make = some .cut := by
  obtain ⟨T, h⟩ := seat_behind
  exact make_of _ T h
theorem seat_lifts : Try.prog.liftsFinal = false := by
  obtain ⟨T, h⟩ := seat_behind
  exact lifts_of _ T h
theorem seat_may : Try.prog.mayEnter = true := by
  obtain ⟨T, h⟩ := seat_behind
  exact may_of _ T h (by kernel_rfl) (by kernel_rfl) (by kernel_rfl)
end Go.Proofs.Ytkdakpbkpfigeaa
