/-
  What the head of this seat's program says, for the rows of its laws. No condition.
-/
import Derived.Test.YtgpnimbgckajlaaRows
import Derived.JoinedOf
namespace Go.Proofs.Ytgpnimbgckajlaa
open Go
set_option maxRecDepth 100000
theorem ws_word (p r : List Char) (hp : ∀ c ∈ p, c ≠ Char.ofNat 32) : wordsSigns (p ++ Char.ofNat 32 :: r) = p :: wordsSigns r := by
  induction p with
  | nil => rfl
  | cons c p ih =>
    have h1 := hp c (by simp)
    have h2 := ih fun d hd => hp d (by simp [hd])
    show wordsSigns (c :: (p ++ Char.ofNat 32 :: r)) = _
    rw [wordsSigns, h2]
    exact h1
theorem seat_chars : Try.prog.initOrder = String.ofList ((List.map Char.ofNat [104, 97, 114, 110, 101, 115, 115]) ++ Char.ofNat 32 :: ((List.map Char.ofNat [55, 57, 55, 98, 54, 54, 98, 55, 49, 54, 51, 99, 98, 50, 53, 97, 99, 100, 99, 99, 49, 57, 101, 51, 100, 99, 56, 57, 57, 53, 99, 56, 99, 97, 57, 99, 100, 102, 98, 53, 101, 55, 49, 100, 98, 57, 52, 99, 100, 52, 54, 102, 56, 55, 50, 102, 55, 55, 54, 50, 53, 55, 57, 101]) ++ Char.ofNat 32 :: ((List.map Char.ofNat [99, 117, 116]) ++ Char.ofNat 32 :: (List.map Char.ofNat [97, 116, 32, 108, 111, 111, 112, 46, 101, 120, 97, 109, 112, 108, 101, 47, 103, 48, 49, 51, 56, 51, 47, 108, 97, 119, 115, 46, 70, 110, 69, 120, 97, 99, 116, 86, 97, 108, 105, 100, 71, 97, 110, 103, 32, 108, 111, 111, 112, 46, 101, 120, 97, 109, 112, 108, 101, 47, 103, 48, 49, 51, 56, 51, 47, 108, 97, 119, 115, 46, 70, 110, 69, 120, 97, 99, 116, 86, 97, 108, 105, 100, 82, 111, 119, 115, 32, 108, 111, 111, 112, 46, 101, 120, 97, 109, 112, 108, 101, 47, 103, 48, 49, 51, 56, 51, 47, 108, 97, 119, 115, 46, 70, 110, 69, 120, 97, 99, 116, 68, 97, 121, 115, 70, 111, 114, 32, 108, 111, 111, 112, 46, 101, 120, 97, 109, 112, 108, 101, 47, 103, 48, 49, 51, 56, 51, 47, 108, 97, 119, 115, 46, 70, 110, 69, 120, 97, 99, 116, 67, 97, 108, 101, 110, 100, 97, 114, 68, 97, 121, 115, 32, 108, 111, 111, 112, 46, 101, 120, 97, 109, 112, 108, 101, 47, 103, 48, 49, 51, 56, 51, 47, 108, 97, 119, 115, 46, 70, 110, 69, 120, 97, 99, 116, 86, 97, 108, 105, 100, 77, 105, 120, 32, 108, 111, 111, 112, 46, 101, 120, 97, 109, 112, 108, 101, 47, 103, 48, 49, 51, 56, 51, 47, 108, 97, 119, 115, 46, 70, 110, 69, 120, 97, 99, 116, 77, 105, 120, 70, 111, 114, 32, 108, 111, 111, 112, 46, 101, 120, 97, 109, 112, 108, 101, 47, 103, 48, 49, 51, 56, 51, 47, 108, 97, 119, 115, 46, 70, 110, 69, 120, 97, 99, 116, 77, 111, 115, 116, 70, 114, 111, 109, 32, 108, 111, 111, 112, 46, 101, 120, 97, 109, 112, 108, 101, 47, 103, 48, 49, 51, 56, 51, 47, 108, 97, 119, 115, 46, 70, 110, 69, 120, 97, 99, 116, 66, 101, 115, 116, 77, 105, 120, 32, 108, 111, 111, 112, 46, 101, 120, 97, 109, 112, 108, 101, 47, 103, 48, 49, 51, 56, 51, 47, 108, 97, 119, 115, 46, 70, 110, 69, 120, 97, 99, 116, 66, 97, 103, 115, 70, 111, 114, 32, 108, 111, 111, 112, 46, 101, 120, 97, 109, 112, 108, 101, 47, 103, 48, 49, 51, 56, 51, 47, 108, 97, 119, 115, 46, 70, 110, 69, 120, 97, 99, 116, 80, 105, 101, 99, 101, 115, 79, 102])))) := by kernel_rfl
theorem seat_words : ∃ T, wordsSigns Try.prog.initOrder.toList = (List.map Char.ofNat [104, 97, 114, 110, 101, 115, 115]) :: (List.map Char.ofNat [55, 57, 55, 98, 54, 54, 98, 55, 49, 54, 51, 99, 98, 50, 53, 97, 99, 100, 99, 99, 49, 57, 101, 51, 100, 99, 56, 57, 57, 53, 99, 56, 99, 97, 57, 99, 100, 102, 98, 53, 101, 55, 49, 100, 98, 57, 52, 99, 100, 52, 54, 102, 56, 55, 50, 102, 55, 55, 54, 50, 53, 55, 57, 101]) :: (List.map Char.ofNat [99, 117, 116]) :: T := by
  rw [seat_chars, String.toList_ofList, ws_word _ _ (by decide), ws_word _ _ (by decide), ws_word _ _ (by decide)]
  exact ⟨_, rfl⟩
theorem seat_behind : ∃ T, behindMainWord (wordsSigns Try.prog.initOrder.toList) = (List.map Char.ofNat [99, 117, 116]) :: T := by
  obtain ⟨T, h⟩ := seat_words
  rw [h]
  exact ⟨T, by kernel_rfl⟩
theorem make_of (P : Program) (T : List (List Char)) (h : behindMainWord (wordsSigns P.initOrder.toList) = (List.map Char.ofNat [99, 117, 116]) :: T) : P.make = some .cut := by
  unfold Program.make
  rw [h]
  rfl
theorem lifts_of (P : Program) (T : List (List Char)) (h : behindMainWord (wordsSigns P.initOrder.toList) = (List.map Char.ofNat [99, 117, 116]) :: T) : P.liftsFinal = false := by
  unfold Program.liftsFinal Program.headLifts
  rw [h]
  rfl
theorem may_of (P : Program) (T : List (List Char)) (h : behindMainWord (wordsSigns P.initOrder.toList) = (List.map Char.ofNat [99, 117, 116]) :: T) (h1 : P.laysLater = false) (h2 : P.bearsReflect = false) (h3 : P.doorFits [] = true) : P.mayEnter = true := by
  unfold Program.mayEnter
  rw [h, h1, h2]
  show (_ || _ || (_ && _ && _ && _ && P.doorFits []) : Bool) = true
  rw [h3]
  rfl
theorem seat_make : Try.prog.make = some .cut := by
  obtain ⟨T, h⟩ := seat_behind
  exact make_of _ T h
theorem seat_lifts : Try.prog.liftsFinal = false := by
  obtain ⟨T, h⟩ := seat_behind
  exact lifts_of _ T h
theorem seat_may : Try.prog.mayEnter = true := by
  obtain ⟨T, h⟩ := seat_behind
  exact may_of _ T h (by kernel_rfl) (by kernel_rfl) (by kernel_rfl)
end Go.Proofs.Ytgpnimbgckajlaa
