/-
  The contracts of the rules that all functions of setts have in common: spec.l03Long, spec.l03Asked, impl.isRowLong, impl.codeOfRows, impl.roomOf, impl.roomFor, impl.fitting. Conditions stand at each.
-/
import Derived.Deep.RegionHeld3
import Derived.Test.YtjeccdmhpbaabaaRows
import Derived.Test.YtjeccdmhpbaabaaRow
import Derived.Test.YtjeccdmhpbaabaaSettsOk
namespace Go.Proofs.Ytjeccdmhpbaabaa
open Go Go.ChangeShapes Go.WideShapes Go.ChangeAt Go.RowKit
set_option linter.unusedVariables false
set_option linter.unusedSimpArgs false
set_option maxRecDepth 100000
set_option maxHeartbeats 2000000

def LongOk (l : Int) : Prop := 1 ≤ l ∧ l ≤ 400
theorem isRowLong_any (k : Int) (w : World) : Calls Try.prog 168 #[.int .i64 k] w fun e w' => w' = w ∧ ((LongOk k ∧ e = .returned (.bool true)) ∨ (¬ LongOk k ∧ e = .returned (.bool false))) := by
  by_cases h1 : 1 ≤ k
  · have d1 : decide (1 ≤ k) = true := by simpa using h1
    by_cases h2 : k ≤ 400
    · have d2 : decide (k ≤ 400) = true := by simpa using h2
      go_enter Try.func168, Try.ntmps168
      go_wp2
      go_ret
      exact ⟨rfl, .inl ⟨⟨h1, h2⟩, rfl⟩⟩
    · have d2 : decide (k ≤ 400) = false := by simpa using h2
      go_enter Try.func168, Try.ntmps168
      go_wp2
      go_ret
      exact ⟨rfl, .inr ⟨fun h => by have := h.2; omega, rfl⟩⟩
  · have d1 : decide (1 ≤ k) = false := by simpa using h1
    go_enter Try.func168, Try.ntmps168
    go_wp2
    go_ret
    exact ⟨rfl, .inr ⟨fun h => by have := h.1; omega, rfl⟩⟩
theorem l03Long_any (k : Int) (w : World) : Calls Try.prog 123 #[.int .i64 k] w fun e w' => w' = w ∧ ((LongOk k ∧ e = .returned (.bool true)) ∨ (¬ LongOk k ∧ e = .returned (.bool false))) := by
  by_cases h : 1 ≤ k ∧ k ≤ 400
  · go_enter Try.func123, Try.ntmps123
    go_wp2_with (go_at_call 97; refine (in_yes _ _ _ _ (by omega) (by omega)).mono ?_; rintro e w1 ⟨rfl, hw1⟩; replace hw1 := hw1.symm; subst hw1)
    go_ret
    exact ⟨rfl, .inl ⟨h, rfl⟩⟩
  · go_enter Try.func123, Try.ntmps123
    go_wp2_with (go_at_call 97; refine (in_no _ _ _ _ (by omega)).mono ?_; rintro e w1 ⟨rfl, hw1⟩; replace hw1 := hw1.symm; subst hw1)
    go_ret
    exact ⟨rfl, .inr ⟨h, rfl⟩⟩

/-- the code of setts, joints and lengths. -/
def Coded (s f : Prop) (w : World) (e : Ending) (w' : World) : Prop :=
  Below w.heap.size w w' ∧ ((s ∧ f ∧ e = .returned (.int .i64 0)) ∨ (¬ s ∧ e = .returned (.int .i64 1)) ∨ (s ∧ ¬ f ∧ e = .returned (.int .i64 2)))
theorem asked_any (A : Option Addr) (n cap : Nat) (c d : Nat → Int) (b : Bool) (w : World) (hn : n ≤ 1048576) (hr : RdS w w.heap.size A n c d) (hc : ∀ j, -128 ≤ c j ∧ c j ≤ 127) (hd : ∀ j, -32768 ≤ d j ∧ d j ≤ 32767) :
    Calls Try.prog 116 #[.slice A n cap, .bool b] w (Coded (SOk n c d) (b = true) w) := by
  have HR := Lib.hid hr
  have HC := Lib.hid hc
  have HD := Lib.hid hd
  clear hr hc hd
  go_enter Try.func116, Try.ntmps116
  go_wp2_with fail
  refine (l03Ok_any A n cap c d _ hn HR.out HC.out HD.out).mono ?_
  rintro e w1 ⟨hb, ⟨h, rfl⟩ | ⟨h, rfl⟩⟩
  · have H := Lib.hid h
    clear h
    cases b
    · go_wp2
      go_ret
      exact ⟨hb, .inr (.inr ⟨H.out, by simp, rfl⟩)⟩
    · go_wp2
      go_ret
      exact ⟨hb, .inl ⟨H.out, by simp, rfl⟩⟩
  · have H := Lib.hid h
    clear h
    go_wp2
    go_ret
    exact ⟨hb, .inr (.inl ⟨H.out, rfl⟩)⟩

theorem codeOfRows_any (A B : Option Addr) (n cap m cb : Nat) (c d f : Nat → Int) (k : Int) (w : World) (hn : n ≤ 1048576) (hm : m ≤ 1048576) (hr : RdS w w.heap.size A n c d) (hs : RdK .i64 w w.heap.size B m f) (hc : ∀ j, -128 ≤ c j ∧ c j ≤ 127) (hd : ∀ j, -32768 ≤ d j ∧ d j ≤ 32767) :
    Calls Try.prog 125 #[.slice A n cap, .int .i64 k, .slice B m cb] w (Coded (SOk n c d) (JointOk k ∧ ∀ j, j < m → LongOk (f j)) w) := by
  have HR := Lib.hid hr
  have HS := Lib.hid hs
  have HC := Lib.hid hc
  have HD := Lib.hid hd
  clear hr hs hc hd
  go_enter Try.func125, Try.ntmps125
  go_wp2_with fail
  refine (validSetts_any A n cap c d _ hn HR.out HC.out HD.out).mono ?_
  rintro e w1 ⟨hb, ⟨h, rfl⟩ | ⟨h, rfl⟩⟩
  case inr =>
    have H := Lib.hid h
    clear h
    go_wp2_with fail
    go_ret
    exact ⟨hb, .inr (.inl ⟨H.out, rfl⟩)⟩
  have H := Lib.hid h
  clear h
  obtain ⟨wo, rfl⟩ : ∃ wo : World, wo = w1 := ⟨_, rfl⟩
  go_wp2_with fail
  refine (isJoint_any k _).mono ?_
  rintro e w2 ⟨hw, ⟨h, rfl⟩ | ⟨h, rfl⟩⟩
  case inr =>
    have H2 := Lib.hid h
    replace hw := hw.symm
    subst hw
    clear h
    go_wp2_with fail
    go_ret
    exact ⟨hb, .inr (.inr ⟨H.out, fun h => H2.out h.1, rfl⟩)⟩
  have H2 := Lib.hid h
  replace hw := hw.symm
  subst hw
  clear h
  go_wp2_with fail
  go_loopw [8, 17] (fun t8 t17 wr => ∃ i : Nat, i ≤ m ∧ t17 = .int .i64 i ∧ Below w.heap.size w wr ∧ ∀ j, j < i → LongOk (f j)) (fun t8 t17 wr => m - (intOf t17).toNat)
  case atStart => exact ⟨0, by omega, rfl, hb, fun j hj => by omega⟩
  case round =>
    clear hb
    obtain ⟨i, hi, rfl, B, hall⟩ := hrel
    obtain ⟨wq, rfl⟩ : ∃ wq : World, wq = wr := ⟨_, rfl⟩
    have HA := Lib.hid hall
    have HB := Lib.hid B
    clear hall B
    by_cases hlt : i < m
    · obtain ⟨b, off, rfl, hbl, ck⟩ := rdInt64 (HS.out.below HB.out) hlt
      obtain ⟨x, hx⟩ : ∃ x, x = f i := ⟨_, rfl⟩
      rw [← hx] at ck
      have HX := Lib.hid hx
      clear hx
      go_wp2_with fail
      refine (isRowLong_any x _).mono ?_
      rintro e w2 ⟨hw, ⟨h, rfl⟩ | ⟨h, rfl⟩⟩
      · replace hw := hw.symm
        subst hw
        have HL := Lib.hid h
        clear h
        go_wp2_with fail
        exact ⟨⟨i + 1, by omega, by first | go_num | simp, HB.out, fun j hj => by
          by_cases e : j = i
          · subst e; rw [← HX.out]; exact HL.out
          · exact HA.out j (by omega)⟩, by simp [intOf]; omega⟩
      · replace hw := hw.symm
        subst hw
        have HL := Lib.hid h
        clear h
        go_wp2_with fail
        go_ret
        exact ⟨HB.out, .inr (.inr ⟨H.out, fun h => HL.out (by rw [HX.out]; exact h.2 i hlt), rfl⟩)⟩
    · obtain rfl : i = m := by omega
      go_wp2_with fail
      go_ret
      exact ⟨HB.out, .inl ⟨H.out, ⟨H2.out, HA.out⟩, rfl⟩⟩

theorem roomOf_any (a b : Int) (w : World) (h1 : -1000 ≤ a ∧ a ≤ 1000) (h2 : -1000 ≤ b ∧ b ≤ 1000) : Calls Try.prog 127 #[.int .i64 a, .int .i64 b] w fun e w' => e = .returned (.int .i64 (a + b)) ∧ w = w' := by
  go_enter Try.func127, Try.ntmps127
  go_wp2
  go_ret
  exact ⟨rfl, rfl⟩

theorem roomFor_any (x y j : Int) (q b : Nat) (w : World) (hx : 1 ≤ x ∧ x ≤ 20) (hj : 0 ≤ j ∧ j ≤ 5) (hb : x + j = (b : Int)) (hq : q ≤ 1000) :
    Calls Try.prog 129 #[.agg #[.int .i8 x, .int .i16 y], .int .i64 (q : Int), .int .i64 j] w fun e w' => e = .returned (.int .i64 ((q * b : Nat) : Int)) ∧ Below w.heap.size w w' := by
  have hb25 : b ≤ 25 := by omega
  have hle : q * b ≤ 25000 := Nat.le_trans (Nat.mul_le_mul hq hb25) (by decide)
  have e1 : IntKind.i64.wrap x = x := IntWalk.i64_in _ (by omega)
  have e2 : IntKind.i64.wrap ((q : Int) * (b : Int)) = ((q * b : Nat) : Int) := by rw [← Int.natCast_mul]; exact IntWalk.i64_in _ (by omega)
  clear hle
  go_enter Try.func129, Try.ntmps129
  go_wp2
  go_ret
  exact ⟨rfl, al (Below.refl _ _) _⟩

theorem fitting_any (x j : Int) (cnt a b : Nat) (w : World) (hx : 1 ≤ x ∧ x ≤ 20) (hj : 0 ≤ j ∧ j ≤ 5) (hb : x + j = (b : Int)) (hcnt : cnt ≤ 60) (ha : a ≤ 1000) :
    Calls Try.prog 128 #[.agg #[.int .i8 x, .int .i16 (cnt : Int)], .int .i64 (a : Int), .int .i64 j] w fun e w' => e = .returned (.int .i64 ((min cnt (a / b) : Nat) : Int)) ∧ Below w.heap.size w w' := by
  have hb1 : 1 ≤ b := by omega
  have e1 : IntKind.i64.wrap (cnt : Int) = (cnt : Int) := IntWalk.i64_in _ (by omega)
  have hdle : a / b ≤ a := Nat.div_le_self a b
  have e2 : (a : Int) / (b : Int) = ((a / b : Nat) : Int) := (Int.natCast_ediv a b).symm
  obtain ⟨d, hd⟩ : ∃ d, d = a / b := ⟨_, rfl⟩
  rw [← hd] at e2 hdle ⊢
  have e4 : Int.tdiv (a : Int) (b : Int) = (d : Int) := by rw [Int.tdiv_eq_ediv_of_nonneg (by omega)]; exact e2
  have hres : (if (d : Int) < (cnt : Int) then (d : Int) else (cnt : Int)) = ((min cnt d : Nat) : Int) := by
    by_cases h : d < cnt
    · rw [if_pos (by omega), Nat.min_eq_right (by omega)]
    · rw [if_neg (by omega), Nat.min_eq_left (by omega)]
  have HRES := Lib.hid hres
  have hb0 : 0 < (b : Int) := by omega
  have hb00 : ((b : Int) == 0) = false := by simp; omega
  have ha0 : 0 ≤ (a : Int) := by omega
  have hne : ¬ ((b : Int) = 0) := by omega
  have hne' : ¬ (b = 0) := by omega
  have E2 := Lib.hid e2
  have E4 := Lib.hid e4
  clear e2 e4 hres hd
  go_enter Try.func128, Try.ntmps128
  go_wp2_with fail
  have p0 : (w.alloc (.cells #[.int .i8 x, .int .i16 (cnt : Int)] 89)).drew.cell? ⟨w.heap.size, 0, none⟩ = some (.int .i8 x) := by
    show (w.alloc (.cells #[.int .i8 x, .int .i16 (cnt : Int)] 89)).cell? ⟨w.heap.size, 0, none⟩ = _
    rw [cell_of_row _ _ 0 _ _ _ (heap_alloc_new w _)]; rfl
  have p1 : (w.alloc (.cells #[.int .i8 x, .int .i16 (cnt : Int)] 89)).drew.cell? ⟨w.heap.size, 1, none⟩ = some (.int .i16 (cnt : Int)) := by
    show (w.alloc (.cells #[.int .i8 x, .int .i16 (cnt : Int)] 89)).cell? ⟨w.heap.size, 1, none⟩ = _
    rw [cell_of_row _ _ 1 _ _ _ (heap_alloc_new w _)]; rfl
  have B0 : Below w.heap.size w (w.alloc (.cells #[.int .i8 x, .int .i16 (cnt : Int)] 89)).drew := (al (Below.refl _ _) _).drew
  have s0 : (w.alloc (.cells #[.int .i8 x, .int .i16 (cnt : Int)] 89)).heap.size = w.heap.size + 1 := by simp
  obtain ⟨W0, hW0⟩ : ∃ W0 : World, W0 = w.alloc (.cells #[.int .i8 x, .int .i16 (cnt : Int)] 89) := ⟨_, rfl⟩
  rw [← hW0] at p0 p1 B0 s0 ⊢
  clear hW0
  have HS0 := Lib.hid s0
  clear s0
  have e2 := E2.out
  have e4 := E4.out
  go_region_held3 (fun w' => w'.cell? ⟨w.heap.size, 0, none⟩ = some (.int .i8 x) ∧ w'.cell? ⟨w.heap.size, 1, none⟩ = some (.int .i16 (cnt : Int)))
    (first | exact ⟨p0, p1⟩)
    (first
      | (go_at_call 129
         refine (roomFor_any x (cnt : Int) j 1 b _ hx hj hb (by omega)).mono ?_
         rintro e w3 ⟨rfl, hb3⟩
         have hz := HS0.out
         replace p0 := (hb3.cell (p := ⟨w.heap.size, 0, none⟩) (by show w.heap.size < W0.heap.size; omega)).trans p0
         replace p1 := (hb3.cell (p := ⟨w.heap.size, 1, none⟩) (by show w.heap.size < W0.heap.size; omega)).trans p1
         replace B0 := nxt B0 hb3
         clear hz hb3))
  have e6 : IntKind.i64.wrap (d : Int) = (d : Int) := IntWalk.i64_in _ (by omega)
  rw [e6, HRES.out]
  go_wp2_with fail
  go_ret
  exact ⟨rfl, B0⟩
end Go.Proofs.Ytjeccdmhpbaabaa
