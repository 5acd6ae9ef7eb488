/-
  Mixes: contracts of spec.l07Parts, l07Mix, l07Amount, l07For. Conditions stand at each.
-/
import Derived.Test.YtgpnimbgckajlaaRows
import Derived.Test.YtgpnimbgckajlaaIn
import Derived.Test.YtgpnimbgckajlaaWith
import Derived.Test.YtgpnimbgckajlaaRet
import Derived.Test.YtgpnimbgckajlaaGangM
import Derived.Deep.RegionHeld3
namespace Go.Proofs.Ytgpnimbgckajlaa
open Go Go.ChangeShapes Go.WideShapes Go.ChangeAt Go.RowKit
set_option linter.unusedVariables false
set_option linter.unusedSimpArgs false
set_option maxRecDepth 100000
set_option maxHeartbeats 4000000
def mixC (m : Nat → Int) : Array Value := #[.int .i16 (m 0), .int .i16 (m 1), .int .i16 (m 2)]
def resC (m : Nat → Int) : Array Value := #[.int .i64 (m 0), .int .i64 (m 1), .int .i64 (m 2)]
theorem Bx.mixAt {w : World} {b : Nat} {m : Nat → Int} {t : TypeId} (h : Bx w b (mixC m) t) {k : Nat} (hk : k < 3) : w.cell? ⟨b, k, none⟩ = some (.int .i16 (m k)) := by
  obtain rfl | rfl | rfl : k = 0 ∨ k = 1 ∨ k = 2 := by omega
  · exact h.cell 0
  · exact h.cell 1
  · exact h.cell 2
theorem Bx.resAt {w : World} {b : Nat} {m : Nat → Int} {t : TypeId} (h : Bx w b (resC m) t) {k : Nat} (hk : k < 3) : w.cell? ⟨b, k, none⟩ = some (.int .i64 (m k)) := by
  obtain rfl | rfl | rfl : k = 0 ∨ k = 1 ∨ k = 2 := by omega
  · exact h.cell 0
  · exact h.cell 1
  · exact h.cell 2
theorem Bx.mixSet {w : World} {b : Nat} {m : Nat → Int} {t : TypeId} (h : Bx w b (mixC m) t) {k : Nat} (hk : k < 3) (v : Int) : Bx (w.setCell ⟨b, k, none⟩ (.int .i16 v)) b (mixC (upd m k v)) t := by
  have := h.set k (.int .i16 v)
  obtain rfl | rfl | rfl : k = 0 ∨ k = 1 ∨ k = 2 := by omega
  · exact this
  · exact this
  · exact this
theorem Bx.resSet {w : World} {b : Nat} {m : Nat → Int} {t : TypeId} (h : Bx w b (resC m) t) {k : Nat} (hk : k < 3) (v : Int) : Bx (w.setCell ⟨b, k, none⟩ (.int .i64 v)) b (resC (upd m k v)) t := by
  have := h.set k (.int .i64 v)
  obtain rfl | rfl | rfl : k = 0 ∨ k = 1 ∨ k = 2 := by omega
  · exact this
  · exact this
  · exact this
theorem Bx.mixEq {w : World} {b : Nat} {m o : Nat → Int} {t : TypeId} (h : Bx w b (mixC m) t) (e : ∀ j, j < 3 → m j = o j) : Bx w b (mixC o) t := by
  have : mixC m = mixC o := by unfold mixC; rw [e 0 (by decide), e 1 (by decide), e 2 (by decide)]
  rw [← this]; exact h
theorem Bx.resEq {w : World} {b : Nat} {m o : Nat → Int} {t : TypeId} (h : Bx w b (resC m) t) (e : ∀ j, j < 3 → m j = o j) : Bx w b (resC o) t := by
  have : resC m = resC o := by unfold resC; rw [e 0 (by decide), e 1 (by decide), e 2 (by decide)]
  rw [← this]; exact h
theorem Bx.mix3 {w : World} {b : Nat} {m : Nat → Int} {t : TypeId} (h : Bx w b (mixC m) t) : w.cell? ⟨b, 0, none⟩ = some (.int .i16 (m 0)) ∧ w.cell? ⟨b, 1, none⟩ = some (.int .i16 (m 1)) ∧ w.cell? ⟨b, 2, none⟩ = some (.int .i16 (m 2)) := ⟨h.cell 0, h.cell 1, h.cell 2⟩
/-- a mix that lies somewhere. -/
def MixP (w : World) (b o : Nat) (m : Nat → Int) : Prop := b < w.heap.size ∧ ∀ j, j < 3 → w.cell? ⟨b, o + j, none⟩ = some (.int .i16 (m j))
theorem Bx.mixP {w : World} {b : Nat} {m : Nat → Int} {t : TypeId} (h : Bx w b (mixC m) t) : MixP w b 0 m := ⟨h.lt, fun j hj => by rw [Nat.zero_add]; exact h.mixAt hj⟩
theorem MixP.below {w w' : World} {b o : Nat} {m : Nat → Int} (h : MixP w b o m) (hb : Below w.heap.size w w') : MixP w' b o m := ⟨Nat.lt_of_lt_of_le h.1 hb.size, fun j hj => (hb.cell (p := ⟨b, o + j, none⟩) h.1).trans (h.2 j hj)⟩
/-- the int16s that a mix may hold. -/
def In16 (m : Nat → Int) : Prop := ∀ j, j < 3 → -32768 ≤ m j ∧ m j ≤ 32767

theorem parts_any (b o : Nat) (m : Nat → Int) (w : World) (h16 : In16 m) (h : MixP w b o m) :
    Calls Try.prog 89 #[.pointer (some ⟨b, o, none⟩)] w fun e w' => Below w.heap.size w w' ∧ e = .returned (.int .i64 (sumM m)) := by
  have c0 := h.2 0 (by decide)
  have c1 := h.2 1 (by decide)
  have c2 := h.2 2 (by decide)
  rw [Nat.add_zero] at c0
  have b0 := h16 0 (by decide)
  have b1 := h16 1 (by decide)
  have b2 := h16 2 (by decide)
  have w0 : IntKind.i64.wrap (m 0) = m 0 := IntWalk.i64_in _ (by omega)
  have w1 : IntKind.i64.wrap (m 1) = m 1 := IntWalk.i64_in _ (by omega)
  have w2 : IntKind.i64.wrap (m 2) = m 2 := IntWalk.i64_in _ (by omega)
  clear h16 h
  go_enter Try.func89, Try.ntmps89
  go_wp2
  go_quiet (fail)
  go_wp2
  go_ret
  exact ⟨below_drewN' (Below.refl _ _) _, rfl⟩
theorem l07Mix_any (b o : Nat) (m : Nat → Int) (r : Bool) (w : World) (h16 : In16 m) (h : MixP w b o m) (hr : r = true ↔ MixOk m) :
    Calls Try.prog 65 #[.pointer (some ⟨b, o, none⟩)] w (BPost r w) := by
  have HB := Lib.hid h
  have H16 := Lib.hid h16
  have HR := Lib.hid hr
  have HP := Lib.hid (fun W (h : MixP W b o m) => parts_any b o m W h16 h)
  clear h hr h16
  go_enter Try.func65, Try.ntmps65
  go_wp2
  go_loop [3] (fun t3 => ∃ k : Nat, k ≤ 3 ∧ t3 = .int .i64 k ∧ ∀ j, j < k → 0 ≤ m j ∧ m j ≤ 100) (fun t3 => 3 - (intOf t3).toNat)
  case atStart => exact ⟨0, by omega, rfl, fun j hj => by omega⟩
  case round =>
    obtain ⟨k, hk, rfl, hall⟩ := hrel
    have HA := Lib.hid hall
    clear hall
    by_cases hlt : k < 3
    · have hki : (k : Int) < 3 := by omega
      have c0 := HB.out.2 k hlt
      have wk : IntKind.i64.wrap (m k) = m k := IntWalk.i64_in _ (by have := H16.out k hlt; omega)
      obtain ⟨r0, e0⟩ := dec_ex (0 ≤ m k ∧ m k ≤ 100)
      have H0 := Lib.hid (fun W => in_any (m k) 0 100 r0 W e0)
      have E0 := Lib.hid e0
      clear e0
      go_wp2_with fail
      refine (H0.out _).mono ?_
      rintro e wn ⟨rfl, hw⟩
      subst hw
      cases r0 with
      | false =>
        obtain rfl : r = false := Bool.eq_false_iff.2 fun h => by have := E0.out.2 ((HR.out.1 h).1 k hlt); cases this
        go_wp2
        go_ret
        exact ⟨Below.refl _ _, rfl⟩
      | true =>
        have P0 := Lib.hid (E0.out.1 rfl)
        go_wp2
        exact ⟨⟨k + 1, by omega, by first | go_num | simp, fun j hj => by
          by_cases e : j = k
          · subst e; exact P0.out
          · exact HA.out j (by omega)⟩, by simp [intOf]; omega⟩
    · obtain rfl : k = 3 := by omega
      go_wp2_with fail
      refine (HP.out _ HB.out).mono ?_
      rintro e w1 ⟨hb, rfl⟩
      obtain ⟨r1, e1⟩ := dec_ex (0 < sumM m)
      obtain rfl : r = r1 := by
        rw [Bool.eq_iff_iff, HR.out, e1]
        exact ⟨fun h => h.2, fun h => ⟨HA.out, h⟩⟩
      have d1 : decide (0 < sumM m) = r := by
        cases r with
        | true => simpa using e1.1 rfl
        | false => exact decide_eq_false fun h => by have := e1.2 h; cases this
      clear e1
      go_wp2
      go_ret
      exact ⟨hb, by first | rfl | (rw [← d1]; rfl)⟩
theorem amount_any (v : Int) (r : Bool) (w : World) (hr : r = true ↔ 0 ≤ v ∧ v ≤ 5000) : Calls Try.prog 67 #[.int .i64 v] w fun e w' => e = .returned (.bool r) ∧ w' = w := by
  have H := Lib.hid (in_any v 0 5000 r w hr)
  clear hr
  go_enter Try.func67, Try.ntmps67
  go_wp2_with fail
  refine H.out.mono ?_
  rintro e w1 ⟨rfl, hw⟩
  subst hw
  go_wp2
  go_ret
  exact ⟨rfl, rfl⟩
/-- the sum of the first parts, taken off an amount. -/
def lackK (m : Nat → Int) (n : Int) : Nat → Int
  | 0 => n
  | k + 1 => lackK m n k - qL m n k
/-- the first greatest one among the first ones. -/
def bK (r : Nat → Int) : Nat → Nat
  | 0 => 0
  | k + 1 => if k = 0 then 0 else if r (bK r k) < r k then k else bK r k
theorem bK_le (r : Nat → Int) : ∀ k, bK r k ≤ k - 1
  | 0 => by simp [bK]
  | k + 1 => by
    have := bK_le r k
    unfold bK
    split
    · omega
    · split <;> omega
theorem bK_three (r : Nat → Int) : bK r 3 = bst (r 0) (r 1) (r 2) := by
  show (if (2 : Nat) = 0 then 0 else if r (bK r 2) < r 2 then 2 else bK r 2) = _
  rw [if_neg (by decide), show bK r 2 = if r (bK r 1) < r 1 then 1 else bK r 1 from by show (if (1 : Nat) = 0 then 0 else _) = _; rw [if_neg (by decide)], show bK r 1 = 0 from by show (if (0 : Nat) = 0 then 0 else _) = _; rw [if_pos rfl]]
  unfold bst
  by_cases h : r 0 < r 1
  · rw [if_pos h, if_pos h]
  · rw [if_neg h, if_neg h]
theorem lackK_bd {m : Nat → Int} {n : Int} (h : MixOk m) (hn : 0 ≤ n ∧ n ≤ 5000) : ∀ k, k ≤ 3 → -20000 ≤ lackK m n k ∧ lackK m n k ≤ 5000
  | 0, _ => by simp only [lackK]; omega
  | 1, _ => by have := (mix_bd h hn (k := 0) (by decide)).2.1; simp only [lackK]; omega
  | 2, _ => by have := (mix_bd h hn (k := 0) (by decide)).2.1; have := (mix_bd h hn (k := 1) (by decide)).2.1; simp only [lackK]; omega
  | 3, _ => by have := (mix_bd h hn (k := 0) (by decide)).2.1; have := (mix_bd h hn (k := 1) (by decide)).2.1; have := (mix_bd h hn (k := 2) (by decide)).2.1; simp only [lackK]; omega
/-- what the second loop keeps. -/
def MixAt (z : Int) (m : Nat → Int) (n : Int) (l : Nat) (o r : Nat → Int) : Prop := l ≤ 2 ∧ (∀ j, j < 3 → 0 ≤ o j ∧ o j ≤ 5002 - l) ∧ fillZ z l o r = needM m n
theorem MixAt.step {z : Int} {m : Nat → Int} {n : Int} {l : Nat} {o r : Nat → Int} (h : MixAt z m n (l + 1) o r) : MixAt z m n l (upd o (bst (r 0) (r 1) (r 2)) (o (bst (r 0) (r 1) (r 2)) + 1)) (upd r (bst (r 0) (r 1) (r 2)) z) := by
  obtain ⟨h1, h2, h3⟩ := h
  refine ⟨by omega, fun j hj => ?_, h3⟩
  unfold upd
  split
  · have := h2 _ (bst_lt (r 0) (r 1) (r 2)); omega
  · have := h2 j hj; omega
theorem MixAt.start {m : Nat → Int} {n : Int} (h : MixOk m) (hn : 0 ≤ n ∧ n ≤ 5000) {z : Int} (hz : z = 0 ∨ z = -1) {o r : Nat → Int} (ho : ∀ j, j < 3 → qL m n j = o j) (hr : ∀ j, j < 3 → rL m n j = r j) : ∃ l : Nat, lackK m n 3 = l ∧ ∃ o' r', (∀ j, j < 3 → o j = o' j) ∧ (∀ j, j < 3 → r j = r' j) ∧ MixAt z m n l o' r' := by
  obtain ⟨h0, h1, h2⟩ := lackM_bd h hn
  refine ⟨(lackM m n).toNat, by show lackM m n = _; omega, qL m n, rL m n, fun j hj => (ho j hj).symm, fun j hj => (hr j hj).symm, by omega, fun j hj => ?_, ?_⟩
  · have := (mix_bd h hn hj).2.1; omega
  · rcases hz with rfl | rfl
    · exact needM_zero h hn
    · rfl
end Go.Proofs.Ytgpnimbgckajlaa
