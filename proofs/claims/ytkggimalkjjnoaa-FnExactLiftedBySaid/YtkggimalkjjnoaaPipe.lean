/-
  Cells beside each other, and ways: spec.l05Near, impl.stepsBetween, impl.pipe's rules. Conditions stand at each.
-/
import Derived.Test.YtkggimalkjjnoaaRows
import Derived.Test.YtkggimalkjjnoaaIs
import Derived.Test.YtkggimalkjjnoaaResCell
import Derived.Test.YtkggimalkjjnoaaCellL
import Derived.Test.YtkggimalkjjnoaaDrew
import Derived.Test.YtkggimalkjjnoaaIv
import Derived.Deep.QuietTactic
import Derived.BigQuiet
import Derived.Deep.Cut
import Derived.Deep.DeepCutAuto
import Derived.Deep.RegionHeld3
import Derived.Shelf.Abstract
namespace Go.Proofs.Ytkggimalkjjnoaa
open Go Go.ChangeShapes Go.WideShapes Go.ChangeAt Go.RowKit Go.Shelf
set_option linter.unusedVariables false
set_option linter.unusedSimpArgs false
set_option maxRecDepth 100000
set_option maxHeartbeats 4000000
def ab12 (a : Int) : Int := if a < 0 then -a else a
theorem steps12 (x y p q : Int) (w : World) (hx : 0 ≤ x ∧ x ≤ 11) (hy : 0 ≤ y ∧ y ≤ 11) (hp : 0 ≤ p ∧ p ≤ 11) (hq : 0 ≤ q ∧ q ≤ 11) :
    Calls Try.prog 244 #[.agg #[.int .i8 x, .int .i8 y], .agg #[.int .i8 p, .int .i8 q]] w fun e w' => e = .returned (.int .i64 (ab12 (x - p) + ab12 (y - q))) ∧ Below w.heap.size w w' := by
  have B := al (al (Below.refl w.heap.size w) (.cells #[.int .i8 x, .int .i8 y] 81)) (.cells #[.int .i8 p, .int .i8 q] 81)
  have e1 : IntKind.i8.wrap (x - p) = x - p := IntWalk.i8_in _ (by omega)
  have e2 : IntKind.i8.wrap (p - x) = p - x := IntWalk.i8_in _ (by omega)
  have e3 : IntKind.i8.wrap (y - q) = y - q := IntWalk.i8_in _ (by omega)
  have e4 : IntKind.i8.wrap (q - y) = q - y := IntWalk.i8_in _ (by omega)
  by_cases hxp : x < p <;> by_cases hyq : y < q
  · have HM := Lib.hid (show ab12 (x - p) + ab12 (y - q) = (p - x) + (q - y) by unfold ab12; rw [if_pos (by omega), if_pos (by omega)]; omega)
    have d1 : x - p < p - x := by omega
    have d2 : y - q < q - y := by omega
    have d3 : max (x - p) (p - x) = p - x := by omega
    have d4 : max (y - q) (q - y) = q - y := by omega
    have e5 : IntKind.i8.wrap (p - x + (q - y)) = p - x + (q - y) := IntWalk.i8_in _ (by omega)
    go_enter Try.func244, Try.ntmps244
    go_wp2_with fail
    go_ret
    exact ⟨by rw [HM.out]; rfl, B⟩
  · have HM := Lib.hid (show ab12 (x - p) + ab12 (y - q) = (p - x) + (y - q) by unfold ab12; rw [if_pos (by omega), if_neg (by omega)]; omega)
    have d1 : x - p < p - x := by omega
    have d2 : ¬ y - q < q - y := by omega
    have d3 : max (x - p) (p - x) = p - x := by omega
    have d4 : max (y - q) (q - y) = y - q := by omega
    have e5 : IntKind.i8.wrap (p - x + (y - q)) = p - x + (y - q) := IntWalk.i8_in _ (by omega)
    go_enter Try.func244, Try.ntmps244
    go_wp2_with fail
    go_ret
    exact ⟨by rw [HM.out]; rfl, B⟩
  · have HM := Lib.hid (show ab12 (x - p) + ab12 (y - q) = (x - p) + (q - y) by unfold ab12; rw [if_neg (by omega), if_pos (by omega)]; omega)
    have d1 : ¬ x - p < p - x := by omega
    have d2 : y - q < q - y := by omega
    have d3 : max (x - p) (p - x) = x - p := by omega
    have d4 : max (y - q) (q - y) = q - y := by omega
    have e5 : IntKind.i8.wrap (x - p + (q - y)) = x - p + (q - y) := IntWalk.i8_in _ (by omega)
    go_enter Try.func244, Try.ntmps244
    go_wp2_with fail
    go_ret
    exact ⟨by rw [HM.out]; rfl, B⟩
  · have HM := Lib.hid (show ab12 (x - p) + ab12 (y - q) = (x - p) + (y - q) by unfold ab12; rw [if_neg (by omega), if_neg (by omega)])
    have d1 : ¬ x - p < p - x := by omega
    have d2 : ¬ y - q < q - y := by omega
    have d3 : max (x - p) (p - x) = x - p := by omega
    have d4 : max (y - q) (q - y) = y - q := by omega
    have e5 : IntKind.i8.wrap (x - p + (y - q)) = x - p + (y - q) := IntWalk.i8_in _ (by omega)
    go_enter Try.func244, Try.ntmps244
    go_wp2_with fail
    go_ret
    exact ⟨by rw [HM.out]; rfl, B⟩

def nearP (a b a' b' : Int) : Prop := ab12 (a - a') + ab12 (b - b') = 1
theorem max12 (a b M : Int) (w : World) (h : (b < a ∧ M = a) ∨ (a ≤ b ∧ M = b)) : Calls Try.prog 147 #[.int .i64 a, .int .i64 b] w fun e w' => e = .returned (.int .i64 M) ∧ w' = w := by
  rcases h with ⟨h, rfl⟩ | ⟨h, rfl⟩
  · have d : decide (b < M) = true := by simpa using h
    go_enter Try.func147, Try.ntmps147
    go_wp2_with fail
    go_ret
    exact ⟨rfl, rfl⟩
  · have d : decide (M < a) = false := by simpa using h
    go_enter Try.func147, Try.ntmps147
    go_wp2_with fail
    go_ret
    exact ⟨rfl, rfl⟩
theorem l05Near_any (x y p q : Int) (r : Bool) (w : World) (hx : 0 ≤ x ∧ x ≤ 11) (hy : 0 ≤ y ∧ y ≤ 11) (hp : 0 ≤ p ∧ p ≤ 11) (hq : 0 ≤ q ∧ q ≤ 11) (hr : r = true ↔ nearP x y p q) :
    Calls Try.prog 101 #[.agg #[.int .i8 x, .int .i8 y], .agg #[.int .i8 p, .int .i8 q]] w fun e w' => e = .returned (.bool r) ∧ Below w.heap.size w w' := by
  have B := al (al (Below.refl w.heap.size w) (.cells #[.int .i8 x, .int .i8 y] 81)) (.cells #[.int .i8 p, .int .i8 q] 81)
  have w1 : IntKind.i64.wrap x = x := IntWalk.i64_in _ (by omega)
  have w2 : IntKind.i64.wrap y = y := IntWalk.i64_in _ (by omega)
  have w3 : IntKind.i64.wrap p = p := IntWalk.i64_in _ (by omega)
  have w4 : IntKind.i64.wrap q = q := IntWalk.i64_in _ (by omega)
  have e1 : IntKind.i64.wrap (x - p) = x - p := IntWalk.i64_in _ (by omega)
  have e2 : IntKind.i64.wrap (p - x) = p - x := IntWalk.i64_in _ (by omega)
  have e3 : IntKind.i64.wrap (y - q) = y - q := IntWalk.i64_in _ (by omega)
  have e4 : IntKind.i64.wrap (q - y) = q - y := IntWalk.i64_in _ (by omega)
  have M1 := Lib.hid (fun W => max12 (x - p) (p - x) (ab12 (x - p)) W (by unfold ab12; split <;> omega))
  have M2 := Lib.hid (fun W => max12 (y - q) (q - y) (ab12 (y - q)) W (by unfold ab12; split <;> omega))
  have b1 : 0 ≤ ab12 (x - p) ∧ ab12 (x - p) ≤ 11 := by unfold ab12; split <;> omega
  have b2 : 0 ≤ ab12 (y - q) ∧ ab12 (y - q) ≤ 11 := by unfold ab12; split <;> omega
  unfold nearP at hr
  obtain ⟨u, hu⟩ : ∃ u, u = ab12 (x - p) := ⟨_, rfl⟩
  obtain ⟨v, hv⟩ : ∃ v, v = ab12 (y - q) := ⟨_, rfl⟩
  rw [← hu] at M1 b1 hr
  rw [← hv] at M2 b2 hr
  have e5 : IntKind.i64.wrap (u + v) = u + v := IntWalk.i64_in _ (by omega)
  have d : (u + v == 1) = r := by
    cases r with
    | true => simpa using hr.1 rfl
    | false => simp; intro h; have := hr.2 h; cases this
  clear hu hv hr
  go_enter Try.func101, Try.ntmps101
  go_wp2_with fail
  refine (M1.out _).mono ?_
  rintro e w1 ⟨rfl, rfl⟩
  go_wp2_with fail
  refine (M2.out _).mono ?_
  rintro e w1 ⟨rfl, rfl⟩
  go_wp2
  go_ret
  exact ⟨rfl, B⟩

def CellsIn (X Y : Int) (n : Nat) (c : Nat → Int) : Prop := ∀ j, j < n → insd X Y (c (2 * j)) (c (2 * j + 1))
def Joined (n : Nat) (c : Nat → Int) : Prop := ∀ j, 1 ≤ j → j < n → nearP (c (2 * (j - 1))) (c (2 * (j - 1) + 1)) (c (2 * j)) (c (2 * j + 1))
def WyCode (X Y : Int) (n : Nat) (c : Nat → Int) (r : Int) : Prop :=
  (100 < n ∧ r = 3) ∨ (n ≤ 100 ∧ ¬ CellsIn X Y n c ∧ r = 2) ∨ (n ≤ 100 ∧ CellsIn X Y n c ∧ ¬ Joined n c ∧ r = 4) ∨ (n ≤ 100 ∧ CellsIn X Y n c ∧ Joined n c ∧ r = 0)
theorem WyCode.one {X Y : Int} {n : Nat} {c : Nat → Int} {r s : Int} (h : WyCode X Y n c r) (k : WyCode X Y n c s) : r = s := by
  rcases h with ⟨a, rfl⟩ | ⟨a, b, rfl⟩ | ⟨a, b, d, rfl⟩ | ⟨a, b, d, rfl⟩ <;> rcases k with ⟨a', rfl⟩ | ⟨a', b', rfl⟩ | ⟨a', b', d', rfl⟩ | ⟨a', b', d', rfl⟩ <;> first | rfl | omega | exact absurd b' b | exact absurd b b' | exact absurd d' d | exact absurd d d'

theorem isShort_any (A : Option Addr) (n cap : Nat) (q : Value) (w : World) (X Y : Int) :
    Calls Try.prog 197 #[.slice A n cap, .agg #[.int .i8 X, .int .i8 Y, q]] w fun e w' => e = .returned (.bool (decide (n ≤ 100))) ∧ Below w.heap.size w w' := by
  have d : decide ((n : Int) ≤ 100) = decide (n ≤ 100) := by by_cases h : n ≤ 100 <;> simp [h] <;> omega
  have B := al (Below.refl w.heap.size w) (.cells #[.int .i8 X, .int .i8 Y, q] 34)
  go_enter Try.func197, Try.ntmps197
  go_wp2
  go_ret
  exact ⟨by first | rfl | simp, B⟩
theorem isWithin_any (A : Option Addr) (n cap : Nat) (c : Nat → Int) (q : Value) (X Y : Int) (r : Bool) (w : World) (hn : n ≤ 1048576) (hX : -128 ≤ X ∧ X ≤ 127) (hY : -128 ≤ Y ∧ Y ≤ 127) (hc : ∀ j, -128 ≤ c j ∧ c j ≤ 127) (hr : RdK .i8 w w.heap.size A (2 * n) c) (hq : r = true ↔ CellsIn X Y n c) :
    Calls Try.prog 198 #[.slice A n cap, .agg #[.int .i8 X, .int .i8 Y, q]] w fun e w' => e = .returned (.bool r) ∧ Below w.heap.size w w' := by
  have HR := Lib.hid hr
  have HC := Lib.hid hc
  have HQ := Lib.hid hq
  clear hr hc hq
  have X3 := Sq.new w X Y q 34
  have B := al (Below.refl w.heap.size w) (.cells #[.int .i8 X, .int .i8 Y, q] 34)
  go_enter Try.func198, Try.ntmps198
  go_upto_region 1 with fail
  obtain ⟨W0, hW0⟩ : ∃ W0 : World, W0 = (w.alloc (.cells #[.int .i8 X, .int .i8 Y, q] 34)) := ⟨_, rfl⟩
  rw [← hW0] at X3 B ⊢
  clear hW0
  go_wp2
  go_loopw [6, 9] (fun t6 t9 wr => ∃ k : Nat, k ≤ n ∧ t9 = .int .i64 k ∧ Below w.heap.size w wr ∧ Sq wr w.heap.size X Y q ∧ ∀ j, j < k → insd X Y (c (2 * j)) (c (2 * j + 1))) (fun t6 t9 wr => n - (intOf t9).toNat)
  case atStart => exact ⟨0, by omega, rfl, B, X3, fun j hj => by omega⟩
  case round =>
    clear B X3
    obtain ⟨k, hk, rfl, B, X3, hall⟩ := hrel
    have HA := Lib.hid hall
    clear hall
    by_cases hlt : k < n
    · have hki : (k : Int) < (n : Int) := by omega
      obtain ⟨b, off, rfl, hbl, c0, c1⟩ := rdCell (HR.out.below B) hlt
      have hbs : b < wr.heap.size := Nat.lt_of_lt_of_le hbl B.size
      obtain ⟨l3, p3, q3, r3⟩ := id X3
      have b0 := HC.out (2 * k)
      have b1 := HC.out (2 * k + 1)
      by_cases h : insd X Y (c (2 * k)) (c (2 * k + 1))
      · have HI := Lib.hid (fun W => hasCell_yes X Y (c (2 * k)) (c (2 * k + 1)) q W hX hY b0 b1 h)
        have H := Lib.hid h
        clear b0 b1 h
        go_wp2_with fail
        refine (HI.out _).mono ?_
        rintro e w2 ⟨rfl, hb⟩
        have X4 := (X3.alloc _).below hb
        have B2 := nxt (al B _) hb
        clear hb l3 p3 q3 r3 X3 B c0 c1
        go_wp2
        exact ⟨⟨k + 1, by omega, by first | go_num | simp, B2, X4, fun j hj => by
          by_cases e : j = k
          · subst e; exact H.out
          · exact HA.out j (by omega)⟩, by simp [intOf]; omega⟩
      · have HI := Lib.hid (fun W => hasCell_no X Y (c (2 * k)) (c (2 * k + 1)) q W hX hY b0 b1 h)
        have hf : r = false := by
          cases r with
          | false => rfl
          | true => exact absurd (HQ.out.1 rfl k hlt) h
        subst hf
        clear b0 b1 h HQ
        go_wp2_with fail
        refine (HI.out _).mono ?_
        rintro e w2 ⟨rfl, hb⟩
        have B2 := nxt (al B _) hb
        clear hb l3 p3 q3 r3 X3 B c0 c1
        go_wp2
        go_ret
        exact ⟨rfl, B2⟩
    · obtain rfl : k = n := by omega
      have hki : ¬ ((k : Int) < (k : Int)) := by omega
      obtain rfl : r = true := HQ.out.2 HA.out
      clear HQ
      go_wp2
      go_ret
      exact ⟨rfl, B⟩
theorem isJoined_any (A : Option Addr) (n cap : Nat) (c : Nat → Int) (q : Value) (X Y : Int) (r : Bool) (w : World) (hn : n ≤ 1048576) (hX : X ≤ 12) (hY : Y ≤ 12) (hin : CellsIn X Y n c) (hr : RdK .i8 w w.heap.size A (2 * n) c) (hq : r = true ↔ Joined n c) :
    Calls Try.prog 199 #[.slice A n cap, .agg #[.int .i8 X, .int .i8 Y, q]] w fun e w' => e = .returned (.bool r) ∧ Below w.heap.size w w' := by
  have HR := Lib.hid hr
  have HC := Lib.hid hin
  have HQ := Lib.hid hq
  clear hr hin hq
  have B := al (Below.refl w.heap.size w) (.cells #[.int .i8 X, .int .i8 Y, q] 34)
  go_enter Try.func199, Try.ntmps199
  go_upto_region 1 with fail
  obtain ⟨W0, hW0⟩ : ∃ W0 : World, W0 = (w.alloc (.cells #[.int .i8 X, .int .i8 Y, q] 34)) := ⟨_, rfl⟩
  rw [← hW0] at B ⊢
  clear hW0
  go_wp2
  go_loopw [5] (fun t5 wr => ∃ k : Nat, 1 ≤ k ∧ (k ≤ n ∨ k = 1) ∧ t5 = .int .i64 k ∧ Below w.heap.size w wr ∧ ∀ j, 1 ≤ j → j < k → nearP (c (2 * (j - 1))) (c (2 * (j - 1) + 1)) (c (2 * j)) (c (2 * j + 1))) (fun t5 wr => n - (intOf t5).toNat)
  case atStart => exact ⟨1, by omega, by omega, rfl, B, fun j h1 hj => by omega⟩
  case round =>
    clear B
    obtain ⟨k, hk1, hk, rfl, B, hall⟩ := hrel
    have HA := Lib.hid hall
    clear hall
    by_cases hlt : k < n
    · have hki : (k : Int) < (n : Int) := by omega
      obtain ⟨b, off, rfl, hbl, c0, c1⟩ := rdCell (HR.out.below B) hlt
      obtain ⟨b', off', e', hbl', d0, d1⟩ := rdCell (HR.out.below B) (show k - 1 < n by omega)
      injection e' with e'
      injection e' with e1 e2 _
      subst e1 e2
      have hi1 := HC.out k hlt
      have hi2 := HC.out (k - 1) (by omega)
      unfold insd at hi1 hi2
      have s1 : IntKind.i64.wrap ((k : Int) - 1) = (k : Int) - 1 := IntWalk.i64_in _ (by omega)
      have s2 : 0 ≤ (k : Int) - 1 := by omega
      have s3 : ((k : Int) - 1).toNat = k - 1 := by omega
      have s4 : (k : Int) - 1 < (n : Int) := by omega
      have s5 : (1 : Int) ≤ (k : Int) := by omega
      have HS := Lib.hid (fun W => steps12 (c (2 * (k - 1))) (c (2 * (k - 1) + 1)) (c (2 * k)) (c (2 * k + 1)) W (by omega) (by omega) (by omega) (by omega))
      obtain ⟨m, hm⟩ : ∃ m, m = ab12 (c (2 * (k - 1)) - c (2 * k)) + ab12 (c (2 * (k - 1) + 1) - c (2 * k + 1)) := ⟨_, rfl⟩
      have hnp : nearP (c (2 * (k - 1))) (c (2 * (k - 1) + 1)) (c (2 * k)) (c (2 * k + 1)) ↔ m = 1 := by unfold nearP; rw [hm]
      rw [← hm] at HS
      have HNP := Lib.hid hnp
      clear hi1 hi2 hm hnp hk
      by_cases h : m = 1
      · have d : (m != 1) = false := by simpa using h
        have H := Lib.hid h
        clear h
        go_wp2_with fail
        have k0 : (0 : Int) ≤ (k : Int) := by omega
        have r0 : wr.drew.cell? ⟨b, off + k * 2, none⟩ = some (.int .i8 (c (2 * k))) := c0
        go_region_held3 (fun w' => w'.cell? ⟨b, off + k * 2, none⟩ = some (.int .i8 (c (2 * k))) ∧ w'.cell? ⟨b, off + k * 2 + 1, none⟩ = some (.int .i8 (c (2 * k + 1))) ∧ w'.cell? ⟨b, off + (k - 1) * 2, none⟩ = some (.int .i8 (c (2 * (k - 1)))) ∧ w'.cell? ⟨b, off + (k - 1) * 2 + 1, none⟩ = some (.int .i8 (c (2 * (k - 1) + 1))))
          (first | exact ⟨c0, c1, d0, d1⟩ | go_keep)
          ((go_at_call 244
            with_reducible refine (HS.out _).mono ?_
            rintro e w2 ⟨rfl, hb⟩
            have B3 := nxt B.drew hb
            have hz1 := (hb.cell (p := ⟨b, off + k * 2, none⟩) (Nat.lt_of_lt_of_le hbl B.size)).trans c0
            have hz2 := (hb.cell (p := ⟨b, off + k * 2 + 1, none⟩) (Nat.lt_of_lt_of_le hbl B.size)).trans c1
            have hz3 := (hb.cell (p := ⟨b, off + (k - 1) * 2, none⟩) (Nat.lt_of_lt_of_le hbl B.size)).trans d0
            have hz4 := (hb.cell (p := ⟨b, off + (k - 1) * 2 + 1, none⟩) (Nat.lt_of_lt_of_le hbl B.size)).trans d1
            clear hb))
        go_wp2
        exact ⟨⟨k + 1, by omega, by omega, by first | go_num | simp, B3, fun j h1 hj => by
          by_cases e : j = k
          · subst e; exact HNP.out.2 H.out
          · exact HA.out j h1 (by omega)⟩, by simp [intOf]; omega⟩
      · have d : (m != 1) = true := by simpa using h
        have hf : r = false := by
          cases r with
          | false => rfl
          | true => exact absurd (HNP.out.1 (HQ.out.1 rfl k hk1 hlt)) h
        subst hf
        clear h HQ
        go_wp2_with fail
        have k0 : (0 : Int) ≤ (k : Int) := by omega
        have r0 : wr.drew.cell? ⟨b, off + k * 2, none⟩ = some (.int .i8 (c (2 * k))) := c0
        go_region_held3 (fun w' => w'.cell? ⟨b, off + k * 2, none⟩ = some (.int .i8 (c (2 * k))) ∧ w'.cell? ⟨b, off + k * 2 + 1, none⟩ = some (.int .i8 (c (2 * k + 1))) ∧ w'.cell? ⟨b, off + (k - 1) * 2, none⟩ = some (.int .i8 (c (2 * (k - 1)))) ∧ w'.cell? ⟨b, off + (k - 1) * 2 + 1, none⟩ = some (.int .i8 (c (2 * (k - 1) + 1))))
          (first | exact ⟨c0, c1, d0, d1⟩ | go_keep)
          ((go_at_call 244
            with_reducible refine (HS.out _).mono ?_
            rintro e w2 ⟨rfl, hb⟩
            have B3 := nxt B.drew hb
            have hz1 := (hb.cell (p := ⟨b, off + k * 2, none⟩) (Nat.lt_of_lt_of_le hbl B.size)).trans c0
            have hz2 := (hb.cell (p := ⟨b, off + k * 2 + 1, none⟩) (Nat.lt_of_lt_of_le hbl B.size)).trans c1
            have hz3 := (hb.cell (p := ⟨b, off + (k - 1) * 2, none⟩) (Nat.lt_of_lt_of_le hbl B.size)).trans d0
            have hz4 := (hb.cell (p := ⟨b, off + (k - 1) * 2 + 1, none⟩) (Nat.lt_of_lt_of_le hbl B.size)).trans d1
            clear hb))
        go_wp2
        go_ret
        exact ⟨rfl, B3⟩
    · have hki : ¬ ((k : Int) < (n : Int)) := by omega
      obtain rfl : r = true := HQ.out.2 (fun j h1 hj => HA.out j h1 (by omega))
      clear HQ
      go_wp2
      go_ret
      exact ⟨rfl, B⟩
end Go.Proofs.Ytkggimalkjjnoaa
