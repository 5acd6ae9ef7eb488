/-
  Lists of gangs: how they read, and the closures that ask whether one is not valid. Conditions stand at each.
-/
import Derived.Test.YtfpoikeibjojgaaDoorRows
import Derived.Test.YtfpoikeibjojgaaDoorRowsOk
namespace Go.Proofs.YtfpoikeibjojgaaDoor
open Go Go.ChangeShapes Go.WideShapes Go.ChangeAt Go.RowKit
set_option linter.unusedVariables false
set_option linter.unusedSimpArgs false
set_option maxRecDepth 100000
set_option maxHeartbeats 4000000
/-- gangs as five rows of numbers. -/
structure Gs where
  p : Nat → Int
  q : Nat → Int
  s : Nat → Int
  t : Nat → Int
  u : Nat → Int
def Gs.ok (g : Gs) (j : Nat) : Prop := GangOk (g.p j) (g.q j) (g.s j) (g.t j) (g.u j)
def Gs.bd (g : Gs) : Prop := ∀ j, (-128 ≤ g.p j ∧ g.p j ≤ 127) ∧ (-128 ≤ g.q j ∧ g.q j ≤ 127) ∧ (-128 ≤ g.s j ∧ g.s j ≤ 127) ∧ (-128 ≤ g.t j ∧ g.t j ≤ 127) ∧ (-32768 ≤ g.u j ∧ g.u j ≤ 32767)
def AllG (m : Nat) (g : Gs) : Prop := ∀ j, j < m → g.ok j
/-- n gangs from somewhere. -/
def RdG (w : World) (B : Nat) (A : Option Addr) (n : Nat) (g : Gs) : Prop :=
  0 < n → ∃ b off, A = some ⟨b, off, none⟩ ∧ b < B ∧ ∀ j, j < n → w.cell? ⟨b, off + j * 5, none⟩ = some (.int .i8 (g.p j)) ∧ w.cell? ⟨b, off + j * 5 + 1, none⟩ = some (.int .i8 (g.q j)) ∧ w.cell? ⟨b, off + j * 5 + 2, none⟩ = some (.int .i8 (g.s j)) ∧
    w.cell? ⟨b, off + j * 5 + 3, none⟩ = some (.int .i8 (g.t j)) ∧ w.cell? ⟨b, off + j * 5 + 4, none⟩ = some (.int .i16 (g.u j))
theorem RdG.below {w w' : World} {B n : Nat} {A : Option Addr} {g : Gs} (h : RdG w B A n g) (hb : Below B w w') : RdG w' B A n g := fun h0 => by
  obtain ⟨b, off, e, hl, hc⟩ := h h0
  refine ⟨b, off, e, hl, fun j hj => ?_⟩
  obtain ⟨h0, h1, h2, h3, h4⟩ := hc j hj
  exact ⟨(hb.cell (p := ⟨b, off + j * 5, none⟩) hl).trans h0, (hb.cell (p := ⟨b, off + j * 5 + 1, none⟩) hl).trans h1, (hb.cell (p := ⟨b, off + j * 5 + 2, none⟩) hl).trans h2, (hb.cell (p := ⟨b, off + j * 5 + 3, none⟩) hl).trans h3, (hb.cell (p := ⟨b, off + j * 5 + 4, none⟩) hl).trans h4⟩
theorem RdG.mono {w : World} {B B' n : Nat} {A : Option Addr} {g : Gs} (h : RdG w B A n g) (hb : B ≤ B') : RdG w B' A n g := fun h0 => by
  obtain ⟨b, off, e, hl, hc⟩ := h h0
  exact ⟨b, off, e, by omega, hc⟩
theorem RdG.at {w : World} {B n k : Nat} {A : Option Addr} {g : Gs} (h : RdG w B A n g) (hk : k < n) : ∃ b off, A = some ⟨b, off, none⟩ ∧ b < B ∧ w.cell? ⟨b, off + k * 5, none⟩ = some (.int .i8 (g.p k)) ∧ w.cell? ⟨b, off + k * 5 + 1, none⟩ = some (.int .i8 (g.q k)) ∧ w.cell? ⟨b, off + k * 5 + 2, none⟩ = some (.int .i8 (g.s k)) ∧
    w.cell? ⟨b, off + k * 5 + 3, none⟩ = some (.int .i8 (g.t k)) ∧ w.cell? ⟨b, off + k * 5 + 4, none⟩ = some (.int .i16 (g.u k)) := by
  obtain ⟨b, off, e, hl, hc⟩ := h (by omega)
  exact ⟨b, off, e, hl, hc k hk⟩
theorem gangFunc_any (p q s t u : Int) (r : Bool) (w : World) (bp : -128 ≤ p ∧ p ≤ 127) (bq : -128 ≤ q ∧ q ≤ 127) (bs : -128 ≤ s ∧ s ≤ 127) (bt : -128 ≤ t ∧ t ≤ 127) (bu : -32768 ≤ u ∧ u ≤ 32767) (hr : r = true ↔ ¬ GangOk p q s t u) :
    Calls Tryd.prog 86 #[.agg #[.int .i8 p, .int .i8 q, .int .i8 s, .int .i8 t, .int .i16 u]] w (BPost r w) := by
  obtain ⟨z, hz⟩ := dec_ex (GangOk p q s t u)
  have H := Lib.hid (fun W => implGang_any p q s t u z W bp bq bs bt bu hz)
  have he : Hid ((!z) = r) := Lib.hid (by
    rw [Bool.eq_iff_iff, hr, ← hz]
    cases z <;> simp)
  have B := al (Below.refl w.heap.size w) (.cells (gangC p q s t u) 30)
  clear hr hz
  go_enter Tryd.func86, Tryd.ntmps86
  go_wp2_with fail
  refine (H.out _).mono ?_
  rintro e w1 ⟨hb, rfl⟩
  replace B := nxt B hb
  clear hb
  go_wp2
  go_ret
  exact ⟨B, by rw [← he.out]; rfl⟩
theorem all_stepG {m : Nat} {g : Gs} (h : AllG m g) (h1 : g.ok m) : AllG (m + 1) g := all_step h h1
theorem indexFunc_gangs (A : Option Addr) (n cap : Nat) (g : Gs) (w : World) (hn : n ≤ 1048576) (hr : RdG w w.heap.size A n g) (hg : g.bd) :
    Calls Tryd.prog 115 #[.slice A n cap, .func (.func 86) #[] #[]] w fun e w' => Below w.heap.size w w' ∧ ∃ z : Int, e = .returned (.int .i64 z) ∧ ((0 ≤ z ∧ ¬ AllG n g) ∨ (z = -1 ∧ AllG n g)) := by
  have HR := Lib.hid hr
  have HG := Lib.hid hg
  clear hr hg
  go_enter Tryd.func115, Tryd.ntmps115
  go_wp2_with fail
  go_loopw [5, 8] (fun t5 t8 wr => ∃ k : Nat, k ≤ n ∧ t8 = .int .i64 k ∧ Below w.heap.size w wr ∧ AllG k g) (fun t5 t8 wr => n - (intOf t8).toNat)
  case atStart => exact ⟨0, by omega, rfl, Below.refl _ _, fun j hj => by omega⟩
  case round =>
    obtain ⟨k, hk, rfl, B, hall⟩ := hrel
    have HA := Lib.hid hall
    clear hall
    by_cases hlt : k < n
    · have hki : (k : Int) < (n : Int) := by omega
      obtain ⟨b, off, rfl, hbl, c0, c1, c2, c3, c4⟩ := (HR.out.below B).at hlt
      obtain ⟨bp, bq, bs, bt, bu⟩ := HG.out k
      obtain ⟨r, hr⟩ := dec_ex (¬ GangOk (g.p k) (g.q k) (g.s k) (g.t k) (g.u k))
      have H := Lib.hid (fun W => gangFunc_any (g.p k) (g.q k) (g.s k) (g.t k) (g.u k) r W bp bq bs bt bu hr)
      have E := Lib.hid hr
      clear hr bp bq bs bt bu
      go_wp2_with fail
      refine (H.out _).mono ?_
      rintro e w1 ⟨hb, rfl⟩
      replace B := nxt B hb
      clear hb c0 c1 c2 c3 c4
      cases r with
      | true =>
        have hno : ¬ AllG n g := fun h => E.out.1 rfl (h k hlt)
        have N := Lib.hid hno
        clear hno
        go_wp2
        go_ret
        exact ⟨B, (k : Int), rfl, .inl ⟨by omega, N.out⟩⟩
      | false =>
        have P1 : Hid (g.ok k) := Lib.hid (Classical.byContradiction fun h => by have := E.out.2 h; cases this)
        go_wp2
        exact ⟨⟨k + 1, by omega, by first | go_num | simp, B, all_stepG HA.out P1.out⟩, by simp [intOf]; omega⟩
    · obtain rfl : k = n := by omega
      have hki : ¬ ((k : Int) < (k : Int)) := by omega
      go_wp2
      go_ret
      exact ⟨B, -1, rfl, .inr ⟨rfl, HA.out⟩⟩
theorem containsFunc_gangs (A : Option Addr) (n cap : Nat) (g : Gs) (r : Bool) (w : World) (hn : n ≤ 1048576) (hr : RdG w w.heap.size A n g) (hg : g.bd) (hrr : r = true ↔ ¬ AllG n g) :
    Calls Tryd.prog 85 #[.slice A n cap, .func (.func 86) #[] #[]] w (BPost r w) := by
  have H := Lib.hid (indexFunc_gangs A n cap g w hn hr hg)
  have E := Lib.hid hrr
  clear hr hg hrr
  go_enter Tryd.func85, Tryd.ntmps85
  go_wp2_with fail
  refine H.out.mono ?_
  rintro e w1 ⟨hb, z, rfl, ⟨hz, hp⟩ | ⟨rfl, hp⟩⟩
  · obtain rfl : r = true := E.out.2 hp
    have d1 : decide (0 ≤ z) = true := by simpa using hz
    clear hp hz
    go_wp2
    go_ret
    exact ⟨hb, by first | rfl | (show Ending.returned (Value.bool (decide (0 ≤ z))) = _; rw [d1])⟩
  · obtain rfl : r = false := Bool.eq_false_iff.2 fun h => E.out.1 h hp
    clear hp
    go_wp2
    go_ret
    exact ⟨hb, rfl⟩
end Go.Proofs.YtfpoikeibjojgaaDoor
