/-
  The contracts of spec.l03Bow and impl.ValidBow: whether a bow is valid. Conditions stand at each.
-/
import Derived.Test.YtjeccdmhpbaabaaRows
import Derived.Test.YtjeccdmhpbaabaaNums
import Derived.Test.YtjeccdmhpbaabaaIn
import Derived.Shelf.Abstract
namespace Go.Proofs.Ytjeccdmhpbaabaa
open Go Go.ChangeShapes Go.WideShapes Go.ChangeAt Go.RowKit
set_option linter.unusedVariables false
set_option linter.unusedSimpArgs false
set_option maxRecDepth 100000
set_option maxHeartbeats 2000000

/-- what a test answers that may make blocks of its own. -/
def Test (p : Prop) (w : World) (e : Ending) (w' : World) : Prop :=
  Below w.heap.size w w' ∧ ((p ∧ e = .returned (.bool true)) ∨ (¬ p ∧ e = .returned (.bool false)))
theorem Test.iff {p q : Prop} {w w' : World} {e : Ending} (h : Test p w e w') (i : p ↔ q) : Test q w e w' := ⟨h.1, h.2.imp (fun x => ⟨i.1 x.1, x.2⟩) (fun x => ⟨fun y => x.1 (i.2 y), x.2⟩)⟩

def InR (c : Nat → Int) (j : Nat) : Prop := 0 ≤ c j ∧ c j ≤ 1000
def Bent (c : Nat → Int) (j : Nat) : Prop := c (j + 1) - c j ≤ c j - c (j - 1)
def Bow (n : Nat) (c : Nat → Int) : Prop := (3 ≤ n ∧ n ≤ 40) ∧ (c 0 = 0 ∧ c (n - 1) = 0) ∧ (∀ j, j < n → InR c j) ∧ ∀ j, 1 ≤ j → j < n - 1 → Bent c j

theorem rdTwo {w : World} {B n : Nat} {b off : Nat} {c : Nat → Int} (h : RdK .i64 w B (some ⟨b, off, none⟩) n c) {k : Nat} (hk : k < n) : w.cell? ⟨b, off + k, none⟩ = some (.int .i64 (c k)) := by
  obtain ⟨b', off', e, _, h'⟩ := h (by omega)
  injection e with e
  injection e with e1 e2 _
  subst e1 e2
  exact h' k hk

theorem inRange_any (A : Option Addr) (n cap k : Nat) (c : Nat → Int) (w : World) (hk : k < n) (hn : n ≤ 1048577) (hr : RdK .i64 w w.heap.size A n c) :
    Calls Try.prog 95 #[.slice A n cap, .int .i64 (k : Int)] w (Test (InR c k) w) := by
  obtain ⟨b, off, rfl, hbl, c0⟩ := rdInt64 hr hk
  clear hr
  by_cases h1 : 0 ≤ c k
  · have d1 : decide (0 ≤ c k) = true := by simpa using h1
    by_cases h2 : c k ≤ 1000
    · have d2 : decide (c k ≤ 1000) = true := by simpa using h2
      go_enter Try.func95, Try.ntmps95
      go_wp2
      go_ret
      exact ⟨Below.refl _ _, .inl ⟨⟨h1, h2⟩, rfl⟩⟩
    · have d2 : decide (c k ≤ 1000) = false := by simpa using h2
      go_enter Try.func95, Try.ntmps95
      go_wp2
      go_ret
      exact ⟨Below.refl _ _, .inr ⟨fun h => by have := h.2; omega, rfl⟩⟩
  · have d1 : decide (0 ≤ c k) = false := by simpa using h1
    go_enter Try.func95, Try.ntmps95
    go_wp2
    go_ret
    exact ⟨Below.refl _ _, .inr ⟨fun h => by have := h.1; omega, rfl⟩⟩

theorem isBent_any (A : Option Addr) (n cap k : Nat) (c : Nat → Int) (w : World) (hk1 : 1 ≤ k) (hk : k + 1 < n) (hn : n ≤ 1048577) (hr : RdK .i64 w w.heap.size A n c) (hin : ∀ j, j < n → InR c j) :
    Calls Try.prog 96 #[.slice A n cap, .int .i64 (k : Int)] w (Test (Bent c k) w) := by
  obtain ⟨b, off, rfl, hbl, c0⟩ := rdInt64 hr (show k < n by omega)
  have c1 := rdTwo hr hk
  have c2 := rdTwo hr (show k - 1 < n by omega)
  have r0 := hin k (by omega)
  have r1 := hin (k + 1) (by omega)
  have r2 := hin (k - 1) (by omega)
  obtain ⟨x0, hx0⟩ : ∃ x, x = c k := ⟨_, rfl⟩
  obtain ⟨x1, hx1⟩ : ∃ x, x = c (k + 1) := ⟨_, rfl⟩
  obtain ⟨x2, hx2⟩ : ∃ x, x = c (k - 1) := ⟨_, rfl⟩
  unfold InR at r0 r1 r2
  rw [show Bent c k = (c (k + 1) - c k ≤ c k - c (k - 1)) from rfl]
  rw [← hx0] at c0 r0
  rw [← hx1] at c1 r1
  rw [← hx2] at c2 r2
  rw [← hx0, ← hx1, ← hx2]
  clear hr hin hx0 hx1 hx2
  have s1 : IntKind.i64.wrap ((k : Int) - 1) = (k : Int) - 1 := IntWalk.i64_in _ (by omega)
  have s2 : 0 ≤ (k : Int) - 1 := by omega
  have s3 : ((k : Int) - 1).toNat = k - 1 := by omega
  have s4 : (k : Int) - 1 < (n : Int) := by omega
  have s5 : IntKind.i64.wrap ((k : Int) + 1) = (k : Int) + 1 := IntWalk.i64_in _ (by omega)
  have s6 : ((k : Int) + 1).toNat = k + 1 := by omega
  have s7 : (k : Int) + 1 < (n : Int) := by omega
  have s8 : 0 ≤ (k : Int) + 1 := by omega
  have s9 : (k : Int) < (n : Int) := by omega
  have w1 : IntKind.i64.wrap (x1 - x0) = x1 - x0 := IntWalk.i64_in _ (by omega)
  have w2 : IntKind.i64.wrap (x0 - x2) = x0 - x2 := IntWalk.i64_in _ (by omega)
  by_cases h : x1 - x0 ≤ x0 - x2
  · have d : decide (x1 - x0 ≤ x0 - x2) = true := by simpa using h
    have H := Lib.hid h
    clear h
    go_enter Try.func96, Try.ntmps96
    go_wp2
    go_quiet (fail)
    go_wp2
    go_ret
    exact ⟨below_drewN' (Below.refl _ _) _, .inl ⟨H.out, rfl⟩⟩
  · have d : decide (x1 - x0 ≤ x0 - x2) = false := by simpa using h
    have H := Lib.hid h
    clear h
    go_enter Try.func96, Try.ntmps96
    go_wp2
    go_quiet (fail)
    go_wp2
    go_ret
    exact ⟨below_drewN' (Below.refl _ _) _, .inr ⟨fun h => by have := H.out; omega, rfl⟩⟩

theorem areAll_any (f : FuncId) (A : Option Addr) (n cap a b : Nat) (p : Nat → Prop) (w : World) (hb : b ≤ 1048577) (ha : a ≤ 1048577) (hE : Enters Try.prog f)
    (hF : ∀ (W : World) (k : Nat), Below w.heap.size w W → a ≤ k → k < b → Calls Try.prog f #[.slice A n cap, .int .i64 (k : Int)] W (Test (p k) W)) :
    Calls Try.prog 94 #[.int .i64 (a : Int), .int .i64 (b : Int), .func (.func f) #[.slice A n cap] #[]] w (Test (∀ j, a ≤ j → j < b → p j) w) := by
  have HF := Lib.hid hF
  clear hF
  unfold Enters at hE
  go_enter Try.func94, Try.ntmps94
  go_wp2
  go_loopw [7] (fun t7 wr => ∃ k : Nat, a ≤ k ∧ (k ≤ b ∨ k = a) ∧ t7 = .int .i64 k ∧ Below w.heap.size w wr ∧ ∀ j, a ≤ j → j < k → p j) (fun t7 wr => b - (intOf t7).toNat)
  case atStart => exact ⟨a, Nat.le_refl _, .inr rfl, rfl, Below.refl _ _, fun j h1 h2 => by omega⟩
  case round =>
    obtain ⟨k, hk1, hk2, rfl, B, hall⟩ := hrel
    have HA := Lib.hid hall
    clear hall
    by_cases hlt : k < b
    · go_wp2_with fail
      refine (HF.out _ k B hk1 hlt).mono ?_
      rintro e w1 ⟨hb1, ⟨h, rfl⟩ | ⟨h, rfl⟩⟩
      · have H := Lib.hid h
        clear h
        have B1 := B.trans (hb1.mono B.size)
        clear hk2
        go_wp2
        exact ⟨⟨k + 1, by omega, by omega, by first | go_num | simp, B1, fun j h1 h2 => by
          by_cases e : j = k
          · subst e; exact H.out
          · exact HA.out j h1 (by omega)⟩, by simp [intOf]; omega⟩
      · have H := Lib.hid h
        clear h
        have B1 := B.trans (hb1.mono B.size)
        clear hk2
        go_wp2
        go_ret
        exact ⟨B1, .inr ⟨fun h => H.out (h k hk1 hlt), rfl⟩⟩
    · clear hk2
      go_wp2
      go_ret
      exact ⟨B, .inl ⟨fun j h1 h2 => HA.out j h1 (by omega), rfl⟩⟩

theorem entersRange : Enters Try.prog 95 := enters_of Try.func95 (by kernel_rfl) rfl
theorem entersBent : Enters Try.prog 96 := enters_of Try.func96 (by kernel_rfl) rfl
theorem allRange (A : Option Addr) (n cap : Nat) (c : Nat → Int) (w : World) (hn : n ≤ 1048577) (hr : RdK .i64 w w.heap.size A n c) :
    Calls Try.prog 94 #[.int .i64 0, .int .i64 (n : Int), .func (.func 95) #[.slice A n cap] #[]] w (Test (∀ j, j < n → InR c j) w) :=
  (areAll_any _ A n cap 0 n (InR c) w hn (by omega) entersRange (fun W k hb _ hk => inRange_any A n cap k c W hk hn ((hr.below hb).mono hb.size))).mono
    fun e w' h => h.iff ⟨fun h j hj => h j (Nat.zero_le _) hj, fun h j _ hj => h j hj⟩
theorem allBent (A : Option Addr) (n cap : Nat) (c : Nat → Int) (w : World) (hn : n ≤ 1048577) (h1 : 1 ≤ n) (hr : RdK .i64 w w.heap.size A n c) (hin : ∀ j, j < n → InR c j) :
    Calls Try.prog 94 #[.int .i64 1, .int .i64 ((n : Int) - 1), .func (.func 96) #[.slice A n cap] #[]] w (Test (∀ j, 1 ≤ j → j < n - 1 → Bent c j) w) := by
  rw [show (n : Int) - 1 = ((n - 1 : Nat) : Int) by omega]
  exact areAll_any _ A n cap 1 (n - 1) (Bent c) w (by omega) (by omega) entersBent (fun W k hb h1 hk => isBent_any A n cap k c W h1 (by omega) hn ((hr.below hb).mono hb.size) hin)

theorem validBow_any (A : Option Addr) (n cap : Nat) (c : Nat → Int) (w : World) (hn : n ≤ 1048577) (hr : RdK .i64 w w.heap.size A n c) :
    Calls Try.prog 31 #[.slice A n cap] w (Test (Bow n c) w) := by
  have hmf : ∀ (fn : Fn) (first cap : Array Value) (w : World), (Instr.makeFunc fn first cap).run Try.prog w = .ok (.func fn first cap) w := fun _ _ _ _ => rfl
  by_cases h3 : 3 ≤ n
  case neg =>
    have d1 : decide (n < 3) = true := by simp; omega
    go_enter Try.func31, Try.ntmps31
    go_wp2
    go_ret
    exact ⟨Below.refl _ _, .inr ⟨fun h => by have := h.1; omega, rfl⟩⟩
  have d1 : decide (n < 3) = false := by simp; omega
  by_cases h40 : n ≤ 40
  case neg =>
    have d6 : decide (40 < n) = true := by simp; omega
    go_enter Try.func31, Try.ntmps31
    go_wp2
    go_ret
    exact ⟨Below.refl _ _, .inr ⟨fun h => by have := h.1; omega, rfl⟩⟩
  have d6 : decide (40 < n) = false := by simp; omega
  have HR := Lib.hid hr
  obtain ⟨b, off, rfl, hbl, c0⟩ := rdInt64 hr (show 0 < n by omega)
  have c1 := rdTwo hr (show n - 1 < n by omega)
  rw [Nat.add_zero] at c0
  clear hr
  have s1 : IntKind.i64.wrap ((n : Int) - 1) = (n : Int) - 1 := IntWalk.i64_in _ (by omega)
  have s2 : 0 ≤ (n : Int) - 1 := by omega
  have s3 : ((n : Int) - 1).toNat = n - 1 := by omega
  have s4 : (n : Int) - 1 < (n : Int) := by omega
  have s0 : 0 < n := by omega
  have e1 : (n : Int) - 1 = ((n - 1 : Nat) : Int) := by omega
  have E1 := Lib.hid e1
  clear e1
  by_cases z0 : c 0 = 0
  case neg =>
    have b0 : (c 0 != 0) = true := by simpa using z0
    go_enter Try.func31, Try.ntmps31
    go_wp2
    go_ret
    exact ⟨Below.refl _ _, .inr ⟨fun h => z0 h.2.1.1, rfl⟩⟩
  have b0 : (c 0 != 0) = false := by simpa using z0
  have Z0 := Lib.hid z0
  clear z0
  by_cases z1 : c (n - 1) = 0
  case neg =>
    have b1 : (c (n - 1) != 0) = true := by simpa using z1
    go_enter Try.func31, Try.ntmps31
    go_wp2
    go_ret
    exact ⟨Below.refl _ _, .inr ⟨fun h => z1 h.2.1.2, rfl⟩⟩
  have b1 : (c (n - 1) != 0) = false := by simpa using z1
  have Z1 := Lib.hid z1
  clear z1
  go_enter Try.func31, Try.ntmps31
  go_wp2_with fail
  refine (allRange _ n cap c _ hn HR.out).mono ?_
  rintro e w1 ⟨hb, ⟨h, rfl⟩ | ⟨h, rfl⟩⟩
  case inr =>
    have H := Lib.hid h
    clear h
    go_wp2_with fail
    go_ret
    exact ⟨hb, .inr ⟨fun h => H.out h.2.2.1, rfl⟩⟩
  have H := Lib.hid h
  clear h
  go_wp2_with fail
  refine (allBent _ n cap c _ hn (by omega) ((HR.out.below hb).mono hb.size) H.out).mono ?_
  rintro e w2 ⟨hb2, ⟨h, rfl⟩ | ⟨h, rfl⟩⟩
  · have H2 := Lib.hid h
    clear h
    go_wp2_with fail
    go_ret
    exact ⟨nxt hb hb2, .inl ⟨⟨⟨h3, h40⟩, ⟨Z0.out, Z1.out⟩, H.out, H2.out⟩, rfl⟩⟩
  · have H2 := Lib.hid h
    clear h
    go_wp2_with fail
    go_ret
    exact ⟨nxt hb hb2, .inr ⟨fun h => H2.out h.2.2.2, rfl⟩⟩

theorem l03Bow_any (A : Option Addr) (n cap : Nat) (c : Nat → Int) (w : World) (hn : n ≤ 1048577) (hr : RdK .i64 w w.heap.size A n c) :
    Calls Try.prog 93 #[.slice A n cap] w (Test (Bow n c) w) := by
  by_cases h3 : 3 ≤ n ∧ n ≤ 40
  case neg =>
    go_enter Try.func93, Try.ntmps93
    go_wp2_with (go_at_call 97; refine (in_no _ _ _ _ (by omega)).mono ?_; rintro e w1 ⟨rfl, rfl⟩)
    go_ret
    exact ⟨Below.refl _ _, .inr ⟨fun h => h3 h.1, rfl⟩⟩
  have H3 := Lib.hid h3
  have hl3 : 3 ≤ n := h3.1
  have hl40 : n ≤ 40 := h3.2
  clear h3
  have HR := Lib.hid hr
  obtain ⟨b, off, rfl, hbl, c0⟩ := rdInt64 hr (show 0 < n by omega)
  have c1 := rdTwo hr (show n - 1 < n by omega)
  rw [Nat.add_zero] at c0
  clear hr
  have s1 : IntKind.i64.wrap ((n : Int) - 1) = (n : Int) - 1 := IntWalk.i64_in _ (by omega)
  have s2 : 0 ≤ (n : Int) - 1 := by omega
  have s3 : ((n : Int) - 1).toNat = n - 1 := by omega
  have s4 : (n : Int) - 1 < (n : Int) := by omega
  have s0 : 0 < n := by omega
  by_cases z0 : c 0 = 0
  case neg =>
    have b0 : (c 0 != 0) = true := by simpa using z0
    go_enter Try.func93, Try.ntmps93
    go_wp2_with (go_at_call 97; refine (in_yes _ _ _ _ (by omega) (by omega)).mono ?_; rintro e w1 ⟨rfl, rfl⟩)
    go_ret
    exact ⟨Below.refl _ _, .inr ⟨fun h => z0 h.2.1.1, rfl⟩⟩
  have b0 : (c 0 != 0) = false := by simpa using z0
  have Z0 := Lib.hid z0
  clear z0
  by_cases z1 : c (n - 1) = 0
  case neg =>
    have b1 : (c (n - 1) != 0) = true := by simpa using z1
    go_enter Try.func93, Try.ntmps93
    go_wp2_with (go_at_call 97; refine (in_yes _ _ _ _ (by omega) (by omega)).mono ?_; rintro e w1 ⟨rfl, rfl⟩)
    go_ret
    exact ⟨Below.refl _ _, .inr ⟨fun h => z1 h.2.1.2, rfl⟩⟩
  have b1 : (c (n - 1) != 0) = false := by simpa using z1
  have Z1 := Lib.hid z1
  clear z1
  go_enter Try.func93, Try.ntmps93
  go_wp2_with (go_at_call 97; refine (in_yes _ _ _ _ (by omega) (by omega)).mono ?_; rintro e w1 ⟨rfl, hw1⟩; replace hw1 := hw1.symm; subst hw1)
  clear c0 c1 b0 b1 s1 s2 s3 s4
  go_loopw [4] (fun t4 wr => ∃ k : Nat, k ≤ n ∧ t4 = .int .i64 k ∧ Below w.heap.size w wr ∧ ∀ j, j < k → InR c j) (fun t4 wr => n - (intOf t4).toNat)
  case atStart => exact ⟨0, by omega, rfl, Below.refl _ _, fun j hj => by omega⟩
  case round =>
    obtain ⟨k, hk, rfl, B, hall⟩ := hrel
    have HA := Lib.hid hall
    clear hall
    obtain ⟨wo, rfl⟩ : ∃ wo : World, wo = wr := ⟨_, rfl⟩
    by_cases hlt : k < n
    · have ck := rdTwo (HR.out.below B) hlt
      by_cases hi : 0 ≤ c k ∧ c k ≤ 1000
      · go_wp2_with (go_at_call 97; refine (in_yes _ _ _ _ (by omega) (by omega)).mono ?_; rintro e w1 ⟨rfl, hw1⟩; replace hw1 := hw1.symm; subst hw1)
        exact ⟨⟨k + 1, by omega, by first | go_num | simp, B, fun j hj => by
          by_cases e : j = k
          · subst e; exact hi
          · exact HA.out j (by omega)⟩, by simp [intOf]; omega⟩
      · go_wp2_with (go_at_call 97; refine (in_no _ _ _ _ (by omega)).mono ?_; rintro e w1 ⟨rfl, hw1⟩; replace hw1 := hw1.symm; subst hw1)
        go_ret
        exact ⟨B, .inr ⟨fun h => hi (h.2.2.1 k hlt), rfl⟩⟩
    · obtain rfl : k = n := by omega
      go_wp2
      go_loopw [5] (fun t5 wr => ∃ m : Nat, 2 ≤ m ∧ m ≤ k ∧ t5 = .int .i64 m ∧ Below w.heap.size w wr ∧ ∀ j, 1 ≤ j → j + 1 < m → Bent c j) (fun t5 wr => k - (intOf t5).toNat)
      case atStart => exact ⟨2, by omega, by omega, rfl, B, fun j h1 h2 => by omega⟩
      case round =>
        clear B
        obtain ⟨m, hm2, hm, rfl, B, hall⟩ := hrel
        have HB := Lib.hid hall
        clear hall
        by_cases hlt : m < k
        · have c0 := rdTwo (HR.out.below B) hlt
          have c1 := rdTwo (HR.out.below B) (show m - 1 < k by omega)
          have c2 := rdTwo (HR.out.below B) (show m - 2 < k by omega)
          have r0 := HA.out m (by omega)
          have r1 := HA.out (m - 1) (by omega)
          have r2 := HA.out (m - 2) (by omega)
          have hbe : Bent c (m - 1) ↔ (c m - c (m - 1) ≤ c (m - 1) - c (m - 2)) := by
            unfold Bent
            rw [show m - 1 + 1 = m by omega, show m - 1 - 1 = m - 2 by omega]
          have HBE := Lib.hid hbe
          clear hbe
          obtain ⟨x0, hx0⟩ : ∃ x, x = c m := ⟨_, rfl⟩
          obtain ⟨x1, hx1⟩ : ∃ x, x = c (m - 1) := ⟨_, rfl⟩
          obtain ⟨x2, hx2⟩ : ∃ x, x = c (m - 2) := ⟨_, rfl⟩
          unfold InR at r0 r1 r2
          rw [← hx0] at c0 r0
          rw [← hx1] at c1 r1
          rw [← hx2] at c2 r2
          rw [← hx0, ← hx1, ← hx2] at HBE
          clear hx0 hx1 hx2
          have s1 : IntKind.i64.wrap ((m : Int) - 1) = (m : Int) - 1 := IntWalk.i64_in _ (by omega)
          have s2 : 0 ≤ (m : Int) - 1 := by omega
          have s3 : ((m : Int) - 1).toNat = m - 1 := by omega
          have s4 : (m : Int) - 1 < (k : Int) := by omega
          have t1 : IntKind.i64.wrap ((m : Int) - 2) = (m : Int) - 2 := IntWalk.i64_in _ (by omega)
          have t2 : 0 ≤ (m : Int) - 2 := by omega
          have t3 : ((m : Int) - 2).toNat = m - 2 := by omega
          have t4 : (m : Int) - 2 < (k : Int) := by omega
          have w1 : IntKind.i64.wrap (x0 - x1) = x0 - x1 := IntWalk.i64_in _ (by omega)
          have w2 : IntKind.i64.wrap (x1 - x2) = x1 - x2 := IntWalk.i64_in _ (by omega)
          by_cases h : x0 - x1 ≤ x1 - x2
          · have d : decide (x1 - x2 < x0 - x1) = false := by simp; omega
            have H := Lib.hid h
            clear h
            go_wp2
            go_quiet (fail)
            go_wp2
            exact ⟨⟨m + 1, by omega, by omega, by first | go_num | simp, below_drewN' B _, fun j h1 h2 => by
              by_cases e : j = m - 1
              · subst e; exact HBE.out.2 H.out
              · exact HB.out j h1 (by omega)⟩, by simp [intOf]; omega⟩
          · have d : decide (x1 - x2 < x0 - x1) = true := by simp; omega
            have H := Lib.hid h
            clear h
            go_wp2
            go_quiet (fail)
            go_wp2
            go_ret
            exact ⟨below_drewN' B _, .inr ⟨fun h => by have := HBE.out.1 (h.2.2.2 (m - 1) (by omega) (by omega)); have := H.out; omega, rfl⟩⟩
        · obtain rfl : m = k := by omega
          go_wp2
          go_ret
          exact ⟨B, .inl ⟨⟨H3.out, ⟨Z0.out, Z1.out⟩, HA.out, fun j h1 h2 => HB.out j h1 (by omega)⟩, rfl⟩⟩
end Go.Proofs.Ytjeccdmhpbaabaa
