/-
  The codes and the weights of slabs that are loaded. Conditions stand at each.
-/
import Derived.Test.YtkggimalkjjnoaaRows
import Derived.Test.YtkggimalkjjnoaaBarrowM
import Derived.Test.YtkggimalkjjnoaaSlabN
import Derived.Test.YtkggimalkjjnoaaIn
import Derived.Test.YtkggimalkjjnoaaResInt64
namespace Go.Proofs.Ytkggimalkjjnoaa
open Go Go.ChangeShapes Go.WideShapes Go.ChangeAt Go.RowKit
set_option linter.unusedVariables false
set_option linter.unusedSimpArgs false
set_option maxRecDepth 100000
set_option maxHeartbeats 4000000
/-- what a code of slabs answers. -/
def HvPost (n : Nat) (c : Nat → Int) (w : World) (e : Ending) (w' : World) : Prop := Below w.heap.size w w' ∧ ∃ r, HvCode n c r ∧ e = .returned (.int .i64 r)
def WoPost (n : Nat) (c : Nat → Int) (w : World) (e : Ending) (w' : World) : Prop :=
  Below w.heap.size w w' ∧ ((HvCode n c 0 ∧ ∃ v, e = .returned (.tuple #[v, .int .i64 0]) ∧ OwnI w' w.heap.size v (wtL c n)) ∨ ∃ r, r ≠ 0 ∧ HvCode n c r ∧ e = .returned (.tuple #[.slice none 0 0, .int .i64 r]))
def LdPost (n : Nat) (c : Nat → Int) (h : Int) (w : World) (e : Ending) (w' : World) : Prop := Below w.heap.size w w' ∧ ∃ r, LdCode n c h r ∧ e = .returned (.int .i64 r)
def WfPost (n : Nat) (c : Nat → Int) (h : Int) (w : World) (e : Ending) (w' : World) : Prop :=
  Below w.heap.size w w' ∧ ((LdCode n c h 0 ∧ ∃ v, e = .returned (.tuple #[v, .int .i64 0]) ∧ OwnI w' w.heap.size v (wtL c n)) ∨ ∃ r, r ≠ 0 ∧ LdCode n c h r ∧ e = .returned (.tuple #[.slice none 0 0, .int .i64 r]))

theorem l05Heavy_any (A : Option Addr) (n cap : Nat) (c : Nat → Int) (w : World) (hn : n ≤ 1048576) (hr : Rd8 w w.heap.size A (4 * n) c) (hc : ∀ j, -128 ≤ c j ∧ c j ≤ 127) :
    Calls Try.prog 146 #[.slice A n cap] w (HvPost n c w) := by
  have HR := Lib.hid hr
  have HC := Lib.hid hc
  clear hr hc
  go_enter Try.func146, Try.ntmps146
  go_wp2
  go_loopw [3] (fun t3 wr => ∃ k : Nat, k ≤ n ∧ t3 = .int .i64 k ∧ Below w.heap.size w wr ∧ ∀ j, j < k → wt c j ≠ 0) (fun t3 wr => n - (intOf t3).toNat)
  case atStart => exact ⟨0, by omega, rfl, Below.refl _ _, fun j hj => by omega⟩
  case round =>
    obtain ⟨k, hk, rfl, hb, hall⟩ := hrel
    have HA := Lib.hid hall
    clear hall
    by_cases hlt : k < n
    · have hki : (k : Int) < (n : Int) := by omega
      obtain ⟨b, off, rfl, hbl, c0, c1, c2, c3⟩ := (HR.out.below hb).at4 hlt
      have b2 := HC.out (4 * k + 2)
      have b3 := HC.out (4 * k + 3)
      have HL := Lib.hid (fun W => l05Weight_any (c (4 * k)) (c (4 * k + 1)) (c (4 * k + 2)) (c (4 * k + 3)) W b2 b3)
      by_cases hz : wt c k = 0
      · have HZ := Lib.hid hz
        have d : (wtOf (c (4 * k + 2)) (c (4 * k + 3)) == 0) = true := by (unfold wt at hz; simpa using hz)
        clear hz b2 b3
        go_wp2_with fail
        refine (HL.out _).mono ?_
        rintro e w1 ⟨rfl, hb1⟩
        go_wp2
        go_ret
        exact ⟨nxt hb hb1, 1, .inl ⟨fun h => h k hlt HZ.out, rfl⟩, rfl⟩
      · have HZ := Lib.hid hz
        have d : (wtOf (c (4 * k + 2)) (c (4 * k + 3)) == 0) = false := by (unfold wt at hz; simpa using hz)
        clear hz b2 b3
        go_wp2_with fail
        refine (HL.out _).mono ?_
        rintro e w1 ⟨rfl, hb1⟩
        go_wp2
        exact ⟨⟨k + 1, by omega, by first | go_num | simp, nxt hb hb1, fun j hj => by
          by_cases e : j = k
          · subst e; exact HZ.out
          · exact HA.out j (by omega)⟩, by simp [intOf]; omega⟩
    · obtain rfl : k = n := by omega
      have hki : ¬ ((k : Int) < (k : Int)) := by omega
      by_cases h10 : 10 < k
      · have d1 : decide (10 < k) = true := by simp; omega
        go_wp2
        go_ret
        exact ⟨hb, 3, .inr (.inl ⟨HA.out, h10, rfl⟩), rfl⟩
      · have d1 : decide (10 < k) = false := by simp; omega
        go_wp2
        go_ret
        exact ⟨hb, 0, .inr (.inr ⟨HA.out, by omega, rfl⟩), rfl⟩

theorem weightsOf_any (A : Option Addr) (n cap : Nat) (c : Nat → Int) (w : World) (hn : n ≤ 1048576) (hr : Rd8 w w.heap.size A (4 * n) c) (hc : ∀ j, -128 ≤ c j ∧ c j ≤ 127) :
    Calls Try.prog 148 #[.slice A n cap] w (WoPost n c w) := by
  have HR := Lib.hid hr
  have HC := Lib.hid hc
  obtain ⟨i0, hi, hz0, hz1, hz2⟩ := info_parts infoI64
  clear hr hc
  go_enter Try.func148, Try.ntmps148
  go_wp2
  go_loopw [5, 11] (fun t5 t11 wr => ∃ k : Nat, k ≤ n ∧ t11 = .int .i64 k ∧ Below w.heap.size w wr ∧ ∀ j, j < k → wt c j ≠ 0) (fun t5 t11 wr => n - (intOf t11).toNat)
  case atStart => exact ⟨0, by omega, rfl, Below.refl _ _, fun j hj => by omega⟩
  case round =>
    obtain ⟨k, hk, rfl, hb, hall⟩ := hrel
    have HA := Lib.hid hall
    clear hall
    by_cases hlt : k < n
    · have hki : (k : Int) < (n : Int) := by omega
      obtain ⟨b, off, rfl, hbl, c0, c1, c2, c3⟩ := (HR.out.below hb).at4 hlt
      have hbs : b < wr.heap.size := Nat.lt_of_lt_of_le hbl hb.size
      have b2 := HC.out (4 * k + 2)
      have b3 := HC.out (4 * k + 3)
      have HL := Lib.hid (fun W => weightOf_any (c (4 * k)) (c (4 * k + 1)) (c (4 * k + 2)) (c (4 * k + 3)) W b2 b3)
      by_cases hz : wt c k = 0
      · have HZ := Lib.hid hz
        have d : (wtOf (c (4 * k + 2)) (c (4 * k + 3)) == 0) = true := by (unfold wt at hz; simpa using hz)
        clear hz b2 b3
        go_wp2_with fail
        refine (HL.out _).mono ?_
        rintro e w1 ⟨rfl, hb1⟩
        go_wp2_with fail
        exact bodyPost_ret (results_tmp2 Try.results148 _ _ _) rfl ⟨nxt (al hb _) hb1, .inr ⟨1, by decide, .inl ⟨fun h => h k hlt HZ.out, rfl⟩, rfl⟩⟩
      · have HZ := Lib.hid hz
        have d : (wtOf (c (4 * k + 2)) (c (4 * k + 3)) == 0) = false := by (unfold wt at hz; simpa using hz)
        clear hz b2 b3
        go_wp2_with fail
        refine (HL.out _).mono ?_
        rintro e w1 ⟨rfl, hb1⟩
        go_wp2
        exact ⟨⟨k + 1, by omega, by first | go_num | simp, nxt (al hb _) hb1, fun j hj => by
          by_cases e : j = k
          · subst e; exact HZ.out
          · exact HA.out j (by omega)⟩, by simp [intOf]; omega⟩
    · obtain rfl : k = n := by omega
      have hki : ¬ ((k : Int) < (k : Int)) := by omega
      by_cases h10 : 10 < k
      · have d1 : decide (10 < k) = true := by simp; omega
        go_wp2_with fail
        exact bodyPost_ret (results_tmp2 Try.results148 _ _ _) rfl ⟨hb, .inr ⟨3, by decide, .inr (.inl ⟨HA.out, h10, rfl⟩), rfl⟩⟩
      have d1 : decide (10 < k) = false := by simp; omega
      obtain ⟨n, rfl⟩ : ∃ n, n = k := ⟨_, rfl⟩
      go_wp2
      clear d1
      go_loopw [6, 8, 24] (fun t6 t8 t24 wr' => ∃ k : Nat, k ≤ n ∧ t24 = .int .i64 k ∧ Below w.heap.size w wr' ∧ OwnI wr' w.heap.size t6 (wtL c k)) (fun t6 t8 t24 wr' => n - (intOf t24).toNat)
      case atStart => exact ⟨0, by omega, rfl, hb, OwnI.nil _ _⟩
      case round =>
        clear hb hki
        obtain ⟨k, hk, rfl, hb, O⟩ := hrel
        obtain ⟨v0, rfl⟩ : ∃ v0 : Value, v0 = u6 := ⟨_, rfl⟩
        by_cases hlt : k < n
        · have hki : (k : Int) < (n : Int) := by omega
          obtain ⟨b, off, rfl, hbl, c0, c1, c2, c3⟩ := (HR.out.below hb).at4 hlt
          have hbs : b < wr.heap.size := Nat.lt_of_lt_of_le hbl hb.size
          have b2 := HC.out (4 * k + 2)
          have b3 := HC.out (4 * k + 3)
          have HL := Lib.hid (fun W => weightOf_any (c (4 * k)) (c (4 * k + 1)) (c (4 * k + 2)) (c (4 * k + 3)) W b2 b3)
          clear b2 b3
          go_wp2_with fail
          refine (HL.out _).mono ?_
          rintro e w2 ⟨rfl, hb1⟩
          have B2 := nxt (al hb _) hb1
          have O2 := (O.alloc _).below hb1
          have hlen : (wtL c k).length ≤ k := by rw [wtL_length]; exact Nat.le_refl _
          clear hb hb1 O c0 c1 c2 c3 hbl hbs
          go_wp2_with (at_builtin; refine wpList_append_own _ rfl _ _ 29 rfl w.heap.size 2 i0 (.int .i64 0) 1 8 Try.underlying29 hi hz0 hz1 hz2 rfl (by decide) _ _ _ rfl (World.ownsRow.alloc O2 _) ⟨w2.heap.size, 0, none⟩ 1 1 [.int .i64 (wtOf (c (4 * k + 2)) (c (4 * k + 3)))] rfl rfl (ncells w2 #[.int .i64 (wtOf (c (4 * k + 2)) (c (4 * k + 3)))] 2) one64 (by have := B2.size; unfold maxLen; omega) (by have := B2.size; omega) (by have := B2.size; simp; omega) ?_; intro v' w1 own' hgr _)
          have B1 : Below w.heap.size w w1 := (al B2 _).grown hgr (al B2 _).size (fun k e => (O2.lt k e).1)
          have O1 := OwnI.snoc own'
          rw [show wtL c k ++ [wtOf (c (4 * k + 2)) (c (4 * k + 3))] = wtL c (k + 1) from (wtL_succ c k).symm] at O1
          clear own' hgr O2 B2
          go_wp2
          exact ⟨⟨k + 1, by omega, by first | go_num | simp, B1, O1⟩, by simp [intOf]; omega⟩
        · obtain rfl : k = n := by omega
          have hki : ¬ ((k : Int) < (k : Int)) := by omega
          go_wp2_with fail
          exact bodyPost_ret (results_tmp2 Try.results148 _ _ _) rfl ⟨hb, .inl ⟨.inr (.inr ⟨HA.out, by omega, rfl⟩), _, rfl, O⟩⟩
theorem l05Loads_any (A : Option Addr) (n cap : Nat) (c : Nat → Int) (h : Int) (w : World) (hn : n ≤ 1048576) (hr : Rd8 w w.heap.size A (4 * n) c) (hc : ∀ j, -128 ≤ c j ∧ c j ≤ 127) :
    Calls Try.prog 141 #[.slice A n cap, .int .i64 h] w (LdPost n c h w) := by
  have HH := Lib.hid (l05Heavy_any A n cap c w hn hr hc)
  have HR := Lib.hid hr
  have HC := Lib.hid hc
  clear hr hc
  go_enter Try.func141, Try.ntmps141
  go_wp2_with fail
  refine HH.out.mono ?_
  rintro e w1 ⟨hb, r, hr, rfl⟩
  by_cases h0 : r = 0
  case neg =>
    have d0 : (r == 0) = false := by simpa using h0
    have HV := Lib.hid hr
    have H0 := Lib.hid h0
    clear hr h0
    go_wp2_with fail
    go_loopw [5, 6] (fun t5 t6 wr => ∃ k : Nat, k ≤ n ∧ t6 = .int .i64 k ∧ Below w.heap.size w wr ∧ ∃ q : Int, t5 = .int .i64 q ∧ ((q = 0 ∧ HeavyOk n c ∧ n ≤ 10 ∧ (1 ≤ h ∧ h ≤ 600) ∧ ∀ j, j < k → wt c j ≤ h) ∨ (q ≠ 0 ∧ LdCode n c h q))) (fun t5 t6 wr => n - (intOf t6).toNat)
    case atStart => exact ⟨0, by omega, rfl, hb, _, rfl, .inr ⟨H0.out, .inl ⟨H0.out, HV.out⟩⟩⟩
    case round =>
      clear hb
      obtain ⟨k, hk, rfl, hb, q, rfl, hq⟩ := hrel
      by_cases hq0 : q = 0
      case neg =>
        have d0 : (q == 0) = false := by simpa using hq0
        have HQ : Hid (LdCode n c h q) := Lib.hid (hq.elim (fun x => absurd x.1 hq0) (fun x => x.2))
        clear hq hq0
        go_wp2
        all_goals first
          | (go_ret; exact ⟨hb, q, HQ.out, rfl⟩)
      subst hq0
      have HQ := Lib.hid (hq.elim (fun x => x.2) (fun x => absurd rfl x.1))
      clear hq
      by_cases hlt : k < n
      · have hki : (k : Int) < (n : Int) := by omega
        have dk : decide (k < n) = true := by simpa using hlt
        obtain ⟨b, off, rfl, hbl, c0, c1, c2, c3⟩ := (HR.out.below hb).at4 hlt
        have b2 := HC.out (4 * k + 2)
        have b3 := HC.out (4 * k + 3)
        have HL := Lib.hid (fun W => l05Weight_any (c (4 * k)) (c (4 * k + 1)) (c (4 * k + 2)) (c (4 * k + 3)) W b2 b3)
        clear b2 b3
        by_cases hz : h < wt c k
        · have HZ := Lib.hid hz
          have d : decide (h < wtOf (c (4 * k + 2)) (c (4 * k + 3))) = true := by (unfold wt at hz; simpa using hz)
          clear hz
          go_wp2_with fail
          refine (HL.out _).mono ?_
          rintro e w1 ⟨rfl, hb1⟩
          go_wp2
          exact ⟨⟨k + 1, by omega, by first | go_num | simp, nxt hb hb1, 6, rfl, .inr ⟨by decide, .inr ⟨HQ.out.1, HQ.out.2.1, .inr ⟨HQ.out.2.2.1, .inl ⟨fun hh => by have := hh k hlt; have := HZ.out; omega, rfl⟩⟩⟩⟩⟩, by simp [intOf]; omega⟩
        · have HZ := Lib.hid hz
          have d : decide (h < wtOf (c (4 * k + 2)) (c (4 * k + 3))) = false := by (unfold wt at hz; simpa using hz)
          clear hz
          go_wp2_with fail
          refine (HL.out _).mono ?_
          rintro e w1 ⟨rfl, hb1⟩
          go_wp2
          exact ⟨⟨k + 1, by omega, by first | go_num | simp, nxt hb hb1, 0, rfl, .inl ⟨rfl, HQ.out.1, HQ.out.2.1, HQ.out.2.2.1, fun j hj => by
            by_cases e : j = k
            · subst e; have := HZ.out; omega
            · exact HQ.out.2.2.2 j (by omega)⟩⟩, by simp [intOf]; omega⟩
      · obtain rfl : k = n := by omega
        have hki : ¬ ((k : Int) < (k : Int)) := by omega
        have dk : decide (k < k) = false := by simp
        go_wp2
        go_ret
        exact ⟨hb, 0, .inr ⟨HQ.out.1, HQ.out.2.1, .inr ⟨HQ.out.2.2.1, .inr ⟨HQ.out.2.2.2, rfl⟩⟩⟩, rfl⟩
  subst h0
  have HV : Hid (HeavyOk n c ∧ n ≤ 10) := Lib.hid (by
    rcases hr with ⟨_, e⟩ | ⟨_, _, e⟩ | ⟨a, b, _⟩
    · exact absurd e (by decide)
    · exact absurd e (by decide)
    · exact ⟨a, b⟩)
  clear hr
  by_cases hin : 1 ≤ h ∧ h ≤ 600
  · have HI := Lib.hid hin
    go_wp2_with (go_at_call 132; refine (in_yes _ _ _ _ (by omega) (by omega)).mono ?_; rintro e w2 ⟨rfl, hw1⟩; replace hw1 := hw1.symm; subst hw1)
    clear hin
    go_loopw [5, 6] (fun t5 t6 wr => ∃ k : Nat, k ≤ n ∧ t6 = .int .i64 k ∧ Below w.heap.size w wr ∧ ∃ q : Int, t5 = .int .i64 q ∧ ((q = 0 ∧ HeavyOk n c ∧ n ≤ 10 ∧ (1 ≤ h ∧ h ≤ 600) ∧ ∀ j, j < k → wt c j ≤ h) ∨ (q ≠ 0 ∧ LdCode n c h q))) (fun t5 t6 wr => n - (intOf t6).toNat)
    case atStart => exact ⟨0, by omega, rfl, hb, _, rfl, .inl ⟨rfl, HV.out.1, HV.out.2, HI.out, fun j hj => by omega⟩⟩
    case round =>
      clear hb
      obtain ⟨k, hk, rfl, hb, q, rfl, hq⟩ := hrel
      by_cases hq0 : q = 0
      case neg =>
        have d0 : (q == 0) = false := by simpa using hq0
        have HQ : Hid (LdCode n c h q) := Lib.hid (hq.elim (fun x => absurd x.1 hq0) (fun x => x.2))
        clear hq hq0
        go_wp2
        all_goals first
          | (go_ret; exact ⟨hb, q, HQ.out, rfl⟩)
      subst hq0
      have HQ := Lib.hid (hq.elim (fun x => x.2) (fun x => absurd rfl x.1))
      clear hq
      by_cases hlt : k < n
      · have hki : (k : Int) < (n : Int) := by omega
        have dk : decide (k < n) = true := by simpa using hlt
        obtain ⟨b, off, rfl, hbl, c0, c1, c2, c3⟩ := (HR.out.below hb).at4 hlt
        have b2 := HC.out (4 * k + 2)
        have b3 := HC.out (4 * k + 3)
        have HL := Lib.hid (fun W => l05Weight_any (c (4 * k)) (c (4 * k + 1)) (c (4 * k + 2)) (c (4 * k + 3)) W b2 b3)
        clear b2 b3
        by_cases hz : h < wt c k
        · have HZ := Lib.hid hz
          have d : decide (h < wtOf (c (4 * k + 2)) (c (4 * k + 3))) = true := by (unfold wt at hz; simpa using hz)
          clear hz
          go_wp2_with fail
          refine (HL.out _).mono ?_
          rintro e w1 ⟨rfl, hb1⟩
          go_wp2
          exact ⟨⟨k + 1, by omega, by first | go_num | simp, nxt hb hb1, 6, rfl, .inr ⟨by decide, .inr ⟨HQ.out.1, HQ.out.2.1, .inr ⟨HQ.out.2.2.1, .inl ⟨fun hh => by have := hh k hlt; have := HZ.out; omega, rfl⟩⟩⟩⟩⟩, by simp [intOf]; omega⟩
        · have HZ := Lib.hid hz
          have d : decide (h < wtOf (c (4 * k + 2)) (c (4 * k + 3))) = false := by (unfold wt at hz; simpa using hz)
          clear hz
          go_wp2_with fail
          refine (HL.out _).mono ?_
          rintro e w1 ⟨rfl, hb1⟩
          go_wp2
          exact ⟨⟨k + 1, by omega, by first | go_num | simp, nxt hb hb1, 0, rfl, .inl ⟨rfl, HQ.out.1, HQ.out.2.1, HQ.out.2.2.1, fun j hj => by
            by_cases e : j = k
            · subst e; have := HZ.out; omega
            · exact HQ.out.2.2.2 j (by omega)⟩⟩, by simp [intOf]; omega⟩
      · obtain rfl : k = n := by omega
        have hki : ¬ ((k : Int) < (k : Int)) := by omega
        have dk : decide (k < k) = false := by simp
        go_wp2
        go_ret
        exact ⟨hb, 0, .inr ⟨HQ.out.1, HQ.out.2.1, .inr ⟨HQ.out.2.2.1, .inr ⟨HQ.out.2.2.2, rfl⟩⟩⟩, rfl⟩
  · have HI := Lib.hid hin
    go_wp2_with (go_at_call 132; refine (in_no _ _ _ _ (by omega)).mono ?_; rintro e w2 ⟨rfl, hw1⟩; replace hw1 := hw1.symm; subst hw1)
    clear hin
    go_loopw [5, 6] (fun t5 t6 wr => ∃ k : Nat, k ≤ n ∧ t6 = .int .i64 k ∧ Below w.heap.size w wr ∧ ∃ q : Int, t5 = .int .i64 q ∧ ((q = 0 ∧ HeavyOk n c ∧ n ≤ 10 ∧ (1 ≤ h ∧ h ≤ 600) ∧ ∀ j, j < k → wt c j ≤ h) ∨ (q ≠ 0 ∧ LdCode n c h q))) (fun t5 t6 wr => n - (intOf t6).toNat)
    case atStart => exact ⟨0, by omega, rfl, hb, _, rfl, .inr ⟨by decide, .inr ⟨HV.out.1, HV.out.2, .inl ⟨HI.out, rfl⟩⟩⟩⟩
    case round =>
      clear hb
      obtain ⟨k, hk, rfl, hb, q, rfl, hq⟩ := hrel
      by_cases hq0 : q = 0
      case neg =>
        have d0 : (q == 0) = false := by simpa using hq0
        have HQ : Hid (LdCode n c h q) := Lib.hid (hq.elim (fun x => absurd x.1 hq0) (fun x => x.2))
        clear hq hq0
        go_wp2
        all_goals first
          | (go_ret; exact ⟨hb, q, HQ.out, rfl⟩)
      subst hq0
      have HQ := Lib.hid (hq.elim (fun x => x.2) (fun x => absurd rfl x.1))
      clear hq
      by_cases hlt : k < n
      · have hki : (k : Int) < (n : Int) := by omega
        have dk : decide (k < n) = true := by simpa using hlt
        obtain ⟨b, off, rfl, hbl, c0, c1, c2, c3⟩ := (HR.out.below hb).at4 hlt
        have b2 := HC.out (4 * k + 2)
        have b3 := HC.out (4 * k + 3)
        have HL := Lib.hid (fun W => l05Weight_any (c (4 * k)) (c (4 * k + 1)) (c (4 * k + 2)) (c (4 * k + 3)) W b2 b3)
        clear b2 b3
        by_cases hz : h < wt c k
        · have HZ := Lib.hid hz
          have d : decide (h < wtOf (c (4 * k + 2)) (c (4 * k + 3))) = true := by (unfold wt at hz; simpa using hz)
          clear hz
          go_wp2_with fail
          refine (HL.out _).mono ?_
          rintro e w1 ⟨rfl, hb1⟩
          go_wp2
          exact ⟨⟨k + 1, by omega, by first | go_num | simp, nxt hb hb1, 6, rfl, .inr ⟨by decide, .inr ⟨HQ.out.1, HQ.out.2.1, .inr ⟨HQ.out.2.2.1, .inl ⟨fun hh => by have := hh k hlt; have := HZ.out; omega, rfl⟩⟩⟩⟩⟩, by simp [intOf]; omega⟩
        · have HZ := Lib.hid hz
          have d : decide (h < wtOf (c (4 * k + 2)) (c (4 * k + 3))) = false := by (unfold wt at hz; simpa using hz)
          clear hz
          go_wp2_with fail
          refine (HL.out _).mono ?_
          rintro e w1 ⟨rfl, hb1⟩
          go_wp2
          exact ⟨⟨k + 1, by omega, by first | go_num | simp, nxt hb hb1, 0, rfl, .inl ⟨rfl, HQ.out.1, HQ.out.2.1, HQ.out.2.2.1, fun j hj => by
            by_cases e : j = k
            · subst e; have := HZ.out; omega
            · exact HQ.out.2.2.2 j (by omega)⟩⟩, by simp [intOf]; omega⟩
      · obtain rfl : k = n := by omega
        have hki : ¬ ((k : Int) < (k : Int)) := by omega
        have dk : decide (k < k) = false := by simp
        go_wp2
        go_ret
        exact ⟨hb, 0, .inr ⟨HQ.out.1, HQ.out.2.1, .inr ⟨HQ.out.2.2.1, .inr ⟨HQ.out.2.2.2, rfl⟩⟩⟩, rfl⟩

theorem weightsFor_any (A : Option Addr) (n cap : Nat) (c : Nat → Int) (h : Int) (w : World) (hn : n ≤ 1048576) (hr : Rd8 w w.heap.size A (4 * n) c) (hc : ∀ j, -128 ≤ c j ∧ c j ≤ 127) :
    Calls Try.prog 142 #[.slice A n cap, .int .i64 h] w (WfPost n c h w) := by
  have HH := Lib.hid (weightsOf_any A n cap c w hn hr hc)
  clear hr hc
  go_enter Try.func142, Try.ntmps142
  go_wp2_with fail
  refine HH.out.mono ?_
  rintro e w1 ⟨hb, ⟨hv, v, rfl, O⟩ | ⟨r, h0, hv, rfl⟩⟩
  case inr =>
    have d0 : (r != 0) = true := by simpa using h0
    have HV := Lib.hid hv
    have H0 := Lib.hid h0
    clear hv h0
    go_wp2_with fail
    exact bodyPost_ret (results_tmp2 Try.results142 _ _ _) rfl ⟨hb, .inr ⟨r, H0.out, .inl ⟨H0.out, HV.out⟩, rfl⟩⟩
  have HV : Hid (HeavyOk n c ∧ n ≤ 10) := Lib.hid (by
    rcases hv with ⟨_, e⟩ | ⟨_, _, e⟩ | ⟨a, b, _⟩
    · exact absurd e (by decide)
    · exact absurd e (by decide)
    · exact ⟨a, b⟩)
  clear hv
  by_cases h1 : h < 1
  · have d1 : decide (h < 1) = true := by simpa using h1
    have H1 := Lib.hid h1
    clear h1
    go_wp2_with fail
    exact bodyPost_ret (results_tmp2 Try.results142 _ _ _) rfl ⟨hb, .inr ⟨2, by decide, .inr ⟨HV.out.1, HV.out.2, .inl ⟨fun x => by have := H1.out; omega, rfl⟩⟩, rfl⟩⟩
  have d1 : decide (h < 1) = false := by simpa using h1
  by_cases h2 : 600 < h
  · have d2 : decide (600 < h) = true := by simpa using h2
    have H2 := Lib.hid h2
    clear h1 h2
    go_wp2_with fail
    exact bodyPost_ret (results_tmp2 Try.results142 _ _ _) rfl ⟨hb, .inr ⟨2, by decide, .inr ⟨HV.out.1, HV.out.2, .inl ⟨fun x => by have := H2.out; omega, rfl⟩⟩, rfl⟩⟩
  have d2 : decide (600 < h) = false := by simpa using h2
  have HI : Hid (1 ≤ h ∧ h ≤ 600) := Lib.hid ⟨by omega, by omega⟩
  clear h1 h2
  obtain ⟨A', cap', rfl⟩ := O.shape
  have HO := Lib.hid O
  have hrd := O.rd.2
  have hL : (wtL c n).length = n := wtL_length c n
  rw [hL] at hrd ⊢
  have HRD := Lib.hid hrd
  clear hL hrd O
  go_wp2_with fail
  clear d1 d2
  go_loopw [9, 26] (fun t9 t26 wr => ∃ k : Nat, k ≤ n ∧ t26 = .int .i64 k ∧ wr = w1 ∧ ∀ j, j < k → wt c j ≤ h) (fun t9 t26 wr => n - (intOf t26).toNat)
  case atStart => exact ⟨0, by omega, rfl, by first | trivial | rfl, fun j hj => by omega⟩
  case round =>
    obtain ⟨k, hk, rfl, rfl, hall⟩ := hrel
    have HA := Lib.hid hall
    clear hall
    by_cases hlt : k < n
    · have hki : (k : Int) < (n : Int) := by omega
      obtain ⟨b, off, rfl, hbl, c0⟩ := rdInt64 HRD.out hlt
      have hg := wtL_get c hlt
      rw [hg] at c0
      clear hg
      by_cases hz : h < wt c k
      · have HZ := Lib.hid hz
        have d : decide (h < wt c k) = true := by simpa using hz
        clear hz
        go_wp2_with fail
        exact bodyPost_ret (results_tmp2 Try.results142 _ _ _) rfl ⟨hb, .inr ⟨6, by decide, .inr ⟨HV.out.1, HV.out.2, .inr ⟨HI.out, .inl ⟨fun hh => by have := hh k hlt; have := HZ.out; omega, rfl⟩⟩⟩, rfl⟩⟩
      · have HZ := Lib.hid hz
        have d : decide (h < wt c k) = false := by simpa using hz
        clear hz
        go_wp2
        exact ⟨⟨k + 1, by omega, by first | go_num | simp, by first | trivial | rfl, fun j hj => by
          by_cases e : j = k
          · subst e; have := HZ.out; omega
          · exact HA.out j (by omega)⟩, by simp [intOf]; omega⟩
    · obtain rfl : k = n := by omega
      have hki : ¬ ((k : Int) < (k : Int)) := by omega
      go_wp2_with fail
      exact bodyPost_ret (results_tmp2 Try.results142 _ _ _) rfl ⟨hb, .inl ⟨.inr ⟨HV.out.1, HV.out.2, .inr ⟨HI.out, .inr ⟨HA.out, rfl⟩⟩⟩, _, rfl, by have := HO.out; rw [wtL_length] at this; exact this⟩⟩
end Go.Proofs.Ytkggimalkjjnoaa
