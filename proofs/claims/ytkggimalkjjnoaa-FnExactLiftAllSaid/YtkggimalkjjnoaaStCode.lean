/-
  The codes of orders and stacks: spec.l05Twice, spec.l05Both, impl.liftCode, impl.turnsOf, impl.areStacks. Conditions stand at each.
-/
import Derived.Test.YtkggimalkjjnoaaRows
import Derived.Test.YtkggimalkjjnoaaHasN
import Derived.Test.YtkggimalkjjnoaaIn
namespace Go.Proofs.Ytkggimalkjjnoaa
open Go Go.ChangeShapes Go.WideShapes Go.ChangeAt Go.RowKit
set_option linter.unusedVariables false
set_option linter.unusedSimpArgs false
set_option maxRecDepth 100000
set_option maxHeartbeats 4000000
theorem RdK.pre {kd : IntKind} {w : World} {B n k : Nat} {A : Option Addr} {c : Nat → Int} (h : RdK kd w B A n c) (hk : k ≤ n) : RdK kd w B A k c := fun h0 => by
  obtain ⟨b, off, e, hl, hc⟩ := h (by omega)
  exact ⟨b, off, e, hl, fun j hj => hc j (by omega)⟩
theorem apart_not {n : Nat} {c : Nat → Int} {k : Nat} (hk : k < n) (h : InL k c (c k)) : ¬ Apart1 n c := fun ha => by
  obtain ⟨j, hj, e⟩ := h
  exact ha k hk j hj e
theorem apart_next {c : Nat → Int} {k : Nat} (h : Apart1 k c) (hn : ¬ InL k c (c k)) : Apart1 (k + 1) c := fun i hi j hj e => by
  by_cases hik : i < k
  · exact h i hik j hj e
  · obtain rfl : i = k := by omega
    exact hn ⟨j, hj, e⟩
/-- what a test of an order answers. -/
def TwPost (n : Nat) (c : Nat → Int) (w : World) (e : Ending) (w' : World) : Prop := Below w.heap.size w w' ∧ ((¬ Apart1 n c ∧ e = .returned (.bool true)) ∨ (Apart1 n c ∧ e = .returned (.bool false)))
def LfPost (n : Nat) (c : Nat → Int) (w : World) (e : Ending) (w' : World) : Prop := w' = w ∧ ∃ r, LfCode n c r ∧ e = .returned (.int .i64 r)
def StPost (n : Nat) (c : Nat → Int) (m : Nat) (d : Nat → Int) (w : World) (e : Ending) (w' : World) : Prop := Below w.heap.size w w' ∧ ∃ r, StCode n c m d r ∧ e = .returned (.int .i64 r)
noncomputable def tnL (c : Nat → Int) (m : Nat) (d : Nat → Int) (k : Nat) : List Int := (List.range k).map (tnF c m d)
theorem tnL_length (c : Nat → Int) (m : Nat) (d : Nat → Int) (k : Nat) : (tnL c m d k).length = k := by simp [tnL]
theorem tnL_succ (c : Nat → Int) (m : Nat) (d : Nat → Int) (k : Nat) : tnL c m d (k + 1) = tnL c m d k ++ [tnF c m d k] := by simp [tnL, List.range_succ]
theorem tnL_get (c : Nat → Int) (m : Nat) (d : Nat → Int) {k j : Nat} (h : j < k) : (tnL c m d k).getD j 0 = tnF c m d j := by simp [tnL, List.getD, h]
def TuPost (n : Nat) (c : Nat → Int) (m : Nat) (d : Nat → Int) (w : World) (e : Ending) (w' : World) : Prop :=
  Below w.heap.size w w' ∧ ((StCode n c m d 0 ∧ ∃ v, e = .returned (.tuple #[v, .int .i64 0]) ∧ OwnI w' w.heap.size v (tnL c m d n)) ∨ ∃ r, r ≠ 0 ∧ StCode n c m d r ∧ e = .returned (.tuple #[.slice none 0 0, .int .i64 r]))
/-- stacks of so many slabs. -/
def StkOk (n m : Nat) (s : Nat → Int) : Prop := m = n ∧ ∀ j, j < m → 0 ≤ s j ∧ s j ≤ 9

theorem l05Twice_any (A : Option Addr) (n cap : Nat) (c : Nat → Int) (w : World) (hn : n ≤ 1048576) (hcap : n ≤ cap) (hr : RdK .i64 w w.heap.size A n c) :
    Calls Try.prog 134 #[.slice A n cap] w (TwPost n c w) := by
  have HR := Lib.hid hr
  clear hr
  go_enter Try.func134, Try.ntmps134
  go_wp2
  go_loopw [3] (fun t3 wr => ∃ k : Nat, k ≤ n ∧ t3 = .int .i64 k ∧ Below w.heap.size w wr ∧ Apart1 k c) (fun t3 wr => n - (intOf t3).toNat)
  case atStart => exact ⟨0, by omega, rfl, Below.refl _ _, fun i hi => by omega⟩
  case round =>
    obtain ⟨k, hk, rfl, hb, hall⟩ := hrel
    have HA := Lib.hid hall
    clear hall
    by_cases hlt : k < n
    · have hki : (k : Int) < (n : Int) := by omega
      have hkc : (k : Int) ≤ (cap : Int) := by omega
      have hk0 : (0 : Int) ≤ (k : Int) := by omega
      have hrd := (HR.out.below hb).mono hb.size
      have hpre := hrd.pre hk
      have HP := Lib.hid (fun (n : Nat) => Lib.hid hpre)
      obtain ⟨b, off, rfl, hbl, c0⟩ := rdInt64 hrd hlt
      have HPre := Lib.hid hpre
      clear hrd hpre HP
      by_cases h : InL k c (c k)
      · have H := Lib.hid h
        obtain ⟨x, hx⟩ : ∃ x, x = c k := ⟨_, rfl⟩
        rw [← hx] at c0 h
        have HI := Lib.hid h
        clear hx h
        go_wp2
        go_quiet ((go_at_call 109; exact Calls.quiet_of_same (hasN_yes _ _ _ c _ _ (by omega) HPre.out HI.out)))
        go_wp2
        go_ret
        exact ⟨below_drewN' hb _, .inl ⟨apart_not hlt H.out, rfl⟩⟩
      · have H := Lib.hid h
        obtain ⟨x, hx⟩ : ∃ x, x = c k := ⟨_, rfl⟩
        rw [← hx] at c0 h
        have HI := Lib.hid h
        clear hx h
        go_wp2
        go_quiet ((go_at_call 109; exact Calls.quiet_of_same (hasN_no _ _ _ c _ _ (by omega) HPre.out HI.out)))
        go_wp2
        exact ⟨⟨k + 1, by omega, by first | go_num | simp, below_drewN' hb _, apart_next HA.out H.out⟩, by simp [intOf]; omega⟩
    · obtain rfl : k = n := by omega
      have hki : ¬ ((k : Int) < (k : Int)) := by omega
      go_wp2
      go_ret
      exact ⟨hb, .inr ⟨HA.out, rfl⟩⟩

theorem liftCode_any (A : Option Addr) (n cap : Nat) (c : Nat → Int) (w : World) (hn : n ≤ 1048576) (hcap : n ≤ cap) (hr : RdK .i64 w w.heap.size A n c) :
    Calls Try.prog 135 #[.slice A n cap] w (LfPost n c w) := by
  have HR := Lib.hid hr
  clear hr
  by_cases h10 : 10 < n
  · have d1 : decide (10 < n) = true := by simp; omega
    go_enter Try.func135, Try.ntmps135
    go_wp2
    go_ret
    exact ⟨rfl, 3, .inl ⟨h10, rfl⟩, rfl⟩
  have d1 : decide (10 < n) = false := by simp; omega
  go_enter Try.func135, Try.ntmps135
  go_wp2
  clear d1
  go_loop [3, 4, 10] (fun t3 t4 t10 => ∃ k : Nat, k ≤ n ∧ t10 = .int .i64 k ∧ Apart1 k c) (fun t3 t4 t10 => n - (intOf t10).toNat)
  case atStart => exact ⟨0, by omega, rfl, fun i hi => by omega⟩
  case round =>
    obtain ⟨k, hk, rfl, hall⟩ := hrel
    have HA := Lib.hid hall
    clear hall
    by_cases hlt : k < n
    · have hki : (k : Int) < (n : Int) := by omega
      have hkc : (k : Int) ≤ (cap : Int) := by omega
      have hk0 : (0 : Int) ≤ (k : Int) := by omega
      have hpre := HR.out.pre hk
      obtain ⟨b, off, rfl, hbl, c0⟩ := rdInt64 HR.out hlt
      have HPre := Lib.hid hpre
      clear hpre
      by_cases h : InL k c (c k)
      · have H := Lib.hid h
        obtain ⟨x, hx⟩ : ∃ x, x = c k := ⟨_, rfl⟩
        rw [← hx] at c0 h
        have HI := Lib.hid h
        clear hx h
        go_wp2_with fail
        refine (contains_yes _ _ _ c _ _ (by omega) HPre.out HI.out).mono ?_
        rintro e w1 ⟨rfl, rfl⟩
        go_wp2
        go_ret
        exact ⟨rfl, 4, .inr (.inl ⟨by omega, apart_not hlt H.out, rfl⟩), rfl⟩
      · have H := Lib.hid h
        obtain ⟨x, hx⟩ : ∃ x, x = c k := ⟨_, rfl⟩
        rw [← hx] at c0 h
        have HI := Lib.hid h
        clear hx h
        go_wp2_with fail
        refine (contains_no _ _ _ c _ _ (by omega) HPre.out HI.out).mono ?_
        rintro e w1 ⟨rfl, rfl⟩
        go_wp2
        exact ⟨⟨k + 1, by omega, by first | go_num | simp, apart_next HA.out H.out⟩, by simp [intOf]; omega⟩
    · obtain rfl : k = n := by omega
      have hki : ¬ ((k : Int) < (k : Int)) := by omega
      go_wp2
      go_ret
      exact ⟨rfl, 0, .inr (.inr ⟨by omega, HA.out, rfl⟩), rfl⟩

theorem l05Both_any (A B : Option Addr) (n m cap cap' : Nat) (c d : Nat → Int) (w : World) (hn : n ≤ 1048576) (hm : m ≤ 1048576) (hcap : n ≤ cap) (hcap' : m ≤ cap') (hr : RdK .i64 w w.heap.size A n c) (hs : RdK .i64 w w.heap.size B m d) :
    Calls Try.prog 125 #[.slice A n cap, .slice B m cap'] w (StPost n c m d w) := by
  have HR := Lib.hid hr
  have HS := Lib.hid hs
  clear hr hs
  by_cases h10 : 10 < n
  · have d1 : decide (10 < n) = true := by simp; omega
    go_enter Try.func125, Try.ntmps125
    go_wp2
    go_ret
    exact ⟨Below.refl _ _, 3, .inl ⟨h10, rfl⟩, rfl⟩
  have d1 : decide (10 < n) = false := by simp; omega
  have hle : n ≤ 10 := by omega
  clear h10
  go_enter Try.func125, Try.ntmps125
  go_wp2_with fail
  refine (l05Twice_any A n cap c _ hn hcap HR.out).mono ?_
  rintro e w1 ⟨hb, ⟨h, rfl⟩ | ⟨h, rfl⟩⟩
  · have H := Lib.hid h
    clear h
    go_wp2
    go_ret
    exact ⟨hb, 4, .inr (.inl ⟨hle, fun x => H.out x.1, rfl⟩), rfl⟩
  have H := Lib.hid h
  clear h
  go_wp2_with fail
  refine (l05Twice_any B m cap' d _ hm hcap' ((HS.out.below hb).mono hb.size)).mono ?_
  rintro e w2 ⟨hb2, ⟨h, rfl⟩ | ⟨h, rfl⟩⟩
  · have H2 := Lib.hid h
    clear h
    go_wp2
    go_ret
    exact ⟨nxt hb hb2, 4, .inr (.inl ⟨hle, fun x => by obtain ⟨x1, rfl, x3⟩ := x; exact H2.out (again_apart ⟨x1, rfl, x3⟩), rfl⟩), rfl⟩
  clear h
  have B2 := nxt hb hb2
  clear hb hb2
  by_cases hnm : n = m
  case neg =>
    have d2 : ((n : Int) != (m : Int)) = true := by simp; omega
    have HN := Lib.hid hnm
    clear hnm
    go_wp2
    go_ret
    exact ⟨B2, 4, .inr (.inl ⟨hle, fun x => HN.out x.2.1, rfl⟩), rfl⟩
  have d2 : ((n : Int) != (m : Int)) = false := by simp; omega
  have HN := Lib.hid hnm
  clear hnm
  go_wp2
  clear d1 d2
  go_loopw [5] (fun t5 wr => ∃ k : Nat, k ≤ n ∧ t5 = .int .i64 k ∧ wr = w2 ∧ ∀ j, j < k → InL m d (c j)) (fun t5 wr => n - (intOf t5).toNat)
  case atStart => exact ⟨0, by omega, rfl, by first | trivial | rfl, fun j hj => by omega⟩
  case round =>
    obtain ⟨k, hk, rfl, rfl, hall⟩ := hrel
    have HA := Lib.hid hall
    clear hall
    by_cases hlt : k < n
    · have hki : (k : Int) < (n : Int) := by omega
      obtain ⟨b, off, rfl, hbl, c0⟩ := rdInt64 (HR.out.below B2) hlt
      by_cases h : InL m d (c k)
      · have HI := Lib.hid h
        obtain ⟨i, hi⟩ := h.first
        obtain ⟨x, hx⟩ : ∃ x, x = c k := ⟨_, rfl⟩
        rw [← hx] at c0 hi
        have HF := Lib.hid hi
        have di : decide ((i : Int) < 0) = false := by simp
        clear hx h hi
        go_wp2_with fail
        refine (where_at _ _ _ d _ i _ (by omega) ((HS.out.below B2).mono B2.size) HF.out).mono ?_
        rintro e w3 ⟨rfl, rfl⟩
        go_wp2
        exact ⟨⟨k + 1, by omega, by first | go_num | simp, by first | trivial | rfl, fun j hj => by
          by_cases e : j = k
          · subst e; exact HI.out
          · exact HA.out j (by omega)⟩, by simp [intOf]; omega⟩
      · have HI := Lib.hid h
        obtain ⟨x, hx⟩ : ∃ x, x = c k := ⟨_, rfl⟩
        rw [← hx] at c0 h
        have HF := Lib.hid h
        clear hx h
        go_wp2_with fail
        refine (where_no _ _ _ d _ _ (by omega) ((HS.out.below B2).mono B2.size) HF.out).mono ?_
        rintro e w3 ⟨rfl, rfl⟩
        go_wp2
        go_ret
        exact ⟨B2, 4, .inr (.inl ⟨hle, fun x => HI.out (x.2.2 k hlt), rfl⟩), rfl⟩
    · obtain rfl : k = n := by omega
      have hki : ¬ ((k : Int) < (k : Int)) := by omega
      go_wp2
      go_ret
      exact ⟨B2, 0, .inr (.inr ⟨hle, ⟨H.out, HN.out, HA.out⟩, rfl⟩), rfl⟩

theorem turnsOf_any (A B : Option Addr) (n m cap cap' : Nat) (c d : Nat → Int) (w : World) (hn : n ≤ 1048576) (hm : m ≤ 1048576) (hcap : n ≤ cap) (hcap' : m ≤ cap') (hr : RdK .i64 w w.heap.size A n c) (hs : RdK .i64 w w.heap.size B m d) :
    Calls Try.prog 127 #[.slice A n cap, .slice B m cap'] w (TuPost n c m d w) := by
  have HR := Lib.hid hr
  have HS := Lib.hid hs
  obtain ⟨i0, hi, hz0, hz1, hz2⟩ := info_parts infoI64
  clear hr hs
  go_enter Try.func127, Try.ntmps127
  go_wp2_with fail
  refine (liftCode_any A n cap c _ hn hcap HR.out).mono ?_
  rintro e w1 ⟨hw1, r, hl, rfl⟩
  replace hw1 := hw1.symm
  subst hw1
  by_cases h0 : r = 0
  case neg =>
    have d0 : (r != 0) = true := by simpa using h0
    have H0 := Lib.hid h0
    have HL : Hid (StCode n c m d r) := Lib.hid (by
      rcases hl with ⟨a, e⟩ | ⟨a, b, e⟩ | ⟨a, b, e⟩
      · exact .inl ⟨a, e⟩
      · exact .inr (.inl ⟨a, fun x => b x.1, e⟩)
      · exact absurd e h0)
    clear hl h0
    go_wp2_with fail
    exact bodyPost_ret (results_tmp2 Try.results127 _ _ _) rfl ⟨Below.refl _ _, .inr ⟨r, H0.out, HL.out, rfl⟩⟩
  subst h0
  have hlf : n ≤ 10 ∧ Apart1 n c := by
    rcases hl with ⟨a, e⟩ | ⟨a, b, e⟩ | ⟨a, b, e⟩
    · exact absurd e (by decide)
    · exact absurd e (by decide)
    · exact ⟨a, b⟩
  have hle := hlf.1
  have HP := Lib.hid hlf.2
  clear hl hlf
  by_cases hnm : n = m
  case neg =>
    have d2 : ((m : Int) != (n : Int)) = true := by simp; omega
    have HN := Lib.hid hnm
    clear hnm
    go_wp2_with fail
    exact bodyPost_ret (results_tmp2 Try.results127 _ _ _) rfl ⟨Below.refl _ _, .inr ⟨4, by decide, .inr (.inl ⟨hle, fun x => HN.out x.2.1, rfl⟩), rfl⟩⟩
  have d2 : ((m : Int) != (n : Int)) = false := by simp; omega
  have HN := Lib.hid hnm
  clear hnm
  go_wp2
  clear d2
  go_loopw [7, 9, 10, 23] (fun t7 t9 t10 t23 wr => ∃ k : Nat, k ≤ n ∧ t23 = .int .i64 k ∧ Below w.heap.size w wr ∧ OwnI wr w.heap.size t7 (tnL c m d k) ∧ ∀ j, j < k → InL m d (c j)) (fun t7 t9 t10 t23 wr => n - (intOf t23).toNat)
  case atStart => exact ⟨0, by omega, rfl, Below.refl _ _, OwnI.nil _ _, fun j hj => by omega⟩
  case round =>
    obtain ⟨k, hk, rfl, B2, O, hall⟩ := hrel
    obtain ⟨v0, rfl⟩ : ∃ v0 : Value, v0 = u7 := ⟨_, rfl⟩
    have HA := Lib.hid hall
    clear hall
    by_cases hlt : k < n
    · have hki : (k : Int) < (n : Int) := by omega
      obtain ⟨b, off, rfl, hbl, c0⟩ := rdInt64 (HR.out.below B2) hlt
      by_cases h : InL m d (c k)
      · have HI := Lib.hid h
        obtain ⟨i, hi'⟩ := h.first
        have hti : tnF c m d k = (i : Int) := by unfold tnF; rw [tn_eq hi']
        have hil := hi'.1
        obtain ⟨x, hx⟩ : ∃ x, x = c k := ⟨_, rfl⟩
        rw [← hx] at c0 hi'
        have HF := Lib.hid hi'
        have HT := Lib.hid hti
        have di : decide ((i : Int) < 0) = false := by simp
        have hO := Lib.hid O
        have hlen : (tnL c m d k).length ≤ k := by rw [tnL_length]; exact Nat.le_refl _
        clear hx h hi' hti O
        go_wp2_with fail
        refine (index_at _ _ _ d _ i _ (by omega) ((HS.out.below B2).mono B2.size) HF.out).mono ?_
        rintro e w3 ⟨rfl, hw3⟩
        replace hw3 := hw3.symm
        subst hw3
        go_wp2_with (at_builtin; refine wpList_append_own _ rfl _ _ 29 rfl w.heap.size 2 i0 (.int .i64 0) 1 8 Try.underlying29 hi hz0 hz1 hz2 rfl (by decide) _ _ _ rfl (World.ownsRow.alloc hO.out _) ⟨wr.heap.size, 0, none⟩ 1 1 [.int .i64 (i : Int)] rfl rfl (ncells wr #[.int .i64 (i : Int)] 2) one64 (by have := B2.size; unfold maxLen; omega) (by have := B2.size; omega) (by have := B2.size; simp; omega) ?_; intro v' w1 own' hgr _)
        have B1 : Below w.heap.size w w1 := (al B2 _).grown hgr (al B2 _).size (fun k e => (hO.out.lt k e).1)
        have O1 := OwnI.snoc own'
        rw [← HT.out, ← tnL_succ] at O1
        clear own' hgr hO B2
        go_wp2
        exact ⟨⟨k + 1, by omega, by first | go_num | simp, B1, O1, fun j hj => by
          by_cases e : j = k
          · subst e; exact HI.out
          · exact HA.out j (by omega)⟩, by simp [intOf]; omega⟩
      · have HI := Lib.hid h
        obtain ⟨x, hx⟩ : ∃ x, x = c k := ⟨_, rfl⟩
        rw [← hx] at c0 h
        have HF := Lib.hid h
        clear hx h
        go_wp2_with fail
        refine (index_no _ _ _ d _ _ (by omega) ((HS.out.below B2).mono B2.size) HF.out).mono ?_
        rintro e w3 ⟨rfl, hw3⟩
        replace hw3 := hw3.symm
        subst hw3
        go_wp2_with fail
        exact bodyPost_ret (results_tmp2 Try.results127 _ _ _) rfl ⟨B2, .inr ⟨4, by decide, .inr (.inl ⟨hle, fun x => HI.out (x.2.2 k hlt), rfl⟩), rfl⟩⟩
    · obtain rfl : k = n := by omega
      have hki : ¬ ((k : Int) < (k : Int)) := by omega
      go_wp2_with fail
      exact bodyPost_ret (results_tmp2 Try.results127 _ _ _) rfl ⟨B2, .inl ⟨.inr (.inr ⟨hle, ⟨HP.out, HN.out, HA.out⟩, rfl⟩), _, rfl, O⟩⟩

theorem areStacks_yes (A : Option Addr) (n m cap : Nat) (s : Nat → Int) (w : World) (hn : n ≤ 1048576) (hm : m ≤ 1048576) (hr : RdK .i64 w w.heap.size A m s) (h : StkOk n m s) :
    Calls Try.prog 133 #[.slice A m cap, .int .i64 (n : Int)] w fun e w' => e = .returned (.bool true) ∧ w' = w := by
  obtain ⟨rfl, h⟩ := h
  have HR := Lib.hid hr
  have HF := Lib.hid h
  clear hr h
  have d2 : ((m : Int) != (m : Int)) = false := by simp
  go_enter Try.func133, Try.ntmps133
  go_wp2
  clear d2
  go_loop [6, 13] (fun t6 t13 => ∃ k : Nat, k ≤ m ∧ t13 = .int .i64 k) (fun t6 t13 => m - (intOf t13).toNat)
  case atStart => exact ⟨0, by omega, rfl⟩
  case round =>
    obtain ⟨k, hk, rfl⟩ := hrel
    by_cases hlt : k < m
    · have hki : (k : Int) < (m : Int) := by omega
      obtain ⟨b, off, rfl, hbl, c0⟩ := rdInt64 HR.out hlt
      have hin := HF.out k hlt
      obtain ⟨x, hx⟩ : ∃ x, x = s k := ⟨_, rfl⟩
      rw [← hx] at c0 hin
      have d : decide (x < 0) = false := by simp; omega
      have d' : decide (10 ≤ x) = false := by simp; omega
      clear hx hin
      go_wp2
      exact ⟨⟨k + 1, by omega, by first | go_num | simp⟩, by simp [intOf]; omega⟩
    · obtain rfl : k = m := by omega
      have hki : ¬ ((k : Int) < (k : Int)) := by omega
      go_wp2
      go_ret
      exact ⟨rfl, rfl⟩
theorem areStacks_no (A : Option Addr) (n m cap : Nat) (s : Nat → Int) (w : World) (hn : n ≤ 1048576) (hm : m ≤ 1048576) (hr : RdK .i64 w w.heap.size A m s) (h : ¬ StkOk n m s) :
    Calls Try.prog 133 #[.slice A m cap, .int .i64 (n : Int)] w fun e w' => e = .returned (.bool false) ∧ w' = w := by
  have HR := Lib.hid hr
  have HF := Lib.hid h
  clear hr h
  by_cases hnm : m = n
  case neg =>
    have d2 : ((m : Int) != (n : Int)) = true := by simp; omega
    clear hnm
    go_enter Try.func133, Try.ntmps133
    go_wp2
    go_ret
    exact ⟨rfl, rfl⟩
  subst hnm
  have d2 : ((m : Int) != (m : Int)) = false := by simp
  go_enter Try.func133, Try.ntmps133
  go_wp2
  clear d2
  go_loop [6, 13] (fun t6 t13 => ∃ k : Nat, k ≤ m ∧ t13 = .int .i64 k ∧ ∀ j, j < k → 0 ≤ s j ∧ s j ≤ 9) (fun t6 t13 => m - (intOf t13).toNat)
  case atStart => exact ⟨0, by omega, rfl, fun j hj => by omega⟩
  case round =>
    obtain ⟨k, hk, rfl, hall⟩ := hrel
    have HA := Lib.hid hall
    clear hall
    by_cases hlt : k < m
    · have hki : (k : Int) < (m : Int) := by omega
      obtain ⟨b, off, rfl, hbl, c0⟩ := rdInt64 HR.out hlt
      obtain ⟨x, hx⟩ : ∃ x, x = s k := ⟨_, rfl⟩
      rw [← hx] at c0
      have HX := Lib.hid hx
      clear hx
      by_cases h1 : x < 0
      · have d : decide (x < 0) = true := by simp; omega
        clear h1
        go_wp2
        go_ret
        exact ⟨rfl, rfl⟩
      · have d : decide (x < 0) = false := by simp; omega
        by_cases h2 : 10 ≤ x
        · have d' : decide (10 ≤ x) = true := by simp; omega
          clear h1 h2
          go_wp2
          go_ret
          exact ⟨rfl, rfl⟩
        · have d' : decide (10 ≤ x) = false := by simp; omega
          have H12 := Lib.hid (And.intro h1 h2)
          clear h1 h2
          go_wp2
          exact ⟨⟨k + 1, by omega, by first | go_num | simp, fun j hj => by
            by_cases e : j = k
            · subst e; have := H12.out; rw [← HX.out]; omega
            · exact HA.out j (by omega)⟩, by simp [intOf]; omega⟩
    · obtain rfl : k = m := by omega
      exact absurd ⟨rfl, HA.out⟩ HF.out
end Go.Proofs.Ytkggimalkjjnoaa
