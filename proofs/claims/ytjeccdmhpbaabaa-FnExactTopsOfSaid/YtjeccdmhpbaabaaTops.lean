/-
  The contracts of spec.TopsOf and impl.TopsOf. Conditions stand at each.
-/
import Derived.Test.YtjeccdmhpbaabaaRows
import Derived.Test.YtjeccdmhpbaabaaBow
import Derived.Test.YtjeccdmhpbaabaaIn
namespace Go.Proofs.Ytjeccdmhpbaabaa
open Go Go.ChangeShapes Go.WideShapes Go.ChangeAt Go.RowKit
set_option linter.unusedVariables false
set_option linter.unusedSimpArgs false
set_option maxRecDepth 100000
set_option maxHeartbeats 2000000

def Top (c : Nat → Int) (j : Nat) : Prop := c (j - 1) < c j ∧ c (j + 1) ≤ c j
open Classical in
/-- the tops ahead of point k. -/
def topsL (c : Nat → Int) (k : Nat) : List Int := ((List.range k).filter fun j => decide (1 ≤ j) && decide (c (j - 1) < c j) && decide (c (j + 1) ≤ c j)).map Int.ofNat
theorem topsL_length (c : Nat → Int) (k : Nat) : (topsL c k).length ≤ k := by
  unfold topsL
  rw [List.length_map]
  exact Nat.le_trans (List.length_filter_le _ _) (by simp)
theorem topsL_yes {c : Nat → Int} {k : Nat} (h : 1 ≤ k) (t : Top c k) : topsL c (k + 1) = topsL c k ++ [(k : Int)] := by
  unfold topsL
  rw [List.range_succ, List.filter_append, List.map_append]
  simp [h, t.1, t.2]
theorem topsL_no {c : Nat → Int} {k : Nat} (t : ¬ Top c k) : topsL c (k + 1) = topsL c k := by
  unfold topsL
  rw [List.range_succ, List.filter_append, List.map_append]
  have : ¬ (1 ≤ k ∧ c (k - 1) < c k ∧ c (k + 1) ≤ c k) := fun h => t h.2
  simp
  omega
theorem topsL_one (c : Nat → Int) {k : Nat} (h : k ≤ 1) : topsL c k = [] := by
  have : k = 0 ∨ k = 1 := by omega
  rcases this with rfl | rfl <;> simp [topsL]
def Line (n : Nat) (c : Nat → Int) : Prop := n ≤ 400 ∧ ∀ j, j < n → InR c j
def TopsPost (n : Nat) (c : Nat → Int) (w : World) (e : Ending) (w' : World) : Prop :=
  Below w.heap.size w w' ∧ ((Line n c ∧ ∃ v, e = .returned (.tuple #[v, .int .i64 0]) ∧ OwnI w' w.heap.size v (topsL c (n - 1))) ∨ (¬ Line n c ∧ ∃ v, e = .returned (.tuple #[v, .int .i64 2]) ∧ OwnI w' w.heap.size v []))

theorem isTop_any (A : Option Addr) (n cap k : Nat) (c : Nat → Int) (w : World) (hk1 : 1 ≤ k) (hk : k + 1 < n) (hn : n ≤ 1048576) (hr : RdK .i64 w w.heap.size A n c) :
    Calls Try.prog 102 #[.slice A n cap, .int .i64 (k : Int)] w (Test (Top c k) w) := by
  obtain ⟨b, off, rfl, hbl, c0⟩ := rdInt64 hr (show k < n by omega)
  have c1 := rdTwo hr hk
  have c2 := rdTwo hr (show k - 1 < n by omega)
  obtain ⟨x0, hx0⟩ : ∃ x, x = c k := ⟨_, rfl⟩
  obtain ⟨x1, hx1⟩ : ∃ x, x = c (k + 1) := ⟨_, rfl⟩
  obtain ⟨x2, hx2⟩ : ∃ x, x = c (k - 1) := ⟨_, rfl⟩
  rw [show Top c k = (c (k - 1) < c k ∧ c (k + 1) ≤ c k) from rfl]
  rw [← hx0] at c0
  rw [← hx1] at c1
  rw [← hx2] at c2
  rw [← hx0, ← hx1, ← hx2]
  clear hr hx0 hx1 hx2
  have s1 : IntKind.i64.wrap ((k : Int) - 1) = (k : Int) - 1 := IntWalk.i64_in _ (by omega)
  have s2 : 0 ≤ (k : Int) - 1 := by omega
  have s3 : ((k : Int) - 1).toNat = k - 1 := by omega
  have s4 : (k : Int) - 1 < (n : Int) := by omega
  have s5 : IntKind.i64.wrap ((k : Int) + 1) = (k : Int) + 1 := IntWalk.i64_in _ (by omega)
  have s6 : ((k : Int) + 1).toNat = k + 1 := by omega
  have s7 : (k : Int) + 1 < (n : Int) := by omega
  have s8 : 0 ≤ (k : Int) + 1 := by omega
  have s9 : (k : Int) < (n : Int) := by omega
  by_cases h : x2 < x0
  · have d : decide (x2 < x0) = true := by simpa using h
    by_cases h' : x1 ≤ x0
    · have d' : decide (x1 ≤ x0) = true := by simpa using h'
      have H := Lib.hid (And.intro h h')
      clear h h'
      go_enter Try.func102, Try.ntmps102
      go_wp2
      go_quiet (fail)
      go_wp2
      go_ret
      exact ⟨below_drewN' (Below.refl _ _) _, .inl ⟨H.out, rfl⟩⟩
    · have d' : decide (x1 ≤ x0) = false := by simpa using h'
      have H := Lib.hid h'
      clear h h'
      go_enter Try.func102, Try.ntmps102
      go_wp2
      go_quiet (fail)
      go_wp2
      go_ret
      exact ⟨below_drewN' (Below.refl _ _) _, .inr ⟨fun x => by have := H.out; omega, rfl⟩⟩
  · have d : decide (x2 < x0) = false := by simpa using h
    have H := Lib.hid h
    clear h
    go_enter Try.func102, Try.ntmps102
    go_wp2
    go_quiet (fail)
    go_wp2
    go_ret
    exact ⟨below_drewN' (Below.refl _ _) _, .inr ⟨fun x => by have := H.out; omega, rfl⟩⟩

theorem implTops_any (A : Option Addr) (n cap : Nat) (c : Nat → Int) (w : World) (hn : n ≤ 1048576) (hr : RdK .i64 w w.heap.size A n c) :
    Calls Try.prog 40 #[.slice A n cap] w (TopsPost n c w) := by
  have hmf : ∀ (fn : Fn) (first cap : Array Value) (w : World), (Instr.makeFunc fn first cap).run Try.prog w = .ok (.func fn first cap) w := fun _ _ _ _ => rfl
  have HR := Lib.hid hr
  clear hr
  obtain ⟨i0, hi, hz0, hz1, hz2⟩ := info_parts infoI64
  by_cases h4 : n ≤ 400
  case neg =>
    have d1 : decide (400 < n) = true := by simp; omega
    go_enter Try.func40, Try.ntmps40
    go_wp2_with fail
    exact bodyPost_ret (results_tmp2 Try.results40 _ _ _) rfl ⟨Below.refl _ _, .inr ⟨fun h => h4 h.1, _, rfl, OwnI.nil _ _⟩⟩
  have d1 : decide (400 < n) = false := by simp; omega
  go_enter Try.func40, Try.ntmps40
  go_wp2_with fail
  refine (allRange _ n cap c _ hn HR.out).mono ?_
  rintro e w1 ⟨hb, ⟨h, rfl⟩ | ⟨h, rfl⟩⟩
  case inr =>
    have H := Lib.hid h
    clear h
    go_wp2_with fail
    exact bodyPost_ret (results_tmp2 Try.results40 _ _ _) rfl ⟨hb, .inr ⟨fun h => H.out h.2, _, rfl, OwnI.nil _ _⟩⟩
  have H := Lib.hid h
  clear h
  have hni : 0 ≤ (n : Int) := by omega
  go_wp2_with fail
  go_loopw [5, 6] (fun t5 t6 wr => ∃ m : Nat, 1 ≤ m ∧ (m ≤ n - 1 ∨ m = 1) ∧ t6 = .int .i64 m ∧ Below w.heap.size w wr ∧ OwnI wr w.heap.size t5 (topsL c m)) (fun t5 t6 wr => n - (intOf t6).toNat)
  case atStart => exact ⟨1, by omega, by omega, rfl, hb, by rw [topsL_one c (Nat.le_refl _)]; exact OwnI.nil _ _⟩
  case round =>
    clear hb
    obtain ⟨m, hm1, hm2, rfl, B, O⟩ := hrel
    obtain ⟨v0, rfl⟩ : ∃ v0 : Value, v0 = u5 := ⟨_, rfl⟩
    by_cases hlt : m < n - 1
    · have hlti : (m : Int) < (n : Int) - 1 := by omega
      clear hm2
      go_wp2_with fail
      refine (isTop_any A n cap m c _ hm1 (by omega) hn ((HR.out.below B).mono B.size)).mono ?_
      rintro e w2 ⟨hb, ⟨h, rfl⟩ | ⟨h, rfl⟩⟩
      · have HT := Lib.hid h
        have O2 := O.below hb
        have B2 := B.trans (hb.mono B.size)
        have hlen := topsL_length c m
        clear h hb O B
        go_wp2_with (at_builtin; refine wpList_append_own _ rfl _ _ 29 rfl w.heap.size 2 i0 (.int .i64 0) 1 8 Try.underlying29 hi hz0 hz1 hz2 rfl (by decide) _ _ _ rfl (World.ownsRow.alloc O2 _) ⟨w2.heap.size, 0, none⟩ 1 1 [.int .i64 (m : Int)] rfl rfl (ncells w2 #[.int .i64 (m : Int)] 2) one64 (by have := B2.size; unfold maxLen; omega) (by have := B2.size; omega) (by have := B2.size; simp; omega) ?_; intro v' w1 own' hgr _)
        have B1 : Below w.heap.size w w1 := (al B2 _).grown hgr (al B2 _).size (fun k e => (O2.lt k e).1)
        have O1 := OwnI.snoc own'
        rw [← topsL_yes hm1 HT.out] at O1
        clear own' hgr O2 B2 HT
        go_wp2
        exact ⟨⟨m + 1, by omega, by omega, by first | go_num | simp, B1, O1⟩, by simp [intOf]; omega⟩
      · have HT := Lib.hid h
        have O2 := O.below hb
        have B2 := B.trans (hb.mono B.size)
        rw [← topsL_no h] at O2
        clear h hb O B
        go_wp2
        exact ⟨⟨m + 1, by omega, by omega, by first | go_num | simp, B2, O2⟩, by simp [intOf]; omega⟩
    · have hlti : ¬ (m : Int) < (n : Int) - 1 := by omega
      have e : topsL c m = topsL c (n - 1) := by
        rcases hm2 with h | rfl
        · rw [show m = n - 1 by omega]
        · rw [topsL_one c (Nat.le_refl _), topsL_one c (by omega)]
      rw [e] at O
      clear hm2 e
      go_wp2_with fail
      exact bodyPost_ret (results_tmp2 Try.results40 _ _ _) rfl ⟨B, .inl ⟨⟨h4, H.out⟩, _, rfl, O⟩⟩

set_option maxHeartbeats 4000000 in
theorem specTops_any (A : Option Addr) (n cap : Nat) (c : Nat → Int) (w : World) (hn : n ≤ 1048576) (hr : RdK .i64 w w.heap.size A n c) :
    Calls Try.prog 39 #[.slice A n cap] w (TopsPost n c w) := by
  have HR := Lib.hid hr
  clear hr
  obtain ⟨i0, hi, hz0, hz1, hz2⟩ := info_parts infoI64
  go_enter Try.func39, Try.ntmps39
  go_wp2_with fail
  obtain ⟨W0, hW0⟩ : ∃ W0 : World, W0 = (w.alloc (.cells #[] 2)) := ⟨_, rfl⟩
  have B0 : Below w.heap.size w W0 := by rw [hW0]; exact al (Below.refl _ _) _
  have O0 : OwnI W0 w.heap.size (.slice (some ⟨w.heap.size, 0, none⟩) 0 0) [] := by rw [hW0]; exact OwnI.made w (Nat.le_refl _)
  rw [← hW0]
  clear hW0
  go_loopw [5] (fun t5 wr => ∃ k : Nat, k ≤ n ∧ t5 = .int .i64 k ∧ wr = W0 ∧ ∀ j, j < k → InR c j) (fun t5 wr => n - (intOf t5).toNat)
  case atStart => exact ⟨0, by omega, rfl, by first | trivial | rfl, fun j hj => by omega⟩
  case round =>
    obtain ⟨k, hk, rfl, rfl, hall⟩ := hrel
    have HA := Lib.hid hall
    clear hall
    by_cases hlt : k < n
    · obtain ⟨b, off, rfl, hbl, ck⟩ := rdInt64 (HR.out.below B0) hlt
      by_cases hin : 0 ≤ c k ∧ c k ≤ 1000
      · go_wp2_with (go_at_call 97; refine (in_yes _ _ _ _ (by omega) (by omega)).mono ?_; rintro e w1 ⟨rfl, hw1⟩; replace hw1 := hw1.symm; subst hw1)
        exact ⟨⟨k + 1, by omega, by first | go_num | simp, by first | trivial | rfl, fun j hj => by
          by_cases e : j = k
          · subst e; exact hin
          · exact HA.out j (by omega)⟩, by simp [intOf]; omega⟩
      · go_wp2_with (go_at_call 97; refine (in_no _ _ _ _ (by omega)).mono ?_; rintro e w1 ⟨rfl, hw1⟩; replace hw1 := hw1.symm; subst hw1)
        exact bodyPost_ret (results_tmp2 Try.results39 _ _ _) rfl ⟨B0, .inr ⟨fun h => hin (h.2 k hlt), _, rfl, O0⟩⟩
    · obtain rfl : k = n := by omega
      by_cases h4 : k ≤ 400
      case neg =>
        have d1 : decide (400 < k) = true := by simp; omega
        go_wp2_with fail
        exact bodyPost_ret (results_tmp2 Try.results39 _ _ _) rfl ⟨B0, .inr ⟨fun h => h4 h.1, _, rfl, O0⟩⟩
      have d1 : decide (400 < k) = false := by simp; omega
      go_wp2_with fail
      go_loopw [4, 6] (fun t4 t6 wr => ∃ m : Nat, 1 ≤ m ∧ (m ≤ k - 1 ∨ m = 1) ∧ t6 = .int .i64 m ∧ Below w.heap.size w wr ∧ OwnI wr w.heap.size t4 (topsL c m)) (fun t4 t6 wr => k - (intOf t6).toNat)
      case atStart => exact ⟨1, by omega, by omega, rfl, B0, by rw [topsL_one c (Nat.le_refl _)]; exact O0⟩
      case round =>
        clear B0 O0
        obtain ⟨m, hm1, hm2, rfl, B, O⟩ := hrel
        obtain ⟨v0, rfl⟩ : ∃ v0 : Value, v0 = u4 := ⟨_, rfl⟩
        by_cases hlt : m < k - 1
        · obtain ⟨b, off, rfl, hbl, c0⟩ := rdInt64 (HR.out.below B) (show m < k by omega)
          have c1 := rdTwo (HR.out.below B) (show m + 1 < k by omega)
          have c2 := rdTwo (HR.out.below B) (show m - 1 < k by omega)
          have hyes := fun (t : Top c m) => topsL_yes hm1 t
          have hno := fun (t : ¬ Top c m) => topsL_no t
          have HT := Lib.hid (And.intro hyes hno)
          clear hyes hno
          have hlen := topsL_length c m
          have hTop : Top c m ↔ (c (m - 1) < c m ∧ c (m + 1) ≤ c m) := Iff.rfl
          obtain ⟨x0, hx0⟩ : ∃ x, x = c m := ⟨_, rfl⟩
          obtain ⟨x1, hx1⟩ : ∃ x, x = c (m + 1) := ⟨_, rfl⟩
          obtain ⟨x2, hx2⟩ : ∃ x, x = c (m - 1) := ⟨_, rfl⟩
          rw [← hx0] at c0
          rw [← hx1] at c1
          rw [← hx2] at c2
          rw [← hx0, ← hx1, ← hx2] at hTop
          have HI := Lib.hid hTop
          clear hTop hx0 hx1 hx2 hm2
          have s1 : IntKind.i64.wrap ((m : Int) - 1) = (m : Int) - 1 := IntWalk.i64_in _ (by omega)
          have s2 : 0 ≤ (m : Int) - 1 := by omega
          have s3 : ((m : Int) - 1).toNat = m - 1 := by omega
          have s4 : (m : Int) - 1 < (k : Int) := by omega
          have s5 : IntKind.i64.wrap ((m : Int) + 1) = (m : Int) + 1 := IntWalk.i64_in _ (by omega)
          have s6 : ((m : Int) + 1).toNat = m + 1 := by omega
          have s7 : (m : Int) + 1 < (k : Int) := by omega
          have s8 : 0 ≤ (m : Int) + 1 := by omega
          have s9 : (m : Int) < (k : Int) := by omega
          by_cases h : x2 < x0
          · have d : decide (x2 < x0) = true := by simpa using h
            by_cases h' : x1 ≤ x0
            · have d' : decide (x1 ≤ x0) = true := by simpa using h'
              have ht : Top c m := HI.out.2 ⟨h, h'⟩
              have EQ := Lib.hid (HT.out.1 ht)
              have hO := Lib.hid O
              have hB := Lib.hid B
              clear h h' ht HT HI O B
              go_wp2_with fail
              go_quiet (fail)
              obtain ⟨W2, hW2⟩ : ∃ W2 : World, W2 = wr.drewN nq := ⟨_, rfl⟩
              have O2 : OwnI W2 w.heap.size v0 (topsL c m) := by rw [hW2]; exact hO.out.drewN _
              have B2 : Below w.heap.size w W2 := by rw [hW2]; exact below_drewN' hB.out _
              rw [← hW2]
              clear hW2 hO hB c0 c1 c2
              go_wp2_with (at_builtin; refine wpList_append_own _ rfl _ _ 29 rfl w.heap.size 2 i0 (.int .i64 0) 1 8 Try.underlying29 hi hz0 hz1 hz2 rfl (by decide) _ _ _ rfl (World.ownsRow.alloc O2 _) ⟨W2.heap.size, 0, none⟩ 1 1 [.int .i64 (m : Int)] rfl rfl (ncells W2 #[.int .i64 (m : Int)] 2) one64 (by have := B2.size; unfold maxLen; omega) (by have := B2.size; omega) (by have := B2.size; simp; omega) ?_; intro v' w1 own' hgr _)
              have B1 : Below w.heap.size w w1 := (al B2 _).grown hgr (al B2 _).size (fun k e => (O2.lt k e).1)
              have O1 := OwnI.snoc own'
              rw [← EQ.out] at O1
              clear own' hgr O2 B2 EQ
              go_wp2
              exact ⟨⟨m + 1, by omega, by omega, by first | go_num | simp, B1, O1⟩, by simp [intOf]; omega⟩
            · have d' : decide (x1 ≤ x0) = false := by simpa using h'
              have H := Lib.hid (HT.out.2 (fun t => h' (HI.out.1 t).2))
              clear h h' HT HI
              have hO := Lib.hid O
              have hB := Lib.hid B
              clear O B
              go_wp2_with fail
              go_quiet (fail)
              go_wp2
              exact ⟨⟨m + 1, by omega, by omega, by first | go_num | simp, below_drewN' hB.out _, by rw [H.out]; exact hO.out.drewN _⟩, by simp [intOf]; omega⟩
          · have d : decide (x2 < x0) = false := by simpa using h
            have H := Lib.hid (HT.out.2 (fun t => h (HI.out.1 t).1))
            clear h HT HI
            have hO := Lib.hid O
            have hB := Lib.hid B
            clear O B
            go_wp2_with fail
            go_quiet (fail)
            go_wp2
            exact ⟨⟨m + 1, by omega, by omega, by first | go_num | simp, below_drewN' hB.out _, by rw [H.out]; exact hO.out.drewN _⟩, by simp [intOf]; omega⟩
        · have hlti : ¬ (m : Int) + 1 < (k : Int) := by omega
          have s5 : IntKind.i64.wrap ((m : Int) + 1) = (m : Int) + 1 := IntWalk.i64_in _ (by omega)
          have e : topsL c m = topsL c (k - 1) := by
            rcases hm2 with h | rfl
            · rw [show m = k - 1 by omega]
            · rw [topsL_one c (Nat.le_refl _), topsL_one c (by omega)]
          rw [e] at O
          clear hm2 e
          go_wp2_with fail
          exact bodyPost_ret (results_tmp2 Try.results39 _ _ _) rfl ⟨B, .inl ⟨⟨h4, HA.out⟩, _, rfl, O⟩⟩
end Go.Proofs.Ytjeccdmhpbaabaa
