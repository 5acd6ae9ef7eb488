/-
  The contracts of spec.MakeBow and impl.MakeBow. Conditions stand at each.
-/
import Derived.Test.YtjeccdmhpbaabaaRows
import Derived.Test.YtjeccdmhpbaabaaLine
namespace Go.Proofs.Ytjeccdmhpbaabaa
open Go Go.ChangeShapes Go.WideShapes Go.ChangeAt Go.RowKit
set_option linter.unusedVariables false
set_option linter.unusedSimpArgs false
set_option maxRecDepth 100000
set_option maxHeartbeats 2000000

theorem numsL_getD {n : Nat} {f : Nat → Int} {j : Nat} (h : j < n) : ((List.range n).map f).getD j 0 = f j := by
  rw [List.getD_eq_getElem?_getD]
  simp [h]
theorem numsL_succ (n : Nat) (f : Nat → Int) : (List.range (n + 1)).map f = (List.range n).map f ++ [f n] := by
  rw [List.range_succ, List.map_append]
  rfl
/-- the height of a point of a bow that is made. -/
def mkE (wd ri : Int) (k : Nat) : Int :=
  wrap64 ((wrap64 (wrap64 (wrap64 (4 * ri) * (k : Int)) * (wd - (k : Int)))).tdiv (wrap64 (wd * wd)))
def mkL (wd ri : Int) (n : Nat) : List Int := (List.range n).map (mkE wd ri)
theorem mkL_length (wd ri : Int) (n : Nat) : (mkL wd ri n).length = n := by simp [mkL]
theorem mkL_succ (wd ri : Int) (n : Nat) : mkL wd ri (n + 1) = mkL wd ri n ++ [mkE wd ri n] := numsL_succ n _
def MakeGood (wd : Nat) (ri : Int) : Prop := Bow (wd + 1) (fun j => (mkL wd ri (wd + 1)).getD j 0)
theorem w64 (x : Int) : wrap64 x = IntKind.i64.wrap x := by first | rfl | (unfold wrap64; rfl) | simp [wrap64, IntKind.wrap_i64]
theorem sq_pos {wd : Nat} (h : 2 ≤ wd) (h' : wd ≤ 39) : ¬ wrap64 ((wd : Int) * (wd : Int)) = 0 := by
  have h1 : wd * wd ≤ 39 * 39 := Nat.mul_le_mul h' h'
  have h2 : 2 * 2 ≤ wd * wd := Nat.mul_le_mul h h
  rw [w64, ← Int.natCast_mul, IntWalk.i64_in _ (by omega)]
  omega

theorem makeBuilt (b1 b2 wd : Nat) (ri : Int) (W : World) (l1 : b1 < W.heap.size) (l2 : b2 < W.heap.size) (c1 : W.cell? ⟨b1, 0, none⟩ = some (.int .i64 (wd : Int))) (c2 : W.cell? ⟨b2, 0, none⟩ = some (.int .i64 ri)) (h2 : 2 ≤ wd) (h39 : wd ≤ 39) :
    Calls Try.prog 99 #[.pointer (some ⟨b1, 0, none⟩), .pointer (some ⟨b2, 0, none⟩)] W (Built (MakeGood wd ri) (mkL wd ri (wd + 1)) 4 W) := by
  obtain ⟨i0, hi, hz0, hz1, hz2⟩ := info_parts infoI64
  have p0 : IntKind.i64.wrap ((wd : Int) + 1) = (wd : Int) + 1 := IntWalk.i64_in _ (by omega)
  have pq := sq_pos h2 h39
  go_enter Try.func99, Try.ntmps99
  go_wp2_with fail
  go_loopw [3, 7] (fun t3 t7 wr => ∃ m : Nat, m ≤ wd + 1 ∧ t7 = .int .i64 m ∧ Below W.heap.size W wr ∧ OwnI wr W.heap.size t3 (mkL wd ri m)) (fun t3 t7 wr => wd + 1 - (intOf t7).toNat)
  case atStart => exact ⟨0, by omega, rfl, Below.refl _ _, OwnI.nil _ _⟩
  case round =>
    obtain ⟨m, hm, rfl, B, O⟩ := hrel
    obtain ⟨v0, rfl⟩ : ∃ v0 : Value, v0 = u3 := ⟨_, rfl⟩
    by_cases hlt : m < wd + 1
    · have hli : (m : Int) < (wd : Int) + 1 := by omega
      have d1 := (B.cell (p := ⟨b1, 0, none⟩) l1).trans c1
      have d2 := (B.cell (p := ⟨b2, 0, none⟩) l2).trans c2
      have hlen := mkL_length wd ri m
      clear c1 c2
      go_wp2_with (at_builtin; refine wpList_append_own _ rfl _ _ 93 rfl W.heap.size 2 i0 (.int .i64 0) 1 8 Try.underlying93 hi hz0 hz1 hz2 rfl (by decide) _ _ _ rfl (World.ownsRow.alloc O _) ⟨wr.heap.size, 0, none⟩ 1 1 [.int .i64 _] rfl rfl (ncells wr #[.int .i64 _] 2) one64 (by have := B.size; unfold maxLen; omega) (by have := B.size; omega) (by have := B.size; simp; omega) ?_; intro v' w1 own' hgr _)
      have B1 : Below W.heap.size W w1 := (al B _).grown hgr (al B _).size (fun k e => (O.lt k e).1)
      have O1 : OwnI w1 W.heap.size v' (mkL wd ri (m + 1)) := by
        rw [mkL_succ]
        exact OwnI.snoc own'
      clear own' hgr O B d1 d2
      exact ⟨⟨m + 1, by omega, by first | go_num | simp, B1, O1⟩, by simp [intOf]; omega⟩
    · have hli : ¬ (m : Int) < (wd : Int) + 1 := by omega
      obtain rfl : m = wd + 1 := by omega
      obtain ⟨A, cap, rfl⟩ := O.shape
      have R := O.rd.2
      rw [mkL_length] at R ⊢
      have HR := Lib.hid R
      clear R
      go_wp2_with fail
      refine (asBow_any A (wd + 1) cap 4 _ _ (by omega) HR.out).mono ?_
      rintro e w1 ⟨hb, ⟨h, rfl⟩ | ⟨h, rfl⟩⟩
      · have H := Lib.hid h
        clear h
        have B1 := B.trans (hb.mono B.size)
        have O1 := O.below hb
        rw [mkL_length] at O1
        clear hb O B
        go_wp2
        go_ret
        exact ⟨B1, .inl ⟨H.out, _, rfl, O1⟩⟩
      · have H := Lib.hid h
        clear h
        have B1 := B.trans (hb.mono B.size)
        clear hb O B
        go_wp2
        exact ⟨rfl, B1, .inr ⟨H.out, rfl⟩⟩

/-- what MakeBow answers for numbers in range. -/
def MadePost (wd : Nat) (ri : Int) (w : World) (e : Ending) (w' : World) : Prop :=
  Below w.heap.size w w' ∧ ((MakeGood wd ri ∧ ∃ v, e = .returned (.tuple #[v, .int .i64 0]) ∧ OwnI w' w.heap.size v (mkL wd ri (wd + 1))) ∨ (¬ MakeGood wd ri ∧ ∃ v, e = .returned (.tuple #[v, .int .i64 4]) ∧ OwnI w' w.heap.size v []))
theorem entersMake : Enters Try.prog 99 := enters_of Try.func99 (by kernel_rfl) rfl

theorem implMake_in (wd : Nat) (ri : Int) (w : World) (h2 : 2 ≤ wd) (h39 : wd ≤ 39) (r0 : 0 ≤ ri) (r1 : ri ≤ 1000) :
    Calls Try.prog 34 #[.int .i64 (wd : Int), .int .i64 ri] w (MadePost wd ri w) := by
  have hmf : ∀ (fn : Fn) (first cap : Array Value) (w : World), (Instr.makeFunc fn first cap).run Try.prog w = .ok (.func fn first cap) w := fun _ _ _ _ => rfl
  have e1 : decide ((wd : Int) < 2) = false := by simp; omega
  have e2 : decide (39 < (wd : Int)) = false := by simp; omega
  have e3 : decide (ri < 0) = false := by simp; omega
  have e4 : decide (1000 < ri) = false := by simp; omega
  have E := Lib.hid (And.intro (And.intro h2 h39) (And.intro r0 r1))
  clear h2 h39 r0 r1
  go_enter Try.func34, Try.ntmps34
  go_wp2_with fail
  obtain ⟨W0, hW0⟩ : ∃ W0 : World, W0 = ((w.alloc (.cells #[.int .i64 (wd : Int)] 2)).alloc (.cells #[.int .i64 ri] 2)) := ⟨_, rfl⟩
  have B0 : Below w.heap.size w W0 := by rw [hW0]; exact al (al (Below.refl _ _) _) _
  have s0 : W0.heap.size = w.heap.size + 1 + 1 := by rw [hW0]; simp
  have a1 : W0.cell? ⟨w.heap.size, 0, none⟩ = some (.int .i64 (wd : Int)) := by
    rw [hW0, cell_of_row _ _ 0 _ _ _ ((Below.heap_alloc _ _ _ (by simp)).trans (heap_alloc_new w _))]; rfl
  have a2 : W0.cell? ⟨w.heap.size + 1, 0, none⟩ = some (.int .i64 ri) := by
    have := heap_alloc_new (w.alloc (.cells #[.int .i64 (wd : Int)] 2)) (.cells #[.int .i64 ri] 2)
    rw [World.size_alloc] at this
    rw [hW0, cell_of_row _ _ 0 _ _ _ this]; rfl
  first | rw [← hW0] | skip
  clear hW0
  refine (lineBy_any 99 _ (MakeGood wd ri) (mkL wd ri (wd + 1)) 4 W0 entersMake (fun W hb => makeBuilt w.heap.size (w.heap.size + 1) wd ri W (by have := hb.size; omega) (by have := hb.size; omega) ((hb.cell (p := ⟨w.heap.size, 0, none⟩) (by show w.heap.size < W0.heap.size; omega)).trans a1) ((hb.cell (p := ⟨w.heap.size + 1, 0, none⟩) (by show w.heap.size + 1 < W0.heap.size; omega)).trans a2) E.out.1.1 E.out.1.2)).mono ?_
  rintro e w1 ⟨hb, ⟨hg, v, rfl, O⟩ | ⟨hg, rfl⟩⟩
  · have HG := Lib.hid hg
    have B1 := nxt B0 hb
    clear hg hb a1 a2
    go_wp2_with fail
    exact bodyPost_ret (results_tmp2 Try.results34 _ _ _) rfl ⟨B1, .inl ⟨HG.out, v, rfl, O.mono (by omega)⟩⟩
  · have HG := Lib.hid hg
    have B1 := nxt B0 hb
    clear hg hb a1 a2
    go_wp2_with fail
    exact bodyPost_ret (results_tmp2 Try.results34 _ _ _) rfl ⟨B1, .inr ⟨HG.out, _, rfl, OwnI.nil _ _⟩⟩

theorem implMake_bad (wd ri : Int) (w : World) (h : ¬ ((2 ≤ wd ∧ wd ≤ 39) ∧ 0 ≤ ri ∧ ri ≤ 1000)) :
    Calls Try.prog 34 #[.int .i64 wd, .int .i64 ri] w fun e w' => Below w.heap.size w w' ∧ ∃ v, e = .returned (.tuple #[v, .int .i64 2]) ∧ OwnI w' w.heap.size v [] := by
  by_cases a1 : wd < 2
  · have e1 : decide (wd < 2) = true := by simpa using a1
    clear h
    go_enter Try.func34, Try.ntmps34
    go_wp2_with fail
    exact bodyPost_ret (results_tmp2 Try.results34 _ _ _) rfl ⟨al (al (Below.refl _ _) _) _, _, rfl, OwnI.nil _ _⟩
  have e1 : decide (wd < 2) = false := by simpa using a1
  by_cases a2 : 39 < wd
  · have e2 : decide (39 < wd) = true := by simpa using a2
    clear h
    go_enter Try.func34, Try.ntmps34
    go_wp2_with fail
    exact bodyPost_ret (results_tmp2 Try.results34 _ _ _) rfl ⟨al (al (Below.refl _ _) _) _, _, rfl, OwnI.nil _ _⟩
  have e2 : decide (39 < wd) = false := by simpa using a2
  by_cases a3 : ri < 0
  · have e3 : decide (ri < 0) = true := by simpa using a3
    clear h
    go_enter Try.func34, Try.ntmps34
    go_wp2_with fail
    exact bodyPost_ret (results_tmp2 Try.results34 _ _ _) rfl ⟨al (al (Below.refl _ _) _) _, _, rfl, OwnI.nil _ _⟩
  have e3 : decide (ri < 0) = false := by simpa using a3
  have a4 : 1000 < ri := by omega
  have e4 : decide (1000 < ri) = true := by simpa using a4
  clear h
  go_enter Try.func34, Try.ntmps34
  go_wp2_with fail
  exact bodyPost_ret (results_tmp2 Try.results34 _ _ _) rfl ⟨al (al (Below.refl _ _) _) _, _, rfl, OwnI.nil _ _⟩

theorem specMake_bad (wd ri : Int) (w : World) (h : ¬ ((2 ≤ wd ∧ wd ≤ 39) ∧ 0 ≤ ri ∧ ri ≤ 1000)) :
    Calls Try.prog 33 #[.int .i64 wd, .int .i64 ri] w fun e w' => Below w.heap.size w w' ∧ ∃ v, e = .returned (.tuple #[v, .int .i64 2]) ∧ OwnI w' w.heap.size v [] := by
  by_cases a : 2 ≤ wd ∧ wd ≤ 39
  · have a3 : ri < 0 ∨ 1000 < ri := by omega
    clear h
    go_enter Try.func33, Try.ntmps33
    go_wp2_with (go_at_call 97; first | (refine (in_yes _ _ _ _ (by omega) (by omega)).mono ?_; rintro e w1 ⟨rfl, hw1⟩; replace hw1 := hw1.symm; subst hw1) | (refine (in_no _ _ _ _ (by omega)).mono ?_; rintro e w1 ⟨rfl, hw1⟩; replace hw1 := hw1.symm; subst hw1))
    exact bodyPost_ret (results_tmp2 Try.results33 _ _ _) rfl ⟨al (Below.refl _ _) _, _, rfl, OwnI.made _ (Nat.le_refl _)⟩
  · clear h
    go_enter Try.func33, Try.ntmps33
    go_wp2_with (go_at_call 97; refine (in_no _ _ _ _ (by omega)).mono ?_; rintro e w1 ⟨rfl, hw1⟩; replace hw1 := hw1.symm; subst hw1)
    exact bodyPost_ret (results_tmp2 Try.results33 _ _ _) rfl ⟨al (Below.refl _ _) _, _, rfl, OwnI.made _ (Nat.le_refl _)⟩

theorem specMake_in (wd : Nat) (ri : Int) (w : World) (h2 : 2 ≤ wd) (h39 : wd ≤ 39) (r0 : 0 ≤ ri) (r1 : ri ≤ 1000) :
    Calls Try.prog 33 #[.int .i64 (wd : Int), .int .i64 ri] w (MadePost wd ri w) := by
  obtain ⟨i0, hi, hz0, hz1, hz2⟩ := info_parts infoI64
  have pq := sq_pos h2 h39
  go_enter Try.func33, Try.ntmps33
  go_wp2_with (go_at_call 97; refine (in_yes _ _ _ _ (by omega) (by omega)).mono ?_; rintro e w1 ⟨rfl, hw1⟩; replace hw1 := hw1.symm; subst hw1)
  obtain ⟨W0, hW0⟩ : ∃ W0 : World, W0 = (w.alloc (.cells #[] 2)) := ⟨_, rfl⟩
  have B0 : Below w.heap.size w W0 := by rw [hW0]; exact al (Below.refl _ _) _
  have O0 : OwnI W0 w.heap.size (.slice (some ⟨w.heap.size, 0, none⟩) 0 0) [] := by rw [hW0]; exact OwnI.made w (Nat.le_refl _)
  rw [← hW0]
  clear hW0 r0 r1
  go_loopw [6, 7] (fun t6 t7 wr => ∃ m : Nat, m ≤ wd + 1 ∧ t7 = .int .i64 m ∧ Below w.heap.size w wr ∧ OwnI wr w.heap.size t6 (mkL wd ri m)) (fun t6 t7 wr => wd + 1 - (intOf t7).toNat)
  case atStart => exact ⟨0, by omega, rfl, B0, O0⟩
  case round =>
    clear B0 O0
    obtain ⟨m, hm, rfl, B, O⟩ := hrel
    obtain ⟨v0, rfl⟩ : ∃ v0 : Value, v0 = u6 := ⟨_, rfl⟩
    by_cases hlt : m < wd + 1
    · have hli : (m : Int) ≤ (wd : Int) := by omega
      have hlen := mkL_length wd ri m
      go_wp2_with (at_builtin; refine wpList_append_own _ rfl _ _ 29 rfl w.heap.size 2 i0 (.int .i64 0) 1 8 Try.underlying29 hi hz0 hz1 hz2 rfl (by decide) _ _ _ rfl (World.ownsRow.alloc O _) ⟨wr.heap.size, 0, none⟩ 1 1 [.int .i64 _] rfl rfl (ncells wr #[.int .i64 _] 2) one64 (by have := B.size; unfold maxLen; omega) (by have := B.size; omega) (by have := B.size; simp; omega) ?_; intro v' w1 own' hgr _)
      have B1 : Below w.heap.size w w1 := (al B _).grown hgr (al B _).size (fun k e => (O.lt k e).1)
      have O1 : OwnI w1 w.heap.size v' (mkL wd ri (m + 1)) := by
        rw [mkL_succ]
        exact OwnI.snoc own'
      clear own' hgr O B
      exact ⟨⟨m + 1, by omega, by first | go_num | simp, B1, O1⟩, by simp [intOf]; omega⟩
    · have hli : ¬ (m : Int) ≤ (wd : Int) := by omega
      obtain rfl : m = wd + 1 := by omega
      obtain ⟨A, cap, rfl⟩ := O.shape
      have R := O.rd.2
      rw [mkL_length] at R ⊢
      have HR := Lib.hid R
      clear R
      go_wp2_with fail
      refine (l03Bow_any A (wd + 1) cap _ _ (by omega) HR.out).mono ?_
      rintro e w1 ⟨hb, ⟨h, rfl⟩ | ⟨h, rfl⟩⟩
      · have H := Lib.hid h
        clear h
        have B1 := B.trans (hb.mono B.size)
        have O1 := O.below hb
        rw [mkL_length] at O1
        clear hb O B
        go_wp2_with fail
        exact bodyPost_ret (results_tmp2 Try.results33 _ _ _) rfl ⟨B1, .inl ⟨H.out, _, rfl, O1⟩⟩
      · have H := Lib.hid h
        clear h
        have B1 := B.trans (hb.mono B.size)
        clear hb O B
        go_wp2_with fail
        exact bodyPost_ret (results_tmp2 Try.results33 _ _ _) rfl ⟨al B1 _, .inr ⟨H.out, _, rfl, OwnI.made _ B1.size⟩⟩
end Go.Proofs.Ytjeccdmhpbaabaa
