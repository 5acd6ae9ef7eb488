/-
  The contracts of impl.turnedBy, of the function that it answers, and of spec.l03Turn. Conditions stand at each.
-/
import Derived.Test.YtjeccdmhpbaabaaRows
import Derived.Test.YtjeccdmhpbaabaaRow
import Derived.Test.YtjeccdmhpbaabaaConcat
import Derived.Test.YtjeccdmhpbaabaaOffset
import Derived.Test.YtjeccdmhpbaabaaResPart
import Derived.Deep.RegionLaw
namespace Go.Proofs.Ytjeccdmhpbaabaa
open Go Go.ChangeShapes Go.WideShapes Go.ChangeAt Go.RowKit
set_option linter.unusedVariables false
set_option linter.unusedSimpArgs false
set_option maxRecDepth 100000
set_option maxHeartbeats 2000000

/-- a row that begins with another number. -/
def turnC (n by_ : Nat) (c : Nat → Int) (j : Nat) : Int := if by_ + j < n then c (by_ + j) else c (by_ + j - n)
theorem rowL_get {n j : Nat} {c : Nat → Int} (h : j < n) : (rowL n c).getD j 0 = c j := numsL_getD h
theorem twice_get {n k j : Nat} {c : Nat → Int} (hk : k < n) (h : j < n) : (rowL n c ++ rowL n c).getD (k + j) 0 = turnC n k c j := by
  unfold turnC
  rw [List.getD_eq_getElem?_getD]
  by_cases h1 : k + j < n
  · rw [if_pos h1, List.getElem?_append_left (by rw [rowL_length]; exact h1), ← List.getD_eq_getElem?_getD, rowL_get h1]
  · rw [if_neg h1, List.getElem?_append_right (by rw [rowL_length]; omega), rowL_length, ← List.getD_eq_getElem?_getD, rowL_get (by omega)]
theorem turn_get {n k j : Nat} {c : Nat → Int} (hk : k < n) (h : j < n) : (rowL (n - k) (fun j => c (k + j)) ++ rowL k c).getD j 0 = turnC n k c j := by
  unfold turnC
  rw [List.getD_eq_getElem?_getD]
  by_cases h1 : k + j < n
  · rw [if_pos h1, List.getElem?_append_left (by rw [rowL_length]; omega), ← List.getD_eq_getElem?_getD, rowL_get (by omega)]
  · rw [if_neg h1, List.getElem?_append_right (by rw [rowL_length]; omega), rowL_length, ← List.getD_eq_getElem?_getD, rowL_get (by omega)]
    congr 1
    omega

theorem turnedBy_any (A : Option Addr) (n cap : Nat) (c : Nat → Int) (w : World) (h1 : 1 ≤ n) (h60 : n ≤ 60) (hr : RdK .i64 w w.heap.size A n c) :
    Calls Try.prog 108 #[.slice A n cap] w fun e w' => Below w.heap.size w w' ∧ ∃ b1 b2 v, e = .returned (.func (.func 162) #[] #[.pointer (some ⟨b1, 0, none⟩), .pointer (some ⟨b2, 0, none⟩)]) ∧
      (w.heap.size ≤ b1 ∧ b1 < w'.heap.size ∧ w.heap.size ≤ b2 ∧ b2 < w'.heap.size) ∧ w'.cell? ⟨b1, 0, none⟩ = some (.slice A n cap) ∧ w'.cell? ⟨b2, 0, none⟩ = some v ∧ OwnI w' w.heap.size v (rowL n c ++ rowL n c) := by
  have hmf : ∀ (fn : Fn) (first cap : Array Value) (w : World), (Instr.makeFunc fn first cap).run Try.prog w = .ok (.func fn first cap) w := fun _ _ _ _ => rfl
  obtain ⟨W1, hW1⟩ : ∃ W1 : World, W1 = ((w.alloc (.cells #[.slice A n cap] 29)).alloc (.cells #[.slice A n cap, .slice A n cap] 29)) := ⟨_, rfl⟩
  have B1 : Below w.heap.size w W1 := by rw [hW1]; exact al (al (Below.refl _ _) _) _
  have s1 : W1.heap.size = w.heap.size + 1 + 1 := by rw [hW1]; simp
  have hb1 : W1.heap[w.heap.size]? = some (.cells #[.slice A n cap] 29 (0, 0)) := by rw [hW1]; exact (Below.heap_alloc _ _ _ (by simp)).trans (heap_alloc_new w _)
  have hrow : W1.heap[w.heap.size + 1]? = some (.cells #[.slice A n cap, .slice A n cap] 29 (0, 0)) := by
    have := heap_alloc_new (w.alloc (.cells #[.slice A n cap] 29)) (.cells #[.slice A n cap, .slice A n cap] 29)
    rw [World.size_alloc] at this
    rw [hW1]; exact this
  have R1 := (hr.below B1).mono B1.size
  have hcall := concatI (w.heap.size + 1) n n cap cap A A c c W1 (by omega) ((cell_of_row _ _ 0 _ _ _ hrow).trans rfl) ((cell_of_row _ _ 1 _ _ _ hrow).trans rfl) (by omega) (by omega) (by omega) R1 R1
  have HC := Lib.hid hcall
  have HW := Lib.hid hW1
  have HB1 := Lib.hid hb1
  have S1 := Lib.hid s1
  have BB := Lib.hid B1
  clear hcall hrow hW1 s1 R1 hb1 B1 hr
  go_enter Try.func108, Try.ntmps108
  go_wp2_with fail
  rw [← HW.out]
  refine HC.out.mono ?_
  rintro e w2 ⟨hb2, v, rfl, O⟩
  obtain ⟨A', cap', rfl⟩ := O.shape
  have hl : (rowL n c ++ rowL n c).length = n + n := by simp [rowL_length]
  rw [hl] at O ⊢
  clear hl
  go_wp2_with fail
  go_ret
  have B2 := nxt BB.out hb2
  have s2 := hb2.size
  have s1 := S1.out
  refine ⟨al B2 _, w.heap.size, w2.heap.size, _, rfl, ⟨Nat.le_refl _, by simp; omega, B2.size, by simp⟩, ?_, ?_, (O.alloc _).mono (by omega)⟩
  · rw [cell_of_row _ _ 0 _ _ _ ((Below.heap_alloc w2 _ _ (by omega)).trans ((hb2.block _ (by omega)).trans HB1.out))]
    rfl
  · rw [cell_of_row _ _ 0 _ _ _ (heap_alloc_new w2 _)]
    rfl

theorem turned_any (b1 b2 : Nat) (A : Option Addr) (n cap k : Nat) (v : Value) (base : Nat) (c : Nat → Int) (w : World) (h1 : 1 ≤ n) (h60 : n ≤ 60) (hk : k < n)
    (c1 : w.cell? ⟨b1, 0, none⟩ = some (.slice A n cap)) (c2 : w.cell? ⟨b2, 0, none⟩ = some v) (O : OwnI w base v (rowL n c ++ rowL n c)) :
    Calls Try.prog 162 #[.int .i64 (k : Int), .pointer (some ⟨b1, 0, none⟩), .pointer (some ⟨b2, 0, none⟩)] w fun e w' => w' = w ∧ ∃ v', e = .returned v' ∧ HasPart .i64 w base v' n (turnC n k c) := by
  have hl : (rowL n c ++ rowL n c).length = n + n := by simp [rowL_length]
  obtain ⟨g, cap', cur, rfl, hg, hgw, hcap, hmx, _, _⟩ : ∃ g cap' cur, v = .slice (some ⟨g, 0, none⟩) (n + n) cap' ∧ base ≤ g ∧ w.heap[g]? = some (.cells cur 2 (0, 0)) ∧ n + n ≤ cap' ∧ cap' ≤ maxLen ∧ True ∧ True := by
    rcases O.2 with ⟨_, h0⟩ | ⟨g, cap', cur, rfl, hb, hg, hc, hm, _⟩
    · omega
    · exact ⟨g, cap', cur, by rw [hl], hb, hg, by omega, hm, trivial, trivial⟩
  obtain ⟨A2, g2, cap2, he, hh, ho⟩ := O.has
  injection he with e1 e2 e3
  subst e1
  have e4 : g2 = g := by
    have := (hh (by omega)).1
    injection this with this
    injection this with this
    exact this.symm
  subst e4
  subst e3
  clear e2
  have hgl := (hh (by omega)).2.2
  have HO := Lib.hid ho
  have HH := Lib.hid hg
  unfold maxLen at hmx
  have q1 : IntKind.i64.wrap ((k : Int) + (n : Int)) = (k : Int) + (n : Int) := IntWalk.i64_in _ (by omega)
  have q2 : (k : Int) + (n : Int) ≤ (cap' : Int) := by omega
  have q3 : (k : Int) ≤ (k : Int) + (n : Int) := by omega
  have q4 : 0 ≤ (k : Int) + (n : Int) := by omega
  have q5 : ((k : Int) + (n : Int)).toNat = k + n := by omega
  have q6 : ¬ n = 0 := by omega
  clear O hgw hl hh ho hg
  go_enter Try.func162, Try.ntmps162
  go_wp2_with fail
  go_ret
  refine ⟨rfl, _, rfl, some ⟨g2, k, none⟩, g2, k, n, rfl, fun _ => ⟨rfl, HH.out, hgl⟩, fun j hj => ?_⟩
  have h := HO.out (k + j) (by rw [List.length_append, rowL_length]; omega)
  rw [Nat.zero_add] at h
  rw [← twice_get hk hj]
  exact h

theorem l03Turn_any (A : Option Addr) (n k : Nat) (c : Nat → Int) (w : World) (h1 : 1 ≤ n) (h60 : n ≤ 60) (hk : k < n) (hr : RdK .i64 w w.heap.size A n c) :
    Calls Try.prog 106 #[.slice A n n, .int .i64 (k : Int)] w fun e w' => Below w.heap.size w w' ∧ ∃ v, e = .returned v ∧ OwnI w' w.heap.size v (rowL (n - k) (fun j => c (k + j)) ++ rowL k c) := by
  obtain ⟨i0, hi, hz0, hz1, hz2⟩ := info_parts infoI64
  have HR := Lib.hid hr
  clear hr
  obtain ⟨b, off, rfl, hbl, _⟩ := rdInt64 HR.out (show 0 < n by omega)
  have q3 : (k : Int) ≤ (n : Int) := by omega
  have hne1 : ¬ n = k := by omega
  have hne2 : ¬ n = 0 := by omega
  have F1 : (w.alloc (.cells #[] 2)).drew.ownsRow w.heap.size 2 1 (.slice (some ⟨w.heap.size, 0, none⟩) 0 0) 0 [] := OwnI.made w (Nat.le_refl _)
  have F2 : ∀ j u, ((rowL (n - k) (fun j => c (k + j))).map (Value.int .i64))[j]? = some u → (w.alloc (.cells #[] 2)).drew.cell? ((⟨b, off + k, none⟩ : Addr).add j) = some u := rd_news ((HR.out.part k (n - k) (by omega)).below (al (Below.refl w.heap.size w) (.cells #[] 2)).drew)
  have F3 : w.heap.size ≤ (w.alloc (.cells #[] 2)).drew.heap.size := by simp
  have F4 : ∀ wA, (w.alloc (.cells #[] 2)).drew.grownBy wA (some w.heap.size) → Below w.heap.size w wA := fun wA hgr => (al (Below.refl w.heap.size w) (.cells #[] 2)).drew.grown hgr (by simp) (fun k e => by injection e with e; omega)
  have R0 : RdK .i64 w w.heap.size (some ⟨b, off, none⟩) k c := by have := HR.out.part 0 k (by omega); simpa using this
  have G0 := Lib.hid R0
  have G1 := Lib.hid F1
  have G2 := Lib.hid F2
  have G3 := Lib.hid F3
  have G4 := Lib.hid F4
  clear F1 F2 F3 F4 R0
  go_enter Try.func106, Try.ntmps106
  go_wp2_with fail
  go_region_law
    ((first
      | (refine wp_append_own _ _ _ 29 rfl w.heap.size 2 i0 (.int .i64 0) 1 8 Try.underlying29 hi hz0 hz1 hz2 rfl (by decide) (.slice (some ⟨w.heap.size, 0, none⟩) 0 0) 0 [] rfl G1.out ⟨b, off + k, none⟩ (n - k) (n - k) ((rowL (n - k) (fun j => c (k + j))).map (Value.int .i64)) rfl (by simp [rowL_length]) G2.out ints64 (by unfold maxLen; omega) (by omega) G3.out ?_
         intro v1 wA own1 hgr1 _
         have BA := G4.out _ hgr1)
      | (refine wp_append_own _ _ _ 29 rfl w.heap.size 2 i0 (.int .i64 0) 1 8 Try.underlying29 hi hz0 hz1 hz2 rfl (by decide) v1 (0 + (n - k)) _ rfl own1 ⟨b, off, none⟩ k n ((rowL k c).map (Value.int .i64)) rfl (by simp [rowL_length]) (rd_news (G0.out.below BA)) ints64 (by unfold maxLen; omega) (by omega) BA.size ?_
         intro v2 wB own2 hgr2 _)))
  all_goals
    have B2 : Below w.heap.size w wB := BA.grown hgr2 BA.size (fun k e => (World.ownsRow.lt own1 k e).1)
    have O2 : OwnI wB w.heap.size v2 (rowL (n - k) (fun j => c (k + j)) ++ rowL k c) := by
      unfold OwnI
      simpa [rowL_length] using own2
    clear own1 own2 hgr1 hgr2 BA
    go_wp2
    go_ret
    exact ⟨B2, _, rfl, O2⟩
end Go.Proofs.Ytjeccdmhpbaabaa
