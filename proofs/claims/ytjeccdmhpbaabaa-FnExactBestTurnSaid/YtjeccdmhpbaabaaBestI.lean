/-
  The contracts of impl.leastOf over numbers and of the closures of impl.BestTurn. Conditions stand at each.
-/
import Derived.StillTailTactics
import Derived.Test.YtjeccdmhpbaabaaRows
import Derived.Test.YtjeccdmhpbaabaaBestM
import Derived.Test.YtjeccdmhpbaabaaCommonI
namespace Go.Proofs.Ytjeccdmhpbaabaa
open Go Go.ChangeShapes Go.WideShapes Go.ChangeAt Go.RowKit
set_option linter.unusedVariables false
set_option linter.unusedSimpArgs false
set_option maxRecDepth 100000
set_option maxHeartbeats 2000000

theorem leastOf_any (gf : Nat) (lb : Array Value) (A : Option Addr) (n cap : Nat) (f : Nat → Int) (w : World) (hn : n ≤ 1000) (hr : RdK .i64 w w.heap.size A n (fun j => (j : Int)))
    (hE : ∀ args w, (callFunc gf args).run Try.prog w = .ok (.enter gf args) w)
    (hF : ∀ W, Below w.heap.size w W → ∀ i : Nat, i < n → Calls Try.prog gf (#[.int .i64 (i : Int)] ++ lb) W fun e w' => e = .returned (.int .i64 (f i)) ∧ Below W.heap.size W w') :
    Calls Try.prog 121 #[.slice A n cap, .func (.func gf) #[] lb] w fun e w' => e = .returned (.tuple #[.int .i64 (amS f n).1, .int .i64 (amS f n).2]) ∧ Below w.heap.size w w' := by
  have HR := Lib.hid hr
  have HF := Lib.hid hF
  have HE := Lib.hid hE
  clear hr hF hE
  go_enter Try.func121, Try.ntmps121
  go_wp2_with fail
  go_loopw [6, 7, 8, 9, 10, 13] (fun t6 t7 t8 t9 t10 t13 wr => ∃ k : Nat, k ≤ n ∧ t13 = .int .i64 k ∧ t6 = .int .i64 (amS f k).1 ∧ t7 = .int .i64 (amS f k).2 ∧ Below w.heap.size w wr) (fun t6 t7 t8 t9 t10 t13 wr => n - (intOf t13).toNat)
  case atStart => exact ⟨0, by omega, rfl, rfl, rfl, Below.refl _ _⟩
  case round =>
    obtain ⟨k, hk, rfl, rfl, rfl, B⟩ := hrel
    obtain ⟨wo, rfl⟩ : ∃ wo : World, wo = wr := ⟨_, rfl⟩
    have HB := Lib.hid B
    clear B
    by_cases hlt : k < n
    · obtain ⟨b, off, rfl, hbl, ck⟩ := rdInt64 (HR.out.below HB.out) hlt
      obtain ⟨l, hl⟩ : ∃ l, l = (amS f k).2 := ⟨_, rfl⟩
      obtain ⟨bb, hbb⟩ : ∃ bb, bb = (amS f k).1 := ⟨_, rfl⟩
      obtain ⟨x, hx⟩ : ∃ x, x = f k := ⟨_, rfl⟩
      have hyes := amS_yes (f := f) (k := k)
      have hno := amS_no (f := f) (k := k)
      rw [← hx, ← hl] at hyes hno
      have hcall := HF.out wo HB.out k hlt
      rw [← hx] at hcall
      rw [← hl, ← hbb]
      have hpair : amS f k = (bb, l) := by rw [hbb, hl]
      rw [hpair] at hno
      have HY := Lib.hid hyes
      have HN := Lib.hid hno
      have HC := Lib.hid hcall
      have hE := HE.out
      clear hl hbb hx hyes hno hpair hcall
      go_wp2_with fail
      refine HC.out.mono ?_
      rintro e w1 ⟨rfl, hb⟩
      have B1 := nxt HB.out hb
      clear hb hE
      by_cases h0 : k = 0
      · have hk0 : ((k : Int) == 0) = true := by simp; exact h0
        have H0 := Lib.hid h0
        clear h0
        go_wp2_with fail
        exact ⟨⟨k + 1, by omega, by first | go_num | simp, by rw [HY.out (.inl H0.out)], by rw [HY.out (.inl H0.out)], B1⟩, by simp [intOf]; omega⟩
      · have hk0 : ((k : Int) == 0) = false := by simp; exact h0
        by_cases hlt2 : x < l
        · have D : decide (x < l) = true := by simpa using hlt2
          go_wp2_with fail
          exact ⟨⟨k + 1, by omega, by first | go_num | simp, by rw [HY.out (.inr hlt2)], by rw [HY.out (.inr hlt2)], B1⟩, by simp [intOf]; omega⟩
        · have D : decide (x < l) = false := by simpa using hlt2
          go_wp2_with fail
          exact ⟨⟨k + 1, by omega, by first | go_num | simp, by rw [HN.out h0 hlt2], by rw [HN.out h0 hlt2], B1⟩, by simp [intOf]; omega⟩
    · obtain rfl : k = n := by omega
      go_wp2_with fail
      exact bodyPost_ret (results_tmp2 Try.results121 _ _ _) rfl ⟨rfl, HB.out⟩

theorem turnedS_any (b1 b2 g : Nat) (A : Option Addr) (n cap k cap' : Nat) (w : World) (h1 : 1 ≤ n) (h60 : n ≤ 60) (hk : k < n) (hcap : n + n ≤ cap') (hmx : cap' ≤ maxLen)
    (c1 : w.cell? ⟨b1, 0, none⟩ = some (.slice A n cap)) (c2 : w.cell? ⟨b2, 0, none⟩ = some (.slice (some ⟨g, 0, none⟩) (n + n) cap')) :
    Calls Try.prog 162 #[.int .i64 (k : Int), .pointer (some ⟨b1, 0, none⟩), .pointer (some ⟨b2, 0, none⟩)] w fun e w' => e = .returned (.slice (some ⟨g, k, none⟩) n n) ∧ w' = w := by
  unfold maxLen at hmx
  have q1 : IntKind.i64.wrap ((k : Int) + (n : Int)) = (k : Int) + (n : Int) := IntWalk.i64_in _ (by omega)
  have q2 : (k : Int) + (n : Int) ≤ (cap' : Int) := by omega
  have q3 : (k : Int) ≤ (k : Int) + (n : Int) := by omega
  have q4 : 0 ≤ (k : Int) + (n : Int) := by omega
  have q5 : ((k : Int) + (n : Int)).toNat = k + n := by omega
  have q6 : ¬ n = 0 := by omega
  go_enter Try.func162, Try.ntmps162
  go_wp2_with fail
  go_ret
  exact ⟨rfl, rfl⟩

/-- how many joints a row has in common with another one that is turned. -/
def comN (n m : Nat) (c d : Nat → Int) (joint : Int) (i : Nat) : Int := ((comL (jtL joint (turnC m i d) (m - 1)) (jtL joint c (n - 1))).length : Nat)
/-- what the closures of BestTurn hold. -/
def BB (N pa pt pj b1 b2 g cap' : Nat) (A B : Option Addr) (n m ca cb : Nat) (c d : Nat → Int) (joint : Int) (W : World) : Prop :=
  (pa < N ∧ W.cell? ⟨pa, 0, none⟩ = some (.slice A n ca)) ∧ (pt < N ∧ W.cell? ⟨pt, 0, none⟩ = some (.func (.func 162) #[] #[.pointer (some ⟨b1, 0, none⟩), .pointer (some ⟨b2, 0, none⟩)])) ∧
  (pj < N ∧ W.cell? ⟨pj, 0, none⟩ = some (.int .i64 joint)) ∧ (b1 < N ∧ W.cell? ⟨b1, 0, none⟩ = some (.slice B m cb)) ∧ (b2 < N ∧ W.cell? ⟨b2, 0, none⟩ = some (.slice (some ⟨g, 0, none⟩) (m + m) cap')) ∧
  RdK .i64 W N A n c ∧ (g < N ∧ ∀ j, j < m + m → W.cell? ⟨g, j, none⟩ = some (.int .i64 ((rowL m d ++ rowL m d).getD j 0)))
theorem BB.below {N pa pt pj b1 b2 g cap' : Nat} {A B : Option Addr} {n m ca cb : Nat} {c d : Nat → Int} {joint : Int} {W W' : World} (h : BB N pa pt pj b1 b2 g cap' A B n m ca cb c d joint W) (hb : Below N W W') :
    BB N pa pt pj b1 b2 g cap' A B n m ca cb c d joint W' := by
  obtain ⟨⟨a1, a2⟩, ⟨d1, d2⟩, ⟨e1, e2⟩, ⟨f1, f2⟩, ⟨g1, g2⟩, h1, k1, k2⟩ := h
  exact ⟨⟨a1, (hb.cell (p := ⟨pa, 0, none⟩) a1).trans a2⟩, ⟨d1, (hb.cell (p := ⟨pt, 0, none⟩) d1).trans d2⟩, ⟨e1, (hb.cell (p := ⟨pj, 0, none⟩) e1).trans e2⟩, ⟨f1, (hb.cell (p := ⟨b1, 0, none⟩) f1).trans f2⟩, ⟨g1, (hb.cell (p := ⟨b2, 0, none⟩) g1).trans g2⟩, h1.below hb, k1, fun j hj => (hb.cell (p := ⟨g, j, none⟩) k1).trans (k2 j hj)⟩

theorem bestBy_any (N pa pt pj b1 b2 g cap' : Nat) (A B : Option Addr) (n m ca cb : Nat) (c d : Nat → Int) (joint : Int) (i : Nat) (w : World) (h1 : 1 ≤ n) (h60 : n ≤ 60) (hca : n ≤ ca) (g1 : 1 ≤ m) (g60 : m ≤ 60) (hcap : m + m ≤ cap') (hmx : cap' ≤ maxLen) (hi : i < m) (hN : N ≤ w.heap.size)
    (h : BB N pa pt pj b1 b2 g cap' A B n m ca cb c d joint w) :
    Calls Try.prog 122 #[.int .i64 (i : Int), .pointer (some ⟨pa, 0, none⟩), .pointer (some ⟨pt, 0, none⟩), .pointer (some ⟨pj, 0, none⟩)] w fun e w' => e = .returned (.int .i64 (comN n m c d joint i)) ∧ Below w.heap.size w w' := by
  obtain ⟨⟨a1, a2⟩, ⟨d1, d2⟩, ⟨e1, e2⟩, ⟨f1, f2⟩, ⟨k1, k2⟩, hr, l1, l2⟩ := h
  have HR := Lib.hid hr
  have hs : RdK .i64 w N (some ⟨g, i, none⟩) m (turnC m i d) := fun _ => ⟨g, i, rfl, l1, fun j hj => by rw [← twice_get hi hj]; exact l2 (i + j) (by omega)⟩
  have HS := Lib.hid hs
  have hEt : ∀ (args : Array Value) (w : World), (callFunc 162 args).run Try.prog w = .ok (.enter 162 args) w := enters_of Try.func162 (by kernel_rfl) rfl
  clear hr hs l2
  go_enter Try.func122, Try.ntmps122
  go_wp2_with fail
  refine wp_region_still_tail 5 (by kernel_rfl) (by kernel_rfl) ?_
  simp only [List.take_succ_cons, List.take_zero, List.drop_succ_cons, List.drop_zero]
  still_step
  still_step
  still_step
  still_call (turnedS_any b1 b2 g B m cb i cap' _ g1 g60 hi hcap hmx (by assumption) (by assumption))
  still_step
  refine wpStill_nil ?_
  change wpList _ _ _ _ _ w.drew
  have RA : RdK .i64 w.drew w.drew.heap.size A n c := (HR.out).mono hN
  have RB : RdK .i64 w.drew w.drew.heap.size (some ⟨g, i, none⟩) m (turnC m i d) := (HS.out).mono hN
  have B0 : Below w.heap.size w w.drew := (Below.refl _ _).drew
  obtain ⟨w0, hw0⟩ : ∃ w0, w0 = w.drew := ⟨_, rfl⟩
  rw [← hw0] at RA RB B0 ⊢
  clear hw0 a2 d2 e2 f2 k2
  go_wp2_with fail
  refine (callsIn_wide.1 (commonOf_in A (some ⟨g, i, none⟩) n m ca m c (turnC m i d) joint _ h1 h60 hca g1 g60 (Nat.le_refl _) RA RB)).mono ?_
  rintro e w1 ⟨hb, v, rfl, O⟩
  have B1 := nxt B0 hb
  obtain ⟨A', cap2, rfl⟩ := O.shape
  clear hb O RA RB
  go_wp2_with fail
  go_ret
  exact ⟨rfl, B1⟩
end Go.Proofs.Ytjeccdmhpbaabaa
