/-
  A copy of a slice of setts that a call makes. Conditions stand at each.
-/
import Derived.Test.YtjeccdmhpbaabaaRows
import Derived.Test.YtjeccdmhpbaabaaSetts
import Derived.Lib.SliceRun
namespace Go.Proofs.Ytjeccdmhpbaabaa
open Go Go.ChangeShapes Go.WideShapes Go.ChangeAt Go.RowKit
set_option linter.unusedVariables false
set_option linter.unusedSimpArgs false
set_option maxRecDepth 100000
set_option maxHeartbeats 2000000

def settsV (n : Nat) (c d : Nat → Int) : List Value := (List.range (n * 2)).map fun i => if i % 2 = 0 then .int .i8 (c (i / 2)) else .int .i16 (d (i / 2))
theorem settsV_length (n : Nat) (c d : Nat → Int) : (settsV n c d).length = n * 2 := by simp [settsV]
theorem settsV_one {n : Nat} {c d : Nat → Int} : ∀ u ∈ settsV n c d, u.oneCell' = true := by
  intro u hu
  obtain ⟨i, _, rfl⟩ := List.mem_map.1 hu
  by_cases h : i % 2 = 0
  · rw [if_pos h]; rfl
  · rw [if_neg h]; rfl
theorem settsV_get {n : Nat} {c d : Nat → Int} {i : Nat} (h : i < n * 2) : (settsV n c d)[i]? = some (if i % 2 = 0 then .int .i8 (c (i / 2)) else .int .i16 (d (i / 2))) := by
  unfold settsV
  rw [List.getElem?_map, List.getElem?_range h]
  rfl
theorem setts_news {w : World} {B n b off : Nat} {c d : Nat → Int} (h : RdS w B (some ⟨b, off, none⟩) n c d) : ∀ j u, (settsV n c d)[j]? = some u → w.cell? ((⟨b, off, none⟩ : Addr).add j) = some u := by
  intro j u hu
  by_cases hj : j < n * 2
  · rw [settsV_get hj] at hu
    injection hu with hu
    obtain ⟨b', off', e, _, hc⟩ := h (by omega)
    injection e with e
    injection e with e1 e2 _
    subst e1 e2
    obtain ⟨h1, h2⟩ := hc (j / 2) (by omega)
    rw [← hu, Go.WideShapes.add_plain]
    by_cases hm : j % 2 = 0
    · rw [if_pos hm]
      rwa [show j / 2 * 2 = j by omega] at h1
    · rw [if_neg hm]
      rwa [show off + j / 2 * 2 + 1 = off + j by omega] at h2
  · rw [List.getElem?_eq_none (by rw [settsV_length]; omega)] at hu
    cases hu
/-- the copy is a row of setts of the call's own. -/
theorem setts_own {w : World} {base n : Nat} {v : Value} {c d : Nat → Int} (h1 : 1 ≤ n) (h : w.ownsRow base 89 2 v n (settsV n c d)) : ∃ g cap, v = .slice (some ⟨g, 0, none⟩) n cap ∧ base ≤ g ∧ As w g n c d := by
  rcases h.2 with ⟨_, h0⟩ | ⟨g, cap, cur, rfl, hb, hg, _⟩
  · omega
  · refine ⟨g, cap, rfl, hb, (Array.getElem?_eq_some_iff.1 hg).1, fun j hj => ?_⟩
    have hc := World.ownsRow.cells h rfl
    have a1 := hc (j * 2) _ (settsV_get (by omega))
    have a2 := hc (j * 2 + 1) _ (settsV_get (by omega))
    rw [if_pos (by omega), Go.WideShapes.add_plain, Nat.zero_add, Nat.mul_div_cancel _ (by decide)] at a1
    rw [if_neg (by omega), Go.WideShapes.add_plain, Nat.zero_add, show (j * 2 + 1) / 2 = j by omega] at a2
    exact ⟨⟨a1, a2⟩, World.ownsRow.frozenAt h _, World.ownsRow.frozenAt h _⟩

theorem cloneS_any (b off n cap : Nat) (c d : Nat → Int) (w : World) (h1 : 1 ≤ n) (h6 : n ≤ 6) (hr : RdS w w.heap.size (some ⟨b, off, none⟩) n c d) :
    Calls Try.prog 134 #[.slice (some ⟨b, off, none⟩) n cap] w fun e w' => Below w.heap.size w w' ∧ ∃ g cp, e = .returned (.slice (some ⟨g, 0, none⟩) n cp) ∧ w.heap.size ≤ g ∧ As w' g n c d := by
  obtain ⟨i0, hi, hz0, hz1, hz2⟩ := info_parts infoSett
  have hb1 := al (Below.refl w.heap.size w) (.cells #[] 89)
  have R1 := Lib.hid (hr.below hb1)
  have q22 : ∀ (w : World) (a : Option Addr) (n c n' c' : Nat), (binOp .eql 25 (.slice a n c) (.slice none n' c')).run Try.prog w = .ok (.bool a.isNone) w := fun w a n c n' c' => Lib.run_eql_slice_nil w _ _ a n c n' c' Try.underlying25
  clear hr
  go_enter Try.func134, Try.ntmps134
  go_wp2_with (at_builtin; refine wpList_append_own _ rfl _ _ 25 rfl w.heap.size 89 i0 (.agg #[.int .i8 0, .int .i16 0]) 2 4 Try.underlying25 hi hz0 hz1 hz2 rfl (by decide) _ _ _ rfl (World.ownsRow_made w #[] 0 (Nat.le_refl _) (Nat.zero_le _) rfl) ⟨b, off, none⟩ n cap (settsV n c d) rfl (settsV_length n c d) (setts_news R1.out) settsV_one (by unfold maxLen; omega) (by omega) (by simp) ?_; intro v' w1 own' hgr _)
  rw [Nat.zero_add, List.nil_append] at own'
  have hgr2 : (w.alloc (.cells #[] 89)).grownBy w1 (some w.heap.size) := hgr
  have B1 : Below w.heap.size w w1 := hb1.grown hgr2 (by simp) (fun k e => by injection e with e; omega)
  obtain ⟨g, cp, rfl, hg, hA⟩ := setts_own h1 own'
  clear own' hgr hgr2
  go_wp2
  go_ret
  exact ⟨B1, g, cp, rfl, hg, hA⟩
end Go.Proofs.Ytjeccdmhpbaabaa
