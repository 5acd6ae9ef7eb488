/-
  Both sides of CheckStacks answer the same. Conditions stand at each.
-/
import Derived.Test.YtkggimalkjjnoaaRows
import Derived.Test.YtkggimalkjjnoaaYardM
namespace Go.Proofs.Ytkggimalkjjnoaa
open Go Go.ChangeShapes Go.WideShapes Go.ChangeAt Go.RowKit
set_option linter.unusedVariables false
set_option linter.unusedSimpArgs false
set_option maxRecDepth 100000
set_option maxHeartbeats 4000000
namespace checkStacks
def Fine (n : Nat) (c : Nat → Int) (m : Nat) (d : Nat → Int) (l : Nat) (s : Nat → Int) : Prop := StkOk n l s ∧ StRight s (tnF c m d) n
def CkPost (n : Nat) (c : Nat → Int) (m : Nat) (d : Nat → Int) (l : Nat) (s : Nat → Int) (w : World) (e : Ending) (w' : World) : Prop :=
  Below w.heap.size w w' ∧ ((∃ r, r ≠ 0 ∧ StCode n c m d r ∧ e = .returned (.tuple #[.bool false, .int .i64 r])) ∨
    (StCode n c m d 0 ∧ Fine n c m d l s ∧ e = .returned (.tuple #[.bool true, .int .i64 0])) ∨ (StCode n c m d 0 ∧ ¬ Fine n c m d l s ∧ e = .returned (.tuple #[.bool false, .int .i64 0])))
theorem ok_of {n : Nat} {c : Nat → Int} {m : Nat} {d : Nat → Int} (h : StCode n c m d 0) : n ≤ 10 ∧ Again n c m d := by
  rcases h with ⟨a, e⟩ | ⟨a, b, e⟩ | ⟨a, b, e⟩
  · exact absurd e (by decide)
  · exact absurd e (by decide)
  · exact ⟨a, b⟩

theorem spec_any (A B D : Option Addr) (n m l ca cb cd : Nat) (c d s : Nat → Int) (w : World) (hn : n ≤ 1048576) (hm : m ≤ 1048576) (hl : l ≤ 1048576) (hca : n ≤ ca) (hcb : m ≤ cb) (hr : RdK .i64 w w.heap.size A n c) (hs : RdK .i64 w w.heap.size B m d) (ht : RdK .i64 w w.heap.size D l s) :
    Calls Try.prog 58 #[.slice A n ca, .slice B m cb, .slice D l cd] w (CkPost n c m d l s w) := by
  have HH := Lib.hid (l05Both_any A B n m ca cb c d w hn hm hca hcb hr hs)
  have HR := Lib.hid hr
  have HS := Lib.hid hs
  have HT := Lib.hid ht
  clear hr hs ht
  go_enter Try.func58, Try.ntmps58
  go_wp2_with fail
  refine HH.out.mono ?_
  rintro e W ⟨hb, r, hv, rfl⟩
  by_cases h0 : r = 0
  case neg =>
    have d0 : (r != 0) = true := by simpa using h0
    have HV := Lib.hid hv
    have H0 := Lib.hid h0
    clear hv h0
    go_wp2_with fail
    exact bodyPost_ret (results_tmp2 Try.results58 _ _ _) rfl ⟨hb, .inl ⟨r, H0.out, HV.out, rfl⟩⟩
  subst h0
  have HV := Lib.hid hv
  obtain ⟨h10, hag⟩ := ok_of hv
  have HA := Lib.hid hag
  clear hv hag
  by_cases hln : l = n
  case neg =>
    have d1 : ((l : Int) != (n : Int)) = true := by simp; omega
    have HN := Lib.hid hln
    clear hln
    go_wp2_with fail
    exact bodyPost_ret (results_tmp2 Try.results58 _ _ _) rfl ⟨hb, .inr (.inr ⟨HV.out, fun h => HN.out h.1.1, rfl⟩)⟩
  subst hln
  have d1 : ((l : Int) != (l : Int)) = false := by simp
  go_wp2_with fail
  clear d1
  go_loopw [9, 10] (fun t9 t10 wr => ∃ k : Nat, k ≤ l ∧ t9 = .int .i64 k ∧ Below w.heap.size w wr ∧ (∀ j, j < k → 0 ≤ s j ∧ s j ≤ 9) ∧ StRight s (tnF c m d) k) (fun t9 t10 wr => l - (intOf t9).toNat)
  case atStart => exact ⟨0, by omega, rfl, hb, fun j hj => by omega, fun i hi => by omega⟩
  case round =>
    clear hb
    obtain ⟨i, hi, rfl, hb, hall, hR⟩ := hrel
    have HL := Lib.hid hall
    have HRT := Lib.hid hR
    clear hall hR
    by_cases hlt : i < l
    · have hki : (i : Int) < (l : Int) := by omega
      obtain ⟨b, off, rfl, hbl, c0⟩ := rdInt64 (HT.out.below hb) hlt
      by_cases hin : 0 ≤ s i ∧ s i ≤ 9
      case neg =>
        have HI := Lib.hid hin
        obtain ⟨x, hx⟩ : ∃ x, x = s i := ⟨_, rfl⟩
        rw [← hx] at c0 hin
        clear hx
        go_wp2_with (go_at_call 132; refine (in_no _ _ _ _ hin).mono ?_; rintro e w2 ⟨rfl, hw1⟩; replace hw1 := hw1.symm; subst hw1)
        exact bodyPost_ret (results_tmp2 Try.results58 _ _ _) rfl ⟨hb, .inr (.inr ⟨HV.out, fun h => HI.out (h.1.2 i hlt), rfl⟩)⟩
      have HI := Lib.hid hin
      obtain ⟨x, hx⟩ : ∃ x, x = s i := ⟨_, rfl⟩
      rw [← hx] at c0 hin
      have HX := Lib.hid hx
      clear hx
      go_wp2_with (go_at_call 132; refine (in_yes _ _ _ _ hin.1 hin.2).mono ?_; rintro e w2 ⟨rfl, hw1⟩; replace hw1 := hw1.symm; subst hw1)
      clear hin
      go_loopw [10] (fun t10 wr' => ∃ k : Nat, k ≤ i ∧ t10 = .int .i64 k ∧ Below w.heap.size w wr' ∧ ∀ j, j < k → s j = s i → ¬ tnF c m d j < tnF c m d i) (fun t10 wr' => i - (intOf t10).toNat)
      case atStart => exact ⟨0, by omega, rfl, hb, fun j hj => by omega⟩
      case round =>
        clear hb c0
        obtain ⟨k, hk, rfl, hb, hall⟩ := hrel
        have HJ := Lib.hid hall
        clear hall
        by_cases hlk : k < i
        · have hkk : (k : Int) < (i : Int) := by omega
          have hkl : (k : Int) < (l : Int) := by omega
          have hi0 : (0 : Int) ≤ (i : Int) := by omega
          have hk0 : (0 : Int) ≤ (k : Int) := by omega
          obtain ⟨b1, off1, e1, hbl1, c1⟩ := rdInt64 (HT.out.below hb) hlt
          obtain ⟨b2, off2, e2, hbl2, c2⟩ := rdInt64 (HT.out.below hb) (show k < l by omega)
          injection e1 with e1
          injection e1 with e3 e4 _
          subst e3 e4
          injection e2 with e2
          injection e2 with e3 e4 _
          subst e3 e4
          rw [← HX.out] at c1
          obtain ⟨y, hy⟩ : ∃ y, y = s k := ⟨_, rfl⟩
          rw [← hy] at c2
          by_cases hyx : y = x
          · have d1 : (y == x) = true := by simpa using hyx
            obtain ⟨bA, offA, rfl, hblA, cA1⟩ := rdInt64 (HR.out.below hb) (show i < l by omega)
            obtain ⟨bA2, offA2, eA, hblA2, cA2⟩ := rdInt64 (HR.out.below hb) (show k < l by omega)
            injection eA with eA
            injection eA with e3 e4 _
            subst e3 e4
            have hf1 := tnF_at HA.out (show i < l by omega)
            have hf2 := tnF_at HA.out (show k < l by omega)
            obtain ⟨p, hp⟩ : ∃ p, p = tn d m (c i) := ⟨_, rfl⟩
            obtain ⟨q, hq⟩ : ∃ q, q = tn d m (c k) := ⟨_, rfl⟩
            have htp : tnF c m d i = (p : Int) := by unfold tnF; rw [hp]
            have htq : tnF c m d k = (q : Int) := by unfold tnF; rw [hq]
            rw [← hp] at hf1
            rw [← hq] at hf2
            obtain ⟨u, hu⟩ : ∃ u, u = c i := ⟨_, rfl⟩
            obtain ⟨v, hv⟩ : ∃ v, v = c k := ⟨_, rfl⟩
            rw [← hu] at cA1 hf1
            rw [← hv] at cA2 hf2
            have HP := Lib.hid htp
            have HQ := Lib.hid htq
            have hB' := (HS.out.below hb).mono hb.size
            have HWq := Lib.hid (fun (z : Nat) => where_at B m cb d v q (wr.drewN z) hm ((hB'.below (below_drewN' (Below.refl wr.heap.size wr) z)).mono (below_drewN' (Below.refl wr.heap.size wr) z).size) hf2)
            have HWp := Lib.hid (fun (z : Nat) => where_at B m cb d u p (wr.drewN z) hm ((hB'.below (below_drewN' (Below.refl wr.heap.size wr) z)).mono (below_drewN' (Below.refl wr.heap.size wr) z).size) hf1)
            clear hB'
            have HYX : Hid (s k = s i) := Lib.hid (by rw [← hy, ← HX.out]; exact hyx)
            clear hy hyx htp htq hf1 hf2 hu hv hp hq
            by_cases hpq : q < p
            · have d2 : decide (q < p) = true := by simpa using hpq
              have HPQ := Lib.hid hpq
              clear hpq
              go_wp2
              go_quiet ((go_at_call 126; (first | (with_reducible exact Calls.quiet_of_same (HWq.out _)) | (with_reducible exact Calls.quiet_of_same (HWp.out _)))))
              go_wp2_with fail
              exact bodyPost_ret (results_tmp2 Try.results58 _ _ _) rfl ⟨below_drewN' hb _, .inr (.inr ⟨HV.out, fun h => h.2 i hlt k hlk HYX.out (by rw [HP.out, HQ.out]; have := HPQ.out; omega), rfl⟩)⟩
            · have d2 : decide (q < p) = false := by simpa using hpq
              have HPQ := Lib.hid hpq
              clear hpq
              go_wp2
              go_quiet ((go_at_call 126; (first | (with_reducible exact Calls.quiet_of_same (HWq.out _)) | (with_reducible exact Calls.quiet_of_same (HWp.out _)))))
              go_wp2
              exact ⟨⟨k + 1, by omega, by first | go_num | simp, below_drewN' hb _, fun j hj e => by
                by_cases e' : j = k
                · subst e'; rw [HP.out, HQ.out]; have := HPQ.out; omega
                · have := HJ.out j (by omega) e; omega⟩, by simp [intOf]; omega⟩
          · have d1 : (y == x) = false := by simpa using hyx
            have HYX : Hid (s k ≠ s i) := Lib.hid (by rw [← hy, ← HX.out]; exact hyx)
            clear hy hyx
            go_wp2
            go_quiet (fail)
            go_wp2
            exact ⟨⟨k + 1, by omega, by first | go_num | simp, below_drewN' hb _, fun j hj e => by
              by_cases e' : j = k
              · subst e'; exact absurd e HYX.out
              · have := HJ.out j (by omega) e; omega⟩, by simp [intOf]; omega⟩
        · obtain rfl : k = i := by omega
          have hkk : ¬ ((k : Int) < (k : Int)) := by omega
          go_wp2
          exact ⟨⟨k + 1, by omega, by first | go_num | simp, hb, fun j hj => by
            by_cases e : j = k
            · subst e; exact HI.out
            · exact HL.out j (by omega), fun a ha j hj e => by
            by_cases e' : a < k
            · exact HRT.out a e' j hj e
            · obtain rfl : a = k := by omega
              have := HJ.out j hj e; omega⟩, by simp [intOf]; omega⟩
    · obtain rfl : i = l := by omega
      have hki : ¬ ((i : Int) < (i : Int)) := by omega
      go_wp2_with fail
      exact bodyPost_ret (results_tmp2 Try.results58 _ _ _) rfl ⟨hb, .inr (.inl ⟨HV.out, ⟨⟨rfl, HL.out⟩, HRT.out⟩, rfl⟩)⟩
end checkStacks
end Go.Proofs.Ytkggimalkjjnoaa
