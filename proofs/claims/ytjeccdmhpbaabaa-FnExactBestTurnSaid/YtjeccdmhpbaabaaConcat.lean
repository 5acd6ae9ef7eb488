/-
  The contracts of slices.Grow of nil and of slices.Concat of two rows of numbers. Conditions stand at each.
-/
import Derived.Test.YtjeccdmhpbaabaaRows
import Derived.Test.YtjeccdmhpbaabaaNums
import Derived.Test.YtjeccdmhpbaabaaBow
import Derived.Test.YtjeccdmhpbaabaaMake
import Derived.Lib.AppendZeros
namespace Go.Proofs.Ytjeccdmhpbaabaa
open Go Go.ChangeShapes Go.WideShapes Go.ChangeAt Go.RowKit
set_option linter.unusedVariables false
set_option linter.unusedSimpArgs false
set_option maxRecDepth 100000
set_option maxHeartbeats 2000000

def rowL (n : Nat) (c : Nat → Int) : List Int := (List.range n).map c
theorem rowL_length (n : Nat) (c : Nat → Int) : (rowL n c).length = n := by simp [rowL]
theorem rd_news {w : World} {B n b off : Nat} {c : Nat → Int} (h : RdK .i64 w B (some ⟨b, off, none⟩) n c) : ∀ j u, ((rowL n c).map (Value.int .i64))[j]? = some u → w.cell? ((⟨b, off, none⟩ : Addr).add j) = some u := by
  intro j u hu
  unfold rowL at hu
  rw [List.map_map, List.getElem?_map] at hu
  by_cases hj : j < n
  · rw [List.getElem?_range hj] at hu
    simp at hu
    subst hu
    rw [Go.WideShapes.add_plain]
    exact rdTwo h hj
  · rw [List.getElem?_eq_none (by simpa using hj)] at hu
    simp at hu
theorem OwnI.app {w : World} {base : Nat} {v : Value} {L M : List Int} {m : Nat} (h : w.ownsRow base 2 1 v (L.length + m) (L.map (Value.int .i64) ++ M.map (Value.int .i64))) (hm : m = M.length) : OwnI w base v (L ++ M) := by
  unfold OwnI
  rw [List.length_append, List.map_append, ← hm]
  exact h
theorem rd_head {w : World} {B n : Nat} {A : Option Addr} {c : Nat → Int} (h : RdK .i64 w B A n c) (hn : 0 < n) : ∃ b off, A = some ⟨b, off, none⟩ ∧ b < B := by
  obtain ⟨b, off, e, hb, _⟩ := h hn
  exact ⟨b, off, e, hb⟩

theorem growI (k : Nat) (w : World) (h0 : 0 < k) (hk : k ≤ 1000) :
    Calls Try.prog 189 #[.slice none 0 0, .int .i64 (k : Int)] w fun e w' => Below w.heap.size w w' ∧ ∃ v, e = .returned v ∧ OwnI w' w.heap.size v [] := by
  obtain ⟨i0, hi, hz0, hz1, hz2⟩ := info_parts infoI64
  have k1 : decide ((k : Int) < 0) = false := by simp
  have k2 : decide (0 < (k : Int)) = true := by simp; omega
  have k3 : IntKind.i64.wrap (k : Int) = (k : Int) := IntWalk.i64_in _ (by omega)
  have hrun := Lib.run_append_nil_zeros (P := Try.prog) w 29 3 29 2 i0 (.int .i64 0) .i64 .i64 Try.underlying29 Try.underlying3 hi hz0 k h0 (by rw [hz1]; decide) (by omega) (by rw [hz2]; omega)
  have HRUN := Lib.hid hrun
  have H0 := Lib.hid h0
  clear hrun
  go_enter Try.func189, Try.ntmps189
  go_wp2_with (at_builtin; refine Lib.wpList_append_run _ rfl _ _ _ _ rfl _ _ rfl rfl _ _ HRUN.out ?_)
  go_ret
  refine ⟨al (Below.refl _ _).drew _, _, rfl, rfl, .inr ⟨w.heap.size, _, _, rfl, Nat.le_refl _, heap_alloc_new w.drew _, Nat.zero_le _, grownCap_le_maxLen w k 0 2 (by unfold maxLen; omega), ?_, by simp⟩⟩
  have := grownCap_ge w k 0 2
  simp [Builtin.zeroCells, Value.cells]
  try omega

theorem concatI (bo n0 n1 cap0 cap1 : Nat) (A0 A1 : Option Addr) (c0 c1 : Nat → Int) (w : World) (hbo : bo < w.heap.size)
    (v0 : w.cell? ⟨bo, 0, none⟩ = some (.slice A0 n0 cap0)) (v1 : w.cell? ⟨bo, 1, none⟩ = some (.slice A1 n1 cap1))
    (p0 : 0 < n0) (p1 : 0 < n1) (hn : n0 + n1 ≤ 1000) (r0 : RdK .i64 w w.heap.size A0 n0 c0) (r1 : RdK .i64 w w.heap.size A1 n1 c1) :
    Calls Try.prog 161 #[.slice (some ⟨bo, 0, none⟩) 2 2] w fun e w' => Below w.heap.size w w' ∧ ∃ v, e = .returned v ∧ OwnI w' w.heap.size v (rowL n0 c0 ++ rowL n1 c1) := by
  obtain ⟨i0, hi, hz0, hz1, hz2⟩ := info_parts infoI64
  obtain ⟨b0, o0, rfl, l0⟩ := rd_head r0 p0
  obtain ⟨b1, o1, rfl, l1⟩ := rd_head r1 p1
  have R0 := Lib.hid r0
  have R1 := Lib.hid r1
  have V0 := Lib.hid v0
  have V1 := Lib.hid v1
  clear r0 r1 v0 v1
  go_enter Try.func161, Try.ntmps161
  go_wp2_with fail
  go_loopw [3, 11] (fun t3 t11 wr => ∃ k : Nat, k ≤ 2 ∧ t11 = .int .i64 k ∧ t3 = .int .i64 ((if k = 0 then 0 else if k = 1 then n0 else n0 + n1 : Nat) : Int) ∧ wr = w) (fun t3 t11 wr => 2 - (intOf t11).toNat)
  case atStart => exact ⟨0, by omega, rfl, rfl, by first | trivial | rfl⟩
  case round =>
    obtain ⟨k, hk, rfl, rfl, rfl⟩ := hrel
    obtain ⟨w0, rfl⟩ : ∃ w0 : World, w0 = wr := ⟨_, rfl⟩
    have hk3 : k = 0 ∨ k = 1 ∨ k = 2 := by omega
    rcases hk3 with rfl | rfl | rfl
    · have v0 := V0.out
      have q1 : decide ((n0 : Int) < 0) = false := by simp
      have q2 : IntKind.i64.wrap (n0 : Int) = (n0 : Int) := IntWalk.i64_in _ (by omega)
      go_wp2_with fail
      exact ⟨⟨1, by omega, by first | go_num | simp, by simp, by first | trivial | rfl⟩, by simp [intOf]⟩
    · have v1 := V1.out
      have q1 : decide (((n0 : Int) + (n1 : Int)) < 0) = false := by simp; omega
      have q2 : IntKind.i64.wrap ((n0 : Int) + (n1 : Int)) = (n0 : Int) + (n1 : Int) := IntWalk.i64_in _ (by omega)
      go_wp2_with fail
      exact ⟨⟨2, by omega, by first | go_num | simp, by simp, by first | trivial | rfl⟩, by simp [intOf]⟩
    · simp only [show ¬ ((2 : Nat) = 0) by decide, show ¬ ((2 : Nat) = 1) by decide, if_false]
      go_wp2_with fail
      refine (growI (n0 + n1) _ (by omega) hn).mono ?_
      rintro e W0 ⟨hb, v, rfl, O0⟩
      go_wp2_with fail
      go_loopw [6, 27] (fun t6 t27 wr => ∃ k : Nat, k ≤ 2 ∧ t27 = .int .i64 k ∧ Below w0.heap.size w0 wr ∧ OwnI wr w0.heap.size t6 (if k = 0 then [] else if k = 1 then rowL n0 c0 else rowL n0 c0 ++ rowL n1 c1)) (fun t6 t27 wr => 2 - (intOf t27).toNat)
      case atStart => exact ⟨0, by omega, rfl, hb, O0⟩
      case round =>
        clear O0 hb
        obtain ⟨k, hk, rfl, B, O⟩ := hrel
        obtain ⟨v0, rfl⟩ : ∃ v0 : Value, v0 = u6 := ⟨_, rfl⟩
        have hk3 : k = 0 ∨ k = 1 ∨ k = 2 := by omega
        have HO := Lib.hid O
        have HB := Lib.hid B
        clear O B
        rcases hk3 with rfl | rfl | rfl
        · have x0 := (HB.out.cell (p := ⟨bo, 0, none⟩) hbo).trans V0.out
          have HQ : Hid (OwnI wr w0.heap.size v0 []) := Lib.hid (by simpa using HO.out)
          clear HO
          go_wp2_with (at_builtin; refine wpList_append_own _ rfl _ _ 29 rfl w0.heap.size 2 i0 (.int .i64 0) 1 8 Try.underlying29 hi hz0 hz1 hz2 rfl (by decide) _ _ _ rfl HQ.out ⟨b0, o0, none⟩ n0 cap0 ((rowL n0 c0).map (Value.int .i64)) rfl (by simp [rowL_length]) (rd_news (R0.out.below HB.out)) ints64 (by show 0 + n0 ≤ maxLen; unfold maxLen; omega) (by show (0 + n0) * 8 ≤ _; omega) (by have := HB.out.size; omega) ?_; intro v' w1 own' hgr _)
          have O1 := OwnI.app own' (by simp [rowL_length])
          have B1 : Below w0.heap.size w0 w1 := HB.out.grown hgr HB.out.size (fun k e => (HQ.out.lt k e).1)
          clear own' hgr
          exact ⟨⟨1, by omega, by first | go_num | simp, B1, by simpa using O1⟩, by simp [intOf]⟩
        · have x1 := (HB.out.cell (p := ⟨bo, 1, none⟩) hbo).trans V1.out
          have HQ : Hid (OwnI wr w0.heap.size v0 (rowL n0 c0)) := Lib.hid (by simpa using HO.out)
          clear HO
          go_wp2_with (at_builtin; refine wpList_append_own _ rfl _ _ 29 rfl w0.heap.size 2 i0 (.int .i64 0) 1 8 Try.underlying29 hi hz0 hz1 hz2 rfl (by decide) _ _ _ rfl HQ.out ⟨b1, o1, none⟩ n1 cap1 ((rowL n1 c1).map (Value.int .i64)) rfl (by simp [rowL_length]) (rd_news (R1.out.below HB.out)) ints64 (by have := rowL_length n0 c0; unfold maxLen; omega) (by have := rowL_length n0 c0; omega) (by have := HB.out.size; omega) ?_; intro v' w1 own' hgr _)
          have O1 := OwnI.app own' (by simp [rowL_length])
          have B1 : Below w0.heap.size w0 w1 := HB.out.grown hgr HB.out.size (fun k e => (HQ.out.lt k e).1)
          clear own' hgr
          exact ⟨⟨2, by omega, by first | go_num | simp, B1, by simpa using O1⟩, by simp [intOf]⟩
        · go_wp2_with fail
          go_ret
          exact ⟨HB.out, _, rfl, by simpa using HO.out⟩

theorem growH (k : Nat) (w : World) (h0 : 0 < k) (hk : k ≤ 1000) :
    Calls Try.prog 160 #[.slice none 0 0, .int .i64 (k : Int)] w fun e w' => Below w.heap.size w w' ∧ ∃ v, e = .returned v ∧ OwnI w' w.heap.size v [] := by
  obtain ⟨i0, hi, hz0, hz1, hz2⟩ := info_parts infoI64
  have k1 : decide ((k : Int) < 0) = false := by simp
  have k2 : decide (0 < (k : Int)) = true := by simp; omega
  have k3 : IntKind.i64.wrap (k : Int) = (k : Int) := IntWalk.i64_in _ (by omega)
  have hrun := Lib.run_append_nil_zeros (P := Try.prog) w 93 3 93 2 i0 (.int .i64 0) .i64 .i64 Try.underlying93 Try.underlying3 hi hz0 k h0 (by rw [hz1]; decide) (by omega) (by rw [hz2]; omega)
  have HRUN := Lib.hid hrun
  have H0 := Lib.hid h0
  clear hrun
  go_enter Try.func160, Try.ntmps160
  go_wp2_with (at_builtin; refine Lib.wpList_append_run _ rfl _ _ _ _ rfl _ _ rfl rfl _ _ HRUN.out ?_)
  go_ret
  refine ⟨al (Below.refl _ _).drew _, _, rfl, rfl, .inr ⟨w.heap.size, _, _, rfl, Nat.le_refl _, heap_alloc_new w.drew _, Nat.zero_le _, grownCap_le_maxLen w k 0 2 (by unfold maxLen; omega), ?_, by simp⟩⟩
  have := grownCap_ge w k 0 2
  simp [Builtin.zeroCells, Value.cells]
  try omega

theorem concatH (bo n0 n1 cap0 cap1 : Nat) (A0 A1 : Option Addr) (c0 c1 : Nat → Int) (w : World) (hbo : bo < w.heap.size)
    (v0 : w.cell? ⟨bo, 0, none⟩ = some (.slice A0 n0 cap0)) (v1 : w.cell? ⟨bo, 1, none⟩ = some (.slice A1 n1 cap1))
    (p0 : 0 < n0) (p1 : 0 < n1) (hn : n0 + n1 ≤ 1000) (r0 : RdK .i64 w w.heap.size A0 n0 c0) (r1 : RdK .i64 w w.heap.size A1 n1 c1) :
    Calls Try.prog 104 #[.slice (some ⟨bo, 0, none⟩) 2 2] w fun e w' => Below w.heap.size w w' ∧ ∃ v, e = .returned v ∧ OwnI w' w.heap.size v (rowL n0 c0 ++ rowL n1 c1) := by
  obtain ⟨i0, hi, hz0, hz1, hz2⟩ := info_parts infoI64
  obtain ⟨b0, o0, rfl, l0⟩ := rd_head r0 p0
  obtain ⟨b1, o1, rfl, l1⟩ := rd_head r1 p1
  have R0 := Lib.hid r0
  have R1 := Lib.hid r1
  have V0 := Lib.hid v0
  have V1 := Lib.hid v1
  clear r0 r1 v0 v1
  go_enter Try.func104, Try.ntmps104
  go_wp2_with fail
  go_loopw [3, 11] (fun t3 t11 wr => ∃ k : Nat, k ≤ 2 ∧ t11 = .int .i64 k ∧ t3 = .int .i64 ((if k = 0 then 0 else if k = 1 then n0 else n0 + n1 : Nat) : Int) ∧ wr = w) (fun t3 t11 wr => 2 - (intOf t11).toNat)
  case atStart => exact ⟨0, by omega, rfl, rfl, by first | trivial | rfl⟩
  case round =>
    obtain ⟨k, hk, rfl, rfl, rfl⟩ := hrel
    obtain ⟨w0, rfl⟩ : ∃ w0 : World, w0 = wr := ⟨_, rfl⟩
    have hk3 : k = 0 ∨ k = 1 ∨ k = 2 := by omega
    rcases hk3 with rfl | rfl | rfl
    · have v0 := V0.out
      have q1 : decide ((n0 : Int) < 0) = false := by simp
      have q2 : IntKind.i64.wrap (n0 : Int) = (n0 : Int) := IntWalk.i64_in _ (by omega)
      go_wp2_with fail
      exact ⟨⟨1, by omega, by first | go_num | simp, by simp, by first | trivial | rfl⟩, by simp [intOf]⟩
    · have v1 := V1.out
      have q1 : decide (((n0 : Int) + (n1 : Int)) < 0) = false := by simp; omega
      have q2 : IntKind.i64.wrap ((n0 : Int) + (n1 : Int)) = (n0 : Int) + (n1 : Int) := IntWalk.i64_in _ (by omega)
      go_wp2_with fail
      exact ⟨⟨2, by omega, by first | go_num | simp, by simp, by first | trivial | rfl⟩, by simp [intOf]⟩
    · simp only [show ¬ ((2 : Nat) = 0) by decide, show ¬ ((2 : Nat) = 1) by decide, if_false]
      go_wp2_with fail
      refine (growH (n0 + n1) _ (by omega) hn).mono ?_
      rintro e W0 ⟨hb, v, rfl, O0⟩
      go_wp2_with fail
      go_loopw [6, 27] (fun t6 t27 wr => ∃ k : Nat, k ≤ 2 ∧ t27 = .int .i64 k ∧ Below w0.heap.size w0 wr ∧ OwnI wr w0.heap.size t6 (if k = 0 then [] else if k = 1 then rowL n0 c0 else rowL n0 c0 ++ rowL n1 c1)) (fun t6 t27 wr => 2 - (intOf t27).toNat)
      case atStart => exact ⟨0, by omega, rfl, hb, O0⟩
      case round =>
        clear O0 hb
        obtain ⟨k, hk, rfl, B, O⟩ := hrel
        obtain ⟨v0, rfl⟩ : ∃ v0 : Value, v0 = u6 := ⟨_, rfl⟩
        have hk3 : k = 0 ∨ k = 1 ∨ k = 2 := by omega
        have HO := Lib.hid O
        have HB := Lib.hid B
        clear O B
        rcases hk3 with rfl | rfl | rfl
        · have x0 := (HB.out.cell (p := ⟨bo, 0, none⟩) hbo).trans V0.out
          have HQ : Hid (OwnI wr w0.heap.size v0 []) := Lib.hid (by simpa using HO.out)
          clear HO
          go_wp2_with (at_builtin; refine wpList_append_own _ rfl _ _ 93 rfl w0.heap.size 2 i0 (.int .i64 0) 1 8 Try.underlying93 hi hz0 hz1 hz2 rfl (by decide) _ _ _ rfl HQ.out ⟨b0, o0, none⟩ n0 cap0 ((rowL n0 c0).map (Value.int .i64)) rfl (by simp [rowL_length]) (rd_news (R0.out.below HB.out)) ints64 (by show 0 + n0 ≤ maxLen; unfold maxLen; omega) (by show (0 + n0) * 8 ≤ _; omega) (by have := HB.out.size; omega) ?_; intro v' w1 own' hgr _)
          have O1 := OwnI.app own' (by simp [rowL_length])
          have B1 : Below w0.heap.size w0 w1 := HB.out.grown hgr HB.out.size (fun k e => (HQ.out.lt k e).1)
          clear own' hgr
          exact ⟨⟨1, by omega, by first | go_num | simp, B1, by simpa using O1⟩, by simp [intOf]⟩
        · have x1 := (HB.out.cell (p := ⟨bo, 1, none⟩) hbo).trans V1.out
          have HQ : Hid (OwnI wr w0.heap.size v0 (rowL n0 c0)) := Lib.hid (by simpa using HO.out)
          clear HO
          go_wp2_with (at_builtin; refine wpList_append_own _ rfl _ _ 93 rfl w0.heap.size 2 i0 (.int .i64 0) 1 8 Try.underlying93 hi hz0 hz1 hz2 rfl (by decide) _ _ _ rfl HQ.out ⟨b1, o1, none⟩ n1 cap1 ((rowL n1 c1).map (Value.int .i64)) rfl (by simp [rowL_length]) (rd_news (R1.out.below HB.out)) ints64 (by have := rowL_length n0 c0; unfold maxLen; omega) (by have := rowL_length n0 c0; omega) (by have := HB.out.size; omega) ?_; intro v' w1 own' hgr _)
          have O1 := OwnI.app own' (by simp [rowL_length])
          have B1 : Below w0.heap.size w0 w1 := HB.out.grown hgr HB.out.size (fun k e => (HQ.out.lt k e).1)
          clear own' hgr
          exact ⟨⟨2, by omega, by first | go_num | simp, B1, by simpa using O1⟩, by simp [intOf]⟩
        · go_wp2_with fail
          go_ret
          exact ⟨HB.out, _, rfl, by simpa using HO.out⟩

end Go.Proofs.Ytjeccdmhpbaabaa
