/-
  The contracts of spec.OffsetBow and impl.OffsetBow. Conditions stand at each.
-/
import Derived.Test.YtjeccdmhpbaabaaRows
import Derived.Test.YtjeccdmhpbaabaaLine
import Derived.Test.YtjeccdmhpbaabaaConcat
import Derived.Deep.RegionLaw
namespace Go.Proofs.Ytjeccdmhpbaabaa
open Go Go.ChangeShapes Go.WideShapes Go.ChangeAt Go.RowKit
set_option linter.unusedVariables false
set_option linter.unusedSimpArgs false
set_option maxRecDepth 100000
set_option maxHeartbeats 2000000

theorem RdK.part {w : World} {B n b off : Nat} {c : Nat → Int} (h : RdK .i64 w B (some ⟨b, off, none⟩) n c) (k m : Nat) (hk : k + m ≤ n) : RdK .i64 w B (some ⟨b, off + k, none⟩) m (fun j => c (k + j)) := by
  intro h0
  obtain ⟨b', off', e, hl, h'⟩ := h (by omega)
  injection e with e
  injection e with e1 e2 _
  subst e1 e2
  refine ⟨b, off + k, rfl, hl, fun j hj => ?_⟩
  rw [Nat.add_assoc]
  exact h' (k + j) (by omega)
/-- a bow laid half a bow further. -/
def offL (n mid : Nat) (c : Nat → Int) : List Int := rowL (n - mid) (fun j => c (mid + j)) ++ rowL mid (fun j => c (1 + j))
def OffPost (n mid : Nat) (c : Nat → Int) (w : World) (e : Ending) (w' : World) : Prop :=
  Below w.heap.size w w' ∧ ((Bow n c ∧ ∃ v, e = .returned (.tuple #[v, .int .i64 0]) ∧ OwnI w' w.heap.size v (offL n mid c)) ∨ (¬ Bow n c ∧ ∃ v, e = .returned (.tuple #[v, .int .i64 1]) ∧ OwnI w' w.heap.size v []))

theorem offBuilt (b1 n mid : Nat) (A : Option Addr) (c : Nat → Int) (W : World) (hn : n ≤ 1048576) (hmid : mid = n / 2) (l1 : b1 < W.heap.size) (c1 : W.cell? ⟨b1, 0, none⟩ = some (.slice A n n)) (hr : RdK .i64 W W.heap.size A n c) :
    Calls Try.prog 103 #[.pointer (some ⟨b1, 0, none⟩)] W (Built (Bow n c) (offL n mid c) 1 W) := by
  have HR := Lib.hid hr
  clear hr
  go_enter Try.func103, Try.ntmps103
  go_wp2_with fail
  refine (asBow_any A n n 1 c _ (by omega) HR.out).mono ?_
  rintro e w1 ⟨hb, ⟨h, rfl⟩ | ⟨h, rfl⟩⟩
  case inr =>
    have H := Lib.hid h
    clear h
    go_wp2
    exact ⟨rfl, hb, .inr ⟨H.out, rfl⟩⟩
  have h3 := h.1
  have H := Lib.hid h
  clear h
  obtain ⟨b, off, rfl, hbl, _⟩ := rdInt64 HR.out (show 0 < n by omega)
  have q1 : (n : Int) / 2 = (mid : Int) := by omega
  have q0 : ¬ ((2 : Int) = 0) := by decide
  have q2 : IntKind.i64.wrap ((mid : Int) + 1) = (mid : Int) + 1 := IntWalk.i64_in _ (by omega)
  have q3 : (mid : Int) ≤ (n : Int) := by omega
  have q4 : (mid : Int) + 1 ≤ (n : Int) := by omega
  have q5 : (1 : Int) ≤ (mid : Int) + 1 := by omega
  have q6 : 0 ≤ (mid : Int) + 1 := by omega
  have hne1 : ¬ n = mid := by omega
  have hne2 : ¬ n = 1 := by omega
  have hmp : 0 < mid := by omega
  have hmn : mid < n := by omega
  have HM := Lib.hid hmid
  clear hmid
  go_wp2_with fail
  have R1 := (HR.out.below hb).mono hb.size
  obtain ⟨W2, hW2⟩ : ∃ W2 : World, W2 = (w1.alloc (.cells #[.slice (some ⟨b, off + mid, none⟩) (n - mid) (n - mid), .slice (some ⟨b, off + 1, none⟩) mid (n - 1)] 93)).drew := ⟨_, rfl⟩
  have B1 : Below w1.heap.size w1 W2 := by rw [hW2]; exact (al (Below.refl _ _) _).drew
  have s1 : W2.heap.size = w1.heap.size + 1 := by rw [hW2]; simp
  have hrow : W2.heap[w1.heap.size]? = some (.cells #[.slice (some ⟨b, off + mid, none⟩) (n - mid) (n - mid), .slice (some ⟨b, off + 1, none⟩) mid (n - 1)] 93 (0, 0)) := by rw [hW2]; exact heap_alloc_new w1 _
  have ra := ((R1.part mid (n - mid) (by omega)).below B1).mono B1.size
  have rb := ((R1.part 1 mid (by omega)).below B1).mono B1.size
  have hcall := concatH w1.heap.size (n - mid) mid (n - mid) (n - 1) _ _ _ _ W2 (by omega) ((cell_of_row _ _ 0 _ _ _ hrow).trans rfl) ((cell_of_row _ _ 1 _ _ _ hrow).trans rfl) (by omega) (by omega) (by omega) ra rb
  have HC := Lib.hid hcall
  have HW := Lib.hid hW2
  have S1 := Lib.hid s1
  clear hcall ra rb hrow hW2 s1 R1
  go_region_law
    ((go_simp
      go_at_call 104
      rw [← HW.out]
      refine HC.out.mono ?_
      rintro e w2 ⟨hb2, v, rfl, O⟩))
  all_goals
    have B2 : Below W.heap.size W w2 := nxt (nxt hb B1) hb2
    have O2 : OwnI w2 W.heap.size v (offL n mid c) := O.mono (by have := hb.size; have := S1.out; omega)
    clear O hb2
    go_wp2
    go_ret
    exact ⟨B2, .inl ⟨H.out, _, rfl, O2⟩⟩

theorem entersOff : Enters Try.prog 103 := enters_of Try.func103 (by kernel_rfl) rfl
theorem implOff_any (A : Option Addr) (n mid : Nat) (c : Nat → Int) (w : World) (hn : n ≤ 1048576) (hmid : mid = n / 2) (hr : RdK .i64 w w.heap.size A n c) :
    Calls Try.prog 42 #[.slice A n n] w (OffPost n mid c w) := by
  have hmf : ∀ (fn : Fn) (first cap : Array Value) (w : World), (Instr.makeFunc fn first cap).run Try.prog w = .ok (.func fn first cap) w := fun _ _ _ _ => rfl
  have HR := Lib.hid hr
  have HM := Lib.hid hmid
  clear hr hmid
  go_enter Try.func42, Try.ntmps42
  go_wp2_with fail
  obtain ⟨W0, hW0⟩ : ∃ W0 : World, W0 = (w.alloc (.cells #[.slice A n n] 29)) := ⟨_, rfl⟩
  have B0 : Below w.heap.size w W0 := by rw [hW0]; exact al (Below.refl _ _) _
  have s0 : W0.heap.size = w.heap.size + 1 := by rw [hW0]; simp
  have a1 : W0.cell? ⟨w.heap.size, 0, none⟩ = some (.slice A n n) := by
    rw [hW0, cell_of_row _ _ 0 _ _ _ (heap_alloc_new w _)]; rfl
  rw [← hW0]
  clear hW0
  refine (lineBy_any 103 _ (Bow n c) (offL n mid c) 1 W0 entersOff (fun W hb => offBuilt w.heap.size n mid A c W hn HM.out (by have := hb.size; omega) ((hb.cell (p := ⟨w.heap.size, 0, none⟩) (by show w.heap.size < W0.heap.size; omega)).trans a1) ((HR.out.below (nxt B0 hb)).mono (by have := hb.size; omega)))).mono ?_
  rintro e w1 ⟨hb, ⟨hg, v, rfl, O⟩ | ⟨hg, rfl⟩⟩
  · have HG := Lib.hid hg
    have B1 := nxt B0 hb
    clear hg hb a1
    go_wp2_with fail
    exact bodyPost_ret (results_tmp2 Try.results42 _ _ _) rfl ⟨B1, .inl ⟨HG.out, v, rfl, O.mono (by omega)⟩⟩
  · have HG := Lib.hid hg
    have B1 := nxt B0 hb
    clear hg hb a1
    go_wp2_with fail
    exact bodyPost_ret (results_tmp2 Try.results42 _ _ _) rfl ⟨B1, .inr ⟨HG.out, _, rfl, OwnI.nil _ _⟩⟩

theorem specOff_any (A : Option Addr) (n mid : Nat) (c : Nat → Int) (w : World) (hn : n ≤ 1048576) (hmid : mid = n / 2) (hr : RdK .i64 w w.heap.size A n c) :
    Calls Try.prog 41 #[.slice A n n] w (OffPost n mid c w) := by
  obtain ⟨i0, hi, hz0, hz1, hz2⟩ := info_parts infoI64
  have HR := Lib.hid hr
  clear hr
  go_enter Try.func41, Try.ntmps41
  go_wp2_with fail
  refine (l03Bow_any A n n c _ (by omega) HR.out).mono ?_
  rintro e w1 ⟨hb, ⟨h, rfl⟩ | ⟨h, rfl⟩⟩
  case inr =>
    have H := Lib.hid h
    clear h
    go_wp2_with fail
    exact bodyPost_ret (results_tmp2 Try.results41 _ _ _) rfl ⟨al hb _, .inr ⟨H.out, _, rfl, OwnI.made _ hb.size⟩⟩
  have h3 := h.1
  have H := Lib.hid h
  clear h
  obtain ⟨b, off, rfl, hbl, _⟩ := rdInt64 HR.out (show 0 < n by omega)
  have q1 : (n : Int) / 2 = (mid : Int) := by omega
  have q0 : ¬ ((2 : Int) = 0) := by decide
  have q2 : IntKind.i64.wrap ((mid : Int) + 1) = (mid : Int) + 1 := IntWalk.i64_in _ (by omega)
  have q3 : (mid : Int) ≤ (n : Int) := by omega
  have q4 : (mid : Int) + 1 ≤ (n : Int) := by omega
  have q5 : (1 : Int) ≤ (mid : Int) + 1 := by omega
  have q6 : 0 ≤ (mid : Int) + 1 := by omega
  have hne1 : ¬ n = mid := by omega
  have hne2 : ¬ n = 1 := by omega
  have hmp : 0 < mid := by omega
  have hmn : mid < n := by omega
  have HM := Lib.hid hmid
  have HB := Lib.hid hb
  have R1 := Lib.hid ((HR.out.below hb).mono hb.size)
  clear hmid hb
  have F1 : (w1.alloc (.cells #[] 2)).drew.ownsRow w.heap.size 2 1 (.slice (some ⟨w1.heap.size, 0, none⟩) 0 0) 0 [] := OwnI.made w1 HB.out.size
  have F2 : ∀ j u, ((rowL (n - mid) (fun j => c (mid + j))).map (Value.int .i64))[j]? = some u → (w1.alloc (.cells #[] 2)).drew.cell? ((⟨b, off + mid, none⟩ : Addr).add j) = some u := rd_news ((R1.out.part mid (n - mid) (by omega)).below (al (Below.refl w1.heap.size w1) (.cells #[] 2)).drew)
  have F3 : w.heap.size ≤ (w1.alloc (.cells #[] 2)).drew.heap.size := by have := HB.out.size; simp; omega
  have F4 : ∀ wA, (w1.alloc (.cells #[] 2)).drew.grownBy wA (some w1.heap.size) → Below w1.heap.size w1 wA := fun wA hgr => (al (Below.refl w1.heap.size w1) (.cells #[] 2)).drew.grown hgr (by simp) (fun k e => by injection e with e; omega)
  have G1 := Lib.hid F1
  have G2 := Lib.hid F2
  have G3 := Lib.hid F3
  have G4 := Lib.hid F4
  clear F1 F2 F3 F4
  go_wp2_with fail
  go_region_law
    ((first
      | (refine wp_append_own _ _ _ 29 rfl w.heap.size 2 i0 (.int .i64 0) 1 8 Try.underlying29 hi hz0 hz1 hz2 rfl (by decide) (.slice (some ⟨w1.heap.size, 0, none⟩) 0 0) 0 [] rfl G1.out ⟨b, off + mid, none⟩ (n - mid) (n - mid) ((rowL (n - mid) (fun j => c (mid + j))).map (Value.int .i64)) rfl (by simp [rowL_length]) G2.out ints64 (by unfold maxLen; omega) (by omega) G3.out ?_
         intro v1 wA own1 hgr1 _
         have BA := G4.out _ hgr1)
      | (refine wp_append_own _ _ _ 29 rfl w.heap.size 2 i0 (.int .i64 0) 1 8 Try.underlying29 hi hz0 hz1 hz2 rfl (by decide) v1 (0 + (n - mid)) _ rfl own1 ⟨b, off + 1, none⟩ mid (n - 1) ((rowL mid (fun j => c (1 + j))).map (Value.int .i64)) rfl (by simp [rowL_length]) (rd_news ((R1.out.part 1 mid (by omega)).below BA)) ints64 (by unfold maxLen; omega) (by omega) (by have := HB.out.size; have := BA.size; omega) ?_
         intro v2 wB own2 hgr2 _)))
  all_goals
    have B1 : Below w.heap.size w wA := nxt HB.out BA
    have B2 : Below w.heap.size w wB := B1.grown hgr2 B1.size (fun k e => (World.ownsRow.lt own1 k e).1)
    have O2 : OwnI wB w.heap.size v2 (offL n mid c) := by
      unfold OwnI offL
      simpa [rowL_length] using own2
    clear own1 own2 hgr1 hgr2 BA B1
    go_wp2
    exact bodyPost_ret (results_tmp2 Try.results41 _ _ _) rfl ⟨B2, .inl ⟨H.out, _, rfl, O2⟩⟩
end Go.Proofs.Ytjeccdmhpbaabaa
