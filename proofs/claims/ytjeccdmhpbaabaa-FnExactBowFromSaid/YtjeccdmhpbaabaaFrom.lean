/-
  The contracts of spec.BowFrom and impl.BowFrom. Conditions stand at each.
-/
import Derived.Test.YtjeccdmhpbaabaaRows
import Derived.Test.YtjeccdmhpbaabaaMake
import Derived.StillTailTactics
import Derived.Deep.RegionLaw
import Derived.Laws.OwnMore
namespace Go.Proofs.Ytjeccdmhpbaabaa
open Go Go.ChangeShapes Go.WideShapes Go.ChangeAt Go.RowKit
set_option linter.unusedVariables false
set_option linter.unusedSimpArgs false
set_option maxRecDepth 100000
set_option maxHeartbeats 2000000

/-- the height behind some steps. -/
def hsum (s : Nat → Int) : Nat → Int
  | 0 => 0
  | i + 1 => wrap64 (hsum s i + s i)
def hsL (s : Nat → Int) (n : Nat) : List Int := (List.range n).map (hsum s)
theorem hsL_length (s : Nat → Int) (n : Nat) : (hsL s n).length = n := by simp [hsL]
theorem hsL_succ (s : Nat → Int) (n : Nat) : hsL s (n + 1) = hsL s n ++ [hsum s n] := numsL_succ n _
theorem hsL_get {s : Nat → Int} {n j : Nat} (h : j < n) : (hsL s n).getD j 0 = hsum s j := numsL_getD h
def FromGood (n : Nat) (s : Nat → Int) : Prop := Bow (n + 1) (fun j => (hsL s (n + 1)).getD j 0)
def FromPost (n : Nat) (s : Nat → Int) (w : World) (e : Ending) (w' : World) : Prop :=
  Below w.heap.size w w' ∧ ((FromGood n s ∧ ∃ v, e = .returned (.tuple #[v, .int .i64 0]) ∧ OwnI w' w.heap.size v (hsL s (n + 1))) ∨ (¬ FromGood n s ∧ ∃ v, e = .returned (.tuple #[v, .int .i64 4]) ∧ OwnI w' w.heap.size v []))
theorem OwnI.zero (w : World) {base : Nat} (h : base ≤ w.heap.size) (s : Nat → Int) : OwnI (w.alloc (.cells #[.int .i64 0] 2)) base (.slice (some ⟨w.heap.size, 0, none⟩) 1 1) (hsL s 1) :=
  World.ownsRow_lit w #[.int .i64 0] 1 h (by decide) rfl

theorem fromBuilt (b1 : Nat) (A : Option Addr) (n cap : Nat) (s : Nat → Int) (W : World) (hn : n ≤ 1048576) (l1 : b1 < W.heap.size) (c1 : W.cell? ⟨b1, 0, none⟩ = some (.slice A n cap)) (hr : RdK .i64 W W.heap.size A n s) :
    Calls Try.prog 101 #[.pointer (some ⟨b1, 0, none⟩)] W (Built (FromGood n s) (hsL s (n + 1)) 4 W) := by
  obtain ⟨i0, hi, hz0, hz1, hz2⟩ := info_parts infoI64
  have HR := Lib.hid hr
  clear hr
  have c2 : (W.alloc (.cells #[.int .i64 0] 2)).cell? ⟨b1, 0, none⟩ = some (.slice A n cap) := (World.cell?_of_block (w := W) (Below.heap_alloc W _ _ l1)).trans c1
  go_enter Try.func101, Try.ntmps101
  go_wp2_with fail
  obtain ⟨W0, hW0⟩ : ∃ W0 : World, W0 = (W.alloc (.cells #[.int .i64 0] 2)) := ⟨_, rfl⟩
  have B0 : Below W.heap.size W W0 := by rw [hW0]; exact al (Below.refl _ _) _
  have O0 : OwnI W0 W.heap.size (.slice (some ⟨W.heap.size, 0, none⟩) 1 1) (hsL s 1) := by rw [hW0]; exact OwnI.zero W (Nat.le_refl _) s
  rw [← hW0]
  clear hW0 c1 c2
  go_loopw [2, 8] (fun t2 t8 wr => ∃ m : Nat, m ≤ n ∧ t8 = .int .i64 m ∧ Below W.heap.size W wr ∧ OwnI wr W.heap.size t2 (hsL s (m + 1))) (fun t2 t8 wr => n - (intOf t8).toNat)
  case atStart => exact ⟨0, by omega, rfl, B0, O0⟩
  case round =>
    clear B0 O0
    obtain ⟨m, hm, rfl, B, O⟩ := hrel
    by_cases hlt : m < n
    · have hlti : (m : Int) < (n : Int) := by omega
      obtain ⟨b, off, rfl, hbl, ck⟩ := rdInt64 (HR.out.below B) hlt
      have hlen := hsL_length s (m + 1)
      obtain ⟨A', cap', rfl⟩ := O.shape
      obtain ⟨p, hp⟩ : ∃ p, p = m + 1 := ⟨_, rfl⟩
      have hm' : (m : Int) < (p : Int) := by omega
      rw [hlen, ← hp] at O ⊢
      have R := O.rd.2
      obtain ⟨b', off', rfl, hbl', ck'⟩ := rdInt64 R (show m < p by omega)
      rw [hp, hsL_get (by omega)] at ck'
      have HO := Lib.hid O
      have HB := Lib.hid B
      have HP := Lib.hid hp
      obtain ⟨x, hx⟩ : ∃ x, x = s m := ⟨_, rfl⟩
      obtain ⟨y, hy⟩ : ∃ y, y = hsum s m := ⟨_, rfl⟩
      rw [← hx] at ck
      rw [← hy] at ck'
      have HX := Lib.hid (And.intro hx hy)
      clear R hlen O B hp hx hy
      go_wp2_with (at_builtin; refine wpList_append_own _ rfl _ _ 93 rfl W.heap.size 2 i0 (.int .i64 0) 1 8 Try.underlying93 hi hz0 hz1 hz2 rfl (by decide) _ _ _ rfl (World.ownsRow.alloc HO.out _) ⟨wr.heap.size, 0, none⟩ 1 1 [.int .i64 _] rfl rfl (ncells wr #[.int .i64 _] 2) one64 (by have := HB.out.size; have := hsL_length s p; have := HP.out; unfold maxLen; omega) (by have := HB.out.size; have := hsL_length s p; have := HP.out; omega) (by have := HB.out.size; have := hsL_length s p; have := HP.out; simp; omega) ?_; intro v' w1 own' hgr _)
      have O := HO.out
      have B := HB.out
      have B1 : Below W.heap.size W w1 := (al B _).grown hgr (al B _).size (fun k e => (O.lt k e).1)
      have O1 : OwnI w1 W.heap.size v' (hsL s (m + 1 + 1)) := by
        rw [hsL_succ, show hsum s (m + 1) = wrap64 (hsum s m + s m) from rfl, ← HX.out.1, ← HX.out.2, ← HP.out]
        exact OwnI.snoc own'
      clear own' hgr O B
      exact ⟨⟨m + 1, by omega, by first | go_num | simp, B1, O1⟩, by simp [intOf]; omega⟩
    · have hli : ¬ (m : Int) < (n : Int) := by omega
      obtain rfl : m = n := by omega
      obtain ⟨A', cap', rfl⟩ := O.shape
      have R := O.rd.2
      rw [hsL_length] at R ⊢
      have HR := Lib.hid R
      clear R
      go_wp2_with fail
      refine (asBow_any A' (m + 1) cap' 4 _ _ (by omega) HR.out).mono ?_
      rintro e w1 ⟨hb, ⟨h, rfl⟩ | ⟨h, rfl⟩⟩
      · have H := Lib.hid h
        clear h
        have B1 := B.trans (hb.mono B.size)
        have O1 := O.below hb
        rw [hsL_length] at O1
        clear hb O B
        go_wp2
        go_ret
        exact ⟨B1, .inl ⟨H.out, _, rfl, O1⟩⟩
      · have H := Lib.hid h
        clear h
        have B1 := B.trans (hb.mono B.size)
        clear hb O B
        go_wp2
        exact ⟨rfl, B1, .inr ⟨H.out, rfl⟩⟩

theorem entersFrom : Enters Try.prog 101 := enters_of Try.func101 (by kernel_rfl) rfl
theorem implFrom_any (A : Option Addr) (n cap : Nat) (s : Nat → Int) (w : World) (hn : n ≤ 1048576) (hr : RdK .i64 w w.heap.size A n s) :
    Calls Try.prog 38 #[.slice A n cap] w (FromPost n s w) := by
  have hmf : ∀ (fn : Fn) (first cap : Array Value) (w : World), (Instr.makeFunc fn first cap).run Try.prog w = .ok (.func fn first cap) w := fun _ _ _ _ => rfl
  have HR := Lib.hid hr
  clear hr
  go_enter Try.func38, Try.ntmps38
  go_wp2_with fail
  obtain ⟨W0, hW0⟩ : ∃ W0 : World, W0 = (w.alloc (.cells #[.slice A n cap] 29)) := ⟨_, rfl⟩
  have B0 : Below w.heap.size w W0 := by rw [hW0]; exact al (Below.refl _ _) _
  have s0 : W0.heap.size = w.heap.size + 1 := by rw [hW0]; simp
  have a1 : W0.cell? ⟨w.heap.size, 0, none⟩ = some (.slice A n cap) := by
    rw [hW0, cell_of_row _ _ 0 _ _ _ (heap_alloc_new w _)]; rfl
  rw [← hW0]
  clear hW0
  refine (lineBy_any 101 _ (FromGood n s) (hsL s (n + 1)) 4 W0 entersFrom (fun W hb => fromBuilt w.heap.size A n cap s W hn (by have := hb.size; omega) ((hb.cell (p := ⟨w.heap.size, 0, none⟩) (by show w.heap.size < W0.heap.size; omega)).trans a1) ((HR.out.below (nxt B0 hb)).mono (by have := hb.size; omega)))).mono ?_
  rintro e w1 ⟨hb, ⟨hg, v, rfl, O⟩ | ⟨hg, rfl⟩⟩
  · have HG := Lib.hid hg
    have B1 := nxt B0 hb
    clear hg hb a1
    go_wp2_with fail
    exact bodyPost_ret (results_tmp2 Try.results38 _ _ _) rfl ⟨B1, .inl ⟨HG.out, v, rfl, O.mono (by omega)⟩⟩
  · have HG := Lib.hid hg
    have B1 := nxt B0 hb
    clear hg hb a1
    go_wp2_with fail
    exact bodyPost_ret (results_tmp2 Try.results38 _ _ _) rfl ⟨B1, .inr ⟨HG.out, _, rfl, OwnI.nil _ _⟩⟩

/-- a good row of steps has none that is too great, and is not too long. -/
theorem FromGood.step {n : Nat} {s : Nat → Int} (h : FromGood n s) (hs : ∀ j, (Lit.int .i64 (s j)).wf = true) {j : Nat} (hj : j < n) : (-1000 ≤ s j ∧ s j ≤ 1000) ∧ j < 39 := by
  have h40 := h.1.2
  have a := h.2.2.1 j (by omega)
  have b := h.2.2.1 (j + 1) (by omega)
  unfold InR at a b
  simp only at a b
  rw [hsL_get (by omega)] at a b
  have e : hsum s (j + 1) = wrap64 (hsum s j + s j) := rfl
  have hb := bd64 (hs j)
  rw [e] at b
  unfold wrap64 at b
  omega

theorem specFrom_any (A : Option Addr) (n cap : Nat) (s : Nat → Int) (w : World) (hn : n ≤ 1048576) (hs : ∀ j, (Lit.int .i64 (s j)).wf = true) (hr : RdK .i64 w w.heap.size A n s) :
    Calls Try.prog 37 #[.slice A n cap] w (FromPost n s w) := by
  obtain ⟨i0, hi, hz0, hz1, hz2⟩ := info_parts infoI64
  have HR := Lib.hid hr
  have HS := Lib.hid hs
  clear hr hs
  go_enter Try.func37, Try.ntmps37
  go_wp2_with fail
  obtain ⟨W0, hW0⟩ : ∃ W0 : World, W0 = (w.alloc (.cells #[.int .i64 0] 2)) := ⟨_, rfl⟩
  have B0 : Below w.heap.size w W0 := by rw [hW0]; exact al (Below.refl _ _) _
  have O0 : OwnI W0 w.heap.size (.slice (some ⟨w.heap.size, 0, none⟩) 1 1) (hsL s 1) := by rw [hW0]; exact OwnI.zero w (Nat.le_refl _) s
  rw [← hW0]
  clear hW0
  go_loopw [4, 5] (fun t4 t5 wr => ∃ m : Nat, m ≤ n ∧ t5 = .int .i64 m ∧ Below w.heap.size w wr ∧ OwnI wr w.heap.size t4 (hsL s (m + 1))) (fun t4 t5 wr => n - (intOf t5).toNat)
  case atStart => exact ⟨0, by omega, rfl, B0, O0⟩
  case round =>
    clear B0 O0
    obtain ⟨m, hm, rfl, B, O⟩ := hrel
    by_cases hlt : m < n
    · have hlti : (m : Int) < (n : Int) := by omega
      obtain ⟨b, off, rfl, hbl, ck⟩ := rdInt64 (HR.out.below B) hlt
      have hlen := hsL_length s (m + 1)
      obtain ⟨A', cap', rfl⟩ := O.shape
      obtain ⟨p, hp⟩ : ∃ p, p = m + 1 := ⟨_, rfl⟩
      have hm' : (m : Int) < (p : Int) := by omega
      rw [hlen, ← hp] at O ⊢
      have R := O.rd.2
      obtain ⟨b', off', rfl, hbl', ck'⟩ := rdInt64 R (show m < p by omega)
      rw [hp, hsL_get (by omega)] at ck'
      obtain ⟨x, hx⟩ : ∃ x, x = s m := ⟨_, rfl⟩
      obtain ⟨y, hy⟩ : ∃ y, y = hsum s m := ⟨_, rfl⟩
      have hg := fun h : FromGood n s => h.step HS.out hlt
      rw [← hx] at ck hg
      rw [← hy] at ck'
      have HG := Lib.hid hg
      have HX := Lib.hid (And.intro hx hy)
      have HO := Lib.hid O
      have HB := Lib.hid B
      have HP := Lib.hid hp
      clear R hlen O B hp hx hy hg
      by_cases h1 : -1000 ≤ x ∧ x ≤ 1000
      case neg =>
        go_wp2_with (go_at_call 97; refine (in_no _ _ _ _ (by omega)).mono ?_; rintro e w1 ⟨rfl, hw1⟩; replace hw1 := hw1.symm; subst hw1)
        exact bodyPost_ret (results_tmp2 Try.results37 _ _ _) rfl ⟨al HB.out _, .inr ⟨fun h => h1 (HG.out h).1, _, rfl, OwnI.made _ HB.out.size⟩⟩
      by_cases h2 : 40 ≤ p
      · have e2 : decide (40 ≤ p) = true := by simpa using h2
        go_wp2_with (go_at_call 97; refine (in_yes _ _ _ _ (by omega) (by omega)).mono ?_; rintro e w1 ⟨rfl, hw1⟩; replace hw1 := hw1.symm; subst hw1)
        exact bodyPost_ret (results_tmp2 Try.results37 _ _ _) rfl ⟨al HB.out _, .inr ⟨fun h => by have := (HG.out h).2; have := HP.out; omega, _, rfl, OwnI.made _ HB.out.size⟩⟩
      have e2 : decide (40 ≤ p) = false := by simpa using h2
      go_wp2_with (go_at_call 97; refine (in_yes _ _ _ _ (by omega) (by omega)).mono ?_; rintro e w1 ⟨rfl, hw1⟩; replace hw1 := hw1.symm; subst hw1)
      have sk : wr.drew.cell? ⟨b, off + m, none⟩ = some (.int .i64 x) := ck
      have sk' : wr.drew.cell? ⟨b', off' + m, none⟩ = some (.int .i64 y) := ck'
      clear ck ck'
      go_region_law
        ((refine wp_append_own _ _ _ 29 rfl w.heap.size 2 i0 (.int .i64 0) 1 8 Try.underlying29 hi hz0 hz1 hz2 rfl (by decide) (.slice (some ⟨b', off', none⟩) p cap') (hsL s p).length ((hsL s p).map (Value.int .i64)) rfl (World.ownsRow.alloc (w := wr) HO.out _) ⟨wr.heap.size, 0, none⟩ 1 1 [.int .i64 (IntKind.i64.wrap (y + x))] rfl rfl (ncells wr #[.int .i64 (IntKind.i64.wrap (y + x))] 2) one64 (by have := HB.out.size; have := hsL_length s p; have := HP.out; unfold maxLen; omega) (by have := hsL_length s p; have := HP.out; omega) (by have := HB.out.size; simp; omega) ?_
          intro v' w1 own' hgr _))
      all_goals
        have O := HO.out
        have B := HB.out
        have B1 : Below w.heap.size w w1 := (al B.drew _).grown hgr (al B.drew _).size (fun k e => (O.lt k e).1)
        have O1 : OwnI w1 w.heap.size v' (hsL s (m + 1 + 1)) := by
          rw [hsL_succ, show hsum s (m + 1) = IntKind.i64.wrap (hsum s m + s m) from w64 _, ← HX.out.1, ← HX.out.2, ← HP.out]
          exact OwnI.snoc own'
        clear own' hgr O B sk sk'
        go_wp2
        exact ⟨⟨m + 1, by omega, by first | go_num | simp, B1, O1⟩, by simp [intOf]; omega⟩
    · have hli : ¬ (m : Int) < (n : Int) := by omega
      obtain rfl : m = n := by omega
      obtain ⟨A', cap', rfl⟩ := O.shape
      have R := O.rd.2
      rw [hsL_length] at R ⊢
      have HR := Lib.hid R
      clear R
      go_wp2_with fail
      refine (l03Bow_any A' (m + 1) cap' _ _ (by omega) HR.out).mono ?_
      rintro e w1 ⟨hb, ⟨h, rfl⟩ | ⟨h, rfl⟩⟩
      · have H := Lib.hid h
        clear h
        have B1 := B.trans (hb.mono B.size)
        have O1 := O.below hb
        rw [hsL_length] at O1
        clear hb O B
        go_wp2_with fail
        exact bodyPost_ret (results_tmp2 Try.results37 _ _ _) rfl ⟨B1, .inl ⟨H.out, _, rfl, O1⟩⟩
      · have H := Lib.hid h
        clear h
        have B1 := B.trans (hb.mono B.size)
        clear hb O B
        go_wp2_with fail
        exact bodyPost_ret (results_tmp2 Try.results37 _ _ _) rfl ⟨al B1 _, .inr ⟨H.out, _, rfl, OwnI.made _ B1.size⟩⟩
end Go.Proofs.Ytjeccdmhpbaabaa
