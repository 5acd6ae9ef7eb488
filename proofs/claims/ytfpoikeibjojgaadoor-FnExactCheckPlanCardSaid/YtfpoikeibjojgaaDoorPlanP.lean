/-
  The code of a plan; PlanDays and PlanCost on both sides. Conditions stand at each.
-/
import Derived.Test.YtfpoikeibjojgaaDoorRows
import Derived.Test.YtfpoikeibjojgaaDoorRunsFor
import Derived.Test.YtfpoikeibjojgaaDoorPlanS
import Derived.Test.YtfpoikeibjojgaaDoorRefused
namespace Go.Proofs.YtfpoikeibjojgaaDoor
open Go Go.ChangeShapes Go.WideShapes Go.ChangeAt Go.RowKit
set_option linter.unusedVariables false
set_option linter.unusedSimpArgs false
set_option maxRecDepth 100000
set_option maxHeartbeats 8000000
/-- the code of rows, gangs and a plan. -/
def PlanCode (n : Nat) (c d : Nat → Int) (m : Nat) (g : Gs) (k : Nat) (pl : Nat → Int) (r : Int) : Prop :=
  (r ≠ 0 ∧ JobCode n c d m g r) ∨ (JobOk n c d m g ∧ ¬ RightP n c m g k pl ∧ r = 4) ∨ (JobOk n c d m g ∧ RightP n c m g k pl ∧ r = 0)
theorem JobOk.code0 {n : Nat} {c d : Nat → Int} {m : Nat} {g : Gs} (h : JobOk n c d m g) : JobCode n c d m g 0 := .inr (.inr (.inr ⟨h.1, h.2.1, h.2.2, rfl⟩))
theorem PlanCode.one {n : Nat} {c d : Nat → Int} {m : Nat} {g : Gs} {k : Nat} {pl : Nat → Int} {r s : Int} (h : PlanCode n c d m g k pl r) (h' : PlanCode n c d m g k pl s) : r = s := by
  rcases h with ⟨h, h1⟩ | ⟨h, h1, rfl⟩ | ⟨h, h1, rfl⟩ <;> rcases h' with ⟨k, k1⟩ | ⟨k, k1, rfl⟩ | ⟨k, k1, rfl⟩
  · exact h1.one k1
  · exact absurd (h1.one k.code0) h
  · exact absurd (h1.one k.code0) h
  · exact absurd (k1.one h.code0) k
  · rfl
  · exact absurd k1 h1
  · exact absurd (k1.one h.code0) k
  · exact absurd h1 k1
  · rfl
theorem l07Planned_any (A : Option Addr) (n cap : Nat) (c d : Nat → Int) (A' : Option Addr) (m cap' : Nat) (g : Gs) (P : Option Addr) (k cap'' : Nat) (pl : Nat → Int) (w : World) (hn : n ≤ 1048576) (hm : m ≤ 1048576) (hk : k ≤ 1048576)
    (hr : RdS w w.heap.size A n c d) (hg : RdG w w.heap.size A' m g) (hp : RdK .i64 w w.heap.size P k pl) (hc : ∀ j, -128 ≤ c j ∧ c j ≤ 127) (hd : ∀ j, -32768 ≤ d j ∧ d j ≤ 32767) (hgb : g.bd) :
    Calls Tryd.prog 57 #[.slice A n cap, .slice A' m cap', .slice P k cap''] w fun e w' => Below w.heap.size w w' ∧ ∃ r : Int, PlanCode n c d m g k pl r ∧ e = .returned (.int .i64 r) := by
  obtain ⟨r1, e1⟩ := dec_ex (RightP n c m g k pl)
  have HA := Lib.hid (l07Asked_any A n cap c d A' m cap' g w hn hm hr hg hc hd hgb)
  have HB := Lib.hid (fun W (hB : Below w.heap.size w W) (h : JobOk n c d m g) => l07Right_any A n cap c d A' m cap' g P k cap'' pl r1 W h.1.1.1 h.2.1 hk ((hr.below hB).mono hB.size) ((hg.below hB).mono hB.size) ((hp.below hB).mono hB.size) e1)
  have E1 := Lib.hid e1
  clear hr hg hp hc hd hgb e1
  go_enter Tryd.func57, Tryd.ntmps57
  go_wp2_with fail
  refine HA.out.mono ?_
  rintro e w1 ⟨hb, r, hcode, rfl⟩
  have HC := Lib.hid hcode
  clear hcode HA
  by_cases h0 : r = 0
  · subst h0
    have HO := Lib.hid (JobCode.ok HC.out)
    go_wp2_with fail
    refine (HB.out _ hb HO.out).mono ?_
    rintro e w2 ⟨hb2, rfl⟩
    replace hb := nxt hb hb2
    clear hb2 HB
    cases r1 with
    | false =>
      have N := Lib.hid (show ¬ RightP n c m g k pl from fun h => by have := E1.out.2 h; cases this)
      go_wp2
      go_ret
      exact ⟨hb, 4, .inr (.inl ⟨HO.out, N.out, rfl⟩), rfl⟩
    | true =>
      have Y := Lib.hid (E1.out.1 rfl)
      go_wp2
      go_ret
      exact ⟨hb, 0, .inr (.inr ⟨HO.out, Y.out, rfl⟩), rfl⟩
  · have h1 : (r == 0) = false := by simpa using h0
    have H0 := Lib.hid h0
    clear h0
    go_wp2
    go_ret
    exact ⟨hb, r, .inl ⟨H0.out, HC.out⟩, rfl⟩
/-- what a function over a plan answers: a code, or a value. -/
def ValPost (z : Int) (n : Nat) (c d : Nat → Int) (m : Nat) (g : Gs) (k : Nat) (pl : Nat → Int) (w : World) (e : Ending) (w' : World) : Prop :=
  Below w.heap.size w w' ∧ ∃ r : Int, PlanCode n c d m g k pl r ∧ e = .returned (.tuple #[.int .i64 (if r = 0 then z else 0), .int .i64 r])
theorem specPlanDays_any (A : Option Addr) (n cap : Nat) (c d : Nat → Int) (A' : Option Addr) (m cap' : Nat) (g : Gs) (P : Option Addr) (k cap'' : Nat) (pl : Nat → Int) (w : World) (hn : n ≤ 1048576) (hm : m ≤ 1048576) (hk : k ≤ 1048576)
    (hr : RdS w w.heap.size A n c d) (hg : RdG w w.heap.size A' m g) (hp : RdK .i64 w w.heap.size P k pl) (hc : ∀ j, -128 ≤ c j ∧ c j ≤ 127) (hd : ∀ j, -32768 ≤ d j ∧ d j ≤ 32767) (hgb : g.bd) :
    Calls Tryd.prog 26 #[.slice A n cap, .slice A' m cap', .slice P k cap''] w (ValPost (dayS g d pl n + rem1 (rn pl n)) n c d m g k pl w) := by
  have HA := Lib.hid (l07Planned_any A n cap c d A' m cap' g P k cap'' pl w hn hm hk hr hg hp hc hd hgb)
  have HB := Lib.hid (fun W (hB : Below w.heap.size w W) (hO : JobOk n c d m g) (hP : RightP n c m g k pl) => l07Sums_any A n cap c d A' m cap' g P cap'' pl W hO (by obtain ⟨rfl, h⟩ := hP; exact ⟨rfl, h⟩) ((hr.below hB).mono hB.size) ((hg.below hB).mono hB.size) (by obtain ⟨rfl, h⟩ := hP; exact (hp.below hB).mono hB.size))
  clear hr hg hp hc hd hgb
  go_enter Tryd.func26, Tryd.ntmps26
  go_wp2_with fail
  refine HA.out.mono ?_
  rintro e w1 ⟨hb, r, hcode, rfl⟩
  have HC := Lib.hid hcode
  by_cases h0 : r = 0
  · subst h0
    obtain ⟨hO, hP⟩ : JobOk n c d m g ∧ RightP n c m g k pl := by
      rcases hcode with ⟨h, -⟩ | ⟨-, -, h⟩ | ⟨h1, h2, -⟩
      · exact absurd rfl h
      · omega
      · exact ⟨h1, h2⟩
    have HBB := Lib.hid (HB.out w1 hb hO hP)
    have hkn := hP.1
    subst hkn
    clear hO hP hcode HA HB
    go_wp2_with fail
    refine HBB.out.mono ?_
    rintro e w2 ⟨hb2, rfl⟩
    replace hb := nxt hb hb2
    clear hb2
    obtain ⟨z, hz⟩ : ∃ z, z = (dayS g d pl k + rem1 (rn pl k)) := ⟨_, rfl⟩
    go_wp2
    exact bodyPost_ret (results_tmp2 Tryd.results26 _ _ _) rfl ⟨hb, 0, HC.out, rfl⟩
  · have h1 : (r == 0) = false := by simpa using h0
    have h2 : (r != 0) = true := by simpa using h0
    have H0 := Lib.hid h0
    clear h0 hcode HA HB
    go_wp2
    exact bodyPost_ret (results_tmp2 Tryd.results26 _ _ _) rfl ⟨hb, r, HC.out, by rw [if_neg H0.out]; rfl⟩
theorem implPlanDays_any (A : Option Addr) (n cap : Nat) (c d : Nat → Int) (A' : Option Addr) (m cap' : Nat) (g : Gs) (P : Option Addr) (k cap'' : Nat) (pl : Nat → Int) (w : World) (hn : n ≤ 1048576) (hm : m ≤ 1048576) (hk : k ≤ 1048576)
    (hr : RdS w w.heap.size A n c d) (hg : RdG w w.heap.size A' m g) (hp : RdK .i64 w w.heap.size P k pl) (hc : ∀ j, -128 ≤ c j ∧ c j ≤ 127) (hd : ∀ j, -32768 ≤ d j ∧ d j ≤ 32767) (hgb : g.bd) :
    Calls Tryd.prog 27 #[.slice A n cap, .slice A' m cap', .slice P k cap''] w (ValPost (dayS g d pl n + rem1 (rn pl n)) n c d m g k pl w) := by
  have HA := Lib.hid (runsFor_any A n cap c d A' m cap' g P k cap'' pl w hn hm hk hr hg hp hc hd hgb)
  clear hr hg hp hc hd hgb
  go_enter Tryd.func27, Tryd.ntmps27
  go_wp2_with fail
  refine HA.out.mono ?_
  rintro e w1 ⟨hb, h⟩
  clear HA
  rcases h with ⟨r, x, hr0, hcode, hx, rfl⟩ | ⟨hO, hno, x, rfl⟩ | ⟨hO, hP, v, sk, rfl, OR⟩
  · have HX := Lib.hid (refused_any hx w1)
    obtain ⟨tz, vz, rfl⟩ : ∃ tz vz, x = .iface tz vz := by rcases hx with ⟨s, rfl, -⟩ | ⟨k, rfl, -⟩ | ⟨k, rfl, -⟩ | ⟨k, rfl, -⟩ <;> exact ⟨_, _, rfl⟩
    have H0 := Lib.hid hr0
    have HC := Lib.hid hcode
    clear hx hr0 hcode
    go_wp2_with fail
    refine HX.out.mono ?_
    rintro e w2 ⟨hb2, rfl⟩
    replace hb := nxt hb hb2
    clear hb2 HX
    go_wp2
    exact bodyPost_ret (results_tmp2 Tryd.results27 _ _ _) rfl ⟨hb, r, .inl ⟨H0.out, HC.out⟩, by rw [if_neg H0.out]; rfl⟩
  · have HX := Lib.hid (refused_notPlan x w1)
    have HO := Lib.hid hO
    have HN := Lib.hid hno
    clear hO hno
    go_wp2_with fail
    refine HX.out.mono ?_
    rintro e w2 ⟨hb2, rfl⟩
    replace hb := nxt hb hb2
    clear hb2 HX
    go_wp2
    exact bodyPost_ret (results_tmp2 Tryd.results27 _ _ _) rfl ⟨hb, 4, .inr (.inl ⟨HO.out, HN.out, rfl⟩), rfl⟩
  · obtain ⟨Ar, capr, hv⟩ := OwnR.shape OR
    subst hv
    have hd0 : ∀ j, j < n → 0 ≤ d j := fun j hj => by have := (hO.1.1.2 j hj).2; omega
    have h1 : ∀ j, j < rn pl n → 0 ≤ rgg pl n j ∧ rgg pl n j < m := rgg_one (P := fun q => 0 ≤ q ∧ q < m) n (fun j hj => (hP.2 j hj).1)
    have h2 := rwk_bd (d := d) (pl := pl) n hd0
    have h3 := (rn_bd pl n).1
    have HX := Lib.hid (runs_days Ar (rn pl n) capr sk (rwk d pl n) (rgg pl n) m g w1 (by have := hO.1.1.1; omega) hO.1.2 h1 (fun j hj => ⟨(h2 j hj).1, by have := (h2 j hj).2; have := hO.2.2; omega⟩) (OwnR.rd OR))
    have HO := Lib.hid hO
    have HY := Lib.hid hP
    clear hO hP hd0 h1 h2 h3 OR
    obtain ⟨q, hq⟩ : ∃ q, q = rn pl n := ⟨_, rfl⟩
    go_wp2_with fail
    refine HX.out.mono ?_
    rintro e w2 ⟨hb2, rfl⟩
    replace hb := nxt hb hb2
    clear hb2 HX hq
    go_wp2
    exact bodyPost_ret (results_tmp2 Tryd.results27 _ _ _) rfl ⟨hb, 0, .inr (.inr ⟨HO.out, HY.out, rfl⟩), rfl⟩
theorem specPlanCost_any (A : Option Addr) (n cap : Nat) (c d : Nat → Int) (A' : Option Addr) (m cap' : Nat) (g : Gs) (P : Option Addr) (k cap'' : Nat) (pl : Nat → Int) (w : World) (hn : n ≤ 1048576) (hm : m ≤ 1048576) (hk : k ≤ 1048576)
    (hr : RdS w w.heap.size A n c d) (hg : RdG w w.heap.size A' m g) (hp : RdK .i64 w w.heap.size P k pl) (hc : ∀ j, -128 ≤ c j ∧ c j ≤ 127) (hd : ∀ j, -32768 ≤ d j ∧ d j ≤ 32767) (hgb : g.bd) :
    Calls Tryd.prog 28 #[.slice A n cap, .slice A' m cap', .slice P k cap''] w (ValPost (costS g d pl n) n c d m g k pl w) := by
  have HA := Lib.hid (l07Planned_any A n cap c d A' m cap' g P k cap'' pl w hn hm hk hr hg hp hc hd hgb)
  have HB := Lib.hid (fun W (hB : Below w.heap.size w W) (hO : JobOk n c d m g) (hP : RightP n c m g k pl) => l07Sums_any A n cap c d A' m cap' g P cap'' pl W hO (by obtain ⟨rfl, h⟩ := hP; exact ⟨rfl, h⟩) ((hr.below hB).mono hB.size) ((hg.below hB).mono hB.size) (by obtain ⟨rfl, h⟩ := hP; exact (hp.below hB).mono hB.size))
  clear hr hg hp hc hd hgb
  go_enter Tryd.func28, Tryd.ntmps28
  go_wp2_with fail
  refine HA.out.mono ?_
  rintro e w1 ⟨hb, r, hcode, rfl⟩
  have HC := Lib.hid hcode
  by_cases h0 : r = 0
  · subst h0
    obtain ⟨hO, hP⟩ : JobOk n c d m g ∧ RightP n c m g k pl := by
      rcases hcode with ⟨h, -⟩ | ⟨-, -, h⟩ | ⟨h1, h2, -⟩
      · exact absurd rfl h
      · omega
      · exact ⟨h1, h2⟩
    have HBB := Lib.hid (HB.out w1 hb hO hP)
    have hkn := hP.1
    subst hkn
    clear hO hP hcode HA HB
    go_wp2_with fail
    refine HBB.out.mono ?_
    rintro e w2 ⟨hb2, rfl⟩
    replace hb := nxt hb hb2
    clear hb2
    obtain ⟨z, hz⟩ : ∃ z, z = (costS g d pl k) := ⟨_, rfl⟩
    go_wp2
    exact bodyPost_ret (results_tmp2 Tryd.results28 _ _ _) rfl ⟨hb, 0, HC.out, rfl⟩
  · have h1 : (r == 0) = false := by simpa using h0
    have h2 : (r != 0) = true := by simpa using h0
    have H0 := Lib.hid h0
    clear h0 hcode HA HB
    go_wp2
    exact bodyPost_ret (results_tmp2 Tryd.results28 _ _ _) rfl ⟨hb, r, HC.out, by rw [if_neg H0.out]; rfl⟩
theorem implPlanCost_any (A : Option Addr) (n cap : Nat) (c d : Nat → Int) (A' : Option Addr) (m cap' : Nat) (g : Gs) (P : Option Addr) (k cap'' : Nat) (pl : Nat → Int) (w : World) (hn : n ≤ 1048576) (hm : m ≤ 1048576) (hk : k ≤ 1048576)
    (hr : RdS w w.heap.size A n c d) (hg : RdG w w.heap.size A' m g) (hp : RdK .i64 w w.heap.size P k pl) (hc : ∀ j, -128 ≤ c j ∧ c j ≤ 127) (hd : ∀ j, -32768 ≤ d j ∧ d j ≤ 32767) (hgb : g.bd) :
    Calls Tryd.prog 29 #[.slice A n cap, .slice A' m cap', .slice P k cap''] w (ValPost (costS g d pl n) n c d m g k pl w) := by
  have HA := Lib.hid (runsFor_any A n cap c d A' m cap' g P k cap'' pl w hn hm hk hr hg hp hc hd hgb)
  clear hr hg hp hc hd hgb
  go_enter Tryd.func29, Tryd.ntmps29
  go_wp2_with fail
  refine HA.out.mono ?_
  rintro e w1 ⟨hb, h⟩
  clear HA
  rcases h with ⟨r, x, hr0, hcode, hx, rfl⟩ | ⟨hO, hno, x, rfl⟩ | ⟨hO, hP, v, sk, rfl, OR⟩
  · have HX := Lib.hid (refused_any hx w1)
    obtain ⟨tz, vz, rfl⟩ : ∃ tz vz, x = .iface tz vz := by rcases hx with ⟨s, rfl, -⟩ | ⟨k, rfl, -⟩ | ⟨k, rfl, -⟩ | ⟨k, rfl, -⟩ <;> exact ⟨_, _, rfl⟩
    have H0 := Lib.hid hr0
    have HC := Lib.hid hcode
    clear hx hr0 hcode
    go_wp2_with fail
    refine HX.out.mono ?_
    rintro e w2 ⟨hb2, rfl⟩
    replace hb := nxt hb hb2
    clear hb2 HX
    go_wp2
    exact bodyPost_ret (results_tmp2 Tryd.results29 _ _ _) rfl ⟨hb, r, .inl ⟨H0.out, HC.out⟩, by rw [if_neg H0.out]; rfl⟩
  · have HX := Lib.hid (refused_notPlan x w1)
    have HO := Lib.hid hO
    have HN := Lib.hid hno
    clear hO hno
    go_wp2_with fail
    refine HX.out.mono ?_
    rintro e w2 ⟨hb2, rfl⟩
    replace hb := nxt hb hb2
    clear hb2 HX
    go_wp2
    exact bodyPost_ret (results_tmp2 Tryd.results29 _ _ _) rfl ⟨hb, 4, .inr (.inl ⟨HO.out, HN.out, rfl⟩), rfl⟩
  · obtain ⟨Ar, capr, hv⟩ := OwnR.shape OR
    subst hv
    have hd0 : ∀ j, j < n → 0 ≤ d j := fun j hj => by have := (hO.1.1.2 j hj).2; omega
    have h1 : ∀ j, j < rn pl n → 0 ≤ rgg pl n j ∧ rgg pl n j < m := rgg_one (P := fun q => 0 ≤ q ∧ q < m) n (fun j hj => (hP.2 j hj).1)
    have h2 := rwk_bd (d := d) (pl := pl) n hd0
    have h3 := (rn_bd pl n).1
    have HX := Lib.hid (runs_cost Ar (rn pl n) capr sk (rwk d pl n) (rgg pl n) m g w1 (by have := hO.1.1.1; omega) hO.1.2 h1 (fun j hj => ⟨(h2 j hj).1, by have := (h2 j hj).2; have := hO.2.2; omega⟩) (OwnR.rd OR))
    have HO := Lib.hid hO
    have HY := Lib.hid hP
    clear hO hP hd0 h1 h2 h3 OR
    obtain ⟨q, hq⟩ : ∃ q, q = rn pl n := ⟨_, rfl⟩
    go_wp2_with fail
    refine HX.out.mono ?_
    rintro e w2 ⟨hb2, rfl⟩
    replace hb := nxt hb hb2
    clear hb2 HX hq
    go_wp2
    exact bodyPost_ret (results_tmp2 Tryd.results29 _ _ _) rfl ⟨hb, 0, .inr (.inr ⟨HO.out, HY.out, rfl⟩), rfl⟩
end Go.Proofs.YtfpoikeibjojgaaDoor
