/-
  Runs on the program's side: how a list of runs reads, contracts of (impl.run).days, .cost, (impl.runs).days, .cost. Conditions stand at each.
-/
import Derived.Test.YtfpoikeibjojgaaDoorRows
import Derived.Test.YtfpoikeibjojgaaDoorPlanM
import Derived.Test.YtfpoikeibjojgaaDoorDaysS
import Derived.Test.YtfpoikeibjojgaaDoorMay
namespace Go.Proofs.YtfpoikeibjojgaaDoor
open Go Go.ChangeShapes Go.WideShapes Go.ChangeAt Go.RowKit
set_option linter.unusedVariables false
set_option linter.unusedSimpArgs false
set_option maxRecDepth 100000
set_option maxHeartbeats 8000000
theorem run_days (k x p q s t u : Int) (w : World) (hG : GangOk p q s t u) (hx : 0 ≤ x ∧ x ≤ 2000) :
    Calls Tryd.prog 96 #[.agg #[.int .i64 k, .int .i64 x, .int .i64 p, .int .i64 q, .int .i64 s, .int .i64 t, .int .i64 u]] w fun e w' => Below w.heap.size w w' ∧ e = .returned (.int .i64 (daysL q s t x)) := by
  have H := Lib.hid (fun W => daysFor_any p q s t u x W hG hx)
  have B := al (Below.refl w.heap.size w) (.cells #[.int .i64 k, .int .i64 x, .int .i64 p, .int .i64 q, .int .i64 s, .int .i64 t, .int .i64 u] 154)
  clear hG hx
  go_enter Tryd.func96, Tryd.ntmps96
  go_wp2_with fail
  refine (H.out _).mono ?_
  rintro e w1 ⟨hb, rfl⟩
  replace B := nxt B hb
  clear hb
  go_wp2
  go_ret
  exact ⟨B, rfl⟩
theorem run_cost (k x p q s t u : Int) (w : World) (hG : GangOk p q s t u) (hx : 0 ≤ x ∧ x ≤ 2000) :
    Calls Tryd.prog 97 #[.agg #[.int .i64 k, .int .i64 x, .int .i64 p, .int .i64 q, .int .i64 s, .int .i64 t, .int .i64 u]] w fun e w' => Below w.heap.size w w' ∧ e = .returned (.int .i64 (daysL q s t x * u)) := by
  have H := Lib.hid (fun W => run_days k x p q s t u W hG hx)
  have hD := daysL_bd hG.2.1.1 hG.2.2.1.1 hG.2.2.2.1 hx
  have hU := hG.2.2.2.2
  obtain ⟨D, hD'⟩ : ∃ D, D = daysL q s t x := ⟨_, rfl⟩
  rw [← hD'] at H hD ⊢
  have hm0 := Int.mul_nonneg hD.1 hU.1
  have hm1 := Int.mul_le_mul hD.2 hU.2 hU.1 (by omega)
  obtain ⟨M, hM⟩ : ∃ M, M = D * u := ⟨_, rfl⟩
  have hM' : D * u = M := hM.symm
  rw [hM'] at hm0 hm1 ⊢
  have w1 : IntKind.i64.wrap M = M := IntWalk.i64_in _ (by omega)
  have w2 : wrap64 M = M := IntWalk.wrap64_in _ (by omega)
  have X := Bx.new w #[.int .i64 k, .int .i64 x, .int .i64 p, .int .i64 q, .int .i64 s, .int .i64 t, .int .i64 u] 154
  have B := al (Below.refl w.heap.size w) (.cells #[.int .i64 k, .int .i64 x, .int .i64 p, .int .i64 q, .int .i64 s, .int .i64 t, .int .i64 u] 154)
  clear hG hx hD' hM hD hU hm0 hm1
  go_enter Tryd.func97, Tryd.ntmps97
  go_wp2
  obtain ⟨W0, hW0⟩ : ∃ W0 : World, W0 = w.alloc (.cells #[.int .i64 k, .int .i64 x, .int .i64 p, .int .i64 q, .int .i64 s, .int .i64 t, .int .i64 u] 154) := ⟨_, rfl⟩
  rw [← hW0] at X B ⊢
  clear hW0
  obtain ⟨b1, h1⟩ : ∃ b1, b1 = w.heap.size := ⟨_, rfl⟩
  rw [← h1] at X ⊢
  clear h1
  refine wp_region_held_drew (S := (fun w' : World => Bx w' b1 #[.int .i64 k, .int .i64 x, .int .i64 p, .int .i64 q, .int .i64 s, .int .i64 t, .int .i64 u] 154)) (by kernel_rfl) X (fun hHeld => ?_)
  replace B := B.drew
  replace X : Bx W0.drew b1 #[.int .i64 k, .int .i64 x, .int .i64 p, .int .i64 q, .int .i64 s, .int .i64 t, .int .i64 u] 154 := X
  obtain ⟨wq, hwq⟩ : ∃ wq, W0.drew = wq := ⟨_, rfl⟩
  rw [hwq] at B X hHeld ⊢
  clear hwq
  refine wpAnyH_take (i := 0) (oi := _) (v := .agg #[.int .i64 k, .int .i64 x, .int .i64 p, .int .i64 q, .int .i64 s, .int .i64 t, .int .i64 u]) rfl (by kernel_rfl) (by kernel_rfl) (by kernel_rfl) (fun _ _ _ h => h) (yields_box (by kernel_rfl) _ _ rfl b1 rfl #[.int .i64 k, .int .i64 x, .int .i64 p, .int .i64 q, .int .i64 s, .int .i64 t, .int .i64 u] 154 (fun _ hS => hS) _ Tryd.underlying154 rfl (by kernel_rfl)) (by assumption) ?_
  try simp only [List.getElem_toArray, List.getElem_cons_zero, List.getElem_cons_succ, Act.put, List.setIfInBounds_toArray, List.set_cons_zero, List.set_cons_succ]
  refine wpAnyH_take (i := 2) (oi := _) (v := ?_) rfl (by kernel_rfl) (by kernel_rfl) (by kernel_rfl) (fun _ _ _ h => h) (Or.inl ⟨by kernel_rfl, ?_⟩) (by assumption) ?_
  rotate_left
  · intro w hSw; (try dsimp only at hSw); go_simp; first | done | with_reducible rfl
  try simp only [List.getElem_toArray, List.getElem_cons_zero, List.getElem_cons_succ, Act.put, List.setIfInBounds_toArray, List.set_cons_zero, List.set_cons_succ]
  refine wpAnyH_take (i := 3) (oi := _) (v := ?_) rfl (by kernel_rfl) (by kernel_rfl) (by kernel_rfl) (fun _ _ _ h => h) (Or.inl ⟨by kernel_rfl, ?_⟩) (by assumption) ?_
  rotate_left
  · intro w hSw; (try dsimp only at hSw); go_simp; first | done | with_reducible rfl
  try simp only [List.getElem_toArray, List.getElem_cons_zero, List.getElem_cons_succ, Act.put, List.setIfInBounds_toArray, List.set_cons_zero, List.set_cons_succ]
  refine wpAnyH_take (i := 4) (oi := _) (v := ?_) rfl (by kernel_rfl) (by kernel_rfl) (by kernel_rfl) (fun _ _ _ h => h) (Or.inl ⟨by kernel_rfl, ?_⟩) (by assumption) ?_
  rotate_left
  · intro w hSw; have hcell := (fun (w' : World) (hS : Bx w' b1 #[.int .i64 k, .int .i64 x, .int .i64 p, .int .i64 q, .int .i64 s, .int .i64 t, .int .i64 u] 154) => (show w'.cell? ⟨b1, 6, none⟩ = some (.int .i64 u) from hS.cell 6)) w hSw; clear hSw; go_simp; first | done | with_reducible rfl
  try simp only [List.getElem_toArray, List.getElem_cons_zero, List.getElem_cons_succ, Act.put, List.setIfInBounds_toArray, List.set_cons_zero, List.set_cons_succ]
  refine wpAnyH_ready (rs := [1]) (by kernel_rfl) (by simp) ?_
  refine AllReadyH.cons (o := _) rfl (fun K hK => ?_) AllReadyH.nil
  go_simp
  refine (H.out _).mono ?_
  rintro e w3 ⟨hb, rfl⟩
  replace X := X.below hb
  replace B := nxt B hb
  clear hb
  refine hK.out _ _ X (fun hHeld => ?_)
  clear hK K
  try simp only [List.getElem_toArray, List.getElem_cons_zero, List.getElem_cons_succ, Act.put, List.setIfInBounds_toArray, List.set_cons_zero, List.set_cons_succ]
  refine wpAnyH_take (i := 5) (oi := _) (v := ?_) rfl (by kernel_rfl) (by kernel_rfl) (by kernel_rfl) (fun _ _ _ h => h) (Or.inl ⟨by kernel_rfl, ?_⟩) (by assumption) ?_
  rotate_left
  · intro w hSw; (try dsimp only at hSw); go_simp; first | done | with_reducible rfl
  try simp only [List.getElem_toArray, List.getElem_cons_zero, List.getElem_cons_succ, Act.put, List.setIfInBounds_toArray, List.set_cons_zero, List.set_cons_succ]
  refine wpAnyH_take (i := 6) (oi := _) (v := ?_) rfl (by kernel_rfl) (by kernel_rfl) (by kernel_rfl) (fun _ _ _ h => h) (Or.inl ⟨by kernel_rfl, ?_⟩) (by assumption) ?_
  rotate_left
  · intro w hSw; (try dsimp only at hSw); go_simp; first | done | with_reducible rfl
  try simp only [List.getElem_toArray, List.getElem_cons_zero, List.getElem_cons_succ, Act.put, List.setIfInBounds_toArray, List.set_cons_zero, List.set_cons_succ]
  refine wpAnyH_done (by kernel_rfl) ?_ _
  go_wp2
  go_ret
  exact ⟨B, rfl⟩
/-- k runs from the start of a block: skills, works, gangs. -/
def RdR (w : World) (B : Nat) (A : Option Addr) (k : Nat) (sk wk gi : Nat → Int) (g : Gs) : Prop :=
  0 < k → ∃ b, A = some ⟨b, 0, none⟩ ∧ b < B ∧ ∀ j, j < k → w.cell? ⟨b, j * 7, none⟩ = some (.int .i64 (sk j)) ∧ w.cell? ⟨b, j * 7 + 1, none⟩ = some (.int .i64 (wk j)) ∧ w.cell? ⟨b, j * 7 + 2, none⟩ = some (.int .i64 (g.p (gi j).toNat)) ∧
    w.cell? ⟨b, j * 7 + 3, none⟩ = some (.int .i64 (g.q (gi j).toNat)) ∧ w.cell? ⟨b, j * 7 + 4, none⟩ = some (.int .i64 (g.s (gi j).toNat)) ∧ w.cell? ⟨b, j * 7 + 5, none⟩ = some (.int .i64 (g.t (gi j).toNat)) ∧ w.cell? ⟨b, j * 7 + 6, none⟩ = some (.int .i64 (g.u (gi j).toNat))
theorem RdR.below {w w' : World} {B k : Nat} {A : Option Addr} {sk wk gi : Nat → Int} {g : Gs} (h : RdR w B A k sk wk gi g) (hb : Below B w w') : RdR w' B A k sk wk gi g := fun h0 => by
  obtain ⟨b, e, hl, hc⟩ := h h0
  refine ⟨b, e, hl, fun j hj => ?_⟩
  obtain ⟨c0, c1, c2, c3, c4, c5, c6⟩ := hc j hj
  exact ⟨(hb.cell (p := ⟨b, j * 7, none⟩) hl).trans c0, (hb.cell (p := ⟨b, j * 7 + 1, none⟩) hl).trans c1, (hb.cell (p := ⟨b, j * 7 + 2, none⟩) hl).trans c2, (hb.cell (p := ⟨b, j * 7 + 3, none⟩) hl).trans c3, (hb.cell (p := ⟨b, j * 7 + 4, none⟩) hl).trans c4, (hb.cell (p := ⟨b, j * 7 + 5, none⟩) hl).trans c5, (hb.cell (p := ⟨b, j * 7 + 6, none⟩) hl).trans c6⟩
theorem runs_days (A : Option Addr) (k cap : Nat) (sk wk gi : Nat → Int) (m : Nat) (g : Gs) (w : World) (hk : k ≤ 6) (hG : AllG m g) (hgi : ∀ j, j < k → 0 ≤ gi j ∧ gi j < m) (hwk : ∀ j, j < k → 0 ≤ wk j ∧ wk j ≤ 2000)
    (hr : RdR w w.heap.size A k sk wk gi g) :
    Calls Tryd.prog 59 #[.slice A k cap] w fun e w' => Below w.heap.size w w' ∧ e = .returned (.int .i64 (sumN (fun j => dayR g (gi j) (wk j)) k + ((k - 1 : Nat) : Int))) := by
  have HR := Lib.hid hr
  have HG := Lib.hid hG
  have HGI := Lib.hid hgi
  have HW := Lib.hid hwk
  have hx1 : max ((k : Int) - 1) 0 = ((k - 1 : Nat) : Int) := by omega
  obtain ⟨x, hx⟩ : ∃ x : Int, x = ((k - 1 : Nat) : Int) := ⟨_, rfl⟩
  rw [← hx] at hx1 ⊢
  have hxb : 0 ≤ x ∧ x ≤ 6 := by omega
  have hw1 : IntKind.i64.wrap ((k : Int) - 1) = (k : Int) - 1 := IntWalk.i64_in _ (by omega)
  clear hr hG hgi hwk hx
  have hcase : ((k : Int) - 1 < 0 ∧ x = 0) ∨ (¬ ((k : Int) - 1 < 0) ∧ x = (k : Int) - 1) := by omega
  clear hx1
  rcases hcase with ⟨hneg, hx0⟩ | ⟨hneg, hx0⟩
  all_goals
    have HX0 := Lib.hid hx0
    clear hx0
    go_enter Tryd.func59, Tryd.ntmps59
    go_wp2
    go_loopw [3, 5, 12] (fun t3 t5 t12 wr => ∃ (i : Nat) (S : Int), i ≤ k ∧ t12 = .int .i64 i ∧ t3 = .int .i64 S ∧ Below w.heap.size w wr ∧ S = sumN (fun j => dayR g (gi j) (wk j)) i + x) (fun t3 t5 t12 wr => k - (intOf t12).toNat)
    case atStart => exact ⟨0, x, by omega, rfl, by rw [HX0.out], Below.refl _ _, by simp [sumN]⟩
    case round =>
      clear hneg HX0
      obtain ⟨i, S, hi, rfl, rfl, hB, hS⟩ := hrel
      have hb := sumN_le (y := fun j => dayR g (gi j) (wk j)) (M := 20000) i (fun j hj => dayR_bd HG.out (HGI.out j (by omega)) (HW.out j (by omega)))
      have hSb : 0 ≤ S ∧ S ≤ 120006 := by omega
      have HS := Lib.hid hS
      clear hS hb
      by_cases hlt : i < k
      · have hii : (i : Int) < (k : Int) := by omega
        obtain ⟨b, rfl, hbl, hc⟩ := (HR.out.below hB) (by omega)
        obtain ⟨c0, c1, c2, c3, c4, c5, c6⟩ := hc i hlt
        have hgi := HGI.out i hlt
        have hxw := HW.out i hlt
        have hRb := dayR_bd HG.out hgi hxw
        have hGk := HG.out (gi i).toNat (by omega)
        have H := Lib.hid (fun W => run_days (sk i) (wk i) (g.p (gi i).toNat) (g.q (gi i).toNat) (g.s (gi i).toNat) (g.t (gi i).toNat) (g.u (gi i).toNat) W hGk hxw)
        have hRe : daysL (g.q (gi i).toNat) (g.s (gi i).toNat) (g.t (gi i).toNat) (wk i) = dayR g (gi i) (wk i) := rfl
        rw [hRe] at H
        obtain ⟨R, hR⟩ : ∃ R, R = dayR g (gi i) (wk i) := ⟨_, rfl⟩
        rw [← hR] at H hRb
        have HR2 := Lib.hid hR
        have w1 : IntKind.i64.wrap (S + R) = S + R := IntWalk.i64_in _ (by omega)
        clear hc hgi hxw hGk hRe hR hbl
        go_wp2_with fail
        refine (H.out _).mono ?_
        rintro e w5 ⟨hb, rfl⟩
        replace hB := nxt (al hB _) hb
        clear hb c0 c1 c2 c3 c4 c5 c6
        go_wp2
        exact ⟨⟨i + 1, S + R, by omega, by first | go_num | simp, by first | rfl | simp [w1], hB, by rw [HS.out, HR2.out]; simp only [sumN]; omega⟩, by simp [intOf]; omega⟩
      · obtain rfl : i = k := by omega
        have hii : ¬ ((i : Int) < (i : Int)) := by omega
        go_wp2
        go_ret
        exact ⟨hB, by obtain rfl := HS.out; rfl⟩
theorem runs_cost (A : Option Addr) (k cap : Nat) (sk wk gi : Nat → Int) (m : Nat) (g : Gs) (w : World) (hk : k ≤ 6) (hG : AllG m g) (hgi : ∀ j, j < k → 0 ≤ gi j ∧ gi j < m) (hwk : ∀ j, j < k → 0 ≤ wk j ∧ wk j ≤ 2000)
    (hr : RdR w w.heap.size A k sk wk gi g) :
    Calls Tryd.prog 60 #[.slice A k cap] w fun e w' => Below w.heap.size w w' ∧ e = .returned (.int .i64 (sumN (fun j => costR g (gi j) (wk j)) k)) := by
  have HR := Lib.hid hr
  have HG := Lib.hid hG
  have HGI := Lib.hid hgi
  have HW := Lib.hid hwk
  clear hr hG hgi hwk
  go_enter Tryd.func60, Tryd.ntmps60
  go_wp2
  go_loopw [3, 5, 8] (fun t3 t5 t8 wr => ∃ (i : Nat) (S : Int), i ≤ k ∧ t8 = .int .i64 i ∧ t3 = .int .i64 S ∧ Below w.heap.size w wr ∧ S = sumN (fun j => costR g (gi j) (wk j)) i) (fun t3 t5 t8 wr => k - (intOf t8).toNat)
  case atStart => exact ⟨0, 0, by omega, rfl, rfl, Below.refl _ _, rfl⟩
  case round =>
    obtain ⟨i, S, hi, rfl, rfl, hB, hS⟩ := hrel
    have hb := sumN_le (y := fun j => costR g (gi j) (wk j)) (M := 20000000) i (fun j hj => costR_bd HG.out (HGI.out j (by omega)) (HW.out j (by omega)))
    have hSb : 0 ≤ S ∧ S ≤ 120000000 := by omega
    have HS := Lib.hid hS
    clear hS hb
    by_cases hlt : i < k
    · have hii : (i : Int) < (k : Int) := by omega
      obtain ⟨b, rfl, hbl, hc⟩ := (HR.out.below hB) (by omega)
      obtain ⟨c0, c1, c2, c3, c4, c5, c6⟩ := hc i hlt
      have hgi := HGI.out i hlt
      have hxw := HW.out i hlt
      have hRb := costR_bd HG.out hgi hxw
      have hGk := HG.out (gi i).toNat (by omega)
      have H := Lib.hid (fun W => run_cost (sk i) (wk i) (g.p (gi i).toNat) (g.q (gi i).toNat) (g.s (gi i).toNat) (g.t (gi i).toNat) (g.u (gi i).toNat) W hGk hxw)
      have hRe : daysL (g.q (gi i).toNat) (g.s (gi i).toNat) (g.t (gi i).toNat) (wk i) * g.u (gi i).toNat = costR g (gi i) (wk i) := rfl
      rw [hRe] at H
      obtain ⟨R, hR⟩ : ∃ R, R = costR g (gi i) (wk i) := ⟨_, rfl⟩
      rw [← hR] at H hRb
      have HR2 := Lib.hid hR
      have w1 : IntKind.i64.wrap (S + R) = S + R := IntWalk.i64_in _ (by omega)
      clear hc hgi hxw hGk hRe hR hbl
      go_wp2_with fail
      refine (H.out _).mono ?_
      rintro e w5 ⟨hb, rfl⟩
      replace hB := nxt (al hB _) hb
      clear hb c0 c1 c2 c3 c4 c5 c6
      go_wp2
      exact ⟨⟨i + 1, S + R, by omega, by first | go_num | simp, by first | rfl | simp [w1], hB, by rw [HS.out, HR2.out]; simp only [sumN]⟩, by simp [intOf]; omega⟩
    · obtain rfl : i = k := by omega
      have hii : ¬ ((i : Int) < (i : Int)) := by omega
      go_wp2
      go_ret
      exact ⟨hB, by obtain rfl := HS.out; rfl⟩
end Go.Proofs.YtfpoikeibjojgaaDoor
