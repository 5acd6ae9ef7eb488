/-
  What MeetAt's closure tells of a place: the contract of MeetAt$1. Conditions stand at each.
-/
import Derived.Test.YtfpoikeibjojgaaDoorRows
import Derived.Test.YtfpoikeibjojgaaDoorMeetM
import Derived.Test.YtfpoikeibjojgaaDoorMay
import Derived.Test.YtfpoikeibjojgaaDoorDaysS
namespace Go.Proofs.YtfpoikeibjojgaaDoor
open Go Go.ChangeShapes Go.WideShapes Go.ChangeAt Go.RowKit
set_option linter.unusedVariables false
set_option linter.unusedSimpArgs false
set_option maxRecDepth 100000
set_option maxHeartbeats 8000000
theorem RdU.mono {w : World} {B B' n : Nat} {A : Option Addr} {x y : Nat → Int} (h : RdU w B A n x y) (hb : B ≤ B') : RdU w B' A n x y := fun h0 => by
  obtain ⟨b, off, e, hl, hc⟩ := h h0
  exact ⟨b, off, e, by omega, hc⟩
theorem field_work (a b : Int) (w : World) : (Instr.field 107 (.agg #[.int .i64 a, .int .i64 b]) 1).run Tryd.prog w = .ok (.int .i64 b) w := by kernel_rfl
theorem meetFn_any (b1 b2 b3 : Nat) (A1 : Option Addr) (n cap1 : Nat) (v2 : Value) (c d : Nat → Int) (g : Gs) (t1 t2 t3 : TypeId) (k : Nat) (w : World) (hcap : n ≤ cap1) (hk : k ≤ n) (hO : JobOk n c d 2 g)
    (X1 : Bx w b1 (crewC (g.p 0) (g.q 0) (g.s 0) (g.t 0) (g.u 0)) t1) (X2 : Bx w b2 #[.slice A1 n cap1, v2] t2) (X3 : Bx w b3 (crewC (g.p 1) (g.q 1) (g.s 1) (g.t 1) (g.u 1)) t3) (hr : RdU w w.heap.size A1 n c d) :
    Calls Tryd.prog 74 (#[.int .i64 (k : Int)] ++ #[.pointer (some ⟨b1, 0, none⟩), .pointer (some ⟨b2, 0, none⟩), .pointer (some ⟨b3, 0, none⟩)]) w fun e w' => e = .returned (.int .i64 (meetV n d g k)) ∧ Below w.heap.size w w' := by
  have hbd := meetV_bd hO.1.2 hO.1.1 hO.2.2 hk
  have hn6 : n ≤ 6 := hO.1.1.1
  have hdj : ∀ j, j < n → 0 ≤ d j ∧ d j ≤ 2000 := fun j hj => ⟨by have := (hO.1.1.2 j hj).2; omega, (hO.1.1.2 j hj).2.2⟩
  have HT1 := Lib.hid (fun V (hV : Below w.heap.size w V) => together_any A1 k cap1 c d V (by omega) (((hr.take hk).below hV).mono hV.size) (fun j hj => hdj j (by omega)))
  have HT2 := Lib.hid (fun V (hV : Below w.heap.size w V) => together_any (if cap1 = k then A1 else A1.map (fun x => x.add (k * 2))) (n - k) (cap1 - k) (shN c k) (shN d k) V (by omega) (((hr.drop hk hcap).below hV).mono hV.size) (fun j hj => hdj (k + j) (by omega)))
  have HD1 := Lib.hid (fun V => daysFor_any (g.p 0) (g.q 0) (g.s 0) (g.t 0) (g.u 0) (sumN d k) V (hO.1.2 0 (by decide)) hbd.1)
  have HD2 := Lib.hid (fun V => daysFor_any (g.p 1) (g.q 1) (g.s 1) (g.t 1) (g.u 1) (sumN (shN d k) (n - k)) V (hO.1.2 1 (by decide)) hbd.2.1)
  have hmx : max (daysL (g.q 0) (g.s 0) (g.t 0) (sumN d k)) (daysL (g.q 1) (g.s 1) (g.t 1) (sumN (shN d k) (n - k))) = meetV n d g k := rfl
  obtain ⟨z1, hz1⟩ : ∃ z1, z1 = daysL (g.q 0) (g.s 0) (g.t 0) (sumN d k) := ⟨_, rfl⟩
  obtain ⟨z2, hz2⟩ : ∃ z2, z2 = daysL (g.q 1) (g.s 1) (g.t 1) (sumN (shN d k) (n - k)) := ⟨_, rfl⟩
  obtain ⟨M, hM⟩ : ∃ M, M = meetV n d g k := ⟨_, rfl⟩
  rw [← hz1, ← hz2, ← hM] at hmx
  rw [← hz1] at HD1
  rw [← hz2] at HD2
  rw [← hM]
  clear hz1 hz2 hM
  have hki : (k : Int) ≤ (n : Int) := by omega
  have hkc : (k : Int) ≤ (cap1 : Int) := by omega
  clear hdj hr hO hbd
  have hf1 := field_work (maxK c k) (sumN d k)
  have hf2 := field_work (maxK (shN c k) (n - k)) (sumN (shN d k) (n - k))
  go_enter Tryd.func74, Tryd.ntmps74
  go_wp2
  obtain ⟨W, hW⟩ : ∃ W : World, W = w := ⟨_, rfl⟩
  have B : Below W.heap.size W w := by rw [hW]; exact Below.refl _ _
  have HT1' := Lib.hid (fun V (hV : Below W.heap.size W V) => HT1.out V (by rw [← hW]; exact hV))
  have HT2' := Lib.hid (fun V (hV : Below W.heap.size W V) => HT2.out V (by rw [← hW]; exact hV))
  clear HT1 HT2
  refine wp_region_held_drew (S := (fun w' : World => Below W.heap.size W w' ∧ Bx w' b1 (crewC (g.p 0) (g.q 0) (g.s 0) (g.t 0) (g.u 0)) t1 ∧ Bx w' b2 #[.slice A1 n cap1, v2] t2 ∧ Bx w' b3 (crewC (g.p 1) (g.q 1) (g.s 1) (g.t 1) (g.u 1)) t3)) (by kernel_rfl) ⟨B.drew, X1, X2, X3⟩ (fun hHeld => ?_)
  replace B : Below W.heap.size W w.drew := B.drew
  replace X1 : Bx w.drew b1 (crewC (g.p 0) (g.q 0) (g.s 0) (g.t 0) (g.u 0)) t1 := X1
  replace X2 : Bx w.drew b2 #[.slice A1 n cap1, v2] t2 := X2
  replace X3 : Bx w.drew b3 (crewC (g.p 1) (g.q 1) (g.s 1) (g.t 1) (g.u 1)) t3 := X3
  obtain ⟨wq, hwq⟩ : ∃ wq, w.drew = wq := ⟨_, rfl⟩
  rw [hwq] at B X1 X2 X3 hHeld ⊢
  clear hwq
  refine wpAnyH_take (i := 0) (oi := _) (v := .agg (crewC (g.p 0) (g.q 0) (g.s 0) (g.t 0) (g.u 0))) rfl (by kernel_rfl) (by kernel_rfl) (by kernel_rfl) (fun _ _ _ h => h) (yields_box (by kernel_rfl) _ _ rfl b1 rfl (crewC (g.p 0) (g.q 0) (g.s 0) (g.t 0) (g.u 0)) t1 (fun _ hS => hS.2.1) _ Tryd.underlying109 rfl (by kernel_rfl)) (by assumption) ?_
  try simp only [List.getElem_toArray, List.getElem_cons_zero, List.getElem_cons_succ, Act.put, List.setIfInBounds_toArray, List.set_cons_zero, List.set_cons_succ]
  refine wpAnyH_take (i := 1) (oi := _) (v := ?_) rfl (by kernel_rfl) (by kernel_rfl) (by kernel_rfl) (fun _ _ _ h => h) (Or.inl ⟨by kernel_rfl, ?_⟩) (by assumption) ?_
  rotate_left
  · intro w hSw; (try dsimp only at hSw); go_simp; first | done | with_reducible rfl
  try simp only [List.getElem_toArray, List.getElem_cons_zero, List.getElem_cons_succ, Act.put, List.setIfInBounds_toArray, List.set_cons_zero, List.set_cons_succ]
  refine wpAnyH_take (i := 2) (oi := _) (v := ?_) rfl (by kernel_rfl) (by kernel_rfl) (by kernel_rfl) (fun _ _ _ h => h) (Or.inl ⟨by kernel_rfl, ?_⟩) (by assumption) ?_
  rotate_left
  · intro w hSw; have hcell := (fun (w' : World) (hS : Below W.heap.size W w' ∧ Bx w' b1 (crewC (g.p 0) (g.q 0) (g.s 0) (g.t 0) (g.u 0)) t1 ∧ Bx w' b2 #[.slice A1 n cap1, v2] t2 ∧ Bx w' b3 (crewC (g.p 1) (g.q 1) (g.s 1) (g.t 1) (g.u 1)) t3) => (show w'.cell? ⟨b2, 0, none⟩ = some (.slice A1 n cap1) from hS.2.2.1.cell 0)) w hSw; clear hSw; go_simp; first | done | with_reducible rfl
  try simp only [List.getElem_toArray, List.getElem_cons_zero, List.getElem_cons_succ, Act.put, List.setIfInBounds_toArray, List.set_cons_zero, List.set_cons_succ]
  refine wpAnyH_take (i := 3) (oi := _) (v := ?_) rfl (by kernel_rfl) (by kernel_rfl) (by kernel_rfl) (fun _ _ _ h => h) (Or.inl ⟨by kernel_rfl, ?_⟩) (by assumption) ?_
  rotate_left
  · intro w hSw; (try dsimp only at hSw); go_simp; first | done | with_reducible rfl
  try simp only [List.getElem_toArray, List.getElem_cons_zero, List.getElem_cons_succ, Act.put, List.setIfInBounds_toArray, List.set_cons_zero, List.set_cons_succ]
  refine wpAnyH_take (i := 4) (oi := _) (v := ?_) rfl (by kernel_rfl) (by kernel_rfl) (by kernel_rfl) (fun _ _ _ h => h) (Or.inl ⟨by kernel_rfl, ?_⟩) (by assumption) ?_
  rotate_left
  · intro w hSw; (try dsimp only at hSw); go_simp; first | done | with_reducible rfl
  try simp only [List.getElem_toArray, List.getElem_cons_zero, List.getElem_cons_succ, Act.put, List.setIfInBounds_toArray, List.set_cons_zero, List.set_cons_succ]
  refine wpAnyH_take (i := 8) (oi := _) (v := .agg (crewC (g.p 1) (g.q 1) (g.s 1) (g.t 1) (g.u 1))) rfl (by kernel_rfl) (by kernel_rfl) (by kernel_rfl) (fun _ _ _ h => h) (yields_box (by kernel_rfl) _ _ rfl b3 rfl (crewC (g.p 1) (g.q 1) (g.s 1) (g.t 1) (g.u 1)) t3 (fun _ hS => hS.2.2.2) _ Tryd.underlying109 rfl (by kernel_rfl)) (by assumption) ?_
  try simp only [List.getElem_toArray, List.getElem_cons_zero, List.getElem_cons_succ, Act.put, List.setIfInBounds_toArray, List.set_cons_zero, List.set_cons_succ]
  refine wpAnyH_take (i := 9) (oi := _) (v := ?_) rfl (by kernel_rfl) (by kernel_rfl) (by kernel_rfl) (fun _ _ _ h => h) (Or.inl ⟨by kernel_rfl, ?_⟩) (by assumption) ?_
  rotate_left
  · intro w hSw; (try dsimp only at hSw); go_simp; first | done | with_reducible rfl
  try simp only [List.getElem_toArray, List.getElem_cons_zero, List.getElem_cons_succ, Act.put, List.setIfInBounds_toArray, List.set_cons_zero, List.set_cons_succ]
  refine wpAnyH_take (i := 10) (oi := _) (v := ?_) rfl (by kernel_rfl) (by kernel_rfl) (by kernel_rfl) (fun _ _ _ h => h) (Or.inl ⟨by kernel_rfl, ?_⟩) (by assumption) ?_
  rotate_left
  · intro w hSw; have hcell := (fun (w' : World) (hS : Below W.heap.size W w' ∧ Bx w' b1 (crewC (g.p 0) (g.q 0) (g.s 0) (g.t 0) (g.u 0)) t1 ∧ Bx w' b2 #[.slice A1 n cap1, v2] t2 ∧ Bx w' b3 (crewC (g.p 1) (g.q 1) (g.s 1) (g.t 1) (g.u 1)) t3) => (show w'.cell? ⟨b2, 0, none⟩ = some (.slice A1 n cap1) from hS.2.2.1.cell 0)) w hSw; clear hSw; go_simp; first | done | with_reducible rfl
  try simp only [List.getElem_toArray, List.getElem_cons_zero, List.getElem_cons_succ, Act.put, List.setIfInBounds_toArray, List.set_cons_zero, List.set_cons_succ]
  refine wpAnyH_take (i := 11) (oi := _) (v := ?_) rfl (by kernel_rfl) (by kernel_rfl) (by kernel_rfl) (fun _ _ _ h => h) (Or.inl ⟨by kernel_rfl, ?_⟩) (by assumption) ?_
  rotate_left
  · intro w hSw; (try dsimp only at hSw); go_simp; first | done | with_reducible rfl
  try simp only [List.getElem_toArray, List.getElem_cons_zero, List.getElem_cons_succ, Act.put, List.setIfInBounds_toArray, List.set_cons_zero, List.set_cons_succ]
  refine wpAnyH_take (i := 12) (oi := _) (v := ?_) rfl (by kernel_rfl) (by kernel_rfl) (by kernel_rfl) (fun _ _ _ h => h) (Or.inl ⟨by kernel_rfl, ?_⟩) (by assumption) ?_
  rotate_left
  · intro w hSw; (try dsimp only at hSw); go_simp; first | done | with_reducible rfl
  try simp only [List.getElem_toArray, List.getElem_cons_zero, List.getElem_cons_succ, Act.put, List.setIfInBounds_toArray, List.set_cons_zero, List.set_cons_succ]
  refine wpAnyH_ready (rs := [5]) (by kernel_rfl) (by simp) ?_
  refine AllReadyH.cons (o := _) rfl (fun K hK => ?_) AllReadyH.nil
  go_simp
  refine (HT1'.out _ B).mono ?_
  rintro e wa ⟨hb, rfl⟩
  replace B := nxt B hb
  replace X1 := X1.below hb
  replace X2 := X2.below hb
  replace X3 := X3.below hb
  clear hb
  refine hK.out _ _ ⟨B, X1, X2, X3⟩ (fun hHeld => ?_)
  clear hK K
  try simp only [List.getElem_toArray, List.getElem_cons_zero, List.getElem_cons_succ, Act.put, List.setIfInBounds_toArray, List.set_cons_zero, List.set_cons_succ]
  refine wpAnyH_take (i := 6) (oi := _) (v := ?_) rfl (by kernel_rfl) (by kernel_rfl) (by kernel_rfl) (fun _ _ _ h => h) (Or.inl ⟨by kernel_rfl, ?_⟩) (by assumption) ?_
  rotate_left
  · intro w hSw; (try dsimp only at hSw); go_simp; first | done | with_reducible rfl
  try simp only [List.getElem_toArray, List.getElem_cons_zero, List.getElem_cons_succ, Act.put, List.setIfInBounds_toArray, List.set_cons_zero, List.set_cons_succ]
  refine wpAnyH_ready (rs := [7]) (by kernel_rfl) (by simp) ?_
  refine AllReadyH.cons (o := _) rfl (fun K hK => ?_) AllReadyH.nil
  go_simp
  refine (HD1.out _).mono ?_
  rintro e wb ⟨hb, rfl⟩
  replace B := nxt B hb
  replace X1 := X1.below hb
  replace X2 := X2.below hb
  replace X3 := X3.below hb
  clear hb
  refine hK.out _ _ ⟨B, X1, X2, X3⟩ (fun hHeld => ?_)
  clear hK K
  try simp only [List.getElem_toArray, List.getElem_cons_zero, List.getElem_cons_succ, Act.put, List.setIfInBounds_toArray, List.set_cons_zero, List.set_cons_succ]
  refine wpAnyH_ready (rs := [13]) (by kernel_rfl) (by simp) ?_
  refine AllReadyH.cons (o := _) rfl (fun K hK => ?_) AllReadyH.nil
  go_simp
  refine (HT2'.out _ B).mono ?_
  rintro e wc ⟨hb, rfl⟩
  replace B := nxt B hb
  replace X1 := X1.below hb
  replace X2 := X2.below hb
  replace X3 := X3.below hb
  clear hb
  refine hK.out _ _ ⟨B, X1, X2, X3⟩ (fun hHeld => ?_)
  clear hK K
  try simp only [List.getElem_toArray, List.getElem_cons_zero, List.getElem_cons_succ, Act.put, List.setIfInBounds_toArray, List.set_cons_zero, List.set_cons_succ]
  refine wpAnyH_take (i := 14) (oi := _) (v := ?_) rfl (by kernel_rfl) (by kernel_rfl) (by kernel_rfl) (fun _ _ _ h => h) (Or.inl ⟨by kernel_rfl, ?_⟩) (by assumption) ?_
  rotate_left
  · intro w hSw; (try dsimp only at hSw); go_simp; first | done | with_reducible rfl
  try simp only [List.getElem_toArray, List.getElem_cons_zero, List.getElem_cons_succ, Act.put, List.setIfInBounds_toArray, List.set_cons_zero, List.set_cons_succ]
  refine wpAnyH_ready (rs := [15]) (by kernel_rfl) (by simp) ?_
  refine AllReadyH.cons (o := _) rfl (fun K hK => ?_) AllReadyH.nil
  go_simp
  refine (HD2.out _).mono ?_
  rintro e wd ⟨hb, rfl⟩
  replace B := nxt B hb
  replace X1 := X1.below hb
  replace X2 := X2.below hb
  replace X3 := X3.below hb
  clear hb
  refine hK.out _ _ ⟨B, X1, X2, X3⟩ (fun hHeld => ?_)
  clear hK K
  try simp only [List.getElem_toArray, List.getElem_cons_zero, List.getElem_cons_succ, Act.put, List.setIfInBounds_toArray, List.set_cons_zero, List.set_cons_succ]
  refine wpAnyH_take (i := 16) (oi := _) (v := ?_) rfl (by kernel_rfl) (by kernel_rfl) (by kernel_rfl) (fun _ _ _ h => h) (Or.inl ⟨by kernel_rfl, ?_⟩) (by assumption) ?_
  rotate_left
  · intro w hSw; (try dsimp only at hSw); go_simp; first | done | with_reducible rfl
  try simp only [List.getElem_toArray, List.getElem_cons_zero, List.getElem_cons_succ, Act.put, List.setIfInBounds_toArray, List.set_cons_zero, List.set_cons_succ]
  refine wpAnyH_take (i := 17) (oi := _) (v := ?_) rfl (by kernel_rfl) (by kernel_rfl) (by kernel_rfl) (fun _ _ _ h => h) (Or.inl ⟨by kernel_rfl, ?_⟩) (by assumption) ?_
  rotate_left
  · intro w hSw; (try dsimp only at hSw); go_simp; first | done | with_reducible rfl
  try simp only [List.getElem_toArray, List.getElem_cons_zero, List.getElem_cons_succ, Act.put, List.setIfInBounds_toArray, List.set_cons_zero, List.set_cons_succ]
  refine wpAnyH_done (by kernel_rfl) ?_ _
  go_wp2
  all_goals go_ret
  all_goals exact ⟨(by first | rfl | exact congrArg (fun v => Ending.returned (Value.int IntKind.i64 v)) (show z1 = M by omega) | exact congrArg (fun v => Ending.returned (Value.int IntKind.i64 v)) (show z2 = M by omega)), by rw [← hW]; exact B⟩
end Go.Proofs.YtfpoikeibjojgaaDoor
