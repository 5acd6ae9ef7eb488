/-
  Plans on the model's side: contracts of spec.l07Days at an element, spec.l07Right, spec.l07Sums. Conditions stand at each.
-/
import Derived.Test.YtfpoikeibjojgaaDoorRows
import Derived.Test.YtfpoikeibjojgaaDoorPlanM
import Derived.Test.YtfpoikeibjojgaaDoorMeetS
import Derived.Test.YtfpoikeibjojgaaDoorNums
import Derived.Test.YtfpoikeibjojgaaDoorIn
namespace Go.Proofs.YtfpoikeibjojgaaDoor
open Go Go.ChangeShapes Go.WideShapes Go.ChangeAt Go.RowKit
set_option linter.unusedVariables false
set_option linter.unusedSimpArgs false
set_option maxRecDepth 100000
set_option maxHeartbeats 8000000
theorem l07Days_at (b o : Nat) (p q s t u : Int) (wk : Int) (w : World) (hG : GangOk p q s t u) (hw : 0 ≤ wk ∧ wk ≤ 2000)
    (c1 : w.cell? ⟨b, o + 1, none⟩ = some (.int .i8 q)) (c2 : w.cell? ⟨b, o + 2, none⟩ = some (.int .i8 s)) (c3 : w.cell? ⟨b, o + 3, none⟩ = some (.int .i8 t)) :
    Calls Tryd.prog 69 #[.pointer (some ⟨b, o, none⟩), .int .i64 wk] w fun e w' => Below w.heap.size w w' ∧ e = .returned (.int .i64 (daysL q s t wk)) := by
  obtain ⟨bp, bq, bs, bt, bu⟩ := hG
  have hb := upD_bd hw.1 bq.1
  obtain ⟨d, hd⟩ : ∃ d, d = upD wk q := ⟨_, rfl⟩
  have hz : daysL q s t wk = if d = 0 then 0 else d + (d - 1) / s * t := by unfold daysL; rw [← hd]
  rw [hz]
  rw [← hd] at hb
  have w1 : IntKind.i64.wrap q = q := IntWalk.i64_in _ (by omega)
  have w2 : IntKind.i64.wrap s = s := IntWalk.i64_in _ (by omega)
  have w3 : IntKind.i64.wrap t = t := IntWalk.i64_in _ (by omega)
  have e1 : Int.tdiv (wk + q - 1) q = d := by rw [Int.tdiv_eq_ediv_of_nonneg (by omega)]; exact hd.symm
  have e2 : (wk + q - 1) / q = d := hd.symm
  have e3 : IntKind.i64.wrap d = d := IntWalk.i64_in _ (by omega)
  have e4 : wrap64 d = d := IntWalk.wrap64_in _ (by omega)
  clear hd hz
  by_cases h0 : d = 0
  · have HE := Lib.hid e2
    have HE1 := Lib.hid e1
    rw [if_pos h0]
    subst h0
    go_enter Tryd.func69, Tryd.ntmps69
    go_wp2
    go_quiet (fail)
    go_wp2
    go_ret
    exact ⟨below_drewN' (Below.refl _ _) _, rfl⟩
  · have d0 : (d == 0) = false := by simpa using h0
    have hk := rests_bd (d := d - 1) (k := s) (r := t) (by omega) bs.1 bt
    rw [if_neg h0]
    obtain ⟨k, hk1⟩ : ∃ k, k = (d - 1) / s := ⟨_, rfl⟩
    have f1 : Int.tdiv (d - 1) s = k := by rw [Int.tdiv_eq_ediv_of_nonneg (by omega)]; exact hk1.symm
    have f2 : (d - 1) / s = k := hk1.symm
    rw [f2] at hk ⊢
    obtain ⟨m, hm⟩ : ∃ m, m = k * t := ⟨_, rfl⟩
    have f3 : k * t = m := hm.symm
    rw [f3] at hk ⊢
    have f4 : IntKind.i64.wrap k = k := IntWalk.i64_in _ (by omega)
    have f5 : wrap64 k = k := IntWalk.wrap64_in _ (by omega)
    have f6 : IntKind.i64.wrap m = m := IntWalk.i64_in _ (by omega)
    have f7 : wrap64 m = m := IntWalk.wrap64_in _ (by omega)
    clear hk1 hm
    go_enter Tryd.func69, Tryd.ntmps69
    go_wp2
    go_quiet (fail)
    go_wp2
    go_quiet (fail)
    go_wp2
    go_ret
    exact ⟨below_drewN' (below_drewN' (Below.refl _ _) _) _, rfl⟩
theorem RdK.atk {kd : IntKind} {w : World} {B n k : Nat} {A : Option Addr} {c : Nat → Int} (h : RdK kd w B A n c) (hk : k < n) : ∃ b off, A = some ⟨b, off, none⟩ ∧ b < B ∧ w.cell? ⟨b, off + k, none⟩ = some (.int kd (c k)) := by
  obtain ⟨b, off, e, hl, hc⟩ := h (by omega)
  exact ⟨b, off, e, hl, hc k hk⟩
theorem in_below (v lo hi : Int) (r : Bool) (w : World) (hr : r = true ↔ lo ≤ v ∧ v ≤ hi) : Calls Tryd.prog 65 #[.int .i64 v, .int .i64 lo, .int .i64 hi] w (BPost r w) :=
  (in_any v lo hi r w hr).mono fun e w' ⟨he, hw⟩ => ⟨by rw [hw]; exact Below.refl _ _, he⟩
theorem l07Right_any (A : Option Addr) (n cap : Nat) (c d : Nat → Int) (A' : Option Addr) (m cap' : Nat) (g : Gs) (P : Option Addr) (k cap'' : Nat) (pl : Nat → Int) (r : Bool) (w : World) (hn : n ≤ 6) (hm : m ≤ 4) (hk : k ≤ 1048576)
    (hr : RdS w w.heap.size A n c d) (hg : RdG w w.heap.size A' m g) (hp : RdK .i64 w w.heap.size P k pl) (hrr : r = true ↔ RightP n c m g k pl) :
    Calls Tryd.prog 52 #[.slice A n cap, .slice A' m cap', .slice P k cap''] w (BPost r w) := by
  have HR := Lib.hid hr
  have HG := Lib.hid hg
  have HP := Lib.hid hp
  have HRR := Lib.hid hrr
  clear hr hg hp hrr
  by_cases hkn : k = n
  · subst hkn
    have hnn : ((k : Int) != (k : Int)) = false := by simp
    have hwm : IntKind.i64.wrap ((m : Int) - 1) = (m : Int) - 1 := IntWalk.i64_in _ (by omega)
    go_enter Tryd.func52, Tryd.ntmps52
    go_wp2
    go_loopw [7] (fun t7 wr => ∃ i : Nat, i ≤ k ∧ t7 = .int .i64 i ∧ Below w.heap.size w wr ∧ ∀ j, j < i → (0 ≤ pl j ∧ pl j < m) ∧ c j ≤ g.p (pl j).toNat) (fun t7 wr => k - (intOf t7).toNat)
    case atStart => exact ⟨0, by omega, rfl, Below.refl _ _, fun j hj => by omega⟩
    case round =>
      obtain ⟨i, hi, rfl, hB, hall⟩ := hrel
      have HA := Lib.hid hall
      clear hall
      by_cases hlt : i < k
      · have hii : (i : Int) < (k : Int) := by omega
        obtain ⟨bp, op, rfl, hbp, p0⟩ := (HP.out.below hB).atk hlt
        obtain ⟨b, off, rfl, hbl, c0, c1⟩ := (HR.out.below hB).at hlt
        obtain ⟨r0, e0⟩ := dec_ex (0 ≤ pl i ∧ pl i ≤ (m : Int) - 1)
        have H0 := Lib.hid (fun W => in_below (pl i) 0 ((m : Int) - 1) r0 W e0)
        have E0 := Lib.hid e0
        have hbp' : bp < wr.heap.size := Nat.lt_of_lt_of_le hbp hB.size
        have hbl' : b < wr.heap.size := Nat.lt_of_lt_of_le hbl hB.size
        clear e0 c1
        go_wp2
        refine wp_region_held_drew (S := (fun w' : World => Below wr.drew.heap.size wr.drew w')) (by kernel_rfl) (Below.refl wr.drew.heap.size wr.drew) (fun hHeld => ?_)
        replace hB : Below w.heap.size w wr.drew := hB.drew
        replace p0 : wr.drew.cell? ⟨bp, op + i, none⟩ = some (.int .i64 (pl i)) := p0
        replace c0 : wr.drew.cell? ⟨b, off + i * 2, none⟩ = some (.int .i8 (c i)) := c0
        replace hbp' : bp < wr.drew.heap.size := hbp'
        replace hbl' : b < wr.drew.heap.size := hbl'
        obtain ⟨wq, hwq⟩ : ∃ wq, wr.drew = wq := ⟨_, rfl⟩
        rw [hwq] at hB p0 c0 hbp' hbl' hHeld ⊢
        clear hwq
        refine wpAnyH_take (i := 0) (oi := _) (v := ?_) rfl (by kernel_rfl) (by kernel_rfl) (by kernel_rfl) (fun _ _ _ h => h) (Or.inl ⟨by kernel_rfl, ?_⟩) (by assumption) ?_
        rotate_left
        · intro w hSw; (try dsimp only at hSw); go_simp; first | done | with_reducible rfl
        try simp only [List.getElem_toArray, List.getElem_cons_zero, List.getElem_cons_succ, Act.put, List.setIfInBounds_toArray, List.set_cons_zero, List.set_cons_succ]
        refine wpAnyH_take (i := 1) (oi := _) (v := ?_) rfl (by kernel_rfl) (by kernel_rfl) (by kernel_rfl) (fun _ _ _ h => h) (Or.inl ⟨by kernel_rfl, ?_⟩) (by assumption) ?_
        rotate_left
        · intro w hSw; (try dsimp only at hSw); go_simp; first | done | with_reducible rfl
        try simp only [List.getElem_toArray, List.getElem_cons_zero, List.getElem_cons_succ, Act.put, List.setIfInBounds_toArray, List.set_cons_zero, List.set_cons_succ]
        refine wpAnyH_take (i := 2) (oi := _) (v := ?_) rfl (by kernel_rfl) (by kernel_rfl) (by kernel_rfl) (fun _ _ _ h => h) (Or.inl ⟨by kernel_rfl, ?_⟩) (by assumption) ?_
        rotate_left
        · intro w hSw; (try dsimp only at hSw); go_simp; first | done | with_reducible rfl
        try simp only [List.getElem_toArray, List.getElem_cons_zero, List.getElem_cons_succ, Act.put, List.setIfInBounds_toArray, List.set_cons_zero, List.set_cons_succ]
        refine wpAnyH_take (i := 3) (oi := _) (v := ?_) rfl (by kernel_rfl) (by kernel_rfl) (by kernel_rfl) (fun _ _ _ h => h) (Or.inl ⟨by kernel_rfl, ?_⟩) (by assumption) ?_
        rotate_left
        · intro w hSw; have hcell := (fun (w' : World) (hS : Below wq.heap.size wq w') => (hS.cell (p := ⟨bp, op + i, none⟩) hbp').trans p0) w hSw; clear hSw; go_simp; first | done | with_reducible rfl
        try simp only [List.getElem_toArray, List.getElem_cons_zero, List.getElem_cons_succ, Act.put, List.setIfInBounds_toArray, List.set_cons_zero, List.set_cons_succ]
        refine wpAnyH_take (i := 4) (oi := _) (v := ?_) rfl (by kernel_rfl) (by kernel_rfl) (by kernel_rfl) (fun _ _ _ h => h) (Or.inl ⟨by kernel_rfl, ?_⟩) (by assumption) ?_
        rotate_left
        · intro w hSw; (try dsimp only at hSw); go_simp; first | done | with_reducible rfl
        try simp only [List.getElem_toArray, List.getElem_cons_zero, List.getElem_cons_succ, Act.put, List.setIfInBounds_toArray, List.set_cons_zero, List.set_cons_succ]
        refine wpAnyH_take (i := 5) (oi := _) (v := ?_) rfl (by kernel_rfl) (by kernel_rfl) (by kernel_rfl) (fun _ _ _ h => h) (Or.inl ⟨by kernel_rfl, ?_⟩) (by assumption) ?_
        rotate_left
        · intro w hSw; (try dsimp only at hSw); go_simp; first | done | with_reducible rfl
        try simp only [List.getElem_toArray, List.getElem_cons_zero, List.getElem_cons_succ, Act.put, List.setIfInBounds_toArray, List.set_cons_zero, List.set_cons_succ]
        refine wpAnyH_take (i := 6) (oi := _) (v := ?_) rfl (by kernel_rfl) (by kernel_rfl) (by kernel_rfl) (fun _ _ _ h => h) (Or.inl ⟨by kernel_rfl, ?_⟩) (by assumption) ?_
        rotate_left
        · intro w hSw; (try dsimp only at hSw); go_simp; first | done | with_reducible rfl
        try simp only [List.getElem_toArray, List.getElem_cons_zero, List.getElem_cons_succ, Act.put, List.setIfInBounds_toArray, List.set_cons_zero, List.set_cons_succ]
        refine wpAnyH_ready (rs := [7]) (by kernel_rfl) (by simp) ?_
        refine AllReadyH.cons (o := _) rfl (fun K hK => ?_) AllReadyH.nil
        go_simp
        refine (H0.out wq).mono ?_
        rintro e w3 ⟨hb, rfl⟩
        have B3 := nxt hB hb
        refine hK.out _ _ hb (fun hHeld => ?_)
        clear hK K
        try simp only [List.getElem_toArray, List.getElem_cons_zero, List.getElem_cons_succ, Act.put, List.setIfInBounds_toArray, List.set_cons_zero, List.set_cons_succ]
        refine wpAnyH_take (i := 8) (oi := _) (v := ?_) rfl (by kernel_rfl) (by kernel_rfl) (by kernel_rfl) (fun _ _ _ h => h) (Or.inl ⟨by kernel_rfl, ?_⟩) (by assumption) ?_
        rotate_left
        · intro w hSw; (try dsimp only at hSw); go_simp; first | done | with_reducible rfl
        try simp only [List.getElem_toArray, List.getElem_cons_zero, List.getElem_cons_succ, Act.put, List.setIfInBounds_toArray, List.set_cons_zero, List.set_cons_succ]
        refine wpAnyH_take (i := 9) (oi := _) (v := ?_) rfl (by kernel_rfl) (by kernel_rfl) (by kernel_rfl) (fun _ _ _ h => h) (Or.inl ⟨by kernel_rfl, ?_⟩) (by assumption) ?_
        rotate_left
        · intro w hSw; (try dsimp only at hSw); go_simp; first | done | with_reducible rfl
        try simp only [List.getElem_toArray, List.getElem_cons_zero, List.getElem_cons_succ, Act.put, List.setIfInBounds_toArray, List.set_cons_zero, List.set_cons_succ]
        cases r0 with
        | false =>
          obtain rfl : r = false := Bool.eq_false_iff.2 fun h => by
            have h1 := ((HRR.out.1 h).2 i hlt).1
            have := E0.out.2 ⟨h1.1, by omega⟩
            cases this
          refine wpAnyH_take (i := 10) (oi := _) (v := undef) rfl (by kernel_rfl) (by kernel_rfl) (by kernel_rfl) (fun _ _ _ h => h) (Or.inr ⟨by kernel_rfl, rfl⟩) (by assumption) ?_
          try simp only [List.getElem_toArray, List.getElem_cons_zero, List.getElem_cons_succ, Act.put, List.setIfInBounds_toArray, List.set_cons_zero, List.set_cons_succ]
          refine wpAnyH_take (i := 11) (oi := _) (v := undef) rfl (by kernel_rfl) (by kernel_rfl) (by kernel_rfl) (fun _ _ _ h => h) (Or.inr ⟨by kernel_rfl, rfl⟩) (by assumption) ?_
          try simp only [List.getElem_toArray, List.getElem_cons_zero, List.getElem_cons_succ, Act.put, List.setIfInBounds_toArray, List.set_cons_zero, List.set_cons_succ]
          refine wpAnyH_take (i := 12) (oi := _) (v := undef) rfl (by kernel_rfl) (by kernel_rfl) (by kernel_rfl) (fun _ _ _ h => h) (Or.inr ⟨by kernel_rfl, rfl⟩) (by assumption) ?_
          try simp only [List.getElem_toArray, List.getElem_cons_zero, List.getElem_cons_succ, Act.put, List.setIfInBounds_toArray, List.set_cons_zero, List.set_cons_succ]
          refine wpAnyH_take (i := 13) (oi := _) (v := undef) rfl (by kernel_rfl) (by kernel_rfl) (by kernel_rfl) (fun _ _ _ h => h) (Or.inr ⟨by kernel_rfl, rfl⟩) (by assumption) ?_
          try simp only [List.getElem_toArray, List.getElem_cons_zero, List.getElem_cons_succ, Act.put, List.setIfInBounds_toArray, List.set_cons_zero, List.set_cons_succ]
          refine wpAnyH_take (i := 14) (oi := _) (v := undef) rfl (by kernel_rfl) (by kernel_rfl) (by kernel_rfl) (fun _ _ _ h => h) (Or.inr ⟨by kernel_rfl, rfl⟩) (by assumption) ?_
          try simp only [List.getElem_toArray, List.getElem_cons_zero, List.getElem_cons_succ, Act.put, List.setIfInBounds_toArray, List.set_cons_zero, List.set_cons_succ]
          refine wpAnyH_take (i := 15) (oi := _) (v := undef) rfl (by kernel_rfl) (by kernel_rfl) (by kernel_rfl) (fun _ _ _ h => h) (Or.inr ⟨by kernel_rfl, rfl⟩) (by assumption) ?_
          try simp only [List.getElem_toArray, List.getElem_cons_zero, List.getElem_cons_succ, Act.put, List.setIfInBounds_toArray, List.set_cons_zero, List.set_cons_succ]
          refine wpAnyH_take (i := 16) (oi := _) (v := undef) rfl (by kernel_rfl) (by kernel_rfl) (by kernel_rfl) (fun _ _ _ h => h) (Or.inr ⟨by kernel_rfl, rfl⟩) (by assumption) ?_
          try simp only [List.getElem_toArray, List.getElem_cons_zero, List.getElem_cons_succ, Act.put, List.setIfInBounds_toArray, List.set_cons_zero, List.set_cons_succ]
          refine wpAnyH_take (i := 17) (oi := _) (v := undef) rfl (by kernel_rfl) (by kernel_rfl) (by kernel_rfl) (fun _ _ _ h => h) (Or.inr ⟨by kernel_rfl, rfl⟩) (by assumption) ?_
          try simp only [List.getElem_toArray, List.getElem_cons_zero, List.getElem_cons_succ, Act.put, List.setIfInBounds_toArray, List.set_cons_zero, List.set_cons_succ]
          refine wpAnyH_take (i := 18) (oi := _) (v := undef) rfl (by kernel_rfl) (by kernel_rfl) (by kernel_rfl) (fun _ _ _ h => h) (Or.inr ⟨by kernel_rfl, rfl⟩) (by assumption) ?_
          try simp only [List.getElem_toArray, List.getElem_cons_zero, List.getElem_cons_succ, Act.put, List.setIfInBounds_toArray, List.set_cons_zero, List.set_cons_succ]
          refine wpAnyH_take (i := 19) (oi := _) (v := undef) rfl (by kernel_rfl) (by kernel_rfl) (by kernel_rfl) (fun _ _ _ h => h) (Or.inr ⟨by kernel_rfl, rfl⟩) (by assumption) ?_
          try simp only [List.getElem_toArray, List.getElem_cons_zero, List.getElem_cons_succ, Act.put, List.setIfInBounds_toArray, List.set_cons_zero, List.set_cons_succ]
          refine wpAnyH_take (i := 20) (oi := _) (v := undef) rfl (by kernel_rfl) (by kernel_rfl) (by kernel_rfl) (fun _ _ _ h => h) (Or.inr ⟨by kernel_rfl, rfl⟩) (by assumption) ?_
          try simp only [List.getElem_toArray, List.getElem_cons_zero, List.getElem_cons_succ, Act.put, List.setIfInBounds_toArray, List.set_cons_zero, List.set_cons_succ]
          refine wpAnyH_take (i := 21) (oi := _) (v := ?_) rfl (by kernel_rfl) (by kernel_rfl) (by kernel_rfl) (fun _ _ _ h => h) (Or.inl ⟨by kernel_rfl, ?_⟩) (by assumption) ?_
          rotate_left
          · intro w hSw; (try dsimp only at hSw); go_simp; first | done | with_reducible rfl
          try simp only [List.getElem_toArray, List.getElem_cons_zero, List.getElem_cons_succ, Act.put, List.setIfInBounds_toArray, List.set_cons_zero, List.set_cons_succ]
          refine wpAnyH_done (by kernel_rfl) ?_ _
          go_wp2
          go_ret
          exact ⟨B3, rfl⟩
        | true =>
          have P0 := E0.out.1 rfl
          obtain ⟨I, hI0⟩ := Int.eq_ofNat_of_zero_le P0.1
          have hI : I < m := by omega
          have hIi : (I : Int) < (m : Int) := by omega
          obtain ⟨bg, og, rfl, hbg, x0, -, -, -, -⟩ := (HG.out.below hB).at hI
          have hbg' : bg < wq.heap.size := Nat.lt_of_lt_of_le hbg hB.size
          obtain ⟨r1, e1⟩ := dec_ex (c i ≤ g.p I)
          have HM := Lib.hid (fun W x y => l07May_at bg (og + I * 5) b (off + i * 2) (g.p I) (c i) r1 W x y e1)
          have HF := Lib.hid (show r1 = true ↔ (0 ≤ pl i ∧ pl i < m) ∧ c i ≤ g.p (pl i).toNat by rw [e1, hI0, Int.toNat_natCast]; exact ⟨fun h => ⟨⟨by omega, by omega⟩, h⟩, fun h => h.2⟩)
          rw [hI0] at p0
          clear hI0 e1
          refine wpAnyH_take (i := 10) (oi := _) (v := ?_) rfl (by kernel_rfl) (by kernel_rfl) (by kernel_rfl) (fun _ _ _ h => h) (Or.inl ⟨by kernel_rfl, ?_⟩) (by assumption) ?_
          rotate_left
          · intro w hSw; (try dsimp only at hSw); go_simp; first | done | with_reducible rfl
          try simp only [List.getElem_toArray, List.getElem_cons_zero, List.getElem_cons_succ, Act.put, List.setIfInBounds_toArray, List.set_cons_zero, List.set_cons_succ]
          refine wpAnyH_take (i := 11) (oi := _) (v := ?_) rfl (by kernel_rfl) (by kernel_rfl) (by kernel_rfl) (fun _ _ _ h => h) (Or.inl ⟨by kernel_rfl, ?_⟩) (by assumption) ?_
          rotate_left
          · intro w hSw; (try dsimp only at hSw); go_simp; first | done | with_reducible rfl
          try simp only [List.getElem_toArray, List.getElem_cons_zero, List.getElem_cons_succ, Act.put, List.setIfInBounds_toArray, List.set_cons_zero, List.set_cons_succ]
          refine wpAnyH_take (i := 12) (oi := _) (v := ?_) rfl (by kernel_rfl) (by kernel_rfl) (by kernel_rfl) (fun _ _ _ h => h) (Or.inl ⟨by kernel_rfl, ?_⟩) (by assumption) ?_
          rotate_left
          · intro w hSw; (try dsimp only at hSw); go_simp; first | done | with_reducible rfl
          try simp only [List.getElem_toArray, List.getElem_cons_zero, List.getElem_cons_succ, Act.put, List.setIfInBounds_toArray, List.set_cons_zero, List.set_cons_succ]
          refine wpAnyH_take (i := 13) (oi := _) (v := ?_) rfl (by kernel_rfl) (by kernel_rfl) (by kernel_rfl) (fun _ _ _ h => h) (Or.inl ⟨by kernel_rfl, ?_⟩) (by assumption) ?_
          rotate_left
          · intro w hSw; (try dsimp only at hSw); go_simp; first | done | with_reducible rfl
          try simp only [List.getElem_toArray, List.getElem_cons_zero, List.getElem_cons_succ, Act.put, List.setIfInBounds_toArray, List.set_cons_zero, List.set_cons_succ]
          refine wpAnyH_take (i := 14) (oi := _) (v := ?_) rfl (by kernel_rfl) (by kernel_rfl) (by kernel_rfl) (fun _ _ _ h => h) (Or.inl ⟨by kernel_rfl, ?_⟩) (by assumption) ?_
          rotate_left
          · intro w hSw; have hcell := (fun (w' : World) (hS : Below wq.heap.size wq w') => (hS.cell (p := ⟨bp, op + i, none⟩) hbp').trans p0) w hSw; clear hSw; go_simp; first | done | with_reducible rfl
          try simp only [List.getElem_toArray, List.getElem_cons_zero, List.getElem_cons_succ, Act.put, List.setIfInBounds_toArray, List.set_cons_zero, List.set_cons_succ]
          refine wpAnyH_take (i := 15) (oi := _) (v := ?_) rfl (by kernel_rfl) (by kernel_rfl) (by kernel_rfl) (fun _ _ _ h => h) (Or.inl ⟨by kernel_rfl, ?_⟩) (by assumption) ?_
          rotate_left
          · intro w hSw; (try dsimp only at hSw); go_simp; first | done | with_reducible rfl
          try simp only [List.getElem_toArray, List.getElem_cons_zero, List.getElem_cons_succ, Act.put, List.setIfInBounds_toArray, List.set_cons_zero, List.set_cons_succ]
          refine wpAnyH_take (i := 16) (oi := _) (v := ?_) rfl (by kernel_rfl) (by kernel_rfl) (by kernel_rfl) (fun _ _ _ h => h) (Or.inl ⟨by kernel_rfl, ?_⟩) (by assumption) ?_
          rotate_left
          · intro w hSw; (try dsimp only at hSw); go_simp; first | done | with_reducible rfl
          try simp only [List.getElem_toArray, List.getElem_cons_zero, List.getElem_cons_succ, Act.put, List.setIfInBounds_toArray, List.set_cons_zero, List.set_cons_succ]
          refine wpAnyH_take (i := 17) (oi := _) (v := ?_) rfl (by kernel_rfl) (by kernel_rfl) (by kernel_rfl) (fun _ _ _ h => h) (Or.inl ⟨by kernel_rfl, ?_⟩) (by assumption) ?_
          rotate_left
          · intro w hSw; (try dsimp only at hSw); go_simp; first | done | with_reducible rfl
          try simp only [List.getElem_toArray, List.getElem_cons_zero, List.getElem_cons_succ, Act.put, List.setIfInBounds_toArray, List.set_cons_zero, List.set_cons_succ]
          refine wpAnyH_take (i := 18) (oi := _) (v := ?_) rfl (by kernel_rfl) (by kernel_rfl) (by kernel_rfl) (fun _ _ _ h => h) (Or.inl ⟨by kernel_rfl, ?_⟩) (by assumption) ?_
          rotate_left
          · intro w hSw; (try dsimp only at hSw); go_simp; first | done | with_reducible rfl
          try simp only [List.getElem_toArray, List.getElem_cons_zero, List.getElem_cons_succ, Act.put, List.setIfInBounds_toArray, List.set_cons_zero, List.set_cons_succ]
          refine wpAnyH_ready (rs := [19]) (by kernel_rfl) (by simp) ?_
          refine AllReadyH.cons (o := _) rfl (fun K hK => ?_) AllReadyH.nil
          go_simp
          refine (HM.out _ ((Below.cell (p := ⟨bg, og + I * 5, none⟩) hb hbg').trans x0) ((Below.cell (p := ⟨b, off + i * 2, none⟩) hb hbl').trans c0)).mono ?_
          rintro e w4 ⟨hb4, rfl⟩
          replace B3 := nxt B3 hb4
          refine hK.out _ _ (hb.trans (hb4.mono hb.size)) (fun hHeld => ?_)
          clear hK K
          try simp only [List.getElem_toArray, List.getElem_cons_zero, List.getElem_cons_succ, Act.put, List.setIfInBounds_toArray, List.set_cons_zero, List.set_cons_succ]
          refine wpAnyH_take (i := 20) (oi := _) (v := ?_) rfl (by kernel_rfl) (by kernel_rfl) (by kernel_rfl) (fun _ _ _ h => h) (Or.inl ⟨by kernel_rfl, ?_⟩) (by assumption) ?_
          rotate_left
          · intro w hSw; (try dsimp only at hSw); go_simp; first | done | with_reducible rfl
          try simp only [List.getElem_toArray, List.getElem_cons_zero, List.getElem_cons_succ, Act.put, List.setIfInBounds_toArray, List.set_cons_zero, List.set_cons_succ]
          refine wpAnyH_take (i := 21) (oi := _) (v := ?_) rfl (by kernel_rfl) (by kernel_rfl) (by kernel_rfl) (fun _ _ _ h => h) (Or.inl ⟨by kernel_rfl, ?_⟩) (by assumption) ?_
          rotate_left
          · intro w hSw; (try dsimp only at hSw); go_simp; first | done | with_reducible rfl
          try simp only [List.getElem_toArray, List.getElem_cons_zero, List.getElem_cons_succ, Act.put, List.setIfInBounds_toArray, List.set_cons_zero, List.set_cons_succ]
          refine wpAnyH_done (by kernel_rfl) ?_ _
          cases r1 with
          | false =>
            obtain rfl : r = false := Bool.eq_false_iff.2 fun h => by
              have := HF.out.2 ((HRR.out.1 h).2 i hlt)
              cases this
            go_wp2
            go_ret
            exact ⟨B3, rfl⟩
          | true =>
            have T1 := HF.out.1 rfl
            go_wp2
            exact ⟨⟨i + 1, by omega, by first | go_num | simp, B3, all_step HA.out T1⟩, by simp [intOf]; omega⟩
      · obtain rfl : i = k := by omega
        have hii : ¬ ((i : Int) < (i : Int)) := by omega
        obtain rfl : r = true := HRR.out.2 ⟨rfl, HA.out⟩
        go_wp2
        go_ret
        exact ⟨hB, rfl⟩
  · have hnn : ((k : Int) != (n : Int)) = true := by simp; omega
    obtain rfl : r = false := Bool.eq_false_iff.2 fun h => hkn (HRR.out.1 h).1
    go_enter Tryd.func52, Tryd.ntmps52
    go_wp2
    go_ret
    exact ⟨Below.refl _ _, rfl⟩
def rem1 (k : Nat) : Int := ((k - 1 : Nat) : Int)
theorem l07Sums_any (A : Option Addr) (n cap : Nat) (c d : Nat → Int) (A' : Option Addr) (m cap' : Nat) (g : Gs) (P : Option Addr) (cap'' : Nat) (pl : Nat → Int) (w : World) (hO : JobOk n c d m g) (hP : RightP n c m g n pl)
    (hr : RdS w w.heap.size A n c d) (hg : RdG w w.heap.size A' m g) (hp : RdK .i64 w w.heap.size P n pl) :
    Calls Tryd.prog 58 #[.slice A n cap, .slice A' m cap', .slice P n cap''] w fun e w' => Below w.heap.size w w' ∧ e = .returned (.tuple #[.int .i64 (dayS g d pl n + rem1 (rn pl n)), .int .i64 (costS g d pl n)]) := by
  have HR := Lib.hid hr
  have HG := Lib.hid hg
  have HP := Lib.hid hp
  have HO := Lib.hid hO
  have hn6 : n ≤ 6 := hO.1.1.1
  have hm4 : m ≤ 4 := hO.2.1
  have HPL := Lib.hid (show ∀ j, j < n → 0 ≤ pl j ∧ pl j < m from fun j hj => (hP.2 j hj).1)
  have HD := Lib.hid (show ∀ j, j < n → 0 ≤ d j ∧ d j ≤ 2000 from fun j hj => ⟨by have := (hO.1.1.2 j hj).2; omega, (hO.1.1.2 j hj).2.2⟩)
  have HD0 := Lib.hid (show ∀ j, j < n → 0 ≤ d j from fun j hj => (HD.out j hj).1)
  clear hr hg hp hO hP
  go_enter Tryd.func58, Tryd.ntmps58
  go_wp2
  go_loopw [8, 9, 10, 11, 12, 13] (fun t8 t9 t10 t11 t12 t13 wr => ∃ (i : Nat) (D C : Int), i ≤ n ∧ t8 = .int .i64 D ∧ t9 = .int .i64 C ∧ t10 = .int .i64 i ∧ Below w.heap.size w wr ∧ D = dayS g d pl i + rem1 (rn pl i) ∧ C = costS g d pl i ∧ (i < n → newR pl i)) (fun t8 t9 t10 t11 t12 t13 wr => n - (intOf t10).toNat)
  case atStart => exact ⟨0, 0, 0, by omega, rfl, rfl, rfl, Below.refl _ _, rfl, rfl, fun _ => .inl rfl⟩
  case round =>
    obtain ⟨i, D, C, hi, rfl, rfl, rfl, hB, hD, hC, hnew⟩ := hrel
    have hbd := sums_bd HO.out.1.2 HPL.out HD0.out HO.out.2.2 i hi
    have hrb := rn_bd pl i
    have hr1 : rem1 (rn pl i) + (if 0 < i then 1 else 0) = (rn pl i : Int) := by
      unfold rem1
      split
      · have := hrb.2 (by assumption); omega
      · omega
    have hr0 : 0 ≤ rem1 (rn pl i) := by unfold rem1; omega
    have HDD := Lib.hid hD
    have HCC := Lib.hid hC
    have HN := Lib.hid hnew
    have HR1 := Lib.hid hr1
    have hDb : 0 ≤ D ∧ D ≤ 120006 := by have := hbd.1; split at hr1 <;> omega
    have hCb : 0 ≤ C ∧ C ≤ 120000000 := by have := hbd.2; omega
    clear hD hC hnew hr1 hr0 hbd hrb
    by_cases hlt : i < n
    · have hii : (i : Int) < (n : Int) := by omega
      obtain ⟨bp, op, rfl, hbp, p0⟩ := (HP.out.below hB).atk hlt
      obtain ⟨q, hq⟩ : ∃ q, q = pl i := ⟨_, rfl⟩
      rw [← hq] at p0
      have HQ := Lib.hid hq
      have hqb : 0 ≤ q ∧ q < m := by rw [hq]; exact HPL.out i hlt
      clear hq
      by_cases hi0 : 0 < i
      · have hip : (0 : Int) < (i : Int) := by omega
        have wD : IntKind.i64.wrap (D + 1) = D + 1 := IntWalk.i64_in _ (by omega)
        go_wp2
        go_loopw [10, 11] (fun t10 t11 wx => ∃ (i' : Nat) (x : Int), i ≤ i' ∧ i' ≤ n ∧ t10 = .int .i64 i' ∧ t11 = .int .i64 x ∧ Below w.heap.size w wx ∧ InRun d pl i i' x) (fun t10 t11 wx => n - (intOf t10).toNat)
        case atStart => exact ⟨i, 0, by omega, hi, rfl, rfl, hB, .inl ⟨rfl, rfl⟩⟩
        case round =>
          clear hB p0
          obtain ⟨i', x, hii', hi', rfl, rfl, hB, hrun⟩ := hrel
          have HU := Lib.hid hrun
          have hxb := hrun.bd (fun j hj => HD0.out j (by omega))
          have hsm := sumN_mono (y := d) n hi' HD0.out
          have hs2 := HO.out.2.2
          have hxb2 : 0 ≤ x ∧ x ≤ 2000 := by omega
          clear hrun hxb hsm hs2
          by_cases hgo : i' < n ∧ pl i' = q
          · obtain ⟨hlt', he⟩ := hgo
            have hii2 : (i' : Int) < (n : Int) := by omega
            obtain ⟨bp', op', hA', hbp', p1⟩ := (HP.out.below hB).atk hlt'
            obtain ⟨rfl, rfl⟩ : bp' = bp ∧ op' = op := by injection hA' with h; injection h with h1 h2; exact ⟨h1.symm, h2.symm⟩
            rw [he] at p1
            obtain ⟨b, off, rfl, hbl, c0, c1⟩ := (HR.out.below hB).at hlt'
            have hdb := HD.out i' hlt'
            have hqq : (q == q) = true := by simp
            have wd : IntKind.i64.wrap (d i') = d i' := IntWalk.i64_in _ (by omega)
            have ws : IntKind.i64.wrap (x + d i') = x + d i' := IntWalk.i64_in _ (by omega)
            have HE := Lib.hid (he.trans HQ.out)
            clear he c0 hbl hbp'
            go_wp2
            exact ⟨⟨i' + 1, x + d i', by omega, by omega, by first | go_num | simp, by first | rfl | simp [wd, ws], hB, HU.out.step (HN.out hlt) HE.out⟩, by simp [intOf]; omega⟩
          · obtain ⟨I, rfl⟩ := Int.eq_ofNat_of_zero_le hqb.1
            have hI : I < m := by omega
            have hIi : (I : Int) < (m : Int) := by omega
            have hI0 : (0 : Int) ≤ (I : Int) := by omega
            obtain ⟨bg, og, rfl, hbg, x0, x1, x2, x3, x4⟩ := (HG.out.below hB).at hI
            have hbg' : bg < wr.heap.size := Nat.lt_of_lt_of_le hbg hB.size
            have hGk := HO.out.1.2 I hI
            have HDY := Lib.hid (l07Days_at bg (og + I * 5) (g.p I) (g.q I) (g.s I) (g.t I) (g.u I) x wr hGk hxb2 x1 x2 x3)
            have hlast : i < i' := by
              rcases HU.out with ⟨h1, -⟩ | h1
              · exact absurd ⟨by omega, by rw [h1]; exact HQ.out.symm⟩ hgo
              · exact h1.1
            obtain ⟨hs1, hs2, hs3⟩ := InRun.days (g := g) HU.out hlast
            have hRb := dayR_bd HO.out.1.2 hqb hxb2
            have hCb2 := costR_bd HO.out.1.2 hqb hxb2
            rw [← HQ.out] at hs1 hs2
            have hRe : daysL (g.q I) (g.s I) (g.t I) x = dayR g (I : Int) x := by unfold dayR; rw [Int.toNat_natCast]
            have hCe : dayR g (I : Int) x * g.u I = costR g (I : Int) x := by unfold costR; rw [Int.toNat_natCast]
            rw [hRe] at HDY
            obtain ⟨R, hR⟩ : ∃ R, R = dayR g (I : Int) x := ⟨_, rfl⟩
            obtain ⟨M, hM⟩ : ∃ M, M = costR g (I : Int) x := ⟨_, rfl⟩
            rw [← hR] at HDY hRb hCe hs1
            rw [← hM] at hCb2 hCe hs2
            obtain ⟨u, hu⟩ : ∃ u, u = g.u I := ⟨_, rfl⟩
            rw [← hu] at x4 hCe
            have hub : 0 ≤ u ∧ u ≤ 1000 := by rw [hu]; exact hGk.2.2.2.2
            have w0 : IntKind.i64.wrap u = u := IntWalk.i64_in _ (by omega)
            have w1 : IntKind.i64.wrap (D + 1 + R) = D + 1 + R := IntWalk.i64_in _ (by omega)
            have w2 : IntKind.i64.wrap M = M := IntWalk.i64_in _ (by omega)
            have w3 : IntKind.i64.wrap (C + M) = C + M := IntWalk.i64_in _ (by omega)
            have w4 : wrap64 M = M := IntWalk.wrap64_in _ (by omega)
            have HX := Lib.hid (show D + 1 + R = dayS g d pl i' + rem1 (rn pl i') ∧ C + M = costS g d pl i' ∧ (i' < n → newR pl i') from by
              refine ⟨?_, ?_, fun h => ?_⟩
              · rw [hs1, hs3, HDD.out]
                have hr := HR1.out
                rw [if_pos (by omega)] at hr
                unfold rem1 at hr ⊢
                omega
              · rw [hs2, HCC.out]
              · rcases HU.out with ⟨h1, -⟩ | ⟨h1, h2, -⟩
                · omega
                · exact .inr fun he => hgo ⟨h, by rw [he, h2]; exact HQ.out.symm⟩)
            clear hs1 hs2 hs3 hR hM hu hRe hGk
            have hnot : ¬ (i' < n ∧ pl i' = (I : Int)) := hgo
            clear hgo
            by_cases hlt' : i' < n
            · have hii2 : (i' : Int) < (n : Int) := by omega
              obtain ⟨bp', op', hA', hbp', p1⟩ := (HP.out.below hB).atk hlt'
              obtain ⟨rfl, rfl⟩ : bp' = bp ∧ op' = op := by injection hA' with h; injection h with h1 h2; exact ⟨h1.symm, h2.symm⟩
              have hne : (pl i' == (I : Int)) = false := by simpa using fun h => hnot ⟨hlt', h⟩
              obtain ⟨y, hy⟩ : ∃ y, y = pl i' := ⟨_, rfl⟩
              rw [← hy] at p1 hne
              clear hy hnot hbp'
              go_wp2_with fail
              refine HDY.out.mono ?_
              rintro e wz ⟨hw, rfl⟩
              have z4 : wz.cell? ⟨bg, og + I * 5 + 4, none⟩ = some (.int .i16 u) := (Below.cell (p := ⟨bg, og + I * 5 + 4, none⟩) hw hbg').trans x4
              replace hB := nxt hB hw
              clear hw x0 x1 x2 x3 x4
              go_wp2
              exact ⟨⟨i', D + 1 + R, C + M, hi', by first | rfl | simp [w1], by first | rfl | simp [w2, w3, hCe], rfl, hB, HX.out⟩, by simp [intOf]; omega⟩
            · have hii2 : ¬ ((i' : Int) < (n : Int)) := by omega
              clear hnot
              go_wp2_with fail
              refine HDY.out.mono ?_
              rintro e wz ⟨hw, rfl⟩
              have z4 : wz.cell? ⟨bg, og + I * 5 + 4, none⟩ = some (.int .i16 u) := (Below.cell (p := ⟨bg, og + I * 5 + 4, none⟩) hw hbg').trans x4
              replace hB := nxt hB hw
              clear hw x0 x1 x2 x3 x4
              go_wp2
              exact ⟨⟨i', D + 1 + R, C + M, hi', by first | rfl | simp [w1], by first | rfl | simp [w2, w3, hCe], rfl, hB, HX.out⟩, by simp [intOf]; omega⟩
      · have hip : ¬ ((0 : Int) < (i : Int)) := by omega
        go_wp2
        go_loopw [10, 11] (fun t10 t11 wx => ∃ (i' : Nat) (x : Int), i ≤ i' ∧ i' ≤ n ∧ t10 = .int .i64 i' ∧ t11 = .int .i64 x ∧ Below w.heap.size w wx ∧ InRun d pl i i' x) (fun t10 t11 wx => n - (intOf t10).toNat)
        case atStart => exact ⟨i, 0, by omega, hi, rfl, rfl, hB, .inl ⟨rfl, rfl⟩⟩
        case round =>
          clear hB p0
          obtain ⟨i', x, hii', hi', rfl, rfl, hB, hrun⟩ := hrel
          have HU := Lib.hid hrun
          have hxb := hrun.bd (fun j hj => HD0.out j (by omega))
          have hsm := sumN_mono (y := d) n hi' HD0.out
          have hs2 := HO.out.2.2
          have hxb2 : 0 ≤ x ∧ x ≤ 2000 := by omega
          clear hrun hxb hsm hs2
          by_cases hgo : i' < n ∧ pl i' = q
          · obtain ⟨hlt', he⟩ := hgo
            have hii2 : (i' : Int) < (n : Int) := by omega
            obtain ⟨bp', op', hA', hbp', p1⟩ := (HP.out.below hB).atk hlt'
            obtain ⟨rfl, rfl⟩ : bp' = bp ∧ op' = op := by injection hA' with h; injection h with h1 h2; exact ⟨h1.symm, h2.symm⟩
            rw [he] at p1
            obtain ⟨b, off, rfl, hbl, c0, c1⟩ := (HR.out.below hB).at hlt'
            have hdb := HD.out i' hlt'
            have hqq : (q == q) = true := by simp
            have wd : IntKind.i64.wrap (d i') = d i' := IntWalk.i64_in _ (by omega)
            have ws : IntKind.i64.wrap (x + d i') = x + d i' := IntWalk.i64_in _ (by omega)
            have HE := Lib.hid (he.trans HQ.out)
            clear he c0 hbl hbp'
            go_wp2
            exact ⟨⟨i' + 1, x + d i', by omega, by omega, by first | go_num | simp, by first | rfl | simp [wd, ws], hB, HU.out.step (HN.out hlt) HE.out⟩, by simp [intOf]; omega⟩
          · obtain ⟨I, rfl⟩ := Int.eq_ofNat_of_zero_le hqb.1
            have hI : I < m := by omega
            have hIi : (I : Int) < (m : Int) := by omega
            have hI0 : (0 : Int) ≤ (I : Int) := by omega
            obtain ⟨bg, og, rfl, hbg, x0, x1, x2, x3, x4⟩ := (HG.out.below hB).at hI
            have hbg' : bg < wr.heap.size := Nat.lt_of_lt_of_le hbg hB.size
            have hGk := HO.out.1.2 I hI
            have HDY := Lib.hid (l07Days_at bg (og + I * 5) (g.p I) (g.q I) (g.s I) (g.t I) (g.u I) x wr hGk hxb2 x1 x2 x3)
            have hlast : i < i' := by
              rcases HU.out with ⟨h1, -⟩ | h1
              · exact absurd ⟨by omega, by rw [h1]; exact HQ.out.symm⟩ hgo
              · exact h1.1
            obtain ⟨hs1, hs2, hs3⟩ := InRun.days (g := g) HU.out hlast
            have hRb := dayR_bd HO.out.1.2 hqb hxb2
            have hCb2 := costR_bd HO.out.1.2 hqb hxb2
            rw [← HQ.out] at hs1 hs2
            have hRe : daysL (g.q I) (g.s I) (g.t I) x = dayR g (I : Int) x := by unfold dayR; rw [Int.toNat_natCast]
            have hCe : dayR g (I : Int) x * g.u I = costR g (I : Int) x := by unfold costR; rw [Int.toNat_natCast]
            rw [hRe] at HDY
            obtain ⟨R, hR⟩ : ∃ R, R = dayR g (I : Int) x := ⟨_, rfl⟩
            obtain ⟨M, hM⟩ : ∃ M, M = costR g (I : Int) x := ⟨_, rfl⟩
            rw [← hR] at HDY hRb hCe hs1
            rw [← hM] at hCb2 hCe hs2
            obtain ⟨u, hu⟩ : ∃ u, u = g.u I := ⟨_, rfl⟩
            rw [← hu] at x4 hCe
            have hub : 0 ≤ u ∧ u ≤ 1000 := by rw [hu]; exact hGk.2.2.2.2
            have w0 : IntKind.i64.wrap u = u := IntWalk.i64_in _ (by omega)
            have w1 : IntKind.i64.wrap (D + R) = D + R := IntWalk.i64_in _ (by omega)
            have w2 : IntKind.i64.wrap M = M := IntWalk.i64_in _ (by omega)
            have w3 : IntKind.i64.wrap (C + M) = C + M := IntWalk.i64_in _ (by omega)
            have w4 : wrap64 M = M := IntWalk.wrap64_in _ (by omega)
            have HX := Lib.hid (show D + R = dayS g d pl i' + rem1 (rn pl i') ∧ C + M = costS g d pl i' ∧ (i' < n → newR pl i') from by
              refine ⟨?_, ?_, fun h => ?_⟩
              · rw [hs1, hs3, HDD.out]
                have hr := HR1.out
                rw [if_neg (by omega)] at hr
                unfold rem1 at hr ⊢
                omega
              · rw [hs2, HCC.out]
              · rcases HU.out with ⟨h1, -⟩ | ⟨h1, h2, -⟩
                · omega
                · exact .inr fun he => hgo ⟨h, by rw [he, h2]; exact HQ.out.symm⟩)
            clear hs1 hs2 hs3 hR hM hu hRe hGk
            have hnot : ¬ (i' < n ∧ pl i' = (I : Int)) := hgo
            clear hgo
            by_cases hlt' : i' < n
            · have hii2 : (i' : Int) < (n : Int) := by omega
              obtain ⟨bp', op', hA', hbp', p1⟩ := (HP.out.below hB).atk hlt'
              obtain ⟨rfl, rfl⟩ : bp' = bp ∧ op' = op := by injection hA' with h; injection h with h1 h2; exact ⟨h1.symm, h2.symm⟩
              have hne : (pl i' == (I : Int)) = false := by simpa using fun h => hnot ⟨hlt', h⟩
              obtain ⟨y, hy⟩ : ∃ y, y = pl i' := ⟨_, rfl⟩
              rw [← hy] at p1 hne
              clear hy hnot hbp'
              go_wp2_with fail
              refine HDY.out.mono ?_
              rintro e wz ⟨hw, rfl⟩
              have z4 : wz.cell? ⟨bg, og + I * 5 + 4, none⟩ = some (.int .i16 u) := (Below.cell (p := ⟨bg, og + I * 5 + 4, none⟩) hw hbg').trans x4
              replace hB := nxt hB hw
              clear hw x0 x1 x2 x3 x4
              go_wp2
              exact ⟨⟨i', D + R, C + M, hi', by first | rfl | simp [w1], by first | rfl | simp [w2, w3, hCe], rfl, hB, HX.out⟩, by simp [intOf]; omega⟩
            · have hii2 : ¬ ((i' : Int) < (n : Int)) := by omega
              clear hnot
              go_wp2_with fail
              refine HDY.out.mono ?_
              rintro e wz ⟨hw, rfl⟩
              have z4 : wz.cell? ⟨bg, og + I * 5 + 4, none⟩ = some (.int .i16 u) := (Below.cell (p := ⟨bg, og + I * 5 + 4, none⟩) hw hbg').trans x4
              replace hB := nxt hB hw
              clear hw x0 x1 x2 x3 x4
              go_wp2
              exact ⟨⟨i', D + R, C + M, hi', by first | rfl | simp [w1], by first | rfl | simp [w2, w3, hCe], rfl, hB, HX.out⟩, by simp [intOf]; omega⟩
    · obtain rfl : i = n := by omega
      have hii : ¬ ((i : Int) < (i : Int)) := by omega
      go_wp2
      exact bodyPost_ret (v := .tuple #[.int .i64 D, .int .i64 C]) (by simp [results, Tryd.results58, go_sem]) rfl ⟨hB, by rw [HDD.out, HCC.out]⟩
end Go.Proofs.YtfpoikeibjojgaaDoor
