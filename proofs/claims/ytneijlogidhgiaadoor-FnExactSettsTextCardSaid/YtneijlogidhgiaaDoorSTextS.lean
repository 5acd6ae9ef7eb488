/-
  The text of setts on the model's side: contracts of spec.l03Text, spec.SettsText. Conditions stand at each.
-/
import Derived.Test.YtneijlogidhgiaaDoorRows
import Derived.Test.YtneijlogidhgiaaDoorDec
import Derived.Test.YtneijlogidhgiaaDoorSettsOk
namespace Go.Proofs.YtneijlogidhgiaaDoor
open Go Go.ChangeShapes Go.WideShapes Go.ChangeAt Go.RowKit
set_option linter.unusedVariables false
set_option linter.unusedSimpArgs false
set_option maxRecDepth 100000
set_option maxHeartbeats 4000000
theorem settsS_bool (A : Option Addr) (n cap : Nat) (c d : Nat → Int) (r : Bool) (w : World) (hn : n ≤ 1048576) (hr : RdS w w.heap.size A n c d) (hc : ∀ j, -128 ≤ c j ∧ c j ≤ 127) (hd : ∀ j, -32768 ≤ d j ∧ d j ≤ 32767) (e : r = true ↔ SOk n c d) :
    Calls Tryd.prog 20 #[.slice A n cap] w fun e w' => Below w.heap.size w w' ∧ e = .returned (.bool r) :=
  (l03Ok_any A n cap c d w hn hr hc hd).mono fun e' w' ⟨hb, h⟩ => by
    rcases h with ⟨h, rfl⟩ | ⟨h, rfl⟩
    · obtain rfl := e.2 h
      exact ⟨hb, rfl⟩
    · obtain rfl : r = false := Bool.eq_false_iff.2 fun h' => h (e.1 h')
      exact ⟨hb, rfl⟩
theorem settsI_bool (A : Option Addr) (n cap : Nat) (c d : Nat → Int) (r : Bool) (w : World) (hn : n ≤ 1048576) (hr : RdS w w.heap.size A n c d) (hc : ∀ j, -128 ≤ c j ∧ c j ≤ 127) (hd : ∀ j, -32768 ≤ d j ∧ d j ≤ 32767) (e : r = true ↔ SOk n c d) :
    Calls Tryd.prog 23 #[.slice A n cap] w fun e w' => Below w.heap.size w w' ∧ e = .returned (.bool r) :=
  (validSetts_any A n cap c d w hn hr hc hd).mono fun e' w' ⟨hb, h⟩ => by
    rcases h with ⟨h, rfl⟩ | ⟨h, rfl⟩
    · obtain rfl := e.2 h
      exact ⟨hb, rfl⟩
    · obtain rfl : r = false := Bool.eq_false_iff.2 fun h' => h (e.1 h')
      exact ⟨hb, rfl⟩
/-- the text of a sort; of the first ones. -/
def rT (c d : Nat → Int) (j : Nat) : List UInt8 := (Lib.decDigits (c j).toNat ++ [120]) ++ Lib.decDigits (d j).toNat
def tL (c d : Nat → Int) : Nat → List UInt8
  | 0 => []
  | k + 1 => (tL c d k ++ if k = 0 then [] else [32]) ++ rT c d k
theorem rT_len {n : Nat} {c d : Nat → Int} (h : SOk n c d) {j : Nat} (hj : j < n) : (rT c d j).length ≤ 2020 := by
  have h1 := dec_len (c j).toNat
  have h2 := dec_len (d j).toNat
  obtain ⟨⟨a1, a2⟩, ⟨b1, b2⟩, -⟩ := h.2 j hj
  unfold rT
  rw [List.length_append, List.length_append, List.length_singleton]
  omega
theorem tL_len {n : Nat} {c d : Nat → Int} (h : SOk n c d) : ∀ k, k ≤ n → (tL c d k).length ≤ 2021 * k
  | 0, _ => by simp [tL]
  | k + 1, hk => by
    have h1 := tL_len h k (by omega)
    have h2 := rT_len h (j := k) (by omega)
    simp only [tL, List.length_append]
    have : (if k = 0 then ([] : List UInt8) else [32]).length ≤ 1 := by split <;> simp
    omega
theorem l03Text_any (A : Option Addr) (n cap : Nat) (c d : Nat → Int) (w : World) (hO : SOk n c d) (hr : RdS w w.heap.size A n c d) :
    Calls Tryd.prog 21 #[.slice A n cap] w fun e w' => e = .returned (.string (bS (tL c d n))) ∧ Below w.heap.size w w' := by
  have HR := Lib.hid hr
  have HO := Lib.hid hO
  have hn6 : n ≤ 6 := hO.1.2
  clear hr hO
  go_enter Tryd.func21, Tryd.ntmps21
  go_wp2
  go_loopw [3, 4] (fun t3 t4 wr => ∃ (k : Nat), k ≤ n ∧ t4 = .int .i64 k ∧ t3 = .string (bS (tL c d k)) ∧ Below w.heap.size w wr) (fun t3 t4 wr => n - (intOf t4).toNat)
  case atStart => exact ⟨0, by omega, rfl, rfl, Below.refl _ _⟩
  case round =>
    obtain ⟨k, hk, rfl, rfl, hB⟩ := hrel
    have hl := tL_len HO.out k hk
    by_cases hlt : k < n
    · have hki : (k : Int) < (n : Int) := by omega
      have hrl := rT_len HO.out hlt
      obtain ⟨hc, hd, -⟩ := HO.out.2 k hlt
      obtain ⟨b, off, rfl, hbl, c0, d0⟩ := (HR.out.below hB).at hlt
      obtain ⟨C, hC⟩ := Int.eq_ofNat_of_zero_le (show 0 ≤ c k by omega)
      obtain ⟨D, hD⟩ := Int.eq_ofNat_of_zero_le (show 0 ≤ d k by omega)
      have hT : rT c d k = (Lib.decDigits C ++ [120]) ++ Lib.decDigits D := by unfold rT; rw [hC, hD, Int.toNat_natCast, Int.toNat_natCast]
      rw [hC] at c0
      rw [hD] at d0
      have wC : IntKind.i64.wrap (C : Int) = (C : Int) := IntWalk.i64_in _ (by omega)
      have wD : IntKind.i64.wrap (D : Int) = (D : Int) := IntWalk.i64_in _ (by omega)
      have hbl' : b < wr.heap.size := Nat.lt_of_lt_of_le hbl hB.size
      have HC := Lib.hid (fun W => decimal_any C W (by omega))
      have HD := Lib.hid (fun W => decimal_any D W (by omega))
      obtain ⟨xc, hxc⟩ : ∃ xc, xc = Lib.decDigits C := ⟨_, rfl⟩
      obtain ⟨xd, hxd⟩ : ∃ xd, xd = Lib.decDigits D := ⟨_, rfl⟩
      rw [← hxc] at HC hT
      rw [← hxd] at HD hT
      obtain ⟨xt, hxt⟩ : ∃ xt, xt = tL c d k := ⟨_, rfl⟩
      have HN : Hid (tL c d (k + 1) = (xt ++ if k = 0 then [] else [32]) ++ ((xc ++ [120]) ++ xd)) := Lib.hid (by rw [hxt, ← hT]; rfl)
      have hlc : xc.length + xd.length ≤ 2020 := by rw [hT] at hrl; simp only [List.length_append, List.length_singleton] at hrl; omega
      have hlt2 : xt.length ≤ 20000 := by rw [hxt]; omega
      rw [← hxt]
      clear hC hD hT hxc hxd hxt hrl hc hd hl
      by_cases h0 : 0 < k
      · have hk0 : (0 : Int) < (k : Int) := by omega
        have g1 : ¬ (9223372036854775807 < (bS xt).size + 1) := by rw [bS_size]; omega
        obtain ⟨y0, hy0⟩ : ∃ y0, y0 = xt ++ [32] := ⟨_, rfl⟩
        have e1 : bS xt ++ ⟨#[32]⟩ = bS y0 := by rw [hy0]; exact bS_append xt [32]
        have hl0 : y0.length ≤ 20001 := by rw [hy0, List.length_append, List.length_singleton]; omega
        have HY0 := Lib.hid hy0
        clear hy0
        go_wp2
        clear g1 e1
        refine wp_region_held_drew (S := (fun w' : World => Below wr.drew.heap.size wr.drew w')) (by kernel_rfl) (Below.refl wr.drew.heap.size wr.drew) (fun hHeld => ?_)
        replace hB : Below w.heap.size w wr.drew := hB.drew
        replace c0 : wr.drew.cell? ⟨b, off + k * 2, none⟩ = some (.int .i8 (C : Int)) := c0
        replace d0 : wr.drew.cell? ⟨b, off + k * 2 + 1, none⟩ = some (.int .i16 (D : Int)) := d0
        replace hbl' : b < wr.drew.heap.size := hbl'
        obtain ⟨wq, hwq⟩ : ∃ wq, wr.drew = wq := ⟨_, rfl⟩
        rw [hwq] at hB c0 d0 hbl' hHeld ⊢
        clear hwq
        refine wpAnyH_take (i := 0) (oi := _) (v := ?_) rfl (by kernel_rfl) (by kernel_rfl) (by kernel_rfl) (fun _ _ _ h => h) (Or.inl ⟨by kernel_rfl, ?_⟩) (by assumption) ?_
        rotate_left
        · intro w hSw; (try dsimp only at hSw); go_simp; first | done | with_reducible rfl
        try simp only [List.getElem_toArray, List.getElem_cons_zero, List.getElem_cons_succ, Act.put, List.setIfInBounds_toArray, List.set_cons_zero, List.set_cons_succ]
        refine wpAnyH_take (i := 1) (oi := _) (v := ?_) rfl (by kernel_rfl) (by kernel_rfl) (by kernel_rfl) (fun _ _ _ h => h) (Or.inl ⟨by kernel_rfl, ?_⟩) (by assumption) ?_
        rotate_left
        · intro w hSw; (try dsimp only at hSw); go_simp; first | done | with_reducible rfl
        try simp only [List.getElem_toArray, List.getElem_cons_zero, List.getElem_cons_succ, Act.put, List.setIfInBounds_toArray, List.set_cons_zero, List.set_cons_succ]
        refine wpAnyH_take (i := 2) (oi := _) (v := ?_) rfl (by kernel_rfl) (by kernel_rfl) (by kernel_rfl) (fun _ _ _ h => h) (Or.inl ⟨by kernel_rfl, ?_⟩) (by assumption) ?_
        rotate_left
        · intro w hSw; (try dsimp only at hSw); go_simp; first | done | with_reducible rfl
        try simp only [List.getElem_toArray, List.getElem_cons_zero, List.getElem_cons_succ, Act.put, List.setIfInBounds_toArray, List.set_cons_zero, List.set_cons_succ]
        refine wpAnyH_take (i := 3) (oi := _) (v := ?_) rfl (by kernel_rfl) (by kernel_rfl) (by kernel_rfl) (fun _ _ _ h => h) (Or.inl ⟨by kernel_rfl, ?_⟩) (by assumption) ?_
        rotate_left
        · intro w hSw; (try dsimp only at hSw); go_simp; first | done | with_reducible rfl
        try simp only [List.getElem_toArray, List.getElem_cons_zero, List.getElem_cons_succ, Act.put, List.setIfInBounds_toArray, List.set_cons_zero, List.set_cons_succ]
        refine wpAnyH_take (i := 4) (oi := _) (v := ?_) rfl (by kernel_rfl) (by kernel_rfl) (by kernel_rfl) (fun _ _ _ h => h) (Or.inl ⟨by kernel_rfl, ?_⟩) (by assumption) ?_
        rotate_left
        · intro w hSw; (try dsimp only at hSw); go_simp; first | done | with_reducible rfl
        try simp only [List.getElem_toArray, List.getElem_cons_zero, List.getElem_cons_succ, Act.put, List.setIfInBounds_toArray, List.set_cons_zero, List.set_cons_succ]
        refine wpAnyH_take (i := 5) (oi := _) (v := ?_) rfl (by kernel_rfl) (by kernel_rfl) (by kernel_rfl) (fun _ _ _ h => h) (Or.inl ⟨by kernel_rfl, ?_⟩) (by assumption) ?_
        rotate_left
        · intro w hSw; have hcell := (fun (w' : World) (hS : Below wq.heap.size wq w') => (hS.cell (p := ⟨b, off + k * 2, none⟩) hbl').trans c0) w hSw; clear hSw; go_simp; first | done | with_reducible rfl
        try simp only [List.getElem_toArray, List.getElem_cons_zero, List.getElem_cons_succ, Act.put, List.setIfInBounds_toArray, List.set_cons_zero, List.set_cons_succ]
        refine wpAnyH_take (i := 6) (oi := _) (v := ?_) rfl (by kernel_rfl) (by kernel_rfl) (by kernel_rfl) (fun _ _ _ h => h) (Or.inl ⟨by kernel_rfl, ?_⟩) (by assumption) ?_
        rotate_left
        · intro w hSw; (try dsimp only at hSw); go_simp; first | done | with_reducible rfl
        try simp only [List.getElem_toArray, List.getElem_cons_zero, List.getElem_cons_succ, Act.put, List.setIfInBounds_toArray, List.set_cons_zero, List.set_cons_succ]
        refine wpAnyH_take (i := 9) (oi := _) (v := ?_) rfl (by kernel_rfl) (by kernel_rfl) (by kernel_rfl) (fun _ _ _ h => h) (Or.inl ⟨by kernel_rfl, ?_⟩) (by assumption) ?_
        rotate_left
        · intro w hSw; (try dsimp only at hSw); go_simp; first | done | with_reducible rfl
        try simp only [List.getElem_toArray, List.getElem_cons_zero, List.getElem_cons_succ, Act.put, List.setIfInBounds_toArray, List.set_cons_zero, List.set_cons_succ]
        refine wpAnyH_take (i := 10) (oi := _) (v := ?_) rfl (by kernel_rfl) (by kernel_rfl) (by kernel_rfl) (fun _ _ _ h => h) (Or.inl ⟨by kernel_rfl, ?_⟩) (by assumption) ?_
        rotate_left
        · intro w hSw; (try dsimp only at hSw); go_simp; first | done | with_reducible rfl
        try simp only [List.getElem_toArray, List.getElem_cons_zero, List.getElem_cons_succ, Act.put, List.setIfInBounds_toArray, List.set_cons_zero, List.set_cons_succ]
        refine wpAnyH_take (i := 11) (oi := _) (v := ?_) rfl (by kernel_rfl) (by kernel_rfl) (by kernel_rfl) (fun _ _ _ h => h) (Or.inl ⟨by kernel_rfl, ?_⟩) (by assumption) ?_
        rotate_left
        · intro w hSw; (try dsimp only at hSw); go_simp; first | done | with_reducible rfl
        try simp only [List.getElem_toArray, List.getElem_cons_zero, List.getElem_cons_succ, Act.put, List.setIfInBounds_toArray, List.set_cons_zero, List.set_cons_succ]
        refine wpAnyH_take (i := 12) (oi := _) (v := ?_) rfl (by kernel_rfl) (by kernel_rfl) (by kernel_rfl) (fun _ _ _ h => h) (Or.inl ⟨by kernel_rfl, ?_⟩) (by assumption) ?_
        rotate_left
        · intro w hSw; (try dsimp only at hSw); go_simp; first | done | with_reducible rfl
        try simp only [List.getElem_toArray, List.getElem_cons_zero, List.getElem_cons_succ, Act.put, List.setIfInBounds_toArray, List.set_cons_zero, List.set_cons_succ]
        refine wpAnyH_take (i := 13) (oi := _) (v := ?_) rfl (by kernel_rfl) (by kernel_rfl) (by kernel_rfl) (fun _ _ _ h => h) (Or.inl ⟨by kernel_rfl, ?_⟩) (by assumption) ?_
        rotate_left
        · intro w hSw; have hcell := (fun (w' : World) (hS : Below wq.heap.size wq w') => (hS.cell (p := ⟨b, off + k * 2 + 1, none⟩) hbl').trans d0) w hSw; clear hSw; go_simp; first | done | with_reducible rfl
        try simp only [List.getElem_toArray, List.getElem_cons_zero, List.getElem_cons_succ, Act.put, List.setIfInBounds_toArray, List.set_cons_zero, List.set_cons_succ]
        refine wpAnyH_take (i := 14) (oi := _) (v := ?_) rfl (by kernel_rfl) (by kernel_rfl) (by kernel_rfl) (fun _ _ _ h => h) (Or.inl ⟨by kernel_rfl, ?_⟩) (by assumption) ?_
        rotate_left
        · intro w hSw; (try dsimp only at hSw); go_simp; first | done | with_reducible rfl
        try simp only [List.getElem_toArray, List.getElem_cons_zero, List.getElem_cons_succ, Act.put, List.setIfInBounds_toArray, List.set_cons_zero, List.set_cons_succ]
        refine wpAnyH_ready (rs := [7]) (by kernel_rfl) (by simp) ?_
        refine AllReadyH.cons (o := _) rfl (fun K hK => ?_) AllReadyH.nil
        go_simp
        refine (HC.out _).mono ?_
        rintro e w3 ⟨rfl, hb⟩
        have hs3 := hb
        replace hB := nxt hB hb
        clear hb
        refine hK.out _ _ hs3 (fun hHeld => ?_)
        clear hK K
        try simp only [List.getElem_toArray, List.getElem_cons_zero, List.getElem_cons_succ, Act.put, List.setIfInBounds_toArray, List.set_cons_zero, List.set_cons_succ]
        have g2 : ¬ (9223372036854775807 < (bS xc).size + 1) := by rw [bS_size]; omega
        obtain ⟨y1, hy1⟩ : ∃ y1, y1 = xc ++ [120] := ⟨_, rfl⟩
        have e2 : bS xc ++ ⟨#[120]⟩ = bS y1 := by rw [hy1]; exact bS_append xc [120]
        have hl1 : y1.length = xc.length + 1 := by rw [hy1, List.length_append, List.length_singleton]
        have HY1 := Lib.hid hy1
        clear hy1
        refine wpAnyH_take (i := 8) (oi := _) (v := ?_) rfl (by kernel_rfl) (by kernel_rfl) (by kernel_rfl) (fun _ _ _ h => h) (Or.inl ⟨by kernel_rfl, ?_⟩) (by assumption) ?_
        rotate_left
        · intro w hSw; (try dsimp only at hSw); go_simp; first | done | with_reducible rfl
        try simp only [List.getElem_toArray, List.getElem_cons_zero, List.getElem_cons_succ, Act.put, List.setIfInBounds_toArray, List.set_cons_zero, List.set_cons_succ]
        refine wpAnyH_ready (rs := [15]) (by kernel_rfl) (by simp) ?_
        refine AllReadyH.cons (o := _) rfl (fun K hK => ?_) AllReadyH.nil
        go_simp
        refine (HD.out _).mono ?_
        rintro e w4 ⟨rfl, hb⟩
        have hs4 := nxt hs3 hb
        replace hB := nxt hB hb
        clear hb
        refine hK.out _ _ hs4 (fun hHeld => ?_)
        clear hK K
        try simp only [List.getElem_toArray, List.getElem_cons_zero, List.getElem_cons_succ, Act.put, List.setIfInBounds_toArray, List.set_cons_zero, List.set_cons_succ]
        have g3 : ¬ (9223372036854775807 < (bS y1).size + (bS xd).size) := by rw [bS_size, bS_size]; omega
        obtain ⟨y2, hy2⟩ : ∃ y2, y2 = y1 ++ xd := ⟨_, rfl⟩
        have e3 : bS y1 ++ bS xd = bS y2 := by rw [hy2]; exact bS_append _ _
        have hl2 : y2.length = xc.length + 1 + xd.length := by rw [hy2, List.length_append, hl1]
        have HY2 := Lib.hid hy2
        clear hy2
        refine wpAnyH_take (i := 16) (oi := _) (v := ?_) rfl (by kernel_rfl) (by kernel_rfl) (by kernel_rfl) (fun _ _ _ h => h) (Or.inl ⟨by kernel_rfl, ?_⟩) (by assumption) ?_
        rotate_left
        · intro w hSw; (try dsimp only at hSw); go_simp; first | done | with_reducible rfl
        try simp only [List.getElem_toArray, List.getElem_cons_zero, List.getElem_cons_succ, Act.put, List.setIfInBounds_toArray, List.set_cons_zero, List.set_cons_succ]
        have g4 : ¬ (9223372036854775807 < (bS y0).size + (bS y2).size) := by rw [bS_size, bS_size]; omega
        obtain ⟨y3, hy3⟩ : ∃ y3, y3 = y0 ++ y2 := ⟨_, rfl⟩
        have e4 : bS y0 ++ bS y2 = bS y3 := by rw [hy3]; exact bS_append _ _
        have HY3 := Lib.hid hy3
        clear hy3
        refine wpAnyH_take (i := 17) (oi := _) (v := ?_) rfl (by kernel_rfl) (by kernel_rfl) (by kernel_rfl) (fun _ _ _ h => h) (Or.inl ⟨by kernel_rfl, ?_⟩) (by assumption) ?_
        rotate_left
        · intro w hSw; (try dsimp only at hSw); go_simp; first | done | with_reducible rfl
        try simp only [List.getElem_toArray, List.getElem_cons_zero, List.getElem_cons_succ, Act.put, List.setIfInBounds_toArray, List.set_cons_zero, List.set_cons_succ]
        refine wpAnyH_take (i := 18) (oi := _) (v := ?_) rfl (by kernel_rfl) (by kernel_rfl) (by kernel_rfl) (fun _ _ _ h => h) (Or.inl ⟨by kernel_rfl, ?_⟩) (by assumption) ?_
        rotate_left
        · intro w hSw; (try dsimp only at hSw); go_simp; first | done | with_reducible rfl
        try simp only [List.getElem_toArray, List.getElem_cons_zero, List.getElem_cons_succ, Act.put, List.setIfInBounds_toArray, List.set_cons_zero, List.set_cons_succ]
        refine wpAnyH_done (by kernel_rfl) ?_ _
        have hfin : y3 = tL c d (k + 1) := by rw [HN.out, if_neg (by omega), HY3.out, HY2.out, HY1.out, HY0.out]
        clear g2 e2 g3 e3 g4 e4
        have HF := Lib.hid hfin
        clear hfin
        go_wp2
        exact ⟨⟨k + 1, by omega, by first | go_num | simp, by rw [HF.out], hB⟩, by simp [intOf]; omega⟩
      · have hk0 : ¬ ((0 : Int) < (k : Int)) := by omega
        go_wp2
        refine wp_region_held_drew (S := (fun w' : World => Below wr.drew.heap.size wr.drew w')) (by kernel_rfl) (Below.refl wr.drew.heap.size wr.drew) (fun hHeld => ?_)
        replace hB : Below w.heap.size w wr.drew := hB.drew
        replace c0 : wr.drew.cell? ⟨b, off + k * 2, none⟩ = some (.int .i8 (C : Int)) := c0
        replace d0 : wr.drew.cell? ⟨b, off + k * 2 + 1, none⟩ = some (.int .i16 (D : Int)) := d0
        replace hbl' : b < wr.drew.heap.size := hbl'
        obtain ⟨wq, hwq⟩ : ∃ wq, wr.drew = wq := ⟨_, rfl⟩
        rw [hwq] at hB c0 d0 hbl' hHeld ⊢
        clear hwq
        refine wpAnyH_take (i := 0) (oi := _) (v := ?_) rfl (by kernel_rfl) (by kernel_rfl) (by kernel_rfl) (fun _ _ _ h => h) (Or.inl ⟨by kernel_rfl, ?_⟩) (by assumption) ?_
        rotate_left
        · intro w hSw; (try dsimp only at hSw); go_simp; first | done | with_reducible rfl
        try simp only [List.getElem_toArray, List.getElem_cons_zero, List.getElem_cons_succ, Act.put, List.setIfInBounds_toArray, List.set_cons_zero, List.set_cons_succ]
        refine wpAnyH_take (i := 1) (oi := _) (v := ?_) rfl (by kernel_rfl) (by kernel_rfl) (by kernel_rfl) (fun _ _ _ h => h) (Or.inl ⟨by kernel_rfl, ?_⟩) (by assumption) ?_
        rotate_left
        · intro w hSw; (try dsimp only at hSw); go_simp; first | done | with_reducible rfl
        try simp only [List.getElem_toArray, List.getElem_cons_zero, List.getElem_cons_succ, Act.put, List.setIfInBounds_toArray, List.set_cons_zero, List.set_cons_succ]
        refine wpAnyH_take (i := 2) (oi := _) (v := ?_) rfl (by kernel_rfl) (by kernel_rfl) (by kernel_rfl) (fun _ _ _ h => h) (Or.inl ⟨by kernel_rfl, ?_⟩) (by assumption) ?_
        rotate_left
        · intro w hSw; (try dsimp only at hSw); go_simp; first | done | with_reducible rfl
        try simp only [List.getElem_toArray, List.getElem_cons_zero, List.getElem_cons_succ, Act.put, List.setIfInBounds_toArray, List.set_cons_zero, List.set_cons_succ]
        refine wpAnyH_take (i := 3) (oi := _) (v := ?_) rfl (by kernel_rfl) (by kernel_rfl) (by kernel_rfl) (fun _ _ _ h => h) (Or.inl ⟨by kernel_rfl, ?_⟩) (by assumption) ?_
        rotate_left
        · intro w hSw; (try dsimp only at hSw); go_simp; first | done | with_reducible rfl
        try simp only [List.getElem_toArray, List.getElem_cons_zero, List.getElem_cons_succ, Act.put, List.setIfInBounds_toArray, List.set_cons_zero, List.set_cons_succ]
        refine wpAnyH_take (i := 4) (oi := _) (v := ?_) rfl (by kernel_rfl) (by kernel_rfl) (by kernel_rfl) (fun _ _ _ h => h) (Or.inl ⟨by kernel_rfl, ?_⟩) (by assumption) ?_
        rotate_left
        · intro w hSw; (try dsimp only at hSw); go_simp; first | done | with_reducible rfl
        try simp only [List.getElem_toArray, List.getElem_cons_zero, List.getElem_cons_succ, Act.put, List.setIfInBounds_toArray, List.set_cons_zero, List.set_cons_succ]
        refine wpAnyH_take (i := 5) (oi := _) (v := ?_) rfl (by kernel_rfl) (by kernel_rfl) (by kernel_rfl) (fun _ _ _ h => h) (Or.inl ⟨by kernel_rfl, ?_⟩) (by assumption) ?_
        rotate_left
        · intro w hSw; have hcell := (fun (w' : World) (hS : Below wq.heap.size wq w') => (hS.cell (p := ⟨b, off + k * 2, none⟩) hbl').trans c0) w hSw; clear hSw; go_simp; first | done | with_reducible rfl
        try simp only [List.getElem_toArray, List.getElem_cons_zero, List.getElem_cons_succ, Act.put, List.setIfInBounds_toArray, List.set_cons_zero, List.set_cons_succ]
        refine wpAnyH_take (i := 6) (oi := _) (v := ?_) rfl (by kernel_rfl) (by kernel_rfl) (by kernel_rfl) (fun _ _ _ h => h) (Or.inl ⟨by kernel_rfl, ?_⟩) (by assumption) ?_
        rotate_left
        · intro w hSw; (try dsimp only at hSw); go_simp; first | done | with_reducible rfl
        try simp only [List.getElem_toArray, List.getElem_cons_zero, List.getElem_cons_succ, Act.put, List.setIfInBounds_toArray, List.set_cons_zero, List.set_cons_succ]
        refine wpAnyH_take (i := 9) (oi := _) (v := ?_) rfl (by kernel_rfl) (by kernel_rfl) (by kernel_rfl) (fun _ _ _ h => h) (Or.inl ⟨by kernel_rfl, ?_⟩) (by assumption) ?_
        rotate_left
        · intro w hSw; (try dsimp only at hSw); go_simp; first | done | with_reducible rfl
        try simp only [List.getElem_toArray, List.getElem_cons_zero, List.getElem_cons_succ, Act.put, List.setIfInBounds_toArray, List.set_cons_zero, List.set_cons_succ]
        refine wpAnyH_take (i := 10) (oi := _) (v := ?_) rfl (by kernel_rfl) (by kernel_rfl) (by kernel_rfl) (fun _ _ _ h => h) (Or.inl ⟨by kernel_rfl, ?_⟩) (by assumption) ?_
        rotate_left
        · intro w hSw; (try dsimp only at hSw); go_simp; first | done | with_reducible rfl
        try simp only [List.getElem_toArray, List.getElem_cons_zero, List.getElem_cons_succ, Act.put, List.setIfInBounds_toArray, List.set_cons_zero, List.set_cons_succ]
        refine wpAnyH_take (i := 11) (oi := _) (v := ?_) rfl (by kernel_rfl) (by kernel_rfl) (by kernel_rfl) (fun _ _ _ h => h) (Or.inl ⟨by kernel_rfl, ?_⟩) (by assumption) ?_
        rotate_left
        · intro w hSw; (try dsimp only at hSw); go_simp; first | done | with_reducible rfl
        try simp only [List.getElem_toArray, List.getElem_cons_zero, List.getElem_cons_succ, Act.put, List.setIfInBounds_toArray, List.set_cons_zero, List.set_cons_succ]
        refine wpAnyH_take (i := 12) (oi := _) (v := ?_) rfl (by kernel_rfl) (by kernel_rfl) (by kernel_rfl) (fun _ _ _ h => h) (Or.inl ⟨by kernel_rfl, ?_⟩) (by assumption) ?_
        rotate_left
        · intro w hSw; (try dsimp only at hSw); go_simp; first | done | with_reducible rfl
        try simp only [List.getElem_toArray, List.getElem_cons_zero, List.getElem_cons_succ, Act.put, List.setIfInBounds_toArray, List.set_cons_zero, List.set_cons_succ]
        refine wpAnyH_take (i := 13) (oi := _) (v := ?_) rfl (by kernel_rfl) (by kernel_rfl) (by kernel_rfl) (fun _ _ _ h => h) (Or.inl ⟨by kernel_rfl, ?_⟩) (by assumption) ?_
        rotate_left
        · intro w hSw; have hcell := (fun (w' : World) (hS : Below wq.heap.size wq w') => (hS.cell (p := ⟨b, off + k * 2 + 1, none⟩) hbl').trans d0) w hSw; clear hSw; go_simp; first | done | with_reducible rfl
        try simp only [List.getElem_toArray, List.getElem_cons_zero, List.getElem_cons_succ, Act.put, List.setIfInBounds_toArray, List.set_cons_zero, List.set_cons_succ]
        refine wpAnyH_take (i := 14) (oi := _) (v := ?_) rfl (by kernel_rfl) (by kernel_rfl) (by kernel_rfl) (fun _ _ _ h => h) (Or.inl ⟨by kernel_rfl, ?_⟩) (by assumption) ?_
        rotate_left
        · intro w hSw; (try dsimp only at hSw); go_simp; first | done | with_reducible rfl
        try simp only [List.getElem_toArray, List.getElem_cons_zero, List.getElem_cons_succ, Act.put, List.setIfInBounds_toArray, List.set_cons_zero, List.set_cons_succ]
        refine wpAnyH_ready (rs := [7]) (by kernel_rfl) (by simp) ?_
        refine AllReadyH.cons (o := _) rfl (fun K hK => ?_) AllReadyH.nil
        go_simp
        refine (HC.out _).mono ?_
        rintro e w3 ⟨rfl, hb⟩
        have hs3 := hb
        replace hB := nxt hB hb
        clear hb
        refine hK.out _ _ hs3 (fun hHeld => ?_)
        clear hK K
        try simp only [List.getElem_toArray, List.getElem_cons_zero, List.getElem_cons_succ, Act.put, List.setIfInBounds_toArray, List.set_cons_zero, List.set_cons_succ]
        have g2 : ¬ (9223372036854775807 < (bS xc).size + 1) := by rw [bS_size]; omega
        obtain ⟨y1, hy1⟩ : ∃ y1, y1 = xc ++ [120] := ⟨_, rfl⟩
        have e2 : bS xc ++ ⟨#[120]⟩ = bS y1 := by rw [hy1]; exact bS_append xc [120]
        have hl1 : y1.length = xc.length + 1 := by rw [hy1, List.length_append, List.length_singleton]
        have HY1 := Lib.hid hy1
        clear hy1
        refine wpAnyH_take (i := 8) (oi := _) (v := ?_) rfl (by kernel_rfl) (by kernel_rfl) (by kernel_rfl) (fun _ _ _ h => h) (Or.inl ⟨by kernel_rfl, ?_⟩) (by assumption) ?_
        rotate_left
        · intro w hSw; (try dsimp only at hSw); go_simp; first | done | with_reducible rfl
        try simp only [List.getElem_toArray, List.getElem_cons_zero, List.getElem_cons_succ, Act.put, List.setIfInBounds_toArray, List.set_cons_zero, List.set_cons_succ]
        refine wpAnyH_ready (rs := [15]) (by kernel_rfl) (by simp) ?_
        refine AllReadyH.cons (o := _) rfl (fun K hK => ?_) AllReadyH.nil
        go_simp
        refine (HD.out _).mono ?_
        rintro e w4 ⟨rfl, hb⟩
        have hs4 := nxt hs3 hb
        replace hB := nxt hB hb
        clear hb
        refine hK.out _ _ hs4 (fun hHeld => ?_)
        clear hK K
        try simp only [List.getElem_toArray, List.getElem_cons_zero, List.getElem_cons_succ, Act.put, List.setIfInBounds_toArray, List.set_cons_zero, List.set_cons_succ]
        have g3 : ¬ (9223372036854775807 < (bS y1).size + (bS xd).size) := by rw [bS_size, bS_size]; omega
        obtain ⟨y2, hy2⟩ : ∃ y2, y2 = y1 ++ xd := ⟨_, rfl⟩
        have e3 : bS y1 ++ bS xd = bS y2 := by rw [hy2]; exact bS_append _ _
        have hl2 : y2.length = xc.length + 1 + xd.length := by rw [hy2, List.length_append, hl1]
        have HY2 := Lib.hid hy2
        clear hy2
        refine wpAnyH_take (i := 16) (oi := _) (v := ?_) rfl (by kernel_rfl) (by kernel_rfl) (by kernel_rfl) (fun _ _ _ h => h) (Or.inl ⟨by kernel_rfl, ?_⟩) (by assumption) ?_
        rotate_left
        · intro w hSw; (try dsimp only at hSw); go_simp; first | done | with_reducible rfl
        try simp only [List.getElem_toArray, List.getElem_cons_zero, List.getElem_cons_succ, Act.put, List.setIfInBounds_toArray, List.set_cons_zero, List.set_cons_succ]
        have g4 : ¬ (9223372036854775807 < (bS xt).size + (bS y2).size) := by rw [bS_size, bS_size]; omega
        obtain ⟨y3, hy3⟩ : ∃ y3, y3 = xt ++ y2 := ⟨_, rfl⟩
        have e4 : bS xt ++ bS y2 = bS y3 := by rw [hy3]; exact bS_append _ _
        have HY3 := Lib.hid hy3
        clear hy3
        refine wpAnyH_take (i := 17) (oi := _) (v := ?_) rfl (by kernel_rfl) (by kernel_rfl) (by kernel_rfl) (fun _ _ _ h => h) (Or.inl ⟨by kernel_rfl, ?_⟩) (by assumption) ?_
        rotate_left
        · intro w hSw; (try dsimp only at hSw); go_simp; first | done | with_reducible rfl
        try simp only [List.getElem_toArray, List.getElem_cons_zero, List.getElem_cons_succ, Act.put, List.setIfInBounds_toArray, List.set_cons_zero, List.set_cons_succ]
        refine wpAnyH_take (i := 18) (oi := _) (v := ?_) rfl (by kernel_rfl) (by kernel_rfl) (by kernel_rfl) (fun _ _ _ h => h) (Or.inl ⟨by kernel_rfl, ?_⟩) (by assumption) ?_
        rotate_left
        · intro w hSw; (try dsimp only at hSw); go_simp; first | done | with_reducible rfl
        try simp only [List.getElem_toArray, List.getElem_cons_zero, List.getElem_cons_succ, Act.put, List.setIfInBounds_toArray, List.set_cons_zero, List.set_cons_succ]
        refine wpAnyH_done (by kernel_rfl) ?_ _
        have hfin : y3 = tL c d (k + 1) := by rw [HN.out, if_pos (by omega), List.append_nil, HY3.out, HY2.out, HY1.out]
        clear g2 e2 g3 e3 g4 e4
        have HF := Lib.hid hfin
        clear hfin
        go_wp2
        exact ⟨⟨k + 1, by omega, by first | go_num | simp, by rw [HF.out], hB⟩, by simp [intOf]; omega⟩
    · obtain rfl : k = n := by omega
      have hki : ¬ ((k : Int) < (k : Int)) := by omega
      go_wp2
      go_ret
      exact ⟨rfl, hB⟩
end Go.Proofs.YtneijlogidhgiaaDoor
