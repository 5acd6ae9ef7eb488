/-
  Both sides of LevelsAfter answer the same. Conditions stand at each.
-/
import Derived.Test.YtkdakpbkpfigeaaRows
import Derived.Test.YtkdakpbkpfigeaaLev
import Derived.Test.YtkdakpbkpfigeaaRet
namespace Go.Proofs.Ytkdakpbkpfigeaa
open Go Go.ChangeShapes Go.WideShapes Go.ChangeAt Go.RowKit
set_option linter.unusedVariables false
set_option linter.unusedSimpArgs false
set_option maxRecDepth 100000
set_option maxHeartbeats 4000000

/-- a level some years later. -/
def aft (d r : Nat → Int) (y : Int) (j : Nat) : Int := max (-100) (d j - r j * y)
def aftL (d r : Nat → Int) (y : Int) (m : Nat) : List Int := (List.range m).map (aft d r y)
theorem aftL_length (d r : Nat → Int) (y : Int) (m : Nat) : (aftL d r y m).length = m := by simp [aftL]
theorem aftL_succ (d r : Nat → Int) (y : Int) (m : Nat) : aftL d r y (m + 1) = aftL d r y m ++ [aft d r y m] := by simp [aftL, List.range_succ]
theorem prod_bd {a b : Int} (ha : 0 ≤ a ∧ a ≤ 10) (hb : 0 ≤ b ∧ b ≤ 60) : 0 ≤ a * b ∧ a * b ≤ 600 := by
  refine ⟨Int.mul_nonneg ha.1 hb.1, ?_⟩
  have h1 : a * b ≤ 10 * 60 := Int.mul_le_mul ha.2 hb.2 hb.1 (by omega)
  omega
/-- the code of levels and rates. -/
def SinkCode (a b : Prop) (r : Int) : Prop := (¬ a ∧ r = 1) ∨ (a ∧ ¬ b ∧ r = 2) ∨ (a ∧ b ∧ r = 0)
theorem SinkCode.one {a b : Prop} {r s : Int} (h : SinkCode a b r) (k : SinkCode a b s) : r = s := by
  rcases h with ⟨h1, rfl⟩ | ⟨h1, h2, rfl⟩ | ⟨h1, h2, rfl⟩ <;> rcases k with ⟨k1, rfl⟩ | ⟨k1, k2, rfl⟩ | ⟨k1, k2, rfl⟩ <;> first | rfl | contradiction
def SkPost (a b : Prop) (w : World) (e : Ending) (w' : World) : Prop := Below w.heap.size w w' ∧ ∃ r, SinkCode a b r ∧ e = .returned (.int .i64 r)
/-- what levels and rates must be. -/
def LvOk (X Y : Int) (n : Nat) (c : Nat → Int) (m : Nat) (d : Nat → Int) (k : Nat) (r : Nat → Int) : Prop := NumsOk X Y n c m d (-100) 100 ∧ NumsOk X Y n c k r 0 10
def AfPost (a b : Prop) (L : List Int) (w : World) (e : Ending) (w' : World) : Prop :=
  Below w.heap.size w w' ∧ ∃ r v, SinkCode a b r ∧ e = .returned (.tuple #[v, .int .i64 r]) ∧ OwnI w' w.heap.size v (if r = 0 then L else [])

theorem dec_ex (p : Prop) : ∃ r : Bool, r = true ↔ p := by
  by_cases h : p
  · exact ⟨true, by simp [h]⟩
  · exact ⟨false, by simp [h]⟩

theorem sinks_any (X Y : Int) (bq g n : Nat) (c : Nat → Int) (A : Option Addr) (m cap : Nat) (d : Nat → Int) (A' : Option Addr) (k cap' : Nat) (r : Nat → Int) (fine : Bool) (w : World) (hX : -128 ≤ X ∧ X ≤ 127) (hY : -128 ≤ Y ∧ Y ≤ 127) (hc : ∀ j, -128 ≤ c j ∧ c j ≤ 127) (hm : n ≤ 1048576) (hmm : m ≤ 1048576) (hkk : k ≤ 1048576)
    (hq : Sq w bq X Y (.slice (some ⟨g, 0, none⟩) n n)) (hrow : w.rowIs g 110 (4 * n) (fun j => .int .i8 (c j))) (hr : RdK .i64 w w.heap.size A m d) (hr' : RdK .i64 w w.heap.size A' k r) :
    Calls Try.prog 65 #[.pointer (some ⟨bq, 0, none⟩), .slice A m cap, .slice A' k cap', .bool fine] w (SkPost (LvOk X Y n c m d k r) (fine = true) w) := by
  obtain ⟨b1, hb1⟩ := dec_ex (NumsOk X Y n c m d (-100) 100)
  obtain ⟨b2, hb2⟩ := dec_ex (NumsOk X Y n c k r 0 10)
  have H := Lib.hid (specLevels_any X Y bq g n c A m cap d b1 w hX hY hc hm hmm hq hrow hr hb1)
  have H2 := Lib.hid (fun (W : World) (hB : Below w.heap.size w W) => numbers_any X Y bq g n c A' k cap' r 0 10 b2 W hX hY hc hm hkk (hq.of_block hB.size (hB.block _ hq.1)) (hrow.of_block (hB.block _ hrow.lt)) ((hr'.below hB).mono hB.size) hb2)
  have HB1 := Lib.hid hb1
  have HB2 := Lib.hid hb2
  clear hr hr' hc hrow hq hb1 hb2
  go_enter Try.func65, Try.ntmps65
  go_wp2_with fail
  refine H.out.mono ?_
  rintro e w1 ⟨hb, rfl⟩
  cases b1 with
  | false =>
    have HN1 : Hid (¬ LvOk X Y n c m d k r) := Lib.hid (fun h => by have := HB1.out.2 h.1; cases this)
    go_wp2
    go_ret
    exact ⟨hb, 1, .inl ⟨HN1.out, rfl⟩, rfl⟩
  | true =>
    have HP1 := Lib.hid (HB1.out.1 rfl)
    go_wp2_with fail
    refine (H2.out _ hb).mono ?_
    rintro e w2 ⟨hb2, rfl⟩
    replace hb := nxt hb hb2
    clear hb2
    cases b2 with
    | false =>
      have HN2 : Hid (¬ LvOk X Y n c m d k r) := Lib.hid (fun h => by have := HB2.out.2 h.2; cases this)
      go_wp2
      go_ret
      exact ⟨hb, 1, .inl ⟨HN2.out, rfl⟩, rfl⟩
    | true =>
      have HP2 := Lib.hid (HB2.out.1 rfl)
      cases fine with
      | false =>
        go_wp2
        go_ret
        exact ⟨hb, 2, .inr (.inl ⟨⟨HP1.out, HP2.out⟩, by simp, rfl⟩), rfl⟩
      | true =>
        go_wp2
        go_ret
        exact ⟨hb, 0, .inr (.inr ⟨⟨HP1.out, HP2.out⟩, by first | rfl | trivial, rfl⟩), rfl⟩

def VPost (L : List Int) (w : World) (e : Ending) (w' : World) : Prop := Below w.heap.size w w' ∧ ∃ v, e = .returned v ∧ OwnI w' w.heap.size v L

theorem after_any (A : Option Addr) (m cap : Nat) (d : Nat → Int) (A' : Option Addr) (k cap' : Nat) (r : Nat → Int) (y : Int) (w : World) (hmm : m ≤ 60) (hmk : m = k) (hr : RdK .i64 w w.heap.size A m d) (hr' : RdK .i64 w w.heap.size A' k r)
    (hd : allIn d m (-100) 100) (hrt : allIn r k 0 10) (hy : 0 ≤ y ∧ y ≤ 60) :
    Calls Try.prog 67 #[.slice A m cap, .slice A' k cap', .int .i64 y] w (VPost (aftL d r y m) w) := by
  obtain rfl := hmk
  obtain ⟨i0, hi, hz0, hz1, hz2⟩ := info_parts infoI64
  have HR := Lib.hid hr
  have HR' := Lib.hid hr'
  have HD := Lib.hid hd
  have HRT := Lib.hid hrt
  clear hr hr' hd hrt
  go_enter Try.func67, Try.ntmps67
  go_wp2_with fail
  have B0 : Below w.heap.size w (w.alloc (.cells #[] 2)) := al (Below.refl _ _) _
  have O0 : OwnI (w.alloc (.cells #[] 2)) w.heap.size (.slice (some ⟨w.heap.size, 0, none⟩) 0 0) [] := OwnI.made _ (Nat.le_refl _)
  obtain ⟨W0, hW0⟩ : ∃ W0 : World, W0 = (w.alloc (.cells #[] 2)) := ⟨_, rfl⟩
  rw [← hW0] at B0 O0 ⊢
  clear hW0
  go_loopw [7, 8] (fun t1 t2 wr => ∃ j : Nat, j ≤ m ∧ t2 = .int .i64 j ∧ Below w.heap.size w wr ∧ OwnI wr w.heap.size t1 (aftL d r y j)) (fun t1 t2 wr => m - (intOf t2).toNat)
  case atStart => exact ⟨0, by omega, rfl, B0, O0⟩
  case round =>
    clear B0 O0
    obtain ⟨j, hj, rfl, B, O⟩ := hrel
    obtain ⟨v0, rfl⟩ : ∃ v0 : Value, v0 = u7 := ⟨_, rfl⟩
    by_cases hlt : j < m
    · have hji : (j : Int) < (m : Int) := by omega
      obtain ⟨b, off, rfl, hbl, c0⟩ := rdInt64 HR.out hlt
      obtain ⟨b', off', rfl, hbl', c0'⟩ := rdInt64 HR'.out hlt
      have C0 := Lib.hid c0
      have C0' := Lib.hid c0'
      clear c0 c0'
      have h1 := HD.out j hlt
      have h2 := HRT.out j hlt
      have h3 := prod_bd h2 hy
      obtain ⟨p, hp⟩ : ∃ p, p = r j * y := ⟨_, rfl⟩
      have e1 : IntKind.i64.wrap (r j * y) = p := by rw [← hp]; exact IntWalk.i64_in _ (by omega)
      have e2 : wrap64 (r j * y) = p := by rw [← hp]; exact IntWalk.wrap64_in _ (by omega)
      have e3 : r j * y = p := hp.symm
      obtain ⟨z, hz⟩ : ∃ z, z = aft d r y j := ⟨_, rfl⟩
      have HM := Lib.hid (fun W => max60 (-100) (d j - p) z W (by unfold aft at hz; rw [← hp] at hz; omega))
      have hlen : (aftL d r y j).length ≤ j := by rw [aftL_length]; exact Nat.le_refl _
      have hs := aftL_succ d r y j
      rw [← hz] at hs
      have HS := Lib.hid hs
      rw [← hp] at h3
      have e5 : IntKind.i64.wrap p = p := IntWalk.i64_in _ (by omega)
      have e6 : wrap64 p = p := IntWalk.wrap64_in _ (by omega)
      have e7 : IntKind.i64.wrap (d j - p) = d j - p := IntWalk.i64_in _ (by omega)
      have e8 : wrap64 (d j - p) = d j - p := IntWalk.wrap64_in _ (by omega)
      clear hs hz hp
      have e4 : IntKind.i64.wrap (d j - p) = d j - p := IntWalk.i64_in _ (by omega)
      clear HR HR'
      go_wp2
      refine wp_region_held_drew (S := (fun w' : World => Below w.heap.size w w')) (by kernel_rfl) B.drew (fun hHeld => ?_)
      replace B := B.drew
      have hO : Hid (OwnI wr.drew w.heap.size v0 (aftL d r y j)) := Lib.hid O
      obtain ⟨wq, hwq⟩ : ∃ wq, wr.drew = wq := ⟨_, rfl⟩
      rw [hwq] at B hO hHeld ⊢
      clear hwq O
      refine wpAnyH_take (i := 0) (oi := _) (v := ?_) rfl (by kernel_rfl) (by kernel_rfl) (by kernel_rfl) (fun _ _ _ h => h) (Or.inl ⟨by kernel_rfl, ?_⟩) (by assumption) ?_
      rotate_left
      · intro w hSw; (try dsimp only at hSw); go_simp; first | done | with_reducible rfl
      try simp only [List.getElem_toArray, List.getElem_cons_zero, List.getElem_cons_succ, Act.put, List.setIfInBounds_toArray, List.set_cons_zero, List.set_cons_succ]
      refine wpAnyH_take (i := 1) (oi := _) (v := ?_) rfl (by kernel_rfl) (by kernel_rfl) (by kernel_rfl) (fun _ _ _ h => h) (Or.inl ⟨by kernel_rfl, ?_⟩) (by assumption) ?_
      rotate_left
      · intro w hSw; (try dsimp only at hSw); go_simp; first | done | with_reducible rfl
      try simp only [List.getElem_toArray, List.getElem_cons_zero, List.getElem_cons_succ, Act.put, List.setIfInBounds_toArray, List.set_cons_zero, List.set_cons_succ]
      refine wpAnyH_take (i := 2) (oi := _) (v := ?_) rfl (by kernel_rfl) (by kernel_rfl) (by kernel_rfl) (fun _ _ _ h => h) (Or.inl ⟨by kernel_rfl, ?_⟩) (by assumption) ?_
      rotate_left
      · intro w hSw; (try dsimp only at hSw); go_simp; first | done | with_reducible rfl
      try simp only [List.getElem_toArray, List.getElem_cons_zero, List.getElem_cons_succ, Act.put, List.setIfInBounds_toArray, List.set_cons_zero, List.set_cons_succ]
      refine wpAnyH_take (i := 3) (oi := _) (v := ?_) rfl (by kernel_rfl) (by kernel_rfl) (by kernel_rfl) (fun _ _ _ h => h) (Or.inl ⟨by kernel_rfl, ?_⟩) (by assumption) ?_
      rotate_left
      · intro w hSw; (try dsimp only at hSw); go_simp; first | done | with_reducible rfl
      try simp only [List.getElem_toArray, List.getElem_cons_zero, List.getElem_cons_succ, Act.put, List.setIfInBounds_toArray, List.set_cons_zero, List.set_cons_succ]
      refine wpAnyH_take (i := 4) (oi := _) (v := ?_) rfl (by kernel_rfl) (by kernel_rfl) (by kernel_rfl) (fun _ _ _ h => h) (Or.inl ⟨by kernel_rfl, ?_⟩) (by assumption) ?_
      rotate_left
      · intro w hSw; have hcell := (fun w' hS => (Below.cell (p := ⟨b, off + j, none⟩) hS hbl).trans C0.out) w hSw; clear hSw; go_simp; first | done | with_reducible rfl
      try simp only [List.getElem_toArray, List.getElem_cons_zero, List.getElem_cons_succ, Act.put, List.setIfInBounds_toArray, List.set_cons_zero, List.set_cons_succ]
      refine wpAnyH_take (i := 5) (oi := _) (v := ?_) rfl (by kernel_rfl) (by kernel_rfl) (by kernel_rfl) (fun _ _ _ h => h) (Or.inl ⟨by kernel_rfl, ?_⟩) (by assumption) ?_
      rotate_left
      · intro w hSw; (try dsimp only at hSw); go_simp; first | done | with_reducible rfl
      try simp only [List.getElem_toArray, List.getElem_cons_zero, List.getElem_cons_succ, Act.put, List.setIfInBounds_toArray, List.set_cons_zero, List.set_cons_succ]
      refine wpAnyH_take (i := 6) (oi := _) (v := ?_) rfl (by kernel_rfl) (by kernel_rfl) (by kernel_rfl) (fun _ _ _ h => h) (Or.inl ⟨by kernel_rfl, ?_⟩) (by assumption) ?_
      rotate_left
      · intro w hSw; (try dsimp only at hSw); go_simp; first | done | with_reducible rfl
      try simp only [List.getElem_toArray, List.getElem_cons_zero, List.getElem_cons_succ, Act.put, List.setIfInBounds_toArray, List.set_cons_zero, List.set_cons_succ]
      refine wpAnyH_take (i := 7) (oi := _) (v := ?_) rfl (by kernel_rfl) (by kernel_rfl) (by kernel_rfl) (fun _ _ _ h => h) (Or.inl ⟨by kernel_rfl, ?_⟩) (by assumption) ?_
      rotate_left
      · intro w hSw; (try dsimp only at hSw); go_simp; first | done | with_reducible rfl
      try simp only [List.getElem_toArray, List.getElem_cons_zero, List.getElem_cons_succ, Act.put, List.setIfInBounds_toArray, List.set_cons_zero, List.set_cons_succ]
      refine wpAnyH_take (i := 8) (oi := _) (v := ?_) rfl (by kernel_rfl) (by kernel_rfl) (by kernel_rfl) (fun _ _ _ h => h) (Or.inl ⟨by kernel_rfl, ?_⟩) (by assumption) ?_
      rotate_left
      · intro w hSw; have hcell := (fun w' hS => (Below.cell (p := ⟨b', off' + j, none⟩) hS hbl').trans C0'.out) w hSw; clear hSw; go_simp; first | done | with_reducible rfl
      try simp only [List.getElem_toArray, List.getElem_cons_zero, List.getElem_cons_succ, Act.put, List.setIfInBounds_toArray, List.set_cons_zero, List.set_cons_succ]
      refine wpAnyH_take (i := 9) (oi := _) (v := ?_) rfl (by kernel_rfl) (by kernel_rfl) (by kernel_rfl) (fun _ _ _ h => h) (Or.inl ⟨by kernel_rfl, ?_⟩) (by assumption) ?_
      rotate_left
      · intro w hSw; (try dsimp only at hSw); go_simp; first | done | with_reducible rfl
      try simp only [List.getElem_toArray, List.getElem_cons_zero, List.getElem_cons_succ, Act.put, List.setIfInBounds_toArray, List.set_cons_zero, List.set_cons_succ]
      refine wpAnyH_take (i := 10) (oi := _) (v := ?_) rfl (by kernel_rfl) (by kernel_rfl) (by kernel_rfl) (fun _ _ _ h => h) (Or.inl ⟨by kernel_rfl, ?_⟩) (by assumption) ?_
      rotate_left
      · intro w hSw; (try dsimp only at hSw); go_simp; first | done | with_reducible rfl
      try simp only [List.getElem_toArray, List.getElem_cons_zero, List.getElem_cons_succ, Act.put, List.setIfInBounds_toArray, List.set_cons_zero, List.set_cons_succ]
      refine wpAnyH_take (i := 11) (oi := _) (v := ?_) rfl (by kernel_rfl) (by kernel_rfl) (by kernel_rfl) (fun _ _ _ h => h) (Or.inl ⟨by kernel_rfl, ?_⟩) (by assumption) ?_
      rotate_left
      · intro w hSw; (try dsimp only at hSw); go_simp; first | done | with_reducible rfl
      try simp only [List.getElem_toArray, List.getElem_cons_zero, List.getElem_cons_succ, Act.put, List.setIfInBounds_toArray, List.set_cons_zero, List.set_cons_succ]
      refine wpAnyH_ready (rs := [12]) (by kernel_rfl) (by simp) ?_
      refine AllReadyH.cons (o := _) rfl (fun K hK => ?_) AllReadyH.nil
      go_simp
      refine (HM.out _).mono ?_
      rintro e w2 ⟨rfl, hw⟩
      subst hw
      refine hK.out _ _ B (fun hHeld => ?_)
      clear hK K
      try simp only [List.getElem_toArray, List.getElem_cons_zero, List.getElem_cons_succ, Act.put, List.setIfInBounds_toArray, List.set_cons_zero, List.set_cons_succ]
      refine wpAnyH_ready (rs := [13]) (by kernel_rfl) (by simp) ?_
      refine AllReadyH.cons (o := _) rfl (fun K hK => ?_) AllReadyH.nil
      go_simp
      refine hK.out _ _ (al B _) (fun hHeld => ?_)
      clear hK K
      try simp only [List.getElem_toArray, List.getElem_cons_zero, List.getElem_cons_succ, Act.put, List.setIfInBounds_toArray, List.set_cons_zero, List.set_cons_succ]
      refine wpAnyH_ready (rs := [14]) (by kernel_rfl) (by simp) ?_
      refine AllReadyH.cons (o := _) rfl (fun K hK => ?_) AllReadyH.nil
      refine wp_append_own _ _ _ 26 rfl w.heap.size 2 i0 (.int .i64 0) 1 8 Try.underlying26 hi hz0 hz1 hz2 rfl (by decide) v0 (aftL d r y j).length ((aftL d r y j).map (Value.int .i64)) rfl (World.ownsRow.alloc hO.out _) ⟨w2.heap.size, 0, none⟩ 1 1 [.int .i64 z] rfl rfl (ncells w2 #[.int .i64 z] 2) one64 (by unfold maxLen; omega) (by omega) (by have := B.size; simp; omega) ?_
      intro v1 w1 own' hgr hn
      have B1 : Below w.heap.size w w1 := (al B _).grown hgr (al B _).size (fun k e => (hO.out.lt k e).1)
      have O1 := OwnI.snoc own'
      rw [← HS.out] at O1
      clear own' hgr hn hO B
      refine hK.out _ _ B1 (fun hHeld => ?_)
      clear hK K
      try simp only [List.getElem_toArray, List.getElem_cons_zero, List.getElem_cons_succ, Act.put, List.setIfInBounds_toArray, List.set_cons_zero, List.set_cons_succ]
      refine wpAnyH_take (i := 15) (oi := _) (v := ?_) rfl (by kernel_rfl) (by kernel_rfl) (by kernel_rfl) (fun _ _ _ h => h) (Or.inl ⟨by kernel_rfl, ?_⟩) (by assumption) ?_
      rotate_left
      · intro w hSw; (try dsimp only at hSw); go_simp; first | done | with_reducible rfl
      try simp only [List.getElem_toArray, List.getElem_cons_zero, List.getElem_cons_succ, Act.put, List.setIfInBounds_toArray, List.set_cons_zero, List.set_cons_succ]
      refine wpAnyH_done (by kernel_rfl) ?_ _
      go_wp2
      exact ⟨⟨j + 1, by omega, by first | go_num | simp, B1, O1⟩, by simp [intOf]; omega⟩
    · obtain rfl : j = m := by omega
      have hji : ¬ ((j : Int) < (j : Int)) := by omega
      go_wp2
      go_ret
      exact ⟨B, _, rfl, O⟩

theorem sunk_any (A : Option Addr) (m cap : Nat) (d : Nat → Int) (A' : Option Addr) (k cap' : Nat) (r : Nat → Int) (y : Int) (w : World) (hmm : m ≤ 60) (hmk : m = k) (hr : RdK .i64 w w.heap.size A m d) (hr' : RdK .i64 w w.heap.size A' k r)
    (hd : allIn d m (-100) 100) (hrt : allIn r k 0 10) (hy : 0 ≤ y ∧ y ≤ 60) :
    Calls Try.prog 69 #[.slice A m cap, .slice A' k cap', .int .i64 y] w (VPost (aftL d r y m) w) := by
  obtain rfl := hmk
  obtain ⟨i0, hi, hz0, hz1, hz2⟩ := info_parts infoI64
  have HR := Lib.hid hr
  have HR' := Lib.hid hr'
  have HD := Lib.hid hd
  have HRT := Lib.hid hrt
  clear hr hr' hd hrt
  go_enter Try.func69, Try.ntmps69
  go_wp2_with fail
  go_loopw [7, 8, 9, 12] (fun t1 t8 t9 t2 wr => ∃ j : Nat, j ≤ m ∧ t2 = .int .i64 j ∧ Below w.heap.size w wr ∧ OwnI wr w.heap.size t1 (aftL d r y j)) (fun t1 t8 t9 t2 wr => m - (intOf t2).toNat)
  case atStart => exact ⟨0, by omega, rfl, Below.refl _ _, OwnI.nil _ _⟩
  case round =>
    obtain ⟨j, hj, rfl, B, O⟩ := hrel
    obtain ⟨v0, rfl⟩ : ∃ v0 : Value, v0 = u7 := ⟨_, rfl⟩
    by_cases hlt : j < m
    · have hji : (j : Int) < (m : Int) := by omega
      obtain ⟨b, off, rfl, hbl, c0⟩ := rdInt64 (HR.out.below B) hlt
      obtain ⟨b', off', rfl, hbl', c0'⟩ := rdInt64 (HR'.out.below B) hlt
      have h1 := HD.out j hlt
      have h2 := HRT.out j hlt
      have h3 := prod_bd h2 hy
      obtain ⟨p, hp⟩ : ∃ p, p = r j * y := ⟨_, rfl⟩
      have e1 : IntKind.i64.wrap (r j * y) = p := by rw [← hp]; exact IntWalk.i64_in _ (by omega)
      have e2 : wrap64 (r j * y) = p := by rw [← hp]; exact IntWalk.wrap64_in _ (by omega)
      have e3 : r j * y = p := hp.symm
      have hzz : aft d r y j = max (-100) (d j - p) := by unfold aft; rw [← hp]
      have hlen : (aftL d r y j).length ≤ j := by rw [aftL_length]; exact Nat.le_refl _
      rw [← hp] at h3
      have e5 : IntKind.i64.wrap p = p := IntWalk.i64_in _ (by omega)
      have e6 : wrap64 p = p := IntWalk.wrap64_in _ (by omega)
      have e7 : IntKind.i64.wrap (d j - p) = d j - p := IntWalk.i64_in _ (by omega)
      have e8 : wrap64 (d j - p) = d j - p := IntWalk.wrap64_in _ (by omega)
      have hO := Lib.hid O
      clear O hp
      by_cases hm1 : -100 ≤ d j - p
      · have HS : Hid (aftL d r y (j + 1) = aftL d r y j ++ [(d j - p)]) := Lib.hid (by rw [aftL_succ, hzz]; congr 2; omega)
        clear hzz
        go_wp2_with (at_builtin; refine wpList_append_own _ rfl _ _ 26 rfl w.heap.size 2 i0 (.int .i64 0) 1 8 Try.underlying26 hi hz0 hz1 hz2 rfl (by decide) _ _ _ rfl (World.ownsRow.alloc hO.out _) ⟨wr.heap.size, 0, none⟩ 1 1 [.int .i64 (d j - p)] rfl rfl (ncells wr #[.int .i64 (d j - p)] 2) one64 (by have := B.size; unfold maxLen; omega) (by have := B.size; omega) (by have := B.size; simp; omega) ?_; intro v' w1 own' hgr _)
        have B1 : Below w.heap.size w w1 := (al B _).grown hgr (al B _).size (fun k e => (hO.out.lt k e).1)
        have O1 := OwnI.snoc own'
        rw [← HS.out] at O1
        clear own' hgr hO B c0 c0' e1 e2 e3
        go_wp2
        exact ⟨⟨j + 1, by omega, by first | go_num | simp, B1, O1⟩, by simp [intOf]; omega⟩
      · have HS : Hid (aftL d r y (j + 1) = aftL d r y j ++ [(-100)]) := Lib.hid (by rw [aftL_succ, hzz]; congr 2; omega)
        clear hzz
        go_wp2_with (at_builtin; refine wpList_append_own _ rfl _ _ 26 rfl w.heap.size 2 i0 (.int .i64 0) 1 8 Try.underlying26 hi hz0 hz1 hz2 rfl (by decide) _ _ _ rfl (World.ownsRow.alloc hO.out _) ⟨wr.heap.size, 0, none⟩ 1 1 [.int .i64 (-100)] rfl rfl (ncells wr #[.int .i64 (-100)] 2) one64 (by have := B.size; unfold maxLen; omega) (by have := B.size; omega) (by have := B.size; simp; omega) ?_; intro v' w1 own' hgr _)
        have B1 : Below w.heap.size w w1 := (al B _).grown hgr (al B _).size (fun k e => (hO.out.lt k e).1)
        have O1 := OwnI.snoc own'
        rw [← HS.out] at O1
        clear own' hgr hO B c0 c0' e1 e2 e3
        go_wp2
        exact ⟨⟨j + 1, by omega, by first | go_num | simp, B1, O1⟩, by simp [intOf]; omega⟩
    · obtain rfl : j = m := by omega
      have hji : ¬ ((j : Int) < (j : Int)) := by omega
      go_wp2
      go_ret
      exact ⟨B, _, rfl, O⟩

namespace levelsAfter
def yrs (y : Int) : Prop := 0 ≤ y ∧ y ≤ 60
theorem spec_any (X Y : Int) (g n : Nat) (c : Nat → Int) (A : Option Addr) (m cap : Nat) (d : Nat → Int) (A' : Option Addr) (k cap' : Nat) (r : Nat → Int) (y : Int) (w : World) (hX : -128 ≤ X ∧ X ≤ 127) (hY : -128 ≤ Y ∧ Y ≤ 127) (hc : ∀ j, -128 ≤ c j ∧ c j ≤ 127) (hm : n ≤ 1048576) (hmm : m ≤ 1048576) (hkk : k ≤ 1048576)
    (hrow : w.rowIs g 110 (4 * n) (fun j => .int .i8 (c j))) (hr : RdK .i64 w w.heap.size A m d) (hr' : RdK .i64 w w.heap.size A' k r) :
    Calls Try.prog 24 #[.agg #[.int .i8 X, .int .i8 Y, .slice (some ⟨g, 0, none⟩) n n], .slice A m cap, .slice A' k cap', .int .i64 y] w (AfPost (LvOk X Y n c m d k r) (yrs y) (aftL d r y m) w) := by
  obtain ⟨f, hf⟩ := dec_ex (yrs y)
  have HF := Lib.hid (fun W => in_any y 0 60 f W hf)
  have HQ := Sq.new w X Y (.slice (some ⟨g, 0, none⟩) n n) 31
  have B := al (Below.refl w.heap.size w) (.cells #[.int .i8 X, .int .i8 Y, .slice (some ⟨g, 0, none⟩) n n] 31)
  have HR := Lib.hid hr
  have HR' := Lib.hid hr'
  have HY := Lib.hid hf
  clear hr hr' hf
  go_enter Try.func24, Try.ntmps24
  obtain ⟨W0, hW0⟩ : ∃ W0 : World, W0 = (w.alloc (.cells #[.int .i8 X, .int .i8 Y, .slice (some ⟨g, 0, none⟩) n n] 31)) := ⟨_, rfl⟩
  go_wp2_with (go_at_call 66; go_in)
  refine (HF.out _).mono ?_
  rintro e w1 ⟨rfl, hw⟩
  replace hw := hw.symm
  subst hw
  go_wp2_with fail
  refine (sinks_any X Y w.heap.size g n c A m cap d A' k cap' r f _ hX hY hc hm hmm hkk HQ (hrow.of_block (B.block _ hrow.lt)) ((HR.out.below B).mono B.size) ((HR'.out.below B).mono B.size)).mono ?_
  rintro e w2 ⟨hb, q, hq, rfl⟩
  replace B := nxt B hb
  clear hb
  by_cases h0 : q = 0
  case neg =>
    have d0 : (q != 0) = true := by simpa using h0
    have HQ' := Lib.hid hq
    have H0 := Lib.hid h0
    clear hq h0
    go_wp2_with fail
    refine bodyPost_ret (results_tmp2 Try.results24 _ _ _) rfl ⟨al B _, q, _, ?_, rfl, ?_⟩
    · rcases HQ'.out with h | ⟨h1, h2, h3⟩ | ⟨h1, h2, h3⟩
      · exact .inl h
      · exact .inr (.inl ⟨h1, fun h => h2 (HY.out.2 h), h3⟩)
      · exact .inr (.inr ⟨h1, HY.out.1 h2, h3⟩)
    · rw [if_neg H0.out]
      exact OwnI.made _ B.size
  subst h0
  have HOK : Hid (LvOk X Y n c m d k r ∧ yrs y) := Lib.hid (by
    rcases hq with ⟨_, e⟩ | ⟨_, _, e⟩ | ⟨h1, h2, _⟩
    · exact absurd e (by decide)
    · exact absurd e (by decide)
    · exact ⟨h1, HY.out.1 h2⟩)
  clear hq
  go_wp2_with fail
  refine (after_any A m cap d A' k cap' r y _ (by have := HOK.out.1.1.1.2.2.2.2.1; have := HOK.out.1.1.2.1; omega) (by have := HOK.out.1.1.2.1; have := HOK.out.1.2.2.1; omega) ((HR.out.below B).mono B.size) ((HR'.out.below B).mono B.size) HOK.out.1.1.2.2 HOK.out.1.2.2.2 HOK.out.2).mono ?_
  rintro e w3 ⟨hb, v, rfl, O⟩
  have hO := Lib.hid (O.mono B.size)
  replace B := nxt B hb
  clear hb O
  go_wp2_with fail
  exact bodyPost_ret (results_tmp2 Try.results24 _ _ _) rfl ⟨B, 0, _, .inr (.inr ⟨HOK.out.1, HOK.out.2, rfl⟩), rfl, by rw [if_pos rfl]; exact hO.out⟩

theorem rates_any (A' : Option Addr) (k cap' : Nat) (r : Nat → Int) (m : Nat) (b : Bool) (w : World) (hkk : k ≤ 1048576) (hr' : RdK .i64 w w.heap.size A' k r) (hb : b = true ↔ k = m ∧ allIn r k 0 10) :
    Calls Try.prog 68 #[.slice A' k cap', .int .i64 (m : Int)] w (BPost b w) := by
  have HB := Lib.hid hb
  clear hb
  by_cases hmn : k = m
  · have d1 : ((k : Int) == (m : Int)) = true := by rw [hmn]; exact beq_self_eq_true _
    have HM := Lib.hid hmn
    clear hmn
    have H := Lib.hid (within_any 0 10 A' k cap' r b w hkk hr' (by rw [HB.out]; exact ⟨fun h => h.2, fun h => ⟨HM.out, h⟩⟩))
    clear hr'
    go_enter Try.func68, Try.ntmps68
    go_wp2_with fail
    refine H.out.mono ?_
    rintro e w2 ⟨hb2, rfl⟩
    go_wp2
    go_ret
    exact ⟨hb2, rfl⟩
  · have d1 : ((k : Int) == (m : Int)) = false := by rw [beq_eq_false_iff_ne]; omega
    have hf : b = false := Bool.eq_false_iff.2 fun h => hmn (HB.out.1 h).1
    subst hf
    clear hmn hr'
    go_enter Try.func68, Try.ntmps68
    go_wp2
    go_ret
    exact ⟨Below.refl _ _, rfl⟩

theorem impl_any (X Y : Int) (g n : Nat) (c : Nat → Int) (A : Option Addr) (m cap : Nat) (d : Nat → Int) (A' : Option Addr) (k cap' : Nat) (r : Nat → Int) (y : Int) (w : World) (hX : -128 ≤ X ∧ X ≤ 127) (hY : -128 ≤ Y ∧ Y ≤ 127) (hc : ∀ j, -128 ≤ c j ∧ c j ≤ 127) (hm : n ≤ 1048576) (hmm : m ≤ 1048576) (hkk : k ≤ 1048576)
    (hrow : w.rowIs g 110 (4 * n) (fun j => .int .i8 (c j))) (hr : RdK .i64 w w.heap.size A m d) (hr' : RdK .i64 w w.heap.size A' k r) :
    Calls Try.prog 25 #[.agg #[.int .i8 X, .int .i8 Y, .slice (some ⟨g, 0, none⟩) n n], .slice A m cap, .slice A' k cap', .int .i64 y] w (AfPost (LvOk X Y n c m d k r) (yrs y) (aftL d r y m) w) := by
  obtain ⟨b1, hb1⟩ := dec_ex (NumsOk X Y n c m d (-100) 100)
  have B := al (Below.refl w.heap.size w) (.cells #[.int .i8 X, .int .i8 Y, .slice (some ⟨g, 0, none⟩) n n] 31)
  have H1 := Lib.hid (implLevels_any X Y g n c A m cap d b1 _ hX hY hc hm hmm (hrow.of_block (B.block _ hrow.lt)) ((hr.below B).mono B.size) hb1)
  have HR := Lib.hid hr
  have HR' := Lib.hid hr'
  have HB1 := Lib.hid hb1
  clear hr hr' hb1 hrow
  go_enter Try.func25, Try.ntmps25
  go_wp2_with fail
  refine H1.out.mono ?_
  rintro e w1 ⟨hb, rfl⟩
  replace B := nxt B hb
  clear hb
  cases b1 with
  | false =>
    go_wp2_with fail
    exact bodyPost_ret (results_tmp2 Try.results25 _ _ _) rfl ⟨B, 1, _, .inl ⟨(fun h => by have := HB1.out.2 h.1; simp at this), rfl⟩, rfl, by rw [if_neg (by decide)]; exact OwnI.nil _ _⟩
  | true =>
    have HN : Hid (NumsOk X Y n c m d (-100) 100) := Lib.hid (HB1.out.1 rfl)
    obtain ⟨b2, hb2⟩ := dec_ex (k = m ∧ allIn r k 0 10)
    have HB2 := Lib.hid hb2
    clear hb2
    go_wp2_with fail
    refine (rates_any A' k cap' r m b2 _ hkk ((HR'.out.below B).mono B.size) HB2.out).mono ?_
    rintro e w2 ⟨hb, rfl⟩
    replace B := nxt B hb
    clear hb
    cases b2 with
    | false =>
      go_wp2_with fail
      exact bodyPost_ret (results_tmp2 Try.results25 _ _ _) rfl ⟨B, 1, _, .inl ⟨(fun h => by have := HB2.out.2 ⟨by have := h.2.2.1; have := h.1.2.1; omega, h.2.2.2⟩; simp at this), rfl⟩, rfl, by rw [if_neg (by decide)]; exact OwnI.nil _ _⟩
    | true =>
      have HOK : Hid (LvOk X Y n c m d k r) := Lib.hid ⟨HN.out, HN.out.1, by have := (HB2.out.1 rfl).1; have := HN.out.2.1; omega, (HB2.out.1 rfl).2⟩
      clear HN
      obtain ⟨b3, hb3⟩ := dec_ex (yrs y)
      have HB3 := Lib.hid hb3
      clear hb3
      go_wp2_with fail
      have N1 := Bx.new w2 #[.int .i64 y] 2
      replace B := al B (.cells #[.int .i64 y] 2)
      obtain ⟨W2, hW2⟩ : ∃ W2 : World, W2 = w2.alloc (.cells #[.int .i64 y] 2) := ⟨_, rfl⟩
      rw [← hW2] at N1 B ⊢
      clear hW2
      refine (within_any 0 60 (some ⟨w2.heap.size, 0, none⟩) 1 1 (fun _ => y) b3 _ (by omega) (fun _ => ⟨w2.heap.size, 0, rfl, N1.lt, fun j hj => (by have hj0 : j = 0 := (by omega); subst hj0; exact (N1.cell 0).trans rfl)⟩) (by rw [HB3.out]; exact ⟨fun h j _ => h, fun h => h 0 (by omega)⟩)).mono ?_
      rintro e w3 ⟨hb, rfl⟩
      replace B := nxt B hb
      clear hb N1
      cases b3 with
      | false =>
        go_wp2_with fail
        exact bodyPost_ret (results_tmp2 Try.results25 _ _ _) rfl ⟨B, 2, _, .inr (.inl ⟨HOK.out, (fun h => by have := HB3.out.2 h; simp at this), rfl⟩), rfl, by rw [if_neg (by decide)]; exact OwnI.nil _ _⟩
      | true =>
        have HY3 := Lib.hid (HB3.out.1 rfl)
        go_wp2_with fail
        refine (sunk_any A m cap d A' k cap' r y _ (by have := HOK.out.1.1.2.2.2.2.1; have := HOK.out.1.2.1; omega) (by have := HOK.out.1.2.1; have := HOK.out.2.2.1; omega) ((HR.out.below B).mono B.size) ((HR'.out.below B).mono B.size) HOK.out.1.2.2 HOK.out.2.2.2 HY3.out).mono ?_
        rintro e w4 ⟨hb, v, rfl, O⟩
        have hO := Lib.hid (O.mono B.size)
        replace B := nxt B hb
        clear hb O
        go_wp2_with fail
        exact bodyPost_ret (results_tmp2 Try.results25 _ _ _) rfl ⟨B, 0, _, .inr (.inr ⟨HOK.out, HY3.out, rfl⟩), rfl, by rw [if_pos rfl]; exact hO.out⟩

theorem both (X Y : Int) (n : Nat) (c : Nat → Int) (m : Nat) (d : Nat → Int) (k : Nat) (r : Nat → Int) (y : Int) (hX : -128 ≤ X ∧ X ≤ 127) (hY : -128 ≤ Y ∧ Y ≤ 127) (hc : ∀ j, -128 ≤ c j ∧ c j ≤ 127) (hn : n ≤ 1048576) (hd : ∀ j, (Lit.int .i64 (d j)).wf = true) (hm : m ≤ 1048576) (hr : ∀ j, (Lit.int .i64 (r j)).wf = true) (hk : k ≤ 1048576) (by_ : (Lit.int .i64 y).wf = true) :
    ∃ (z1 : Int) (nn : Nat) (ff : Nat → Int), nn ≤ 1000 ∧
      (∀ (W : World) (G0 G1 G2 : Nat), Ab W G0 n c → Ar W G1 m d → Ar W G2 k r → Calls Try.prog 24 #[.agg #[.int .i8 X, .int .i8 Y, .slice (some ⟨G0, 0, none⟩) n n], .slice (some ⟨G1, 0, none⟩) m m, .slice (some ⟨G2, 0, none⟩) k k, .int .i64 y] W fun e w' => Below W.heap.size W w' ∧ ∃ v, e = .returned (.tuple #[v, .int .i64 z1]) ∧ HasSlice .i64 1 w' W.heap.size v nn ff) ∧
      (∀ (W : World) (G0 G1 G2 : Nat), Ab W G0 n c → Ar W G1 m d → Ar W G2 k r → Calls Try.prog 25 #[.agg #[.int .i8 X, .int .i8 Y, .slice (some ⟨G0, 0, none⟩) n n], .slice (some ⟨G1, 0, none⟩) m m, .slice (some ⟨G2, 0, none⟩) k k, .int .i64 y] W fun e w' => Below W.heap.size W w' ∧ ∃ v, e = .returned (.tuple #[v, .int .i64 z1]) ∧ HasSlice .i64 1 w' W.heap.size v nn ff) := by
  obtain ⟨z, hz⟩ : ∃ z, SinkCode (LvOk X Y n c m d k r) (yrs y) z := by
    by_cases h1 : LvOk X Y n c m d k r
    · by_cases h2 : yrs y
      · exact ⟨0, .inr (.inr ⟨h1, h2, rfl⟩)⟩
      · exact ⟨2, .inr (.inl ⟨h1, h2, rfl⟩)⟩
    · exact ⟨1, .inl ⟨h1, rfl⟩⟩
  have key : ∀ (W : World) (e : Ending) (w' : World), AfPost (LvOk X Y n c m d k r) (yrs y) (aftL d r y m) W e w' → Below W.heap.size W w' ∧ ∃ v, e = .returned (.tuple #[v, .int .i64 z]) ∧ HasSlice .i64 1 w' W.heap.size v (if z = 0 then aftL d r y m else []).length (fun j => (if z = 0 then aftL d r y m else []).getD j 0) := by
    rintro W e w' ⟨hb, q, v, hq, rfl, O⟩
    obtain rfl := hq.one hz
    exact ⟨hb, v, rfl, O.has⟩
  refine ⟨z, (if z = 0 then aftL d r y m else []).length, fun j => (if z = 0 then aftL d r y m else []).getD j 0, ?_, fun W G0 G1 G2 h0 h1 h2 => (spec_any X Y G0 n c _ m m d _ k k r y W hX hY hc hn hm hk h0.row h1.rd h2.rd).mono (key W), fun W G0 G1 G2 h0 h1 h2 => (impl_any X Y G0 n c _ m m d _ k k r y W hX hY hc hn hm hk h0.row h1.rd h2.rd).mono (key W)⟩
  rcases hz with ⟨_, rfl⟩ | ⟨_, _, rfl⟩ | ⟨h1, _, rfl⟩
  · simp
  · simp
  · rw [if_pos rfl, aftL_length]
    have := h1.1.1.2.2.2.2.1
    have := h1.1.2.1
    omega
end levelsAfter
end Go.Proofs.Ytkdakpbkpfigeaa
