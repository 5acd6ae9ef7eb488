/-
  JointsAt on the two sides. Conditions stand at each.
-/
import Derived.Test.YtmkcdelfgaogaaaDoorRows
import Derived.Test.YtmkcdelfgaogaaaDoorIsJointS
import Derived.Test.YtmkcdelfgaogaaaDoorNums
namespace Go.Proofs.YtmkcdelfgaogaaaDoor
open Go Go.ChangeShapes Go.WideShapes Go.ChangeAt Go.RowKit
set_option linter.unusedVariables false
set_option linter.unusedSimpArgs false
set_option maxRecDepth 100000
set_option maxHeartbeats 4000000

/-- the ways below k that are joints. -/
def wyL (G : Nat → Int) (x y : Int) (k : Nat) : List Int := ((List.range k).filter fun (j : Nat) => wayJ G x y j).map fun (j : Nat) => (j : Int)
theorem wyL_yes {G : Nat → Int} {x y : Int} {k : Nat} (h : wayJ G x y k = true) : wyL G x y (k + 1) = wyL G x y k ++ [(k : Int)] := by
  unfold wyL
  rw [List.range_succ, List.filter_append, List.map_append]
  simp [h]
theorem wyL_no {G : Nat → Int} {x y : Int} {k : Nat} (h : wayJ G x y k = false) : wyL G x y (k + 1) = wyL G x y k := by
  unfold wyL
  rw [List.range_succ, List.filter_append, List.map_append]
  simp [h]
theorem wyL_length (G : Nat → Int) (x y : Int) (k : Nat) : (wyL G x y k).length ≤ k := by
  unfold wyL
  rw [List.length_map]
  exact Nat.le_trans (List.length_filter_le _ _) (by rw [List.length_range]; exact Nat.le_refl _)
theorem betw_step {G : Nat → Int} {x y : Int} {k : Nat} (hk : k < 4) : betw G x y (stepX x k) (stepY y k) = wayJ G x y k := by
  refine betw_at hk (fun j hj => ?_) ⟨rfl, rfl⟩
  unfold isE stepX stepY
  match k, j, hk, hj with
  | 1, 0, _, _ => simp; omega
  | 2, 0, _, _ => simp; omega
  | 2, 1, _, _ => simp; omega
  | 3, 0, _, _ => simp; omega
  | 3, 1, _, _ => simp; omega
  | 3, 2, _, _ => simp; omega
/-- what JointsAt answers. -/
def JaPost (X Y : Int) (n : Nat) (c : Nat → Int) (ax ay : Int) (w : World) (e : Ending) (w' : World) : Prop :=
  Below w.heap.size w w' ∧ ∃ (v : Value) (L : List Int) (z : Int), e = .returned (.tuple #[v, .int .i64 z]) ∧ OwnI w' w.heap.size v L ∧
    ((¬ Valid X Y n c ∧ L = [] ∧ z = 1) ∨ (Valid X Y n c ∧ ¬ PtIn X Y ax ay ∧ L = [] ∧ z = 2) ∨ (Valid X Y n c ∧ PtIn X Y ax ay ∧ L = wyL (gridN c n) ax ay 4 ∧ z = 0))
theorem all1 {X Y ax ay : Int} : AllIn X Y 1 (fun _ => ax) (fun _ => ay) ↔ PtIn X Y ax ay := ⟨fun h => h 0 (by omega), fun h j _ => h⟩
theorem rd1 (w : World) (ax ay : Int) (t : TypeId) : RdP (w.alloc (.cells #[.int .i8 ax, .int .i8 ay] t)) (some ⟨w.heap.size, 0, none⟩) 1 (fun _ => ax) (fun _ => ay) := fun _ => by
  have h := Bx.new w #[.int .i8 ax, .int .i8 ay] t
  refine ⟨w.heap.size, 0, rfl, by simp, fun j hj => ?_⟩
  obtain rfl : j = 0 := by omega
  exact ⟨h.cell 0, h.cell 1⟩

theorem implJa_any (X Y : Int) (g n : Nat) (c : Nat → Int) (ax ay : Int) (a0 a1 a2 : Addr) (w : World) (hX : -128 ≤ X ∧ X ≤ 127) (hY : -128 ≤ Y ∧ Y ≤ 127) (hc : ∀ j, -128 ≤ c j ∧ c j ≤ 127) (hm : n ≤ 1048576)
    (hrow : w.rowIs g 105 (4 * n) (fun j => .int .i8 (c j))) (hax : -128 ≤ ax ∧ ax ≤ 127) (hay : -128 ≤ ay ∧ ay ≤ 127) (hS : Sent w a0 a1 a2) :
    Calls Tryd.prog 17 #[.agg #[.int .i8 X, .int .i8 Y, .slice (some ⟨g, 0, none⟩) n n], .agg #[.int .i8 ax, .int .i8 ay]] w (JaPost X Y n c ax ay w) := by
  obtain ⟨i0, hi, hz0, hz1, hz2⟩ := info_parts infoI64
  have HC := Lib.hid hc
  clear hc
  go_enter Tryd.func17, Tryd.ntmps17
  go_wp2_with fail
  have X3 := (C2.new (w.alloc (.cells #[.int .i8 X, .int .i8 Y, .slice (some ⟨g, 0, none⟩) n n] 33)) ax ay 35).alloc (.cells #[.int .i8 ax, .int .i8 ay] 35)
  have B := al (al (Below.refl w.heap.size w) (.cells #[.int .i8 X, .int .i8 Y, .slice (some ⟨g, 0, none⟩) n n] 33)) (.cells #[.int .i8 ax, .int .i8 ay] 35)
  have e1 : (w.alloc (.cells #[.int .i8 X, .int .i8 Y, .slice (some ⟨g, 0, none⟩) n n] 33)).heap.size = w.heap.size + 1 := by simp
  rw [e1] at X3
  have e3 : ((w.alloc (.cells #[.int .i8 X, .int .i8 Y, .slice (some ⟨g, 0, none⟩) n n] 33)).alloc (.cells #[.int .i8 ax, .int .i8 ay] 35)).heap.size = w.heap.size + 1 + 1 := by simp
  have R := rd1 ((w.alloc (.cells #[.int .i8 X, .int .i8 Y, .slice (some ⟨g, 0, none⟩) n n] 33)).alloc (.cells #[.int .i8 ax, .int .i8 ay] 35)) ax ay 35
  rw [e3] at R
  replace B := al B (.cells #[.int .i8 ax, .int .i8 ay] 35)
  obtain ⟨W1, hW1⟩ : ∃ W1 : World, W1 = ((w.alloc (.cells #[.int .i8 X, .int .i8 Y, .slice (some ⟨g, 0, none⟩) n n] 33)).alloc (.cells #[.int .i8 ax, .int .i8 ay] 35)).alloc (.cells #[.int .i8 ax, .int .i8 ay] 35) := ⟨_, rfl⟩
  rw [← hW1] at X3 B R ⊢
  clear hW1 e3 e1
  refine (jointsFor_any X Y g n c _ 1 1 (fun _ => ax) (fun _ => ay) a0 a1 a2 W1 hX hY HC.out hm (hrow.of_block (B.block _ hrow.lt)) (by omega) (by omega) R (fun _ => hax) (fun _ => hay) (hS.below B)).mono ?_
  rintro e w2 ⟨hb, hcase⟩
  replace X3 := X3.below hb
  replace B := nxt B hb
  have S2 := hS.below B
  clear hb R
  rcases hcase with ⟨hv, rfl⟩ | ⟨hv, hn, rfl⟩ | ⟨hv, hy, m, rfl, hmw, hM⟩
  · have HV := Lib.hid hv
    clear hv
    go_wp2_with fail
    refine (codeOf0 a0 a1 a2 w2 S2).mono ?_
    rintro e w3 ⟨rfl, hb⟩
    replace B := nxt B hb
    clear hb
    go_wp2
    exact bodyPost_ret (results_tmp2 Tryd.results17 _ _ _) rfl ⟨B, _, [], _, rfl, OwnI.nil _ _, .inl ⟨HV.out, rfl, rfl⟩⟩
  · have HV := Lib.hid hv
    have HN := Lib.hid hn
    clear hn hv
    go_wp2_with fail
    refine (codeOf1 a0 a1 a2 w2 S2).mono ?_
    rintro e w3 ⟨rfl, hb⟩
    replace B := nxt B hb
    clear hb
    go_wp2
    exact bodyPost_ret (results_tmp2 Tryd.results17 _ _ _) rfl ⟨B, _, [], _, rfl, OwnI.nil _ _, .inr (.inl ⟨HV.out, fun h => HN.out (all1.2 h), rfl, rfl⟩)⟩
  have HY := Lib.hid (all1.1 hy)
  have HV := Lib.hid hv
  obtain ⟨W, rfl⟩ : ∃ W : Nat, X = W := Int.eq_ofNat_of_zero_le (by have := hv.1; omega)
  obtain ⟨H, rfl⟩ : ∃ H : Nat, Y = H := Int.eq_ofNat_of_zero_le (by have := hv.2.2.1; omega)
  have hM' : EMap w2 m (jl W (gridN c n) (W * H)) := hM
  have hJL := Lib.hid (fun k (hk : k < 4) => (jl_hasK hv ax ay (stepX ax k) (stepY ay k)).trans (betw_step (G := gridN c n) (x := ax) (y := ay) hk))
  have p1 := hv.2.1
  have q1 := hv.2.2.2.1
  obtain ⟨a1', a2', a3', a4'⟩ := all1.1 hy
  have hax2 : 0 ≤ ax ∧ ax ≤ 12 := by omega
  have hay2 : 0 ≤ ay ∧ ay ≤ 12 := by omega
  have hst : ∀ k, (-128 ≤ stepX ax k ∧ stepX ax k ≤ 127) ∧ (-128 ≤ stepY ay k ∧ stepY ay k ≤ 127) := fun k => by
    unfold stepX stepY
    refine ⟨?_, ?_⟩ <;> split <;> (try split) <;> omega
  have HST := Lib.hid hst
  clear hv hy hM p1 q1 a1' a2' a3' a4' hst
  go_wp2_with fail
  have hw2 := B.size
  have O0 : OwnI w2 w2.heap.size (.slice none 0 0) (wyL (gridN c n) ax ay 0) := OwnI.nil _ _
  go_loopw [8, 9] (fun t8 t9 wr => ∃ k : Nat, k ≤ 4 ∧ t9 = .int .i64 k ∧ Below w.heap.size w wr ∧ Below w2.heap.size w2 wr ∧ OwnI wr w2.heap.size t8 (wyL (gridN c n) ax ay k)) (fun t8 t9 wr => 4 - (intOf t9).toNat)
  case atStart => exact ⟨0, by omega, by simp, B, Below.refl _ _, O0⟩
  case round =>
    clear B O0
    obtain ⟨k, hk, rfl, B, BB, O⟩ := hrel
    obtain ⟨v0, rfl⟩ : ∃ v0 : Value, v0 = u8 := ⟨_, rfl⟩
    obtain ⟨wo, rfl⟩ : ∃ wo : World, wo = wr := ⟨_, rfl⟩
    by_cases hlt : k < 4
    · have hki : (k : Int) ≤ 3 := by omega
      have Z3 := X3.below BB
      have ZM := hM'.below BB hM'.lt
      have HA := Lib.hid (fun W' => ahead_any ax ay k W' (by omega) (by omega) hlt)
      have hh := hJL.out k hlt
      have hs := HST.out k
      obtain ⟨nx, hnx⟩ : ∃ nx, stepX ax k = nx := ⟨_, rfl⟩
      obtain ⟨ny, hny⟩ : ∃ ny, stepY ay k = ny := ⟨_, rfl⟩
      rw [hnx, hny] at HA hh hs
      obtain ⟨r, hr⟩ : ∃ r, r = wayJ (gridN c n) ax ay k := ⟨_, rfl⟩
      rw [← hr] at hh
      have HH := fun W' (hm : EMap W' m (jl W (gridN c n) (W * H))) => jhas_any m _ ax ay nx ny W' (by omega) (by omega) hs.1 hs.2 hm
      rw [hh] at HH
      have HH' := Lib.hid HH
      have HR := Lib.hid hr
      obtain ⟨l3, p3, q3⟩ := id Z3
      clear HH hh hs hr hnx hny
      go_wp2_with fail
      refine wp_region_held_drew (S := fun w' => w'.cell? ⟨w.heap.size + 1, 0, none⟩ = some (.int .i8 ax) ∧ w'.cell? ⟨w.heap.size + 1, 1, none⟩ = some (.int .i8 ay)) (by kernel_rfl) ⟨p3, q3⟩ (fun hHeld => ?_)
      refine wpAnyH_take (i := 0) (oi := _) (v := ?_) rfl (by kernel_rfl) (by kernel_rfl) (by kernel_rfl) (fun _ _ _ h => h) (Or.inl ⟨by kernel_rfl, ?_⟩) (by assumption) ?_
      rotate_left
      · intro w hSw; (try dsimp only at hSw); go_simp; first | done | with_reducible rfl
      try simp only [List.getElem_toArray, List.getElem_cons_zero, List.getElem_cons_succ, Act.put, List.setIfInBounds_toArray, List.set_cons_zero, List.set_cons_succ]
      refine wpAnyH_take (i := 1) (oi := _) (v := ?_) rfl (by kernel_rfl) (by kernel_rfl) (by kernel_rfl) (fun _ _ _ h => h) (Or.inl ⟨by kernel_rfl, ?_⟩) (by assumption) ?_
      rotate_left
      · intro w hSw; (try dsimp only at hSw); go_simp; first | done | with_reducible rfl
      try simp only [List.getElem_toArray, List.getElem_cons_zero, List.getElem_cons_succ, Act.put, List.setIfInBounds_toArray, List.set_cons_zero, List.set_cons_succ]
      refine wpAnyH_take (i := 2) (oi := _) (v := ?_) rfl (by kernel_rfl) (by kernel_rfl) (by kernel_rfl) (fun _ _ _ h => h) (Or.inl ⟨by kernel_rfl, ?_⟩) (by assumption) ?_
      rotate_left
      · intro w hSw; (try dsimp only at hSw); go_simp; first | done | with_reducible rfl
      try simp only [List.getElem_toArray, List.getElem_cons_zero, List.getElem_cons_succ, Act.put, List.setIfInBounds_toArray, List.set_cons_zero, List.set_cons_succ]
      refine wpAnyH_take (i := 3) (oi := _) (v := ?_) rfl (by kernel_rfl) (by kernel_rfl) (by kernel_rfl) (fun _ _ _ h => h) (Or.inl ⟨by kernel_rfl, ?_⟩) (by assumption) ?_
      rotate_left
      · intro w hSw; (try dsimp only at hSw); go_simp; first | done | with_reducible rfl
      try simp only [List.getElem_toArray, List.getElem_cons_zero, List.getElem_cons_succ, Act.put, List.setIfInBounds_toArray, List.set_cons_zero, List.set_cons_succ]
      refine wpAnyH_ready (rs := [4]) (by kernel_rfl) (by simp) ?_
      refine AllReadyH.cons (o := _) rfl (fun K hK => ?_) AllReadyH.nil
      go_simp
      refine (HA.out _).mono ?_
      rintro e w3 ⟨rfl, hb⟩
      replace Z3 := C2.below (show C2 wo.drew _ _ _ from Z3) hb
      replace ZM := ZM.drew.of_block (hb.block _ ZM.lt)
      replace O := OwnI.below (OwnI.drewN O 1) hb
      replace B := nxt B.drew hb
      replace BB := nxt BB.drew hb
      clear hb p3 q3 l3
      obtain ⟨l3, p3, q3⟩ := id Z3
      refine hK.out _ _ ⟨p3, q3⟩ (fun hHeld => ?_)
      clear hK K
      try simp only [List.getElem_toArray, List.getElem_cons_zero, List.getElem_cons_succ, Act.put, List.setIfInBounds_toArray, List.set_cons_zero, List.set_cons_succ]
      refine wpAnyH_ready (rs := [5]) (by kernel_rfl) (by simp) ?_
      refine AllReadyH.cons (o := _) rfl (fun K hK => ?_) AllReadyH.nil
      go_simp
      refine (HH'.out _ ZM).mono ?_
      rintro e w4 ⟨rfl, hb⟩
      replace Z3 := C2.below Z3 hb
      replace O := OwnI.below O hb
      replace B := nxt B hb
      replace BB := nxt BB hb
      clear hb p3 q3 l3
      obtain ⟨l3, p3, q3⟩ := id Z3
      refine hK.out _ _ ⟨p3, q3⟩ (fun hHeld => ?_)
      clear hK K
      try simp only [List.getElem_toArray, List.getElem_cons_zero, List.getElem_cons_succ, Act.put, List.setIfInBounds_toArray, List.set_cons_zero, List.set_cons_succ]
      refine wpAnyH_done (by kernel_rfl) ?_ _
      clear p3 q3 l3 Z3 ZM HA HH'
      have hle := wyL_length (gridN c n) ax ay k
      cases r with
      | true =>
        go_wp2_with (at_builtin; refine wpList_append_own _ rfl _ _ 42 rfl w2.heap.size 2 i0 (.int .i64 0) 1 8 Tryd.underlying42 hi hz0 hz1 hz2 rfl (by decide) _ _ _ rfl (World.ownsRow.alloc O _) ⟨w4.heap.size, 0, none⟩ 1 1 [.int .i64 (k : Int)] rfl rfl (ncells w4 #[.int .i64 (k : Int)] 2) one64 (by have := BB.size; unfold maxLen; omega) (by have := BB.size; omega) (by have := BB.size; simp; omega) ?_; intro v' w1 own' hgr _)
        have B1 : Below w.heap.size w w1 := (al B _).grown hgr (al B _).size (fun k e => by have := (O.lt k e).1; omega)
        have BB1 : Below w2.heap.size w2 w1 := (al BB _).grown hgr (al BB _).size (fun k e => (O.lt k e).1)
        have O1 := OwnI.snoc own'
        rw [← wyL_yes HR.out.symm] at O1
        clear own' hgr O B BB
        go_wp2
        exact ⟨⟨k + 1, by omega, by first | go_num | simp, B1, BB1, O1⟩, by simp [intOf]; omega⟩
      | false =>
        go_wp2
        exact ⟨⟨k + 1, by omega, by first | go_num | simp, B, BB, by rw [wyL_no HR.out.symm]; exact O⟩, by simp [intOf]; omega⟩
    · obtain rfl : k = 4 := by omega
      have hsz := B.size
      have O1 := Lib.hid (O.mono hw2)
      go_wp2
      exact bodyPost_ret (results_tmp2 Tryd.results17 _ _ _) rfl ⟨B, _, _, _, rfl, O1.out, .inr (.inr ⟨HV.out, HY.out, rfl, rfl⟩)⟩
theorem specJa_any (X Y : Int) (g n : Nat) (c : Nat → Int) (ax ay : Int) (w : World) (hX : -128 ≤ X ∧ X ≤ 127) (hY : -128 ≤ Y ∧ Y ≤ 127) (hc : ∀ j, -128 ≤ c j ∧ c j ≤ 127) (hm : n ≤ 1048576)
    (hrow : w.rowIs g 105 (4 * n) (fun j => .int .i8 (c j))) (hax : -128 ≤ ax ∧ ax ≤ 127) (hay : -128 ≤ ay ∧ ay ≤ 127) :
    Calls Tryd.prog 16 #[.agg #[.int .i8 X, .int .i8 Y, .slice (some ⟨g, 0, none⟩) n n], .agg #[.int .i8 ax, .int .i8 ay]] w (JaPost X Y n c ax ay w) := by
  obtain ⟨i0, hi, hz0, hz1, hz2⟩ := info_parts infoI64
  have HC := Lib.hid hc
  clear hc
  go_enter Tryd.func16, Tryd.ntmps16
  go_wp2_with fail
  have X2 := (((Sq.new w X Y (.slice (some ⟨g, 0, none⟩) n n) 33).alloc (.cells #[.int .i8 ax, .int .i8 ay] 35)).alloc (.cells #[] 2)).alloc (.cells #[.int .i8 ax, .int .i8 ay] 35)
  have X3 := ((C2.new (w.alloc (.cells #[.int .i8 X, .int .i8 Y, .slice (some ⟨g, 0, none⟩) n n] 33)) ax ay 35).alloc (.cells #[] 2)).alloc (.cells #[.int .i8 ax, .int .i8 ay] 35)
  have O := OwnI.made ((w.alloc (.cells #[.int .i8 X, .int .i8 Y, .slice (some ⟨g, 0, none⟩) n n] 33)).alloc (.cells #[.int .i8 ax, .int .i8 ay] 35)) (Nat.le_refl _)
  replace O := O.alloc (.cells #[.int .i8 ax, .int .i8 ay] 35)
  have B := al (al (al (Below.refl w.heap.size w) (.cells #[.int .i8 X, .int .i8 Y, .slice (some ⟨g, 0, none⟩) n n] 33)) (.cells #[.int .i8 ax, .int .i8 ay] 35)) (.cells #[] 2)
  have e1 : (w.alloc (.cells #[.int .i8 X, .int .i8 Y, .slice (some ⟨g, 0, none⟩) n n] 33)).heap.size = w.heap.size + 1 := by simp
  have e2 : ((w.alloc (.cells #[.int .i8 X, .int .i8 Y, .slice (some ⟨g, 0, none⟩) n n] 33)).alloc (.cells #[.int .i8 ax, .int .i8 ay] 35)).heap.size = w.heap.size + 1 + 1 := by simp
  have e3 : (((w.alloc (.cells #[.int .i8 X, .int .i8 Y, .slice (some ⟨g, 0, none⟩) n n] 33)).alloc (.cells #[.int .i8 ax, .int .i8 ay] 35)).alloc (.cells #[] 2)).heap.size = w.heap.size + 1 + 1 + 1 := by simp
  rw [e1] at X3
  rw [e2] at O
  have R := rd1 (((w.alloc (.cells #[.int .i8 X, .int .i8 Y, .slice (some ⟨g, 0, none⟩) n n] 33)).alloc (.cells #[.int .i8 ax, .int .i8 ay] 35)).alloc (.cells #[] 2)) ax ay 35
  rw [e3] at R
  replace B := al B (.cells #[.int .i8 ax, .int .i8 ay] 35)
  obtain ⟨W1, hW1⟩ : ∃ W1 : World, W1 = (((w.alloc (.cells #[.int .i8 X, .int .i8 Y, .slice (some ⟨g, 0, none⟩) n n] 33)).alloc (.cells #[.int .i8 ax, .int .i8 ay] 35)).alloc (.cells #[] 2)).alloc (.cells #[.int .i8 ax, .int .i8 ay] 35) := ⟨_, rfl⟩
  rw [← hW1] at X2 X3 B R O ⊢
  clear hW1 e3 e1 e2
  refine (told_any X Y _ g n c _ 1 1 (fun _ => ax) (fun _ => ay) true W1 hX hY HC.out hm X2 (hrow.of_block (B.block _ hrow.lt)) (by omega) (by omega) R (fun _ => hax) (fun _ => hay)).mono ?_
  rintro e w2 ⟨hb, cs, hsz, hone, hcase⟩
  replace X3 := X3.below hb
  replace O := O.below hb
  have hl3 := X3.1
  have hlo : w.heap.size + 1 + 1 < w2.heap.size := (O.lt _ rfl).2
  replace B := nxt B hb
  have hsz1 := B.size
  replace B := al B (.cells Tryd.zeroCells64 64)
  have h8 := heap_alloc_new w2 (.cells Tryd.zeroCells64 64)
  have H8 := Lib.hid h8
  clear hb X2 R
  have B' := below_setRow B hsz1 cs
  have O' : OwnI ((w2.alloc (.cells Tryd.zeroCells64 64)).setRow w2.heap.size cs) (w.heap.size + 1 + 1) (.slice (some ⟨w.heap.size + 1 + 1, 0, none⟩) 0 0) [] :=
    O.below (below_setRow (al (Below.refl w2.heap.size w2) (.cells Tryd.zeroCells64 64)) (Nat.le_refl _) cs)
  clear O
  have hls : w.heap.size ≤ w.heap.size + 1 + 1 := by omega
  rcases hcase with ⟨hv, rfl⟩ | ⟨hv, hn, rfl⟩ | ⟨hv, hy, hcell, rfl⟩
  · have HV := Lib.hid hv
    clear hv h8
    go_wp2_with (first
      | (refine wpList_store_row rfl 64 (.tmp 7) (.tmp 15) rfl w2.heap.size cs rfl rfl 64 Tryd.zeroCells64 H8.out (by rw [info93, hsz]) (by rw [zc_size, hsz]) hone ?_))
    exact bodyPost_ret (results_tmp2 Tryd.results16 _ _ _) rfl ⟨B', _, [], _, rfl, O'.mono hls, .inl ⟨HV.out, rfl, rfl⟩⟩
  · have HV := Lib.hid hv
    have HN := Lib.hid hn
    clear hv hn h8
    go_wp2_with (first
      | (refine wpList_store_row rfl 64 (.tmp 7) (.tmp 15) rfl w2.heap.size cs rfl rfl 64 Tryd.zeroCells64 H8.out (by rw [info93, hsz]) (by rw [zc_size, hsz]) hone ?_))
    exact bodyPost_ret (results_tmp2 Tryd.results16 _ _ _) rfl ⟨B', _, [], _, rfl, O'.mono hls, .inr (.inl ⟨HV.out, fun h => HN.out ⟨by trivial, all1.2 h⟩, rfl, rfl⟩)⟩
  have hy2 := all1.1 hy.2
  have h8' := setRow_heap _ w2.heap.size _ cs _ _ h8
  have R8 : ((w2.alloc (.cells Tryd.zeroCells64 64)).setRow w2.heap.size cs).rowIs w2.heap.size 64 144 (fun p => .int .i64 (gridN c n p)) := ⟨cs, h8', hsz, hcell⟩
  have X3' : C2 ((w2.alloc (.cells Tryd.zeroCells64 64)).setRow w2.heap.size cs) _ _ _ := (X3.alloc _).of_block (by rw [setRow_size]; exact Nat.le_refl _) (setRow_other _ w2.heap.size _ cs (by omega))
  obtain ⟨W3, hW3⟩ : ∃ W3 : World, W3 = (w2.alloc (.cells Tryd.zeroCells64 64)).setRow w2.heap.size cs := ⟨_, rfl⟩
  have hsz3 : W3.heap.size = w2.heap.size + 1 := by rw [hW3, setRow_size]; simp
  rw [← hW3] at R8 X3' B' O'
  have p1 := hv.2.1
  have q1 := hv.2.2.2.1
  obtain ⟨a1, a2, a3, a4⟩ := id hy2
  have hax2 : 0 ≤ ax ∧ ax ≤ 12 := by omega
  have hay2 : 0 ≤ ay ∧ ay ≤ 12 := by omega
  have HY := Lib.hid hy2
  have HV := Lib.hid hv
  have HE := Lib.hid (fun k W' hk hR => edgeS_any w2.heap.size ax ay k (gridN c n) W' hax2 hay2 hk hR)
  clear hy hy2 hv X3 h8' B hcell hrow h8 a1 a2 a3 a4 p1 q1
  go_wp2_with (first
    | (refine wpList_store_row rfl 64 (.tmp 7) (.tmp 15) rfl w2.heap.size cs rfl rfl 64 Tryd.zeroCells64 H8.out (by rw [info93, hsz]) (by rw [zc_size, hsz]) hone ?_))
  rw [← hW3]
  clear hW3 H8 hone hsz
  go_loopw [6, 9] (fun t6 t9 wr => ∃ k : Nat, k ≤ 4 ∧ t9 = .int .i64 k ∧ Below w.heap.size w wr ∧ C2 wr (w.heap.size + 1) ax ay ∧ wr.rowIs w2.heap.size 64 144 (fun p => .int .i64 (gridN c n p)) ∧ OwnI wr (w.heap.size + 1 + 1) t6 (wyL (gridN c n) ax ay k) ∧ t6.ownBlock ≠ some w2.heap.size ∧ w2.heap.size < wr.heap.size) (fun t6 t9 wr => 4 - (intOf t9).toNat)
  case atStart => exact ⟨0, by omega, by simp, B', X3', R8, O', by simp [Value.ownBlock]; omega, by omega⟩
  case round =>
    clear B' X3' R8 O'
    obtain ⟨k, hk, rfl, B, X3, R, O, hne, hw2⟩ := hrel
    obtain ⟨v0, rfl⟩ : ∃ v0 : Value, v0 = u6 := ⟨_, rfl⟩
    obtain ⟨wo, rfl⟩ : ∃ wo : World, wo = wr := ⟨_, rfl⟩
    by_cases hlt : k < 4
    · have hki : (k : Int) ≤ 3 := by omega
      have hkj : (k : Int) < 4 := by omega
      obtain ⟨r, hr⟩ : ∃ r, r = wayJ (gridN c n) ax ay k := ⟨_, rfl⟩
      have HEE := HE.out k wo hlt R
      rw [← hr] at HEE
      have HEE' := Lib.hid HEE
      have HR := Lib.hid hr
      obtain ⟨l3, p3, q3⟩ := id X3
      clear HEE hr
      go_wp2_with fail
      refine HEE'.out.mono ?_
      rintro e w4 ⟨rfl, hb⟩
      replace X3 := X3.below hb
      replace R := R.of_block (hb.block _ R.lt)
      replace O := O.below hb
      replace B := nxt B hb
      have hw4 : w2.heap.size < w4.heap.size := Nat.lt_of_lt_of_le hw2 hb.size
      clear hb p3 q3 l3 HEE' hw2
      have hle := wyL_length (gridN c n) ax ay k
      cases r with
      | true =>
        go_wp2_with (at_builtin; refine wpList_append_own_at _ rfl _ _ 42 rfl (w.heap.size + 1 + 1) 2 i0 (.int .i64 0) 1 8 Tryd.underlying42 hi hz0 hz1 hz2 rfl (by decide) _ _ _ rfl (World.ownsRow.alloc O _) ⟨w4.heap.size, 0, none⟩ 1 1 [.int .i64 (k : Int)] rfl rfl (ncells w4 #[.int .i64 (k : Int)] 2) one64 (by have := X3.1; unfold maxLen; omega) (by have := X3.1; omega) (by have := X3.1; simp; omega) ?_; intro v' w1 own' hgr _ hat)
        have B1 : Below w.heap.size w w1 := (al B _).grown hgr (al B _).size (fun k e => by have := (O.lt k e).1; omega)
        have X31 : C2 w1 (w.heap.size + 1) ax ay := (X3.alloc _).of_block hgr.size (hgr.block _ (X3.alloc _).1 (fun e => by have := (O.lt _ e.symm).1; omega))
        have R1 : w1.rowIs w2.heap.size 64 144 (fun p => .int .i64 (gridN c n p)) := (R.alloc _).of_block (hgr.block _ (by simp; omega) (fun e => hne e.symm))
        have O1 := OwnI.snoc own'
        rw [← wyL_yes HR.out.symm] at O1
        have hne1 : v'.ownBlock ≠ some w2.heap.size := by
          rcases hat with h | h
          · rw [h]; exact hne
          · rw [h]; simp; omega
        have hw5 : w2.heap.size < w1.heap.size := by have := hgr.size; simp at this; omega
        clear own' hgr hat O B X3 R hne
        go_wp2
        exact ⟨⟨k + 1, by omega, by first | go_num | simp, B1, X31, R1, O1, hne1, hw5⟩, by simp [intOf]; omega⟩
      | false =>
        go_wp2
        exact ⟨⟨k + 1, by omega, by first | go_num | simp, B, X3, R, by rw [wyL_no HR.out.symm]; exact O, hne, hw4⟩, by simp [intOf]; omega⟩
    · obtain rfl : k = 4 := by omega
      have O1 := Lib.hid (O.mono hls)
      go_wp2
      exact bodyPost_ret (results_tmp2 Tryd.results16 _ _ _) rfl ⟨B, _, _, _, rfl, O1.out, .inr (.inr ⟨HV.out, HY.out, rfl, rfl⟩)⟩
end Go.Proofs.YtmkcdelfgaogaaaDoor
