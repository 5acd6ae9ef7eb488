/-
  The text of setts: both sides of SettsText. Conditions stand at each; the program's side asks that the library's table of powers of ten is as its text lays it.
-/
import Derived.Test.YtneijlogidhgiaaDoorRows
import Derived.Test.YtneijlogidhgiaaDoorSTextS
import Derived.Test.YtneijlogidhgiaaDoorTxtB
namespace Go.Proofs.YtneijlogidhgiaaDoor
open Go Go.ChangeShapes Go.WideShapes Go.ChangeAt Go.RowKit
set_option linter.unusedVariables false
set_option linter.unusedSimpArgs false
set_option maxRecDepth 100000
set_option maxHeartbeats 8000000
theorem join_tL (c d : Nat → Int) : ∀ n, Lib.join ((List.range n).map (rT c d)) [32] = tL c d n
  | 0 => rfl
  | 1 => by
    show Lib.join [rT c d 0] [32] = _
    rw [Lib.join_one]
    simp [tL]
  | n + 2 => by
    rw [List.range_succ, List.map_append, List.range_succ_eq_map, List.map_cons, List.map_cons, List.map_nil, join_snoc]
    have h := join_tL c d (n + 1)
    rw [List.range_succ_eq_map, List.map_cons] at h
    rw [h]
    simp [tL]
/-- the words of the first rows. -/
def wC (c d : Nat → Int) (k : Nat) : List Value := (List.range k).map fun j => .string (bS (rT c d j))
theorem wC_succ (c d : Nat → Int) (k : Nat) : wC c d (k + 1) = wC c d k ++ [.string (bS (rT c d k))] := by simp [wC, List.range_succ]
def OwnT (w : World) (base : Nat) (v : Value) (c d : Nat → Int) (k : Nat) : Prop := w.ownsRow base 9 1 v k (wC c d k)
theorem OwnT.below {w w' : World} {base k : Nat} {v : Value} {c d : Nat → Int} (h : OwnT w base v c d k) (hb : Below w.heap.size w w') : OwnT w' base v c d k := by
  refine ⟨h.1, h.2.imp id ?_⟩
  rintro ⟨g, cap, cur, rfl, hg, hw, r⟩
  exact ⟨g, cap, cur, rfl, hg, (hb.block g (Array.getElem?_eq_some_iff.1 hw).1).trans hw, r⟩
/-- the two answers of SettsText. -/
def TextPost (n : Nat) (c d : Nat → Int) (w : World) (e : Ending) (w' : World) : Prop :=
  Below w.heap.size w w' ∧ ((SOk n c d ∧ e = .returned (.string (bS (tL c d n)))) ∨ (¬ SOk n c d ∧ e = .returned (.string (bS []))))
theorem specText_any (A : Option Addr) (n cap : Nat) (c d : Nat → Int) (w : World) (hn : n ≤ 1048576) (hr : RdS w w.heap.size A n c d) (hc : ∀ j, -128 ≤ c j ∧ c j ≤ 127) (hd : ∀ j, -32768 ≤ d j ∧ d j ≤ 32767) :
    Calls Tryd.prog 7 #[.slice A n cap] w (TextPost n c d w) := by
  obtain ⟨r, e⟩ := dec_ex (SOk n c d)
  have H1 := Lib.hid (settsS_bool A n cap c d r w hn hr hc hd e)
  have H2 := Lib.hid (fun W (hB : Below w.heap.size w W) (h : SOk n c d) => l03Text_any A n cap c d W h ((hr.below hB).mono hB.size))
  have E := Lib.hid e
  clear hr hc hd e
  go_enter Tryd.func7, Tryd.ntmps7
  go_wp2_with fail
  refine H1.out.mono ?_
  rintro e w1 ⟨hb, rfl⟩
  cases r with
  | false =>
    have N := Lib.hid (show ¬ SOk n c d from fun h => by have := E.out.2 h; cases this)
    go_wp2
    go_ret
    exact ⟨hb, .inr ⟨N.out, rfl⟩⟩
  | true =>
    have Y := Lib.hid (E.out.1 rfl)
    go_wp2_with fail
    refine (H2.out _ hb Y.out).mono ?_
    rintro e w2 ⟨rfl, hb2⟩
    replace hb := nxt hb hb2
    clear hb2
    go_wp2
    go_ret
    exact ⟨hb, .inl ⟨Y.out, rfl⟩⟩
theorem implText_any (A : Option Addr) (n cap : Nat) (c d : Nat → Int) (w : World) (hn : n ≤ 1048576) (hr : RdS w w.heap.size A n c d) (hc : ∀ j, -128 ≤ c j ∧ c j ≤ 127) (hd : ∀ j, -32768 ≤ d j ∧ d j ≤ 32767) (hT : TabP w) :
    Calls Tryd.prog 9 #[.slice A n cap] w (TextPost n c d w) := by
  obtain ⟨r, e⟩ := dec_ex (SOk n c d)
  have H1 := Lib.hid (settsI_bool A n cap c d r w hn hr hc hd e)
  have HR := Lib.hid hr
  have HT := Lib.hid hT
  have E := Lib.hid e
  clear hr hc hd e hT
  go_enter Tryd.func9, Tryd.ntmps9
  go_wp2_with fail
  refine H1.out.mono ?_
  rintro e w1 ⟨hb, rfl⟩
  cases r with
  | false =>
    have N := Lib.hid (show ¬ SOk n c d from fun h => by have := E.out.2 h; cases this)
    go_wp2
    go_ret
    exact ⟨hb, .inr ⟨N.out, rfl⟩⟩
  | true =>
    have HO := Lib.hid (E.out.1 rfl)
    have hn6 : n ≤ 6 := HO.out.1.2
    go_wp2
    go_loopw [3, 5, 11] (fun t3 t5 t11 wr => ∃ (k : Nat) (v : Value), k ≤ n ∧ t11 = .int .i64 k ∧ t3 = v ∧ Below w.heap.size w wr ∧ OwnT wr w.heap.size v c d k) (fun t3 t5 t11 wr => n - (intOf t11).toNat)
    case atStart => exact ⟨0, .slice none 0 0, by omega, rfl, rfl, hb, World.ownsRow_nil _ _ _ _⟩
    case round =>
      clear hb
      obtain ⟨k, v, hk, rfl, rfl, hB, O⟩ := hrel
      obtain ⟨v0, rfl⟩ : ∃ v0 : Value, v0 = u3 := ⟨_, rfl⟩
      by_cases hlt : k < n
      · have hki : (k : Int) < (n : Int) := by omega
        have hrl := rT_len HO.out hlt
        obtain ⟨hc, hd, -⟩ := HO.out.2 k hlt
        obtain ⟨b, off, rfl, hbl, c0, d0⟩ := (HR.out.below hB).at hlt
        obtain ⟨C, hC⟩ := Int.eq_ofNat_of_zero_le (show 0 ≤ c k by omega)
        obtain ⟨D, hD⟩ := Int.eq_ofNat_of_zero_le (show 0 ≤ d k by omega)
        have hT1 : rT c d k = (Lib.decDigits C ++ [120]) ++ Lib.decDigits D := by unfold rT; rw [hC, hD, Int.toNat_natCast, Int.toNat_natCast]
        rw [hC] at c0
        rw [hD] at d0
        have wC' : IntKind.i64.wrap (C : Int) = (C : Int) := IntWalk.i64_in _ (by omega)
        have wD' : IntKind.i64.wrap (D : Int) = (D : Int) := IntWalk.i64_in _ (by omega)
        have HC := Lib.hid (fun W (hT : TabP W) => itoa_any C W (by omega) hT)
        have HD := Lib.hid (fun W (hT : TabP W) => itoa_any D W (by omega) hT)
        obtain ⟨xc, hxc⟩ : ∃ xc, xc = Lib.decDigits C := ⟨_, rfl⟩
        obtain ⟨xd, hxd⟩ : ∃ xd, xd = Lib.decDigits D := ⟨_, rfl⟩
        rw [← hxc] at HC hT1
        rw [← hxd] at HD hT1
        have HRT := Lib.hid hT1
        have hlc : xc.length + xd.length ≤ 2020 := by rw [hT1] at hrl; simp only [List.length_append, List.length_singleton] at hrl; omega
        clear hC hD hT1 hxc hxd hrl hc hd
        go_wp2
        have X5 := Bx.new wr #[.int .i8 (C : Int), .int .i16 (D : Int)] 49
        have hvb : ∀ q, v0.ownBlock = some q → w.heap.size ≤ q ∧ q < wr.heap.size := fun q e => World.ownsRow.lt O q e
        replace O : OwnT (wr.alloc (.cells #[.int .i8 (C : Int), .int .i16 (D : Int)] 49)) w.heap.size v0 c d k := World.ownsRow.alloc O _
        replace hB := al hB (.cells #[.int .i8 (C : Int), .int .i16 (D : Int)] 49)
        obtain ⟨W1, hW1⟩ : ∃ W1 : World, W1 = wr.alloc (.cells #[.int .i8 (C : Int), .int .i16 (D : Int)] 49) := ⟨_, rfl⟩
        rw [← hW1] at X5 O hB ⊢
        clear hW1
        obtain ⟨b5, h5⟩ : ∃ b5, b5 = wr.heap.size := ⟨_, rfl⟩
        rw [← h5] at X5 hvb ⊢
        clear h5 c0 d0 hbl
        obtain ⟨i0, hi, hz0, hz1, hz2⟩ := info_parts infoStr
        refine wp_region_held_drew (S := (fun w' : World => Bx w' b5 #[.int .i8 (C : Int), .int .i16 (D : Int)] 49)) (by kernel_rfl) X5 (fun hHeld => ?_)
        replace hB : Below w.heap.size w W1.drew := hB.drew
        replace X5 : Bx W1.drew b5 #[.int .i8 (C : Int), .int .i16 (D : Int)] 49 := X5
        replace O : OwnT W1.drew w.heap.size v0 c d k := O
        obtain ⟨wq, hwq⟩ : ∃ wq, W1.drew = wq := ⟨_, rfl⟩
        rw [hwq] at hB X5 O hHeld ⊢
        clear hwq
        refine wpAnyH_take (i := 0) (oi := _) (v := ?_) rfl (by kernel_rfl) (by kernel_rfl) (by kernel_rfl) (fun _ _ _ h => h) (Or.inl ⟨by kernel_rfl, ?_⟩) (by assumption) ?_
        rotate_left
        · intro w hSw; (try dsimp only at hSw); go_simp; first | done | with_reducible rfl
        try simp only [List.getElem_toArray, List.getElem_cons_zero, List.getElem_cons_succ, Act.put, List.setIfInBounds_toArray, List.set_cons_zero, List.set_cons_succ]
        refine wpAnyH_take (i := 1) (oi := _) (v := ?_) rfl (by kernel_rfl) (by kernel_rfl) (by kernel_rfl) (fun _ _ _ h => h) (Or.inl ⟨by kernel_rfl, ?_⟩) (by assumption) ?_
        rotate_left
        · intro w hSw; (try dsimp only at hSw); go_simp; first | done | with_reducible rfl
        try simp only [List.getElem_toArray, List.getElem_cons_zero, List.getElem_cons_succ, Act.put, List.setIfInBounds_toArray, List.set_cons_zero, List.set_cons_succ]
        refine wpAnyH_take (i := 2) (oi := _) (v := ?_) rfl (by kernel_rfl) (by kernel_rfl) (by kernel_rfl) (fun _ _ _ h => h) (Or.inl ⟨by kernel_rfl, ?_⟩) (by assumption) ?_
        rotate_left
        · intro w hSw; have hcell := (fun (w' : World) (hS : Bx w' b5 #[.int .i8 (C : Int), .int .i16 (D : Int)] 49) => (show w'.cell? ⟨b5, 0, none⟩ = some (.int .i8 (C : Int)) from hS.cell 0)) w hSw; clear hSw; go_simp; first | done | with_reducible rfl
        try simp only [List.getElem_toArray, List.getElem_cons_zero, List.getElem_cons_succ, Act.put, List.setIfInBounds_toArray, List.set_cons_zero, List.set_cons_succ]
        refine wpAnyH_take (i := 3) (oi := _) (v := ?_) rfl (by kernel_rfl) (by kernel_rfl) (by kernel_rfl) (fun _ _ _ h => h) (Or.inl ⟨by kernel_rfl, ?_⟩) (by assumption) ?_
        rotate_left
        · intro w hSw; (try dsimp only at hSw); go_simp; first | done | with_reducible rfl
        try simp only [List.getElem_toArray, List.getElem_cons_zero, List.getElem_cons_succ, Act.put, List.setIfInBounds_toArray, List.set_cons_zero, List.set_cons_succ]
        refine wpAnyH_take (i := 6) (oi := _) (v := ?_) rfl (by kernel_rfl) (by kernel_rfl) (by kernel_rfl) (fun _ _ _ h => h) (Or.inl ⟨by kernel_rfl, ?_⟩) (by assumption) ?_
        rotate_left
        · intro w hSw; (try dsimp only at hSw); go_simp; first | done | with_reducible rfl
        try simp only [List.getElem_toArray, List.getElem_cons_zero, List.getElem_cons_succ, Act.put, List.setIfInBounds_toArray, List.set_cons_zero, List.set_cons_succ]
        refine wpAnyH_take (i := 7) (oi := _) (v := ?_) rfl (by kernel_rfl) (by kernel_rfl) (by kernel_rfl) (fun _ _ _ h => h) (Or.inl ⟨by kernel_rfl, ?_⟩) (by assumption) ?_
        rotate_left
        · intro w hSw; have hcell := (fun (w' : World) (hS : Bx w' b5 #[.int .i8 (C : Int), .int .i16 (D : Int)] 49) => (show w'.cell? ⟨b5, 1, none⟩ = some (.int .i16 (D : Int)) from hS.cell 1)) w hSw; clear hSw; go_simp; first | done | with_reducible rfl
        try simp only [List.getElem_toArray, List.getElem_cons_zero, List.getElem_cons_succ, Act.put, List.setIfInBounds_toArray, List.set_cons_zero, List.set_cons_succ]
        refine wpAnyH_take (i := 8) (oi := _) (v := ?_) rfl (by kernel_rfl) (by kernel_rfl) (by kernel_rfl) (fun _ _ _ h => h) (Or.inl ⟨by kernel_rfl, ?_⟩) (by assumption) ?_
        rotate_left
        · intro w hSw; (try dsimp only at hSw); go_simp; first | done | with_reducible rfl
        try simp only [List.getElem_toArray, List.getElem_cons_zero, List.getElem_cons_succ, Act.put, List.setIfInBounds_toArray, List.set_cons_zero, List.set_cons_succ]
        refine wpAnyH_ready (rs := [4]) (by kernel_rfl) (by simp) ?_
        refine AllReadyH.cons (o := _) rfl (fun K hK => ?_) AllReadyH.nil
        go_simp
        refine (HC.out _ (HT.out.below hB)).mono ?_
        rintro e w3 ⟨rfl, hb⟩
        replace hB := nxt hB hb
        replace X5 := X5.below hb
        replace O := OwnT.below O hb
        clear hb
        refine hK.out _ _ X5 (fun hHeld => ?_)
        clear hK K
        try simp only [List.getElem_toArray, List.getElem_cons_zero, List.getElem_cons_succ, Act.put, List.setIfInBounds_toArray, List.set_cons_zero, List.set_cons_succ]
        have g2 : ¬ (9223372036854775807 < (bS xc).size + 1) := by rw [bS_size]; omega
        obtain ⟨y1, hy1⟩ : ∃ y1, y1 = xc ++ [120] := ⟨_, rfl⟩
        have e2 : bS xc ++ ⟨#[120]⟩ = bS y1 := by rw [hy1]; exact bS_append xc [120]
        have hl1 : y1.length = xc.length + 1 := by rw [hy1, List.length_append, List.length_singleton]
        have HY1 := Lib.hid hy1
        clear hy1
        refine wpAnyH_take (i := 5) (oi := _) (v := ?_) rfl (by kernel_rfl) (by kernel_rfl) (by kernel_rfl) (fun _ _ _ h => h) (Or.inl ⟨by kernel_rfl, ?_⟩) (by assumption) ?_
        rotate_left
        · intro w hSw; (try dsimp only at hSw); go_simp; first | done | with_reducible rfl
        try simp only [List.getElem_toArray, List.getElem_cons_zero, List.getElem_cons_succ, Act.put, List.setIfInBounds_toArray, List.set_cons_zero, List.set_cons_succ]
        refine wpAnyH_ready (rs := [9]) (by kernel_rfl) (by simp) ?_
        refine AllReadyH.cons (o := _) rfl (fun K hK => ?_) AllReadyH.nil
        go_simp
        refine (HD.out _ (HT.out.below hB)).mono ?_
        rintro e w4 ⟨rfl, hb⟩
        replace hB := nxt hB hb
        replace X5 := X5.below hb
        replace O := OwnT.below O hb
        clear hb
        refine hK.out _ _ X5 (fun hHeld => ?_)
        clear hK K
        try simp only [List.getElem_toArray, List.getElem_cons_zero, List.getElem_cons_succ, Act.put, List.setIfInBounds_toArray, List.set_cons_zero, List.set_cons_succ]
        have g3 : ¬ (9223372036854775807 < (bS y1).size + (bS xd).size) := by rw [bS_size, bS_size]; omega
        obtain ⟨y2, hy2⟩ : ∃ y2, y2 = y1 ++ xd := ⟨_, rfl⟩
        have e3 : bS y1 ++ bS xd = bS y2 := by rw [hy2]; exact bS_append _ _
        have HY2 := Lib.hid hy2
        clear hy2
        refine wpAnyH_take (i := 10) (oi := _) (v := ?_) rfl (by kernel_rfl) (by kernel_rfl) (by kernel_rfl) (fun _ _ _ h => h) (Or.inl ⟨by kernel_rfl, ?_⟩) (by assumption) ?_
        rotate_left
        · intro w hSw; (try dsimp only at hSw); go_simp; first | done | with_reducible rfl
        try simp only [List.getElem_toArray, List.getElem_cons_zero, List.getElem_cons_succ, Act.put, List.setIfInBounds_toArray, List.set_cons_zero, List.set_cons_succ]
        clear g2 e2 g3 e3 HC HD
        refine wpAnyH_ready (rs := [11]) (by kernel_rfl) (by simp) ?_
        refine AllReadyH.cons (o := _) rfl (fun K hK => ?_) AllReadyH.nil
        go_simp
        have NC := ncells w4 #[.string (bS y2)] 9
        replace X5 := X5.alloc (.cells #[.string (bS y2)] 9)
        replace O : OwnT (w4.alloc (.cells #[.string (bS y2)] 9)) w.heap.size v0 c d k := World.ownsRow.alloc O _
        replace hB := al hB (.cells #[.string (bS y2)] 9)
        have hsz : (w4.alloc (.cells #[.string (bS y2)] 9)).heap.size = w4.heap.size + 1 := by simp
        obtain ⟨w5, hw5⟩ : ∃ w5, w5 = w4.alloc (.cells #[.string (bS y2)] 9) := ⟨_, rfl⟩
        rw [← hw5] at NC X5 O hB hsz ⊢
        clear hw5
        refine hK.out _ _ X5 (fun hHeld => ?_)
        clear hK K
        try simp only [List.getElem_toArray, List.getElem_cons_zero, List.getElem_cons_succ, Act.put, List.setIfInBounds_toArray, List.set_cons_zero, List.set_cons_succ]
        unfold OwnT at O
        refine wpAnyH_ready (rs := [12]) (by kernel_rfl) (by simp) ?_
        refine AllReadyH.cons (o := _) rfl (fun K hK => ?_) AllReadyH.nil
        refine wp_append_own _ _ _ 52 rfl w.heap.size 9 i0 (.string ⟨#[]⟩) 1 16 Tryd.underlying52 hi hz0 hz1 hz2 rfl (by decide) v0 k (wC c d k) rfl O ⟨w4.heap.size, 0, none⟩ 1 1 [.string (bS y2)] rfl rfl NC (str_one _) (by unfold maxLen; omega) (by omega) (by have := hB.size; omega) ?_
        intro v' w6 own' hgr hnn
        have B1 : Below w.heap.size w w6 := hB.grown hgr hB.size (fun q e => by have := (World.ownsRow.lt O q e).1; omega)
        replace X5 : Bx w6 b5 #[.int .i8 (C : Int), .int .i16 (D : Int)] 49 := X5.of_block (hgr.block _ X5.lt (fun e => by have := (hvb _ e.symm).2; omega))
        have O1 : OwnT w6 w.heap.size v' c d (k + 1) := by unfold OwnT; rw [wC_succ, HRT.out, ← HY1.out, ← HY2.out]; exact own'
        refine hK.out _ _ X5 (fun hHeld => ?_)
        clear hK K
        try simp only [List.getElem_toArray, List.getElem_cons_zero, List.getElem_cons_succ, Act.put, List.setIfInBounds_toArray, List.set_cons_zero, List.set_cons_succ]
        refine wpAnyH_take (i := 13) (oi := _) (v := ?_) rfl (by kernel_rfl) (by kernel_rfl) (by kernel_rfl) (fun _ _ _ h => h) (Or.inl ⟨by kernel_rfl, ?_⟩) (by assumption) ?_
        rotate_left
        · intro w hSw; (try dsimp only at hSw); go_simp; first | done | with_reducible rfl
        try simp only [List.getElem_toArray, List.getElem_cons_zero, List.getElem_cons_succ, Act.put, List.setIfInBounds_toArray, List.set_cons_zero, List.set_cons_succ]
        refine wpAnyH_done (by kernel_rfl) ?_ _
        clear hHeld own' hgr O NC
        go_wp2
        exact ⟨⟨k + 1, v', by omega, by first | go_num | simp, rfl, B1, O1⟩, by simp [intOf]; omega⟩
      · obtain rfl : k = n := by omega
        have hki : ¬ ((k : Int) < (k : Int)) := by omega
        obtain ⟨Aw, capw, hvw⟩ := own_shapeT O
        subst hvw
        have hN : Hid (∀ W, Below wr.heap.size wr W → Calls Tryd.prog 25 #[.slice Aw k capw, .string ⟨#[32]⟩] W fun e w' => e = .returned (.string (bS (tL c d k))) ∧ Below W.heap.size W w') := Lib.hid (by
          intro W hW
          by_cases h0 : k = 0
          · subst h0
            exact (tx_strings_Join_none Aw capw ⟨#[32]⟩ W).mono fun e w' ⟨he, hw⟩ => ⟨he, by rw [hw]; exact Below.refl _ _⟩
          · rcases (OwnT.below O hW).2 with ⟨h1, h2⟩ | ⟨gb, cap', cur, h1, h2, h3, h4, h5, h6, h7⟩
            · exact absurd h2 h0
            · injection h1 with h1 h8 h9
              subst h1 h9
              have hxl : ((List.range k).map fun j => bS (rT c d j)).length = k := by simp
              have hjl : ((List.range k).map fun j => bS (rT c d j)).map (fun x => x.data.toList) = (List.range k).map (rT c d) := by
                rw [List.map_map]
                exact List.map_congr_left fun j _ => by simp [bS]
              have HJ := tx_strings_Join gb 0 capw ((List.range k).map fun j => bS (rT c d j)) ⟨#[32]⟩ W (fun j x hx => by
                  have hjk : j < k := by have := (List.getElem?_eq_some_iff.1 hx).1; simpa using this
                  have hcell := World.ownsRow.cellAt (OwnT.below O hW) j (by omega)
                  rw [Nat.zero_add, hcell]
                  simp [wC, hjk] at hx ⊢
                  rw [← hx])
                (Array.getElem?_eq_some_iff.1 h3).1 (by rw [hxl]; omega) (by rw [hxl]; exact h4)
                (by
                  rw [hjl]
                  show (Lib.join ((List.range k).map (rT c d)) [32]).length ≤ _
                  rw [join_tL]
                  have := tL_len HO.out k (Nat.le_refl _)
                  omega)
              rw [hxl, hjl] at HJ
              exact HJ.mono fun e w' ⟨he, hb⟩ => ⟨by rw [he]; show Ending.returned (Value.string (bS (Lib.join ((List.range k).map (rT c d)) [32]))) = _; rw [join_tL], hb⟩)
        clear O
        go_wp2_with fail
        refine (hN.out _ (Below.refl _ _)).mono ?_
        rintro e w3 ⟨rfl, hb⟩
        replace hB := nxt hB hb
        clear hb
        go_wp2
        go_ret
        exact ⟨hB, .inl ⟨HO.out, rfl⟩⟩
end Go.Proofs.YtneijlogidhgiaaDoor
