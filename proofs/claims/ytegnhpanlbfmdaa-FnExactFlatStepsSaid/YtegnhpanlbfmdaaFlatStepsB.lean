/-
  Both sides of FlatSteps answer the same. Conditions stand at each.
-/
import Derived.Test.YtegnhpanlbfmdaaRows
import Derived.Test.YtegnhpanlbfmdaaFlatS
import Derived.Test.YtegnhpanlbfmdaaShortI
import Derived.Test.YtegnhpanlbfmdaaDrawR
import Derived.Deep.Cut
namespace Go.Proofs.Ytegnhpanlbfmdaa
open Go Go.ChangeShapes Go.WideShapes Go.ChangeAt Go.RowKit Go.Shelf
set_option linter.unusedVariables false
set_option linter.unusedSimpArgs false
set_option maxRecDepth 100000
set_option maxHeartbeats 4000000

attribute [local go_sem] Oper.semAt_some
namespace flatSteps
/-- what has been counted. -/
def flC (W H : Nat) (h : Nat → Int) (pre : List (PX W H)) : Nat := (pre.map fun x => flS W H h x.1).sum
theorem flC_snoc {W H : Nat} {h : Nat → Int} (pre : List (PX W H)) (x : PX W H) : flC W H h (pre ++ [x]) = flC W H h pre + flS W H h x.1 := by simp [flC]
theorem flC_le {W H : Nat} {h : Nat → Int} (pre : List (PX W H)) : flC W H h pre ≤ pre.length * 4 := by
  induction pre with
  | nil => simp [flC]
  | cons y ys ih =>
    have := flS_le (W := W) (H := H) (h := h) y.1
    unfold flC at ih ⊢
    simp only [List.map_cons, List.sum_cons, List.length_cons]
    omega
theorem flC_all {W H : Nat} {h : Nat → Int} (hp : 0 < W ∧ 0 < H) : ∀ k, k ≤ W * H → flC W H h (uptoP hp k) = sN (fun i => flS W H h (cl W i)) k
  | 0, _ => rfl
  | k + 1, hk => by
    rw [uptoP_succ, flC_snoc, flC_all hp k (by omega), cellP_val hp (k := k) (by omega)]
    rfl

theorem impl_loop (W H : Nat) (h : Nat → Int) (g n : Nat) (c : Nat → Int) (w : World) (hh : ∀ p, -32768 ≤ h p ∧ h p ≤ 32767) (hc : ∀ j, -128 ≤ c j ∧ c j ≤ 127) (hA : Ac w g n c) (hv : GValid W H h n c) :
    CallsIn Fence.wide 7 Try.prog 51 #[.agg (gV W H h (.slice (some ⟨g, 0, none⟩) n n))] w fun e w' => Below w.heap.size w w' ∧ e = .returned (.tuple #[.int .i64 ((sN (fun i => flS W H h (cl W i)) (W * H) : Nat) : Int), .int .i64 0]) := by
  have hro : Fence.wide.round = none := rfl
  have hX : 1 ≤ (W : Int) ∧ (W : Int) ≤ 9 := hv.1.1
  have hY : 1 ≤ (H : Int) ∧ (H : Int) ≤ 9 := hv.1.2.1
  have h8 : n ≤ 8 := hv.1.2.2
  have hW : W ≤ 9 := by omega
  have hH : H ≤ 9 := by omega
  have HV := Lib.hid hv
  have HH := Lib.hid hh
  have HC := Lib.hid hc
  have HG := Lib.hid hv.2.2
  have hp : 0 < W ∧ 0 < H := by omega
  clear hv hc hh
  refine callsIn_of_wp_marks Try.func51 rfl trivial ?_ hro
  simp only [Try.ntmps51, List.size_toArray, List.length_cons, List.length_nil, Nat.reduceAdd, Nat.reduceSub, Array.replicate_succ, Array.replicate_zero, List.push_toArray, List.append_toArray, List.nil_append, List.cons_append]
  have X2 := Bx.new w (gV W H h (.slice (some ⟨g, 0, none⟩) n n)) 33
  have B := al (Below.refl w.heap.size w) (.cells (gV W H h (.slice (some ⟨g, 0, none⟩) n n)) 33)
  replace hA := hA.alloc (.cells (gV W H h (.slice (some ⟨g, 0, none⟩) n n)) 33)
  gi_wp2_with (first
    | (refine wpListIn_load_box X2 rfl _ _ rfl rfl _ Try.underlying33 rfl (infoGv _ _ _ _) ?_)
    | (refine ⟨trivial, ?_⟩; gi_at_call 133; refine (callsIn_wide.2 (landOf_any W H h g n c _ (by omega) (by omega) HH.out HC.out (by omega) hA)).mono ?_))
  clear X2 hA
  rintro e w1 ⟨hb, ⟨_, p, m, rfl, hpm, hmp, hL⟩ | ⟨hv, _⟩⟩
  case inr => exact absurd HV.out hv
  have hs1 := hb.size
  have hl1 := hL.lt
  simp only [World.size_alloc] at hpm hs1
  replace B := al (al (nxt B hb) (.cells #[.pointer (some ⟨p, 0, none⟩)] 130)) (.cells #[.int .i64 0] 2)
  clear hb
  replace hL := (hL.next (al (Below.refl w1.heap.size w1) (.cells #[.pointer (some ⟨p, 0, none⟩)] 130))).next (al (Below.refl _ (w1.alloc (.cells #[.pointer (some ⟨p, 0, none⟩)] 130))) (.cells #[.int .i64 0] 2))
  have X7 := (Bx.new w1 #[.pointer (some ⟨p, 0, none⟩)] 130).alloc (.cells #[.int .i64 0] 2)
  have X8 := Bx.newAt (w1.alloc (.cells #[.pointer (some ⟨p, 0, none⟩)] 130)) (w1.heap.size + 1) #[.int .i64 0] 2 (by simp)
  have W1 : ∃ W1 : World, W1 = (w1.alloc (.cells #[.pointer (some ⟨p, 0, none⟩)] 130)).alloc (.cells #[.int .i64 0] 2) := ⟨_, rfl⟩
  obtain ⟨l1, p1, q1, r1⟩ := hL.1.gcells
  have cp0 := X7.cell 0
  simp only [List.getElem?_toArray, List.getElem?_cons_zero] at cp0
  gi_wp2_with (refine ⟨trivial, ?_⟩; gi_at_call 116; refine (points_in 6 (by omega) W H _).mono ?_)
  obtain ⟨W1, hW1⟩ := W1
  rw [← hW1] at X7 X8 B hL ⊢
  have hsW : w1.heap.size + 1 < W1.heap.size := X8.lt
  clear hW1 l1 p1 q1 r1 cp0
  rintro e w6 ⟨hb, bs, rfl, hbs, hSl⟩
  have hs6 := hb.size
  replace hL := hL.next hb
  replace X7 := X7.below hb
  replace X8 := X8.below hb
  replace B := nxt B hb
  clear hb
  gi_wp2_with fail
  refine range_cells (by omega) bs W H hp rfl rfl (by omega) (by omega) hSl (fun k => k = w1.heap.size + 1) (by omega)
    (fun (pre : List (PX W H)) V => Bx V (w1.heap.size + 1) #[.int .i64 ((flC W H h pre : Nat) : Int)] 2)
    (fun cc pre V => False)
    ?_ ?_ ?_ 7 23 ?assign ?body ?done ?stop
  · exact ownFrom_bx _ (fun _ => _) (fun (pre : List (PX W H)) => #[.int .i64 ((flC W H h pre : Nat) : Int)]) _
  · exact fun cc => fun _ _ _ _ h => h.elim
  · exact X8
  case assign =>
    rintro l x V K hK
    dsimp only [encP]
    gi_wp2
    exact hK
  case body =>
    rintro l pre x bb V hbV hx hk hR hlt
    have x1 := x.2.1
    have x2 := x.2.2
    have hP : Bx V w1.heap.size #[.pointer (some ⟨p, 0, none⟩)] 130 := X7.of_block (hk.block X7.lt (by omega))
    have hLV : LandAt V p m n W H h c := hL.kpt hk (by omega) (by omega)
    have hcl := flC_le (h := h) pre
    have hWH : W * H ≤ 81 := Nat.mul_le_mul hW hH
    have HSN := Lib.hid (flC_snoc (h := h) pre x)
    generalize flC W H h pre = ct at hcl HSN hR
    have K0 := Kpt.refl w6.heap.size (fun k => k = w1.heap.size + 1) V
    have cx : V.cell? ⟨bb, 0, none⟩ = some (.int .i8 (x.1.1 : Int)) := hx.cell 0
    have cy : V.cell? ⟨bb, 1, none⟩ = some (.int .i8 (x.1.2 : Int)) := hx.cell 1
    have cp : V.cell? ⟨w1.heap.size, 0, none⟩ = some (.pointer (some ⟨p, 0, none⟩)) := hP.cell 0
    obtain ⟨l1, p1, q1, r1⟩ := hLV.1.gcells
    gi_wp2_with fail
    refine wp_region_held_round (S := (fun w' : World => w'.cell? ⟨w1.heap.size, 0, none⟩ = some (.pointer (some ⟨p, 0, none⟩)) ∧ w'.cell? ⟨bb, 0, none⟩ = some (.int .i8 (x.1.1 : Int)) ∧ w'.cell? ⟨bb, 1, none⟩ = some (.int .i8 (x.1.2 : Int)) ∧ w'.cell? ⟨p, 0, none⟩ = some (.int .i8 (W : Int)) ∧ w'.cell? ⟨p, 1, none⟩ = some (.int .i8 (H : Int)))) (by kernel_rfl) (by kernel_rfl) (by rintro ⟨_, _, h⟩; exact h) ⟨cp, cx, cy, p1, q1⟩ (fun hHeld => ?_)
    refine wpAnyH_take (i := 0) (oi := _) (v := ?_) rfl (by kernel_rfl) (by kernel_rfl) (by kernel_rfl) (fun _ _ _ h => h) (Or.inl ⟨by kernel_rfl, ?_⟩) (by assumption) ?_
    rotate_left
    · intro w hSw; (try dsimp only at hSw); go_simp; first | done | with_reducible rfl
    try simp only [List.getElem_toArray, List.getElem_cons_zero, List.getElem_cons_succ, Act.put, List.setIfInBounds_toArray, List.set_cons_zero, List.set_cons_succ]
    refine wpAnyH_take (i := 1) (oi := _) (v := ?_) rfl (by kernel_rfl) (by kernel_rfl) (by kernel_rfl) (fun _ _ _ h => h) (Or.inl ⟨by kernel_rfl, ?_⟩) (by assumption) ?_
    rotate_left
    · intro w hSw; (try dsimp only at hSw); go_simp; first | done | with_reducible rfl
    try simp only [List.getElem_toArray, List.getElem_cons_zero, List.getElem_cons_succ, Act.put, List.setIfInBounds_toArray, List.set_cons_zero, List.set_cons_succ]
    refine wpAnyH_take (i := 2) (oi := _) (v := ?_) rfl (by kernel_rfl) (by kernel_rfl) (by kernel_rfl) (fun _ _ _ h => h) (Or.inl ⟨by kernel_rfl, ?_⟩) (by assumption) ?_
    rotate_left
    · intro w hSw; (try dsimp only at hSw); go_simp; first | done | with_reducible rfl
    try simp only [List.getElem_toArray, List.getElem_cons_zero, List.getElem_cons_succ, Act.put, List.setIfInBounds_toArray, List.set_cons_zero, List.set_cons_succ]
    refine wpAnyH_take (i := 3) (oi := _) (v := ?_) rfl (by kernel_rfl) (by kernel_rfl) (by kernel_rfl) (fun _ _ _ h => h) (Or.inl ⟨by kernel_rfl, ?_⟩) (by assumption) ?_
    rotate_left
    · intro w hSw; (try dsimp only at hSw); go_simp; first | done | with_reducible rfl
    try simp only [List.getElem_toArray, List.getElem_cons_zero, List.getElem_cons_succ, Act.put, List.setIfInBounds_toArray, List.set_cons_zero, List.set_cons_succ]
    refine wpAnyH_take (i := 4) (oi := _) (v := ?_) rfl (by kernel_rfl) (by kernel_rfl) (by kernel_rfl) (fun _ _ _ h => h) (Or.inl ⟨by kernel_rfl, ?_⟩) (by assumption) ?_
    rotate_left
    · intro w hSw; (try dsimp only at hSw); go_simp; first | done | with_reducible rfl
    try simp only [List.getElem_toArray, List.getElem_cons_zero, List.getElem_cons_succ, Act.put, List.setIfInBounds_toArray, List.set_cons_zero, List.set_cons_succ]
    refine wpAnyH_take (i := 7) (oi := _) (v := ?_) rfl (by kernel_rfl) (by kernel_rfl) (by kernel_rfl) (fun _ _ _ h => h) (Or.inl ⟨by kernel_rfl, ?_⟩) (by assumption) ?_
    rotate_left
    · intro w hSw; (try dsimp only at hSw); go_simp; first | done | with_reducible rfl
    try simp only [List.getElem_toArray, List.getElem_cons_zero, List.getElem_cons_succ, Act.put, List.setIfInBounds_toArray, List.set_cons_zero, List.set_cons_succ]
    refine wpAnyH_ready (rs := [5]) (by kernel_rfl) (by simp) ?_
    refine AllReadyH.cons (o := _) rfl (fun K hK => ?_) AllReadyH.nil
    go_simp
    refine (ibes_any W H x.1.1 x.1.2 _ hW hH x1 x2).mono ?_
    rintro e w3 ⟨hb, v, rfl, OL⟩
    replace OL : OwnC w3 V.heap.size _ _ := OL
    have hL0 : ∀ q ∈ besL W H x.1.1 x.1.2, q.1 < W ∧ q.2 < H := fun q hq => besK_mem hq
    have hm4 : (besL W H x.1.1 x.1.2).length ≤ 4 := besK_length 4
    have hft : flS W H h x.1 = (besL W H x.1.1 x.1.2).countP (eqF h x.1) := rfl
    rw [hft] at HSN
    generalize besL W H x.1.1 x.1.2 = L at OL hL0 hm4 HSN
    obtain ⟨m2, hm2⟩ : ∃ m2, m2 = L.length := ⟨_, rfl⟩
    obtain ⟨A2, cap2, rfl, hA2⟩ := OL.form
    rw [← hm2] at OL hA2 hm4
    replace hLV := hLV.drew.next hb
    replace hP := hP.drew.below hb
    replace hx := hx.drew.below hb
    replace hR := hR.drew.below hb
    replace K0 := K0.drew.below hb
    have HL := Lib.hid hL0
    have HM := Lib.hid hm2
    rw [← hm2]
    clear hb hL0 hm2 cp cx cy l1 p1 q1 r1 hft
    have cp : w3.cell? ⟨w1.heap.size, 0, none⟩ = some (.pointer (some ⟨p, 0, none⟩)) := hP.cell 0
    have cx : w3.cell? ⟨bb, 0, none⟩ = some (.int .i8 (x.1.1 : Int)) := hx.cell 0
    have cy : w3.cell? ⟨bb, 1, none⟩ = some (.int .i8 (x.1.2 : Int)) := hx.cell 1
    obtain ⟨l1, p1, q1, r1⟩ := hLV.1.gcells
    refine hK.out _ _ ⟨cp, cx, cy, p1, q1⟩ (fun hHeld => ?_)
    clear hK K
    try simp only [List.getElem_toArray, List.getElem_cons_zero, List.getElem_cons_succ, Act.put, List.setIfInBounds_toArray, List.set_cons_zero, List.set_cons_succ]
    refine wpAnyH_take (i := 6) (oi := _) (v := ?_) rfl (by kernel_rfl) (by kernel_rfl) (by kernel_rfl) (fun _ _ _ h => h) (Or.inl ⟨by kernel_rfl, ?_⟩) (by assumption) ?_
    rotate_left
    · intro w hSw; (try dsimp only at hSw); go_simp; first | done | with_reducible rfl
    try simp only [List.getElem_toArray, List.getElem_cons_zero, List.getElem_cons_succ, Act.put, List.setIfInBounds_toArray, List.set_cons_zero, List.set_cons_succ]
    refine wpAnyH_done (by kernel_rfl) ?_ _
    clear l1 p1 q1 r1 cp cx cy
    have hsV : w1.heap.size + 1 < V.heap.size := Nat.lt_of_lt_of_le X8.lt hk.size
    gi_wp2_with fail
    gi_loopw [9, 31] (fun t9 t31 wr => ∃ k : Nat, k ≤ m2 ∧ t31 = .int .i64 k ∧ LandAt wr p m n W H h c ∧ Bx wr w1.heap.size #[.pointer (some ⟨p, 0, none⟩)] 130 ∧ Bx wr bb #[.int .i8 (x.1.1 : Int), .int .i8 (x.1.2 : Int)] 40 ∧ Kpt w6.heap.size (fun k => k = w1.heap.size + 1) V wr ∧
      OwnC wr V.heap.size (.slice A2 m2 cap2) L ∧ ∃ r : Nat, Bx wr (w1.heap.size + 1) #[.int .i64 (r : Int)] 2 ∧ r = ct + (L.take k).countP (eqF h x.1)) (fun t9 t31 _ => m2 - (intOf t31).toNat)
    case atStart => exact ⟨0, by omega, rfl, hLV, hP, hx, K0, OL, ct, hR, by simp⟩
    case round =>
      clear hLV hP hx K0 OL hR
      obtain ⟨k, hk2, rfl, hLV, hP, hx, K0, OL, r, hR, hrk⟩ := hrel
      obtain ⟨vi, rfl⟩ : ∃ vi : World, vi = wr := ⟨_, rfl⟩
      have hr4 : r ≤ ct + 4 := by
        have : (L.take k).countP (eqF h x.1) ≤ (L.take k).length := List.countP_le_length
        rw [List.length_take] at this
        omega
      have HRK := Lib.hid hrk
      clear hrk
      by_cases hlk : k < m2
      · have hki : (k : Int) < m2 := by omega
        obtain ⟨gb, rfl, hgb, _⟩ := hA2 (by omega)
        have hq : L[k]? = some (L[k]'(by rw [← HM.out]; exact hlk)) := List.getElem?_eq_getElem _
        obtain ⟨⟨a, b⟩, hq⟩ : ∃ q, L[k]? = some q := ⟨_, hq⟩
        obtain ⟨hqa, hqb⟩ := HL.out _ (List.mem_of_getElem? hq)
        dsimp only at hqa hqb
        obtain ⟨d0, d1⟩ := OwnC.get OL HM.out.symm hq
        dsimp only at d0 d1
        have HQ := Lib.hid hq
        clear hq
        have hsc : w1.heap.size + 1 < vi.heap.size := hR.lt
        have Y9 := Bx.new vi #[.int .i8 (a : Int), .int .i8 (b : Int)] 40
        have v1 : ∃ v1 : World, v1 = vi.alloc (.cells #[.int .i8 (a : Int), .int .i8 (b : Int)] 40) := ⟨_, rfl⟩
        gi_wp2_with fail
        replace hLV := hLV.next (al (Below.refl vi.heap.size vi) (.cells #[.int .i8 (a : Int), .int .i8 (b : Int)] 40))
        replace hP := hP.alloc (.cells #[.int .i8 (a : Int), .int .i8 (b : Int)] 40)
        replace hx := hx.alloc (.cells #[.int .i8 (a : Int), .int .i8 (b : Int)] 40)
        replace hR := hR.alloc (.cells #[.int .i8 (a : Int), .int .i8 (b : Int)] 40)
        replace K0 := K0.alloc (.cells #[.int .i8 (a : Int), .int .i8 (b : Int)] 40)
        replace OL := OwnC.alloc OL (.cells #[.int .i8 (a : Int), .int .i8 (b : Int)] 40)
        obtain ⟨v1, hv1⟩ := v1
        rw [← hv1] at Y9 hLV hP hx hR K0 OL ⊢
        clear hv1 d0 d1
        have cp : v1.cell? ⟨w1.heap.size, 0, none⟩ = some (.pointer (some ⟨p, 0, none⟩)) := hP.cell 0
        have cx : v1.cell? ⟨bb, 0, none⟩ = some (.int .i8 (x.1.1 : Int)) := hx.cell 0
        have cy : v1.cell? ⟨bb, 1, none⟩ = some (.int .i8 (x.1.2 : Int)) := hx.cell 1
        have e0 : v1.cell? ⟨vi.heap.size, 0, none⟩ = some (.int .i8 (a : Int)) := Y9.cell 0
        have e1 : v1.cell? ⟨vi.heap.size, 1, none⟩ = some (.int .i8 (b : Int)) := Y9.cell 1
        by_cases hless : (x.1.2 : Int) * 9 + x.1.1 < (b : Int) * 9 + a
        · by_cases he : h (x.1.2 * 9 + x.1.1) = h (b * 9 + a)
          · have hec : eqF h x.1 (a, b) = true := by unfold eqF htP; simp only [Bool.and_eq_true, decide_eq_true_eq, beq_iff_eq]; exact ⟨by omega, he⟩
            have HEC := Lib.hid hec
            have hbq : (h (x.1.2 * 9 + x.1.1) == h (b * 9 + a)) = true := by simpa using he
            clear he hec
            have hr81 : (r : Int) + 1 ≤ 1000 := by omega
            refine wp_region_held_round (S := (fun w' : World => w'.cell? ⟨w1.heap.size, 0, none⟩ = some (.pointer (some ⟨p, 0, none⟩)) ∧ w'.cell? ⟨bb, 0, none⟩ = some (.int .i8 (x.1.1 : Int)) ∧ w'.cell? ⟨bb, 1, none⟩ = some (.int .i8 (x.1.2 : Int)) ∧ w'.cell? ⟨vi.heap.size, 0, none⟩ = some (.int .i8 (a : Int)) ∧ w'.cell? ⟨vi.heap.size, 1, none⟩ = some (.int .i8 (b : Int)))) (by kernel_rfl) (by kernel_rfl) (by rintro ⟨_, _, h⟩; exact h) ⟨cp, cx, cy, e0, e1⟩ (fun hHeld => ?_)
            refine wpAnyH_take (i := 0) (oi := _) (v := ?_) rfl (by kernel_rfl) (by kernel_rfl) (by kernel_rfl) (fun _ _ _ h => h) (Or.inl ⟨by kernel_rfl, ?_⟩) (by assumption) ?_
            rotate_left
            · intro w hSw; (try dsimp only at hSw); go_simp; first | done | with_reducible rfl
            try simp only [List.getElem_toArray, List.getElem_cons_zero, List.getElem_cons_succ, Act.put, List.setIfInBounds_toArray, List.set_cons_zero, List.set_cons_succ]
            refine wpAnyH_take (i := 2) (oi := _) (v := ?_) rfl (by kernel_rfl) (by kernel_rfl) (by kernel_rfl) (fun _ _ _ h => h) (Or.inl ⟨by kernel_rfl, ?_⟩) (by assumption) ?_
            rotate_left
            · intro w hSw; (try dsimp only at hSw); go_simp; first | done | with_reducible rfl
            try simp only [List.getElem_toArray, List.getElem_cons_zero, List.getElem_cons_succ, Act.put, List.setIfInBounds_toArray, List.set_cons_zero, List.set_cons_succ]
            refine wpAnyH_ready (rs := [1]) (by kernel_rfl) (by simp) ?_
            refine AllReadyH.cons (o := _) rfl (fun K hK => ?_) AllReadyH.nil
            go_simp
            refine (numberOf_any (x.1.1 : Int) (x.1.2 : Int) _ (by omega) (by omega)).mono ?_
            rintro e w8 ⟨rfl, hb⟩
            replace hLV := hLV.drew.next hb
            replace hP := hP.drew.below hb
            replace hx := hx.drew.below hb
            replace hR := hR.drew.below hb
            replace Y9 := Y9.drew.below hb
            replace OL := OwnC.below OL.drew hb
            replace K0 := K0.drew.below hb
            clear hb cp cx cy e0 e1
            have cp := hP.cell 0
            have cx := hx.cell 0
            have cy := hx.cell 1
            have e0 := Y9.cell 0
            have e1 := Y9.cell 1
            simp only [List.getElem?_toArray, List.getElem?_cons_zero, List.getElem?_cons_succ] at cp cx cy e0 e1
            refine hK.out _ _ ⟨cp, cx, cy, e0, e1⟩ (fun hHeld => ?_)
            clear hK K
            try simp only [List.getElem_toArray, List.getElem_cons_zero, List.getElem_cons_succ, Act.put, List.setIfInBounds_toArray, List.set_cons_zero, List.set_cons_succ]
            refine wpAnyH_ready (rs := [3]) (by kernel_rfl) (by simp) ?_
            refine AllReadyH.cons (o := _) rfl (fun K hK => ?_) AllReadyH.nil
            go_simp
            refine (numberOf_any (a : Int) (b : Int) _ (by omega) (by omega)).mono ?_
            rintro e w8 ⟨rfl, hb⟩
            replace hLV := hLV.next hb
            replace hP := hP.below hb
            replace hx := hx.below hb
            replace hR := hR.below hb
            replace Y9 := Y9.below hb
            replace OL := OwnC.below OL hb
            replace K0 := K0.below hb
            clear hb cp cx cy e0 e1
            have cp := hP.cell 0
            have cx := hx.cell 0
            have cy := hx.cell 1
            have e0 := Y9.cell 0
            have e1 := Y9.cell 1
            simp only [List.getElem?_toArray, List.getElem?_cons_zero, List.getElem?_cons_succ] at cp cx cy e0 e1
            refine hK.out _ _ ⟨cp, cx, cy, e0, e1⟩ (fun hHeld => ?_)
            clear hK K
            try simp only [List.getElem_toArray, List.getElem_cons_zero, List.getElem_cons_succ, Act.put, List.setIfInBounds_toArray, List.set_cons_zero, List.set_cons_succ]
            refine wpAnyH_take (i := 4) (oi := _) (v := ?_) rfl (by kernel_rfl) (by kernel_rfl) (by kernel_rfl) (fun _ _ _ h => h) (Or.inl ⟨by kernel_rfl, ?_⟩) (by assumption) ?_
            rotate_left
            · intro w hSw; (try dsimp only at hSw); go_simp; first | done | with_reducible rfl
            try simp only [List.getElem_toArray, List.getElem_cons_zero, List.getElem_cons_succ, Act.put, List.setIfInBounds_toArray, List.set_cons_zero, List.set_cons_succ]
            refine wpAnyH_take (i := 5) (oi := _) (v := ?_) rfl (by kernel_rfl) (by kernel_rfl) (by kernel_rfl) (fun _ _ _ h => h) (Or.inl ⟨by kernel_rfl, ?_⟩) (by assumption) ?_
            rotate_left
            · intro w hSw; (try dsimp only at hSw); go_simp; first | done | with_reducible rfl
            try simp only [List.getElem_toArray, List.getElem_cons_zero, List.getElem_cons_succ, Act.put, List.setIfInBounds_toArray, List.set_cons_zero, List.set_cons_succ]
            refine wpAnyH_take (i := 6) (oi := _) (v := ?_) rfl (by kernel_rfl) (by kernel_rfl) (by kernel_rfl) (fun _ _ _ h => h) (Or.inl ⟨by kernel_rfl, ?_⟩) (by assumption) ?_
            rotate_left
            · intro w hSw; (try dsimp only at hSw); go_simp; first | done | with_reducible rfl
            try simp only [List.getElem_toArray, List.getElem_cons_zero, List.getElem_cons_succ, Act.put, List.setIfInBounds_toArray, List.set_cons_zero, List.set_cons_succ]
            refine wpAnyH_take (i := 7) (oi := _) (v := ?_) rfl (by kernel_rfl) (by kernel_rfl) (by kernel_rfl) (fun _ _ _ h => h) (Or.inl ⟨by kernel_rfl, ?_⟩) (by assumption) ?_
            rotate_left
            · intro w hSw; (try dsimp only at hSw); go_simp; first | done | with_reducible rfl
            try simp only [List.getElem_toArray, List.getElem_cons_zero, List.getElem_cons_succ, Act.put, List.setIfInBounds_toArray, List.set_cons_zero, List.set_cons_succ]
            refine wpAnyH_take (i := 8) (oi := _) (v := ?_) rfl (by kernel_rfl) (by kernel_rfl) (by kernel_rfl) (fun _ _ _ h => h) (Or.inl ⟨by kernel_rfl, ?_⟩) (by assumption) ?_
            rotate_left
            · intro w hSw; (try dsimp only at hSw); go_simp; first | done | with_reducible rfl
            try simp only [List.getElem_toArray, List.getElem_cons_zero, List.getElem_cons_succ, Act.put, List.setIfInBounds_toArray, List.set_cons_zero, List.set_cons_succ]
            refine wpAnyH_take (i := 9) (oi := _) (v := ?_) rfl (by kernel_rfl) (by kernel_rfl) (by kernel_rfl) (fun _ _ _ h => h) (Or.inl ⟨by kernel_rfl, ?_⟩) (by assumption) ?_
            rotate_left
            · intro w hSw; (try dsimp only at hSw); go_simp; first | done | with_reducible rfl
            try simp only [List.getElem_toArray, List.getElem_cons_zero, List.getElem_cons_succ, Act.put, List.setIfInBounds_toArray, List.set_cons_zero, List.set_cons_succ]
            refine wpAnyH_take (i := 11) (oi := _) (v := ?_) rfl (by kernel_rfl) (by kernel_rfl) (by kernel_rfl) (fun _ _ _ h => h) (Or.inl ⟨by kernel_rfl, ?_⟩) (by assumption) ?_
            rotate_left
            · intro w hSw; (try dsimp only at hSw); go_simp; first | done | with_reducible rfl
            try simp only [List.getElem_toArray, List.getElem_cons_zero, List.getElem_cons_succ, Act.put, List.setIfInBounds_toArray, List.set_cons_zero, List.set_cons_succ]
            refine wpAnyH_take (i := 12) (oi := _) (v := ?_) rfl (by kernel_rfl) (by kernel_rfl) (by kernel_rfl) (fun _ _ _ h => h) (Or.inl ⟨by kernel_rfl, ?_⟩) (by assumption) ?_
            rotate_left
            · intro w hSw; (try dsimp only at hSw); go_simp; first | done | with_reducible rfl
            try simp only [List.getElem_toArray, List.getElem_cons_zero, List.getElem_cons_succ, Act.put, List.setIfInBounds_toArray, List.set_cons_zero, List.set_cons_succ]
            refine wpAnyH_take (i := 13) (oi := _) (v := ?_) rfl (by kernel_rfl) (by kernel_rfl) (by kernel_rfl) (fun _ _ _ h => h) (Or.inl ⟨by kernel_rfl, ?_⟩) (by assumption) ?_
            rotate_left
            · intro w hSw; (try dsimp only at hSw); go_simp; first | done | with_reducible rfl
            try simp only [List.getElem_toArray, List.getElem_cons_zero, List.getElem_cons_succ, Act.put, List.setIfInBounds_toArray, List.set_cons_zero, List.set_cons_succ]
            refine wpAnyH_take (i := 14) (oi := _) (v := ?_) rfl (by kernel_rfl) (by kernel_rfl) (by kernel_rfl) (fun _ _ _ h => h) (Or.inl ⟨by kernel_rfl, ?_⟩) (by assumption) ?_
            rotate_left
            · intro w hSw; (try dsimp only at hSw); go_simp; first | done | with_reducible rfl
            try simp only [List.getElem_toArray, List.getElem_cons_zero, List.getElem_cons_succ, Act.put, List.setIfInBounds_toArray, List.set_cons_zero, List.set_cons_succ]
            refine wpAnyH_ready (rs := [10]) (by kernel_rfl) (by simp) ?_
            refine AllReadyH.cons (o := _) rfl (fun K hK => ?_) AllReadyH.nil
            go_simp
            refine (reliefAt_any p 2 x.1.1 x.1.2 _ _ (by omega) (by omega) (HH.out _) (hLV.1.hcell (by omega) (by omega))).mono ?_
            rintro e w8 ⟨rfl, hb⟩
            replace hLV := hLV.next hb
            replace hP := hP.below hb
            replace hx := hx.below hb
            replace hR := hR.below hb
            replace Y9 := Y9.below hb
            replace OL := OwnC.below OL hb
            replace K0 := K0.below hb
            clear hb cp cx cy e0 e1
            have cp := hP.cell 0
            have cx := hx.cell 0
            have cy := hx.cell 1
            have e0 := Y9.cell 0
            have e1 := Y9.cell 1
            simp only [List.getElem?_toArray, List.getElem?_cons_zero, List.getElem?_cons_succ] at cp cx cy e0 e1
            refine hK.out _ _ ⟨cp, cx, cy, e0, e1⟩ (fun hHeld => ?_)
            clear hK K
            try simp only [List.getElem_toArray, List.getElem_cons_zero, List.getElem_cons_succ, Act.put, List.setIfInBounds_toArray, List.set_cons_zero, List.set_cons_succ]
            refine wpAnyH_ready (rs := [15]) (by kernel_rfl) (by simp) ?_
            refine AllReadyH.cons (o := _) rfl (fun K hK => ?_) AllReadyH.nil
            go_simp
            refine (reliefAt_any p 2 a b _ _ (by omega) (by omega) (HH.out _) (hLV.1.hcell (by omega) (by omega))).mono ?_
            rintro e w8 ⟨rfl, hb⟩
            replace hLV := hLV.next hb
            replace hP := hP.below hb
            replace hx := hx.below hb
            replace hR := hR.below hb
            replace Y9 := Y9.below hb
            replace OL := OwnC.below OL hb
            replace K0 := K0.below hb
            clear hb cp cx cy e0 e1
            have cp := hP.cell 0
            have cx := hx.cell 0
            have cy := hx.cell 1
            have e0 := Y9.cell 0
            have e1 := Y9.cell 1
            simp only [List.getElem?_toArray, List.getElem?_cons_zero, List.getElem?_cons_succ] at cp cx cy e0 e1
            refine hK.out _ _ ⟨cp, cx, cy, e0, e1⟩ (fun hHeld => ?_)
            clear hK K
            try simp only [List.getElem_toArray, List.getElem_cons_zero, List.getElem_cons_succ, Act.put, List.setIfInBounds_toArray, List.set_cons_zero, List.set_cons_succ]
            refine wpAnyH_take (i := 16) (oi := _) (v := ?_) rfl (by kernel_rfl) (by kernel_rfl) (by kernel_rfl) (fun _ _ _ h => h) (Or.inl ⟨by kernel_rfl, ?_⟩) (by assumption) ?_
            rotate_left
            · intro w hSw; (try dsimp only at hSw); go_simp; first | done | with_reducible rfl
            try simp only [List.getElem_toArray, List.getElem_cons_zero, List.getElem_cons_succ, Act.put, List.setIfInBounds_toArray, List.set_cons_zero, List.set_cons_succ]
            refine wpAnyH_take (i := 17) (oi := _) (v := ?_) rfl (by kernel_rfl) (by kernel_rfl) (by kernel_rfl) (fun _ _ _ h => h) (Or.inl ⟨by kernel_rfl, ?_⟩) (by assumption) ?_
            rotate_left
            · intro w hSw; (try dsimp only at hSw); go_simp; first | done | with_reducible rfl
            try simp only [List.getElem_toArray, List.getElem_cons_zero, List.getElem_cons_succ, Act.put, List.setIfInBounds_toArray, List.set_cons_zero, List.set_cons_succ]
            refine wpAnyH_done (by kernel_rfl) ?_ _

            have cR := hR.cell 0
            have fR := hR.frozen 0
            simp only [List.getElem?_toArray, List.getElem?_cons_zero] at cR
            clear cp cx cy e0 e1
            gi_wp2
            refine ⟨⟨k + 1, by omega, by first | go_num | simp, hLV.of_block (Below.heap_setCell _ _ _ _ (by simp; omega)) (Below.heap_setCell _ _ _ _ (by simp; omega)), hP.other _ (by omega), hx.other _ (by omega), K0.setCell rfl _ _, OwnC.setOther OL hsV, r + 1, ?_, ?_⟩, by simp [intOf]; omega⟩
            · have := hR.set 0 (.int .i64 (((r + 1 : Nat)) : Int))
              simpa using this
            · rw [take_snoc HQ.out, List.countP_append, HRK.out]
              simp [HEC.out]
              omega
          · have hec : eqF h x.1 (a, b) = false := by unfold eqF htP; simp only [Bool.and_eq_false_iff, beq_eq_false_iff_ne]; exact .inr he
            have HEC := Lib.hid hec
            have hbq : (h (x.1.2 * 9 + x.1.1) == h (b * 9 + a)) = false := by simpa using he
            clear he hec
            refine wp_region_held_round (S := (fun w' : World => w'.cell? ⟨w1.heap.size, 0, none⟩ = some (.pointer (some ⟨p, 0, none⟩)) ∧ w'.cell? ⟨bb, 0, none⟩ = some (.int .i8 (x.1.1 : Int)) ∧ w'.cell? ⟨bb, 1, none⟩ = some (.int .i8 (x.1.2 : Int)) ∧ w'.cell? ⟨vi.heap.size, 0, none⟩ = some (.int .i8 (a : Int)) ∧ w'.cell? ⟨vi.heap.size, 1, none⟩ = some (.int .i8 (b : Int)))) (by kernel_rfl) (by kernel_rfl) (by rintro ⟨_, _, h⟩; exact h) ⟨cp, cx, cy, e0, e1⟩ (fun hHeld => ?_)
            refine wpAnyH_take (i := 0) (oi := _) (v := ?_) rfl (by kernel_rfl) (by kernel_rfl) (by kernel_rfl) (fun _ _ _ h => h) (Or.inl ⟨by kernel_rfl, ?_⟩) (by assumption) ?_
            rotate_left
            · intro w hSw; (try dsimp only at hSw); go_simp; first | done | with_reducible rfl
            try simp only [List.getElem_toArray, List.getElem_cons_zero, List.getElem_cons_succ, Act.put, List.setIfInBounds_toArray, List.set_cons_zero, List.set_cons_succ]
            refine wpAnyH_take (i := 2) (oi := _) (v := ?_) rfl (by kernel_rfl) (by kernel_rfl) (by kernel_rfl) (fun _ _ _ h => h) (Or.inl ⟨by kernel_rfl, ?_⟩) (by assumption) ?_
            rotate_left
            · intro w hSw; (try dsimp only at hSw); go_simp; first | done | with_reducible rfl
            try simp only [List.getElem_toArray, List.getElem_cons_zero, List.getElem_cons_succ, Act.put, List.setIfInBounds_toArray, List.set_cons_zero, List.set_cons_succ]
            refine wpAnyH_ready (rs := [1]) (by kernel_rfl) (by simp) ?_
            refine AllReadyH.cons (o := _) rfl (fun K hK => ?_) AllReadyH.nil
            go_simp
            refine (numberOf_any (x.1.1 : Int) (x.1.2 : Int) _ (by omega) (by omega)).mono ?_
            rintro e w8 ⟨rfl, hb⟩
            replace hLV := hLV.drew.next hb
            replace hP := hP.drew.below hb
            replace hx := hx.drew.below hb
            replace hR := hR.drew.below hb
            replace Y9 := Y9.drew.below hb
            replace OL := OwnC.below OL.drew hb
            replace K0 := K0.drew.below hb
            clear hb cp cx cy e0 e1
            have cp := hP.cell 0
            have cx := hx.cell 0
            have cy := hx.cell 1
            have e0 := Y9.cell 0
            have e1 := Y9.cell 1
            simp only [List.getElem?_toArray, List.getElem?_cons_zero, List.getElem?_cons_succ] at cp cx cy e0 e1
            refine hK.out _ _ ⟨cp, cx, cy, e0, e1⟩ (fun hHeld => ?_)
            clear hK K
            try simp only [List.getElem_toArray, List.getElem_cons_zero, List.getElem_cons_succ, Act.put, List.setIfInBounds_toArray, List.set_cons_zero, List.set_cons_succ]
            refine wpAnyH_ready (rs := [3]) (by kernel_rfl) (by simp) ?_
            refine AllReadyH.cons (o := _) rfl (fun K hK => ?_) AllReadyH.nil
            go_simp
            refine (numberOf_any (a : Int) (b : Int) _ (by omega) (by omega)).mono ?_
            rintro e w8 ⟨rfl, hb⟩
            replace hLV := hLV.next hb
            replace hP := hP.below hb
            replace hx := hx.below hb
            replace hR := hR.below hb
            replace Y9 := Y9.below hb
            replace OL := OwnC.below OL hb
            replace K0 := K0.below hb
            clear hb cp cx cy e0 e1
            have cp := hP.cell 0
            have cx := hx.cell 0
            have cy := hx.cell 1
            have e0 := Y9.cell 0
            have e1 := Y9.cell 1
            simp only [List.getElem?_toArray, List.getElem?_cons_zero, List.getElem?_cons_succ] at cp cx cy e0 e1
            refine hK.out _ _ ⟨cp, cx, cy, e0, e1⟩ (fun hHeld => ?_)
            clear hK K
            try simp only [List.getElem_toArray, List.getElem_cons_zero, List.getElem_cons_succ, Act.put, List.setIfInBounds_toArray, List.set_cons_zero, List.set_cons_succ]
            refine wpAnyH_take (i := 4) (oi := _) (v := ?_) rfl (by kernel_rfl) (by kernel_rfl) (by kernel_rfl) (fun _ _ _ h => h) (Or.inl ⟨by kernel_rfl, ?_⟩) (by assumption) ?_
            rotate_left
            · intro w hSw; (try dsimp only at hSw); go_simp; first | done | with_reducible rfl
            try simp only [List.getElem_toArray, List.getElem_cons_zero, List.getElem_cons_succ, Act.put, List.setIfInBounds_toArray, List.set_cons_zero, List.set_cons_succ]
            refine wpAnyH_take (i := 5) (oi := _) (v := ?_) rfl (by kernel_rfl) (by kernel_rfl) (by kernel_rfl) (fun _ _ _ h => h) (Or.inl ⟨by kernel_rfl, ?_⟩) (by assumption) ?_
            rotate_left
            · intro w hSw; (try dsimp only at hSw); go_simp; first | done | with_reducible rfl
            try simp only [List.getElem_toArray, List.getElem_cons_zero, List.getElem_cons_succ, Act.put, List.setIfInBounds_toArray, List.set_cons_zero, List.set_cons_succ]
            refine wpAnyH_take (i := 6) (oi := _) (v := ?_) rfl (by kernel_rfl) (by kernel_rfl) (by kernel_rfl) (fun _ _ _ h => h) (Or.inl ⟨by kernel_rfl, ?_⟩) (by assumption) ?_
            rotate_left
            · intro w hSw; (try dsimp only at hSw); go_simp; first | done | with_reducible rfl
            try simp only [List.getElem_toArray, List.getElem_cons_zero, List.getElem_cons_succ, Act.put, List.setIfInBounds_toArray, List.set_cons_zero, List.set_cons_succ]
            refine wpAnyH_take (i := 7) (oi := _) (v := ?_) rfl (by kernel_rfl) (by kernel_rfl) (by kernel_rfl) (fun _ _ _ h => h) (Or.inl ⟨by kernel_rfl, ?_⟩) (by assumption) ?_
            rotate_left
            · intro w hSw; (try dsimp only at hSw); go_simp; first | done | with_reducible rfl
            try simp only [List.getElem_toArray, List.getElem_cons_zero, List.getElem_cons_succ, Act.put, List.setIfInBounds_toArray, List.set_cons_zero, List.set_cons_succ]
            refine wpAnyH_take (i := 8) (oi := _) (v := ?_) rfl (by kernel_rfl) (by kernel_rfl) (by kernel_rfl) (fun _ _ _ h => h) (Or.inl ⟨by kernel_rfl, ?_⟩) (by assumption) ?_
            rotate_left
            · intro w hSw; (try dsimp only at hSw); go_simp; first | done | with_reducible rfl
            try simp only [List.getElem_toArray, List.getElem_cons_zero, List.getElem_cons_succ, Act.put, List.setIfInBounds_toArray, List.set_cons_zero, List.set_cons_succ]
            refine wpAnyH_take (i := 9) (oi := _) (v := ?_) rfl (by kernel_rfl) (by kernel_rfl) (by kernel_rfl) (fun _ _ _ h => h) (Or.inl ⟨by kernel_rfl, ?_⟩) (by assumption) ?_
            rotate_left
            · intro w hSw; (try dsimp only at hSw); go_simp; first | done | with_reducible rfl
            try simp only [List.getElem_toArray, List.getElem_cons_zero, List.getElem_cons_succ, Act.put, List.setIfInBounds_toArray, List.set_cons_zero, List.set_cons_succ]
            refine wpAnyH_take (i := 11) (oi := _) (v := ?_) rfl (by kernel_rfl) (by kernel_rfl) (by kernel_rfl) (fun _ _ _ h => h) (Or.inl ⟨by kernel_rfl, ?_⟩) (by assumption) ?_
            rotate_left
            · intro w hSw; (try dsimp only at hSw); go_simp; first | done | with_reducible rfl
            try simp only [List.getElem_toArray, List.getElem_cons_zero, List.getElem_cons_succ, Act.put, List.setIfInBounds_toArray, List.set_cons_zero, List.set_cons_succ]
            refine wpAnyH_take (i := 12) (oi := _) (v := ?_) rfl (by kernel_rfl) (by kernel_rfl) (by kernel_rfl) (fun _ _ _ h => h) (Or.inl ⟨by kernel_rfl, ?_⟩) (by assumption) ?_
            rotate_left
            · intro w hSw; (try dsimp only at hSw); go_simp; first | done | with_reducible rfl
            try simp only [List.getElem_toArray, List.getElem_cons_zero, List.getElem_cons_succ, Act.put, List.setIfInBounds_toArray, List.set_cons_zero, List.set_cons_succ]
            refine wpAnyH_take (i := 13) (oi := _) (v := ?_) rfl (by kernel_rfl) (by kernel_rfl) (by kernel_rfl) (fun _ _ _ h => h) (Or.inl ⟨by kernel_rfl, ?_⟩) (by assumption) ?_
            rotate_left
            · intro w hSw; (try dsimp only at hSw); go_simp; first | done | with_reducible rfl
            try simp only [List.getElem_toArray, List.getElem_cons_zero, List.getElem_cons_succ, Act.put, List.setIfInBounds_toArray, List.set_cons_zero, List.set_cons_succ]
            refine wpAnyH_take (i := 14) (oi := _) (v := ?_) rfl (by kernel_rfl) (by kernel_rfl) (by kernel_rfl) (fun _ _ _ h => h) (Or.inl ⟨by kernel_rfl, ?_⟩) (by assumption) ?_
            rotate_left
            · intro w hSw; (try dsimp only at hSw); go_simp; first | done | with_reducible rfl
            try simp only [List.getElem_toArray, List.getElem_cons_zero, List.getElem_cons_succ, Act.put, List.setIfInBounds_toArray, List.set_cons_zero, List.set_cons_succ]
            refine wpAnyH_ready (rs := [10]) (by kernel_rfl) (by simp) ?_
            refine AllReadyH.cons (o := _) rfl (fun K hK => ?_) AllReadyH.nil
            go_simp
            refine (reliefAt_any p 2 x.1.1 x.1.2 _ _ (by omega) (by omega) (HH.out _) (hLV.1.hcell (by omega) (by omega))).mono ?_
            rintro e w8 ⟨rfl, hb⟩
            replace hLV := hLV.next hb
            replace hP := hP.below hb
            replace hx := hx.below hb
            replace hR := hR.below hb
            replace Y9 := Y9.below hb
            replace OL := OwnC.below OL hb
            replace K0 := K0.below hb
            clear hb cp cx cy e0 e1
            have cp := hP.cell 0
            have cx := hx.cell 0
            have cy := hx.cell 1
            have e0 := Y9.cell 0
            have e1 := Y9.cell 1
            simp only [List.getElem?_toArray, List.getElem?_cons_zero, List.getElem?_cons_succ] at cp cx cy e0 e1
            refine hK.out _ _ ⟨cp, cx, cy, e0, e1⟩ (fun hHeld => ?_)
            clear hK K
            try simp only [List.getElem_toArray, List.getElem_cons_zero, List.getElem_cons_succ, Act.put, List.setIfInBounds_toArray, List.set_cons_zero, List.set_cons_succ]
            refine wpAnyH_ready (rs := [15]) (by kernel_rfl) (by simp) ?_
            refine AllReadyH.cons (o := _) rfl (fun K hK => ?_) AllReadyH.nil
            go_simp
            refine (reliefAt_any p 2 a b _ _ (by omega) (by omega) (HH.out _) (hLV.1.hcell (by omega) (by omega))).mono ?_
            rintro e w8 ⟨rfl, hb⟩
            replace hLV := hLV.next hb
            replace hP := hP.below hb
            replace hx := hx.below hb
            replace hR := hR.below hb
            replace Y9 := Y9.below hb
            replace OL := OwnC.below OL hb
            replace K0 := K0.below hb
            clear hb cp cx cy e0 e1
            have cp := hP.cell 0
            have cx := hx.cell 0
            have cy := hx.cell 1
            have e0 := Y9.cell 0
            have e1 := Y9.cell 1
            simp only [List.getElem?_toArray, List.getElem?_cons_zero, List.getElem?_cons_succ] at cp cx cy e0 e1
            refine hK.out _ _ ⟨cp, cx, cy, e0, e1⟩ (fun hHeld => ?_)
            clear hK K
            try simp only [List.getElem_toArray, List.getElem_cons_zero, List.getElem_cons_succ, Act.put, List.setIfInBounds_toArray, List.set_cons_zero, List.set_cons_succ]
            refine wpAnyH_take (i := 16) (oi := _) (v := ?_) rfl (by kernel_rfl) (by kernel_rfl) (by kernel_rfl) (fun _ _ _ h => h) (Or.inl ⟨by kernel_rfl, ?_⟩) (by assumption) ?_
            rotate_left
            · intro w hSw; (try dsimp only at hSw); go_simp; first | done | with_reducible rfl
            try simp only [List.getElem_toArray, List.getElem_cons_zero, List.getElem_cons_succ, Act.put, List.setIfInBounds_toArray, List.set_cons_zero, List.set_cons_succ]
            refine wpAnyH_take (i := 17) (oi := _) (v := ?_) rfl (by kernel_rfl) (by kernel_rfl) (by kernel_rfl) (fun _ _ _ h => h) (Or.inl ⟨by kernel_rfl, ?_⟩) (by assumption) ?_
            rotate_left
            · intro w hSw; (try dsimp only at hSw); go_simp; first | done | with_reducible rfl
            try simp only [List.getElem_toArray, List.getElem_cons_zero, List.getElem_cons_succ, Act.put, List.setIfInBounds_toArray, List.set_cons_zero, List.set_cons_succ]
            refine wpAnyH_done (by kernel_rfl) ?_ _

            clear cp cx cy e0 e1
            gi_wp2
            refine ⟨⟨k + 1, by omega, by first | go_num | simp, hLV, hP, hx, K0, OL, r, hR, ?_⟩, by simp [intOf]; omega⟩
            rw [take_snoc HQ.out, List.countP_append, HRK.out]
            simp [HEC.out]
        · have hec : eqF h x.1 (a, b) = false := by unfold eqF; simp only [Bool.and_eq_false_iff, decide_eq_false_iff_not]; exact .inl (by omega)
          have HEC := Lib.hid hec
          clear hec
          refine wp_region_held_round (S := (fun w' : World => w'.cell? ⟨w1.heap.size, 0, none⟩ = some (.pointer (some ⟨p, 0, none⟩)) ∧ w'.cell? ⟨bb, 0, none⟩ = some (.int .i8 (x.1.1 : Int)) ∧ w'.cell? ⟨bb, 1, none⟩ = some (.int .i8 (x.1.2 : Int)) ∧ w'.cell? ⟨vi.heap.size, 0, none⟩ = some (.int .i8 (a : Int)) ∧ w'.cell? ⟨vi.heap.size, 1, none⟩ = some (.int .i8 (b : Int)))) (by kernel_rfl) (by kernel_rfl) (by rintro ⟨_, _, h⟩; exact h) ⟨cp, cx, cy, e0, e1⟩ (fun hHeld => ?_)
          refine wpAnyH_take (i := 0) (oi := _) (v := ?_) rfl (by kernel_rfl) (by kernel_rfl) (by kernel_rfl) (fun _ _ _ h => h) (Or.inl ⟨by kernel_rfl, ?_⟩) (by assumption) ?_
          rotate_left
          · intro w hSw; (try dsimp only at hSw); go_simp; first | done | with_reducible rfl
          try simp only [List.getElem_toArray, List.getElem_cons_zero, List.getElem_cons_succ, Act.put, List.setIfInBounds_toArray, List.set_cons_zero, List.set_cons_succ]
          refine wpAnyH_take (i := 2) (oi := _) (v := ?_) rfl (by kernel_rfl) (by kernel_rfl) (by kernel_rfl) (fun _ _ _ h => h) (Or.inl ⟨by kernel_rfl, ?_⟩) (by assumption) ?_
          rotate_left
          · intro w hSw; (try dsimp only at hSw); go_simp; first | done | with_reducible rfl
          try simp only [List.getElem_toArray, List.getElem_cons_zero, List.getElem_cons_succ, Act.put, List.setIfInBounds_toArray, List.set_cons_zero, List.set_cons_succ]
          refine wpAnyH_ready (rs := [1]) (by kernel_rfl) (by simp) ?_
          refine AllReadyH.cons (o := _) rfl (fun K hK => ?_) AllReadyH.nil
          go_simp
          refine (numberOf_any (x.1.1 : Int) (x.1.2 : Int) _ (by omega) (by omega)).mono ?_
          rintro e w8 ⟨rfl, hb⟩
          replace hLV := hLV.drew.next hb
          replace hP := hP.drew.below hb
          replace hx := hx.drew.below hb
          replace hR := hR.drew.below hb
          replace Y9 := Y9.drew.below hb
          replace OL := OwnC.below OL.drew hb
          replace K0 := K0.drew.below hb
          clear hb cp cx cy e0 e1
          have cp := hP.cell 0
          have cx := hx.cell 0
          have cy := hx.cell 1
          have e0 := Y9.cell 0
          have e1 := Y9.cell 1
          simp only [List.getElem?_toArray, List.getElem?_cons_zero, List.getElem?_cons_succ] at cp cx cy e0 e1
          refine hK.out _ _ ⟨cp, cx, cy, e0, e1⟩ (fun hHeld => ?_)
          clear hK K
          try simp only [List.getElem_toArray, List.getElem_cons_zero, List.getElem_cons_succ, Act.put, List.setIfInBounds_toArray, List.set_cons_zero, List.set_cons_succ]
          refine wpAnyH_ready (rs := [3]) (by kernel_rfl) (by simp) ?_
          refine AllReadyH.cons (o := _) rfl (fun K hK => ?_) AllReadyH.nil
          go_simp
          refine (numberOf_any (a : Int) (b : Int) _ (by omega) (by omega)).mono ?_
          rintro e w8 ⟨rfl, hb⟩
          replace hLV := hLV.next hb
          replace hP := hP.below hb
          replace hx := hx.below hb
          replace hR := hR.below hb
          replace Y9 := Y9.below hb
          replace OL := OwnC.below OL hb
          replace K0 := K0.below hb
          clear hb cp cx cy e0 e1
          have cp := hP.cell 0
          have cx := hx.cell 0
          have cy := hx.cell 1
          have e0 := Y9.cell 0
          have e1 := Y9.cell 1
          simp only [List.getElem?_toArray, List.getElem?_cons_zero, List.getElem?_cons_succ] at cp cx cy e0 e1
          refine hK.out _ _ ⟨cp, cx, cy, e0, e1⟩ (fun hHeld => ?_)
          clear hK K
          try simp only [List.getElem_toArray, List.getElem_cons_zero, List.getElem_cons_succ, Act.put, List.setIfInBounds_toArray, List.set_cons_zero, List.set_cons_succ]
          refine wpAnyH_take (i := 4) (oi := _) (v := ?_) rfl (by kernel_rfl) (by kernel_rfl) (by kernel_rfl) (fun _ _ _ h => h) (Or.inl ⟨by kernel_rfl, ?_⟩) (by assumption) ?_
          rotate_left
          · intro w hSw; (try dsimp only at hSw); go_simp; first | done | with_reducible rfl
          try simp only [List.getElem_toArray, List.getElem_cons_zero, List.getElem_cons_succ, Act.put, List.setIfInBounds_toArray, List.set_cons_zero, List.set_cons_succ]
          refine wpAnyH_take (i := 5) (oi := _) (v := ?_) rfl (by kernel_rfl) (by kernel_rfl) (by kernel_rfl) (fun _ _ _ h => h) (Or.inl ⟨by kernel_rfl, ?_⟩) (by assumption) ?_
          rotate_left
          · intro w hSw; (try dsimp only at hSw); go_simp; first | done | with_reducible rfl
          try simp only [List.getElem_toArray, List.getElem_cons_zero, List.getElem_cons_succ, Act.put, List.setIfInBounds_toArray, List.set_cons_zero, List.set_cons_succ]
          refine wpAnyH_take (i := 6) (oi := _) (v := undef) rfl (by kernel_rfl) (by kernel_rfl) (by kernel_rfl) (fun _ _ _ h => h) (Or.inr ⟨by kernel_rfl, rfl⟩) (by assumption) ?_
          try simp only [List.getElem_toArray, List.getElem_cons_zero, List.getElem_cons_succ, Act.put, List.setIfInBounds_toArray, List.set_cons_zero, List.set_cons_succ]
          refine wpAnyH_take (i := 7) (oi := _) (v := undef) rfl (by kernel_rfl) (by kernel_rfl) (by kernel_rfl) (fun _ _ _ h => h) (Or.inr ⟨by kernel_rfl, rfl⟩) (by assumption) ?_
          try simp only [List.getElem_toArray, List.getElem_cons_zero, List.getElem_cons_succ, Act.put, List.setIfInBounds_toArray, List.set_cons_zero, List.set_cons_succ]
          refine wpAnyH_take (i := 8) (oi := _) (v := undef) rfl (by kernel_rfl) (by kernel_rfl) (by kernel_rfl) (fun _ _ _ h => h) (Or.inr ⟨by kernel_rfl, rfl⟩) (by assumption) ?_
          try simp only [List.getElem_toArray, List.getElem_cons_zero, List.getElem_cons_succ, Act.put, List.setIfInBounds_toArray, List.set_cons_zero, List.set_cons_succ]
          refine wpAnyH_take (i := 9) (oi := _) (v := undef) rfl (by kernel_rfl) (by kernel_rfl) (by kernel_rfl) (fun _ _ _ h => h) (Or.inr ⟨by kernel_rfl, rfl⟩) (by assumption) ?_
          try simp only [List.getElem_toArray, List.getElem_cons_zero, List.getElem_cons_succ, Act.put, List.setIfInBounds_toArray, List.set_cons_zero, List.set_cons_succ]
          refine wpAnyH_take (i := 10) (oi := _) (v := undef) rfl (by kernel_rfl) (by kernel_rfl) (by kernel_rfl) (fun _ _ _ h => h) (Or.inr ⟨by kernel_rfl, rfl⟩) (by assumption) ?_
          try simp only [List.getElem_toArray, List.getElem_cons_zero, List.getElem_cons_succ, Act.put, List.setIfInBounds_toArray, List.set_cons_zero, List.set_cons_succ]
          refine wpAnyH_take (i := 11) (oi := _) (v := undef) rfl (by kernel_rfl) (by kernel_rfl) (by kernel_rfl) (fun _ _ _ h => h) (Or.inr ⟨by kernel_rfl, rfl⟩) (by assumption) ?_
          try simp only [List.getElem_toArray, List.getElem_cons_zero, List.getElem_cons_succ, Act.put, List.setIfInBounds_toArray, List.set_cons_zero, List.set_cons_succ]
          refine wpAnyH_take (i := 12) (oi := _) (v := undef) rfl (by kernel_rfl) (by kernel_rfl) (by kernel_rfl) (fun _ _ _ h => h) (Or.inr ⟨by kernel_rfl, rfl⟩) (by assumption) ?_
          try simp only [List.getElem_toArray, List.getElem_cons_zero, List.getElem_cons_succ, Act.put, List.setIfInBounds_toArray, List.set_cons_zero, List.set_cons_succ]
          refine wpAnyH_take (i := 13) (oi := _) (v := undef) rfl (by kernel_rfl) (by kernel_rfl) (by kernel_rfl) (fun _ _ _ h => h) (Or.inr ⟨by kernel_rfl, rfl⟩) (by assumption) ?_
          try simp only [List.getElem_toArray, List.getElem_cons_zero, List.getElem_cons_succ, Act.put, List.setIfInBounds_toArray, List.set_cons_zero, List.set_cons_succ]
          refine wpAnyH_take (i := 14) (oi := _) (v := undef) rfl (by kernel_rfl) (by kernel_rfl) (by kernel_rfl) (fun _ _ _ h => h) (Or.inr ⟨by kernel_rfl, rfl⟩) (by assumption) ?_
          try simp only [List.getElem_toArray, List.getElem_cons_zero, List.getElem_cons_succ, Act.put, List.setIfInBounds_toArray, List.set_cons_zero, List.set_cons_succ]
          refine wpAnyH_take (i := 15) (oi := _) (v := undef) rfl (by kernel_rfl) (by kernel_rfl) (by kernel_rfl) (fun _ _ _ h => h) (Or.inr ⟨by kernel_rfl, rfl⟩) (by assumption) ?_
          try simp only [List.getElem_toArray, List.getElem_cons_zero, List.getElem_cons_succ, Act.put, List.setIfInBounds_toArray, List.set_cons_zero, List.set_cons_succ]
          refine wpAnyH_take (i := 16) (oi := _) (v := undef) rfl (by kernel_rfl) (by kernel_rfl) (by kernel_rfl) (fun _ _ _ h => h) (Or.inr ⟨by kernel_rfl, rfl⟩) (by assumption) ?_
          try simp only [List.getElem_toArray, List.getElem_cons_zero, List.getElem_cons_succ, Act.put, List.setIfInBounds_toArray, List.set_cons_zero, List.set_cons_succ]
          refine wpAnyH_take (i := 17) (oi := _) (v := ?_) rfl (by kernel_rfl) (by kernel_rfl) (by kernel_rfl) (fun _ _ _ h => h) (Or.inl ⟨by kernel_rfl, ?_⟩) (by assumption) ?_
          rotate_left
          · intro w hSw; (try dsimp only at hSw); go_simp; first | done | with_reducible rfl
          try simp only [List.getElem_toArray, List.getElem_cons_zero, List.getElem_cons_succ, Act.put, List.setIfInBounds_toArray, List.set_cons_zero, List.set_cons_succ]
          refine wpAnyH_done (by kernel_rfl) ?_ _

          clear cp cx cy e0 e1
          gi_wp2
          refine ⟨⟨k + 1, by omega, by first | go_num | simp, hLV, hP, hx, K0, OL, r, hR, ?_⟩, by simp [intOf]; omega⟩
          rw [take_snoc HQ.out, List.countP_append, HRK.out]
          simp [HEC.out]
      · obtain rfl : k = m2 := by omega
        have hall : L.take k = L := by rw [HM.out, List.take_length]
        have hrk2 := HRK.out
        rw [hall] at hrk2
        have HR2 := Lib.hid hrk2
        clear hall hrk2
        gi_wp2
        refine ⟨K0, ?_⟩
        show Bx vi (w1.heap.size + 1) #[.int .i64 ((flC W H h (pre ++ [x]) : Nat) : Int)] _
        rw [HSN.out, ← HR2.out]
        exact hR
  case done =>
    rintro D V hD hk hR hdef
    have hsum := flC_all (h := h) hp (W * H) (Nat.le_refl _)
    rw [hsum] at hR
    obtain ⟨cs, hcs⟩ : ∃ cs, cs = sN (fun i => flS W H h (cl W i)) (W * H) := ⟨_, rfl⟩
    rw [← hcs] at hR
    have HCS := Lib.hid hcs
    have cR := hR.cell 0
    simp only [List.getElem?_toArray, List.getElem?_cons_zero] at cR
    clear hsum hcs
    gi_wp2
    have BB := B.trans ((hk.toBelow (k0 := w.heap.size) (fun k hk => by omega) B.size))
    refine ⟨by simp, .inl ⟨_, _, rfl, run_takeDeferred hdef, ?_⟩⟩
    exact ⟨.tuple #[.int .i64 (cs : Int), .int .i64 0], by simp [results, Try.results51, go_sem], BB.trans (belowK_b (w := w) (Nat.le_refl _) _ D _ _ (by have := B.size; omega) hdef rfl rfl), by rw [HCS.out]⟩
  case stop =>
    rintro D cc k V hD hkk h hdef
    exact h.elim

theorem both (X Y : Int) (h : Nat → Int) (n : Nat) (c : Nat → Int) (hX : -128 ≤ X ∧ X ≤ 127) (hY : -128 ≤ Y ∧ Y ≤ 127) (hh : ∀ p, -32768 ≤ h p ∧ h p ≤ 32767) (hc : ∀ j, -128 ≤ c j ∧ c j ≤ 127) (hm : n ≤ 1048576) :
    ∃ (z0 z1 : Int), (∀ (W : World) (g : Nat), Ac W g n c → Calls Try.prog 50 #[.agg (gV X Y h (.slice (some ⟨g, 0, none⟩) n n))] W fun e w' => Below W.heap.size W w' ∧ e = .returned (.tuple #[.int .i64 z0, .int .i64 z1])) ∧
      (∀ (W : World) (g : Nat), Ac W g n c → Calls Try.prog 51 #[.agg (gV X Y h (.slice (some ⟨g, 0, none⟩) n n))] W fun e w' => Below W.heap.size W w' ∧ e = .returned (.tuple #[.int .i64 z0, .int .i64 z1])) := by
  by_cases hv : GValid X Y h n c
  · obtain ⟨W', rfl⟩ := Int.eq_ofNat_of_zero_le (show 0 ≤ X by have := hv.1.1; omega)
    obtain ⟨H', rfl⟩ := Int.eq_ofNat_of_zero_le (show 0 ≤ Y by have := hv.1.2.1; omega)
    exact ⟨_, 0, fun W g A => spec_in W' H' h g n c W hh hc A hv, fun W g A => callsIn_wide.1 (impl_loop W' H' h g n c W hh hc A hv)⟩
  · exact ⟨0, 1, fun W g A => spec_bad X Y h g n c W hX hY hh hc hm A hv, fun W g A => impl_bad X Y h g n c W hX hY hh hc hm A hv⟩
end flatSteps
end Go.Proofs.Ytegnhpanlbfmdaa
