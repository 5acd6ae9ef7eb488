/-
  Both sides of RaiseAll answer the same. Conditions stand at each.
-/
import Derived.Test.YtegnhpanlbfmdaaRows
import Derived.Test.YtegnhpanlbfmdaaRaiseS
import Derived.Deep.Cut
import Derived.Deep.RegionHeld3
namespace Go.Proofs.Ytegnhpanlbfmdaa
open Go Go.ChangeShapes Go.WideShapes Go.ChangeAt Go.RowKit Go.Shelf
set_option linter.unusedVariables false
set_option linter.unusedSimpArgs false
set_option maxRecDepth 100000
set_option maxHeartbeats 4000000

attribute [local go_sem] Oper.semAt_some
namespace raiseAll
theorem wpListIn_store_box {P : Program} {F : Fence} {n : Nat} {ops : Array Oper} {rest : List Oper} {o : Oper} {a : Act} {w : World} {Q : Exit → Act → World → Prop} {b : Nat} {c c' : Array Value} {t : TypeId} (hB : Bx w b c t) (hgd : o.guard = none) (ty : TypeId) (x y : Operand) (ho : o.op = .store ty x y)
    (hx : a.eval x = .pointer (some ⟨b, 0, none⟩)) (hy : a.eval y = .agg c') (hi : (P.info? ty).map (·.size) = some c'.size) (hs : c.size = c'.size) (h1 : c'.all (·.oneCell') = true)
    (h : wpListIn F n P ops Q rest (a.put o.dst undef) (w.setRow b c')) : wpListIn F n P ops Q (o :: rest) a w := by
  have hB' : w.heap[b]? = some (.cells c t (0, 0)) := hB
  refine wpListIn_plain hgd fun K hK' => ?_
  unfold Oper.wpIn
  refine ⟨?_, ?_⟩
  · simp [Oper.about, ho]
  · rw [Oper.semAt_plain F _ _ (by rw [ho]; intro c hc'; cases hc')]
    simp only [execOp, ho, hx, hy, Instr.storeAt, Instr.sureAddr, Sem.run_bind, Sem.run_pure, Result.andThen_ok, run_storeVar_row w b t ty c c' hB' hi hs h1]
    exact hK' _ _ h
theorem Ac.kpt {B : Nat} {M : Nat → Prop} {W V : World} {g n : Nat} {c : Nat → Int} (h : Ac W g n c) (k : Kpt B M W V) (hg : ¬ M g) : Ac V g n c := h.kept k.size (k.block h.1 hg)
theorem deferred_row {V : World} {D b : Nat} (hd : V.heap[D]? = some (.deferred (some []))) (cs : Array Value) (hne : D ≠ b) : (V.setRow b cs).heap[D]? = some (.deferred (some [])) := (setRow_other V b D cs hne).trans hd
theorem OwnG.put {V : World} {base n D : Nat} {v : Value} {c : Nat → Int} (h : OwnG V base v n c) (hd : V.heap[D]? = some (.deferred (some []))) : OwnG (V.putObj D (.deferred none)) base v n c := by
  refine World.ownsRow.kept h (grownBy_putObj' V D (.deferred none)) ?_
  rcases h.2 with ⟨rfl, _⟩ | ⟨g, cap, cur, rfl, _, hw, _⟩
  · exact .inl rfl
  · right
    intro e
    injection e with e
    subst e
    rw [hw] at hd
    cases hd
theorem impl_loop (W H : Nat) (h : Nat → Int) (g n : Nat) (c : Nat → Int) (k : Int) (w : World) (hh : ∀ p, -32768 ≤ h p ∧ h p ≤ 32767) (hc : ∀ j, -128 ≤ c j ∧ c j ≤ 127) (hA : Ac w g n c) (hv : GValid W H h n c) (hk : -200 ≤ k ∧ k ≤ 200) (rX rY : Int) (rh : Nat → Int) (z : Int) (nn : Nat) (ff : Nat → Int) (hz : (GValid W H (rH W H h k) n c ∧ rX = W ∧ rY = H ∧ rh = rH W H h k ∧ z = 0 ∧ nn = n ∧ ff = c) ∨ (¬ GValid W H (rH W H h k) n c ∧ rX = 0 ∧ rY = 0 ∧ rh = (fun _ => 0) ∧ z = 3 ∧ nn = 0 ∧ ff = (fun _ => 0))) :
    CallsIn Fence.wide 7 Try.prog 71 #[.agg (gV W H h (.slice (some ⟨g, 0, none⟩) n n)), .int .i64 k] w fun e w' => Below w.heap.size w w' ∧ ∃ v, e = .returned (.tuple #[.agg (gV rX rY rh v), .int .i64 z]) ∧ HasSlice .i8 2 w' w.heap.size v nn ff := by
  have hro : Fence.wide.round = none := rfl
  have hht := hv.2.1
  have HHT := Lib.hid hht
  have HGL := Lib.hid hv.2.2
  clear hht
  have hX : 1 ≤ (W : Int) ∧ (W : Int) ≤ 9 := hv.1.1
  have hY : 1 ≤ (H : Int) ∧ (H : Int) ≤ 9 := hv.1.2.1
  have h8 : n ≤ 8 := hv.1.2.2
  have hW : W ≤ 9 := by omega
  have hH : H ≤ 9 := by omega
  have hts := hts_of hW hH hv.2.1
  have HT := Lib.hid hts
  have HV := Lib.hid hv
  have HH := Lib.hid hh
  have HC := Lib.hid hc
  have HZ := Lib.hid hz
  have HRB := Lib.hid (fun p => (rU_all (W := W) (H := H) (h := h) (k := k) p) ▸ rU_in (i := W * H) (p := p) hh hts hW hk)
  clear hv hh hc hz hts
  have hp : 0 < W ∧ 0 < H := by omega
  have hlo : ¬ k < -200 := by omega
  have hhi : ¬ 200 < k := by omega
  refine callsIn_of_wp_marks Try.func71 rfl trivial ?_ hro
  simp only [Try.ntmps71, List.size_toArray, List.length_cons, List.length_nil, Nat.reduceAdd, Nat.reduceSub, Array.replicate_succ, Array.replicate_zero, List.push_toArray, List.append_toArray, List.nil_append, List.cons_append]
  have X2 := ((Bx.new w (gV W H h (.slice (some ⟨g, 0, none⟩) n n)) 33).alloc (.cells #[.int .i64 k] 2)).alloc (.cells Try.zeroCells33 33)
  have X3 := (Bx.newAt (w.alloc (.cells (gV W H h (.slice (some ⟨g, 0, none⟩) n n)) 33)) (w.heap.size + 1) #[.int .i64 k] 2 (by simp)).alloc (.cells Try.zeroCells33 33)
  have X4 := Bx.newAt ((w.alloc (.cells (gV W H h (.slice (some ⟨g, 0, none⟩) n n)) 33)).alloc (.cells #[.int .i64 k] 2)) (w.heap.size + 1 + 1) Try.zeroCells33 33 (by simp)
  have B := al (al (al (Below.refl w.heap.size w) (.cells (gV W H h (.slice (some ⟨g, 0, none⟩) n n)) 33)) (.cells #[.int .i64 k] 2)) (.cells Try.zeroCells33 33)
  replace hA := ((hA.alloc (.cells (gV W H h (.slice (some ⟨g, 0, none⟩) n n)) 33)).alloc (.cells #[.int .i64 k] 2)).alloc (.cells Try.zeroCells33 33)
  gi_wp2_with (first
    | (refine wpListIn_load_box X2 rfl _ _ rfl rfl _ Try.underlying33 rfl (infoGv _ _ _ _) ?_)
    | (refine ⟨trivial, ?_⟩; gi_at_call 133; refine (callsIn_wide.2 (landOf_any W H h g n c _ (by omega) (by omega) HH.out HC.out (by omega) hA)).mono ?_))
  rintro e w1 ⟨hb, ⟨_, p, m, rfl, hpm, hmp, hL⟩ | ⟨hv, _⟩⟩
  case inr => exact absurd HV.out hv
  have hs1 := hb.size
  have hg1 := hA.1
  simp only [World.size_alloc] at hpm hs1 hg1
  have hl1 := hL.lt
  replace X2 := ((X2.below hb).alloc (.cells #[.pointer (some ⟨p, 0, none⟩)] 130)).alloc (.cells Try.zeroCells118 118)
  replace X3 := ((X3.below hb).alloc (.cells #[.pointer (some ⟨p, 0, none⟩)] 130)).alloc (.cells Try.zeroCells118 118)
  replace X4 := ((X4.below hb).alloc (.cells #[.pointer (some ⟨p, 0, none⟩)] 130)).alloc (.cells Try.zeroCells118 118)
  replace hA := ((hA.below hb).alloc (.cells #[.pointer (some ⟨p, 0, none⟩)] 130)).alloc (.cells Try.zeroCells118 118)
  replace B := al (al (nxt B hb) (.cells #[.pointer (some ⟨p, 0, none⟩)] 130)) (.cells Try.zeroCells118 118)
  clear hb
  replace hL := (hL.next (al (Below.refl w1.heap.size w1) (.cells #[.pointer (some ⟨p, 0, none⟩)] 130))).next (al (Below.refl _ (w1.alloc (.cells #[.pointer (some ⟨p, 0, none⟩)] 130))) (.cells Try.zeroCells118 118))
  have X6 := (Bx.new w1 #[.pointer (some ⟨p, 0, none⟩)] 130).alloc (.cells Try.zeroCells118 118)
  have X8 := Bx.newAt (w1.alloc (.cells #[.pointer (some ⟨p, 0, none⟩)] 130)) (w1.heap.size + 1) Try.zeroCells118 118 (by simp)
  have W1 : ∃ W1 : World, W1 = (w1.alloc (.cells #[.pointer (some ⟨p, 0, none⟩)] 130)).alloc (.cells Try.zeroCells118 118) := ⟨_, rfl⟩
  obtain ⟨l1, p1, q1, r1⟩ := hL.1.gcells
  have cp0 := X6.cell 0
  have d30 := ((X3.cell 0))
  simp only [List.getElem?_toArray, List.getElem?_cons_zero] at cp0 d30
  have d30' : (w1.alloc (.cells #[.pointer (some ⟨p, 0, none⟩)] 130)).cell? ⟨w.heap.size + 1, 0, none⟩ = some (.int .i64 k) := by rw [← d30]; exact (World.cell?_alloc_lt _ _ _ (by simp; omega)).symm
  gi_wp2_with (refine ⟨trivial, ?_⟩; gi_at_call 116; refine (points_in 6 (by omega) W H _).mono ?_)
  obtain ⟨W1, hW1⟩ := W1
  rw [← hW1] at X2 X3 X4 X6 X8 B hL hA ⊢
  have hsW : w1.heap.size + 1 < W1.heap.size := X8.lt
  clear hW1 l1 p1 q1 r1 cp0 d30 d30'
  rintro e w6 ⟨hb, bs, rfl, hbs, hSl⟩
  have hs6 := hb.size
  replace hL := hL.next hb
  replace X2 := X2.below hb
  replace X3 := X3.below hb
  replace X4 := X4.below hb
  replace X6 := X6.below hb
  replace X8 := X8.below hb
  replace hA := hA.below hb
  replace B := nxt B hb
  clear hb
  gi_wp2_with fail
  refine range_cells (by omega) bs W H hp rfl rfl (by omega) (by omega) hSl (fun k => k = w1.heap.size + 1) (by omega)
    (fun (pre : List (PX W H)) V => Bx V (w1.heap.size + 1) (hV (rl pre h k)) 118)
    (fun cc pre V => False)
    ?_ ?_ ?_ 9 32 ?assign ?body ?done ?stop
  · exact ownFrom_bx _ (fun _ => _) (fun (pre : List (PX W H)) => hV (rl pre h k)) _
  · exact fun cc => fun _ _ _ _ h => h.elim
  · exact X8.cast (by rw [zeroR]; exact iV_congr fun p _ => (rl_nil h k p).symm)
  case assign =>
    rintro l x V K hK
    dsimp only [encP]
    gi_wp2
    exact hK
  case body =>
    rintro l pre x bb V hbV hx hk' hR hlt
    have x1 := x.2.1
    have x2 := x.2.2
    have hP : Bx V w1.heap.size #[.pointer (some ⟨p, 0, none⟩)] 130 := X6.of_block (hk'.block X6.lt (by omega))
    have h3 : Bx V (w.heap.size + 1) #[.int .i64 k] 2 := X3.of_block (hk'.block X3.lt (by omega))
    have hLV : LandAt V p m n W H h c := hL.kpt hk' (by omega) (by omega)
    have cx : V.cell? ⟨bb, 0, none⟩ = some (.int .i8 (x.1.1 : Int)) := hx.cell 0
    have cy : V.cell? ⟨bb, 1, none⟩ = some (.int .i8 (x.1.2 : Int)) := hx.cell 1
    have cp : V.cell? ⟨w1.heap.size, 0, none⟩ = some (.pointer (some ⟨p, 0, none⟩)) := hP.cell 0
    have ck : V.cell? ⟨w.heap.size + 1, 0, none⟩ = some (.int .i64 k) := h3.cell 0
    have K0 := Kpt.refl w6.heap.size (fun k => k = w1.heap.size + 1) V
    have hps := posP_lt hW hH x
    have hz1 := HT.out x.1 x1 x2
    unfold htP at hz1
    try dsimp only at hz1
    have wz : IntKind.i64.wrap (h (x.1.2 * 9 + x.1.1) + k) = h (x.1.2 * 9 + x.1.1) + k := IntWalk.i64_in _ (by omega)
    gi_wp2_with fail
    refine wp_region_held_round (S := (fun w' : World => w'.cell? ⟨w1.heap.size, 0, none⟩ = some (.pointer (some ⟨p, 0, none⟩)) ∧ w'.cell? ⟨bb, 0, none⟩ = some (.int .i8 (x.1.1 : Int)) ∧ w'.cell? ⟨bb, 1, none⟩ = some (.int .i8 (x.1.2 : Int)) ∧ w'.cell? ⟨w.heap.size + 1, 0, none⟩ = some (.int .i64 k))) (by kernel_rfl) (by kernel_rfl) (by rintro ⟨_, _, h⟩; exact h) ⟨cp, cx, cy, ck⟩ (fun hHeld => ?_)
    refine wpAnyH_take (i := 0) (oi := _) (v := ?_) rfl (by kernel_rfl) (by kernel_rfl) (by kernel_rfl) (fun _ _ _ h => h) (Or.inl ⟨by kernel_rfl, ?_⟩) (by assumption) ?_
    rotate_left
    · intro w hSw; (try dsimp only at hSw); go_simp; first | done | with_reducible rfl
    try simp only [List.getElem_toArray, List.getElem_cons_zero, List.getElem_cons_succ, Act.put, List.setIfInBounds_toArray, List.set_cons_zero, List.set_cons_succ]
    refine wpAnyH_take (i := 1) (oi := _) (v := ?_) rfl (by kernel_rfl) (by kernel_rfl) (by kernel_rfl) (fun _ _ _ h => h) (Or.inl ⟨by kernel_rfl, ?_⟩) (by assumption) ?_
    rotate_left
    · intro w hSw; (try dsimp only at hSw); go_simp; first | done | with_reducible rfl
    try simp only [List.getElem_toArray, List.getElem_cons_zero, List.getElem_cons_succ, Act.put, List.setIfInBounds_toArray, List.set_cons_zero, List.set_cons_succ]
    refine wpAnyH_take (i := 2) (oi := _) (v := ?_) rfl (by kernel_rfl) (by kernel_rfl) (by kernel_rfl) (fun _ _ _ h => h) (Or.inl ⟨by kernel_rfl, ?_⟩) (by assumption) ?_
    rotate_left
    · intro w hSw; (try dsimp only at hSw); go_simp; first | done | with_reducible rfl
    try simp only [List.getElem_toArray, List.getElem_cons_zero, List.getElem_cons_succ, Act.put, List.setIfInBounds_toArray, List.set_cons_zero, List.set_cons_succ]
    refine wpAnyH_take (i := 3) (oi := _) (v := ?_) rfl (by kernel_rfl) (by kernel_rfl) (by kernel_rfl) (fun _ _ _ h => h) (Or.inl ⟨by kernel_rfl, ?_⟩) (by assumption) ?_
    rotate_left
    · intro w hSw; (try dsimp only at hSw); go_simp; first | done | with_reducible rfl
    try simp only [List.getElem_toArray, List.getElem_cons_zero, List.getElem_cons_succ, Act.put, List.setIfInBounds_toArray, List.set_cons_zero, List.set_cons_succ]
    refine wpAnyH_take (i := 4) (oi := _) (v := ?_) rfl (by kernel_rfl) (by kernel_rfl) (by kernel_rfl) (fun _ _ _ h => h) (Or.inl ⟨by kernel_rfl, ?_⟩) (by assumption) ?_
    rotate_left
    · intro w hSw; (try dsimp only at hSw); go_simp; first | done | with_reducible rfl
    try simp only [List.getElem_toArray, List.getElem_cons_zero, List.getElem_cons_succ, Act.put, List.setIfInBounds_toArray, List.set_cons_zero, List.set_cons_succ]
    refine wpAnyH_take (i := 6) (oi := _) (v := ?_) rfl (by kernel_rfl) (by kernel_rfl) (by kernel_rfl) (fun _ _ _ h => h) (Or.inl ⟨by kernel_rfl, ?_⟩) (by assumption) ?_
    rotate_left
    · intro w hSw; (try dsimp only at hSw); go_simp; first | done | with_reducible rfl
    try simp only [List.getElem_toArray, List.getElem_cons_zero, List.getElem_cons_succ, Act.put, List.setIfInBounds_toArray, List.set_cons_zero, List.set_cons_succ]
    refine wpAnyH_ready (rs := [5]) (by kernel_rfl) (by simp) ?_
    refine AllReadyH.cons (o := _) rfl (fun K hK => ?_) AllReadyH.nil
    go_simp
    refine (reliefAt_any p 2 x.1.1 x.1.2 _ _ (by omega) (by omega) (HH.out _) (hLV.1.drew.hcell (by omega) (by omega))).mono ?_
    rintro e w8 ⟨rfl, hb⟩
    replace hP := hP.drew.below hb
    replace hx := hx.drew.below hb
    replace h3 := h3.drew.below hb
    replace hR := hR.drew.below hb
    replace K0 := K0.drew.below hb
    clear hb cp cx cy ck
    have cp := hP.cell 0
    have cx := hx.cell 0
    have cy := hx.cell 1
    have ck := h3.cell 0
    simp only [List.getElem?_toArray, List.getElem?_cons_zero, List.getElem?_cons_succ] at cp cx cy ck
    refine hK.out _ _ ⟨cp, cx, cy, ck⟩ (fun hHeld => ?_)
    clear hK K
    try simp only [List.getElem_toArray, List.getElem_cons_zero, List.getElem_cons_succ, Act.put, List.setIfInBounds_toArray, List.set_cons_zero, List.set_cons_succ]
    refine wpAnyH_take (i := 7) (oi := _) (v := ?_) rfl (by kernel_rfl) (by kernel_rfl) (by kernel_rfl) (fun _ _ _ h => h) (Or.inl ⟨by kernel_rfl, ?_⟩) (by assumption) ?_
    rotate_left
    · intro w hSw; (try dsimp only at hSw); go_simp; first | done | with_reducible rfl
    try simp only [List.getElem_toArray, List.getElem_cons_zero, List.getElem_cons_succ, Act.put, List.setIfInBounds_toArray, List.set_cons_zero, List.set_cons_succ]
    have hz0 := hR.iget hps
    have hzc : w8.cell? ⟨w1.heap.size + 1, 0 + x.1.2 * 9 + x.1.1, none⟩ = some (.int .i16 (rl pre h k (posP x))) := by
      rw [show 0 + x.1.2 * 9 + x.1.1 = posP x by unfold posP; omega]; exact hz0
    have hfz := hR.frozen (0 + x.1.2 * 9 + x.1.1)
    have hnp : w1.heap.size ≠ w1.heap.size + 1 := by omega
    have hnb : bb ≠ w1.heap.size + 1 := by omega
    have hn3 : w.heap.size + 1 ≠ w1.heap.size + 1 := by omega
    refine wpAnyH_ready (rs := [8]) (by kernel_rfl) (by simp) ?_
    refine AllReadyH.cons (o := _) rfl (fun K hK => ?_) AllReadyH.nil
    go_simp
    refine (reliefSet_any (w1.heap.size + 1) 0 x.1.1 x.1.2 (h (x.1.2 * 9 + x.1.1) + k) _ _ (by omega) (by omega) (by omega) hzc hfz).mono ?_
    rintro e w10 ⟨⟨u, rfl⟩, w9, hb, rfl⟩
    replace hP := hP.below hb
    replace hx := hx.below hb
    replace h3 := h3.below hb
    replace hR := hR.below hb
    replace K0 := K0.below hb
    clear hb cp cx cy ck hz0 hzc hfz
    replace hP := hP.other (g := w1.heap.size + 1) (o := 0 + x.1.2 * 9 + x.1.1) (.int .i16 (h (x.1.2 * 9 + x.1.1) + k)) hnp
    replace hx := hx.other (g := w1.heap.size + 1) (o := 0 + x.1.2 * 9 + x.1.1) (.int .i16 (h (x.1.2 * 9 + x.1.1) + k)) hnb
    replace h3 := h3.other (g := w1.heap.size + 1) (o := 0 + x.1.2 * 9 + x.1.1) (.int .i16 (h (x.1.2 * 9 + x.1.1) + k)) hn3
    replace hR := hR.iset (0 + x.1.2 * 9 + x.1.1) (h (x.1.2 * 9 + x.1.1) + k)
    replace K0 := K0.setCell (b := w1.heap.size + 1) rfl (0 + x.1.2 * 9 + x.1.1) (.int .i16 (h (x.1.2 * 9 + x.1.1) + k))
    have cp := hP.cell 0
    have cx := hx.cell 0
    have cy := hx.cell 1
    have ck := h3.cell 0
    simp only [List.getElem?_toArray, List.getElem?_cons_zero, List.getElem?_cons_succ] at cp cx cy ck
    refine hK.out _ _ ⟨cp, cx, cy, ck⟩ (fun hHeld => ?_)
    clear hK K
    try simp only [List.getElem_toArray, List.getElem_cons_zero, List.getElem_cons_succ, Act.put, List.setIfInBounds_toArray, List.set_cons_zero, List.set_cons_succ]
    refine wpAnyH_done (by kernel_rfl) ?_ _
    gi_wp2
    refine ⟨K0, hR.icongr fun q _ => ?_⟩
    have := rl_snoc pre x h k q
    rw [← this, show 0 + x.1.2 * 9 + x.1.1 = posP x by unfold posP; omega, show x.1.2 * 9 + x.1.1 = posP x from rfl]
  case done =>
    rintro D V hD hk' hR hdef
    have X2' : Bx V w.heap.size (gV W H h (.slice (some ⟨g, 0, none⟩) n n)) 33 := X2.of_block (hk'.block X2.lt (by omega))
    have X4' : Bx V (w.heap.size + 1 + 1) Try.zeroCells33 33 := X4.of_block (hk'.block X4.lt (by omega))
    have hA' : Ac V g n c := Ac.kpt hA hk' (by omega)
    have BB := B.trans ((hk'.toBelow (k0 := w.heap.size) (fun k hk => by omega) B.size))
    have hRl : Bx V (w1.heap.size + 1) (hV (rH W H h k)) 118 := hR.icongr fun q hq => rl_all hp hW HHT.out q hq
    have hbad0 : w.heap.size + 1 + 1 < V.heap.size := X4'.lt
    have hwV := BB.size
    have hDl := (Array.getElem?_eq_some_iff.1 hdef).1
    have h46 := X4.lt
    clear hR X2 X3 X4 X6 X8 hL hA hSl
    gi_wp2_with (first
      | (refine wpListIn_load_box X2' rfl _ _ rfl rfl _ Try.underlying33 rfl (infoGv _ _ _ _) ?_)
      | (refine wpListIn_load_box hRl rfl _ _ rfl rfl _ Try.underlying118 rfl (infoRh _) ?_)
      | (refine ⟨trivial, ?_⟩; gi_at_call 149; refine (callsIn_wide.2 (withH_any W H h (rH W H h k) g n c _ h8 hA')).mono ?_))
    rintro e w7 ⟨hb, v, rfl, O⟩
    obtain ⟨A5, cap5, rfl, _⟩ := O.form2
    have hs7 := hb.size
    replace X4' := X4'.below hb
    replace BB := nxt BB hb
    have hdef7 := (hb.block D hDl).trans hdef
    clear hb X2' hRl hA'
    have X10 := Bx.new w7 (gV W H (rH W H h k) (.slice A5 n cap5)) 33
    gi_wp2_with (first
      | (refine wpListIn_store_new rfl _ _ _ rfl rfl rfl (infoGv _ _ _ _) zsize (gV_one _ _ _ _ _ _) ?_
         replace X4' := X4'.alloc (.cells (gV W H (rH W H h k) (.slice A5 n cap5)) 33)
         replace BB := al BB (.cells (gV W H (rH W H h k) (.slice A5 n cap5)) 33)
         replace O := O.alloc (.cells (gV W H (rH W H h k) (.slice A5 n cap5)) 33)
         replace hdef7 := (Below.heap_alloc w7 (.cells (gV W H (rH W H h k) (.slice A5 n cap5)) 33) D (by omega)).trans hdef7
         obtain ⟨W7, hW7⟩ : ∃ W7 : World, W7 = w7.alloc (.cells (gV W H (rH W H h k) (.slice A5 n cap5)) 33) := ⟨_, rfl⟩
         rw [← hW7] at X4' X10 BB O hdef7 ⊢
         have hs77 : w7.heap.size < W7.heap.size := X10.lt
         clear hW7)
      | (refine wpListIn_load_box X10 rfl _ _ rfl rfl _ Try.underlying33 rfl (infoGv _ _ _ _) ?_)
      | (refine ⟨trivial, ?_⟩; gi_at_call 28; refine (callsIn_wide.2 (implGV2_any W H (rH W H h k) A5 n cap5 c _ (by omega) (by omega) HRB.out HC.out (by omega) O.rd)).mono ?_))
    rintro e w8 ⟨hb, ⟨hv, rfl⟩ | ⟨hv, rfl⟩⟩
    · obtain ⟨rfl, rfl, rfl, rfl, rfl, rfl⟩ : rX = (W : Int) ∧ rY = (H : Int) ∧ rh = rH W H h k ∧ z = 0 ∧ nn = n ∧ ff = c := by rcases HZ.out with q | q; exact q.2; exact absurd hv q.1
      have hdef8 := (hb.block D (by omega)).trans hdef7
      replace X4' := X4'.below hb
      replace X10 := X10.below hb
      replace O := O.below hb
      replace BB := nxt BB hb
      clear hb hv HZ
      gi_wp2_with (first
        | (refine wpListIn_load_box X10 rfl _ _ rfl rfl _ Try.underlying33 rfl (infoGv _ _ _ _) ?_)
        | (refine wpListIn_store_box X4' rfl _ _ _ rfl rfl rfl (infoGv _ _ _ _) zsize (gV_one _ _ _ _ _ _) ?_))
      have hd' := deferred_row (b := w.heap.size + 1 + 1) hdef8 (gV W H (rH W H h k) (.slice A5 nn cap5)) (by omega)
      have Y4 := (X4'.setRow (gV W H (rH W H h k) (.slice A5 nn cap5))).put hd'
      refine ⟨by simp, .inl ⟨_, _, rfl, run_takeDeferred hd', ?_⟩⟩
      exact ⟨_, results_row_tmp Try.results71 _ _ _ _ _ _ Y4 rfl Try.underlying33 rfl (infoGv _ _ _ _) (.int .i64 0) rfl, (setRow_below BB (by omega) _).trans (belowK_b (w := w) (Nat.le_refl _) _ D _ _ (by have := BB.size; omega) hd' rfl rfl), _, rfl, ((OwnG.put (O.setRow _ (by omega)) hd').mono (by omega)).has⟩
    · obtain ⟨rfl, rfl, rfl, rfl, rfl, rfl⟩ : rX = 0 ∧ rY = 0 ∧ rh = (fun _ => 0) ∧ z = 3 ∧ nn = 0 ∧ ff = (fun _ => 0) := by rcases HZ.out with q | q; exact absurd q.1 hv; exact q.2
      have hdef8 := (hb.block D (by omega)).trans hdef7
      replace X4' := X4'.below hb
      replace BB := nxt BB hb
      clear hb hv HZ X10 O
      gi_wp2_with (refine wpListIn_store_box X4' rfl _ _ _ rfl rfl rfl infoZ rfl zeroOne ?_)
      have hd' := deferred_row (b := w.heap.size + 1 + 1) hdef8 Try.zeroCells33 (by omega)
      have Y4 := ((X4'.setRow Try.zeroCells33).put hd').cast zeroG
      refine ⟨by simp, .inl ⟨_, _, rfl, run_takeDeferred hd', ?_⟩⟩
      exact ⟨_, results_row_tmp Try.results71 _ _ _ _ _ _ Y4 rfl Try.underlying33 rfl (infoGv _ _ _ _) (.int .i64 3) rfl, (setRow_below BB (by omega) _).trans (belowK_b (w := w) (Nat.le_refl _) _ D _ _ (by have := BB.size; omega) hd' rfl rfl), _, rfl, hasNil _ _⟩
  case stop =>
    rintro D cc k' V hD hkk hf hdef
    exact hf.elim

theorem both (X Y : Int) (h : Nat → Int) (n : Nat) (c : Nat → Int) (k : Int) (hX : -128 ≤ X ∧ X ≤ 127) (hY : -128 ≤ Y ∧ Y ≤ 127) (hh : ∀ p, -32768 ≤ h p ∧ h p ≤ 32767) (hc : ∀ j, -128 ≤ c j ∧ c j ≤ 127) (hm : n ≤ 1048576) (hk : (Lit.int .i64 k).wf = true) :
    ∃ (rX rY : Int) (rh : Nat → Int) (z1 : Int) (nn : Nat) (ff : Nat → Int), nn ≤ 1000 ∧ (∀ (W : World) (g : Nat), Ac W g n c → Calls Try.prog 70 #[.agg (gV X Y h (.slice (some ⟨g, 0, none⟩) n n)), .int .i64 k] W fun e w' => Below W.heap.size W w' ∧ ∃ v, e = .returned (.tuple #[.agg (gV rX rY rh v), .int .i64 z1]) ∧ HasSlice .i8 2 w' W.heap.size v nn ff) ∧
      (∀ (W : World) (g : Nat), Ac W g n c → Calls Try.prog 71 #[.agg (gV X Y h (.slice (some ⟨g, 0, none⟩) n n)), .int .i64 k] W fun e w' => Below W.heap.size W w' ∧ ∃ v, e = .returned (.tuple #[.agg (gV rX rY rh v), .int .i64 z1]) ∧ HasSlice .i8 2 w' W.heap.size v nn ff) := by
  by_cases hv : GValid X Y h n c
  · by_cases hf : -200 ≤ k ∧ k ≤ 200
    · obtain ⟨W', rfl⟩ := Int.eq_ofNat_of_zero_le (show 0 ≤ X by have := hv.1.1; omega)
      obtain ⟨H', rfl⟩ := Int.eq_ofNat_of_zero_le (show 0 ≤ Y by have := hv.1.2.1; omega)
      have h8 : n ≤ 8 := hv.1.2.2
      by_cases hr : GValid W' H' (rH W' H' h k) n c
      · exact ⟨_, _, _, 0, n, c, by omega, fun W g A => spec_in W' H' h g n c k W hh hc A hv hf _ _ _ _ _ _ (.inl ⟨hr, rfl, rfl, rfl, rfl, rfl, rfl⟩), fun W g A => callsIn_wide.1 (impl_loop W' H' h g n c k W hh hc A hv hf _ _ _ _ _ _ (.inl ⟨hr, rfl, rfl, rfl, rfl, rfl, rfl⟩))⟩
      · exact ⟨0, 0, fun _ => 0, 3, 0, fun _ => 0, by omega, fun W g A => spec_in W' H' h g n c k W hh hc A hv hf _ _ _ _ _ _ (.inr ⟨hr, rfl, rfl, rfl, rfl, rfl, rfl⟩), fun W g A => callsIn_wide.1 (impl_loop W' H' h g n c k W hh hc A hv hf _ _ _ _ _ _ (.inr ⟨hr, rfl, rfl, rfl, rfl, rfl, rfl⟩))⟩
    · exact ⟨0, 0, fun _ => 0, 2, 0, fun _ => 0, by omega, fun W g A => spec_bad X Y h g n c k W hX hY hh hc hm A 2 (.inr ⟨hv, hf, rfl⟩), fun W g A => impl_bad X Y h g n c k W hX hY hh hc hm A 2 (.inr ⟨hv, hf, rfl⟩)⟩
  · exact ⟨0, 0, fun _ => 0, 1, 0, fun _ => 0, by omega, fun W g A => spec_bad X Y h g n c k W hX hY hh hc hm A 1 (.inl ⟨hv, rfl⟩), fun W g A => impl_bad X Y h g n c k W hX hY hh hc hm A 1 (.inl ⟨hv, rfl⟩)⟩

end raiseAll
end Go.Proofs.Ytegnhpanlbfmdaa
