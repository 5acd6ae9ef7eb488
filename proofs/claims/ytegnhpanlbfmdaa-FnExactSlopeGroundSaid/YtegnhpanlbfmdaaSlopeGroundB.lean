/-
  Both sides of SlopeGround answer the same. Conditions stand at each.
-/
import Derived.Test.YtegnhpanlbfmdaaRows
import Derived.Test.YtegnhpanlbfmdaaSlopeI
import Derived.Deep.Cut
import Derived.Deep.RegionHeld3
namespace Go.Proofs.Ytegnhpanlbfmdaa
open Go Go.ChangeShapes Go.WideShapes Go.ChangeAt Go.RowKit Go.Shelf
set_option linter.unusedVariables false
set_option linter.unusedSimpArgs false
set_option maxRecDepth 100000
set_option maxHeartbeats 4000000

attribute [local go_sem] Oper.semAt_some
namespace slopeGround
theorem wpListIn_store_box {P : Program} {F : Fence} {n : Nat} {ops : Array Oper} {rest : List Oper} {o : Oper} {a : Act} {w : World} {Q : Exit → Act → World → Prop} {b : Nat} {c c' : Array Value} {t : TypeId} (hB : Bx w b c t) (hgd : o.guard = none) (ty : TypeId) (x y : Operand) (ho : o.op = .store ty x y)
    (hx : a.eval x = .pointer (some ⟨b, 0, none⟩)) (hy : a.eval y = .agg c') (hi : (P.info? ty).map (·.size) = some c'.size) (hs : c.size = c'.size) (h1 : c'.all (·.oneCell') = true)
    (h : wpListIn F n P ops Q rest (a.put o.dst undef) (w.setRow b c')) : wpListIn F n P ops Q (o :: rest) a w := by
  have hB' : w.heap[b]? = some (.cells c t (0, 0)) := hB
  refine wpListIn_plain hgd fun K hK' => ?_
  unfold Oper.wpIn
  refine ⟨?_, ?_⟩
  · simp [Oper.about, ho]
  · rw [Oper.semAt_plain F _ _ (by rw [ho]; intro c hc'; cases hc')]
    simp only [execOp, ho, hx, hy, Instr.storeAt, Instr.sureAddr, Sem.run_bind, Sem.run_pure, Result.andThen_ok, run_storeVar_row w b t ty c c' hB' hi hs h1]
    exact hK' _ _ h
theorem deferred_rowS {V : World} {D b : Nat} (hd : V.heap[D]? = some (.deferred (some []))) (cs : Array Value) (hne : D ≠ b) : (V.setRow b cs).heap[D]? = some (.deferred (some [])) := (setRow_other V b D cs hne).trans hd
theorem putG {V : World} {base n D : Nat} {v : Value} {c : Nat → Int} (h : OwnG V base v n c) (hd : V.heap[D]? = some (.deferred (some []))) : OwnG (V.putObj D (.deferred none)) base v n c := by
  refine World.ownsRow.kept h (grownBy_putObj' V D (.deferred none)) ?_
  rcases h.2 with ⟨rfl, _⟩ | ⟨g, cap, cur, rfl, _, hw, _⟩
  · exact .inl rfl
  · right
    intro e
    injection e with e
    subst e
    rw [hw] at hd
    cases hd

theorem impl_loop (W H : Nat) (F : Int) (g n : Nat) (c : Nat → Int) (w : World) (hc : ∀ j, -128 ≤ c j ∧ c j ≤ 127) (hm : n ≤ 1048576) (hA : Ac w g n c) (h0 : 1 ≤ W ∧ W ≤ 9) (h1 : 1 ≤ H ∧ H ≤ 9) (hF : 0 ≤ F ∧ F ≤ 200) (hv : GValid W H (fun _ => 0) n c) (hn0 : n ≠ 0) (rX rY : Int) (rh : Nat → Int) (z : Int) (nn : Nat) (ff : Nat → Int) (hz : ((∃ i, i < W * H ∧ Over W c n F i) ∧ rX = 0 ∧ rY = 0 ∧ rh = (fun _ => 0) ∧ z = 3 ∧ nn = 0 ∧ ff = (fun _ => 0)) ∨ ((∀ i, i < W * H → ¬ Over W c n F i) ∧ rX = W ∧ rY = H ∧ rh = gA W H (fun _ => 0) (sF c n F) ∧ z = 0 ∧ nn = n ∧ ff = c)) :
    CallsIn Fence.wide 7 Try.prog 65 #[.int .i64 (W : Int), .int .i64 (H : Int), (.slice (some ⟨g, 0, none⟩) n n), .int .i64 F] w fun e w' => Below w.heap.size w w' ∧ ∃ v, e = .returned (.tuple #[.agg (gV rX rY rh v), .int .i64 z]) ∧ HasSlice .i8 2 w' w.heap.size v nn ff := by
  have hro : Fence.wide.round = none := rfl
  have hmf : ∀ (fn : Fn) (first cap : Array Value) (w : World), (Instr.makeFunc fn first cap).run Try.prog w = .ok (.func fn first cap) w := fun _ _ _ _ => rfl
  have hW : W ≤ 9 := h0.2
  have hH : H ≤ 9 := h1.2
  have hp : 0 < W ∧ 0 < H := by omega
  have h8 : n ≤ 8 := hv.1.2.2
  have HGL := Lib.hid hv.2.2
  have HC := Lib.hid hc
  have HZ := Lib.hid hz
  clear hc hz hv
  have wW : IntKind.i8.wrap (W : Int) = (W : Int) := IntWalk.i8_in _ (by omega)
  have wH : IntKind.i8.wrap (H : Int) = (H : Int) := IntWalk.i8_in _ (by omega)
  have hnb : ((n : Int) == 0) = false := by simp; omega
  have hg0 := hA.1
  refine callsIn_of_wp_marks Try.func65 rfl trivial ?_ hro
  simp only [Try.ntmps65, List.size_toArray, List.length_cons, List.length_nil, Nat.reduceAdd, Nat.reduceSub, Array.replicate_succ, Array.replicate_zero, List.push_toArray, List.append_toArray, List.nil_append, List.cons_append]
  have X6 := (((Bx.new w #[(.slice (some ⟨g, 0, none⟩) n n)] 31).alloc (.cells #[.int .i64 F] 2)).alloc (.cells Try.zeroCells33 33)).alloc (.cells #[.int .i64 0] 2)
  have X7 := ((Bx.newAt (w.alloc (.cells #[(.slice (some ⟨g, 0, none⟩) n n)] 31)) (w.heap.size + 1) #[.int .i64 F] 2 (by simp)).alloc (.cells Try.zeroCells33 33)).alloc (.cells #[.int .i64 0] 2)
  have X8 := (Bx.newAt ((w.alloc (.cells #[(.slice (some ⟨g, 0, none⟩) n n)] 31)).alloc (.cells #[.int .i64 F] 2)) (w.heap.size + 1 + 1) Try.zeroCells33 33 (by simp)).alloc (.cells #[.int .i64 0] 2)
  have X9 := Bx.newAt (((w.alloc (.cells #[(.slice (some ⟨g, 0, none⟩) n n)] 31)).alloc (.cells #[.int .i64 F] 2)).alloc (.cells Try.zeroCells33 33)) (w.heap.size + 1 + 1 + 1) #[.int .i64 0] 2 (by simp)
  have B := al (al (al (al (Below.refl w.heap.size w) (.cells #[(.slice (some ⟨g, 0, none⟩) n n)] 31)) (.cells #[.int .i64 F] 2)) (.cells Try.zeroCells33 33)) (.cells #[.int .i64 0] 2)
  replace hA := (((hA.alloc (.cells #[(.slice (some ⟨g, 0, none⟩) n n)] 31)).alloc (.cells #[.int .i64 F] 2)).alloc (.cells Try.zeroCells33 33)).alloc (.cells #[.int .i64 0] 2)
  have hgw := hA.1
  have hz9 := X9.lt
  have c7 := X7.cell 0
  simp only [List.getElem?_toArray, List.getElem?_cons_zero] at c7
  have w1 : ∃ w1 : World, w1 = (((w.alloc (.cells #[(.slice (some ⟨g, 0, none⟩) n n)] 31)).alloc (.cells #[.int .i64 F] 2)).alloc (.cells Try.zeroCells33 33)).alloc (.cells #[.int .i64 0] 2) := ⟨_, rfl⟩
  gi_wp2_with (first
    | (refine ⟨trivial, ?_⟩; gi_at_call 117; refine (callsIn_wide.2 (isRise_any F true _ ⟨fun _ => hF, fun _ => rfl⟩)).mono ?_; rintro e w1' ⟨rfl, rfl⟩))
  obtain ⟨w1, hw1⟩ := w1
  rw [← hw1] at X6 X7 X8 X9 B hA hgw hz9 c7 ⊢
  clear hw1
  refine ⟨trivial, ?_⟩
  refine (callsIn_wide.2 (isExtent_any (W : Int) true _ ⟨fun _ => by omega, fun _ => rfl⟩)).mono ?_
  rintro e w1' ⟨rfl, rfl⟩
  gi_wp2_with (refine ⟨trivial, ?_⟩; refine (callsIn_wide.2 (isExtent_any (H : Int) true _ ⟨fun _ => by omega, fun _ => rfl⟩)).mono ?_)
  rintro e w1' ⟨rfl, rfl⟩
  have X10 := Bx.new w1 #[.int .i8 (W : Int), .int .i8 (H : Int)] 114
  replace X6 := X6.alloc (.cells #[.int .i8 (W : Int), .int .i8 (H : Int)] 114)
  replace X7 := X7.alloc (.cells #[.int .i8 (W : Int), .int .i8 (H : Int)] 114)
  replace X8 := X8.alloc (.cells #[.int .i8 (W : Int), .int .i8 (H : Int)] 114)
  replace X9 := X9.alloc (.cells #[.int .i8 (W : Int), .int .i8 (H : Int)] 114)
  replace hA := hA.alloc (.cells #[.int .i8 (W : Int), .int .i8 (H : Int)] 114)
  replace B := al B (.cells #[.int .i8 (W : Int), .int .i8 (H : Int)] 114)
  have c6 := X6.cell 0
  have e0 := X10.cell 0
  have e1 := X10.cell 1
  simp only [List.getElem?_toArray, List.getElem?_cons_zero, List.getElem?_cons_succ] at c6 e0 e1
  gi_wp2_with (refine ⟨trivial, ?_⟩; gi_at_call 115; refine (callsIn_wide.2 (areGullies_any W H _ n n _ c _ (by omega) (by omega) HC.out hm (Nat.le_refl _) hA.rd)).mono ?_)
  rintro e w2 ⟨hb, ⟨_, rfl⟩ | ⟨hk, _⟩⟩
  case inr => exact absurd ⟨h8, HGL.out⟩ hk
  have hs2 := (X10.below hb).lt
  have hg2 := (hA.below hb).1
  clear c6 e0 e1 c7
  replace X6 := (X6.below hb).alloc (.cells Try.zeroCells118 118)
  replace X7 := (X7.below hb).alloc (.cells Try.zeroCells118 118)
  replace X8 := (X8.below hb).alloc (.cells Try.zeroCells118 118)
  replace X9 := (X9.below hb).alloc (.cells Try.zeroCells118 118)
  replace X10 := (X10.below hb).alloc (.cells Try.zeroCells118 118)
  replace hA := (hA.below hb).alloc (.cells Try.zeroCells118 118)
  replace B := al (nxt B hb) (.cells Try.zeroCells118 118)
  clear hb
  have X11 := Bx.new w2 Try.zeroCells118 118
  have e0 := X10.cell 0
  have e1 := X10.cell 1
  simp only [List.getElem?_toArray, List.getElem?_cons_zero, List.getElem?_cons_succ] at e0 e1
  have c6 : w2.cell? ⟨w.heap.size, 0, none⟩ = some (.slice (some ⟨g, 0, none⟩) n n) := by
    have := X6.cell 0
    simp only [List.getElem?_toArray, List.getElem?_cons_zero] at this
    rw [← this]
    exact (World.cell?_alloc_lt _ _ _ (by show w.heap.size < _; omega)).symm
  have W2 : ∃ W2 : World, W2 = w2.alloc (.cells Try.zeroCells118 118) := ⟨_, rfl⟩
  gi_wp2_with (refine ⟨trivial, ?_⟩; gi_at_call 116; refine (points_in 6 (by omega) W H _).mono ?_)
  obtain ⟨W2, hW2⟩ := W2
  rw [← hW2] at X6 X7 X8 X9 X10 X11 hA B ⊢
  have hsW : w2.heap.size < W2.heap.size := X11.lt
  clear hW2 e0 e1 c6
  rintro e w6 ⟨hb, bs, rfl, hbs, hSl⟩
  have hs6 := hb.size
  replace X6 := X6.below hb
  replace X7 := X7.below hb
  replace X8 := X8.below hb
  replace X9 := X9.below hb
  replace X10 := X10.below hb
  replace X11 := X11.below hb
  replace hA := hA.below hb
  replace B := nxt B hb
  clear hb
  gi_wp2_with fail
  refine range_cells (by omega) bs W H hp rfl rfl (by omega) (by omega) hSl (fun k => k = w2.heap.size ∨ k = w.heap.size + 1 + 1 ∨ k = w.heap.size + 1 + 1 + 1) (by omega)
    (fun (pre : List (PX W H)) V => Bx V (w2.heap.size) (hV (gl pre (fun _ => 0) (sF c n F))) 118 ∧ Bx V (w.heap.size + 1 + 1) Try.zeroCells33 33 ∧ Bx V (w.heap.size + 1 + 1 + 1) #[.int .i64 0] 2 ∧ ∀ x ∈ pre, ¬ 200 < mnS c x.1.1 x.1.2 n * F)
    (fun cc pre V => Kpt w6.heap.size (fun k => k = w2.heap.size ∨ k = w.heap.size + 1 + 1 ∨ k = w.heap.size + 1 + 1 + 1) w6 V ∧ cc = .ret ∧ Bx V (w.heap.size + 1 + 1) (gV 0 0 (fun _ => 0) (.slice none 0 0)) 33 ∧ Bx V (w.heap.size + 1 + 1 + 1) #[.int .i64 3] 2 ∧ ∃ x ∈ pre, 200 < mnS c x.1.1 x.1.2 n * F)
    ?_ ?_ ?_ 12 45 ?assign ?body ?done ?stop
  · exact OwnFrom.and (ownFrom_bx _ (fun _ => _) (fun (pre : List (PX W H)) => hV (gl pre (fun _ => 0) (sF c n F))) _) (OwnFrom.and (ownFrom_bx _ (fun _ => _) (fun _ => _) _) (OwnFrom.and (ownFrom_bx _ (fun _ => _) (fun _ => _) _) (ownFrom_pure _ _)))
  · exact fun cc => OwnFrom.and (ownFrom_kpt _ _ w6 (Nat.le_refl _)) (OwnFrom.and (ownFrom_pure _ _) (OwnFrom.and (ownFrom_bx _ (fun _ => _) (fun _ => _) _) (OwnFrom.and (ownFrom_bx _ (fun _ => _) (fun _ => _) _) (ownFrom_pure _ _))))
  · exact ⟨X11.cast (by rw [zeroR]; exact iV_congr fun p _ => (gl_nil (fun _ => 0) (sF c n F) p).symm), X8, X9, fun x hx => by cases hx⟩
  case assign =>
    rintro l x V K hK
    dsimp only [encP]
    gi_wp2
    exact hK
  case body =>
    rintro l pre x bb V hbV hx hk ⟨hR, h8V, h9V, hall⟩ hlt
    have x1 := x.2.1
    have x2 := x.2.2
    have h6V : Bx V w.heap.size #[(.slice (some ⟨g, 0, none⟩) n n)] 31 := X6.of_block (hk.block X6.lt (by omega))
    have h7V : Bx V (w.heap.size + 1) #[.int .i64 F] 2 := X7.of_block (hk.block X7.lt (by omega))
    have hAV : Ac V g n c := hA.kept hk.size (hk.block hA.1 (by omega))
    have hsV := hk.size
    have HALL := Lib.hid hall
    have K0 := Kpt.refl w6.heap.size (fun k => k = w2.heap.size ∨ k = w.heap.size + 1 + 1 ∨ k = w.heap.size + 1 + 1 + 1) V
    have hls := lsS_spec (ds c x.1.1 x.1.2) n (by omega)
    have hmn := mnS_ls hW hH x1 x2 HGL.out (show 1 ≤ n by omega)
    obtain ⟨m1, m2, _⟩ := mnS_in hW hH x1 x2 HGL.out n (Nat.le_refl _)
    have hE : ∀ (args : Array Value) (w : World), (callFunc 153 args).run Try.prog w = .ok (.enter 153 args) w := enters_of Try.func153 (by kernel_rfl) rfl
    have hleast := leastC_any 153 #[.pointer (some ⟨bb, 0, none⟩)] (some ⟨g, 0, none⟩) n n c (ds c x.1.1 x.1.2) V (by omega) (by omega) hAV.rd hE (fun Wd hWd i hi => near_any W H x.1.1 x.1.2 n bb c Wd hW hH x1 x2 HGL.out i hi (hx.below hWd))
    rw [hmn] at hleast
    obtain ⟨p0, hp0⟩ : ∃ p0, p0 = c (2 * (lsS (ds c x.1.1 x.1.2) n).1) := ⟨_, rfl⟩
    obtain ⟨q0, hq0⟩ : ∃ q0, q0 = c (2 * (lsS (ds c x.1.1 x.1.2) n).1 + 1) := ⟨_, rfl⟩
    rw [← hp0, ← hq0] at hleast
    have HLE := Lib.hid hleast
    have c6 : V.cell? ⟨w.heap.size, 0, none⟩ = some (.slice (some ⟨g, 0, none⟩) n n) := h6V.cell 0
    have hprod : 0 ≤ F * mnS c x.1.1 x.1.2 n ∧ F * mnS c x.1.1 x.1.2 n ≤ 20000 := by
      constructor
      · exact Int.mul_nonneg hF.1 m1
      · have := Int.mul_le_mul hF.2 m2 m1 (by omega : (0 : Int) ≤ 200); omega
    have hcm : mnS c x.1.1 x.1.2 n * F = F * mnS c x.1.1 x.1.2 n := Int.mul_comm _ _
    have hsf := sF_at (c := c) (n := n) (fall := F) (x := x.1.1) (y := x.1.2) (by omega)
    rw [hcm] at hsf
    obtain ⟨ht0, hht⟩ : ∃ ht0, ht0 = F * mnS c x.1.1 x.1.2 n := ⟨_, rfl⟩
    have wp_ : IntKind.i64.wrap (F * mnS c x.1.1 x.1.2 n) = ht0 := by rw [hht]; exact IntWalk.i64_in _ (by omega)
    rw [← hht] at hprod hsf hcm
    have HSF := Lib.hid hsf
    have HCM := Lib.hid hcm
    obtain ⟨ms, hms⟩ : ∃ ms, ms = mnS c x.1.1 x.1.2 n := ⟨_, rfl⟩
    rw [← hms] at wp_
    have HMS := Lib.hid hms
    clear hls hmn m1 m2 hleast hall hp0 hq0 hsf hcm hht hms hE
    gi_wp2_with (refine ⟨trivial, ?_⟩; gi_at_call 138; refine (CallsIn.inRound l (callsIn_wide.2 HLE.out)).mono ?_)
    rintro e w7 hb rfl
    rw [← HMS.out]
    replace hx := (hx.below hb).alloc (.cells #[.int .i8 p0, .int .i8 q0] 40)
    replace hR := (hR.below hb).alloc (.cells #[.int .i8 p0, .int .i8 q0] 40)
    replace h8V := (h8V.below hb).alloc (.cells #[.int .i8 p0, .int .i8 q0] 40)
    replace h9V := (h9V.below hb).alloc (.cells #[.int .i8 p0, .int .i8 q0] 40)
    replace h7V := (h7V.below hb).alloc (.cells #[.int .i8 p0, .int .i8 q0] 40)
    replace K0 := (K0.below hb).alloc (.cells #[.int .i8 p0, .int .i8 q0] 40)
    clear hb c6 h6V HLE
    have c7 := h7V.cell 0
    simp only [List.getElem?_toArray, List.getElem?_cons_zero] at c7
    have w8 : ∃ w8 : World, w8 = w7.alloc (.cells #[.int .i8 p0, .int .i8 q0] 40) := ⟨_, rfl⟩
    by_cases hov : 200 < ht0
    · gi_wp2_with (refine ⟨trivial, ?_⟩; gi_at_call 117; refine (CallsIn.inRound l (callsIn_wide.2 (isRise_any ht0 false _ ⟨(fun h => by cases h), fun h => absurd h.2 (by omega)⟩))).mono ?_)
      rintro e w8' ⟨rfl, rfl⟩
      obtain ⟨w8, hw8⟩ := w8
      rw [← hw8] at hx hR h8V h9V K0 ⊢
      clear hw8 c7 h7V
      have c90 := (h9V.setRowOther (g := w.heap.size + 1 + 1) Try.zeroCells33 (by omega)).cell 0
      have f90 := (h9V.setRowOther (g := w.heap.size + 1 + 1) Try.zeroCells33 (by omega)).frozen 0
      simp only [List.getElem?_toArray, List.getElem?_cons_zero] at c90
      gi_wp2_with (refine wpListIn_store_box h8V rfl _ _ _ rfl rfl rfl infoZ rfl zeroOne ?_)
      have K1 := (Kpt_row (cs' := Try.zeroCells33) K0 (Or.inr (Or.inl rfl)) h8V).setCell (b := w.heap.size + 1 + 1 + 1) (Or.inr (Or.inr rfl)) 0 (.int .i64 3)
      exact ⟨K1.keepsFrom, hk.trans K1, rfl, ((h8V.setRow Try.zeroCells33).other (g := w.heap.size + 1 + 1 + 1) (o := 0) (.int .i64 3) (by omega)).cast zeroG, (h9V.setRowOther (g := w.heap.size + 1 + 1) Try.zeroCells33 (by omega)).set 0 (.int .i64 3), x.1.1, x.1.2, ⟨x.2, List.mem_append_right _ (List.mem_singleton.2 rfl)⟩, by rw [HCM.out]; exact hov⟩
    · gi_wp2_with (refine ⟨trivial, ?_⟩; gi_at_call 117; refine (CallsIn.inRound l (callsIn_wide.2 (isRise_any ht0 true _ ⟨fun _ => ⟨hprod.1, by omega⟩, fun _ => rfl⟩))).mono ?_)
      rintro e w8' ⟨rfl, rfl⟩
      obtain ⟨w8, hw8⟩ := w8
      rw [← hw8] at hx hR h8V h9V h7V K0 c7 ⊢
      clear hw8
      have hps := posP_lt hW hH x
      have hz0 := hR.iget hps
      have hzc : w8.cell? ⟨w2.heap.size, 0 + x.1.2 * 9 + x.1.1, none⟩ = some (.int .i16 (gl pre (fun _ => 0) (sF c n F) (posP x))) := by
        rw [show 0 + x.1.2 * 9 + x.1.1 = posP x by unfold posP; omega]; exact hz0
      have hfz := hR.frozen (0 + x.1.2 * 9 + x.1.1)
      have cx := hx.cell 0
      have cy := hx.cell 1
      simp only [List.getElem?_toArray, List.getElem?_cons_zero, List.getElem?_cons_succ] at cx cy
      have hn8 : w.heap.size + 1 + 1 ≠ w2.heap.size := by omega
      have hn9 : w.heap.size + 1 + 1 + 1 ≠ w2.heap.size := by omega
      clear hz0
      gi_wp2_with (refine ⟨trivial, ?_⟩; gi_at_call 119; refine (CallsIn.inRound l (callsIn_wide.2 (reliefSet_any w2.heap.size 0 x.1.1 x.1.2 ht0 _ _ (by omega) (by omega) (by omega) hzc hfz))).mono ?_)
      rintro e w10 ⟨⟨u, rfl⟩, w9, hb, rfl⟩
      replace hR := (hR.below hb).iset (0 + x.1.2 * 9 + x.1.1) ht0
      replace h8V := (h8V.below hb).other (g := w2.heap.size) (o := 0 + x.1.2 * 9 + x.1.1) (.int .i16 ht0) hn8
      replace h9V := (h9V.below hb).other (g := w2.heap.size) (o := 0 + x.1.2 * 9 + x.1.1) (.int .i16 ht0) hn9
      replace K0 := (K0.below hb).setCell (b := w2.heap.size) (Or.inl rfl) (0 + x.1.2 * 9 + x.1.1) (.int .i16 ht0)
      simp only [Nat.zero_add] at hR h8V h9V K0
      clear hb cx cy hzc hfz c7 h7V hx
      gi_wp2
      refine ⟨K0, hR.icongr fun q _ => ?_, h8V, h9V, fun a b hab hy => ?_⟩
      · have := gl_snoc pre x (fun _ => 0) (sF c n F) q
        rw [show sF c n F (posP x) = ht0 from HSF.out] at this
        exact this
      · rcases List.mem_append.1 hy with hy | hy
        · exact HALL.out _ hy
        · have e := List.mem_singleton.1 hy
          have ea : a = x.1.1 := by rw [← e]
          have eb : b = x.1.2 := by rw [← e]
          rw [ea, eb, HCM.out]; omega
  case done =>
    rintro D V hD hk ⟨hR, h8V, h9V, hall⟩ hdef
    have hno : ∀ i, i < W * H → ¬ Over W c n F i := fun i hi => by
      have hcl := cl_lt (by omega : W ≤ 12) (by omega : H ≤ 12) hi
      exact hall _ (mem_uptoP hp hcl.1 hcl.2)
    obtain ⟨rfl, rfl, rfl, rfl, rfl, rfl⟩ : rX = (W : Int) ∧ rY = (H : Int) ∧ rh = gA W H (fun _ => 0) (sF c n F) ∧ z = 0 ∧ nn = n ∧ ff = c := by
      rcases HZ.out with q | q
      · obtain ⟨j, hj, hjo⟩ := q.1
        exact absurd hjo (hno j hj)
      · exact q.2
    replace hR : Bx V w2.heap.size (hV (gA W H (fun _ => 0) (sF ff nn F))) 118 := hR.icongr fun q _ => gl_all hp hW q
    have h6V : Bx V w.heap.size #[.slice (some ⟨g, 0, none⟩) nn nn] 31 := X6.of_block (hk.block X6.lt (by omega))
    have h10V : Bx V w1.heap.size #[.int .i8 (W : Int), .int .i8 (H : Int)] 114 := X10.of_block (hk.block X10.lt (by omega))
    have hAV : Ac V g nn ff := hA.kept hk.size (hk.block hA.1 (by omega))
    have BB := B.trans ((hk.toBelow (k0 := w.heap.size) (fun k hk => by omega) B.size))
    have hDl := (Array.getElem?_eq_some_iff.1 hdef).1
    have hsV := hk.size
    have p1 := h10V.cell 0
    have q1 := h10V.cell 1
    have r1 := h6V.cell 0
    simp only [List.getElem?_toArray, List.getElem?_cons_zero, List.getElem?_cons_succ] at p1 q1 r1
    clear hall hno HZ
    have hs8V := h8V.lt
    have hs9V := h9V.lt
    gi_wp2_with fail
    refine wpIn_wide.2 ?_
    rename_i Qh Kh hKh
    refine Code.wp_mono (Q := Exit.then (fun a w => Code.wpIn Fence.wide 7 Try.prog Code.ret Qh a w) (fun _ _ _ => False)) (fun e a w hq => by cases e <;> first | exact hKh _ _ hq | exact hq.elim) ?_
    refine wp_region_held_drew (S := (fun w' : World => w'.cell? ⟨w1.heap.size, 0, none⟩ = some (.int .i8 (W : Int)) ∧ w'.cell? ⟨w1.heap.size, 1, none⟩ = some (.int .i8 (H : Int)) ∧ Bx w' w2.heap.size (hV (gA W H (fun _ => 0) (sF ff nn F))) 118 ∧ w'.cell? ⟨w.heap.size, 0, none⟩ = some (.slice (some ⟨g, 0, none⟩) nn nn))) (by kernel_rfl) ⟨p1, q1, hR, r1⟩ (fun hHeld => ?_)
    refine wpAnyH_take (i := 0) (oi := _) (v := ?_) rfl (by kernel_rfl) (by kernel_rfl) (by kernel_rfl) (fun _ _ _ h => h) (Or.inl ⟨by kernel_rfl, ?_⟩) (by assumption) ?_
    rotate_left
    · intro w hSw; (try dsimp only at hSw); go_simp; first | done | with_reducible rfl
    try simp only [List.getElem_toArray, List.getElem_cons_zero, List.getElem_cons_succ, Act.put, List.setIfInBounds_toArray, List.set_cons_zero, List.set_cons_succ]
    refine wpAnyH_take (i := 1) (oi := _) (v := ?_) rfl (by kernel_rfl) (by kernel_rfl) (by kernel_rfl) (fun _ _ _ h => h) (Or.inl ⟨by kernel_rfl, ?_⟩) (by assumption) ?_
    rotate_left
    · intro w hSw; (try dsimp only at hSw); go_simp; first | done | with_reducible rfl
    try simp only [List.getElem_toArray, List.getElem_cons_zero, List.getElem_cons_succ, Act.put, List.setIfInBounds_toArray, List.set_cons_zero, List.set_cons_succ]
    refine wpAnyH_take (i := 2) (oi := _) (v := ?_) rfl (by kernel_rfl) (by kernel_rfl) (by kernel_rfl) (fun _ _ _ h => h) (Or.inl ⟨by kernel_rfl, ?_⟩) (by assumption) ?_
    rotate_left
    · intro w hSw; (try dsimp only at hSw); go_simp; first | done | with_reducible rfl
    try simp only [List.getElem_toArray, List.getElem_cons_zero, List.getElem_cons_succ, Act.put, List.setIfInBounds_toArray, List.set_cons_zero, List.set_cons_succ]
    refine wpAnyH_take (i := 3) (oi := _) (v := ?_) rfl (by kernel_rfl) (by kernel_rfl) (by kernel_rfl) (fun _ _ _ h => h) (Or.inl ⟨by kernel_rfl, ?_⟩) (by assumption) ?_
    rotate_left
    · intro w hSw; (try dsimp only at hSw); go_simp; first | done | with_reducible rfl
    try simp only [List.getElem_toArray, List.getElem_cons_zero, List.getElem_cons_succ, Act.put, List.setIfInBounds_toArray, List.set_cons_zero, List.set_cons_succ]
    refine wpAnyH_take (i := 5) (oi := _) (v := ?_) rfl (by kernel_rfl) (by kernel_rfl) (by kernel_rfl) (fun _ _ _ h => h) (Or.inl ⟨by kernel_rfl, ?_⟩) (by assumption) ?_
    rotate_left
    · intro w hSw; (try dsimp only at hSw); go_simp; first | done | with_reducible rfl
    try simp only [List.getElem_toArray, List.getElem_cons_zero, List.getElem_cons_succ, Act.put, List.setIfInBounds_toArray, List.set_cons_zero, List.set_cons_succ]
    refine wpAnyH_take (i := 4) (oi := _) (v := .agg (hV (gA W H (fun _ => 0) (sF ff nn F)))) rfl (by kernel_rfl) (by kernel_rfl) (by kernel_rfl) (fun _ _ _ h => h) (yields_box (by kernel_rfl) _ _ rfl w2.heap.size rfl (hV (gA W H (fun _ => 0) (sF ff nn F))) 118 (fun _ hS => hS.2.2.1) _ Try.underlying118 rfl (infoRh _)) (by assumption) ?_
    try simp only [List.getElem_toArray, List.getElem_cons_zero, List.getElem_cons_succ, Act.put, List.setIfInBounds_toArray, List.set_cons_zero, List.set_cons_succ]
    refine wpAnyH_ready (rs := [6]) (by kernel_rfl) (by simp) ?_
    refine AllReadyH.cons (o := _) rfl (fun K hK => ?_) AllReadyH.nil
    go_simp
    refine (cloneC_any g nn ff _ h8 hAV.drew.rd).mono ?_
    rintro e w8 ⟨hb, v, rfl, O⟩
    replace hR := hR.drew.below hb
    replace h6V := h6V.drew.below hb
    replace h10V := h10V.drew.below hb
    replace h8V := h8V.drew.below hb
    replace h9V := h9V.drew.below hb
    replace BB := nxt BB.drew hb
    have hdef8 := (hb.block D hDl).trans hdef
    have hs8 := hb.size
    replace O : OwnG w8 V.heap.size v nn ff := O
    obtain ⟨A5, cap5, rfl, hA5⟩ := O.form2
    have HA5 := Lib.hid hA5
    clear hb p1 q1 r1 hAV hA5
    have p1 := h10V.cell 0
    have q1 := h10V.cell 1
    have r1 := h6V.cell 0
    simp only [List.getElem?_toArray, List.getElem?_cons_zero, List.getElem?_cons_succ] at p1 q1 r1
    refine hK.out _ _ ⟨p1, q1, hR, r1⟩ (fun hHeld => ?_)
    clear hK K
    try simp only [List.getElem_toArray, List.getElem_cons_zero, List.getElem_cons_succ, Act.put, List.setIfInBounds_toArray, List.set_cons_zero, List.set_cons_succ]
    refine wpAnyH_take (i := 7) (oi := _) (v := .agg (gV W H (gA W H (fun _ => 0) (sF ff nn F)) (.slice A5 nn cap5))) rfl (by kernel_rfl) (by kernel_rfl) (by kernel_rfl) (fun _ _ _ h => h) (yields_build (by kernel_rfl) _ _ rfl (gV W H (gA W H (fun _ => 0) (sF ff nn F)) (.slice A5 nn cap5)) (built_ground W H (gA W H (fun _ => 0) (sF ff nn F)) A5 nn cap5) (by kernel_rfl)) (by assumption) ?_
    try simp only [List.getElem_toArray, List.getElem_cons_zero, List.getElem_cons_succ, Act.put, List.setIfInBounds_toArray, List.set_cons_zero, List.set_cons_succ]
    refine wpAnyH_ready (rs := [8]) (by kernel_rfl) (by simp) ?_
    refine AllReadyH.cons (o := _) rfl (fun K hK => ?_) AllReadyH.nil
    refine step_store_row h8V (by kernel_rfl) _ _ _ rfl rfl rfl (infoGv _ _ _ _) zsize (gV_one _ _ _ _ _ _) ?_
    replace hR := hR.setRowOther (g := w.heap.size + 1 + 1) (gV W H (gA W H (fun _ => 0) (sF ff nn F)) (.slice A5 nn cap5)) (by omega)
    replace h6V := h6V.setRowOther (g := w.heap.size + 1 + 1) (gV W H (gA W H (fun _ => 0) (sF ff nn F)) (.slice A5 nn cap5)) (by omega)
    replace h10V := h10V.setRowOther (g := w.heap.size + 1 + 1) (gV W H (gA W H (fun _ => 0) (sF ff nn F)) (.slice A5 nn cap5)) (by omega)
    replace h9V := h9V.setRowOther (g := w.heap.size + 1 + 1) (gV W H (gA W H (fun _ => 0) (sF ff nn F)) (.slice A5 nn cap5)) (by omega)
    replace h8V := h8V.setRow (gV W H (gA W H (fun _ => 0) (sF ff nn F)) (.slice A5 nn cap5))
    replace O := O.setRow (b := w.heap.size + 1 + 1) (gV W H (gA W H (fun _ => 0) (sF ff nn F)) (.slice A5 nn cap5)) (by omega)
    replace BB := setRow_below BB (g := w.heap.size + 1 + 1) (by omega) (gV W H (gA W H (fun _ => 0) (sF ff nn F)) (.slice A5 nn cap5))
    replace hdef8 := deferred_rowS (b := w.heap.size + 1 + 1) hdef8 (gV W H (gA W H (fun _ => 0) (sF ff nn F)) (.slice A5 nn cap5)) (by omega)
    obtain ⟨W8, hW8⟩ : ∃ W8 : World, W8 = w8.setRow (w.heap.size + 1 + 1) (gV W H (gA W H (fun _ => 0) (sF ff nn F)) (.slice A5 nn cap5)) := ⟨_, rfl⟩
    rw [← hW8] at hR h6V h10V h8V h9V O BB hdef8 ⊢
    clear hW8 p1 q1 r1
    have p1 := h10V.cell 0
    have q1 := h10V.cell 1
    have r1 := h6V.cell 0
    simp only [List.getElem?_toArray, List.getElem?_cons_zero, List.getElem?_cons_succ] at p1 q1 r1
    have c90 := h9V.cell 0
    have f90 := h9V.frozen 0
    simp only [List.getElem?_toArray, List.getElem?_cons_zero] at c90
    refine hK.out _ _ ⟨p1, q1, hR, r1⟩ (fun hHeld => ?_)
    clear hK K
    try simp only [List.getElem_toArray, List.getElem_cons_zero, List.getElem_cons_succ, Act.put, List.setIfInBounds_toArray, List.set_cons_zero, List.set_cons_succ]
    refine wpAnyH_ready (rs := [9]) (by kernel_rfl) (by simp) ?_
    refine AllReadyH.cons (o := _) rfl (fun K hK => ?_) AllReadyH.nil
    go_simp
    replace hR := hR.other (g := w.heap.size + 1 + 1 + 1) (o := 0) (.int .i64 0) (by omega)
    replace h6V := h6V.other (g := w.heap.size + 1 + 1 + 1) (o := 0) (.int .i64 0) (by omega)
    replace h10V := h10V.other (g := w.heap.size + 1 + 1 + 1) (o := 0) (.int .i64 0) (by omega)
    replace h8V := h8V.other (g := w.heap.size + 1 + 1 + 1) (o := 0) (.int .i64 0) (by omega)
    have Y9 := h9V.set 0 (.int .i64 0)
    clear p1 q1 r1
    have p1 := h10V.cell 0
    have q1 := h10V.cell 1
    have r1 := h6V.cell 0
    simp only [List.getElem?_toArray, List.getElem?_cons_zero, List.getElem?_cons_succ] at p1 q1 r1
    refine hK.out _ _ ⟨p1, q1, hR, r1⟩ (fun hHeld => ?_)
    clear hK K
    try simp only [List.getElem_toArray, List.getElem_cons_zero, List.getElem_cons_succ, Act.put, List.setIfInBounds_toArray, List.set_cons_zero, List.set_cons_succ]
    refine wpAnyH_done (by kernel_rfl) ?_ _
    change Code.wpIn Fence.wide 7 Try.prog Code.ret Qh _ _
    gi_wp2
    have hd' := deferred_set hdef8 ⟨w.heap.size + 1 + 1 + 1, 0, none⟩ (.int .i64 0)
    have O2 := O.setNe (b := w.heap.size + 1 + 1 + 1) (i := 0) (u := .int .i64 0) (fun g e => by have := (HA5.out g e).1; omega)
    have Y8 := h8V.put hd'
    have y9 := Y9.put hd'
    have y90 : ((W8.setCell ⟨w.heap.size + 1 + 1 + 1, 0, none⟩ (.int .i64 0)).putObj D (.deferred none)).cell? ⟨w.heap.size + 1 + 1 + 1, 0, none⟩ = some (.int .i64 0) := y9.cell 0
    refine ⟨by simp, .inl ⟨_, _, rfl, run_takeDeferred hd', ?_⟩⟩
    refine ⟨_, results_row_cell Try.results65 _ _ _ _ _ _ _ Y8 rfl Try.underlying33 rfl (infoGv _ _ _ _) (.int .i64 0) rfl (by simp [go_sem, y90]), ?_, _, rfl, ((putG O2 hd').mono (by omega)).has⟩
    exact (BB.setCell (p := ⟨w.heap.size + 1 + 1 + 1, 0, none⟩) (by show w.heap.size ≤ w.heap.size + 1 + 1 + 1; omega) _).trans (belowK_b (w := w) (Nat.le_refl _) _ D _ _ (by have := BB.size; simp; omega) hd' rfl rfl)
  case stop =>
    rintro D cc k' V hD hkk ⟨hk, rfl, h8V, h9V, x, hxm, hov⟩ hdef
    obtain ⟨rfl, rfl, rfl, rfl, rfl, rfl⟩ : rX = 0 ∧ rY = 0 ∧ rh = (fun _ => 0) ∧ z = 3 ∧ nn = 0 ∧ ff = (fun _ => 0) := by
      rcases HZ.out with q | q
      · exact q.2
      · exfalso
        have x1 := x.2.1
        have x2 := x.2.2
        refine q.1 (W * x.1.2 + x.1.1) (by have := Nat.mul_le_mul_left W (show x.1.2 + 1 ≤ H by omega); rw [Nat.mul_add, Nat.mul_one] at this; omega) ?_
        unfold Over cl
        dsimp only
        rw [Nat.mul_add_mod, Nat.mod_eq_of_lt x1, Nat.mul_add_div (by omega), Nat.div_eq_of_lt x1, Nat.add_zero]
        exact hov
    have BB := B.trans (hk.toBelow (k0 := w.heap.size) (fun k hk => by omega) B.size)
    have hDl := (Array.getElem?_eq_some_iff.1 hdef).1
    have Y8 := h8V.put hdef
    have y9 := h9V.put hdef
    have y90 : (V.putObj D (.deferred none)).cell? ⟨w.heap.size + 1 + 1 + 1, 0, none⟩ = some (.int .i64 3) := y9.cell 0
    gi_wp2
    refine ⟨by simp, .inl ⟨_, _, rfl, run_takeDeferred hdef, ?_⟩⟩
    refine ⟨_, results_row_cell Try.results65 _ _ _ _ _ _ _ Y8 rfl Try.underlying33 rfl (infoGv _ _ _ _) (.int .i64 3) rfl (by simp [go_sem, y90]), ?_, _, rfl, hasNil _ _⟩
    exact BB.trans (belowK_b (w := w) (Nat.le_refl _) _ D _ _ (by have := BB.size; omega) hdef rfl rfl)

theorem both (K0 K1 : Int) (n : Nat) (c : Nat → Int) (F : Int) (hk0 : (Lit.int .i64 K0).wf = true) (hk1 : (Lit.int .i64 K1).wf = true) (hc : ∀ j, -128 ≤ c j ∧ c j ≤ 127) (hm : n ≤ 1048576) (hk : (Lit.int .i64 F).wf = true) :
    ∃ (rX rY : Int) (rh : Nat → Int) (z1 : Int) (nn : Nat) (ff : Nat → Int), nn ≤ 1000 ∧ (∀ (W : World) (g : Nat), Ac W g n c → Calls Try.prog 63 #[.int .i64 K0, .int .i64 K1, .slice (some ⟨g, 0, none⟩) n n, .int .i64 F] W fun e w' => Below W.heap.size W w' ∧ ∃ v, e = .returned (.tuple #[.agg (gV rX rY rh v), .int .i64 z1]) ∧ HasSlice .i8 2 w' W.heap.size v nn ff) ∧
      (∀ (W : World) (g : Nat), Ac W g n c → Calls Try.prog 65 #[.int .i64 K0, .int .i64 K1, .slice (some ⟨g, 0, none⟩) n n, .int .i64 F] W fun e w' => Below W.heap.size W w' ∧ ∃ v, e = .returned (.tuple #[.agg (gV rX rY rh v), .int .i64 z1]) ∧ HasSlice .i8 2 w' W.heap.size v nn ff) := by
  by_cases hz : (1 ≤ K0 ∧ K0 ≤ 9) ∧ (1 ≤ K1 ∧ K1 ≤ 9) ∧ (0 ≤ F ∧ F ≤ 200)
  · obtain ⟨X, rfl⟩ := Int.eq_ofNat_of_zero_le (show 0 ≤ K0 by omega)
    obtain ⟨Y, rfl⟩ := Int.eq_ofNat_of_zero_le (show 0 ≤ K1 by omega)
    have h0 : 1 ≤ X ∧ X ≤ 9 := by omega
    have h1 : 1 ≤ Y ∧ Y ≤ 9 := by omega
    by_cases hv : GValid X Y (fun _ => 0) n c
    · have h8 : n ≤ 8 := hv.1.2.2
      by_cases hn : n = 0
      · exact ⟨0, 0, fun _ => 0, 6, 0, fun _ => 0, by omega, fun W g A => spec_in X Y F g n c W hc hm A h0 h1 hz.2.2 _ _ _ _ _ _ (.inr (.inl ⟨hv, hn, rfl, rfl, rfl, rfl, rfl, rfl⟩)), fun W g A => impl_bad2 X Y F g n c W hc hm A h0 h1 hz.2.2 6 (.inr ⟨hv, hn, rfl⟩)⟩
      · by_cases ho : ∃ i, i < X * Y ∧ Over X c n F i
        · exact ⟨0, 0, fun _ => 0, 3, 0, fun _ => 0, by omega, fun W g A => spec_in X Y F g n c W hc hm A h0 h1 hz.2.2 _ _ _ _ _ _ (.inr (.inr (.inl ⟨hv, hn, ho, rfl, rfl, rfl, rfl, rfl, rfl⟩))), fun W g A => callsIn_wide.1 (impl_loop X Y F g n c W hc hm A h0 h1 hz.2.2 hv hn _ _ _ _ _ _ (.inl ⟨ho, rfl, rfl, rfl, rfl, rfl, rfl⟩))⟩
        · have hno : ∀ i, i < X * Y → ¬ Over X c n F i := fun i hi h => ho ⟨i, hi, h⟩
          exact ⟨X, Y, gA X Y (fun _ => 0) (sF c n F), 0, n, c, by omega, fun W g A => spec_in X Y F g n c W hc hm A h0 h1 hz.2.2 _ _ _ _ _ _ (.inr (.inr (.inr ⟨hv, hn, hno, rfl, rfl, rfl, rfl, rfl, rfl⟩))), fun W g A => callsIn_wide.1 (impl_loop X Y F g n c W hc hm A h0 h1 hz.2.2 hv hn _ _ _ _ _ _ (.inr ⟨hno, rfl, rfl, rfl, rfl, rfl, rfl⟩))⟩
    · exact ⟨0, 0, fun _ => 0, 2, 0, fun _ => 0, by omega, fun W g A => spec_in X Y F g n c W hc hm A h0 h1 hz.2.2 _ _ _ _ _ _ (.inl ⟨hv, rfl, rfl, rfl, rfl, rfl, rfl⟩), fun W g A => impl_bad2 X Y F g n c W hc hm A h0 h1 hz.2.2 2 (.inl ⟨hv, rfl⟩)⟩
  · exact ⟨0, 0, fun _ => 0, 2, 0, fun _ => 0, by omega, fun W g A => spec_range K0 K1 F g n c W A hz, fun W g A => impl_range K0 K1 F g n c W A hz⟩

end slopeGround
end Go.Proofs.Ytegnhpanlbfmdaa
