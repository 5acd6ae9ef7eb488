/-
  The contract of impl.commonOf. Conditions stand at each.
-/
import Derived.RangeFuncNested
import Derived.RangeFuncBound
import Derived.RangeFuncCalls
import Derived.RangeFuncLeaves
import Derived.Test.YtjeccdmhpbaabaaRows
import Derived.Test.YtjeccdmhpbaabaaSeqW
import Derived.Test.YtjeccdmhpbaabaaMapB
import Derived.Test.YtjeccdmhpbaabaaCommonM
namespace Go.Proofs.Ytjeccdmhpbaabaa
open Go Go.ChangeShapes Go.WideShapes Go.ChangeAt Go.RowKit Go.Shelf
set_option linter.unusedVariables false
set_option linter.unusedSimpArgs false
set_option maxRecDepth 100000
set_option maxHeartbeats 2000000
attribute [local go_sem] Oper.semAt_some

def vals (L : List I64) : List Int := L.map (·.1)
theorem vals_snoc (L : List I64) (x : I64) : vals (L ++ [x]) = vals L ++ [x.1] := by simp [vals]
theorem vals_length (L : List I64) : (vals L).length = L.length := by simp [vals]
abbrev MapBI (W : World) (s n : Nat) (D : DataW Unit) : Prop := W.ownsMap Try.prog 2 (plainElem (H := Unit) Try.prog 4) s n D

theorem ownsMap_below' {W W' : World} {s n N : Nat} {D : DataW Unit} (h : MapBI W s n D) (hb : Below N W W') (hs : s < N) : MapBI W' s n D := by
  obtain ⟨es, ck, h1, r⟩ := h
  exact ⟨es, ck, (hb.block _ hs).trans h1, r⟩

theorem commonOf_in (A B : Option Addr) (n m ca cb : Nat) (c d : Nat → Int) (joint : Int) (w : World) (h1 : 1 ≤ n) (h60 : n ≤ 60) (hca : n ≤ ca) (g1 : 1 ≤ m) (g60 : m ≤ 60) (hcb : m ≤ cb) (hr : RdK .i64 w w.heap.size A n c) (hs : RdK .i64 w w.heap.size B m d) :
    CallsIn Fence.wide 8 Try.prog 115 #[.slice A n ca, .slice B m cb, .int .i64 joint] w fun e w' => Below w.heap.size w w' ∧ ∃ v, e = .returned v ∧ OwnI w' w.heap.size v (comL (jtL joint d (m - 1)) (jtL joint c (n - 1))) := by
  have hro : Fence.wide.round = none := rfl
  have hmm := @run_makeMap Try.prog
  have HR := Lib.hid hr
  have HS := Lib.hid hs
  clear hr hs
  refine callsIn_of_wp_marks Try.func115 rfl trivial ?_ hro
  simp only [Try.ntmps115, List.size_toArray, List.length_cons, List.length_nil, Nat.reduceAdd, Nat.reduceSub, Array.replicate_succ, Array.replicate_zero, List.push_toArray, List.append_toArray, List.nil_append, List.cons_append]
  gi_wp2
  have hm0 := (World.ownsMap_made (H := Unit) w Try.prog 2 (plainElem (H := Unit) Try.prog 4)).alloc (.cells #[.map (some w.heap.size)] 167)
  obtain ⟨W2, hW2⟩ : ∃ W2 : World, W2 = (w.alloc (.map #[] 0)).alloc (.cells #[.map (some w.heap.size)] 167) := ⟨_, rfl⟩
  have B2 : Below w.heap.size w W2 := by rw [hW2]; exact al (al (Below.refl _ _) _) _
  have s2 : W2.heap.size = w.heap.size + 2 := by rw [hW2]; simp
  have hbx : W2.heap[w.heap.size + 1]? = some (.cells #[.map (some w.heap.size)] 167 (0, 0)) := by
    rw [hW2]; have := heap_alloc_new (w.alloc (.map #[] 0)) (.cells #[.map (some w.heap.size)] 167); rwa [World.size_alloc] at this
  rw [← hW2] at hm0 ⊢
  clear hW2 hmm
  have hj := JG.new W2 w.heap.size A n ca c joint (by omega) ((HR.out.below B2))
  gi_wp2_with (refine ⟨trivial, ?_⟩; gi_at_call 113; refine (jointsIn_in Fence.wide 7 trivial hro .nilFunc A n ca joint _).mono ?_; rintro e w' ⟨rfl, rfl⟩)
  obtain ⟨W0, hW0⟩ : ∃ W0 : World, W0 = (W2.alloc (.cells #[.slice A n ca] 29)).alloc (.cells #[.int .i64 joint] 2) := ⟨_, rfl⟩
  have B0 : Below w.heap.size w W0 := by rw [hW0]; exact al (al B2 _) _
  have s0 : W0.heap.size = w.heap.size + 4 := by rw [hW0]; simp; omega
  have hm1 : MapBI W0 w.heap.size 0 (.map []) := by rw [hW0]; exact (hm0.alloc _).alloc _
  have hbx0 : W0.heap[w.heap.size + 1]? = some (.cells #[.map (some w.heap.size)] 167 (0, 0)) := by
    rw [hW0]; exact (Below.heap_alloc _ _ _ (by simp; omega)).trans ((Below.heap_alloc _ _ _ (by omega)).trans hbx)
  rw [← hW0] at hj ⊢
  rw [s2] at hj
  clear hW0 hm0 hbx
  refine wpIn_rangeFunc_ownH hro (by omega) (gf := 164) (lb := #[.pointer (some ⟨w.heap.size + 2, 0, none⟩), .pointer (some ⟨w.heap.size + 2 + 1, 0, none⟩)]) rfl trivial (enters_of Try.func164 (by kernel_rfl) rfl)
    (jointsW_stops Fence.wide 7 trivial hro (by omega) w.heap.size (w.heap.size + 2) (w.heap.size + 2 + 1) A n ca c joint h1 h60 hca W0 hj ⟨by omega, by omega, by omega⟩) kpS_trans (kpS_put (fun k hk => by unfold Sx at hk; omega)) (Below.refl _ _) (fun _ => rfl)
    (fun pre W' => Below w.heap.size W0 W' ∧ W'.heap[w.heap.size + 1]? = some (.cells #[.map (some w.heap.size)] 167 (0, 0)) ∧ MapBI W' w.heap.size pre.length (setD (vals pre)))
    (fun _ _ _ => False)
    (fun s X Y row hs hg hr => ⟨ownFrom_below (β := Unit) (n₀ := w.heap.size) (w₀ := W0) (B := W0.heap.size) (by omega) (by omega) () X Y row hs.1 hg hr, cellsKeptN hs.2.1 hg (fun r e => (hr r e).2), hs.2.2.kept hg (fun e => by have := (hr _ e.symm).1; omega)⟩)
    (fun _ _ _ _ _ hs _ _ => hs)
    ⟨(Below.refl W0.heap.size W0).mono (by omega), hbx0, hm1⟩
    (fun x a' W' => a' = { tmps := #[.slice A n ca, .slice B m cb, .int .i64 joint, undef, undef, undef, .slice none 0 0, .pointer (some ⟨w.heap.size + 1, 0, none⟩), .int .i64 x.1, undef, undef, .map (some w.heap.size), .slice A n ca, .int .i64 joint, .func (.func 164) #[] #[.pointer (some ⟨w.heap.size + 2, 0, none⟩), .pointer (some ⟨w.heap.size + 2 + 1, 0, none⟩)], .int .i64 x.1, undef, undef, undef, undef, undef, undef, undef, undef, undef, undef, undef, undef, undef, undef], defers := [] })
    (fun x a' _ X Y row hs hg hr => hs)
    ?assign ?body ?done ?stop
  case assign =>
    rintro l pre x W' K hI hK
    dsimp only [encW]
    gi_wp2
    exact hK _ _ (KeepsFrom.refl _ _) (kpS_refl _ _) hI rfl
  case body =>
    rintro l pre x a' W' hl hrr ⟨hB1, hb1, hown⟩ rfl hlt
    have hsW := hB1.size
    have hkey := Maps.keyOf_int_mk Try.underlying2 x.2
    have cB := cell_of_row W' (w.heap.size + 1) 0 _ _ _ hb1
    simp at cB
    gi_wp2_with (first
      | (gi_at_mapUpdate; refine wpListIn_mapUpdate_own _ rfl _ _ _ 167 rfl 2 4 (Maps.int_keyed Try.underlying2) Try.underlying167 _ w.heap.size pre.length _ rfl hown (by unfold maxLen; omega) _ _ _ rfl rfl hkey _ [] (plainElem_bool Try.underlying4 true) ?_; intro w1 hown1 hgrow1))
    obtain ⟨es, ck, hh, _⟩ := hown
    refine ⟨KeepsFrom.of_grownBy hgrow1 (fun j e => by cases e; omega), kpS_grown hgrow1 (fun k hk => ⟨by unfold Sx at hk; omega, fun e => by cases e; unfold Sx at hk; omega⟩),
      hB1.grown hgrow1 (by omega) (fun k e => by cases e; exact Nat.le_refl _), (hgrow1.block _ (by omega) (fun e => by injection e; omega)).trans hb1, ?_⟩
    rw [vals_snoc, setD_snoc, List.length_append]
    exact hown1
  case done =>
    rintro D1 xs W' hD1 rfl ⟨hB1, hb1, hown⟩ hK1
    have hB1' := B0.trans (hB1.mono (Nat.le_refl _))
    have hD1s := (Array.getElem?_eq_some_iff.1 hK1).1
    rw [jtW_length] at hown
    have e1 : vals (jtW joint c (n - 1)) = jtL joint c (n - 1) := jtW_val joint c (n - 1)
    rw [e1] at hown
    have hj2 := JG.new (W'.alloc (.cells #[.slice none 0 0] 29)) w.heap.size B m cb d joint (by simp; have := hB1.size; omega) ((HS.out.below hB1').below ((al (Below.refl _ _) _).mono (by have := hB1.size; omega)))
    have hs1 := hB1.size
    gi_wp2_with (refine ⟨trivial, ?_⟩; gi_at_call 113; refine (jointsIn_in Fence.wide 7 trivial hro .nilFunc B m cb joint _).mono ?_; rintro e w' ⟨rfl, rfl⟩)
    obtain ⟨C, hC⟩ : ∃ C : Nat, C = W'.heap.size := ⟨_, rfl⟩
    obtain ⟨V0, hV0⟩ : ∃ V0 : World, V0 = ((W'.alloc (.cells #[.slice none 0 0] 29)).alloc (.cells #[.slice B m cb] 29)).alloc (.cells #[.int .i64 joint] 2) := ⟨_, rfl⟩
    have B3 : Below w.heap.size w V0 := by rw [hV0]; exact al (al (al hB1' _) _) _
    have s3 : V0.heap.size = C + 3 := by rw [hV0, hC]; simp
    have hm3 : MapBI V0 w.heap.size (n - 1) (setD (jtL joint c (n - 1))) := by rw [hV0]; exact ((hown.alloc _).alloc _).alloc _
    have hmbx : V0.heap[w.heap.size + 1]? = some (.cells #[.map (some w.heap.size)] 167 (0, 0)) := by
      rw [hV0]; exact (Below.heap_alloc _ _ _ (by simp; omega)).trans ((Below.heap_alloc _ _ _ (by simp; omega)).trans ((Below.heap_alloc _ _ _ (by omega)).trans hb1))
    have hK3 : V0.heap[D1]? = some (.deferred (some [])) := by
      rw [hV0]; exact (Below.heap_alloc _ _ _ (by simp; omega)).trans ((Below.heap_alloc _ _ _ (by simp; omega)).trans ((Below.heap_alloc _ _ _ hD1s).trans hK1))
    have hbx3 : V0.heap[C]? = some (.cells #[.slice none 0 0] 29 (0, 0)) := by
      rw [hV0, hC]; exact (Below.heap_alloc _ _ _ (by simp; omega)).trans ((Below.heap_alloc _ _ _ (by simp)).trans (heap_alloc_new W' _))
    rw [← hV0] at hj2 ⊢
    rw [World.size_alloc, ← hC] at hj2
    rw [← hC] at hs1 hD1s ⊢
    clear hV0 hC hown hb1 hK1 hj hbx0 hm1
    refine wpIn_rangeFunc_ownH hro (by omega) (gf := 164) (lb := #[.pointer (some ⟨C + 1, 0, none⟩), .pointer (some ⟨C + 1 + 1, 0, none⟩)]) rfl trivial (enters_of Try.func164 (by kernel_rfl) rfl)
      (jointsW_stops Fence.wide 7 trivial hro (by omega) w.heap.size (C + 1) (C + 1 + 1) B m cb d joint g1 g60 hcb V0 hj2 ⟨by omega, by omega, by omega⟩) kpS_trans (kpS_put (fun k hk => by unfold Sx at hk; omega)) (Below.refl _ _) (fun _ => rfl)
      (fun pre W4 => (Below C V0 W4 ∧ W4.heap[D1]? = some (.deferred (some []))) ∧ ∃ v, W4.heap[C]? = some (.cells #[v] 29 (0, 0)) ∧ OwnI W4 V0.heap.size v (comL (vals pre) (jtL joint c (n - 1))))
      (fun _ _ _ => False)
      (fun s X Y row hs hg hr => ⟨⟨ownFrom_below (β := Unit) (n₀ := C) (w₀ := V0) (B := V0.heap.size) (by omega) (by omega) () X Y row hs.1.1 hg hr, (hg.block D1 (by have := hs.1.1.size; omega) (fun e => by have := (hr _ e.symm).1; omega)).trans hs.1.2⟩, by obtain ⟨v, h1, h2⟩ := hs.2; exact ⟨v, cellsKeptN h1 hg (fun r e => (hr r e).2), h2.keptN hg (fun r e => (hr r e).2)⟩⟩)
      (fun _ _ _ _ _ hs _ _ => hs)
      ⟨⟨(Below.refl V0.heap.size V0).mono (by omega), hK3⟩, .slice none 0 0, hbx3, OwnI.nil _ _⟩
      (fun x a' W' => a' = { tmps := #[.slice A n ca, .slice B m cb, .int .i64 joint, undef, undef, undef, .slice none 0 0, .pointer (some ⟨w.heap.size + 1, 0, none⟩), undef, .pointer (some ⟨C, 0, none⟩), .int .i64 x.1, .map (some w.heap.size), .slice A n ca, .int .i64 joint, .func (.func 164) #[] #[.pointer (some ⟨w.heap.size + 2, 0, none⟩), .pointer (some ⟨w.heap.size + 2 + 1, 0, none⟩)], undef, undef, undef, .slice B m cb, .int .i64 joint, .func (.func 164) #[] #[.pointer (some ⟨C + 1, 0, none⟩), .pointer (some ⟨C + 1 + 1, 0, none⟩)], .int .i64 x.1, undef, undef, undef, undef, undef, undef, undef, undef], defers := [] })
      (fun x a' _ X Y row hs hg hr => hs)
      ?assign2 ?body2 ?done2 ?stop2
    case assign2 =>
      rintro l pre x W' K hI hK
      dsimp only [encW]
      gi_wp2
      exact hK _ _ (KeepsFrom.refl _ _) (kpS_refl _ _) hI rfl
    case body2 =>
      rintro l pre x a' W4 hl hrr ⟨⟨hB4, hD4⟩, v, hv1, hv2⟩ rfl hlt
      have hsW := hB4.size
      have hkey := Maps.keyOf_int_mk Try.underlying2 x.2
      have hown := ownsMap_below' hm3 hB4 (by omega)
      have hb4 := (hB4.block _ (by omega)).trans hmbx
      have cM := cell_of_row W4 (w.heap.size + 1) 0 _ _ _ hb4
      simp at cM
      have cB := cell_of_row W4 C 0 _ _ _ hv1
      have fB := frozen_of_row W4 C 0 _ _ hv1
      simp at cB
      have hat := setD_at (H := Unit) (jtL joint c (n - 1)) x.1
      by_cases hx : x.1 ∈ jtL joint c (n - 1)
      · rw [decide_eq_true hx] at hat
        have HX := Lib.hid hx
        have HA := Lib.hid hat
        clear hx hat
        obtain ⟨i0, hi, hz0, hz1, hz2⟩ := info_parts infoI64
        have hlen := comL_le (vals pre) (jtL joint c (n - 1))
        rw [vals_length] at hlen
        gi_wp2_with (first
          | (gi_at_lookup; refine wpListIn_lookup_own_bool _ rfl _ _ 167 rfl 2 4 (Maps.int_keyed Try.underlying2) Try.underlying167 Try.underlying4 (Try.zeroValue4 _) w.heap.size _ _ rfl hown _ _ rfl hkey true HA.out ?_)
          | (gi_at_builtin
             refine wpListIn_append_own _ rfl _ _ 29 rfl V0.heap.size 2 i0 (.int .i64 0) 1 8 Try.underlying29 hi hz0 hz1 hz2 rfl (by decide) _ _ _ rfl (World.ownsRow.alloc hv2 _) ⟨W4.heap.size, 0, none⟩ 1 1 [.int .i64 x.1] rfl rfl (ncells W4 #[.int .i64 x.1] 2) one64 (by unfold maxLen; omega) (by omega) (by simp; omega) ?_
             intro v' w7 own' hgr _
             obtain ⟨A', cap', rfl⟩ := (OwnI.snoc own').shape
             have hlo : ∀ k, v.ownBlock = some k → V0.heap.size ≤ k ∧ k < W4.heap.size := fun k e => hv2.lt k e
             have hv3 : w7.heap[C]? = some (.cells #[v] 29 (0, 0)) := (hgr.block _ (by simp; omega) (fun e => by have := (hlo _ e.symm).1; omega)).trans ((Below.heap_alloc W4 _ _ (by omega)).trans hv1)
             have cB7 := cell_of_row w7 C 0 _ _ _ hv3
             have fB7 := frozen_of_row w7 C 0 _ _ hv3
             simp at cB7))
        have hgr' : (W4.alloc (.cells #[.int .i64 x.1] 2)).grownBy w7 v.ownBlock := hgr
        clear hgr
        have hs7 := hgr'.size
        simp at hs7
        have hcells : ∀ (j : Nat) (o : Obj), v.ownBlock = some j → (W4.alloc (.cells #[.int .i64 x.1] 2)).heap[j]? = some o → o.isCells = true := by
          intro j o e ho
          rcases hv2.2 with ⟨hn, _⟩ | ⟨g', cap', cur', he, _, hg', _⟩
          · rw [hn] at e; cases e
          · rw [he] at e
            injection e with e
            subst e
            rw [Below.heap_alloc W4 _ _ (Array.getElem?_eq_some_iff.1 hg').1, hg'] at ho
            injection ho with ho
            rw [← ho]; rfl
        have hf7 : KeepsFrom V0.heap.size W4 w7 := ((KeepsOthers.alloc W4 _).trans (KeepsOthers.of_grownBy hgr' hcells)).from _
        have hB7 : Below C V0 w7 := (hB4.alloc (by omega) _).grown hgr' (by simp; omega) (fun k e => by have := (hlo k e).1; omega)
        have hold : ∀ k, k < W4.heap.size → k < V0.heap.size → w7.heap[k]? = W4.heap[k]? := fun k hk hk2 => (hgr'.block k (by simp; omega) (fun e => by have := (hlo _ e.symm).1; omega)).trans (Below.heap_alloc W4 _ _ hk)
        have O7 := OwnI.snoc own'
        rw [List.length_append] at O7
        refine ⟨hf7.trans ((KeepsOthers.setCell _ _ _).from _), kpS_trans (⟨by omega, fun k hk => by unfold Sx at hk; exact hold k (by omega) (by omega)⟩ : KpS _ W4 w7) ⟨by simp, fun k hk => Below.heap_setCell w7 _ _ _ (by unfold Sx at hk; show k ≠ C; omega)⟩, ⟨hB7.setCell (p := ⟨C, 0, none⟩) (Nat.le_refl _) _, (Below.heap_setCell w7 _ _ _ (by show D1 ≠ C; omega)).trans ((hold D1 (by omega) (by omega)).trans hD4)⟩, _, heap_setCell_same w7 C 0 _ _ _ hv3, ?_⟩
        rw [vals_snoc, comL_snoc, if_pos HX.out]
        have O8 : OwnI (w7.setCell ⟨C, 0, none⟩ (.slice A' ((comL (vals pre) (jtL joint c (n - 1))).length + 1) cap')) V0.heap.size (.slice A' ((comL (vals pre) (jtL joint c (n - 1))).length + 1) cap') (comL (vals pre) (jtL joint c (n - 1)) ++ [x.1]) :=
          O7.far fun k hk _ => Below.heap_setCell w7 _ _ _ (by show k ≠ C; omega)
        exact O8
      · rw [decide_eq_false hx] at hat
        have HX := Lib.hid hx
        have HA := Lib.hid hat
        clear hx hat
        gi_wp2_with (first
          | (gi_at_lookup; refine wpListIn_lookup_own_bool _ rfl _ _ 167 rfl 2 4 (Maps.int_keyed Try.underlying2) Try.underlying167 Try.underlying4 (Try.zeroValue4 _) w.heap.size _ _ rfl hown _ _ rfl hkey false HA.out ?_))
        exact ⟨KeepsFrom.refl _ _, kpS_refl _ _, ⟨hB4, hD4⟩, v, hv1, by rw [vals_snoc, comL_snoc, if_neg HX.out, List.append_nil]; exact hv2⟩
    case done2 =>
      rintro D2 zs W4 hD2 rfl ⟨⟨hB4, hD4⟩, v, hv1, hv2⟩ hK2
      have cB := cell_of_row W4 C 0 _ _ _ hv1
      simp at cB
      gi_wp2
      have hK4 : (W4.putObj D2 (.deferred none)).heap[D1]? = some (.deferred (some [])) := ((grownBy_putObj' W4 D2 (.deferred none)).block D1 (Array.getElem?_eq_some_iff.1 hD4).1 (fun e => by injection e; omega)).trans hD4
      refine ⟨by simp, .inl ⟨_, _, rfl, run_takeDeferred hK2, ?_⟩⟩
      refine ⟨by simp, .inl ⟨_, _, rfl, run_takeDeferred hK4, ?_⟩⟩
      refine ⟨_, results_tmp Try.results115 _ _ _, ?_, v, rfl, ?_⟩
      · exact ((B3.trans (hB4.mono (by omega))).trans (belowK_b (w := w) (Nat.le_refl _) _ D2 _ _ (by omega) hK2 rfl rfl)).trans (belowK_b (w := w) (Nat.le_refl _) _ D1 _ _ (by omega) hK4 rfl rfl)
      · have e2 : vals (jtW joint d (m - 1)) = jtL joint d (m - 1) := jtW_val joint d (m - 1)
        rw [e2] at hv2
        have h1 := hv2.keptN (grownBy_putObj' W4 D2 (.deferred none)) (fun r e => by cases e; exact ⟨_, hK2, rfl⟩)
        have h2 := h1.keptN (grownBy_putObj' _ D1 (.deferred none)) (fun r e => by cases e; exact ⟨_, hK4, rfl⟩)
        exact h2.mono (by omega)
    case stop2 =>
      rintro D c pre W _ _ h _
      exact h.elim
  case stop =>
    rintro D c pre W _ _ h _
    exact h.elim
end Go.Proofs.Ytjeccdmhpbaabaa
