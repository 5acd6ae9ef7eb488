/-
  slices.Collect over the points of a ground. Conditions stand at each.
-/
import Derived.Test.YtegnhpanlbfmdaaRows
import Derived.Test.YtegnhpanlbfmdaaFallS
import Derived.Test.YtegnhpanlbfmdaaGndV
namespace Go.Proofs.Ytegnhpanlbfmdaa
open Go Go.ChangeShapes Go.WideShapes Go.ChangeAt Go.RowKit Go.Shelf
set_option linter.unusedVariables false
set_option linter.unusedSimpArgs false
set_option maxRecDepth 100000
set_option maxHeartbeats 4000000
attribute [local go_sem] Oper.semAt_some

theorem OwnC.keptN {X Y : World} {row : Option Nat} {base : Nat} {v : Value} {L : List (Nat × Nat)} (h : OwnC X base v L) (hg : X.grownBy Y row)
    (hr : ∀ r, row = some r → ∃ o : Obj, X.heap[r]? = some o ∧ o.isCells = false) : OwnC Y base v L := by
  refine World.ownsRow.kept h hg ?_
  rcases h.2 with ⟨rfl, _⟩ | ⟨g, cap, cur, rfl, _, hw, _⟩
  · exact .inl rfl
  · right
    intro e
    obtain ⟨o, ho, hc⟩ := hr g e.symm
    rw [hw] at ho
    cases ho; cases hc
theorem OwnC.nil (w : World) (base : Nat) : OwnC w base (.slice none 0 0) [] := ⟨rfl, .inl ⟨rfl, rfl⟩⟩
theorem OwnC.lt {w : World} {base k : Nat} {v : Value} {L : List (Nat × Nat)} (h : OwnC w base v L) (e : v.ownBlock = some k) : base ≤ k ∧ k < w.heap.size := World.ownsRow.lt h k e
theorem OwnC.isCells {w : World} {base k : Nat} {v : Value} {L : List (Nat × Nat)} (h : OwnC w base v L) (e : v.ownBlock = some k) : ∃ cs t fr, w.heap[k]? = some (.cells cs t fr) := by
  rcases h.2 with ⟨rfl, _⟩ | ⟨g, cap, cur, rfl, _, hw, _⟩
  · cases e
  · injection e with e
    subst e
    exact ⟨_, _, _, hw⟩

theorem appendSeqC_in (bs wd ht : Nat) (hp : 0 < wd ∧ 0 < ht) (hx : wd ≤ 12) (hy : ht ≤ 12) (w : World) (hS : Sl w bs 0 0 wd ht) :
    CallsIn Fence.wide 7 Try.prog 202 #[.slice none 0 0, .func (.func 220) #[] #[.pointer (some ⟨bs, 0, none⟩)]] w fun e w' => Below w.heap.size w w' ∧ ∃ v, e = .returned v ∧ OwnC w' w.heap.size v (allC wd (wd * ht)) := by
  have hro : Fence.wide.round = none := rfl
  have hbs : bs < w.heap.size := hS.1
  refine callsIn_of_wp_marks Try.func202 rfl trivial ?_ hro
  simp only [Try.ntmps202, List.size_toArray, List.length_cons, List.length_nil, Nat.reduceAdd, Nat.reduceSub, Array.replicate_succ, Array.replicate_zero, List.push_toArray, List.append_toArray, List.nil_append, List.cons_append]
  gi_wp2
  obtain ⟨W0, hW0⟩ : ∃ W0 : World, W0 = w.alloc (.cells #[.slice none 0 0] 31) := ⟨_, rfl⟩
  have B0 : Below w.heap.size w W0 := by rw [hW0]; exact al (Below.refl _ _) _
  have s0 : W0.heap.size = w.heap.size + 1 := by rw [hW0]; simp
  have X2 : Bx W0 w.heap.size #[.slice none 0 0] 31 := by rw [hW0]; exact Bx.new w _ _
  have hS0 : Sl W0 bs 0 0 wd ht := by rw [hW0]; exact hS.alloc _
  rw [← hW0]
  clear hW0
  refine range_cells (by omega) bs wd ht hp rfl rfl hx hy hS0 (fun k => w.heap.size ≤ k) (by omega)
    (fun pre V => ∃ v, Bx V w.heap.size #[v] 31 ∧ OwnC V W0.heap.size v (pre.map (·.1)))
    (fun _ _ _ => False)
    ?_ ?_ ?_ 5 7 ?assign ?body ?done ?stop
  · rintro pre X Y row ⟨v, b1, o1⟩ hg hr
    exact ⟨v, ownFrom_bx W0.heap.size (fun _ : Unit => _) (fun _ => _) _ () X Y row b1 hg hr, o1.keptN hg (fun r e => (hr r e).2)⟩
  · exact fun cc => fun _ _ _ _ h => h.elim
  · exact ⟨_, X2, OwnC.nil _ _⟩
  case assign =>
    rintro l x V K hK
    dsimp only [encP]
    gi_wp2
    exact hK
  case body =>
    rintro l pre x b V hbV hx' hk ⟨v, hv1, hv2⟩ hlt
    have hsV := hk.size
    obtain ⟨i0, hi, hz0, hz1, hz2⟩ := info_parts infoCell
    have hwh : wd * ht ≤ 144 := Nat.mul_le_mul hx hy
    have cB := hv1.cell 0
    have fB := hv1.frozen 0
    have cx : V.cell? ⟨b, 0, none⟩ = some (.int .i8 (x.1.1 : Int)) := hx'.cell 0
    have cy : V.cell? ⟨b, 1, none⟩ = some (.int .i8 (x.1.2 : Int)) := hx'.cell 1
    simp only [List.getElem?_toArray, List.getElem?_cons_zero] at cB
    have hlen : (pre.map (·.1) : List (Nat × Nat)).length = pre.length := List.length_map _
    gi_wp2_with (first
      | (gi_at_builtin
         refine wpListIn_append_own _ rfl _ _ 31 rfl W0.heap.size 40 i0 (.agg #[.int .i8 0, .int .i8 0]) 2 2 Try.underlying31 hi hz0 hz1 hz2 rfl (by decide) _ _ _ rfl (World.ownsRow.alloc hv2 _) ⟨V.heap.size, 0, none⟩ 1 1 [.int .i8 (x.1.1 : Int), .int .i8 (x.1.2 : Int)] rfl rfl (new_cells V #[.int .i8 (x.1.1 : Int), .int .i8 (x.1.2 : Int)] 40) one_ints (by rw [hlen]; unfold maxLen; omega) (by rw [hlen]; omega) (by simp; omega) ?_
         intro v' w7 own' hgr _
         have hv3 : Bx w7 w.heap.size #[v] 31 := (hv1.alloc _).of_block (hgr.block _ (hv1.alloc _).lt (fun e => by have := (hv2.lt e.symm).1; omega))
         have cB7 := hv3.cell 0
         have fB7 := hv3.frozen 0
         simp only [List.getElem?_toArray, List.getElem?_cons_zero] at cB7
         have O7 : OwnC w7 W0.heap.size v' ((pre ++ [x]).map (·.1)) := by
           unfold OwnC
           rw [List.map_append, cellsL_append, List.length_append]
           exact own'
         obtain ⟨A', cap', rfl, _⟩ := O7.form
         have HO7 := Lib.hid O7))
    have O7 := HO7.out
    have K7 : Kpt W0.heap.size (fun k => w.heap.size ≤ k) V w7 := (((Kpt.refl W0.heap.size (fun k => w.heap.size ≤ k) V).alloc (.cells #[.int .i8 (x.1.1 : Int), .int .i8 (x.1.2 : Int)] 40))).grown hgr (fun k e => ⟨by have := (hv2.lt e).1; omega, .inr ((hv2.alloc _).isCells e)⟩)
    rw [s0] at K7
    have hl7 : ((pre ++ [x]).map (·.1) : List (Nat × Nat)).length = pre.length + 1 := by simp
    rw [hl7, s0] at O7
    exact ⟨K7.setCell (b := w.heap.size) (Nat.le_refl _) _ _, _, hv3.set 0 _, O7.setOther (b := w.heap.size) (by omega)⟩
  case done =>
    rintro D V hD hk ⟨v, hv1, hv2⟩ hdef
    have cB := hv1.cell 0
    simp only [List.getElem?_toArray, List.getElem?_cons_zero] at cB
    gi_wp2
    have hmap : ((uptoP hp (wd * ht)).map (·.1) : List (Nat × Nat)) = allC wd (wd * ht) := by
      unfold uptoP allC
      rw [List.map_map]
      refine List.map_congr_left fun k hk => ?_
      exact cellP_val hp (List.mem_range.1 hk)
    have BB := B0.trans ((hk.toBelow (k0 := w.heap.size) (fun k hk => hk) (by omega)))
    refine ⟨by simp, .inl ⟨_, _, rfl, run_takeDeferred hdef, ?_⟩⟩
    refine ⟨_, results_tmp Try.results202 _ _ _, BB.trans (belowK_b (w := w) (Nat.le_refl _) _ D _ _ (by omega) hdef rfl rfl), v, rfl, ?_⟩
    rw [← hmap]
    exact World.ownsRow.mono (hv2.keptN (grownBy_putObj' V D (.deferred none)) (fun r e => by cases e; exact ⟨_, hdef, rfl⟩)) (by omega)
  case stop =>
    rintro D cc k V hD hkk h hdef
    exact h.elim

theorem collectC_any (bs wd ht : Nat) (hp : 0 < wd ∧ 0 < ht) (hx : wd ≤ 12) (hy : ht ≤ 12) (w : World) (hS : Sl w bs 0 0 wd ht) :
    Calls Try.prog 139 #[.func (.func 220) #[] #[.pointer (some ⟨bs, 0, none⟩)]] w fun e w' => Below w.heap.size w w' ∧ ∃ v, e = .returned v ∧ OwnC w' w.heap.size v (allC wd (wd * ht)) := by
  have HC := Lib.hid (callsIn_wide.1 (appendSeqC_in bs wd ht hp hx hy w hS))
  go_enter Try.func139, Try.ntmps139
  go_wp2_with fail
  refine HC.out.mono ?_
  rintro e w1 ⟨hb, v, rfl, O⟩
  go_wp2
  go_ret
  exact ⟨hb, v, rfl, O⟩
end Go.Proofs.Ytegnhpanlbfmdaa
