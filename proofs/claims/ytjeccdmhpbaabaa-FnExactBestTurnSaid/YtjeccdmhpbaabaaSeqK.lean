/-
  What the rounds of a range over a function keep: the blocks below a number. No condition.
-/
import Derived.RangeFuncNested
import Derived.RangeFuncBound
import Derived.RangeFuncCalls
import Derived.RangeFuncLeaves
import Derived.Shelf.Abstract
import Derived.Shelf.RegionOpen
import Derived.WalkKit
import Derived.OwnWalkIn
import Derived.Maps.OwnIn
import Derived.TacticsInMore
import Derived.LoopNIn
import Derived.LoopIn
import Derived.Test.YtjeccdmhpbaabaaRows
import Derived.Test.YtjeccdmhpbaabaaNums
import Derived.Test.YtjeccdmhpbaabaaRow
namespace Go.Proofs.Ytjeccdmhpbaabaa
open Go Go.ChangeShapes Go.WideShapes Go.ChangeAt Go.RowKit Go.Shelf
set_option linter.unusedVariables false
set_option linter.unusedSimpArgs false
set_option maxRecDepth 100000
set_option maxHeartbeats 2000000
attribute [local go_sem] Oper.semAt_some

def KpN (N : Nat) (W W' : World) : Prop := W.heap.size ≤ W'.heap.size ∧ ∀ k, k < N → W'.heap[k]? = W.heap[k]?
theorem kpN_trans {N : Nat} {A B C : World} (h : KpN N A B) (k : KpN N B C) : KpN N A C := ⟨Nat.le_trans h.1 k.1, fun j hj => (k.2 j hj).trans (h.2 j hj)⟩
theorem kpN_put {N : Nat} {w : World} (hb : N ≤ w.heap.size) (W : World) (l : Nat) (o o' : Obj) (hl : w.heap.size ≤ l) (h : W.heap[l]? = some o) (_ : o.isCells = false) (_ : o.isWalk = false) : KpN N W (W.putObj l o') := by
  have hg := grownBy_putObj' W l o'
  have hlt := (Array.getElem?_eq_some_iff.1 h).1
  exact ⟨hg.size, fun k hk => hg.block k (by omega) (fun e => by injection e; omega)⟩
theorem kpN_below {N B : Nat} {W W' : World} (h : Below B W W') (hb : N ≤ B) : KpN N W W' := ⟨h.size, fun k hk => h.block k (by omega)⟩
theorem keepsFrom_belowN {B : Nat} {W W' : World} (h : Below W.heap.size W W') : KeepsFrom B W W' :=
  ⟨h.size, fun k o _ h0 _ => (h.block k (Array.getElem?_eq_some_iff.1 h0).1).trans h0⟩
theorem cellsKeptN {X Y : World} {row : Option Nat} {Bx : Nat} {c : Array Value} {t : TypeId} (h : X.heap[Bx]? = some (.cells c t (0, 0))) (hg : X.grownBy Y row)
    (hr : ∀ r, row = some r → ∃ o : Obj, X.heap[r]? = some o ∧ o.isCells = false) : Y.heap[Bx]? = some (.cells c t (0, 0)) :=
  (hg.block Bx (Array.getElem?_eq_some_iff.1 h).1 (fun e => by obtain ⟨o, ho, hc⟩ := hr Bx e.symm; rw [h] at ho; cases ho; cases hc)).trans h
theorem OwnI.keptN {X Y : World} {row : Option Nat} {base : Nat} {v : Value} {L : List Int} (h : OwnI X base v L) (hg : X.grownBy Y row)
    (hr : ∀ r, row = some r → ∃ o : Obj, X.heap[r]? = some o ∧ o.isCells = false) : OwnI Y base v L := by
  refine World.ownsRow.kept h hg ?_
  rcases h.2 with ⟨rfl, _⟩ | ⟨g, cap, cur, rfl, _, hw, _⟩
  · exact .inl rfl
  · right
    intro e
    obtain ⟨o, ho, hc⟩ := hr g e.symm
    rw [hw] at ho
    cases ho; cases hc

/-- the place ahead of sett number i of a row, and that of the joint behind it. -/
def jp (joint : Int) (c : Nat → Int) : Nat → Int
  | 0 => 0
  | i + 1 => wrap64 (wrap64 (jp joint c i + c i) + joint)
def jt (joint : Int) (c : Nat → Int) (i : Nat) : Int := wrap64 (jp joint c i + c i)
def jtL (joint : Int) (c : Nat → Int) (m : Nat) : List Int := (List.range m).map (jt joint c)
theorem jtL_length (joint : Int) (c : Nat → Int) (m : Nat) : (jtL joint c m).length = m := by simp [jtL]
theorem jtL_succ (joint : Int) (c : Nat → Int) (m : Nat) : jtL joint c (m + 1) = jtL joint c m ++ [jt joint c m] := by
  unfold jtL
  rw [List.range_succ, List.map_append]
  rfl
def encI (x : Int) : Array Value := #[.int .i64 x]
/-- the two boxes of an iterator of joints, and its row. -/
def JF (N b1 b2 : Nat) (A : Option Addr) (n cap : Nat) (c : Nat → Int) (joint : Int) (W : World) : Prop :=
  N ≤ W.heap.size ∧ (b1 < N ∧ W.cell? ⟨b1, 0, none⟩ = some (.slice A n cap)) ∧ (b2 < N ∧ W.cell? ⟨b2, 0, none⟩ = some (.int .i64 joint)) ∧ RdK .i64 W N A n c
theorem JF.kp {N b1 b2 : Nat} {A : Option Addr} {n cap : Nat} {c : Nat → Int} {joint : Int} {W W' : World} (h : JF N b1 b2 A n cap c joint W) (hk : KpN N W W') : JF N b1 b2 A n cap c joint W' := by
  refine ⟨Nat.le_trans h.1 hk.1, ⟨h.2.1.1, (World.cell?_of_block (w := W) (hk.2 b1 h.2.1.1)).trans h.2.1.2⟩, ⟨h.2.2.1.1, (World.cell?_of_block (w := W) (hk.2 b2 h.2.2.1.1)).trans h.2.2.1.2⟩, fun h0 => ?_⟩
  obtain ⟨b, off, e, hb, hc⟩ := h.2.2.2 h0
  exact ⟨b, off, e, hb, fun j hj => (World.cell?_of_block (w := W) (hk.2 b hb)).trans (hc j hj)⟩

theorem joints1_in (F : Fence) (q : Nat) (hF : F.fn 164) (hro : F.round = none) (hq : 1 ≤ q) (l N b1 b2 : Nat) (A : Option Addr) (n cap : Nat) (c : Nat → Int) (joint : Int) (h1 : 1 ≤ n) (h60 : n ≤ 60) (hcap : n ≤ cap) (J Jx : List Int → World → Prop)
    (hY : ∀ pre x W, J pre W → pre.length < n - 1 → YieldAt F (q - 1) Try.prog l (encI x) W fun e W' =>
      (e = .returned (.bool true) ∧ J (pre ++ [x]) W' ∧ KpN N W W') ∨ (e = .returned (.bool false) ∧ Jx (pre ++ [x]) W'))
    (W : World) (hS : JF N b1 b2 A n cap c joint W) (h0 : J [] W) :
    CallsIn F q Try.prog 164 #[.func (.yield l) #[] #[], .pointer (some ⟨b1, 0, none⟩), .pointer (some ⟨b2, 0, none⟩)] W fun e W' => (∃ v, e = .returned v) ∧
      ((∃ ys, ys = jtL joint c (n - 1) ∧ J ys W') ∨ (∃ pre, (∃ k, k ≤ n - 1 ∧ pre = jtL joint c k) ∧ Jx pre W')) := by
  obtain ⟨s0, ⟨l1, c1⟩, ⟨l2, c2⟩, R⟩ := id hS
  have q1 : IntKind.i64.wrap ((n : Int) - 1) = (n : Int) - 1 := IntWalk.i64_in _ (by omega)
  have q2 : ((n : Int) - 1).toNat = n - 1 := by omega
  have q3 : 0 ≤ (n : Int) - 1 := by omega
  have q4 : (n : Int) - 1 ≤ (cap : Int) := by omega
  have q5 : ((n - 1 : Nat) : Int) = (n : Int) - 1 := by omega
  have HQ5 := Lib.hid q5
  clear q5 R
  refine callsIn_of_wp Try.func164 rfl hF ?_ hro
  simp only [Try.ntmps164, List.size_toArray, List.length_cons, List.length_nil, Nat.reduceAdd, Nat.reduceSub, Array.replicate_succ, Array.replicate_zero, List.push_toArray, List.append_toArray, List.nil_append, List.cons_append]
  gi_wp2
  clear c1 c2 s0
  gi_loopw [4, 13] (fun t4 t13 wr => ∃ m : Nat, m ≤ n - 1 ∧ t13 = .int .i64 m ∧ t4 = .int .i64 (jp joint c m) ∧ J (jtL joint c m) wr ∧ JF N b1 b2 A n cap c joint wr) (fun t4 t13 wr => n - 1 - (intOf t13).toNat)
  case atStart => exact ⟨0, by omega, rfl, rfl, h0, hS⟩
  case round =>
    obtain ⟨m, hm, rfl, rfl, hJ, hS2⟩ := hrel
    obtain ⟨wo, rfl⟩ : ∃ wo : World, wo = wr := ⟨_, rfl⟩
    obtain ⟨s0, ⟨_, c1⟩, ⟨_, c2⟩, R⟩ := id hS2
    by_cases hlt : m < n - 1
    · have hlti : (m : Int) < (n : Int) - 1 := by omega
      obtain ⟨b, off, rfl, hbl, ck⟩ := rdInt64 R (show m < n by omega)
      obtain ⟨x, hx⟩ : ∃ x, x = c m := ⟨_, rfl⟩
      obtain ⟨y, hy⟩ : ∃ y, y = jp joint c m := ⟨_, rfl⟩
      have ej : jt joint c m = wrap64 (y + x) := by rw [hx, hy]; rfl
      have ep : jp joint c (m + 1) = wrap64 (wrap64 (y + x) + joint) := by rw [hx, hy]; rfl
      have es := jtL_succ joint c m
      rw [ej] at es
      have HE := Lib.hid (And.intro ep es)
      rw [← hx] at ck
      rw [← hy]
      obtain ⟨fn, tmps, assign, body, hyy, hR⟩ := hY _ (wrap64 (y + x)) wo hJ (by rw [jtL_length]; exact hlt)
      rw [← es] at hR
      have HR := Lib.hid hR
      dsimp only [encI] at hyy
      clear hx hy ej ep es R c1 c2 hR hY hS hJ
      gi_wp2
      refine HR.out.mono ?_
      rintro e W3 (⟨rfl, hJ3, hk3⟩ | ⟨rfl, hJx3⟩)
      · have hS3 := hS2.kp hk3
        obtain ⟨s0, ⟨_, c1⟩, ⟨_, c2⟩, R⟩ := id hS3
        have HJ := Lib.hid hJ3
        clear ck hyy hS2 hk3 R hJ3
        gi_wp2
        exact ⟨⟨m + 1, by omega, by first | go_num | simp, by rw [HE.out.1], HJ.out, hS3⟩, by simp [intOf]; omega⟩
      · gi_wp2
        refine bodyPost_ret (results_none rfl _ _ _) rfl ?_
        exact ⟨⟨_, rfl⟩, .inr ⟨_, ⟨m + 1, by omega, rfl⟩, hJx3⟩⟩
    · obtain rfl : m = n - 1 := by omega
      gi_wp2
      go_end0
      exact ⟨⟨_, rfl⟩, .inl ⟨_, rfl, hJ⟩⟩

theorem joints_stops (F : Fence) (q : Nat) (hF : F.fn 164) (hro : F.round = none) (hq : 1 ≤ q) (N b1 b2 : Nat) (A : Option Addr) (n cap : Nat) (c : Nat → Int) (joint : Int) (h1 : 1 ≤ n) (h60 : n ≤ 60) (hcap : n ≤ cap) (w : World) (hS : JF N b1 b2 A n cap c joint w) (hN : N ≤ w.heap.size) :
    SeqStopsK F q Try.prog 164 #[.pointer (some ⟨b1, 0, none⟩), .pointer (some ⟨b2, 0, none⟩)] encI (KpN N) (fun ys => ys = jtL joint c (n - 1)) (fun pre => ∃ k, k ≤ n - 1 ∧ pre = jtL joint c k) (n - 1) w := fun l J Jx W hW _ _ hY h0 =>
  joints1_in F q hF hro hq l N b1 b2 A n cap c joint h1 h60 hcap J Jx hY W (hS.kp (kpN_below hW hN)) h0

theorem jointsIn_in (F : Fence) (q : Nat) (hF : F.fn 113) (hro : F.round = none) (v : Value) (A : Option Addr) (n cap : Nat) (joint : Int) (w : World) :
    CallsIn F q Try.prog 113 #[.slice A n cap, .int .i64 joint] w fun e w' => e = .returned (.func (.func 164) #[] #[.pointer (some ⟨w.heap.size, 0, none⟩), .pointer (some ⟨w.heap.size + 1, 0, none⟩)]) ∧ w' = (w.alloc (.cells #[.slice A n cap] 29)).alloc (.cells #[.int .i64 joint] 2) := by
  have hmf : ∀ (fn : Fn) (first cap : Array Value) (w : World), (Instr.makeFunc fn first cap).run Try.prog w = .ok (.func fn first cap) w := fun _ _ _ _ => rfl
  refine callsIn_of_wp Try.func113 rfl hF ?_ hro
  simp only [Try.ntmps113, List.size_toArray, List.length_cons, List.length_nil, Nat.reduceAdd, Nat.reduceSub, Array.replicate_succ, Array.replicate_zero, List.push_toArray, List.append_toArray, List.nil_append, List.cons_append]
  gi_wp2
  go_ret
  exact ⟨rfl, rfl⟩
/-- what jointsIn leaves. -/
theorem JF.new (w : World) (A : Option Addr) (n cap : Nat) (c : Nat → Int) (joint : Int) (R : RdK .i64 w w.heap.size A n c) :
    JF (w.heap.size + 2) w.heap.size (w.heap.size + 1) A n cap c joint ((w.alloc (.cells #[.slice A n cap] 29)).alloc (.cells #[.int .i64 joint] 2)) := by
  refine ⟨by simp, ⟨by omega, ?_⟩, ⟨by omega, ?_⟩, (R.below (al (al (Below.refl _ _) _) _)).mono (by omega)⟩
  · rw [cell_of_row _ _ 0 _ _ _ ((Below.heap_alloc _ _ _ (by simp)).trans (heap_alloc_new w _))]
    rfl
  · have := heap_alloc_new (w.alloc (.cells #[.slice A n cap] 29)) (.cells #[.int .i64 joint] 2)
    rw [World.size_alloc] at this
    rw [cell_of_row _ _ 0 _ _ _ this]
    rfl

theorem appendSeq_in (gf : Nat) (lb : Array Value) (N Nn : Nat) (L : List Int) (Sp : List Int → Prop) (w : World) (hN : N ≤ w.heap.size) (hNn : Nn ≤ 1000)
    (hE : ∀ args w, (callFunc gf args).run Try.prog w = .ok (.enter gf args) w)
    (hseq : ∀ w0, Below w.heap.size w w0 → SeqStopsK Fence.wide 6 Try.prog gf lb encI (KpN N) (fun ys => ys = L) Sp Nn w0) :
    CallsIn Fence.wide 7 Try.prog 163 #[.slice none 0 0, .func (.func gf) #[] lb] w fun e w' => Below w.heap.size w w' ∧ ∃ v, e = .returned v ∧ OwnI w' w.heap.size v L := by
  have hro : Fence.wide.round = none := rfl
  refine callsIn_of_wp_marks Try.func163 rfl trivial ?_ hro
  simp only [Try.ntmps163, List.size_toArray, List.length_cons, List.length_nil, Nat.reduceAdd, Nat.reduceSub, Array.replicate_succ, Array.replicate_zero, List.push_toArray, List.append_toArray, List.nil_append, List.cons_append]
  have HE := Lib.hid hE
  have HS := Lib.hid hseq
  clear hE hseq
  gi_wp2
  obtain ⟨W0, hW0⟩ : ∃ W0 : World, W0 = w.alloc (.cells #[.slice none 0 0] 29) := ⟨_, rfl⟩
  have B0 : Below w.heap.size w W0 := by rw [hW0]; exact al (Below.refl _ _) _
  have s0 : W0.heap.size = w.heap.size + 1 := by rw [hW0]; simp
  have HB0 : W0.heap[w.heap.size]? = some (.cells #[.slice none 0 0] 29 (0, 0)) := by rw [hW0]; exact heap_alloc_new w _
  rw [← hW0]
  clear hW0
  refine wpIn_rangeFunc_ownH hro (by omega) (gf := gf) (lb := lb) rfl trivial HE.out
    (HS.out W0 B0) kpN_trans (kpN_put (by omega)) (Below.refl _ _) (fun _ => rfl)
    (fun pre W' => Below w.heap.size W0 W' ∧ ∃ v, W'.heap[w.heap.size]? = some (.cells #[v] 29 (0, 0)) ∧ OwnI W' W0.heap.size v pre)
    (fun _ _ _ => False)
    (fun s X Y row hs hg hr => ⟨ownFrom_below (β := Unit) (n₀ := w.heap.size) (w₀ := W0) (B := W0.heap.size) (by omega) (by omega) () X Y row hs.1 hg hr, by obtain ⟨v, h1, h2⟩ := hs.2; exact ⟨v, cellsKeptN h1 hg (fun r e => (hr r e).2), h2.keptN hg (fun r e => (hr r e).2)⟩⟩)
    (fun _ _ _ _ _ hs _ _ => hs)
    ⟨(Below.refl W0.heap.size W0).mono (by omega), .slice none 0 0, HB0, OwnI.nil _ _⟩
    (fun x a' W' => a' = { tmps := #[.slice none 0 0, .func (.func gf) #[] lb, .pointer (some ⟨w.heap.size, 0, none⟩), undef, .slice none 0 0, .int .i64 x, .func (.func gf) #[] lb, .int .i64 x, undef, undef, undef, undef, undef], defers := [] })
    (fun x a' _ X Y row hs hg hr => hs)
    ?assign ?body ?done ?stop
  case assign =>
    rintro l pre x W' K hI hK
    dsimp only [encI]
    gi_wp2
    exact hK _ _ ⟨Nat.le_refl _, fun _ _ _ h _ => h⟩ ⟨Nat.le_refl _, fun _ _ => rfl⟩ hI rfl
  case body =>
    rintro l pre x a' W' hl hrr ⟨hB1, v, hv1, hv2⟩ rfl hlt
    have hsW := hB1.size
    obtain ⟨i0, hi, hz0, hz1, hz2⟩ := info_parts infoI64
    have cB := cell_of_row W' w.heap.size 0 _ _ _ hv1
    have fB := frozen_of_row W' w.heap.size 0 _ _ hv1
    simp at cB
    gi_wp2_with (first
      | (gi_at_builtin
         refine wpListIn_append_own _ rfl _ _ 29 rfl W0.heap.size 2 i0 (.int .i64 0) 1 8 Try.underlying29 hi hz0 hz1 hz2 rfl (by decide) _ _ _ rfl (World.ownsRow.alloc hv2 _) ⟨W'.heap.size, 0, none⟩ 1 1 [.int .i64 x] rfl rfl (ncells W' #[.int .i64 x] 2) one64 (by unfold maxLen; omega) (by omega) (by simp; omega) ?_
         intro v' w7 own' hgr _
         obtain ⟨A', cap', rfl⟩ := (OwnI.snoc own').shape
         have hlo : ∀ k, v.ownBlock = some k → W0.heap.size ≤ k ∧ k < W'.heap.size := fun k e => hv2.lt k e
         have hv3 : w7.heap[w.heap.size]? = some (.cells #[v] 29 (0, 0)) := (hgr.block _ (by simp; omega) (fun e => by have := (hlo _ e.symm).1; omega)).trans ((Below.heap_alloc W' _ _ (by omega)).trans hv1)
         have cB7 := cell_of_row w7 w.heap.size 0 _ _ _ hv3
         have fB7 := frozen_of_row w7 w.heap.size 0 _ _ hv3
         simp at cB7))
    have hgr' : (W'.alloc (.cells #[.int .i64 x] 2)).grownBy w7 v.ownBlock := hgr
    clear hgr
    have hs7 := hgr'.size
    simp at hs7
    have hcells : ∀ (j : Nat) (o : Obj), v.ownBlock = some j → (W'.alloc (.cells #[.int .i64 x] 2)).heap[j]? = some o → o.isCells = true := by
      intro j o e ho
      rcases hv2.2 with ⟨hn, _⟩ | ⟨g', cap', cur', he, _, hg', _⟩
      · rw [hn] at e; cases e
      · rw [he] at e
        injection e with e
        subst e
        rw [Below.heap_alloc W' _ _ (Array.getElem?_eq_some_iff.1 hg').1, hg'] at ho
        injection ho with ho
        rw [← ho]; rfl
    have hf7 : KeepsFrom W0.heap.size W' w7 := ((KeepsOthers.alloc W' _).trans (KeepsOthers.of_grownBy hgr' hcells)).from _
    have hB7 : Below w.heap.size W0 w7 := (hB1.alloc (by omega) _).grown hgr' (by simp; omega) (fun k e => by have := (hlo k e).1; omega)
    have hk7 : KpN N W' w7 := ⟨by omega, fun k hk => (hgr'.block k (by simp; omega) (fun e => by have := (hlo _ e.symm).1; omega)).trans (Below.heap_alloc W' _ _ (by omega))⟩
    have O7 := OwnI.snoc own'
    rw [List.length_append] at O7
    refine ⟨hf7.trans ((KeepsOthers.setCell _ _ _).from _), kpN_trans hk7 ⟨by simp, fun k hk => Below.heap_setCell w7 _ _ _ (by show k ≠ w.heap.size; omega)⟩, hB7.setCell (p := ⟨w.heap.size, 0, none⟩) (Nat.le_refl _) _, _, heap_setCell_same w7 w.heap.size 0 _ _ _ hv3, ?_⟩
    exact O7.far fun k hk _ => Below.heap_setCell w7 _ _ _ (by show k ≠ w.heap.size; omega)
  case done =>
    rintro D zs' W' hD rfl ⟨hB1, v, hv1, hv2⟩ hK
    have cB := cell_of_row W' w.heap.size 0 _ _ _ hv1
    simp at cB
    gi_wp2
    refine ⟨by simp, .inl ⟨_, _, rfl, run_takeDeferred hK, ?_⟩⟩
    refine ⟨_, results_tmp Try.results163 _ _ _, ?_, v, rfl, ?_⟩
    · exact (B0.trans (hB1.mono (by omega))).trans (belowK_b (w := w) (Nat.le_refl _) _ D _ _ (by omega) hK rfl rfl)
    · exact (hv2.keptN (grownBy_putObj' W' D (.deferred none)) (fun r e => by cases e; exact ⟨_, hK, rfl⟩)).mono (by omega)
  case stop =>
    rintro D c pre W _ _ h _
    exact h.elim

theorem collect_any (gf : Nat) (lb : Array Value) (N Nn : Nat) (L : List Int) (Sp : List Int → Prop) (w : World) (hN : N ≤ w.heap.size) (hNn : Nn ≤ 1000)
    (hE : ∀ args w, (callFunc gf args).run Try.prog w = .ok (.enter gf args) w)
    (hseq : ∀ w0, Below w.heap.size w w0 → SeqStopsK Fence.wide 6 Try.prog gf lb encI (KpN N) (fun ys => ys = L) Sp Nn w0) :
    Calls Try.prog 112 #[.func (.func gf) #[] lb] w fun e w' => Below w.heap.size w w' ∧ ∃ v, e = .returned v ∧ OwnI w' w.heap.size v L := by
  have hcall := callsIn_wide.1 (appendSeq_in gf lb N Nn L Sp w hN hNn hE hseq)
  have HC := Lib.hid hcall
  clear hcall hE hseq
  go_enter Try.func112, Try.ntmps112
  go_wp2_with fail
  refine HC.out.mono ?_
  rintro e w1 ⟨hb, v, rfl, O⟩
  go_wp2
  go_ret
  exact ⟨hb, v, rfl, O⟩
end Go.Proofs.Ytjeccdmhpbaabaa
