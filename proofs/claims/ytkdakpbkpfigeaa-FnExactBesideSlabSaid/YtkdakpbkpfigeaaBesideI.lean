/-
  The contract of impl.besideOf. Conditions stand at each.
-/
import Derived.Test.YtkdakpbkpfigeaaRows
import Derived.Test.YtkdakpbkpfigeaaBesideM
import Derived.Test.YtkdakpbkpfigeaaJoint
import Derived.Test.YtkdakpbkpfigeaaIvIn
import Derived.Test.YtkdakpbkpfigeaaLayI
import Derived.Test.YtkdakpbkpfigeaaNums
import Derived.OwnWalkIn
import Derived.Maps.OwnIn
namespace Go.Proofs.Ytkdakpbkpfigeaa
open Go Go.ChangeShapes Go.WideShapes Go.ChangeAt Go.RowKit
set_option linter.unusedVariables false
set_option linter.unusedSimpArgs false
set_option maxRecDepth 100000
set_option maxHeartbeats 8000000
attribute [local go_sem] Oper.semAt_some

theorem zz_eq : (#[.bool false, .bool false, .bool false, .bool false, .bool false, .bool false, .bool false, .bool false, .bool false, .bool false, .bool false, .bool false, .bool false, .bool false, .bool false, .bool false, .bool false, .bool false, .bool false, .bool false, .bool false, .bool false, .bool false, .bool false, .bool false, .bool false, .bool false, .bool false, .bool false, .bool false, .bool false, .bool false, .bool false, .bool false, .bool false, .bool false, .bool false, .bool false, .bool false, .bool false, .bool false, .bool false, .bool false, .bool false, .bool false, .bool false, .bool false, .bool false, .bool false, .bool false, .bool false, .bool false, .bool false, .bool false, .bool false, .bool false, .bool false, .bool false, .bool false, .bool false] : Array Value) = Array.replicate 60 (Value.bool false) := by rfl
/-- what is marked behind some cells. -/
def mI (G : Nat → Int) (pre : List CX) (o : Int) : Prop := ∃ q ∈ pre, nbI G q.1.1 q.1.2 o
theorem mI_snoc (G : Nat → Int) (pre : List CX) (x : CX) (o : Int) : mI G (pre ++ [x]) o ↔ (mI G pre o ∨ nbI G x.1.1 x.1.2 o) := by
  constructor
  · rintro ⟨q, hq, h⟩
    rcases List.mem_append.1 hq with hq | hq
    · exact .inl ⟨q, hq, h⟩
    · obtain rfl : q = x := by simpa using hq
      exact .inr h
  · rintro (⟨q, hq, h⟩ | h)
    · exact ⟨q, List.mem_append.2 (.inl hq), h⟩
    · exact ⟨x, by simp, h⟩
/-- and behind some of the cells beside the next one. -/
def nbK (G : Nat → Int) (x y k : Nat) (o : Int) : Prop := ∃ t, t < k ∧ jb (gA G x y) (gA G (dxy x y t).1 (dxy x y t).2) = true ∧ o = gA G (dxy x y t).1 (dxy x y t).2
theorem nbK_zero (G : Nat → Int) (x y : Nat) (o : Int) : ¬ nbK G x y 0 o := by rintro ⟨t, ht, _⟩; omega
theorem nbK_step (G : Nat → Int) (x y k : Nat) (o : Int) : nbK G x y (k + 1) o ↔ (nbK G x y k o ∨ (jb (gA G x y) (gA G (dxy x y k).1 (dxy x y k).2) = true ∧ o = gA G (dxy x y k).1 (dxy x y k).2)) := by
  constructor
  · rintro ⟨t, ht, h⟩
    by_cases e : t = k
    · subst e; exact .inr h
    · exact .inl ⟨t, by omega, h⟩
  · rintro (⟨t, ht, h⟩ | h)
    · exact ⟨t, by omega, h⟩
    · exact ⟨k, by omega, h⟩
theorem gA_bd {G : Nat → Int} (h : ∀ p, 0 ≤ G p ∧ G p ≤ 60) (x y : Int) : 0 ≤ gA G x y ∧ gA G x y ≤ 60 := by
  unfold gA; split
  · exact h _
  · omega

theorem indexB (x y : Nat) {k : Nat} (hk : k < 4) (w : World) : (Instr.index 198 (.agg #[.int .i8 (x : Int), .int .i8 ((y : Int) - 1), .int .i8 ((x : Int) + 1), .int .i8 (y : Int), .int .i8 (x : Int), .int .i8 ((y : Int) + 1), .int .i8 ((x : Int) - 1), .int .i8 (y : Int)]) (.int .i64 (k : Int))).run Try.prog w = .ok (.agg #[.int .i8 (dxy x y k).1, .int .i8 (dxy x y k).2]) w := by
  match k, hk with
  | 0, _ => go_simp; rfl
  | 1, _ => go_simp; rfl
  | 2, _ => go_simp; rfl
  | 3, _ => go_simp; rfl
theorem index60 {cs : Array Value} {i : Nat} {b : Bool} (hi : i < 60) (hz : cs.size = 60) (h : cs[i]? = some (.bool b)) (w : World) : (Instr.index 196 (.agg cs) (.int .i64 (i : Int))).run Try.prog w = .ok (.bool b) w := by
  have e0 : (0 : Int) ≤ i ∧ (i : Int) < 60 := by omega
  have hi' : i < cs.size := by omega
  simp [Instr.index, run_underlying Try.underlying196, asIntOf, e0, go_sem, h]
  intro h60; omega
theorem keptE {X Y : World} {row : Option Nat} {base : Nat} {v : Value} {L : List Int} (h : OwnI X base v L) (hg : X.grownBy Y row)
    (hr : ∀ r, row = some r → ∃ o : Obj, X.heap[r]? = some o ∧ o.isCells = false) : OwnI Y base v L := by
  refine World.ownsRow.kept h hg ?_
  rcases h.2 with ⟨rfl, _⟩ | ⟨g, cap, cur, rfl, _, hw, _⟩
  · exact .inl rfl
  · right
    intro e
    obtain ⟨o, ho, hc⟩ := hr g e.symm
    rw [hw] at ho
    cases ho; cases hc

/-- the place ahead of sett number i of a row, and that of the joint behind it. -/
def jp (joint : Int) (c : Nat → Int) : Nat → Int
  | 0 => 0
  | i + 1 => wrap64 (wrap64 (jp joint c i + c i) + joint)
def jt (joint : Int) (c : Nat → Int) (i : Nat) : Int := wrap64 (jp joint c i + c i)
def jtL (joint : Int) (c : Nat → Int) (m : Nat) : List Int := (List.range m).map (jt joint c)
theorem grown_belowE {W0 vi w8 : World} {r : Option Nat} (h : W0.grownBy vi r) (hb : Below vi.heap.size vi w8) : W0.grownBy w8 r :=
  ⟨hb.os.trans h.os, hb.tape.trans h.tape, hb.output.trans h.output, Nat.le_trans h.size hb.size, fun i hi hne => (hb.block i (Nat.lt_of_lt_of_le hi h.size)).trans (h.block i hi hne)⟩
/-- the cells of a slab. -/
def slabC (c : Nat → Int) (k : Nat) : List CX := uptoC (c (4 * k)).toNat (c (4 * k + 1)).toNat (c (4 * k + 2)).toNat ((c (4 * k + 2)).toNat * (c (4 * k + 3)).toNat)
/-- a slab that lies within the grid. -/
def SlabIn (c : Nat → Int) (k : Nat) : Prop := ∃ x0 y0 wd ht : Nat, c (4 * k) = (x0 : Int) ∧ c (4 * k + 1) = (y0 : Int) ∧ c (4 * k + 2) = (wd : Int) ∧ c (4 * k + 3) = (ht : Int) ∧ x0 + wd ≤ 12 ∧ y0 + ht ≤ 12 ∧ slabC c k = uptoC x0 y0 wd (wd * ht)

theorem besideOf_in (W H g n k gb : Nat) (c G : Nat → Int) (w : World) (hn : n ≤ 60) (hk : k < n) (hc : ∀ j, -128 ≤ c j ∧ c j ≤ 127) (hin : SlabIn c k) (hGd : ∀ p, 0 ≤ G p ∧ G p ≤ 60) (hrow : w.rowIs g 110 (4 * n) (fun j => .int .i8 (c j))) (hG : w.rowIs gb 105 144 (fun p => .int .i8 (G p))) :
    CallsIn Fence.wide 7 Try.prog 78 #[.agg #[.int .i8 (W : Int), .int .i8 (H : Int), .slice (some ⟨g, 0, none⟩) n n], .pointer (some ⟨gb, 0, none⟩), .int .i64 (k : Int)] w fun e w' =>
      Below w.heap.size w w' ∧ ∃ v, e = .returned v ∧ OwnI w' w.heap.size v (pickL (fun p => bS (mI G (slabC c k) ((p : Int) + 1))) 60) := by
  have hro : Fence.wide.round = none := rfl
  obtain ⟨x0, y0, wd, ht, ex0, ey0, ewd, eht, hx, hy, hcs⟩ := hin
  have s0 := hrow.cell (i := k * 4) (by omega)
  have s1 := hrow.cell (i := k * 4 + 1) (by omega)
  have s2 := hrow.cell (i := k * 4 + 2) (by omega)
  have s3 := hrow.cell (i := k * 4 + 3) (by omega)
  rw [show k * 4 = 4 * k by omega, ex0] at s0
  rw [show k * 4 = 4 * k by omega, ey0] at s1
  rw [show k * 4 = 4 * k by omega, ewd] at s2
  rw [show k * 4 = 4 * k by omega, eht] at s3
  rw [show 4 * k = k * 4 by omega] at s0 s1 s2 s3
  rw [hcs]
  have hki : (k : Int) < (n : Int) := by omega
  have hgl := hG.lt
  have hgl2 := hrow.lt
  have HC := Lib.hid hc
  have HGd := Lib.hid hGd
  clear hc hGd ex0 ey0 ewd eht hcs
  obtain ⟨Wa, hWa⟩ : ∃ Wa, ((w.alloc (.cells #[.int .i8 (W : Int), .int .i8 (H : Int), .slice (some ⟨g, 0, none⟩) n n] 31)).alloc (.cells #[.pointer (some ⟨gb, 0, none⟩)] 108)).alloc (.cells (#[.bool false, .bool false, .bool false, .bool false, .bool false, .bool false, .bool false, .bool false, .bool false, .bool false, .bool false, .bool false, .bool false, .bool false, .bool false, .bool false, .bool false, .bool false, .bool false, .bool false, .bool false, .bool false, .bool false, .bool false, .bool false, .bool false, .bool false, .bool false, .bool false, .bool false, .bool false, .bool false, .bool false, .bool false, .bool false, .bool false, .bool false, .bool false, .bool false, .bool false, .bool false, .bool false, .bool false, .bool false, .bool false, .bool false, .bool false, .bool false, .bool false, .bool false, .bool false, .bool false, .bool false, .bool false, .bool false, .bool false, .bool false, .bool false, .bool false, .bool false] : Array Value) 196) = Wa := ⟨_, rfl⟩
  have hsz : Wa.heap.size = w.heap.size + 3 := by rw [← hWa]; simp
  have hBa : Below w.heap.size w Wa := by rw [← hWa]; exact al (al (al (Below.refl _ _) _) _) _
  have zq : Wa.heap[w.heap.size]? = some (.cells #[.int .i8 (W : Int), .int .i8 (H : Int), .slice (some ⟨g, 0, none⟩) n n] 31 (0, 0)) := by
    rw [← hWa]
    exact (Below.heap_alloc _ _ _ (by simp; omega)).trans ((Below.heap_alloc _ _ _ (by simp)).trans (heap_alloc_new w _))
  have z4 : Wa.heap[w.heap.size + 1]? = some (.cells #[.pointer (some ⟨gb, 0, none⟩)] 108 (0, 0)) := by
    rw [← hWa]
    refine (Below.heap_alloc _ _ _ (by simp)).trans ?_
    have := heap_alloc_new (w.alloc (.cells #[.int .i8 (W : Int), .int .i8 (H : Int), .slice (some ⟨g, 0, none⟩) n n] 31)) (.cells #[.pointer (some ⟨gb, 0, none⟩)] 108)
    simpa using this
  have z7 : Wa.rowIs (w.heap.size + 2) 196 60 (fun p => .bool (bS (mI G [] ((p : Int) + 1)))) := by
    have h7 := heap_alloc_new ((w.alloc (.cells #[.int .i8 (W : Int), .int .i8 (H : Int), .slice (some ⟨g, 0, none⟩) n n] 31)).alloc (.cells #[.pointer (some ⟨gb, 0, none⟩)] 108)) (.cells (#[.bool false, .bool false, .bool false, .bool false, .bool false, .bool false, .bool false, .bool false, .bool false, .bool false, .bool false, .bool false, .bool false, .bool false, .bool false, .bool false, .bool false, .bool false, .bool false, .bool false, .bool false, .bool false, .bool false, .bool false, .bool false, .bool false, .bool false, .bool false, .bool false, .bool false, .bool false, .bool false, .bool false, .bool false, .bool false, .bool false, .bool false, .bool false, .bool false, .bool false, .bool false, .bool false, .bool false, .bool false, .bool false, .bool false, .bool false, .bool false, .bool false, .bool false, .bool false, .bool false, .bool false, .bool false, .bool false, .bool false, .bool false, .bool false, .bool false, .bool false] : Array Value) 196)
    rw [hWa] at h7
    refine ⟨_, by simpa using h7, by rw [zz_eq, Array.size_replicate], fun p hp => ?_⟩
    rw [zz_eq, Array.getElem?_replicate, if_pos hp]
    show some (Value.bool false) = some (Value.bool (bS _))
    rw [bS_no (by rintro ⟨q, hq, _⟩; cases hq)]
  have b0 : Wa.cell? ⟨w.heap.size, 2, none⟩ = some (.slice (some ⟨g, 0, none⟩) n n) := by
    have := cell_of_row Wa w.heap.size 2 _ _ _ zq
    simpa using this
  have t0 : Wa.cell? ⟨g, k * 4, none⟩ = some (.int .i8 (x0 : Int)) := (World.cell?_of_block (w := w) (hBa.block _ hgl2)).trans s0
  have t1 : Wa.cell? ⟨g, k * 4 + 1, none⟩ = some (.int .i8 (y0 : Int)) := (World.cell?_of_block (w := w) (hBa.block _ hgl2)).trans s1
  have t2 : Wa.cell? ⟨g, k * 4 + 2, none⟩ = some (.int .i8 (wd : Int)) := (World.cell?_of_block (w := w) (hBa.block _ hgl2)).trans s2
  have t3 : Wa.cell? ⟨g, k * 4 + 3, none⟩ = some (.int .i8 (ht : Int)) := (World.cell?_of_block (w := w) (hBa.block _ hgl2)).trans s3
  have hGa : Wa.rowIs gb 105 144 (fun p => .int .i8 (G p)) := hG.of_block (hBa.block _ hgl)
  refine callsIn_of_wp_marks Try.func78 rfl trivial ?_ hro
  simp only [Try.ntmps78, List.size_toArray, List.length_cons, List.length_nil, Nat.reduceAdd, Nat.reduceSub, Array.replicate_succ, Array.replicate_zero, List.push_toArray, List.append_toArray, List.nil_append, List.cons_append]
  clear s0 s1 s2 s3
  gi_wp2_with fail
  clear hWa
  refine ⟨trivial, (cellsOf_in Fence.wide 6 trivial hro _ _ _ _ _).mono ?_⟩
  rintro e w' ⟨rfl, rfl⟩
  gi_wp2_with fail
  obtain ⟨W0, hW0⟩ : ∃ W0, Wa.alloc (.cells #[.int .i8 (x0 : Int), .int .i8 (y0 : Int), .int .i8 (wd : Int), .int .i8 (ht : Int)] 110) = W0 := ⟨_, rfl⟩
  have hB0 : Below w.heap.size w W0 := by rw [← hW0]; exact al hBa _
  have zs : Sl W0 (w.heap.size + 3) x0 y0 wd ht := by rw [← hW0, ← hsz]; exact Sl.new Wa x0 y0 wd ht 110
  have hs0 : W0.heap.size = w.heap.size + 4 := by rw [← hW0]; simp; omega
  have y4 : W0.heap[w.heap.size + 1]? = some (.cells #[.pointer (some ⟨gb, 0, none⟩)] 108 (0, 0)) := by rw [← hW0]; exact (Below.heap_alloc _ _ _ (by omega)).trans z4
  have y7 : W0.rowIs (w.heap.size + 2) 196 60 (fun p => .bool (bS (mI G [] ((p : Int) + 1)))) := by rw [← hW0]; exact z7.alloc _
  have hG0 : W0.rowIs gb 105 144 (fun p => .int .i8 (G p)) := by rw [← hW0]; exact hGa.alloc _
  rw [hW0]; try rw [hsz]
  obtain ⟨b7, hb7⟩ : ∃ b7, w.heap.size + 1 + 1 = b7 := ⟨_, rfl⟩
  have hb72 : w.heap.size + 2 = b7 := by omega
  rw [hb72] at y7
  rw [hb7]
  clear hW0 hBa zq z4 z7 b0 t0 t1 t2 t3 hGa
  have hstops := cells_stops Fence.wide 6 trivial hro (by omega) (w.heap.size + 3) x0 y0 wd ht hx hy W0 zs
  refine wpIn_rangeFunc_ownH hro (by omega) (gf := 172) (lb := #[.pointer (some ⟨w.heap.size + 3, 0, none⟩)]) rfl trivial (enters_of Try.func172 (by kernel_rfl) rfl)
    hstops kpB_trans (kpB_put (by omega)) (Below.refl _ _) (fun _ => rfl)
    (fun pre W' => W0.grownBy W' (some b7) ∧ W'.rowIs b7 196 60 (fun p => .bool (bS (mI G pre ((p : Int) + 1)))))
    (fun _ _ _ => False)
    (fun s X Y row hs hg hr => ⟨grown_own hs.1 hg (fun r e => (hr r e).1), by obtain ⟨c, h1, h2, h3⟩ := hs.2; exact ⟨c, cellsKept h1 hg (fun r e => (hr r e).2), h2, h3⟩⟩)
    (fun _ _ _ _ _ hs _ _ => hs)
    ⟨World.grownBy.refl _ _, y7⟩
    (fun x a' W' => ∃ (Bx : Nat) (v14 v15 v16 v17 v18 v19 v20 : Value), W0.heap.size ≤ Bx ∧ W'.heap[Bx]? = some (.cells #[.int .i8 (x.1.1 : Int), .int .i8 (x.1.2 : Int)] 130 (0, 0)) ∧ a' = { tmps := #[.agg #[.int .i8 (W : Int), .int .i8 (H : Int), .slice (some ⟨g, 0, none⟩) n n], .pointer (some ⟨gb, 0, none⟩), .int .i64 (k : Int), .pointer (some ⟨w.heap.size, 0, none⟩), .pointer (some ⟨w.heap.size + 1, 0, none⟩), undef, .slice none 0 0, .pointer (some ⟨b7, 0, none⟩), .pointer (some ⟨Bx, 0, none⟩), undef, undef, undef, undef, undef, v14, v15, v16, v17, v18, v19, v20, undef, undef, undef, undef, undef, undef, undef, undef, undef, undef, undef, undef, undef, undef, undef, undef, undef, undef, undef, undef, undef, undef, undef, undef, undef, undef, undef, undef, undef, undef, undef, undef, undef, undef, undef, undef, undef, undef, undef, undef, undef, undef, undef, undef, undef, undef, undef, undef, undef, undef], defers := [] })
    (fun x a' _ X Y row hs hg hr => by obtain ⟨Bx, v14, v15, v16, v17, v18, v19, v20, h1, h2, h3⟩ := hs; exact ⟨Bx, v14, v15, v16, v17, v18, v19, v20, h1, cellsKept h2 hg (fun r e => (hr r e).2), h3⟩)
    ?assign ?body ?done ?stop
  case assign =>
    rintro l pre x W' K ⟨hB1, hall⟩ hK
    dsimp only [encC]
    gi_wp2
    exact hK _ _ ((KeepsOthers.alloc _ _).from _) (kpB_below ((Below.refl _ W').alloc (Nat.le_refl _) _) (by have := hB1.size; omega)) ⟨hB1.trans (World.grownBy_alloc _ _ _), hall.alloc _⟩ ⟨W'.heap.size, _, _, _, _, _, _, _, hB1.size, heap_alloc_new W' _, rfl⟩
  case body =>
    rintro l pre x a' W' hl hrr ⟨hB1, hall⟩ ⟨Bx, v14, v15, v16, v17, v18, v19, v20, hBx, hX, rfl⟩ hlt
    have cX0 := cell_of_row W' Bx 0 _ _ _ hX
    have cX1 := cell_of_row W' Bx 1 _ _ _ hX
    have hx12 := x.2.1
    have hy12 := x.2.2
    have hxi : (x.1.1 : Int) < 12 := by omega
    have hyi : (x.1.2 : Int) < 12 := by omega
    simp at cX0 cX1
    gi_wp2_with fail
    gi_loopw [10, 46] (fun t10 t46 wr => ∃ k2 : Nat, k2 ≤ 4 ∧ t46 = .int .i64 k2 ∧ KeepsFrom W0.heap.size W' wr ∧ KpB (w.heap.size + 3) W' wr ∧ W0.grownBy wr (some b7) ∧ wr.rowIs b7 196 60 (fun p => .bool (bS (mI G pre ((p : Int) + 1) ∨ nbK G x.1.1 x.1.2 k2 ((p : Int) + 1)))) ∧ wr.heap[Bx]? = some (.cells #[.int .i8 (x.1.1 : Int), .int .i8 (x.1.2 : Int)] 130 (0, 0))) (fun t10 t46 _ => 4 - (intOf t46).toNat)
    case atStart => exact ⟨0, by omega, rfl, keepsFrom_below (Below.refl W'.heap.size W'), kpB_below (Below.refl W'.heap.size W') (by have := hB1.size; omega), hB1, hall.congr (fun p _ => by rw [bS_congr (show mI G pre ((p : Int) + 1) ↔ (mI G pre ((p : Int) + 1) ∨ nbK G x.1.1 x.1.2 0 ((p : Int) + 1)) from ⟨.inl, fun h => h.elim id (fun h => absurd h (nbK_zero _ _ _ _))⟩)]), hX⟩
    case round =>
      have hws := hB1.size
      clear hall hB1 hX cX0 cX1
      obtain ⟨k2, hk2, rfl, hkf, hkb, hB1, hall, hX⟩ := hrel
      obtain ⟨vi, rfl⟩ : ∃ vi : World, vi = wr := ⟨_, rfl⟩
      have hvs := hB1.size
      have hvw := hkb.1
      by_cases hlk : k2 < 4
      · have cX0 := cell_of_row vi Bx 0 _ _ _ hX
        have cX1 := cell_of_row vi Bx 1 _ _ _ hX
        have h4v := (hB1.block (w.heap.size + 1) (by omega) (by simp; omega)).trans y4
        have c4 := cell_of_row vi (w.heap.size + 1) 0 _ _ _ h4v
        simp at cX0 cX1 c4
        have R1 : vi.rowIs gb 105 144 (fun p => .int .i8 (G p)) := hG0.of_block (hB1.block _ hG0.lt (by simp; omega))
        obtain ⟨gv, hgv⟩ : ∃ gv, gv = gA G (dxy (x.1.1 : Int) x.1.2 k2).1 (dxy (x.1.1 : Int) x.1.2 k2).2 := ⟨_, rfl⟩
        obtain ⟨jv, hjv⟩ : ∃ jv, jv = jb (gA G (x.1.1 : Int) x.1.2) gv := ⟨_, rfl⟩
        have HJ := fun W hW => jb_any gb (x.1.1 : Int) x.1.2 (dxy (x.1.1 : Int) x.1.2 k2).1 (dxy (x.1.1 : Int) x.1.2 k2).2 G W hW
        have HA := fun W hW => at_any gb (dxy (x.1.1 : Int) x.1.2 k2).1 (dxy (x.1.1 : Int) x.1.2 k2).2 G W hW
        have hgb := gA_bd HGd.out (dxy (x.1.1 : Int) x.1.2 k2).1 (dxy (x.1.1 : Int) x.1.2 k2).2
        have hst : ∀ o, nbK G x.1.1 x.1.2 (k2 + 1) o ↔ (nbK G x.1.1 x.1.2 k2 o ∨ (jv = true ∧ o = gv)) := fun o => by rw [nbK_step, hjv, hgv]
        simp only [← hgv] at HJ HA hgb
        simp only [← hjv] at HJ
        have KJ := Lib.hid HJ
        have KA := Lib.hid HA
        have HST := Lib.hid hst
        have HALL := Lib.hid hall
        have HX := Lib.hid hX
        have H4 := Lib.hid h4v
        have hl4 : w.heap.size + 1 < vi.heap.size := by omega
        have hlB : Bx < vi.heap.size := (Array.getElem?_eq_some_iff.1 hX).1
        have hix := fun W => indexB x.1.1 x.1.2 hlk W
        have hki2 : (k2 : Int) < 4 := by omega
        have hgj : jv = true → gv ≠ 0 := fun h => by rw [hjv] at h; exact (jb_tt.1 h).2.1
        clear HJ HA hst hall hX h4v hgv hjv
        obtain ⟨da, hda⟩ : ∃ da, da = (dxy (x.1.1 : Int) x.1.2 k2).1 := ⟨_, rfl⟩
        obtain ⟨db, hdb⟩ : ∃ db, db = (dxy (x.1.1 : Int) x.1.2 k2).2 := ⟨_, rfl⟩
        rw [← hda, ← hdb] at KJ KA
        simp only [← hda, ← hdb] at hix
        clear hda hdb
        cases jv
        · clear hgj
          all_goals
            gi_wp2_with (refine ⟨trivial, ?_⟩; gi_at_call 137; refine (CallsIn.inRound l (callsIn_wide.2 (KJ.out _ (R1.alloc _)))).mono ?_)
            first | (rintro e w8 rfl hb; rw [← World.size_alloc vi (.cells #[.int .i8 da, .int .i8 db] 130)] at hb) | (rintro e w8 ⟨rfl, hb⟩)
            have hbv := nxt (al (Below.refl vi.heap.size vi) _) hb
            clear hb cX0 cX1 c4
            gi_wp2
            exact ⟨⟨k2 + 1, by omega, by first | go_num | simp, hkf.trans (keepsFrom_below hbv), kpB_trans hkb (kpB_below hbv (by omega)), grown_belowE hB1 hbv, (HALL.out.of_block (hbv.block _ (by omega))).congr (fun p _ => by rw [bS_congr (show (mI G pre ((p : Int) + 1) ∨ nbK G x.1.1 x.1.2 k2 ((p : Int) + 1)) ↔ (mI G pre ((p : Int) + 1) ∨ nbK G x.1.1 x.1.2 (k2 + 1) ((p : Int) + 1)) from ⟨fun h => h.imp id (fun h => (HST.out _).2 (.inl h)), fun h => h.elim .inl (fun h => ((HST.out _).1 h).elim .inr (fun h => by cases h.1))⟩)]), (hbv.block _ (by omega)).trans HX.out⟩, by simp [intOf]; omega⟩
        · obtain ⟨j, rfl⟩ : ∃ j : Nat, gv = (j : Int) + 1 := ⟨(gv - 1).toNat, by have := hgj rfl; omega⟩
          have hj60 : (j : Int) < 60 := by omega
          have hjn : j < 60 := by omega
          clear hgj
          all_goals
            gi_wp2_with (refine ⟨trivial, ?_⟩; gi_at_call 137; refine (CallsIn.inRound l (callsIn_wide.2 (KJ.out _ (R1.alloc _)))).mono ?_)
            first | (rintro e w8 rfl hb; rw [← World.size_alloc vi (.cells #[.int .i8 da, .int .i8 db] 130)] at hb) | (rintro e w8 ⟨rfl, hb⟩)
            have hbv := nxt (al (Below.refl vi.heap.size vi) _) hb
            have E8 := (hb.block _ (by simp)).trans (heap_alloc_new vi _)
            have e0 := cell_of_row w8 vi.heap.size 0 _ _ _ E8
            have e1 := cell_of_row w8 vi.heap.size 1 _ _ _ E8
            have R8 := rowNext0 R1 hbv
            have c8 := cell_of_row w8 (w.heap.size + 1) 0 _ _ _ ((hbv.block _ (by omega)).trans H4.out)
            simp at e0 e1 c8
            clear hb cX0 cX1 c4 E8
            gi_wp2_with (refine ⟨trivial, ?_⟩; gi_at_call 138; refine (CallsIn.inRound l (callsIn_wide.2 (KA.out _ R8))).mono ?_)
            first | rintro e w9 rfl hb | rintro e w9 ⟨rfl, hb⟩
            have hb9 := nxt hbv hb
            have R9 := HALL.out.of_block (hb9.block _ (by omega))
            have c9 := R9.cell hjn
            have f9 := R9.frozen j
            have R9' := Lib.hid R9
            clear hb hbv e0 e1 c8 R8 R9
            gi_wp2
            exact ⟨⟨k2 + 1, by omega, by first | go_num | simp, (hkf.trans (keepsFrom_below hb9)).trans ((KeepsOthers.setCell _ _ _).from _), kpB_trans (kpB_trans hkb (kpB_below hb9 (by omega))) ⟨by simp, Below.heap_setCell w9 _ _ _ (by simp; omega)⟩, grown_set (grown_belowE hB1 hb9) _ _, (R9'.out.set j (.bool true)).congr (fun p _ => by
              by_cases e : p = j
              · rw [if_pos e, e, bS_yes (.inr ((HST.out _).2 (.inr ⟨by first | rfl | trivial, rfl⟩)))]
              · rw [if_neg e, bS_congr (show (mI G pre ((p : Int) + 1) ∨ nbK G x.1.1 x.1.2 k2 ((p : Int) + 1)) ↔ (mI G pre ((p : Int) + 1) ∨ nbK G x.1.1 x.1.2 (k2 + 1) ((p : Int) + 1)) from ⟨fun h => h.imp id (fun h => (HST.out _).2 (.inl h)), fun h => h.elim .inl (fun h => ((HST.out _).1 h).elim .inr (fun h => absurd (show p = j by have := h.2; omega) e))⟩)]), (Below.heap_setCell w9 _ _ _ (by simp; omega)).trans ((hb9.block _ (by omega)).trans HX.out)⟩, by simp [intOf]; omega⟩
      · obtain rfl : k2 = 4 := by omega
        have HALL := Lib.hid hall
        clear hall
        gi_wp2
        exact ⟨hkf, hkb, hB1, HALL.out.congr fun p _ => by rw [bS_congr (mI_snoc G pre x ((p : Int) + 1))]; rfl⟩
  case done =>
    rintro D zs' W' hD rfl ⟨hB1, cs, hcs, hcz, hcc⟩ hK
    have hws := hB1.size
    have hD2 := (Array.getElem?_eq_some_iff.1 hK).1
    have hbx : Bx W' b7 cs 196 := hcs
    have HK := Lib.hid hK
    have HCS := Lib.hid hcs
    clear hK hcs
    gi_wp2_with (first | (refine wpListIn_load_box hbx rfl _ _ rfl rfl _ Try.underlying196 rfl (by rw [hcz]; kernel_rfl) ?_))
    have hcc' : ∀ i : Nat, i < 60 → cs[i]? = some (Value.bool (bS (mI G (uptoC x0 y0 wd (wd * ht)) ((i : Int) + 1)))) := hcc
    obtain ⟨bf, hbf⟩ : ∃ bf : Nat → Bool, bf = fun i : Nat => bS (mI G (uptoC x0 y0 wd (wd * ht)) ((i : Int) + 1)) := ⟨_, rfl⟩
    have HBF := Lib.hid hbf
    have HCC := Lib.hid (fun (i : Nat) (hi : i < 60) => show cs[i]? = some (Value.bool (bf i)) by rw [hcc' i hi, hbf])
    clear hcc hcc' hbf hbx
    gi_loopw [11, 12, 13, 60] (fun t11 t12 t13 t60 wr => ∃ i : Nat, i ≤ 60 ∧ t60 = .int .i64 i ∧ Below W'.heap.size W' wr ∧ OwnI wr W'.heap.size t11 (pickL bf i)) (fun t11 t12 t13 t60 _ => 60 - (intOf t60).toNat)
    case atStart => exact ⟨0, by omega, rfl, Below.refl _ _, OwnI.nil _ _⟩
    case round =>
      obtain ⟨i, hi, rfl, B, O⟩ := hrel
      obtain ⟨v0, rfl⟩ : ∃ v0 : Value, v0 = u11 := ⟨_, rfl⟩
      obtain ⟨vi, rfl⟩ : ∃ vi : World, vi = wr := ⟨_, rfl⟩
      have HO := Lib.hid O
      have HB := Lib.hid B
      clear O B
      by_cases hlt : i < 60
      · have hli : (i : Int) < 60 := by omega
        have hix := fun W => index60 (i := i) hlt hcz (HCC.out i hlt) W
        cases hbi : bf i
        · have HNO := Lib.hid hbi
          rw [hbi] at hix
          clear hbi
          gi_wp2_with fail
          exact ⟨⟨i + 1, by omega, by first | go_num | simp, HB.out, by rw [pickL_no HNO.out]; exact HO.out⟩, by simp [intOf]; omega⟩
        · have HNO := Lib.hid hbi
          rw [hbi] at hix
          clear hbi
          obtain ⟨i0, hi', hz0, hz1, hz2⟩ := info_parts infoI64
          have hpl := pickL_length bf i
          have hvi := HB.out.size
          have O' := HO.out
          gi_wp2_with (first
            | (gi_at_builtin
               refine wpListIn_append_own _ rfl _ _ 26 rfl W'.heap.size 2 i0 (.int .i64 0) 1 8 Try.underlying26 hi' hz0 hz1 hz2 rfl (by decide) _ _ _ rfl (World.ownsRow.alloc O' _) ⟨vi.heap.size, 0, none⟩ 1 1 [.int .i64 (i : Int)] rfl rfl (ncells vi #[.int .i64 (i : Int)] 2) one64 (by unfold maxLen; omega) (by omega) (by simp; omega) ?_
               intro v' w7 own' hgr _))
          have B1 : Below W'.heap.size W' w7 := (HB.out.alloc (by omega) _).grown hgr (by simp; omega) (fun k e => (HO.out.lt k e).1)
          have O1 : OwnI w7 W'.heap.size v' (pickL bf (i + 1)) := by
            rw [pickL_yes HNO.out]
            exact OwnI.snoc own'
          clear own' hgr
          gi_wp2
          exact ⟨⟨i + 1, by omega, by first | go_num | simp, B1, O1⟩, by simp [intOf]; omega⟩
      · obtain rfl : i = 60 := by omega
        gi_wp2
        have hKf := (HB.out.block _ hD2).trans HK.out
        refine ⟨by simp, .inl ⟨_, _, rfl, run_takeDeferred hKf, ?_⟩⟩
        refine ⟨v0, results_tmp Try.results78 _ _ _, ?_, v0, rfl, ?_⟩
        · have hb1 : Below w.heap.size w W' := (Below.refl w.heap.size w).grown (grown_own2 hB0 hB1) (Nat.le_refl _) (fun k e => by cases e; omega)
          exact (hb1.trans (HB.out.mono hb1.size)).trans (belowK_b (w := w) (Nat.le_refl _) _ D _ _ (by omega) hKf rfl rfl)
        · have := keptE HO.out (grownBy_putObj' vi D (.deferred none)) (fun r e => by cases e; exact ⟨_, hKf, rfl⟩)
          rw [HBF.out] at this
          exact this.mono (by have := hB0.size; omega)
  case stop =>
    rintro D c pre W _ _ h _
    exact h.elim
end Go.Proofs.Ytkdakpbkpfigeaa
