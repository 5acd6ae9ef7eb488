/-
  The slabs of a part that is cut. It names no program.
-/
import Derived.Test.YteebkookoidheaaRows
import Derived.Test.YteebkookoidheaaApart
import Derived.Test.YteebkookoidheaaPart
import Derived.Test.YteebkookoidheaaHasSort
namespace Go.Proofs.Yteebkookoidheaa
open Go Go.ChangeShapes Go.WideShapes Go.ChangeAt Go.RowKit
set_option linter.unusedVariables false
set_option linter.unusedSimpArgs false
set_option maxRecDepth 100000
set_option maxHeartbeats 2000000

/-- what of a slab lies within another one, told by the first cell of that one. -/
def cutS (h s : S4) : Option S4 :=
  if max s.1 h.1 < min (s.1 + s.2.2.1) (h.1 + h.2.2.1) ∧ max s.2.1 h.2.1 < min (s.2.1 + s.2.2.2) (h.2.1 + h.2.2.2) then
    some (max s.1 h.1 - h.1, max s.2.1 h.2.1 - h.2.1, min (s.1 + s.2.2.1) (h.1 + h.2.2.1) - max s.1 h.1, min (s.2.1 + s.2.2.2) (h.2.1 + h.2.2.2) - max s.2.1 h.2.1)
  else none
def cutL (h : S4) (c : Nat → Int) (k : Nat) : List S4 := (toL c k).filterMap (cutS h)
theorem cutL_zero (h : S4) (c : Nat → Int) : cutL h c 0 = [] := rfl
theorem cutL_le (h : S4) (c : Nat → Int) (k : Nat) : (cutL h c k).length ≤ k := by
  have := List.length_filterMap_le (cutS h) (toL c k)
  rw [toL_length] at this
  exact this
theorem edges_of (sx sy sw sh hx hy hw hh : Int) : Edges sx sy sw sh hx hy hw hh (max sx hx) (max sy hy) (min (sx + sw) (hx + hw)) (min (sy + sh) (hy + hh)) := by
  unfold Edges
  refine ⟨?_, ?_, ?_, ?_⟩ <;> omega
theorem cutL_some {a0 a1 a2 a3 : Int} {c : Nat → Int} {k : Nat} {pl pt pr pb : Int} (he : Edges (c (4 * k)) (c (4 * k + 1)) (c (4 * k + 2)) (c (4 * k + 3)) a0 a1 a2 a3 pl pt pr pb) (h1 : pl < pr) (h2 : pt < pb) :
    cutL (a0, a1, a2, a3) c (k + 1) = cutL (a0, a1, a2, a3) c k ++ [(pl - a0, pt - a1, pr - pl, pb - pt)] := by
  unfold Edges at he
  have e : cutS (a0, a1, a2, a3) (s4 c k) = some (pl - a0, pt - a1, pr - pl, pb - pt) := by
    have e1 : max (c (4 * k)) a0 = pl := by omega
    have e2 : max (c (4 * k + 1)) a1 = pt := by omega
    have e3 : min (c (4 * k) + c (4 * k + 2)) (a0 + a2) = pr := by omega
    have e4 : min (c (4 * k + 1) + c (4 * k + 3)) (a1 + a3) = pb := by omega
    unfold cutS s4
    simp only [e1, e2, e3, e4]
    rw [if_pos ⟨h1, h2⟩]
  unfold cutL
  rw [toL_succ, List.filterMap_append, List.filterMap_cons_some e, List.filterMap_nil]
theorem cutL_none {a0 a1 a2 a3 : Int} {c : Nat → Int} {k : Nat} {pl pt pr pb : Int} (he : Edges (c (4 * k)) (c (4 * k + 1)) (c (4 * k + 2)) (c (4 * k + 3)) a0 a1 a2 a3 pl pt pr pb) (h : ¬ (pl < pr ∧ pt < pb)) :
    cutL (a0, a1, a2, a3) c (k + 1) = cutL (a0, a1, a2, a3) c k := by
  unfold Edges at he
  have e : cutS (a0, a1, a2, a3) (s4 c k) = none := by
    have e1 : max (c (4 * k)) a0 = pl := by omega
    have e2 : max (c (4 * k + 1)) a1 = pt := by omega
    have e3 : min (c (4 * k) + c (4 * k + 2)) (a0 + a2) = pr := by omega
    have e4 : min (c (4 * k + 1) + c (4 * k + 3)) (a1 + a3) = pb := by omega
    unfold cutS s4
    simp only [e1, e2, e3, e4]
    rw [if_neg h]
  unfold cutL
  rw [toL_succ, List.filterMap_append, List.filterMap_cons_none e, List.filterMap_nil, List.append_nil]
theorem cut_enc {a0 a1 a2 a3 : Int} {c : Nat → Int} {k : Nat} {pl pt pr pb : Int} (he : Edges (c (4 * k)) (c (4 * k + 1)) (c (4 * k + 2)) (c (4 * k + 3)) a0 a1 a2 a3 pl pt pr pb) (h1 : pl < pr) (h2 : pt < pb) :
    encL (cutL (a0, a1, a2, a3) c (k + 1)) = encL (cutL (a0, a1, a2, a3) c k) ++ (#[.int .i8 (pl - a0), .int .i8 (pt - a1), .int .i8 (pr - pl), .int .i8 (pb - pt)] : Array Value).toList := by
  rw [cutL_some he h1 h2, encL_append]
  rfl
theorem toL_at {c : Nat → Int} {n i : Nat} (h : i < (toL c n).length) : (toL c n)[i] = s4 c i := by simp [toL]
theorem apart_cut {X Y : Int} {n : Nat} {c : Nat → Int} {a0 a1 a2 a3 : Int} (hv : Valid X Y n c) (h0 : 0 ≤ a0) (h1 : 0 ≤ a1) : Apart (cutL (a0, a1, a2, a3) c n) := by
  unfold cutL Apart
  rw [List.pairwise_filterMap, List.pairwise_iff_getElem]
  intro i j hi hj hij b hb b' hb' hne
  rw [toL_at] at hb hb'
  rw [toL_length] at hi hj
  obtain ⟨n1, n2⟩ := hne
  obtain ⟨x1, y1, u1, v1, e0, e1, e2, e3, l1, l2⟩ := lies_nat hv.2.1 hv.2.2.2.1 (hv.2.2.2.2.2 i hi).1
  obtain ⟨x2, y2, u2, v2, k0, k1, k2, k3, m1, m2⟩ := lies_nat hv.2.1 hv.2.2.2.1 (hv.2.2.2.2.2 j hj).1
  have p1 := (hv.2.2.2.2.2 i hi).1
  have p2 := (hv.2.2.2.2.2 j hj).1
  unfold lies at p1 p2
  unfold cutS s4 at hb hb'
  try simp only at hb hb'
  split at hb
  case isFalse => cases hb
  case isTrue q1 =>
    split at hb'
    case isFalse => cases hb'
    case isTrue q2 =>
      injection hb with hb
      injection hb' with hb'
      subst hb hb'
      try simp only at n1 n2
      rw [e0, e1, e2, e3] at p1 q1
      rw [k0, k1, k2, k3] at p2 q2
      rw [e0, k0] at n1
      rw [e1, k1] at n2
      obtain ⟨px, hpx⟩ := Int.eq_ofNat_of_zero_le (show 0 ≤ max (x1 : Int) a0 by omega)
      obtain ⟨py, hpy⟩ := Int.eq_ofNat_of_zero_le (show 0 ≤ max (y1 : Int) a1 by omega)
      refine no_common hv hij hj (p := py * 12 + px) (by omega) ?_ ?_
      · unfold cov; rw [e0, e1, e2, e3]; omega
      · unfold cov; rw [k0, k1, k2, k3]; omega
theorem own_below {w w' : World} {base m : Nat} {v : Value} {L : List Value} (h : w.ownsRow base 31 4 v m L) (hb : Below w.heap.size w w') : w'.ownsRow base 31 4 v m L := by
  refine ⟨h.1, h.2.imp id ?_⟩
  rintro ⟨g, cap, cur, h1, h2, h3, h4⟩
  exact ⟨g, cap, cur, h1, h2, (hb.block g (Array.getElem?_eq_some_iff.1 h3).1).trans h3, h4⟩
end Go.Proofs.Yteebkookoidheaa
