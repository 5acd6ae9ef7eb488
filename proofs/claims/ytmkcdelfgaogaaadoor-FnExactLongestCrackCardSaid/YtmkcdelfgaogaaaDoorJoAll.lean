/-
  The map of joints by their edges: the key of an edge, and what the map says. Conditions stand at each. Edges and points on the program's side: edgeBetween, ahead, a look at the joints, the corners of a square, has. Conditions stand at each. The closure that lays a joint: jointsOf's add. Conditions stand at each. The contract of impl.jointsOf: the joints of a valid square, by their edges. Conditions stand at each. errors.Is at a sentinel of errors.New's make, walked by its own text; the sentinels of chapter 6 and codeOf. Conditions stand at each. The contract of impl.jointsFor: the joints of a square, or the first error with points. Conditions stand at each. Edges on the model's side: l01Joint at all cells about a square, l06Edge, l06Next, l06Is, l06Told, l06Between. Conditions stand at each. The model's l06Between and l06Told. Conditions stand at each. The model's l06Told: the grid of a square and a code. Conditions stand at each.
-/
import Derived.Test.YtmkcdelfgaogaaaDoorRows
import Derived.Test.YtmkcdelfgaogaaaDoorEdgeM
import Derived.Maps.OwnSet
import Derived.Maps.OwnIn
import Derived.Maps.Views
import Derived.DeepKeys4
import Derived.WideKeyPair
import Derived.WalkKit
import Derived.Test.YtmkcdelfgaogaaaDoorValidI
import Derived.Test.YtmkcdelfgaogaaaDoorRet
import Derived.Test.YtmkcdelfgaogaaaDoorJoint
import Derived.Deep.RegionHeld3
import Derived.Test.YtmkcdelfgaogaaaDoorCells
import Derived.Test.YtmkcdelfgaogaaaDoorWhole
import Derived.Test.YtmkcdelfgaogaaaDoorLayI
import Derived.Test.YtmkcdelfgaogaaaDoorOpen
import Derived.Test.YtmkcdelfgaogaaaDoorGrid
import Derived.Test.YtmkcdelfgaogaaaDoorDrawR
import Derived.Test.YtmkcdelfgaogaaaDoorCrossM
import Derived.OwnWalkIn
import Derived.Laws.EntriesVeiled
import Derived.Test.YtmkcdelfgaogaaaDoorBase
import Derived.LaidEql
import Derived.Stop.Asserts
import Derived.RowKitTokens
import Derived.Deep.QuietTactic
import Derived.Test.YtmkcdelfgaogaaaDoorSpecJoint
import Derived.Test.YtmkcdelfgaogaaaDoorLay2
import Derived.Test.YtmkcdelfgaogaaaDoorNums
import Derived.Test.YtmkcdelfgaogaaaDoorLink
import Derived.Test.YtmkcdelfgaogaaaDoorIn
namespace Go.Proofs.YtmkcdelfgaogaaaDoor
open Go Go.ChangeShapes Go.WideShapes Go.ChangeAt Go.RowKit
open Go.Maps (Keyed)
set_option linter.unusedVariables false
set_option linter.unusedSimpArgs false
set_option maxRecDepth 100000

/-- four numbers that are edges' own. -/
def Ed8 (e : Ed) : Prop := (-128 ≤ e.1 ∧ e.1 ≤ 127) ∧ (-128 ≤ e.2.1 ∧ e.2.1 ≤ 127) ∧ (-128 ≤ e.2.2.1 ∧ e.2.2.1 ≤ 127) ∧ (-128 ≤ e.2.2.2 ∧ e.2.2.2 ≤ 127)
def edK (e : Ed) : Lit := .string (keyBytes [.int .i8 e.1, .int .i8 e.2.1, .int .i8 e.2.2.1, .int .i8 e.2.2.2])
def edV (e : Ed) : Value := .agg #[.int .i8 e.1, .int .i8 e.2.1, .int .i8 e.2.2.1, .int .i8 e.2.2.2]
def prV (p : Int × Int) : Value := .agg #[.int .i64 p.1, .int .i64 p.2]
def prD (p : Int × Int) : DataW Unit := .agg [.lit (.int .i64 p.1), .lit (.int .i64 p.2)]
/-- how an element reads: a pair of numbers. -/
def pairR : Value → Option (DataW Unit × List MemPlace)
  | .agg cs => match cs.toList with
    | [.int .i64 a, .int .i64 b] => some (.agg [.lit (.int .i64 a), .lit (.int .i64 b)], [])
    | _ => none
  | _ => none
theorem pairR_mk (p : Int × Int) : pairR (prV p) = some (prD p, []) := rfl
theorem pairR_inv {v : Value} {z : DataW Unit × List MemPlace} (h : pairR v = some z) : ∃ p, v = prV p ∧ z = (prD p, []) := by
  unfold pairR at h
  split at h
  · split at h
    · rename_i cs _ a b e
      injection h with h
      refine ⟨(a, b), ?_, h.symm⟩
      unfold prV
      congr 1
      exact Array.toList_inj.1 e
    · cases h
  · cases h
theorem prD_inj {p q : Int × Int} (h : prD p = prD q) : p = q := by
  unfold prD at h
  injection h with h
  simp at h
  exact Prod.ext h.1 h.2

theorem w8e {n : Int} (h : -128 ≤ n ∧ n ≤ 127) : (Lit.int .i8 n).wf = true := by
  have hmin : IntKind.i8.min = -128 := rfl
  have hmax : IntKind.i8.max = 127 := rfl
  simp only [Lit.wf, Bool.and_eq_true, decide_eq_true_eq]
  omega
theorem laidOutE : laidOutB Tryd.prog = true := by kernel_rfl
theorem keyed_edge : Keyed Tryd.prog 115 := Keyed.of_law (deep_law_laid laidOutE (m := 2) (by omega) (by decide +kernel) (by kernel_rfl) (by simp only [Tryd.underlying115]))
theorem keyType_edge : Tryd.prog.keyType 115 = true := by kernel_rfl
theorem cellsOf_edge : Tryd.prog.cellsOf 115 = 4 := by kernel_rfl
theorem cellsOf_i8e : Tryd.prog.cellsOf 22 = 1 := by kernel_rfl
theorem typesNe : ∃ m, Tryd.prog.types.size = m + 1 := by
  have h : 0 < Tryd.prog.types.size := by decide +kernel
  exact Nat.exists_eq_succ_of_ne_zero (by omega)
theorem keyOf_edge {e : Ed} (h : Ed8 e) : keyOf Tryd.prog 115 (edV e) = some (edK e) := by
  obtain ⟨a, b, c, d⟩ := e
  obtain ⟨wa, wb, wc, wd⟩ := h
  have h1 : (Lit.int .i8 a).wf = true := w8e wa
  have h2 : (Lit.int .i8 b).wf = true := w8e wb
  have h3 : (Lit.int .i8 c).wf = true := w8e wc
  have h4 : (Lit.int .i8 d).wf = true := w8e wd
  obtain ⟨m, hm⟩ := typesNe
  unfold keyOf edV
  simp only [Tryd.underlying115]
  rw [if_pos (by simp [keyType_edge, Value.formed, Tryd.underlying115, cellsOf_edge]), hm]
  unfold Program.keyLits
  simp only [Tryd.underlying115, Value.cells]
  rw [if_pos (by simp [cellsOf_edge])]
  simp [Program.keyLits, Tryd.underlying22, cellsOf_i8e, h1, h2, h3, h4, edK, List.range_succ]
theorem edK_inj {e f : Ed} (he : Ed8 e) (hf : Ed8 f) (h : edK e = edK f) : e = f := by
  have := keyed_edge.inj (keyOf_edge he) (by rw [h]; exact keyOf_edge hf)
  unfold edV at this
  injection this with this
  simp at this
  obtain ⟨a, b, c, d⟩ := e
  obtain ⟨a', b', c', d'⟩ := f
  simp_all
theorem edK_is (e : Ed) : WideAt.IsKeyLit (edK e) := trivial

/-- a list of joints as a map. -/
def eD (L : List En) : DataW Unit := L.foldl (fun D en => D.put (edK en.1) (prD en.2)) (.map [])
theorem eD_snoc (L : List En) (en : En) : eD (L ++ [en]) = (eD L).put (edK en.1) (prD en.2) := by simp [eD]
theorem eInd {P : List En → Prop} (h0 : P []) (h1 : ∀ L x, P L → P (L ++ [x])) (L : List En) : P L := by
  have h : ∀ M : List En, P M.reverse := by
    intro M
    induction M with
    | nil => exact h0
    | cons x M ih => rw [List.reverse_cons]; exact h1 _ _ ih
  have := h L.reverse
  rwa [List.reverse_reverse] at this
theorem eD_tidy (L : List En) : Maps.Tidy (eD L) := eInd (P := fun L => Maps.Tidy (eD L)) Maps.tidy_empty (fun L x ih => by rw [eD_snoc]; exact ih.put (edK_is _) _) L
def hasK (L : List En) (e : Ed) : Bool := L.any fun en => en.1 == e
theorem eD_has (L : List En) {e : Ed} (he : Ed8 e) : (∀ en ∈ L, Ed8 en.1) → Maps.has (eD L) (edK e) = hasK L e := by
  refine eInd (P := fun L => (∀ en ∈ L, Ed8 en.1) → Maps.has (eD L) (edK e) = hasK L e) (fun _ => rfl) (fun L x ih h => ?_) L
  have ih := ih fun en hn => h en (List.mem_append_left _ hn)
  have hx := h x (List.mem_append_right _ (.head _))
  rw [eD_snoc]
  unfold hasK at ih ⊢
  rw [List.any_append]
  by_cases e' : x.1 = e
  · rw [e', Maps.has_put_same (eD_tidy L).isMap (edK_is _)]
    simp [e']
  · rw [Maps.has_put_other (fun h' => e' (edK_inj he hx h').symm), ih]
    simp [e']
theorem eD_at (L : List En) {e : Ed} {p : Int × Int} (he : Ed8 e) (z : DataW Unit) : (∀ en ∈ L, Ed8 en.1) → (L.map (·.1)).Nodup → (e, p) ∈ L → (eD L).atKey (edK e) z = prD p := by
  refine eInd (P := fun L => (∀ en ∈ L, Ed8 en.1) → (L.map (·.1)).Nodup → (e, p) ∈ L → (eD L).atKey (edK e) z = prD p) (fun _ _ h => by cases h) (fun L x ih h hd hm => ?_) L
  have hx := h x (List.mem_append_right _ (.head _))
  rw [List.map_append, List.nodup_append] at hd
  obtain ⟨hd1, _, hd3⟩ := hd
  rw [eD_snoc]
  rcases List.mem_append.1 hm with hm | hm
  · have hne : e ≠ x.1 := fun e' => hd3 e (List.mem_map.2 ⟨_, hm, rfl⟩) x.1 (by simp) e'
    rw [Maps.atKey_put_other (fun h' => hne (edK_inj he hx h'))]
    exact ih (fun en hn => h en (List.mem_append_left _ hn)) hd1 hm
  · obtain rfl : (e, p) = x := by simpa using hm
    exact Maps.atKey_put_same (eD_tidy L).isMap (edK_is _) _ _
theorem eD_size (L : List En) : (∀ en ∈ L, Ed8 en.1) → (L.map (·.1)).Nodup → Maps.size (eD L) = L.length := by
  refine eInd (P := fun L => (∀ en ∈ L, Ed8 en.1) → (L.map (·.1)).Nodup → Maps.size (eD L) = L.length) (fun _ _ => rfl) (fun L x ih h hd => ?_) L
  have hx := h x (List.mem_append_right _ (.head _))
  have h' := fun en hn => h en (List.mem_append_left _ hn)
  rw [List.map_append, List.nodup_append] at hd
  obtain ⟨hd1, _, hd3⟩ := hd
  rw [eD_snoc, Maps.size_put (eD_tidy L), eD_has L hx h', ih h' hd1]
  have : hasK L x.1 = false := by
    unfold hasK
    rw [List.any_eq_false]
    intro en hn e'
    have e' : en.1 = x.1 := by simpa using e'
    exact hd3 en.1 (List.mem_map.2 ⟨_, hn, rfl⟩) x.1 (by simp) e'
  rw [this]
  simp

/-- the map m holds the joints L. -/
def EMap (W : World) (m : Nat) (L : List En) : Prop := (∀ en ∈ L, Ed8 en.1) ∧ W.ownsMap Tryd.prog 115 pairR m L.length (eD L)
theorem EMap.lt {W : World} {m : Nat} {L : List En} (h : EMap W m L) : m < W.heap.size := World.ownsMap.lt h.2
theorem EMap.of_block {W W' : World} {m : Nat} {L : List En} (h : EMap W m L) (hb : W'.heap[m]? = W.heap[m]?) : EMap W' m L := by
  obtain ⟨h0, es, ck, h1, r⟩ := h
  exact ⟨h0, es, ck, hb.trans h1, r⟩
theorem EMap.below {W W' : World} {m N : Nat} {L : List En} (h : EMap W m L) (hb : Below N W W') (hs : m < N) : EMap W' m L := h.of_block (hb.block _ hs)
theorem EMap.alloc {W : World} {m : Nat} {L : List En} (h : EMap W m L) (o : Obj) : EMap (W.alloc o) m L := h.of_block (Below.heap_alloc _ _ _ h.lt)
theorem EMap.drew {W : World} {m : Nat} {L : List En} (h : EMap W m L) : EMap W.drew m L := h
theorem EMap.new (w : World) : EMap (w.alloc (.map #[] 0)) w.heap.size [] := ⟨fun _ h => (by cases h), World.ownsMap_made w Tryd.prog _ pairR⟩
/-- 'pair, is := joints[edge]'. -/
theorem EMap.look {W : World} {m : Nat} {L : List En} (h : EMap W m L) {e : Ed} (he : Ed8 e) : ∃ p : Int × Int,
    (Instr.lookup 72 (.map (some m)) (edV e) true).run Tryd.prog W = .ok (.tuple #[prV p, .bool (hasK L e)]) W := by
  obtain ⟨v, ps, hrun, hv⟩ := World.ownsMap.look_ok h.2 keyed_edge Tryd.underlying72 (z := prV (0, 0)) (Tryd.zeroValue112 W) (zd := prD (0, 0)) (zp := []) (pairR_mk _) (keyOf_edge he)
  obtain ⟨p, rfl, _⟩ := pairR_inv hv
  rw [eD_has L he h.1] at hrun
  exact ⟨p, hrun⟩
/-- 'len(joints)'. -/
theorem EMap.len {W : World} {m : Nat} {L : List En} (h : EMap W m L) (hd : (L.map (·.1)).Nodup) (ty : TypeId) : (Builtin.len_ #[72] ty #[.map (some m)]).run Tryd.prog W = .ok (.int .i64 (L.length : Int)) W := by
  have := World.ownsMap.len h.2 Tryd.underlying72 ty
  rw [eD_size L h.1 hd] at this
  exact this
/-- 'joints[edge] = pair'. -/
theorem EMap.store {W : World} {m : Nat} {L : List En} (h : EMap W m L) (hl : L.length < maxLen) {e : Ed} (he : Ed8 e) (p : Int × Int) :
    ∃ W', (Instr.mapUpdate 72 (.map (some m)) (edV e) (prV p)).run Tryd.prog W = .ok () W' ∧ EMap W' m (L ++ [(e, p)]) ∧ W.mapTurned W' m := by
  obtain ⟨W', h1, h2, h3⟩ := World.ownsMap.store h.2 keyed_edge Tryd.underlying72 hl (keyOf_edge he) (pairR_mk p)
  refine ⟨W', h1, ⟨?_, ?_⟩, h3⟩
  · intro en hn
    rcases List.mem_append.1 hn with hn | hn
    · exact h.1 en hn
    · obtain rfl : en = (e, p) := by simpa using hn
      exact he
  · rw [eD_snoc, List.length_append]
    exact h2
end Go.Proofs.YtmkcdelfgaogaaaDoor

namespace Go.Proofs.YtmkcdelfgaogaaaDoor
open Go Go.ChangeShapes Go.WideShapes Go.ChangeAt Go.RowKit
set_option linter.unusedVariables false
set_option linter.unusedSimpArgs false
set_option maxRecDepth 100000
set_option maxHeartbeats 4000000

theorem edge_any (ax ay bx by_ : Int) (w : World) : Calls Tryd.prog 59 #[.agg #[.int .i8 ax, .int .i8 ay], .agg #[.int .i8 bx, .int .i8 by_]] w fun e w' => e = .returned (edV (edE ax ay bx by_)) ∧ Below w.heap.size w w' := by
  obtain ⟨m0, h0⟩ : ∃ m, min ax bx = m := ⟨_, rfl⟩
  obtain ⟨m1, h1⟩ : ∃ m, min ay by_ = m := ⟨_, rfl⟩
  obtain ⟨m2, h2⟩ : ∃ m, max ax bx = m := ⟨_, rfl⟩
  obtain ⟨m3, h3⟩ : ∃ m, max ay by_ = m := ⟨_, rfl⟩
  have HE : edV (edE ax ay bx by_) = .agg #[.int .i8 m0, .int .i8 m1, .int .i8 m2, .int .i8 m3] := by unfold edV edE; rw [h0, h1, h2, h3]
  rw [HE]
  clear HE
  go_enter Tryd.func59, Tryd.ntmps59
  go_wp2
  all_goals
    refine bodyPost_ret (v := .agg #[.int .i8 m0, .int .i8 m1, .int .i8 m2, .int .i8 m3]) (by simp [results, Tryd.results59, go_sem] <;> omega) rfl ⟨rfl, ?_⟩
    exact al (al (al (Below.refl _ _) _) _) _
/-- the point to which an edge leads. -/
def stepX (x : Int) (way : Nat) : Int := if way = 1 then x + 1 else if way = 3 then x - 1 else x
def stepY (y : Int) (way : Nat) : Int := if way = 0 then y - 1 else if way = 2 then y + 1 else y
theorem ahead_any (x y : Int) (way : Nat) (w : World) (hx : -127 ≤ x ∧ x ≤ 126) (hy : -127 ≤ y ∧ y ≤ 126) (hw : way < 4) :
    Calls Tryd.prog 40 #[.int .i64 (way : Int), .agg #[.int .i8 x, .int .i8 y]] w fun e w' => e = .returned (.agg #[.int .i8 (stepX x way), .int .i8 (stepY y way)]) ∧ Below w.heap.size w w' := by
  have e1 : IntKind.i8.wrap (y - 1) = y - 1 := IntWalk.i8_in _ (by omega)
  have e2 : IntKind.i8.wrap (y + 1) = y + 1 := IntWalk.i8_in _ (by omega)
  have e3 : IntKind.i8.wrap (x - 1) = x - 1 := IntWalk.i8_in _ (by omega)
  have e4 : IntKind.i8.wrap (x + 1) = x + 1 := IntWalk.i8_in _ (by omega)
  match way, hw with
  | 0, _ =>
    show Calls Tryd.prog 40 #[.int .i64 0, _] w _
    go_enter Tryd.func40, Tryd.ntmps40
    go_wp2
    refine bodyPost_ret (v := .agg #[.int .i8 x, .int .i8 (y - 1)]) (by simp [results, Tryd.results40, go_sem]) rfl ⟨rfl, ?_⟩
    exact al (al (Below.refl _ _) _) _
  | 1, _ =>
    show Calls Tryd.prog 40 #[.int .i64 1, _] w _
    go_enter Tryd.func40, Tryd.ntmps40
    go_wp2
    refine bodyPost_ret (v := .agg #[.int .i8 (x + 1), .int .i8 y]) (by simp [results, Tryd.results40, go_sem]) rfl ⟨rfl, ?_⟩
    exact al (al (Below.refl _ _) _) _
  | 2, _ =>
    show Calls Tryd.prog 40 #[.int .i64 2, _] w _
    go_enter Tryd.func40, Tryd.ntmps40
    go_wp2
    refine bodyPost_ret (v := .agg #[.int .i8 x, .int .i8 (y + 1)]) (by simp [results, Tryd.results40, go_sem]) rfl ⟨rfl, ?_⟩
    exact al (al (Below.refl _ _) _) _
  | 3, _ =>
    show Calls Tryd.prog 40 #[.int .i64 3, _] w _
    go_enter Tryd.func40, Tryd.ntmps40
    go_wp2
    refine bodyPost_ret (v := .agg #[.int .i8 (x - 1), .int .i8 y]) (by simp [results, Tryd.results40, go_sem]) rfl ⟨rfl, ?_⟩
    exact al (al (Below.refl _ _) _) _

/-- 'joints.has'. -/
theorem jhas_any (m : Nat) (L : List En) (ax ay bx by_ : Int) (w : World) (hax : -128 ≤ ax ∧ ax ≤ 127) (hay : -128 ≤ ay ∧ ay ≤ 127) (hbx : -128 ≤ bx ∧ bx ≤ 127) (hby : -128 ≤ by_ ∧ by_ ≤ 127) (hM : EMap w m L) :
    Calls Tryd.prog 36 #[.map (some m), .agg #[.int .i8 ax, .int .i8 ay], .agg #[.int .i8 bx, .int .i8 by_]] w fun e w' => e = .returned (.bool (hasK L (edE ax ay bx by_))) ∧ Below w.heap.size w w' := by
  have h8 : Ed8 (edE ax ay bx by_) := by unfold Ed8 edE; simp only []; omega
  obtain ⟨e0, he0⟩ : ∃ e, e = edE ax ay bx by_ := ⟨_, rfl⟩
  have HE := Lib.hid (fun W => edge_any ax ay bx by_ W)
  simp only [← he0] at HE h8 ⊢
  clear he0
  go_enter Tryd.func36, Tryd.ntmps36
  go_wp2_with fail
  have B := al (al (Below.refl w.heap.size w) (.cells #[.int .i8 ax, .int .i8 ay] 35)) (.cells #[.int .i8 bx, .int .i8 by_] 35)
  have M := (hM.alloc (.cells #[.int .i8 ax, .int .i8 ay] 35)).alloc (.cells #[.int .i8 bx, .int .i8 by_] 35)
  refine (HE.out _).mono ?_
  rintro e w1 ⟨rfl, hb⟩
  replace B := nxt B hb
  replace M := M.below hb M.lt
  clear hb
  obtain ⟨p, hp⟩ := M.look h8
  unfold edV at hp
  unfold prV at hp
  unfold edV
  go_wp2
  go_ret
  exact ⟨rfl, al B _⟩
/-- the corners of a square. -/
theorem corners_any (X Y : Int) (v : Value) (w : World) (hX : -128 ≤ X ∧ X ≤ 126) (hY : -128 ≤ Y ∧ Y ≤ 126) : Calls Tryd.prog 48 #[.agg #[.int .i8 X, .int .i8 Y, v]] w fun e w' => e = .returned (.agg #[.int .i8 (X + 1), .int .i8 (Y + 1)]) ∧ Below w.heap.size w w' := by
  have e1 : IntKind.i8.wrap (X + 1) = X + 1 := IntWalk.i8_in _ (by omega)
  have e2 : IntKind.i8.wrap (Y + 1) = Y + 1 := IntWalk.i8_in _ (by omega)
  go_enter Tryd.func48, Tryd.ntmps48
  go_wp2
  refine bodyPost_ret (v := .agg #[.int .i8 (X + 1), .int .i8 (Y + 1)]) (by simp [results, Tryd.results48, go_sem]) rfl ⟨rfl, ?_⟩
  exact al (al (Below.refl _ _) _) _
/-- has a square's point? -/
def PtIn (X Y a b : Int) : Prop := 0 ≤ a ∧ a ≤ X ∧ 0 ≤ b ∧ b ≤ Y
theorem phas_any (X Y a b : Int) (r : Bool) (w : World) (hX : -128 ≤ X ∧ X ≤ 126) (hY : -128 ≤ Y ∧ Y ≤ 126) (ha : -128 ≤ a ∧ a ≤ 127) (hb : -128 ≤ b ∧ b ≤ 127) (hr : r = true ↔ PtIn X Y a b) : Calls Tryd.prog 56 #[.agg #[.int .i8 (X + 1), .int .i8 (Y + 1)], .agg #[.int .i8 a, .int .i8 b]] w fun e w' => e = .returned (.bool r) ∧ Below w.heap.size w w' := by
  unfold PtIn at hr
  by_cases h : 0 ≤ a ∧ 0 ≤ b ∧ 1 ≤ (1 : Int) ∧ 1 ≤ (1 : Int) ∧ a + 1 ≤ X + 1 ∧ b + 1 ≤ Y + 1
  · obtain rfl : r = true := hr.2 ⟨by omega, by omega, by omega, by omega⟩
    have H := Lib.hid h
    clear hr h
    go_enter Tryd.func56, Tryd.ntmps56
    go_wp2_with fail
    have B := al (al (Below.refl w.heap.size w) (.cells #[.int .i8 (X + 1), .int .i8 (Y + 1)] 96)) (.cells #[.int .i8 a, .int .i8 b] 35)
    refine (lw_yes (X + 1) (Y + 1) a b 1 1 _ (by omega) (by omega) ha hb (by omega) (by omega) H.out).mono ?_
    rintro e w1 ⟨rfl, hb1⟩
    replace B := nxt B hb1
    clear hb1
    go_wp2
    go_ret
    exact ⟨rfl, B⟩
  · obtain rfl : r = false := by
      cases r
      · rfl
      · have := hr.1 rfl; exact absurd ⟨by omega, by omega, by omega, by omega, by omega, by omega⟩ h
    have H := Lib.hid h
    clear hr h
    go_enter Tryd.func56, Tryd.ntmps56
    go_wp2_with fail
    have B := al (al (Below.refl w.heap.size w) (.cells #[.int .i8 (X + 1), .int .i8 (Y + 1)] 96)) (.cells #[.int .i8 a, .int .i8 b] 35)
    refine (lw_no (X + 1) (Y + 1) a b 1 1 _ (by omega) (by omega) ha hb (by omega) (by omega) H.out).mono ?_
    rintro e w1 ⟨rfl, hb1⟩
    replace B := nxt B hb1
    clear hb1
    go_wp2
    go_ret
    exact ⟨rfl, B⟩
end Go.Proofs.YtmkcdelfgaogaaaDoor

namespace Go.Proofs.YtmkcdelfgaogaaaDoor
open Go Go.ChangeShapes Go.WideShapes Go.ChangeAt Go.RowKit
set_option linter.unusedVariables false
set_option linter.unusedSimpArgs false
set_option maxRecDepth 100000
set_option maxHeartbeats 4000000

/-- below N the world is as it was, but for block m. -/
structure BeX (m N : Nat) (w w' : World) : Prop where
  os : w'.os = w.os
  tape : w'.tape = w.tape
  output : w'.output = w.output
  size : w.heap.size ≤ w'.heap.size
  block : ∀ k, k < N → k ≠ m → w'.heap[k]? = w.heap[k]?
theorem BeX.of_below {m N : Nat} {w w' : World} (h : Below N w w') : BeX m N w w' := ⟨h.os, h.tape, h.output, h.size, fun k hk _ => h.block k hk⟩
theorem BeX.trans {m N : Nat} {a b c : World} (h : BeX m N a b) (k : BeX m N b c) : BeX m N a c :=
  ⟨k.os.trans h.os, k.tape.trans h.tape, k.output.trans h.output, Nat.le_trans h.size k.size, fun i hi hm => (k.block i hi hm).trans (h.block i hi hm)⟩
theorem BeX.mono {m N N' : Nat} {w w' : World} (h : BeX m N w w') (hN : N' ≤ N) : BeX m N' w w' := ⟨h.os, h.tape, h.output, h.size, fun k hk hm => h.block k (by omega) hm⟩
theorem BeX.turned {m N : Nat} {w w' : World} (h : w.mapTurned w' m) (hN : N ≤ w.heap.size) : BeX m N w w' := by
  have hg := h.grown
  exact ⟨hg.os, hg.tape, hg.output, hg.size, fun k hk hm => hg.block k (by omega) (fun e => hm (by injection e))⟩
theorem BeX.below {m N N' : Nat} {w w' : World} (h : BeX m N w w') (hN : N' ≤ N) (hm : N' ≤ m) : Below N' w w' := ⟨h.os, h.tape, h.output, h.size, fun k hk => h.block k (by omega) (by omega)⟩
/-- what add leaves. -/
def AddPost (m : Nat) (L' : List En) (w : World) (e : Ending) (w' : World) : Prop := e = .returned (.tuple #[]) ∧ EMap w' m L' ∧ ∃ w1, Below w.heap.size w w1 ∧ w1.mapTurned w' m

theorem add_any (g bj m : Nat) (L : List En) (G : Nat → Int) (ax ay bx by_ : Int) (e0 : Ed) (w : World) (hG : w.rowIs g 129 144 (fun p => .int .i8 (G p))) (hG8 : ∀ x y, 0 ≤ gA G x y ∧ gA G x y ≤ 60) (h8 : Ed8 e0)
    (hJ : Bx w bj #[.map (some m)] 72) (hM : EMap w m L) (hl : L.length < 1000) :
    Calls Tryd.prog 77 #[.agg #[.int .i8 ax, .int .i8 ay], .agg #[.int .i8 bx, .int .i8 by_], edV e0, .pointer (some ⟨g, 0, none⟩), .pointer (some ⟨bj, 0, none⟩)] w
      (AddPost m (if jb (gA G ax ay) (gA G bx by_) then L ++ [(e0, mm (gA G ax ay) (gA G bx by_))] else L) w) := by
  have H1 := Lib.hid (fun W hW => jb_any g ax ay bx by_ G W hW)
  have H2 := Lib.hid (fun W hW => at_any g ax ay G W hW)
  have H3 := Lib.hid (fun W hW => at_any g bx by_ G W hW)
  have b1 := hG8 ax ay
  have b2 := hG8 bx by_
  obtain ⟨n1, hn1⟩ : ∃ n1, n1 = gA G ax ay := ⟨_, rfl⟩
  obtain ⟨n2, hn2⟩ : ∃ n2, n2 = gA G bx by_ := ⟨_, rfl⟩
  simp only [← hn1, ← hn2] at H1 H2 H3 b1 b2 ⊢
  clear hn1 hn2 hG8
  have X4 := ((Bx.new w #[.int .i8 ax, .int .i8 ay] 35).alloc (.cells #[.int .i8 bx, .int .i8 by_] 35)).alloc (.cells #[.int .i8 e0.1, .int .i8 e0.2.1, .int .i8 e0.2.2.1, .int .i8 e0.2.2.2] 115)
  have X5 := (Bx.new (w.alloc (.cells #[.int .i8 ax, .int .i8 ay] 35)) #[.int .i8 bx, .int .i8 by_] 35).alloc (.cells #[.int .i8 e0.1, .int .i8 e0.2.1, .int .i8 e0.2.2.1, .int .i8 e0.2.2.2] 115)
  have X6 := Bx.new ((w.alloc (.cells #[.int .i8 ax, .int .i8 ay] 35)).alloc (.cells #[.int .i8 bx, .int .i8 by_] 35)) #[.int .i8 e0.1, .int .i8 e0.2.1, .int .i8 e0.2.2.1, .int .i8 e0.2.2.2] 115
  have B := al (al (al (Below.refl w.heap.size w) (.cells #[.int .i8 ax, .int .i8 ay] 35)) (.cells #[.int .i8 bx, .int .i8 by_] 35)) (.cells #[.int .i8 e0.1, .int .i8 e0.2.1, .int .i8 e0.2.2.1, .int .i8 e0.2.2.2] 115)
  simp only [World.size_alloc] at X5 X6
  obtain ⟨W0, hW0⟩ : ∃ W0 : World, W0 = ((w.alloc (.cells #[.int .i8 ax, .int .i8 ay] 35)).alloc (.cells #[.int .i8 bx, .int .i8 by_] 35)).alloc (.cells #[.int .i8 e0.1, .int .i8 e0.2.1, .int .i8 e0.2.2.1, .int .i8 e0.2.2.2] 115) := ⟨_, rfl⟩
  rw [← hW0] at X4 X5 X6 B
  have hgl := hG.lt
  have hjl := hJ.lt
  have R := hG.of_block (B.block _ hgl)
  have J := hJ.below B
  have M := hM.below B hM.lt
  have s0 : w.heap.size + 2 < W0.heap.size := by rw [hW0]; simp
  clear hG hJ hM
  unfold edV
  obtain ⟨L', hL'⟩ : ∃ L', L' = (if jb n1 n2 then L ++ [(e0, mm n1 n2)] else L) := ⟨_, rfl⟩
  rw [← hL']
  have HL := Lib.hid hL'
  clear hL'
  go_enter Tryd.func77, Tryd.ntmps77
  go_wp2_with fail
  rw [← hW0]
  clear hW0
  refine (H1.out W0 R).mono ?_
  rintro e w1 ⟨rfl, hb⟩
  have X4' := X4.below hb
  have X5' := X5.below hb
  have X6' := X6.below hb
  have R' := R.of_block (hb.block _ R.lt)
  have J' := J.below hb
  have M' := M.below hb M.lt
  have B' := nxt B hb
  have s1 : w.heap.size + 2 < w1.heap.size := by have := hb.size; omega
  clear X4 X5 X6 R J M B hb s0 H1
  cases hj : jb n1 n2 with
  | false =>
    go_wp2
    go_end0
    have e : L' = L := by rw [HL.out, hj]; rfl
    rw [e]
    exact ⟨rfl, M', w1, B', M'.2.turned_refl⟩
  | true =>
    have hne : n1 ≠ n2 := by
      intro h
      rw [h] at hj
      simp [jb] at hj
    have e1 : IntKind.i64.wrap n1 = n1 := IntWalk.i64_in _ (by omega)
    have e2 : IntKind.i64.wrap n2 = n2 := IntWalk.i64_in _ (by omega)
    have e3 : wrap64 (n1 - 1) = n1 - 1 := IntWalk.wrap64_in _ (by omega)
    have e4 : wrap64 (n2 - 1) = n2 - 1 := IntWalk.wrap64_in _ (by omega)
    have e5 : L' = L ++ [(e0, mm n1 n2)] := by rw [HL.out, hj]; rfl
    have HE := Lib.hid e5
    clear hj e5 HL
    have HN := Lib.hid hne
    clear hne
    go_wp2_with fail
    replace B' := B'.drew
    replace X4' : Bx w1.drew w.heap.size #[.int .i8 ax, .int .i8 ay] 35 := X4'
    replace X5' : Bx w1.drew (w.heap.size + 1) #[.int .i8 bx, .int .i8 by_] 35 := X5'
    replace X6' : Bx w1.drew (w.heap.size + 2) #[.int .i8 e0.1, .int .i8 e0.2.1, .int .i8 e0.2.2.1, .int .i8 e0.2.2.2] 115 := X6'
    replace R' : w1.drew.rowIs g 129 144 (fun p => .int .i8 (G p)) := R'
    replace J' : Bx w1.drew bj #[.map (some m)] 72 := J'
    replace M' : EMap w1.drew m L := M'
    replace s1 : w.heap.size + 2 < w1.drew.heap.size := s1
    obtain ⟨p4, q4⟩ := And.intro (X4'.cell 0) (X4'.cell 1)
    obtain ⟨p5, q5⟩ := And.intro (X5'.cell 0) (X5'.cell 1)
    simp at p4 q4 p5 q5
    go_region_held3 (fun w' => w'.cell? ⟨w.heap.size, 0, none⟩ = some (.int .i8 ax) ∧ w'.cell? ⟨w.heap.size, 1, none⟩ = some (.int .i8 ay) ∧ w'.cell? ⟨w.heap.size + 1, 0, none⟩ = some (.int .i8 bx) ∧ w'.cell? ⟨w.heap.size + 1, 1, none⟩ = some (.int .i8 by_))
      (first | exact ⟨p4, q4, p5, q5⟩)
      (first
      | (go_at_call 79
         with_reducible refine (H2.out _ R').mono ?_
         rintro e w3 ⟨rfl, hb⟩
         replace X4' := X4'.below hb
         replace X5' := X5'.below hb
         replace X6' := X6'.below hb
         replace R' := rowNext0 R' hb
         replace J' := J'.below hb
         replace M' := M'.below hb M'.lt
         replace s1 : w.heap.size + 2 < w3.heap.size := Nat.lt_of_lt_of_le s1 hb.size
         replace B' := nxt B' hb
         clear hb p4 q4 p5 q5
         obtain ⟨p4, q4⟩ := And.intro (X4'.cell 0) (X4'.cell 1)
         obtain ⟨p5, q5⟩ := And.intro (X5'.cell 0) (X5'.cell 1)
         simp at p4 q4 p5 q5)
      | (go_at_call 79
         with_reducible refine (H3.out _ R').mono ?_
         rintro e w3 ⟨rfl, hb⟩
         replace X4' := X4'.below hb
         replace X5' := X5'.below hb
         replace X6' := X6'.below hb
         replace R' := rowNext0 R' hb
         replace J' := J'.below hb
         replace M' := M'.below hb M'.lt
         replace s1 : w.heap.size + 2 < w3.heap.size := Nat.lt_of_lt_of_le s1 hb.size
         replace B' := nxt B' hb
         clear hb p4 q4 p5 q5
         obtain ⟨p4, q4⟩ := And.intro (X4'.cell 0) (X4'.cell 1)
         obtain ⟨p5, q5⟩ := And.intro (X5'.cell 0) (X5'.cell 1)
         simp at p4 q4 p5 q5))
    have e6 : IntKind.i64.wrap (n1 - 1) = n1 - 1 := IntWalk.i64_in _ (by omega)
    have e7 : IntKind.i64.wrap (n2 - 1) = n2 - 1 := IntWalk.i64_in _ (by omega)
    obtain ⟨z1, hz1⟩ : ∃ z, z = n1 - 1 := ⟨_, rfl⟩
    obtain ⟨z2, hz2⟩ : ∃ z, z = n2 - 1 := ⟨_, rfl⟩
    rw [e6, e7, ← hz1, ← hz2]
    have HM : mm n1 n2 = (min z1 z2, max z1 z2) := by unfold mm; rw [hz1, hz2]
    have HE2 : Hid (L' = L ++ [(e0, (min z1 z2, max z1 z2))]) := Lib.hid (by rw [HE.out, HM])
    have hzz : z1 ≠ z2 := fun h => HN.out (by omega)
    clear hz1 hz2 HN HM HE e1 e2 e3 e4 e6 e7 p4 q4 p5 q5 H2 H3 b1 b2
    have j0 := J'.cell 0
    have c0 := X6'.cell 0
    have c1 := X6'.cell 1
    have c2 := X6'.cell 2
    have c3 := X6'.cell 3
    simp at j0 c0 c1 c2 c3
    rcases Int.lt_or_gt_of_ne hzz with hl0 | hl0
    · obtain ⟨W', hrun, hM', ht⟩ := M'.store (by unfold maxLen; omega) h8 (z1, z2)
      have e9 : L' = L ++ [(e0, (z1, z2))] := by rw [HE2.out]; congr 4 <;> omega
      unfold edV prV at hrun
      simp only [] at hrun
      have hlt1 : z1 < z2 := by omega
      have hlt2 : ¬ z2 < z1 := by omega
      have hlt3 : ¬ z2 ≤ z1 := by omega
      have hlt4 : z1 ≤ z2 := by omega
      have HX := Lib.hid (And.intro e9 hM')
      clear hl0 e9 hzz hM' HE2
      go_wp2
      go_end0
      obtain ⟨e9, hM'⟩ := HX.out
      rw [e9]
      exact ⟨rfl, hM', _, B', ht⟩
    · obtain ⟨W', hrun, hM', ht⟩ := M'.store (by unfold maxLen; omega) h8 (z2, z1)
      have e9 : L' = L ++ [(e0, (z2, z1))] := by rw [HE2.out]; congr 4 <;> omega
      unfold edV prV at hrun
      simp only [] at hrun
      have hlt1 : z2 < z1 := by omega
      have hlt2 : ¬ z1 < z2 := by omega
      have hlt3 : ¬ z1 ≤ z2 := by omega
      have hlt4 : z2 ≤ z1 := by omega
      have HX := Lib.hid (And.intro e9 hM')
      clear hl0 e9 hzz hM' HE2
      go_wp2
      go_end0
      obtain ⟨e9, hM'⟩ := HX.out
      rw [e9]
      exact ⟨rfl, hM', _, B', ht⟩
end Go.Proofs.YtmkcdelfgaogaaaDoor

namespace Go.Proofs.YtmkcdelfgaogaaaDoor
open Go Go.ChangeShapes Go.WideShapes Go.ChangeAt Go.RowKit
set_option linter.unusedVariables false
set_option linter.unusedSimpArgs false
set_option maxRecDepth 100000
set_option maxHeartbeats 4000000
attribute [local go_sem] Oper.semAt_some

/-- the joints of the cells that have been gone through. -/
def eL (G : Nat → Int) (pre : List CX) : List En := pre.flatMap fun x => cellE G (x.1.1 : Int) (x.1.2 : Int)
theorem eL_snoc (G : Nat → Int) (pre : List CX) (x : CX) : eL G (pre ++ [x]) = eL G pre ++ cellE G (x.1.1 : Int) (x.1.2 : Int) := by simp [eL]
theorem eL_all {W H : Nat} {G : Nat → Int} (hW : W ≤ 12) (hH : H ≤ 12) : ∀ k, k ≤ W * H → eL G (uptoC 0 0 W k) = jl W G k
  | 0, _ => rfl
  | k + 1, h => by
    rw [uptoC_succ, eL_snoc, eL_all hW hH k (by omega)]
    have := cellAt_val hW hH (show k < W * H by omega)
    unfold cl at this
    rw [this]
    rfl
theorem eL_length (G : Nat → Int) (pre : List CX) : (eL G pre).length ≤ 2 * pre.length := by
  induction pre with
  | nil => simp [eL]
  | cons x pre ih =>
    unfold eL at ih ⊢
    rw [List.flatMap_cons, List.length_append, cellE_length, List.length_cons]
    split <;> split <;> omega
theorem gridN_bdJ (c : Nat → Int) (p : Nat) : ∀ n, 0 ≤ gridN c n p ∧ gridN c n p ≤ (n : Int)
  | 0 => by simp [gridN]
  | n + 1 => by
    have := gridN_bdJ c p n
    unfold gridN
    split <;> omega
theorem gA_bd {c : Nat → Int} {n : Nat} (hn : n ≤ 60) (x y : Int) : 0 ≤ gA (gridN c n) x y ∧ gA (gridN c n) x y ≤ 60 := by
  unfold gA
  split
  · have := gridN_bdJ c (y.toNat * 12 + x.toNat) n
    omega
  · omega

/-- what the rounds keep. -/
structure JR (g bj ba m Bx' : Nat) (x y : Int) (G : Nat → Int) (L : List En) (Wd : World) : Prop where
  R : Wd.rowIs g 129 144 (fun p => .int .i8 (G p))
  J : Bx Wd bj #[.map (some m)] 72
  A : Bx Wd ba #[.func (.func 77) #[] #[.pointer (some ⟨g, 0, none⟩), .pointer (some ⟨bj, 0, none⟩)]] 136
  M : EMap Wd m L
  X : Bx Wd Bx' #[.int .i8 x, .int .i8 y] 35
section
variable {g bj ba m Bx' : Nat} {x y : Int} {G : Nat → Int} {L L' : List En} {Wd W' : World}
theorem EMap.mapAt {W : World} {m : Nat} {L : List En} (h : EMap W m L) : ∃ es ck, W.heap[m]? = some (.map es ck) := by
  obtain ⟨_, es, ck, h1, _⟩ := h
  exact ⟨es, ck, h1⟩
theorem EMap.ne_box {W : World} {m b : Nat} {L : List En} {cs : Array Value} {t : TypeId} (h : EMap W m L) (hb : Bx W b cs t) : b ≠ m := by
  rintro rfl
  obtain ⟨es, ck, h1⟩ := h.mapAt
  have h2 : W.heap[b]? = some (.cells cs t (0, 0)) := hb
  rw [h1] at h2
  cases h2
theorem EMap.ne_row {W : World} {m b : Nat} {L : List En} {t : TypeId} {n : Nat} {f : Nat → Value} (h : EMap W m L) (hb : W.rowIs b t n f) : b ≠ m := by
  rintro rfl
  obtain ⟨es, ck, h1⟩ := h.mapAt
  obtain ⟨cs, h2, _⟩ := hb
  rw [h1] at h2
  cases h2
theorem JR.below (h : JR g bj ba m Bx' x y G L Wd) (hb : Below Wd.heap.size Wd W') : JR g bj ba m Bx' x y G L W' :=
  ⟨h.R.of_block (hb.block _ h.R.lt), h.J.below hb, h.A.below hb, h.M.below hb h.M.lt, h.X.below hb⟩
theorem JR.drew (h : JR g bj ba m Bx' x y G L Wd) : JR g bj ba m Bx' x y G L Wd.drew := ⟨h.R, h.J, h.A, h.M, h.X⟩
theorem JR.turned (h : JR g bj ba m Bx' x y G L Wd) (ht : Wd.mapTurned W' m) (hM : EMap W' m L') : JR g bj ba m Bx' x y G L' W' := by
  have hg := ht.grown
  have k : ∀ b, b < Wd.heap.size → b ≠ m → W'.heap[b]? = Wd.heap[b]? := fun b hb hm => hg.block b hb (fun e => hm (by injection e))
  exact ⟨h.R.of_block (k _ h.R.lt (h.M.ne_row h.R)), h.J.of_block (k _ h.J.lt (h.M.ne_box h.J)), h.A.of_block (k _ h.A.lt (h.M.ne_box h.A)), hM, h.X.of_block (k _ h.X.lt (h.M.ne_box h.X))⟩
theorem JR.step {e : Ending} (h : JR g bj ba m Bx' x y G L Wd) (hp : AddPost m L' Wd e W') : JR g bj ba m Bx' x y G L' W' := by
  obtain ⟨_, hM, w1, hb, ht⟩ := hp
  exact (h.below hb).turned ht hM
theorem AddPost.bex {e : Ending} {N : Nat} {w w' : World} {m : Nat} {L' : List En} (h : AddPost m L' w e w') (hN : N ≤ w.heap.size) : BeX m N w w' := by
  obtain ⟨_, _, w1, hb, ht⟩ := h
  exact (BeX.of_below (hb.mono hN)).trans (BeX.turned ht (Nat.le_trans hN hb.size))
theorem AddPost.keeps {e : Ending} {B : Nat} {w w' : World} {m : Nat} {L' : List En} (h : AddPost m L' w e w') (hB : m < B) : KeepsFrom B w w' := by
  obtain ⟨_, _, w1, hb, ht⟩ := h
  exact (keepsFrom_below hb).trans (KeepsFrom.of_grownBy ht.grown (fun j e => by injection e with e; omega))
theorem BeX.kpB {N b : Nat} {w w' : World} (h : BeX m N w w') (hb : b < N) (hm : b ≠ m) : KpB b w w' := ⟨h.size, h.block b hb hm⟩
end

/-- how a world has gone on from the round's beginning. -/
def TR (m B : Nat) (W' Wd : World) : Prop := KeepsFrom B W' Wd ∧ BeX m B W' Wd
theorem TR.refl (m B : Nat) (W' : World) : TR m B W' W' := ⟨KeepsFrom.refl _ _, ⟨rfl, rfl, rfl, Nat.le_refl _, fun _ _ _ => rfl⟩⟩
theorem TR.below {m B : Nat} {W' Wd w1 : World} (h : TR m B W' Wd) (hB : B ≤ W'.heap.size) (hb : Below Wd.heap.size Wd w1) : TR m B W' w1 :=
  ⟨h.1.trans (keepsFrom_below hb), h.2.trans (BeX.of_below (hb.mono (Nat.le_trans hB h.2.size)))⟩
theorem TR.drew {m B : Nat} {W' Wd : World} (h : TR m B W' Wd) (hB : B ≤ W'.heap.size) : TR m B W' Wd.drew := h.below hB (Below.refl _ _).drew
theorem TR.add {m B : Nat} {W' Wd w1 : World} {L' : List En} (h : TR m B W' Wd) (hB : B ≤ W'.heap.size) (hm : m < B) (hp : AddPost m L' Wd (.returned (.tuple #[])) w1) : TR m B W' w1 :=
  ⟨h.1.trans (hp.keeps hm), h.2.trans (hp.bex (Nat.le_trans hB h.2.size))⟩
theorem ahead1 (x y : Int) (w : World) (hx : 0 ≤ x ∧ x ≤ 12) (hy : 0 ≤ y ∧ y ≤ 12) : Calls Tryd.prog 40 #[.int .i64 1, .agg #[.int .i8 x, .int .i8 y]] w fun e w' => e = .returned (.agg #[.int .i8 (x + 1), .int .i8 y]) ∧ Below w.heap.size w w' := ahead_any x y 1 w (by omega) (by omega) (by decide)
theorem ahead2 (x y : Int) (w : World) (hx : 0 ≤ x ∧ x ≤ 12) (hy : 0 ≤ y ∧ y ≤ 12) : Calls Tryd.prog 40 #[.int .i64 2, .agg #[.int .i8 x, .int .i8 y]] w fun e w' => e = .returned (.agg #[.int .i8 x, .int .i8 (y + 1)]) ∧ Below w.heap.size w w' := ahead_any x y 2 w (by omega) (by omega) (by decide)
theorem edE_n (x y : Int) : edE x y (x + 1) y = (x, y, x + 1, y) := by unfold edE; simp only [Prod.mk.injEq]; omega
theorem edE_w (x y : Int) : edE x y x (y + 1) = (x, y, x, y + 1) := by unfold edE; simp only [Prod.mk.injEq]; omega
theorem two_adds (G : Nat → Int) (L : List En) (x y : Int) : (if jb (gA G (x - 1) y) (gA G x y) then (if jb (gA G x (y - 1)) (gA G x y) then L ++ [(edE x y (x + 1) y, mm (gA G x (y - 1)) (gA G x y))] else L) ++ [(edE x y x (y + 1), mm (gA G (x - 1) y) (gA G x y))]
    else (if jb (gA G x (y - 1)) (gA G x y) then L ++ [(edE x y (x + 1) y, mm (gA G x (y - 1)) (gA G x y))] else L)) = L ++ cellE G x y := by
  unfold cellE nJ wJ nS wS
  rw [edE_n, edE_w]
  by_cases h1 : jb (gA G (x - 1) y) (gA G x y) <;> by_cases h2 : jb (gA G x (y - 1)) (gA G x y) <;> simp [h1, h2]
theorem one_add_length (G : Nat → Int) (L : List En) (x y : Int) : (if jb (gA G x (y - 1)) (gA G x y) then L ++ [(edE x y (x + 1) y, mm (gA G x (y - 1)) (gA G x y))] else L).length ≤ L.length + 1 := by
  split <;> simp

def JoPost (W H : Nat) (G : Nat → Int) (w : World) (e : Ending) (w' : World) : Prop :=
  Below w.heap.size w w' ∧ ∃ m, e = .returned (.map (some m)) ∧ w.heap.size ≤ m ∧ EMap w' m (jl W G (W * H))

theorem jointsOf_in (W H g n : Nat) (c : Nat → Int) (w : World) (hc : ∀ j, -128 ≤ c j ∧ c j ≤ 127) (hm : n ≤ 1048576) (hrow : w.rowIs g 105 (4 * n) (fun j => .int .i8 (c j))) (hv : Valid W H n c) :
    CallsIn Fence.wide 7 Tryd.prog 57 #[.agg #[.int .i8 (W : Int), .int .i8 (H : Int), .slice (some ⟨g, 0, none⟩) n n]] w (JoPost W H (gridN c n) w) := by
  have hro : Fence.wide.round = none := rfl
  have hW0 : 1 ≤ W := by have := hv.1; omega
  have hW : W ≤ 12 := by have := hv.2.1; omega
  have hH : H ≤ 12 := by have := hv.2.2.2.1; omega
  have hn60 : n ≤ 60 := hv.2.2.2.2.1
  have hWi : (W : Int) ≤ 12 := by omega
  have hHi : (H : Int) ≤ 12 := by omega
  have hsf : ∀ (a : Addr) (fn : Fn) (fi ca : Array Value) (W : World), (store a (.func fn fi ca)).run Tryd.prog W = stored Tryd.prog W a (.func fn fi ca) .plain := fun a fn fi ca W => run_store Tryd.prog W a _ _ rfl
  have HG8 := Lib.hid (gA_bd (c := c) hn60)
  have HC := Lib.hid hc
  clear hc
  refine callsIn_of_wp_marks Tryd.func57 rfl trivial ?_ hro
  simp only [Tryd.ntmps57, List.size_toArray, List.length_cons, List.length_nil, Nat.reduceAdd, Nat.reduceSub, Array.replicate_succ, Array.replicate_zero, List.push_toArray, List.append_toArray, List.nil_append, List.cons_append]
  have HQ := Sq.new w (W : Int) (H : Int) (.slice (some ⟨g, 0, none⟩) n n) 33
  have B := al (Below.refl w.heap.size w) (.cells #[.int .i8 (W : Int), .int .i8 (H : Int), .slice (some ⟨g, 0, none⟩) n n] 33)
  obtain ⟨lq, pq, qq, rq⟩ := id HQ
  gi_wp2_with (refine ⟨trivial, ?_⟩; gi_at_call 76; refine (callsIn_wide.2 (gridOf_any W H g n c _ HC.out hv (hrow.of_block (B.block _ hrow.lt)))).mono ?_)
  rintro e w3 ⟨hb, cs, rfl, hsz, hone, hcell⟩
  replace HQ := HQ.below hb
  replace B := nxt B hb
  clear hb lq pq qq rq
  have hG : (w3.alloc (.cells Tryd.zeroCells129 129)).heap[w3.heap.size]? = some (.cells Tryd.zeroCells129 129 (0, 0)) := heap_alloc_new w3 _
  have B4 := below_setRow (al B (.cells Tryd.zeroCells129 129)) B.size cs
  have R4 : ((w3.alloc (.cells Tryd.zeroCells129 129)).setRow w3.heap.size cs).rowIs w3.heap.size 129 144 (fun p => .int .i8 (gridN c n p)) := ⟨cs, setRow_heap _ _ _ _ _ _ hG, hsz, hcell⟩
  have HQ4 : Sq ((w3.alloc (.cells Tryd.zeroCells129 129)).setRow w3.heap.size cs) w.heap.size W H (.slice (some ⟨g, 0, none⟩) n n) := (HQ.alloc _).of_block (by rw [setRow_size]; exact Nat.le_refl _) (setRow_other _ _ _ _ (by have := HQ.1; omega))
  obtain ⟨W4, hW4⟩ : ∃ W4 : World, W4 = ((w3.alloc (.cells Tryd.zeroCells129 129)).setRow w3.heap.size cs) := ⟨_, rfl⟩
  have hs34 : w3.heap.size < W4.heap.size := by rw [hW4, setRow_size]; simp
  gi_wp2_with (first
    | (refine wpListIn_store_row rfl 129 (.tmp 3) (.tmp 8) rfl w3.heap.size cs rfl rfl 129 Tryd.zeroCells129 (heap_alloc_new w3 _) (by rw [infoGrid, hsz]) (by rw [zi_size, hsz]) hone ?_
       rw [← hW4] at B4 HQ4 R4 ⊢
       clear hW4 hG HQ B hcell
       have hmm := run_makeMap (P := Tryd.prog) 72 W4
       have M5 := EMap.new W4
       have R5 := R4.alloc (.map #[] 0)
       have HQ5 := HQ4.alloc (.map #[] 0)
       have B5 := al B4 (.map #[] 0)
       have s45 : W4.heap.size < (W4.alloc (.map #[] 0)).heap.size := by simp
       obtain ⟨m, hm0⟩ : ∃ m, m = W4.heap.size := ⟨_, rfl⟩
       obtain ⟨W5, hW5⟩ : ∃ W5 : World, W5 = W4.alloc (.map #[] 0) := ⟨_, rfl⟩
       rw [← hW5, ← hm0] at hmm M5
       rw [← hm0, ← hW5] at s45
       rw [← hm0] at hs34
       rw [← hW5] at R5 HQ5 B5
       have hwm : w.heap.size ≤ m := by rw [hm0]; exact B4.size
       clear hW5 hm0 R4 HQ4 B4
       obtain ⟨lq, pq, qq, rq⟩ := id HQ5))
  refine ⟨trivial, (whole_in Fence.wide 6 trivial hro _ _ _ _).mono ?_⟩
  rintro e w6 ⟨rfl, hb⟩
  have hs5 : W5.heap.size + 2 ≤ w6.heap.size := by have := hb.size; simp at this; omega
  have B6 := nxt (al (al B5 (.cells #[.map (some m)] 72)) (.cells #[(.func (.func 77) #[] #[.pointer (some ⟨w3.heap.size, 0, none⟩), .pointer (some ⟨W5.heap.size, 0, none⟩)])] 136)) hb
  have R6 := rowNext0 ((R5.alloc (.cells #[.map (some m)] 72)).alloc (.cells #[(.func (.func 77) #[] #[.pointer (some ⟨w3.heap.size, 0, none⟩), .pointer (some ⟨W5.heap.size, 0, none⟩)])] 136)) hb
  have M6 := ((M5.alloc (.cells #[.map (some m)] 72)).alloc (.cells #[(.func (.func 77) #[] #[.pointer (some ⟨w3.heap.size, 0, none⟩), .pointer (some ⟨W5.heap.size, 0, none⟩)])] 136)).of_block (hb.block m (by simp; omega))
  have J6 := ((Bx.new W5 #[.map (some m)] 72).alloc (.cells #[(.func (.func 77) #[] #[.pointer (some ⟨w3.heap.size, 0, none⟩), .pointer (some ⟨W5.heap.size, 0, none⟩)])] 136)).below hb
  have A6 : Bx w6 (W5.heap.size + 1) #[(.func (.func 77) #[] #[.pointer (some ⟨w3.heap.size, 0, none⟩), .pointer (some ⟨W5.heap.size, 0, none⟩)])] 136 := by
    have := (Bx.new (W5.alloc (.cells #[.map (some m)] 72)) #[(.func (.func 77) #[] #[.pointer (some ⟨w3.heap.size, 0, none⟩), .pointer (some ⟨W5.heap.size, 0, none⟩)])] 136).below hb
    rwa [World.size_alloc] at this
  clear hb lq pq qq rq hmm R5 HQ5 B5 M5
  gi_wp2_with (refine ⟨trivial, ?_⟩; gi_at_call 65; refine (cellsOf_in Fence.wide 6 trivial hro _ _ _ _ _).mono ?_; rintro e w' ⟨rfl, rfl⟩)
  obtain ⟨W0, hW0'⟩ : ∃ W0, w6.alloc (.cells #[.int .i8 0, .int .i8 0, .int .i8 (W : Int), .int .i8 (H : Int)] 105) = W0 := ⟨_, rfl⟩
  have B0 : Below w.heap.size w W0 := by rw [← hW0']; exact al B6 _
  have zs : Sl W0 w6.heap.size 0 0 W H := by rw [← hW0']; exact Sl.new w6 0 0 W H 105
  have hs0 : W0.heap.size = w6.heap.size + 1 := by rw [← hW0']; simp
  have R0 := R6.alloc (.cells #[.int .i8 0, .int .i8 0, .int .i8 (W : Int), .int .i8 (H : Int)] 105)
  have M0 := M6.alloc (.cells #[.int .i8 0, .int .i8 0, .int .i8 (W : Int), .int .i8 (H : Int)] 105)
  have J0 := J6.alloc (.cells #[.int .i8 0, .int .i8 0, .int .i8 (W : Int), .int .i8 (H : Int)] 105)
  have A0 := A6.alloc (.cells #[.int .i8 0, .int .i8 0, .int .i8 (W : Int), .int .i8 (H : Int)] 105)
  rw [hW0'] at R0 M0 J0 A0
  rw [hW0']
  clear hW0' R6 M6 J6 A6 B6
  have hmW : m < W0.heap.size := M0.lt
  have hm6 : w6.heap.size ≠ m := by omega
  have nR := M0.ne_row R0
  have nJ' := M0.ne_box J0
  have nA := M0.ne_box A0
  have hstops := cells_stops Fence.wide 6 trivial hro (by omega) w6.heap.size 0 0 W H (by omega) (by omega) W0 (by simpa using zs)
  refine wpIn_rangeFunc_ownH hro (by omega) (gf := 85) (lb := #[.pointer (some ⟨w6.heap.size, 0, none⟩)]) rfl trivial (enters_of Tryd.func85 (by kernel_rfl) rfl)
    hstops kpB_trans (kpB_put (by omega)) (Below.refl _ _) (fun _ => rfl)
    (fun pre W' => BeX m W0.heap.size W0 W' ∧ EMap W' m (eL (gridN c n) pre))
    (fun _ _ _ => False)
    (fun s X Y row hs hg hr => ⟨hs.1.trans ⟨hg.os, hg.tape, hg.output, hg.size, fun k hk _ => hg.block k (Nat.lt_of_lt_of_le hk hs.1.size) (fun e => by have := (hr k e.symm).1; omega)⟩,
      hs.2.of_block (hg.block m hs.2.lt (fun e => by have := (hr m e.symm).1; omega))⟩)
    (fun _ _ _ _ _ hs _ _ => hs)
    ⟨BeX.of_below (Below.refl W0.heap.size W0), M0⟩
    (fun x a' W' => ∃ Bx', W0.heap.size ≤ Bx' ∧ Bx W' Bx' #[.int .i8 (x.1.1 : Int), .int .i8 (x.1.2 : Int)] 35 ∧ a' = { tmps := #[.agg #[.int .i8 (W : Int), .int .i8 (H : Int), .slice (some ⟨g, 0, none⟩) n n], .pointer (some ⟨w.heap.size, 0, none⟩), .map none, .pointer (some ⟨w3.heap.size, 0, none⟩), .pointer (some ⟨W5.heap.size, 0, none⟩), .pointer (some ⟨W5.heap.size + 1, 0, none⟩), .pointer (some ⟨Bx', 0, none⟩), .agg #[.int .i8 (W : Int), .int .i8 (H : Int), .slice (some ⟨g, 0, none⟩) n n], .agg cs, .map (some m), .func (.func 77) #[] #[.pointer (some ⟨w3.heap.size, 0, none⟩), .pointer (some ⟨W5.heap.size, 0, none⟩)], .agg #[.int .i8 (W : Int), .int .i8 (H : Int), .slice (some ⟨g, 0, none⟩) n n], .agg #[.int .i8 0, .int .i8 0, .int .i8 (W : Int), .int .i8 (H : Int)], .func (.func 85) #[] #[.pointer (some ⟨w6.heap.size, 0, none⟩)], .agg #[.int .i8 (x.1.1 : Int), .int .i8 (x.1.2 : Int)], undef, undef, undef, undef, undef, undef, undef, undef, undef, undef, undef, undef, undef, undef, undef, undef, undef, undef, undef, undef, undef, undef, undef, undef, undef, undef, undef], defers := [] })
    (fun x a' _ X Y row hs hg hr => by obtain ⟨Bx', h1, h2, h3⟩ := hs; exact ⟨Bx', h1, cellsKept h2 hg (fun r e => (hr r e).2), h3⟩)
    ?assign ?body ?done ?stop
  case assign =>
    rintro l pre x W' K ⟨hB1, hM1⟩ hK
    dsimp only [encC]
    gi_wp2
    have hsW := hB1.size
    exact hK _ _ ((KeepsOthers.alloc _ _).from _) (kpB_below ((Below.refl _ W').alloc (Nat.le_refl _) _) (by omega)) ⟨hB1.trans (BeX.of_below ((Below.refl _ W').alloc (by omega) _)), hM1.alloc _⟩ ⟨W'.heap.size, hsW, Bx.new W' _ _, rfl⟩
  case body =>
    rintro l pre x a' W' hl hrr ⟨hB1, hM1⟩ ⟨Bx', hBx, hX, rfl⟩ hlt
    have hsW := hB1.size
    have hJ : JR w3.heap.size W5.heap.size (W5.heap.size + 1) m Bx' (x.1.1 : Int) (x.1.2 : Int) (gridN c n) (eL (gridN c n) pre) W' :=
      ⟨R0.of_block (hB1.block _ R0.lt nR), J0.of_block (hB1.block _ J0.lt nJ'), A0.of_block (hB1.block _ A0.lt nA), hM1, hX⟩
    have hWs : W0.heap.size ≤ W'.heap.size := hsW
    have hT := TR.refl m W0.heap.size W'
    have xx := x.2.1
    have xy := x.2.2
    have x1 : 0 ≤ (x.1.1 : Int) ∧ (x.1.1 : Int) ≤ 12 := by omega
    have x2 : 0 ≤ (x.1.2 : Int) ∧ (x.1.2 : Int) ≤ 12 := by omega
    have hpl : pre.length < 144 := by have := mul12 hW hH; omega
    have hl0 : (eL (gridN c n) pre).length < 1000 := by have := eL_length (gridN c n) pre; omega
    have hl1 : (if jb (gA (gridN c n) (x.1.1 : Int) ((x.1.2 : Int) - 1)) (gA (gridN c n) (x.1.1 : Int) (x.1.2 : Int)) then eL (gridN c n) pre ++ [(edE (x.1.1 : Int) (x.1.2 : Int) ((x.1.1 : Int) + 1) (x.1.2 : Int), mm (gA (gridN c n) (x.1.1 : Int) ((x.1.2 : Int) - 1)) (gA (gridN c n) (x.1.1 : Int) (x.1.2 : Int)))] else eL (gridN c n) pre).length < 1000 := by
      have := eL_length (gridN c n) pre
      have := one_add_length (gridN c n) (eL (gridN c n) pre) (x.1.1 : Int) (x.1.2 : Int)
      omega
    have h8n : Ed8 (edE (x.1.1 : Int) (x.1.2 : Int) ((x.1.1 : Int) + 1) (x.1.2 : Int)) := by rw [edE_n]; unfold Ed8; simp only []; omega
    have h8w : Ed8 (edE (x.1.1 : Int) (x.1.2 : Int) (x.1.1 : Int) ((x.1.2 : Int) + 1)) := by rw [edE_w]; unfold Ed8; simp only []; omega
    have HX1 := Lib.hid hl1
    have HL0 := Lib.hid hl0
    have e1 : IntKind.i8.wrap ((x.1.1 : Int) - 1) = (x.1.1 : Int) - 1 := IntWalk.i8_in _ (by omega)
    have e2 : IntKind.i8.wrap ((x.1.2 : Int) - 1) = (x.1.2 : Int) - 1 := IntWalk.i8_in _ (by omega)
    have cX0 := hJ.X.cell 0
    have cX1 := hJ.X.cell 1
    have cA := hJ.A.cell 0
    simp at cX0 cX1 cA
    clear hl0 hl1
    gi_wp2_with fail
    refine wp_region_held_round (S := fun w' => w'.cell? ⟨Bx', 0, none⟩ = some (.int .i8 (x.1.1 : Int)) ∧ w'.cell? ⟨Bx', 1, none⟩ = some (.int .i8 (x.1.2 : Int)) ∧ w'.cell? ⟨W5.heap.size + 1, 0, none⟩ = some (.func (.func 77) #[] #[.pointer (some ⟨w3.heap.size, 0, none⟩), .pointer (some ⟨W5.heap.size, 0, none⟩)])) (by kernel_rfl) (by kernel_rfl) (by rintro ⟨_, _, h⟩; exact h) ⟨cX0, cX1, cA⟩ (fun hHeld => ?_)
    refine wpAnyH_take (i := 0) (oi := _) (v := ?_) rfl (by kernel_rfl) (by kernel_rfl) (by kernel_rfl) (fun _ _ _ h => h) (Or.inl ⟨by kernel_rfl, ?_⟩) (by assumption) ?_
    rotate_left
    · intro w hSw; (try dsimp only at hSw); go_simp; first | done | with_reducible rfl
    try simp only [List.getElem_toArray, List.getElem_cons_zero, List.getElem_cons_succ, Act.put, List.setIfInBounds_toArray, List.set_cons_zero, List.set_cons_succ]
    refine wpAnyH_take (i := 1) (oi := _) (v := ?_) rfl (by kernel_rfl) (by kernel_rfl) (by kernel_rfl) (fun _ _ _ h => h) (Or.inl ⟨by kernel_rfl, ?_⟩) (by assumption) ?_
    rotate_left
    · intro w hSw; (try dsimp only at hSw); go_simp; first | done | with_reducible rfl
    try simp only [List.getElem_toArray, List.getElem_cons_zero, List.getElem_cons_succ, Act.put, List.setIfInBounds_toArray, List.set_cons_zero, List.set_cons_succ]
    refine wpAnyH_take (i := 2) (oi := _) (v := ?_) rfl (by kernel_rfl) (by kernel_rfl) (by kernel_rfl) (fun _ _ _ h => h) (Or.inl ⟨by kernel_rfl, ?_⟩) (by assumption) ?_
    rotate_left
    · intro w hSw; (try dsimp only at hSw); go_simp; first | done | with_reducible rfl
    try simp only [List.getElem_toArray, List.getElem_cons_zero, List.getElem_cons_succ, Act.put, List.setIfInBounds_toArray, List.set_cons_zero, List.set_cons_succ]
    refine wpAnyH_take (i := 3) (oi := _) (v := ?_) rfl (by kernel_rfl) (by kernel_rfl) (by kernel_rfl) (fun _ _ _ h => h) (Or.inl ⟨by kernel_rfl, ?_⟩) (by assumption) ?_
    rotate_left
    · intro w hSw; (try dsimp only at hSw); go_simp; first | done | with_reducible rfl
    try simp only [List.getElem_toArray, List.getElem_cons_zero, List.getElem_cons_succ, Act.put, List.setIfInBounds_toArray, List.set_cons_zero, List.set_cons_succ]
    refine wpAnyH_take (i := 4) (oi := _) (v := ?_) rfl (by kernel_rfl) (by kernel_rfl) (by kernel_rfl) (fun _ _ _ h => h) (Or.inl ⟨by kernel_rfl, ?_⟩) (by assumption) ?_
    rotate_left
    · intro w hSw; (try dsimp only at hSw); go_simp; first | done | with_reducible rfl
    try simp only [List.getElem_toArray, List.getElem_cons_zero, List.getElem_cons_succ, Act.put, List.setIfInBounds_toArray, List.set_cons_zero, List.set_cons_succ]
    refine wpAnyH_take (i := 5) (oi := _) (v := ?_) rfl (by kernel_rfl) (by kernel_rfl) (by kernel_rfl) (fun _ _ _ h => h) (Or.inl ⟨by kernel_rfl, ?_⟩) (by assumption) ?_
    rotate_left
    · intro w hSw; (try dsimp only at hSw); go_simp; first | done | with_reducible rfl
    try simp only [List.getElem_toArray, List.getElem_cons_zero, List.getElem_cons_succ, Act.put, List.setIfInBounds_toArray, List.set_cons_zero, List.set_cons_succ]
    refine wpAnyH_take (i := 6) (oi := _) (v := ?_) rfl (by kernel_rfl) (by kernel_rfl) (by kernel_rfl) (fun _ _ _ h => h) (Or.inl ⟨by kernel_rfl, ?_⟩) (by assumption) ?_
    rotate_left
    · intro w hSw; (try dsimp only at hSw); go_simp; first | done | with_reducible rfl
    try simp only [List.getElem_toArray, List.getElem_cons_zero, List.getElem_cons_succ, Act.put, List.setIfInBounds_toArray, List.set_cons_zero, List.set_cons_succ]
    refine wpAnyH_take (i := 7) (oi := _) (v := ?_) rfl (by kernel_rfl) (by kernel_rfl) (by kernel_rfl) (fun _ _ _ h => h) (Or.inl ⟨by kernel_rfl, ?_⟩) (by assumption) ?_
    rotate_left
    · intro w hSw; (try dsimp only at hSw); go_simp; first | done | with_reducible rfl
    try simp only [List.getElem_toArray, List.getElem_cons_zero, List.getElem_cons_succ, Act.put, List.setIfInBounds_toArray, List.set_cons_zero, List.set_cons_succ]
    refine wpAnyH_take (i := 8) (oi := _) (v := ?_) rfl (by kernel_rfl) (by kernel_rfl) (by kernel_rfl) (fun _ _ _ h => h) (Or.inl ⟨by kernel_rfl, ?_⟩) (by assumption) ?_
    rotate_left
    · intro w hSw; (try dsimp only at hSw); go_simp; first | done | with_reducible rfl
    try simp only [List.getElem_toArray, List.getElem_cons_zero, List.getElem_cons_succ, Act.put, List.setIfInBounds_toArray, List.set_cons_zero, List.set_cons_succ]
    refine wpAnyH_take (i := 9) (oi := _) (v := ?_) rfl (by kernel_rfl) (by kernel_rfl) (by kernel_rfl) (fun _ _ _ h => h) (Or.inl ⟨by kernel_rfl, ?_⟩) (by assumption) ?_
    rotate_left
    · intro w hSw; (try dsimp only at hSw); go_simp; first | done | with_reducible rfl
    try simp only [List.getElem_toArray, List.getElem_cons_zero, List.getElem_cons_succ, Act.put, List.setIfInBounds_toArray, List.set_cons_zero, List.set_cons_succ]
    refine wpAnyH_ready (rs := [10]) (by kernel_rfl) (by simp) ?_
    refine AllReadyH.cons (o := _) rfl (fun K hK => ?_) AllReadyH.nil
    go_simp
    refine (ahead1 (x.1.1 : Int) (x.1.2 : Int) _ x1 x2).mono ?_
    rintro e w7 ⟨rfl, hb⟩
    replace hT := (hT.drew hWs).below hWs hb
    replace hJ := hJ.drew.below hb
    clear hb
    clear cX0 cX1 cA
    have cX0 := hJ.X.cell 0
    have cX1 := hJ.X.cell 1
    have cA := hJ.A.cell 0
    simp at cX0 cX1 cA
    refine hK.out _ _ ⟨cX0, cX1, cA⟩ (fun hHeld => ?_)
    clear hK K
    try simp only [List.getElem_toArray, List.getElem_cons_zero, List.getElem_cons_succ, Act.put, List.setIfInBounds_toArray, List.set_cons_zero, List.set_cons_succ]
    refine wpAnyH_ready (rs := [11]) (by kernel_rfl) (by simp) ?_
    refine AllReadyH.cons (o := _) rfl (fun K hK => ?_) AllReadyH.nil
    go_simp
    refine (edge_any (x.1.1 : Int) (x.1.2 : Int) ((x.1.1 : Int) + 1) (x.1.2 : Int) _).mono ?_
    rintro e w7 ⟨rfl, hb⟩
    replace hT := hT.below hWs hb
    replace hJ := hJ.below hb
    clear hb
    clear cX0 cX1 cA
    have cX0 := hJ.X.cell 0
    have cX1 := hJ.X.cell 1
    have cA := hJ.A.cell 0
    simp at cX0 cX1 cA
    refine hK.out _ _ ⟨cX0, cX1, cA⟩ (fun hHeld => ?_)
    clear hK K
    try simp only [List.getElem_toArray, List.getElem_cons_zero, List.getElem_cons_succ, Act.put, List.setIfInBounds_toArray, List.set_cons_zero, List.set_cons_succ]
    refine wpAnyH_ready (rs := [12]) (by kernel_rfl) (by simp) ?_
    refine AllReadyH.cons (o := _) rfl (fun K hK => ?_) AllReadyH.nil
    go_simp
    refine (add_any w3.heap.size W5.heap.size m _ (gridN c n) (x.1.1 : Int) ((x.1.2 : Int) - 1) (x.1.1 : Int) (x.1.2 : Int) _ _ hJ.R HG8.out h8n hJ.J hJ.M HL0.out).mono ?_
    rintro e w7 ⟨rfl, hp⟩
    replace hT := hT.add hWs hmW ⟨rfl, hp⟩
    replace hJ := hJ.step ⟨rfl, hp⟩
    clear hp
    clear cX0 cX1 cA
    have cX0 := hJ.X.cell 0
    have cX1 := hJ.X.cell 1
    have cA := hJ.A.cell 0
    simp at cX0 cX1 cA
    refine hK.out _ _ ⟨cX0, cX1, cA⟩ (fun hHeld => ?_)
    clear hK K
    try simp only [List.getElem_toArray, List.getElem_cons_zero, List.getElem_cons_succ, Act.put, List.setIfInBounds_toArray, List.set_cons_zero, List.set_cons_succ]
    refine wpAnyH_done (by kernel_rfl) ?_ _
    gi_wp2_with fail
    refine wp_region_held_round (S := fun w' => w'.cell? ⟨Bx', 0, none⟩ = some (.int .i8 (x.1.1 : Int)) ∧ w'.cell? ⟨Bx', 1, none⟩ = some (.int .i8 (x.1.2 : Int)) ∧ w'.cell? ⟨W5.heap.size + 1, 0, none⟩ = some (.func (.func 77) #[] #[.pointer (some ⟨w3.heap.size, 0, none⟩), .pointer (some ⟨W5.heap.size, 0, none⟩)])) (by kernel_rfl) (by kernel_rfl) (by rintro ⟨_, _, h⟩; exact h) ⟨cX0, cX1, cA⟩ (fun hHeld => ?_)
    refine wpAnyH_take (i := 0) (oi := _) (v := ?_) rfl (by kernel_rfl) (by kernel_rfl) (by kernel_rfl) (fun _ _ _ h => h) (Or.inl ⟨by kernel_rfl, ?_⟩) (by assumption) ?_
    rotate_left
    · intro w hSw; (try dsimp only at hSw); go_simp; first | done | with_reducible rfl
    try simp only [List.getElem_toArray, List.getElem_cons_zero, List.getElem_cons_succ, Act.put, List.setIfInBounds_toArray, List.set_cons_zero, List.set_cons_succ]
    refine wpAnyH_take (i := 1) (oi := _) (v := ?_) rfl (by kernel_rfl) (by kernel_rfl) (by kernel_rfl) (fun _ _ _ h => h) (Or.inl ⟨by kernel_rfl, ?_⟩) (by assumption) ?_
    rotate_left
    · intro w hSw; (try dsimp only at hSw); go_simp; first | done | with_reducible rfl
    try simp only [List.getElem_toArray, List.getElem_cons_zero, List.getElem_cons_succ, Act.put, List.setIfInBounds_toArray, List.set_cons_zero, List.set_cons_succ]
    refine wpAnyH_take (i := 2) (oi := _) (v := ?_) rfl (by kernel_rfl) (by kernel_rfl) (by kernel_rfl) (fun _ _ _ h => h) (Or.inl ⟨by kernel_rfl, ?_⟩) (by assumption) ?_
    rotate_left
    · intro w hSw; (try dsimp only at hSw); go_simp; first | done | with_reducible rfl
    try simp only [List.getElem_toArray, List.getElem_cons_zero, List.getElem_cons_succ, Act.put, List.setIfInBounds_toArray, List.set_cons_zero, List.set_cons_succ]
    refine wpAnyH_take (i := 3) (oi := _) (v := ?_) rfl (by kernel_rfl) (by kernel_rfl) (by kernel_rfl) (fun _ _ _ h => h) (Or.inl ⟨by kernel_rfl, ?_⟩) (by assumption) ?_
    rotate_left
    · intro w hSw; (try dsimp only at hSw); go_simp; first | done | with_reducible rfl
    try simp only [List.getElem_toArray, List.getElem_cons_zero, List.getElem_cons_succ, Act.put, List.setIfInBounds_toArray, List.set_cons_zero, List.set_cons_succ]
    refine wpAnyH_take (i := 4) (oi := _) (v := ?_) rfl (by kernel_rfl) (by kernel_rfl) (by kernel_rfl) (fun _ _ _ h => h) (Or.inl ⟨by kernel_rfl, ?_⟩) (by assumption) ?_
    rotate_left
    · intro w hSw; (try dsimp only at hSw); go_simp; first | done | with_reducible rfl
    try simp only [List.getElem_toArray, List.getElem_cons_zero, List.getElem_cons_succ, Act.put, List.setIfInBounds_toArray, List.set_cons_zero, List.set_cons_succ]
    refine wpAnyH_take (i := 5) (oi := _) (v := ?_) rfl (by kernel_rfl) (by kernel_rfl) (by kernel_rfl) (fun _ _ _ h => h) (Or.inl ⟨by kernel_rfl, ?_⟩) (by assumption) ?_
    rotate_left
    · intro w hSw; (try dsimp only at hSw); go_simp; first | done | with_reducible rfl
    try simp only [List.getElem_toArray, List.getElem_cons_zero, List.getElem_cons_succ, Act.put, List.setIfInBounds_toArray, List.set_cons_zero, List.set_cons_succ]
    refine wpAnyH_take (i := 6) (oi := _) (v := ?_) rfl (by kernel_rfl) (by kernel_rfl) (by kernel_rfl) (fun _ _ _ h => h) (Or.inl ⟨by kernel_rfl, ?_⟩) (by assumption) ?_
    rotate_left
    · intro w hSw; (try dsimp only at hSw); go_simp; first | done | with_reducible rfl
    try simp only [List.getElem_toArray, List.getElem_cons_zero, List.getElem_cons_succ, Act.put, List.setIfInBounds_toArray, List.set_cons_zero, List.set_cons_succ]
    refine wpAnyH_take (i := 7) (oi := _) (v := ?_) rfl (by kernel_rfl) (by kernel_rfl) (by kernel_rfl) (fun _ _ _ h => h) (Or.inl ⟨by kernel_rfl, ?_⟩) (by assumption) ?_
    rotate_left
    · intro w hSw; (try dsimp only at hSw); go_simp; first | done | with_reducible rfl
    try simp only [List.getElem_toArray, List.getElem_cons_zero, List.getElem_cons_succ, Act.put, List.setIfInBounds_toArray, List.set_cons_zero, List.set_cons_succ]
    refine wpAnyH_take (i := 8) (oi := _) (v := ?_) rfl (by kernel_rfl) (by kernel_rfl) (by kernel_rfl) (fun _ _ _ h => h) (Or.inl ⟨by kernel_rfl, ?_⟩) (by assumption) ?_
    rotate_left
    · intro w hSw; (try dsimp only at hSw); go_simp; first | done | with_reducible rfl
    try simp only [List.getElem_toArray, List.getElem_cons_zero, List.getElem_cons_succ, Act.put, List.setIfInBounds_toArray, List.set_cons_zero, List.set_cons_succ]
    refine wpAnyH_take (i := 9) (oi := _) (v := ?_) rfl (by kernel_rfl) (by kernel_rfl) (by kernel_rfl) (fun _ _ _ h => h) (Or.inl ⟨by kernel_rfl, ?_⟩) (by assumption) ?_
    rotate_left
    · intro w hSw; (try dsimp only at hSw); go_simp; first | done | with_reducible rfl
    try simp only [List.getElem_toArray, List.getElem_cons_zero, List.getElem_cons_succ, Act.put, List.setIfInBounds_toArray, List.set_cons_zero, List.set_cons_succ]
    refine wpAnyH_ready (rs := [10]) (by kernel_rfl) (by simp) ?_
    refine AllReadyH.cons (o := _) rfl (fun K hK => ?_) AllReadyH.nil
    go_simp
    refine (ahead2 (x.1.1 : Int) (x.1.2 : Int) _ x1 x2).mono ?_
    rintro e w7 ⟨rfl, hb⟩
    replace hT := (hT.drew hWs).below hWs hb
    replace hJ := hJ.drew.below hb
    clear hb
    clear cX0 cX1 cA
    have cX0 := hJ.X.cell 0
    have cX1 := hJ.X.cell 1
    have cA := hJ.A.cell 0
    simp at cX0 cX1 cA
    refine hK.out _ _ ⟨cX0, cX1, cA⟩ (fun hHeld => ?_)
    clear hK K
    try simp only [List.getElem_toArray, List.getElem_cons_zero, List.getElem_cons_succ, Act.put, List.setIfInBounds_toArray, List.set_cons_zero, List.set_cons_succ]
    refine wpAnyH_ready (rs := [11]) (by kernel_rfl) (by simp) ?_
    refine AllReadyH.cons (o := _) rfl (fun K hK => ?_) AllReadyH.nil
    go_simp
    refine (edge_any (x.1.1 : Int) (x.1.2 : Int) (x.1.1 : Int) ((x.1.2 : Int) + 1) _).mono ?_
    rintro e w7 ⟨rfl, hb⟩
    replace hT := hT.below hWs hb
    replace hJ := hJ.below hb
    clear hb
    clear cX0 cX1 cA
    have cX0 := hJ.X.cell 0
    have cX1 := hJ.X.cell 1
    have cA := hJ.A.cell 0
    simp at cX0 cX1 cA
    refine hK.out _ _ ⟨cX0, cX1, cA⟩ (fun hHeld => ?_)
    clear hK K
    try simp only [List.getElem_toArray, List.getElem_cons_zero, List.getElem_cons_succ, Act.put, List.setIfInBounds_toArray, List.set_cons_zero, List.set_cons_succ]
    refine wpAnyH_ready (rs := [12]) (by kernel_rfl) (by simp) ?_
    refine AllReadyH.cons (o := _) rfl (fun K hK => ?_) AllReadyH.nil
    go_simp
    refine (add_any w3.heap.size W5.heap.size m _ (gridN c n) ((x.1.1 : Int) - 1) (x.1.2 : Int) (x.1.1 : Int) (x.1.2 : Int) _ _ hJ.R HG8.out h8w hJ.J hJ.M HX1.out).mono ?_
    rintro e w7 ⟨rfl, hp⟩
    replace hT := hT.add hWs hmW ⟨rfl, hp⟩
    replace hJ := hJ.step ⟨rfl, hp⟩
    clear hp
    clear cX0 cX1 cA
    have cX0 := hJ.X.cell 0
    have cX1 := hJ.X.cell 1
    have cA := hJ.A.cell 0
    simp at cX0 cX1 cA
    refine hK.out _ _ ⟨cX0, cX1, cA⟩ (fun hHeld => ?_)
    clear hK K
    try simp only [List.getElem_toArray, List.getElem_cons_zero, List.getElem_cons_succ, Act.put, List.setIfInBounds_toArray, List.set_cons_zero, List.set_cons_succ]
    refine wpAnyH_done (by kernel_rfl) ?_ _
    gi_wp2
    have hM := hJ.M
    rw [two_adds, ← eL_snoc] at hM
    exact ⟨hT.1, hT.2.kpB (by omega) hm6, hB1.trans hT.2, hM⟩
  case done =>
    rintro D zs' W' hD rfl ⟨hB1, hM1⟩ hK
    have cB := (J0.of_block (hB1.block _ J0.lt nJ')).cell 0
    simp at cB
    gi_wp2
    refine ⟨by simp, .inl ⟨_, _, rfl, run_takeDeferred hK, ?_⟩⟩
    have hlt := hM1.lt
    have hDm : D ≠ m := by omega
    refine ⟨.map (some m), results_tmp Tryd.results57 _ _ _, ?_, m, rfl, hwm, ?_⟩
    · exact (B0.trans (hB1.below B0.size hwm)).trans (belowK_b (w := w) (Nat.le_refl _) _ D _ _ (by have := B0.size; omega) hK rfl rfl)
    · have e := eL_all (G := gridN c n) hW hH (W * H) (Nat.le_refl _)
      rw [e] at hM1
      exact hM1.of_block ((grownBy_putObj' W' D (.deferred none)).block m hlt (fun e => by injection e with e; omega))
  case stop =>
    rintro D c pre W _ _ h _
    exact h.elim
theorem jointsOf_any (W H g n : Nat) (c : Nat → Int) (w : World) (hc : ∀ j, -128 ≤ c j ∧ c j ≤ 127) (hm : n ≤ 1048576) (hrow : w.rowIs g 105 (4 * n) (fun j => .int .i8 (c j))) (hv : Valid W H n c) :
    Calls Tryd.prog 57 #[.agg #[.int .i8 (W : Int), .int .i8 (H : Int), .slice (some ⟨g, 0, none⟩) n n]] w (JoPost W H (gridN c n) w) := callsIn_wide.1 (jointsOf_in W H g n c w hc hm hrow hv)
end Go.Proofs.YtmkcdelfgaogaaaDoor

namespace Go.Proofs.YtmkcdelfgaogaaaDoor
open Go Go.Extern.Rtype Go.ChangeShapes Go.WideShapes Go.ChangeAt Go.RowKit Go.Extern.Stop Go.Stop Go.Extern
set_option linter.unusedVariables false
set_option linter.unusedSimpArgs false
set_option maxRecDepth 100000
theorem is_typeOf (v : Value) (w : World) : (Extern.ReflectliteType.typeOf #[.iface 165 v]).run Tryd.prog w = .ok (.iface 153 (.agg #[.pointer (some ⟨4, 165, none⟩)])) w := by kernel_rfl
theorem is_comparable (w : World) : ((Extern.ReflectliteType.method fun t => do noPackHeld "Comparable" t; (fun a => Value.bool a.comparable) <$> typeInfo t) #[.agg #[.pointer (some ⟨4, 165, none⟩)]]).run Tryd.prog w = .ok (.bool true) w := by kernel_rfl
theorem is_methodComparable (v : Value) (w : World) : (Go.method 303 153 v "Comparable").run Tryd.prog w = .ok (112, v) w := by kernel_rfl
theorem is_comp : (Tryd.prog.info? 165).map (·.comparable) = some true := by kernel_rfl
theorem is_noIs (v : Value) (xT : TypeId) (w : World) : (Instr.typeAssert (.iface 165 v) xT 155 true).run Tryd.prog w = .ok (.tuple #[.nilIface, .bool false]) w := run_typeAssert_lacksB Tryd.underlying155 (by kernel_rfl) (by kernel_rfl) v xT w
theorem is_noUnwrap (v : Value) (xT : TypeId) (w : World) : (Instr.typeAssert (.iface 165 v) xT 158 true).run Tryd.prog w = .ok (.tuple #[.nilIface, .bool false]) w := run_typeAssert_lacksB Tryd.underlying158 (by kernel_rfl) (by kernel_rfl) v xT w
theorem is_noUnwraps (v : Value) (xT : TypeId) (w : World) : (Instr.typeAssert (.iface 165 v) xT 160 true).run Tryd.prog w = .ok (.tuple #[.nilIface, .bool false]) w := run_typeAssert_lacksB Tryd.underlying160 (by kernel_rfl) (by kernel_rfl) v xT w
theorem es_type : ∃ te j, Tryd.prog.underlying 165 = some (.pointer te) ∧ Tryd.prog.info? te = some j ∧ j.size ≠ 0 := by
  obtain ⟨te, hte⟩ : ∃ te, Tryd.prog.underlying 165 = some (.pointer te) := ⟨_, Tryd.underlying165⟩
  have h : ((Tryd.prog.underlying 165).bind fun u => match u with | .pointer te => (Tryd.prog.info? te).map (·.size) | _ => none) = some 1 := by kernel_rfl
  rw [hte] at h
  obtain ⟨j, hj, hs⟩ := Option.map_eq_some_iff.1 h
  exact ⟨te, j, hte, hj, by rw [hs]; decide⟩
theorem is_same (a : Addr) (w : World) :
    Calls Tryd.prog 58 #[.iface 165 (.pointer (some a)), .iface 165 (.pointer (some a))] w fun e w' => e = .returned (.bool true) ∧ w' = w := by
  obtain ⟨i, hi, hcmp⟩ := Option.map_eq_some_iff.1 is_comp
  obtain ⟨te, j, hte, hj, hjs⟩ := es_type
  have h8 := @run_callFunc_extern Tryd.prog 81 _ Extern.ReflectliteType.typeOf Tryd.func81 (by kernel_rfl) (by kernel_rfl) (by kernel_rfl) (by kernel_rfl)
  have h32 := @run_callFunc_extern Tryd.prog 112 _ (Extern.ReflectliteType.method fun t => do noPackHeld "Comparable" t; pure (.bool (← typeInfo t).comparable)) Tryd.func112 (by kernel_rfl) (by kernel_rfl) (by kernel_rfl) (by kernel_rfl)
  have tT := is_typeOf
  have cT := is_comparable
  have mR := is_methodComparable
  have heq := run_eql_iface_ptr_same (P := Tryd.prog) w a Tryd.underlying74 hte hi hcmp hj
  clear hte hj hjs hi hcmp
  go_enter Tryd.func58, Tryd.ntmps58
  go_wp2
  refine wp_loop_rounds 1 ?_
  rw [rounds_succ]
  go_wp2
  go_ret
  exact ⟨rfl, rfl⟩
theorem is_other (a b : Addr) (ca cb : Array Value) (ta tb : TypeId) (w : World) (hne : a ≠ b) (ha : w.heap[a.block]? = some (.cells ca ta (0, 0))) (hb : w.heap[b.block]? = some (.cells cb tb (0, 0))) :
    Calls Tryd.prog 58 #[.iface 165 (.pointer (some a)), .iface 165 (.pointer (some b))] w fun e w' => e = .returned (.bool false) ∧ w' = w := by
  obtain ⟨i, hi, hcmp⟩ := Option.map_eq_some_iff.1 is_comp
  obtain ⟨te, j, hte, hj, hjs⟩ := es_type
  have h8 := @run_callFunc_extern Tryd.prog 81 _ Extern.ReflectliteType.typeOf Tryd.func81 (by kernel_rfl) (by kernel_rfl) (by kernel_rfl) (by kernel_rfl)
  have h32 := @run_callFunc_extern Tryd.prog 112 _ (Extern.ReflectliteType.method fun t => do noPackHeld "Comparable" t; pure (.bool (← typeInfo t).comparable)) Tryd.func112 (by kernel_rfl) (by kernel_rfl) (by kernel_rfl) (by kernel_rfl)
  have tT := is_typeOf
  have cT := is_comparable
  have mR := is_methodComparable
  have nE := is_noIs
  have uE := is_noUnwrap
  have vE := is_noUnwraps
  have heq := run_eql_iface_ptr_other (P := Tryd.prog) w Tryd.underlying74 hte hi hcmp hj hjs hne ha hb
  clear hte hj hjs hi hcmp ha hb hne
  go_enter Tryd.func58, Tryd.ntmps58
  go_wp2
  refine wp_loop_rounds 1 ?_
  rw [rounds_succ]
  go_wp2
  go_ret
  exact ⟨rfl, rfl⟩
/-- the three sentinels that codeOf asks for. -/
structure Sent (W : World) (a0 a1 a2 : Addr) : Prop where
  c0 : W.cell? ⟨0, 0, none⟩ = some (.iface 165 (.pointer (some a0)))
  c1 : W.cell? ⟨1, 0, none⟩ = some (.iface 165 (.pointer (some a1)))
  c2 : W.cell? ⟨2, 0, none⟩ = some (.iface 165 (.pointer (some a2)))
  h0 : ∃ c t, W.heap[a0.block]? = some (.cells c t (0, 0))
  h1 : ∃ c t, W.heap[a1.block]? = some (.cells c t (0, 0))
  h2 : ∃ c t, W.heap[a2.block]? = some (.cells c t (0, 0))
  n01 : a0 ≠ a1
  n02 : a0 ≠ a2
  n12 : a1 ≠ a2
theorem cell_below {W W' : World} {a : Addr} {v : Value} (h : W.cell? a = some v) (hb : Below W.heap.size W W') : W'.cell? a = some v := (World.cell?_of_block (w := W) (hb.block _ (World.block_lt_of_cell? W a h))).trans h
theorem row_below {W W' : World} {b : Nat} (h : ∃ c t, W.heap[b]? = some (.cells c t (0, 0))) (hb : Below W.heap.size W W') : ∃ c t, W'.heap[b]? = some (.cells c t (0, 0)) := by
  obtain ⟨c, t, h⟩ := h
  exact ⟨c, t, (hb.block _ (Array.getElem?_eq_some_iff.1 h).1).trans h⟩
theorem Sent.below {W W' : World} {a0 a1 a2 : Addr} (h : Sent W a0 a1 a2) (hb : Below W.heap.size W W') : Sent W' a0 a1 a2 :=
  ⟨cell_below h.c0 hb, cell_below h.c1 hb, cell_below h.c2 hb, row_below h.h0 hb, row_below h.h1 hb, row_below h.h2 hb, h.n01, h.n02, h.n12⟩
theorem Sent.drew {W : World} {a0 a1 a2 : Addr} (h : Sent W a0 a1 a2) : Sent W.drew a0 a1 a2 := h.below (Below.refl _ _).drew
/-- codeOf's answers. -/
theorem codeOf0 (a0 a1 a2 : Addr) (w : World) (h : Sent w a0 a1 a2) : Calls Tryd.prog 35 #[.iface 165 (.pointer (some a0))] w fun e w' => e = .returned (.int .i64 1) ∧ Below w.heap.size w w' := by
  have c0 := h.c0
  obtain ⟨cs0, ts0, h0⟩ := h.h0
  obtain ⟨cs1, ts1, h1⟩ := h.h1
  obtain ⟨cs2, ts2, h2⟩ := h.h2
  have H0 := Lib.hid (is_same a0 w)
  clear h h0 h1 h2
  go_enter Tryd.func35, Tryd.ntmps35
  go_wp2_with fail
  refine H0.out.mono ?_
  rintro e w' ⟨rfl, rfl⟩
  go_wp2
  go_ret
  exact ⟨rfl, Below.refl _ _⟩
theorem codeOf1 (a0 a1 a2 : Addr) (w : World) (h : Sent w a0 a1 a2) : Calls Tryd.prog 35 #[.iface 165 (.pointer (some a1))] w fun e w' => e = .returned (.int .i64 2) ∧ Below w.heap.size w w' := by
  have c0 := h.c0
  have c1 := h.c1
  obtain ⟨cs0, ts0, h0⟩ := h.h0
  obtain ⟨cs1, ts1, h1⟩ := h.h1
  obtain ⟨cs2, ts2, h2⟩ := h.h2
  have H0 := Lib.hid (is_other a1 a0 _ _ _ _ w (Ne.symm h.n01) h1 h0)
  have H1 := Lib.hid (is_same a1 w)
  clear h h0 h1 h2
  go_enter Tryd.func35, Tryd.ntmps35
  go_wp2_with fail
  refine H0.out.mono ?_
  rintro e w' ⟨rfl, rfl⟩
  go_wp2_with fail
  refine H1.out.mono ?_
  rintro e w' ⟨rfl, rfl⟩
  go_wp2
  go_ret
  exact ⟨rfl, Below.refl _ _⟩
theorem codeOf2 (a0 a1 a2 : Addr) (w : World) (h : Sent w a0 a1 a2) : Calls Tryd.prog 35 #[.iface 165 (.pointer (some a2))] w fun e w' => e = .returned (.int .i64 3) ∧ Below w.heap.size w w' := by
  have c0 := h.c0
  have c1 := h.c1
  have c2 := h.c2
  obtain ⟨cs0, ts0, h0⟩ := h.h0
  obtain ⟨cs1, ts1, h1⟩ := h.h1
  obtain ⟨cs2, ts2, h2⟩ := h.h2
  have H0 := Lib.hid (is_other a2 a0 _ _ _ _ w (Ne.symm h.n02) h2 h0)
  have H1 := Lib.hid (is_other a2 a1 _ _ _ _ w (Ne.symm h.n12) h2 h1)
  have H2 := Lib.hid (is_same a2 w)
  clear h h0 h1 h2
  go_enter Tryd.func35, Tryd.ntmps35
  go_wp2_with fail
  refine H0.out.mono ?_
  rintro e w' ⟨rfl, rfl⟩
  go_wp2_with fail
  refine H1.out.mono ?_
  rintro e w' ⟨rfl, rfl⟩
  go_wp2_with fail
  refine H2.out.mono ?_
  rintro e w' ⟨rfl, rfl⟩
  go_wp2
  go_ret
  exact ⟨rfl, Below.refl _ _⟩
theorem codeOf3 (a0 a1 a2 a3 : Addr) (w : World) (h : Sent w a0 a1 a2) (h3 : ∃ c t, w.heap[a3.block]? = some (.cells c t (0, 0))) (n0 : a0 ≠ a3) (n1 : a1 ≠ a3) (n2 : a2 ≠ a3) : Calls Tryd.prog 35 #[.iface 165 (.pointer (some a3))] w fun e w' => e = .returned (.int .i64 4) ∧ Below w.heap.size w w' := by
  have c0 := h.c0
  have c1 := h.c1
  have c2 := h.c2
  obtain ⟨cs0, ts0, h0⟩ := h.h0
  obtain ⟨cs1, ts1, h1⟩ := h.h1
  obtain ⟨cs2, ts2, h2⟩ := h.h2
  obtain ⟨cs3, ts3, h3⟩ := h3
  have H0 := Lib.hid (is_other a3 a0 _ _ _ _ w (Ne.symm n0) h3 h0)
  have H1 := Lib.hid (is_other a3 a1 _ _ _ _ w (Ne.symm n1) h3 h1)
  have H2 := Lib.hid (is_other a3 a2 _ _ _ _ w (Ne.symm n2) h3 h2)
  clear h h0 h1 h2 h3 n0 n1 n2
  go_enter Tryd.func35, Tryd.ntmps35
  go_wp2_with fail
  refine H0.out.mono ?_
  rintro e w' ⟨rfl, rfl⟩
  go_wp2_with fail
  refine H1.out.mono ?_
  rintro e w' ⟨rfl, rfl⟩
  go_wp2_with fail
  refine H2.out.mono ?_
  rintro e w' ⟨rfl, rfl⟩
  go_wp2
  go_ret
  exact ⟨rfl, Below.refl _ _⟩
end Go.Proofs.YtmkcdelfgaogaaaDoor

namespace Go.Proofs.YtmkcdelfgaogaaaDoor
open Go Go.ChangeShapes Go.WideShapes Go.ChangeAt Go.RowKit
set_option linter.unusedVariables false
set_option linter.unusedSimpArgs false
set_option maxRecDepth 100000
set_option maxHeartbeats 4000000

/-- k points that a slice holds. -/
def RdP (w : World) (A : Option Addr) (k : Nat) (px py : Nat → Int) : Prop :=
  0 < k → ∃ b off, A = some ⟨b, off, none⟩ ∧ b < w.heap.size ∧ ∀ j, j < k → w.cell? ⟨b, off + j * 2, none⟩ = some (.int .i8 (px j)) ∧ w.cell? ⟨b, off + j * 2 + 1, none⟩ = some (.int .i8 (py j))
theorem RdP.below {w w' : World} {A : Option Addr} {k : Nat} {px py : Nat → Int} (h : RdP w A k px py) (hb : Below w.heap.size w w') : RdP w' A k px py := fun h0 => by
  obtain ⟨b, off, e, hlt, hc⟩ := h h0
  exact ⟨b, off, e, Nat.lt_of_lt_of_le hlt hb.size, fun j hj => ⟨cell_below (hc j hj).1 hb, cell_below (hc j hj).2 hb⟩⟩
def ptB (X Y a b : Int) : Bool := decide (0 ≤ a) && decide (a ≤ X) && decide (0 ≤ b) && decide (b ≤ Y)
theorem ptB_iff (X Y a b : Int) : ptB X Y a b = true ↔ PtIn X Y a b := by unfold ptB PtIn; simp; omega
/-- are all points the square's? -/
def AllIn (X Y : Int) (k : Nat) (px py : Nat → Int) : Prop := ∀ j, j < k → PtIn X Y (px j) (py j)
/-- what jointsFor answers. -/
def JfPost (X Y : Int) (n k : Nat) (c px py : Nat → Int) (a0 a1 : Addr) (w : World) (e : Ending) (w' : World) : Prop :=
  Below w.heap.size w w' ∧ ((¬ Valid X Y n c ∧ e = .returned (.tuple #[.map none, .iface 165 (.pointer (some a0))])) ∨
    (Valid X Y n c ∧ ¬ AllIn X Y k px py ∧ e = .returned (.tuple #[.map none, .iface 165 (.pointer (some a1))])) ∨
    (Valid X Y n c ∧ AllIn X Y k px py ∧ ∃ m, e = .returned (.tuple #[.map (some m), .nilIface]) ∧ w.heap.size ≤ m ∧ EMap w' m (jl X.toNat (gridN c n) (X.toNat * Y.toNat))))

theorem jointsFor_any (X Y : Int) (g n : Nat) (c : Nat → Int) (A : Option Addr) (k cap : Nat) (px py : Nat → Int) (a0 a1 a2 : Addr) (w : World) (hX : -128 ≤ X ∧ X ≤ 127) (hY : -128 ≤ Y ∧ Y ≤ 127) (hc : ∀ j, -128 ≤ c j ∧ c j ≤ 127) (hm : n ≤ 1048576)
    (hrow : w.rowIs g 105 (4 * n) (fun j => .int .i8 (c j))) (hk : k ≤ 10000000) (hcap : k ≤ cap) (hP : RdP w A k px py) (hpx : ∀ j, -128 ≤ px j ∧ px j ≤ 127) (hpy : ∀ j, -128 ≤ py j ∧ py j ≤ 127) (hS : Sent w a0 a1 a2) :
    Calls Tryd.prog 34 #[.agg #[.int .i8 X, .int .i8 Y, .slice (some ⟨g, 0, none⟩) n n], .slice A k cap] w (JfPost X Y n k c px py a0 a1 w) := by
  have HC := Lib.hid hc
  have HPX := Lib.hid hpx
  have HPY := Lib.hid hpy
  clear hc hpx hpy
  go_enter Tryd.func34, Tryd.ntmps34
  go_wp2_with fail
  have HQ := Sq.new w X Y (.slice (some ⟨g, 0, none⟩) n n) 33
  have B := al (Below.refl w.heap.size w) (.cells #[.int .i8 X, .int .i8 Y, .slice (some ⟨g, 0, none⟩) n n] 33)
  refine (implValid_any X Y g n c _ hX hY HC.out hm (hrow.of_block (B.block _ hrow.lt))).mono ?_
  rintro e w1 ⟨hb, hcase⟩
  replace HQ := HQ.below hb
  replace B := nxt B hb
  clear hb
  have S1 := hS.below B
  rcases hcase with ⟨hv, rfl⟩ | ⟨hv, rfl⟩
  case inr =>
    have c0 := S1.c0
    have HV := Lib.hid hv
    clear hv
    go_wp2_with fail
    go_quiet (fail)
    go_wp2
    exact bodyPost_ret (results_tmp2 Tryd.results34 _ _ _) rfl ⟨below_drewN' B _, .inl ⟨HV.out, rfl⟩⟩
  obtain ⟨W, rfl⟩ : ∃ W : Nat, X = W := Int.eq_ofNat_of_zero_le (by have := hv.1; omega)
  obtain ⟨H, rfl⟩ : ∃ H : Nat, Y = H := Int.eq_ofNat_of_zero_le (by have := hv.2.2.1; omega)
  have hW : W ≤ 12 := by have := hv.2.1; omega
  have hH : H ≤ 12 := by have := hv.2.2.2.1; omega
  have HV := Lib.hid hv
  clear hv
  obtain ⟨lq, pq, qq, rq⟩ := id HQ
  go_wp2_with fail
  refine (corners_any (W : Int) (H : Int) _ _ (by omega) (by omega)).mono ?_
  rintro e w2 ⟨rfl, hb⟩
  replace HQ := HQ.below hb
  replace B := nxt B hb
  clear hb lq pq qq rq S1
  obtain ⟨lq, pq, qq, rq⟩ := id HQ
  go_wp2_with fail
  have X6 := Bx.new w2 #[.int .i8 ((W : Int) + 1), .int .i8 ((H : Int) + 1)] 96
  replace HQ := HQ.alloc (.cells #[.int .i8 ((W : Int) + 1), .int .i8 ((H : Int) + 1)] 96)
  replace B := al B (.cells #[.int .i8 ((W : Int) + 1), .int .i8 ((H : Int) + 1)] 96)
  obtain ⟨W0, hW0⟩ : ∃ W0 : World, W0 = w2.alloc (.cells #[.int .i8 ((W : Int) + 1), .int .i8 ((H : Int) + 1)] 96) := ⟨_, rfl⟩
  rw [← hW0] at X6 HQ B ⊢
  clear hW0 lq pq qq rq
  go_loopw [17] (fun t17 wr => ∃ i : Nat, i ≤ k ∧ t17 = .int .i64 i ∧ Below w.heap.size w wr ∧ Sq wr w.heap.size W H (.slice (some ⟨g, 0, none⟩) n n) ∧ Bx wr w2.heap.size #[.int .i8 ((W : Int) + 1), .int .i8 ((H : Int) + 1)] 96 ∧ ∀ j, j < i → PtIn W H (px j) (py j)) (fun t17 wr => k - (intOf t17).toNat)
  case atStart => exact ⟨0, by omega, by simp, B, HQ, X6, fun j hj => by omega⟩
  case round =>
    clear HQ X6 B
    obtain ⟨i, hi, rfl, B, HQ, X6, hall⟩ := hrel
    obtain ⟨wo, rfl⟩ : ∃ wo : World, wo = wr := ⟨_, rfl⟩
    have HA := Lib.hid hall
    clear hall
    by_cases hlt : i < k
    · have hli : (i : Int) < (k : Int) := by omega
      obtain ⟨b, off, rfl, hbl, hcell⟩ := hP.below B (by omega)
      obtain ⟨cx, cy⟩ := hcell i hlt
      obtain ⟨x, hx⟩ : ∃ x, px i = x := ⟨_, rfl⟩
      obtain ⟨y, hy⟩ : ∃ y, py i = y := ⟨_, rfl⟩
      have bx := HPX.out i
      have by' := HPY.out i
      rw [hx] at cx bx
      rw [hy] at cy by'
      obtain ⟨r, hr⟩ : ∃ r, r = ptB W H x y := ⟨_, rfl⟩
      have hr2 : r = true ↔ PtIn W H x y := by rw [hr]; exact ptB_iff _ _ _ _
      have HH := Lib.hid (fun WW => phas_any (W : Int) (H : Int) x y r WW (by omega) (by omega) bx by' hr2)
      have HR := Lib.hid hr2
      have hxy := Lib.hid (And.intro hx hy)
      have d0 := X6.cell 0
      have d1 := X6.cell 1
      simp at d0 d1
      have hcap' : (i : Int) < (cap : Int) := by omega
      have hlt6 := X6.lt
      clear hr hr2 hx hy hcell
      go_wp2_with fail
      refine (HH.out _).mono ?_
      rintro e w4 ⟨rfl, hb⟩
      replace HQ := (HQ.alloc (.cells #[.int .i8 x, .int .i8 y] 35)).below hb
      replace X6 := (X6.alloc (.cells #[.int .i8 x, .int .i8 y] 35)).below hb
      replace B := nxt (al B (.cells #[.int .i8 x, .int .i8 y] 35)) hb
      clear hb d0 d1 cx cy hlt6 hbl
      cases r with
      | false =>
        have c1 := (hS.below B).c1
        go_wp2_with fail
        go_quiet (fail)
        go_wp2
        refine bodyPost_ret (results_tmp2 Tryd.results34 _ _ _) rfl ⟨below_drewN' B _, .inr (.inl ⟨HV.out, fun h => ?_, rfl⟩)⟩
        have h2 := h i hlt
        rw [hxy.out.1, hxy.out.2] at h2
        exact absurd (HR.out.2 h2) (by decide)
      | true =>
        go_wp2
        refine ⟨⟨i + 1, by omega, by first | go_num | simp, B, HQ, X6, fun j hj => ?_⟩, by simp [intOf]; omega⟩
        by_cases e : j = i
        · subst e
          rw [hxy.out.1, hxy.out.2]
          exact HR.out.1 (by trivial)
        · exact HA.out j (by omega)
    · obtain rfl : i = k := by omega
      obtain ⟨lq, pq, qq, rq⟩ := id HQ
      go_wp2_with fail
      refine (jointsOf_any W H g n c _ HC.out hm (hrow.of_block (B.block _ hrow.lt)) HV.out).mono ?_
      rintro e w4 ⟨hb, m, rfl, hmw, hM⟩
      have hsz := B.size
      replace B := nxt B hb
      clear hb lq pq qq rq HQ X6
      go_wp2
      exact bodyPost_ret (results_tmp2 Tryd.results34 _ _ _) rfl ⟨B, .inr (.inr ⟨HV.out, HA.out, m, rfl, by omega, hM⟩)⟩
end Go.Proofs.YtmkcdelfgaogaaaDoor

namespace Go.Proofs.YtmkcdelfgaogaaaDoor
open Go Go.ChangeShapes Go.WideShapes Go.ChangeAt Go.RowKit
set_option linter.unusedVariables false
set_option linter.unusedSimpArgs false
set_option maxRecDepth 100000
set_option maxHeartbeats 4000000

theorem open_out {W H n : Nat} {c : Nat → Int} (hv : Valid W H n c) : OpenOut W H (gridN c n) := by
  intro x y h
  unfold gA
  split
  · rename_i hi
    obtain ⟨x', rfl⟩ := Int.eq_ofNat_of_zero_le hi.1
    obtain ⟨y', rfl⟩ := Int.eq_ofNat_of_zero_le hi.2.2.1
    simp only [Int.toNat_natCast]
    have hx : x' < 12 := by omega
    have hb := grid_nonneg c n (y' * 12 + x')
    refine Classical.byContradiction fun hne => ?_
    obtain ⟨i, hi'⟩ : ∃ i : Nat, gridN c n (y' * 12 + x') = (i : Int) + 1 := ⟨(gridN c n (y' * 12 + x') - 1).toNat, by omega⟩
    obtain ⟨h1, h2⟩ := grid_cov n hi'
    obtain ⟨hl, _, _⟩ := hv.2.2.2.2.2 i h1
    unfold lies at hl
    unfold cov at h2
    rw [(cell_div hx).1, (cell_div hx).2] at h2
    omega
  · rfl
theorem sj_negx (b : Nat) (x y : Int) (a : Bool) (w : World) (hx : x < 0) :
    Calls Tryd.prog 61 #[.pointer (some ⟨b, 0, none⟩), .int .i8 x, .int .i8 y, .bool a] w fun e w' => e = .returned (.bool false) ∧ w' = w := by
  have d1 : decide (x < 0) = true := by simpa using hx
  go_enter Tryd.func61, Tryd.ntmps61
  go_wp2
  go_ret
  exact ⟨rfl, rfl⟩
theorem sj_negy (b : Nat) (x y : Int) (a : Bool) (w : World) (hx : 0 ≤ x) (hy : y < 0) :
    Calls Tryd.prog 61 #[.pointer (some ⟨b, 0, none⟩), .int .i8 x, .int .i8 y, .bool a] w fun e w' => e = .returned (.bool false) ∧ w' = w := by
  have d1 : decide (x < 0) = false := by simpa using hx
  have d2 : decide (y < 0) = true := by simpa using hy
  go_enter Tryd.func61, Tryd.ntmps61
  go_wp2
  go_ret
  exact ⟨rfl, rfl⟩
def SjPost (r : Bool) (w : World) (e : Ending) (w' : World) : Prop := e = .returned (.bool r) ∧ Below w.heap.size w w'
theorem same_post {P : Program} {f : Nat} {args : Array Value} {w : World} {r : Bool} (h : Calls P f args w fun e w' => e = .returned (.bool r) ∧ w' = w) : Calls P f args w (SjPost r w) :=
  h.mono fun e w' h => ⟨h.1, by rw [h.2]; exact Below.refl _ _⟩
theorem sjN_any (b : Nat) (x y : Int) (G : Nat → Int) (w : World) (hx : -1 ≤ x ∧ x ≤ 12) (hy : -1 ≤ y ∧ y ≤ 12) (hG : w.rowIs b 64 144 (fun p => .int .i64 (G p))) :
    Calls Tryd.prog 61 #[.pointer (some ⟨b, 0, none⟩), .int .i8 x, .int .i8 y, .bool true] w (SjPost (nJ G x y) w) := by
  unfold nJ
  by_cases h1 : x < 0
  · rw [gA_out (x := x) (y := y) (by omega), jb_zero']
    exact same_post (sj_negx b x y true w h1)
  by_cases h2 : y < 0
  · rw [gA_out (x := x) (y := y) (by omega), jb_zero']
    exact same_post (sj_negy b x y true w (by omega) h2)
  obtain ⟨x', rfl⟩ := Int.eq_ofNat_of_zero_le (show 0 ≤ x by omega)
  obtain ⟨y', rfl⟩ := Int.eq_ofNat_of_zero_le (show 0 ≤ y by omega)
  by_cases h3 : 12 ≤ x'
  · rw [gA_out (x := (x' : Int)) (y := (y' : Int)) (by omega), jb_zero']
    exact same_post (sj_out1 b x' y' true w h3 (by omega) (by omega))
  by_cases h4 : 12 ≤ y'
  · rw [gA_out (x := (x' : Int)) (y := (y' : Int)) (by omega), jb_zero']
    exact same_post (sj_out2 b x' y' true w (by omega) h4 (by omega))
  cases y' with
  | zero =>
    rw [gA_out (x := (x' : Int)) (y := ((0 : Nat) : Int) - 1) (by omega), jb_zero]
    exact same_post (sj_top b x' w (by omega))
  | succ m =>
    have e : (((m + 1 : Nat) : Int) - 1) = (m : Int) := by omega
    rw [e, gA_in G x' m (by omega) (by omega), gA_in G x' (m + 1) (by omega) (by omega)]
    exact sj_across b x' m G w (by omega) (by omega) hG
theorem sjW_any (b : Nat) (x y : Int) (G : Nat → Int) (w : World) (hx : -1 ≤ x ∧ x ≤ 12) (hy : -1 ≤ y ∧ y ≤ 12) (hG : w.rowIs b 64 144 (fun p => .int .i64 (G p))) :
    Calls Tryd.prog 61 #[.pointer (some ⟨b, 0, none⟩), .int .i8 x, .int .i8 y, .bool false] w (SjPost (wJ G x y) w) := by
  unfold wJ
  by_cases h1 : x < 0
  · rw [gA_out (x := x) (y := y) (by omega), jb_zero']
    exact same_post (sj_negx b x y false w h1)
  by_cases h2 : y < 0
  · rw [gA_out (x := x) (y := y) (by omega), jb_zero']
    exact same_post (sj_negy b x y false w (by omega) h2)
  obtain ⟨x', rfl⟩ := Int.eq_ofNat_of_zero_le (show 0 ≤ x by omega)
  obtain ⟨y', rfl⟩ := Int.eq_ofNat_of_zero_le (show 0 ≤ y by omega)
  by_cases h3 : 12 ≤ x'
  · rw [gA_out (x := (x' : Int)) (y := (y' : Int)) (by omega), jb_zero']
    exact same_post (sj_out1 b x' y' false w h3 (by omega) (by omega))
  by_cases h4 : 12 ≤ y'
  · rw [gA_out (x := (x' : Int)) (y := (y' : Int)) (by omega), jb_zero']
    exact same_post (sj_out2 b x' y' false w (by omega) h4 (by omega))
  cases x' with
  | zero =>
    rw [gA_out (x := ((0 : Nat) : Int) - 1) (y := (y' : Int)) (by omega), jb_zero]
    exact same_post (sj_left b y' w (by omega))
  | succ m =>
    have e : (((m + 1 : Nat) : Int) - 1) = (m : Int) := by omega
    rw [e, gA_in G m y' (by omega) (by omega), gA_in G (m + 1) y' (by omega) (by omega)]
    exact sj_down b y' m G w (by omega) (by omega) hG
/-- l06Edge. -/
theorem edgeS_any (b : Nat) (x y : Int) (way : Nat) (G : Nat → Int) (w : World) (hx : 0 ≤ x ∧ x ≤ 12) (hy : 0 ≤ y ∧ y ≤ 12) (hw : way < 4) (hG : w.rowIs b 64 144 (fun p => .int .i64 (G p))) :
    Calls Tryd.prog 39 #[.pointer (some ⟨b, 0, none⟩), .agg #[.int .i8 x, .int .i8 y], .int .i64 (way : Int)] w (SjPost (wayJ G x y way) w) := by
  have e1 : IntKind.i8.wrap (y - 1) = y - 1 := IntWalk.i8_in _ (by omega)
  have e3 : IntKind.i8.wrap (x - 1) = x - 1 := IntWalk.i8_in _ (by omega)
  have R := hG.alloc (.cells #[.int .i8 x, .int .i8 y] 35)
  have B := al (Below.refl w.heap.size w) (.cells #[.int .i8 x, .int .i8 y] 35)
  match way, hw with
  | 0, _ =>
    have H := Lib.hid (sjW_any b x (y - 1) G _ (by omega) (by omega) R)
    show Calls Tryd.prog 39 #[_, _, .int .i64 0] w (SjPost (wJ G x (y - 1)) w)
    go_enter Tryd.func39, Tryd.ntmps39
    go_wp2_with fail
    refine H.out.mono ?_
    rintro e w1 ⟨rfl, hb⟩
    replace B := nxt B hb
    clear hb H R
    go_wp2
    go_ret
    exact ⟨rfl, B⟩
  | 1, _ =>
    have H := Lib.hid (sjN_any b x y G _ (by omega) (by omega) R)
    show Calls Tryd.prog 39 #[_, _, .int .i64 1] w (SjPost (nJ G x y) w)
    go_enter Tryd.func39, Tryd.ntmps39
    go_wp2_with fail
    refine H.out.mono ?_
    rintro e w1 ⟨rfl, hb⟩
    replace B := nxt B hb
    clear hb H R
    go_wp2
    go_ret
    exact ⟨rfl, B⟩
  | 2, _ =>
    have H := Lib.hid (sjW_any b x y G _ (by omega) (by omega) R)
    show Calls Tryd.prog 39 #[_, _, .int .i64 2] w (SjPost (wJ G x y) w)
    go_enter Tryd.func39, Tryd.ntmps39
    go_wp2_with fail
    refine H.out.mono ?_
    rintro e w1 ⟨rfl, hb⟩
    replace B := nxt B hb
    clear hb H R
    go_wp2
    go_ret
    exact ⟨rfl, B⟩
  | 3, _ =>
    have H := Lib.hid (sjN_any b (x - 1) y G _ (by omega) (by omega) R)
    show Calls Tryd.prog 39 #[_, _, .int .i64 3] w (SjPost (nJ G (x - 1) y) w)
    go_enter Tryd.func39, Tryd.ntmps39
    go_wp2_with fail
    refine H.out.mono ?_
    rintro e w1 ⟨rfl, hb⟩
    replace B := nxt B hb
    clear hb H R
    go_wp2
    go_ret
    exact ⟨rfl, B⟩
/-- l06Next. -/
theorem nextS_any (x y : Int) (way : Nat) (w : World) (hx : -127 ≤ x ∧ x ≤ 126) (hy : -127 ≤ y ∧ y ≤ 126) (hw : way < 4) :
    Calls Tryd.prog 53 #[.agg #[.int .i8 x, .int .i8 y], .int .i64 (way : Int)] w fun e w' => e = .returned (.agg #[.int .i8 (stepX x way), .int .i8 (stepY y way)]) ∧ Below w.heap.size w w' := by
  have e1 : IntKind.i8.wrap (y - 1) = y - 1 := IntWalk.i8_in _ (by omega)
  have e2 : IntKind.i8.wrap (y + 1) = y + 1 := IntWalk.i8_in _ (by omega)
  have e3 : IntKind.i8.wrap (x - 1) = x - 1 := IntWalk.i8_in _ (by omega)
  have e4 : IntKind.i8.wrap (x + 1) = x + 1 := IntWalk.i8_in _ (by omega)
  match way, hw with
  | 0, _ =>
    show Calls Tryd.prog 53 #[_, .int .i64 0] w _
    go_enter Tryd.func53, Tryd.ntmps53
    go_wp2
    refine bodyPost_ret (v := .agg #[.int .i8 x, .int .i8 (y - 1)]) (by simp [results, Tryd.results53, go_sem]) rfl ⟨rfl, ?_⟩
    exact al (al (Below.refl _ _) _) _
  | 1, _ =>
    show Calls Tryd.prog 53 #[_, .int .i64 1] w _
    go_enter Tryd.func53, Tryd.ntmps53
    go_wp2
    refine bodyPost_ret (v := .agg #[.int .i8 (x + 1), .int .i8 y]) (by simp [results, Tryd.results53, go_sem]) rfl ⟨rfl, ?_⟩
    exact al (al (Below.refl _ _) _) _
  | 2, _ =>
    show Calls Tryd.prog 53 #[_, .int .i64 2] w _
    go_enter Tryd.func53, Tryd.ntmps53
    go_wp2
    refine bodyPost_ret (v := .agg #[.int .i8 x, .int .i8 (y + 1)]) (by simp [results, Tryd.results53, go_sem]) rfl ⟨rfl, ?_⟩
    exact al (al (Below.refl _ _) _) _
  | 3, _ =>
    show Calls Tryd.prog 53 #[_, .int .i64 3] w _
    go_enter Tryd.func53, Tryd.ntmps53
    go_wp2
    refine bodyPost_ret (v := .agg #[.int .i8 (x - 1), .int .i8 y]) (by simp [results, Tryd.results53, go_sem]) rfl ⟨rfl, ?_⟩
    exact al (al (Below.refl _ _) _) _
/-- l06Is. -/
theorem isS_any (X Y a b : Int) (v : Value) (bq : Nat) (r : Bool) (w : World) (hX : -128 ≤ X ∧ X ≤ 127) (hY : -128 ≤ Y ∧ Y ≤ 127) (ha : -128 ≤ a ∧ a ≤ 127) (hb : -128 ≤ b ∧ b ≤ 127) (hq : Sq w bq X Y v) (hr : r = true ↔ PtIn X Y a b) :
    Calls Tryd.prog 52 #[.pointer (some ⟨bq, 0, none⟩), .agg #[.int .i8 a, .int .i8 b]] w (SjPost r w) := by
  have wa : IntKind.i64.wrap a = a := IntWalk.i64_in _ (by omega)
  have wb : IntKind.i64.wrap b = b := IntWalk.i64_in _ (by omega)
  have wX : IntKind.i64.wrap X = X := IntWalk.i64_in _ (by omega)
  have wY : IntKind.i64.wrap Y = Y := IntWalk.i64_in _ (by omega)
  by_cases h1 : 0 ≤ a ∧ a ≤ X
  · by_cases h2 : 0 ≤ b ∧ b ≤ Y
    · obtain rfl : r = true := hr.2 ⟨h1.1, h1.2, h2.1, h2.2⟩
      clear hr
      go_enter Tryd.func52, Tryd.ntmps52
      go_wp2_with fail
      have X3 := C2.new w a b 35
      have X1 := hq.alloc (.cells #[.int .i8 a, .int .i8 b] 35)
      have B := al (Below.refl w.heap.size w) (.cells #[.int .i8 a, .int .i8 b] 35)
      obtain ⟨W0, hW0⟩ : ∃ W0 : World, W0 = w.alloc (.cells #[.int .i8 a, .int .i8 b] 35) := ⟨_, rfl⟩
      rw [← hW0] at X3 X1 B ⊢
      clear hW0 hq
      obtain ⟨l1, p1, q1, r1⟩ := X1
      obtain ⟨l3, p3, q3⟩ := X3
      go_quiet ((go_at_call 64; exact Calls.quiet_of_same (in_yes _ _ _ _ (by omega) (by omega))))
      go_wp2
      go_ret
      exact ⟨rfl, below_drewN' B _⟩
    · obtain rfl : r = false := by cases r; rfl; exact absurd ⟨(hr.1 rfl).2.2.1, (hr.1 rfl).2.2.2⟩ h2
      clear hr
      go_enter Tryd.func52, Tryd.ntmps52
      go_wp2_with fail
      have X3 := C2.new w a b 35
      have X1 := hq.alloc (.cells #[.int .i8 a, .int .i8 b] 35)
      have B := al (Below.refl w.heap.size w) (.cells #[.int .i8 a, .int .i8 b] 35)
      obtain ⟨W0, hW0⟩ : ∃ W0 : World, W0 = w.alloc (.cells #[.int .i8 a, .int .i8 b] 35) := ⟨_, rfl⟩
      rw [← hW0] at X3 X1 B ⊢
      clear hW0 hq
      obtain ⟨l1, p1, q1, r1⟩ := X1
      obtain ⟨l3, p3, q3⟩ := X3
      go_quiet ((first | (go_at_call 64; exact Calls.quiet_of_same (in_yes _ _ _ _ (by omega) (by omega))) | (go_at_call 64; exact Calls.quiet_of_same (in_no _ _ _ _ (by omega)))))
      go_wp2
      go_ret
      exact ⟨rfl, below_drewN' B _⟩
  · obtain rfl : r = false := by cases r; rfl; exact absurd ⟨(hr.1 rfl).1, (hr.1 rfl).2.1⟩ h1
    clear hr
    have h1' := Lib.hid h1
    go_enter Tryd.func52, Tryd.ntmps52
    go_wp2_with fail
    have X3 := C2.new w a b 35
    have X1 := hq.alloc (.cells #[.int .i8 a, .int .i8 b] 35)
    have B := al (Below.refl w.heap.size w) (.cells #[.int .i8 a, .int .i8 b] 35)
    obtain ⟨W0, hW0⟩ : ∃ W0 : World, W0 = w.alloc (.cells #[.int .i8 a, .int .i8 b] 35) := ⟨_, rfl⟩
    rw [← hW0] at X3 X1 B ⊢
    clear hW0 hq
    obtain ⟨l1, p1, q1, r1⟩ := X1
    obtain ⟨l3, p3, q3⟩ := X3
    go_quiet ((go_at_call 64; exact Calls.quiet_of_same (in_no _ _ _ _ (by omega))))
    go_wp2
    go_ret
    exact ⟨rfl, below_drewN' B _⟩
end Go.Proofs.YtmkcdelfgaogaaaDoor

namespace Go.Proofs.YtmkcdelfgaogaaaDoor
open Go Go.ChangeShapes Go.WideShapes Go.ChangeAt Go.RowKit
set_option linter.unusedVariables false
set_option linter.unusedSimpArgs false
set_option maxRecDepth 100000
set_option maxHeartbeats 4000000

/-- is a point the end of the edge of another one with a way? -/
def isE (ax ay bx by_ : Int) (k : Nat) : Prop := stepX ax k = bx ∧ stepY ay k = by_
theorem betw_at {G : Nat → Int} {ax ay bx by_ : Int} {k : Nat} (hk : k < 4) (h : ∀ j, j < k → ¬ isE ax ay bx by_ j) (he : isE ax ay bx by_ k) : betw G ax ay bx by_ = wayJ G ax ay k := by
  unfold isE stepX stepY at he
  unfold betw wayJ
  match k, hk with
  | 0, _ => simp at he; rw [if_pos (by omega)]; simp
  | 1, _ => simp at he; rw [if_neg (by omega), if_pos (by omega)]; simp
  | 2, _ => simp at he; rw [if_neg (by omega), if_neg (by omega), if_pos (by omega)]; simp
  | 3, _ => simp at he; rw [if_neg (by omega), if_neg (by omega), if_neg (by omega), if_pos (by omega)]; simp
theorem betw_no {G : Nat → Int} {ax ay bx by_ : Int} (h : ∀ j, j < 4 → ¬ isE ax ay bx by_ j) : betw G ax ay bx by_ = false := by
  have h0 := h 0 (by omega)
  have h1 := h 1 (by omega)
  have h2 := h 2 (by omega)
  have h3 := h 3 (by omega)
  unfold isE stepX stepY at h0 h1 h2 h3
  simp at h0 h1 h2 h3
  unfold betw
  rw [if_neg (by omega), if_neg (by omega), if_neg (by omega), if_neg (by omega)]

theorem betwS_any (b : Nat) (ax ay bx by_ : Int) (G : Nat → Int) (w : World) (hx : 0 ≤ ax ∧ ax ≤ 12) (hy : 0 ≤ ay ∧ ay ≤ 12) (hG : w.rowIs b 64 144 (fun p => .int .i64 (G p))) :
    Calls Tryd.prog 32 #[.pointer (some ⟨b, 0, none⟩), .agg #[.int .i8 ax, .int .i8 ay], .agg #[.int .i8 bx, .int .i8 by_]] w (SjPost (betw G ax ay bx by_) w) := by
  have HN := Lib.hid (fun k W hk => nextS_any ax ay k W (by omega) (by omega) hk)
  have HE := Lib.hid (fun k W hk hW => edgeS_any b ax ay k G W hx hy hk hW)
  have X4 := (C2.new w ax ay 35).alloc (.cells #[.int .i8 bx, .int .i8 by_] 35)
  have X5 := C2.new (w.alloc (.cells #[.int .i8 ax, .int .i8 ay] 35)) bx by_ 35
  have R := (hG.alloc (.cells #[.int .i8 ax, .int .i8 ay] 35)).alloc (.cells #[.int .i8 bx, .int .i8 by_] 35)
  have B := al (al (Below.refl w.heap.size w) (.cells #[.int .i8 ax, .int .i8 ay] 35)) (.cells #[.int .i8 bx, .int .i8 by_] 35)
  rw [World.size_alloc] at X5
  obtain ⟨W0, hW0⟩ : ∃ W0 : World, W0 = (w.alloc (.cells #[.int .i8 ax, .int .i8 ay] 35)).alloc (.cells #[.int .i8 bx, .int .i8 by_] 35) := ⟨_, rfl⟩
  rw [← hW0] at X4 X5 R B
  obtain ⟨rB, hrB⟩ : ∃ rB, rB = betw G ax ay bx by_ := ⟨_, rfl⟩
  rw [← hrB]
  have HRB := Lib.hid hrB
  clear hrB hG
  go_enter Tryd.func32, Tryd.ntmps32
  go_wp2_with fail
  rw [← hW0]
  clear hW0
  go_loopw [7] (fun t7 wr => ∃ k : Nat, k ≤ 4 ∧ t7 = .int .i64 k ∧ Below w.heap.size w wr ∧ C2 wr w.heap.size ax ay ∧ C2 wr (w.heap.size + 1) bx by_ ∧ wr.rowIs b 64 144 (fun p => .int .i64 (G p)) ∧ ∀ j, j < k → ¬ isE ax ay bx by_ j) (fun t7 _ => 4 - (intOf t7).toNat)
  case atStart => exact ⟨0, by omega, by simp, B, X4, X5, R, fun j hj => by omega⟩
  case round =>
    clear X4 X5 B R
    obtain ⟨k, hk, rfl, B, X4, X5, R, hno⟩ := hrel
    obtain ⟨wo, rfl⟩ : ∃ wo : World, wo = wr := ⟨_, rfl⟩
    have HNO := Lib.hid hno
    clear hno
    by_cases hlt : k < 4
    · have hki : (k : Int) < 4 := by omega
      obtain ⟨l4, p4, q4⟩ := id X4
      obtain ⟨l5, p5, q5⟩ := id X5
      obtain ⟨nx, hnx⟩ : ∃ nx, stepX ax k = nx := ⟨_, rfl⟩
      obtain ⟨ny, hny⟩ : ∃ ny, stepY ay k = ny := ⟨_, rfl⟩
      have HXY := Lib.hid (And.intro hnx hny)
      have HM := fun W => HN.out k W hlt
      rw [hnx, hny] at HM
      have HM' := Lib.hid HM
      clear HM hnx hny
      by_cases h1 : nx = bx
      · by_cases h2 : ny = by_
        · have hE : isE ax ay bx by_ k := ⟨HXY.out.1.trans h1, HXY.out.2.trans h2⟩
          have e : rB = wayJ G ax ay k := by rw [HRB.out]; exact betw_at hlt HNO.out hE
          have HEE := Lib.hid e
          have d1 : (nx == bx) = true := by simpa using h1
          have d2 : (ny == by_) = true := by simpa using h2
          clear h1 h2 e hE
          go_wp2_with fail
          refine wp_region_held_drew (S := fun w' => w'.cell? ⟨w.heap.size, 0, none⟩ = some (.int .i8 ax) ∧ w'.cell? ⟨w.heap.size, 1, none⟩ = some (.int .i8 ay) ∧ w'.cell? ⟨w.heap.size + 1, 0, none⟩ = some (.int .i8 bx) ∧ w'.cell? ⟨w.heap.size + 1, 1, none⟩ = some (.int .i8 by_)) (by kernel_rfl) ⟨p4, q4, p5, q5⟩ (fun hHeld => ?_)
          refine wpAnyH_take (i := 0) (oi := _) (v := ?_) rfl (by kernel_rfl) (by kernel_rfl) (by kernel_rfl) (fun _ _ _ h => h) (Or.inl ⟨by kernel_rfl, ?_⟩) (by assumption) ?_
          rotate_left
          · intro w hSw; (try dsimp only at hSw); go_simp; first | done | with_reducible rfl
          try simp only [List.getElem_toArray, List.getElem_cons_zero, List.getElem_cons_succ, Act.put, List.setIfInBounds_toArray, List.set_cons_zero, List.set_cons_succ]
          refine wpAnyH_take (i := 1) (oi := _) (v := ?_) rfl (by kernel_rfl) (by kernel_rfl) (by kernel_rfl) (fun _ _ _ h => h) (Or.inl ⟨by kernel_rfl, ?_⟩) (by assumption) ?_
          rotate_left
          · intro w hSw; (try dsimp only at hSw); go_simp; first | done | with_reducible rfl
          try simp only [List.getElem_toArray, List.getElem_cons_zero, List.getElem_cons_succ, Act.put, List.setIfInBounds_toArray, List.set_cons_zero, List.set_cons_succ]
          refine wpAnyH_take (i := 3) (oi := _) (v := ?_) rfl (by kernel_rfl) (by kernel_rfl) (by kernel_rfl) (fun _ _ _ h => h) (Or.inl ⟨by kernel_rfl, ?_⟩) (by assumption) ?_
          rotate_left
          · intro w hSw; (try dsimp only at hSw); go_simp; first | done | with_reducible rfl
          try simp only [List.getElem_toArray, List.getElem_cons_zero, List.getElem_cons_succ, Act.put, List.setIfInBounds_toArray, List.set_cons_zero, List.set_cons_succ]
          refine wpAnyH_ready (rs := [2]) (by kernel_rfl) (by simp) ?_
          refine AllReadyH.cons (o := _) rfl (fun K hK => ?_) AllReadyH.nil
          go_simp
          refine (HM'.out _).mono ?_
          rintro e w3 ⟨rfl, hb⟩
          replace X4 : C2 w3 _ _ _ := X4.of_block (w' := w3) (by have := hb.size; simpa using this) (hb.block _ X4.1)
          replace X5 : C2 w3 _ _ _ := X5.of_block (w' := w3) (by have := hb.size; simpa using this) (hb.block _ X5.1)
          replace R : w3.rowIs b _ _ _ := R.of_block (hb.block _ R.lt)
          replace B := nxt B.drew hb
          clear hb p4 q4 p5 q5 l4 l5
          obtain ⟨l4, p4, q4⟩ := id X4
          obtain ⟨l5, p5, q5⟩ := id X5
          refine hK.out _ _ ⟨p4, q4, p5, q5⟩ (fun hHeld => ?_)
          clear hK K
          try simp only [List.getElem_toArray, List.getElem_cons_zero, List.getElem_cons_succ, Act.put, List.setIfInBounds_toArray, List.set_cons_zero, List.set_cons_succ]
          refine wpAnyH_take (i := 4) (oi := _) (v := ?_) rfl (by kernel_rfl) (by kernel_rfl) (by kernel_rfl) (fun _ _ _ h => h) (Or.inl ⟨by kernel_rfl, ?_⟩) (by assumption) ?_
          rotate_left
          · intro w hSw; (try dsimp only at hSw); go_simp; first | done | with_reducible rfl
          try simp only [List.getElem_toArray, List.getElem_cons_zero, List.getElem_cons_succ, Act.put, List.setIfInBounds_toArray, List.set_cons_zero, List.set_cons_succ]
          refine wpAnyH_done (by kernel_rfl) ?_ _
          go_wp2_with fail
          refine (HE.out k _ hlt R).mono ?_
          rintro e w5 ⟨rfl, hb⟩
          replace B := nxt B hb
          clear hb X4 X5 R p4 q4 p5 q5
          go_wp2
          go_ret
          rw [HEE.out]
          exact ⟨rfl, B⟩
        · have HNE := Lib.hid (show ¬ (nx = bx ∧ ny = by_) from fun h => h2 h.2)
          have d1 : (nx == bx) = true := by simpa using h1
          have d2 : (ny == by_) = false := by simpa using h2
          clear h1 h2
          go_wp2_with fail
          refine wp_region_held_drew (S := fun w' => w'.cell? ⟨w.heap.size, 0, none⟩ = some (.int .i8 ax) ∧ w'.cell? ⟨w.heap.size, 1, none⟩ = some (.int .i8 ay) ∧ w'.cell? ⟨w.heap.size + 1, 0, none⟩ = some (.int .i8 bx) ∧ w'.cell? ⟨w.heap.size + 1, 1, none⟩ = some (.int .i8 by_)) (by kernel_rfl) ⟨p4, q4, p5, q5⟩ (fun hHeld => ?_)
          refine wpAnyH_take (i := 0) (oi := _) (v := ?_) rfl (by kernel_rfl) (by kernel_rfl) (by kernel_rfl) (fun _ _ _ h => h) (Or.inl ⟨by kernel_rfl, ?_⟩) (by assumption) ?_
          rotate_left
          · intro w hSw; (try dsimp only at hSw); go_simp; first | done | with_reducible rfl
          try simp only [List.getElem_toArray, List.getElem_cons_zero, List.getElem_cons_succ, Act.put, List.setIfInBounds_toArray, List.set_cons_zero, List.set_cons_succ]
          refine wpAnyH_take (i := 1) (oi := _) (v := ?_) rfl (by kernel_rfl) (by kernel_rfl) (by kernel_rfl) (fun _ _ _ h => h) (Or.inl ⟨by kernel_rfl, ?_⟩) (by assumption) ?_
          rotate_left
          · intro w hSw; (try dsimp only at hSw); go_simp; first | done | with_reducible rfl
          try simp only [List.getElem_toArray, List.getElem_cons_zero, List.getElem_cons_succ, Act.put, List.setIfInBounds_toArray, List.set_cons_zero, List.set_cons_succ]
          refine wpAnyH_take (i := 3) (oi := _) (v := ?_) rfl (by kernel_rfl) (by kernel_rfl) (by kernel_rfl) (fun _ _ _ h => h) (Or.inl ⟨by kernel_rfl, ?_⟩) (by assumption) ?_
          rotate_left
          · intro w hSw; (try dsimp only at hSw); go_simp; first | done | with_reducible rfl
          try simp only [List.getElem_toArray, List.getElem_cons_zero, List.getElem_cons_succ, Act.put, List.setIfInBounds_toArray, List.set_cons_zero, List.set_cons_succ]
          refine wpAnyH_ready (rs := [2]) (by kernel_rfl) (by simp) ?_
          refine AllReadyH.cons (o := _) rfl (fun K hK => ?_) AllReadyH.nil
          go_simp
          refine (HM'.out _).mono ?_
          rintro e w3 ⟨rfl, hb⟩
          replace X4 : C2 w3 _ _ _ := X4.of_block (w' := w3) (by have := hb.size; simpa using this) (hb.block _ X4.1)
          replace X5 : C2 w3 _ _ _ := X5.of_block (w' := w3) (by have := hb.size; simpa using this) (hb.block _ X5.1)
          replace R : w3.rowIs b _ _ _ := R.of_block (hb.block _ R.lt)
          replace B := nxt B.drew hb
          clear hb p4 q4 p5 q5 l4 l5
          obtain ⟨l4, p4, q4⟩ := id X4
          obtain ⟨l5, p5, q5⟩ := id X5
          refine hK.out _ _ ⟨p4, q4, p5, q5⟩ (fun hHeld => ?_)
          clear hK K
          try simp only [List.getElem_toArray, List.getElem_cons_zero, List.getElem_cons_succ, Act.put, List.setIfInBounds_toArray, List.set_cons_zero, List.set_cons_succ]
          refine wpAnyH_take (i := 4) (oi := _) (v := ?_) rfl (by kernel_rfl) (by kernel_rfl) (by kernel_rfl) (fun _ _ _ h => h) (Or.inl ⟨by kernel_rfl, ?_⟩) (by assumption) ?_
          rotate_left
          · intro w hSw; (try dsimp only at hSw); go_simp; first | done | with_reducible rfl
          try simp only [List.getElem_toArray, List.getElem_cons_zero, List.getElem_cons_succ, Act.put, List.setIfInBounds_toArray, List.set_cons_zero, List.set_cons_succ]
          refine wpAnyH_done (by kernel_rfl) ?_ _
          go_wp2_with fail
          refine ⟨⟨k + 1, by omega, by first | go_num | simp, B, X4, X5, R, fun j hj => ?_⟩, by simp [intOf]; omega⟩
          by_cases e : j = k
          · subst e
            intro he
            exact HNE.out ⟨HXY.out.1 ▸ he.1, HXY.out.2 ▸ he.2⟩
          · exact HNO.out j (by omega)
      · have HNE := Lib.hid (show ¬ (nx = bx ∧ ny = by_) from fun h => h1 h.1)
        have d1 : (nx == bx) = false := by simpa using h1
        clear h1
        go_wp2_with fail
        refine wp_region_held_drew (S := fun w' => w'.cell? ⟨w.heap.size, 0, none⟩ = some (.int .i8 ax) ∧ w'.cell? ⟨w.heap.size, 1, none⟩ = some (.int .i8 ay) ∧ w'.cell? ⟨w.heap.size + 1, 0, none⟩ = some (.int .i8 bx) ∧ w'.cell? ⟨w.heap.size + 1, 1, none⟩ = some (.int .i8 by_)) (by kernel_rfl) ⟨p4, q4, p5, q5⟩ (fun hHeld => ?_)
        refine wpAnyH_take (i := 0) (oi := _) (v := ?_) rfl (by kernel_rfl) (by kernel_rfl) (by kernel_rfl) (fun _ _ _ h => h) (Or.inl ⟨by kernel_rfl, ?_⟩) (by assumption) ?_
        rotate_left
        · intro w hSw; (try dsimp only at hSw); go_simp; first | done | with_reducible rfl
        try simp only [List.getElem_toArray, List.getElem_cons_zero, List.getElem_cons_succ, Act.put, List.setIfInBounds_toArray, List.set_cons_zero, List.set_cons_succ]
        refine wpAnyH_take (i := 1) (oi := _) (v := ?_) rfl (by kernel_rfl) (by kernel_rfl) (by kernel_rfl) (fun _ _ _ h => h) (Or.inl ⟨by kernel_rfl, ?_⟩) (by assumption) ?_
        rotate_left
        · intro w hSw; (try dsimp only at hSw); go_simp; first | done | with_reducible rfl
        try simp only [List.getElem_toArray, List.getElem_cons_zero, List.getElem_cons_succ, Act.put, List.setIfInBounds_toArray, List.set_cons_zero, List.set_cons_succ]
        refine wpAnyH_take (i := 3) (oi := _) (v := ?_) rfl (by kernel_rfl) (by kernel_rfl) (by kernel_rfl) (fun _ _ _ h => h) (Or.inl ⟨by kernel_rfl, ?_⟩) (by assumption) ?_
        rotate_left
        · intro w hSw; (try dsimp only at hSw); go_simp; first | done | with_reducible rfl
        try simp only [List.getElem_toArray, List.getElem_cons_zero, List.getElem_cons_succ, Act.put, List.setIfInBounds_toArray, List.set_cons_zero, List.set_cons_succ]
        refine wpAnyH_ready (rs := [2]) (by kernel_rfl) (by simp) ?_
        refine AllReadyH.cons (o := _) rfl (fun K hK => ?_) AllReadyH.nil
        go_simp
        refine (HM'.out _).mono ?_
        rintro e w3 ⟨rfl, hb⟩
        replace X4 : C2 w3 _ _ _ := X4.of_block (w' := w3) (by have := hb.size; simpa using this) (hb.block _ X4.1)
        replace X5 : C2 w3 _ _ _ := X5.of_block (w' := w3) (by have := hb.size; simpa using this) (hb.block _ X5.1)
        replace R : w3.rowIs b _ _ _ := R.of_block (hb.block _ R.lt)
        replace B := nxt B.drew hb
        clear hb p4 q4 p5 q5 l4 l5
        obtain ⟨l4, p4, q4⟩ := id X4
        obtain ⟨l5, p5, q5⟩ := id X5
        refine hK.out _ _ ⟨p4, q4, p5, q5⟩ (fun hHeld => ?_)
        clear hK K
        try simp only [List.getElem_toArray, List.getElem_cons_zero, List.getElem_cons_succ, Act.put, List.setIfInBounds_toArray, List.set_cons_zero, List.set_cons_succ]
        refine wpAnyH_take (i := 4) (oi := _) (v := ?_) rfl (by kernel_rfl) (by kernel_rfl) (by kernel_rfl) (fun _ _ _ h => h) (Or.inl ⟨by kernel_rfl, ?_⟩) (by assumption) ?_
        rotate_left
        · intro w hSw; (try dsimp only at hSw); go_simp; first | done | with_reducible rfl
        try simp only [List.getElem_toArray, List.getElem_cons_zero, List.getElem_cons_succ, Act.put, List.setIfInBounds_toArray, List.set_cons_zero, List.set_cons_succ]
        refine wpAnyH_done (by kernel_rfl) ?_ _
        go_wp2_with fail
        refine ⟨⟨k + 1, by omega, by first | go_num | simp, B, X4, X5, R, fun j hj => ?_⟩, by simp [intOf]; omega⟩
        by_cases e : j = k
        · subst e
          intro he
          exact HNE.out ⟨HXY.out.1 ▸ he.1, HXY.out.2 ▸ he.2⟩
        · exact HNO.out j (by omega)
    · obtain rfl : k = 4 := by omega
      have e : rB = false := by rw [HRB.out]; exact betw_no HNO.out
      go_wp2
      go_ret
      rw [e]
      exact ⟨rfl, B⟩
end Go.Proofs.YtmkcdelfgaogaaaDoor

namespace Go.Proofs.YtmkcdelfgaogaaaDoor
open Go Go.ChangeShapes Go.WideShapes Go.ChangeAt Go.RowKit
set_option linter.unusedVariables false
set_option linter.unusedSimpArgs false
set_option maxRecDepth 100000
set_option maxHeartbeats 4000000

/-- what l06Told answers. -/
def TdPost (X Y : Int) (n k : Nat) (c px py : Nat → Int) (fine : Bool) (w : World) (e : Ending) (w' : World) : Prop :=
  Below w.heap.size w w' ∧ ∃ cs : Array Value, cs.size = 144 ∧ cs.all (·.oneCell') = true ∧
    ((¬ Valid X Y n c ∧ e = .returned (.tuple #[.agg cs, .int .i64 1])) ∨ (Valid X Y n c ∧ ¬ (fine = true ∧ AllIn X Y k px py) ∧ e = .returned (.tuple #[.agg cs, .int .i64 2])) ∨
      (Valid X Y n c ∧ (fine = true ∧ AllIn X Y k px py) ∧ (∀ p, p < 144 → cs[p]? = some (.int .i64 (gridN c n p))) ∧ e = .returned (.tuple #[.agg cs, .int .i64 0])))
theorem told_results (tmps : Array Value) (W : World) (b : Nat) (code : Int) (cs : Array Value) (h2 : tmps.getD 6 undef = .pointer (some ⟨b, 0, none⟩)) (h3 : tmps.getD 7 undef = .int .i64 code)
    (hW : W.heap[b]? = some (.cells cs 64 (0, 0))) (hs : cs.size = 144) : (results Tryd.f31 tmps).run Tryd.prog W = .ok (.tuple #[.agg cs, .int .i64 code]) W := by
  rw [results_cell_tmp Tryd.results31, h2, h3]
  simp only [asAddr, Sem.run_pure, Result.andThen_ok, run_loadVar_row W b 64 64 cs (0, 0) _ hW Tryd.underlying64 rfl (by rw [info93, hs])]

theorem told_any (X Y : Int) (bq g n : Nat) (c : Nat → Int) (A : Option Addr) (k cap : Nat) (px py : Nat → Int) (fine : Bool) (w : World) (hX : -128 ≤ X ∧ X ≤ 127) (hY : -128 ≤ Y ∧ Y ≤ 127) (hc : ∀ j, -128 ≤ c j ∧ c j ≤ 127) (hm : n ≤ 1048576)
    (hq : Sq w bq X Y (.slice (some ⟨g, 0, none⟩) n n)) (hrow : w.rowIs g 105 (4 * n) (fun j => .int .i8 (c j))) (hk : k ≤ 10000000) (hcap : k ≤ cap) (hP : RdP w A k px py) (hpx : ∀ j, -128 ≤ px j ∧ px j ≤ 127) (hpy : ∀ j, -128 ≤ py j ∧ py j ≤ 127) :
    Calls Tryd.prog 31 #[.pointer (some ⟨bq, 0, none⟩), .slice A k cap, .bool fine] w (TdPost X Y n k c px py fine w) := by
  have HC := Lib.hid hc
  have HPX := Lib.hid hpx
  have HPY := Lib.hid hpy
  have B := al (Below.refl w.heap.size w) (.cells Tryd.zeroCells64 64)
  have hz := heap_alloc_new w (.cells Tryd.zeroCells64 64)
  have HL := lay_any X Y bq g n c (w.alloc (.cells Tryd.zeroCells64 64)) hX hY hc hm (hq.alloc _) (hrow.alloc _)
  have hsz0 : (w.alloc (.cells Tryd.zeroCells64 64)).heap.size = w.heap.size + 1 := by simp
  obtain ⟨W0, hW0⟩ : ∃ W0 : World, W0 = w.alloc (.cells Tryd.zeroCells64 64) := ⟨_, rfl⟩
  rw [← hW0] at B hz HL hsz0
  replace HL := Lib.hid HL
  clear hc hpx hpy hrow
  go_enter Tryd.func31, Tryd.ntmps31
  go_wp2_with fail
  rw [← hW0]
  clear hW0
  refine HL.out.mono ?_
  rintro e w1 ⟨hb, cs, hsz, hone, hcase⟩
  have hz1 : w1.heap[w.heap.size]? = some (.cells Tryd.zeroCells64 64 (0, 0)) := (hb.block _ (by omega)).trans hz
  replace B := nxt B hb
  have hs1 := B.size
  have hlt1 : w.heap.size < w1.heap.size := by have := hb.size; omega
  clear hb hz HL
  have H8 := Lib.hid (heap_alloc_new w1 (.cells Tryd.zeroCells64 64))
  have h8 := heap_alloc_new w1 (.cells Tryd.zeroCells64 64)
  have h6 : (w1.alloc (.cells Tryd.zeroCells64 64)).heap[w.heap.size]? = some (.cells Tryd.zeroCells64 64 (0, 0)) := (Below.heap_alloc w1 _ _ hlt1).trans hz1
  have B2 := al B (.cells Tryd.zeroCells64 64)
  obtain ⟨W1, hW1⟩ : ∃ W1 : World, W1 = w1.alloc (.cells Tryd.zeroCells64 64) := ⟨_, rfl⟩
  have hsz2 : W1.heap.size = w1.heap.size + 1 := by rw [hW1]; simp
  rw [← hW1] at h8 h6 B2
  have h8' := setRow_heap W1 w1.heap.size _ cs _ _ h8
  have h6' := (setRow_other W1 w1.heap.size w.heap.size cs (by omega)).trans h6
  have B3 := below_setRow B2 hs1 cs
  obtain ⟨W2, hW2⟩ : ∃ W2 : World, W2 = W1.setRow w1.heap.size cs := ⟨_, rfl⟩
  rw [← hW2] at h8' h6' B3
  have hsz3 : W2.heap.size = w1.heap.size + 1 := by rw [hW2, setRow_size]; exact hsz2
  rcases hcase with ⟨hv, hcell, rfl⟩ | ⟨hv, rfl⟩
  case inr =>
    rw [hW2, hW1] at h8' h6' B3
    have H8' := Lib.hid h8'
    have H6' := Lib.hid h6'
    clear h8 h8' h6' h6 hz1 hW2 hW1
    go_wp2_with (first
      | (refine wpList_store_row rfl 64 (.tmp 8) (.tmp 14) rfl w1.heap.size cs rfl rfl 64 Tryd.zeroCells64 H8.out (by rw [info93, hsz]) (by rw [zc_size, hsz]) hone ?_)
      | (refine wpList_load_row rfl 64 (.tmp 8) rfl w1.heap.size rfl 64 cs (0, 0) _ H8'.out Tryd.underlying64 rfl (by rw [info93, hsz]) ?_)
      | (refine wpList_store_row rfl 64 (.tmp 6) (.tmp 18) rfl w.heap.size cs rfl rfl 64 Tryd.zeroCells64 H6'.out (by rw [info93, hsz]) (by rw [zc_size, hsz]) hone ?_))
    exact bodyPost_ret (told_results _ _ w.heap.size 1 cs rfl rfl (setRow_heap _ _ _ _ _ _ H6'.out) hsz) rfl ⟨below_setRow B3 (Nat.le_refl _) _, cs, hsz, hone, .inl ⟨hv, rfl⟩⟩
  have H8' := Lib.hid h8'
  have H6' := Lib.hid h6'
  clear h8 h8' h6' h6 hz1
  have HV := Lib.hid hv
  have HCL := Lib.hid hcell
  have HS := Lib.hid (fun (a b : Int) (r : Bool) (W : World) (ha : -128 ≤ a ∧ a ≤ 127) (hb : -128 ≤ b ∧ b ≤ 127) (hq : Sq W bq X Y (.slice (some ⟨g, 0, none⟩) n n)) (hr : r = true ↔ PtIn X Y a b) => isS_any X Y a b _ bq r W hX hY ha hb hq hr)
  clear hv hcell
  go_wp2_with (first
      | (refine wpList_store_row rfl 64 (.tmp 8) (.tmp 14) rfl w1.heap.size cs rfl rfl 64 Tryd.zeroCells64 H8.out (by rw [info93, hsz]) (by rw [zc_size, hsz]) hone ?_))
  rw [← hW1, ← hW2]
  clear hW1 hW2 H8
  go_loopw [2, 10] (fun t2 t10 wr => ∃ (i : Nat) (f : Bool), i ≤ k ∧ t2 = .bool f ∧ t10 = .int .i64 i ∧ Below w.heap.size w wr ∧ Below W2.heap.size W2 wr ∧ (f = true ↔ fine = true ∧ ∀ j, j < i → PtIn X Y (px j) (py j))) (fun t2 t10 wr => k - (intOf t10).toNat)
  case atStart => exact ⟨0, fine, by omega, rfl, by simp, B3, Below.refl _ _, ⟨fun h => ⟨h, fun j hj => by omega⟩, fun h => h.1⟩⟩
  case round =>
    clear B3 B2 B
    obtain ⟨i, f, hi, rfl, rfl, B, BB, hf⟩ := hrel
    obtain ⟨wo, rfl⟩ : ∃ wo : World, wo = wr := ⟨_, rfl⟩
    have HF := Lib.hid hf
    have h8w : wo.heap[w1.heap.size]? = some (.cells cs 64 (0, 0)) := (BB.block _ (by omega)).trans H8'.out
    have h6w : wo.heap[w.heap.size]? = some (.cells Tryd.zeroCells64 64 (0, 0)) := (BB.block _ (by omega)).trans H6'.out
    have H8w := Lib.hid h8w
    have H6w := Lib.hid h6w
    have HQ := hq.below B
    clear hf h8w h6w
    by_cases hlt : i < k
    · have hli : (i : Int) < (k : Int) := by omega
      obtain ⟨b, off, rfl, hbl, hcell⟩ := hP.below B (by omega)
      obtain ⟨cx, cy⟩ := hcell i hlt
      obtain ⟨x, hx⟩ : ∃ x, px i = x := ⟨_, rfl⟩
      obtain ⟨y, hy⟩ : ∃ y, py i = y := ⟨_, rfl⟩
      have bx := HPX.out i
      have by' := HPY.out i
      rw [hx] at cx bx
      rw [hy] at cy by'
      obtain ⟨r, hr⟩ : ∃ r, r = ptB X Y x y := ⟨_, rfl⟩
      have hr2 : r = true ↔ PtIn X Y x y := by rw [hr]; exact ptB_iff _ _ _ _
      have HH := Lib.hid (fun WW hqq => HS.out x y r WW bx by' hqq hr2)
      have HR := Lib.hid hr2
      have hxy := Lib.hid (And.intro hx hy)
      have hcap' : (i : Int) < (cap : Int) := by omega
      clear hr hr2 hx hy hcell
      cases f with
      | false =>
        have hno := Lib.hid (show ¬ (fine = true ∧ ∀ j, j < i → PtIn X Y (px j) (py j)) from fun h => absurd (HF.out.2 h) (by decide))
        go_wp2_with fail
        exact ⟨⟨i + 1, false, by omega, rfl, by first | go_num | simp, B, BB, ⟨fun h => absurd h (by decide), fun h => absurd (show fine = true ∧ ∀ j, j < i → PtIn X Y (px j) (py j) from ⟨h.1, fun j hj => h.2 j (by omega)⟩) hno.out⟩⟩, by simp [intOf]; omega⟩
      | true =>
        have hyes := Lib.hid (HF.out.1 rfl)
        go_wp2_with fail
        refine (HH.out _ HQ).mono ?_
        rintro e w3 ⟨rfl, hb⟩
        replace B := nxt B hb
        replace BB := nxt BB hb
        clear hb cx cy
        go_wp2
        refine ⟨⟨i + 1, r, by omega, rfl, by first | go_num | simp, B, BB, ⟨fun h => ⟨hyes.out.1, fun j hj => ?_⟩, fun h => HR.out.2 ?_⟩⟩, by simp [intOf]; omega⟩
        · by_cases e : j = i
          · subst e
            rw [hxy.out.1, hxy.out.2]
            exact HR.out.1 h
          · exact hyes.out.2 j (by omega)
        · have h2 := h.2 i (by omega)
          rw [hxy.out.1, hxy.out.2] at h2
          exact h2
    · obtain rfl : i = k := by omega
      clear HQ
      cases f with
      | false =>
        go_wp2_with (first
          | (refine wpList_load_row rfl 64 (.tmp 8) rfl w1.heap.size rfl 64 cs (0, 0) _ H8w.out Tryd.underlying64 rfl (by rw [info93, hsz]) ?_)
          | (refine wpList_store_row rfl 64 (.tmp 6) (.tmp 36) rfl w.heap.size cs rfl rfl 64 Tryd.zeroCells64 H6w.out (by rw [info93, hsz]) (by rw [zc_size, hsz]) hone ?_))
        exact bodyPost_ret (told_results _ _ w.heap.size 2 cs rfl rfl (setRow_heap _ _ _ _ _ _ H6w.out) hsz) rfl ⟨below_setRow B (Nat.le_refl _) _, cs, hsz, hone, .inr (.inl ⟨HV.out, fun h => absurd (HF.out.2 h) (by decide), rfl⟩)⟩
      | true =>
        go_wp2_with (first
          | (refine wpList_load_row rfl 64 (.tmp 8) rfl w1.heap.size rfl 64 cs (0, 0) _ H8w.out Tryd.underlying64 rfl (by rw [info93, hsz]) ?_)
          | (refine wpList_store_row rfl 64 (.tmp 6) (.tmp 37) rfl w.heap.size cs rfl rfl 64 Tryd.zeroCells64 H6w.out (by rw [info93, hsz]) (by rw [zc_size, hsz]) hone ?_))
        exact bodyPost_ret (told_results _ _ w.heap.size 0 cs rfl rfl (setRow_heap _ _ _ _ _ _ H6w.out) hsz) rfl ⟨below_setRow B (Nat.le_refl _) _, cs, hsz, hone, .inr (.inr ⟨HV.out, HF.out.1 (by trivial), HCL.out, rfl⟩)⟩
end Go.Proofs.YtmkcdelfgaogaaaDoor
