/-
  The iterator of joints over numbers that are within their range. Conditions stand at each.
-/
import Derived.RangeFuncNested
import Derived.RangeFuncBound
import Derived.RangeFuncCalls
import Derived.RangeFuncLeaves
import Derived.Shelf.Abstract
import Derived.Shelf.RegionOpen
import Derived.WalkKit
import Derived.OwnWalkIn
import Derived.Maps.OwnIn
import Derived.TacticsInMore
import Derived.LoopNIn
import Derived.LoopIn
import Derived.Test.YtjeccdmhpbaabaaRows
import Derived.Test.YtjeccdmhpbaabaaNums
import Derived.Test.YtjeccdmhpbaabaaRow
import Derived.Test.YtjeccdmhpbaabaaSeqK
namespace Go.Proofs.Ytjeccdmhpbaabaa
open Go Go.ChangeShapes Go.WideShapes Go.ChangeAt Go.RowKit Go.Shelf
set_option linter.unusedVariables false
set_option linter.unusedSimpArgs false
set_option maxRecDepth 100000
set_option maxHeartbeats 2000000
attribute [local go_sem] Oper.semAt_some

/-- a number that is within its range. -/
abbrev I64 := { x : Int // (Lit.int .i64 x).wf = true }
def encW (x : I64) : Array Value := #[.int .i64 x.1]
theorem jtw (joint : Int) (c : Nat → Int) (m : Nat) : (Lit.int .i64 (jt joint c m)).wf = true := by
  unfold jt
  exact wrap64_wf _
def jtW (joint : Int) (c : Nat → Int) (m : Nat) : List I64 := (List.range m).map fun i => ⟨jt joint c i, jtw joint c i⟩
theorem jtW_length (joint : Int) (c : Nat → Int) (m : Nat) : (jtW joint c m).length = m := by simp [jtW]
theorem jtW_succ (joint : Int) (c : Nat → Int) (m : Nat) : jtW joint c (m + 1) = jtW joint c m ++ [⟨jt joint c m, jtw joint c m⟩] := by
  unfold jtW
  rw [List.range_succ, List.map_append]
  rfl
theorem jtW_val (joint : Int) (c : Nat → Int) (m : Nat) : (jtW joint c m).map (·.1) = jtL joint c m := by
  unfold jtW jtL
  rw [List.map_map]
  rfl

/-- the blocks below N0, and two more. -/
def Sx (N0 b1 b2 k : Nat) : Prop := k < N0 ∨ k = b1 ∨ k = b2
/-- what the rounds keep. -/
def KpS (S : Nat → Prop) (W W' : World) : Prop := W.heap.size ≤ W'.heap.size ∧ ∀ k, S k → W'.heap[k]? = W.heap[k]?
theorem kpS_trans {S : Nat → Prop} {A B C : World} (h : KpS S A B) (k : KpS S B C) : KpS S A C := ⟨Nat.le_trans h.1 k.1, fun j hj => (k.2 j hj).trans (h.2 j hj)⟩
theorem kpS_put {S : Nat → Prop} {N : Nat} (hb : ∀ k, S k → k < N) (W : World) (l : Nat) (o o' : Obj) (hl : N ≤ l) (h : W.heap[l]? = some o) (_ : o.isCells = false) (_ : o.isWalk = false) : KpS S W (W.putObj l o') := by
  have hg := grownBy_putObj' W l o'
  have hlt := (Array.getElem?_eq_some_iff.1 h).1
  exact ⟨hg.size, fun k hk => hg.block k (by have := hb k hk; omega) (fun e => by injection e; have := hb k hk; omega)⟩
theorem kpS_below {S : Nat → Prop} {B : Nat} {W W' : World} (h : Below B W W') (hb : ∀ k, S k → k < B) : KpS S W W' := ⟨h.size, fun k hk => h.block k (hb k hk)⟩
theorem kpS_refl (S : Nat → Prop) (W : World) : KpS S W W := ⟨Nat.le_refl _, fun _ _ => rfl⟩
theorem kpS_grown {S : Nat → Prop} {W W' : World} {row : Option Nat} (hg : W.grownBy W' row) (hb : ∀ k, S k → k < W.heap.size ∧ some k ≠ row) : KpS S W W' := ⟨hg.size, fun k hk => hg.block k (hb k hk).1 (hb k hk).2⟩
/-- the two boxes of an iterator of joints, and its row. -/
def JG (N0 b1 b2 : Nat) (A : Option Addr) (n cap : Nat) (c : Nat → Int) (joint : Int) (W : World) : Prop :=
  W.cell? ⟨b1, 0, none⟩ = some (.slice A n cap) ∧ W.cell? ⟨b2, 0, none⟩ = some (.int .i64 joint) ∧ RdK .i64 W N0 A n c
theorem JG.kp {N0 b1 b2 : Nat} {A : Option Addr} {n cap : Nat} {c : Nat → Int} {joint : Int} {W W' : World} (h : JG N0 b1 b2 A n cap c joint W) (hk : KpS (Sx N0 b1 b2) W W') : JG N0 b1 b2 A n cap c joint W' := by
  refine ⟨(World.cell?_of_block (w := W) (hk.2 b1 (.inr (.inl rfl)))).trans h.1, (World.cell?_of_block (w := W) (hk.2 b2 (.inr (.inr rfl)))).trans h.2.1, fun h0 => ?_⟩
  obtain ⟨b, off, e, hb, hc⟩ := h.2.2 h0
  exact ⟨b, off, e, hb, fun j hj => (World.cell?_of_block (w := W) (hk.2 b (.inl hb))).trans (hc j hj)⟩
/-- what jointsIn leaves. -/
theorem JG.new (w : World) (N0 : Nat) (A : Option Addr) (n cap : Nat) (c : Nat → Int) (joint : Int) (hN : N0 ≤ w.heap.size) (R : RdK .i64 w N0 A n c) :
    JG N0 w.heap.size (w.heap.size + 1) A n cap c joint ((w.alloc (.cells #[.slice A n cap] 29)).alloc (.cells #[.int .i64 joint] 2)) := by
  refine ⟨?_, ?_, (R.below ((al (al (Below.refl _ _) _) _).mono hN))⟩
  · rw [cell_of_row _ _ 0 _ _ _ ((Below.heap_alloc _ _ _ (by simp)).trans (heap_alloc_new w _))]
    rfl
  · have := heap_alloc_new (w.alloc (.cells #[.slice A n cap] 29)) (.cells #[.int .i64 joint] 2)
    rw [World.size_alloc] at this
    rw [cell_of_row _ _ 0 _ _ _ this]
    rfl

theorem joints1W_in (F : Fence) (q : Nat) (hF : F.fn 164) (hro : F.round = none) (hq : 1 ≤ q) (l N0 b1 b2 : Nat) (A : Option Addr) (n cap : Nat) (c : Nat → Int) (joint : Int) (h1 : 1 ≤ n) (h60 : n ≤ 60) (hcap : n ≤ cap) (J Jx : List I64 → World → Prop)
    (hY : ∀ pre x W, J pre W → pre.length < n - 1 → YieldAt F (q - 1) Try.prog l (encW x) W fun e W' =>
      (e = .returned (.bool true) ∧ J (pre ++ [x]) W' ∧ KpS (Sx N0 b1 b2) W W') ∨ (e = .returned (.bool false) ∧ Jx (pre ++ [x]) W'))
    (W : World) (hS : JG N0 b1 b2 A n cap c joint W) (h0 : J [] W) :
    CallsIn F q Try.prog 164 #[.func (.yield l) #[] #[], .pointer (some ⟨b1, 0, none⟩), .pointer (some ⟨b2, 0, none⟩)] W fun e W' => (∃ v, e = .returned v) ∧
      ((∃ ys, ys = jtW joint c (n - 1) ∧ J ys W') ∨ (∃ pre, (∃ k, k ≤ n - 1 ∧ pre = jtW joint c k) ∧ Jx pre W')) := by
  obtain ⟨c1, c2, R⟩ := id hS
  have q1 : IntKind.i64.wrap ((n : Int) - 1) = (n : Int) - 1 := IntWalk.i64_in _ (by omega)
  have q2 : ((n : Int) - 1).toNat = n - 1 := by omega
  have q3 : 0 ≤ (n : Int) - 1 := by omega
  have q4 : (n : Int) - 1 ≤ (cap : Int) := by omega
  have q5 : ((n - 1 : Nat) : Int) = (n : Int) - 1 := by omega
  have HQ5 := Lib.hid q5
  clear q5 R
  refine callsIn_of_wp Try.func164 rfl hF ?_ hro
  simp only [Try.ntmps164, List.size_toArray, List.length_cons, List.length_nil, Nat.reduceAdd, Nat.reduceSub, Array.replicate_succ, Array.replicate_zero, List.push_toArray, List.append_toArray, List.nil_append, List.cons_append]
  gi_wp2
  clear c1 c2
  gi_loopw [4, 13] (fun t4 t13 wr => ∃ m : Nat, m ≤ n - 1 ∧ t13 = .int .i64 m ∧ t4 = .int .i64 (jp joint c m) ∧ J (jtW joint c m) wr ∧ JG N0 b1 b2 A n cap c joint wr) (fun t4 t13 wr => n - 1 - (intOf t13).toNat)
  case atStart => exact ⟨0, by omega, rfl, rfl, h0, hS⟩
  case round =>
    obtain ⟨m, hm, rfl, rfl, hJ, hS2⟩ := hrel
    obtain ⟨wo, rfl⟩ : ∃ wo : World, wo = wr := ⟨_, rfl⟩
    obtain ⟨c1, c2, R⟩ := id hS2
    by_cases hlt : m < n - 1
    · have hlti : (m : Int) < (n : Int) - 1 := by omega
      obtain ⟨b, off, rfl, hbl, ck⟩ := rdInt64 R (show m < n by omega)
      obtain ⟨x, hx⟩ : ∃ x, x = c m := ⟨_, rfl⟩
      obtain ⟨y, hy⟩ : ∃ y, y = jp joint c m := ⟨_, rfl⟩
      have ej : (⟨jt joint c m, jtw joint c m⟩ : I64) = ⟨wrap64 (y + x), wrap64_wf _⟩ := by apply Subtype.ext; show jt joint c m = wrap64 (y + x); rw [hx, hy]; rfl
      have ep : jp joint c (m + 1) = wrap64 (wrap64 (y + x) + joint) := by rw [hx, hy]; rfl
      have es := jtW_succ joint c m
      rw [ej] at es
      have HE := Lib.hid (And.intro ep es)
      rw [← hx] at ck
      rw [← hy]
      obtain ⟨fn, tmps, assign, body, hyy, hR⟩ := hY _ (⟨wrap64 (y + x), wrap64_wf _⟩ : I64) wo hJ (by rw [jtW_length]; exact hlt)
      rw [← es] at hR
      have HR := Lib.hid hR
      dsimp only [encW] at hyy
      clear hx hy ej ep es R c1 c2 hR hY hS hJ
      gi_wp2
      refine HR.out.mono ?_
      rintro e W3 (⟨rfl, hJ3, hk3⟩ | ⟨rfl, hJx3⟩)
      · have hS3 := hS2.kp hk3
        obtain ⟨c1, c2, R⟩ := id hS3
        have HJ := Lib.hid hJ3
        clear ck hyy hS2 hk3 R hJ3
        gi_wp2
        exact ⟨⟨m + 1, by omega, by first | go_num | simp, by rw [HE.out.1], HJ.out, hS3⟩, by simp [intOf]; omega⟩
      · gi_wp2
        refine bodyPost_ret (results_none rfl _ _ _) rfl ?_
        exact ⟨⟨_, rfl⟩, .inr ⟨_, ⟨m + 1, by omega, rfl⟩, hJx3⟩⟩
    · obtain rfl : m = n - 1 := by omega
      gi_wp2
      go_end0
      exact ⟨⟨_, rfl⟩, .inl ⟨_, rfl, hJ⟩⟩

theorem jointsW_stops (F : Fence) (q : Nat) (hF : F.fn 164) (hro : F.round = none) (hq : 1 ≤ q) (N0 b1 b2 : Nat) (A : Option Addr) (n cap : Nat) (c : Nat → Int) (joint : Int) (h1 : 1 ≤ n) (h60 : n ≤ 60) (hcap : n ≤ cap) (w : World) (hS : JG N0 b1 b2 A n cap c joint w) (hN : N0 ≤ w.heap.size ∧ b1 < w.heap.size ∧ b2 < w.heap.size) :
    SeqStopsK F q Try.prog 164 #[.pointer (some ⟨b1, 0, none⟩), .pointer (some ⟨b2, 0, none⟩)] encW (KpS (Sx N0 b1 b2)) (fun ys => ys = jtW joint c (n - 1)) (fun pre => ∃ k, k ≤ n - 1 ∧ pre = jtW joint c k) (n - 1) w := fun l J Jx W hW _ _ hY h0 =>
  joints1W_in F q hF hro hq l N0 b1 b2 A n cap c joint h1 h60 hcap J Jx hY W (hS.kp (kpS_below hW (fun k hk => by unfold Sx at hk; omega))) h0

end Go.Proofs.Ytjeccdmhpbaabaa
