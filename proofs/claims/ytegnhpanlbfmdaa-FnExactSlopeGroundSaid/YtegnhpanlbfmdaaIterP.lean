/-
  The iterator impl.cellsOf at 0, 0: it yields all cells of wd by ht, by rows. Conditions stand at each.
-/
import Derived.RangeFuncNested
import Derived.RangeFuncBound
import Derived.RangeFuncCalls
import Derived.RangeFuncLeaves
import Derived.Shelf.Abstract
import Derived.Shelf.RegionOpen
import Derived.WalkKit
import Derived.OwnWalkIn
import Derived.TacticsInMore
import Derived.LoopNIn
import Derived.LoopIn
import Derived.Test.YtegnhpanlbfmdaaRows
import Derived.Test.YtegnhpanlbfmdaaIter
namespace Go.Proofs.Ytegnhpanlbfmdaa
open Go Go.RowKit Go.Shelf
set_option linter.unusedVariables false
set_option linter.unusedSimpArgs false
set_option maxRecDepth 100000
set_option maxHeartbeats 2000000
attribute [local go_sem] Oper.semAt_some

/-- a cell of wd by ht. -/
abbrev PX (wd ht : Nat) := { q : Nat × Nat // q.1 < wd ∧ q.2 < ht }
section
variable {wd ht : Nat}
/-- cell number k. -/
def cellP (hp : 0 < wd ∧ 0 < ht) (k : Nat) : PX wd ht := ⟨(k % wd, min (k / wd) (ht - 1)), Nat.mod_lt _ hp.1, by show min _ _ < ht; have := hp.2; omega⟩
def uptoP (hp : 0 < wd ∧ 0 < ht) (k : Nat) : List (PX wd ht) := (List.range k).map (cellP hp)
theorem uptoP_succ (hp : 0 < wd ∧ 0 < ht) (k : Nat) : uptoP hp (k + 1) = uptoP hp k ++ [cellP hp k] := by simp [uptoP, List.range_succ]
theorem uptoP_length (hp : 0 < wd ∧ 0 < ht) (k : Nat) : (uptoP hp k).length = k := by simp [uptoP]
theorem idxP {x y : Nat} (hx : x < wd) (hy : y < ht) : wd * y + x < wd * ht := by
  have : wd * y + wd ≤ wd * ht := by rw [← Nat.mul_succ]; exact Nat.mul_le_mul_left _ (by omega)
  omega
theorem cellP_eq (hp : 0 < wd ∧ 0 < ht) {x y : Nat} (hx : x < wd) (hy : y < ht) : cellP hp (wd * y + x) = ⟨(x, y), hx, hy⟩ := by
  have e1 : (wd * y + x) % wd = x := by rw [Nat.mul_add_mod]; exact Nat.mod_eq_of_lt hx
  have e2 : (wd * y + x) / wd = y := by rw [Nat.mul_add_div (by omega), Nat.div_eq_of_lt hx]; rfl
  apply Subtype.ext
  show ((wd * y + x) % wd, min ((wd * y + x) / wd) (ht - 1)) = (x, y)
  rw [e1, e2]
  apply Prod.ext
  · rfl
  · show min _ _ = _; omega
theorem cellP_val (hp : 0 < wd ∧ 0 < ht) {k : Nat} (hk : k < wd * ht) : (cellP hp k).1 = (k % wd, k / wd) := by
  have : k / wd < ht := Nat.div_lt_of_lt_mul hk
  show (k % wd, min (k / wd) (ht - 1)) = _
  apply Prod.ext
  · rfl
  · show min _ _ = _; omega
theorem mem_uptoP (hp : 0 < wd ∧ 0 < ht) {x y : Nat} (hx : x < wd) (hy : y < ht) : (⟨(x, y), hx, hy⟩ : PX wd ht) ∈ uptoP hp (wd * ht) :=
  List.mem_map.2 ⟨wd * y + x, List.mem_range.2 (idxP hx hy), cellP_eq hp hx hy⟩
def encP (q : PX wd ht) : Array Value := #[.agg #[.int .i8 (q.1.1 : Int), .int .i8 (q.1.2 : Int)]]
end

theorem cells1P_in (F : Fence) (n : Nat) (h95 : F.fn 220) (hro : F.round = none) (hn : 1 ≤ n) (l Bs wd ht : Nat) (hp : 0 < wd ∧ 0 < ht) (hx : wd ≤ 12) (hy : ht ≤ 12) (J Jx : List (PX wd ht) → World → Prop)
    (hY : ∀ pre x W, J pre W → pre.length < wd * ht → YieldAt F (n - 1) Try.prog l (encP x) W fun e W' =>
      (e = .returned (.bool true) ∧ J (pre ++ [x]) W' ∧ KpB Bs W W') ∨ (e = .returned (.bool false) ∧ Jx (pre ++ [x]) W'))
    (W : World) (hS : Sl W Bs 0 0 wd ht) (h0 : J [] W) :
    CallsIn F n Try.prog 220 #[.func (.yield l) #[] #[], .pointer (some ⟨Bs, 0, none⟩)] W fun e W' => (∃ v, e = .returned v) ∧
      ((∃ ys, ys = uptoP hp (wd * ht) ∧ J ys W') ∨ (∃ pre, (∃ k, k ≤ wd * ht ∧ pre = uptoP hp k) ∧ Jx pre W')) := by
  obtain ⟨l6, p6, q6, r6, s6⟩ := id hS
  have hsx : (wd : Int) ≤ 12 := by omega
  have hsy : (ht : Int) ≤ 12 := by omega
  refine callsIn_of_wp Try.func220 rfl h95 ?_ hro
  simp only [Try.ntmps220, List.size_toArray, List.length_cons, List.length_nil, Nat.reduceAdd, Nat.reduceSub, Array.replicate_succ, Array.replicate_zero, List.push_toArray, List.append_toArray, List.nil_append, List.cons_append]
  gi_wp2
  clear l6 p6 q6 r6 s6
  gi_loopw [3, 4] (fun t3 t4 wr => ∃ y : Nat, y ≤ ht ∧ t3 = .int .i8 y ∧ J (uptoP hp (wd * y)) wr ∧ Sl wr Bs 0 0 wd ht) (fun t3 t4 _ => ht - (intOf t3).toNat)
  case atStart => exact ⟨0, by omega, rfl, by simpa [uptoP] using h0, hS⟩
  case round =>
    obtain ⟨y, hy2, rfl, hJ, hS2⟩ := hrel
    obtain ⟨wo, rfl⟩ : ∃ wo : World, wo = wr := ⟨_, rfl⟩
    obtain ⟨l6, p6, q6, r6, s6⟩ := id hS2
    by_cases hyt : y < ht
    · have hyi : (y : Int) < (ht : Int) := by omega
      gi_wp2
      clear l6 p6 q6 r6 s6
      gi_loopw [4] (fun t4 wr => ∃ x : Nat, x ≤ wd ∧ t4 = .int .i8 x ∧ J (uptoP hp (wd * y + x)) wr ∧ Sl wr Bs 0 0 wd ht) (fun t4 _ => wd - (intOf t4).toNat)
      case atStart => exact ⟨0, by omega, rfl, by simpa using hJ, hS2⟩
      case round =>
        clear hJ hS2
        obtain ⟨x, hx2, rfl, hJ, hS2⟩ := hrel
        obtain ⟨wo3, rfl⟩ : ∃ wo3 : World, wo3 = wr := ⟨_, rfl⟩
        obtain ⟨l6, p6, q6, r6, s6⟩ := id hS2
        by_cases hxt : x < wd
        · have hxi : (x : Int) < (wd : Int) := by omega
          obtain ⟨fn, tmps, assign, body, hyy, hR⟩ := hY _ ⟨(x, y), hxt, hyt⟩ wo3 hJ (by rw [uptoP_length]; exact idxP hxt hyt)
          dsimp only [encP] at hyy
          gi_wp2
          refine hR.mono ?_
          rintro e W3 (⟨rfl, hJ3, hk3⟩ | ⟨rfl, hJx3⟩)
          · have hS3 := hS2.of_block hk3.1 hk3.2
            clear l6 p6 q6 r6 s6
            gi_wp2
            refine ⟨⟨x + 1, by omega, by first | go_num | simp, ?_, hS3⟩, by simp [intOf]; omega⟩
            rw [show wd * y + (x + 1) = wd * y + x + 1 by omega, uptoP_succ, cellP_eq hp hxt hyt]
            exact hJ3
          · gi_wp2
            refine bodyPost_ret (results_none rfl _ _ _) rfl ?_
            refine ⟨⟨_, rfl⟩, .inr ⟨_, ⟨wd * y + x + 1, idxP hxt hyt, ?_⟩, hJx3⟩⟩
            rw [uptoP_succ, cellP_eq hp hxt hyt]
        · obtain rfl : x = wd := by omega
          gi_wp2
          refine ⟨⟨y + 1, by omega, by first | go_num | simp, ?_, hS2⟩, by simp [intOf]; omega⟩
          rw [Nat.mul_succ]
          exact hJ
    · obtain rfl : y = ht := by omega
      gi_wp2
      go_end0
      exact ⟨⟨_, rfl⟩, .inl ⟨_, rfl, hJ⟩⟩

theorem cellsP_stops (F : Fence) (n : Nat) (h95 : F.fn 220) (hro : F.round = none) (hn : 1 ≤ n) (Bs wd ht : Nat) (hp : 0 < wd ∧ 0 < ht) (hx : wd ≤ 12) (hy : ht ≤ 12) (w : World) (hS : Sl w Bs 0 0 wd ht) :
    SeqStopsK F n Try.prog 220 #[.pointer (some ⟨Bs, 0, none⟩)] encP (KpB Bs) (fun ys => ys = uptoP hp (wd * ht)) (fun pre => ∃ k, k ≤ wd * ht ∧ pre = uptoP hp k) (wd * ht) w := fun l J Jx W hW _ _ hY h0 =>
  cells1P_in F n h95 hro hn l Bs wd ht hp hx hy J Jx hY W (hS.below hW) h0

end Go.Proofs.Ytegnhpanlbfmdaa
