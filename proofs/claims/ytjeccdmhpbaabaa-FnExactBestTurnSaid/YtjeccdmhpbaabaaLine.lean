/-
  The contract of impl.lineBy: what a function builds, or the code that it panics with. Conditions stand at each.
-/
import Derived.Test.YtjeccdmhpbaabaaRows
import Derived.Test.YtjeccdmhpbaabaaBow
import Derived.Defers
import Derived.Recover
import Derived.Laws.Pointers
namespace Go.Proofs.Ytjeccdmhpbaabaa
open Go Go.ChangeShapes Go.WideShapes Go.ChangeAt Go.RowKit
set_option linter.unusedVariables false
set_option linter.unusedSimpArgs false
set_option maxRecDepth 100000
set_option maxHeartbeats 2000000

theorem assertYes (k : Int) (w : World) : (Instr.typeAssert (.iface 161 (.agg #[.int .i64 k])) 20 161 true).run Try.prog w = .ok (.tuple #[.agg #[.int .i64 k], .bool true]) w := by kernel_rfl
theorem assertNo (w : World) : (Instr.typeAssert .nilIface 20 161 true).run Try.prog w = .ok (.tuple #[.agg #[.int .i64 0], .bool false]) w := by kernel_rfl
/-- the value of a panic with a code. -/
def nb (k : Int) : Value := .iface 161 (.agg #[.int .i64 k])
theorem catch_panicking (B : Nat) (k x : Int) (w : World) (hB : B < w.heap.size) (hc : w.cell? ⟨B, 0, none⟩ = some (.int .i64 x)) (hz : w.frozen? ⟨B, 0, none⟩ = false) :
    CallsD Try.prog 159 #[.pointer (some ⟨B, 0, none⟩)] (.panicking [{ v := nb k, recovered := false }]) w fun e u' w' =>
      e = .returned (.tuple #[]) ∧ u' = .panicking [{ v := nb k, recovered := true }] ∧ w' = (w.alloc (.cells #[.int .i64 k] 161)).setCell ⟨B, 0, none⟩ (.int .i64 k) := by
  refine callsD_of_wpS Try.func159 rfl fun c₀ cs hu => ?_
  apply wpS_seq
  apply wpS_region
  simp [wpOpsS, go_sem, assertYes, recoverD, hu, nb, Try.ntmps159, Exit.thenS]
  apply wpS_seq
  apply wpS_region
  simp [wpOpsS, go_sem, Exit.thenS]
  refine wpS_cond (t := true) (by simp [Act.eval, Array.replicate]) ?_
  simp only [if_true]
  apply wpS_region
  have hc1 : (w.alloc (.cells #[.int .i64 k] 161)).cell? ⟨B, 0, none⟩ = some (.int .i64 x) := (World.cell?_of_block (w := w) (Below.heap_alloc w _ B hB)).trans hc
  have hz1 : (w.alloc (.cells #[.int .i64 k] 161)).frozen? ⟨B, 0, none⟩ = false := (World.frozen?_of_block (w := w) (Below.heap_alloc w _ B hB)).trans hz
  simp [wpOpsS, go_sem, hc1, hz1, bodyPostS, results, Try.results159]
theorem catch_idle (B : Nat) (w : World) :
    CallsD Try.prog 159 #[.pointer (some ⟨B, 0, none⟩)] .returning w fun e u' w' => e = .returned (.tuple #[]) ∧ u' = .returning ∧ w' = w.alloc (.cells #[.int .i64 0] 161) := by
  refine callsD_of_wpS Try.func159 rfl fun c₀ cs hu => ?_
  apply wpS_seq
  apply wpS_region
  simp [wpOpsS, go_sem, assertNo, recoverD, hu, Try.ntmps159, Exit.thenS]
  apply wpS_seq
  apply wpS_region
  simp [wpOpsS, go_sem, Exit.thenS]
  refine wpS_cond (t := false) (by simp [Act.eval, Array.replicate]) ?_
  simp only [Bool.false_eq_true, if_false]
  refine wpS_of_wp (wp_skip ?_)
  cases c₀
  simp_all [bodyPostS, results, Try.results159]

/-- what a function builds that lineBy is given: numbers that it owns, or a panic with a code. -/
def Built (good : Prop) (L : List Int) (k : Int) (W : World) (e : Ending) (W' : World) : Prop :=
  Below W.heap.size W W' ∧ ((good ∧ ∃ v, e = .returned v ∧ OwnI W' W.heap.size v L) ∨ (¬ good ∧ e = .panicked [{ v := nb k, recovered := false }]))
/-- what lineBy answers. -/
def Lined (good : Prop) (L : List Int) (k : Int) (W : World) (e : Ending) (W' : World) : Prop :=
  Below W.heap.size W W' ∧ ((good ∧ ∃ v, e = .returned (.tuple #[v, .int .i64 0]) ∧ OwnI W' W.heap.size v L) ∨ (¬ good ∧ e = .returned (.tuple #[.slice none 0 0, .int .i64 k])))

theorem lineBy_any (f : FuncId) (cap : Array Value) (good : Prop) (L : List Int) (k : Int) (w : World) (hE : Enters Try.prog f)
    (hF : ∀ W : World, Below w.heap.size w W → Calls Try.prog f cap W (Built good L k W)) :
    Calls Try.prog 98 #[.func (.func f) #[] cap] w (Lined good L k w) := by
  have hmf : ∀ (fn : Fn) (first cap : Array Value) (w : World), (Instr.makeFunc fn first cap).run Try.prog w = .ok (.func fn first cap) w := fun _ _ _ _ => rfl
  have HF := Lib.hid hF
  clear hF
  unfold Enters at hE
  go_enter_defers Try.func98, Try.ntmps98
  go_wp2_with fail
  have B0 : Below w.heap.size w (w.alloc (.cells #[.int .i64 1] 2)) := al (Below.refl _ _) _
  refine (HF.out _ B0).mono ?_
  rintro e W1 ⟨hb, ⟨hg, v, rfl, O⟩ | ⟨hg, rfl⟩⟩
  · have HG := Lib.hid hg
    clear hg
    have HB : W1.heap[w.heap.size]? = some (.cells #[.int .i64 1] 2 (0, 0)) := (hb.block _ (by simp)).trans (heap_alloc_new w _)
    have hs := hb.size
    rw [World.size_alloc] at hs
    have B1 := nxt B0 hb
    have O1 := O
    have c0 := cell_of_row W1 w.heap.size 0 _ _ _ HB
    have f0 := frozen_of_row W1 w.heap.size 0 _ _ HB
    simp at c0
    clear hb O
    go_wp2_with fail
    have B2 := B1.setCell (p := ⟨w.heap.size, 0, none⟩) (Nat.le_refl _) (.int .i64 0)
    have O2 : OwnI (W1.setCell ⟨w.heap.size, 0, none⟩ (.int .i64 0)) (w.alloc (.cells #[.int .i64 1] 2)).heap.size v L := O1.far fun j h1 _ => by
      rw [World.size_alloc] at h1
      exact Below.heap_setCell W1 _ _ _ (by show j ≠ w.heap.size; omega)
    have c1 : (W1.setCell ⟨w.heap.size, 0, none⟩ (.int .i64 0)).cell? ⟨w.heap.size, 0, none⟩ = some (.int .i64 0) := World.cell?_setCell_same' _ _ _ (by rw [c0]; rfl)
    have hs2 : w.heap.size < (W1.setCell ⟨w.heap.size, 0, none⟩ (.int .i64 0)).heap.size := by simp; omega
    obtain ⟨W2, hW2⟩ : ∃ W2 : World, W2 = W1.setCell ⟨w.heap.size, 0, none⟩ (.int .i64 0) := ⟨_, rfl⟩
    rw [← hW2] at B2 O2 c1 hs2 ⊢
    clear hW2 O1 c0 f0 HB B1 hs
    refine leaves_cons (f := 159) (args := #[.pointer (some ⟨w.heap.size, 0, none⟩)]) (by simp) (by simp [go_sem]) ?_
    refine (catch_idle w.heap.size W2).mono ?_
    rintro e u' w'' ⟨rfl, rfl, rfl⟩
    have c2 : (W2.alloc (.cells #[.int .i64 0] 161)).cell? ⟨w.heap.size, 0, none⟩ = some (.int .i64 0) := (World.cell?_of_block (w := W2) (Below.heap_alloc W2 _ _ hs2)).trans c1
    simp [Leaves, settle, results, Try.results98, go_sem, c2]
    exact ⟨al B2 _, .inl ⟨HG.out, v, rfl, (O2.alloc _).mono (by rw [World.size_alloc]; omega)⟩⟩
  · have HG := Lib.hid hg
    clear hg
    have HB : W1.heap[w.heap.size]? = some (.cells #[.int .i64 1] 2 (0, 0)) := (hb.block _ (by simp)).trans (heap_alloc_new w _)
    have hs := hb.size
    rw [World.size_alloc] at hs
    have B1 := nxt B0 hb
    have c0 := cell_of_row W1 w.heap.size 0 _ _ _ HB
    have f0 := frozen_of_row W1 w.heap.size 0 _ _ HB
    simp at c0
    clear hb
    refine leaves_cons (f := 159) (args := #[.pointer (some ⟨w.heap.size, 0, none⟩)]) (by simp) (by simp [go_sem]) ?_
    refine (catch_panicking w.heap.size k 1 W1 (by omega) c0 f0).mono ?_
    rintro e u' w'' ⟨rfl, rfl, rfl⟩
    have c1 : (W1.alloc (.cells #[.int .i64 k] 161)).cell? ⟨w.heap.size, 0, none⟩ = some (.int .i64 1) := (World.cell?_of_block (w := W1) (Below.heap_alloc W1 _ _ (by show w.heap.size < W1.heap.size; omega))).trans c0
    have c2 : ((W1.alloc (.cells #[.int .i64 k] 161)).setCell ⟨w.heap.size, 0, none⟩ (.int .i64 k)).cell? ⟨w.heap.size, 0, none⟩ = some (.int .i64 k) := World.cell?_setCell_same' _ _ _ (by rw [c1]; rfl)
    simp [Leaves, settle, results, Try.results98, go_sem, c2]
    exact ⟨(al B1 _).setCell (p := ⟨w.heap.size, 0, none⟩) (Nat.le_refl _) _, .inr ⟨HG.out, rfl⟩⟩

/-- a valid bow, or a panic with the code. -/
theorem asBow_any (A : Option Addr) (n cap : Nat) (k : Int) (c : Nat → Int) (w : World) (hn : n ≤ 1048577) (hr : RdK .i64 w w.heap.size A n c) :
    Calls Try.prog 100 #[.slice A n cap, .int .i64 k] w fun e w' => Below w.heap.size w w' ∧ ((Bow n c ∧ e = .returned (.slice A n cap)) ∨ (¬ Bow n c ∧ e = .panicked [{ v := nb k, recovered := false }])) := by
  have HR := Lib.hid hr
  clear hr
  have hpi : ∀ (t : TypeId) (v : Value) (w : World), (Instr.panic (.iface t v)).run Try.prog w = .halt (.panic (.iface t v)) w := fun _ _ _ => rfl
  go_enter Try.func100, Try.ntmps100
  go_wp2_with fail
  refine (validBow_any A n cap c _ hn HR.out).mono ?_
  rintro e w1 ⟨hb, ⟨h, rfl⟩ | ⟨h, rfl⟩⟩
  · have H := Lib.hid h
    clear h
    go_wp2
    go_ret
    exact ⟨hb, .inl ⟨H.out, rfl⟩⟩
  · have H := Lib.hid h
    clear h
    go_wp2
    exact ⟨rfl, hb, .inr ⟨H.out, rfl⟩⟩
end Go.Proofs.Ytjeccdmhpbaabaa
