/-
  The contract of impl.shortIn. Conditions stand at each.
-/
import Derived.Test.YtegnhpanlbfmdaaRows
import Derived.Test.YtegnhpanlbfmdaaShortS
import Derived.Test.YtegnhpanlbfmdaaSiteI
import Derived.Test.YtegnhpanlbfmdaaLandAt
import Derived.Deep.Cut
namespace Go.Proofs.Ytegnhpanlbfmdaa
open Go Go.ChangeShapes Go.WideShapes Go.ChangeAt Go.RowKit Go.Shelf
set_option linter.unusedVariables false
set_option linter.unusedSimpArgs false
set_option maxRecDepth 100000
set_option maxHeartbeats 4000000

attribute [local go_sem] Oper.semAt_some

theorem wpListIn_assert {P : Program} {F : Fence} {n : Nat} {ops : Array Oper} {rest : List Oper} {o : Oper} {a : Act} {w : World} {Q : Exit → Act → World → Prop} (hgd : o.guard = none) (x : Operand) (xt t : TypeId) (c : Bool) (ho : o.op = .typeAssert x xt t c) (v r : Value) (hx : a.eval x = v) (hrun : (Instr.typeAssert v xt t c).run P w = .ok r w)
    (h : wpListIn F n P ops Q rest (a.put o.dst r) w) : wpListIn F n P ops Q (o :: rest) a w := by
  refine wpListIn_op hgd (r := r) (by simp [Oper.about, ho]) (by rw [ho]; intro c hc'; cases hc') ?_ h
  unfold execOp
  simp only [ho, hx, Sem.run_bind, hrun, Result.andThen_ok, Sem.run_pure]
theorem LandAt.kpt {B : Nat} {M : Nat → Prop} {W V : World} {b m n : Nat} {X Y : Int} {h c : Nat → Int} (H : LandAt W b m n X Y h c) (k : Kpt B M W V) (hb : ¬ M b) (hm : ¬ M m) : LandAt V b m n X Y h c := H.of_block (k.block H.lt.1 hb) (k.block H.lt.2 hm)

def ShortV (z : Value) (r : Bool) (code : Int) : Value := .tuple #[z, .bool r, .int .i64 code]

theorem short_bad (X Y : Int) (h : Nat → Int) (g n : Nat) (c : Nat → Int) (fall : Int) (w : World) (hX : -128 ≤ X ∧ X ≤ 127) (hY : -128 ≤ Y ∧ Y ≤ 127) (hh : ∀ p, -32768 ≤ h p ∧ h p ≤ 32767) (hc : ∀ j, -128 ≤ c j ∧ c j ≤ 127) (hm : n ≤ 1048576) (hA : Ac w g n c) (z : Int) (hz : (¬ GValid X Y h n c ∧ z = 1) ∨ (GValid X Y h n c ∧ ¬ (1 ≤ fall ∧ fall ≤ 200) ∧ z = 2)) :
    Calls Try.prog 157 #[.agg (gV X Y h (.slice (some ⟨g, 0, none⟩) n n)), .int .i64 fall] w fun e w' => Below w.heap.size w w' ∧ e = .returned (.tuple #[.agg #[.int .i8 0, .int .i8 0], .bool false, .int .i64 z]) := by
  have HH := Lib.hid hh
  have HC := Lib.hid hc
  have HZ := Lib.hid hz
  clear hh hc hz
  have X2 := ((((Bx.new w (gV X Y h (.slice (some ⟨g, 0, none⟩) n n)) 33).alloc (.cells #[.int .i64 fall] 2)).alloc (.cells #[.int .i8 0, .int .i8 0] 40)).alloc (.cells #[.bool false] 4)).alloc (.cells #[.int .i64 0] 2)
  have X3 := (((Bx.newAt (w.alloc (.cells (gV X Y h (.slice (some ⟨g, 0, none⟩) n n)) 33)) (w.heap.size + 1) #[.int .i64 fall] 2 (by simp)).alloc (.cells #[.int .i8 0, .int .i8 0] 40)).alloc (.cells #[.bool false] 4)).alloc (.cells #[.int .i64 0] 2)
  have X4 := ((Bx.newAt ((w.alloc (.cells (gV X Y h (.slice (some ⟨g, 0, none⟩) n n)) 33)).alloc (.cells #[.int .i64 fall] 2)) (w.heap.size + 1 + 1) #[.int .i8 0, .int .i8 0] 40 (by simp)).alloc (.cells #[.bool false] 4)).alloc (.cells #[.int .i64 0] 2)
  have X5 := (Bx.newAt (((w.alloc (.cells (gV X Y h (.slice (some ⟨g, 0, none⟩) n n)) 33)).alloc (.cells #[.int .i64 fall] 2)).alloc (.cells #[.int .i8 0, .int .i8 0] 40)) (w.heap.size + 1 + 1 + 1) #[.bool false] 4 (by simp)).alloc (.cells #[.int .i64 0] 2)
  have X6 := Bx.newAt ((((w.alloc (.cells (gV X Y h (.slice (some ⟨g, 0, none⟩) n n)) 33)).alloc (.cells #[.int .i64 fall] 2)).alloc (.cells #[.int .i8 0, .int .i8 0] 40)).alloc (.cells #[.bool false] 4)) (w.heap.size + 1 + 1 + 1 + 1) #[.int .i64 0] 2 (by simp)
  have B := al (al (al (al (al (Below.refl w.heap.size w) (.cells (gV X Y h (.slice (some ⟨g, 0, none⟩) n n)) 33)) (.cells #[.int .i64 fall] 2)) (.cells #[.int .i8 0, .int .i8 0] 40)) (.cells #[.bool false] 4)) (.cells #[.int .i64 0] 2)
  replace hA := ((((hA.alloc (.cells (gV X Y h (.slice (some ⟨g, 0, none⟩) n n)) 33)).alloc (.cells #[.int .i64 fall] 2)).alloc (.cells #[.int .i8 0, .int .i8 0] 40)).alloc (.cells #[.bool false] 4)).alloc (.cells #[.int .i64 0] 2)
  go_enter Try.func157, Try.ntmps157
  go_upto_region 1 with fail
  obtain ⟨W0, hW0⟩ : ∃ W0 : World, W0 = ((((w.alloc (.cells (gV X Y h (.slice (some ⟨g, 0, none⟩) n n)) 33)).alloc (.cells #[.int .i64 fall] 2)).alloc (.cells #[.int .i8 0, .int .i8 0] 40)).alloc (.cells #[.bool false] 4)).alloc (.cells #[.int .i64 0] 2) := ⟨_, rfl⟩
  rw [← hW0] at X2 X3 X4 X5 X6 B hA ⊢
  clear hW0
  go_wp2_with (refine wpList_load_box X2 rfl _ _ rfl rfl _ Try.underlying33 rfl (infoGv _ _ _ _) ?_)
  refine (landOf_any X Y h g n c _ hX hY HH.out HC.out hm hA).mono ?_
  clear X2 hA
  rintro e w1 ⟨hb, ⟨hv, p, m, rfl, hpm, hmp, hL⟩ | ⟨hv, rfl⟩⟩
  · obtain ⟨hnr, rfl⟩ : ¬ (1 ≤ fall ∧ fall ≤ 200) ∧ z = 2 := by rcases HZ.out with k | k; exact absurd hv k.1; exact k.2
    replace X3 := (X3.below hb).alloc (.cells #[.pointer (some ⟨p, 0, none⟩)] 130)
    replace X4 := (X4.below hb).alloc (.cells #[.pointer (some ⟨p, 0, none⟩)] 130)
    replace X5 := (X5.below hb).alloc (.cells #[.pointer (some ⟨p, 0, none⟩)] 130)
    replace X6 := (X6.below hb).alloc (.cells #[.pointer (some ⟨p, 0, none⟩)] 130)
    replace B := al (nxt B hb) (.cells #[.pointer (some ⟨p, 0, none⟩)] 130)
    clear hb
    clear hv HZ hL
    have W1 : ∃ W1 : World, W1 = w1.alloc (.cells #[.pointer (some ⟨p, 0, none⟩)] 130) := ⟨_, rfl⟩
    go_upto_region 2 with fail
    obtain ⟨W1, hW1⟩ := W1
    rw [← hW1] at X3 X4 X5 X6 B ⊢
    clear hW1
    have s30 : W1.cell? ⟨w.heap.size + 1, 0, none⟩ = some (.int .i64 fall) := X3.cell 0
    have s40 := X4.cell 0
    have s41 := X4.cell 1
    have s50 := X5.cell 0
    have s60 := X6.cell 0
    have f40 := X4.frozen 0
    have f41 := X4.frozen 1
    have f50 := X5.frozen 0
    have f60 := X6.frozen 0
    by_cases hlo : fall < 1
    · go_wp2
      have h6 := X6.lt
      have Y4 := (((X4.set 0 (.int .i8 0)).set 1 (.int .i8 0)).other (g := w.heap.size + 1 + 1 + 1) (o := 0) (.bool false) (by omega)).other (g := w.heap.size + 1 + 1 + 1 + 1) (o := 0) (.int .i64 2) (by omega)
      have Y5 := (((X5.other (g := w.heap.size + 1 + 1) (o := 0) (.int .i8 0) (by omega)).other (g := w.heap.size + 1 + 1) (o := 1) (.int .i8 0) (by omega)).set 0 (.bool false)).other (g := w.heap.size + 1 + 1 + 1 + 1) (o := 0) (.int .i64 2) (by omega)
      have Y6 := (((X6.other (g := w.heap.size + 1 + 1) (o := 0) (.int .i8 0) (by omega)).other (g := w.heap.size + 1 + 1) (o := 1) (.int .i8 0) (by omega)).other (g := w.heap.size + 1 + 1 + 1) (o := 0) (.bool false) (by omega)).set 0 (.int .i64 2)
      have BB := (((B.setCell (p := ⟨w.heap.size + 1 + 1, 0, none⟩) (by simp; omega) (.int .i8 0)).setCell (p := ⟨w.heap.size + 1 + 1, 1, none⟩) (by simp; omega) (.int .i8 0)).setCell (p := ⟨w.heap.size + 1 + 1 + 1, 0, none⟩) (by simp; omega) (.bool false)).setCell (p := ⟨w.heap.size + 1 + 1 + 1 + 1, 0, none⟩) (by simp; omega) (.int .i64 2)
      have q40 := Y4.cell 0
      have q41 := Y4.cell 1
      have q50 := Y5.cell 0
      have q60 := Y6.cell 0
      simp at q40 q41 q50 q60
      exact bodyPost_ret (v := .tuple #[.agg #[.int .i8 0, .int .i8 0], .bool false, .int .i64 2]) (by simp [results, Try.results157, go_sem, q40, q41, q50, q60]) rfl ⟨BB, rfl⟩
    · have hhi : 200 < fall := by omega
      go_wp2
      have h6 := X6.lt
      have Y4 := (((X4.set 0 (.int .i8 0)).set 1 (.int .i8 0)).other (g := w.heap.size + 1 + 1 + 1) (o := 0) (.bool false) (by omega)).other (g := w.heap.size + 1 + 1 + 1 + 1) (o := 0) (.int .i64 2) (by omega)
      have Y5 := (((X5.other (g := w.heap.size + 1 + 1) (o := 0) (.int .i8 0) (by omega)).other (g := w.heap.size + 1 + 1) (o := 1) (.int .i8 0) (by omega)).set 0 (.bool false)).other (g := w.heap.size + 1 + 1 + 1 + 1) (o := 0) (.int .i64 2) (by omega)
      have Y6 := (((X6.other (g := w.heap.size + 1 + 1) (o := 0) (.int .i8 0) (by omega)).other (g := w.heap.size + 1 + 1) (o := 1) (.int .i8 0) (by omega)).other (g := w.heap.size + 1 + 1 + 1) (o := 0) (.bool false) (by omega)).set 0 (.int .i64 2)
      have BB := (((B.setCell (p := ⟨w.heap.size + 1 + 1, 0, none⟩) (by simp; omega) (.int .i8 0)).setCell (p := ⟨w.heap.size + 1 + 1, 1, none⟩) (by simp; omega) (.int .i8 0)).setCell (p := ⟨w.heap.size + 1 + 1 + 1, 0, none⟩) (by simp; omega) (.bool false)).setCell (p := ⟨w.heap.size + 1 + 1 + 1 + 1, 0, none⟩) (by simp; omega) (.int .i64 2)
      have q40 := Y4.cell 0
      have q41 := Y4.cell 1
      have q50 := Y5.cell 0
      have q60 := Y6.cell 0
      simp at q40 q41 q50 q60
      exact bodyPost_ret (v := .tuple #[.agg #[.int .i8 0, .int .i8 0], .bool false, .int .i64 2]) (by simp [results, Try.results157, go_sem, q40, q41, q50, q60]) rfl ⟨BB, rfl⟩
  · obtain rfl : z = 1 := by rcases HZ.out with k | k; exact k.2; exact absurd k.1 hv
    replace X3 := (X3.below hb).alloc (.cells #[.pointer none] 130)
    replace X4 := (X4.below hb).alloc (.cells #[.pointer none] 130)
    replace X5 := (X5.below hb).alloc (.cells #[.pointer none] 130)
    replace X6 := (X6.below hb).alloc (.cells #[.pointer none] 130)
    replace B := al (nxt B hb) (.cells #[.pointer none] 130)
    clear hb
    clear hv HZ
    have W1 : ∃ W1 : World, W1 = w1.alloc (.cells #[.pointer none] 130) := ⟨_, rfl⟩
    go_upto_region 2 with fail
    obtain ⟨W1, hW1⟩ := W1
    rw [← hW1] at X3 X4 X5 X6 B ⊢
    clear hW1
    have s40 := X4.cell 0
    have s41 := X4.cell 1
    have s50 := X5.cell 0
    have s60 := X6.cell 0
    have f40 := X4.frozen 0
    have f41 := X4.frozen 1
    have f50 := X5.frozen 0
    have f60 := X6.frozen 0
    go_wp2
    have h6 := X6.lt
    have Y4 := (((X4.set 0 (.int .i8 0)).set 1 (.int .i8 0)).other (g := w.heap.size + 1 + 1 + 1) (o := 0) (.bool false) (by omega)).other (g := w.heap.size + 1 + 1 + 1 + 1) (o := 0) (.int .i64 1) (by omega)
    have Y5 := (((X5.other (g := w.heap.size + 1 + 1) (o := 0) (.int .i8 0) (by omega)).other (g := w.heap.size + 1 + 1) (o := 1) (.int .i8 0) (by omega)).set 0 (.bool false)).other (g := w.heap.size + 1 + 1 + 1 + 1) (o := 0) (.int .i64 1) (by omega)
    have Y6 := (((X6.other (g := w.heap.size + 1 + 1) (o := 0) (.int .i8 0) (by omega)).other (g := w.heap.size + 1 + 1) (o := 1) (.int .i8 0) (by omega)).other (g := w.heap.size + 1 + 1 + 1) (o := 0) (.bool false) (by omega)).set 0 (.int .i64 1)
    have BB := (((B.setCell (p := ⟨w.heap.size + 1 + 1, 0, none⟩) (by simp; omega) (.int .i8 0)).setCell (p := ⟨w.heap.size + 1 + 1, 1, none⟩) (by simp; omega) (.int .i8 0)).setCell (p := ⟨w.heap.size + 1 + 1 + 1, 0, none⟩) (by simp; omega) (.bool false)).setCell (p := ⟨w.heap.size + 1 + 1 + 1 + 1, 0, none⟩) (by simp; omega) (.int .i64 1)
    have q40 := Y4.cell 0
    have q41 := Y4.cell 1
    have q50 := Y5.cell 0
    have q60 := Y6.cell 0
    simp at q40 q41 q50 q60
    exact bodyPost_ret (v := .tuple #[.agg #[.int .i8 0, .int .i8 0], .bool false, .int .i64 1]) (by simp [results, Try.results157, go_sem, q40, q41, q50, q60]) rfl ⟨BB, rfl⟩


theorem short_in (W H : Nat) (h : Nat → Int) (g n : Nat) (c : Nat → Int) (fall : Int) (w : World) (hh : ∀ p, -32768 ≤ h p ∧ h p ≤ 32767) (hc : ∀ j, -128 ≤ c j ∧ c j ≤ 127) (hA : Ac w g n c) (hv : GValid W H h n c) (hf : 1 ≤ fall ∧ fall ≤ 200) :
    CallsIn Fence.wide 7 Try.prog 157 #[.agg (gV W H h (.slice (some ⟨g, 0, none⟩) n n)), .int .i64 fall] w fun e w' => Below w.heap.size w w' ∧
      ((∃ i, i < W * H ∧ ShortAt W H h n c fall (cl W i) ∧ (∀ j, j < i → ¬ ShortAt W H h n c fall (cl W j)) ∧ e = .returned (.tuple #[.agg (cellA (cl W i)), .bool true, .int .i64 0])) ∨
       ((∀ j, j < W * H → ¬ ShortAt W H h n c fall (cl W j)) ∧ e = .returned (.tuple #[.agg #[.int .i8 0, .int .i8 0], .bool false, .int .i64 0]))) := by
  have hro : Fence.wide.round = none := rfl
  have hX : 1 ≤ (W : Int) ∧ (W : Int) ≤ 9 := hv.1.1
  have hY : 1 ≤ (H : Int) ∧ (H : Int) ≤ 9 := hv.1.2.1
  have h8 : n ≤ 8 := hv.1.2.2
  have hW9 : W ≤ 9 := by omega
  have hH9 : H ≤ 9 := by omega
  have hp : 0 < W ∧ 0 < H := by omega
  have HV := Lib.hid hv
  have HG := Lib.hid hv.2.2
  have HC := Lib.hid hc
  have HH := Lib.hid hh
  have HF := Lib.hid hf
  have hlo : ¬ fall < 1 := by omega
  have hhi : ¬ 200 < fall := by omega
  clear hv hc hh hf
  refine callsIn_of_wp_marks Try.func157 rfl trivial ?_ hro
  simp only [Try.ntmps157, List.size_toArray, List.length_cons, List.length_nil, Nat.reduceAdd, Nat.reduceSub, Array.replicate_succ, Array.replicate_zero, List.push_toArray, List.append_toArray, List.nil_append, List.cons_append]
  have X2 := ((((Bx.new w (gV W H h (.slice (some ⟨g, 0, none⟩) n n)) 33).alloc (.cells #[.int .i64 fall] 2)).alloc (.cells #[.int .i8 0, .int .i8 0] 40)).alloc (.cells #[.bool false] 4)).alloc (.cells #[.int .i64 0] 2)
  have X3 := (((Bx.newAt (w.alloc (.cells (gV W H h (.slice (some ⟨g, 0, none⟩) n n)) 33)) (w.heap.size + 1) #[.int .i64 fall] 2 (by simp)).alloc (.cells #[.int .i8 0, .int .i8 0] 40)).alloc (.cells #[.bool false] 4)).alloc (.cells #[.int .i64 0] 2)
  have X4 := ((Bx.newAt ((w.alloc (.cells (gV W H h (.slice (some ⟨g, 0, none⟩) n n)) 33)).alloc (.cells #[.int .i64 fall] 2)) (w.heap.size + 1 + 1) #[.int .i8 0, .int .i8 0] 40 (by simp)).alloc (.cells #[.bool false] 4)).alloc (.cells #[.int .i64 0] 2)
  have X5 := (Bx.newAt (((w.alloc (.cells (gV W H h (.slice (some ⟨g, 0, none⟩) n n)) 33)).alloc (.cells #[.int .i64 fall] 2)).alloc (.cells #[.int .i8 0, .int .i8 0] 40)) (w.heap.size + 1 + 1 + 1) #[.bool false] 4 (by simp)).alloc (.cells #[.int .i64 0] 2)
  have X6 := Bx.newAt ((((w.alloc (.cells (gV W H h (.slice (some ⟨g, 0, none⟩) n n)) 33)).alloc (.cells #[.int .i64 fall] 2)).alloc (.cells #[.int .i8 0, .int .i8 0] 40)).alloc (.cells #[.bool false] 4)) (w.heap.size + 1 + 1 + 1 + 1) #[.int .i64 0] 2 (by simp)
  have B := al (al (al (al (al (Below.refl w.heap.size w) (.cells (gV W H h (.slice (some ⟨g, 0, none⟩) n n)) 33)) (.cells #[.int .i64 fall] 2)) (.cells #[.int .i8 0, .int .i8 0] 40)) (.cells #[.bool false] 4)) (.cells #[.int .i64 0] 2)
  replace hA := ((((hA.alloc (.cells (gV W H h (.slice (some ⟨g, 0, none⟩) n n)) 33)).alloc (.cells #[.int .i64 fall] 2)).alloc (.cells #[.int .i8 0, .int .i8 0] 40)).alloc (.cells #[.bool false] 4)).alloc (.cells #[.int .i64 0] 2)
  gi_wp2_with (first
    | (refine wpListIn_load_box X2 rfl _ _ rfl rfl _ Try.underlying33 rfl (infoGv _ _ _ _) ?_)
    | (refine ⟨trivial, ?_⟩; gi_at_call 133; refine (callsIn_wide.2 (landOf_any W H h g n c _ (by omega) (by omega) HH.out HC.out (by omega) hA)).mono ?_))
  clear X2 hA
  rintro e w1 ⟨hb, ⟨_, p, m, rfl, hpm, hmp, hL⟩ | ⟨hv, _⟩⟩
  case inr => exact absurd HV.out hv
  have hs1 := hb.size
  simp only [World.size_alloc] at hpm hs1
  replace X3 := (X3.below hb).alloc (.cells #[.pointer (some ⟨p, 0, none⟩)] 130)
  replace X4 := (X4.below hb).alloc (.cells #[.pointer (some ⟨p, 0, none⟩)] 130)
  replace X5 := (X5.below hb).alloc (.cells #[.pointer (some ⟨p, 0, none⟩)] 130)
  replace X6 := (X6.below hb).alloc (.cells #[.pointer (some ⟨p, 0, none⟩)] 130)
  replace B := al (nxt B hb) (.cells #[.pointer (some ⟨p, 0, none⟩)] 130)
  clear hb
  replace hL := hL.next (al (Below.refl w1.heap.size w1) (.cells #[.pointer (some ⟨p, 0, none⟩)] 130))
  have X7 := Bx.new w1 #[.pointer (some ⟨p, 0, none⟩)] 130
  have W1 : ∃ W1 : World, W1 = w1.alloc (.cells #[.pointer (some ⟨p, 0, none⟩)] 130) := ⟨_, rfl⟩
  have d30 : (w1.alloc (.cells #[.pointer (some ⟨p, 0, none⟩)] 130)).cell? ⟨w.heap.size + 1, 0, none⟩ = some (.int .i64 fall) := X3.cell 0
  obtain ⟨l1, p1, q1, r1⟩ := hL.1.gcells
  gi_wp2_with (refine ⟨trivial, ?_⟩; gi_at_call 116; refine (points_in 6 (by omega) W H _).mono ?_)
  obtain ⟨W1, hW1⟩ := W1
  rw [← hW1] at X3 X4 X5 X6 X7 B hL l1 p1 q1 r1 d30 ⊢
  have hsW : w1.heap.size < W1.heap.size := X7.lt
  clear hW1 l1 p1 q1 r1 d30
  rintro e w6 ⟨hb, bs, rfl, hbs, hSl⟩
  replace hL := hL.next hb
  replace X3 := X3.below hb
  replace X4 := X4.below hb
  replace X5 := X5.below hb
  replace X6 := X6.below hb
  replace X7 := X7.below hb
  replace B := nxt B hb
  clear hb
  gi_wp2_with fail
  refine range_cells (by omega) bs W H hp rfl rfl (by omega) (by omega) hSl (fun k => k = w.heap.size + 1 + 1 ∨ k = w.heap.size + 1 + 1 + 1 ∨ k = w.heap.size + 1 + 1 + 1 + 1) (by omega)
    (fun pre V => Bx V (w.heap.size + 1 + 1) #[.int .i8 0, .int .i8 0] 40 ∧ Bx V (w.heap.size + 1 + 1 + 1) #[.bool false] 4 ∧ Bx V (w.heap.size + 1 + 1 + 1 + 1) #[.int .i64 0] 2 ∧ ∀ x ∈ pre, ¬ ShortAt W H h n c fall x.1)
    (fun cc pre V => Kpt w6.heap.size (fun k => k = w.heap.size + 1 + 1 ∨ k = w.heap.size + 1 + 1 + 1 ∨ k = w.heap.size + 1 + 1 + 1 + 1) w6 V ∧ cc = .ret ∧ ∃ pre' x, pre = pre' ++ [x] ∧ ShortAt W H h n c fall x.1 ∧ (∀ y ∈ pre', ¬ ShortAt W H h n c fall y.1) ∧ Bx V (w.heap.size + 1 + 1) #[.int .i8 (x.1.1 : Int), .int .i8 (x.1.2 : Int)] 40 ∧ Bx V (w.heap.size + 1 + 1 + 1) #[.bool true] 4 ∧ Bx V (w.heap.size + 1 + 1 + 1 + 1) #[.int .i64 0] 2)
    ?_ ?_ ?_ 9 33 ?assign ?body ?done ?stop
  · exact OwnFrom.and (ownFrom_bx _ (fun _ => _) (fun _ => _) _) (OwnFrom.and (ownFrom_bx _ (fun _ => _) (fun _ => _) _) (OwnFrom.and (ownFrom_bx _ (fun _ => _) (fun _ => _) _) (ownFrom_pure _ _)))
  · intro cc
    refine OwnFrom.and (ownFrom_kpt _ _ w6 (Nat.le_refl _)) (OwnFrom.and (ownFrom_pure _ _) ?_)
    rintro pre X' Y' row ⟨pre', x, e1, e2, e3, b1, b2, b3⟩ hg hr
    exact ⟨pre', x, e1, e2, e3, ownFrom_bx w6.heap.size (fun _ : Unit => _) (fun _ => _) _ () X' Y' row b1 hg hr, ownFrom_bx w6.heap.size (fun _ : Unit => _) (fun _ => _) _ () X' Y' row b2 hg hr, ownFrom_bx w6.heap.size (fun _ : Unit => _) (fun _ => _) _ () X' Y' row b3 hg hr⟩
  · exact ⟨X4, X5, X6, fun x hx => by cases hx⟩
  case assign =>
    rintro l x V K hK
    dsimp only [encP]
    gi_wp2
    exact hK
  case body =>
    rintro l pre x b V hbV hx hk ⟨hR4, hR5, hR6, hall⟩ hlt
    have x1 := x.2.1
    have x2 := x.2.2
    have cx : V.cell? ⟨b, 0, none⟩ = some (.int .i8 (x.1.1 : Int)) := hx.cell 0
    have cy : V.cell? ⟨b, 1, none⟩ = some (.int .i8 (x.1.2 : Int)) := hx.cell 1
    have hP : Bx V w1.heap.size #[.pointer (some ⟨p, 0, none⟩)] 130 := X7.of_block (hk.block X7.lt (by omega))
    have h3 : Bx V (w.heap.size + 1) #[.int .i64 fall] 2 := X3.of_block (hk.block X3.lt (by omega))
    have cp : V.cell? ⟨w1.heap.size, 0, none⟩ = some (.pointer (some ⟨p, 0, none⟩)) := hP.cell 0
    have hLV : LandAt V p m n W H h c := hL.kpt hk (by omega) (by omega)
    have HALL := Lib.hid hall
    clear hall
    have K0 := Kpt.refl w6.heap.size (fun k => k = w.heap.size + 1 + 1 ∨ k = w.heap.size + 1 + 1 + 1 ∨ k = w.heap.size + 1 + 1 + 1 + 1) V
    gi_wp2_with (refine ⟨trivial, ?_⟩; gi_at_call 127; refine (CallsIn.inRound l (callsIn_wide.2 (site_any W H x.1.1 x.1.2 p m n h c _ hW9 hH9 x1 x2 HH.out HC.out HG.out hLV))).mono ?_)
    rintro e w7 ⟨hb, v, rfl, hs⟩
    replace hx := hx.below hb
    replace hR4 := hR4.below hb
    replace hR5 := hR5.below hb
    replace hR6 := hR6.below hb
    replace h3 := h3.below hb
    replace K0 := K0.below hb
    clear hb cx cy cp hLV hP
    rcases hs with ⟨i, hin, hsi, rfl⟩ | ⟨hna, rfl⟩
    · have hns : ¬ ShortAt W H h n c fall x.1 := fun k => k.1 ⟨i, hin, hsi⟩
      have HNS := Lib.hid hns
      clear hns hsi
      gi_wp2_with (refine wpListIn_assert rfl _ _ _ _ rfl _ _ rfl (point_no _ _) ?_)
      refine ⟨K0.alloc _, hR4.alloc _, hR5.alloc _, hR6.alloc _, fun y hy => ?_⟩
      rcases List.mem_append.1 hy with hy | hy
      · exact HALL.out y hy
      · obtain rfl : y = x := by simpa using hy
        exact HNS.out
    · unfold pointA
      obtain ⟨by_, hby⟩ : ∃ by_, by_ = htP h x.1 - htP h (lowP W H h x.1) := ⟨_, rfl⟩
      obtain ⟨ht0, hht⟩ : ∃ ht0, ht0 = htP h x.1 := ⟨_, rfl⟩
      obtain ⟨lx, hlx⟩ : ∃ lx : Int, lx = ((lowP W H h x.1).1 : Int) := ⟨_, rfl⟩
      obtain ⟨ly, hly⟩ : ∃ ly : Int, ly = ((lowP W H h x.1).2 : Int) := ⟨_, rfl⟩
      have hsh : ShortAt W H h n c fall x.1 ↔ by_ < fall := by
        rw [hby]; exact ⟨fun k => k.2, fun k => ⟨hna, k⟩⟩
      have HSH := Lib.hid hsh
      rw [← hby, ← hht, ← hlx, ← hly]
      clear hby hht hlx hly hsh hna
      have ob : ∃ ob : Obj, ob = .cells #[.int .i64 ht0, .int .i8 lx, .int .i8 ly, .int .i64 by_] 209 := ⟨_, rfl⟩
      have d30 : (w7.alloc (.cells #[.int .i64 ht0, .int .i8 lx, .int .i8 ly, .int .i64 by_] 209)).cell? ⟨w.heap.size + 1, 0, none⟩ = some (.int .i64 fall) := (h3.alloc _).cell 0
      by_cases hbf : by_ < fall
      · have e0 := (hx.alloc (.cells #[.int .i64 ht0, .int .i8 lx, .int .i8 ly, .int .i64 by_] 209)).cell 0
        have e1 := (hx.alloc (.cells #[.int .i64 ht0, .int .i8 lx, .int .i8 ly, .int .i64 by_] 209)).cell 1
        simp only [List.getElem?_toArray, List.getElem?_cons_zero, List.getElem?_cons_succ] at e0 e1
        replace hR4 := hR4.alloc (.cells #[.int .i64 ht0, .int .i8 lx, .int .i8 ly, .int .i64 by_] 209)
        replace hR5 := hR5.alloc (.cells #[.int .i64 ht0, .int .i8 lx, .int .i8 ly, .int .i64 by_] 209)
        replace hR6 := hR6.alloc (.cells #[.int .i64 ht0, .int .i8 lx, .int .i8 ly, .int .i64 by_] 209)
        replace K0 := K0.alloc (.cells #[.int .i64 ht0, .int .i8 lx, .int .i8 ly, .int .i64 by_] 209)
        have f40 := hR4.frozen 0
        have f41 := hR4.frozen 1
        have f50 := hR5.frozen 0
        have f60 := hR6.frozen 0
        have s40 := hR4.cell 0
        have s41 := hR4.cell 1
        have s50 := hR5.cell 0
        have s60 := hR6.cell 0
        gi_wp2_with (refine wpListIn_assert rfl _ _ _ _ rfl _ _ rfl (point_yes _ _) ?_)
        have K1 := (((K0.setCell (b := w.heap.size + 1 + 1) (Or.inl rfl) 0 (.int .i8 (x.1.1 : Int))).setCell (b := w.heap.size + 1 + 1) (Or.inl rfl) 1 (.int .i8 (x.1.2 : Int))).setCell (b := w.heap.size + 1 + 1 + 1) (Or.inr (Or.inl rfl)) 0 (.bool true)).setCell (b := w.heap.size + 1 + 1 + 1 + 1) (Or.inr (Or.inr rfl)) 0 (.int .i64 0)
        refine ⟨K1.keepsFrom, hk.trans K1, rfl, pre, x, rfl, HSH.out.2 hbf, HALL.out, ?_, ?_, ?_⟩
        · exact (((hR4.set 0 (.int .i8 (x.1.1 : Int))).set 1 (.int .i8 (x.1.2 : Int))).other (g := w.heap.size + 1 + 1 + 1) (o := 0) (.bool true) (by omega)).other (g := w.heap.size + 1 + 1 + 1 + 1) (o := 0) (.int .i64 0) (by omega)
        · exact (((hR5.other (g := w.heap.size + 1 + 1) (o := 0) (.int .i8 (x.1.1 : Int)) (by omega)).other (g := w.heap.size + 1 + 1) (o := 1) (.int .i8 (x.1.2 : Int)) (by omega)).set 0 (.bool true)).other (g := w.heap.size + 1 + 1 + 1 + 1) (o := 0) (.int .i64 0) (by omega)
        · exact (((hR6.other (g := w.heap.size + 1 + 1) (o := 0) (.int .i8 (x.1.1 : Int)) (by omega)).other (g := w.heap.size + 1 + 1) (o := 1) (.int .i8 (x.1.2 : Int)) (by omega)).other (g := w.heap.size + 1 + 1 + 1) (o := 0) (.bool true) (by omega)).set 0 (.int .i64 0)
      · have hns : ¬ ShortAt W H h n c fall x.1 := fun k => hbf (HSH.out.1 k)
        have HNS := Lib.hid hns
        clear hns
        gi_wp2_with (refine wpListIn_assert rfl _ _ _ _ rfl _ _ rfl (point_yes _ _) ?_)
        refine ⟨K0.alloc _, hR4.alloc _, hR5.alloc _, hR6.alloc _, fun y hy => ?_⟩
        rcases List.mem_append.1 hy with hy | hy
        · exact HALL.out y hy
        · obtain rfl : y = x := by simpa using hy
          exact HNS.out
  case done =>
    rintro D V hD hk ⟨X4, X5, X6, hall⟩ hdef
    have HALL := Lib.hid hall
    clear hall
    have s40 := X4.cell 0
    have s41 := X4.cell 1
    have s50 := X5.cell 0
    have s60 := X6.cell 0
    have f40 := X4.frozen 0
    have f41 := X4.frozen 1
    have f50 := X5.frozen 0
    have f60 := X6.frozen 0
    gi_wp2
    have Y4 := (((X4.set 0 (.int .i8 0)).set 1 (.int .i8 0)).other (g := w.heap.size + 1 + 1 + 1) (o := 0) (.bool false) (by omega)).other (g := w.heap.size + 1 + 1 + 1 + 1) (o := 0) (.int .i64 0) (by omega)
    have Y5 := (((X5.other (g := w.heap.size + 1 + 1) (o := 0) (.int .i8 0) (by omega)).other (g := w.heap.size + 1 + 1) (o := 1) (.int .i8 0) (by omega)).set 0 (.bool false)).other (g := w.heap.size + 1 + 1 + 1 + 1) (o := 0) (.int .i64 0) (by omega)
    have Y6 := (((X6.other (g := w.heap.size + 1 + 1) (o := 0) (.int .i8 0) (by omega)).other (g := w.heap.size + 1 + 1) (o := 1) (.int .i8 0) (by omega)).other (g := w.heap.size + 1 + 1 + 1) (o := 0) (.bool false) (by omega)).set 0 (.int .i64 0)
    have BB := ((((B.trans ((hk.toBelow (k0 := w.heap.size) (fun k hk => by omega) B.size))).setCell (p := ⟨w.heap.size + 1 + 1, 0, none⟩) (by simp; omega) (.int .i8 0)).setCell (p := ⟨w.heap.size + 1 + 1, 1, none⟩) (by simp; omega) (.int .i8 0)).setCell (p := ⟨w.heap.size + 1 + 1 + 1, 0, none⟩) (by simp; omega) (.bool false)).setCell (p := ⟨w.heap.size + 1 + 1 + 1 + 1, 0, none⟩) (by simp; omega) (.int .i64 0)
    have hd' := deferred_set (deferred_set (deferred_set (deferred_set hdef ⟨w.heap.size + 1 + 1, 0, none⟩ (.int .i8 0)) ⟨w.heap.size + 1 + 1, 1, none⟩ (.int .i8 0)) ⟨w.heap.size + 1 + 1 + 1, 0, none⟩ (.bool false)) ⟨w.heap.size + 1 + 1 + 1 + 1, 0, none⟩ (.int .i64 0)
    have q40 := (Y4.put hd').cell 0
    have q41 := (Y4.put hd').cell 1
    have q50 := (Y5.put hd').cell 0
    have q60 := (Y6.put hd').cell 0
    simp at q40 q41 q50 q60
    refine ⟨by simp, .inl ⟨_, _, rfl, run_takeDeferred hd', ?_⟩⟩
    refine ⟨.tuple #[.agg #[.int .i8 0, .int .i8 0], .bool false, .int .i64 0], by simp [results, Try.results157, go_sem, q40, q41, q50, q60], BB.trans (belowK_b (w := w) (Nat.le_refl _) _ D _ _ (by have := B.size; omega) hd' rfl rfl), .inr ⟨fun j hj => ?_, rfl⟩⟩
    have hcl := cl_lt (by omega : W ≤ 12) (by omega : H ≤ 12) hj
    have hmem := mem_uptoP hp hcl.1 hcl.2
    exact HALL.out _ hmem
  case stop =>
    rintro D cc k V hD hkk ⟨hk, rfl, pre', x, he, hsx, hall, X4, X5, X6⟩ hdef
    gi_wp2
    have q40 := (X4.put hdef).cell 0
    have q41 := (X4.put hdef).cell 1
    have q50 := (X5.put hdef).cell 0
    have q60 := (X6.put hdef).cell 0
    simp at q40 q41 q50 q60
    have BB := B.trans ((hk.toBelow (k0 := w.heap.size) (fun k hk => by omega) B.size))
    obtain ⟨k', rfl⟩ : ∃ k', k = k' + 1 := by
      cases k with
      | zero => simp [uptoP] at he
      | succ k' => exact ⟨k', rfl⟩
    rw [uptoP_succ] at he
    obtain ⟨he1, he2⟩ := List.append_inj' he rfl
    obtain rfl : cellP hp k' = x := by simpa using he2
    subst he1
    have hval := cellP_val hp (k := k') (by omega)
    have hcl : (cellP hp k').1 = cl W k' := hval
    rw [hcl] at hsx q40 q41
    refine ⟨by simp, .inl ⟨_, _, rfl, run_takeDeferred hdef, ?_⟩⟩
    refine ⟨.tuple #[.agg (cellA (cl W k')), .bool true, .int .i64 0], by simp [results, Try.results157, go_sem, cellA, q40, q41, q50, q60], BB.trans (belowK_b (w := w) (Nat.le_refl _) _ D _ _ (by have := B.size; omega) hdef rfl rfl), .inl ⟨k', by omega, hsx, fun j hj => ?_, rfl⟩⟩
    have hjm : cellP hp j ∈ uptoP hp k' := by unfold uptoP; exact List.mem_map.2 ⟨j, List.mem_range.2 hj, rfl⟩
    have hjv := cellP_val hp (k := j) (by omega)
    have := hall _ hjm
    rw [hjv] at this
    exact this
end Go.Proofs.Ytegnhpanlbfmdaa
