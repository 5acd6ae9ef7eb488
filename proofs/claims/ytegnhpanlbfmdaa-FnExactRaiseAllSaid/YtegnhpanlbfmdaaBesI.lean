/-
  The program's beside and lowestBeside. Conditions stand at each.
-/
import Derived.Test.YtegnhpanlbfmdaaRows
import Derived.Test.YtegnhpanlbfmdaaBesM
import Derived.Test.YtegnhpanlbfmdaaLandOf
import Derived.Test.YtegnhpanlbfmdaaGndI
namespace Go.Proofs.Ytegnhpanlbfmdaa
open Go Go.ChangeShapes Go.WideShapes Go.ChangeAt Go.RowKit
set_option linter.unusedVariables false
set_option linter.unusedSimpArgs false
set_option maxRecDepth 100000
set_option maxHeartbeats 4000000

theorem has_yes (X Y a b : Int) (w : World) (hX : -128 ≤ X ∧ X ≤ 127) (hY : -128 ≤ Y ∧ Y ≤ 127) (ha : -128 ≤ a ∧ a ≤ 127) (hb : -128 ≤ b ∧ b ≤ 127) (hr : gIs X Y a b) : Calls Try.prog 199 #[.agg #[.int .i8 X, .int .i8 Y], .agg #[.int .i8 a, .int .i8 b]] w fun e w' => e = .returned (.bool true) ∧ Below w.heap.size w w' :=
  has_any X Y a b true w hX hY ha hb ⟨fun _ => hr, fun _ => rfl⟩
theorem has_no (X Y a b : Int) (w : World) (hX : -128 ≤ X ∧ X ≤ 127) (hY : -128 ≤ Y ∧ Y ≤ 127) (ha : -128 ≤ a ∧ a ≤ 127) (hb : -128 ≤ b ∧ b ≤ 127) (hr : ¬ gIs X Y a b) : Calls Try.prog 199 #[.agg #[.int .i8 X, .int .i8 Y], .agg #[.int .i8 a, .int .i8 b]] w fun e w' => e = .returned (.bool false) ∧ Below w.heap.size w w' :=
  has_any X Y a b false w hX hY ha hb ⟨(fun k => by cases k), fun k => absurd k hr⟩

theorem wpList_index {P : Program} {ops : Array Oper} {rest : List Oper} {o : Oper} {a : Act} {w : World} {Q : Exit → Act → World → Prop} (hgd : o.guard = none) (t : TypeId) (x y : Operand) (ho : o.op = .index t x y) (v i r : Value) (hx : a.eval x = v) (hy : a.eval y = i) (hrun : (Instr.index t v i).run P w = .ok r w)
    (h : wpList P ops Q rest (a.put o.dst r) w) : wpList P ops Q (o :: rest) a w := by
  refine wpList_plain hgd fun _ hK => ?_
  unfold Oper.wp execOp
  simp only [ho, hx, hy, Sem.run_bind, hrun, Result.andThen_ok]
  exact hK _ _ h
theorem index4 (x y : Nat) {k : Nat} (hk : k < 4) (w : World) : (Instr.index 212 (.agg #[.int .i8 (x : Int), .int .i8 ((y : Int) - 1), .int .i8 ((x : Int) - 1), .int .i8 (y : Int), .int .i8 ((x : Int) + 1), .int .i8 (y : Int), .int .i8 (x : Int), .int .i8 ((y : Int) + 1)]) (.int .i64 (k : Int))).run Try.prog w = .ok (.agg #[.int .i8 (nbx x k), .int .i8 (nby y k)]) w := by
  match k, hk with
  | 0, _ => go_simp; rfl
  | 1, _ => go_simp; rfl
  | 2, _ => go_simp; rfl
  | 3, _ => go_simp; rfl

theorem ibes_any (W H x y : Nat) (w : World) (hW : W ≤ 9) (hH : H ≤ 9) (hx : x < W) (hy : y < H) :
    Calls Try.prog 142 #[.agg #[.int .i8 (W : Int), .int .i8 (H : Int)], .agg #[.int .i8 (x : Int), .int .i8 (y : Int)]] w fun e w' => Below w.heap.size w w' ∧ ∃ v, e = .returned v ∧ OwnC w' w.heap.size v (besL W H x y) := by
  obtain ⟨i0, hi, hz0, hz1, hz2⟩ := info_parts infoCell
  have hx8 : x ≤ 8 := by omega
  have hy8 : y ≤ 8 := by omega
  have wx1 : IntKind.i8.wrap ((x : Int) - 1) = (x : Int) - 1 := IntWalk.i8_in _ (by omega)
  have wy1 : IntKind.i8.wrap ((y : Int) - 1) = (y : Int) - 1 := IntWalk.i8_in _ (by omega)
  have wx2 : IntKind.i8.wrap ((x : Int) + 1) = (x : Int) + 1 := IntWalk.i8_in _ (by omega)
  have wy2 : IntKind.i8.wrap ((y : Int) + 1) = (y : Int) + 1 := IntWalk.i8_in _ (by omega)
  go_enter Try.func142, Try.ntmps142
  go_wp2
  have X2 := (Bx.new w #[.int .i8 (W : Int), .int .i8 (H : Int)] 114).alloc (.cells #[.int .i8 (x : Int), .int .i8 (y : Int)] 40)
  have B0 := al (al (Below.refl w.heap.size w) (.cells #[.int .i8 (W : Int), .int .i8 (H : Int)] 114)) (.cells #[.int .i8 (x : Int), .int .i8 (y : Int)] 40)
  obtain ⟨W0, hW0⟩ : ∃ W0 : World, W0 = (w.alloc (.cells #[.int .i8 (W : Int), .int .i8 (H : Int)] 114)).alloc (.cells #[.int .i8 (x : Int), .int .i8 (y : Int)] 40) := ⟨_, rfl⟩
  rw [← hW0] at X2 B0 ⊢
  have hs0 := X2.lt
  have O0 : OwnC W0 W0.heap.size (.slice none 0 0) (besK W H x y 0) := ⟨rfl, .inl ⟨rfl, rfl⟩⟩
  clear hW0 wx1 wx2 wy1 wy2
  go_loopw [5, 7, 33] (fun t5 t7 t33 wr => ∃ k : Nat, k ≤ 4 ∧ t33 = .int .i64 k ∧ Below w.heap.size w wr ∧ Bx wr w.heap.size #[.int .i8 (W : Int), .int .i8 (H : Int)] 114 ∧ OwnC wr W0.heap.size t5 (besK W H x y k) ∧ W0.heap.size ≤ wr.heap.size) (fun t5 t7 t33 wr => 4 - (intOf t33).toNat)
  case atStart => exact ⟨0, by omega, rfl, B0, X2, O0, Nat.le_refl _⟩
  case round =>
    clear B0 X2 O0
    obtain ⟨k, hk, rfl, B, X2, O, hsw⟩ := hrel
    obtain ⟨v0, rfl⟩ : ∃ v0 : Value, v0 = u5 := ⟨_, rfl⟩
    obtain ⟨wo, rfl⟩ : ∃ wo : World, wo = wr := ⟨_, rfl⟩
    by_cases hk4 : k < 4
    · have hki : (k : Int) < 4 := by omega
      have hnx := nbx_le (x := x) (k := k)
      have hny := nby_le (y := y) (k := k)
      have Z2 := X2.alloc (.cells #[.int .i8 (nbx x k), .int .i8 (nby y k)] 40)
      have p3 : (wo.alloc (.cells #[.int .i8 (nbx x k), .int .i8 (nby y k)] 40)).cell? ⟨w.heap.size, 0, none⟩ = some (.int .i8 (W : Int)) := Z2.cell 0
      have q3 : (wo.alloc (.cells #[.int .i8 (nbx x k), .int .i8 (nby y k)] 40)).cell? ⟨w.heap.size, 1, none⟩ = some (.int .i8 (H : Int)) := Z2.cell 1
      have Y7 := Bx.new wo #[.int .i8 (nbx x k), .int .i8 (nby y k)] 40
      by_cases hin : gIs W H (nbx x k) (nby y k)
      · obtain ⟨a, b, ha, hb, haW, hbH⟩ := gIs_nat hin
        have e1 := besK_yes hin ha hb
        have hidx := fun w => index4 x y hk4 w
        have HI := Lib.hid hidx
        rw [ha] at p3 q3 Z2 Y7 hin HI
        rw [hb] at p3 q3 Z2 Y7 hin HI
        have hai : (a : Int) < 9 := by omega
        have hbi : (b : Int) < 9 := by omega
        have HL := Lib.hid (besK_length (W := W) (H := H) (x := x) (y := y) k)
        have HE := Lib.hid e1
        clear e1 ha hb hnx hny hidx
        go_wp2_with (refine wpList_index rfl _ _ _ rfl _ _ _ rfl rfl (HI.out _) ?_)
        refine (has_yes W H a b _ (by omega) (by omega) (by omega) (by omega) hin).mono ?_
        rintro e w5 ⟨rfl, hbl⟩
        replace O := OwnC.below (OwnC.alloc O _) hbl
        replace B := nxt (al B _) hbl
        have Y5 := Y7.below hbl
        have hsw5 : W0.heap.size ≤ w5.heap.size := by have := hbl.size; simp at this; omega
        have X5 := Z2.below hbl
        have c0 : w5.cell? ⟨wo.heap.size, 0, none⟩ = some (.int .i8 (a : Int)) := Y5.cell 0
        have c1 : w5.cell? ⟨wo.heap.size, 1, none⟩ = some (.int .i8 (b : Int)) := Y5.cell 1
        clear hbl p3 q3 Y7 Z2 X2
        go_wp2_with (at_builtin; refine wpList_append_own _ rfl _ _ 31 rfl W0.heap.size 40 i0 (.agg #[.int .i8 0, .int .i8 0]) 2 2 Try.underlying31 hi hz0 hz1 hz2 rfl (by decide) _ _ _ rfl (World.ownsRow.alloc O _) ⟨w5.heap.size, 0, none⟩ 1 1 [.int .i8 (a : Int), .int .i8 (b : Int)] rfl rfl (new_cells w5 #[.int .i8 (a : Int), .int .i8 (b : Int)] 40) one_ints (by have := HL.out; unfold maxLen; omega) (by have := HL.out; omega) (by simp; omega) ?_; intro v' w1 own' hgr _)
        have B1 : Below w.heap.size w w1 := (al B _).grown hgr (al B _).size (fun k e => by have := (World.ownsRow.lt O k e).1; omega)
        have O1 : OwnC w1 W0.heap.size v' (besK W H x y (k + 1)) := by
          unfold OwnC
          rw [HE.out, cellsL_append, cellsL_one, List.length_append]
          exact own'
        have X51 : Bx w1 w.heap.size #[.int .i8 (W : Int), .int .i8 (H : Int)] 114 := (X5.alloc _).of_block (hgr.block _ (X5.alloc _).lt (fun e => by have := (World.ownsRow.lt O _ e.symm).1; omega))
        have hgr1 := hgr.size
        clear own' hgr O B c0 c1
        go_wp2
        exact ⟨⟨k + 1, by omega, by first | go_num | simp, B1, X51, O1, by have := hgr1; simp at this; omega⟩, by simp [intOf]; omega⟩
      · have hidx := fun w => index4 x y hk4 w
        have HI := Lib.hid hidx
        have HE := Lib.hid (besK_no hin)
        have HIN := Lib.hid hin
        clear hin hidx
        go_wp2_with (refine wpList_index rfl _ _ _ rfl _ _ _ rfl rfl (HI.out _) ?_)
        refine (has_no W H (nbx x k) (nby y k) _ (by omega) (by omega) (by omega) (by omega) HIN.out).mono ?_
        rintro e w5 ⟨rfl, hbl⟩
        replace O := OwnC.below (OwnC.alloc O _) hbl
        replace B := nxt (al B _) hbl
        have X5 := Z2.below hbl
        have hsw5 : W0.heap.size ≤ w5.heap.size := by have := hbl.size; simp at this; omega
        clear hbl p3 q3 Y7 Z2 X2
        go_wp2
        exact ⟨⟨k + 1, by omega, by first | go_num | simp, B, X5, by rw [HE.out]; exact O, hsw5⟩, by simp [intOf]; omega⟩
    · obtain rfl : k = 4 := by omega
      go_wp2
      go_ret
      exact ⟨B, v0, rfl, World.ownsRow.mono O (by omega)⟩
end Go.Proofs.Ytegnhpanlbfmdaa
