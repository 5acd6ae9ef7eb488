/-
  What a way lifts; the first error of a way. Conditions stand at each.
-/
import Derived.Test.YtkggimalkjjnoaaRows
import Derived.Test.YtkggimalkjjnoaaPipe
import Derived.Test.YtkggimalkjjnoaaHasN
import Derived.Test.YtkggimalkjjnoaaTold
import Derived.Test.YtkggimalkjjnoaaIvIn
namespace Go.Proofs.Ytkggimalkjjnoaa
open Go Go.ChangeShapes Go.WideShapes Go.ChangeAt Go.RowKit Go.Shelf
set_option linter.unusedVariables false
set_option linter.unusedSimpArgs false
set_option maxRecDepth 100000
set_option maxHeartbeats 4000000
open Classical in
/-- the slabs that the first cells of a way lift. -/
noncomputable def lfL (G : Nat → Int) (c : Nat → Int) : Nat → List Int
  | 0 => []
  | k + 1 => if 0 ≤ G ((c (2 * k + 1)).toNat * 12 + (c (2 * k)).toNat) - 1 ∧ ¬ InL (lfL G c k).length (fun j => (lfL G c k).getD j 0) (G ((c (2 * k + 1)).toNat * 12 + (c (2 * k)).toNat) - 1) then lfL G c k ++ [G ((c (2 * k + 1)).toNat * 12 + (c (2 * k)).toNat) - 1] else lfL G c k
theorem lfL_length (G c) : ∀ k, (lfL G c k).length ≤ k
  | 0 => by simp [lfL]
  | k + 1 => by
    have := lfL_length G c k
    unfold lfL
    split
    · rw [List.length_append]; simp; omega
    · omega
def PcPost (X Y : Int) (n : Nat) (c : Nat → Int) (w : World) (e : Ending) (w' : World) : Prop := Below w.heap.size w w' ∧ ∃ r, WyCode X Y n c r ∧ e = .returned (.int .i64 r)
theorem rule_0 (w : World) : (Instr.index 275 (.agg #[.func (.func 197) #[] #[], .int .i64 3, .func (.func 198) #[] #[], .int .i64 2, .func (.func 199) #[] #[], .int .i64 4]) (.int .i64 0)).run Try.prog w = .ok (.agg #[.func (.func 197) #[] #[], .int .i64 3]) w := by kernel_rfl
theorem rule_1 (w : World) : (Instr.index 275 (.agg #[.func (.func 197) #[] #[], .int .i64 3, .func (.func 198) #[] #[], .int .i64 2, .func (.func 199) #[] #[], .int .i64 4]) (.int .i64 1)).run Try.prog w = .ok (.agg #[.func (.func 198) #[] #[], .int .i64 2]) w := by kernel_rfl
theorem rule_2 (w : World) : (Instr.index 275 (.agg #[.func (.func 197) #[] #[], .int .i64 3, .func (.func 198) #[] #[], .int .i64 2, .func (.func 199) #[] #[], .int .i64 4]) (.int .i64 2)).run Try.prog w = .ok (.agg #[.func (.func 199) #[] #[], .int .i64 4]) w := by kernel_rfl
theorem code_any (A : Option Addr) (n cap : Nat) (c : Nat → Int) (q : Value) (X Y : Int) (w : World) (hn : n ≤ 1048576) (hX : 1 ≤ X ∧ X ≤ 12) (hY : 1 ≤ Y ∧ Y ≤ 12) (hc : ∀ j, -128 ≤ c j ∧ c j ≤ 127) (hr : RdK .i8 w w.heap.size A (2 * n) c) :
    Calls Try.prog 104 #[.slice A n cap, .agg #[.int .i8 X, .int .i8 Y, q]] w (PcPost X Y n c w) := by
  have HR := Lib.hid hr
  have HC := Lib.hid hc
  have hE1 : ∀ (args : Array Value) (w : World), (callFunc 197 args).run Try.prog w = .ok (.enter 197 args) w := enters_of Try.func197 (by kernel_rfl) rfl
  have hE2 : ∀ (args : Array Value) (w : World), (callFunc 198 args).run Try.prog w = .ok (.enter 198 args) w := enters_of Try.func198 (by kernel_rfl) rfl
  have hE3 : ∀ (args : Array Value) (w : World), (callFunc 199 args).run Try.prog w = .ok (.enter 199 args) w := enters_of Try.func199 (by kernel_rfl) rfl
  clear hr hc
  have X3 := Sq.new w X Y q 34
  have B := al (Below.refl w.heap.size w) (.cells #[.int .i8 X, .int .i8 Y, q] 34)
  go_enter Try.func104, Try.ntmps104
  go_upto_region 1 with fail
  obtain ⟨W0, hW0⟩ : ∃ W0 : World, W0 = (w.alloc (.cells #[.int .i8 X, .int .i8 Y, q] 34)) := ⟨_, rfl⟩
  rw [← hW0] at X3 B ⊢
  clear hW0
  obtain ⟨l3, p3, q3, r3⟩ := id X3
  have X5 : Sq (W0.alloc (.cells #[.func (.func 197) #[] #[], .int .i64 3, .func (.func 198) #[] #[], .int .i64 2, .func (.func 199) #[] #[], .int .i64 4] 275)) w.heap.size X Y q := X3.alloc _
  have B5 := al B (.cells #[.func (.func 197) #[] #[], .int .i64 3, .func (.func 198) #[] #[], .int .i64 2, .func (.func 199) #[] #[], .int .i64 4] 275)
  have X6 := Bx.new W0 #[.func (.func 197) #[] #[], .int .i64 3, .func (.func 198) #[] #[], .int .i64 2, .func (.func 199) #[] #[], .int .i64 4] 275
  obtain ⟨W1, hW1⟩ : ∃ W1 : World, W1 = (W0.alloc (.cells #[.func (.func 197) #[] #[], .int .i64 3, .func (.func 198) #[] #[], .int .i64 2, .func (.func 199) #[] #[], .int .i64 4] 275)) := ⟨_, rfl⟩
  go_wp2_with (first
    | (refine wpList_store_new rfl _ _ _ rfl rfl rfl (by kernel_rfl) (by kernel_rfl) (by kernel_rfl) ?_
       rw [← hW1] at X5 B5 X6 ⊢
       clear hW1 X3 B l3 p3 q3 r3)
    | (refine wpList_load_box X6 rfl _ _ rfl rfl _ Try.underlying275 rfl (by kernel_rfl) ?_))
  clear X6
  go_loopw [7, 13] (fun t7 t13 wr => ∃ k : Nat, k ≤ 3 ∧ t13 = .int .i64 k ∧ Below w.heap.size w wr ∧ Sq wr w.heap.size X Y q ∧ (1 ≤ k → n ≤ 100) ∧ (2 ≤ k → CellsIn X Y n c) ∧ (3 ≤ k → Joined n c)) (fun t7 t13 wr => 3 - (intOf t13).toNat)
  case atStart => exact ⟨0, by omega, rfl, B5, X5, by omega, by omega, by omega⟩
  case round =>
    clear B5 X5
    obtain ⟨k, hk, rfl, B, X3, h1, h2, h3⟩ := hrel
    have H1 := Lib.hid h1
    have H2 := Lib.hid h2
    have H3 := Lib.hid h3
    clear h1 h2 h3
    by_cases hlt : k < 3
    · obtain ⟨r, hr⟩ : ∃ r : Bool, r = true ↔ ((k = 0 ∧ n ≤ 100) ∨ (k = 1 ∧ CellsIn X Y n c) ∨ (k = 2 ∧ Joined n c)) := by
        by_cases h : ((k = 0 ∧ n ≤ 100) ∨ (k = 1 ∧ CellsIn X Y n c) ∨ (k = 2 ∧ Joined n c))
        · exact ⟨true, by simp [h]⟩
        · exact ⟨false, by simp [h]⟩
      have HRR := Lib.hid hr
      clear hr
      have hk3 : k = 0 ∨ k = 1 ∨ k = 2 := by omega
      rcases hk3 with rfl | rfl | rfl
      · have HCALL : Hid (∀ W : World, Below w.heap.size w W → Calls Try.prog 197 #[.slice A n cap, .agg #[.int .i8 X, .int .i8 Y, q]] W fun e w' => e = .returned (.bool r) ∧ Below W.heap.size W w') := Lib.hid (fun W hW => by
          have this := isShort_any A n cap q W X Y
          by_cases h : n ≤ 100
          · have hr1 : r = true := HRR.out.2 (.inl ⟨rfl, h⟩)
            rw [show decide (n ≤ 100) = true by simpa using h] at this
            rw [hr1]
            exact this
          · have hr1 : r = false := by
              cases r with
              | false => rfl
              | true =>
                rcases HRR.out.1 rfl with h' | h' | h'
                · exact absurd h'.2 h
                · exact absurd h'.1 (by omega)
                · exact absurd h'.1 (by omega)
            rw [show decide (n ≤ 100) = false by simpa using h] at this
            rw [hr1]
            exact this)
        have X7 := Bx.new wr #[.func (.func 197) #[] #[], .int .i64 3] 274
        have X4 := X3.alloc (.cells #[.func (.func 197) #[] #[], .int .i64 3] 274)
        have B4 := al B (.cells #[.func (.func 197) #[] #[], .int .i64 3] 274)
        obtain ⟨W2, hW2⟩ : ∃ W2 : World, W2 = wr.alloc (.cells #[.func (.func 197) #[] #[], .int .i64 3] 274) := ⟨_, rfl⟩
        rw [← hW2] at X7 X4 B4
        obtain ⟨l3, p3, q3, r3⟩ := id X4
        have c7 := X7.cell 0
        have hix := rule_0
        simp only [List.getElem?_toArray, List.getElem?_cons_zero] at c7
        go_wp2_with (first
          | (refine wpList_store_new rfl _ _ _ rfl rfl rfl (by kernel_rfl) (by kernel_rfl) (by kernel_rfl) ?_
             rw [← hW2]
             clear hW2))
        refine (HCALL.out _ B4).mono ?_
        rintro e w3 ⟨rfl, hb⟩
        have X8 := X7.below hb
        have c8 := X8.cell 1
        simp only [List.getElem?_toArray, List.getElem?_cons_zero, List.getElem?_cons_succ] at c8
        have X9 := X4.below hb
        have B9 := nxt B4 hb
        clear l3 p3 q3 r3 c7 hix hb X7 X8 X4 B4 X3 B HCALL hE1 hE2 hE3
        cases r with
        | true =>
          have HT : Hid (n ≤ 100) := Lib.hid (by rcases HRR.out.1 rfl with h | h | h; exact h.2; omega; omega)
          clear HRR c8
          go_wp2
          exact ⟨⟨0+1, by omega, by first | go_num | simp, B9, X9, fun _ => HT.out, by omega, by omega⟩, by simp [intOf]⟩
        | false =>
          have HF : Hid (¬ (n ≤ 100)) := Lib.hid (by
            intro h
            have := HRR.out.2 (by exact .inl ⟨by first | rfl | trivial, h⟩)
            cases this)
          clear HRR
          go_wp2
          go_ret
          exact ⟨B9, 3, .inl ⟨by have := HF.out; omega, rfl⟩, rfl⟩
      · have HCALL : Hid (∀ W : World, Below w.heap.size w W → Calls Try.prog 198 #[.slice A n cap, .agg #[.int .i8 X, .int .i8 Y, q]] W fun e w' => e = .returned (.bool r) ∧ Below W.heap.size W w') := Lib.hid (fun W hW => isWithin_any A n cap c q X Y r W hn (by omega) (by omega) HC.out ((HR.out.below hW).mono hW.size) ⟨fun h => (by rcases HRR.out.1 h with h | h | h; exact absurd h.1 (by omega); exact h.2; exact absurd h.1 (by omega)), fun h => HRR.out.2 (.inr (.inl ⟨rfl, h⟩))⟩)
        have X7 := Bx.new wr #[.func (.func 198) #[] #[], .int .i64 2] 274
        have X4 := X3.alloc (.cells #[.func (.func 198) #[] #[], .int .i64 2] 274)
        have B4 := al B (.cells #[.func (.func 198) #[] #[], .int .i64 2] 274)
        obtain ⟨W2, hW2⟩ : ∃ W2 : World, W2 = wr.alloc (.cells #[.func (.func 198) #[] #[], .int .i64 2] 274) := ⟨_, rfl⟩
        rw [← hW2] at X7 X4 B4
        obtain ⟨l3, p3, q3, r3⟩ := id X4
        have c7 := X7.cell 0
        have hix := rule_1
        simp only [List.getElem?_toArray, List.getElem?_cons_zero] at c7
        go_wp2_with (first
          | (refine wpList_store_new rfl _ _ _ rfl rfl rfl (by kernel_rfl) (by kernel_rfl) (by kernel_rfl) ?_
             rw [← hW2]
             clear hW2))
        refine (HCALL.out _ B4).mono ?_
        rintro e w3 ⟨rfl, hb⟩
        have X8 := X7.below hb
        have c8 := X8.cell 1
        simp only [List.getElem?_toArray, List.getElem?_cons_zero, List.getElem?_cons_succ] at c8
        have X9 := X4.below hb
        have B9 := nxt B4 hb
        clear l3 p3 q3 r3 c7 hix hb X7 X8 X4 B4 X3 B HCALL hE1 hE2 hE3
        cases r with
        | true =>
          have HT : Hid (CellsIn X Y n c) := Lib.hid (by rcases HRR.out.1 rfl with h | h | h; exact absurd h.1 (by omega); exact h.2; exact absurd h.1 (by omega))
          clear HRR c8
          go_wp2
          exact ⟨⟨1+1, by omega, by first | go_num | simp, B9, X9, fun _ => H1.out (by omega), fun _ => HT.out, by omega⟩, by simp [intOf]⟩
        | false =>
          have HF : Hid (¬ (CellsIn X Y n c)) := Lib.hid (by
            intro h
            have := HRR.out.2 (by exact .inr (.inl ⟨by first | rfl | trivial, h⟩))
            cases this)
          clear HRR
          go_wp2
          go_ret
          exact ⟨B9, 2, .inr (.inl ⟨H1.out (by omega), HF.out, rfl⟩), rfl⟩
      · have HCALL : Hid (∀ W : World, Below w.heap.size w W → Calls Try.prog 199 #[.slice A n cap, .agg #[.int .i8 X, .int .i8 Y, q]] W fun e w' => e = .returned (.bool r) ∧ Below W.heap.size W w') := Lib.hid (fun W hW => isJoined_any A n cap c q X Y r W hn (by omega) (by omega) (H2.out (by omega)) ((HR.out.below hW).mono hW.size) ⟨fun h => (by rcases HRR.out.1 h with h | h | h; exact absurd h.1 (by omega); exact absurd h.1 (by omega); exact h.2), fun h => HRR.out.2 (.inr (.inr ⟨rfl, h⟩))⟩)
        have X7 := Bx.new wr #[.func (.func 199) #[] #[], .int .i64 4] 274
        have X4 := X3.alloc (.cells #[.func (.func 199) #[] #[], .int .i64 4] 274)
        have B4 := al B (.cells #[.func (.func 199) #[] #[], .int .i64 4] 274)
        obtain ⟨W2, hW2⟩ : ∃ W2 : World, W2 = wr.alloc (.cells #[.func (.func 199) #[] #[], .int .i64 4] 274) := ⟨_, rfl⟩
        rw [← hW2] at X7 X4 B4
        obtain ⟨l3, p3, q3, r3⟩ := id X4
        have c7 := X7.cell 0
        have hix := rule_2
        simp only [List.getElem?_toArray, List.getElem?_cons_zero] at c7
        go_wp2_with (first
          | (refine wpList_store_new rfl _ _ _ rfl rfl rfl (by kernel_rfl) (by kernel_rfl) (by kernel_rfl) ?_
             rw [← hW2]
             clear hW2))
        refine (HCALL.out _ B4).mono ?_
        rintro e w3 ⟨rfl, hb⟩
        have X8 := X7.below hb
        have c8 := X8.cell 1
        simp only [List.getElem?_toArray, List.getElem?_cons_zero, List.getElem?_cons_succ] at c8
        have X9 := X4.below hb
        have B9 := nxt B4 hb
        clear l3 p3 q3 r3 c7 hix hb X7 X8 X4 B4 X3 B HCALL hE1 hE2 hE3
        cases r with
        | true =>
          have HT : Hid (Joined n c) := Lib.hid (by rcases HRR.out.1 rfl with h | h | h; exact absurd h.1 (by omega); exact absurd h.1 (by omega); exact h.2)
          clear HRR c8
          go_wp2
          exact ⟨⟨2+1, by omega, by first | go_num | simp, B9, X9, fun _ => H1.out (by omega), fun _ => H2.out (by omega), fun _ => HT.out⟩, by simp [intOf]⟩
        | false =>
          have HF : Hid (¬ (Joined n c)) := Lib.hid (by
            intro h
            have := HRR.out.2 (by exact .inr (.inr ⟨by first | rfl | trivial, h⟩))
            cases this)
          clear HRR
          go_wp2
          go_ret
          exact ⟨B9, 4, .inr (.inr (.inl ⟨H1.out (by omega), H2.out (by omega), HF.out, rfl⟩)), rfl⟩
    · obtain rfl : k = 3 := by omega
      go_wp2
      go_ret
      exact ⟨B, 0, .inr (.inr (.inr ⟨H1.out (by omega), H2.out (by omega), H3.out (by omega), rfl⟩)), rfl⟩
end Go.Proofs.Ytkggimalkjjnoaa
