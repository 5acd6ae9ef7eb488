/-
  Both sides of SameGround answer the same. Conditions stand at each.
-/
import Derived.Test.YtegnhpanlbfmdaaRows
import Derived.Test.YtegnhpanlbfmdaaCellsEq
import Derived.Test.YtegnhpanlbfmdaaGndI
import Derived.Test.YtegnhpanlbfmdaaIvEq
namespace Go.Proofs.Ytegnhpanlbfmdaa.sameGround
open Go Go.ChangeShapes Go.WideShapes Go.ChangeAt Go.RowKit
set_option linter.unusedVariables false
set_option linter.unusedSimpArgs false
set_option maxRecDepth 100000
set_option maxHeartbeats 2000000

def GSame (X Y : Int) (h : Nat → Int) (n : Nat) (c : Nat → Int) (X' Y' : Int) (h' : Nat → Int) (n' : Nat) (c' : Nat → Int) : Prop :=
  X = X' ∧ Y = Y' ∧ (∀ p, p < 81 → h p = h' p) ∧ (n = n' ∧ ∀ j, j < 2 * n → c j = c' j)
theorem hts_eql (f g : Nat → Int) (r : Bool) (hr : r = true ↔ ∀ p, p < 81 → f p = g p) (V : World) :
    (Op.equalIn 10000 25 (.agg (hV f)) (.agg (hV g))).run Try.prog V = .ok r V := by
  obtain ⟨i0, hi0⟩ : ∃ i, Try.prog.info? 23 = some i := Option.isSome_iff_exists.1 (by kernel_rfl)
  obtain ⟨i1, hi1, hz1⟩ : ∃ i, Try.prog.info? 24 = some i ∧ i.size = 9 := by
    have := info9
    cases hq : Try.prog.info? 24 with
    | none => rw [hq] at this; cases this
    | some i => rw [hq] at this; exact ⟨i, rfl, by simpa using this⟩
  have hE := run_equalIn_rows (P := Try.prog) V Try.underlying25 Try.underlying24 Try.underlying23 hi0 (by kernel_rfl) hi1 hz1 (by kernel_rfl) f g
  have hiff := agreeBB_iff (f := f) (g := g) (n := 9) (m := 9) (by omega)
  have : agreeBB f g 9 (List.range 9) = r := by rw [Bool.eq_iff_iff, hiff, hr]
  rw [← this]
  exact hE

theorem spec_any (X Y : Int) (h : Nat → Int) (g n : Nat) (c : Nat → Int) (X' Y' : Int) (h' : Nat → Int) (g' n' : Nat) (c' : Nat → Int) (r : Bool) (w : World) (hm : n ≤ 1048576) (hm' : n' ≤ 1048576) (hA : Ac w g n c) (hA' : Ac w g' n' c') (hr : r = true ↔ GSame X Y h n c X' Y' h' n' c') :
    Calls Try.prog 30 #[.agg (gV X Y h (.slice (some ⟨g, 0, none⟩) n n)), .agg (gV X' Y' h' (.slice (some ⟨g', 0, none⟩) n' n'))] w fun e w' => e = .returned (.bool r) ∧ Below w.heap.size w w' := by
  unfold GSame at hr
  by_cases e1 : X = X'
  · have x1 : (X == X') = true := by simpa using e1
    have E1 := Lib.hid e1
    clear e1
    by_cases e2 : Y = Y'
    · have x2 : (Y == Y') = true := by simpa using e2
      have E2 := Lib.hid e2
      clear e2
      by_cases e3 : ∀ p, p < 81 → h p = h' p
      · have hE := hts_eql h h' true ⟨fun _ => e3, fun _ => rfl⟩
        have hr' : r = true ↔ (n = n' ∧ ∀ j, j < 2 * n → c j = c' j) := ⟨fun k => (hr.1 k).2.2.2, fun k => hr.2 ⟨E1.out, E2.out, e3, k⟩⟩
        have HR := Lib.hid hr'
        clear hr hr' e3
        have X2 := (Bx.new w (gV X Y h (.slice (some ⟨g, 0, none⟩) n n)) 33).alloc (.cells (gV X' Y' h' (.slice (some ⟨g', 0, none⟩) n' n')) 33)
        have X3 := Bx.newAt (w.alloc (.cells (gV X Y h (.slice (some ⟨g, 0, none⟩) n n)) 33)) (w.heap.size + 1) (gV X' Y' h' (.slice (some ⟨g', 0, none⟩) n' n')) 33 (by simp)
        have B := al (al (Below.refl w.heap.size w) (.cells (gV X Y h (.slice (some ⟨g, 0, none⟩) n n)) 33)) (.cells (gV X' Y' h' (.slice (some ⟨g', 0, none⟩) n' n')) 33)
        replace hA := (hA.alloc (.cells (gV X Y h (.slice (some ⟨g, 0, none⟩) n n)) 33)).alloc (.cells (gV X' Y' h' (.slice (some ⟨g', 0, none⟩) n' n')) 33)
        replace hA' := (hA'.alloc (.cells (gV X Y h (.slice (some ⟨g, 0, none⟩) n n)) 33)).alloc (.cells (gV X' Y' h' (.slice (some ⟨g', 0, none⟩) n' n')) 33)
        go_enter Try.func30, Try.ntmps30
        go_wp2_with (first
          | (refine wpList_load_partG X2 (by kernel_rfl) _ _ rfl 2 rfl (hV h) (gV_part _ _ _ _) _ Try.underlying25 rfl (info99h _) ?_)
          | (refine wpList_load_partG X3 (by kernel_rfl) _ _ rfl 2 rfl (hV h') (gV_part _ _ _ _) _ Try.underlying25 rfl (info99h _) ?_))
        refine (sameCells_any _ _ n n' n n' _ c c' r _ hm hm' (Nat.le_refl _) hA.rd hA'.rd HR.out).mono ?_
        rintro e w1 ⟨rfl, hb⟩
        replace B := nxt B hb
        clear hb
        go_wp2
        go_ret
        exact ⟨rfl, B⟩
      · obtain rfl : r = false := by cases r; rfl; exact absurd (hr.1 rfl).2.2.1 e3
        have hE := hts_eql h h' false ⟨(fun k => by cases k), fun k => absurd k e3⟩
        clear hr e3
        have X2 := (Bx.new w (gV X Y h (.slice (some ⟨g, 0, none⟩) n n)) 33).alloc (.cells (gV X' Y' h' (.slice (some ⟨g', 0, none⟩) n' n')) 33)
        have X3 := Bx.newAt (w.alloc (.cells (gV X Y h (.slice (some ⟨g, 0, none⟩) n n)) 33)) (w.heap.size + 1) (gV X' Y' h' (.slice (some ⟨g', 0, none⟩) n' n')) 33 (by simp)
        have B := al (al (Below.refl w.heap.size w) (.cells (gV X Y h (.slice (some ⟨g, 0, none⟩) n n)) 33)) (.cells (gV X' Y' h' (.slice (some ⟨g', 0, none⟩) n' n')) 33)
        replace hA := (hA.alloc (.cells (gV X Y h (.slice (some ⟨g, 0, none⟩) n n)) 33)).alloc (.cells (gV X' Y' h' (.slice (some ⟨g', 0, none⟩) n' n')) 33)
        replace hA' := (hA'.alloc (.cells (gV X Y h (.slice (some ⟨g, 0, none⟩) n n)) 33)).alloc (.cells (gV X' Y' h' (.slice (some ⟨g', 0, none⟩) n' n')) 33)
        go_enter Try.func30, Try.ntmps30
        go_wp2_with (first
          | (refine wpList_load_partG X2 (by kernel_rfl) _ _ rfl 2 rfl (hV h) (gV_part _ _ _ _) _ Try.underlying25 rfl (info99h _) ?_)
          | (refine wpList_load_partG X3 (by kernel_rfl) _ _ rfl 2 rfl (hV h') (gV_part _ _ _ _) _ Try.underlying25 rfl (info99h _) ?_))
        go_ret
        exact ⟨rfl, B⟩
    · obtain rfl : r = false := by cases r; rfl; exact absurd (hr.1 rfl).2.1 e2
      have x2 : (Y == Y') = false := by simpa using e2
      clear hr e2
      have X2 := (Bx.new w (gV X Y h (.slice (some ⟨g, 0, none⟩) n n)) 33).alloc (.cells (gV X' Y' h' (.slice (some ⟨g', 0, none⟩) n' n')) 33)
      have X3 := Bx.newAt (w.alloc (.cells (gV X Y h (.slice (some ⟨g, 0, none⟩) n n)) 33)) (w.heap.size + 1) (gV X' Y' h' (.slice (some ⟨g', 0, none⟩) n' n')) 33 (by simp)
      have B := al (al (Below.refl w.heap.size w) (.cells (gV X Y h (.slice (some ⟨g, 0, none⟩) n n)) 33)) (.cells (gV X' Y' h' (.slice (some ⟨g', 0, none⟩) n' n')) 33)
      replace hA := (hA.alloc (.cells (gV X Y h (.slice (some ⟨g, 0, none⟩) n n)) 33)).alloc (.cells (gV X' Y' h' (.slice (some ⟨g', 0, none⟩) n' n')) 33)
      replace hA' := (hA'.alloc (.cells (gV X Y h (.slice (some ⟨g, 0, none⟩) n n)) 33)).alloc (.cells (gV X' Y' h' (.slice (some ⟨g', 0, none⟩) n' n')) 33)
      go_enter Try.func30, Try.ntmps30
      go_wp2
      go_ret
      exact ⟨rfl, B⟩
  · obtain rfl : r = false := by cases r; rfl; exact absurd (hr.1 rfl).1 e1
    have x1 : (X == X') = false := by simpa using e1
    clear hr e1
    have X2 := (Bx.new w (gV X Y h (.slice (some ⟨g, 0, none⟩) n n)) 33).alloc (.cells (gV X' Y' h' (.slice (some ⟨g', 0, none⟩) n' n')) 33)
    have X3 := Bx.newAt (w.alloc (.cells (gV X Y h (.slice (some ⟨g, 0, none⟩) n n)) 33)) (w.heap.size + 1) (gV X' Y' h' (.slice (some ⟨g', 0, none⟩) n' n')) 33 (by simp)
    have B := al (al (Below.refl w.heap.size w) (.cells (gV X Y h (.slice (some ⟨g, 0, none⟩) n n)) 33)) (.cells (gV X' Y' h' (.slice (some ⟨g', 0, none⟩) n' n')) 33)
    replace hA := (hA.alloc (.cells (gV X Y h (.slice (some ⟨g, 0, none⟩) n n)) 33)).alloc (.cells (gV X' Y' h' (.slice (some ⟨g', 0, none⟩) n' n')) 33)
    replace hA' := (hA'.alloc (.cells (gV X Y h (.slice (some ⟨g, 0, none⟩) n n)) 33)).alloc (.cells (gV X' Y' h' (.slice (some ⟨g', 0, none⟩) n' n')) 33)
    go_enter Try.func30, Try.ntmps30
    go_wp2
    go_ret
    exact ⟨rfl, B⟩

theorem impl_any (X Y : Int) (h : Nat → Int) (g n : Nat) (c : Nat → Int) (X' Y' : Int) (h' : Nat → Int) (g' n' : Nat) (c' : Nat → Int) (r : Bool) (w : World) (hm : n ≤ 1048576) (hm' : n' ≤ 1048576) (hA : Ac w g n c) (hA' : Ac w g' n' c') (hr : r = true ↔ GSame X Y h n c X' Y' h' n' c') :
    Calls Try.prog 31 #[.agg (gV X Y h (.slice (some ⟨g, 0, none⟩) n n)), .agg (gV X' Y' h' (.slice (some ⟨g', 0, none⟩) n' n'))] w fun e w' => e = .returned (.bool r) ∧ Below w.heap.size w w' := by
  unfold GSame at hr
  by_cases e1 : X = X'
  · have x1 : (X == X') = true := by simpa using e1
    have E1 := Lib.hid e1
    clear e1
    by_cases e2 : Y = Y'
    · have x2 : (Y == Y') = true := by simpa using e2
      have E2 := Lib.hid e2
      clear e2
      by_cases e3 : ∀ p, p < 81 → h p = h' p
      · have hE := hts_eql h h' true ⟨fun _ => e3, fun _ => rfl⟩
        have hr' : r = true ↔ (n = n' ∧ ∀ j, j < 2 * n → c j = c' j) := ⟨fun k => (hr.1 k).2.2.2, fun k => hr.2 ⟨E1.out, E2.out, e3, k⟩⟩
        have HR := Lib.hid hr'
        clear hr hr' e3
        have X2 := (Bx.new w (gV X Y h (.slice (some ⟨g, 0, none⟩) n n)) 33).alloc (.cells (gV X' Y' h' (.slice (some ⟨g', 0, none⟩) n' n')) 33)
        have X3 := Bx.newAt (w.alloc (.cells (gV X Y h (.slice (some ⟨g, 0, none⟩) n n)) 33)) (w.heap.size + 1) (gV X' Y' h' (.slice (some ⟨g', 0, none⟩) n' n')) 33 (by simp)
        have B := al (al (Below.refl w.heap.size w) (.cells (gV X Y h (.slice (some ⟨g, 0, none⟩) n n)) 33)) (.cells (gV X' Y' h' (.slice (some ⟨g', 0, none⟩) n' n')) 33)
        replace hA := (hA.alloc (.cells (gV X Y h (.slice (some ⟨g, 0, none⟩) n n)) 33)).alloc (.cells (gV X' Y' h' (.slice (some ⟨g', 0, none⟩) n' n')) 33)
        replace hA' := (hA'.alloc (.cells (gV X Y h (.slice (some ⟨g, 0, none⟩) n n)) 33)).alloc (.cells (gV X' Y' h' (.slice (some ⟨g', 0, none⟩) n' n')) 33)
        go_enter Try.func31, Try.ntmps31
        go_wp2_with fail
        obtain ⟨W0, hW⟩ : ∃ W0 : World, W0 = (w.alloc (.cells (gV X Y h (.slice (some ⟨g, 0, none⟩) n n)) 33)).alloc (.cells (gV X' Y' h' (.slice (some ⟨g', 0, none⟩) n' n')) 33) := ⟨_, rfl⟩
        rw [← hW] at X2 X3 B hA hA' ⊢
        clear hW
        refine wp_region_held_drew (S := (fun w' : World => Bx w' w.heap.size (gV X Y h (.slice (some ⟨g, 0, none⟩) n n)) 33 ∧ Bx w' (w.heap.size + 1) (gV X' Y' h' (.slice (some ⟨g', 0, none⟩) n' n')) 33)) (by kernel_rfl) ⟨X2, X3⟩ (fun hHeld => ?_)
        replace X2 := X2.drew
        replace X3 := X3.drew
        replace hA := hA.drew
        replace hA' := hA'.drew
        replace B := B.drew
        refine wpAnyH_take (i := 0) (oi := _) (v := .agg (gV X Y h (.slice (some ⟨g, 0, none⟩) n n))) rfl (by kernel_rfl) (by kernel_rfl) (by kernel_rfl) (fun _ _ _ h => h) (yields_box (by kernel_rfl) _ _ rfl w.heap.size rfl (gV X Y h (.slice (some ⟨g, 0, none⟩) n n)) 33 (fun _ hS => hS.1) _ Try.underlying33 rfl (infoGv _ _ _ _)) (by assumption) ?_
        try simp only [List.getElem_toArray, List.getElem_cons_zero, List.getElem_cons_succ, Act.put, List.setIfInBounds_toArray, List.set_cons_zero, List.set_cons_succ]
        refine wpAnyH_take (i := 2) (oi := _) (v := .agg (gV X' Y' h' (.slice (some ⟨g', 0, none⟩) n' n'))) rfl (by kernel_rfl) (by kernel_rfl) (by kernel_rfl) (fun _ _ _ h => h) (yields_box (by kernel_rfl) _ _ rfl (w.heap.size + 1) rfl (gV X' Y' h' (.slice (some ⟨g', 0, none⟩) n' n')) 33 (fun _ hS => hS.2) _ Try.underlying33 rfl (infoGv _ _ _ _)) (by assumption) ?_
        try simp only [List.getElem_toArray, List.getElem_cons_zero, List.getElem_cons_succ, Act.put, List.setIfInBounds_toArray, List.set_cons_zero, List.set_cons_succ]
        refine wpAnyH_ready (rs := [1]) (by kernel_rfl) (by simp) ?_
        refine AllReadyH.cons (o := _) rfl (fun K hK => ?_) AllReadyH.nil
        go_simp
        refine (sizesOf_any X Y h _ _).mono ?_
        rintro e w1 ⟨rfl, hb⟩
        replace X2 := X2.below hb
        replace X3 := X3.below hb
        replace hA := hA.below hb
        replace hA' := hA'.below hb
        replace B := nxt B hb
        clear hb
        refine hK.out _ _ ⟨X2, X3⟩ (fun hHeld => ?_)
        clear hK K
        try simp only [List.getElem_toArray, List.getElem_cons_zero, List.getElem_cons_succ, Act.put, List.setIfInBounds_toArray, List.set_cons_zero, List.set_cons_succ]
        refine wpAnyH_ready (rs := [3]) (by kernel_rfl) (by simp) ?_
        refine AllReadyH.cons (o := _) rfl (fun K hK => ?_) AllReadyH.nil
        go_simp
        refine (sizesOf_any X' Y' h' _ _).mono ?_
        rintro e w2 ⟨rfl, hb⟩
        replace X2 := X2.below hb
        replace X3 := X3.below hb
        replace hA := hA.below hb
        replace hA' := hA'.below hb
        replace B := nxt B hb
        clear hb
        refine hK.out _ _ ⟨X2, X3⟩ (fun hHeld => ?_)
        clear hK K
        try simp only [List.getElem_toArray, List.getElem_cons_zero, List.getElem_cons_succ, Act.put, List.setIfInBounds_toArray, List.set_cons_zero, List.set_cons_succ]
        refine wpAnyH_take (i := 4) (oi := _) (v := ?_) rfl (by kernel_rfl) (by kernel_rfl) (by kernel_rfl) (fun _ _ _ h => h) (Or.inl ⟨by kernel_rfl, ?_⟩) (by assumption) ?_
        rotate_left
        · intro w hSw; (try dsimp only at hSw); go_simp; first | done | with_reducible rfl
        try simp only [List.getElem_toArray, List.getElem_cons_zero, List.getElem_cons_succ, Act.put, List.setIfInBounds_toArray, List.set_cons_zero, List.set_cons_succ]
        refine wpAnyH_take (i := 5) (oi := _) (v := ?_) rfl (by kernel_rfl) (by kernel_rfl) (by kernel_rfl) (fun _ _ _ h => h) (Or.inl ⟨by kernel_rfl, ?_⟩) (by assumption) ?_
        rotate_left
        · intro w hSw; (try dsimp only at hSw); go_simp; first | done | with_reducible rfl
        try simp only [List.getElem_toArray, List.getElem_cons_zero, List.getElem_cons_succ, Act.put, List.setIfInBounds_toArray, List.set_cons_zero, List.set_cons_succ]
        refine wpAnyH_take (i := 6) (oi := _) (v := ?_) rfl (by kernel_rfl) (by kernel_rfl) (by kernel_rfl) (fun _ _ _ h => h) (Or.inl ⟨by kernel_rfl, ?_⟩) (by assumption) ?_
        rotate_left
        · intro w hSw; (try dsimp only at hSw); go_simp; first | done | with_reducible rfl
        try simp only [List.getElem_toArray, List.getElem_cons_zero, List.getElem_cons_succ, Act.put, List.setIfInBounds_toArray, List.set_cons_zero, List.set_cons_succ]
        refine wpAnyH_take (i := 7) (oi := _) (v := .agg (hV h)) rfl (by kernel_rfl) (by kernel_rfl) (by kernel_rfl) (fun _ _ _ h => h) (yields_part (by kernel_rfl) _ _ rfl w.heap.size 2 rfl (gV X Y h (.slice (some ⟨g, 0, none⟩) n n)) (hV h) 33 (fun _ hS => hS.1) (gV_part _ _ _ _) _ Try.underlying25 rfl (info99h _)) (by assumption) ?_
        try simp only [List.getElem_toArray, List.getElem_cons_zero, List.getElem_cons_succ, Act.put, List.setIfInBounds_toArray, List.set_cons_zero, List.set_cons_succ]
        refine wpAnyH_take (i := 8) (oi := _) (v := ?_) rfl (by kernel_rfl) (by kernel_rfl) (by kernel_rfl) (fun _ _ _ h => h) (Or.inl ⟨by kernel_rfl, ?_⟩) (by assumption) ?_
        rotate_left
        · intro w hSw; (try dsimp only at hSw); go_simp; first | done | with_reducible rfl
        try simp only [List.getElem_toArray, List.getElem_cons_zero, List.getElem_cons_succ, Act.put, List.setIfInBounds_toArray, List.set_cons_zero, List.set_cons_succ]
        refine wpAnyH_take (i := 9) (oi := _) (v := .agg (hV h')) rfl (by kernel_rfl) (by kernel_rfl) (by kernel_rfl) (fun _ _ _ h => h) (yields_part (by kernel_rfl) _ _ rfl (w.heap.size + 1) 2 rfl (gV X' Y' h' (.slice (some ⟨g', 0, none⟩) n' n')) (hV h') 33 (fun _ hS => hS.2) (gV_part _ _ _ _) _ Try.underlying25 rfl (info99h _)) (by assumption) ?_
        try simp only [List.getElem_toArray, List.getElem_cons_zero, List.getElem_cons_succ, Act.put, List.setIfInBounds_toArray, List.set_cons_zero, List.set_cons_succ]
        refine wpAnyH_take (i := 10) (oi := _) (v := ?_) rfl (by kernel_rfl) (by kernel_rfl) (by kernel_rfl) (fun _ _ _ h => h) (Or.inl ⟨by kernel_rfl, ?_⟩) (by assumption) ?_
        rotate_left
        · intro w hSw; (try dsimp only at hSw); go_simp; first | done | with_reducible rfl
        try simp only [List.getElem_toArray, List.getElem_cons_zero, List.getElem_cons_succ, Act.put, List.setIfInBounds_toArray, List.set_cons_zero, List.set_cons_succ]
        refine wpAnyH_take (i := 11) (oi := _) (v := ?_) rfl (by kernel_rfl) (by kernel_rfl) (by kernel_rfl) (fun _ _ _ h => h) (Or.inl ⟨by kernel_rfl, ?_⟩) (by assumption) ?_
        rotate_left
        · intro w hSw; (try dsimp only at hSw); go_simp; first | done | with_reducible rfl
        try simp only [List.getElem_toArray, List.getElem_cons_zero, List.getElem_cons_succ, Act.put, List.setIfInBounds_toArray, List.set_cons_zero, List.set_cons_succ]
        refine wpAnyH_take (i := 12) (oi := _) (v := ?_) rfl (by kernel_rfl) (by kernel_rfl) (by kernel_rfl) (fun _ _ _ h => h) (Or.inl ⟨by kernel_rfl, ?_⟩) (by assumption) ?_
        rotate_left
        · intro w hSw; (try dsimp only at hSw); go_simp; first | done | with_reducible rfl
        try simp only [List.getElem_toArray, List.getElem_cons_zero, List.getElem_cons_succ, Act.put, List.setIfInBounds_toArray, List.set_cons_zero, List.set_cons_succ]
        refine wpAnyH_take (i := 13) (oi := _) (v := ?_) rfl (by kernel_rfl) (by kernel_rfl) (by kernel_rfl) (fun _ _ _ h => h) (Or.inl ⟨by kernel_rfl, ?_⟩) (by assumption) ?_
        rotate_left
        · intro w hSw; (try dsimp only at hSw); go_simp; first | done | with_reducible rfl
        try simp only [List.getElem_toArray, List.getElem_cons_zero, List.getElem_cons_succ, Act.put, List.setIfInBounds_toArray, List.set_cons_zero, List.set_cons_succ]
        refine wpAnyH_take (i := 14) (oi := _) (v := ?_) rfl (by kernel_rfl) (by kernel_rfl) (by kernel_rfl) (fun _ _ _ h => h) (Or.inl ⟨by kernel_rfl, ?_⟩) (by assumption) ?_
        rotate_left
        · intro w hSw; have hcell := (fun V hS => (hS.1).gcells.2.2.2) w hSw; clear hSw; go_simp; first | done | with_reducible rfl
        try simp only [List.getElem_toArray, List.getElem_cons_zero, List.getElem_cons_succ, Act.put, List.setIfInBounds_toArray, List.set_cons_zero, List.set_cons_succ]
        refine wpAnyH_take (i := 15) (oi := _) (v := ?_) rfl (by kernel_rfl) (by kernel_rfl) (by kernel_rfl) (fun _ _ _ h => h) (Or.inl ⟨by kernel_rfl, ?_⟩) (by assumption) ?_
        rotate_left
        · intro w hSw; (try dsimp only at hSw); go_simp; first | done | with_reducible rfl
        try simp only [List.getElem_toArray, List.getElem_cons_zero, List.getElem_cons_succ, Act.put, List.setIfInBounds_toArray, List.set_cons_zero, List.set_cons_succ]
        refine wpAnyH_take (i := 16) (oi := _) (v := ?_) rfl (by kernel_rfl) (by kernel_rfl) (by kernel_rfl) (fun _ _ _ h => h) (Or.inl ⟨by kernel_rfl, ?_⟩) (by assumption) ?_
        rotate_left
        · intro w hSw; have hcell := (fun V hS => (hS.2).gcells.2.2.2) w hSw; clear hSw; go_simp; first | done | with_reducible rfl
        try simp only [List.getElem_toArray, List.getElem_cons_zero, List.getElem_cons_succ, Act.put, List.setIfInBounds_toArray, List.set_cons_zero, List.set_cons_succ]
        refine wpAnyH_ready (rs := [17]) (by kernel_rfl) (by simp) ?_
        refine AllReadyH.cons (o := _) rfl (fun K hK => ?_) AllReadyH.nil
        go_simp
        refine (sliceEqC_any _ _ n n' n n' _ c c' r _ hm hm' (Nat.le_refl _) hA.rd hA'.rd HR.out).mono ?_
        rintro e w3 ⟨rfl, hb⟩
        replace X2 := X2.below hb
        replace X3 := X3.below hb
        replace B := nxt B hb
        clear hb
        refine hK.out _ _ ⟨X2, X3⟩ (fun hHeld => ?_)
        clear hK K
        try simp only [List.getElem_toArray, List.getElem_cons_zero, List.getElem_cons_succ, Act.put, List.setIfInBounds_toArray, List.set_cons_zero, List.set_cons_succ]
        refine wpAnyH_take (i := 18) (oi := _) (v := ?_) rfl (by kernel_rfl) (by kernel_rfl) (by kernel_rfl) (fun _ _ _ h => h) (Or.inl ⟨by kernel_rfl, ?_⟩) (by assumption) ?_
        rotate_left
        · intro w hSw; (try dsimp only at hSw); go_simp; first | done | with_reducible rfl
        try simp only [List.getElem_toArray, List.getElem_cons_zero, List.getElem_cons_succ, Act.put, List.setIfInBounds_toArray, List.set_cons_zero, List.set_cons_succ]
        refine wpAnyH_take (i := 19) (oi := _) (v := ?_) rfl (by kernel_rfl) (by kernel_rfl) (by kernel_rfl) (fun _ _ _ h => h) (Or.inl ⟨by kernel_rfl, ?_⟩) (by assumption) ?_
        rotate_left
        · intro w hSw; (try dsimp only at hSw); go_simp; first | done | with_reducible rfl
        try simp only [List.getElem_toArray, List.getElem_cons_zero, List.getElem_cons_succ, Act.put, List.setIfInBounds_toArray, List.set_cons_zero, List.set_cons_succ]
        refine wpAnyH_done (by kernel_rfl) ?_ _
        go_wp2
        go_ret
        exact ⟨rfl, B⟩
      · obtain rfl : r = false := by cases r; rfl; exact absurd (hr.1 rfl).2.2.1 e3
        have hE := hts_eql h h' false ⟨(fun k => by cases k), fun k => absurd k e3⟩
        clear hr e3
        have X2 := (Bx.new w (gV X Y h (.slice (some ⟨g, 0, none⟩) n n)) 33).alloc (.cells (gV X' Y' h' (.slice (some ⟨g', 0, none⟩) n' n')) 33)
        have X3 := Bx.newAt (w.alloc (.cells (gV X Y h (.slice (some ⟨g, 0, none⟩) n n)) 33)) (w.heap.size + 1) (gV X' Y' h' (.slice (some ⟨g', 0, none⟩) n' n')) 33 (by simp)
        have B := al (al (Below.refl w.heap.size w) (.cells (gV X Y h (.slice (some ⟨g, 0, none⟩) n n)) 33)) (.cells (gV X' Y' h' (.slice (some ⟨g', 0, none⟩) n' n')) 33)
        replace hA := (hA.alloc (.cells (gV X Y h (.slice (some ⟨g, 0, none⟩) n n)) 33)).alloc (.cells (gV X' Y' h' (.slice (some ⟨g', 0, none⟩) n' n')) 33)
        replace hA' := (hA'.alloc (.cells (gV X Y h (.slice (some ⟨g, 0, none⟩) n n)) 33)).alloc (.cells (gV X' Y' h' (.slice (some ⟨g', 0, none⟩) n' n')) 33)
        go_enter Try.func31, Try.ntmps31
        go_wp2_with fail
        obtain ⟨W0, hW⟩ : ∃ W0 : World, W0 = (w.alloc (.cells (gV X Y h (.slice (some ⟨g, 0, none⟩) n n)) 33)).alloc (.cells (gV X' Y' h' (.slice (some ⟨g', 0, none⟩) n' n')) 33) := ⟨_, rfl⟩
        rw [← hW] at X2 X3 B hA hA' ⊢
        clear hW
        refine wp_region_held_drew (S := (fun w' : World => Bx w' w.heap.size (gV X Y h (.slice (some ⟨g, 0, none⟩) n n)) 33 ∧ Bx w' (w.heap.size + 1) (gV X' Y' h' (.slice (some ⟨g', 0, none⟩) n' n')) 33)) (by kernel_rfl) ⟨X2, X3⟩ (fun hHeld => ?_)
        replace X2 := X2.drew
        replace X3 := X3.drew
        replace hA := hA.drew
        replace hA' := hA'.drew
        replace B := B.drew
        refine wpAnyH_take (i := 0) (oi := _) (v := .agg (gV X Y h (.slice (some ⟨g, 0, none⟩) n n))) rfl (by kernel_rfl) (by kernel_rfl) (by kernel_rfl) (fun _ _ _ h => h) (yields_box (by kernel_rfl) _ _ rfl w.heap.size rfl (gV X Y h (.slice (some ⟨g, 0, none⟩) n n)) 33 (fun _ hS => hS.1) _ Try.underlying33 rfl (infoGv _ _ _ _)) (by assumption) ?_
        try simp only [List.getElem_toArray, List.getElem_cons_zero, List.getElem_cons_succ, Act.put, List.setIfInBounds_toArray, List.set_cons_zero, List.set_cons_succ]
        refine wpAnyH_take (i := 2) (oi := _) (v := .agg (gV X' Y' h' (.slice (some ⟨g', 0, none⟩) n' n'))) rfl (by kernel_rfl) (by kernel_rfl) (by kernel_rfl) (fun _ _ _ h => h) (yields_box (by kernel_rfl) _ _ rfl (w.heap.size + 1) rfl (gV X' Y' h' (.slice (some ⟨g', 0, none⟩) n' n')) 33 (fun _ hS => hS.2) _ Try.underlying33 rfl (infoGv _ _ _ _)) (by assumption) ?_
        try simp only [List.getElem_toArray, List.getElem_cons_zero, List.getElem_cons_succ, Act.put, List.setIfInBounds_toArray, List.set_cons_zero, List.set_cons_succ]
        refine wpAnyH_ready (rs := [1]) (by kernel_rfl) (by simp) ?_
        refine AllReadyH.cons (o := _) rfl (fun K hK => ?_) AllReadyH.nil
        go_simp
        refine (sizesOf_any X Y h _ _).mono ?_
        rintro e w1 ⟨rfl, hb⟩
        replace X2 := X2.below hb
        replace X3 := X3.below hb
        replace hA := hA.below hb
        replace hA' := hA'.below hb
        replace B := nxt B hb
        clear hb
        refine hK.out _ _ ⟨X2, X3⟩ (fun hHeld => ?_)
        clear hK K
        try simp only [List.getElem_toArray, List.getElem_cons_zero, List.getElem_cons_succ, Act.put, List.setIfInBounds_toArray, List.set_cons_zero, List.set_cons_succ]
        refine wpAnyH_ready (rs := [3]) (by kernel_rfl) (by simp) ?_
        refine AllReadyH.cons (o := _) rfl (fun K hK => ?_) AllReadyH.nil
        go_simp
        refine (sizesOf_any X' Y' h' _ _).mono ?_
        rintro e w2 ⟨rfl, hb⟩
        replace X2 := X2.below hb
        replace X3 := X3.below hb
        replace hA := hA.below hb
        replace hA' := hA'.below hb
        replace B := nxt B hb
        clear hb
        refine hK.out _ _ ⟨X2, X3⟩ (fun hHeld => ?_)
        clear hK K
        try simp only [List.getElem_toArray, List.getElem_cons_zero, List.getElem_cons_succ, Act.put, List.setIfInBounds_toArray, List.set_cons_zero, List.set_cons_succ]
        refine wpAnyH_take (i := 4) (oi := _) (v := ?_) rfl (by kernel_rfl) (by kernel_rfl) (by kernel_rfl) (fun _ _ _ h => h) (Or.inl ⟨by kernel_rfl, ?_⟩) (by assumption) ?_
        rotate_left
        · intro w hSw; (try dsimp only at hSw); go_simp; first | done | with_reducible rfl
        try simp only [List.getElem_toArray, List.getElem_cons_zero, List.getElem_cons_succ, Act.put, List.setIfInBounds_toArray, List.set_cons_zero, List.set_cons_succ]
        refine wpAnyH_take (i := 5) (oi := _) (v := ?_) rfl (by kernel_rfl) (by kernel_rfl) (by kernel_rfl) (fun _ _ _ h => h) (Or.inl ⟨by kernel_rfl, ?_⟩) (by assumption) ?_
        rotate_left
        · intro w hSw; (try dsimp only at hSw); go_simp; first | done | with_reducible rfl
        try simp only [List.getElem_toArray, List.getElem_cons_zero, List.getElem_cons_succ, Act.put, List.setIfInBounds_toArray, List.set_cons_zero, List.set_cons_succ]
        refine wpAnyH_take (i := 6) (oi := _) (v := ?_) rfl (by kernel_rfl) (by kernel_rfl) (by kernel_rfl) (fun _ _ _ h => h) (Or.inl ⟨by kernel_rfl, ?_⟩) (by assumption) ?_
        rotate_left
        · intro w hSw; (try dsimp only at hSw); go_simp; first | done | with_reducible rfl
        try simp only [List.getElem_toArray, List.getElem_cons_zero, List.getElem_cons_succ, Act.put, List.setIfInBounds_toArray, List.set_cons_zero, List.set_cons_succ]
        refine wpAnyH_take (i := 7) (oi := _) (v := .agg (hV h)) rfl (by kernel_rfl) (by kernel_rfl) (by kernel_rfl) (fun _ _ _ h => h) (yields_part (by kernel_rfl) _ _ rfl w.heap.size 2 rfl (gV X Y h (.slice (some ⟨g, 0, none⟩) n n)) (hV h) 33 (fun _ hS => hS.1) (gV_part _ _ _ _) _ Try.underlying25 rfl (info99h _)) (by assumption) ?_
        try simp only [List.getElem_toArray, List.getElem_cons_zero, List.getElem_cons_succ, Act.put, List.setIfInBounds_toArray, List.set_cons_zero, List.set_cons_succ]
        refine wpAnyH_take (i := 8) (oi := _) (v := ?_) rfl (by kernel_rfl) (by kernel_rfl) (by kernel_rfl) (fun _ _ _ h => h) (Or.inl ⟨by kernel_rfl, ?_⟩) (by assumption) ?_
        rotate_left
        · intro w hSw; (try dsimp only at hSw); go_simp; first | done | with_reducible rfl
        try simp only [List.getElem_toArray, List.getElem_cons_zero, List.getElem_cons_succ, Act.put, List.setIfInBounds_toArray, List.set_cons_zero, List.set_cons_succ]
        refine wpAnyH_take (i := 9) (oi := _) (v := .agg (hV h')) rfl (by kernel_rfl) (by kernel_rfl) (by kernel_rfl) (fun _ _ _ h => h) (yields_part (by kernel_rfl) _ _ rfl (w.heap.size + 1) 2 rfl (gV X' Y' h' (.slice (some ⟨g', 0, none⟩) n' n')) (hV h') 33 (fun _ hS => hS.2) (gV_part _ _ _ _) _ Try.underlying25 rfl (info99h _)) (by assumption) ?_
        try simp only [List.getElem_toArray, List.getElem_cons_zero, List.getElem_cons_succ, Act.put, List.setIfInBounds_toArray, List.set_cons_zero, List.set_cons_succ]
        refine wpAnyH_take (i := 10) (oi := _) (v := ?_) rfl (by kernel_rfl) (by kernel_rfl) (by kernel_rfl) (fun _ _ _ h => h) (Or.inl ⟨by kernel_rfl, ?_⟩) (by assumption) ?_
        rotate_left
        · intro w hSw; (try dsimp only at hSw); go_simp; first | done | with_reducible rfl
        try simp only [List.getElem_toArray, List.getElem_cons_zero, List.getElem_cons_succ, Act.put, List.setIfInBounds_toArray, List.set_cons_zero, List.set_cons_succ]
        refine wpAnyH_take (i := 11) (oi := _) (v := ?_) rfl (by kernel_rfl) (by kernel_rfl) (by kernel_rfl) (fun _ _ _ h => h) (Or.inl ⟨by kernel_rfl, ?_⟩) (by assumption) ?_
        rotate_left
        · intro w hSw; (try dsimp only at hSw); go_simp; first | done | with_reducible rfl
        try simp only [List.getElem_toArray, List.getElem_cons_zero, List.getElem_cons_succ, Act.put, List.setIfInBounds_toArray, List.set_cons_zero, List.set_cons_succ]
        refine wpAnyH_take (i := 12) (oi := _) (v := ?_) rfl (by kernel_rfl) (by kernel_rfl) (by kernel_rfl) (fun _ _ _ h => h) (Or.inl ⟨by kernel_rfl, ?_⟩) (by assumption) ?_
        rotate_left
        · intro w hSw; (try dsimp only at hSw); go_simp; first | done | with_reducible rfl
        try simp only [List.getElem_toArray, List.getElem_cons_zero, List.getElem_cons_succ, Act.put, List.setIfInBounds_toArray, List.set_cons_zero, List.set_cons_succ]
        refine wpAnyH_take (i := 13) (oi := _) (v := undef) rfl (by kernel_rfl) (by kernel_rfl) (by kernel_rfl) (fun _ _ _ h => h) (Or.inr ⟨by kernel_rfl, rfl⟩) (by assumption) ?_
        try simp only [List.getElem_toArray, List.getElem_cons_zero, List.getElem_cons_succ, Act.put, List.setIfInBounds_toArray, List.set_cons_zero, List.set_cons_succ]
        refine wpAnyH_take (i := 14) (oi := _) (v := undef) rfl (by kernel_rfl) (by kernel_rfl) (by kernel_rfl) (fun _ _ _ h => h) (Or.inr ⟨by kernel_rfl, rfl⟩) (by assumption) ?_
        try simp only [List.getElem_toArray, List.getElem_cons_zero, List.getElem_cons_succ, Act.put, List.setIfInBounds_toArray, List.set_cons_zero, List.set_cons_succ]
        refine wpAnyH_take (i := 15) (oi := _) (v := undef) rfl (by kernel_rfl) (by kernel_rfl) (by kernel_rfl) (fun _ _ _ h => h) (Or.inr ⟨by kernel_rfl, rfl⟩) (by assumption) ?_
        try simp only [List.getElem_toArray, List.getElem_cons_zero, List.getElem_cons_succ, Act.put, List.setIfInBounds_toArray, List.set_cons_zero, List.set_cons_succ]
        refine wpAnyH_take (i := 16) (oi := _) (v := undef) rfl (by kernel_rfl) (by kernel_rfl) (by kernel_rfl) (fun _ _ _ h => h) (Or.inr ⟨by kernel_rfl, rfl⟩) (by assumption) ?_
        try simp only [List.getElem_toArray, List.getElem_cons_zero, List.getElem_cons_succ, Act.put, List.setIfInBounds_toArray, List.set_cons_zero, List.set_cons_succ]
        refine wpAnyH_take (i := 17) (oi := _) (v := undef) rfl (by kernel_rfl) (by kernel_rfl) (by kernel_rfl) (fun _ _ _ h => h) (Or.inr ⟨by kernel_rfl, rfl⟩) (by assumption) ?_
        try simp only [List.getElem_toArray, List.getElem_cons_zero, List.getElem_cons_succ, Act.put, List.setIfInBounds_toArray, List.set_cons_zero, List.set_cons_succ]
        refine wpAnyH_take (i := 18) (oi := _) (v := ?_) rfl (by kernel_rfl) (by kernel_rfl) (by kernel_rfl) (fun _ _ _ h => h) (Or.inl ⟨by kernel_rfl, ?_⟩) (by assumption) ?_
        rotate_left
        · intro w hSw; (try dsimp only at hSw); go_simp; first | done | with_reducible rfl
        try simp only [List.getElem_toArray, List.getElem_cons_zero, List.getElem_cons_succ, Act.put, List.setIfInBounds_toArray, List.set_cons_zero, List.set_cons_succ]
        refine wpAnyH_take (i := 19) (oi := _) (v := ?_) rfl (by kernel_rfl) (by kernel_rfl) (by kernel_rfl) (fun _ _ _ h => h) (Or.inl ⟨by kernel_rfl, ?_⟩) (by assumption) ?_
        rotate_left
        · intro w hSw; (try dsimp only at hSw); go_simp; first | done | with_reducible rfl
        try simp only [List.getElem_toArray, List.getElem_cons_zero, List.getElem_cons_succ, Act.put, List.setIfInBounds_toArray, List.set_cons_zero, List.set_cons_succ]
        refine wpAnyH_done (by kernel_rfl) ?_ _
        go_wp2
        go_ret
        exact ⟨rfl, B⟩
    · obtain rfl : r = false := by cases r; rfl; exact absurd (hr.1 rfl).2.1 e2
      have x2 : (Y == Y') = false := by simpa using e2
      clear hr e2
      have X2 := (Bx.new w (gV X Y h (.slice (some ⟨g, 0, none⟩) n n)) 33).alloc (.cells (gV X' Y' h' (.slice (some ⟨g', 0, none⟩) n' n')) 33)
      have X3 := Bx.newAt (w.alloc (.cells (gV X Y h (.slice (some ⟨g, 0, none⟩) n n)) 33)) (w.heap.size + 1) (gV X' Y' h' (.slice (some ⟨g', 0, none⟩) n' n')) 33 (by simp)
      have B := al (al (Below.refl w.heap.size w) (.cells (gV X Y h (.slice (some ⟨g, 0, none⟩) n n)) 33)) (.cells (gV X' Y' h' (.slice (some ⟨g', 0, none⟩) n' n')) 33)
      replace hA := (hA.alloc (.cells (gV X Y h (.slice (some ⟨g, 0, none⟩) n n)) 33)).alloc (.cells (gV X' Y' h' (.slice (some ⟨g', 0, none⟩) n' n')) 33)
      replace hA' := (hA'.alloc (.cells (gV X Y h (.slice (some ⟨g, 0, none⟩) n n)) 33)).alloc (.cells (gV X' Y' h' (.slice (some ⟨g', 0, none⟩) n' n')) 33)
      go_enter Try.func31, Try.ntmps31
      go_wp2_with fail
      obtain ⟨W0, hW⟩ : ∃ W0 : World, W0 = (w.alloc (.cells (gV X Y h (.slice (some ⟨g, 0, none⟩) n n)) 33)).alloc (.cells (gV X' Y' h' (.slice (some ⟨g', 0, none⟩) n' n')) 33) := ⟨_, rfl⟩
      rw [← hW] at X2 X3 B hA hA' ⊢
      clear hW
      refine wp_region_held_drew (S := (fun w' : World => Bx w' w.heap.size (gV X Y h (.slice (some ⟨g, 0, none⟩) n n)) 33 ∧ Bx w' (w.heap.size + 1) (gV X' Y' h' (.slice (some ⟨g', 0, none⟩) n' n')) 33)) (by kernel_rfl) ⟨X2, X3⟩ (fun hHeld => ?_)
      replace X2 := X2.drew
      replace X3 := X3.drew
      replace hA := hA.drew
      replace hA' := hA'.drew
      replace B := B.drew
      refine wpAnyH_take (i := 0) (oi := _) (v := .agg (gV X Y h (.slice (some ⟨g, 0, none⟩) n n))) rfl (by kernel_rfl) (by kernel_rfl) (by kernel_rfl) (fun _ _ _ h => h) (yields_box (by kernel_rfl) _ _ rfl w.heap.size rfl (gV X Y h (.slice (some ⟨g, 0, none⟩) n n)) 33 (fun _ hS => hS.1) _ Try.underlying33 rfl (infoGv _ _ _ _)) (by assumption) ?_
      try simp only [List.getElem_toArray, List.getElem_cons_zero, List.getElem_cons_succ, Act.put, List.setIfInBounds_toArray, List.set_cons_zero, List.set_cons_succ]
      refine wpAnyH_take (i := 2) (oi := _) (v := .agg (gV X' Y' h' (.slice (some ⟨g', 0, none⟩) n' n'))) rfl (by kernel_rfl) (by kernel_rfl) (by kernel_rfl) (fun _ _ _ h => h) (yields_box (by kernel_rfl) _ _ rfl (w.heap.size + 1) rfl (gV X' Y' h' (.slice (some ⟨g', 0, none⟩) n' n')) 33 (fun _ hS => hS.2) _ Try.underlying33 rfl (infoGv _ _ _ _)) (by assumption) ?_
      try simp only [List.getElem_toArray, List.getElem_cons_zero, List.getElem_cons_succ, Act.put, List.setIfInBounds_toArray, List.set_cons_zero, List.set_cons_succ]
      refine wpAnyH_ready (rs := [1]) (by kernel_rfl) (by simp) ?_
      refine AllReadyH.cons (o := _) rfl (fun K hK => ?_) AllReadyH.nil
      go_simp
      refine (sizesOf_any X Y h _ _).mono ?_
      rintro e w1 ⟨rfl, hb⟩
      replace X2 := X2.below hb
      replace X3 := X3.below hb
      replace hA := hA.below hb
      replace hA' := hA'.below hb
      replace B := nxt B hb
      clear hb
      refine hK.out _ _ ⟨X2, X3⟩ (fun hHeld => ?_)
      clear hK K
      try simp only [List.getElem_toArray, List.getElem_cons_zero, List.getElem_cons_succ, Act.put, List.setIfInBounds_toArray, List.set_cons_zero, List.set_cons_succ]
      refine wpAnyH_ready (rs := [3]) (by kernel_rfl) (by simp) ?_
      refine AllReadyH.cons (o := _) rfl (fun K hK => ?_) AllReadyH.nil
      go_simp
      refine (sizesOf_any X' Y' h' _ _).mono ?_
      rintro e w2 ⟨rfl, hb⟩
      replace X2 := X2.below hb
      replace X3 := X3.below hb
      replace hA := hA.below hb
      replace hA' := hA'.below hb
      replace B := nxt B hb
      clear hb
      refine hK.out _ _ ⟨X2, X3⟩ (fun hHeld => ?_)
      clear hK K
      try simp only [List.getElem_toArray, List.getElem_cons_zero, List.getElem_cons_succ, Act.put, List.setIfInBounds_toArray, List.set_cons_zero, List.set_cons_succ]
      refine wpAnyH_take (i := 4) (oi := _) (v := ?_) rfl (by kernel_rfl) (by kernel_rfl) (by kernel_rfl) (fun _ _ _ h => h) (Or.inl ⟨by kernel_rfl, ?_⟩) (by assumption) ?_
      rotate_left
      · intro w hSw; (try dsimp only at hSw); go_simp; first | done | with_reducible rfl
      try simp only [List.getElem_toArray, List.getElem_cons_zero, List.getElem_cons_succ, Act.put, List.setIfInBounds_toArray, List.set_cons_zero, List.set_cons_succ]
      refine wpAnyH_take (i := 5) (oi := _) (v := ?_) rfl (by kernel_rfl) (by kernel_rfl) (by kernel_rfl) (fun _ _ _ h => h) (Or.inl ⟨by kernel_rfl, ?_⟩) (by assumption) ?_
      rotate_left
      · intro w hSw; (try dsimp only at hSw); go_simp; first | done | with_reducible rfl
      try simp only [List.getElem_toArray, List.getElem_cons_zero, List.getElem_cons_succ, Act.put, List.setIfInBounds_toArray, List.set_cons_zero, List.set_cons_succ]
      refine wpAnyH_take (i := 6) (oi := _) (v := undef) rfl (by kernel_rfl) (by kernel_rfl) (by kernel_rfl) (fun _ _ _ h => h) (Or.inr ⟨by kernel_rfl, rfl⟩) (by assumption) ?_
      try simp only [List.getElem_toArray, List.getElem_cons_zero, List.getElem_cons_succ, Act.put, List.setIfInBounds_toArray, List.set_cons_zero, List.set_cons_succ]
      refine wpAnyH_take (i := 7) (oi := _) (v := undef) rfl (by kernel_rfl) (by kernel_rfl) (by kernel_rfl) (fun _ _ _ h => h) (Or.inr ⟨by kernel_rfl, rfl⟩) (by assumption) ?_
      try simp only [List.getElem_toArray, List.getElem_cons_zero, List.getElem_cons_succ, Act.put, List.setIfInBounds_toArray, List.set_cons_zero, List.set_cons_succ]
      refine wpAnyH_take (i := 8) (oi := _) (v := undef) rfl (by kernel_rfl) (by kernel_rfl) (by kernel_rfl) (fun _ _ _ h => h) (Or.inr ⟨by kernel_rfl, rfl⟩) (by assumption) ?_
      try simp only [List.getElem_toArray, List.getElem_cons_zero, List.getElem_cons_succ, Act.put, List.setIfInBounds_toArray, List.set_cons_zero, List.set_cons_succ]
      refine wpAnyH_take (i := 9) (oi := _) (v := undef) rfl (by kernel_rfl) (by kernel_rfl) (by kernel_rfl) (fun _ _ _ h => h) (Or.inr ⟨by kernel_rfl, rfl⟩) (by assumption) ?_
      try simp only [List.getElem_toArray, List.getElem_cons_zero, List.getElem_cons_succ, Act.put, List.setIfInBounds_toArray, List.set_cons_zero, List.set_cons_succ]
      refine wpAnyH_take (i := 10) (oi := _) (v := undef) rfl (by kernel_rfl) (by kernel_rfl) (by kernel_rfl) (fun _ _ _ h => h) (Or.inr ⟨by kernel_rfl, rfl⟩) (by assumption) ?_
      try simp only [List.getElem_toArray, List.getElem_cons_zero, List.getElem_cons_succ, Act.put, List.setIfInBounds_toArray, List.set_cons_zero, List.set_cons_succ]
      refine wpAnyH_take (i := 11) (oi := _) (v := ?_) rfl (by kernel_rfl) (by kernel_rfl) (by kernel_rfl) (fun _ _ _ h => h) (Or.inl ⟨by kernel_rfl, ?_⟩) (by assumption) ?_
      rotate_left
      · intro w hSw; (try dsimp only at hSw); go_simp; first | done | with_reducible rfl
      try simp only [List.getElem_toArray, List.getElem_cons_zero, List.getElem_cons_succ, Act.put, List.setIfInBounds_toArray, List.set_cons_zero, List.set_cons_succ]
      refine wpAnyH_take (i := 12) (oi := _) (v := ?_) rfl (by kernel_rfl) (by kernel_rfl) (by kernel_rfl) (fun _ _ _ h => h) (Or.inl ⟨by kernel_rfl, ?_⟩) (by assumption) ?_
      rotate_left
      · intro w hSw; (try dsimp only at hSw); go_simp; first | done | with_reducible rfl
      try simp only [List.getElem_toArray, List.getElem_cons_zero, List.getElem_cons_succ, Act.put, List.setIfInBounds_toArray, List.set_cons_zero, List.set_cons_succ]
      refine wpAnyH_take (i := 13) (oi := _) (v := undef) rfl (by kernel_rfl) (by kernel_rfl) (by kernel_rfl) (fun _ _ _ h => h) (Or.inr ⟨by kernel_rfl, rfl⟩) (by assumption) ?_
      try simp only [List.getElem_toArray, List.getElem_cons_zero, List.getElem_cons_succ, Act.put, List.setIfInBounds_toArray, List.set_cons_zero, List.set_cons_succ]
      refine wpAnyH_take (i := 14) (oi := _) (v := undef) rfl (by kernel_rfl) (by kernel_rfl) (by kernel_rfl) (fun _ _ _ h => h) (Or.inr ⟨by kernel_rfl, rfl⟩) (by assumption) ?_
      try simp only [List.getElem_toArray, List.getElem_cons_zero, List.getElem_cons_succ, Act.put, List.setIfInBounds_toArray, List.set_cons_zero, List.set_cons_succ]
      refine wpAnyH_take (i := 15) (oi := _) (v := undef) rfl (by kernel_rfl) (by kernel_rfl) (by kernel_rfl) (fun _ _ _ h => h) (Or.inr ⟨by kernel_rfl, rfl⟩) (by assumption) ?_
      try simp only [List.getElem_toArray, List.getElem_cons_zero, List.getElem_cons_succ, Act.put, List.setIfInBounds_toArray, List.set_cons_zero, List.set_cons_succ]
      refine wpAnyH_take (i := 16) (oi := _) (v := undef) rfl (by kernel_rfl) (by kernel_rfl) (by kernel_rfl) (fun _ _ _ h => h) (Or.inr ⟨by kernel_rfl, rfl⟩) (by assumption) ?_
      try simp only [List.getElem_toArray, List.getElem_cons_zero, List.getElem_cons_succ, Act.put, List.setIfInBounds_toArray, List.set_cons_zero, List.set_cons_succ]
      refine wpAnyH_take (i := 17) (oi := _) (v := undef) rfl (by kernel_rfl) (by kernel_rfl) (by kernel_rfl) (fun _ _ _ h => h) (Or.inr ⟨by kernel_rfl, rfl⟩) (by assumption) ?_
      try simp only [List.getElem_toArray, List.getElem_cons_zero, List.getElem_cons_succ, Act.put, List.setIfInBounds_toArray, List.set_cons_zero, List.set_cons_succ]
      refine wpAnyH_take (i := 18) (oi := _) (v := ?_) rfl (by kernel_rfl) (by kernel_rfl) (by kernel_rfl) (fun _ _ _ h => h) (Or.inl ⟨by kernel_rfl, ?_⟩) (by assumption) ?_
      rotate_left
      · intro w hSw; (try dsimp only at hSw); go_simp; first | done | with_reducible rfl
      try simp only [List.getElem_toArray, List.getElem_cons_zero, List.getElem_cons_succ, Act.put, List.setIfInBounds_toArray, List.set_cons_zero, List.set_cons_succ]
      refine wpAnyH_take (i := 19) (oi := _) (v := ?_) rfl (by kernel_rfl) (by kernel_rfl) (by kernel_rfl) (fun _ _ _ h => h) (Or.inl ⟨by kernel_rfl, ?_⟩) (by assumption) ?_
      rotate_left
      · intro w hSw; (try dsimp only at hSw); go_simp; first | done | with_reducible rfl
      try simp only [List.getElem_toArray, List.getElem_cons_zero, List.getElem_cons_succ, Act.put, List.setIfInBounds_toArray, List.set_cons_zero, List.set_cons_succ]
      refine wpAnyH_done (by kernel_rfl) ?_ _
      go_wp2
      go_ret
      exact ⟨rfl, B⟩
  · obtain rfl : r = false := by cases r; rfl; exact absurd (hr.1 rfl).1 e1
    have x1 : (X == X') = false := by simpa using e1
    clear hr e1
    have X2 := (Bx.new w (gV X Y h (.slice (some ⟨g, 0, none⟩) n n)) 33).alloc (.cells (gV X' Y' h' (.slice (some ⟨g', 0, none⟩) n' n')) 33)
    have X3 := Bx.newAt (w.alloc (.cells (gV X Y h (.slice (some ⟨g, 0, none⟩) n n)) 33)) (w.heap.size + 1) (gV X' Y' h' (.slice (some ⟨g', 0, none⟩) n' n')) 33 (by simp)
    have B := al (al (Below.refl w.heap.size w) (.cells (gV X Y h (.slice (some ⟨g, 0, none⟩) n n)) 33)) (.cells (gV X' Y' h' (.slice (some ⟨g', 0, none⟩) n' n')) 33)
    replace hA := (hA.alloc (.cells (gV X Y h (.slice (some ⟨g, 0, none⟩) n n)) 33)).alloc (.cells (gV X' Y' h' (.slice (some ⟨g', 0, none⟩) n' n')) 33)
    replace hA' := (hA'.alloc (.cells (gV X Y h (.slice (some ⟨g, 0, none⟩) n n)) 33)).alloc (.cells (gV X' Y' h' (.slice (some ⟨g', 0, none⟩) n' n')) 33)
    go_enter Try.func31, Try.ntmps31
    go_wp2_with fail
    obtain ⟨W0, hW⟩ : ∃ W0 : World, W0 = (w.alloc (.cells (gV X Y h (.slice (some ⟨g, 0, none⟩) n n)) 33)).alloc (.cells (gV X' Y' h' (.slice (some ⟨g', 0, none⟩) n' n')) 33) := ⟨_, rfl⟩
    rw [← hW] at X2 X3 B hA hA' ⊢
    clear hW
    refine wp_region_held_drew (S := (fun w' : World => Bx w' w.heap.size (gV X Y h (.slice (some ⟨g, 0, none⟩) n n)) 33 ∧ Bx w' (w.heap.size + 1) (gV X' Y' h' (.slice (some ⟨g', 0, none⟩) n' n')) 33)) (by kernel_rfl) ⟨X2, X3⟩ (fun hHeld => ?_)
    replace X2 := X2.drew
    replace X3 := X3.drew
    replace hA := hA.drew
    replace hA' := hA'.drew
    replace B := B.drew
    refine wpAnyH_take (i := 0) (oi := _) (v := .agg (gV X Y h (.slice (some ⟨g, 0, none⟩) n n))) rfl (by kernel_rfl) (by kernel_rfl) (by kernel_rfl) (fun _ _ _ h => h) (yields_box (by kernel_rfl) _ _ rfl w.heap.size rfl (gV X Y h (.slice (some ⟨g, 0, none⟩) n n)) 33 (fun _ hS => hS.1) _ Try.underlying33 rfl (infoGv _ _ _ _)) (by assumption) ?_
    try simp only [List.getElem_toArray, List.getElem_cons_zero, List.getElem_cons_succ, Act.put, List.setIfInBounds_toArray, List.set_cons_zero, List.set_cons_succ]
    refine wpAnyH_take (i := 2) (oi := _) (v := .agg (gV X' Y' h' (.slice (some ⟨g', 0, none⟩) n' n'))) rfl (by kernel_rfl) (by kernel_rfl) (by kernel_rfl) (fun _ _ _ h => h) (yields_box (by kernel_rfl) _ _ rfl (w.heap.size + 1) rfl (gV X' Y' h' (.slice (some ⟨g', 0, none⟩) n' n')) 33 (fun _ hS => hS.2) _ Try.underlying33 rfl (infoGv _ _ _ _)) (by assumption) ?_
    try simp only [List.getElem_toArray, List.getElem_cons_zero, List.getElem_cons_succ, Act.put, List.setIfInBounds_toArray, List.set_cons_zero, List.set_cons_succ]
    refine wpAnyH_ready (rs := [1]) (by kernel_rfl) (by simp) ?_
    refine AllReadyH.cons (o := _) rfl (fun K hK => ?_) AllReadyH.nil
    go_simp
    refine (sizesOf_any X Y h _ _).mono ?_
    rintro e w1 ⟨rfl, hb⟩
    replace X2 := X2.below hb
    replace X3 := X3.below hb
    replace hA := hA.below hb
    replace hA' := hA'.below hb
    replace B := nxt B hb
    clear hb
    refine hK.out _ _ ⟨X2, X3⟩ (fun hHeld => ?_)
    clear hK K
    try simp only [List.getElem_toArray, List.getElem_cons_zero, List.getElem_cons_succ, Act.put, List.setIfInBounds_toArray, List.set_cons_zero, List.set_cons_succ]
    refine wpAnyH_ready (rs := [3]) (by kernel_rfl) (by simp) ?_
    refine AllReadyH.cons (o := _) rfl (fun K hK => ?_) AllReadyH.nil
    go_simp
    refine (sizesOf_any X' Y' h' _ _).mono ?_
    rintro e w2 ⟨rfl, hb⟩
    replace X2 := X2.below hb
    replace X3 := X3.below hb
    replace hA := hA.below hb
    replace hA' := hA'.below hb
    replace B := nxt B hb
    clear hb
    refine hK.out _ _ ⟨X2, X3⟩ (fun hHeld => ?_)
    clear hK K
    try simp only [List.getElem_toArray, List.getElem_cons_zero, List.getElem_cons_succ, Act.put, List.setIfInBounds_toArray, List.set_cons_zero, List.set_cons_succ]
    refine wpAnyH_take (i := 4) (oi := _) (v := ?_) rfl (by kernel_rfl) (by kernel_rfl) (by kernel_rfl) (fun _ _ _ h => h) (Or.inl ⟨by kernel_rfl, ?_⟩) (by assumption) ?_
    rotate_left
    · intro w hSw; (try dsimp only at hSw); go_simp; first | done | with_reducible rfl
    try simp only [List.getElem_toArray, List.getElem_cons_zero, List.getElem_cons_succ, Act.put, List.setIfInBounds_toArray, List.set_cons_zero, List.set_cons_succ]
    refine wpAnyH_take (i := 5) (oi := _) (v := ?_) rfl (by kernel_rfl) (by kernel_rfl) (by kernel_rfl) (fun _ _ _ h => h) (Or.inl ⟨by kernel_rfl, ?_⟩) (by assumption) ?_
    rotate_left
    · intro w hSw; (try dsimp only at hSw); go_simp; first | done | with_reducible rfl
    try simp only [List.getElem_toArray, List.getElem_cons_zero, List.getElem_cons_succ, Act.put, List.setIfInBounds_toArray, List.set_cons_zero, List.set_cons_succ]
    refine wpAnyH_take (i := 6) (oi := _) (v := undef) rfl (by kernel_rfl) (by kernel_rfl) (by kernel_rfl) (fun _ _ _ h => h) (Or.inr ⟨by kernel_rfl, rfl⟩) (by assumption) ?_
    try simp only [List.getElem_toArray, List.getElem_cons_zero, List.getElem_cons_succ, Act.put, List.setIfInBounds_toArray, List.set_cons_zero, List.set_cons_succ]
    refine wpAnyH_take (i := 7) (oi := _) (v := undef) rfl (by kernel_rfl) (by kernel_rfl) (by kernel_rfl) (fun _ _ _ h => h) (Or.inr ⟨by kernel_rfl, rfl⟩) (by assumption) ?_
    try simp only [List.getElem_toArray, List.getElem_cons_zero, List.getElem_cons_succ, Act.put, List.setIfInBounds_toArray, List.set_cons_zero, List.set_cons_succ]
    refine wpAnyH_take (i := 8) (oi := _) (v := undef) rfl (by kernel_rfl) (by kernel_rfl) (by kernel_rfl) (fun _ _ _ h => h) (Or.inr ⟨by kernel_rfl, rfl⟩) (by assumption) ?_
    try simp only [List.getElem_toArray, List.getElem_cons_zero, List.getElem_cons_succ, Act.put, List.setIfInBounds_toArray, List.set_cons_zero, List.set_cons_succ]
    refine wpAnyH_take (i := 9) (oi := _) (v := undef) rfl (by kernel_rfl) (by kernel_rfl) (by kernel_rfl) (fun _ _ _ h => h) (Or.inr ⟨by kernel_rfl, rfl⟩) (by assumption) ?_
    try simp only [List.getElem_toArray, List.getElem_cons_zero, List.getElem_cons_succ, Act.put, List.setIfInBounds_toArray, List.set_cons_zero, List.set_cons_succ]
    refine wpAnyH_take (i := 10) (oi := _) (v := undef) rfl (by kernel_rfl) (by kernel_rfl) (by kernel_rfl) (fun _ _ _ h => h) (Or.inr ⟨by kernel_rfl, rfl⟩) (by assumption) ?_
    try simp only [List.getElem_toArray, List.getElem_cons_zero, List.getElem_cons_succ, Act.put, List.setIfInBounds_toArray, List.set_cons_zero, List.set_cons_succ]
    refine wpAnyH_take (i := 11) (oi := _) (v := ?_) rfl (by kernel_rfl) (by kernel_rfl) (by kernel_rfl) (fun _ _ _ h => h) (Or.inl ⟨by kernel_rfl, ?_⟩) (by assumption) ?_
    rotate_left
    · intro w hSw; (try dsimp only at hSw); go_simp; first | done | with_reducible rfl
    try simp only [List.getElem_toArray, List.getElem_cons_zero, List.getElem_cons_succ, Act.put, List.setIfInBounds_toArray, List.set_cons_zero, List.set_cons_succ]
    refine wpAnyH_take (i := 12) (oi := _) (v := ?_) rfl (by kernel_rfl) (by kernel_rfl) (by kernel_rfl) (fun _ _ _ h => h) (Or.inl ⟨by kernel_rfl, ?_⟩) (by assumption) ?_
    rotate_left
    · intro w hSw; (try dsimp only at hSw); go_simp; first | done | with_reducible rfl
    try simp only [List.getElem_toArray, List.getElem_cons_zero, List.getElem_cons_succ, Act.put, List.setIfInBounds_toArray, List.set_cons_zero, List.set_cons_succ]
    refine wpAnyH_take (i := 13) (oi := _) (v := undef) rfl (by kernel_rfl) (by kernel_rfl) (by kernel_rfl) (fun _ _ _ h => h) (Or.inr ⟨by kernel_rfl, rfl⟩) (by assumption) ?_
    try simp only [List.getElem_toArray, List.getElem_cons_zero, List.getElem_cons_succ, Act.put, List.setIfInBounds_toArray, List.set_cons_zero, List.set_cons_succ]
    refine wpAnyH_take (i := 14) (oi := _) (v := undef) rfl (by kernel_rfl) (by kernel_rfl) (by kernel_rfl) (fun _ _ _ h => h) (Or.inr ⟨by kernel_rfl, rfl⟩) (by assumption) ?_
    try simp only [List.getElem_toArray, List.getElem_cons_zero, List.getElem_cons_succ, Act.put, List.setIfInBounds_toArray, List.set_cons_zero, List.set_cons_succ]
    refine wpAnyH_take (i := 15) (oi := _) (v := undef) rfl (by kernel_rfl) (by kernel_rfl) (by kernel_rfl) (fun _ _ _ h => h) (Or.inr ⟨by kernel_rfl, rfl⟩) (by assumption) ?_
    try simp only [List.getElem_toArray, List.getElem_cons_zero, List.getElem_cons_succ, Act.put, List.setIfInBounds_toArray, List.set_cons_zero, List.set_cons_succ]
    refine wpAnyH_take (i := 16) (oi := _) (v := undef) rfl (by kernel_rfl) (by kernel_rfl) (by kernel_rfl) (fun _ _ _ h => h) (Or.inr ⟨by kernel_rfl, rfl⟩) (by assumption) ?_
    try simp only [List.getElem_toArray, List.getElem_cons_zero, List.getElem_cons_succ, Act.put, List.setIfInBounds_toArray, List.set_cons_zero, List.set_cons_succ]
    refine wpAnyH_take (i := 17) (oi := _) (v := undef) rfl (by kernel_rfl) (by kernel_rfl) (by kernel_rfl) (fun _ _ _ h => h) (Or.inr ⟨by kernel_rfl, rfl⟩) (by assumption) ?_
    try simp only [List.getElem_toArray, List.getElem_cons_zero, List.getElem_cons_succ, Act.put, List.setIfInBounds_toArray, List.set_cons_zero, List.set_cons_succ]
    refine wpAnyH_take (i := 18) (oi := _) (v := ?_) rfl (by kernel_rfl) (by kernel_rfl) (by kernel_rfl) (fun _ _ _ h => h) (Or.inl ⟨by kernel_rfl, ?_⟩) (by assumption) ?_
    rotate_left
    · intro w hSw; (try dsimp only at hSw); go_simp; first | done | with_reducible rfl
    try simp only [List.getElem_toArray, List.getElem_cons_zero, List.getElem_cons_succ, Act.put, List.setIfInBounds_toArray, List.set_cons_zero, List.set_cons_succ]
    refine wpAnyH_take (i := 19) (oi := _) (v := ?_) rfl (by kernel_rfl) (by kernel_rfl) (by kernel_rfl) (fun _ _ _ h => h) (Or.inl ⟨by kernel_rfl, ?_⟩) (by assumption) ?_
    rotate_left
    · intro w hSw; (try dsimp only at hSw); go_simp; first | done | with_reducible rfl
    try simp only [List.getElem_toArray, List.getElem_cons_zero, List.getElem_cons_succ, Act.put, List.setIfInBounds_toArray, List.set_cons_zero, List.set_cons_succ]
    refine wpAnyH_done (by kernel_rfl) ?_ _
    go_wp2
    go_ret
    exact ⟨rfl, B⟩

theorem both (X Y : Int) (h : Nat → Int) (n : Nat) (c : Nat → Int) (X' Y' : Int) (h' : Nat → Int) (n' : Nat) (c' : Nat → Int) (_hX : -128 ≤ X ∧ X ≤ 127) (_hY : -128 ≤ Y ∧ Y ≤ 127) (_hh : ∀ p, -32768 ≤ h p ∧ h p ≤ 32767) (_hc : ∀ j, -128 ≤ c j ∧ c j ≤ 127) (hm : n ≤ 1048576)
    (_hX' : -128 ≤ X' ∧ X' ≤ 127) (_hY' : -128 ≤ Y' ∧ Y' ≤ 127) (_hh' : ∀ p, -32768 ≤ h' p ∧ h' p ≤ 32767) (_hc' : ∀ j, -128 ≤ c' j ∧ c' j ≤ 127) (hm' : n' ≤ 1048576) :
    ∃ z : Bool, (∀ (W : World) (g g' : Nat), Ac W g n c → Ac W g' n' c' → Calls Try.prog 30 #[.agg (gV X Y h (.slice (some ⟨g, 0, none⟩) n n)), .agg (gV X' Y' h' (.slice (some ⟨g', 0, none⟩) n' n'))] W fun e w' => Below W.heap.size W w' ∧ e = .returned (.bool z)) ∧
      (∀ (W : World) (g g' : Nat), Ac W g n c → Ac W g' n' c' → Calls Try.prog 31 #[.agg (gV X Y h (.slice (some ⟨g, 0, none⟩) n n)), .agg (gV X' Y' h' (.slice (some ⟨g', 0, none⟩) n' n'))] W fun e w' => Below W.heap.size W w' ∧ e = .returned (.bool z)) := by
  by_cases hv : GSame X Y h n c X' Y' h' n' c'
  · exact ⟨true, fun W g g' A A' => (spec_any X Y h g n c X' Y' h' g' n' c' true W hm hm' A A' ⟨fun _ => hv, fun _ => rfl⟩).mono fun e w' hp => ⟨hp.2, hp.1⟩,
      fun W g g' A A' => (impl_any X Y h g n c X' Y' h' g' n' c' true W hm hm' A A' ⟨fun _ => hv, fun _ => rfl⟩).mono fun e w' hp => ⟨hp.2, hp.1⟩⟩
  · exact ⟨false, fun W g g' A A' => (spec_any X Y h g n c X' Y' h' g' n' c' false W hm hm' A A' ⟨(fun k => by cases k), fun k => absurd k hv⟩).mono fun e w' hp => ⟨hp.2, hp.1⟩,
      fun W g g' A A' => (impl_any X Y h g n c X' Y' h' g' n' c' false W hm hm' A A' ⟨(fun k => by cases k), fun k => absurd k hv⟩).mono fun e w' hp => ⟨hp.2, hp.1⟩⟩
end Go.Proofs.Ytegnhpanlbfmdaa.sameGround
