/-
  Contracts of the law's helpers over grounds: heights copied and compared. Conditions stand at each.
-/
import Derived.Test.YtkggimalkjjnoaaRows
import Derived.Test.YtkggimalkjjnoaaGndM
import Derived.Test.YtkggimalkjjnoaaBase
import Derived.Test.YtkggimalkjjnoaaMark
import Derived.Test.YtkggimalkjjnoaaCellL
import Derived.Deep.RegionHeld3
namespace Go.Proofs.Ytkggimalkjjnoaa
open Go Go.ChangeShapes Go.WideShapes Go.ChangeAt Go.RowKit
set_option linter.unusedVariables false
set_option linter.unusedSimpArgs false
set_option maxRecDepth 100000
set_option maxHeartbeats 2000000

theorem info9 : (Try.prog.info? 92).map (·.size) = some 9 := by kernel_rfl
theorem info99 : (Try.prog.info? 93).map (·.size) = some 81 := by kernel_rfl
theorem infoG : (Try.prog.info? 98).map (·.size) = some 84 := by kernel_rfl
theorem infoLG : (Try.prog.info? 95).map (·.size) = some 84 := by kernel_rfl
theorem zero9 : #[.int .i16 0, .int .i16 0, .int .i16 0, .int .i16 0, .int .i16 0, .int .i16 0, .int .i16 0, .int .i16 0, .int .i16 0] = iV .i16 9 (fun _ => 0) := by
  refine iV_of rfl fun p hp => ?_
  have : p = 0 ∨ p = 1 ∨ p = 2 ∨ p = 3 ∨ p = 4 ∨ p = 5 ∨ p = 6 ∨ p = 7 ∨ p = 8 := by omega
  rcases this with rfl | rfl | rfl | rfl | rfl | rfl | rfl | rfl | rfl <;> rfl

theorem toInt16A9_any (f : Nat → Int) (w : World) : Calls Try.prog 226 #[.agg (iV .i16 9 f)] w fun e w' => e = .returned (.agg (iV .i16 9 f)) ∧ Below w.heap.size w w' := by
  go_enter Try.func226, Try.ntmps226
  go_wp2
  obtain ⟨W0, hW0⟩ : ∃ W0 : World, W0 = ((w.alloc (Obj.cells (iV .i16 9 f) 92)).alloc (Obj.cells #[.int .i16 0, .int .i16 0, .int .i16 0, .int .i16 0, .int .i16 0, .int .i16 0, .int .i16 0, .int .i16 0, .int .i16 0] 92)).alloc (Obj.cells #[.int .i16 0, .int .i16 0, .int .i16 0, .int .i16 0, .int .i16 0, .int .i16 0, .int .i16 0, .int .i16 0, .int .i16 0] 92) := ⟨_, rfl⟩
  have B0 : Below w.heap.size w W0 := by rw [hW0]; exact al (al (al (Below.refl _ _) _) _) _
  have X1 : Bx W0 w.heap.size (iV .i16 9 f) 92 := by rw [hW0]; exact ((Bx.new _ _ _).alloc _).alloc _
  have X2 : Bx W0 (w.heap.size + 1) (iV .i16 9 (fun _ => 0)) 92 := by rw [hW0, ← zero9]; exact (Bx.newAt _ _ _ _ (by simp)).alloc _
  have X3 : Bx W0 (w.heap.size + 1 + 1) (iV .i16 9 (upto 0 f (fun _ => 0))) 92 := by rw [hW0, upto_zero, ← zero9]; exact Bx.newAt _ _ _ _ (by simp)
  rw [← hW0]
  clear hW0
  go_loopw [4] (fun t4 wr => ∃ k : Nat, k ≤ 9 ∧ t4 = .int .i64 k ∧ Below w.heap.size w wr ∧ Bx wr w.heap.size (iV .i16 9 f) 92 ∧ Bx wr (w.heap.size + 1) (iV .i16 9 (fun _ => 0)) 92 ∧ Bx wr (w.heap.size + 1 + 1) (iV .i16 9 (upto k f (fun _ => 0))) 92) (fun t4 wr => 9 - (intOf t4).toNat)
  case atStart => exact ⟨0, by omega, rfl, B0, X1, X2, X3⟩
  case round =>
    clear B0 X1 X2 X3
    obtain ⟨k, hk, rfl, B, X1, X2, X3⟩ := hrel
    by_cases hlt : k < 9
    · have hki : (k : Int) < 9 := by omega
      have c1 := X1.iget hlt
      have c3 := X3.iget hlt
      have f3 := X3.frozen k
      go_wp2
      refine ⟨⟨k + 1, by omega, by first | go_num | simp, B.setCell (p := ⟨w.heap.size + 1 + 1, k, none⟩) (by simp; omega) _, X1.other _ (by omega), X2.other _ (by omega), (X3.iset k (f k)).icongr fun p _ => upto_succ p⟩, by simp [intOf]; omega⟩
    · obtain rfl : k = 9 := by omega
      have X3' := X3.icongr upto_full
      clear X3
      go_wp2_with (first
        | (refine wpList_load_box X3' rfl _ _ rfl rfl _ Try.underlying92 rfl (by rw [iV_size]; exact info9) ?_)
        | (refine wpList_store_box X2 rfl _ _ _ rfl rfl rfl (by rw [iV_size]; exact info9) (by rw [iV_size, iV_size]) (iV_one _ _ _) ?_))
      refine bodyPost_ret (results_cell_row Try.results226 _ _ (w.heap.size + 1) 92 (iV .i16 9 f) (0, 0) _ rfl (setRow_heap _ _ _ _ _ _ X2) Try.underlying92 rfl (by rw [iV_size]; exact info9)) rfl ⟨rfl, setRow_below B (by omega) _⟩

def isZero16 : Option Value → Bool
  | some (.int .i16 n) => n == 0
  | _ => false
theorem of_isZero16 {v : Option Value} (h : isZero16 v = true) : v = some (.int .i16 0) := by
  unfold isZero16 at h
  split at h
  · simp only [beq_iff_eq] at h; subst h; rfl
  · cases h
theorem info99h (h : Nat → Int) : (Try.prog.info? 93).map (·.size) = some (hV h).size := by rw [hV_size]; exact info99
theorem zero99 : Try.zeroCells93 = hV (fun _ => 0) := by
  have hall : (List.range 81).all (fun p => isZero16 Try.zeroCells93[p]?) = true := by kernel_rfl
  exact iV_of (by kernel_rfl) fun p hp => of_isZero16 (List.all_eq_true.1 hall p (List.mem_range.2 hp))

/-- heights copied row by row. -/
theorem rows_step {k : Nat} (hk : k < 9) (h : Nat → Int) : (∀ j, j < (r9 h k).size → (hV (upto (9 * (k + 1)) h (fun _ => 0)))[k * 9 + j]? = (r9 h k)[j]?) ∧
    (∀ j, j < 81 → (j < k * 9 ∨ k * 9 + (r9 h k).size ≤ j) → (hV (upto (9 * (k + 1)) h (fun _ => 0)))[j]? = (hV (upto (9 * k) h (fun _ => 0)))[j]?) := by
  rw [iV_size]
  refine ⟨fun j hj => ?_, fun j hj ho => ?_⟩
  · rw [hV_get _ (by omega), iV_get hj]
    unfold upto
    rw [if_pos (by omega), show k * 9 + j = 9 * k + j by omega]
  · rw [hV_get _ hj, hV_get _ hj]
    unfold upto
    rcases ho with ho | ho
    · rw [if_pos (by omega), if_pos (by omega)]
    · rw [if_neg (by omega), if_neg (by omega)]

theorem toInt16A9A9_any (h : Nat → Int) (w : World) : Calls Try.prog 170 #[.agg (hV h)] w fun e w' => e = .returned (.agg (hV h)) ∧ Below w.heap.size w w' := by
  go_enter Try.func170, Try.ntmps170
  go_wp2
  obtain ⟨W0, hW0⟩ : ∃ W0 : World, W0 = ((w.alloc (Obj.cells (hV h) 93)).alloc (Obj.cells Try.zeroCells93 93)).alloc (Obj.cells Try.zeroCells93 93) := ⟨_, rfl⟩
  have B0 : Below w.heap.size w W0 := by rw [hW0]; exact al (al (al (Below.refl _ _) _) _) _
  have X1 : Bx W0 w.heap.size (hV h) 93 := by rw [hW0]; exact ((Bx.new _ _ _).alloc _).alloc _
  have X2 : Bx W0 (w.heap.size + 1) (hV (fun _ => 0)) 93 := by rw [hW0, ← zero99]; exact (Bx.newAt _ _ _ _ (by simp)).alloc _
  have X3 : Bx W0 (w.heap.size + 1 + 1) (hV (upto (9 * 0) h (fun _ => 0))) 93 := by rw [hW0, upto_zero, ← zero99]; exact Bx.newAt _ _ _ _ (by simp)
  rw [← hW0]
  clear hW0
  go_loopw [4] (fun t4 wr => ∃ k : Nat, k ≤ 9 ∧ t4 = .int .i64 k ∧ Below w.heap.size w wr ∧ Bx wr w.heap.size (hV h) 93 ∧ Bx wr (w.heap.size + 1) (hV (fun _ => 0)) 93 ∧ Bx wr (w.heap.size + 1 + 1) (hV (upto (9 * k) h (fun _ => 0))) 93) (fun t4 wr => 9 - (intOf t4).toNat)
  case atStart => exact ⟨0, by omega, rfl, B0, X1, X2, X3⟩
  case round =>
    clear B0 X1 X2 X3
    obtain ⟨k, hk, rfl, B, X1, X2, X3⟩ := hrel
    by_cases hlt : k < 9
    · have hki : (k : Int) < 9 := by omega
      have hs1 := X1.lt
      have hs3 := X3.lt
      go_wp2_with (refine wpList_load_part X1 rfl _ _ rfl (k * 9) rfl (r9 h k) (hV_row h hlt) _ Try.underlying92 rfl (by rw [iV_size]; exact info9) ?_)
      refine (toInt16A9_any _ _).mono ?_
      rintro e w1 ⟨rfl, hb⟩
      replace X1 := X1.below hb
      replace X2 := X2.below hb
      replace X3 := X3.below hb
      replace B := nxt B hb
      clear hb
      go_wp2_with (refine wpList_store_part X3 rfl _ _ _ rfl (k * 9) rfl (r9 h k) rfl (by rw [iV_size]; exact info9) (iV_one _ _ _) (hV (upto (9 * (k + 1)) h (fun _ => 0))) (by rw [iV_size, iV_size]) (by rw [iV_size, iV_size]; omega) (rows_step hlt h).1 (fun j hj => (rows_step hlt h).2 j (by rwa [iV_size] at hj)) ?_; intro w2 X3' hg hsz)
      refine ⟨⟨k + 1, by omega, by first | go_num | simp, below_grown B hg (by have := B.size; omega) (by omega), ?_, ?_, X3'⟩, by simp [intOf]; omega⟩
      · exact X1.of_block (hg.block _ X1.lt (by intro e; injection e; omega))
      · exact X2.of_block (hg.block _ X2.lt (by intro e; injection e; omega))
    · obtain rfl : k = 9 := by omega
      have X3' := X3.icongr upto_full
      clear X3
      go_wp2_with (first
        | (refine wpList_load_box X3' rfl _ _ rfl rfl _ Try.underlying93 rfl (info99h _) ?_)
        | (refine wpList_store_box X2 rfl _ _ _ rfl rfl rfl (info99h _) (by rw [iV_size, iV_size]) (iV_one _ _ _) ?_))
      refine bodyPost_ret (results_cell_row Try.results170 _ _ (w.heap.size + 1) 93 (hV h) (0, 0) _ rfl (setRow_heap _ _ _ _ _ _ X2) Try.underlying93 rfl (info99h _)) rfl ⟨rfl, setRow_below B (by omega) _⟩

theorem eqInt16A9_any (f : Nat → Int) (w : World) : Calls Try.prog 233 #[.agg (iV .i16 9 f), .agg (iV .i16 9 f)] w fun e w' => e = .returned (.bool true) ∧ Below w.heap.size w w' := by
  go_enter Try.func233, Try.ntmps233
  go_wp2
  obtain ⟨W0, hW0⟩ : ∃ W0 : World, W0 = ((w.alloc (Obj.cells (iV .i16 9 f) 92)).alloc (Obj.cells (iV .i16 9 f) 92)) := ⟨_, rfl⟩
  have B0 : Below w.heap.size w W0 := by rw [hW0]; exact al (al (Below.refl _ _) _) _
  have X1 : Bx W0 w.heap.size (iV .i16 9 f) 92 := by rw [hW0]; exact (Bx.new _ _ _).alloc _
  have X2 : Bx W0 (w.heap.size + 1) (iV .i16 9 f) 92 := by rw [hW0]; exact Bx.newAt _ _ _ _ (by simp)
  rw [← hW0]
  clear hW0
  go_loopw [5] (fun t5 wr => ∃ k : Nat, k ≤ 9 ∧ t5 = .int .i64 k ∧ Below w.heap.size w wr ∧ Bx wr w.heap.size (iV .i16 9 f) 92 ∧ Bx wr (w.heap.size + 1) (iV .i16 9 f) 92) (fun t5 wr => 9 - (intOf t5).toNat)
  case atStart => exact ⟨0, by omega, rfl, B0, X1, X2⟩
  case round =>
    clear B0 X1 X2
    obtain ⟨k, hk, rfl, B, X1, X2⟩ := hrel
    by_cases hlt : k < 9
    · have hki : (k : Int) < 9 := by omega
      have c1 := X1.iget hlt
      have c2 := X2.iget hlt
      have hff : (f k != f k) = false := by simp
      go_wp2
      go_quiet (fail)
      go_wp2
      refine ⟨⟨k + 1, by omega, by first | go_num | simp, below_drewN' B _, X1, X2⟩, by simp [intOf]; omega⟩
    · obtain rfl : k = 9 := by omega
      go_wp2
      go_ret
      exact ⟨rfl, B⟩

theorem eqInt16A9A9_any (h : Nat → Int) (w : World) : Calls Try.prog 178 #[.agg (hV h), .agg (hV h)] w fun e w' => e = .returned (.bool true) ∧ Below w.heap.size w w' := by
  go_enter Try.func178, Try.ntmps178
  go_wp2
  obtain ⟨W0, hW0⟩ : ∃ W0 : World, W0 = ((w.alloc (Obj.cells (hV h) 93)).alloc (Obj.cells (hV h) 93)) := ⟨_, rfl⟩
  have B0 : Below w.heap.size w W0 := by rw [hW0]; exact al (al (Below.refl _ _) _) _
  have X1 : Bx W0 w.heap.size (hV h) 93 := by rw [hW0]; exact (Bx.new _ _ _).alloc _
  have X2 : Bx W0 (w.heap.size + 1) (hV h) 93 := by rw [hW0]; exact Bx.newAt _ _ _ _ (by simp)
  rw [← hW0]
  clear hW0
  go_loopw [5] (fun t5 wr => ∃ k : Nat, k ≤ 9 ∧ t5 = .int .i64 k ∧ Below w.heap.size w wr ∧ Bx wr w.heap.size (hV h) 93 ∧ Bx wr (w.heap.size + 1) (hV h) 93) (fun t5 wr => 9 - (intOf t5).toNat)
  case atStart => exact ⟨0, by omega, rfl, B0, X1, X2⟩
  case round =>
    clear B0 X1 X2
    obtain ⟨k, hk, rfl, B, X1, X2⟩ := hrel
    by_cases hlt : k < 9
    · have hki : (k : Int) < 9 := by omega
      have hk0 : (0 : Int) ≤ (k : Int) := by omega
      have i9 : (Try.prog.info? 92).map (·.size) = some (r9 h k).size := by rw [iV_size]; exact info9
      have HI := Lib.hid i9
      clear i9
      go_wp2
      refine wp_region_held_drew (S := (fun w' : World => Bx w' w.heap.size (hV h) 93 ∧ Bx w' (w.heap.size + 1) (hV h) 93)) (by kernel_rfl) ⟨X1, X2⟩ (fun hHeld => ?_)
      refine wpAnyH_take (i := 0) (oi := _) (v := ?_) rfl (by kernel_rfl) (by kernel_rfl) (by kernel_rfl) (fun _ _ _ h => h) (Or.inl ⟨by kernel_rfl, ?_⟩) (by assumption) ?_
      rotate_left
      · intro w hSw; (try dsimp only at hSw); go_simp; first | done | with_reducible rfl
      try simp only [List.getElem_toArray, List.getElem_cons_zero, List.getElem_cons_succ, Act.put, List.setIfInBounds_toArray, List.set_cons_zero, List.set_cons_succ]
      refine wpAnyH_take (i := 1) (oi := _) (v := ?_) rfl (by kernel_rfl) (by kernel_rfl) (by kernel_rfl) (fun _ _ _ h => h) (Or.inl ⟨by kernel_rfl, ?_⟩) (by assumption) ?_
      rotate_left
      · intro w hSw; (try dsimp only at hSw); go_simp; first | done | with_reducible rfl
      try simp only [List.getElem_toArray, List.getElem_cons_zero, List.getElem_cons_succ, Act.put, List.setIfInBounds_toArray, List.set_cons_zero, List.set_cons_succ]
      refine wpAnyH_take (i := 2) (oi := _) (v := .agg (r9 h k)) rfl (by kernel_rfl) (by kernel_rfl) (by kernel_rfl) (fun _ _ _ h => h) (yields_part (by kernel_rfl) _ _ rfl w.heap.size (k * 9) rfl (hV h) (r9 h k) 93 (fun _ hS => hS.1) (hV_row h hlt) _ Try.underlying92 rfl HI.out) (by assumption) ?_
      try simp only [List.getElem_toArray, List.getElem_cons_zero, List.getElem_cons_succ, Act.put, List.setIfInBounds_toArray, List.set_cons_zero, List.set_cons_succ]
      refine wpAnyH_take (i := 3) (oi := _) (v := ?_) rfl (by kernel_rfl) (by kernel_rfl) (by kernel_rfl) (fun _ _ _ h => h) (Or.inl ⟨by kernel_rfl, ?_⟩) (by assumption) ?_
      rotate_left
      · intro w hSw; (try dsimp only at hSw); go_simp; first | done | with_reducible rfl
      try simp only [List.getElem_toArray, List.getElem_cons_zero, List.getElem_cons_succ, Act.put, List.setIfInBounds_toArray, List.set_cons_zero, List.set_cons_succ]
      refine wpAnyH_take (i := 4) (oi := _) (v := ?_) rfl (by kernel_rfl) (by kernel_rfl) (by kernel_rfl) (fun _ _ _ h => h) (Or.inl ⟨by kernel_rfl, ?_⟩) (by assumption) ?_
      rotate_left
      · intro w hSw; (try dsimp only at hSw); go_simp; first | done | with_reducible rfl
      try simp only [List.getElem_toArray, List.getElem_cons_zero, List.getElem_cons_succ, Act.put, List.setIfInBounds_toArray, List.set_cons_zero, List.set_cons_succ]
      refine wpAnyH_take (i := 5) (oi := _) (v := .agg (r9 h k)) rfl (by kernel_rfl) (by kernel_rfl) (by kernel_rfl) (fun _ _ _ h => h) (yields_part (by kernel_rfl) _ _ rfl (w.heap.size + 1) (k * 9) rfl (hV h) (r9 h k) 93 (fun _ hS => hS.2) (hV_row h hlt) _ Try.underlying92 rfl HI.out) (by assumption) ?_
      try simp only [List.getElem_toArray, List.getElem_cons_zero, List.getElem_cons_succ, Act.put, List.setIfInBounds_toArray, List.set_cons_zero, List.set_cons_succ]
      refine wpAnyH_ready (rs := [6]) (by kernel_rfl) (by simp) ?_
      refine AllReadyH.cons (o := _) rfl (fun K hK => ?_) AllReadyH.nil
      go_simp
      refine (eqInt16A9_any (fun j => h (9 * k + j)) _).mono ?_
      rintro e w1 ⟨rfl, hb⟩
      replace X1 : Bx wr.drew _ _ _ := X1
      replace X2 : Bx wr.drew _ _ _ := X2
      replace X1 := X1.below hb
      replace X2 := X2.below hb
      replace B := nxt B.drew hb
      clear hb
      refine hK.out _ _ ⟨X1, X2⟩ (fun hHeld => ?_)
      clear hK K
      try simp only [List.getElem_toArray, List.getElem_cons_zero, List.getElem_cons_succ, Act.put, List.setIfInBounds_toArray, List.set_cons_zero, List.set_cons_succ]
      refine wpAnyH_take (i := 7) (oi := _) (v := ?_) rfl (by kernel_rfl) (by kernel_rfl) (by kernel_rfl) (fun _ _ _ h => h) (Or.inl ⟨by kernel_rfl, ?_⟩) (by assumption) ?_
      rotate_left
      · intro w hSw; (try dsimp only at hSw); go_simp; first | done | with_reducible rfl
      try simp only [List.getElem_toArray, List.getElem_cons_zero, List.getElem_cons_succ, Act.put, List.setIfInBounds_toArray, List.set_cons_zero, List.set_cons_succ]
      refine wpAnyH_done (by kernel_rfl) ?_ _
      go_wp2
      refine ⟨⟨k + 1, by omega, by first | go_num | simp, B, X1, X2⟩, by simp [intOf]; omega⟩
    · obtain rfl : k = 9 := by omega
      go_wp2
      go_ret
      exact ⟨rfl, B⟩
end Go.Proofs.Ytkggimalkjjnoaa
