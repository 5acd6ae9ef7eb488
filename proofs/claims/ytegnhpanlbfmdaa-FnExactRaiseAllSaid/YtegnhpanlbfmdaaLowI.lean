/-
  The program's lowestBeside. Conditions stand at each.
-/
import Derived.Test.YtegnhpanlbfmdaaRows
import Derived.Test.YtegnhpanlbfmdaaBesI
import Derived.Test.YtegnhpanlbfmdaaFallS
namespace Go.Proofs.Ytegnhpanlbfmdaa
open Go Go.ChangeShapes Go.WideShapes Go.ChangeAt Go.RowKit
set_option linter.unusedVariables false
set_option linter.unusedSimpArgs false
set_option maxRecDepth 100000
set_option maxHeartbeats 4000000

theorem Bx.hcell {w : World} {b : Nat} {X Y : Int} {h : Nat → Int} {s : Value} {t : TypeId} (hB : Bx w b (gV X Y h s) t) {x y : Nat} (hx : x < 9) (hy : y < 9) : w.cell? ⟨b, 2 + y * 9 + x, none⟩ = some (.int .i16 (h (y * 9 + x))) := by
  have := (hB.cell (2 + (y * 9 + x))).trans (gV_h _ _ _ _ (by omega))
  rwa [show 2 + (y * 9 + x) = 2 + y * 9 + x by omega] at this

def LbPost (W H : Nat) (h : Nat → Int) (p : Nat × Nat) (w : World) (e : Ending) (w' : World) : Prop :=
  Below w.heap.size w w' ∧ e = .returned (.tuple #[.agg (cellA (lowP W H h p)), .int .i64 (htP h p - htP h (lowP W H h p))])
theorem low_any (W H x y b : Nat) (h : Nat → Int) (s : Value) (w : World) (hW : W ≤ 9) (hH : H ≤ 9) (hx : x < W) (hy : y < H) (hh : ∀ p, -32768 ≤ h p ∧ h p ≤ 32767) (hB : Bx w b (gV W H h s) 153) :
    Calls Try.prog 141 #[.pointer (some ⟨b, 0, none⟩), .agg #[.int .i8 (x : Int), .int .i8 (y : Int)]] w (LbPost W H h (x, y) w) := by
  have HH := Lib.hid hh
  clear hh
  have hxi : (x : Int) < 9 := by omega
  have hyi : (y : Int) < 9 := by omega
  have hlt0 := hB.lt
  have X3 := ((Bx.new w #[.int .i8 (x : Int), .int .i8 (y : Int)] 40).alloc (.cells #[.int .i8 0, .int .i8 0] 40)).alloc (.cells #[.int .i8 (x : Int), .int .i8 (y : Int)] 40)
  have X4 := (Bx.newAt (w.alloc (.cells #[.int .i8 (x : Int), .int .i8 (y : Int)] 40)) (w.heap.size + 1) #[.int .i8 0, .int .i8 0] 40 (by simp)).alloc (.cells #[.int .i8 (x : Int), .int .i8 (y : Int)] 40)
  have X6 := Bx.newAt ((w.alloc (.cells #[.int .i8 (x : Int), .int .i8 (y : Int)] 40)).alloc (.cells #[.int .i8 0, .int .i8 0] 40)) (w.heap.size + 1 + 1) #[.int .i8 (x : Int), .int .i8 (y : Int)] 40 (by simp)
  have B := al (al (al (Below.refl w.heap.size w) (.cells #[.int .i8 (x : Int), .int .i8 (y : Int)] 40)) (.cells #[.int .i8 0, .int .i8 0] 40)) (.cells #[.int .i8 (x : Int), .int .i8 (y : Int)] 40)
  go_enter Try.func141, Try.ntmps141
  go_wp2
  obtain ⟨W0, hW0⟩ : ∃ W0 : World, W0 = ((w.alloc (.cells #[.int .i8 (x : Int), .int .i8 (y : Int)] 40)).alloc (.cells #[.int .i8 0, .int .i8 0] 40)).alloc (.cells #[.int .i8 (x : Int), .int .i8 (y : Int)] 40) := ⟨_, rfl⟩
  rw [← hW0] at X3 X4 X6 B ⊢
  clear hW0
  have X1 : Bx W0 b (gV W H h s) 153 := hB.of_block (B.block _ hlt0)
  have hs0 : w.heap.size + 1 + 1 < W0.heap.size := X6.lt
  obtain ⟨l1, p1, q1, _⟩ := X1.gcells
  have c0 : W0.cell? ⟨w.heap.size, 0, none⟩ = some (.int .i8 (x : Int)) := X3.cell 0
  have c1 : W0.cell? ⟨w.heap.size, 1, none⟩ = some (.int .i8 (y : Int)) := X3.cell 1
  refine wp_region_held_drew (S := (fun w' : World => w'.cell? ⟨b, 0, none⟩ = some (.int .i8 (W : Int)) ∧ w'.cell? ⟨b, 1, none⟩ = some (.int .i8 (H : Int)) ∧ w'.cell? ⟨w.heap.size, 0, none⟩ = some (.int .i8 (x : Int)) ∧ w'.cell? ⟨w.heap.size, 1, none⟩ = some (.int .i8 (y : Int)))) (by kernel_rfl) ⟨p1, q1, c0, c1⟩ (fun hHeld => ?_)
  refine wpAnyH_take (i := 0) (oi := _) (v := ?_) rfl (by kernel_rfl) (by kernel_rfl) (by kernel_rfl) (fun _ _ _ h => h) (Or.inl ⟨by kernel_rfl, ?_⟩) (by assumption) ?_
  rotate_left
  · intro w hSw; (try dsimp only at hSw); go_simp; first | done | with_reducible rfl
  try simp only [List.getElem_toArray, List.getElem_cons_zero, List.getElem_cons_succ, Act.put, List.setIfInBounds_toArray, List.set_cons_zero, List.set_cons_succ]
  refine wpAnyH_take (i := 1) (oi := _) (v := ?_) rfl (by kernel_rfl) (by kernel_rfl) (by kernel_rfl) (fun _ _ _ h => h) (Or.inl ⟨by kernel_rfl, ?_⟩) (by assumption) ?_
  rotate_left
  · intro w hSw; (try dsimp only at hSw); go_simp; first | done | with_reducible rfl
  try simp only [List.getElem_toArray, List.getElem_cons_zero, List.getElem_cons_succ, Act.put, List.setIfInBounds_toArray, List.set_cons_zero, List.set_cons_succ]
  refine wpAnyH_take (i := 2) (oi := _) (v := ?_) rfl (by kernel_rfl) (by kernel_rfl) (by kernel_rfl) (fun _ _ _ h => h) (Or.inl ⟨by kernel_rfl, ?_⟩) (by assumption) ?_
  rotate_left
  · intro w hSw; (try dsimp only at hSw); go_simp; first | done | with_reducible rfl
  try simp only [List.getElem_toArray, List.getElem_cons_zero, List.getElem_cons_succ, Act.put, List.setIfInBounds_toArray, List.set_cons_zero, List.set_cons_succ]
  refine wpAnyH_take (i := 3) (oi := _) (v := ?_) rfl (by kernel_rfl) (by kernel_rfl) (by kernel_rfl) (fun _ _ _ h => h) (Or.inl ⟨by kernel_rfl, ?_⟩) (by assumption) ?_
  rotate_left
  · intro w hSw; (try dsimp only at hSw); go_simp; first | done | with_reducible rfl
  try simp only [List.getElem_toArray, List.getElem_cons_zero, List.getElem_cons_succ, Act.put, List.setIfInBounds_toArray, List.set_cons_zero, List.set_cons_succ]
  refine wpAnyH_take (i := 4) (oi := _) (v := ?_) rfl (by kernel_rfl) (by kernel_rfl) (by kernel_rfl) (fun _ _ _ h => h) (Or.inl ⟨by kernel_rfl, ?_⟩) (by assumption) ?_
  rotate_left
  · intro w hSw; (try dsimp only at hSw); go_simp; first | done | with_reducible rfl
  try simp only [List.getElem_toArray, List.getElem_cons_zero, List.getElem_cons_succ, Act.put, List.setIfInBounds_toArray, List.set_cons_zero, List.set_cons_succ]
  refine wpAnyH_take (i := 7) (oi := _) (v := ?_) rfl (by kernel_rfl) (by kernel_rfl) (by kernel_rfl) (fun _ _ _ h => h) (Or.inl ⟨by kernel_rfl, ?_⟩) (by assumption) ?_
  rotate_left
  · intro w hSw; (try dsimp only at hSw); go_simp; first | done | with_reducible rfl
  try simp only [List.getElem_toArray, List.getElem_cons_zero, List.getElem_cons_succ, Act.put, List.setIfInBounds_toArray, List.set_cons_zero, List.set_cons_succ]
  refine wpAnyH_ready (rs := [5]) (by kernel_rfl) (by simp) ?_
  refine AllReadyH.cons (o := _) rfl (fun K hK => ?_) AllReadyH.nil
  go_simp
  refine (ibes_any W H x y _ hW hH hx hy).mono ?_
  rintro e w3 ⟨hb, v, rfl, O⟩
  have hL : ∀ q ∈ besL W H x y, q.1 < W ∧ q.2 < H := fun q hq => besK_mem hq
  have hm4 : (besL W H x y).length ≤ 4 := besK_length 4
  have hlow : lowP W H h (x, y) = lowL h (besL W H x y) (x, y) := rfl
  generalize besL W H x y = L at O hL hm4 hlow
  obtain ⟨m, hm⟩ : ∃ m, m = L.length := ⟨_, rfl⟩
  obtain ⟨A2, cap2, rfl, hA2⟩ := O.form
  rw [← hm] at O hA2 hm4
  replace X1 := X1.drew.below hb
  replace X3 := X3.drew.below hb
  replace X4 := X4.drew.below hb
  replace X6 := X6.drew.below hb
  replace B := nxt B.drew hb
  have hs3 := hb.size
  replace O : OwnC w3 W0.heap.size _ L := O
  have HL := Lib.hid hL
  have HM := Lib.hid hm
  have HLO := Lib.hid hlow
  rw [← hm]
  clear hb hL hm hlow l1 p1 q1 c0 c1
  obtain ⟨l1, p1, q1, _⟩ := X1.gcells
  have c0 : w3.cell? ⟨w.heap.size, 0, none⟩ = some (.int .i8 (x : Int)) := X3.cell 0
  have c1 : w3.cell? ⟨w.heap.size, 1, none⟩ = some (.int .i8 (y : Int)) := X3.cell 1
  refine hK.out _ _ ⟨p1, q1, c0, c1⟩ (fun hHeld => ?_)
  clear hK K
  try simp only [List.getElem_toArray, List.getElem_cons_zero, List.getElem_cons_succ, Act.put, List.setIfInBounds_toArray, List.set_cons_zero, List.set_cons_succ]
  refine wpAnyH_take (i := 6) (oi := _) (v := ?_) rfl (by kernel_rfl) (by kernel_rfl) (by kernel_rfl) (fun _ _ _ h => h) (Or.inl ⟨by kernel_rfl, ?_⟩) (by assumption) ?_
  rotate_left
  · intro w hSw; (try dsimp only at hSw); go_simp; first | done | with_reducible rfl
  try simp only [List.getElem_toArray, List.getElem_cons_zero, List.getElem_cons_succ, Act.put, List.setIfInBounds_toArray, List.set_cons_zero, List.set_cons_succ]
  refine wpAnyH_done (by kernel_rfl) ?_ _
  replace hs3 : W0.heap.size ≤ w3.heap.size := hs3
  clear l1 p1 q1 c0 c1 X1
  go_wp2_with fail
  go_loopw [8, 17] (fun t8 t17 wr => ∃ k : Nat, k ≤ m ∧ t17 = .int .i64 k ∧ Below w.heap.size w wr ∧ Bx wr w.heap.size #[.int .i8 (x : Int), .int .i8 (y : Int)] 40 ∧ Bx wr (w.heap.size + 1) #[.int .i8 0, .int .i8 0] 40 ∧
    OwnC wr W0.heap.size (.slice A2 m cap2) L ∧ ∃ p : Nat × Nat, p = lowL h (L.take k) (x, y) ∧ p.1 < W ∧ p.2 < H ∧ Bx wr (w.heap.size + 1 + 1) (cellA p) 40) (fun t8 t17 _ => m - (intOf t17).toNat)
  case atStart => exact ⟨0, by omega, rfl, B, X3, X4, O, (x, y), rfl, hx, hy, X6⟩
  case round =>
    clear B X3 X4 X6 O
    obtain ⟨k, hk, rfl, B, X3, X4, O, p, hp, hpW, hpH, X6⟩ := hrel
    obtain ⟨px, py⟩ := p
    obtain ⟨wo, rfl⟩ : ∃ wo : World, wo = wr := ⟨_, rfl⟩
    have HP := Lib.hid hp
    clear hp
    dsimp only at hpW hpH
    have hpx : (px : Int) < 9 := by omega
    have hpy : (py : Int) < 9 := by omega
    by_cases hlt : k < m
    · have hki : (k : Int) < m := by omega
      obtain ⟨g, rfl, hg, _⟩ := hA2 (by omega)
      have hq : L[k]? = some (L[k]'(by rw [← HM.out]; exact hlt)) := List.getElem?_eq_getElem _
      obtain ⟨⟨a, c⟩, hq⟩ : ∃ q, L[k]? = some q := ⟨_, hq⟩
      obtain ⟨hqa, hqb⟩ := HL.out _ (List.mem_of_getElem? hq)
      dsimp only at hqa hqb
      obtain ⟨c0, c1⟩ := OwnC.get O HM.out.symm hq
      dsimp only at c0 c1
      have HQ := Lib.hid hq
      clear hq
      have hai : (a : Int) < 9 := by omega
      have hbi : (c : Int) < 9 := by omega
      go_wp2_with fail
      have hs6 : w.heap.size + 1 + 1 < wo.heap.size := X6.lt
      have Y8 := Bx.new wo #[.int .i8 (a : Int), .int .i8 (c : Int)] 40
      replace X3 := X3.alloc (.cells #[.int .i8 (a : Int), .int .i8 (c : Int)] 40)
      replace X4 := X4.alloc (.cells #[.int .i8 (a : Int), .int .i8 (c : Int)] 40)
      replace X6 := X6.alloc (.cells #[.int .i8 (a : Int), .int .i8 (c : Int)] 40)
      replace O := OwnC.alloc O (.cells #[.int .i8 (a : Int), .int .i8 (c : Int)] 40)
      replace B := al B (.cells #[.int .i8 (a : Int), .int .i8 (c : Int)] 40)
      obtain ⟨W5, hW5⟩ : ∃ W5 : World, W5 = wo.alloc (.cells #[.int .i8 (a : Int), .int .i8 (c : Int)] 40) := ⟨_, rfl⟩
      rw [← hW5] at Y8 X3 X4 X6 O B ⊢
      clear hW5 c0 c1
      have X1 : Bx W5 b (gV W H h s) 153 := hB.of_block (B.block _ hlt0)
      have a0 : W5.cell? ⟨wo.heap.size, 0, none⟩ = some (.int .i8 (a : Int)) := Y8.cell 0
      have a1 : W5.cell? ⟨wo.heap.size, 1, none⟩ = some (.int .i8 (c : Int)) := Y8.cell 1
      have b0 : W5.cell? ⟨w.heap.size + 1 + 1, 0, none⟩ = some (.int .i8 (px : Int)) := X6.cell 0
      have b1 : W5.cell? ⟨w.heap.size + 1 + 1, 1, none⟩ = some (.int .i8 (py : Int)) := X6.cell 1
      by_cases hl : h (c * 9 + a) < h (py * 9 + px)
      · have Hl := Lib.hid hl
        refine wp_region_held_drew (S := (fun w' : World => w'.cell? ⟨wo.heap.size, 0, none⟩ = some (.int .i8 (a : Int)) ∧ w'.cell? ⟨wo.heap.size, 1, none⟩ = some (.int .i8 (c : Int)) ∧ w'.cell? ⟨w.heap.size + 1 + 1, 0, none⟩ = some (.int .i8 (px : Int)) ∧ w'.cell? ⟨w.heap.size + 1 + 1, 1, none⟩ = some (.int .i8 (py : Int)))) (by kernel_rfl) ⟨a0, a1, b0, b1⟩ (fun hHeld => ?_)
        refine wpAnyH_take (i := 0) (oi := _) (v := ?_) rfl (by kernel_rfl) (by kernel_rfl) (by kernel_rfl) (fun _ _ _ h => h) (Or.inl ⟨by kernel_rfl, ?_⟩) (by assumption) ?_
        rotate_left
        · intro w hSw; (try dsimp only at hSw); go_simp; first | done | with_reducible rfl
        try simp only [List.getElem_toArray, List.getElem_cons_zero, List.getElem_cons_succ, Act.put, List.setIfInBounds_toArray, List.set_cons_zero, List.set_cons_succ]
        refine wpAnyH_take (i := 1) (oi := _) (v := ?_) rfl (by kernel_rfl) (by kernel_rfl) (by kernel_rfl) (fun _ _ _ h => h) (Or.inl ⟨by kernel_rfl, ?_⟩) (by assumption) ?_
        rotate_left
        · intro w hSw; (try dsimp only at hSw); go_simp; first | done | with_reducible rfl
        try simp only [List.getElem_toArray, List.getElem_cons_zero, List.getElem_cons_succ, Act.put, List.setIfInBounds_toArray, List.set_cons_zero, List.set_cons_succ]
        refine wpAnyH_take (i := 2) (oi := _) (v := ?_) rfl (by kernel_rfl) (by kernel_rfl) (by kernel_rfl) (fun _ _ _ h => h) (Or.inl ⟨by kernel_rfl, ?_⟩) (by assumption) ?_
        rotate_left
        · intro w hSw; (try dsimp only at hSw); go_simp; first | done | with_reducible rfl
        try simp only [List.getElem_toArray, List.getElem_cons_zero, List.getElem_cons_succ, Act.put, List.setIfInBounds_toArray, List.set_cons_zero, List.set_cons_succ]
        refine wpAnyH_take (i := 3) (oi := _) (v := ?_) rfl (by kernel_rfl) (by kernel_rfl) (by kernel_rfl) (fun _ _ _ h => h) (Or.inl ⟨by kernel_rfl, ?_⟩) (by assumption) ?_
        rotate_left
        · intro w hSw; (try dsimp only at hSw); go_simp; first | done | with_reducible rfl
        try simp only [List.getElem_toArray, List.getElem_cons_zero, List.getElem_cons_succ, Act.put, List.setIfInBounds_toArray, List.set_cons_zero, List.set_cons_succ]
        refine wpAnyH_take (i := 5) (oi := _) (v := ?_) rfl (by kernel_rfl) (by kernel_rfl) (by kernel_rfl) (fun _ _ _ h => h) (Or.inl ⟨by kernel_rfl, ?_⟩) (by assumption) ?_
        rotate_left
        · intro w hSw; (try dsimp only at hSw); go_simp; first | done | with_reducible rfl
        try simp only [List.getElem_toArray, List.getElem_cons_zero, List.getElem_cons_succ, Act.put, List.setIfInBounds_toArray, List.set_cons_zero, List.set_cons_succ]
        refine wpAnyH_take (i := 6) (oi := _) (v := ?_) rfl (by kernel_rfl) (by kernel_rfl) (by kernel_rfl) (fun _ _ _ h => h) (Or.inl ⟨by kernel_rfl, ?_⟩) (by assumption) ?_
        rotate_left
        · intro w hSw; (try dsimp only at hSw); go_simp; first | done | with_reducible rfl
        try simp only [List.getElem_toArray, List.getElem_cons_zero, List.getElem_cons_succ, Act.put, List.setIfInBounds_toArray, List.set_cons_zero, List.set_cons_succ]
        refine wpAnyH_take (i := 7) (oi := _) (v := ?_) rfl (by kernel_rfl) (by kernel_rfl) (by kernel_rfl) (fun _ _ _ h => h) (Or.inl ⟨by kernel_rfl, ?_⟩) (by assumption) ?_
        rotate_left
        · intro w hSw; (try dsimp only at hSw); go_simp; first | done | with_reducible rfl
        try simp only [List.getElem_toArray, List.getElem_cons_zero, List.getElem_cons_succ, Act.put, List.setIfInBounds_toArray, List.set_cons_zero, List.set_cons_succ]
        refine wpAnyH_take (i := 8) (oi := _) (v := ?_) rfl (by kernel_rfl) (by kernel_rfl) (by kernel_rfl) (fun _ _ _ h => h) (Or.inl ⟨by kernel_rfl, ?_⟩) (by assumption) ?_
        rotate_left
        · intro w hSw; (try dsimp only at hSw); go_simp; first | done | with_reducible rfl
        try simp only [List.getElem_toArray, List.getElem_cons_zero, List.getElem_cons_succ, Act.put, List.setIfInBounds_toArray, List.set_cons_zero, List.set_cons_succ]
        refine wpAnyH_ready (rs := [4]) (by kernel_rfl) (by simp) ?_
        refine AllReadyH.cons (o := _) rfl (fun K hK => ?_) AllReadyH.nil
        go_simp
        refine (reliefAt_any b 2 a c _ _ (by omega) (by omega) (HH.out _) (X1.drew.hcell (by omega) (by omega))).mono ?_
        rintro e w6 ⟨rfl, hb⟩
        replace X1 := X1.drew.below hb
        replace X3 := X3.drew.below hb
        replace X4 := X4.drew.below hb
        replace X6 := X6.drew.below hb
        replace Y8 := Y8.drew.below hb
        replace O := OwnC.below O.drew hb
        replace B := nxt B.drew hb
        clear hb a0 a1 b0 b1
        have a0 : w6.cell? ⟨wo.heap.size, 0, none⟩ = some (.int .i8 (a : Int)) := Y8.cell 0
        have a1 : w6.cell? ⟨wo.heap.size, 1, none⟩ = some (.int .i8 (c : Int)) := Y8.cell 1
        have b0 : w6.cell? ⟨w.heap.size + 1 + 1, 0, none⟩ = some (.int .i8 (px : Int)) := X6.cell 0
        have b1 : w6.cell? ⟨w.heap.size + 1 + 1, 1, none⟩ = some (.int .i8 (py : Int)) := X6.cell 1
        refine hK.out _ _ ⟨a0, a1, b0, b1⟩ (fun hHeld => ?_)
        clear hK K
        try simp only [List.getElem_toArray, List.getElem_cons_zero, List.getElem_cons_succ, Act.put, List.setIfInBounds_toArray, List.set_cons_zero, List.set_cons_succ]
        refine wpAnyH_ready (rs := [9]) (by kernel_rfl) (by simp) ?_
        refine AllReadyH.cons (o := _) rfl (fun K hK => ?_) AllReadyH.nil
        go_simp
        refine (reliefAt_any b 2 px py _ _ (by omega) (by omega) (HH.out _) (X1.hcell (by omega) (by omega))).mono ?_
        rintro e w6 ⟨rfl, hb⟩
        replace X1 := X1.below hb
        replace X3 := X3.below hb
        replace X4 := X4.below hb
        replace X6 := X6.below hb
        replace Y8 := Y8.below hb
        replace O := OwnC.below O hb
        replace B := nxt B hb
        clear hb a0 a1 b0 b1
        have a0 : w6.cell? ⟨wo.heap.size, 0, none⟩ = some (.int .i8 (a : Int)) := Y8.cell 0
        have a1 : w6.cell? ⟨wo.heap.size, 1, none⟩ = some (.int .i8 (c : Int)) := Y8.cell 1
        have b0 : w6.cell? ⟨w.heap.size + 1 + 1, 0, none⟩ = some (.int .i8 (px : Int)) := X6.cell 0
        have b1 : w6.cell? ⟨w.heap.size + 1 + 1, 1, none⟩ = some (.int .i8 (py : Int)) := X6.cell 1
        refine hK.out _ _ ⟨a0, a1, b0, b1⟩ (fun hHeld => ?_)
        clear hK K
        try simp only [List.getElem_toArray, List.getElem_cons_zero, List.getElem_cons_succ, Act.put, List.setIfInBounds_toArray, List.set_cons_zero, List.set_cons_succ]
        refine wpAnyH_take (i := 10) (oi := _) (v := ?_) rfl (by kernel_rfl) (by kernel_rfl) (by kernel_rfl) (fun _ _ _ h => h) (Or.inl ⟨by kernel_rfl, ?_⟩) (by assumption) ?_
        rotate_left
        · intro w hSw; (try dsimp only at hSw); go_simp; first | done | with_reducible rfl
        try simp only [List.getElem_toArray, List.getElem_cons_zero, List.getElem_cons_succ, Act.put, List.setIfInBounds_toArray, List.set_cons_zero, List.set_cons_succ]
        refine wpAnyH_done (by kernel_rfl) ?_ _
        have f60 := X6.frozen 0
        have f61 := X6.frozen 1
        go_wp2
        refine ⟨⟨k + 1, by omega, by first | go_num | simp, (B.setCell (p := ⟨w.heap.size + 1 + 1, 0, none⟩) (by simp; omega) _).setCell (p := ⟨w.heap.size + 1 + 1, 1, none⟩) (by simp; omega) _, (X3.other _ (by omega)).other _ (by omega), (X4.other _ (by omega)).other _ (by omega), (O.setOther hs0).setOther hs0, (a, c), ?_, hqa, hqb, (X6.set 0 _).set 1 _⟩, by simp [intOf]; omega⟩
        rw [take_snoc HQ.out, lowL_yes]
        rw [← HP.out]
        exact Hl.out
      · have hle : h (py * 9 + px) ≤ h (c * 9 + a) := by omega
        have HN := Lib.hid hl
        clear hl
        refine wp_region_held_drew (S := (fun w' : World => w'.cell? ⟨wo.heap.size, 0, none⟩ = some (.int .i8 (a : Int)) ∧ w'.cell? ⟨wo.heap.size, 1, none⟩ = some (.int .i8 (c : Int)) ∧ w'.cell? ⟨w.heap.size + 1 + 1, 0, none⟩ = some (.int .i8 (px : Int)) ∧ w'.cell? ⟨w.heap.size + 1 + 1, 1, none⟩ = some (.int .i8 (py : Int)))) (by kernel_rfl) ⟨a0, a1, b0, b1⟩ (fun hHeld => ?_)
        refine wpAnyH_take (i := 0) (oi := _) (v := ?_) rfl (by kernel_rfl) (by kernel_rfl) (by kernel_rfl) (fun _ _ _ h => h) (Or.inl ⟨by kernel_rfl, ?_⟩) (by assumption) ?_
        rotate_left
        · intro w hSw; (try dsimp only at hSw); go_simp; first | done | with_reducible rfl
        try simp only [List.getElem_toArray, List.getElem_cons_zero, List.getElem_cons_succ, Act.put, List.setIfInBounds_toArray, List.set_cons_zero, List.set_cons_succ]
        refine wpAnyH_take (i := 1) (oi := _) (v := ?_) rfl (by kernel_rfl) (by kernel_rfl) (by kernel_rfl) (fun _ _ _ h => h) (Or.inl ⟨by kernel_rfl, ?_⟩) (by assumption) ?_
        rotate_left
        · intro w hSw; (try dsimp only at hSw); go_simp; first | done | with_reducible rfl
        try simp only [List.getElem_toArray, List.getElem_cons_zero, List.getElem_cons_succ, Act.put, List.setIfInBounds_toArray, List.set_cons_zero, List.set_cons_succ]
        refine wpAnyH_take (i := 2) (oi := _) (v := ?_) rfl (by kernel_rfl) (by kernel_rfl) (by kernel_rfl) (fun _ _ _ h => h) (Or.inl ⟨by kernel_rfl, ?_⟩) (by assumption) ?_
        rotate_left
        · intro w hSw; (try dsimp only at hSw); go_simp; first | done | with_reducible rfl
        try simp only [List.getElem_toArray, List.getElem_cons_zero, List.getElem_cons_succ, Act.put, List.setIfInBounds_toArray, List.set_cons_zero, List.set_cons_succ]
        refine wpAnyH_take (i := 3) (oi := _) (v := ?_) rfl (by kernel_rfl) (by kernel_rfl) (by kernel_rfl) (fun _ _ _ h => h) (Or.inl ⟨by kernel_rfl, ?_⟩) (by assumption) ?_
        rotate_left
        · intro w hSw; (try dsimp only at hSw); go_simp; first | done | with_reducible rfl
        try simp only [List.getElem_toArray, List.getElem_cons_zero, List.getElem_cons_succ, Act.put, List.setIfInBounds_toArray, List.set_cons_zero, List.set_cons_succ]
        refine wpAnyH_take (i := 5) (oi := _) (v := ?_) rfl (by kernel_rfl) (by kernel_rfl) (by kernel_rfl) (fun _ _ _ h => h) (Or.inl ⟨by kernel_rfl, ?_⟩) (by assumption) ?_
        rotate_left
        · intro w hSw; (try dsimp only at hSw); go_simp; first | done | with_reducible rfl
        try simp only [List.getElem_toArray, List.getElem_cons_zero, List.getElem_cons_succ, Act.put, List.setIfInBounds_toArray, List.set_cons_zero, List.set_cons_succ]
        refine wpAnyH_take (i := 6) (oi := _) (v := ?_) rfl (by kernel_rfl) (by kernel_rfl) (by kernel_rfl) (fun _ _ _ h => h) (Or.inl ⟨by kernel_rfl, ?_⟩) (by assumption) ?_
        rotate_left
        · intro w hSw; (try dsimp only at hSw); go_simp; first | done | with_reducible rfl
        try simp only [List.getElem_toArray, List.getElem_cons_zero, List.getElem_cons_succ, Act.put, List.setIfInBounds_toArray, List.set_cons_zero, List.set_cons_succ]
        refine wpAnyH_take (i := 7) (oi := _) (v := ?_) rfl (by kernel_rfl) (by kernel_rfl) (by kernel_rfl) (fun _ _ _ h => h) (Or.inl ⟨by kernel_rfl, ?_⟩) (by assumption) ?_
        rotate_left
        · intro w hSw; (try dsimp only at hSw); go_simp; first | done | with_reducible rfl
        try simp only [List.getElem_toArray, List.getElem_cons_zero, List.getElem_cons_succ, Act.put, List.setIfInBounds_toArray, List.set_cons_zero, List.set_cons_succ]
        refine wpAnyH_take (i := 8) (oi := _) (v := ?_) rfl (by kernel_rfl) (by kernel_rfl) (by kernel_rfl) (fun _ _ _ h => h) (Or.inl ⟨by kernel_rfl, ?_⟩) (by assumption) ?_
        rotate_left
        · intro w hSw; (try dsimp only at hSw); go_simp; first | done | with_reducible rfl
        try simp only [List.getElem_toArray, List.getElem_cons_zero, List.getElem_cons_succ, Act.put, List.setIfInBounds_toArray, List.set_cons_zero, List.set_cons_succ]
        refine wpAnyH_ready (rs := [4]) (by kernel_rfl) (by simp) ?_
        refine AllReadyH.cons (o := _) rfl (fun K hK => ?_) AllReadyH.nil
        go_simp
        refine (reliefAt_any b 2 a c _ _ (by omega) (by omega) (HH.out _) (X1.drew.hcell (by omega) (by omega))).mono ?_
        rintro e w6 ⟨rfl, hb⟩
        replace X1 := X1.drew.below hb
        replace X3 := X3.drew.below hb
        replace X4 := X4.drew.below hb
        replace X6 := X6.drew.below hb
        replace Y8 := Y8.drew.below hb
        replace O := OwnC.below O.drew hb
        replace B := nxt B.drew hb
        clear hb a0 a1 b0 b1
        have a0 : w6.cell? ⟨wo.heap.size, 0, none⟩ = some (.int .i8 (a : Int)) := Y8.cell 0
        have a1 : w6.cell? ⟨wo.heap.size, 1, none⟩ = some (.int .i8 (c : Int)) := Y8.cell 1
        have b0 : w6.cell? ⟨w.heap.size + 1 + 1, 0, none⟩ = some (.int .i8 (px : Int)) := X6.cell 0
        have b1 : w6.cell? ⟨w.heap.size + 1 + 1, 1, none⟩ = some (.int .i8 (py : Int)) := X6.cell 1
        refine hK.out _ _ ⟨a0, a1, b0, b1⟩ (fun hHeld => ?_)
        clear hK K
        try simp only [List.getElem_toArray, List.getElem_cons_zero, List.getElem_cons_succ, Act.put, List.setIfInBounds_toArray, List.set_cons_zero, List.set_cons_succ]
        refine wpAnyH_ready (rs := [9]) (by kernel_rfl) (by simp) ?_
        refine AllReadyH.cons (o := _) rfl (fun K hK => ?_) AllReadyH.nil
        go_simp
        refine (reliefAt_any b 2 px py _ _ (by omega) (by omega) (HH.out _) (X1.hcell (by omega) (by omega))).mono ?_
        rintro e w6 ⟨rfl, hb⟩
        replace X1 := X1.below hb
        replace X3 := X3.below hb
        replace X4 := X4.below hb
        replace X6 := X6.below hb
        replace Y8 := Y8.below hb
        replace O := OwnC.below O hb
        replace B := nxt B hb
        clear hb a0 a1 b0 b1
        have a0 : w6.cell? ⟨wo.heap.size, 0, none⟩ = some (.int .i8 (a : Int)) := Y8.cell 0
        have a1 : w6.cell? ⟨wo.heap.size, 1, none⟩ = some (.int .i8 (c : Int)) := Y8.cell 1
        have b0 : w6.cell? ⟨w.heap.size + 1 + 1, 0, none⟩ = some (.int .i8 (px : Int)) := X6.cell 0
        have b1 : w6.cell? ⟨w.heap.size + 1 + 1, 1, none⟩ = some (.int .i8 (py : Int)) := X6.cell 1
        refine hK.out _ _ ⟨a0, a1, b0, b1⟩ (fun hHeld => ?_)
        clear hK K
        try simp only [List.getElem_toArray, List.getElem_cons_zero, List.getElem_cons_succ, Act.put, List.setIfInBounds_toArray, List.set_cons_zero, List.set_cons_succ]
        refine wpAnyH_take (i := 10) (oi := _) (v := ?_) rfl (by kernel_rfl) (by kernel_rfl) (by kernel_rfl) (fun _ _ _ h => h) (Or.inl ⟨by kernel_rfl, ?_⟩) (by assumption) ?_
        rotate_left
        · intro w hSw; (try dsimp only at hSw); go_simp; first | done | with_reducible rfl
        try simp only [List.getElem_toArray, List.getElem_cons_zero, List.getElem_cons_succ, Act.put, List.setIfInBounds_toArray, List.set_cons_zero, List.set_cons_succ]
        refine wpAnyH_done (by kernel_rfl) ?_ _
        go_wp2
        refine ⟨⟨k + 1, by omega, by first | go_num | simp, B, X3, X4, O, (px, py), ?_, hpW, hpH, X6⟩, by simp [intOf]; omega⟩
        rw [take_snoc HQ.out, lowL_no]
        · exact HP.out
        · rw [← HP.out]; exact HN.out
    · obtain rfl : k = m := by omega
      have hp2 : (px, py) = lowP W H h (x, y) := by rw [HLO.out, HP.out, HM.out, List.take_length]
      have HP2 := Lib.hid hp2
      clear hp2
      have X1 : Bx wo b (gV W H h s) 153 := hB.of_block (B.block _ hlt0)
      have c0 : wo.cell? ⟨w.heap.size, 0, none⟩ = some (.int .i8 (x : Int)) := X3.cell 0
      have c1 : wo.cell? ⟨w.heap.size, 1, none⟩ = some (.int .i8 (y : Int)) := X3.cell 1
      have b0 : wo.cell? ⟨w.heap.size + 1 + 1, 0, none⟩ = some (.int .i8 (px : Int)) := X6.cell 0
      have b1 : wo.cell? ⟨w.heap.size + 1 + 1, 1, none⟩ = some (.int .i8 (py : Int)) := X6.cell 1
      have hz1 := HH.out (y * 9 + x)
      have hz2 := HH.out (py * 9 + px)
      have wz : IntKind.i64.wrap (h (y * 9 + x) - h (py * 9 + px)) = h (y * 9 + x) - h (py * 9 + px) := IntWalk.i64_in _ (by omega)
      go_wp2_with fail
      refine wp_region_held_drew (S := (fun w' : World => w'.cell? ⟨w.heap.size, 0, none⟩ = some (.int .i8 (x : Int)) ∧ w'.cell? ⟨w.heap.size, 1, none⟩ = some (.int .i8 (y : Int)) ∧ w'.cell? ⟨w.heap.size + 1 + 1, 0, none⟩ = some (.int .i8 (px : Int)) ∧ w'.cell? ⟨w.heap.size + 1 + 1, 1, none⟩ = some (.int .i8 (py : Int)))) (by kernel_rfl) ⟨c0, c1, b0, b1⟩ (fun hHeld => ?_)
      refine wpAnyH_take (i := 0) (oi := _) (v := ?_) rfl (by kernel_rfl) (by kernel_rfl) (by kernel_rfl) (fun _ _ _ h => h) (Or.inl ⟨by kernel_rfl, ?_⟩) (by assumption) ?_
      rotate_left
      · intro w hSw; (try dsimp only at hSw); go_simp; first | done | with_reducible rfl
      try simp only [List.getElem_toArray, List.getElem_cons_zero, List.getElem_cons_succ, Act.put, List.setIfInBounds_toArray, List.set_cons_zero, List.set_cons_succ]
      refine wpAnyH_take (i := 1) (oi := _) (v := ?_) rfl (by kernel_rfl) (by kernel_rfl) (by kernel_rfl) (fun _ _ _ h => h) (Or.inl ⟨by kernel_rfl, ?_⟩) (by assumption) ?_
      rotate_left
      · intro w hSw; (try dsimp only at hSw); go_simp; first | done | with_reducible rfl
      try simp only [List.getElem_toArray, List.getElem_cons_zero, List.getElem_cons_succ, Act.put, List.setIfInBounds_toArray, List.set_cons_zero, List.set_cons_succ]
      refine wpAnyH_take (i := 2) (oi := _) (v := ?_) rfl (by kernel_rfl) (by kernel_rfl) (by kernel_rfl) (fun _ _ _ h => h) (Or.inl ⟨by kernel_rfl, ?_⟩) (by assumption) ?_
      rotate_left
      · intro w hSw; (try dsimp only at hSw); go_simp; first | done | with_reducible rfl
      try simp only [List.getElem_toArray, List.getElem_cons_zero, List.getElem_cons_succ, Act.put, List.setIfInBounds_toArray, List.set_cons_zero, List.set_cons_succ]
      refine wpAnyH_take (i := 3) (oi := _) (v := ?_) rfl (by kernel_rfl) (by kernel_rfl) (by kernel_rfl) (fun _ _ _ h => h) (Or.inl ⟨by kernel_rfl, ?_⟩) (by assumption) ?_
      rotate_left
      · intro w hSw; (try dsimp only at hSw); go_simp; first | done | with_reducible rfl
      try simp only [List.getElem_toArray, List.getElem_cons_zero, List.getElem_cons_succ, Act.put, List.setIfInBounds_toArray, List.set_cons_zero, List.set_cons_succ]
      refine wpAnyH_take (i := 4) (oi := _) (v := ?_) rfl (by kernel_rfl) (by kernel_rfl) (by kernel_rfl) (fun _ _ _ h => h) (Or.inl ⟨by kernel_rfl, ?_⟩) (by assumption) ?_
      rotate_left
      · intro w hSw; (try dsimp only at hSw); go_simp; first | done | with_reducible rfl
      try simp only [List.getElem_toArray, List.getElem_cons_zero, List.getElem_cons_succ, Act.put, List.setIfInBounds_toArray, List.set_cons_zero, List.set_cons_succ]
      refine wpAnyH_take (i := 6) (oi := _) (v := ?_) rfl (by kernel_rfl) (by kernel_rfl) (by kernel_rfl) (fun _ _ _ h => h) (Or.inl ⟨by kernel_rfl, ?_⟩) (by assumption) ?_
      rotate_left
      · intro w hSw; (try dsimp only at hSw); go_simp; first | done | with_reducible rfl
      try simp only [List.getElem_toArray, List.getElem_cons_zero, List.getElem_cons_succ, Act.put, List.setIfInBounds_toArray, List.set_cons_zero, List.set_cons_succ]
      refine wpAnyH_take (i := 7) (oi := _) (v := ?_) rfl (by kernel_rfl) (by kernel_rfl) (by kernel_rfl) (fun _ _ _ h => h) (Or.inl ⟨by kernel_rfl, ?_⟩) (by assumption) ?_
      rotate_left
      · intro w hSw; (try dsimp only at hSw); go_simp; first | done | with_reducible rfl
      try simp only [List.getElem_toArray, List.getElem_cons_zero, List.getElem_cons_succ, Act.put, List.setIfInBounds_toArray, List.set_cons_zero, List.set_cons_succ]
      refine wpAnyH_take (i := 8) (oi := _) (v := ?_) rfl (by kernel_rfl) (by kernel_rfl) (by kernel_rfl) (fun _ _ _ h => h) (Or.inl ⟨by kernel_rfl, ?_⟩) (by assumption) ?_
      rotate_left
      · intro w hSw; (try dsimp only at hSw); go_simp; first | done | with_reducible rfl
      try simp only [List.getElem_toArray, List.getElem_cons_zero, List.getElem_cons_succ, Act.put, List.setIfInBounds_toArray, List.set_cons_zero, List.set_cons_succ]
      refine wpAnyH_take (i := 9) (oi := _) (v := ?_) rfl (by kernel_rfl) (by kernel_rfl) (by kernel_rfl) (fun _ _ _ h => h) (Or.inl ⟨by kernel_rfl, ?_⟩) (by assumption) ?_
      rotate_left
      · intro w hSw; (try dsimp only at hSw); go_simp; first | done | with_reducible rfl
      try simp only [List.getElem_toArray, List.getElem_cons_zero, List.getElem_cons_succ, Act.put, List.setIfInBounds_toArray, List.set_cons_zero, List.set_cons_succ]
      refine wpAnyH_ready (rs := [5]) (by kernel_rfl) (by simp) ?_
      refine AllReadyH.cons (o := _) rfl (fun K hK => ?_) AllReadyH.nil
      go_simp
      refine (reliefAt_any b 2 x y _ _ (by omega) (by omega) (HH.out _) (X1.drew.hcell (by omega) (by omega))).mono ?_
      rintro e w6 ⟨rfl, hb⟩
      replace X1 := X1.drew.below hb
      replace X3 := X3.drew.below hb
      replace X4 := X4.drew.below hb
      replace X6 := X6.drew.below hb
      replace B := nxt B.drew hb
      clear hb c0 c1 b0 b1
      have c0 : w6.cell? ⟨w.heap.size, 0, none⟩ = some (.int .i8 (x : Int)) := X3.cell 0
      have c1 : w6.cell? ⟨w.heap.size, 1, none⟩ = some (.int .i8 (y : Int)) := X3.cell 1
      have b0 : w6.cell? ⟨w.heap.size + 1 + 1, 0, none⟩ = some (.int .i8 (px : Int)) := X6.cell 0
      have b1 : w6.cell? ⟨w.heap.size + 1 + 1, 1, none⟩ = some (.int .i8 (py : Int)) := X6.cell 1
      refine hK.out _ _ ⟨c0, c1, b0, b1⟩ (fun hHeld => ?_)
      clear hK K
      try simp only [List.getElem_toArray, List.getElem_cons_zero, List.getElem_cons_succ, Act.put, List.setIfInBounds_toArray, List.set_cons_zero, List.set_cons_succ]
      refine wpAnyH_ready (rs := [10]) (by kernel_rfl) (by simp) ?_
      refine AllReadyH.cons (o := _) rfl (fun K hK => ?_) AllReadyH.nil
      go_simp
      refine (reliefAt_any b 2 px py _ _ (by omega) (by omega) (HH.out _) (X1.hcell (by omega) (by omega))).mono ?_
      rintro e w6 ⟨rfl, hb⟩
      replace X1 := X1.below hb
      replace X3 := X3.below hb
      replace X4 := X4.below hb
      replace X6 := X6.below hb
      replace B := nxt B hb
      clear hb c0 c1 b0 b1
      have c0 : w6.cell? ⟨w.heap.size, 0, none⟩ = some (.int .i8 (x : Int)) := X3.cell 0
      have c1 : w6.cell? ⟨w.heap.size, 1, none⟩ = some (.int .i8 (y : Int)) := X3.cell 1
      have b0 : w6.cell? ⟨w.heap.size + 1 + 1, 0, none⟩ = some (.int .i8 (px : Int)) := X6.cell 0
      have b1 : w6.cell? ⟨w.heap.size + 1 + 1, 1, none⟩ = some (.int .i8 (py : Int)) := X6.cell 1
      refine hK.out _ _ ⟨c0, c1, b0, b1⟩ (fun hHeld => ?_)
      clear hK K
      try simp only [List.getElem_toArray, List.getElem_cons_zero, List.getElem_cons_succ, Act.put, List.setIfInBounds_toArray, List.set_cons_zero, List.set_cons_succ]
      refine wpAnyH_take (i := 11) (oi := _) (v := ?_) rfl (by kernel_rfl) (by kernel_rfl) (by kernel_rfl) (fun _ _ _ h => h) (Or.inl ⟨by kernel_rfl, ?_⟩) (by assumption) ?_
      rotate_left
      · intro w hSw; (try dsimp only at hSw); go_simp; first | done | with_reducible rfl
      try simp only [List.getElem_toArray, List.getElem_cons_zero, List.getElem_cons_succ, Act.put, List.setIfInBounds_toArray, List.set_cons_zero, List.set_cons_succ]
      have s40 : w6.cell? ⟨w.heap.size + 1, 0, none⟩ = some (.int .i8 0) := X4.cell 0
      have s41 : w6.cell? ⟨w.heap.size + 1, 1, none⟩ = some (.int .i8 0) := X4.cell 1
      have f40 : w6.frozen? ⟨w.heap.size + 1, 0, none⟩ = false := X4.frozen 0
      have f41 : w6.frozen? ⟨w.heap.size + 1, 1, none⟩ = false := X4.frozen 1
      refine wpAnyH_ready (rs := [12]) (by kernel_rfl) (by simp) ?_
      refine AllReadyH.cons (o := _) rfl (fun K hK => ?_) AllReadyH.nil
      go_simp
      have X3q := (X3.other (g := w.heap.size + 1) (o := 0) (.int .i8 (px : Int)) (by omega)).other (g := w.heap.size + 1) (o := 1) (.int .i8 (py : Int)) (by omega)
      have X6q := (X6.other (g := w.heap.size + 1) (o := 0) (.int .i8 (px : Int)) (by omega)).other (g := w.heap.size + 1) (o := 1) (.int .i8 (py : Int)) (by omega)
      refine hK.out _ _ ⟨X3q.cell 0, X3q.cell 1, X6q.cell 0, X6q.cell 1⟩ (fun hHeld => ?_)
      clear hK K
      try simp only [List.getElem_toArray, List.getElem_cons_zero, List.getElem_cons_succ, Act.put, List.setIfInBounds_toArray, List.set_cons_zero, List.set_cons_succ]
      refine wpAnyH_take (i := 13) (oi := _) (v := ?_) rfl (by kernel_rfl) (by kernel_rfl) (by kernel_rfl) (fun _ _ _ h => h) (Or.inl ⟨by kernel_rfl, ?_⟩) (by assumption) ?_
      rotate_left
      · intro w hSw; (try dsimp only at hSw); go_simp; first | done | with_reducible rfl
      try simp only [List.getElem_toArray, List.getElem_cons_zero, List.getElem_cons_succ, Act.put, List.setIfInBounds_toArray, List.set_cons_zero, List.set_cons_succ]
      refine wpAnyH_done (by kernel_rfl) ?_ _
      have X5 := (X4.set 0 (.int .i8 (px : Int))).set 1 (.int .i8 (py : Int))
      replace B := (B.setCell (p := ⟨w.heap.size + 1, 0, none⟩) (by simp) (.int .i8 (px : Int))).setCell (p := ⟨w.heap.size + 1, 1, none⟩) (by simp) (.int .i8 (py : Int))
      obtain ⟨w9, hw9⟩ : ∃ w9 : World, w9 = (w6.setCell ⟨w.heap.size + 1, 0, none⟩ (.int .i8 (px : Int))).setCell ⟨w.heap.size + 1, 1, none⟩ (.int .i8 (py : Int)) := ⟨_, rfl⟩
      rw [← hw9] at X5 B ⊢
      have s0 : w9.cell? ⟨w.heap.size + 1, 0, none⟩ = some (.int .i8 (px : Int)) := X5.cell 0
      have s1 : w9.cell? ⟨w.heap.size + 1, 1, none⟩ = some (.int .i8 (py : Int)) := X5.cell 1
      clear hw9
      go_wp2
      refine bodyPost_ret (v := .tuple #[.agg (cellA (px, py)), .int .i64 (h (y * 9 + x) - h (py * 9 + px))]) (by simp [results, Try.results141, go_sem, cellA, s0, s1]) rfl ⟨B, ?_⟩
      rw [← HP2.out]
      rfl
end Go.Proofs.Ytegnhpanlbfmdaa
