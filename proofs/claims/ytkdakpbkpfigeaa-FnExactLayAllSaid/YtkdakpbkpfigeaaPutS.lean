/-
  A slab put to a square: the model's contract, and both sides of PutSlab. Conditions stand at each.
-/
import Derived.Test.YtkdakpbkpfigeaaRows
import Derived.Test.YtkdakpbkpfigeaaApart
import Derived.Test.YtkdakpbkpfigeaaHasSort
import Derived.Test.YtkdakpbkpfigeaaValidI
import Derived.Test.YtkdakpbkpfigeaaTold
import Derived.Test.YtkdakpbkpfigeaaSqW
import Derived.Test.YtkdakpbkpfigeaaSortS
import Derived.Test.YtkdakpbkpfigeaaSlabs
import Derived.Test.YtkdakpbkpfigeaaCanPutC
import Derived.Deep.DeepCutAuto
namespace Go.Proofs.Ytkdakpbkpfigeaa
open Go Go.ChangeShapes Go.WideShapes Go.ChangeAt Go.RowKit
set_option linter.unusedVariables false
set_option linter.unusedSimpArgs false
set_option maxRecDepth 100000
set_option maxHeartbeats 2000000

theorem rowV_enc (c : Nat → Int) : ∀ n, rowV c (4 * n) = encL (toL c n)
  | 0 => rfl
  | n + 1 => by
    rw [toL_succ, encL_append, ← rowV_enc c n]
    show rowV c (4 * n + 1 + 1 + 1 + 1) = _
    unfold rowV
    rw [List.range_succ, List.range_succ, List.range_succ, List.range_succ]
    simp [encL, encS, s4]
theorem Bx.adds {w : World} {b : Nat} {cs : Array Value} {t : TypeId} (h : Bx w b cs t) : ∀ j u, cs.toList[j]? = some u → w.cell? ((⟨b, 0, none⟩ : Addr).add j) = some u := by
  intro j u hu
  rw [Addr.add_lit, Nat.zero_add, h.cell]
  simpa using hu
theorem row_adds {w : World} {g n : Nat} {c : Nat → Int} (h : w.rowIs g 110 (4 * n) (fun j => .int .i8 (c j))) : ∀ j u, (encL (toL c n))[j]? = some u → w.cell? ((⟨g, 0, none⟩ : Addr).add j) = some u := by
  intro j u hu
  rw [← rowV_enc] at hu
  obtain ⟨hj, rfl⟩ := rowV_of hu
  rw [Addr.add_lit, Nat.zero_add]
  exact h.cell hj
/-- the slabs with one more. -/
def putL (c : Nat → Int) (n : Nat) (a : S4) : List S4 := toL c n ++ [a]
theorem putL_length (c : Nat → Int) (n : Nat) (a : S4) : (putL c n a).length = n + 1 := by simp [putL, toL_length]
theorem putL_enc (c : Nat → Int) (n : Nat) (a : S4) : encL (putL c n a) = encL (toL c n) ++ encS a := by
  unfold putL
  rw [encL_append]
  rfl
theorem put_any (X Y : Int) (bq g n : Nat) (c : Nat → Int) (a0 a1 a2 a3 : Int) (w : World) (hn : n ≤ 60) (hq : Sq w bq X Y (.slice (some ⟨g, 0, none⟩) n n)) (hrow : w.rowIs g 110 (4 * n) (fun j => .int .i8 (c j))) :
    Calls Try.prog 81 #[.pointer (some ⟨bq, 0, none⟩), .agg #[.int .i8 a0, .int .i8 a1, .int .i8 a2, .int .i8 a3]] w fun e w' => Below w.heap.size w w' ∧ ∃ v L, e = .returned (.agg #[.int .i8 X, .int .i8 Y, v]) ∧ SortedOf (putL c n (a0, a1, a2, a3)) L ∧ HasSlice .i8 4 w' w.heap.size v (n + 1) (fL L) := by
  obtain ⟨i0, hi0, hz0, hz1, hz2⟩ := info_parts infoSlab
  have HI := Lib.hid hi0
  have hl0 : (encL (toL c n)).length = n * 4 := by rw [encL_length, toL_length]
  have HL0 := Lib.hid hl0
  clear hi0 hl0
  go_enter Try.func81, Try.ntmps81
  go_upto_region 1 with fail
  have H3 := (Sl.new w a0 a1 a2 a3 110).alloc (.cells #[.int .i8 0, .int .i8 0, .slice none 0 0] 31)
  have H1 : Bx ((w.alloc (.cells #[.int .i8 a0, .int .i8 a1, .int .i8 a2, .int .i8 a3] 110)).alloc (.cells #[.int .i8 0, .int .i8 0, .slice none 0 0] 31)) (w.heap.size + 1) #[.int .i8 0, .int .i8 0, .slice none 0 0] 31 := by
    have := Bx.new (w.alloc (.cells #[.int .i8 a0, .int .i8 a1, .int .i8 a2, .int .i8 a3] 110)) #[.int .i8 0, .int .i8 0, .slice none 0 0] 31
    rwa [World.size_alloc] at this
  have B := al (al (Below.refl w.heap.size w) (.cells #[.int .i8 a0, .int .i8 a1, .int .i8 a2, .int .i8 a3] 110)) (.cells #[.int .i8 0, .int .i8 0, .slice none 0 0] 31)
  obtain ⟨W0, hW0⟩ : ∃ W0 : World, W0 = (w.alloc (.cells #[.int .i8 a0, .int .i8 a1, .int .i8 a2, .int .i8 a3] 110)).alloc (.cells #[.int .i8 0, .int .i8 0, .slice none 0 0] 31) := ⟨_, rfl⟩
  have hz : w.heap.size + 2 ≤ W0.heap.size := by rw [hW0]; simp
  rw [← hW0] at H3 H1 B ⊢
  clear hW0
  go_cut [5] (fun t5 wx => ∃ (g8 cp8 : Nat), t5 = .slice (some ⟨g8, 0, none⟩) (n + 1 : Nat) cp8 ∧ Below w.heap.size w wx ∧ w.heap.size + 2 ≤ wx.heap.size ∧ Bx wx (w.heap.size + 1) #[.int .i8 0, .int .i8 0, .slice none 0 0] 31 ∧ wx.ownsRow (w.heap.size + 2) 110 4 (.slice (some ⟨g8, 0, none⟩) (n + 1 : Nat) cp8) (n + 1) (encL (putL c n (a0, a1, a2, a3))))
  case first =>
    replace B := B.drew
    replace H3 : Sl W0.drew w.heap.size a0 a1 a2 a3 := H3
    replace H1 : Bx W0.drew (w.heap.size + 1) #[.int .i8 0, .int .i8 0, .slice none 0 0] 31 := H1
    replace hz : w.heap.size + 2 ≤ W0.drew.heap.size := hz
    obtain ⟨lq, pq, qq, rq⟩ := hq.below B
    obtain ⟨l3, p3, q3, r3, s3⟩ := id H3
    refine wp_region_held_drew (S := (fun w' => w'.cell? ⟨bq, 2, none⟩ = some (.slice (some ⟨g, 0, none⟩) n n) ∧ w'.cell? ⟨w.heap.size, 0, none⟩ = some (.int .i8 a0) ∧ w'.cell? ⟨w.heap.size, 1, none⟩ = some (.int .i8 a1) ∧ w'.cell? ⟨w.heap.size, 2, none⟩ = some (.int .i8 a2) ∧ w'.cell? ⟨w.heap.size, 3, none⟩ = some (.int .i8 a3))) (by kernel_rfl) ⟨rq, p3, q3, r3, s3⟩ (fun hHeld => ?_)
    obtain ⟨w0, hw0⟩ : ∃ w0, W0.drew = w0 := ⟨_, rfl⟩
    rw [hw0] at hHeld B H3 H1 hz lq pq qq rq l3 p3 q3 r3 s3 ⊢
    clear hw0
    refine wpAnyH_take (i := 1) (oi := _) (v := ?_) rfl (by kernel_rfl) (by kernel_rfl) (by kernel_rfl) (fun _ _ _ h => h) (Or.inl ⟨by kernel_rfl, ?_⟩) (by assumption) ?_
    rotate_left
    · intro w hSw; (try dsimp only at hSw); go_simp; first | done | with_reducible rfl
    try simp only [List.getElem_toArray, List.getElem_cons_zero, List.getElem_cons_succ, Act.put, List.setIfInBounds_toArray, List.set_cons_zero, List.set_cons_succ]
    refine wpAnyH_take (i := 2) (oi := _) (v := ?_) rfl (by kernel_rfl) (by kernel_rfl) (by kernel_rfl) (fun _ _ _ h => h) (Or.inl ⟨by kernel_rfl, ?_⟩) (by assumption) ?_
    rotate_left
    · intro w hSw; (try dsimp only at hSw); go_simp; first | done | with_reducible rfl
    try simp only [List.getElem_toArray, List.getElem_cons_zero, List.getElem_cons_succ, Act.put, List.setIfInBounds_toArray, List.set_cons_zero, List.set_cons_succ]
    refine wpAnyH_take (i := 3) (oi := _) (v := ?_) rfl (by kernel_rfl) (by kernel_rfl) (by kernel_rfl) (fun _ _ _ h => h) (Or.inl ⟨by kernel_rfl, ?_⟩) (by assumption) ?_
    rotate_left
    · intro w hSw; (try dsimp only at hSw); go_simp; first | done | with_reducible rfl
    try simp only [List.getElem_toArray, List.getElem_cons_zero, List.getElem_cons_succ, Act.put, List.setIfInBounds_toArray, List.set_cons_zero, List.set_cons_succ]
    refine wpAnyH_take (i := 4) (oi := _) (v := ?_) rfl (by kernel_rfl) (by kernel_rfl) (by kernel_rfl) (fun _ _ _ h => h) (Or.inl ⟨by kernel_rfl, ?_⟩) (by assumption) ?_
    rotate_left
    · intro w hSw; (try dsimp only at hSw); go_simp; first | done | with_reducible rfl
    try simp only [List.getElem_toArray, List.getElem_cons_zero, List.getElem_cons_succ, Act.put, List.setIfInBounds_toArray, List.set_cons_zero, List.set_cons_succ]
    refine wpAnyH_take (i := 6) (oi := _) (v := ?_) rfl (by kernel_rfl) (by kernel_rfl) (by kernel_rfl) (fun _ _ _ h => h) (Or.inl ⟨by kernel_rfl, ?_⟩) (by assumption) ?_
    rotate_left
    · intro w hSw; (try dsimp only at hSw); go_simp; first | done | with_reducible rfl
    try simp only [List.getElem_toArray, List.getElem_cons_zero, List.getElem_cons_succ, Act.put, List.setIfInBounds_toArray, List.set_cons_zero, List.set_cons_succ]
    refine wpAnyH_ready (rs := [0, 7]) (by kernel_rfl) (by simp) ?_
    refine AllReadyH.cons (o := _) rfl (fun K hK => ?_) (AllReadyH.cons (o := _) rfl (fun K hK => ?_) AllReadyH.nil)
    · skip
      go_simp
      have O0 : (w0.alloc (.cells #[] 110)).ownsRow (w.heap.size + 2) 110 4 (.slice (some ⟨w0.heap.size, 0, none⟩) 0 0) 0 [] := World.ownsRow_made w0 #[] 0 hz (Nat.zero_le _) rfl
      have nb0 : w.heap.size + 2 ≤ w0.heap.size := hz
      replace H3 := H3.alloc (.cells #[] 110)
      replace H1 := H1.alloc (.cells #[] 110)
      replace hz : w.heap.size + 2 ≤ (w0.alloc (.cells #[] 110)).heap.size := by rw [World.size_alloc]; omega
      replace B := al B (.cells #[] 110)
      obtain ⟨wv1, hwn⟩ : ∃ wv1, w0.alloc (.cells #[] 110) = wv1 := ⟨_, rfl⟩
      rw [hwn] at B hz H3 H1 O0 ⊢
      clear hwn lq pq qq rq l3 p3 q3 r3 s3
      obtain ⟨lq, pq, qq, rq⟩ := hq.below B
      obtain ⟨l3, p3, q3, r3, s3⟩ := id H3
      refine hK.out _ _ ⟨rq, p3, q3, r3, s3⟩ (fun hHeld => ?_)
      clear hK K
      try simp only [List.getElem_toArray, List.getElem_cons_zero, List.getElem_cons_succ, Act.put, List.setIfInBounds_toArray, List.set_cons_zero, List.set_cons_succ]
      refine wpAnyH_ready (rs := [5, 7]) (by kernel_rfl) (by simp) ?_
      refine AllReadyH.cons (o := _) rfl (fun K hK => ?_) (AllReadyH.cons (o := _) rfl (fun K hK => ?_) AllReadyH.nil)
      · skip
        have N5 : Hid (∀ j u, (encL (toL c n))[j]? = some u → wv1.cell? ((⟨g, 0, none⟩ : Addr).add j) = some u) := row_adds (hrow.of_block (B.block _ hrow.lt))
        have HO0 := Lib.hid O0
        clear O0
        refine wp_append_own _ _ _ 29 rfl (w.heap.size + 2) 110 i0 (.agg #[.int .i8 0, .int .i8 0, .int .i8 0, .int .i8 0]) 4 4 Try.underlying29 HI.out hz0 hz1 hz2 rfl (by decide) (.slice (some ⟨w0.heap.size, 0, none⟩) 0 0) 0 ([]) rfl HO0.out ⟨g, 0, none⟩ n n (encL (toL c n)) rfl HL0.out (N5) (encL_one _) (by unfold maxLen; omega) (by omega) (by omega) ?_
        intro v2 wv2 ow hg hn
        rw [Nat.zero_add] at ow
        obtain ⟨g5, cp5, rfl⟩ := own_block ow (fun e => by first | exact hn e | (have := hn.1 e; simp at this))
        replace H3 := H3.of_block hg.size (hg.block _ H3.1 (fun e => by simp [Value.ownBlock] at e; omega))
        replace H1 := H1.of_block (hg.block _ H1.lt (fun e => by simp [Value.ownBlock] at e; omega))
        replace B := B.grown hg B.size (fun k e => by simp [Value.ownBlock] at e; omega)
        replace hz : w.heap.size + 2 ≤ wv2.heap.size := Nat.le_trans hz hg.size
        have O5 : wv2.ownsRow (w.heap.size + 2) 110 4 (.slice (some ⟨g5, 0, none⟩) n cp5) n (encL (toL c n)) := ow
        clear HO0 N5 ow hg hn lq pq qq rq l3 p3 q3 r3 s3
        obtain ⟨lq, pq, qq, rq⟩ := hq.below B
        obtain ⟨l3, p3, q3, r3, s3⟩ := id H3
        refine hK.out _ _ ⟨rq, p3, q3, r3, s3⟩ (fun hHeld => ?_)
        clear hK K
        try simp only [List.getElem_toArray, List.getElem_cons_zero, List.getElem_cons_succ, Act.put, List.setIfInBounds_toArray, List.set_cons_zero, List.set_cons_succ]
        refine wpAnyH_ready (rs := [7]) (by kernel_rfl) (by simp) ?_
        refine AllReadyH.cons (o := _) rfl (fun K hK => ?_) AllReadyH.nil
        go_simp
        have X7 := Bx.new wv2 #[.int .i8 a0, .int .i8 a1, .int .i8 a2, .int .i8 a3] 110
        have nb7 : w.heap.size + 2 ≤ wv2.heap.size := hz
        replace H3 := H3.alloc (.cells #[.int .i8 a0, .int .i8 a1, .int .i8 a2, .int .i8 a3] 110)
        replace H1 := H1.alloc (.cells #[.int .i8 a0, .int .i8 a1, .int .i8 a2, .int .i8 a3] 110)
        replace O5 := World.ownsRow.alloc O5 (.cells #[.int .i8 a0, .int .i8 a1, .int .i8 a2, .int .i8 a3] 110)
        replace hz : w.heap.size + 2 ≤ (wv2.alloc (.cells #[.int .i8 a0, .int .i8 a1, .int .i8 a2, .int .i8 a3] 110)).heap.size := by rw [World.size_alloc]; omega
        replace B := al B (.cells #[.int .i8 a0, .int .i8 a1, .int .i8 a2, .int .i8 a3] 110)
        obtain ⟨wv3, hwn⟩ : ∃ wv3, wv2.alloc (.cells #[.int .i8 a0, .int .i8 a1, .int .i8 a2, .int .i8 a3] 110) = wv3 := ⟨_, rfl⟩
        rw [hwn] at B hz H3 H1 O5 X7 ⊢
        clear hwn lq pq qq rq l3 p3 q3 r3 s3
        obtain ⟨lq, pq, qq, rq⟩ := hq.below B
        obtain ⟨l3, p3, q3, r3, s3⟩ := id H3
        refine hK.out _ _ ⟨rq, p3, q3, r3, s3⟩ (fun hHeld => ?_)
        clear hK K
        try simp only [List.getElem_toArray, List.getElem_cons_zero, List.getElem_cons_succ, Act.put, List.setIfInBounds_toArray, List.set_cons_zero, List.set_cons_succ]
        refine wpAnyH_ready (rs := [8]) (by kernel_rfl) (by simp) ?_
        refine AllReadyH.cons (o := _) rfl (fun K hK => ?_) AllReadyH.nil
        have HO5 := Lib.hid O5
        have N8 : Hid (∀ j u, (encS (a0, a1, a2, a3))[j]? = some u → wv3.cell? ((⟨wv2.heap.size, 0, none⟩ : Addr).add j) = some u) := X7.adds
        clear O5
        refine wp_append_own _ _ _ 29 rfl (w.heap.size + 2) 110 i0 (.agg #[.int .i8 0, .int .i8 0, .int .i8 0, .int .i8 0]) 4 4 Try.underlying29 HI.out hz0 hz1 hz2 rfl (by decide) ((.slice (some ⟨g5, 0, none⟩) n cp5)) n (encL (toL c n)) rfl HO5.out ⟨wv2.heap.size, 0, none⟩ 1 1 (encS (a0, a1, a2, a3)) rfl rfl (N8) (encL_one [(a0, a1, a2, a3)]) (by unfold maxLen; omega) (by omega) (by omega) ?_
        intro v4 wv4 ow hg hn
        obtain ⟨g8, cp8, rfl⟩ := own_block ow (fun e => by first | exact hn e | (have := hn.1 e; simp at this))
        have hlo := World.ownsRow.lt HO5.out g5 rfl
        replace H3 := H3.of_block hg.size (hg.block _ H3.1 (fun e => by simp [Value.ownBlock] at e; omega))
        replace H1 := H1.of_block (hg.block _ H1.lt (fun e => by simp [Value.ownBlock] at e; omega))
        replace B := B.grown hg B.size (fun k e => by simp [Value.ownBlock] at e; omega)
        replace hz : w.heap.size + 2 ≤ wv4.heap.size := Nat.le_trans hz hg.size
        have O8 : wv4.ownsRow (w.heap.size + 2) 110 4 (.slice (some ⟨g8, 0, none⟩) (n + 1 : Nat) cp8) (n + 1) (encL (putL c n (a0, a1, a2, a3))) := by rw [putL_enc]; exact ow
        clear HO5 N8 ow hg hn X7 hlo lq pq qq rq l3 p3 q3 r3 s3
        obtain ⟨lq, pq, qq, rq⟩ := hq.below B
        obtain ⟨l3, p3, q3, r3, s3⟩ := id H3
        refine hK.out _ _ ⟨rq, p3, q3, r3, s3⟩ (fun hHeld => ?_)
        clear hK K
        try simp only [List.getElem_toArray, List.getElem_cons_zero, List.getElem_cons_succ, Act.put, List.setIfInBounds_toArray, List.set_cons_zero, List.set_cons_succ]
        refine wpAnyH_take (i := 9) (oi := _) (v := ?_) rfl (by kernel_rfl) (by kernel_rfl) (by kernel_rfl) (fun _ _ _ h => h) (Or.inl ⟨by kernel_rfl, ?_⟩) (by assumption) ?_
        rotate_left
        · intro w hSw; (try dsimp only at hSw); go_simp; first | done | with_reducible rfl
        try simp only [List.getElem_toArray, List.getElem_cons_zero, List.getElem_cons_succ, Act.put, List.setIfInBounds_toArray, List.set_cons_zero, List.set_cons_succ]
        refine wpAnyH_done (by kernel_rfl) ?_ _
        go_wp2_with fail
        go_meet
        exact ⟨g8, cp8, rfl, B, hz, H1, O8⟩
      · skip
        go_simp
        have X7 := Bx.new wv1 #[.int .i8 a0, .int .i8 a1, .int .i8 a2, .int .i8 a3] 110
        have nb7 : w.heap.size + 2 ≤ wv1.heap.size := hz
        have n07 : w0.heap.size ≠ wv1.heap.size := by have := (World.ownsRow.lt O0 w0.heap.size rfl).2; omega
        replace H3 := H3.alloc (.cells #[.int .i8 a0, .int .i8 a1, .int .i8 a2, .int .i8 a3] 110)
        replace H1 := H1.alloc (.cells #[.int .i8 a0, .int .i8 a1, .int .i8 a2, .int .i8 a3] 110)
        replace O0 := World.ownsRow.alloc O0 (.cells #[.int .i8 a0, .int .i8 a1, .int .i8 a2, .int .i8 a3] 110)
        replace hz : w.heap.size + 2 ≤ (wv1.alloc (.cells #[.int .i8 a0, .int .i8 a1, .int .i8 a2, .int .i8 a3] 110)).heap.size := by rw [World.size_alloc]; omega
        replace B := al B (.cells #[.int .i8 a0, .int .i8 a1, .int .i8 a2, .int .i8 a3] 110)
        obtain ⟨wv5, hwn⟩ : ∃ wv5, wv1.alloc (.cells #[.int .i8 a0, .int .i8 a1, .int .i8 a2, .int .i8 a3] 110) = wv5 := ⟨_, rfl⟩
        rw [hwn] at B hz H3 H1 O0 X7 ⊢
        clear hwn lq pq qq rq l3 p3 q3 r3 s3
        obtain ⟨lq, pq, qq, rq⟩ := hq.below B
        obtain ⟨l3, p3, q3, r3, s3⟩ := id H3
        refine hK.out _ _ ⟨rq, p3, q3, r3, s3⟩ (fun hHeld => ?_)
        clear hK K
        try simp only [List.getElem_toArray, List.getElem_cons_zero, List.getElem_cons_succ, Act.put, List.setIfInBounds_toArray, List.set_cons_zero, List.set_cons_succ]
        refine wpAnyH_ready (rs := [5]) (by kernel_rfl) (by simp) ?_
        refine AllReadyH.cons (o := _) rfl (fun K hK => ?_) AllReadyH.nil
        have N5 : Hid (∀ j u, (encL (toL c n))[j]? = some u → wv5.cell? ((⟨g, 0, none⟩ : Addr).add j) = some u) := row_adds (hrow.of_block (B.block _ hrow.lt))
        have HO0 := Lib.hid O0
        clear O0
        refine wp_append_own _ _ _ 29 rfl (w.heap.size + 2) 110 i0 (.agg #[.int .i8 0, .int .i8 0, .int .i8 0, .int .i8 0]) 4 4 Try.underlying29 HI.out hz0 hz1 hz2 rfl (by decide) (.slice (some ⟨w0.heap.size, 0, none⟩) 0 0) 0 ([]) rfl HO0.out ⟨g, 0, none⟩ n n (encL (toL c n)) rfl HL0.out (N5) (encL_one _) (by unfold maxLen; omega) (by omega) (by omega) ?_
        intro v6 wv6 ow hg hn
        rw [Nat.zero_add] at ow
        obtain ⟨g5, cp5, rfl⟩ := own_block ow (fun e => by first | exact hn e | (have := hn.1 e; simp at this))
        replace H3 := H3.of_block hg.size (hg.block _ H3.1 (fun e => by simp [Value.ownBlock] at e; omega))
        replace H1 := H1.of_block (hg.block _ H1.lt (fun e => by simp [Value.ownBlock] at e; omega))
        replace X7 := X7.of_block (hg.block _ X7.lt (fun e => by simp [Value.ownBlock] at e; omega))
        replace B := B.grown hg B.size (fun k e => by simp [Value.ownBlock] at e; omega)
        replace hz : w.heap.size + 2 ≤ wv6.heap.size := Nat.le_trans hz hg.size
        have O5 : wv6.ownsRow (w.heap.size + 2) 110 4 (.slice (some ⟨g5, 0, none⟩) n cp5) n (encL (toL c n)) := ow
        clear HO0 N5 ow hg hn lq pq qq rq l3 p3 q3 r3 s3
        obtain ⟨lq, pq, qq, rq⟩ := hq.below B
        obtain ⟨l3, p3, q3, r3, s3⟩ := id H3
        refine hK.out _ _ ⟨rq, p3, q3, r3, s3⟩ (fun hHeld => ?_)
        clear hK K
        try simp only [List.getElem_toArray, List.getElem_cons_zero, List.getElem_cons_succ, Act.put, List.setIfInBounds_toArray, List.set_cons_zero, List.set_cons_succ]
        refine wpAnyH_ready (rs := [8]) (by kernel_rfl) (by simp) ?_
        refine AllReadyH.cons (o := _) rfl (fun K hK => ?_) AllReadyH.nil
        have HO5 := Lib.hid O5
        have N8 : Hid (∀ j u, (encS (a0, a1, a2, a3))[j]? = some u → wv6.cell? ((⟨wv1.heap.size, 0, none⟩ : Addr).add j) = some u) := X7.adds
        clear O5
        refine wp_append_own _ _ _ 29 rfl (w.heap.size + 2) 110 i0 (.agg #[.int .i8 0, .int .i8 0, .int .i8 0, .int .i8 0]) 4 4 Try.underlying29 HI.out hz0 hz1 hz2 rfl (by decide) ((.slice (some ⟨g5, 0, none⟩) n cp5)) n (encL (toL c n)) rfl HO5.out ⟨wv1.heap.size, 0, none⟩ 1 1 (encS (a0, a1, a2, a3)) rfl rfl (N8) (encL_one [(a0, a1, a2, a3)]) (by unfold maxLen; omega) (by omega) (by omega) ?_
        intro v7 wv7 ow hg hn
        obtain ⟨g8, cp8, rfl⟩ := own_block ow (fun e => by first | exact hn e | (have := hn.1 e; simp at this))
        have hlo := World.ownsRow.lt HO5.out g5 rfl
        replace H3 := H3.of_block hg.size (hg.block _ H3.1 (fun e => by simp [Value.ownBlock] at e; omega))
        replace H1 := H1.of_block (hg.block _ H1.lt (fun e => by simp [Value.ownBlock] at e; omega))
        replace B := B.grown hg B.size (fun k e => by simp [Value.ownBlock] at e; omega)
        replace hz : w.heap.size + 2 ≤ wv7.heap.size := Nat.le_trans hz hg.size
        have O8 : wv7.ownsRow (w.heap.size + 2) 110 4 (.slice (some ⟨g8, 0, none⟩) (n + 1 : Nat) cp8) (n + 1) (encL (putL c n (a0, a1, a2, a3))) := by rw [putL_enc]; exact ow
        clear HO5 N8 ow hg hn X7 hlo lq pq qq rq l3 p3 q3 r3 s3
        obtain ⟨lq, pq, qq, rq⟩ := hq.below B
        obtain ⟨l3, p3, q3, r3, s3⟩ := id H3
        refine hK.out _ _ ⟨rq, p3, q3, r3, s3⟩ (fun hHeld => ?_)
        clear hK K
        try simp only [List.getElem_toArray, List.getElem_cons_zero, List.getElem_cons_succ, Act.put, List.setIfInBounds_toArray, List.set_cons_zero, List.set_cons_succ]
        refine wpAnyH_take (i := 9) (oi := _) (v := ?_) rfl (by kernel_rfl) (by kernel_rfl) (by kernel_rfl) (fun _ _ _ h => h) (Or.inl ⟨by kernel_rfl, ?_⟩) (by assumption) ?_
        rotate_left
        · intro w hSw; (try dsimp only at hSw); go_simp; first | done | with_reducible rfl
        try simp only [List.getElem_toArray, List.getElem_cons_zero, List.getElem_cons_succ, Act.put, List.setIfInBounds_toArray, List.set_cons_zero, List.set_cons_succ]
        refine wpAnyH_done (by kernel_rfl) ?_ _
        go_wp2_with fail
        go_meet
        exact ⟨g8, cp8, rfl, B, hz, H1, O8⟩
    · skip
      go_simp
      have X7 := Bx.new w0 #[.int .i8 a0, .int .i8 a1, .int .i8 a2, .int .i8 a3] 110
      have nb7 : w.heap.size + 2 ≤ w0.heap.size := hz
      replace H3 := H3.alloc (.cells #[.int .i8 a0, .int .i8 a1, .int .i8 a2, .int .i8 a3] 110)
      replace H1 := H1.alloc (.cells #[.int .i8 a0, .int .i8 a1, .int .i8 a2, .int .i8 a3] 110)
      replace hz : w.heap.size + 2 ≤ (w0.alloc (.cells #[.int .i8 a0, .int .i8 a1, .int .i8 a2, .int .i8 a3] 110)).heap.size := by rw [World.size_alloc]; omega
      replace B := al B (.cells #[.int .i8 a0, .int .i8 a1, .int .i8 a2, .int .i8 a3] 110)
      obtain ⟨wv8, hwn⟩ : ∃ wv8, w0.alloc (.cells #[.int .i8 a0, .int .i8 a1, .int .i8 a2, .int .i8 a3] 110) = wv8 := ⟨_, rfl⟩
      rw [hwn] at B hz H3 H1 X7 ⊢
      clear hwn lq pq qq rq l3 p3 q3 r3 s3
      obtain ⟨lq, pq, qq, rq⟩ := hq.below B
      obtain ⟨l3, p3, q3, r3, s3⟩ := id H3
      refine hK.out _ _ ⟨rq, p3, q3, r3, s3⟩ (fun hHeld => ?_)
      clear hK K
      try simp only [List.getElem_toArray, List.getElem_cons_zero, List.getElem_cons_succ, Act.put, List.setIfInBounds_toArray, List.set_cons_zero, List.set_cons_succ]
      refine wpAnyH_ready (rs := [0]) (by kernel_rfl) (by simp) ?_
      refine AllReadyH.cons (o := _) rfl (fun K hK => ?_) AllReadyH.nil
      go_simp
      have O0 : (wv8.alloc (.cells #[] 110)).ownsRow (w.heap.size + 2) 110 4 (.slice (some ⟨wv8.heap.size, 0, none⟩) 0 0) 0 [] := World.ownsRow_made wv8 #[] 0 hz (Nat.zero_le _) rfl
      have nb0 : w.heap.size + 2 ≤ wv8.heap.size := hz
      have n07 : wv8.heap.size ≠ w0.heap.size := by have := X7.lt; omega
      replace H3 := H3.alloc (.cells #[] 110)
      replace H1 := H1.alloc (.cells #[] 110)
      replace X7 := X7.alloc (.cells #[] 110)
      replace hz : w.heap.size + 2 ≤ (wv8.alloc (.cells #[] 110)).heap.size := by rw [World.size_alloc]; omega
      replace B := al B (.cells #[] 110)
      obtain ⟨wv9, hwn⟩ : ∃ wv9, wv8.alloc (.cells #[] 110) = wv9 := ⟨_, rfl⟩
      rw [hwn] at B hz H3 H1 X7 O0 ⊢
      clear hwn lq pq qq rq l3 p3 q3 r3 s3
      obtain ⟨lq, pq, qq, rq⟩ := hq.below B
      obtain ⟨l3, p3, q3, r3, s3⟩ := id H3
      refine hK.out _ _ ⟨rq, p3, q3, r3, s3⟩ (fun hHeld => ?_)
      clear hK K
      try simp only [List.getElem_toArray, List.getElem_cons_zero, List.getElem_cons_succ, Act.put, List.setIfInBounds_toArray, List.set_cons_zero, List.set_cons_succ]
      refine wpAnyH_ready (rs := [5]) (by kernel_rfl) (by simp) ?_
      refine AllReadyH.cons (o := _) rfl (fun K hK => ?_) AllReadyH.nil
      have N5 : Hid (∀ j u, (encL (toL c n))[j]? = some u → wv9.cell? ((⟨g, 0, none⟩ : Addr).add j) = some u) := row_adds (hrow.of_block (B.block _ hrow.lt))
      have HO0 := Lib.hid O0
      clear O0
      refine wp_append_own _ _ _ 29 rfl (w.heap.size + 2) 110 i0 (.agg #[.int .i8 0, .int .i8 0, .int .i8 0, .int .i8 0]) 4 4 Try.underlying29 HI.out hz0 hz1 hz2 rfl (by decide) (.slice (some ⟨wv8.heap.size, 0, none⟩) 0 0) 0 ([]) rfl HO0.out ⟨g, 0, none⟩ n n (encL (toL c n)) rfl HL0.out (N5) (encL_one _) (by unfold maxLen; omega) (by omega) (by omega) ?_
      intro v10 wv10 ow hg hn
      rw [Nat.zero_add] at ow
      obtain ⟨g5, cp5, rfl⟩ := own_block ow (fun e => by first | exact hn e | (have := hn.1 e; simp at this))
      replace H3 := H3.of_block hg.size (hg.block _ H3.1 (fun e => by simp [Value.ownBlock] at e; omega))
      replace H1 := H1.of_block (hg.block _ H1.lt (fun e => by simp [Value.ownBlock] at e; omega))
      replace X7 := X7.of_block (hg.block _ X7.lt (fun e => by simp [Value.ownBlock] at e; omega))
      replace B := B.grown hg B.size (fun k e => by simp [Value.ownBlock] at e; omega)
      replace hz : w.heap.size + 2 ≤ wv10.heap.size := Nat.le_trans hz hg.size
      have O5 : wv10.ownsRow (w.heap.size + 2) 110 4 (.slice (some ⟨g5, 0, none⟩) n cp5) n (encL (toL c n)) := ow
      clear HO0 N5 ow hg hn lq pq qq rq l3 p3 q3 r3 s3
      obtain ⟨lq, pq, qq, rq⟩ := hq.below B
      obtain ⟨l3, p3, q3, r3, s3⟩ := id H3
      refine hK.out _ _ ⟨rq, p3, q3, r3, s3⟩ (fun hHeld => ?_)
      clear hK K
      try simp only [List.getElem_toArray, List.getElem_cons_zero, List.getElem_cons_succ, Act.put, List.setIfInBounds_toArray, List.set_cons_zero, List.set_cons_succ]
      refine wpAnyH_ready (rs := [8]) (by kernel_rfl) (by simp) ?_
      refine AllReadyH.cons (o := _) rfl (fun K hK => ?_) AllReadyH.nil
      have HO5 := Lib.hid O5
      have N8 : Hid (∀ j u, (encS (a0, a1, a2, a3))[j]? = some u → wv10.cell? ((⟨w0.heap.size, 0, none⟩ : Addr).add j) = some u) := X7.adds
      clear O5
      refine wp_append_own _ _ _ 29 rfl (w.heap.size + 2) 110 i0 (.agg #[.int .i8 0, .int .i8 0, .int .i8 0, .int .i8 0]) 4 4 Try.underlying29 HI.out hz0 hz1 hz2 rfl (by decide) ((.slice (some ⟨g5, 0, none⟩) n cp5)) n (encL (toL c n)) rfl HO5.out ⟨w0.heap.size, 0, none⟩ 1 1 (encS (a0, a1, a2, a3)) rfl rfl (N8) (encL_one [(a0, a1, a2, a3)]) (by unfold maxLen; omega) (by omega) (by omega) ?_
      intro v11 wv11 ow hg hn
      obtain ⟨g8, cp8, rfl⟩ := own_block ow (fun e => by first | exact hn e | (have := hn.1 e; simp at this))
      have hlo := World.ownsRow.lt HO5.out g5 rfl
      replace H3 := H3.of_block hg.size (hg.block _ H3.1 (fun e => by simp [Value.ownBlock] at e; omega))
      replace H1 := H1.of_block (hg.block _ H1.lt (fun e => by simp [Value.ownBlock] at e; omega))
      replace B := B.grown hg B.size (fun k e => by simp [Value.ownBlock] at e; omega)
      replace hz : w.heap.size + 2 ≤ wv11.heap.size := Nat.le_trans hz hg.size
      have O8 : wv11.ownsRow (w.heap.size + 2) 110 4 (.slice (some ⟨g8, 0, none⟩) (n + 1 : Nat) cp8) (n + 1) (encL (putL c n (a0, a1, a2, a3))) := by rw [putL_enc]; exact ow
      clear HO5 N8 ow hg hn X7 hlo lq pq qq rq l3 p3 q3 r3 s3
      obtain ⟨lq, pq, qq, rq⟩ := hq.below B
      obtain ⟨l3, p3, q3, r3, s3⟩ := id H3
      refine hK.out _ _ ⟨rq, p3, q3, r3, s3⟩ (fun hHeld => ?_)
      clear hK K
      try simp only [List.getElem_toArray, List.getElem_cons_zero, List.getElem_cons_succ, Act.put, List.setIfInBounds_toArray, List.set_cons_zero, List.set_cons_succ]
      refine wpAnyH_take (i := 9) (oi := _) (v := ?_) rfl (by kernel_rfl) (by kernel_rfl) (by kernel_rfl) (fun _ _ _ h => h) (Or.inl ⟨by kernel_rfl, ?_⟩) (by assumption) ?_
      rotate_left
      · intro w hSw; (try dsimp only at hSw); go_simp; first | done | with_reducible rfl
      try simp only [List.getElem_toArray, List.getElem_cons_zero, List.getElem_cons_succ, Act.put, List.setIfInBounds_toArray, List.set_cons_zero, List.set_cons_succ]
      refine wpAnyH_done (by kernel_rfl) ?_ _
      go_wp2_with fail
      go_meet
      exact ⟨g8, cp8, rfl, B, hz, H1, O8⟩
  clear B H1 H3 hz
  obtain ⟨g8, cp8, rfl, B, hz, H1, O8⟩ := hcut
  have hn1 : (((n : Nat) : Int) + 1) = ((n + 1 : Nat) : Int) := by simp
  go_wp2_with fail
  obtain ⟨A9, g9, cp9, e9, h91, h92⟩ := own_has O8 (f := fL (putL c n (a0, a1, a2, a3))) (fun j hj => encL_get _ j (by rw [putL_length]; exact hj))
  have hrd : Rd8 wc.drew wc.drew.heap.size (some ⟨g8, 0, none⟩) (4 * (n + 1)) (fL (putL c n (a0, a1, a2, a3))) := fun h0 => by
    obtain ⟨e, _, l⟩ := h91 (by omega)
    injection e9 with e9
    rw [← e9] at e
    injection e with e
    injection e with e
    subst e
    exact ⟨g8, 0, rfl, l, fun j hj => (h92 j hj).1⟩
  have HRD := Lib.hid hrd
  clear e9 h91 h92 hrd O8
  replace B := B.drew
  replace H1 : Bx wc.drew (w.heap.size + 1) #[.int .i8 0, .int .i8 0, .slice none 0 0] 31 := H1
  replace hz : w.heap.size + 2 ≤ wc.drew.heap.size := hz
  obtain ⟨lq, pq, qq, rq⟩ := hq.below B
  refine wp_region_held_drew (S := (fun w' => w'.cell? ⟨bq, 0, none⟩ = some (.int .i8 X) ∧ w'.cell? ⟨bq, 1, none⟩ = some (.int .i8 Y))) (by kernel_rfl) ⟨pq, qq⟩ (fun hHeld => ?_)
  obtain ⟨wd, hwd⟩ : ∃ wd, wc.drew = wd := ⟨_, rfl⟩
  rw [hwd] at hHeld B H1 hz HRD lq pq qq rq ⊢
  clear hwd
  refine wpAnyH_take (i := 0) (oi := _) (v := ?_) rfl (by kernel_rfl) (by kernel_rfl) (by kernel_rfl) (fun _ _ _ h => h) (Or.inl ⟨by kernel_rfl, ?_⟩) (by assumption) ?_
  rotate_left
  · intro w hSw; (try dsimp only at hSw); go_simp; first | done | with_reducible rfl
  try simp only [List.getElem_toArray, List.getElem_cons_zero, List.getElem_cons_succ, Act.put, List.setIfInBounds_toArray, List.set_cons_zero, List.set_cons_succ]
  refine wpAnyH_take (i := 1) (oi := _) (v := ?_) rfl (by kernel_rfl) (by kernel_rfl) (by kernel_rfl) (fun _ _ _ h => h) (Or.inl ⟨by kernel_rfl, ?_⟩) (by assumption) ?_
  rotate_left
  · intro w hSw; (try dsimp only at hSw); go_simp; first | done | with_reducible rfl
  try simp only [List.getElem_toArray, List.getElem_cons_zero, List.getElem_cons_succ, Act.put, List.setIfInBounds_toArray, List.set_cons_zero, List.set_cons_succ]
  refine wpAnyH_take (i := 2) (oi := _) (v := ?_) rfl (by kernel_rfl) (by kernel_rfl) (by kernel_rfl) (fun _ _ _ h => h) (Or.inl ⟨by kernel_rfl, ?_⟩) (by assumption) ?_
  rotate_left
  · intro w hSw; (try dsimp only at hSw); go_simp; first | done | with_reducible rfl
  try simp only [List.getElem_toArray, List.getElem_cons_zero, List.getElem_cons_succ, Act.put, List.setIfInBounds_toArray, List.set_cons_zero, List.set_cons_succ]
  refine wpAnyH_take (i := 3) (oi := _) (v := ?_) rfl (by kernel_rfl) (by kernel_rfl) (by kernel_rfl) (fun _ _ _ h => h) (Or.inl ⟨by kernel_rfl, ?_⟩) (by assumption) ?_
  rotate_left
  · intro w hSw; (try dsimp only at hSw); go_simp; first | done | with_reducible rfl
  try simp only [List.getElem_toArray, List.getElem_cons_zero, List.getElem_cons_succ, Act.put, List.setIfInBounds_toArray, List.set_cons_zero, List.set_cons_succ]
  refine wpAnyH_take (i := 4) (oi := _) (v := ?_) rfl (by kernel_rfl) (by kernel_rfl) (by kernel_rfl) (fun _ _ _ h => h) (Or.inl ⟨by kernel_rfl, ?_⟩) (by assumption) ?_
  rotate_left
  · intro w hSw; (try dsimp only at hSw); go_simp; first | done | with_reducible rfl
  try simp only [List.getElem_toArray, List.getElem_cons_zero, List.getElem_cons_succ, Act.put, List.setIfInBounds_toArray, List.set_cons_zero, List.set_cons_succ]
  refine wpAnyH_take (i := 5) (oi := _) (v := ?_) rfl (by kernel_rfl) (by kernel_rfl) (by kernel_rfl) (fun _ _ _ h => h) (Or.inl ⟨by kernel_rfl, ?_⟩) (by assumption) ?_
  rotate_left
  · intro w hSw; (try dsimp only at hSw); go_simp; first | done | with_reducible rfl
  try simp only [List.getElem_toArray, List.getElem_cons_zero, List.getElem_cons_succ, Act.put, List.setIfInBounds_toArray, List.set_cons_zero, List.set_cons_succ]
  refine wpAnyH_take (i := 6) (oi := _) (v := ?_) rfl (by kernel_rfl) (by kernel_rfl) (by kernel_rfl) (fun _ _ _ h => h) (Or.inl ⟨by kernel_rfl, ?_⟩) (by assumption) ?_
  rotate_left
  · intro w hSw; (try dsimp only at hSw); go_simp; first | done | with_reducible rfl
  try simp only [List.getElem_toArray, List.getElem_cons_zero, List.getElem_cons_succ, Act.put, List.setIfInBounds_toArray, List.set_cons_zero, List.set_cons_succ]
  refine wpAnyH_take (i := 7) (oi := _) (v := ?_) rfl (by kernel_rfl) (by kernel_rfl) (by kernel_rfl) (fun _ _ _ h => h) (Or.inl ⟨by kernel_rfl, ?_⟩) (by assumption) ?_
  rotate_left
  · intro w hSw; (try dsimp only at hSw); go_simp; first | done | with_reducible rfl
  try simp only [List.getElem_toArray, List.getElem_cons_zero, List.getElem_cons_succ, Act.put, List.setIfInBounds_toArray, List.set_cons_zero, List.set_cons_succ]
  refine wpAnyH_take (i := 8) (oi := _) (v := ?_) rfl (by kernel_rfl) (by kernel_rfl) (by kernel_rfl) (fun _ _ _ h => h) (Or.inl ⟨by kernel_rfl, ?_⟩) (by assumption) ?_
  rotate_left
  · intro w hSw; (try dsimp only at hSw); go_simp; first | done | with_reducible rfl
  try simp only [List.getElem_toArray, List.getElem_cons_zero, List.getElem_cons_succ, Act.put, List.setIfInBounds_toArray, List.set_cons_zero, List.set_cons_succ]
  refine wpAnyH_ready (rs := [9]) (by kernel_rfl) (by simp) ?_
  refine AllReadyH.cons (o := _) rfl (fun K hK => ?_) AllReadyH.nil
  go_simp
  refine (sorted_any (some ⟨g8, 0, none⟩) (n + 1) cp8 (fL (putL c n (a0, a1, a2, a3))) _ (by omega) HRD.out).mono ?_
  rintro e w5 ⟨hb, go, cpo, L, rfl, hLL, hSo, hOL⟩
  have hzz : toL (fL (putL c n (a0, a1, a2, a3))) (n + 1) = (putL c n (a0, a1, a2, a3)) := by have := toL_fL (putL c n (a0, a1, a2, a3)); rwa [putL_length] at this
  rw [hzz] at hSo
  have hsb := B.size
  replace H1 := H1.below hb
  replace B := nxt B hb
  have HSo := Lib.hid hSo
  have HOL := Lib.hid hOL
  clear hb hSo hOL hzz lq pq qq rq
  obtain ⟨lq, pq, qq, rq⟩ := hq.below B
  obtain ⟨p1, q1, r1⟩ := H1.cells3
  have f10 := H1.frozen 0
  have f11 := H1.frozen 1
  have f12 := H1.frozen 2
  have hbq := hq.1
  have hne : bq ≠ w.heap.size + 1 := by omega
  refine hK.out _ _ ⟨pq, qq⟩ (fun hHeld => ?_)
  clear hK K
  try simp only [List.getElem_toArray, List.getElem_cons_zero, List.getElem_cons_succ, Act.put, List.setIfInBounds_toArray, List.set_cons_zero, List.set_cons_succ]
  refine wpAnyH_take (i := 10) (oi := _) (v := ?_) rfl (by kernel_rfl) (by kernel_rfl) (by kernel_rfl) (fun _ _ _ h => h) (Or.inl ⟨by kernel_rfl, ?_⟩) (by assumption) ?_
  rotate_left
  · intro w hSw; (try dsimp only at hSw); go_simp; first | done | with_reducible rfl
  try simp only [List.getElem_toArray, List.getElem_cons_zero, List.getElem_cons_succ, Act.put, List.setIfInBounds_toArray, List.set_cons_zero, List.set_cons_succ]
  refine wpAnyH_ready (rs := [11]) (by kernel_rfl) (by simp) ?_
  refine AllReadyH.cons (o := _) rfl (fun K hK => ?_) AllReadyH.nil
  go_simp
  refine hK.out _ _ ⟨(World.cell?_of_block (w := w5) (blk3 hne)).trans pq, (World.cell?_of_block (w := w5) (blk3 hne)).trans qq⟩ (fun hHeld => ?_)
  clear hK K
  try simp only [List.getElem_toArray, List.getElem_cons_zero, List.getElem_cons_succ, Act.put, List.setIfInBounds_toArray, List.set_cons_zero, List.set_cons_succ]
  refine wpAnyH_done (by kernel_rfl) ?_ _
  clear hHeld
  go_wp2_with fail
  have F1 := H1.set3 (.int .i8 X) (.int .i8 Y) (.slice (some ⟨go, 0, none⟩) (n + 1 : Nat) cpo)
  have B3 := below_set3 (g := w.heap.size + 1) (v0 := .int .i8 X) (v1 := .int .i8 Y) (v2 := .slice (some ⟨go, 0, none⟩) (n + 1 : Nat) cpo) B (by omega)
  obtain ⟨x1, y1, z1⟩ := F1.cells3
  obtain ⟨A8, g9', cp9', e8, h81, h82⟩ := OwnQ.has HOL.out
  rw [hLL] at e8 h81 h82
  refine bodyPost_ret (v := .agg #[.int .i8 X, .int .i8 Y, .slice (some ⟨go, 0, none⟩) (n + 1 : Nat) cpo]) (by simp [results, Try.results81, go_sem, x1, y1, z1]) rfl ⟨B3, _, L, rfl, HSo.out, A8, g9', cp9', SliceOf.kept (w := w5) ⟨e8, fun h => ⟨(h81 h).1, by have := (h81 h).2.1; omega, (h81 h).2.2⟩, h82⟩ (by simp) (fun h => blk3 (by have := (h81 h).2.1; omega))⟩
end Go.Proofs.Ytkdakpbkpfigeaa
