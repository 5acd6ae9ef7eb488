/-
  The contracts of impl.withHeights and of the model's l04Own. Conditions stand at each.
-/
import Derived.Test.YtegnhpanlbfmdaaRows
import Derived.Test.YtegnhpanlbfmdaaRowRes
import Derived.Test.YtegnhpanlbfmdaaCloneC
import Derived.Test.YtegnhpanlbfmdaaGndT
import Derived.Test.YtegnhpanlbfmdaaLandOf
import Derived.Deep.Cut
namespace Go.Proofs.Ytegnhpanlbfmdaa
open Go Go.ChangeShapes Go.WideShapes Go.ChangeAt Go.RowKit
set_option linter.unusedVariables false
set_option linter.unusedSimpArgs false
set_option maxRecDepth 100000
set_option maxHeartbeats 4000000

theorem OwnG.setRow {w : World} {base b n : Nat} {v : Value} {c : Nat → Int} (h : OwnG w base v n c) (cs : Array Value) (hb : b < base) : OwnG (w.setRow b cs) base v n c :=
  h.of_blocks fun g hg _ => setRow_other w b g cs (by omega)
theorem OwnG.setOther {w : World} {base b i n : Nat} {v u : Value} {c : Nat → Int} (h : OwnG w base v n c) (hb : b < base) : OwnG (w.setCell ⟨b, i, none⟩ u) base v n c :=
  h.of_blocks fun g hg _ => Below.heap_setCell w ⟨b, i, none⟩ u g (by simp; omega)

theorem withH_any (X Y : Int) (h k : Nat → Int) (g n : Nat) (c : Nat → Int) (w : World) (h8 : n ≤ 8) (hA : Ac w g n c) :
    Calls Try.prog 149 #[.agg (gV X Y h (.slice (some ⟨g, 0, none⟩) n n)), .agg (hV k)] w fun e w' => Below w.heap.size w w' ∧ ∃ v, e = .returned (.agg (gV X Y k v)) ∧ OwnG w' w.heap.size v n c := by
  have X2 := ((Bx.new w (gV X Y h (.slice (some ⟨g, 0, none⟩) n n)) 33).alloc (.cells (hV k) 118)).alloc (.cells Try.zeroCells33 33)
  have X3 := (Bx.newAt (w.alloc (.cells (gV X Y h (.slice (some ⟨g, 0, none⟩) n n)) 33)) (w.heap.size + 1) (hV k) 118 (by simp)).alloc (.cells Try.zeroCells33 33)
  have X4 := Bx.newAt ((w.alloc (.cells (gV X Y h (.slice (some ⟨g, 0, none⟩) n n)) 33)).alloc (.cells (hV k) 118)) (w.heap.size + 1 + 1) Try.zeroCells33 33 (by simp)
  have B := al (al (al (Below.refl w.heap.size w) (.cells (gV X Y h (.slice (some ⟨g, 0, none⟩) n n)) 33)) (.cells (hV k) 118)) (.cells Try.zeroCells33 33)
  have hA2 := ((hA.alloc (.cells (gV X Y h (.slice (some ⟨g, 0, none⟩) n n)) 33)).alloc (.cells (hV k) 118)).alloc (.cells Try.zeroCells33 33)
  clear hA
  go_enter Try.func149, Try.ntmps149
  go_wp2
  obtain ⟨W0, hW0⟩ : ∃ W0 : World, W0 = ((w.alloc (.cells (gV X Y h (.slice (some ⟨g, 0, none⟩) n n)) 33)).alloc (.cells (hV k) 118)).alloc (.cells Try.zeroCells33 33) := ⟨_, rfl⟩
  rw [← hW0] at X2 X3 X4 B hA2 ⊢
  clear hW0
  have hs0 := X4.lt
  obtain ⟨l1, p1, q1, r1⟩ := X2.gcells
  refine wp_region_held_drew (S := (fun w' : World => w'.cell? ⟨w.heap.size, 0, none⟩ = some (.int .i8 X) ∧ w'.cell? ⟨w.heap.size, 1, none⟩ = some (.int .i8 Y) ∧ w'.cell? ⟨w.heap.size, 83, none⟩ = some (.slice (some ⟨g, 0, none⟩) n n) ∧ Bx w' (w.heap.size + 1) (hV k) 118)) (by kernel_rfl) ⟨p1, q1, r1, X3⟩ (fun hHeld => ?_)
  refine wpAnyH_take (i := 0) (oi := _) (v := ?_) rfl (by kernel_rfl) (by kernel_rfl) (by kernel_rfl) (fun _ _ _ h => h) (Or.inl ⟨by kernel_rfl, ?_⟩) (by assumption) ?_
  rotate_left
  · intro w hSw; (try dsimp only at hSw); go_simp; first | done | with_reducible rfl
  try simp only [List.getElem_toArray, List.getElem_cons_zero, List.getElem_cons_succ, Act.put, List.setIfInBounds_toArray, List.set_cons_zero, List.set_cons_succ]
  refine wpAnyH_take (i := 1) (oi := _) (v := ?_) rfl (by kernel_rfl) (by kernel_rfl) (by kernel_rfl) (fun _ _ _ h => h) (Or.inl ⟨by kernel_rfl, ?_⟩) (by assumption) ?_
  rotate_left
  · intro w hSw; (try dsimp only at hSw); go_simp; first | done | with_reducible rfl
  try simp only [List.getElem_toArray, List.getElem_cons_zero, List.getElem_cons_succ, Act.put, List.setIfInBounds_toArray, List.set_cons_zero, List.set_cons_succ]
  refine wpAnyH_take (i := 2) (oi := _) (v := ?_) rfl (by kernel_rfl) (by kernel_rfl) (by kernel_rfl) (fun _ _ _ h => h) (Or.inl ⟨by kernel_rfl, ?_⟩) (by assumption) ?_
  rotate_left
  · intro w hSw; (try dsimp only at hSw); go_simp; first | done | with_reducible rfl
  try simp only [List.getElem_toArray, List.getElem_cons_zero, List.getElem_cons_succ, Act.put, List.setIfInBounds_toArray, List.set_cons_zero, List.set_cons_succ]
  refine wpAnyH_take (i := 3) (oi := _) (v := ?_) rfl (by kernel_rfl) (by kernel_rfl) (by kernel_rfl) (fun _ _ _ h => h) (Or.inl ⟨by kernel_rfl, ?_⟩) (by assumption) ?_
  rotate_left
  · intro w hSw; (try dsimp only at hSw); go_simp; first | done | with_reducible rfl
  try simp only [List.getElem_toArray, List.getElem_cons_zero, List.getElem_cons_succ, Act.put, List.setIfInBounds_toArray, List.set_cons_zero, List.set_cons_succ]
  refine wpAnyH_take (i := 5) (oi := _) (v := ?_) rfl (by kernel_rfl) (by kernel_rfl) (by kernel_rfl) (fun _ _ _ h => h) (Or.inl ⟨by kernel_rfl, ?_⟩) (by assumption) ?_
  rotate_left
  · intro w hSw; (try dsimp only at hSw); go_simp; first | done | with_reducible rfl
  try simp only [List.getElem_toArray, List.getElem_cons_zero, List.getElem_cons_succ, Act.put, List.setIfInBounds_toArray, List.set_cons_zero, List.set_cons_succ]
  refine wpAnyH_take (i := 6) (oi := _) (v := ?_) rfl (by kernel_rfl) (by kernel_rfl) (by kernel_rfl) (fun _ _ _ h => h) (Or.inl ⟨by kernel_rfl, ?_⟩) (by assumption) ?_
  rotate_left
  · intro w hSw; (try dsimp only at hSw); go_simp; first | done | with_reducible rfl
  try simp only [List.getElem_toArray, List.getElem_cons_zero, List.getElem_cons_succ, Act.put, List.setIfInBounds_toArray, List.set_cons_zero, List.set_cons_succ]
  refine wpAnyH_take (i := 4) (oi := _) (v := .agg (hV k)) rfl (by kernel_rfl) (by kernel_rfl) (by kernel_rfl) (fun _ _ _ h => h) (yields_box (by kernel_rfl) _ _ rfl (w.heap.size + 1) rfl (hV k) 118 (fun _ hS => hS.2.2.2) _ Try.underlying118 rfl (infoRh _)) (by assumption) ?_
  try simp only [List.getElem_toArray, List.getElem_cons_zero, List.getElem_cons_succ, Act.put, List.setIfInBounds_toArray, List.set_cons_zero, List.set_cons_succ]
  refine wpAnyH_ready (rs := [7]) (by kernel_rfl) (by simp) ?_
  refine AllReadyH.cons (o := _) rfl (fun K hK => ?_) AllReadyH.nil
  go_simp
  refine (cloneC_any g n c _ h8 hA2.drew.rd).mono ?_
  rintro e w5 ⟨hb, v, rfl, O⟩
  replace O : OwnG w5 W0.heap.size v n c := O
  obtain ⟨A, cap, rfl, _⟩ := O.form
  replace X2 := X2.drew.below hb
  replace X3 := X3.drew.below hb
  replace X4 := X4.drew.below hb
  replace B := nxt B.drew hb
  clear hb l1 p1 q1 r1 hA2
  obtain ⟨l1, p1, q1, r1⟩ := X2.gcells
  refine hK.out _ _ ⟨p1, q1, r1, X3⟩ (fun hHeld => ?_)
  clear hK K
  try simp only [List.getElem_toArray, List.getElem_cons_zero, List.getElem_cons_succ, Act.put, List.setIfInBounds_toArray, List.set_cons_zero, List.set_cons_succ]
  refine wpAnyH_take (i := 8) (oi := _) (v := .agg (gV X Y k (.slice A n cap))) rfl (by kernel_rfl) (by kernel_rfl) (by kernel_rfl) (fun _ _ _ h => h) (yields_build (by kernel_rfl) _ _ rfl (gV X Y k (.slice A n cap)) (built_ground X Y k A n cap) (by kernel_rfl)) (by assumption) ?_
  try simp only [List.getElem_toArray, List.getElem_cons_zero, List.getElem_cons_succ, Act.put, List.setIfInBounds_toArray, List.set_cons_zero, List.set_cons_succ]
  refine wpAnyH_ready (rs := [9]) (by kernel_rfl) (by simp) ?_
  refine AllReadyH.cons (o := _) rfl (fun K hK => ?_) AllReadyH.nil
  refine step_store_row X4 (by kernel_rfl) _ _ _ rfl rfl rfl (infoGv _ _ _ _) zsize (gV_one _ _ _ _ _ _) ?_
  have Y2 := (X2.setRowOther (g := w.heap.size + 1 + 1) (gV X Y k (.slice A n cap)) (by omega))
  have Y3 := (X3.setRowOther (g := w.heap.size + 1 + 1) (gV X Y k (.slice A n cap)) (by omega))
  have Y4 := X4.setRow (gV X Y k (.slice A n cap))
  replace O := O.setRow (b := w.heap.size + 1 + 1) (gV X Y k (.slice A n cap)) hs0
  replace B := setRow_below B (g := w.heap.size + 1 + 1) (by omega) (gV X Y k (.slice A n cap))
  obtain ⟨_, p2, q2, r2⟩ := Y2.gcells
  refine hK.out _ _ ⟨p2, q2, r2, Y3⟩ (fun hHeld => ?_)
  clear hK K
  try simp only [List.getElem_toArray, List.getElem_cons_zero, List.getElem_cons_succ, Act.put, List.setIfInBounds_toArray, List.set_cons_zero, List.set_cons_succ]
  refine wpAnyH_done (by kernel_rfl) ?_ _
  go_wp2
  exact bodyPost_ret (results_row1 Try.results149 _ _ _ _ _ _ Y4 rfl Try.underlying33 rfl (infoGv _ _ _ _)) rfl ⟨B, _, rfl, O.mono (by omega)⟩

theorem own_any (X Y : Int) (h : Nat → Int) (bq g n : Nat) (c : Nat → Int) (w : World) (h8 : n ≤ 8) (hB : Bx w bq (gV X Y h (.slice (some ⟨g, 0, none⟩) n n)) 33) (hA : Ac w g n c) :
    Calls Try.prog 148 #[.pointer (some ⟨bq, 0, none⟩)] w fun e w' => Below w.heap.size w w' ∧ ∃ v, e = .returned (.agg (gV X Y h v)) ∧ OwnG w' w.heap.size v n c := by
  obtain ⟨i0, hi, hz0, hz1, hz2⟩ := info_parts infoCell
  have hlt := hB.lt
  have X2 := Bx.new w Try.zeroCells33 33
  have B := al (Below.refl w.heap.size w) (.cells Try.zeroCells33 33)
  have X1 := hB.alloc (.cells Try.zeroCells33 33)
  replace hA := hA.alloc (.cells Try.zeroCells33 33)
  go_enter Try.func148, Try.ntmps148
  have W1 : ∃ W1 : World, W1 = w.alloc (.cells Try.zeroCells33 33) := ⟨_, rfl⟩
  go_upto_region 1 with fail
  obtain ⟨W1, hW1⟩ := W1
  rw [← hW1] at X2 B X1 hA ⊢
  clear hW1
  have hs1 := X2.lt
  have hl1 := X1.lt
  have X3 := Bx.new W1 (gV X Y h (.slice (some ⟨g, 0, none⟩) n n)) 33
  have W2 : ∃ W2 : World, W2 = W1.alloc (.cells (gV X Y h (.slice (some ⟨g, 0, none⟩) n n)) 33) := ⟨_, rfl⟩
  go_upto_region 2 with (first
    | (refine wpList_load_box X1 rfl _ _ rfl rfl _ Try.underlying33 rfl (infoGv _ _ _ _) ?_)
    | (refine wpList_store_new rfl _ _ _ rfl rfl rfl (infoGv _ _ _ _) zsize (gV_one _ _ _ _ _ _) ?_))
  replace X2 := X2.alloc (.cells (gV X Y h (.slice (some ⟨g, 0, none⟩) n n)) 33)
  replace X1 := X1.alloc (.cells (gV X Y h (.slice (some ⟨g, 0, none⟩) n n)) 33)
  replace B := al B (.cells (gV X Y h (.slice (some ⟨g, 0, none⟩) n n)) 33)
  replace hA := hA.alloc (.cells (gV X Y h (.slice (some ⟨g, 0, none⟩) n n)) 33)
  obtain ⟨W2, hW2⟩ := W2
  rw [← hW2] at X2 X3 X1 B hA ⊢
  clear hW2
  have hs2 := X3.lt
  have X1a := X1.alloc (.cells #[] 40)
  obtain ⟨l1, p1, q1, r1⟩ := X1a.gcells
  have R1 := Lib.hid (hA.alloc (.cells #[] 40)).rd
  have X2a := X2.alloc (.cells #[] 40)
  have X3a := X3.alloc (.cells #[] 40)
  have hb1 := al B (.cells #[] 40)
  have hlk : W1.heap.size < (W2.alloc (.cells #[] 40)).heap.size := X3a.lt
  go_upto_region 3 with (first
    | (at_builtin
       refine wpList_append_own _ rfl _ _ 31 rfl W2.heap.size 40 i0 (.agg #[.int .i8 0, .int .i8 0]) 2 2 Try.underlying31 hi hz0 hz1 hz2 rfl (by decide) _ _ _ rfl (World.ownsRow_made W2 #[] 0 (Nat.le_refl _) (Nat.zero_le _) rfl) ⟨g, 0, none⟩ n n (numsC n c) rfl (numsC_length n c) (numsC_news R1.out) numsC_one (by unfold maxLen; omega) (by omega) (by simp) ?_
       intro v' w3 own' hgr _
       rw [Nat.zero_add, List.nil_append] at own'
       obtain ⟨A', cap', rfl, _⟩ := OwnG.form own'
       have hgr2 : (W2.alloc (.cells #[] 40)).grownBy w3 (some W2.heap.size) := hgr
       have HX3 := X3a.of_block (hgr2.block _ hlk (fun e => by injection e with e; omega))
       have HX2 := X2a.of_block (hgr2.block _ X2a.lt (fun e => by injection e with e; omega))
       have B3 : Below w.heap.size w w3 := hb1.grown hgr2 (by simp; omega) (fun k e => by injection e with e; omega)
       have O3 : OwnG w3 W2.heap.size (.slice A' n cap') n c := own'
       have c83 := HX3.cell 83
       have f83 := HX3.frozen 83
       rw [gV_s] at c83
       clear own' hgr hgr2))
  replace HX2 := HX2.other (g := W1.heap.size) (o := 83) (.slice A' n cap') (by omega)
  replace HX3 := HX3.set 83 (.slice A' n cap')
  rw [gV_set83] at HX3
  replace O3 := O3.setOther (b := W1.heap.size) (i := 83) (u := .slice A' n cap') (by omega)
  replace B3 := B3.setCell (p := ⟨W1.heap.size, 83, none⟩) (by simp; omega) (.slice A' n cap')
  obtain ⟨w4, hw4⟩ : ∃ w4 : World, w4 = w3.setCell ⟨W1.heap.size, 83, none⟩ (.slice A' n cap') := ⟨_, rfl⟩
  rw [← hw4] at HX2 HX3 O3 B3 ⊢
  clear hw4 c83 f83 X1a X2a X3a l1 p1 q1 r1
  go_wp2_with (first
    | (refine wpList_load_box HX3 rfl _ _ rfl rfl _ Try.underlying33 rfl (infoGv _ _ _ _) ?_)
    | (refine wpList_store_box HX2 rfl _ _ _ rfl rfl rfl (infoGv _ _ _ _) zsize (gV_one _ _ _ _ _ _) ?_))
  exact bodyPost_ret (results_row1 Try.results148 _ _ _ _ _ _ (HX2.setRow _) rfl Try.underlying33 rfl (infoGv _ _ _ _)) rfl ⟨setRow_below B3 (by omega) _, _, rfl, (O3.setRow _ (by omega)).mono (by omega)⟩
end Go.Proofs.Ytegnhpanlbfmdaa
