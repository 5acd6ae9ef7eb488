/-
  The contract of impl.landOf. Conditions stand at each.
-/
import Derived.Test.YtegnhpanlbfmdaaRows
import Derived.Test.YtegnhpanlbfmdaaLandM
import Derived.Test.YtegnhpanlbfmdaaGndV
namespace Go.Proofs.Ytegnhpanlbfmdaa
open Go Go.ChangeShapes Go.WideShapes Go.ChangeAt Go.RowKit
set_option linter.unusedVariables false
set_option linter.unusedSimpArgs false
set_option maxRecDepth 100000
set_option maxHeartbeats 4000000

/-- a land at b. -/
def LandAt (W : World) (b m n : Nat) (X Y : Int) (h c : Nat → Int) : Prop := Bx W b (gV X Y h (.map (some m))) 153 ∧ GMap W m n c
theorem LandAt.below {W W' : World} {b m n N : Nat} {X Y : Int} {h c : Nat → Int} (H : LandAt W b m n X Y h c) (hb : Below N W W') (hN : b < N ∧ m < N) : LandAt W' b m n X Y h c :=
  ⟨H.1.of_block (hb.block _ hN.1), H.2.below hb hN.2⟩
theorem LandAt.of_block {W W' : World} {b m n : Nat} {X Y : Int} {h c : Nat → Int} (H : LandAt W b m n X Y h c) (h1 : W'.heap[b]? = W.heap[b]?) (h2 : W'.heap[m]? = W.heap[m]?) : LandAt W' b m n X Y h c :=
  ⟨H.1.of_block h1, H.2.of_block h2⟩
theorem LandAt.lt {W : World} {b m n : Nat} {X Y : Int} {h c : Nat → Int} (H : LandAt W b m n X Y h c) : b < W.heap.size ∧ m < W.heap.size := ⟨H.1.lt, H.2.lt⟩
theorem LandAt.next {W W' : World} {b m n : Nat} {X Y : Int} {h c : Nat → Int} (H : LandAt W b m n X Y h c) (hb : Below W.heap.size W W') : LandAt W' b m n X Y h c := H.below hb H.lt
theorem LandAt.drew {W : World} {b m n : Nat} {X Y : Int} {h c : Nat → Int} (H : LandAt W b m n X Y h c) : LandAt W.drew b m n X Y h c := H

def LoPost (X Y : Int) (h : Nat → Int) (n : Nat) (c : Nat → Int) (w : World) (e : Ending) (w' : World) : Prop :=
  Below w.heap.size w w' ∧ ((GValid X Y h n c ∧ ∃ b m, e = .returned (.tuple #[.pointer (some ⟨b, 0, none⟩), .int .i64 0]) ∧ w.heap.size ≤ m ∧ m < b ∧ LandAt w' b m n X Y h c) ∨ (¬ GValid X Y h n c ∧ e = .returned (.tuple #[.pointer none, .int .i64 1])))

theorem landOf_any (X Y : Int) (h : Nat → Int) (g n : Nat) (c : Nat → Int) (w : World) (hX : -128 ≤ X ∧ X ≤ 127) (hY : -128 ≤ Y ∧ Y ≤ 127) (hh : ∀ p, -32768 ≤ h p ∧ h p ≤ 32767) (hc : ∀ j, -128 ≤ c j ∧ c j ≤ 127) (hm : n ≤ 1048576) (hA : Ac w g n c) :
    Calls Try.prog 133 #[.agg (gV X Y h (.slice (some ⟨g, 0, none⟩) n n))] w (LoPost X Y h n c w) := by
  have HC := Lib.hid hc
  have hmm := @run_makeMap Try.prog
  have X1 := Bx.new w (gV X Y h (.slice (some ⟨g, 0, none⟩) n n)) 33
  have B := al (Below.refl w.heap.size w) (.cells (gV X Y h (.slice (some ⟨g, 0, none⟩) n n)) 33)
  have hA2 := hA.alloc (.cells (gV X Y h (.slice (some ⟨g, 0, none⟩) n n)) 33)
  have hgw := hA.1
  clear hc
  go_enter Try.func133, Try.ntmps133
  go_wp2_with (refine wpList_load_box X1 rfl _ _ rfl rfl _ Try.underlying33 rfl (infoGv _ _ _ _) ?_)
  refine (implGV_any X Y h g n c _ hX hY hh HC.out hm hA2).mono ?_
  rintro e w1 ⟨hb, ⟨hv, rfl⟩ | ⟨hv, rfl⟩⟩
  rotate_left
  · replace B := nxt B hb
    have HV := Lib.hid hv
    clear hb hv hmm
    go_wp2
    exact bodyPost_ret (v := .tuple #[.pointer none, .int .i64 1]) (by simp [results, Try.results133, go_sem]) rfl ⟨B, .inr ⟨HV.out, rfl⟩⟩
  have h8 : n ≤ 8 := hv.1.2.2
  have HV := Lib.hid hv
  replace X1 := X1.below hb
  replace hA2 := hA2.below hb
  replace B := nxt B hb
  have hs1 : w.heap.size < w1.heap.size := X1.lt
  clear hb hv hA
  obtain ⟨M, hM⟩ : ∃ M : Nat, M = w1.heap.size := ⟨_, rfl⟩
  have hgm := World.ownsMap_made (H := Unit) w1 Try.prog 40 (plainElem (H := Unit) Try.prog 2)
  replace hgm : GMap (w1.alloc (.map #[] 0)) w1.heap.size 0 c := hgm
  replace X1 := X1.alloc (.map #[] 0)
  replace hA2 := hA2.alloc (.map #[] 0)
  replace B := al B (.map #[] 0)
  obtain ⟨l1, p1, q1, r1⟩ := X1.gcells
  go_wp2
  clear l1 p1 q1 r1 hmm
  obtain ⟨W2, hW2⟩ : ∃ W2 : World, W2 = w1.alloc (.map #[] 0) := ⟨_, rfl⟩
  rw [← hW2] at X1 hA2 B hgm ⊢
  have hs2 : w1.heap.size < W2.heap.size := hgm.lt
  clear hW2
  rw [← hM] at hs1 hs2 hgm ⊢
  clear hM
  go_loopw [5, 6, 14] (fun t5 t6 t14 wr => ∃ i : Nat, i ≤ n ∧ t14 = .int .i64 i ∧ Below w.heap.size w wr ∧ Below M W2 wr ∧ GMap wr M i c) (fun t5 t6 t14 _ => n - (intOf t14).toNat)
  case atStart => exact ⟨0, by omega, rfl, B, (Below.refl W2.heap.size W2).mono (by omega), hgm⟩
  case round =>
    clear B hgm
    obtain ⟨i, hi, rfl, B, B2, hgm⟩ := hrel
    obtain ⟨wi, rfl⟩ : ∃ wi : World, wi = wr := ⟨_, rfl⟩
    have X1' := X1.of_block (B2.block _ hs1)
    have hs3 : W2.heap.size ≤ wi.heap.size := B2.size
    by_cases hlt : i < n
    · have hii : (i : Int) < n := by omega
      have hA3 := hA2.sub B2 (by omega)
      obtain ⟨b', off', heq, hbl, c0, c1⟩ := rdCell hA3.rd hlt
      obtain ⟨rfl, rfl⟩ : g = b' ∧ 0 = off' := by injection heq with heq; injection heq with e1 e2; exact ⟨e1, e2⟩
      have hkey := keyOf_cell (HC.out (2 * i)) (HC.out (2 * i + 1))
      clear heq hbl
      rw [Nat.zero_add] at c0 c1
      have hgm1 := World.ownsMap.alloc hgm (.cells #[.int .i8 (c (2 * i)), .int .i8 (c (2 * i + 1))] 40)
      have hl8 : i < maxLen := by unfold maxLen; omega
      have hwf : (Lit.int .i64 (i : Int)).wf = true := by
        have hmin : IntKind.i64.min = -9223372036854775808 := rfl
        have hmax : IntKind.i64.max = 9223372036854775807 := rfl
        simp only [Lit.wf, Bool.and_eq_true, decide_eq_true_eq]
        omega
      go_wp2_with (at_mapUpdate; (refine wpList_mapUpdate_own _ rfl _ _ _ 151 rfl 40 2 keyed_cell Try.underlying151 _ M i _ rfl hgm1 hl8 _ _ _ rfl rfl hkey _ [] (plainElem_int Try.underlying2 hwf) ?_; intro w5 hown hgr))
      have ha := al (Below.refl wi.heap.size wi) (.cells #[.int .i8 (c (2 * i)), .int .i8 (c (2 * i + 1))] 40)
      have hsa : wi.heap.size < (wi.alloc (.cells #[.int .i8 (c (2 * i)), .int .i8 (c (2 * i + 1))] 40)).heap.size := by simp
      refine ⟨⟨i + 1, by omega, by first | go_num | simp, ?_, ?_, hown⟩, by simp [intOf]; omega⟩
      · exact below_grown (B.trans (ha.mono B.size)) hgr (by have := B.size; omega) (by omega)
      · exact below_grown (B2.trans (ha.mono (by omega))) hgr (by omega) (by omega)
    · obtain rfl : i = n := by omega
      go_wp2
      have X3 := X1'.drew
      refine wp_region_held_drew (S := (fun w' : World => Bx w' w.heap.size (gV X Y h (.slice (some ⟨g, 0, none⟩) i i)) 33)) (by kernel_rfl) X3 (fun hHeld => ?_)
      refine wpAnyH_take (i := 0) (oi := _) (v := .agg (gV X Y h (.slice (some ⟨g, 0, none⟩) i i))) rfl (by kernel_rfl) (by kernel_rfl) (by kernel_rfl) (fun _ _ _ h => h) (yields_box (by kernel_rfl) _ _ rfl w.heap.size rfl (gV X Y h (.slice (some ⟨g, 0, none⟩) i i)) 33 (fun _ hS => hS) _ Try.underlying33 rfl (infoGv _ _ _ _)) (by assumption) ?_
      try simp only [List.getElem_toArray, List.getElem_cons_zero, List.getElem_cons_succ, Act.put, List.setIfInBounds_toArray, List.set_cons_zero, List.set_cons_succ]
      refine wpAnyH_take (i := 2) (oi := _) (v := ?_) rfl (by kernel_rfl) (by kernel_rfl) (by kernel_rfl) (fun _ _ _ h => h) (Or.inl ⟨by kernel_rfl, ?_⟩) (by assumption) ?_
      rotate_left
      · intro w hSw; (try dsimp only at hSw); go_simp; first | done | with_reducible rfl
      try simp only [List.getElem_toArray, List.getElem_cons_zero, List.getElem_cons_succ, Act.put, List.setIfInBounds_toArray, List.set_cons_zero, List.set_cons_succ]
      refine wpAnyH_take (i := 4) (oi := _) (v := ?_) rfl (by kernel_rfl) (by kernel_rfl) (by kernel_rfl) (fun _ _ _ h => h) (Or.inl ⟨by kernel_rfl, ?_⟩) (by assumption) ?_
      rotate_left
      · intro w hSw; (try dsimp only at hSw); go_simp; first | done | with_reducible rfl
      try simp only [List.getElem_toArray, List.getElem_cons_zero, List.getElem_cons_succ, Act.put, List.setIfInBounds_toArray, List.set_cons_zero, List.set_cons_succ]
      refine wpAnyH_take (i := 3) (oi := _) (v := .agg (hV h)) rfl (by kernel_rfl) (by kernel_rfl) (by kernel_rfl) (fun _ _ _ h => h) (yields_part (by kernel_rfl) _ _ rfl w.heap.size 2 rfl (gV X Y h (.slice (some ⟨g, 0, none⟩) i i)) (hV h) 33 (fun _ hS => hS) (gV_part _ _ _ _) _ Try.underlying25 rfl (info99h _)) (by assumption) ?_
      try simp only [List.getElem_toArray, List.getElem_cons_zero, List.getElem_cons_succ, Act.put, List.setIfInBounds_toArray, List.set_cons_zero, List.set_cons_succ]
      refine wpAnyH_ready (rs := [1]) (by kernel_rfl) (by simp) ?_
      refine AllReadyH.cons (o := _) rfl (fun K hK => ?_) AllReadyH.nil
      go_simp
      refine (sizesOf_any X Y h _ _).mono ?_
      rintro e w5 ⟨rfl, hb⟩
      replace X3 := X3.below hb
      replace B := nxt B.drew hb
      have hgm5 := hgm.drew.below hb hgm.lt
      clear hb
      refine hK.out _ _ X3 (fun hHeld => ?_)
      clear hK K
      try simp only [List.getElem_toArray, List.getElem_cons_zero, List.getElem_cons_succ, Act.put, List.setIfInBounds_toArray, List.set_cons_zero, List.set_cons_succ]
      refine wpAnyH_take (i := 5) (oi := _) (v := .agg (gV X Y h (.map (some M)))) rfl (by kernel_rfl) (by kernel_rfl) (by kernel_rfl) (fun _ _ _ h => h) (yields_build (by kernel_rfl) _ _ rfl (gV X Y h (.map (some M))) (built_land X Y h (.map (some M)) rfl) (by kernel_rfl)) (by assumption) ?_
      try simp only [List.getElem_toArray, List.getElem_cons_zero, List.getElem_cons_succ, Act.put, List.setIfInBounds_toArray, List.set_cons_zero, List.set_cons_succ]
      refine wpAnyH_ready (rs := [6]) (by kernel_rfl) (by simp) ?_
      refine AllReadyH.cons (o := _) rfl (fun K hK => ?_) AllReadyH.nil
      go_simp
      have Z := Bx.new w5 (gV X Y h (.map (some M))) 153
      replace B := al B (.cells (gV X Y h (.map (some M))) 153)
      have hgm6 := World.ownsMap.alloc hgm5 (.cells (gV X Y h (.map (some M))) 153)
      refine hK.out _ _ (X3.alloc _) (fun hHeld => ?_)
      clear hK K
      try simp only [List.getElem_toArray, List.getElem_cons_zero, List.getElem_cons_succ, Act.put, List.setIfInBounds_toArray, List.set_cons_zero, List.set_cons_succ]
      refine wpAnyH_take (i := 7) (oi := _) (v := ?_) rfl (by kernel_rfl) (by kernel_rfl) (by kernel_rfl) (fun _ _ _ h => h) (Or.inl ⟨by kernel_rfl, ?_⟩) (by assumption) ?_
      rotate_left
      · intro w hSw; (try dsimp only at hSw); go_simp; first | done | with_reducible rfl
      try simp only [List.getElem_toArray, List.getElem_cons_zero, List.getElem_cons_succ, Act.put, List.setIfInBounds_toArray, List.set_cons_zero, List.set_cons_succ]
      refine wpAnyH_take (i := 8) (oi := _) (v := ?_) rfl (by kernel_rfl) (by kernel_rfl) (by kernel_rfl) (fun _ _ _ h => h) (Or.inl ⟨by kernel_rfl, ?_⟩) (by assumption) ?_
      rotate_left
      · intro w hSw; (try dsimp only at hSw); go_simp; first | done | with_reducible rfl
      try simp only [List.getElem_toArray, List.getElem_cons_zero, List.getElem_cons_succ, Act.put, List.setIfInBounds_toArray, List.set_cons_zero, List.set_cons_succ]
      refine wpAnyH_done (by kernel_rfl) ?_ _
      go_wp2
      exact bodyPost_ret (v := .tuple #[.pointer (some ⟨w5.heap.size, 0, none⟩), .int .i64 0]) (by simp [results, Try.results133, go_sem]) rfl ⟨B, .inl ⟨HV.out, _, _, rfl, by omega, hgm5.lt, Z, hgm6⟩⟩
end Go.Proofs.Ytegnhpanlbfmdaa
