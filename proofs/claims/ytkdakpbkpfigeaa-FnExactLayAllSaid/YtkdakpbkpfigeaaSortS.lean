/-
  The contract of spec.l01Sorted. Conditions stand at each.
-/
import Derived.Test.YtkdakpbkpfigeaaRows
import Derived.Test.YtkdakpbkpfigeaaInsert
import Derived.Test.YtkdakpbkpfigeaaBefore
import Derived.Deep.RegionHeld3
import Derived.Deep.RegionHeldLaw
import Derived.Deep.RegionLaw
import Derived.BigRegion
namespace Go.Proofs.Ytkdakpbkpfigeaa
open Go Go.ChangeShapes Go.WideShapes Go.ChangeAt Go.RowKit
set_option linter.unusedVariables false
set_option linter.unusedSimpArgs false
set_option maxRecDepth 100000
set_option maxHeartbeats 2000000

theorem addr_inj {b off b' off' : Nat} (h : (some (⟨b, off, none⟩ : Addr)) = some ⟨b', off', none⟩) : b = b' ∧ off = off' := by simp at h; exact h

theorem low_at {L : List S4} {j : Nat} {x y : S4} {hj : j < L.length} (hy : L[j] = y) (hbf : ¬ bfr x y) {t : Nat} {ht : t < L.length} (h : t + 1 = j + 1) : ¬ bfr x L[t] := by
  obtain rfl : t = j := by omega
  rw [hy]; exact hbf
theorem OwnQ.ins {w : World} {base g cp k m : Nat} {L : List S4} {x : S4} (h : w.ownsRow base 110 4 (.slice (some ⟨g, 0, none⟩) m cp) m (encL (L.take k) ++ encS x ++ encL (L.drop k))) (hm : m = (L.take k ++ x :: L.drop k).length) : OwnQ w base g cp (L.take k ++ x :: L.drop k) := by
  subst hm
  have e : encL (L.take k ++ x :: L.drop k) = encL (L.take k) ++ encS x ++ encL (L.drop k) := by rw [encL_append, List.append_assoc]; rfl
  unfold OwnQ
  rw [e]
  exact h

theorem sorted_any (A : Option Addr) (n cap : Nat) (f : Nat → Int) (w : World) (hn : n ≤ 1000) (hr : Rd8 w w.heap.size A (4 * n) f) :
    Calls Try.prog 141 #[.slice A n cap] w fun e w' => Below w.heap.size w w' ∧ ∃ go cp L, e = .returned (.slice (some ⟨go, 0, none⟩) n cp) ∧ L.length = n ∧ SortedOf (toL f n) L ∧ OwnQ w' w.heap.size go cp L := by
  obtain ⟨i0, hi0, hz0, hz1, hz2⟩ := info_parts infoSlab
  have HR := Lib.hid hr
  have HI := Lib.hid hi0
  clear hr hi0
  have B0 := al (Below.refl w.heap.size w) (.cells #[] 110)
  have O0 : OwnQ (w.alloc (.cells #[] 110)) w.heap.size w.heap.size 0 [] := World.ownsRow_made w #[] 0 (Nat.le_refl _) (Nat.zero_le _) rfl
  go_enter Try.func141, Try.ntmps141
  go_wp2_with fail
  obtain ⟨W0, hW0⟩ : ∃ W0, W0 = w.alloc (.cells #[] 110) := ⟨_, rfl⟩
  rw [← hW0] at B0 O0 ⊢
  clear hW0
  go_loopw [3, 4, 5, 6] (fun t3 t4 t5 t6 wr => ∃ (i go cp : Nat) (L : List S4), i ≤ n ∧ t4 = .int .i64 i ∧ t3 = .slice (some ⟨go, 0, none⟩) i cp ∧ L.length = i ∧ SortedOf (toL f i) L ∧ Below w.heap.size w wr ∧ OwnQ wr w.heap.size go cp L) (fun t3 t4 t5 t6 wr => n - (intOf t4).toNat)
  case atStart => exact ⟨0, w.heap.size, 0, [], by omega, rfl, rfl, rfl, ⟨List.Perm.refl _, List.Pairwise.nil⟩, B0, O0⟩
  case round =>
    clear B0 O0
    obtain ⟨i, go, cp, L, hi, rfl, rfl, hL, hS, B, O⟩ := hrel
    by_cases hlt : i < n
    · obtain ⟨b, off, rfl, hbl, c0, c1, c2, c3⟩ := (HR.out.below B).at4 hlt
      have HSS := Lib.hid hS
      have hli : (i : Int) < (n : Int) := by omega
      have hi0' : (0 : Int) ≤ (i : Int) := by omega
      clear hS
      go_wp2_with fail
      clear c0 c1 c2 c3
      go_loopw [5] (fun t5 W => ∃ k : Nat, k ≤ i ∧ t5 = .int .i64 k ∧ Below w.heap.size w W ∧ OwnQ W w.heap.size go cp L ∧ ∀ j (hj : j < L.length), k ≤ j → bfr (s4 f i) L[j]) (fun t5 W => (intOf t5).toNat)
      case atStart => exact ⟨i, Nat.le_refl _, rfl, B, O, fun j hj h => absurd hj (by omega)⟩
      case round =>
        clear B O
        obtain ⟨k, hk, rfl, B, O, hup⟩ := hrel
        obtain ⟨b', off', e, hbl', c0, c1, c2, c3⟩ := (HR.out.below B).at4 hlt
        obtain ⟨rfl, rfl⟩ := addr_inj e
        clear e
        have hgo := O.bd
        have hcp := O.le
        have HUP := Lib.hid hup
        clear hup
        go_wp2_with fail
        by_cases hk0 : k = 0
        · have d1 : decide (0 < (k : Int)) = false := by simp; omega
          refine wp_region_held_drew (S := (fun _ => True)) (by kernel_rfl) trivial (fun hHeld => ?_)
          refine wpAnyH_take (i := 0) (oi := _) (v := ?_) rfl (by kernel_rfl) (by kernel_rfl) (by kernel_rfl) (fun _ _ _ h => h) (Or.inl ⟨by kernel_rfl, ?_⟩) (by assumption) ?_
          rotate_left
          · intro w hSw; (try dsimp only at hSw); go_simp; first | done | with_reducible rfl
          try simp only [List.getElem_toArray, List.getElem_cons_zero, List.getElem_cons_succ, Act.put, List.setIfInBounds_toArray, List.set_cons_zero, List.set_cons_succ]
          refine wpAnyH_take (i := 1) (oi := _) (v := ?_) rfl (by kernel_rfl) (by kernel_rfl) (by kernel_rfl) (fun _ _ _ h => h) (Or.inl ⟨by kernel_rfl, ?_⟩) (by assumption) ?_
          rotate_left
          · intro w hSw; (try dsimp only at hSw); go_simp; first | done | with_reducible rfl
          try simp only [List.getElem_toArray, List.getElem_cons_zero, List.getElem_cons_succ, Act.put, List.setIfInBounds_toArray, List.set_cons_zero, List.set_cons_succ]
          refine wpAnyH_take (i := 2) (oi := _) (v := ?_) rfl (by kernel_rfl) (by kernel_rfl) (by kernel_rfl) (fun _ _ _ h => h) (Or.inl ⟨by kernel_rfl, ?_⟩) (by assumption) ?_
          rotate_left
          · intro w hSw; (try dsimp only at hSw); go_simp; first | done | with_reducible rfl
          try simp only [List.getElem_toArray, List.getElem_cons_zero, List.getElem_cons_succ, Act.put, List.setIfInBounds_toArray, List.set_cons_zero, List.set_cons_succ]
          refine wpAnyH_take (i := 3) (oi := _) (v := undef) rfl (by kernel_rfl) (by kernel_rfl) (by kernel_rfl) (fun _ _ _ h => h) (Or.inr ⟨by kernel_rfl, rfl⟩) (by assumption) ?_
          try simp only [List.getElem_toArray, List.getElem_cons_zero, List.getElem_cons_succ, Act.put, List.setIfInBounds_toArray, List.set_cons_zero, List.set_cons_succ]
          refine wpAnyH_take (i := 4) (oi := _) (v := undef) rfl (by kernel_rfl) (by kernel_rfl) (by kernel_rfl) (fun _ _ _ h => h) (Or.inr ⟨by kernel_rfl, rfl⟩) (by assumption) ?_
          try simp only [List.getElem_toArray, List.getElem_cons_zero, List.getElem_cons_succ, Act.put, List.setIfInBounds_toArray, List.set_cons_zero, List.set_cons_succ]
          refine wpAnyH_take (i := 5) (oi := _) (v := undef) rfl (by kernel_rfl) (by kernel_rfl) (by kernel_rfl) (fun _ _ _ h => h) (Or.inr ⟨by kernel_rfl, rfl⟩) (by assumption) ?_
          try simp only [List.getElem_toArray, List.getElem_cons_zero, List.getElem_cons_succ, Act.put, List.setIfInBounds_toArray, List.set_cons_zero, List.set_cons_succ]
          refine wpAnyH_take (i := 6) (oi := _) (v := undef) rfl (by kernel_rfl) (by kernel_rfl) (by kernel_rfl) (fun _ _ _ h => h) (Or.inr ⟨by kernel_rfl, rfl⟩) (by assumption) ?_
          try simp only [List.getElem_toArray, List.getElem_cons_zero, List.getElem_cons_succ, Act.put, List.setIfInBounds_toArray, List.set_cons_zero, List.set_cons_succ]
          refine wpAnyH_take (i := 7) (oi := _) (v := undef) rfl (by kernel_rfl) (by kernel_rfl) (by kernel_rfl) (fun _ _ _ h => h) (Or.inr ⟨by kernel_rfl, rfl⟩) (by assumption) ?_
          try simp only [List.getElem_toArray, List.getElem_cons_zero, List.getElem_cons_succ, Act.put, List.setIfInBounds_toArray, List.set_cons_zero, List.set_cons_succ]
          refine wpAnyH_take (i := 8) (oi := _) (v := undef) rfl (by kernel_rfl) (by kernel_rfl) (by kernel_rfl) (fun _ _ _ h => h) (Or.inr ⟨by kernel_rfl, rfl⟩) (by assumption) ?_
          try simp only [List.getElem_toArray, List.getElem_cons_zero, List.getElem_cons_succ, Act.put, List.setIfInBounds_toArray, List.set_cons_zero, List.set_cons_succ]
          refine wpAnyH_take (i := 9) (oi := _) (v := undef) rfl (by kernel_rfl) (by kernel_rfl) (by kernel_rfl) (fun _ _ _ h => h) (Or.inr ⟨by kernel_rfl, rfl⟩) (by assumption) ?_
          try simp only [List.getElem_toArray, List.getElem_cons_zero, List.getElem_cons_succ, Act.put, List.setIfInBounds_toArray, List.set_cons_zero, List.set_cons_succ]
          refine wpAnyH_take (i := 10) (oi := _) (v := undef) rfl (by kernel_rfl) (by kernel_rfl) (by kernel_rfl) (fun _ _ _ h => h) (Or.inr ⟨by kernel_rfl, rfl⟩) (by assumption) ?_
          try simp only [List.getElem_toArray, List.getElem_cons_zero, List.getElem_cons_succ, Act.put, List.setIfInBounds_toArray, List.set_cons_zero, List.set_cons_succ]
          refine wpAnyH_take (i := 11) (oi := _) (v := undef) rfl (by kernel_rfl) (by kernel_rfl) (by kernel_rfl) (fun _ _ _ h => h) (Or.inr ⟨by kernel_rfl, rfl⟩) (by assumption) ?_
          try simp only [List.getElem_toArray, List.getElem_cons_zero, List.getElem_cons_succ, Act.put, List.setIfInBounds_toArray, List.set_cons_zero, List.set_cons_succ]
          refine wpAnyH_take (i := 12) (oi := _) (v := undef) rfl (by kernel_rfl) (by kernel_rfl) (by kernel_rfl) (fun _ _ _ h => h) (Or.inr ⟨by kernel_rfl, rfl⟩) (by assumption) ?_
          try simp only [List.getElem_toArray, List.getElem_cons_zero, List.getElem_cons_succ, Act.put, List.setIfInBounds_toArray, List.set_cons_zero, List.set_cons_succ]
          refine wpAnyH_take (i := 13) (oi := _) (v := ?_) rfl (by kernel_rfl) (by kernel_rfl) (by kernel_rfl) (fun _ _ _ h => h) (Or.inl ⟨by kernel_rfl, ?_⟩) (by assumption) ?_
          rotate_left
          · intro w hSw; (try dsimp only at hSw); go_simp; first | done | with_reducible rfl
          try simp only [List.getElem_toArray, List.getElem_cons_zero, List.getElem_cons_succ, Act.put, List.setIfInBounds_toArray, List.set_cons_zero, List.set_cons_succ]
          refine wpAnyH_done (by kernel_rfl) ?_ _
          subst hk0
          obtain ⟨wd, hwd⟩ : ∃ wd, wr.drew = wd := ⟨_, rfl⟩
          replace B : Below w.heap.size w wr.drew := B.drew
          replace O : OwnQ wr.drew w.heap.size go cp L := O
          rw [hwd] at B O ⊢
          clear hwd hHeld
          have hlow : ∀ t (ht : t < L.length), t + 1 = 0 → ¬ bfr (s4 f i) L[t] := fun j hj h => absurd h (by omega)
          have HLOW := Lib.hid hlow
          clear hlow
          have hsrc : Hid (∀ t u, (encL L)[t]? = some u → (wd.alloc (.cells #[] 110)).cell? ((⟨go, 0, none⟩ : Addr).add t) = some u) := by
            intro t u hu
            have ht : t < L.length * 4 := by
              have := (List.getElem?_eq_some_iff.1 hu).1
              rwa [encL_length] at this
            rw [Addr.add_lit, Nat.zero_add]
            exact ((O.alloc _).cells (j := t) ht).trans hu
          have hkcp : 0 ≤ cp := by omega
          have hicp : i ≤ cp := by omega
          have hlen6 : (encL L).length = i * 4 := by rw [encL_length]; omega
          have HLEN6 := Lib.hid hlen6
          have hsz6 : go < wd.heap.size := O.bd.2
          have HO := Lib.hid O
          clear c0 c1 c2 c3 hlen6
          go_wp2_with (at_builtin; refine wpList_append_own _ rfl _ _ 29 rfl wd.heap.size 110 i0 (.agg #[.int .i8 0, .int .i8 0, .int .i8 0, .int .i8 0]) 4 4 Try.underlying29 HI.out hz0 hz1 hz2 rfl (by decide) _ _ _ rfl (World.ownsRow_made wd #[] 0 (Nat.le_refl _) (Nat.zero_le _) rfl) ⟨go, 0, none⟩ i cp (encL L) rfl HLEN6.out hsrc (encL_one _) (by unfold maxLen; omega) (by omega) (by simp) ?_)
          intro v6 w6 own6 hg6 hnil6
          obtain ⟨g6, cp6, rfl⟩ := own_block own6 (fun e => by first | exact hnil6 e | (have := hnil6.1 e; simp at this))
          clear hnil6 hsrc
          have B6 : Below w.heap.size w w6 := (al B _).grown hg6 (al B _).size (fun k e => by simp [Value.ownBlock] at e; have := B.size; omega)
          have O6 : OwnQ w6 w.heap.size go cp L := (HO.out.alloc _).kept hg6 (by simp [Value.ownBlock]; omega)
          have h6 := (World.ownsRow.lt own6 g6 rfl).1
          have own6' : w6.ownsRow w.heap.size 110 4 (.slice (some ⟨g6, 0, none⟩) i cp6) i (encL L) := by
            have := World.ownsRow.mono own6 B.size
            simpa using this
          have hg6go : go ≠ g6 := by omega
          have HR6 := Lib.hid own6'
          clear own6 own6' hg6 B HO
          go_wp2_with fail
          obtain ⟨b', off', e, hbl', c0, c1, c2, c3⟩ := (HR.out.below B6).at4 hlt
          obtain ⟨rfl, rfl⟩ := addr_inj e
          clear e
          replace B6 : Below w.heap.size w w6.drew := B6.drew
          replace O6 : OwnQ w6.drew w.heap.size go cp L := O6
          replace HR6 : Hid (w6.drew.ownsRow w.heap.size 110 4 (.slice (some ⟨g6, 0, none⟩) i cp6) i (encL L)) := HR6
          replace c0 : w6.drew.cell? ⟨b, off + i * 4, none⟩ = some (.int .i8 (f (4 * i))) := c0
          replace c1 : w6.drew.cell? ⟨b, off + i * 4 + 1, none⟩ = some (.int .i8 (f (4 * i + 1))) := c1
          replace c2 : w6.drew.cell? ⟨b, off + i * 4 + 2, none⟩ = some (.int .i8 (f (4 * i + 2))) := c2
          replace c3 : w6.drew.cell? ⟨b, off + i * 4 + 3, none⟩ = some (.int .i8 (f (4 * i + 3))) := c3
          refine wp_region_held_drew (S := (fun w' => w'.cell? ⟨b, off + i * 4, none⟩ = some (.int .i8 (f (4 * i))) ∧ w'.cell? ⟨b, off + i * 4 + 1, none⟩ = some (.int .i8 (f (4 * i + 1))) ∧ w'.cell? ⟨b, off + i * 4 + 2, none⟩ = some (.int .i8 (f (4 * i + 2))) ∧ w'.cell? ⟨b, off + i * 4 + 3, none⟩ = some (.int .i8 (f (4 * i + 3))))) (by kernel_rfl) ⟨c0, c1, c2, c3⟩ (fun hHeld => ?_)
          obtain ⟨w7, hw7⟩ : ∃ w7, w6.drew = w7 := ⟨_, rfl⟩
          rw [hw7] at hHeld B6 O6 HR6 c0 c1 c2 c3 ⊢
          clear hw7
          refine wpAnyH_take (i := 0) (oi := _) (v := ?_) rfl (by kernel_rfl) (by kernel_rfl) (by kernel_rfl) (fun _ _ _ h => h) (Or.inl ⟨by kernel_rfl, ?_⟩) (by assumption) ?_
          rotate_left
          · intro w hSw; (try dsimp only at hSw); go_simp; first | done | with_reducible rfl
          try simp only [List.getElem_toArray, List.getElem_cons_zero, List.getElem_cons_succ, Act.put, List.setIfInBounds_toArray, List.set_cons_zero, List.set_cons_succ]
          refine wpAnyH_take (i := 1) (oi := _) (v := ?_) rfl (by kernel_rfl) (by kernel_rfl) (by kernel_rfl) (fun _ _ _ h => h) (Or.inl ⟨by kernel_rfl, ?_⟩) (by assumption) ?_
          rotate_left
          · intro w hSw; (try dsimp only at hSw); go_simp; first | done | with_reducible rfl
          try simp only [List.getElem_toArray, List.getElem_cons_zero, List.getElem_cons_succ, Act.put, List.setIfInBounds_toArray, List.set_cons_zero, List.set_cons_succ]
          refine wpAnyH_take (i := 2) (oi := _) (v := ?_) rfl (by kernel_rfl) (by kernel_rfl) (by kernel_rfl) (fun _ _ _ h => h) (Or.inl ⟨by kernel_rfl, ?_⟩) (by assumption) ?_
          rotate_left
          · intro w hSw; (try dsimp only at hSw); go_simp; first | done | with_reducible rfl
          try simp only [List.getElem_toArray, List.getElem_cons_zero, List.getElem_cons_succ, Act.put, List.setIfInBounds_toArray, List.set_cons_zero, List.set_cons_succ]
          refine wpAnyH_take (i := 3) (oi := _) (v := ?_) rfl (by kernel_rfl) (by kernel_rfl) (by kernel_rfl) (fun _ _ _ h => h) (Or.inl ⟨by kernel_rfl, ?_⟩) (by assumption) ?_
          rotate_left
          · intro w hSw; (try dsimp only at hSw); go_simp; first | done | with_reducible rfl
          try simp only [List.getElem_toArray, List.getElem_cons_zero, List.getElem_cons_succ, Act.put, List.setIfInBounds_toArray, List.set_cons_zero, List.set_cons_succ]
          refine wpAnyH_take (i := 4) (oi := _) (v := ?_) rfl (by kernel_rfl) (by kernel_rfl) (by kernel_rfl) (fun _ _ _ h => h) (Or.inl ⟨by kernel_rfl, ?_⟩) (by assumption) ?_
          rotate_left
          · intro w hSw; (try dsimp only at hSw); go_simp; first | done | with_reducible rfl
          try simp only [List.getElem_toArray, List.getElem_cons_zero, List.getElem_cons_succ, Act.put, List.setIfInBounds_toArray, List.set_cons_zero, List.set_cons_succ]
          refine wpAnyH_take (i := 5) (oi := _) (v := ?_) rfl (by kernel_rfl) (by kernel_rfl) (by kernel_rfl) (fun _ _ _ h => h) (Or.inl ⟨by kernel_rfl, ?_⟩) (by assumption) ?_
          rotate_left
          · intro w hSw; (try dsimp only at hSw); go_simp; first | done | with_reducible rfl
          try simp only [List.getElem_toArray, List.getElem_cons_zero, List.getElem_cons_succ, Act.put, List.setIfInBounds_toArray, List.set_cons_zero, List.set_cons_succ]
          refine wpAnyH_take (i := 6) (oi := _) (v := ?_) rfl (by kernel_rfl) (by kernel_rfl) (by kernel_rfl) (fun _ _ _ h => h) (Or.inl ⟨by kernel_rfl, ?_⟩) (by assumption) ?_
          rotate_left
          · intro w hSw; (try dsimp only at hSw); go_simp; first | done | with_reducible rfl
          try simp only [List.getElem_toArray, List.getElem_cons_zero, List.getElem_cons_succ, Act.put, List.setIfInBounds_toArray, List.set_cons_zero, List.set_cons_succ]
          refine wpAnyH_take (i := 9) (oi := _) (v := ?_) rfl (by kernel_rfl) (by kernel_rfl) (by kernel_rfl) (fun _ _ _ h => h) (Or.inl ⟨by kernel_rfl, ?_⟩) (by assumption) ?_
          rotate_left
          · intro w hSw; (try dsimp only at hSw); go_simp; first | done | with_reducible rfl
          try simp only [List.getElem_toArray, List.getElem_cons_zero, List.getElem_cons_succ, Act.put, List.setIfInBounds_toArray, List.set_cons_zero, List.set_cons_succ]
          refine wpAnyH_ready (rs := [7]) (by kernel_rfl) (by simp) ?_
          refine AllReadyH.cons (o := _) rfl (fun K hK => ?_) AllReadyH.nil
          go_simp
          clear c0 c1 c2 c3
          replace B6 := al B6 (.cells #[.int .i8 (f (4 * i)), .int .i8 (f (4 * i + 1)), .int .i8 (f (4 * i + 2)), .int .i8 (f (4 * i + 3))] 110)
          replace O6 := O6.alloc (.cells #[.int .i8 (f (4 * i)), .int .i8 (f (4 * i + 1)), .int .i8 (f (4 * i + 2)), .int .i8 (f (4 * i + 3))] 110)
          replace HR6 := Lib.hid (World.ownsRow.alloc HR6.out (.cells #[.int .i8 (f (4 * i)), .int .i8 (f (4 * i + 1)), .int .i8 (f (4 * i + 2)), .int .i8 (f (4 * i + 3))] 110))
          have N8 : Hid (∀ j u, (encS (s4 f i))[j]? = some u → (w7.alloc (.cells #[.int .i8 (f (4 * i)), .int .i8 (f (4 * i + 1)), .int .i8 (f (4 * i + 2)), .int .i8 (f (4 * i + 3))] 110)).cell? ((⟨w7.heap.size, 0, none⟩ : Addr).add j) = some u) := new_cells w7 #[.int .i8 (f (4 * i)), .int .i8 (f (4 * i + 1)), .int .i8 (f (4 * i + 2)), .int .i8 (f (4 * i + 3))] 110
          obtain ⟨b', off', e, hbl', c0, c1, c2, c3⟩ := (HR.out.below B6).at4 hlt
          obtain ⟨rfl, rfl⟩ := addr_inj e
          clear e
          refine hK.out _ _ ⟨c0, c1, c2, c3⟩ (fun hHeld => ?_)
          clear hK K
          try simp only [List.getElem_toArray, List.getElem_cons_zero, List.getElem_cons_succ, Act.put, List.setIfInBounds_toArray, List.set_cons_zero, List.set_cons_succ]
          obtain ⟨w8, hw8⟩ : ∃ w8, w7.alloc (.cells #[.int .i8 (f (4 * i)), .int .i8 (f (4 * i + 1)), .int .i8 (f (4 * i + 2)), .int .i8 (f (4 * i + 3))] 110) = w8 := ⟨_, rfl⟩
          rw [hw8] at hHeld B6 O6 HR6 N8 c0 c1 c2 c3 ⊢
          clear hw8
          have hO7 := Lib.hid (O6.take (k := 0) (by omega))
          have hgo8 := O6.bd
          refine wpAnyH_ready (rs := [8]) (by kernel_rfl) (by simp) ?_
          refine AllReadyH.cons (o := _) rfl (fun K hK => ?_) AllReadyH.nil
          refine wp_append_own _ _ _ 29 rfl w.heap.size 110 i0 (.agg #[.int .i8 0, .int .i8 0, .int .i8 0, .int .i8 0]) 4 4 Try.underlying29 HI.out hz0 hz1 hz2 rfl (by decide) (.slice (some ⟨go, 0, none⟩) (0) cp) (0) (encL (L.take (0))) rfl hO7.out ⟨w7.heap.size, 0, none⟩ 1 1 (encS (s4 f i)) rfl rfl N8 (encL_one [s4 f i]) (by unfold maxLen; omega) (by omega) B6.size ?_
          intro v8 w9 own8 hg8 hn8
          obtain ⟨g8, cp8, rfl⟩ := own_block own8 (fun e => by first | exact hn8 e | (have := hn8.1 e; simp at this))
          have h8 := World.ownsRow.lt own8 g8 rfl
          replace HR6 := Lib.hid (World.ownsRow.kept HR6.out hg8 (.inr (by simp [Value.ownBlock]; omega)))
          have HO8 := Lib.hid own8
          replace B6 := B6.grown hg8 B6.size (fun k e => by simp [Value.ownBlock] at e; omega)
          clear c0 c1 c2 c3 hn8 own8 N8 hO7 O6 hg8
          obtain ⟨b', off', e, hbl', c0, c1, c2, c3⟩ := (HR.out.below B6).at4 hlt
          obtain ⟨rfl, rfl⟩ := addr_inj e
          clear e
          refine hK.out _ _ ⟨c0, c1, c2, c3⟩ (fun hHeld => ?_)
          clear hK K
          try simp only [List.getElem_toArray, List.getElem_cons_zero, List.getElem_cons_succ, Act.put, List.setIfInBounds_toArray, List.set_cons_zero, List.set_cons_succ]
          have N10 : Hid (∀ t u, (encL L)[t]? = some u → w9.cell? ((⟨g6, 0, none⟩ : Addr).add t) = some u) := by
            intro t u hu
            have ht : t < (encL L).length := (List.getElem?_eq_some_iff.1 hu).1
            rw [HLEN6.out] at ht
            rw [Addr.add_lit, Nat.zero_add]
            exact (World.ownsRow.cellAt HR6.out t ht).trans hu
          refine wpAnyH_ready (rs := [10]) (by kernel_rfl) (by simp) ?_
          refine AllReadyH.cons (o := _) rfl (fun K hK => ?_) AllReadyH.nil
          refine wp_append_own _ _ _ 29 rfl w.heap.size 110 i0 (.agg #[.int .i8 0, .int .i8 0, .int .i8 0, .int .i8 0]) 4 4 Try.underlying29 HI.out hz0 hz1 hz2 rfl (by decide) (.slice (some ⟨g8, 0, none⟩) (0 + 1) cp8) (0 + 1) (encL (L.take (0)) ++ encS (s4 f i)) rfl HO8.out ⟨g6, 0, none⟩ i cp6 (encL L) rfl HLEN6.out N10 (encL_one _) (by unfold maxLen; omega) (by omega) B6.size ?_
          intro v10 w11 own10 hg10 hn10
          obtain ⟨g10, cp10, rfl⟩ := own_block own10 (fun e => by first | exact hn10 e | (have := hn10.1 e; simp at this))
          have HO10 := Lib.hid own10
          replace B6 := B6.grown hg10 B6.size (fun k e => by simp [Value.ownBlock] at e; omega)
          clear c0 c1 c2 c3 hn10 own10 N10 HO8 HR6 hg10
          obtain ⟨b', off', e, hbl', c0, c1, c2, c3⟩ := (HR.out.below B6).at4 hlt
          obtain ⟨rfl, rfl⟩ := addr_inj e
          clear e
          refine hK.out _ _ ⟨c0, c1, c2, c3⟩ (fun hHeld => ?_)
          clear hK K
          try simp only [List.getElem_toArray, List.getElem_cons_zero, List.getElem_cons_succ, Act.put, List.setIfInBounds_toArray, List.set_cons_zero, List.set_cons_succ]
          refine wpAnyH_take (i := 11) (oi := _) (v := ?_) rfl (by kernel_rfl) (by kernel_rfl) (by kernel_rfl) (fun _ _ _ h => h) (Or.inl ⟨by kernel_rfl, ?_⟩) (by assumption) ?_
          rotate_left
          · intro w hSw; (try dsimp only at hSw); go_simp; first | done | with_reducible rfl
          try simp only [List.getElem_toArray, List.getElem_cons_zero, List.getElem_cons_succ, Act.put, List.setIfInBounds_toArray, List.set_cons_zero, List.set_cons_succ]
          refine wpAnyH_done (by kernel_rfl) ?_ _
          clear hHeld c0 c1 c2 c3
          have hLL : (L.take (0) ++ s4 f i :: L.drop (0)).length = i + 1 := by rw [List.length_append, List.length_cons, List.length_take, List.length_drop]; omega
          have HLL := Lib.hid hLL
          clear hLL
          go_wp2_with fail
          refine ⟨⟨i + 1, g10, cp10, L.take (0) ++ s4 f i :: L.drop (0), by omega, by first | go_num | simp, by simp; omega, HLL.out, ?_, B6, ?_⟩, by simp [intOf]; omega⟩
          · rw [toL_succ]; exact insert_sorted HSS.out (by omega) HUP.out HLOW.out
          · exact OwnQ.ins HO10.out (by rw [HLL.out]; omega)
        · obtain ⟨j, rfl⟩ : ∃ j, k = j + 1 := ⟨k - 1, by omega⟩
          have d1 : decide (0 < ((j + 1 : Nat) : Int)) = true := by first | (simp; done) | (simp; omega)
          have d2 : decide (0 < (j : Int) + 1) = true := by first | (simp; done) | (simp; omega)
          have wj : IntKind.i64.wrap (j : Int) = (j : Int) := IntWalk.i64_in _ (by omega)
          have hj0 : 0 ≤ (j : Int) := by omega
          have hji : (j : Int) < (i : Int) := by omega
          have hkl : j < L.length := by omega
          obtain ⟨y, hy⟩ : ∃ y, L[j] = y := ⟨_, rfl⟩
          have HY := Lib.hid hy
          clear hy
          replace B : Below w.heap.size w wr.drew := B.drew
          replace O : OwnQ wr.drew w.heap.size go cp L := O
          obtain ⟨e0, e1, e2, e3⟩ := O.at hkl
          rw [HY.out] at e0 e1 e2 e3
          replace c0 : wr.drew.cell? ⟨b, off + i * 4, none⟩ = some (.int .i8 (f (4 * i))) := c0
          replace c1 : wr.drew.cell? ⟨b, off + i * 4 + 1, none⟩ = some (.int .i8 (f (4 * i + 1))) := c1
          replace c2 : wr.drew.cell? ⟨b, off + i * 4 + 2, none⟩ = some (.int .i8 (f (4 * i + 2))) := c2
          replace c3 : wr.drew.cell? ⟨b, off + i * 4 + 3, none⟩ = some (.int .i8 (f (4 * i + 3))) := c3
          by_cases hbf : bfr (s4 f i) y
          · have hbf' : f (4 * i + 1) < y.2.1 ∨ (f (4 * i + 1) = y.2.1 ∧ f (4 * i) < y.1) := hbf
            refine wp_region_held_drew (S := (fun w' => w'.cell? ⟨b, off + i * 4, none⟩ = some (.int .i8 (f (4 * i))) ∧ w'.cell? ⟨b, off + i * 4 + 1, none⟩ = some (.int .i8 (f (4 * i + 1))) ∧ w'.cell? ⟨b, off + i * 4 + 2, none⟩ = some (.int .i8 (f (4 * i + 2))) ∧ w'.cell? ⟨b, off + i * 4 + 3, none⟩ = some (.int .i8 (f (4 * i + 3))) ∧ w'.cell? ⟨go, j * 4, none⟩ = some (.int .i8 y.1) ∧ w'.cell? ⟨go, j * 4 + 1, none⟩ = some (.int .i8 y.2.1) ∧ w'.cell? ⟨go, j * 4 + 2, none⟩ = some (.int .i8 y.2.2.1) ∧ w'.cell? ⟨go, j * 4 + 3, none⟩ = some (.int .i8 y.2.2.2))) (by kernel_rfl) ⟨c0, c1, c2, c3, e0, e1, e2, e3⟩ (fun hHeld => ?_)
            obtain ⟨wd, hwd⟩ : ∃ wd, wr.drew = wd := ⟨_, rfl⟩
            rw [hwd] at hHeld B O c0 c1 c2 c3 e0 e1 e2 e3 ⊢
            clear hwd
            refine wpAnyH_take (i := 0) (oi := _) (v := ?_) rfl (by kernel_rfl) (by kernel_rfl) (by kernel_rfl) (fun _ _ _ h => h) (Or.inl ⟨by kernel_rfl, ?_⟩) (by assumption) ?_
            rotate_left
            · intro w hSw; (try dsimp only at hSw); go_simp; first | done | with_reducible rfl
            try simp only [List.getElem_toArray, List.getElem_cons_zero, List.getElem_cons_succ, Act.put, List.setIfInBounds_toArray, List.set_cons_zero, List.set_cons_succ]
            refine wpAnyH_take (i := 1) (oi := _) (v := ?_) rfl (by kernel_rfl) (by kernel_rfl) (by kernel_rfl) (fun _ _ _ h => h) (Or.inl ⟨by kernel_rfl, ?_⟩) (by assumption) ?_
            rotate_left
            · intro w hSw; (try dsimp only at hSw); go_simp; first | done | with_reducible rfl
            try simp only [List.getElem_toArray, List.getElem_cons_zero, List.getElem_cons_succ, Act.put, List.setIfInBounds_toArray, List.set_cons_zero, List.set_cons_succ]
            refine wpAnyH_take (i := 2) (oi := _) (v := ?_) rfl (by kernel_rfl) (by kernel_rfl) (by kernel_rfl) (fun _ _ _ h => h) (Or.inl ⟨by kernel_rfl, ?_⟩) (by assumption) ?_
            rotate_left
            · intro w hSw; (try dsimp only at hSw); go_simp; first | done | with_reducible rfl
            try simp only [List.getElem_toArray, List.getElem_cons_zero, List.getElem_cons_succ, Act.put, List.setIfInBounds_toArray, List.set_cons_zero, List.set_cons_succ]
            refine wpAnyH_take (i := 3) (oi := _) (v := ?_) rfl (by kernel_rfl) (by kernel_rfl) (by kernel_rfl) (fun _ _ _ h => h) (Or.inl ⟨by kernel_rfl, ?_⟩) (by assumption) ?_
            rotate_left
            · intro w hSw; (try dsimp only at hSw); go_simp; first | done | with_reducible rfl
            try simp only [List.getElem_toArray, List.getElem_cons_zero, List.getElem_cons_succ, Act.put, List.setIfInBounds_toArray, List.set_cons_zero, List.set_cons_succ]
            refine wpAnyH_take (i := 4) (oi := _) (v := ?_) rfl (by kernel_rfl) (by kernel_rfl) (by kernel_rfl) (fun _ _ _ h => h) (Or.inl ⟨by kernel_rfl, ?_⟩) (by assumption) ?_
            rotate_left
            · intro w hSw; (try dsimp only at hSw); go_simp; first | done | with_reducible rfl
            try simp only [List.getElem_toArray, List.getElem_cons_zero, List.getElem_cons_succ, Act.put, List.setIfInBounds_toArray, List.set_cons_zero, List.set_cons_succ]
            refine wpAnyH_take (i := 5) (oi := _) (v := ?_) rfl (by kernel_rfl) (by kernel_rfl) (by kernel_rfl) (fun _ _ _ h => h) (Or.inl ⟨by kernel_rfl, ?_⟩) (by assumption) ?_
            rotate_left
            · intro w hSw; (try dsimp only at hSw); go_simp; first | done | with_reducible rfl
            try simp only [List.getElem_toArray, List.getElem_cons_zero, List.getElem_cons_succ, Act.put, List.setIfInBounds_toArray, List.set_cons_zero, List.set_cons_succ]
            refine wpAnyH_take (i := 6) (oi := _) (v := ?_) rfl (by kernel_rfl) (by kernel_rfl) (by kernel_rfl) (fun _ _ _ h => h) (Or.inl ⟨by kernel_rfl, ?_⟩) (by assumption) ?_
            rotate_left
            · intro w hSw; (try dsimp only at hSw); go_simp; first | done | with_reducible rfl
            try simp only [List.getElem_toArray, List.getElem_cons_zero, List.getElem_cons_succ, Act.put, List.setIfInBounds_toArray, List.set_cons_zero, List.set_cons_succ]
            refine wpAnyH_take (i := 7) (oi := _) (v := ?_) rfl (by kernel_rfl) (by kernel_rfl) (by kernel_rfl) (fun _ _ _ h => h) (Or.inl ⟨by kernel_rfl, ?_⟩) (by assumption) ?_
            rotate_left
            · intro w hSw; (try dsimp only at hSw); go_simp; first | done | with_reducible rfl
            try simp only [List.getElem_toArray, List.getElem_cons_zero, List.getElem_cons_succ, Act.put, List.setIfInBounds_toArray, List.set_cons_zero, List.set_cons_succ]
            refine wpAnyH_take (i := 8) (oi := _) (v := ?_) rfl (by kernel_rfl) (by kernel_rfl) (by kernel_rfl) (fun _ _ _ h => h) (Or.inl ⟨by kernel_rfl, ?_⟩) (by assumption) ?_
            rotate_left
            · intro w hSw; (try dsimp only at hSw); go_simp; first | done | with_reducible rfl
            try simp only [List.getElem_toArray, List.getElem_cons_zero, List.getElem_cons_succ, Act.put, List.setIfInBounds_toArray, List.set_cons_zero, List.set_cons_succ]
            refine wpAnyH_take (i := 9) (oi := _) (v := ?_) rfl (by kernel_rfl) (by kernel_rfl) (by kernel_rfl) (fun _ _ _ h => h) (Or.inl ⟨by kernel_rfl, ?_⟩) (by assumption) ?_
            rotate_left
            · intro w hSw; (try dsimp only at hSw); go_simp; first | done | with_reducible rfl
            try simp only [List.getElem_toArray, List.getElem_cons_zero, List.getElem_cons_succ, Act.put, List.setIfInBounds_toArray, List.set_cons_zero, List.set_cons_succ]
            refine wpAnyH_take (i := 10) (oi := _) (v := ?_) rfl (by kernel_rfl) (by kernel_rfl) (by kernel_rfl) (fun _ _ _ h => h) (Or.inl ⟨by kernel_rfl, ?_⟩) (by assumption) ?_
            rotate_left
            · intro w hSw; (try dsimp only at hSw); go_simp; first | done | with_reducible rfl
            try simp only [List.getElem_toArray, List.getElem_cons_zero, List.getElem_cons_succ, Act.put, List.setIfInBounds_toArray, List.set_cons_zero, List.set_cons_succ]
            refine wpAnyH_take (i := 11) (oi := _) (v := ?_) rfl (by kernel_rfl) (by kernel_rfl) (by kernel_rfl) (fun _ _ _ h => h) (Or.inl ⟨by kernel_rfl, ?_⟩) (by assumption) ?_
            rotate_left
            · intro w hSw; (try dsimp only at hSw); go_simp; first | done | with_reducible rfl
            try simp only [List.getElem_toArray, List.getElem_cons_zero, List.getElem_cons_succ, Act.put, List.setIfInBounds_toArray, List.set_cons_zero, List.set_cons_succ]
            refine wpAnyH_ready (rs := [12]) (by kernel_rfl) (by simp) ?_
            refine AllReadyH.cons (o := _) rfl (fun K hK => ?_) AllReadyH.nil
            go_simp
            refine (bef_yes _ _ _ _ _ _ _ _ _ hbf').mono ?_
            rintro e w3 ⟨rfl, hb⟩
            replace B := nxt B hb
            replace O := O.below hb
            clear hb c0 c1 c2 c3 e0 e1 e2 e3
            obtain ⟨e0, e1, e2, e3⟩ := O.at hkl
            rw [HY.out] at e0 e1 e2 e3
            obtain ⟨b', off', e, hbl', c0, c1, c2, c3⟩ := (HR.out.below B).at4 hlt
            obtain ⟨rfl, rfl⟩ := addr_inj e
            clear e
            refine hK.out _ _ ⟨c0, c1, c2, c3, e0, e1, e2, e3⟩ (fun hHeld => ?_)
            clear hK K
            try simp only [List.getElem_toArray, List.getElem_cons_zero, List.getElem_cons_succ, Act.put, List.setIfInBounds_toArray, List.set_cons_zero, List.set_cons_succ]
            refine wpAnyH_take (i := 13) (oi := _) (v := ?_) rfl (by kernel_rfl) (by kernel_rfl) (by kernel_rfl) (fun _ _ _ h => h) (Or.inl ⟨by kernel_rfl, ?_⟩) (by assumption) ?_
            rotate_left
            · intro w hSw; (try dsimp only at hSw); go_simp; first | done | with_reducible rfl
            try simp only [List.getElem_toArray, List.getElem_cons_zero, List.getElem_cons_succ, Act.put, List.setIfInBounds_toArray, List.set_cons_zero, List.set_cons_succ]
            refine wpAnyH_done (by kernel_rfl) ?_ _
            clear hHeld c0 c1 c2 c3 e0 e1 e2 e3 hbf'
            have HBF := Lib.hid hbf
            clear hbf
            go_wp2_with fail
            refine ⟨⟨j, by omega, by first | go_num | simp, B, O, fun t ht hjt => ?_⟩, by simp [intOf] <;> omega⟩
            by_cases et : t = j
            · subst et; rw [HY.out]; exact HBF.out
            · exact HUP.out t ht (by omega)
          · have hbf' : ¬ (f (4 * i + 1) < y.2.1 ∨ (f (4 * i + 1) = y.2.1 ∧ f (4 * i) < y.1)) := hbf
            refine wp_region_held_drew (S := (fun w' => w'.cell? ⟨b, off + i * 4, none⟩ = some (.int .i8 (f (4 * i))) ∧ w'.cell? ⟨b, off + i * 4 + 1, none⟩ = some (.int .i8 (f (4 * i + 1))) ∧ w'.cell? ⟨b, off + i * 4 + 2, none⟩ = some (.int .i8 (f (4 * i + 2))) ∧ w'.cell? ⟨b, off + i * 4 + 3, none⟩ = some (.int .i8 (f (4 * i + 3))) ∧ w'.cell? ⟨go, j * 4, none⟩ = some (.int .i8 y.1) ∧ w'.cell? ⟨go, j * 4 + 1, none⟩ = some (.int .i8 y.2.1) ∧ w'.cell? ⟨go, j * 4 + 2, none⟩ = some (.int .i8 y.2.2.1) ∧ w'.cell? ⟨go, j * 4 + 3, none⟩ = some (.int .i8 y.2.2.2))) (by kernel_rfl) ⟨c0, c1, c2, c3, e0, e1, e2, e3⟩ (fun hHeld => ?_)
            obtain ⟨wd, hwd⟩ : ∃ wd, wr.drew = wd := ⟨_, rfl⟩
            rw [hwd] at hHeld B O c0 c1 c2 c3 e0 e1 e2 e3 ⊢
            clear hwd
            refine wpAnyH_take (i := 0) (oi := _) (v := ?_) rfl (by kernel_rfl) (by kernel_rfl) (by kernel_rfl) (fun _ _ _ h => h) (Or.inl ⟨by kernel_rfl, ?_⟩) (by assumption) ?_
            rotate_left
            · intro w hSw; (try dsimp only at hSw); go_simp; first | done | with_reducible rfl
            try simp only [List.getElem_toArray, List.getElem_cons_zero, List.getElem_cons_succ, Act.put, List.setIfInBounds_toArray, List.set_cons_zero, List.set_cons_succ]
            refine wpAnyH_take (i := 1) (oi := _) (v := ?_) rfl (by kernel_rfl) (by kernel_rfl) (by kernel_rfl) (fun _ _ _ h => h) (Or.inl ⟨by kernel_rfl, ?_⟩) (by assumption) ?_
            rotate_left
            · intro w hSw; (try dsimp only at hSw); go_simp; first | done | with_reducible rfl
            try simp only [List.getElem_toArray, List.getElem_cons_zero, List.getElem_cons_succ, Act.put, List.setIfInBounds_toArray, List.set_cons_zero, List.set_cons_succ]
            refine wpAnyH_take (i := 2) (oi := _) (v := ?_) rfl (by kernel_rfl) (by kernel_rfl) (by kernel_rfl) (fun _ _ _ h => h) (Or.inl ⟨by kernel_rfl, ?_⟩) (by assumption) ?_
            rotate_left
            · intro w hSw; (try dsimp only at hSw); go_simp; first | done | with_reducible rfl
            try simp only [List.getElem_toArray, List.getElem_cons_zero, List.getElem_cons_succ, Act.put, List.setIfInBounds_toArray, List.set_cons_zero, List.set_cons_succ]
            refine wpAnyH_take (i := 3) (oi := _) (v := ?_) rfl (by kernel_rfl) (by kernel_rfl) (by kernel_rfl) (fun _ _ _ h => h) (Or.inl ⟨by kernel_rfl, ?_⟩) (by assumption) ?_
            rotate_left
            · intro w hSw; (try dsimp only at hSw); go_simp; first | done | with_reducible rfl
            try simp only [List.getElem_toArray, List.getElem_cons_zero, List.getElem_cons_succ, Act.put, List.setIfInBounds_toArray, List.set_cons_zero, List.set_cons_succ]
            refine wpAnyH_take (i := 4) (oi := _) (v := ?_) rfl (by kernel_rfl) (by kernel_rfl) (by kernel_rfl) (fun _ _ _ h => h) (Or.inl ⟨by kernel_rfl, ?_⟩) (by assumption) ?_
            rotate_left
            · intro w hSw; (try dsimp only at hSw); go_simp; first | done | with_reducible rfl
            try simp only [List.getElem_toArray, List.getElem_cons_zero, List.getElem_cons_succ, Act.put, List.setIfInBounds_toArray, List.set_cons_zero, List.set_cons_succ]
            refine wpAnyH_take (i := 5) (oi := _) (v := ?_) rfl (by kernel_rfl) (by kernel_rfl) (by kernel_rfl) (fun _ _ _ h => h) (Or.inl ⟨by kernel_rfl, ?_⟩) (by assumption) ?_
            rotate_left
            · intro w hSw; (try dsimp only at hSw); go_simp; first | done | with_reducible rfl
            try simp only [List.getElem_toArray, List.getElem_cons_zero, List.getElem_cons_succ, Act.put, List.setIfInBounds_toArray, List.set_cons_zero, List.set_cons_succ]
            refine wpAnyH_take (i := 6) (oi := _) (v := ?_) rfl (by kernel_rfl) (by kernel_rfl) (by kernel_rfl) (fun _ _ _ h => h) (Or.inl ⟨by kernel_rfl, ?_⟩) (by assumption) ?_
            rotate_left
            · intro w hSw; (try dsimp only at hSw); go_simp; first | done | with_reducible rfl
            try simp only [List.getElem_toArray, List.getElem_cons_zero, List.getElem_cons_succ, Act.put, List.setIfInBounds_toArray, List.set_cons_zero, List.set_cons_succ]
            refine wpAnyH_take (i := 7) (oi := _) (v := ?_) rfl (by kernel_rfl) (by kernel_rfl) (by kernel_rfl) (fun _ _ _ h => h) (Or.inl ⟨by kernel_rfl, ?_⟩) (by assumption) ?_
            rotate_left
            · intro w hSw; (try dsimp only at hSw); go_simp; first | done | with_reducible rfl
            try simp only [List.getElem_toArray, List.getElem_cons_zero, List.getElem_cons_succ, Act.put, List.setIfInBounds_toArray, List.set_cons_zero, List.set_cons_succ]
            refine wpAnyH_take (i := 8) (oi := _) (v := ?_) rfl (by kernel_rfl) (by kernel_rfl) (by kernel_rfl) (fun _ _ _ h => h) (Or.inl ⟨by kernel_rfl, ?_⟩) (by assumption) ?_
            rotate_left
            · intro w hSw; (try dsimp only at hSw); go_simp; first | done | with_reducible rfl
            try simp only [List.getElem_toArray, List.getElem_cons_zero, List.getElem_cons_succ, Act.put, List.setIfInBounds_toArray, List.set_cons_zero, List.set_cons_succ]
            refine wpAnyH_take (i := 9) (oi := _) (v := ?_) rfl (by kernel_rfl) (by kernel_rfl) (by kernel_rfl) (fun _ _ _ h => h) (Or.inl ⟨by kernel_rfl, ?_⟩) (by assumption) ?_
            rotate_left
            · intro w hSw; (try dsimp only at hSw); go_simp; first | done | with_reducible rfl
            try simp only [List.getElem_toArray, List.getElem_cons_zero, List.getElem_cons_succ, Act.put, List.setIfInBounds_toArray, List.set_cons_zero, List.set_cons_succ]
            refine wpAnyH_take (i := 10) (oi := _) (v := ?_) rfl (by kernel_rfl) (by kernel_rfl) (by kernel_rfl) (fun _ _ _ h => h) (Or.inl ⟨by kernel_rfl, ?_⟩) (by assumption) ?_
            rotate_left
            · intro w hSw; (try dsimp only at hSw); go_simp; first | done | with_reducible rfl
            try simp only [List.getElem_toArray, List.getElem_cons_zero, List.getElem_cons_succ, Act.put, List.setIfInBounds_toArray, List.set_cons_zero, List.set_cons_succ]
            refine wpAnyH_take (i := 11) (oi := _) (v := ?_) rfl (by kernel_rfl) (by kernel_rfl) (by kernel_rfl) (fun _ _ _ h => h) (Or.inl ⟨by kernel_rfl, ?_⟩) (by assumption) ?_
            rotate_left
            · intro w hSw; (try dsimp only at hSw); go_simp; first | done | with_reducible rfl
            try simp only [List.getElem_toArray, List.getElem_cons_zero, List.getElem_cons_succ, Act.put, List.setIfInBounds_toArray, List.set_cons_zero, List.set_cons_succ]
            refine wpAnyH_ready (rs := [12]) (by kernel_rfl) (by simp) ?_
            refine AllReadyH.cons (o := _) rfl (fun K hK => ?_) AllReadyH.nil
            go_simp
            refine (bef_no _ _ _ _ _ _ _ _ _ hbf').mono ?_
            rintro e w3 ⟨rfl, hb⟩
            replace B := nxt B hb
            replace O := O.below hb
            clear hb c0 c1 c2 c3 e0 e1 e2 e3
            obtain ⟨e0, e1, e2, e3⟩ := O.at hkl
            rw [HY.out] at e0 e1 e2 e3
            obtain ⟨b', off', e, hbl', c0, c1, c2, c3⟩ := (HR.out.below B).at4 hlt
            obtain ⟨rfl, rfl⟩ := addr_inj e
            clear e
            refine hK.out _ _ ⟨c0, c1, c2, c3, e0, e1, e2, e3⟩ (fun hHeld => ?_)
            clear hK K
            try simp only [List.getElem_toArray, List.getElem_cons_zero, List.getElem_cons_succ, Act.put, List.setIfInBounds_toArray, List.set_cons_zero, List.set_cons_succ]
            refine wpAnyH_take (i := 13) (oi := _) (v := ?_) rfl (by kernel_rfl) (by kernel_rfl) (by kernel_rfl) (fun _ _ _ h => h) (Or.inl ⟨by kernel_rfl, ?_⟩) (by assumption) ?_
            rotate_left
            · intro w hSw; (try dsimp only at hSw); go_simp; first | done | with_reducible rfl
            try simp only [List.getElem_toArray, List.getElem_cons_zero, List.getElem_cons_succ, Act.put, List.setIfInBounds_toArray, List.set_cons_zero, List.set_cons_succ]
            refine wpAnyH_done (by kernel_rfl) ?_ _
            clear hHeld e0 e1 e2 e3 hbf'
            have hlow : ∀ t (ht : t < L.length), t + 1 = (j + 1) → ¬ bfr (s4 f i) L[t] := fun t ht h => low_at HY.out hbf h
            have HLOW := Lib.hid hlow
            clear hlow
            obtain ⟨A', hA, hsrc⟩ : ∃ A' : Addr, (if cp = (j + 1) then some (⟨go, 0, none⟩ : Addr) else some ⟨go, ((j + 1)) * 4, none⟩) = some A' ∧ Hid (∀ t u, (encL (L.drop ((j + 1))))[t]? = some u → (w3.alloc (.cells #[] 110)).cell? (A'.add t) = some u) := by
              by_cases h : cp = (j + 1)
              · refine ⟨⟨go, 0, none⟩, by simp [h], fun t u hu => ?_⟩
                have h0 : (encL (L.drop ((j + 1)))).length = 0 := by rw [encL_length, List.length_drop]; omega
                rw [List.length_eq_zero_iff.1 h0] at hu
                simp at hu
              · refine ⟨⟨go, ((j + 1)) * 4, none⟩, by simp [h], fun t u hu => ?_⟩
                have ht : t < (L.length - ((j + 1))) * 4 := by
                  have := (List.getElem?_eq_some_iff.1 hu).1
                  rwa [encL_length, List.length_drop] at this
                rw [Addr.add_lit]
                refine ((O.alloc _).cells (j := ((j + 1)) * 4 + t) (by omega)).trans ?_
                rw [← hu, ← encL_drop (by omega), List.getElem?_drop]
            have hki : (((j + 1) : Nat) : Int) ≤ (i : Int) := by omega
            have hki0 : (0 : Int) ≤ (((j + 1) : Nat) : Int) := by omega
            have hs1 : (0 : Int) ≤ (j : Int) + 1 := by omega
            have hs2 : (j : Int) + 1 ≤ (cp : Int) := by omega
            have hs3 : ((j : Int) + 1).toNat = j + 1 := by omega
            have hkcp : (j + 1) ≤ cp := by omega
            have hicp : i ≤ cp := by omega
            have hlen6 : (encL (L.drop ((j + 1)))).length = (i - ((j + 1))) * 4 := by rw [encL_length]; rw [List.length_drop]; omega
            have HLEN6 := Lib.hid hlen6
            have hsz6 : go < w3.heap.size := O.bd.2
            have HO := Lib.hid O
            clear c0 c1 c2 c3 hlen6
            go_wp2_with (at_builtin; refine wpList_append_own _ rfl _ _ 29 rfl w3.heap.size 110 i0 (.agg #[.int .i8 0, .int .i8 0, .int .i8 0, .int .i8 0]) 4 4 Try.underlying29 HI.out hz0 hz1 hz2 rfl (by decide) _ _ _ rfl (World.ownsRow_made w3 #[] 0 (Nat.le_refl _) (Nat.zero_le _) rfl) A' (i - ((j + 1))) (cp - ((j + 1))) (encL (L.drop ((j + 1)))) rfl HLEN6.out hsrc (encL_one _) (by unfold maxLen; omega) (by omega) (by simp) ?_)
            intro v6 w6 own6 hg6 hnil6
            obtain ⟨g6, cp6, rfl⟩ := own_block own6 (fun e => by first | exact hnil6 e | (have := hnil6.1 e; simp at this))
            clear hnil6 hsrc
            have B6 : Below w.heap.size w w6 := (al B _).grown hg6 (al B _).size (fun k e => by simp [Value.ownBlock] at e; have := B.size; omega)
            have O6 : OwnQ w6 w.heap.size go cp L := (HO.out.alloc _).kept hg6 (by simp [Value.ownBlock]; omega)
            have h6 := (World.ownsRow.lt own6 g6 rfl).1
            have own6' : w6.ownsRow w.heap.size 110 4 (.slice (some ⟨g6, 0, none⟩) (i - ((j + 1))) cp6) (i - ((j + 1))) (encL (L.drop ((j + 1)))) := by
              have := World.ownsRow.mono own6 B.size
              simpa using this
            have hg6go : go ≠ g6 := by omega
            have HR6 := Lib.hid own6'
            clear own6 own6' hg6 B HO
            go_wp2_with fail
            obtain ⟨b', off', e, hbl', c0, c1, c2, c3⟩ := (HR.out.below B6).at4 hlt
            obtain ⟨rfl, rfl⟩ := addr_inj e
            clear e
            replace B6 : Below w.heap.size w w6.drew := B6.drew
            replace O6 : OwnQ w6.drew w.heap.size go cp L := O6
            replace HR6 : Hid (w6.drew.ownsRow w.heap.size 110 4 (.slice (some ⟨g6, 0, none⟩) (i - ((j + 1))) cp6) (i - ((j + 1))) (encL (L.drop ((j + 1))))) := HR6
            replace c0 : w6.drew.cell? ⟨b, off + i * 4, none⟩ = some (.int .i8 (f (4 * i))) := c0
            replace c1 : w6.drew.cell? ⟨b, off + i * 4 + 1, none⟩ = some (.int .i8 (f (4 * i + 1))) := c1
            replace c2 : w6.drew.cell? ⟨b, off + i * 4 + 2, none⟩ = some (.int .i8 (f (4 * i + 2))) := c2
            replace c3 : w6.drew.cell? ⟨b, off + i * 4 + 3, none⟩ = some (.int .i8 (f (4 * i + 3))) := c3
            refine wp_region_held_drew (S := (fun w' => w'.cell? ⟨b, off + i * 4, none⟩ = some (.int .i8 (f (4 * i))) ∧ w'.cell? ⟨b, off + i * 4 + 1, none⟩ = some (.int .i8 (f (4 * i + 1))) ∧ w'.cell? ⟨b, off + i * 4 + 2, none⟩ = some (.int .i8 (f (4 * i + 2))) ∧ w'.cell? ⟨b, off + i * 4 + 3, none⟩ = some (.int .i8 (f (4 * i + 3))))) (by kernel_rfl) ⟨c0, c1, c2, c3⟩ (fun hHeld => ?_)
            obtain ⟨w7, hw7⟩ : ∃ w7, w6.drew = w7 := ⟨_, rfl⟩
            rw [hw7] at hHeld B6 O6 HR6 c0 c1 c2 c3 ⊢
            clear hw7
            refine wpAnyH_take (i := 0) (oi := _) (v := ?_) rfl (by kernel_rfl) (by kernel_rfl) (by kernel_rfl) (fun _ _ _ h => h) (Or.inl ⟨by kernel_rfl, ?_⟩) (by assumption) ?_
            rotate_left
            · intro w hSw; (try dsimp only at hSw); go_simp; first | done | with_reducible rfl
            try simp only [List.getElem_toArray, List.getElem_cons_zero, List.getElem_cons_succ, Act.put, List.setIfInBounds_toArray, List.set_cons_zero, List.set_cons_succ]
            refine wpAnyH_take (i := 1) (oi := _) (v := ?_) rfl (by kernel_rfl) (by kernel_rfl) (by kernel_rfl) (fun _ _ _ h => h) (Or.inl ⟨by kernel_rfl, ?_⟩) (by assumption) ?_
            rotate_left
            · intro w hSw; (try dsimp only at hSw); go_simp; first | done | with_reducible rfl
            try simp only [List.getElem_toArray, List.getElem_cons_zero, List.getElem_cons_succ, Act.put, List.setIfInBounds_toArray, List.set_cons_zero, List.set_cons_succ]
            refine wpAnyH_take (i := 2) (oi := _) (v := ?_) rfl (by kernel_rfl) (by kernel_rfl) (by kernel_rfl) (fun _ _ _ h => h) (Or.inl ⟨by kernel_rfl, ?_⟩) (by assumption) ?_
            rotate_left
            · intro w hSw; (try dsimp only at hSw); go_simp; first | done | with_reducible rfl
            try simp only [List.getElem_toArray, List.getElem_cons_zero, List.getElem_cons_succ, Act.put, List.setIfInBounds_toArray, List.set_cons_zero, List.set_cons_succ]
            refine wpAnyH_take (i := 3) (oi := _) (v := ?_) rfl (by kernel_rfl) (by kernel_rfl) (by kernel_rfl) (fun _ _ _ h => h) (Or.inl ⟨by kernel_rfl, ?_⟩) (by assumption) ?_
            rotate_left
            · intro w hSw; (try dsimp only at hSw); go_simp; first | done | with_reducible rfl
            try simp only [List.getElem_toArray, List.getElem_cons_zero, List.getElem_cons_succ, Act.put, List.setIfInBounds_toArray, List.set_cons_zero, List.set_cons_succ]
            refine wpAnyH_take (i := 4) (oi := _) (v := ?_) rfl (by kernel_rfl) (by kernel_rfl) (by kernel_rfl) (fun _ _ _ h => h) (Or.inl ⟨by kernel_rfl, ?_⟩) (by assumption) ?_
            rotate_left
            · intro w hSw; (try dsimp only at hSw); go_simp; first | done | with_reducible rfl
            try simp only [List.getElem_toArray, List.getElem_cons_zero, List.getElem_cons_succ, Act.put, List.setIfInBounds_toArray, List.set_cons_zero, List.set_cons_succ]
            refine wpAnyH_take (i := 5) (oi := _) (v := ?_) rfl (by kernel_rfl) (by kernel_rfl) (by kernel_rfl) (fun _ _ _ h => h) (Or.inl ⟨by kernel_rfl, ?_⟩) (by assumption) ?_
            rotate_left
            · intro w hSw; (try dsimp only at hSw); go_simp; first | done | with_reducible rfl
            try simp only [List.getElem_toArray, List.getElem_cons_zero, List.getElem_cons_succ, Act.put, List.setIfInBounds_toArray, List.set_cons_zero, List.set_cons_succ]
            refine wpAnyH_take (i := 6) (oi := _) (v := ?_) rfl (by kernel_rfl) (by kernel_rfl) (by kernel_rfl) (fun _ _ _ h => h) (Or.inl ⟨by kernel_rfl, ?_⟩) (by assumption) ?_
            rotate_left
            · intro w hSw; (try dsimp only at hSw); go_simp; first | done | with_reducible rfl
            try simp only [List.getElem_toArray, List.getElem_cons_zero, List.getElem_cons_succ, Act.put, List.setIfInBounds_toArray, List.set_cons_zero, List.set_cons_succ]
            refine wpAnyH_take (i := 9) (oi := _) (v := ?_) rfl (by kernel_rfl) (by kernel_rfl) (by kernel_rfl) (fun _ _ _ h => h) (Or.inl ⟨by kernel_rfl, ?_⟩) (by assumption) ?_
            rotate_left
            · intro w hSw; (try dsimp only at hSw); go_simp; first | done | with_reducible rfl
            try simp only [List.getElem_toArray, List.getElem_cons_zero, List.getElem_cons_succ, Act.put, List.setIfInBounds_toArray, List.set_cons_zero, List.set_cons_succ]
            refine wpAnyH_ready (rs := [7]) (by kernel_rfl) (by simp) ?_
            refine AllReadyH.cons (o := _) rfl (fun K hK => ?_) AllReadyH.nil
            go_simp
            clear c0 c1 c2 c3
            replace B6 := al B6 (.cells #[.int .i8 (f (4 * i)), .int .i8 (f (4 * i + 1)), .int .i8 (f (4 * i + 2)), .int .i8 (f (4 * i + 3))] 110)
            replace O6 := O6.alloc (.cells #[.int .i8 (f (4 * i)), .int .i8 (f (4 * i + 1)), .int .i8 (f (4 * i + 2)), .int .i8 (f (4 * i + 3))] 110)
            replace HR6 := Lib.hid (World.ownsRow.alloc HR6.out (.cells #[.int .i8 (f (4 * i)), .int .i8 (f (4 * i + 1)), .int .i8 (f (4 * i + 2)), .int .i8 (f (4 * i + 3))] 110))
            have N8 : Hid (∀ j u, (encS (s4 f i))[j]? = some u → (w7.alloc (.cells #[.int .i8 (f (4 * i)), .int .i8 (f (4 * i + 1)), .int .i8 (f (4 * i + 2)), .int .i8 (f (4 * i + 3))] 110)).cell? ((⟨w7.heap.size, 0, none⟩ : Addr).add j) = some u) := new_cells w7 #[.int .i8 (f (4 * i)), .int .i8 (f (4 * i + 1)), .int .i8 (f (4 * i + 2)), .int .i8 (f (4 * i + 3))] 110
            obtain ⟨b', off', e, hbl', c0, c1, c2, c3⟩ := (HR.out.below B6).at4 hlt
            obtain ⟨rfl, rfl⟩ := addr_inj e
            clear e
            refine hK.out _ _ ⟨c0, c1, c2, c3⟩ (fun hHeld => ?_)
            clear hK K
            try simp only [List.getElem_toArray, List.getElem_cons_zero, List.getElem_cons_succ, Act.put, List.setIfInBounds_toArray, List.set_cons_zero, List.set_cons_succ]
            obtain ⟨w8, hw8⟩ : ∃ w8, w7.alloc (.cells #[.int .i8 (f (4 * i)), .int .i8 (f (4 * i + 1)), .int .i8 (f (4 * i + 2)), .int .i8 (f (4 * i + 3))] 110) = w8 := ⟨_, rfl⟩
            rw [hw8] at hHeld B6 O6 HR6 N8 c0 c1 c2 c3 ⊢
            clear hw8
            have hO7 := Lib.hid (O6.take (k := (j + 1)) (by omega))
            have hgo8 := O6.bd
            refine wpAnyH_ready (rs := [8]) (by kernel_rfl) (by simp) ?_
            refine AllReadyH.cons (o := _) rfl (fun K hK => ?_) AllReadyH.nil
            refine wp_append_own _ _ _ 29 rfl w.heap.size 110 i0 (.agg #[.int .i8 0, .int .i8 0, .int .i8 0, .int .i8 0]) 4 4 Try.underlying29 HI.out hz0 hz1 hz2 rfl (by decide) (.slice (some ⟨go, 0, none⟩) ((j + 1)) cp) ((j + 1)) (encL (L.take ((j + 1)))) rfl hO7.out ⟨w7.heap.size, 0, none⟩ 1 1 (encS (s4 f i)) rfl rfl N8 (encL_one [s4 f i]) (by unfold maxLen; omega) (by omega) B6.size ?_
            intro v8 w9 own8 hg8 hn8
            obtain ⟨g8, cp8, rfl⟩ := own_block own8 (fun e => by first | exact hn8 e | (have := hn8.1 e; simp at this))
            have h8 := World.ownsRow.lt own8 g8 rfl
            replace HR6 := Lib.hid (World.ownsRow.kept HR6.out hg8 (.inr (by simp [Value.ownBlock]; omega)))
            have HO8 := Lib.hid own8
            replace B6 := B6.grown hg8 B6.size (fun k e => by simp [Value.ownBlock] at e; omega)
            clear c0 c1 c2 c3 hn8 own8 N8 hO7 O6 hg8
            obtain ⟨b', off', e, hbl', c0, c1, c2, c3⟩ := (HR.out.below B6).at4 hlt
            obtain ⟨rfl, rfl⟩ := addr_inj e
            clear e
            refine hK.out _ _ ⟨c0, c1, c2, c3⟩ (fun hHeld => ?_)
            clear hK K
            try simp only [List.getElem_toArray, List.getElem_cons_zero, List.getElem_cons_succ, Act.put, List.setIfInBounds_toArray, List.set_cons_zero, List.set_cons_succ]
            have N10 : Hid (∀ t u, (encL (L.drop ((j + 1))))[t]? = some u → w9.cell? ((⟨g6, 0, none⟩ : Addr).add t) = some u) := by
              intro t u hu
              have ht : t < (encL (L.drop ((j + 1)))).length := (List.getElem?_eq_some_iff.1 hu).1
              rw [HLEN6.out] at ht
              rw [Addr.add_lit, Nat.zero_add]
              exact (World.ownsRow.cellAt HR6.out t ht).trans hu
            refine wpAnyH_ready (rs := [10]) (by kernel_rfl) (by simp) ?_
            refine AllReadyH.cons (o := _) rfl (fun K hK => ?_) AllReadyH.nil
            refine wp_append_own _ _ _ 29 rfl w.heap.size 110 i0 (.agg #[.int .i8 0, .int .i8 0, .int .i8 0, .int .i8 0]) 4 4 Try.underlying29 HI.out hz0 hz1 hz2 rfl (by decide) (.slice (some ⟨g8, 0, none⟩) ((j + 1) + 1) cp8) ((j + 1) + 1) (encL (L.take ((j + 1))) ++ encS (s4 f i)) rfl HO8.out ⟨g6, 0, none⟩ (i - ((j + 1))) cp6 (encL (L.drop ((j + 1)))) rfl HLEN6.out N10 (encL_one _) (by unfold maxLen; omega) (by omega) B6.size ?_
            intro v10 w11 own10 hg10 hn10
            obtain ⟨g10, cp10, rfl⟩ := own_block own10 (fun e => by first | exact hn10 e | (have := hn10.1 e; simp at this))
            have HO10 := Lib.hid own10
            replace B6 := B6.grown hg10 B6.size (fun k e => by simp [Value.ownBlock] at e; omega)
            clear c0 c1 c2 c3 hn10 own10 N10 HO8 HR6 hg10
            obtain ⟨b', off', e, hbl', c0, c1, c2, c3⟩ := (HR.out.below B6).at4 hlt
            obtain ⟨rfl, rfl⟩ := addr_inj e
            clear e
            refine hK.out _ _ ⟨c0, c1, c2, c3⟩ (fun hHeld => ?_)
            clear hK K
            try simp only [List.getElem_toArray, List.getElem_cons_zero, List.getElem_cons_succ, Act.put, List.setIfInBounds_toArray, List.set_cons_zero, List.set_cons_succ]
            refine wpAnyH_take (i := 11) (oi := _) (v := ?_) rfl (by kernel_rfl) (by kernel_rfl) (by kernel_rfl) (fun _ _ _ h => h) (Or.inl ⟨by kernel_rfl, ?_⟩) (by assumption) ?_
            rotate_left
            · intro w hSw; (try dsimp only at hSw); go_simp; first | done | with_reducible rfl
            try simp only [List.getElem_toArray, List.getElem_cons_zero, List.getElem_cons_succ, Act.put, List.setIfInBounds_toArray, List.set_cons_zero, List.set_cons_succ]
            refine wpAnyH_done (by kernel_rfl) ?_ _
            clear hHeld c0 c1 c2 c3
            have hLL : (L.take ((j + 1)) ++ s4 f i :: L.drop ((j + 1))).length = i + 1 := by rw [List.length_append, List.length_cons, List.length_take, List.length_drop]; omega
            have HLL := Lib.hid hLL
            clear hLL
            go_wp2_with fail
            refine ⟨⟨i + 1, g10, cp10, L.take ((j + 1)) ++ s4 f i :: L.drop ((j + 1)), by omega, by first | go_num | simp, by simp; omega, HLL.out, ?_, B6, ?_⟩, by simp [intOf]; omega⟩
            · rw [toL_succ]; exact insert_sorted HSS.out (by omega) HUP.out HLOW.out
            · exact OwnQ.ins HO10.out (by rw [HLL.out]; omega)
    · obtain rfl : i = n := by omega
      go_wp2_with fail
      go_ret
      exact ⟨B, go, cp, L, rfl, hL, hS, O⟩
end Go.Proofs.Ytkdakpbkpfigeaa
