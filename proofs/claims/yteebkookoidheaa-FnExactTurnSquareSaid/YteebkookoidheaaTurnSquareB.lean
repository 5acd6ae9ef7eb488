/-
  Both sides of TurnSquare answer the same. Conditions stand at each.
-/
import Derived.Test.YteebkookoidheaaRows
import Derived.Test.YteebkookoidheaaApart
import Derived.Test.YteebkookoidheaaValidI
import Derived.Test.YteebkookoidheaaTold
import Derived.Test.YteebkookoidheaaSqW
import Derived.Test.YteebkookoidheaaSortS
import Derived.Test.YteebkookoidheaaHasSort
namespace Go.Proofs.Yteebkookoidheaa.turnSquare
open Go Go.ChangeShapes Go.WideShapes Go.ChangeAt Go.RowKit
set_option linter.unusedVariables false
set_option linter.unusedSimpArgs false
set_option maxRecDepth 100000
set_option maxHeartbeats 2000000

/-- a slab carried over. -/
def tr (X Y : Int) (s : S4) : S4 := (Y - s.2.1 - s.2.2.2, s.1, s.2.2.2, s.2.2.1)
def trL (X Y : Int) (c : Nat → Int) (k : Nat) : List S4 := (toL c k).map (tr X Y)
theorem trL_length (X Y : Int) (c : Nat → Int) (k : Nat) : (trL X Y c k).length = k := by simp [trL, toL_length]
theorem trL_succ (X Y : Int) (c : Nat → Int) (k : Nat) : trL X Y c (k + 1) = trL X Y c k ++ [tr X Y (s4 c k)] := by unfold trL; rw [toL_succ, List.map_append]; rfl
theorem enc_succ (X Y : Int) (c : Nat → Int) (k : Nat) : encL (trL X Y c (k + 1)) = encL (trL X Y c k) ++ #[.int .i8 (Y - c (4 * k + 1) - c (4 * k + 3)), .int .i8 (c (4 * k)), .int .i8 (c (4 * k + 3)), .int .i8 (c (4 * k + 2))].toList := by rw [trL_succ, encL_append]; rfl
theorem apart {X Y : Int} {n : Nat} {c : Nat → Int} (hv : Valid X Y n c) : Apart (trL X Y c n) := by
  unfold trL toL
  rw [List.map_map]
  refine apart_map hv fun i j hi hj hne => ?_
  obtain ⟨h1, h2⟩ := hne
  obtain ⟨x1, y1, a1, b1, e0, e1, e2, e3, l1, l2⟩ := lies_nat hv.2.1 hv.2.2.2.1 (hv.2.2.2.2.2 i hi).1
  obtain ⟨x2, y2, a2, b2, k0, k1, k2, k3, m1, m2⟩ := lies_nat hv.2.1 hv.2.2.2.1 (hv.2.2.2.2.2 j hj).1
  have p1 := (hv.2.2.2.2.2 i hi).1
  have p2 := (hv.2.2.2.2.2 j hj).1
  unfold lies at p1 p2
  simp only [Function.comp, tr, s4] at h1 h2
  rw [e0, e1, e2, e3] at p1
  rw [k0, k1, k2, k3] at p2
  rw [e1, e3, k1, k3] at h1
  rw [e0, k0] at h2
  refine ⟨(y1 + b1 - 1) * 12 + x1, by omega, ?_, ?_⟩
  · unfold cov; rw [e0, e1, e2, e3]; omega
  · unfold cov; rw [k0, k1, k2, k3]; omega
theorem impl_in (X Y : Int) (g n : Nat) (c : Nat → Int) (w : World) (hX : -128 ≤ X ∧ X ≤ 127) (hY : -128 ≤ Y ∧ Y ≤ 127) (hc : ∀ j, -128 ≤ c j ∧ c j ≤ 127) (hm : n ≤ 1048576) (hrow : w.rowIs g 31 (4 * n) (fun j => .int .i8 (c j))) (hv : Valid X Y n c) :
    Calls Try.prog 27 #[.agg #[.int .i8 X, .int .i8 Y, .slice (some ⟨g, 0, none⟩) n n]] w fun e w' => Below w.heap.size w w' ∧ ∃ v L, e = .returned (.tuple #[.agg #[.int .i8 Y, .int .i8 X, v], .int .i64 0]) ∧ SortedOf (trL X Y c n) L ∧ HasSlice .i8 4 w' w.heap.size v n (fL L) := by
  obtain ⟨i0, hi0, hz0, hz1, hz2⟩ := info_parts infoSlab
  have HI := Lib.hid hi0
  have hn60 := hv.2.2.2.2.1
  have hside : 1 ≤ X ∧ X ≤ 12 ∧ 1 ≤ Y ∧ Y ≤ 12 := ⟨hv.1, hv.2.1, hv.2.2.1, hv.2.2.2.1⟩
  have HC := Lib.hid hc
  have HOK := Lib.hid hv.2.2.2.2.2
  have HV := Lib.hid hv
  clear hc hi0 hv
  go_enter Try.func27, Try.ntmps27
  go_wp2_with fail
  have HQ := (Sq.new w X Y (.slice (some ⟨g, 0, none⟩) n n) 29).alloc (.cells #[.int .i8 0, .int .i8 0, .slice none 0 0] 29)
  have H1 : Bx ((w.alloc (.cells #[.int .i8 X, .int .i8 Y, .slice (some ⟨g, 0, none⟩) n n] 29)).alloc (.cells #[.int .i8 0, .int .i8 0, .slice none 0 0] 29)) (w.heap.size + 1) #[.int .i8 0, .int .i8 0, .slice none 0 0] 29 := by
    have := Bx.new (w.alloc (.cells #[.int .i8 X, .int .i8 Y, .slice (some ⟨g, 0, none⟩) n n] 29)) #[.int .i8 0, .int .i8 0, .slice none 0 0] 29
    rwa [World.size_alloc] at this
  have B := al (al (Below.refl w.heap.size w) (.cells #[.int .i8 X, .int .i8 Y, .slice (some ⟨g, 0, none⟩) n n] 29)) (.cells #[.int .i8 0, .int .i8 0, .slice none 0 0] 29)
  obtain ⟨W0, hW0⟩ : ∃ W0 : World, W0 = ((w.alloc (.cells #[.int .i8 X, .int .i8 Y, .slice (some ⟨g, 0, none⟩) n n] 29)).alloc (.cells #[.int .i8 0, .int .i8 0, .slice none 0 0] 29)) := ⟨_, rfl⟩
  rw [← hW0] at HQ H1 B ⊢
  clear hW0
  refine (implValid_any X Y g n c _ hX hY HC.out hm (hrow.of_block (B.block _ hrow.lt))).mono ?_
  rintro e w1 ⟨hb, ⟨_, rfl⟩ | ⟨h, _⟩⟩
  case inr => exact absurd HV.out h
  replace HQ := HQ.below hb
  replace H1 := H1.below hb
  replace B := nxt B hb
  clear hb
  obtain ⟨lq, pq, qq, rq⟩ := id HQ
  have hz2' : w.heap.size + 2 ≤ w1.heap.size := H1.lt
  go_wp2_with fail
  clear lq pq qq rq
  go_loopw [4, 6, 14] (fun t4 t6 t14 wr => ∃ (k : Nat) (v : Value), k ≤ n ∧ t14 = .int .i64 k ∧ v = t4 ∧ Below w.heap.size w wr ∧ w.heap.size + 2 ≤ wr.heap.size ∧ Sq wr w.heap.size X Y (.slice (some ⟨g, 0, none⟩) n n) ∧ Bx wr (w.heap.size + 1) #[.int .i8 0, .int .i8 0, .slice none 0 0] 29 ∧ wr.ownsRow (w.heap.size + 2) 31 4 v k (encL (trL X Y c k))) (fun t4 t6 t14 wr => n - (intOf t14).toNat)
  case atStart => exact ⟨0, _, by omega, rfl, rfl, B, hz2', HQ, H1, World.ownsRow_nil _ _ _ _⟩
  case round =>
    clear B HQ H1 hz2'
    obtain ⟨k, v, hk, rfl, rfl, B, hz, HQ, H1, O⟩ := hrel
    by_cases hlt : k < n
    · have hslab := (Own8.of_row (f := c) (hrow.of_block (B.block _ hrow.lt)))
      obtain ⟨c0, c1, c2, c3⟩ := hslab.at4 hlt |>.1
      simp only [Nat.zero_add] at c0 c1 c2 c3
      have hl := (HOK.out k hlt).1
      unfold lies at hl
      have hb1 := HC.out (4 * k + 1)
      have hb0 := HC.out (4 * k)
      have hb2 := HC.out (4 * k + 2)
      have hb3 := HC.out (4 * k + 3)
      have w1' : IntKind.i8.wrap (Y - c (4 * k + 1)) = Y - c (4 * k + 1) := IntWalk.i8_in _ (by omega)
      have w2' : IntKind.i8.wrap (Y - c (4 * k + 1) - c (4 * k + 3)) = Y - c (4 * k + 1) - c (4 * k + 3) := IntWalk.i8_in _ (by omega)
      have HO := Lib.hid O
      obtain ⟨lq, pq, qq, rq⟩ := id HQ
      have hlo : ∀ b, v.ownBlock = some b → w.heap.size + 2 ≤ b ∧ b < wr.heap.size := fun b e => World.ownsRow.lt O b e
      have HLO := Lib.hid hlo
      have H5 := Sl.new wr (c (4 * k)) (c (4 * k + 1)) (c (4 * k + 2)) (c (4 * k + 3)) 31
      have N8 : Hid (∀ j u, (#[.int .i8 (Y - c (4 * k + 1) - c (4 * k + 3)), .int .i8 (c (4 * k)), .int .i8 (c (4 * k + 3)), .int .i8 (c (4 * k + 2))] : Array Value).toList[j]? = some u → ((wr.alloc (.cells #[.int .i8 (c (4 * k)), .int .i8 (c (4 * k + 1)), .int .i8 (c (4 * k + 2)), .int .i8 (c (4 * k + 3))] 31)).alloc (.cells #[.int .i8 (Y - c (4 * k + 1) - c (4 * k + 3)), .int .i8 (c (4 * k)), .int .i8 (c (4 * k + 3)), .int .i8 (c (4 * k + 2))] 31)).cell? ((⟨wr.heap.size + 1, 0, none⟩ : Addr).add j) = some u) := by
        have := new_cells (wr.alloc (.cells #[.int .i8 (c (4 * k)), .int .i8 (c (4 * k + 1)), .int .i8 (c (4 * k + 2)), .int .i8 (c (4 * k + 3))] 31)) #[.int .i8 (Y - c (4 * k + 1) - c (4 * k + 3)), .int .i8 (c (4 * k)), .int .i8 (c (4 * k + 3)), .int .i8 (c (4 * k + 2))] 31
        rw [World.size_alloc] at this
        exact this
      clear O hlo hslab hl hb0 hb1 hb2 hb3
      go_wp2_with (at_builtin; refine wpList_append_own _ rfl _ _ 27 rfl (w.heap.size + 2) 31 i0 (.agg #[.int .i8 0, .int .i8 0, .int .i8 0, .int .i8 0]) 4 4 Try.underlying27 HI.out hz0 hz1 hz2 rfl (by decide) v k (encL (trL X Y c k)) rfl (World.ownsRow.alloc (World.ownsRow.alloc HO.out _) _) ⟨wr.heap.size + 1, 0, none⟩ 1 1 (#[.int .i8 (Y - c (4 * k + 1) - c (4 * k + 3)), .int .i8 (c (4 * k)), .int .i8 (c (4 * k + 3)), .int .i8 (c (4 * k + 2))] : Array Value).toList rfl rfl N8.out (by intro u hu; simp at hu; rcases hu with rfl | rfl | rfl | rfl <;> rfl) (by unfold maxLen; omega) (by omega) (by simp; omega) ?_)
      intro v9 w9 own9 hg9 hn9
      have B9 : Below w.heap.size w w9 := (al (al B _) _).grown hg9 (al (al B _) _).size (fun b e => by have := (HLO.out b e).1; omega)
      have HQ9 := ((HQ.alloc (.cells #[.int .i8 (c (4 * k)), .int .i8 (c (4 * k + 1)), .int .i8 (c (4 * k + 2)), .int .i8 (c (4 * k + 3))] 31)).alloc (.cells #[.int .i8 (Y - c (4 * k + 1) - c (4 * k + 3)), .int .i8 (c (4 * k)), .int .i8 (c (4 * k + 3)), .int .i8 (c (4 * k + 2))] 31)).of_block hg9.size (hg9.block _ (by simp; have := HQ.1; omega) (fun e => by have := (HLO.out _ e.symm).1; omega))
      have H19 := ((H1.alloc (.cells #[.int .i8 (c (4 * k)), .int .i8 (c (4 * k + 1)), .int .i8 (c (4 * k + 2)), .int .i8 (c (4 * k + 3))] 31)).alloc (.cells #[.int .i8 (Y - c (4 * k + 1) - c (4 * k + 3)), .int .i8 (c (4 * k)), .int .i8 (c (4 * k + 3)), .int .i8 (c (4 * k + 2))] 31)).of_block (hg9.block _ (by simp; have := H1.lt; omega) (fun e => by have := (HLO.out _ e.symm).1; omega))
      have hz9 : w.heap.size + 2 ≤ w9.heap.size := by have := hg9.size; simp at this; omega
      have own9' : w9.ownsRow (w.heap.size + 2) 31 4 v9 (k + 1) (encL (trL X Y c (k + 1))) := by rw [enc_succ]; exact own9
      have HO9 := Lib.hid own9'
      clear own9 own9' hg9 hn9 N8 HO HLO lq pq qq rq B HQ H1 hz c0 c1 c2 c3 H5
      go_wp2_with fail
      exact ⟨⟨k + 1, v9, by omega, by first | go_num | simp, rfl, B9, hz9, HQ9, H19, HO9.out⟩, by simp [intOf]; omega⟩
    · obtain rfl : k = n := by omega
      obtain ⟨lq, pq, qq, rq⟩ := id HQ
      have HO := Lib.hid O
      clear O
      go_wp2_with fail
      rcases HO.out.2 with ⟨rfl, h0⟩ | ⟨g9, cp9, cur9, rfl, hg9, hcur, hn9, hm9, hs9, ht9⟩
      · refine (squareWith_none _ _ _ _).mono ?_
        rintro e w5 ⟨rfl, hb⟩
        replace H1 := H1.below hb
        replace B := nxt B hb
        clear hb lq pq qq rq HQ HO
        obtain ⟨p1, q1, r1⟩ := H1.cells3
        have f10 := H1.frozen 0
        have f11 := H1.frozen 1
        have f12 := H1.frozen 2
        go_wp2_with fail
        have F1 := H1.set3 (.int .i8 Y) (.int .i8 X) (.slice none 0 0)
        have B3 := below_set3 (g := w.heap.size + 1) (v0 := .int .i8 Y) (v1 := .int .i8 X) (v2 := .slice none 0 0) B (by omega)
        obtain ⟨x1, y1, z1⟩ := F1.cells3
        subst h0
        refine bodyPost_ret (v := .tuple #[.agg #[.int .i8 Y, .int .i8 X, .slice none 0 0], .int .i64 0]) (by simp [results, Try.results27, go_sem, x1, y1, z1]) rfl ⟨B3, _, [], rfl, ⟨List.Perm.refl _, List.Pairwise.nil⟩, ⟨none, 0, 0, rfl, fun h => absurd h (by omega), fun j hj => absurd hj (by omega)⟩⟩
      · obtain ⟨A9, g9', cp9', S9⟩ := own_has HO.out (f := fL (trL X Y c k)) (fun j hj => encL_get _ j (by rw [trL_length]; exact hj))
        have hO9 : Own8 wr g9 0 (4 * k) (fL (trL X Y c k)) := by
          rcases Nat.eq_zero_or_pos k with hk0 | hk0
          · intro j hj; omega
          · have e1 := S9.1
            have e2 := (S9.2.1 hk0).1
            simp only [Value.slice.injEq] at e1
            rw [← e1.1] at e2
            injection e2 with e2
            injection e2 with e2
            subst e2
            exact S9.2.2
        have hlt9 : g9 < wr.heap.size := (Array.getElem?_eq_some_iff.1 hcur).1
        clear S9 hcur hs9 ht9
        refine (squareWith_any _ _ g9 k cp9 _ _ (by omega) hlt9 hO9).mono ?_
        rintro e w5 ⟨rfl, hgr, L, hSo, hOL⟩
        have hzz : toL (fL (trL X Y c k)) k = trL X Y c k := by have := toL_fL (trL X Y c k); rwa [trL_length] at this
        rw [hzz] at hSo
        replace H1 := H1.of_block (hgr.block _ H1.lt (fun e => by injection e; omega))
        replace B := below_grown B hgr B.size (by omega)
        have hlt5 : g9 < w5.heap.size := Nat.lt_of_lt_of_le hlt9 hgr.size
        have HSo := Lib.hid hSo
        have HOL := Lib.hid hOL
        clear hgr hSo hOL hO9 hzz lq pq qq rq HQ HO
        obtain ⟨p1, q1, r1⟩ := H1.cells3
        have f10 := H1.frozen 0
        have f11 := H1.frozen 1
        have f12 := H1.frozen 2
        go_wp2_with fail
        have F1 := H1.set3 (.int .i8 Y) (.int .i8 X) (.slice (some ⟨g9, 0, none⟩) k cp9)
        have B3 := below_set3 (g := w.heap.size + 1) (v0 := .int .i8 Y) (v1 := .int .i8 X) (v2 := .slice (some ⟨g9, 0, none⟩) k cp9) B (by omega)
        obtain ⟨x1, y1, z1⟩ := F1.cells3
        refine bodyPost_ret (v := .tuple #[.agg #[.int .i8 Y, .int .i8 X, .slice (some ⟨g9, 0, none⟩) k cp9], .int .i64 0]) (by simp [results, Try.results27, go_sem, x1, y1, z1]) rfl ⟨B3, _, L, rfl, HSo.out, ⟨some ⟨g9, 0, none⟩, g9, cp9, rfl, fun _ => ⟨rfl, by omega, by simp; exact hlt5⟩, OwnK.of_block (kd := .i8) HOL.out (blk3 (by omega))⟩⟩
theorem impl_bad (X Y : Int) (g n : Nat) (c : Nat → Int) (w : World) (hX : -128 ≤ X ∧ X ≤ 127) (hY : -128 ≤ Y ∧ Y ≤ 127) (hc : ∀ j, -128 ≤ c j ∧ c j ≤ 127) (hm : n ≤ 1048576) (hrow : w.rowIs g 31 (4 * n) (fun j => .int .i8 (c j))) (hv : ¬ Valid X Y n c) :
    Calls Try.prog 27 #[.agg #[.int .i8 X, .int .i8 Y, .slice (some ⟨g, 0, none⟩) n n]] w fun e w' => Below w.heap.size w w' ∧ ∃ v, e = .returned (.tuple #[.agg #[.int .i8 0, .int .i8 0, v], .int .i64 1]) ∧ HasSlice .i8 4 w' w.heap.size v 0 (fL []) := by
  have HC := Lib.hid hc
  clear hc
  go_enter Try.func27, Try.ntmps27
  go_wp2_with fail
  have HQ := (Sq.new w X Y (.slice (some ⟨g, 0, none⟩) n n) 29).alloc (.cells #[.int .i8 0, .int .i8 0, .slice none 0 0] 29)
  have H1 : Bx ((w.alloc (.cells #[.int .i8 X, .int .i8 Y, .slice (some ⟨g, 0, none⟩) n n] 29)).alloc (.cells #[.int .i8 0, .int .i8 0, .slice none 0 0] 29)) (w.heap.size + 1) #[.int .i8 0, .int .i8 0, .slice none 0 0] 29 := by
    have := Bx.new (w.alloc (.cells #[.int .i8 X, .int .i8 Y, .slice (some ⟨g, 0, none⟩) n n] 29)) #[.int .i8 0, .int .i8 0, .slice none 0 0] 29
    rwa [World.size_alloc] at this
  have B := al (al (Below.refl w.heap.size w) (.cells #[.int .i8 X, .int .i8 Y, .slice (some ⟨g, 0, none⟩) n n] 29)) (.cells #[.int .i8 0, .int .i8 0, .slice none 0 0] 29)
  obtain ⟨W0, hW0⟩ : ∃ W0 : World, W0 = ((w.alloc (.cells #[.int .i8 X, .int .i8 Y, .slice (some ⟨g, 0, none⟩) n n] 29)).alloc (.cells #[.int .i8 0, .int .i8 0, .slice none 0 0] 29)) := ⟨_, rfl⟩
  rw [← hW0] at HQ H1 B ⊢
  clear hW0
  refine (implValid_any X Y g n c _ hX hY HC.out hm (hrow.of_block (B.block _ hrow.lt))).mono ?_
  rintro e w1 ⟨hb, ⟨h, _⟩ | ⟨_, rfl⟩⟩
  case inl => exact absurd h hv
  replace H1 := H1.below hb
  replace B := nxt B hb
  clear hb HQ
  obtain ⟨p1, q1, r1⟩ := H1.cells3
  have f10 := H1.frozen 0
  have f11 := H1.frozen 1
  have f12 := H1.frozen 2
  go_wp2_with fail
  have F1 := H1.set3 (.int .i8 0) (.int .i8 0) (.slice none 0 0)
  have B3 := below_set3 (g := w.heap.size + 1) (v0 := .int .i8 0) (v1 := .int .i8 0) (v2 := .slice none 0 0) B (by omega)
  obtain ⟨x1, y1, z1⟩ := F1.cells3
  refine bodyPost_ret (v := .tuple #[.agg #[.int .i8 0, .int .i8 0, .slice none 0 0], .int .i64 1]) (by simp [results, Try.results27, go_sem, x1, y1, z1]) rfl ⟨B3, _, rfl, ⟨none, 0, 0, rfl, fun h => absurd h (by omega), fun j hj => absurd hj (by omega)⟩⟩
theorem spec_bad (X Y : Int) (g n : Nat) (c : Nat → Int) (w : World) (hX : -128 ≤ X ∧ X ≤ 127) (hY : -128 ≤ Y ∧ Y ≤ 127) (hc : ∀ j, -128 ≤ c j ∧ c j ≤ 127) (hm : n ≤ 1048576) (hrow : w.rowIs g 31 (4 * n) (fun j => .int .i8 (c j))) (hv : ¬ Valid X Y n c) :
    Calls Try.prog 26 #[.agg #[.int .i8 X, .int .i8 Y, .slice (some ⟨g, 0, none⟩) n n]] w fun e w' => Below w.heap.size w w' ∧ ∃ v, e = .returned (.tuple #[.agg #[.int .i8 0, .int .i8 0, v], .int .i64 1]) ∧ HasSlice .i8 4 w' w.heap.size v 0 (fL []) := by
  have HC := Lib.hid hc
  clear hc
  go_enter Try.func26, Try.ntmps26
  go_wp2_with fail
  have HQ := (Sq.new w X Y (.slice (some ⟨g, 0, none⟩) n n) 29).alloc (.cells #[.int .i8 0, .int .i8 0, .slice none 0 0] 29)
  have H1 : Bx ((w.alloc (.cells #[.int .i8 X, .int .i8 Y, .slice (some ⟨g, 0, none⟩) n n] 29)).alloc (.cells #[.int .i8 0, .int .i8 0, .slice none 0 0] 29)) (w.heap.size + 1) #[.int .i8 0, .int .i8 0, .slice none 0 0] 29 := by
    have := Bx.new (w.alloc (.cells #[.int .i8 X, .int .i8 Y, .slice (some ⟨g, 0, none⟩) n n] 29)) #[.int .i8 0, .int .i8 0, .slice none 0 0] 29
    rwa [World.size_alloc] at this
  have B := al (al (Below.refl w.heap.size w) (.cells #[.int .i8 X, .int .i8 Y, .slice (some ⟨g, 0, none⟩) n n] 29)) (.cells #[.int .i8 0, .int .i8 0, .slice none 0 0] 29)
  obtain ⟨W0, hW0⟩ : ∃ W0 : World, W0 = ((w.alloc (.cells #[.int .i8 X, .int .i8 Y, .slice (some ⟨g, 0, none⟩) n n] 29)).alloc (.cells #[.int .i8 0, .int .i8 0, .slice none 0 0] 29)) := ⟨_, rfl⟩
  rw [← hW0] at HQ H1 B ⊢
  clear hW0
  refine (ok_any X Y w.heap.size g n c _ hX hY HC.out hm HQ (hrow.of_block (B.block _ hrow.lt))).mono ?_
  rintro e w1 ⟨hb, ⟨h, _⟩ | ⟨_, rfl⟩⟩
  case inl => exact absurd h hv
  replace H1 := H1.below hb
  replace B := nxt B hb
  clear hb HQ
  obtain ⟨p1, q1, r1⟩ := H1.cells3
  have f10 := H1.frozen 0
  have f11 := H1.frozen 1
  have f12 := H1.frozen 2
  go_wp2_with fail
  have F1 := H1.set3 (.int .i8 0) (.int .i8 0) (.slice none 0 0)
  have B3 := below_set3 (g := w.heap.size + 1) (v0 := .int .i8 0) (v1 := .int .i8 0) (v2 := .slice none 0 0) B (by omega)
  obtain ⟨x1, y1, z1⟩ := F1.cells3
  refine bodyPost_ret (v := .tuple #[.agg #[.int .i8 0, .int .i8 0, .slice none 0 0], .int .i64 1]) (by simp [results, Try.results26, go_sem, x1, y1, z1]) rfl ⟨B3, _, rfl, ⟨none, 0, 0, rfl, fun h => absurd h (by omega), fun j hj => absurd hj (by omega)⟩⟩
theorem spec_in (X Y : Int) (g n : Nat) (c : Nat → Int) (w : World) (hX : -128 ≤ X ∧ X ≤ 127) (hY : -128 ≤ Y ∧ Y ≤ 127) (hc : ∀ j, -128 ≤ c j ∧ c j ≤ 127) (hm : n ≤ 1048576) (hrow : w.rowIs g 31 (4 * n) (fun j => .int .i8 (c j))) (hv : Valid X Y n c) :
    Calls Try.prog 26 #[.agg #[.int .i8 X, .int .i8 Y, .slice (some ⟨g, 0, none⟩) n n]] w fun e w' => Below w.heap.size w w' ∧ ∃ v L, e = .returned (.tuple #[.agg #[.int .i8 Y, .int .i8 X, v], .int .i64 0]) ∧ SortedOf (trL X Y c n) L ∧ HasSlice .i8 4 w' w.heap.size v n (fL L) := by
  obtain ⟨i0, hi0, hz0, hz1, hz2⟩ := info_parts infoSlab
  have HI := Lib.hid hi0
  have hn60 := hv.2.2.2.2.1
  have hside : 1 ≤ X ∧ X ≤ 12 ∧ 1 ≤ Y ∧ Y ≤ 12 := ⟨hv.1, hv.2.1, hv.2.2.1, hv.2.2.2.1⟩
  have HC := Lib.hid hc
  have HOK := Lib.hid hv.2.2.2.2.2
  have HV := Lib.hid hv
  clear hc hi0 hv
  go_enter Try.func26, Try.ntmps26
  go_wp2_with fail
  have HQ := (Sq.new w X Y (.slice (some ⟨g, 0, none⟩) n n) 29).alloc (.cells #[.int .i8 0, .int .i8 0, .slice none 0 0] 29)
  have H1 : Bx ((w.alloc (.cells #[.int .i8 X, .int .i8 Y, .slice (some ⟨g, 0, none⟩) n n] 29)).alloc (.cells #[.int .i8 0, .int .i8 0, .slice none 0 0] 29)) (w.heap.size + 1) #[.int .i8 0, .int .i8 0, .slice none 0 0] 29 := by
    have := Bx.new (w.alloc (.cells #[.int .i8 X, .int .i8 Y, .slice (some ⟨g, 0, none⟩) n n] 29)) #[.int .i8 0, .int .i8 0, .slice none 0 0] 29
    rwa [World.size_alloc] at this
  have B := al (al (Below.refl w.heap.size w) (.cells #[.int .i8 X, .int .i8 Y, .slice (some ⟨g, 0, none⟩) n n] 29)) (.cells #[.int .i8 0, .int .i8 0, .slice none 0 0] 29)
  obtain ⟨W0, hW0⟩ : ∃ W0 : World, W0 = ((w.alloc (.cells #[.int .i8 X, .int .i8 Y, .slice (some ⟨g, 0, none⟩) n n] 29)).alloc (.cells #[.int .i8 0, .int .i8 0, .slice none 0 0] 29)) := ⟨_, rfl⟩
  rw [← hW0] at HQ H1 B ⊢
  clear hW0
  refine (ok_any X Y w.heap.size g n c _ hX hY HC.out hm HQ (hrow.of_block (B.block _ hrow.lt))).mono ?_
  rintro e w1 ⟨hb, ⟨_, rfl⟩ | ⟨h, _⟩⟩
  case inr => exact absurd HV.out h
  replace HQ := HQ.below hb
  replace H1 := H1.below hb
  replace B := nxt B hb
  clear hb
  obtain ⟨lq, pq, qq, rq⟩ := id HQ
  have hz2' : w.heap.size + 2 ≤ w1.heap.size := H1.lt
  go_wp2_with fail
  clear lq pq qq rq
  obtain ⟨W1, hW1⟩ : ∃ W1 : World, W1 = w1.alloc (.cells #[] 31) := ⟨_, rfl⟩
  have O0 : W1.ownsRow (w.heap.size + 2) 31 4 (.slice (some ⟨w1.heap.size, 0, none⟩) 0 0) 0 (encL (trL X Y c 0)) := by
    rw [hW1]; exact World.ownsRow_made w1 #[] 0 hz2' (Nat.zero_le _) rfl
  have B1 := al B (.cells #[] 31)
  have HQ1 := HQ.alloc (.cells #[] 31)
  have H11 := H1.alloc (.cells #[] 31)
  rw [← hW1] at B1 HQ1 H11 ⊢
  have hz3 : w.heap.size + 2 ≤ W1.heap.size := H11.lt
  clear hW1 B HQ H1 hz2'
  go_loopw [4, 5, 6] (fun t4 t5 t6 wr => ∃ (k : Nat) (v : Value), k ≤ n ∧ t5 = .int .i64 k ∧ v = t4 ∧ Below w.heap.size w wr ∧ w.heap.size + 2 ≤ wr.heap.size ∧ Sq wr w.heap.size X Y (.slice (some ⟨g, 0, none⟩) n n) ∧ Bx wr (w.heap.size + 1) #[.int .i8 0, .int .i8 0, .slice none 0 0] 29 ∧ wr.ownsRow (w.heap.size + 2) 31 4 v k (encL (trL X Y c k))) (fun t4 t5 t6 wr => n - (intOf t5).toNat)
  case atStart => exact ⟨0, _, by omega, rfl, rfl, B1, hz3, HQ1, H11, O0⟩
  case round =>
    clear B1 HQ1 H11 hz3 O0
    obtain ⟨k, v, hk, rfl, rfl, B, hz, HQ, H1, O⟩ := hrel
    by_cases hlt : k < n
    · have hslab := (Own8.of_row (f := c) (hrow.of_block (B.block _ hrow.lt)))
      obtain ⟨c0, c1, c2, c3⟩ := hslab.at4 hlt |>.1
      simp only [Nat.zero_add] at c0 c1 c2 c3
      have hl := (HOK.out k hlt).1
      unfold lies at hl
      have hb1 := HC.out (4 * k + 1)
      have hb0 := HC.out (4 * k)
      have hb2 := HC.out (4 * k + 2)
      have hb3 := HC.out (4 * k + 3)
      have w1' : IntKind.i8.wrap (Y - c (4 * k + 1)) = Y - c (4 * k + 1) := IntWalk.i8_in _ (by omega)
      have w2' : IntKind.i8.wrap (Y - c (4 * k + 1) - c (4 * k + 3)) = Y - c (4 * k + 1) - c (4 * k + 3) := IntWalk.i8_in _ (by omega)
      have HO := Lib.hid O
      obtain ⟨lq, pq, qq, rq⟩ := id HQ
      have hlo : ∀ b, v.ownBlock = some b → w.heap.size + 2 ≤ b ∧ b < wr.heap.size := fun b e => World.ownsRow.lt O b e
      have HLO := Lib.hid hlo
      have hkn : (k : Int) < (n : Int) := by omega
      have hk0 : (0 : Int) ≤ (k : Int) := by omega
      have H5 := Sl.new wr (c (4 * k)) (c (4 * k + 1)) (c (4 * k + 2)) (c (4 * k + 3)) 31
      have N8 : Hid (∀ j u, (#[.int .i8 (Y - c (4 * k + 1) - c (4 * k + 3)), .int .i8 (c (4 * k)), .int .i8 (c (4 * k + 3)), .int .i8 (c (4 * k + 2))] : Array Value).toList[j]? = some u → ((wr.alloc (.cells #[.int .i8 (c (4 * k)), .int .i8 (c (4 * k + 1)), .int .i8 (c (4 * k + 2)), .int .i8 (c (4 * k + 3))] 31)).alloc (.cells #[.int .i8 (Y - c (4 * k + 1) - c (4 * k + 3)), .int .i8 (c (4 * k)), .int .i8 (c (4 * k + 3)), .int .i8 (c (4 * k + 2))] 31)).cell? ((⟨wr.heap.size + 1, 0, none⟩ : Addr).add j) = some u) := by
        have := new_cells (wr.alloc (.cells #[.int .i8 (c (4 * k)), .int .i8 (c (4 * k + 1)), .int .i8 (c (4 * k + 2)), .int .i8 (c (4 * k + 3))] 31)) #[.int .i8 (Y - c (4 * k + 1) - c (4 * k + 3)), .int .i8 (c (4 * k)), .int .i8 (c (4 * k + 3)), .int .i8 (c (4 * k + 2))] 31
        rw [World.size_alloc] at this
        exact this
      clear O hlo hslab hl hb0 hb1 hb2 hb3
      go_wp2_with (at_builtin; refine wpList_append_own _ rfl _ _ 27 rfl (w.heap.size + 2) 31 i0 (.agg #[.int .i8 0, .int .i8 0, .int .i8 0, .int .i8 0]) 4 4 Try.underlying27 HI.out hz0 hz1 hz2 rfl (by decide) v k (encL (trL X Y c k)) rfl (World.ownsRow.alloc (World.ownsRow.alloc HO.out _) _) ⟨wr.heap.size + 1, 0, none⟩ 1 1 (#[.int .i8 (Y - c (4 * k + 1) - c (4 * k + 3)), .int .i8 (c (4 * k)), .int .i8 (c (4 * k + 3)), .int .i8 (c (4 * k + 2))] : Array Value).toList rfl rfl N8.out (by intro u hu; simp at hu; rcases hu with rfl | rfl | rfl | rfl <;> rfl) (by unfold maxLen; omega) (by omega) (by simp; omega) ?_)
      intro v9 w9 own9 hg9 hn9
      have B9 : Below w.heap.size w w9 := (al (al B _) _).grown hg9 (al (al B _) _).size (fun b e => by have := (HLO.out b e).1; omega)
      have HQ9 := ((HQ.alloc (.cells #[.int .i8 (c (4 * k)), .int .i8 (c (4 * k + 1)), .int .i8 (c (4 * k + 2)), .int .i8 (c (4 * k + 3))] 31)).alloc (.cells #[.int .i8 (Y - c (4 * k + 1) - c (4 * k + 3)), .int .i8 (c (4 * k)), .int .i8 (c (4 * k + 3)), .int .i8 (c (4 * k + 2))] 31)).of_block hg9.size (hg9.block _ (by simp; have := HQ.1; omega) (fun e => by have := (HLO.out _ e.symm).1; omega))
      have H19 := ((H1.alloc (.cells #[.int .i8 (c (4 * k)), .int .i8 (c (4 * k + 1)), .int .i8 (c (4 * k + 2)), .int .i8 (c (4 * k + 3))] 31)).alloc (.cells #[.int .i8 (Y - c (4 * k + 1) - c (4 * k + 3)), .int .i8 (c (4 * k)), .int .i8 (c (4 * k + 3)), .int .i8 (c (4 * k + 2))] 31)).of_block (hg9.block _ (by simp; have := H1.lt; omega) (fun e => by have := (HLO.out _ e.symm).1; omega))
      have hz9 : w.heap.size + 2 ≤ w9.heap.size := by have := hg9.size; simp at this; omega
      have own9' : w9.ownsRow (w.heap.size + 2) 31 4 v9 (k + 1) (encL (trL X Y c (k + 1))) := by rw [enc_succ]; exact own9
      have HO9 := Lib.hid own9'
      clear own9 own9' hg9 hn9 N8 HO HLO lq pq qq rq B HQ H1 hz c0 c1 c2 c3 H5
      go_wp2_with fail
      exact ⟨⟨k + 1, v9, by omega, by first | go_num | simp, rfl, B9, hz9, HQ9, H19, HO9.out⟩, by simp [intOf]; omega⟩
    · obtain rfl : k = n := by omega
      obtain ⟨lq, pq, qq, rq⟩ := id HQ
      have HO := Lib.hid O
      clear O
      go_wp2_with fail
      obtain ⟨A9, g9, cp9, rfl, h91, h92⟩ := own_has HO.out (f := fL (trL X Y c k)) (fun j hj => encL_get _ j (by rw [trL_length]; exact hj))
      have hrd : Rd8 wr.drew wr.drew.heap.size A9 (4 * k) (fL (trL X Y c k)) := fun h0 => by
        obtain ⟨e, _, l⟩ := h91 (by omega)
        exact ⟨g9, 0, e, l, fun j hj => (h92 j hj).1⟩
      have HRD := Lib.hid hrd
      clear HO h91 h92 hrd
      replace B := B.drew
      replace HQ : Sq wr.drew w.heap.size X Y (.slice (some ⟨g, 0, none⟩) k k) := HQ
      replace H1 : Bx wr.drew (w.heap.size + 1) #[.int .i8 0, .int .i8 0, .slice none 0 0] 29 := H1
      replace hz : w.heap.size + 2 ≤ wr.drew.heap.size := hz
      clear lq pq qq rq
      obtain ⟨lq, pq, qq, rq⟩ := id HQ
      refine wp_region_held_drew (S := (fun w' => w'.cell? ⟨w.heap.size, 0, none⟩ = some (.int .i8 X) ∧ w'.cell? ⟨w.heap.size, 1, none⟩ = some (.int .i8 Y))) (by kernel_rfl) ⟨pq, qq⟩ (fun hHeld => ?_)
      obtain ⟨wd, hwd⟩ : ∃ wd, wr.drew = wd := ⟨_, rfl⟩
      rw [hwd] at hHeld B HQ H1 hz HRD lq pq qq rq ⊢
      clear hwd
      refine wpAnyH_take (i := 0) (oi := _) (v := ?_) rfl (by kernel_rfl) (by kernel_rfl) (by kernel_rfl) (fun _ _ _ h => h) (Or.inl ⟨by kernel_rfl, ?_⟩) (by assumption) ?_
      rotate_left
      · intro w hSw; (try dsimp only at hSw); go_simp; first | done | with_reducible rfl
      try simp only [List.getElem_toArray, List.getElem_cons_zero, List.getElem_cons_succ, Act.put, List.setIfInBounds_toArray, List.set_cons_zero, List.set_cons_succ]
      refine wpAnyH_take (i := 1) (oi := _) (v := ?_) rfl (by kernel_rfl) (by kernel_rfl) (by kernel_rfl) (fun _ _ _ h => h) (Or.inl ⟨by kernel_rfl, ?_⟩) (by assumption) ?_
      rotate_left
      · intro w hSw; (try dsimp only at hSw); go_simp; first | done | with_reducible rfl
      try simp only [List.getElem_toArray, List.getElem_cons_zero, List.getElem_cons_succ, Act.put, List.setIfInBounds_toArray, List.set_cons_zero, List.set_cons_succ]
      refine wpAnyH_take (i := 2) (oi := _) (v := ?_) rfl (by kernel_rfl) (by kernel_rfl) (by kernel_rfl) (fun _ _ _ h => h) (Or.inl ⟨by kernel_rfl, ?_⟩) (by assumption) ?_
      rotate_left
      · intro w hSw; (try dsimp only at hSw); go_simp; first | done | with_reducible rfl
      try simp only [List.getElem_toArray, List.getElem_cons_zero, List.getElem_cons_succ, Act.put, List.setIfInBounds_toArray, List.set_cons_zero, List.set_cons_succ]
      refine wpAnyH_take (i := 3) (oi := _) (v := ?_) rfl (by kernel_rfl) (by kernel_rfl) (by kernel_rfl) (fun _ _ _ h => h) (Or.inl ⟨by kernel_rfl, ?_⟩) (by assumption) ?_
      rotate_left
      · intro w hSw; (try dsimp only at hSw); go_simp; first | done | with_reducible rfl
      try simp only [List.getElem_toArray, List.getElem_cons_zero, List.getElem_cons_succ, Act.put, List.setIfInBounds_toArray, List.set_cons_zero, List.set_cons_succ]
      refine wpAnyH_take (i := 4) (oi := _) (v := ?_) rfl (by kernel_rfl) (by kernel_rfl) (by kernel_rfl) (fun _ _ _ h => h) (Or.inl ⟨by kernel_rfl, ?_⟩) (by assumption) ?_
      rotate_left
      · intro w hSw; (try dsimp only at hSw); go_simp; first | done | with_reducible rfl
      try simp only [List.getElem_toArray, List.getElem_cons_zero, List.getElem_cons_succ, Act.put, List.setIfInBounds_toArray, List.set_cons_zero, List.set_cons_succ]
      refine wpAnyH_ready (rs := [5]) (by kernel_rfl) (by simp) ?_
      refine AllReadyH.cons (o := _) rfl (fun K hK => ?_) AllReadyH.nil
      go_simp
      refine (sorted_any A9 k cp9 (fL (trL X Y c k)) _ (by omega) HRD.out).mono ?_
      rintro e w5 ⟨hb, go, cpo, L, rfl, hLL, hSo, hOL⟩
      have hzz : toL (fL (trL X Y c k)) k = trL X Y c k := by have := toL_fL (trL X Y c k); rwa [trL_length] at this
      rw [hzz] at hSo
      have hsb := B.size
      replace HQ := HQ.below hb
      replace H1 := H1.below hb
      replace B := nxt B hb
      have HSo := Lib.hid hSo
      have HOL := Lib.hid hOL
      clear hb hSo hOL hzz lq pq qq rq
      obtain ⟨lq, pq, qq, rq⟩ := id HQ
      obtain ⟨p1, q1, r1⟩ := H1.cells3
      have f10 := H1.frozen 0
      have f11 := H1.frozen 1
      have f12 := H1.frozen 2
      have hne : w.heap.size ≠ w.heap.size + 1 := by omega
      refine hK.out _ _ ⟨pq, qq⟩ (fun hHeld => ?_)
      clear hK K
      try simp only [List.getElem_toArray, List.getElem_cons_zero, List.getElem_cons_succ, Act.put, List.setIfInBounds_toArray, List.set_cons_zero, List.set_cons_succ]
      refine wpAnyH_take (i := 6) (oi := _) (v := ?_) rfl (by kernel_rfl) (by kernel_rfl) (by kernel_rfl) (fun _ _ _ h => h) (Or.inl ⟨by kernel_rfl, ?_⟩) (by assumption) ?_
      rotate_left
      · intro w hSw; (try dsimp only at hSw); go_simp; first | done | with_reducible rfl
      try simp only [List.getElem_toArray, List.getElem_cons_zero, List.getElem_cons_succ, Act.put, List.setIfInBounds_toArray, List.set_cons_zero, List.set_cons_succ]
      refine wpAnyH_ready (rs := [7]) (by kernel_rfl) (by simp) ?_
      refine AllReadyH.cons (o := _) rfl (fun K hK => ?_) AllReadyH.nil
      go_simp
      refine hK.out _ _ ⟨(World.cell?_of_block (w := w5) (blk3 hne)).trans pq, (World.cell?_of_block (w := w5) (blk3 hne)).trans qq⟩ (fun hHeld => ?_)
      clear hK K
      try simp only [List.getElem_toArray, List.getElem_cons_zero, List.getElem_cons_succ, Act.put, List.setIfInBounds_toArray, List.set_cons_zero, List.set_cons_succ]
      refine wpAnyH_take (i := 8) (oi := _) (v := ?_) rfl (by kernel_rfl) (by kernel_rfl) (by kernel_rfl) (fun _ _ _ h => h) (Or.inl ⟨by kernel_rfl, ?_⟩) (by assumption) ?_
      rotate_left
      · intro w hSw; (try dsimp only at hSw); go_simp; first | done | with_reducible rfl
      try simp only [List.getElem_toArray, List.getElem_cons_zero, List.getElem_cons_succ, Act.put, List.setIfInBounds_toArray, List.set_cons_zero, List.set_cons_succ]
      refine wpAnyH_done (by kernel_rfl) ?_ _
      clear hHeld
      go_wp2_with fail
      have F1 := H1.set3 (.int .i8 Y) (.int .i8 X) (.slice (some ⟨go, 0, none⟩) k cpo)
      have B3 := below_set3 (g := w.heap.size + 1) (v0 := .int .i8 Y) (v1 := .int .i8 X) (v2 := .slice (some ⟨go, 0, none⟩) k cpo) B (by omega)
      obtain ⟨x1, y1, z1⟩ := F1.cells3
      obtain ⟨A8, g8, cp8, e8, h81, h82⟩ := OwnQ.has HOL.out
      rw [hLL] at e8 h81 h82
      refine bodyPost_ret (v := .tuple #[.agg #[.int .i8 Y, .int .i8 X, .slice (some ⟨go, 0, none⟩) k cpo], .int .i64 0]) (by simp [results, Try.results26, go_sem, x1, y1, z1]) rfl ⟨B3, _, L, rfl, HSo.out, A8, g8, cp8, SliceOf.kept (w := w5) ⟨e8, fun h => ⟨(h81 h).1, by have := (h81 h).2.1; omega, (h81 h).2.2⟩, h82⟩ (by simp) (fun h => blk3 (by have := (h81 h).2.1; omega))⟩
theorem both (X Y : Int) (n : Nat) (c : Nat → Int) (hX : -128 ≤ X ∧ X ≤ 127) (hY : -128 ≤ Y ∧ Y ≤ 127) (hc : ∀ j, -128 ≤ c j ∧ c j ≤ 127) (hm : n ≤ 1048576) :
    ∃ (rx ry r1 : Int) (nn : Nat) (ff : Nat → Int), nn ≤ 1000 ∧
      (∀ (W : World) (g : Nat), W.rowIs g 31 (4 * n) (fun j => .int .i8 (c j)) → Calls Try.prog 26 #[.agg #[.int .i8 X, .int .i8 Y, .slice (some ⟨g, 0, none⟩) n n]] W fun e w' => Below W.heap.size W w' ∧ ∃ v, e = .returned (.tuple #[.agg #[.int .i8 rx, .int .i8 ry, v], .int .i64 r1]) ∧ HasSlice .i8 4 w' W.heap.size v nn ff) ∧
      (∀ (W : World) (g : Nat), W.rowIs g 31 (4 * n) (fun j => .int .i8 (c j)) → Calls Try.prog 27 #[.agg #[.int .i8 X, .int .i8 Y, .slice (some ⟨g, 0, none⟩) n n]] W fun e w' => Below W.heap.size W w' ∧ ∃ v, e = .returned (.tuple #[.agg #[.int .i8 rx, .int .i8 ry, v], .int .i64 r1]) ∧ HasSlice .i8 4 w' W.heap.size v nn ff) := by
  by_cases hv : Valid X Y n c
  · have hn60 := hv.2.2.2.2.1
    obtain ⟨L, hL⟩ := exists_sorted (trL X Y c n)
    refine ⟨Y, X, 0, n, fL L, by omega, fun W g R => (spec_in X Y g n c W hX hY hc hm R hv).mono ?_, fun W g R => (impl_in X Y g n c W hX hY hc hm R hv).mono ?_⟩
    · rintro e w' ⟨hb, v, M, rfl, hM, O⟩
      obtain rfl := SortedOf.unique hM hL (apart hv)
      exact ⟨hb, v, rfl, O⟩
    · rintro e w' ⟨hb, v, M, rfl, hM, O⟩
      obtain rfl := SortedOf.unique hM hL (apart hv)
      exact ⟨hb, v, rfl, O⟩
  · refine ⟨0, 0, 1, 0, fL [], by omega, fun W g R => (spec_bad X Y g n c W hX hY hc hm R hv).mono ?_, fun W g R => (impl_bad X Y g n c W hX hY hc hm R hv).mono ?_⟩
    · rintro e w' ⟨hb, v, rfl, O⟩; exact ⟨hb, v, rfl, O⟩
    · rintro e w' ⟨hb, v, rfl, O⟩; exact ⟨hb, v, rfl, O⟩
end Go.Proofs.Yteebkookoidheaa.turnSquare
