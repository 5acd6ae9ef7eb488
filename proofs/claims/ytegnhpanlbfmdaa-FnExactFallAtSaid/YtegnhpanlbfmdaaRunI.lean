/-
  The program's runFrom. Conditions stand at each.
-/
import Derived.Test.YtegnhpanlbfmdaaRows
import Derived.Test.YtegnhpanlbfmdaaSiteI
import Derived.Test.YtegnhpanlbfmdaaRunS
import Derived.WalkMore
namespace Go.Proofs.Ytegnhpanlbfmdaa
open Go Go.ChangeShapes Go.WideShapes Go.ChangeAt Go.RowKit
set_option linter.unusedVariables false
set_option linter.unusedSimpArgs false
set_option maxRecDepth 100000
set_option maxHeartbeats 4000000

theorem least_of {P : Nat → Prop} : ∀ k, P k → ∃ m, P m ∧ ∀ j, j < m → ¬ P j := by
  intro k
  induction k using Nat.strongRecOn with
  | _ k ih =>
    intro hk
    by_cases h : ∃ j, j < k ∧ P j
    · obtain ⟨j, hj, hp⟩ := h
      exact ih j hj hp
    · exact ⟨k, hk, fun j hj hp => h ⟨j, hj, hp⟩⟩
theorem ends_ex {W H : Nat} {h : Nat → Int} (n : Nat) (c : Nat → Int) {p : Nat × Nat} (hp : p.1 < W ∧ p.2 < H) (hH : Hts W H h) : ∃ k, Ends W H h n c p k := by
  have h1 : ∃ k, ¬ Goes W H h n c (wayP W H h p k) := by
    apply Classical.byContradiction
    intro hn
    have hall : ∀ k, Goes W H h n c (wayP W H h p k) := fun k => Classical.byContradiction fun hk => hn ⟨k, hk⟩
    have h2 := way_le hp hH 201 fun j _ => hall j
    have h3 := (hH (wayP W H h p 201) (wayP_in hp 201).1 (wayP_in hp 201).2).1
    omega
  obtain ⟨k, hk⟩ := h1
  obtain ⟨m, hm, hj⟩ := least_of (P := fun k => ¬ Goes W H h n c (wayP W H h p k)) k hk
  exact ⟨m, fun j hjm => Classical.byContradiction fun hc => hj j hjm hc, hm⟩

def RiPost (W H : Nat) (h : Nat → Int) (n : Nat) (c : Nat → Int) (p : Nat × Nat) (w : World) (e : Ending) (w' : World) : Prop :=
  Below w.heap.size w w' ∧ ∃ k v s, e = .returned (.tuple #[v, s]) ∧ Ends W H h n c p k ∧ OwnC w' w.heap.size v (wayL W H h p k) ∧ SiteV W H h n c (wayP W H h p k) s

theorem irun_any (W H x y b m n : Nat) (h c : Nat → Int) (w : World) (hW : W ≤ 9) (hH : H ≤ 9) (hx : x < W) (hy : y < H) (hh : ∀ p, -32768 ≤ h p ∧ h p ≤ 32767) (ht : Hts W H h) (hc : ∀ j, -128 ≤ c j ∧ c j ≤ 127) (hg : gGls W H c n) (hL : LandAt w b m n W H h c) :
    Calls Try.prog 129 #[.pointer (some ⟨b, 0, none⟩), .agg #[.int .i8 (x : Int), .int .i8 (y : Int)]] w (RiPost W H h n c (x, y) w) := by
  obtain ⟨i0, hi, hz0, hz1, hz2⟩ := info_parts infoCell
  have HH := Lib.hid hh
  have HT := Lib.hid ht
  have HC := Lib.hid hc
  have HGL := Lib.hid hg
  have hl0 := hL.lt
  clear hh ht hc hg
  have B0 := al (al (Below.refl w.heap.size w) (.cells #[.int .i8 (x : Int), .int .i8 (y : Int)] 40)) (.cells #[.int .i8 (x : Int), .int .i8 (y : Int)] 40)
  have O0 := OwnC.one (w := w.alloc (.cells #[.int .i8 (x : Int), .int .i8 (y : Int)] 40)) (base := w.heap.size + 1) (x, y) (by simp)
  rw [World.size_alloc] at O0
  have X3 := (Bx.new w #[.int .i8 (x : Int), .int .i8 (y : Int)] 40).alloc (.cells #[.int .i8 (x : Int), .int .i8 (y : Int)] 40)
  go_enter Try.func129, Try.ntmps129
  go_wp2
  go_step3
  go_wp2_with fail
  obtain ⟨W0, hW0⟩ : ∃ W0 : World, W0 = (w.alloc (.cells #[.int .i8 (x : Int), .int .i8 (y : Int)] 40)).alloc (.cells #[.int .i8 (x : Int), .int .i8 (y : Int)] 40) := ⟨_, rfl⟩
  rw [← hW0] at X3 B0 O0 ⊢
  have hs0 : W0.heap.size = w.heap.size + 2 := by rw [hW0]; simp
  clear hW0
  refine (site_any W H x y b m n h c _ hW hH hx hy HH.out HC.out HGL.out (hL.below B0 hl0)).mono ?_
  rintro e w1 ⟨hb, s0, rfl, hs⟩
  replace O0 := OwnC.below O0 hb
  replace B0 := nxt B0 hb
  clear hb X3
  go_wp2
  go_step3
  go_wp2
  go_loopw [6, 7] (fun t6 t7 wr => ∃ k : Nat, Below w.heap.size w wr ∧ OwnC wr (w.heap.size + 1) t6 (wayL W H h (x, y) k) ∧ (∀ j, j < k → Goes W H h n c (wayP W H h (x, y) j)) ∧ SiteV W H h n c (wayP W H h (x, y) k) t7) (fun t6 t7 _ => 202 - lenOf t6)
  case atStart => exact ⟨0, B0, O0, fun j hj => absurd hj (by omega), hs⟩
  case round =>
    clear B0 O0 hs
    obtain ⟨k, B, O, hg, hs⟩ := hrel
    obtain ⟨v0, rfl⟩ : ∃ v0 : Value, v0 = u6 := ⟨_, rfl⟩
    obtain ⟨wo, rfl⟩ : ∃ wo : World, wo = wr := ⟨_, rfl⟩
    have hpin := wayP_in (W := W) (H := H) (h := h) (p := (x, y)) ⟨hx, hy⟩ k
    have hle := way_le (p := (x, y)) ⟨hx, hy⟩ HT.out k hg
    have hge := (HT.out _ hpin.1 hpin.2).1
    have hk2 : k ≤ 200 := by omega
    have hlen := OwnC.lenOf O
    rw [wayL_length] at hlen
    have HWL := Lib.hid (wayL_succ (W := W) (H := H) (h := h) (p := (x, y)) (k := k))
    have HG := Lib.hid hg
    have HN := Lib.hid (show wayP W H h (x, y) (k + 1) = lowP W H h (wayP W H h (x, y) k) from rfl)
    have HLE := Lib.hid hlen
    clear hg hle hge hlen
    obtain ⟨p, hpp⟩ : ∃ q, wayP W H h (x, y) k = q := ⟨_, rfl⟩
    rw [hpp] at hpin hs
    have HPP := Lib.hid hpp
    clear hpp
    rcases hs with ⟨i, hin, hsi, rfl⟩ | ⟨hna, rfl⟩
    · have HS := Lib.hid hsi
      clear hsi
      go_wp2_with (refine wpList_assert rfl _ _ _ _ rfl _ _ rfl (gully_yes _ _) ?_)
      (try rw [Exit.noGoto_ret])
      refine bodyPost_ret (v := .tuple #[v0, .iface 141 (.agg #[.int .i64 (htP h p), .int .i64 (i : Int)])]) (by simp [results, Try.results129, go_sem]) rfl ⟨al B _, k, _, _, rfl, ⟨HG.out, ?_⟩, World.ownsRow.mono (OwnC.alloc O _) (by omega), ?_⟩
      · rw [HPP.out]; exact fun g => g.1 ⟨i, hin, HS.out⟩
      · rw [HPP.out]; exact .inl ⟨i, hin, HS.out, rfl⟩
    · have HNA := Lib.hid hna
      clear hna
      have hin2 := lowP_in (h := h) hpin
      obtain ⟨⟨qx, qy⟩, hqq⟩ : ∃ q, lowP W H h p = q := ⟨_, rfl⟩
      have hne : lowP W H h p ≠ p → htP h (lowP W H h p) < htP h p := lowP_lt
      unfold pointA
      rw [hqq] at hin2 hne ⊢
      have HQQ := Lib.hid hqq
      clear hqq
      dsimp only at hin2 ⊢
      by_cases hz : (qx, qy) = p
      · have hz0 : htP h p - htP h (qx, qy) = 0 := by rw [hz]; omega
        rw [hz0]
        have HZ := Lib.hid hz
        clear hz hz0 hne
        go_wp2_with (first | (refine wpList_assert rfl _ _ _ _ rfl _ _ rfl (gully_no _ _) ?_) | (refine wpList_assert rfl _ _ _ _ rfl _ _ rfl (point_yes _ _) ?_))
        (try rw [Exit.noGoto_ret])
        refine bodyPost_ret (v := .tuple #[v0, .iface 209 (.agg #[.int .i64 (htP h p), .int .i8 (qx : Int), .int .i8 (qy : Int), .int .i64 0])]) (by simp [results, Try.results129, go_sem]) rfl ⟨al B _, k, _, _, rfl, ⟨HG.out, ?_⟩, World.ownsRow.mono (OwnC.alloc O _) (by omega), ?_⟩
        · rw [HPP.out]; exact fun g => g.2 (by rw [HQQ.out]; exact HZ.out)
        · rw [HPP.out]
          refine .inr ⟨HNA.out, ?_⟩
          unfold pointA
          rw [HQQ.out, show htP h p - htP h (qx, qy) = 0 by rw [HZ.out]; omega]
      · have hlt := hne hz
        have hby0 : (htP h p - htP h (qx, qy) == 0) = false := by simp; omega
        generalize hby : htP h p - htP h (qx, qy) = by_ at hby0 ⊢
        have HZ := Lib.hid hz
        clear hz hne hlt
        have HB := Lib.hid hby
        clear hby
        have hswo : w.heap.size ≤ wo.heap.size := B.size
        have hne9 : v0.ownBlock ≠ some wo.heap.size := fun e => by have := (World.ownsRow.lt O _ e).2; omega
        have X9 := Bx.new wo #[.int .i64 (htP h p), .int .i8 (qx : Int), .int .i8 (qy : Int), .int .i64 by_] 209
        go_upto_region 9 with (first | (refine wpList_assert rfl _ _ _ _ rfl _ _ rfl (gully_no _ _) ?_) | (refine wpList_assert rfl _ _ _ _ rfl _ _ rfl (point_yes _ _) ?_))
        replace O := OwnC.alloc O (.cells #[.int .i64 (htP h p), .int .i8 (qx : Int), .int .i8 (qy : Int), .int .i64 by_] 209)
        replace B := al B (.cells #[.int .i64 (htP h p), .int .i8 (qx : Int), .int .i8 (qy : Int), .int .i64 by_] 209)
        obtain ⟨W6, hW6⟩ : ∃ W6 : World, W6 = wo.alloc (.cells #[.int .i64 (htP h p), .int .i8 (qx : Int), .int .i8 (qy : Int), .int .i64 by_] 209) := ⟨_, rfl⟩
        rw [← hW6] at X9 O B ⊢
        have hs6 : wo.heap.size < W6.heap.size := X9.lt
        clear hW6
        have e0 : W6.cell? ⟨wo.heap.size, 1, none⟩ = some (.int .i8 (qx : Int)) := X9.cell 1
        have e1 : W6.cell? ⟨wo.heap.size, 2, none⟩ = some (.int .i8 (qy : Int)) := X9.cell 2
        have hs7 : w.heap.size + 1 ≤ W6.heap.size := by omega
        go_upto_region 10 with (at_builtin; refine wpList_append_own_at _ rfl _ _ 31 rfl (w.heap.size + 1) 40 i0 (.agg #[.int .i8 0, .int .i8 0]) 2 2 Try.underlying31 hi hz0 hz1 hz2 rfl (by decide) _ _ _ rfl (World.ownsRow.alloc O _) ⟨W6.heap.size, 0, none⟩ 1 1 [.int .i8 (qx : Int), .int .i8 (qy : Int)] rfl rfl (new_cells W6 #[.int .i8 (qx : Int), .int .i8 (qy : Int)] 40) one_ints (by rw [wayL_length]; unfold maxLen; omega) (by rw [wayL_length]; omega) (by simp; omega) ?_; intro v' w5 own' hgr _ hat)
        have hq := HQQ.out
        have B1 : Below w.heap.size w w5 := (al B _).grown hgr (al B _).size (fun k e => by have := (World.ownsRow.lt O k e).1; omega)
        have O1 : OwnC w5 (w.heap.size + 1) v' (wayL W H h (x, y) (k + 1)) := by
          unfold OwnC
          rw [HWL.out, HN.out, HPP.out, hq, cellsL_append, cellsL_one, List.length_append]
          exact own'
        have X91 := (X9.alloc (.cells #[.int .i8 (qx : Int), .int .i8 (qy : Int)] 40)).of_block (hgr.block _ (X9.alloc _).lt (fun e => hne9 e.symm))
        have hl1 := OwnC.lenOf O1
        rw [wayL_length] at hl1
        have HL1 := Lib.hid hl1
        have HQ := Lib.hid hq
        have d0 : w5.cell? ⟨wo.heap.size, 1, none⟩ = some (.int .i8 (qx : Int)) := X91.cell 1
        have d1 : w5.cell? ⟨wo.heap.size, 2, none⟩ = some (.int .i8 (qy : Int)) := X91.cell 2
        have hL5 := hL.below B1 hl0
        clear own' hgr hat O B e0 e1 hl1 hq X9 X91
        go_wp2_with fail
        refine (site_any W H qx qy b m n h c _ hW hH hin2.1 hin2.2 HH.out HC.out HGL.out hL5).mono ?_
        rintro e w8 ⟨hb, s8, rfl, hs8⟩
        replace O1 := OwnC.below O1 hb
        replace B1 := nxt B1 hb
        have HS8 := Lib.hid hs8
        clear hb d0 d1 hL5 hs8
        go_wp2
        refine ⟨⟨k + 1, B1, O1, fun j hj => ?_, ?_⟩, ?_⟩
        · by_cases e : j = k
          · subst e
            rw [HPP.out]
            exact ⟨HNA.out, by rw [HQ.out]; exact HZ.out⟩
          · exact HG.out j (by omega)
        · rw [HN.out, HPP.out, HQ.out]; exact HS8.out
        · show 202 - lenOf v' < 202 - lenOf v0
          rw [HL1.out, HLE.out]; omega
end Go.Proofs.Ytegnhpanlbfmdaa
