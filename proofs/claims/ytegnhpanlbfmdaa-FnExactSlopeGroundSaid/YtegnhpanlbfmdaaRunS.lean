/-
  Contracts of the model's l04Run and l04Drain. Conditions stand at each.
-/
import Derived.Test.YtegnhpanlbfmdaaRows
import Derived.Test.YtegnhpanlbfmdaaFallS
import Derived.Deep.Cut
namespace Go.Proofs.Ytegnhpanlbfmdaa
open Go Go.ChangeShapes Go.WideShapes Go.ChangeAt Go.RowKit
set_option linter.unusedVariables false
set_option linter.unusedSimpArgs false
set_option maxRecDepth 100000
set_option maxHeartbeats 4000000

def lenOf : Value → Nat | .slice _ n _ => n | _ => 0
theorem OwnC.lenOf {w : World} {base : Nat} {v : Value} {L : List (Nat × Nat)} (h : OwnC w base v L) : lenOf v = L.length := by
  obtain ⟨A, cap, rfl, _⟩ := h.form
  rfl
/-- a list of one cell that has been built. -/
theorem OwnC.one {w : World} {base : Nat} (p : Nat × Nat) (hb : base ≤ w.heap.size) : OwnC (w.alloc (.cells #[.int .i8 (p.1 : Int), .int .i8 (p.2 : Int)] 40)) base (.slice (some ⟨w.heap.size, 0, none⟩) 1 1) [p] :=
  ⟨by simp [cellsL, cellV], .inr ⟨w.heap.size, 1, #[.int .i8 (p.1 : Int), .int .i8 (p.2 : Int)], rfl, hb, heap_alloc_new w _, Nat.le_refl _, by unfold maxLen; omega, rfl, by simp [cellsL, cellV]⟩⟩
/-- heights are 0 to 200 within. -/
def Hts (W H : Nat) (h : Nat → Int) : Prop := ∀ p : Nat × Nat, p.1 < W → p.2 < H → 0 ≤ htP h p ∧ htP h p ≤ 200
theorem hts_of {W H : Nat} {h : Nat → Int} (hW : W ≤ 9) (hH : H ≤ 9) (hh : gHts W H h 81) : Hts W H h := fun p h1 h2 => (hh (p.2 * 9 + p.1) (by omega)).1
theorem way_le {W H : Nat} {h : Nat → Int} {n : Nat} {c : Nat → Int} {p : Nat × Nat} (hp : p.1 < W ∧ p.2 < H) (hH : Hts W H h) : ∀ k, (∀ j, j < k → Goes W H h n c (wayP W H h p j)) → htP h (wayP W H h p k) + k ≤ 200
  | 0, _ => by
    have := (hH p hp.1 hp.2).2
    show htP h p + ((0 : Nat) : Int) ≤ 200
    omega
  | k + 1, hg => by
    have h1 := way_le hp hH k fun j hj => hg j (by omega)
    have h2 := lowP_lt (hg k (by omega)).2
    show htP h (lowP W H h (wayP W H h p k)) + ((k + 1 : Nat) : Int) ≤ 200
    omega

def RuPost (W H : Nat) (h : Nat → Int) (n : Nat) (c : Nat → Int) (p : Nat × Nat) (w : World) (e : Ending) (w' : World) : Prop :=
  Below w.heap.size w w' ∧ ∃ k v, e = .returned v ∧ Ends W H h n c p k ∧ OwnC w' w.heap.size v (wayL W H h p k)

theorem grun_any (W H x y : Nat) (h : Nat → Int) (bq : Nat) (A : Option Addr) (n cap : Nat) (c : Nat → Int) (w : World) (hW : W ≤ 9) (hH : H ≤ 9) (hx : x < W) (hy : y < H) (h8 : n ≤ 8) (hh : ∀ p, -32768 ≤ h p ∧ h p ≤ 32767) (ht : Hts W H h) (hB : Bx w bq (gV W H h (.slice A n cap)) 33) (hr : RdK .i8 w w.heap.size A (2 * n) c) :
    Calls Try.prog 128 #[.pointer (some ⟨bq, 0, none⟩), .agg #[.int .i8 (x : Int), .int .i8 (y : Int)]] w (RuPost W H h n c (x, y) w) := by
  obtain ⟨i0, hi, hz0, hz1, hz2⟩ := info_parts infoCell
  have HH := Lib.hid hh
  have HT := Lib.hid ht
  have HR := Lib.hid hr
  have hlt0 := hB.lt
  clear hh ht hr
  have X3 := (Bx.new w #[.int .i8 (x : Int), .int .i8 (y : Int)] 40).alloc (.cells #[.int .i8 (x : Int), .int .i8 (y : Int)] 40)
  have B0 := al (al (Below.refl w.heap.size w) (.cells #[.int .i8 (x : Int), .int .i8 (y : Int)] 40)) (.cells #[.int .i8 (x : Int), .int .i8 (y : Int)] 40)
  have O0 := OwnC.one (w := w.alloc (.cells #[.int .i8 (x : Int), .int .i8 (y : Int)] 40)) (base := w.heap.size + 1) (x, y) (by simp)
  rw [World.size_alloc] at O0
  go_enter Try.func128, Try.ntmps128
  go_wp2
  obtain ⟨W0, hW0⟩ : ∃ W0 : World, W0 = (w.alloc (.cells #[.int .i8 (x : Int), .int .i8 (y : Int)] 40)).alloc (.cells #[.int .i8 (x : Int), .int .i8 (y : Int)] 40) := ⟨_, rfl⟩
  rw [← hW0] at X3 B0 O0 ⊢
  clear hW0
  go_loopw [5, 6, 7, 10] (fun t5 t6 t7 t10 wr => ∃ k : Nat, Below w.heap.size w wr ∧ OwnC wr (w.heap.size + 1) t5 (wayL W H h (x, y) k) ∧ (∀ j, j < k → Goes W H h n c (wayP W H h (x, y) j)) ∧ Bx wr w.heap.size (cellA (wayP W H h (x, y) k)) 40) (fun t5 t6 t7 t10 _ => 202 - lenOf t5)
  case atStart => exact ⟨0, B0, O0, fun j hj => absurd hj (by omega), X3⟩
  case round =>
    clear B0 O0 X3
    obtain ⟨k, B, O, hg, X3⟩ := hrel
    obtain ⟨v0, rfl⟩ : ∃ v0 : Value, v0 = u5 := ⟨_, rfl⟩
    obtain ⟨wo, rfl⟩ : ∃ wo : World, wo = wr := ⟨_, rfl⟩
    have hpin := wayP_in (W := W) (H := H) (h := h) (p := (x, y)) ⟨hx, hy⟩ k
    have hle := way_le (p := (x, y)) ⟨hx, hy⟩ HT.out k hg
    have hge := (HT.out _ hpin.1 hpin.2).1
    have hk2 : k ≤ 200 := by omega
    have hlen := OwnC.lenOf O
    rw [wayL_length] at hlen
    have hnext : wayP W H h (x, y) (k + 1) = lowP W H h (wayP W H h (x, y) k) := rfl
    have hwl := wayL_succ (W := W) (H := H) (h := h) (p := (x, y)) (k := k)
    have HWL := Lib.hid hwl
    have HG := Lib.hid hg
    have HN := Lib.hid hnext
    have HLE := Lib.hid hlen
    clear hwl hg hnext hle hge hlen
    obtain ⟨⟨px, py⟩, hpp⟩ : ∃ q, wayP W H h (x, y) k = q := ⟨_, rfl⟩
    rw [hpp] at hpin X3
    have HPP := Lib.hid hpp
    clear hpp
    dsimp only at hpin
    obtain ⟨hpx, hpy⟩ := hpin
    have X1 : Bx wo bq (gV W H h (.slice A n cap)) 33 := hB.of_block (B.block _ hlt0)
    have c0 : wo.cell? ⟨w.heap.size, 0, none⟩ = some (.int .i8 (px : Int)) := X3.cell 0
    have c1 : wo.cell? ⟨w.heap.size, 1, none⟩ = some (.int .i8 (py : Int)) := X3.cell 1
    go_wp2_with fail
    refine (gfall_any W H px py h bq A n cap c _ hW hH hpx hpy h8 HH.out X1 ((HR.out.below B).mono B.size)).mono ?_
    rintro e w5 ⟨hb, ⟨qx, qy⟩, r, rfl, hr1, hr2⟩
    replace X3 := X3.below hb
    replace O := OwnC.below O hb
    replace B := nxt B hb
    have hs5 : w.heap.size < w5.heap.size := X3.lt
    clear hb c0 c1 X1
    dsimp only [cellA]
    cases r
    · have hnot : ¬ Goes W H h n c (px, py) := fun g => by have := hr1.2 g; cases this
      have HNOT := Lib.hid hnot
      clear hnot hr1 hr2
      go_wp2
      go_ret
      exact ⟨al B _, k, v0, rfl, ⟨HG.out, by rw [HPP.out]; exact HNOT.out⟩, World.ownsRow.mono (OwnC.alloc O _) (by omega)⟩
    · have hgo : Goes W H h n c (px, py) := hr1.1 rfl
      have hq := hr2 rfl
      have HGO := Lib.hid hgo
      have HQ := Lib.hid hq
      clear hgo hq hr1 hr2
      have X6 := Bx.new w5 #[.int .i8 (qx : Int), .int .i8 (qy : Int)] 40
      go_upto_region 5 with fail
      replace X3 := X3.alloc (.cells #[.int .i8 (qx : Int), .int .i8 (qy : Int)] 40)
      replace O := OwnC.alloc O (.cells #[.int .i8 (qx : Int), .int .i8 (qy : Int)] 40)
      replace B := al B (.cells #[.int .i8 (qx : Int), .int .i8 (qy : Int)] 40)
      obtain ⟨W6, hW6⟩ : ∃ W6 : World, W6 = w5.alloc (.cells #[.int .i8 (qx : Int), .int .i8 (qy : Int)] 40) := ⟨_, rfl⟩
      rw [← hW6] at X3 X6 O B ⊢
      clear hW6
      have hs6 := X3.lt
      have s30 : W6.cell? ⟨w.heap.size, 0, none⟩ = some (.int .i8 (px : Int)) := X3.cell 0
      have s31 : W6.cell? ⟨w.heap.size, 1, none⟩ = some (.int .i8 (py : Int)) := X3.cell 1
      have f30 := X3.frozen 0
      have f31 := X3.frozen 1
      have e0 : W6.cell? ⟨w5.heap.size, 0, none⟩ = some (.int .i8 (qx : Int)) := X6.cell 0
      have e1 : W6.cell? ⟨w5.heap.size, 1, none⟩ = some (.int .i8 (qy : Int)) := X6.cell 1
      go_upto_region 6 with fail
      replace X3 : Bx _ w.heap.size (cellA (qx, qy)) 40 := (X3.set 0 (.int .i8 (qx : Int))).set 1 (.int .i8 (qy : Int))
      replace O := (OwnC.setOther (b := w.heap.size) (i := 0) (u := .int .i8 (qx : Int)) O (by omega)).setOther (b := w.heap.size) (i := 1) (u := .int .i8 (qy : Int)) (by omega)
      replace B := (B.setCell (p := ⟨w.heap.size, 0, none⟩) (by simp) (.int .i8 (qx : Int))).setCell (p := ⟨w.heap.size, 1, none⟩) (by simp) (.int .i8 (qy : Int))
      obtain ⟨W7, hW7⟩ : ∃ W7 : World, W7 = (W6.setCell ⟨w.heap.size, 0, none⟩ (.int .i8 (qx : Int))).setCell ⟨w.heap.size, 1, none⟩ (.int .i8 (qy : Int)) := ⟨_, rfl⟩
      rw [← hW7] at X3 O B ⊢
      clear hW7 s30 s31 f30 f31 e0 e1 X6 hs6
      have c0 : W7.cell? ⟨w.heap.size, 0, none⟩ = some (.int .i8 (qx : Int)) := X3.cell 0
      have c1 : W7.cell? ⟨w.heap.size, 1, none⟩ = some (.int .i8 (qy : Int)) := X3.cell 1
      go_wp2_with (at_builtin; refine wpList_append_own _ rfl _ _ 31 rfl (w.heap.size + 1) 40 i0 (.agg #[.int .i8 0, .int .i8 0]) 2 2 Try.underlying31 hi hz0 hz1 hz2 rfl (by decide) _ _ _ rfl (World.ownsRow.alloc O _) ⟨W7.heap.size, 0, none⟩ 1 1 [.int .i8 (qx : Int), .int .i8 (qy : Int)] rfl rfl (new_cells W7 #[.int .i8 (qx : Int), .int .i8 (qy : Int)] 40) one_ints (by rw [wayL_length]; unfold maxLen; omega) (by rw [wayL_length]; omega) (by have := X3.lt; simp; omega) ?_; intro v' w1 own' hgr _)
      have B1 : Below w.heap.size w w1 := (al B _).grown hgr (al B _).size (fun k e => by have := (World.ownsRow.lt O k e).1; omega)
      have O1 : OwnC w1 (w.heap.size + 1) v' (wayL W H h (x, y) (k + 1)) := by
        unfold OwnC
        rw [HWL.out, HN.out, HPP.out, ← HQ.out, cellsL_append, cellsL_one, List.length_append]
        exact own'
      have X31 : Bx w1 w.heap.size (cellA (qx, qy)) 40 := (X3.alloc _).of_block (hgr.block _ (X3.alloc _).lt (fun e => by have := (World.ownsRow.lt O _ e.symm).1; omega))
      have hl1 := OwnC.lenOf O1
      rw [wayL_length] at hl1
      have HL1 := Lib.hid hl1
      clear own' hgr O B c0 c1 hl1
      go_wp2
      refine ⟨⟨k + 1, B1, O1, fun j hj => ?_, ?_⟩, ?_⟩
      · by_cases e : j = k
        · subst e; rw [HPP.out]; exact HGO.out
        · exact HG.out j (by omega)
      · rw [HN.out, HPP.out, ← HQ.out]; exact X31
      · show 202 - lenOf v' < 202 - lenOf v0
        rw [HL1.out, HLE.out]; omega

def DrPost (W H : Nat) (h : Nat → Int) (n : Nat) (c : Nat → Int) (p : Nat × Nat) (w : World) (e : Ending) (w' : World) : Prop :=
  Below w.heap.size w w' ∧ ∃ k, Ends W H h n c p k ∧ ((∃ i, i < n ∧ gSame c ((wayP W H h p k).1 : Int) ((wayP W H h p k).2 : Int) i ∧ e = .returned (.int .i64 (i : Int))) ∨ (¬ gAt c n (wayP W H h p k) ∧ e = .returned (.int .i64 (-1))))
theorem gdrain_any (W H x y : Nat) (h : Nat → Int) (bq : Nat) (A : Option Addr) (n cap : Nat) (c : Nat → Int) (w : World) (hW : W ≤ 9) (hH : H ≤ 9) (hx : x < W) (hy : y < H) (h8 : n ≤ 8) (hh : ∀ p, -32768 ≤ h p ∧ h p ≤ 32767) (ht : Hts W H h) (hB : Bx w bq (gV W H h (.slice A n cap)) 33) (hr : RdK .i8 w w.heap.size A (2 * n) c) :
    Calls Try.prog 130 #[.pointer (some ⟨bq, 0, none⟩), .agg #[.int .i8 (x : Int), .int .i8 (y : Int)]] w (DrPost W H h n c (x, y) w) := by
  have HH := Lib.hid hh
  have HT := Lib.hid ht
  have hlt0 := hB.lt
  have B := al (Below.refl w.heap.size w) (.cells #[.int .i8 (x : Int), .int .i8 (y : Int)] 40)
  have X1 := hB.alloc (.cells #[.int .i8 (x : Int), .int .i8 (y : Int)] 40)
  have R1 := hr.below B
  clear hh ht hr
  go_enter Try.func130, Try.ntmps130
  go_wp2_with fail
  refine (grun_any W H x y h bq A n cap c _ hW hH hx hy h8 HH.out HT.out X1 (R1.mono (by simp))).mono ?_
  rintro e w1 ⟨hb, k, v, rfl, hend, O⟩
  obtain ⟨A2, cap2, rfl, hA2⟩ := O.form
  rw [wayL_length] at hA2 ⊢
  obtain ⟨g, rfl, hg, hgl⟩ := hA2 (by omega)
  have hpin := wayP_in (W := W) (H := H) (h := h) (p := (x, y)) ⟨hx, hy⟩ k
  have hle := way_le (p := (x, y)) ⟨hx, hy⟩ HT.out k hend.1
  have hge := (HT.out _ hpin.1 hpin.2).1
  have hk2 : k ≤ 200 := by omega
  replace X1 := X1.below hb
  have R2 := R1.below (hb.mono (show w.heap.size ≤ _ by simp))
  replace B := nxt B hb
  have hs1 := hb.size
  clear hb hle hge R1
  obtain ⟨m, hm⟩ : ∃ m, m = k + 1 := ⟨_, rfl⟩
  rw [wayL_length, ← hm] at O
  rw [← hm] at ⊢
  have hq := wayL_get (W := W) (H := H) (h := h) (p := (x, y)) (k := k) (i := m - 1) (by omega)
  have hmk : m - 1 = k := by omega
  rw [hmk] at hq
  obtain ⟨⟨px, py⟩, hpp⟩ : ∃ q, wayP W H h (x, y) k = q := ⟨_, rfl⟩
  rw [hpp] at hq hpin
  obtain ⟨c0, c1⟩ := OwnC.get O (by rw [wayL_length, hm]) hq
  rw [← hmk] at c0 c1
  dsimp only at c0 c1 hpin
  have wm : IntKind.i64.wrap ((m : Int) - 1) = (m : Int) - 1 := IntWalk.i64_in _ (by omega)
  have hm2 : (0 : Int) ≤ (m : Int) - 1 := by omega
  have hm3 : (m : Int) - 1 < (m : Int) := by omega
  have tm : ((m : Int) - 1).toNat = m - 1 := by omega
  have HE := Lib.hid hend
  have HPP := Lib.hid hpp
  have HM := Lib.hid hm
  clear hend hpp hq hmk hm hA2 O
  go_wp2_with fail
  refine (ggully_any W H h bq A n cap c (px : Int) (py : Int) _ h8 X1 (R2.mono (by simp at hs1; omega))).mono ?_
  rintro e w2 ⟨hb, ⟨i, hi, hs, rfl⟩ | ⟨hno, rfl⟩⟩
  · have HS := Lib.hid hs
    replace B := nxt B hb
    clear hb hs
    go_wp2
    go_ret
    exact ⟨B, k, HE.out, .inl ⟨i, hi, by rw [HPP.out]; exact HS.out, rfl⟩⟩
  · have HNO := Lib.hid hno
    replace B := nxt B hb
    clear hb hno
    go_wp2
    go_ret
    exact ⟨B, k, HE.out, .inr ⟨by rw [HPP.out]; exact fun ⟨i, hi, hs⟩ => HNO.out i hi hs, rfl⟩⟩
end Go.Proofs.Ytegnhpanlbfmdaa
