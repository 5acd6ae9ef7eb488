/-
  The runs of a plan on the program's side: the contract of (impl.job).runsOf. Conditions stand at each.
-/
import Derived.Test.YtfpoikeibjojgaaDoorRows
import Derived.Test.YtfpoikeibjojgaaDoorRunsI
import Derived.Test.YtfpoikeibjojgaaDoorMay
import Derived.Test.YtfpoikeibjojgaaDoorPlanS
import Derived.WalkLawsBesides
namespace Go.Proofs.YtfpoikeibjojgaaDoor
open Go Go.ChangeShapes Go.WideShapes Go.ChangeAt Go.RowKit
set_option linter.unusedVariables false
set_option linter.unusedSimpArgs false
set_option maxRecDepth 100000
set_option maxHeartbeats 8000000
/-- the cells of runs. -/
def rC (sk wk gi : Nat → Int) (g : Gs) (k : Nat) : List Value := (List.range k).flatMap fun j => [.int .i64 (sk j), .int .i64 (wk j), .int .i64 (g.p (gi j).toNat), .int .i64 (g.q (gi j).toNat), .int .i64 (g.s (gi j).toNat), .int .i64 (g.t (gi j).toNat), .int .i64 (g.u (gi j).toNat)]
theorem rC_succ (sk wk gi : Nat → Int) (g : Gs) (k : Nat) : rC sk wk gi g (k + 1) = rC sk wk gi g k ++ [.int .i64 (sk k), .int .i64 (wk k), .int .i64 (g.p (gi k).toNat), .int .i64 (g.q (gi k).toNat), .int .i64 (g.s (gi k).toNat), .int .i64 (g.t (gi k).toNat), .int .i64 (g.u (gi k).toNat)] := by simp [rC, List.range_succ]
theorem rC_length (sk wk gi : Nat → Int) (g : Gs) : ∀ k, (rC sk wk gi g k).length = k * 7
  | 0 => rfl
  | k + 1 => by rw [rC_succ, List.length_append, rC_length sk wk gi g k]; simp; omega
theorem rC_congr {sk wk gi sk' wk' gi' : Nat → Int} {g : Gs} : ∀ k, (∀ j, j < k → sk j = sk' j ∧ wk j = wk' j ∧ gi j = gi' j) → rC sk wk gi g k = rC sk' wk' gi' g k
  | 0, _ => rfl
  | k + 1, h => by
    obtain ⟨h1, h2, h3⟩ := h k (by omega)
    rw [rC_succ, rC_succ, rC_congr k (fun j hj => h j (by omega)), h1, h2, h3]
theorem rC_get (sk wk gi : Nat → Int) (g : Gs) : ∀ n j, j < n → (rC sk wk gi g n)[j * 7]? = some (.int .i64 (sk j)) ∧ (rC sk wk gi g n)[j * 7 + 1]? = some (.int .i64 (wk j)) ∧ (rC sk wk gi g n)[j * 7 + 2]? = some (.int .i64 (g.p (gi j).toNat)) ∧ (rC sk wk gi g n)[j * 7 + 3]? = some (.int .i64 (g.q (gi j).toNat)) ∧ (rC sk wk gi g n)[j * 7 + 4]? = some (.int .i64 (g.s (gi j).toNat)) ∧ (rC sk wk gi g n)[j * 7 + 5]? = some (.int .i64 (g.t (gi j).toNat)) ∧ (rC sk wk gi g n)[j * 7 + 6]? = some (.int .i64 (g.u (gi j).toNat))
  | 0, j, h => by omega
  | n + 1, j, h => by
    rw [rC_succ]
    by_cases e : j = n
    · subst e
      refine ⟨?_, ?_, ?_, ?_, ?_, ?_, ?_⟩ <;> (rw [List.getElem?_append_right (by rw [rC_length]; omega), rC_length]; simp)
    · obtain ⟨h0, h1, h2, h3, h4, h5, h6⟩ := rC_get sk wk gi g n j (by omega)
      refine ⟨?_, ?_, ?_, ?_, ?_, ?_, ?_⟩ <;> (rw [List.getElem?_append_left (by rw [rC_length]; omega)]; assumption)
theorem rC_set (sk wk gi : Nat → Int) (g : Gs) (k : Nat) (a b : Int) : ((rC sk wk gi g (k + 1)).set (k * 7) (.int .i64 a)).set (k * 7 + 1) (.int .i64 b) = rC (upd sk k a) (upd wk k b) gi g (k + 1) := by
  rw [rC_succ, rC_succ, List.set_append_right _ _ (by rw [rC_length]; omega), List.set_append_right _ _ (by rw [rC_length]; omega), rC_length, upd_same, upd_same]
  rw [rC_congr (sk := upd sk k a) (wk := upd wk k b) (gi := gi) (sk' := sk) (wk' := wk) (gi' := gi) k (fun j hj => ⟨upd_other _ _ (by omega), upd_other _ _ (by omega), rfl⟩)]
  simp
theorem seven_one {a0 a1 a2 a3 a4 a5 a6 : Int} : ∀ u ∈ [Value.int .i64 a0, .int .i64 a1, .int .i64 a2, .int .i64 a3, .int .i64 a4, .int .i64 a5, .int .i64 a6], u.oneCell' = true := by
  intro u hu
  simp at hu
  rcases hu with rfl | rfl | rfl | rfl | rfl | rfl | rfl <;> rfl
theorem infoRun : (Tryd.prog.info? 154).map (fun i => (i.zero, i.size, i.bytes)) = some (some (.agg #[.int .i64 0, .int .i64 0, .int .i64 0, .int .i64 0, .int .i64 0, .int .i64 0, .int .i64 0]), 7, 56) := by kernel_rfl
def OwnR (w : World) (base : Nat) (v : Value) (sk wk gi : Nat → Int) (g : Gs) (k : Nat) : Prop := w.ownsRow base 154 7 v k (rC sk wk gi g k)
theorem OwnR.shape {w : World} {base k : Nat} {v : Value} {sk wk gi : Nat → Int} {g : Gs} (h : OwnR w base v sk wk gi g k) : ∃ A cap, v = .slice A k cap := own_shape h
theorem OwnR.rd {w : World} {base k cap : Nat} {A : Option Addr} {sk wk gi : Nat → Int} {g : Gs} (h : OwnR w base (.slice A k cap) sk wk gi g k) : RdR w w.heap.size A k sk wk gi g := fun h0 => by
  have hs := h
  rcases h.2 with ⟨e, h1⟩ | ⟨g', cap', cur, e, hg, hw, r⟩
  · omega
  · injection e with e1 e2 e3
    subst e1 e3
    refine ⟨g', rfl, (Array.getElem?_eq_some_iff.1 hw).1, fun j hj => ?_⟩
    obtain ⟨x0, x1, x2, x3, x4, x5, x6⟩ := rC_get sk wk gi g k j hj
    exact ⟨(World.ownsRow.cellAt hs (j * 7) (by omega)).trans x0, (World.ownsRow.cellAt hs (j * 7 + 1) (by omega)).trans x1, (World.ownsRow.cellAt hs (j * 7 + 2) (by omega)).trans x2, (World.ownsRow.cellAt hs (j * 7 + 3) (by omega)).trans x3, (World.ownsRow.cellAt hs (j * 7 + 4) (by omega)).trans x4, (World.ownsRow.cellAt hs (j * 7 + 5) (by omega)).trans x5, (World.ownsRow.cellAt hs (j * 7 + 6) (by omega)).trans x6⟩
theorem OwnR.below {w w' : World} {base k : Nat} {v : Value} {sk wk gi : Nat → Int} {g : Gs} (h : OwnR w base v sk wk gi g k) (hb : Below w.heap.size w w') : OwnR w' base v sk wk gi g k := by
  refine ⟨h.1, h.2.imp id ?_⟩
  rintro ⟨g, cap, cur, rfl, hg, hw, r⟩
  exact ⟨g, cap, cur, rfl, hg, (hb.block g (Array.getElem?_eq_some_iff.1 hw).1).trans hw, r⟩
/-- the last run set anew. -/
theorem OwnR.set {w : World} {base b k cap : Nat} {sk wk gi : Nat → Int} {g : Gs} (h : OwnR w base (.slice (some ⟨b, 0, none⟩) (k + 1) cap) sk wk gi g (k + 1)) (x y : Int) :
    OwnR ((w.setCell ⟨b, k * 7, none⟩ (.int .i64 x)).setCell ⟨b, k * 7 + 1, none⟩ (.int .i64 y)) base (.slice (some ⟨b, 0, none⟩) (k + 1) cap) (upd sk k x) (upd wk k y) gi g (k + 1) := by
  unfold OwnR
  rw [← rC_set]
  exact (World.ownsRow.stored (World.ownsRow.stored h (k * 7) (.int .i64 x)).1 (k * 7 + 1) (.int .i64 y)).1
theorem RdU.mono' {w : World} {B B' n : Nat} {A : Option Addr} {x y : Nat → Int} (h : RdU w B A n x y) (hb : B ≤ B') : RdU w B' A n x y := fun h0 => by
  obtain ⟨b, off, e, hl, hc⟩ := h h0
  exact ⟨b, off, e, by omega, hc⟩
theorem RdW.mono {w : World} {B B' n : Nat} {A : Option Addr} {g : Gs} (h : RdW w B A n g) (hb : B ≤ B') : RdW w B' A n g := fun h0 => by
  obtain ⟨b, e, hl, hc⟩ := h h0
  exact ⟨b, e, by omega, hc⟩
theorem RdW.below {w w' : World} {B n : Nat} {A : Option Addr} {g : Gs} (h : RdW w B A n g) (hb : Below B w w') : RdW w' B A n g := fun h0 => by
  obtain ⟨b, e, hl, hc⟩ := h h0
  refine ⟨b, e, hl, fun j hj => ?_⟩
  obtain ⟨c0, c1, c2, c3, c4⟩ := hc j hj
  exact ⟨(hb.cell (p := ⟨b, j * 5, none⟩) hl).trans c0, (hb.cell (p := ⟨b, j * 5 + 1, none⟩) hl).trans c1, (hb.cell (p := ⟨b, j * 5 + 2, none⟩) hl).trans c2, (hb.cell (p := ⟨b, j * 5 + 3, none⟩) hl).trans c3, (hb.cell (p := ⟨b, j * 5 + 4, none⟩) hl).trans c4⟩
/-- what runsOf answers: the runs, or a panic. -/
def RunsPost (n : Nat) (c d : Nat → Int) (m : Nat) (g : Gs) (k : Nat) (pl : Nat → Int) (w : World) (e : Ending) (w' : World) : Prop :=
  Below w.heap.size w w' ∧ ((¬ RightP n c m g k pl ∧ ∃ x : Int, e = .panicked [{ v := .iface 90 (.agg #[.int .i64 x]), recovered := false }]) ∨
    (RightP n c m g k pl ∧ ∃ v sk, e = .returned v ∧ OwnR w' w.heap.size v sk (rwk d pl n) (rgg pl n) g (rn pl n)))
theorem runsOf_any (A1 : Option Addr) (n cap1 : Nat) (c d : Nat → Int) (A2 : Option Addr) (m cap2 : Nat) (g : Gs) (P : Option Addr) (k cap : Nat) (pl : Nat → Int) (w : World) (hO : JobOk n c d m g) (hk : k ≤ 1048576)
    (hr1 : RdU w w.heap.size A1 n c d) (hr2 : RdW w w.heap.size A2 m g) (hp : RdK .i64 w w.heap.size P k pl) :
    Calls Tryd.prog 91 #[.agg #[.slice A1 n cap1, .slice A2 m cap2], .slice P k cap] w (RunsPost n c d m g k pl w) := by
  have HR1 := Lib.hid hr1
  have HR2 := Lib.hid hr2
  have HP := Lib.hid hp
  have HO := Lib.hid hO
  have hn6 : n ≤ 6 := hO.1.1.1
  have hm4 : m ≤ 4 := hO.2.1
  have HD := Lib.hid (show ∀ j, j < n → 0 ≤ d j ∧ d j ≤ 2000 from fun j hj => ⟨by have := (hO.1.1.2 j hj).2; omega, (hO.1.1.2 j hj).2.2⟩)
  have HD0 := Lib.hid (show ∀ j, j < n → 0 ≤ d j from fun j hj => (HD.out j hj).1)
  have X2 := Bx.new w #[.slice A1 n cap1, .slice A2 m cap2] 76
  have B := al (Below.refl w.heap.size w) (.cells #[.slice A1 n cap1, .slice A2 m cap2] 76)
  clear hr1 hr2 hp hO
  by_cases hkn : k = n
  · subst hkn
    have hnn : ((k : Int) != (k : Int)) = false := by simp
    go_enter Tryd.func91, Tryd.ntmps91
    go_wp2
    obtain ⟨W0, hW0⟩ : ∃ W0 : World, W0 = w.alloc (.cells #[.slice A1 k cap1, .slice A2 m cap2] 76) := ⟨_, rfl⟩
    rw [← hW0] at X2 B ⊢
    have hs0 : W0.heap.size = w.heap.size + 1 := by rw [hW0]; simp
    clear hW0
    obtain ⟨b2, h2⟩ : ∃ b2, b2 = w.heap.size := ⟨_, rfl⟩
    have hb2 : w.heap.size = b2 := h2.symm
    rw [← h2] at X2 ⊢
    clear h2
    obtain ⟨ww, hww⟩ : ∃ ww : World, ww = w := ⟨_, rfl⟩
    have HBB : Hid (∀ V, Below w.heap.size w V → Below ww.heap.size ww V) := Lib.hid (by rw [hww]; exact fun V h => h)
    have HR1' := Lib.hid (show RdU ww ww.heap.size A1 k c d by rw [hww]; exact HR1.out)
    have HR2' := Lib.hid (show RdW ww ww.heap.size A2 m g by rw [hww]; exact HR2.out)
    have HP' := Lib.hid (show RdK .i64 ww ww.heap.size P k pl by rw [hww]; exact HP.out)
    have hbw : ww.heap.size = b2 := by rw [hww]; exact hb2
    have HBw : Hid (∀ V, Below ww.heap.size ww V → Below w.heap.size w V) := Lib.hid (by rw [hww]; exact fun V h => h)
    replace B : Below ww.heap.size ww W0 := HBB.out _ B
    clear hww
    go_loopw [5, 25] (fun t5 t25 wr => ∃ (i : Nat) (v : Value) (sk : Nat → Int), i ≤ k ∧ t25 = .int .i64 i ∧ t5 = v ∧ Below ww.heap.size ww wr ∧ Bx wr b2 #[.slice A1 k cap1, .slice A2 m cap2] 76 ∧ OwnR wr (b2 + 1) v sk (rwk d pl i) (rgg pl i) g (rn pl i) ∧ ∀ j, j < i → (0 ≤ pl j ∧ pl j < m) ∧ c j ≤ g.p (pl j).toNat) (fun t5 t25 wr => k - (intOf t25).toNat)
    case atStart => exact ⟨0, .slice none 0 0, fun _ => 0, by omega, rfl, rfl, B, X2, World.ownsRow_nil _ _ _ _, fun j hj => by omega⟩
    case round =>
      clear B X2
      obtain ⟨i, v, sk, hi, rfl, rfl, B, X2, O, hall⟩ := hrel
      obtain ⟨v0, rfl⟩ : ∃ v0 : Value, v0 = u5 := ⟨_, rfl⟩
      have HA := Lib.hid hall
      clear hall
      by_cases hlt : i < k
      · have hii : (i : Int) < (k : Int) := by omega
        obtain ⟨bp, op, rfl, hbp, p0⟩ := (HP'.out.below B).atk hlt
        obtain ⟨r0, e0⟩ := dec_ex ((0 ≤ pl i ∧ pl i < m) ∧ c i ≤ g.p (pl i).toNat)
        have HM := Lib.hid (fun W (hB : Below ww.heap.size ww W) => mayLay_any A1 k cap1 c d A2 m cap2 g (pl i) i r0 W hn6 hm4 hlt ((HR1'.out.below hB).mono' hB.size) ((HR2'.out.below hB).mono hB.size) e0)
        have E0 := Lib.hid e0
        have q0 : wr.cell? ⟨b2, 0, none⟩ = some (.slice A1 k cap1) := X2.cell 0
        have q1 : wr.cell? ⟨b2, 1, none⟩ = some (.slice A2 m cap2) := X2.cell 1
        clear e0
        go_wp2_with fail
        refine (HM.out _ B).mono ?_
        rintro e w1 ⟨hb, rfl⟩
        have hbp1 : bp < wr.heap.size := Nat.lt_of_lt_of_le hbp B.size
        replace p0 : w1.cell? ⟨bp, op + i, none⟩ = some (.int .i64 (pl i)) := (Below.cell (p := ⟨bp, op + i, none⟩) hb hbp1).trans p0
        replace B := nxt B hb
        replace X2 := X2.below hb
        replace O := OwnR.below O hb
        clear hb q0 q1 hbp1
        cases r0 with
        | false =>
          have N0 := Lib.hid (show ¬ RightP k c m g k pl from fun h => by have := E0.out.2 (h.2 i hlt); cases this)
          go_wp2
          exact ⟨rfl, HBw.out _ B, .inl ⟨N0.out, _, rfl⟩⟩
        | true =>
          have P0 := E0.out.1 rfl
          have HP0 := Lib.hid P0
          have hI1 : 0 ≤ pl i := P0.1.1
          have hI2 : pl i < (m : Int) := P0.1.2
          obtain ⟨b3, rfl, hb3, hcr⟩ := (HR2'.out.below B) (by omega)
          obtain ⟨x0, x1, x2, x3, x4⟩ := hcr (pl i).toNat (by omega)
          obtain ⟨b4, o4, rfl, hb4, y0, y1⟩ := (HR1'.out.below B).at hlt
          have hdb := HD.out i hlt
          have hwb := rwk_bd (d := d) (pl := pl) i (fun j hj => HD0.out j (by omega))
          have hsm := sumN_mono (y := d) k hi HD0.out
          have hs2 := HO.out.2.2
          have hrb := rn_bd pl i
          have HWB := Lib.hid (show ∀ j, j < rn pl i → 0 ≤ rwk d pl i j ∧ rwk d pl i j ≤ 2000 from fun j hj => ⟨(hwb j hj).1, by have := (hwb j hj).2; omega⟩)
          clear hcr P0 hwb hsm hs2 E0
          obtain ⟨A9, cap9, hv9⟩ := OwnR.shape O
          subst hv9
          by_cases h0 : i = 0
          · have hnew := Lib.hid (show newR pl i from .inl h0)
            have hi1 : ((i : Int) == 0) = true := by simpa using h0
            clear h0
            obtain ⟨i0, hi', hz0, hz1, hz2⟩ := info_parts infoRun
            have hkp7 : rn pl i ≤ 6 := by omega
            have q1 : w1.cell? ⟨b2, 1, none⟩ = some (.slice (some ⟨b3, 0, none⟩) m cap2) := (X2.cell 1).trans rfl
            clear hrb
            unfold OwnR at O
            go_wp2_with (at_builtin; refine wpList_append_own _ rfl _ _ 86 rfl (b2 + 1) 154 i0 (.agg #[.int .i64 0, .int .i64 0, .int .i64 0, .int .i64 0, .int .i64 0, .int .i64 0, .int .i64 0]) 7 56 Tryd.underlying86 hi' hz0 hz1 hz2 rfl (by decide) _ _ _ rfl (World.ownsRow.alloc O _) ⟨w1.heap.size, 0, none⟩ 1 1 [.int .i64 0, .int .i64 0, .int .i64 (g.p (pl i).toNat), .int .i64 (g.q (pl i).toNat), .int .i64 (g.s (pl i).toNat), .int .i64 (g.t (pl i).toNat), .int .i64 (g.u (pl i).toNat)] rfl rfl (ncells w1 #[.int .i64 0, .int .i64 0, .int .i64 (g.p (pl i).toNat), .int .i64 (g.q (pl i).toNat), .int .i64 (g.s (pl i).toNat), .int .i64 (g.t (pl i).toNat), .int .i64 (g.u (pl i).toNat)] 154) seven_one (by unfold maxLen; omega) (by have := X2.lt; omega) (by simp; have := X2.lt; omega) ?_; intro v' w2 own' hgr _)
            have hblA := fun q e => (World.ownsRow.lt O q e)
            have B2 : Below ww.heap.size ww w2 := (al B _).grown hgr (al B _).size (fun q e => by have := (hblA q e).1; omega)
            have X22 : Bx w2 b2 #[.slice (some ⟨b4, o4, none⟩) k cap1, .slice (some ⟨b3, 0, none⟩) m cap2] 76 := (X2.alloc _).of_block (hgr.block _ (X2.alloc _).lt (fun e => by have := (hblA _ e.symm).1; omega))
            have O2 : OwnR w2 (b2 + 1) v' (upd sk (rn pl i) 0) (upd (rwk d pl i) (rn pl i) 0) (upd (rgg pl i) (rn pl i) (pl i)) g (rn pl i + 1) := by
              unfold OwnR
              rw [rC_succ, upd_same, upd_same, upd_same]
              rw [rC_congr (sk := upd sk (rn pl i) 0) (wk := upd (rwk d pl i) (rn pl i) 0) (gi := upd (rgg pl i) (rn pl i) (pl i)) (sk' := sk) (wk' := rwk d pl i) (gi' := rgg pl i) (rn pl i) (fun j hj => ⟨upd_other _ _ (by omega), upd_other _ _ (by omega), upd_other _ _ (by omega)⟩)]
              exact own'
            have y0' := (Below.cell (p := ⟨b4, o4 + i * 2, none⟩) B2 hb4).trans ((Below.cell (p := ⟨b4, o4 + i * 2, none⟩) B hb4).symm.trans y0)
            have y1' := (Below.cell (p := ⟨b4, o4 + i * 2 + 1, none⟩) B2 hb4).trans ((Below.cell (p := ⟨b4, o4 + i * 2 + 1, none⟩) B hb4).symm.trans y1)
            clear own' hgr hblA O X2 B q1 x0 x1 x2 x3 x4
            obtain ⟨kp, hkp0⟩ : ∃ kp, kp = rn pl i := ⟨_, rfl⟩
            rw [← hkp0] at O2 hkp7
            have HK0 := Lib.hid hkp0
            clear hkp0
            obtain ⟨Al, capl, hvl⟩ := OwnR.shape O2
            subst hvl
            obtain ⟨bl, hAl⟩ : ∃ bl, Al = some ⟨bl, 0, none⟩ := by
              rcases O2.2 with ⟨h1, h2⟩ | ⟨b', cap', cur, h1, h2⟩
              · omega
              · injection h1 with h1 h3 h4
                exact ⟨b', h1⟩
            subst hAl
            obtain ⟨B, O⟩ : Below ww.heap.size ww w2 ∧ OwnR w2 (b2 + 1) (.slice (some ⟨bl, 0, none⟩) (kp + 1) capl) (upd sk kp 0) (upd (rwk d pl i) kp 0) (upd (rgg pl i) kp (pl i)) g (kp + 1) := ⟨B2, O2⟩
            have X2 := X22
            replace y0 := y0'
            replace y1 := y1'
            clear B2 O2 X22 y0' y1'
            have hkp : IntKind.i64.wrap (kp : Int) = (kp : Int) := IntWalk.i64_in _ (by omega)
            have hkp3 : (kp : Int) + 1 - 1 = (kp : Int) := by omega
            have hkp4 : (kp : Int) < (kp : Int) + 1 := by omega
            have hlen : ∀ W, (Builtin.len_ #[86] 3 #[.slice (some ⟨bl, 0, none⟩) (kp + 1) capl]).run Tryd.prog W = .ok (.int .i64 ((kp : Int) + 1)) W := fun W => by kernel_rfl
            obtain ⟨z0, z1, -, -, -, -, -⟩ := rC_get (upd sk kp 0) (upd (rwk d pl i) kp 0) (upd (rgg pl i) kp (pl i)) g (kp + 1) kp (by omega)
            replace z0 := (World.ownsRow.cellAt O (kp * 7) (by omega)).trans z0
            replace z1 := (World.ownsRow.cellAt O (kp * 7 + 1) (by omega)).trans z1
            have f0 := World.ownsRow.frozenAt O (kp * 7)
            have f1 := World.ownsRow.frozenAt O (kp * 7 + 1)
            have hblt : bl < w2.heap.size := (World.ownsRow.lt O bl rfl).2
            have HR1C : ∀ V, Below ww.heap.size ww V → V.cell? ⟨b4, o4 + i * 2, none⟩ = some (.int .i64 (c i)) ∧ V.cell? ⟨b4, o4 + i * 2 + 1, none⟩ = some (.int .i64 (d i)) := fun V hV => ⟨(Below.cell (p := ⟨b4, o4 + i * 2, none⟩) hV hb4).trans ((Below.cell (p := ⟨b4, o4 + i * 2, none⟩) B hb4).symm.trans y0), (Below.cell (p := ⟨b4, o4 + i * 2 + 1, none⟩) hV hb4).trans ((Below.cell (p := ⟨b4, o4 + i * 2 + 1, none⟩) B hb4).symm.trans y1)⟩
            have hbl2 : b2 + 1 ≤ bl := (World.ownsRow.lt O bl rfl).1
            obtain ⟨s0, hs0'⟩ : ∃ s0, s0 = (upd sk kp 0) kp := ⟨_, rfl⟩
            obtain ⟨x0', hx0'⟩ : ∃ x0', x0' = (upd (rwk d pl i) kp 0) kp := ⟨_, rfl⟩
            rw [← hs0'] at z0
            rw [← hx0'] at z1
            have hxb : 0 ≤ x0' ∧ x0' ≤ 2000 := by rw [hx0', upd_same]; omega
            have HX0 := Lib.hid hx0'
            have hfin := Lib.hid (show rn pl (i + 1) = kp + 1 ∧ rwk d pl (i + 1) = upd (upd (rwk d pl i) kp 0) kp (x0' + d i) ∧ rgg pl (i + 1) = upd (rgg pl i) kp (pl i) from by
              have h1 := rn_new hnew.out
              have e := HK0.out
              refine ⟨by omega, ?_, ?_⟩
              · rw [HX0.out, upd_same, upd_upd, Int.zero_add, e]
                simp only [rwk, if_pos hnew.out]
              · show upd (rgg pl i) (rn pl (i + 1) - 1) (pl i) = _
                rw [h1, Nat.add_sub_cancel, e])
            clear hs0' hx0'
            have HWI := Lib.hid (fun V => with_any s0 x0' (c i) (d i) (max s0 (c i)) V rfl (by omega) (by omega))
            go_wp2
            simp only [hlen, Result.andThen]
            go_wp2
            have q0 : w2.cell? ⟨b2, 0, none⟩ = some (.slice (some ⟨b4, o4, none⟩) k cap1) := (X2.cell 0).trans rfl
            refine wp_region_held_drew (S := (fun w' : World => w'.cell? ⟨b2, 0, none⟩ = some (.slice (some ⟨b4, o4, none⟩) k cap1) ∧ w'.cell? ⟨b4, o4 + i * 2, none⟩ = some (.int .i64 (c i)) ∧ w'.cell? ⟨b4, o4 + i * 2 + 1, none⟩ = some (.int .i64 (d i)))) (by kernel_rfl) ⟨q0, y0, y1⟩ (fun hHeld => ?_)
            replace B := B.drew
            replace X2 : Bx w2.drew b2 #[.slice (some ⟨b4, o4, none⟩) k cap1, .slice (some ⟨b3, 0, none⟩) m cap2] 76 := X2
            replace O : OwnR w2.drew (b2 + 1) (.slice (some ⟨bl, 0, none⟩) (kp + 1) capl) (upd sk kp 0) (upd (rwk d pl i) kp 0) (upd (rgg pl i) kp (pl i)) g (kp + 1) := O
            replace z0 : w2.drew.cell? ⟨bl, kp * 7, none⟩ = some (.int .i64 s0) := z0
            replace z1 : w2.drew.cell? ⟨bl, kp * 7 + 1, none⟩ = some (.int .i64 x0') := z1
            replace hblt : bl < w2.drew.heap.size := hblt
            replace q0 : w2.drew.cell? ⟨b2, 0, none⟩ = some (.slice (some ⟨b4, o4, none⟩) k cap1) := q0
            replace y0 : w2.drew.cell? ⟨b4, o4 + i * 2, none⟩ = some (.int .i64 (c i)) := y0
            replace y1 : w2.drew.cell? ⟨b4, o4 + i * 2 + 1, none⟩ = some (.int .i64 (d i)) := y1
            have hb4' : b4 < w2.drew.heap.size := Nat.lt_of_lt_of_le hb4 B.size
            obtain ⟨wq, hwq⟩ : ∃ wq, w2.drew = wq := ⟨_, rfl⟩
            rw [hwq] at B X2 O z0 z1 hblt q0 y0 y1 hb4' hHeld ⊢
            clear hwq f0 f1
            have hb2l : b2 < wq.heap.size := X2.lt
            refine wpAnyH_take (i := 0) (oi := _) (v := ?_) rfl (by kernel_rfl) (by kernel_rfl) (by kernel_rfl) (fun _ _ _ h => h) (Or.inl ⟨by kernel_rfl, ?_⟩) (by assumption) ?_
            rotate_left
            · intro w hSw; (try dsimp only at hSw); go_simp; first | done | with_reducible rfl
            try simp only [List.getElem_toArray, List.getElem_cons_zero, List.getElem_cons_succ, Act.put, List.setIfInBounds_toArray, List.set_cons_zero, List.set_cons_succ]
            refine wpAnyH_take (i := 1) (oi := _) (v := ?_) rfl (by kernel_rfl) (by kernel_rfl) (by kernel_rfl) (fun _ _ _ h => h) (Or.inl ⟨by kernel_rfl, ?_⟩) (by assumption) ?_
            rotate_left
            · intro w hSw; (try dsimp only at hSw); go_simp; first | done | with_reducible rfl
            try simp only [List.getElem_toArray, List.getElem_cons_zero, List.getElem_cons_succ, Act.put, List.setIfInBounds_toArray, List.set_cons_zero, List.set_cons_succ]
            refine wpAnyH_take (i := 2) (oi := _) (v := ?_) rfl (by kernel_rfl) (by kernel_rfl) (by kernel_rfl) (fun _ _ _ h => h) (Or.inl ⟨by kernel_rfl, ?_⟩) (by assumption) ?_
            rotate_left
            · intro w hSw; (try dsimp only at hSw); go_simp; first | done | with_reducible rfl
            try simp only [List.getElem_toArray, List.getElem_cons_zero, List.getElem_cons_succ, Act.put, List.setIfInBounds_toArray, List.set_cons_zero, List.set_cons_succ]
            refine wpAnyH_take (i := 3) (oi := _) (v := ?_) rfl (by kernel_rfl) (by kernel_rfl) (by kernel_rfl) (fun _ _ _ h => h) (Or.inl ⟨by kernel_rfl, ?_⟩) (by assumption) ?_
            rotate_left
            · intro w hSw; (try dsimp only at hSw); go_simp; first | done | with_reducible rfl
            try simp only [List.getElem_toArray, List.getElem_cons_zero, List.getElem_cons_succ, Act.put, List.setIfInBounds_toArray, List.set_cons_zero, List.set_cons_succ]
            refine wpAnyH_take (i := 5) (oi := _) (v := ?_) rfl (by kernel_rfl) (by kernel_rfl) (by kernel_rfl) (fun _ _ _ h => h) (Or.inl ⟨by kernel_rfl, ?_⟩) (by assumption) ?_
            rotate_left
            · intro w hSw; (try dsimp only at hSw); go_simp; first | done | with_reducible rfl
            try simp only [List.getElem_toArray, List.getElem_cons_zero, List.getElem_cons_succ, Act.put, List.setIfInBounds_toArray, List.set_cons_zero, List.set_cons_succ]
            refine wpAnyH_take (i := 6) (oi := _) (v := ?_) rfl (by kernel_rfl) (by kernel_rfl) (by kernel_rfl) (fun _ _ _ h => h) (Or.inl ⟨by kernel_rfl, ?_⟩) (by assumption) ?_
            rotate_left
            · intro w hSw; have hcell := (fun (w' : World) (hS : w'.cell? ⟨b2, 0, none⟩ = some (.slice (some ⟨b4, o4, none⟩) k cap1) ∧ w'.cell? ⟨b4, o4 + i * 2, none⟩ = some (.int .i64 (c i)) ∧ w'.cell? ⟨b4, o4 + i * 2 + 1, none⟩ = some (.int .i64 (d i))) => hS.1) w hSw; clear hSw; go_simp; first | done | with_reducible rfl
            try simp only [List.getElem_toArray, List.getElem_cons_zero, List.getElem_cons_succ, Act.put, List.setIfInBounds_toArray, List.set_cons_zero, List.set_cons_succ]
            refine wpAnyH_take (i := 7) (oi := _) (v := ?_) rfl (by kernel_rfl) (by kernel_rfl) (by kernel_rfl) (fun _ _ _ h => h) (Or.inl ⟨by kernel_rfl, ?_⟩) (by assumption) ?_
            rotate_left
            · intro w hSw; (try dsimp only at hSw); go_simp; first | done | with_reducible rfl
            try simp only [List.getElem_toArray, List.getElem_cons_zero, List.getElem_cons_succ, Act.put, List.setIfInBounds_toArray, List.set_cons_zero, List.set_cons_succ]
            refine wpAnyH_take (i := 8) (oi := _) (v := ?_) rfl (by kernel_rfl) (by kernel_rfl) (by kernel_rfl) (fun _ _ _ h => h) (Or.inl ⟨by kernel_rfl, ?_⟩) (by assumption) ?_
            rotate_left
            · intro w hSw; (try dsimp only at hSw); go_simp; first | done | with_reducible rfl
            try simp only [List.getElem_toArray, List.getElem_cons_zero, List.getElem_cons_succ, Act.put, List.setIfInBounds_toArray, List.set_cons_zero, List.set_cons_succ]
            refine wpAnyH_take (i := 9) (oi := _) (v := .agg #[.int .i64 (c i), .int .i64 (d i)]) rfl (by kernel_rfl) (by kernel_rfl) (by kernel_rfl) (fun _ _ _ h => h) (yields_two (by kernel_rfl) _ _ rfl b4 (o4 + i * 2) rfl (.int .i64 (c i)) (.int .i64 (d i)) (fun w' hS => hS.2) _ Tryd.underlying107 rfl (by kernel_rfl)) (by assumption) ?_
            try simp only [List.getElem_toArray, List.getElem_cons_zero, List.getElem_cons_succ, Act.put, List.setIfInBounds_toArray, List.set_cons_zero, List.set_cons_succ]
            refine wpAnyH_ready (rs := [4]) (by kernel_rfl) (by simp) ?_
            refine AllReadyH.cons (o := _) rfl (fun K hK => ?_) AllReadyH.nil
            go_simp
            skip
            refine hK.out _ _ ⟨q0, y0, y1⟩ (fun hHeld => ?_)
            clear hK K
            try simp only [List.getElem_toArray, List.getElem_cons_zero, List.getElem_cons_succ, Act.put, List.setIfInBounds_toArray, List.set_cons_zero, List.set_cons_succ]
            refine wpAnyH_ready (rs := [10]) (by kernel_rfl) (by simp) ?_
            refine AllReadyH.cons (o := _) rfl (fun K hK => ?_) AllReadyH.nil
            go_simp
            refine (HWI.out _).mono ?_
            rintro e w3 ⟨hb, rfl⟩
            replace z0 := (Below.cell (p := ⟨bl, kp * 7, none⟩) hb hblt).trans z0
            replace z1 := (Below.cell (p := ⟨bl, kp * 7 + 1, none⟩) hb hblt).trans z1
            replace B := nxt B hb
            replace X2 := X2.below hb
            replace O := OwnR.below O hb
            have f0 := World.ownsRow.frozenAt O (kp * 7)
            have f1 := World.ownsRow.frozenAt O (kp * 7 + 1)
            replace q0 := (Below.cell (p := ⟨b2, 0, none⟩) hb hb2l).trans q0
            replace y0 := (Below.cell (p := ⟨b4, o4 + i * 2, none⟩) hb hb4').trans y0
            replace y1 := (Below.cell (p := ⟨b4, o4 + i * 2 + 1, none⟩) hb hb4').trans y1
            replace hblt : bl < w3.heap.size := (World.ownsRow.lt O bl rfl).2
            clear hb
            refine hK.out _ _ ⟨q0, y0, y1⟩ (fun hHeld => ?_)
            clear hK K
            try simp only [List.getElem_toArray, List.getElem_cons_zero, List.getElem_cons_succ, Act.put, List.setIfInBounds_toArray, List.set_cons_zero, List.set_cons_succ]
            refine wpAnyH_take (i := 11) (oi := _) (v := ?_) rfl (by kernel_rfl) (by kernel_rfl) (by kernel_rfl) (fun _ _ _ h => h) (Or.inl ⟨by kernel_rfl, ?_⟩) (by assumption) ?_
            rotate_left
            · intro w hSw; (try dsimp only at hSw); go_simp; first | done | with_reducible rfl
            try simp only [List.getElem_toArray, List.getElem_cons_zero, List.getElem_cons_succ, Act.put, List.setIfInBounds_toArray, List.set_cons_zero, List.set_cons_succ]
            refine wpAnyH_take (i := 12) (oi := _) (v := ?_) rfl (by kernel_rfl) (by kernel_rfl) (by kernel_rfl) (fun _ _ _ h => h) (Or.inl ⟨by kernel_rfl, ?_⟩) (by assumption) ?_
            rotate_left
            · intro w hSw; (try dsimp only at hSw); go_simp; first | done | with_reducible rfl
            try simp only [List.getElem_toArray, List.getElem_cons_zero, List.getElem_cons_succ, Act.put, List.setIfInBounds_toArray, List.set_cons_zero, List.set_cons_succ]
            have O2 := OwnR.set O (max s0 (c i)) (x0' + d i)
            have X3 := (X2.other (g := bl) (o := kp * 7) (.int .i64 (max s0 (c i))) (by omega)).other (g := bl) (o := kp * 7 + 1) (.int .i64 (x0' + d i)) (by omega)
            have B3 := (B.setCell (p := ⟨bl, kp * 7, none⟩) (by show _ ≤ bl; omega) (.int .i64 (max s0 (c i)))).setCell (p := ⟨bl, kp * 7 + 1, none⟩) (by show _ ≤ bl; omega) (.int .i64 (x0' + d i))
            replace q0 := (X3.cell 0).trans rfl
            replace y0 := (HR1C _ B3).1
            replace y1 := (HR1C _ B3).2
            clear X2 B O
            refine wpAnyH_ready (rs := [13]) (by kernel_rfl) (by simp) ?_
            refine AllReadyH.cons (o := _) rfl (fun K hK => ?_) AllReadyH.nil
            go_simp
            skip
            refine hK.out _ _ ⟨q0, y0, y1⟩ (fun hHeld => ?_)
            clear hK K
            try simp only [List.getElem_toArray, List.getElem_cons_zero, List.getElem_cons_succ, Act.put, List.setIfInBounds_toArray, List.set_cons_zero, List.set_cons_succ]
            refine wpAnyH_done (by kernel_rfl) ?_ _
            go_wp2
            exact ⟨⟨i + 1, _, _, by omega, by first | go_num | simp, rfl, B3, X3, by rw [hfin.out.1, hfin.out.2.1, hfin.out.2.2]; exact O2, all_step HA.out HP0.out⟩, by simp [intOf]; omega⟩
          · have hi0 := Lib.hid h0
            have hi1 : ((i : Int) == 0) = false := by simpa using h0
            obtain ⟨ip, hip⟩ : ∃ ip, ip = i - 1 := ⟨_, rfl⟩
            have hip1 : IntKind.i64.wrap ((i : Int) - 1) = (ip : Int) := by rw [IntWalk.i64_in _ (by omega)]; omega
            have hip2 : (ip : Int) < (k : Int) := by omega
            obtain ⟨bp', op', hA', hbp', p1⟩ := (HP'.out.below B).atk (k := ip) (by omega)
            obtain ⟨rfl, rfl⟩ : bp' = bp ∧ op' = op := by injection hA' with h; injection h with h1 h2; exact ⟨h1.symm, h2.symm⟩
            have HIP := Lib.hid hip
            clear h0 hip hA' hbp'
            by_cases hq : pl i = pl ip
            · have heq := Lib.hid (show pl i = pl (i - 1) by rw [hq, HIP.out])
              have hold := Lib.hid (show ¬ newR pl i from fun h => h.elim hi0.out (fun h => h heq.out))
              have hqq : (pl i != pl i) = false := by simp
              rw [← hq] at p1
              clear hq
              have hrp : 0 < rn pl i := hrb.2 (by have := hi0.out; omega)
              obtain ⟨kp, hkp0⟩ : ∃ kp, rn pl i = kp + 1 := ⟨rn pl i - 1, by omega⟩
              have hkp7 : kp ≤ 6 := by omega
              have HK0 := Lib.hid hkp0
              rw [hkp0] at O
              clear hkp0 hrb hrp
              obtain ⟨bl, hAl⟩ : ∃ bl, A9 = some ⟨bl, 0, none⟩ := by
                rcases O.2 with ⟨h1, h2⟩ | ⟨b', cap', cur, h1, h2⟩
                · omega
                · injection h1 with h1 h3 h4
                  exact ⟨b', h1⟩
              subst hAl
              obtain ⟨capl, hcl⟩ : ∃ capl, capl = cap9 := ⟨_, rfl⟩
              subst hcl
              clear x0 x1 x2 x3 x4
              have hkp : IntKind.i64.wrap (kp : Int) = (kp : Int) := IntWalk.i64_in _ (by omega)
              have hkp3 : (kp : Int) + 1 - 1 = (kp : Int) := by omega
              have hkr : rn pl i = kp + 1 := HK0.out
              have hkp4 : (kp : Int) < (kp : Int) + 1 := by omega
              have hlen : ∀ W, (Builtin.len_ #[86] 3 #[.slice (some ⟨bl, 0, none⟩) (kp + 1) capl]).run Tryd.prog W = .ok (.int .i64 ((kp : Int) + 1)) W := fun W => by kernel_rfl
              obtain ⟨z0, z1, -, -, -, -, -⟩ := rC_get (sk) (rwk d pl i) (rgg pl i) g (kp + 1) kp (by omega)
              replace z0 := (World.ownsRow.cellAt O (kp * 7) (by omega)).trans z0
              replace z1 := (World.ownsRow.cellAt O (kp * 7 + 1) (by omega)).trans z1
              have f0 := World.ownsRow.frozenAt O (kp * 7)
              have f1 := World.ownsRow.frozenAt O (kp * 7 + 1)
              have hblt : bl < w1.heap.size := (World.ownsRow.lt O bl rfl).2
              have HR1C : ∀ V, Below ww.heap.size ww V → V.cell? ⟨b4, o4 + i * 2, none⟩ = some (.int .i64 (c i)) ∧ V.cell? ⟨b4, o4 + i * 2 + 1, none⟩ = some (.int .i64 (d i)) := fun V hV => ⟨(Below.cell (p := ⟨b4, o4 + i * 2, none⟩) hV hb4).trans ((Below.cell (p := ⟨b4, o4 + i * 2, none⟩) B hb4).symm.trans y0), (Below.cell (p := ⟨b4, o4 + i * 2 + 1, none⟩) hV hb4).trans ((Below.cell (p := ⟨b4, o4 + i * 2 + 1, none⟩) B hb4).symm.trans y1)⟩
              have hbl2 : b2 + 1 ≤ bl := (World.ownsRow.lt O bl rfl).1
              obtain ⟨s0, hs0'⟩ : ∃ s0, s0 = (sk) kp := ⟨_, rfl⟩
              obtain ⟨x0', hx0'⟩ : ∃ x0', x0' = (rwk d pl i) kp := ⟨_, rfl⟩
              rw [← hs0'] at z0
              rw [← hx0'] at z1
              have hxb : 0 ≤ x0' ∧ x0' ≤ 2000 := by rw [hx0']; exact HWB.out kp (by omega)
              have HX0 := Lib.hid hx0'
              have hfin := Lib.hid (show rn pl (i + 1) = kp + 1 ∧ rwk d pl (i + 1) = upd (rwk d pl i) kp (x0' + d i) ∧ rgg pl (i + 1) = rgg pl i from by
                have h1 := rn_old hold.out
                have e := HK0.out
                refine ⟨by omega, ?_, ?_⟩
                · simp only [rwk, if_neg hold.out]
                  rw [show rn pl i - 1 = kp by omega, HX0.out]
                · show upd (rgg pl i) (rn pl (i + 1) - 1) (pl i) = _
                  rw [h1, show rn pl i - 1 = kp by omega]
                  have h2 : rgg pl i kp = pl i := by
                    obtain ⟨i1, rfl⟩ : ∃ i1, i = i1 + 1 := ⟨i - 1, by have := hi0.out; omega⟩
                    have h3 := rgg_last pl i1
                    rw [show rn pl (i1 + 1) - 1 = kp by omega] at h3
                    rw [h3, heq.out]
                    simp
                  rw [← h2]
                  exact upd_self _ _)
              clear hs0' hx0'
              have HWI := Lib.hid (fun V => with_any s0 x0' (c i) (d i) (max s0 (c i)) V rfl (by omega) (by omega))
              go_wp2
              have q0 : w1.cell? ⟨b2, 0, none⟩ = some (.slice (some ⟨b4, o4, none⟩) k cap1) := (X2.cell 0).trans rfl
              refine wp_region_held_drew (S := (fun w' : World => w'.cell? ⟨b2, 0, none⟩ = some (.slice (some ⟨b4, o4, none⟩) k cap1) ∧ w'.cell? ⟨b4, o4 + i * 2, none⟩ = some (.int .i64 (c i)) ∧ w'.cell? ⟨b4, o4 + i * 2 + 1, none⟩ = some (.int .i64 (d i)))) (by kernel_rfl) ⟨q0, y0, y1⟩ (fun hHeld => ?_)
              replace B := B.drew
              replace X2 : Bx w1.drew b2 #[.slice (some ⟨b4, o4, none⟩) k cap1, .slice (some ⟨b3, 0, none⟩) m cap2] 76 := X2
              replace O : OwnR w1.drew (b2 + 1) (.slice (some ⟨bl, 0, none⟩) (kp + 1) capl) (sk) (rwk d pl i) (rgg pl i) g (kp + 1) := O
              replace z0 : w1.drew.cell? ⟨bl, kp * 7, none⟩ = some (.int .i64 s0) := z0
              replace z1 : w1.drew.cell? ⟨bl, kp * 7 + 1, none⟩ = some (.int .i64 x0') := z1
              replace hblt : bl < w1.drew.heap.size := hblt
              replace q0 : w1.drew.cell? ⟨b2, 0, none⟩ = some (.slice (some ⟨b4, o4, none⟩) k cap1) := q0
              replace y0 : w1.drew.cell? ⟨b4, o4 + i * 2, none⟩ = some (.int .i64 (c i)) := y0
              replace y1 : w1.drew.cell? ⟨b4, o4 + i * 2 + 1, none⟩ = some (.int .i64 (d i)) := y1
              have hb4' : b4 < w1.drew.heap.size := Nat.lt_of_lt_of_le hb4 B.size
              obtain ⟨wq, hwq⟩ : ∃ wq, w1.drew = wq := ⟨_, rfl⟩
              rw [hwq] at B X2 O z0 z1 hblt q0 y0 y1 hb4' hHeld ⊢
              clear hwq f0 f1
              have hb2l : b2 < wq.heap.size := X2.lt
              refine wpAnyH_take (i := 0) (oi := _) (v := ?_) rfl (by kernel_rfl) (by kernel_rfl) (by kernel_rfl) (fun _ _ _ h => h) (Or.inl ⟨by kernel_rfl, ?_⟩) (by assumption) ?_
              rotate_left
              · intro w hSw; (try dsimp only at hSw); go_simp; first | done | with_reducible rfl
              try simp only [List.getElem_toArray, List.getElem_cons_zero, List.getElem_cons_succ, Act.put, List.setIfInBounds_toArray, List.set_cons_zero, List.set_cons_succ]
              refine wpAnyH_take (i := 1) (oi := _) (v := ?_) rfl (by kernel_rfl) (by kernel_rfl) (by kernel_rfl) (fun _ _ _ h => h) (Or.inl ⟨by kernel_rfl, ?_⟩) (by assumption) ?_
              rotate_left
              · intro w hSw; (try dsimp only at hSw); go_simp; first | done | with_reducible rfl
              try simp only [List.getElem_toArray, List.getElem_cons_zero, List.getElem_cons_succ, Act.put, List.setIfInBounds_toArray, List.set_cons_zero, List.set_cons_succ]
              refine wpAnyH_take (i := 2) (oi := _) (v := ?_) rfl (by kernel_rfl) (by kernel_rfl) (by kernel_rfl) (fun _ _ _ h => h) (Or.inl ⟨by kernel_rfl, ?_⟩) (by assumption) ?_
              rotate_left
              · intro w hSw; (try dsimp only at hSw); go_simp; first | done | with_reducible rfl
              try simp only [List.getElem_toArray, List.getElem_cons_zero, List.getElem_cons_succ, Act.put, List.setIfInBounds_toArray, List.set_cons_zero, List.set_cons_succ]
              refine wpAnyH_take (i := 3) (oi := _) (v := ?_) rfl (by kernel_rfl) (by kernel_rfl) (by kernel_rfl) (fun _ _ _ h => h) (Or.inl ⟨by kernel_rfl, ?_⟩) (by assumption) ?_
              rotate_left
              · intro w hSw; (try dsimp only at hSw); go_simp; first | done | with_reducible rfl
              try simp only [List.getElem_toArray, List.getElem_cons_zero, List.getElem_cons_succ, Act.put, List.setIfInBounds_toArray, List.set_cons_zero, List.set_cons_succ]
              refine wpAnyH_take (i := 5) (oi := _) (v := ?_) rfl (by kernel_rfl) (by kernel_rfl) (by kernel_rfl) (fun _ _ _ h => h) (Or.inl ⟨by kernel_rfl, ?_⟩) (by assumption) ?_
              rotate_left
              · intro w hSw; (try dsimp only at hSw); go_simp; first | done | with_reducible rfl
              try simp only [List.getElem_toArray, List.getElem_cons_zero, List.getElem_cons_succ, Act.put, List.setIfInBounds_toArray, List.set_cons_zero, List.set_cons_succ]
              refine wpAnyH_take (i := 6) (oi := _) (v := ?_) rfl (by kernel_rfl) (by kernel_rfl) (by kernel_rfl) (fun _ _ _ h => h) (Or.inl ⟨by kernel_rfl, ?_⟩) (by assumption) ?_
              rotate_left
              · intro w hSw; have hcell := (fun (w' : World) (hS : w'.cell? ⟨b2, 0, none⟩ = some (.slice (some ⟨b4, o4, none⟩) k cap1) ∧ w'.cell? ⟨b4, o4 + i * 2, none⟩ = some (.int .i64 (c i)) ∧ w'.cell? ⟨b4, o4 + i * 2 + 1, none⟩ = some (.int .i64 (d i))) => hS.1) w hSw; clear hSw; go_simp; first | done | with_reducible rfl
              try simp only [List.getElem_toArray, List.getElem_cons_zero, List.getElem_cons_succ, Act.put, List.setIfInBounds_toArray, List.set_cons_zero, List.set_cons_succ]
              refine wpAnyH_take (i := 7) (oi := _) (v := ?_) rfl (by kernel_rfl) (by kernel_rfl) (by kernel_rfl) (fun _ _ _ h => h) (Or.inl ⟨by kernel_rfl, ?_⟩) (by assumption) ?_
              rotate_left
              · intro w hSw; (try dsimp only at hSw); go_simp; first | done | with_reducible rfl
              try simp only [List.getElem_toArray, List.getElem_cons_zero, List.getElem_cons_succ, Act.put, List.setIfInBounds_toArray, List.set_cons_zero, List.set_cons_succ]
              refine wpAnyH_take (i := 8) (oi := _) (v := ?_) rfl (by kernel_rfl) (by kernel_rfl) (by kernel_rfl) (fun _ _ _ h => h) (Or.inl ⟨by kernel_rfl, ?_⟩) (by assumption) ?_
              rotate_left
              · intro w hSw; (try dsimp only at hSw); go_simp; first | done | with_reducible rfl
              try simp only [List.getElem_toArray, List.getElem_cons_zero, List.getElem_cons_succ, Act.put, List.setIfInBounds_toArray, List.set_cons_zero, List.set_cons_succ]
              refine wpAnyH_take (i := 9) (oi := _) (v := .agg #[.int .i64 (c i), .int .i64 (d i)]) rfl (by kernel_rfl) (by kernel_rfl) (by kernel_rfl) (fun _ _ _ h => h) (yields_two (by kernel_rfl) _ _ rfl b4 (o4 + i * 2) rfl (.int .i64 (c i)) (.int .i64 (d i)) (fun w' hS => hS.2) _ Tryd.underlying107 rfl (by kernel_rfl)) (by assumption) ?_
              try simp only [List.getElem_toArray, List.getElem_cons_zero, List.getElem_cons_succ, Act.put, List.setIfInBounds_toArray, List.set_cons_zero, List.set_cons_succ]
              refine wpAnyH_ready (rs := [4]) (by kernel_rfl) (by simp) ?_
              refine AllReadyH.cons (o := _) rfl (fun K hK => ?_) AllReadyH.nil
              go_simp
              skip
              refine hK.out _ _ ⟨q0, y0, y1⟩ (fun hHeld => ?_)
              clear hK K
              try simp only [List.getElem_toArray, List.getElem_cons_zero, List.getElem_cons_succ, Act.put, List.setIfInBounds_toArray, List.set_cons_zero, List.set_cons_succ]
              refine wpAnyH_ready (rs := [10]) (by kernel_rfl) (by simp) ?_
              refine AllReadyH.cons (o := _) rfl (fun K hK => ?_) AllReadyH.nil
              go_simp
              refine (HWI.out _).mono ?_
              rintro e w3 ⟨hb, rfl⟩
              replace z0 := (Below.cell (p := ⟨bl, kp * 7, none⟩) hb hblt).trans z0
              replace z1 := (Below.cell (p := ⟨bl, kp * 7 + 1, none⟩) hb hblt).trans z1
              replace B := nxt B hb
              replace X2 := X2.below hb
              replace O := OwnR.below O hb
              have f0 := World.ownsRow.frozenAt O (kp * 7)
              have f1 := World.ownsRow.frozenAt O (kp * 7 + 1)
              replace q0 := (Below.cell (p := ⟨b2, 0, none⟩) hb hb2l).trans q0
              replace y0 := (Below.cell (p := ⟨b4, o4 + i * 2, none⟩) hb hb4').trans y0
              replace y1 := (Below.cell (p := ⟨b4, o4 + i * 2 + 1, none⟩) hb hb4').trans y1
              replace hblt : bl < w3.heap.size := (World.ownsRow.lt O bl rfl).2
              clear hb
              refine hK.out _ _ ⟨q0, y0, y1⟩ (fun hHeld => ?_)
              clear hK K
              try simp only [List.getElem_toArray, List.getElem_cons_zero, List.getElem_cons_succ, Act.put, List.setIfInBounds_toArray, List.set_cons_zero, List.set_cons_succ]
              refine wpAnyH_take (i := 11) (oi := _) (v := ?_) rfl (by kernel_rfl) (by kernel_rfl) (by kernel_rfl) (fun _ _ _ h => h) (Or.inl ⟨by kernel_rfl, ?_⟩) (by assumption) ?_
              rotate_left
              · intro w hSw; (try dsimp only at hSw); go_simp; first | done | with_reducible rfl
              try simp only [List.getElem_toArray, List.getElem_cons_zero, List.getElem_cons_succ, Act.put, List.setIfInBounds_toArray, List.set_cons_zero, List.set_cons_succ]
              refine wpAnyH_take (i := 12) (oi := _) (v := ?_) rfl (by kernel_rfl) (by kernel_rfl) (by kernel_rfl) (fun _ _ _ h => h) (Or.inl ⟨by kernel_rfl, ?_⟩) (by assumption) ?_
              rotate_left
              · intro w hSw; (try dsimp only at hSw); go_simp; first | done | with_reducible rfl
              try simp only [List.getElem_toArray, List.getElem_cons_zero, List.getElem_cons_succ, Act.put, List.setIfInBounds_toArray, List.set_cons_zero, List.set_cons_succ]
              have O2 := OwnR.set O (max s0 (c i)) (x0' + d i)
              have X3 := (X2.other (g := bl) (o := kp * 7) (.int .i64 (max s0 (c i))) (by omega)).other (g := bl) (o := kp * 7 + 1) (.int .i64 (x0' + d i)) (by omega)
              have B3 := (B.setCell (p := ⟨bl, kp * 7, none⟩) (by show _ ≤ bl; omega) (.int .i64 (max s0 (c i)))).setCell (p := ⟨bl, kp * 7 + 1, none⟩) (by show _ ≤ bl; omega) (.int .i64 (x0' + d i))
              replace q0 := (X3.cell 0).trans rfl
              replace y0 := (HR1C _ B3).1
              replace y1 := (HR1C _ B3).2
              clear X2 B O
              refine wpAnyH_ready (rs := [13]) (by kernel_rfl) (by simp) ?_
              refine AllReadyH.cons (o := _) rfl (fun K hK => ?_) AllReadyH.nil
              go_simp
              skip
              refine hK.out _ _ ⟨q0, y0, y1⟩ (fun hHeld => ?_)
              clear hK K
              try simp only [List.getElem_toArray, List.getElem_cons_zero, List.getElem_cons_succ, Act.put, List.setIfInBounds_toArray, List.set_cons_zero, List.set_cons_succ]
              refine wpAnyH_done (by kernel_rfl) ?_ _
              go_wp2
              exact ⟨⟨i + 1, _, _, by omega, by first | go_num | simp, rfl, B3, X3, by rw [hfin.out.1, hfin.out.2.1, hfin.out.2.2]; exact O2, all_step HA.out HP0.out⟩, by simp [intOf]; omega⟩
            · have hnew := Lib.hid (show newR pl i from .inr (by rw [HIP.out] at hq; exact hq))
              have hq1 : (pl i != pl ip) = true := by simpa using hq
              obtain ⟨y, hy⟩ : ∃ y, y = pl ip := ⟨_, rfl⟩
              rw [← hy] at p1 hq1
              clear hq hy
              obtain ⟨i0, hi', hz0, hz1, hz2⟩ := info_parts infoRun
              have hkp7 : rn pl i ≤ 6 := by omega
              have q1 : w1.cell? ⟨b2, 1, none⟩ = some (.slice (some ⟨b3, 0, none⟩) m cap2) := (X2.cell 1).trans rfl
              clear hrb
              unfold OwnR at O
              go_wp2_with (at_builtin; refine wpList_append_own _ rfl _ _ 86 rfl (b2 + 1) 154 i0 (.agg #[.int .i64 0, .int .i64 0, .int .i64 0, .int .i64 0, .int .i64 0, .int .i64 0, .int .i64 0]) 7 56 Tryd.underlying86 hi' hz0 hz1 hz2 rfl (by decide) _ _ _ rfl (World.ownsRow.alloc O _) ⟨w1.heap.size, 0, none⟩ 1 1 [.int .i64 0, .int .i64 0, .int .i64 (g.p (pl i).toNat), .int .i64 (g.q (pl i).toNat), .int .i64 (g.s (pl i).toNat), .int .i64 (g.t (pl i).toNat), .int .i64 (g.u (pl i).toNat)] rfl rfl (ncells w1 #[.int .i64 0, .int .i64 0, .int .i64 (g.p (pl i).toNat), .int .i64 (g.q (pl i).toNat), .int .i64 (g.s (pl i).toNat), .int .i64 (g.t (pl i).toNat), .int .i64 (g.u (pl i).toNat)] 154) seven_one (by unfold maxLen; omega) (by have := X2.lt; omega) (by simp; have := X2.lt; omega) ?_; intro v' w2 own' hgr _)
              have hblA := fun q e => (World.ownsRow.lt O q e)
              have B2 : Below ww.heap.size ww w2 := (al B _).grown hgr (al B _).size (fun q e => by have := (hblA q e).1; omega)
              have X22 : Bx w2 b2 #[.slice (some ⟨b4, o4, none⟩) k cap1, .slice (some ⟨b3, 0, none⟩) m cap2] 76 := (X2.alloc _).of_block (hgr.block _ (X2.alloc _).lt (fun e => by have := (hblA _ e.symm).1; omega))
              have O2 : OwnR w2 (b2 + 1) v' (upd sk (rn pl i) 0) (upd (rwk d pl i) (rn pl i) 0) (upd (rgg pl i) (rn pl i) (pl i)) g (rn pl i + 1) := by
                unfold OwnR
                rw [rC_succ, upd_same, upd_same, upd_same]
                rw [rC_congr (sk := upd sk (rn pl i) 0) (wk := upd (rwk d pl i) (rn pl i) 0) (gi := upd (rgg pl i) (rn pl i) (pl i)) (sk' := sk) (wk' := rwk d pl i) (gi' := rgg pl i) (rn pl i) (fun j hj => ⟨upd_other _ _ (by omega), upd_other _ _ (by omega), upd_other _ _ (by omega)⟩)]
                exact own'
              have y0' := (Below.cell (p := ⟨b4, o4 + i * 2, none⟩) B2 hb4).trans ((Below.cell (p := ⟨b4, o4 + i * 2, none⟩) B hb4).symm.trans y0)
              have y1' := (Below.cell (p := ⟨b4, o4 + i * 2 + 1, none⟩) B2 hb4).trans ((Below.cell (p := ⟨b4, o4 + i * 2 + 1, none⟩) B hb4).symm.trans y1)
              clear own' hgr hblA O X2 B q1 x0 x1 x2 x3 x4
              obtain ⟨kp, hkp0⟩ : ∃ kp, kp = rn pl i := ⟨_, rfl⟩
              rw [← hkp0] at O2 hkp7
              have HK0 := Lib.hid hkp0
              clear hkp0
              obtain ⟨Al, capl, hvl⟩ := OwnR.shape O2
              subst hvl
              obtain ⟨bl, hAl⟩ : ∃ bl, Al = some ⟨bl, 0, none⟩ := by
                rcases O2.2 with ⟨h1, h2⟩ | ⟨b', cap', cur, h1, h2⟩
                · omega
                · injection h1 with h1 h3 h4
                  exact ⟨b', h1⟩
              subst hAl
              obtain ⟨B, O⟩ : Below ww.heap.size ww w2 ∧ OwnR w2 (b2 + 1) (.slice (some ⟨bl, 0, none⟩) (kp + 1) capl) (upd sk kp 0) (upd (rwk d pl i) kp 0) (upd (rgg pl i) kp (pl i)) g (kp + 1) := ⟨B2, O2⟩
              have X2 := X22
              replace y0 := y0'
              replace y1 := y1'
              clear B2 O2 X22 y0' y1'
              have hkp : IntKind.i64.wrap (kp : Int) = (kp : Int) := IntWalk.i64_in _ (by omega)
              have hkp3 : (kp : Int) + 1 - 1 = (kp : Int) := by omega
              have hkp4 : (kp : Int) < (kp : Int) + 1 := by omega
              have hlen : ∀ W, (Builtin.len_ #[86] 3 #[.slice (some ⟨bl, 0, none⟩) (kp + 1) capl]).run Tryd.prog W = .ok (.int .i64 ((kp : Int) + 1)) W := fun W => by kernel_rfl
              obtain ⟨z0, z1, -, -, -, -, -⟩ := rC_get (upd sk kp 0) (upd (rwk d pl i) kp 0) (upd (rgg pl i) kp (pl i)) g (kp + 1) kp (by omega)
              replace z0 := (World.ownsRow.cellAt O (kp * 7) (by omega)).trans z0
              replace z1 := (World.ownsRow.cellAt O (kp * 7 + 1) (by omega)).trans z1
              have f0 := World.ownsRow.frozenAt O (kp * 7)
              have f1 := World.ownsRow.frozenAt O (kp * 7 + 1)
              have hblt : bl < w2.heap.size := (World.ownsRow.lt O bl rfl).2
              have HR1C : ∀ V, Below ww.heap.size ww V → V.cell? ⟨b4, o4 + i * 2, none⟩ = some (.int .i64 (c i)) ∧ V.cell? ⟨b4, o4 + i * 2 + 1, none⟩ = some (.int .i64 (d i)) := fun V hV => ⟨(Below.cell (p := ⟨b4, o4 + i * 2, none⟩) hV hb4).trans ((Below.cell (p := ⟨b4, o4 + i * 2, none⟩) B hb4).symm.trans y0), (Below.cell (p := ⟨b4, o4 + i * 2 + 1, none⟩) hV hb4).trans ((Below.cell (p := ⟨b4, o4 + i * 2 + 1, none⟩) B hb4).symm.trans y1)⟩
              have hbl2 : b2 + 1 ≤ bl := (World.ownsRow.lt O bl rfl).1
              obtain ⟨s0, hs0'⟩ : ∃ s0, s0 = (upd sk kp 0) kp := ⟨_, rfl⟩
              obtain ⟨x0', hx0'⟩ : ∃ x0', x0' = (upd (rwk d pl i) kp 0) kp := ⟨_, rfl⟩
              rw [← hs0'] at z0
              rw [← hx0'] at z1
              have hxb : 0 ≤ x0' ∧ x0' ≤ 2000 := by rw [hx0', upd_same]; omega
              have HX0 := Lib.hid hx0'
              have hfin := Lib.hid (show rn pl (i + 1) = kp + 1 ∧ rwk d pl (i + 1) = upd (upd (rwk d pl i) kp 0) kp (x0' + d i) ∧ rgg pl (i + 1) = upd (rgg pl i) kp (pl i) from by
                have h1 := rn_new hnew.out
                have e := HK0.out
                refine ⟨by omega, ?_, ?_⟩
                · rw [HX0.out, upd_same, upd_upd, Int.zero_add, e]
                  simp only [rwk, if_pos hnew.out]
                · show upd (rgg pl i) (rn pl (i + 1) - 1) (pl i) = _
                  rw [h1, Nat.add_sub_cancel, e])
              clear hs0' hx0'
              have HWI := Lib.hid (fun V => with_any s0 x0' (c i) (d i) (max s0 (c i)) V rfl (by omega) (by omega))
              go_wp2
              simp only [hlen, Result.andThen]
              go_wp2
              have q0 : w2.cell? ⟨b2, 0, none⟩ = some (.slice (some ⟨b4, o4, none⟩) k cap1) := (X2.cell 0).trans rfl
              refine wp_region_held_drew (S := (fun w' : World => w'.cell? ⟨b2, 0, none⟩ = some (.slice (some ⟨b4, o4, none⟩) k cap1) ∧ w'.cell? ⟨b4, o4 + i * 2, none⟩ = some (.int .i64 (c i)) ∧ w'.cell? ⟨b4, o4 + i * 2 + 1, none⟩ = some (.int .i64 (d i)))) (by kernel_rfl) ⟨q0, y0, y1⟩ (fun hHeld => ?_)
              replace B := B.drew
              replace X2 : Bx w2.drew b2 #[.slice (some ⟨b4, o4, none⟩) k cap1, .slice (some ⟨b3, 0, none⟩) m cap2] 76 := X2
              replace O : OwnR w2.drew (b2 + 1) (.slice (some ⟨bl, 0, none⟩) (kp + 1) capl) (upd sk kp 0) (upd (rwk d pl i) kp 0) (upd (rgg pl i) kp (pl i)) g (kp + 1) := O
              replace z0 : w2.drew.cell? ⟨bl, kp * 7, none⟩ = some (.int .i64 s0) := z0
              replace z1 : w2.drew.cell? ⟨bl, kp * 7 + 1, none⟩ = some (.int .i64 x0') := z1
              replace hblt : bl < w2.drew.heap.size := hblt
              replace q0 : w2.drew.cell? ⟨b2, 0, none⟩ = some (.slice (some ⟨b4, o4, none⟩) k cap1) := q0
              replace y0 : w2.drew.cell? ⟨b4, o4 + i * 2, none⟩ = some (.int .i64 (c i)) := y0
              replace y1 : w2.drew.cell? ⟨b4, o4 + i * 2 + 1, none⟩ = some (.int .i64 (d i)) := y1
              have hb4' : b4 < w2.drew.heap.size := Nat.lt_of_lt_of_le hb4 B.size
              obtain ⟨wq, hwq⟩ : ∃ wq, w2.drew = wq := ⟨_, rfl⟩
              rw [hwq] at B X2 O z0 z1 hblt q0 y0 y1 hb4' hHeld ⊢
              clear hwq f0 f1
              have hb2l : b2 < wq.heap.size := X2.lt
              refine wpAnyH_take (i := 0) (oi := _) (v := ?_) rfl (by kernel_rfl) (by kernel_rfl) (by kernel_rfl) (fun _ _ _ h => h) (Or.inl ⟨by kernel_rfl, ?_⟩) (by assumption) ?_
              rotate_left
              · intro w hSw; (try dsimp only at hSw); go_simp; first | done | with_reducible rfl
              try simp only [List.getElem_toArray, List.getElem_cons_zero, List.getElem_cons_succ, Act.put, List.setIfInBounds_toArray, List.set_cons_zero, List.set_cons_succ]
              refine wpAnyH_take (i := 1) (oi := _) (v := ?_) rfl (by kernel_rfl) (by kernel_rfl) (by kernel_rfl) (fun _ _ _ h => h) (Or.inl ⟨by kernel_rfl, ?_⟩) (by assumption) ?_
              rotate_left
              · intro w hSw; (try dsimp only at hSw); go_simp; first | done | with_reducible rfl
              try simp only [List.getElem_toArray, List.getElem_cons_zero, List.getElem_cons_succ, Act.put, List.setIfInBounds_toArray, List.set_cons_zero, List.set_cons_succ]
              refine wpAnyH_take (i := 2) (oi := _) (v := ?_) rfl (by kernel_rfl) (by kernel_rfl) (by kernel_rfl) (fun _ _ _ h => h) (Or.inl ⟨by kernel_rfl, ?_⟩) (by assumption) ?_
              rotate_left
              · intro w hSw; (try dsimp only at hSw); go_simp; first | done | with_reducible rfl
              try simp only [List.getElem_toArray, List.getElem_cons_zero, List.getElem_cons_succ, Act.put, List.setIfInBounds_toArray, List.set_cons_zero, List.set_cons_succ]
              refine wpAnyH_take (i := 3) (oi := _) (v := ?_) rfl (by kernel_rfl) (by kernel_rfl) (by kernel_rfl) (fun _ _ _ h => h) (Or.inl ⟨by kernel_rfl, ?_⟩) (by assumption) ?_
              rotate_left
              · intro w hSw; (try dsimp only at hSw); go_simp; first | done | with_reducible rfl
              try simp only [List.getElem_toArray, List.getElem_cons_zero, List.getElem_cons_succ, Act.put, List.setIfInBounds_toArray, List.set_cons_zero, List.set_cons_succ]
              refine wpAnyH_take (i := 5) (oi := _) (v := ?_) rfl (by kernel_rfl) (by kernel_rfl) (by kernel_rfl) (fun _ _ _ h => h) (Or.inl ⟨by kernel_rfl, ?_⟩) (by assumption) ?_
              rotate_left
              · intro w hSw; (try dsimp only at hSw); go_simp; first | done | with_reducible rfl
              try simp only [List.getElem_toArray, List.getElem_cons_zero, List.getElem_cons_succ, Act.put, List.setIfInBounds_toArray, List.set_cons_zero, List.set_cons_succ]
              refine wpAnyH_take (i := 6) (oi := _) (v := ?_) rfl (by kernel_rfl) (by kernel_rfl) (by kernel_rfl) (fun _ _ _ h => h) (Or.inl ⟨by kernel_rfl, ?_⟩) (by assumption) ?_
              rotate_left
              · intro w hSw; have hcell := (fun (w' : World) (hS : w'.cell? ⟨b2, 0, none⟩ = some (.slice (some ⟨b4, o4, none⟩) k cap1) ∧ w'.cell? ⟨b4, o4 + i * 2, none⟩ = some (.int .i64 (c i)) ∧ w'.cell? ⟨b4, o4 + i * 2 + 1, none⟩ = some (.int .i64 (d i))) => hS.1) w hSw; clear hSw; go_simp; first | done | with_reducible rfl
              try simp only [List.getElem_toArray, List.getElem_cons_zero, List.getElem_cons_succ, Act.put, List.setIfInBounds_toArray, List.set_cons_zero, List.set_cons_succ]
              refine wpAnyH_take (i := 7) (oi := _) (v := ?_) rfl (by kernel_rfl) (by kernel_rfl) (by kernel_rfl) (fun _ _ _ h => h) (Or.inl ⟨by kernel_rfl, ?_⟩) (by assumption) ?_
              rotate_left
              · intro w hSw; (try dsimp only at hSw); go_simp; first | done | with_reducible rfl
              try simp only [List.getElem_toArray, List.getElem_cons_zero, List.getElem_cons_succ, Act.put, List.setIfInBounds_toArray, List.set_cons_zero, List.set_cons_succ]
              refine wpAnyH_take (i := 8) (oi := _) (v := ?_) rfl (by kernel_rfl) (by kernel_rfl) (by kernel_rfl) (fun _ _ _ h => h) (Or.inl ⟨by kernel_rfl, ?_⟩) (by assumption) ?_
              rotate_left
              · intro w hSw; (try dsimp only at hSw); go_simp; first | done | with_reducible rfl
              try simp only [List.getElem_toArray, List.getElem_cons_zero, List.getElem_cons_succ, Act.put, List.setIfInBounds_toArray, List.set_cons_zero, List.set_cons_succ]
              refine wpAnyH_take (i := 9) (oi := _) (v := .agg #[.int .i64 (c i), .int .i64 (d i)]) rfl (by kernel_rfl) (by kernel_rfl) (by kernel_rfl) (fun _ _ _ h => h) (yields_two (by kernel_rfl) _ _ rfl b4 (o4 + i * 2) rfl (.int .i64 (c i)) (.int .i64 (d i)) (fun w' hS => hS.2) _ Tryd.underlying107 rfl (by kernel_rfl)) (by assumption) ?_
              try simp only [List.getElem_toArray, List.getElem_cons_zero, List.getElem_cons_succ, Act.put, List.setIfInBounds_toArray, List.set_cons_zero, List.set_cons_succ]
              refine wpAnyH_ready (rs := [4]) (by kernel_rfl) (by simp) ?_
              refine AllReadyH.cons (o := _) rfl (fun K hK => ?_) AllReadyH.nil
              go_simp
              skip
              refine hK.out _ _ ⟨q0, y0, y1⟩ (fun hHeld => ?_)
              clear hK K
              try simp only [List.getElem_toArray, List.getElem_cons_zero, List.getElem_cons_succ, Act.put, List.setIfInBounds_toArray, List.set_cons_zero, List.set_cons_succ]
              refine wpAnyH_ready (rs := [10]) (by kernel_rfl) (by simp) ?_
              refine AllReadyH.cons (o := _) rfl (fun K hK => ?_) AllReadyH.nil
              go_simp
              refine (HWI.out _).mono ?_
              rintro e w3 ⟨hb, rfl⟩
              replace z0 := (Below.cell (p := ⟨bl, kp * 7, none⟩) hb hblt).trans z0
              replace z1 := (Below.cell (p := ⟨bl, kp * 7 + 1, none⟩) hb hblt).trans z1
              replace B := nxt B hb
              replace X2 := X2.below hb
              replace O := OwnR.below O hb
              have f0 := World.ownsRow.frozenAt O (kp * 7)
              have f1 := World.ownsRow.frozenAt O (kp * 7 + 1)
              replace q0 := (Below.cell (p := ⟨b2, 0, none⟩) hb hb2l).trans q0
              replace y0 := (Below.cell (p := ⟨b4, o4 + i * 2, none⟩) hb hb4').trans y0
              replace y1 := (Below.cell (p := ⟨b4, o4 + i * 2 + 1, none⟩) hb hb4').trans y1
              replace hblt : bl < w3.heap.size := (World.ownsRow.lt O bl rfl).2
              clear hb
              refine hK.out _ _ ⟨q0, y0, y1⟩ (fun hHeld => ?_)
              clear hK K
              try simp only [List.getElem_toArray, List.getElem_cons_zero, List.getElem_cons_succ, Act.put, List.setIfInBounds_toArray, List.set_cons_zero, List.set_cons_succ]
              refine wpAnyH_take (i := 11) (oi := _) (v := ?_) rfl (by kernel_rfl) (by kernel_rfl) (by kernel_rfl) (fun _ _ _ h => h) (Or.inl ⟨by kernel_rfl, ?_⟩) (by assumption) ?_
              rotate_left
              · intro w hSw; (try dsimp only at hSw); go_simp; first | done | with_reducible rfl
              try simp only [List.getElem_toArray, List.getElem_cons_zero, List.getElem_cons_succ, Act.put, List.setIfInBounds_toArray, List.set_cons_zero, List.set_cons_succ]
              refine wpAnyH_take (i := 12) (oi := _) (v := ?_) rfl (by kernel_rfl) (by kernel_rfl) (by kernel_rfl) (fun _ _ _ h => h) (Or.inl ⟨by kernel_rfl, ?_⟩) (by assumption) ?_
              rotate_left
              · intro w hSw; (try dsimp only at hSw); go_simp; first | done | with_reducible rfl
              try simp only [List.getElem_toArray, List.getElem_cons_zero, List.getElem_cons_succ, Act.put, List.setIfInBounds_toArray, List.set_cons_zero, List.set_cons_succ]
              have O2 := OwnR.set O (max s0 (c i)) (x0' + d i)
              have X3 := (X2.other (g := bl) (o := kp * 7) (.int .i64 (max s0 (c i))) (by omega)).other (g := bl) (o := kp * 7 + 1) (.int .i64 (x0' + d i)) (by omega)
              have B3 := (B.setCell (p := ⟨bl, kp * 7, none⟩) (by show _ ≤ bl; omega) (.int .i64 (max s0 (c i)))).setCell (p := ⟨bl, kp * 7 + 1, none⟩) (by show _ ≤ bl; omega) (.int .i64 (x0' + d i))
              replace q0 := (X3.cell 0).trans rfl
              replace y0 := (HR1C _ B3).1
              replace y1 := (HR1C _ B3).2
              clear X2 B O
              refine wpAnyH_ready (rs := [13]) (by kernel_rfl) (by simp) ?_
              refine AllReadyH.cons (o := _) rfl (fun K hK => ?_) AllReadyH.nil
              go_simp
              skip
              refine hK.out _ _ ⟨q0, y0, y1⟩ (fun hHeld => ?_)
              clear hK K
              try simp only [List.getElem_toArray, List.getElem_cons_zero, List.getElem_cons_succ, Act.put, List.setIfInBounds_toArray, List.set_cons_zero, List.set_cons_succ]
              refine wpAnyH_done (by kernel_rfl) ?_ _
              go_wp2
              exact ⟨⟨i + 1, _, _, by omega, by first | go_num | simp, rfl, B3, X3, by rw [hfin.out.1, hfin.out.2.1, hfin.out.2.2]; exact O2, all_step HA.out HP0.out⟩, by simp [intOf]; omega⟩
      · obtain rfl : i = k := by omega
        have hii : ¬ ((i : Int) < (i : Int)) := by omega
        go_wp2
        go_ret
        exact ⟨HBw.out _ B, .inr ⟨⟨rfl, HA.out⟩, _, sk, rfl, World.ownsRow.mono O (by omega)⟩⟩
  · have hnn : ((k : Int) != (n : Int)) = true := by simp; omega
    have N0 := Lib.hid (show ¬ RightP n c m g k pl from fun h => hkn h.1)
    have q0 := X2.cell 0
    simp only [List.getElem?_toArray, List.getElem?_cons_zero] at q0
    by_cases hlt : (n : Int) < (k : Int)
    · go_enter Tryd.func91, Tryd.ntmps91
      go_wp2
      exact ⟨rfl, B, .inl ⟨N0.out, _, rfl⟩⟩
    · have hlt2 : (k : Int) < (n : Int) := by omega
      go_enter Tryd.func91, Tryd.ntmps91
      go_wp2
      exact ⟨rfl, B, .inl ⟨N0.out, _, rfl⟩⟩
end Go.Proofs.YtfpoikeibjojgaaDoor
