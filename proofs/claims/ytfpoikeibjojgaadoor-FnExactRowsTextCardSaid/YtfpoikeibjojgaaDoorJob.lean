/-
  A job of rows and gangs: the contract of impl.jobFor. Conditions stand at each.
-/
import Derived.Test.YtfpoikeibjojgaaDoorRows
import Derived.Test.YtfpoikeibjojgaaDoorGangL
import Derived.Test.YtfpoikeibjojgaaDoorDuty
import Derived.Test.YtfpoikeibjojgaaDoorRefD
import Derived.Test.YtfpoikeibjojgaaDoorIv
import Derived.Deep.RegionHeld3
namespace Go.Proofs.YtfpoikeibjojgaaDoor
open Go Go.ChangeShapes Go.WideShapes Go.ChangeAt Go.RowKit
set_option linter.unusedVariables false
set_option linter.unusedSimpArgs false
set_option maxRecDepth 100000
set_option maxHeartbeats 4000000
/-- the code of rows and gangs. -/
def JobCode (n : Nat) (c d : Nat → Int) (m : Nat) (g : Gs) (r : Int) : Prop :=
  (¬ (RowsOk n c d ∧ AllG m g) ∧ r = 1) ∨ ((RowsOk n c d ∧ AllG m g) ∧ 4 < m ∧ r = 3) ∨ ((RowsOk n c d ∧ AllG m g) ∧ m ≤ 4 ∧ 2000 < sumN d n ∧ r = 2) ∨ ((RowsOk n c d ∧ AllG m g) ∧ m ≤ 4 ∧ sumN d n ≤ 2000 ∧ r = 0)
theorem JobCode.one {n : Nat} {c d : Nat → Int} {m : Nat} {g : Gs} {r s : Int} (h : JobCode n c d m g r) (k : JobCode n c d m g s) : r = s := by
  rcases h with ⟨h, rfl⟩ | ⟨h, h1, rfl⟩ | ⟨h, h1, h2, rfl⟩ | ⟨h, h1, h2, rfl⟩ <;> rcases k with ⟨k, rfl⟩ | ⟨k, k1, rfl⟩ | ⟨k, k1, k2, rfl⟩ | ⟨k, k1, k2, rfl⟩ <;> first | rfl | contradiction | omega
/-- rows and gangs that may be asked. -/
def JobOk (n : Nat) (c d : Nat → Int) (m : Nat) (g : Gs) : Prop := (RowsOk n c d ∧ AllG m g) ∧ m ≤ 4 ∧ sumN d n ≤ 2000
theorem JobCode.ok {n : Nat} {c d : Nat → Int} {m : Nat} {g : Gs} (h : JobCode n c d m g 0) : JobOk n c d m g := by
  rcases h with ⟨h, h1⟩ | ⟨h, h1, h2⟩ | ⟨h, h1, h2, h3⟩ | ⟨h, h1, h2, h3⟩
  · omega
  · omega
  · omega
  · exact ⟨h, h1, h2⟩
/-- the cells of duties, and of crews. -/
def dC (c d : Nat → Int) (n : Nat) : List Value := (List.range n).flatMap fun j => [.int .i64 (c j), .int .i64 (d j)]
def cC (g : Gs) (n : Nat) : List Value := (List.range n).flatMap fun j => [.int .i64 (g.p j), .int .i64 (g.q j), .int .i64 (g.s j), .int .i64 (g.t j), .int .i64 (g.u j)]
theorem dC_succ (c d : Nat → Int) (n : Nat) : dC c d (n + 1) = dC c d n ++ [.int .i64 (c n), .int .i64 (d n)] := by simp [dC, List.range_succ]
theorem cC_succ (g : Gs) (n : Nat) : cC g (n + 1) = cC g n ++ [.int .i64 (g.p n), .int .i64 (g.q n), .int .i64 (g.s n), .int .i64 (g.t n), .int .i64 (g.u n)] := by simp [cC, List.range_succ]
theorem dC_length (c d : Nat → Int) : ∀ n, (dC c d n).length = n * 2
  | 0 => rfl
  | n + 1 => by rw [dC_succ, List.length_append, dC_length c d n]; simp; omega
theorem cC_length (g : Gs) : ∀ n, (cC g n).length = n * 5
  | 0 => rfl
  | n + 1 => by rw [cC_succ, List.length_append, cC_length g n]; simp; omega
theorem dC_one (c d : Nat → Int) (n : Nat) : ∀ u ∈ dC c d n, u.oneCell' = true := by
  intro u hu
  simp only [dC, List.mem_flatMap] at hu
  obtain ⟨j, _, hu⟩ := hu
  simp at hu
  rcases hu with rfl | rfl <;> rfl
theorem cC_one (g : Gs) (n : Nat) : ∀ u ∈ cC g n, u.oneCell' = true := by
  intro u hu
  simp only [cC, List.mem_flatMap] at hu
  obtain ⟨j, _, hu⟩ := hu
  simp at hu
  rcases hu with rfl | rfl | rfl | rfl | rfl <;> rfl
theorem infoDuty : (Tryd.prog.info? 107).map (fun i => (i.zero, i.size, i.bytes)) = some (some (.agg #[.int .i64 0, .int .i64 0]), 2, 16) := by kernel_rfl
theorem infoCrew : (Tryd.prog.info? 109).map (fun i => (i.zero, i.size, i.bytes)) = some (some (.agg #[.int .i64 0, .int .i64 0, .int .i64 0, .int .i64 0, .int .i64 0]), 5, 40) := by kernel_rfl
def OwnD (w : World) (base : Nat) (v : Value) (c d : Nat → Int) (n : Nat) : Prop := w.ownsRow base 107 2 v n (dC c d n)
def OwnW (w : World) (base : Nat) (v : Value) (g : Gs) (n : Nat) : Prop := w.ownsRow base 109 5 v n (cC g n)
/-- a job's two slices. -/
def JobPost (n : Nat) (c d : Nat → Int) (m : Nat) (g : Gs) (w : World) (e : Ending) (w' : World) : Prop :=
  Below w.heap.size w w' ∧ ((∃ (r : Int) (x : Value), r ≠ 0 ∧ JobCode n c d m g r ∧ Refuses x r ∧ e = .returned (.tuple #[.agg #[.slice none 0 0, .slice none 0 0], x])) ∨
    (JobOk n c d m g ∧ ∃ v1 v2, e = .returned (.tuple #[.agg #[v1, v2], .nilIface]) ∧ OwnD w' w.heap.size v1 c d n ∧ OwnW w' w.heap.size v2 g m))
theorem job_store {w : World} {b : Nat} {a0 a1 : Value} {t : TypeId} (h : Bx w b #[a0, a1] t) (v0 v1 : Value) :
    (w.cell? ⟨b, 0, none⟩ = some a0 ∧ w.cell? ⟨b, 1, none⟩ = some a1) ∧ (w.frozen? ⟨b, 0, none⟩ = false ∧ w.frozen? ⟨b, 1, none⟩ = false) ∧
    Bx ((w.setCell ⟨b, 0, none⟩ v0).setCell ⟨b, 1, none⟩ v1) b #[v0, v1] t :=
  ⟨⟨h.cell 0, h.cell 1⟩, ⟨h.frozen 0, h.frozen 1⟩, (h.set 0 v0).set 1 v1⟩
theorem own_shape {w : World} {base : Nat} {e : TypeId} {sz : Nat} {v : Value} {n : Nat} {xs : List Value} (h : w.ownsRow base e sz v n xs) : ∃ A cap, v = .slice A n cap := by
  rcases h.2 with ⟨rfl, h0⟩ | ⟨g, cap, cur, rfl, _⟩
  · exact ⟨none, 0, by rw [h0]⟩
  · exact ⟨_, _, rfl⟩
theorem OwnW.setOther0 {w : World} {base b : Nat} {v : Value} {g : Gs} {n : Nat} (h : OwnW w base v g n) (hb : b < base) (u : Value) : OwnW (w.setCell ⟨b, 0, none⟩ u) base v g n := by
  refine ⟨h.1, h.2.imp id ?_⟩
  rintro ⟨g, cap, cur, rfl, hg, hw, r⟩
  exact ⟨g, cap, cur, rfl, hg, (Below.heap_setCell w ⟨b, 0, none⟩ u g (by simp; omega)).trans hw, r⟩
theorem own_ne {a b : Option Nat} (h : ∀ q, a = some q → b = some q → False) : a = none ∨ a ≠ b := by
  cases a with
  | none => exact .inl rfl
  | some q => exact .inr fun e => h q rfl e.symm
theorem dC_get (c d : Nat → Int) : ∀ n j, j < n → (dC c d n)[j * 2]? = some (.int .i64 (c j)) ∧ (dC c d n)[j * 2 + 1]? = some (.int .i64 (d j))
  | 0, j, h => by omega
  | n + 1, j, h => by
    rw [dC_succ]
    by_cases e : j = n
    · subst e
      rw [List.getElem?_append_right (by rw [dC_length]; omega), List.getElem?_append_right (by rw [dC_length]; omega), dC_length]
      simp
    · have := dC_get c d n j (by omega)
      rw [List.getElem?_append_left (by rw [dC_length]; omega), List.getElem?_append_left (by rw [dC_length]; omega)]
      exact this
theorem OwnD.rd {w : World} {base n cap : Nat} {A : Option Addr} {c d : Nat → Int} (h : OwnD w base (.slice A n cap) c d n) : RdU w w.heap.size A n c d := fun h0 => by
  have hs := h
  rcases h.2 with ⟨e, h1⟩ | ⟨g, cap', cur, e, hg, hw, r⟩
  · omega
  · injection e with e1 e2 e3
    subst e1 e3
    refine ⟨g, 0, rfl, (Array.getElem?_eq_some_iff.1 hw).1, fun j hj => ?_⟩
    have h1 := World.ownsRow.cellAt hs (j * 2) (by omega)
    have h2 := World.ownsRow.cellAt hs (j * 2 + 1) (by omega)
    rw [(dC_get c d n j hj).1] at h1
    rw [(dC_get c d n j hj).2] at h2
    rw [Nat.zero_add]
    exact ⟨h1, h2⟩
theorem duty_one (a b : Int) : ∀ u ∈ [Value.int .i64 a, .int .i64 b], u.oneCell' = true := by
  intro u hu; simp at hu; rcases hu with rfl | rfl <;> rfl
theorem crew_one (a b c d e : Int) : ∀ u ∈ [Value.int .i64 a, .int .i64 b, .int .i64 c, .int .i64 d, .int .i64 e], u.oneCell' = true := by
  intro u hu; simp at hu; rcases hu with rfl | rfl | rfl | rfl | rfl <;> rfl
theorem OwnD.below {w w' : World} {base : Nat} {v : Value} {c d : Nat → Int} {n : Nat} (h : OwnD w base v c d n) (hb : Below w.heap.size w w') : OwnD w' base v c d n := by
  refine ⟨h.1, h.2.imp id ?_⟩
  rintro ⟨g, cap, cur, rfl, hg, hw, r⟩
  exact ⟨g, cap, cur, rfl, hg, (hb.block g (Array.getElem?_eq_some_iff.1 hw).1).trans hw, r⟩
theorem OwnW.below {w w' : World} {base : Nat} {v : Value} {g : Gs} {n : Nat} (h : OwnW w base v g n) (hb : Below w.heap.size w w') : OwnW w' base v g n := by
  refine ⟨h.1, h.2.imp id ?_⟩
  rintro ⟨g, cap, cur, rfl, hg, hw, r⟩
  exact ⟨g, cap, cur, rfl, hg, (hb.block g (Array.getElem?_eq_some_iff.1 hw).1).trans hw, r⟩
theorem OwnD.setOther {w : World} {base b : Nat} {v : Value} {c d : Nat → Int} {n : Nat} (h : OwnD w base v c d n) (hb : b < base) (u : Value) : OwnD (w.setCell ⟨b, 0, none⟩ u) base v c d n := by
  refine ⟨h.1, h.2.imp id ?_⟩
  rintro ⟨g, cap, cur, rfl, hg, hw, r⟩
  exact ⟨g, cap, cur, rfl, hg, (Below.heap_setCell w ⟨b, 0, none⟩ u g (by simp; omega)).trans hw, r⟩
theorem OwnD.setOther1 {w : World} {base b : Nat} {v : Value} {c d : Nat → Int} {n : Nat} (h : OwnD w base v c d n) (hb : b < base) (u : Value) : OwnD (w.setCell ⟨b, 1, none⟩ u) base v c d n := by
  refine ⟨h.1, h.2.imp id ?_⟩
  rintro ⟨g, cap, cur, rfl, hg, hw, r⟩
  exact ⟨g, cap, cur, rfl, hg, (Below.heap_setCell w ⟨b, 1, none⟩ u g (by simp; omega)).trans hw, r⟩
theorem OwnW.setOther {w : World} {base b : Nat} {v : Value} {g : Gs} {n : Nat} (h : OwnW w base v g n) (hb : b < base) (u : Value) : OwnW (w.setCell ⟨b, 1, none⟩ u) base v g n := by
  refine ⟨h.1, h.2.imp id ?_⟩
  rintro ⟨g, cap, cur, rfl, hg, hw, r⟩
  exact ⟨g, cap, cur, rfl, hg, (Below.heap_setCell w ⟨b, 1, none⟩ u g (by simp; omega)).trans hw, r⟩
theorem jobFor_any (A : Option Addr) (n cap : Nat) (c d : Nat → Int) (A' : Option Addr) (m cap' : Nat) (g : Gs) (w : World) (hn : n ≤ 1048576) (hm : m ≤ 1048576) (hr : RdS w w.heap.size A n c d) (hg : RdG w w.heap.size A' m g)
    (hc : ∀ j, -128 ≤ c j ∧ c j ≤ 127) (hd : ∀ j, -32768 ≤ d j ∧ d j ≤ 32767) (hgb : g.bd) :
    Calls Tryd.prog 48 #[.slice A n cap, .slice A' m cap'] w (JobPost n c d m g w) := by
  obtain ⟨r0, e0⟩ := dec_ex (RowsOk n c d)
  obtain ⟨r1, e1⟩ := dec_ex (¬ AllG m g)
  have H0 := Lib.hid (fun W (hB : Below w.heap.size w W) => implRows_any A n cap c d r0 W hn ((hr.below hB).mono hB.size) hc hd e0)
  have H1 := Lib.hid (fun W (hB : Below w.heap.size w W) => containsFunc_gangs A' m cap' g r1 W hm ((hg.below hB).mono hB.size) hgb e1)
  have HR := Lib.hid hr
  have HG := Lib.hid hg
  have HC := Lib.hid hc
  have HD := Lib.hid hd
  have HB := Lib.hid hgb
  have E0 := Lib.hid e0
  have E1 := Lib.hid e1
  have X4 := Bx.new w #[.slice none 0 0, .slice none 0 0] 76
  have B := al (Below.refl w.heap.size w) (.cells #[.slice none 0 0, .slice none 0 0] 76)
  clear hr hg hc hd hgb e0 e1
  go_enter Tryd.func48, Tryd.ntmps48
  go_wp2_with fail
  refine (H0.out _ B).mono ?_
  rintro e w1 ⟨hb, rfl⟩
  replace X4 := X4.below hb
  replace B := nxt B hb
  clear hb H0
  obtain ⟨b4, h4⟩ : ∃ b4, b4 = w.heap.size := ⟨_, rfl⟩
  have hb4 : w.heap.size ≤ b4 := by omega
  rw [← h4] at X4 ⊢
  clear h4
  cases r0 with
  | false =>
    have N0 := Lib.hid (show ¬ (RowsOk n c d ∧ AllG m g) from fun h => by have := E0.out.2 h.1; cases this)
    obtain ⟨⟨x0, x1⟩, ⟨z0, z1⟩, Y⟩ := job_store X4 (.slice none 0 0) (.slice none 0 0)
    have y0 := Y.cell 0
    have y1 := Y.cell 1
    simp only [List.getElem?_toArray, List.getElem?_cons_zero, List.getElem?_cons_succ] at y0 y1
    have B' := (B.setCell (p := ⟨b4, 0, none⟩) hb4 (.slice none 0 0)).setCell (p := ⟨b4, 1, none⟩) hb4 (.slice none 0 0)
    clear X4 Y B
    go_wp2
    refine bodyPost_ret (by simp [results, Tryd.results48, go_sem, y0, y1]; rfl) rfl ⟨B', .inl ⟨1, _, by decide, .inl ⟨N0.out, rfl⟩, .inl ⟨_, rfl, rfl⟩, rfl⟩⟩
  | true =>
    have P0 := Lib.hid (E0.out.1 rfl)
    go_wp2_with fail
    refine (H1.out _ B).mono ?_
    rintro e w2 ⟨hb, rfl⟩
    replace X4 := X4.below hb
    replace B := nxt B hb
    clear hb H1
    cases r1 with
    | true =>
      have N0 := Lib.hid (show ¬ (RowsOk n c d ∧ AllG m g) from fun h => E1.out.1 rfl h.2)
      obtain ⟨⟨x0, x1⟩, ⟨z0, z1⟩, Y⟩ := job_store X4 (.slice none 0 0) (.slice none 0 0)
      have y0 := Y.cell 0
      have y1 := Y.cell 1
      simp only [List.getElem?_toArray, List.getElem?_cons_zero, List.getElem?_cons_succ] at y0 y1
      have B' := (B.setCell (p := ⟨b4, 0, none⟩) hb4 (.slice none 0 0)).setCell (p := ⟨b4, 1, none⟩) hb4 (.slice none 0 0)
      clear X4 Y B
      go_wp2
      refine bodyPost_ret (by simp [results, Tryd.results48, go_sem, y0, y1]; rfl) rfl ⟨B', .inl ⟨1, _, by decide, .inl ⟨N0.out, rfl⟩, .inl ⟨_, rfl, rfl⟩, rfl⟩⟩
    | false =>
      have P1 : Hid (AllG m g) := Lib.hid (Classical.byContradiction fun h => by have := E1.out.2 h; cases this)
      have P2 : Hid (RowsOk n c d ∧ AllG m g) := Lib.hid ⟨P0.out, P1.out⟩
      by_cases h4 : 4 < m
      · have d1 : decide ((4 : Int) < (m : Int)) = true := by simp; omega
        have d2 : (4 : Int) < (m : Int) := by omega
        obtain ⟨⟨x0, x1⟩, ⟨z0, z1⟩, Y⟩ := job_store X4 (.slice none 0 0) (.slice none 0 0)
        have y0 := Y.cell 0
        have y1 := Y.cell 1
        simp only [List.getElem?_toArray, List.getElem?_cons_zero, List.getElem?_cons_succ] at y0 y1
        have B' := (B.setCell (p := ⟨b4, 0, none⟩) hb4 (.slice none 0 0)).setCell (p := ⟨b4, 1, none⟩) hb4 (.slice none 0 0)
        clear X4 Y B
        go_wp2
        refine bodyPost_ret (by simp [results, Tryd.results48, go_sem, y0, y1]; rfl) rfl ⟨B', .inl ⟨3, _, by decide, .inr (.inl ⟨P2.out, h4, rfl⟩), .inr (.inl ⟨_, rfl, rfl⟩), rfl⟩⟩
      have d1 : decide ((4 : Int) < (m : Int)) = false := by simp; omega
      have d2 : ¬ (4 : Int) < (m : Int) := by omega
      have hm4 : m ≤ 4 := by omega
      have hn6 : n ≤ 6 := P0.out.1
      obtain ⟨i0, hi, hz0, hz1, hz2⟩ := info_parts infoDuty
      obtain ⟨i1, hi1, hz10, hz11, hz12⟩ := info_parts infoCrew
      have X6 := Bx.new w2 #[.slice none 0 0, .slice none 0 0] 76
      have h46 : b4 < w2.heap.size := X4.lt
      replace X4 := X4.alloc (.cells #[.slice none 0 0, .slice none 0 0] 76)
      have hb6 : w.heap.size ≤ w2.heap.size := B.size
      replace B := al B (.cells #[.slice none 0 0, .slice none 0 0] 76)
      go_wp2
      obtain ⟨W0, hW0⟩ : ∃ W0 : World, W0 = w2.alloc (.cells #[.slice none 0 0, .slice none 0 0] 76) := ⟨_, rfl⟩
      rw [← hW0] at X4 X6 B ⊢
      clear hW0
      obtain ⟨b6, h6⟩ : ∃ b6, b6 = w2.heap.size := ⟨_, rfl⟩
      rw [← h6] at X6 h46 hb6 ⊢
      clear h6 d1 d2 E1
      go_loopw [8, 33] (fun t8 t33 wr => ∃ (k : Nat) (v1 : Value), k ≤ n ∧ t33 = .int .i64 k ∧ Below w.heap.size w wr ∧ Bx wr b4 #[.slice none 0 0, .slice none 0 0] 76 ∧ Bx wr b6 #[v1, .slice none 0 0] 76 ∧ OwnD wr (b6 + 1) v1 c d k) (fun t8 t33 wr => n - (intOf t33).toNat)
      case atStart => exact ⟨0, .slice none 0 0, by omega, rfl, B, X4, X6, World.ownsRow_nil _ _ _ _⟩
      case round =>
        clear B X4 X6
        obtain ⟨k, v1, hk, rfl, B, X4, X6, O⟩ := hrel
        by_cases hlt : k < n
        · have hki : (k : Int) < (n : Int) := by omega
          obtain ⟨b, off, rfl, hbl, c0, c1⟩ := (HR.out.below B).at hlt
          have HDu := Lib.hid (fun W => dutyOf_any (c k) (d k) W (HC.out k) (HD.out k))
          go_wp2
          have X8 := Bx.new wr #[.int .i8 (c k), .int .i16 (d k)] 32
          replace X4 := X4.alloc (.cells #[.int .i8 (c k), .int .i16 (d k)] 32)
          have h68 : b6 < wr.heap.size := X6.lt
          have hv8 : ∀ q, v1.ownBlock = some q → q < wr.heap.size := fun q e => (World.ownsRow.lt O q e).2
          replace X6 := X6.alloc (.cells #[.int .i8 (c k), .int .i16 (d k)] 32)
          replace O : OwnD (wr.alloc (.cells #[.int .i8 (c k), .int .i16 (d k)] 32)) (b6 + 1) v1 c d k := World.ownsRow.alloc O _
          replace B := al B (.cells #[.int .i8 (c k), .int .i16 (d k)] 32)
          clear c0 c1 hbl
          obtain ⟨W1, hW1⟩ : ∃ W1 : World, W1 = wr.alloc (.cells #[.int .i8 (c k), .int .i16 (d k)] 32) := ⟨_, rfl⟩
          rw [← hW1] at X4 X6 X8 O B ⊢
          clear hW1
          obtain ⟨b8, h8⟩ : ∃ b8, b8 = wr.heap.size := ⟨_, rfl⟩
          rw [← h8] at X8 h68 hv8 ⊢
          clear h8
          refine wp_region_held_drew (S := (fun w' : World => Bx w' b8 #[.int .i8 (c k), .int .i16 (d k)] 32)) (by kernel_rfl) X8 (fun hHeld => ?_)
          replace B := B.drew
          replace X4 : Bx W1.drew b4 #[.slice none 0 0, .slice none 0 0] 76 := X4
          replace X6 : Bx W1.drew b6 #[v1, .slice none 0 0] 76 := X6
          replace X8 : Bx W1.drew b8 #[.int .i8 (c k), .int .i16 (d k)] 32 := X8
          replace O : OwnD W1.drew (b6 + 1) v1 c d k := O
          obtain ⟨wq, hwq⟩ : ∃ wq, W1.drew = wq := ⟨_, rfl⟩
          rw [hwq] at B X4 X6 X8 O hHeld ⊢
          clear hwq
          refine wpAnyH_take (i := 0) (oi := _) (v := ?_) rfl (by kernel_rfl) (by kernel_rfl) (by kernel_rfl) (fun _ _ _ h => h) (Or.inl ⟨by kernel_rfl, ?_⟩) (by assumption) ?_
          rotate_left
          · intro w hSw; (try dsimp only at hSw); go_simp; first | done | with_reducible rfl
          try simp only [List.getElem_toArray, List.getElem_cons_zero, List.getElem_cons_succ, Act.put, List.setIfInBounds_toArray, List.set_cons_zero, List.set_cons_succ]
          refine wpAnyH_take (i := 2) (oi := _) (v := .agg #[.int .i8 (c k), .int .i16 (d k)]) rfl (by kernel_rfl) (by kernel_rfl) (by kernel_rfl) (fun _ _ _ h => h) (yields_box (by kernel_rfl) _ _ rfl b8 rfl #[.int .i8 (c k), .int .i16 (d k)] 32 (fun _ hS => hS) _ Tryd.underlying32 rfl (by kernel_rfl)) (by assumption) ?_
          try simp only [List.getElem_toArray, List.getElem_cons_zero, List.getElem_cons_succ, Act.put, List.setIfInBounds_toArray, List.set_cons_zero, List.set_cons_succ]
          refine wpAnyH_ready (rs := [1, 3]) (by kernel_rfl) (by simp) ?_
          refine AllReadyH.cons (o := _) rfl (fun K hK => ?_) (AllReadyH.cons (o := _) rfl (fun K hK => ?_) AllReadyH.nil)
          · skip
            have c6 := X6.cell 0
            simp only [List.getElem?_toArray, List.getElem?_cons_zero, List.getElem?_cons_succ] at c6
            go_simp
            refine hK.out _ _ X8 (fun hHeld => ?_)
            clear hK K
            try simp only [List.getElem_toArray, List.getElem_cons_zero, List.getElem_cons_succ, Act.put, List.setIfInBounds_toArray, List.set_cons_zero, List.set_cons_succ]
            clear c6
            refine wpAnyH_ready (rs := [3]) (by kernel_rfl) (by simp) ?_
            refine AllReadyH.cons (o := _) rfl (fun K hK => ?_) AllReadyH.nil
            go_simp
            refine (HDu.out _).mono ?_
            rintro e w3 ⟨rfl, hb⟩
            replace X4 := X4.below hb
            replace X6 := X6.below hb
            replace X8 := X8.below hb
            replace O := OwnD.below O hb
            replace B := nxt B hb
            clear hb
            refine hK.out _ _ X8 (fun hHeld => ?_)
            clear hK K
            try simp only [List.getElem_toArray, List.getElem_cons_zero, List.getElem_cons_succ, Act.put, List.setIfInBounds_toArray, List.set_cons_zero, List.set_cons_succ]
            refine wpAnyH_ready (rs := [4]) (by kernel_rfl) (by simp) ?_
            refine AllReadyH.cons (o := _) rfl (fun K hK => ?_) AllReadyH.nil
            go_simp
            have NC := ncells w3 #[.int .i64 (c k), .int .i64 (d k)] 107
            replace X4 := X4.alloc (.cells #[.int .i64 (c k), .int .i64 (d k)] 107)
            replace X6 := X6.alloc (.cells #[.int .i64 (c k), .int .i64 (d k)] 107)
            replace X8 := X8.alloc (.cells #[.int .i64 (c k), .int .i64 (d k)] 107)
            replace O : OwnD (w3.alloc (.cells #[.int .i64 (c k), .int .i64 (d k)] 107)) (b6 + 1) v1 c d k := World.ownsRow.alloc O _
            replace B := al B (.cells #[.int .i64 (c k), .int .i64 (d k)] 107)
            have hsz : (w3.alloc (.cells #[.int .i64 (c k), .int .i64 (d k)] 107)).heap.size = w3.heap.size + 1 := by simp
            obtain ⟨w4, hw4⟩ : ∃ w4, w4 = w3.alloc (.cells #[.int .i64 (c k), .int .i64 (d k)] 107) := ⟨_, rfl⟩
            rw [← hw4] at NC X4 X6 X8 O B hsz ⊢
            clear hw4
            refine hK.out _ _ X8 (fun hHeld => ?_)
            clear hK K
            try simp only [List.getElem_toArray, List.getElem_cons_zero, List.getElem_cons_succ, Act.put, List.setIfInBounds_toArray, List.set_cons_zero, List.set_cons_succ]
            refine wpAnyH_ready (rs := [5]) (by kernel_rfl) (by simp) ?_
            refine AllReadyH.cons (o := _) rfl (fun K hK => ?_) AllReadyH.nil
            refine wp_append_own _ _ _ 73 rfl (b6 + 1) 107 i0 (.agg #[.int .i64 0, .int .i64 0]) 2 16 Tryd.underlying73 hi hz0 hz1 hz2 rfl (by decide) v1 k (dC c d k) rfl O ⟨w3.heap.size, 0, none⟩ 1 1 [.int .i64 (c k), .int .i64 (d k)] rfl rfl NC (duty_one _ _) (by unfold maxLen; omega) (by omega) (by have := X6.lt; omega) ?_
            intro v' w5 own' hgr hn
            obtain ⟨A2, cap2, hv2⟩ := own_shape own'
            subst hv2
            have B1 : Below w.heap.size w w5 := B.grown hgr B.size (fun k e => by have := (World.ownsRow.lt O k e).1; omega)
            replace X4 : Bx w5 b4 #[.slice none 0 0, .slice none 0 0] 76 := X4.of_block (hgr.block _ X4.lt (fun e => by have := (World.ownsRow.lt O _ e.symm).1; omega))
            replace X6 : Bx w5 b6 #[v1, .slice none 0 0] 76 := X6.of_block (hgr.block _ X6.lt (fun e => by have := (World.ownsRow.lt O _ e.symm).1; omega))
            replace X8 : Bx w5 b8 #[.int .i8 (c k), .int .i16 (d k)] 32 := X8.of_block (hgr.block _ X8.lt (fun e => by have := hv8 _ e.symm; omega))
            have O1 : OwnD w5 (b6 + 1) (.slice A2 (k + 1) cap2) c d (k + 1) := by unfold OwnD; rw [dC_succ]; exact own'
            refine hK.out _ _ X8 (fun hHeld => ?_)
            clear hK K
            try simp only [List.getElem_toArray, List.getElem_cons_zero, List.getElem_cons_succ, Act.put, List.setIfInBounds_toArray, List.set_cons_zero, List.set_cons_succ]
            have c6 := X6.cell 0
            simp only [List.getElem?_toArray, List.getElem?_cons_zero, List.getElem?_cons_succ] at c6
            have z6 := X6.frozen 0
            refine wpAnyH_take (i := 6) (oi := _) (v := ?_) rfl (by kernel_rfl) (by kernel_rfl) (by kernel_rfl) (fun _ _ _ h => h) (Or.inl ⟨by kernel_rfl, ?_⟩) (by assumption) ?_
            rotate_left
            · intro w hSw; (try dsimp only at hSw); go_simp; first | done | with_reducible rfl
            try simp only [List.getElem_toArray, List.getElem_cons_zero, List.getElem_cons_succ, Act.put, List.setIfInBounds_toArray, List.set_cons_zero, List.set_cons_succ]
            refine wpAnyH_ready (rs := [7]) (by kernel_rfl) (by simp) ?_
            refine AllReadyH.cons (o := _) rfl (fun K hK => ?_) AllReadyH.nil
            go_simp
            replace X8 := X8.other (g := b6) (o := 0) (.slice A2 (k + 1) cap2) (by omega)
            refine hK.out _ _ X8 (fun hHeld => ?_)
            clear hK K
            try simp only [List.getElem_toArray, List.getElem_cons_zero, List.getElem_cons_succ, Act.put, List.setIfInBounds_toArray, List.set_cons_zero, List.set_cons_succ]
            refine wpAnyH_done (by kernel_rfl) ?_ _
            clear hHeld c6 z6
            go_wp2
            exact ⟨⟨k + 1, .slice A2 (k + 1) cap2, by omega, by first | go_num | simp, B1.setCell (p := ⟨b6, 0, none⟩) (by omega) _, X4.other _ (by omega), X6.set 0 _, OwnD.setOther O1 (by omega) _⟩, by simp [intOf]; omega⟩
          · skip
            go_simp
            refine (HDu.out _).mono ?_
            rintro e w3 ⟨rfl, hb⟩
            replace X4 := X4.below hb
            replace X6 := X6.below hb
            replace X8 := X8.below hb
            replace O := OwnD.below O hb
            replace B := nxt B hb
            clear hb
            refine hK.out _ _ X8 (fun hHeld => ?_)
            clear hK K
            try simp only [List.getElem_toArray, List.getElem_cons_zero, List.getElem_cons_succ, Act.put, List.setIfInBounds_toArray, List.set_cons_zero, List.set_cons_succ]
            refine wpAnyH_ready (rs := [1, 4]) (by kernel_rfl) (by simp) ?_
            refine AllReadyH.cons (o := _) rfl (fun K hK => ?_) (AllReadyH.cons (o := _) rfl (fun K hK => ?_) AllReadyH.nil)
            · skip
              have c6 := X6.cell 0
              simp only [List.getElem?_toArray, List.getElem?_cons_zero, List.getElem?_cons_succ] at c6
              go_simp
              refine hK.out _ _ X8 (fun hHeld => ?_)
              clear hK K
              try simp only [List.getElem_toArray, List.getElem_cons_zero, List.getElem_cons_succ, Act.put, List.setIfInBounds_toArray, List.set_cons_zero, List.set_cons_succ]
              clear c6
              refine wpAnyH_ready (rs := [4]) (by kernel_rfl) (by simp) ?_
              refine AllReadyH.cons (o := _) rfl (fun K hK => ?_) AllReadyH.nil
              go_simp
              have NC := ncells w3 #[.int .i64 (c k), .int .i64 (d k)] 107
              replace X4 := X4.alloc (.cells #[.int .i64 (c k), .int .i64 (d k)] 107)
              replace X6 := X6.alloc (.cells #[.int .i64 (c k), .int .i64 (d k)] 107)
              replace X8 := X8.alloc (.cells #[.int .i64 (c k), .int .i64 (d k)] 107)
              replace O : OwnD (w3.alloc (.cells #[.int .i64 (c k), .int .i64 (d k)] 107)) (b6 + 1) v1 c d k := World.ownsRow.alloc O _
              replace B := al B (.cells #[.int .i64 (c k), .int .i64 (d k)] 107)
              have hsz : (w3.alloc (.cells #[.int .i64 (c k), .int .i64 (d k)] 107)).heap.size = w3.heap.size + 1 := by simp
              obtain ⟨w4, hw4⟩ : ∃ w4, w4 = w3.alloc (.cells #[.int .i64 (c k), .int .i64 (d k)] 107) := ⟨_, rfl⟩
              rw [← hw4] at NC X4 X6 X8 O B hsz ⊢
              clear hw4
              refine hK.out _ _ X8 (fun hHeld => ?_)
              clear hK K
              try simp only [List.getElem_toArray, List.getElem_cons_zero, List.getElem_cons_succ, Act.put, List.setIfInBounds_toArray, List.set_cons_zero, List.set_cons_succ]
              refine wpAnyH_ready (rs := [5]) (by kernel_rfl) (by simp) ?_
              refine AllReadyH.cons (o := _) rfl (fun K hK => ?_) AllReadyH.nil
              refine wp_append_own _ _ _ 73 rfl (b6 + 1) 107 i0 (.agg #[.int .i64 0, .int .i64 0]) 2 16 Tryd.underlying73 hi hz0 hz1 hz2 rfl (by decide) v1 k (dC c d k) rfl O ⟨w3.heap.size, 0, none⟩ 1 1 [.int .i64 (c k), .int .i64 (d k)] rfl rfl NC (duty_one _ _) (by unfold maxLen; omega) (by omega) (by have := X6.lt; omega) ?_
              intro v' w5 own' hgr hn
              obtain ⟨A2, cap2, hv2⟩ := own_shape own'
              subst hv2
              have B1 : Below w.heap.size w w5 := B.grown hgr B.size (fun k e => by have := (World.ownsRow.lt O k e).1; omega)
              replace X4 : Bx w5 b4 #[.slice none 0 0, .slice none 0 0] 76 := X4.of_block (hgr.block _ X4.lt (fun e => by have := (World.ownsRow.lt O _ e.symm).1; omega))
              replace X6 : Bx w5 b6 #[v1, .slice none 0 0] 76 := X6.of_block (hgr.block _ X6.lt (fun e => by have := (World.ownsRow.lt O _ e.symm).1; omega))
              replace X8 : Bx w5 b8 #[.int .i8 (c k), .int .i16 (d k)] 32 := X8.of_block (hgr.block _ X8.lt (fun e => by have := hv8 _ e.symm; omega))
              have O1 : OwnD w5 (b6 + 1) (.slice A2 (k + 1) cap2) c d (k + 1) := by unfold OwnD; rw [dC_succ]; exact own'
              refine hK.out _ _ X8 (fun hHeld => ?_)
              clear hK K
              try simp only [List.getElem_toArray, List.getElem_cons_zero, List.getElem_cons_succ, Act.put, List.setIfInBounds_toArray, List.set_cons_zero, List.set_cons_succ]
              have c6 := X6.cell 0
              simp only [List.getElem?_toArray, List.getElem?_cons_zero, List.getElem?_cons_succ] at c6
              have z6 := X6.frozen 0
              refine wpAnyH_take (i := 6) (oi := _) (v := ?_) rfl (by kernel_rfl) (by kernel_rfl) (by kernel_rfl) (fun _ _ _ h => h) (Or.inl ⟨by kernel_rfl, ?_⟩) (by assumption) ?_
              rotate_left
              · intro w hSw; (try dsimp only at hSw); go_simp; first | done | with_reducible rfl
              try simp only [List.getElem_toArray, List.getElem_cons_zero, List.getElem_cons_succ, Act.put, List.setIfInBounds_toArray, List.set_cons_zero, List.set_cons_succ]
              refine wpAnyH_ready (rs := [7]) (by kernel_rfl) (by simp) ?_
              refine AllReadyH.cons (o := _) rfl (fun K hK => ?_) AllReadyH.nil
              go_simp
              replace X8 := X8.other (g := b6) (o := 0) (.slice A2 (k + 1) cap2) (by omega)
              refine hK.out _ _ X8 (fun hHeld => ?_)
              clear hK K
              try simp only [List.getElem_toArray, List.getElem_cons_zero, List.getElem_cons_succ, Act.put, List.setIfInBounds_toArray, List.set_cons_zero, List.set_cons_succ]
              refine wpAnyH_done (by kernel_rfl) ?_ _
              clear hHeld c6 z6
              go_wp2
              exact ⟨⟨k + 1, .slice A2 (k + 1) cap2, by omega, by first | go_num | simp, B1.setCell (p := ⟨b6, 0, none⟩) (by omega) _, X4.other _ (by omega), X6.set 0 _, OwnD.setOther O1 (by omega) _⟩, by simp [intOf]; omega⟩
            · skip
              go_simp
              have NC := ncells w3 #[.int .i64 (c k), .int .i64 (d k)] 107
              replace X4 := X4.alloc (.cells #[.int .i64 (c k), .int .i64 (d k)] 107)
              replace X6 := X6.alloc (.cells #[.int .i64 (c k), .int .i64 (d k)] 107)
              replace X8 := X8.alloc (.cells #[.int .i64 (c k), .int .i64 (d k)] 107)
              replace O : OwnD (w3.alloc (.cells #[.int .i64 (c k), .int .i64 (d k)] 107)) (b6 + 1) v1 c d k := World.ownsRow.alloc O _
              replace B := al B (.cells #[.int .i64 (c k), .int .i64 (d k)] 107)
              have hsz : (w3.alloc (.cells #[.int .i64 (c k), .int .i64 (d k)] 107)).heap.size = w3.heap.size + 1 := by simp
              obtain ⟨w4, hw4⟩ : ∃ w4, w4 = w3.alloc (.cells #[.int .i64 (c k), .int .i64 (d k)] 107) := ⟨_, rfl⟩
              rw [← hw4] at NC X4 X6 X8 O B hsz ⊢
              clear hw4
              refine hK.out _ _ X8 (fun hHeld => ?_)
              clear hK K
              try simp only [List.getElem_toArray, List.getElem_cons_zero, List.getElem_cons_succ, Act.put, List.setIfInBounds_toArray, List.set_cons_zero, List.set_cons_succ]
              refine wpAnyH_ready (rs := [1]) (by kernel_rfl) (by simp) ?_
              refine AllReadyH.cons (o := _) rfl (fun K hK => ?_) AllReadyH.nil
              have c6 := X6.cell 0
              simp only [List.getElem?_toArray, List.getElem?_cons_zero, List.getElem?_cons_succ] at c6
              go_simp
              refine hK.out _ _ X8 (fun hHeld => ?_)
              clear hK K
              try simp only [List.getElem_toArray, List.getElem_cons_zero, List.getElem_cons_succ, Act.put, List.setIfInBounds_toArray, List.set_cons_zero, List.set_cons_succ]
              clear c6
              refine wpAnyH_ready (rs := [5]) (by kernel_rfl) (by simp) ?_
              refine AllReadyH.cons (o := _) rfl (fun K hK => ?_) AllReadyH.nil
              refine wp_append_own _ _ _ 73 rfl (b6 + 1) 107 i0 (.agg #[.int .i64 0, .int .i64 0]) 2 16 Tryd.underlying73 hi hz0 hz1 hz2 rfl (by decide) v1 k (dC c d k) rfl O ⟨w3.heap.size, 0, none⟩ 1 1 [.int .i64 (c k), .int .i64 (d k)] rfl rfl NC (duty_one _ _) (by unfold maxLen; omega) (by omega) (by have := X6.lt; omega) ?_
              intro v' w5 own' hgr hn
              obtain ⟨A2, cap2, hv2⟩ := own_shape own'
              subst hv2
              have B1 : Below w.heap.size w w5 := B.grown hgr B.size (fun k e => by have := (World.ownsRow.lt O k e).1; omega)
              replace X4 : Bx w5 b4 #[.slice none 0 0, .slice none 0 0] 76 := X4.of_block (hgr.block _ X4.lt (fun e => by have := (World.ownsRow.lt O _ e.symm).1; omega))
              replace X6 : Bx w5 b6 #[v1, .slice none 0 0] 76 := X6.of_block (hgr.block _ X6.lt (fun e => by have := (World.ownsRow.lt O _ e.symm).1; omega))
              replace X8 : Bx w5 b8 #[.int .i8 (c k), .int .i16 (d k)] 32 := X8.of_block (hgr.block _ X8.lt (fun e => by have := hv8 _ e.symm; omega))
              have O1 : OwnD w5 (b6 + 1) (.slice A2 (k + 1) cap2) c d (k + 1) := by unfold OwnD; rw [dC_succ]; exact own'
              refine hK.out _ _ X8 (fun hHeld => ?_)
              clear hK K
              try simp only [List.getElem_toArray, List.getElem_cons_zero, List.getElem_cons_succ, Act.put, List.setIfInBounds_toArray, List.set_cons_zero, List.set_cons_succ]
              have c6 := X6.cell 0
              simp only [List.getElem?_toArray, List.getElem?_cons_zero, List.getElem?_cons_succ] at c6
              have z6 := X6.frozen 0
              refine wpAnyH_take (i := 6) (oi := _) (v := ?_) rfl (by kernel_rfl) (by kernel_rfl) (by kernel_rfl) (fun _ _ _ h => h) (Or.inl ⟨by kernel_rfl, ?_⟩) (by assumption) ?_
              rotate_left
              · intro w hSw; (try dsimp only at hSw); go_simp; first | done | with_reducible rfl
              try simp only [List.getElem_toArray, List.getElem_cons_zero, List.getElem_cons_succ, Act.put, List.setIfInBounds_toArray, List.set_cons_zero, List.set_cons_succ]
              refine wpAnyH_ready (rs := [7]) (by kernel_rfl) (by simp) ?_
              refine AllReadyH.cons (o := _) rfl (fun K hK => ?_) AllReadyH.nil
              go_simp
              replace X8 := X8.other (g := b6) (o := 0) (.slice A2 (k + 1) cap2) (by omega)
              refine hK.out _ _ X8 (fun hHeld => ?_)
              clear hK K
              try simp only [List.getElem_toArray, List.getElem_cons_zero, List.getElem_cons_succ, Act.put, List.setIfInBounds_toArray, List.set_cons_zero, List.set_cons_succ]
              refine wpAnyH_done (by kernel_rfl) ?_ _
              clear hHeld c6 z6
              go_wp2
              exact ⟨⟨k + 1, .slice A2 (k + 1) cap2, by omega, by first | go_num | simp, B1.setCell (p := ⟨b6, 0, none⟩) (by omega) _, X4.other _ (by omega), X6.set 0 _, OwnD.setOther O1 (by omega) _⟩, by simp [intOf]; omega⟩
        · obtain rfl : k = n := by omega
          obtain ⟨n, rfl⟩ : ∃ n, n = k := ⟨_, rfl⟩
          have hki : ¬ ((n : Int) < (n : Int)) := by omega
          obtain ⟨b7, h7⟩ : ∃ b7, b7 = wr.heap.size := ⟨_, rfl⟩
          have hv1 : ∀ q, v1.ownBlock = some q → b6 + 1 ≤ q ∧ q < b7 := fun q e => by rw [h7]; exact World.ownsRow.lt O q e
          have h67 : b6 < b7 := by rw [h7]; exact X6.lt
          have hb7 : b7 ≤ wr.heap.size := by omega
          clear h7
          obtain ⟨ws, hws⟩ : ∃ ws, ws = wr := ⟨_, rfl⟩
          rw [← hws] at B X4 X6 O hb7 ⊢
          clear hws
          go_wp2
          go_loopw [10, 47] (fun t10 t47 wr => ∃ (k : Nat) (v2 : Value), k ≤ m ∧ t47 = .int .i64 k ∧ Below w.heap.size w wr ∧ Bx wr b4 #[.slice none 0 0, .slice none 0 0] 76 ∧ Bx wr b6 #[v1, v2] 76 ∧ OwnD wr (b6 + 1) v1 c d n ∧ OwnW wr b7 v2 g k ∧ b7 ≤ wr.heap.size) (fun t10 t47 wr => m - (intOf t47).toNat)
          case atStart => exact ⟨0, .slice none 0 0, by omega, rfl, B, X4, X6, O, World.ownsRow_nil _ _ _ _, hb7⟩
          case round =>
            clear B X4 X6 O hb7
            obtain ⟨k, v2, hk, rfl, B, X4, X6, O, O2, hb7⟩ := hrel
            by_cases hlt : k < m
            · have hki : (k : Int) < (m : Int) := by omega
              obtain ⟨b, off, rfl, hbl, c0, c1, c2, c3, c4⟩ := (HG.out.below B).at hlt
              obtain ⟨bp, bq, bs, bt, bu⟩ := HB.out k
              have HDu := Lib.hid (fun W => crewOf_any (g.p k) (g.q k) (g.s k) (g.t k) (g.u k) W bp bq bs bt bu)
              clear bp bq bs bt bu
              go_wp2
              have X8 := Bx.new wr #[.int .i8 (g.p k), .int .i8 (g.q k), .int .i8 (g.s k), .int .i8 (g.t k), .int .i16 (g.u k)] 30
              replace X4 := X4.alloc (.cells #[.int .i8 (g.p k), .int .i8 (g.q k), .int .i8 (g.s k), .int .i8 (g.t k), .int .i16 (g.u k)] 30)
              have h68 : b6 < wr.heap.size := X6.lt
              have hv8 : ∀ q, v2.ownBlock = some q → b7 ≤ q ∧ q < wr.heap.size := fun q e => World.ownsRow.lt O2 q e
              replace X6 := X6.alloc (.cells #[.int .i8 (g.p k), .int .i8 (g.q k), .int .i8 (g.s k), .int .i8 (g.t k), .int .i16 (g.u k)] 30)
              replace O : OwnD (wr.alloc (.cells #[.int .i8 (g.p k), .int .i8 (g.q k), .int .i8 (g.s k), .int .i8 (g.t k), .int .i16 (g.u k)] 30)) (b6 + 1) v1 c d n := World.ownsRow.alloc O _
              replace O2 : OwnW (wr.alloc (.cells #[.int .i8 (g.p k), .int .i8 (g.q k), .int .i8 (g.s k), .int .i8 (g.t k), .int .i16 (g.u k)] 30)) b7 v2 g k := World.ownsRow.alloc O2 _
              replace B := al B (.cells #[.int .i8 (g.p k), .int .i8 (g.q k), .int .i8 (g.s k), .int .i8 (g.t k), .int .i16 (g.u k)] 30)
              clear c0 c1 c2 c3 c4 hbl
              obtain ⟨b8, h8⟩ : ∃ b8, b8 = wr.heap.size := ⟨_, rfl⟩
              have hb8 : b7 ≤ (wr.alloc (.cells #[.int .i8 (g.p k), .int .i8 (g.q k), .int .i8 (g.s k), .int .i8 (g.t k), .int .i16 (g.u k)] 30)).heap.size := by simp; omega
              obtain ⟨W1, hW1⟩ : ∃ W1 : World, W1 = wr.alloc (.cells #[.int .i8 (g.p k), .int .i8 (g.q k), .int .i8 (g.s k), .int .i8 (g.t k), .int .i16 (g.u k)] 30) := ⟨_, rfl⟩
              rw [← hW1] at X4 X6 X8 O O2 B hb8 ⊢
              clear hW1
              rw [← h8] at X8 h68 hv8 ⊢
              clear h8 hb7
              refine wp_region_held_drew (S := (fun w' : World => Bx w' b8 #[.int .i8 (g.p k), .int .i8 (g.q k), .int .i8 (g.s k), .int .i8 (g.t k), .int .i16 (g.u k)] 30)) (by kernel_rfl) X8 (fun hHeld => ?_)
              replace B := B.drew
              replace X4 : Bx W1.drew b4 #[.slice none 0 0, .slice none 0 0] 76 := X4
              replace X6 : Bx W1.drew b6 #[v1, v2] 76 := X6
              replace X8 : Bx W1.drew b8 #[.int .i8 (g.p k), .int .i8 (g.q k), .int .i8 (g.s k), .int .i8 (g.t k), .int .i16 (g.u k)] 30 := X8
              replace O : OwnD W1.drew (b6 + 1) v1 c d n := O
              replace O2 : OwnW W1.drew b7 v2 g k := O2
              replace hb8 : b7 ≤ W1.drew.heap.size := hb8
              obtain ⟨wq, hwq⟩ : ∃ wq, W1.drew = wq := ⟨_, rfl⟩
              rw [hwq] at B X4 X6 X8 O O2 hHeld hb8 ⊢
              clear hwq
              refine wpAnyH_take (i := 0) (oi := _) (v := ?_) rfl (by kernel_rfl) (by kernel_rfl) (by kernel_rfl) (fun _ _ _ h => h) (Or.inl ⟨by kernel_rfl, ?_⟩) (by assumption) ?_
              rotate_left
              · intro w hSw; (try dsimp only at hSw); go_simp; first | done | with_reducible rfl
              try simp only [List.getElem_toArray, List.getElem_cons_zero, List.getElem_cons_succ, Act.put, List.setIfInBounds_toArray, List.set_cons_zero, List.set_cons_succ]
              refine wpAnyH_take (i := 2) (oi := _) (v := .agg #[.int .i8 (g.p k), .int .i8 (g.q k), .int .i8 (g.s k), .int .i8 (g.t k), .int .i16 (g.u k)]) rfl (by kernel_rfl) (by kernel_rfl) (by kernel_rfl) (fun _ _ _ h => h) (yields_box (by kernel_rfl) _ _ rfl b8 rfl #[.int .i8 (g.p k), .int .i8 (g.q k), .int .i8 (g.s k), .int .i8 (g.t k), .int .i16 (g.u k)] 30 (fun _ hS => hS) _ Tryd.underlying30 rfl (by kernel_rfl)) (by assumption) ?_
              try simp only [List.getElem_toArray, List.getElem_cons_zero, List.getElem_cons_succ, Act.put, List.setIfInBounds_toArray, List.set_cons_zero, List.set_cons_succ]
              refine wpAnyH_ready (rs := [1, 3]) (by kernel_rfl) (by simp) ?_
              refine AllReadyH.cons (o := _) rfl (fun K hK => ?_) (AllReadyH.cons (o := _) rfl (fun K hK => ?_) AllReadyH.nil)
              · skip
                have c6 := X6.cell 1
                simp only [List.getElem?_toArray, List.getElem?_cons_zero, List.getElem?_cons_succ] at c6
                go_simp
                refine hK.out _ _ X8 (fun hHeld => ?_)
                clear hK K
                try simp only [List.getElem_toArray, List.getElem_cons_zero, List.getElem_cons_succ, Act.put, List.setIfInBounds_toArray, List.set_cons_zero, List.set_cons_succ]
                clear c6
                refine wpAnyH_ready (rs := [3]) (by kernel_rfl) (by simp) ?_
                refine AllReadyH.cons (o := _) rfl (fun K hK => ?_) AllReadyH.nil
                go_simp
                refine (HDu.out _).mono ?_
                rintro e w3 ⟨rfl, hb⟩
                replace X4 := X4.below hb
                replace X6 := X6.below hb
                replace X8 := X8.below hb
                replace O := OwnD.below O hb
                replace O2 := OwnW.below O2 hb
                replace B := nxt B hb
                replace hb8 := Nat.le_trans hb8 hb.size
                clear hb
                refine hK.out _ _ X8 (fun hHeld => ?_)
                clear hK K
                try simp only [List.getElem_toArray, List.getElem_cons_zero, List.getElem_cons_succ, Act.put, List.setIfInBounds_toArray, List.set_cons_zero, List.set_cons_succ]
                refine wpAnyH_ready (rs := [4]) (by kernel_rfl) (by simp) ?_
                refine AllReadyH.cons (o := _) rfl (fun K hK => ?_) AllReadyH.nil
                go_simp
                have NC := ncells w3 #[.int .i64 (g.p k), .int .i64 (g.q k), .int .i64 (g.s k), .int .i64 (g.t k), .int .i64 (g.u k)] 109
                replace X4 := X4.alloc (.cells #[.int .i64 (g.p k), .int .i64 (g.q k), .int .i64 (g.s k), .int .i64 (g.t k), .int .i64 (g.u k)] 109)
                replace X6 := X6.alloc (.cells #[.int .i64 (g.p k), .int .i64 (g.q k), .int .i64 (g.s k), .int .i64 (g.t k), .int .i64 (g.u k)] 109)
                replace X8 := X8.alloc (.cells #[.int .i64 (g.p k), .int .i64 (g.q k), .int .i64 (g.s k), .int .i64 (g.t k), .int .i64 (g.u k)] 109)
                replace O : OwnD (w3.alloc (.cells #[.int .i64 (g.p k), .int .i64 (g.q k), .int .i64 (g.s k), .int .i64 (g.t k), .int .i64 (g.u k)] 109)) (b6 + 1) v1 c d n := World.ownsRow.alloc O _
                replace O2 : OwnW (w3.alloc (.cells #[.int .i64 (g.p k), .int .i64 (g.q k), .int .i64 (g.s k), .int .i64 (g.t k), .int .i64 (g.u k)] 109)) b7 v2 g k := World.ownsRow.alloc O2 _
                replace B := al B (.cells #[.int .i64 (g.p k), .int .i64 (g.q k), .int .i64 (g.s k), .int .i64 (g.t k), .int .i64 (g.u k)] 109)
                have hsz : (w3.alloc (.cells #[.int .i64 (g.p k), .int .i64 (g.q k), .int .i64 (g.s k), .int .i64 (g.t k), .int .i64 (g.u k)] 109)).heap.size = w3.heap.size + 1 := by simp
                obtain ⟨w4, hw4⟩ : ∃ w4, w4 = w3.alloc (.cells #[.int .i64 (g.p k), .int .i64 (g.q k), .int .i64 (g.s k), .int .i64 (g.t k), .int .i64 (g.u k)] 109) := ⟨_, rfl⟩
                rw [← hw4] at NC X4 X6 X8 O O2 B hsz ⊢
                replace hb8 : b7 ≤ w4.heap.size := by omega
                clear hw4
                refine hK.out _ _ X8 (fun hHeld => ?_)
                clear hK K
                try simp only [List.getElem_toArray, List.getElem_cons_zero, List.getElem_cons_succ, Act.put, List.setIfInBounds_toArray, List.set_cons_zero, List.set_cons_succ]
                refine wpAnyH_ready (rs := [5]) (by kernel_rfl) (by simp) ?_
                refine AllReadyH.cons (o := _) rfl (fun K hK => ?_) AllReadyH.nil
                refine wp_append_own _ _ _ 74 rfl b7 109 i1 (.agg #[.int .i64 0, .int .i64 0, .int .i64 0, .int .i64 0, .int .i64 0]) 5 40 Tryd.underlying74 hi1 hz10 hz11 hz12 rfl (by decide) v2 k (cC g k) rfl O2 ⟨w3.heap.size, 0, none⟩ 1 1 [.int .i64 (g.p k), .int .i64 (g.q k), .int .i64 (g.s k), .int .i64 (g.t k), .int .i64 (g.u k)] rfl rfl NC (crew_one _ _ _ _ _) (by unfold maxLen; omega) (by omega) (by omega) ?_
                intro v' w5 own' hgr hn
                obtain ⟨A2, cap2, hv2⟩ := own_shape own'
                subst hv2
                have B1 : Below w.heap.size w w5 := B.grown hgr B.size (fun k e => by have := (hv8 k e).1; omega)
                replace X4 : Bx w5 b4 #[.slice none 0 0, .slice none 0 0] 76 := X4.of_block (hgr.block _ X4.lt (fun e => by have := (hv8 _ e.symm).1; omega))
                replace X6 : Bx w5 b6 #[v1, v2] 76 := X6.of_block (hgr.block _ X6.lt (fun e => by have := (hv8 _ e.symm).1; omega))
                replace X8 : Bx w5 b8 #[.int .i8 (g.p k), .int .i8 (g.q k), .int .i8 (g.s k), .int .i8 (g.t k), .int .i16 (g.u k)] 30 := X8.of_block (hgr.block _ X8.lt (fun e => by have := (hv8 _ e.symm).2; omega))
                replace O : OwnD w5 (b6 + 1) v1 c d n := World.ownsRow.kept O hgr (own_ne fun q e1 e2 => by have := (hv1 q e1).2; have := (hv8 q e2).1; omega)
                have O1 : OwnW w5 b7 (.slice A2 (k + 1) cap2) g (k + 1) := by unfold OwnW; rw [cC_succ]; exact own'
                refine hK.out _ _ X8 (fun hHeld => ?_)
                clear hK K
                try simp only [List.getElem_toArray, List.getElem_cons_zero, List.getElem_cons_succ, Act.put, List.setIfInBounds_toArray, List.set_cons_zero, List.set_cons_succ]
                replace hb8 := Nat.le_trans hb8 hgr.size
                have c6 := X6.cell 1
                simp only [List.getElem?_toArray, List.getElem?_cons_zero, List.getElem?_cons_succ] at c6
                have z6 := X6.frozen 1
                refine wpAnyH_take (i := 6) (oi := _) (v := ?_) rfl (by kernel_rfl) (by kernel_rfl) (by kernel_rfl) (fun _ _ _ h => h) (Or.inl ⟨by kernel_rfl, ?_⟩) (by assumption) ?_
                rotate_left
                · intro w hSw; (try dsimp only at hSw); go_simp; first | done | with_reducible rfl
                try simp only [List.getElem_toArray, List.getElem_cons_zero, List.getElem_cons_succ, Act.put, List.setIfInBounds_toArray, List.set_cons_zero, List.set_cons_succ]
                refine wpAnyH_ready (rs := [7]) (by kernel_rfl) (by simp) ?_
                refine AllReadyH.cons (o := _) rfl (fun K hK => ?_) AllReadyH.nil
                go_simp
                replace X8 := X8.other (g := b6) (o := 1) (.slice A2 (k + 1) cap2) (by omega)
                refine hK.out _ _ X8 (fun hHeld => ?_)
                clear hK K
                try simp only [List.getElem_toArray, List.getElem_cons_zero, List.getElem_cons_succ, Act.put, List.setIfInBounds_toArray, List.set_cons_zero, List.set_cons_succ]
                refine wpAnyH_done (by kernel_rfl) ?_ _
                clear hHeld c6 z6
                go_wp2
                exact ⟨⟨k + 1, .slice A2 (k + 1) cap2, by omega, by first | go_num | simp, B1.setCell (p := ⟨b6, 1, none⟩) (by omega) _, X4.other _ (by omega), X6.set 1 _, OwnD.setOther1 O (by omega) _, OwnW.setOther O1 (by omega) _, by simpa using hb8⟩, by simp [intOf]; omega⟩
              · skip
                go_simp
                refine (HDu.out _).mono ?_
                rintro e w3 ⟨rfl, hb⟩
                replace X4 := X4.below hb
                replace X6 := X6.below hb
                replace X8 := X8.below hb
                replace O := OwnD.below O hb
                replace O2 := OwnW.below O2 hb
                replace B := nxt B hb
                replace hb8 := Nat.le_trans hb8 hb.size
                clear hb
                refine hK.out _ _ X8 (fun hHeld => ?_)
                clear hK K
                try simp only [List.getElem_toArray, List.getElem_cons_zero, List.getElem_cons_succ, Act.put, List.setIfInBounds_toArray, List.set_cons_zero, List.set_cons_succ]
                refine wpAnyH_ready (rs := [1, 4]) (by kernel_rfl) (by simp) ?_
                refine AllReadyH.cons (o := _) rfl (fun K hK => ?_) (AllReadyH.cons (o := _) rfl (fun K hK => ?_) AllReadyH.nil)
                · skip
                  have c6 := X6.cell 1
                  simp only [List.getElem?_toArray, List.getElem?_cons_zero, List.getElem?_cons_succ] at c6
                  go_simp
                  refine hK.out _ _ X8 (fun hHeld => ?_)
                  clear hK K
                  try simp only [List.getElem_toArray, List.getElem_cons_zero, List.getElem_cons_succ, Act.put, List.setIfInBounds_toArray, List.set_cons_zero, List.set_cons_succ]
                  clear c6
                  refine wpAnyH_ready (rs := [4]) (by kernel_rfl) (by simp) ?_
                  refine AllReadyH.cons (o := _) rfl (fun K hK => ?_) AllReadyH.nil
                  go_simp
                  have NC := ncells w3 #[.int .i64 (g.p k), .int .i64 (g.q k), .int .i64 (g.s k), .int .i64 (g.t k), .int .i64 (g.u k)] 109
                  replace X4 := X4.alloc (.cells #[.int .i64 (g.p k), .int .i64 (g.q k), .int .i64 (g.s k), .int .i64 (g.t k), .int .i64 (g.u k)] 109)
                  replace X6 := X6.alloc (.cells #[.int .i64 (g.p k), .int .i64 (g.q k), .int .i64 (g.s k), .int .i64 (g.t k), .int .i64 (g.u k)] 109)
                  replace X8 := X8.alloc (.cells #[.int .i64 (g.p k), .int .i64 (g.q k), .int .i64 (g.s k), .int .i64 (g.t k), .int .i64 (g.u k)] 109)
                  replace O : OwnD (w3.alloc (.cells #[.int .i64 (g.p k), .int .i64 (g.q k), .int .i64 (g.s k), .int .i64 (g.t k), .int .i64 (g.u k)] 109)) (b6 + 1) v1 c d n := World.ownsRow.alloc O _
                  replace O2 : OwnW (w3.alloc (.cells #[.int .i64 (g.p k), .int .i64 (g.q k), .int .i64 (g.s k), .int .i64 (g.t k), .int .i64 (g.u k)] 109)) b7 v2 g k := World.ownsRow.alloc O2 _
                  replace B := al B (.cells #[.int .i64 (g.p k), .int .i64 (g.q k), .int .i64 (g.s k), .int .i64 (g.t k), .int .i64 (g.u k)] 109)
                  have hsz : (w3.alloc (.cells #[.int .i64 (g.p k), .int .i64 (g.q k), .int .i64 (g.s k), .int .i64 (g.t k), .int .i64 (g.u k)] 109)).heap.size = w3.heap.size + 1 := by simp
                  obtain ⟨w4, hw4⟩ : ∃ w4, w4 = w3.alloc (.cells #[.int .i64 (g.p k), .int .i64 (g.q k), .int .i64 (g.s k), .int .i64 (g.t k), .int .i64 (g.u k)] 109) := ⟨_, rfl⟩
                  rw [← hw4] at NC X4 X6 X8 O O2 B hsz ⊢
                  replace hb8 : b7 ≤ w4.heap.size := by omega
                  clear hw4
                  refine hK.out _ _ X8 (fun hHeld => ?_)
                  clear hK K
                  try simp only [List.getElem_toArray, List.getElem_cons_zero, List.getElem_cons_succ, Act.put, List.setIfInBounds_toArray, List.set_cons_zero, List.set_cons_succ]
                  refine wpAnyH_ready (rs := [5]) (by kernel_rfl) (by simp) ?_
                  refine AllReadyH.cons (o := _) rfl (fun K hK => ?_) AllReadyH.nil
                  refine wp_append_own _ _ _ 74 rfl b7 109 i1 (.agg #[.int .i64 0, .int .i64 0, .int .i64 0, .int .i64 0, .int .i64 0]) 5 40 Tryd.underlying74 hi1 hz10 hz11 hz12 rfl (by decide) v2 k (cC g k) rfl O2 ⟨w3.heap.size, 0, none⟩ 1 1 [.int .i64 (g.p k), .int .i64 (g.q k), .int .i64 (g.s k), .int .i64 (g.t k), .int .i64 (g.u k)] rfl rfl NC (crew_one _ _ _ _ _) (by unfold maxLen; omega) (by omega) (by omega) ?_
                  intro v' w5 own' hgr hn
                  obtain ⟨A2, cap2, hv2⟩ := own_shape own'
                  subst hv2
                  have B1 : Below w.heap.size w w5 := B.grown hgr B.size (fun k e => by have := (hv8 k e).1; omega)
                  replace X4 : Bx w5 b4 #[.slice none 0 0, .slice none 0 0] 76 := X4.of_block (hgr.block _ X4.lt (fun e => by have := (hv8 _ e.symm).1; omega))
                  replace X6 : Bx w5 b6 #[v1, v2] 76 := X6.of_block (hgr.block _ X6.lt (fun e => by have := (hv8 _ e.symm).1; omega))
                  replace X8 : Bx w5 b8 #[.int .i8 (g.p k), .int .i8 (g.q k), .int .i8 (g.s k), .int .i8 (g.t k), .int .i16 (g.u k)] 30 := X8.of_block (hgr.block _ X8.lt (fun e => by have := (hv8 _ e.symm).2; omega))
                  replace O : OwnD w5 (b6 + 1) v1 c d n := World.ownsRow.kept O hgr (own_ne fun q e1 e2 => by have := (hv1 q e1).2; have := (hv8 q e2).1; omega)
                  have O1 : OwnW w5 b7 (.slice A2 (k + 1) cap2) g (k + 1) := by unfold OwnW; rw [cC_succ]; exact own'
                  refine hK.out _ _ X8 (fun hHeld => ?_)
                  clear hK K
                  try simp only [List.getElem_toArray, List.getElem_cons_zero, List.getElem_cons_succ, Act.put, List.setIfInBounds_toArray, List.set_cons_zero, List.set_cons_succ]
                  replace hb8 := Nat.le_trans hb8 hgr.size
                  have c6 := X6.cell 1
                  simp only [List.getElem?_toArray, List.getElem?_cons_zero, List.getElem?_cons_succ] at c6
                  have z6 := X6.frozen 1
                  refine wpAnyH_take (i := 6) (oi := _) (v := ?_) rfl (by kernel_rfl) (by kernel_rfl) (by kernel_rfl) (fun _ _ _ h => h) (Or.inl ⟨by kernel_rfl, ?_⟩) (by assumption) ?_
                  rotate_left
                  · intro w hSw; (try dsimp only at hSw); go_simp; first | done | with_reducible rfl
                  try simp only [List.getElem_toArray, List.getElem_cons_zero, List.getElem_cons_succ, Act.put, List.setIfInBounds_toArray, List.set_cons_zero, List.set_cons_succ]
                  refine wpAnyH_ready (rs := [7]) (by kernel_rfl) (by simp) ?_
                  refine AllReadyH.cons (o := _) rfl (fun K hK => ?_) AllReadyH.nil
                  go_simp
                  replace X8 := X8.other (g := b6) (o := 1) (.slice A2 (k + 1) cap2) (by omega)
                  refine hK.out _ _ X8 (fun hHeld => ?_)
                  clear hK K
                  try simp only [List.getElem_toArray, List.getElem_cons_zero, List.getElem_cons_succ, Act.put, List.setIfInBounds_toArray, List.set_cons_zero, List.set_cons_succ]
                  refine wpAnyH_done (by kernel_rfl) ?_ _
                  clear hHeld c6 z6
                  go_wp2
                  exact ⟨⟨k + 1, .slice A2 (k + 1) cap2, by omega, by first | go_num | simp, B1.setCell (p := ⟨b6, 1, none⟩) (by omega) _, X4.other _ (by omega), X6.set 1 _, OwnD.setOther1 O (by omega) _, OwnW.setOther O1 (by omega) _, by simpa using hb8⟩, by simp [intOf]; omega⟩
                · skip
                  go_simp
                  have NC := ncells w3 #[.int .i64 (g.p k), .int .i64 (g.q k), .int .i64 (g.s k), .int .i64 (g.t k), .int .i64 (g.u k)] 109
                  replace X4 := X4.alloc (.cells #[.int .i64 (g.p k), .int .i64 (g.q k), .int .i64 (g.s k), .int .i64 (g.t k), .int .i64 (g.u k)] 109)
                  replace X6 := X6.alloc (.cells #[.int .i64 (g.p k), .int .i64 (g.q k), .int .i64 (g.s k), .int .i64 (g.t k), .int .i64 (g.u k)] 109)
                  replace X8 := X8.alloc (.cells #[.int .i64 (g.p k), .int .i64 (g.q k), .int .i64 (g.s k), .int .i64 (g.t k), .int .i64 (g.u k)] 109)
                  replace O : OwnD (w3.alloc (.cells #[.int .i64 (g.p k), .int .i64 (g.q k), .int .i64 (g.s k), .int .i64 (g.t k), .int .i64 (g.u k)] 109)) (b6 + 1) v1 c d n := World.ownsRow.alloc O _
                  replace O2 : OwnW (w3.alloc (.cells #[.int .i64 (g.p k), .int .i64 (g.q k), .int .i64 (g.s k), .int .i64 (g.t k), .int .i64 (g.u k)] 109)) b7 v2 g k := World.ownsRow.alloc O2 _
                  replace B := al B (.cells #[.int .i64 (g.p k), .int .i64 (g.q k), .int .i64 (g.s k), .int .i64 (g.t k), .int .i64 (g.u k)] 109)
                  have hsz : (w3.alloc (.cells #[.int .i64 (g.p k), .int .i64 (g.q k), .int .i64 (g.s k), .int .i64 (g.t k), .int .i64 (g.u k)] 109)).heap.size = w3.heap.size + 1 := by simp
                  obtain ⟨w4, hw4⟩ : ∃ w4, w4 = w3.alloc (.cells #[.int .i64 (g.p k), .int .i64 (g.q k), .int .i64 (g.s k), .int .i64 (g.t k), .int .i64 (g.u k)] 109) := ⟨_, rfl⟩
                  rw [← hw4] at NC X4 X6 X8 O O2 B hsz ⊢
                  replace hb8 : b7 ≤ w4.heap.size := by omega
                  clear hw4
                  refine hK.out _ _ X8 (fun hHeld => ?_)
                  clear hK K
                  try simp only [List.getElem_toArray, List.getElem_cons_zero, List.getElem_cons_succ, Act.put, List.setIfInBounds_toArray, List.set_cons_zero, List.set_cons_succ]
                  refine wpAnyH_ready (rs := [1]) (by kernel_rfl) (by simp) ?_
                  refine AllReadyH.cons (o := _) rfl (fun K hK => ?_) AllReadyH.nil
                  have c6 := X6.cell 1
                  simp only [List.getElem?_toArray, List.getElem?_cons_zero, List.getElem?_cons_succ] at c6
                  go_simp
                  refine hK.out _ _ X8 (fun hHeld => ?_)
                  clear hK K
                  try simp only [List.getElem_toArray, List.getElem_cons_zero, List.getElem_cons_succ, Act.put, List.setIfInBounds_toArray, List.set_cons_zero, List.set_cons_succ]
                  clear c6
                  refine wpAnyH_ready (rs := [5]) (by kernel_rfl) (by simp) ?_
                  refine AllReadyH.cons (o := _) rfl (fun K hK => ?_) AllReadyH.nil
                  refine wp_append_own _ _ _ 74 rfl b7 109 i1 (.agg #[.int .i64 0, .int .i64 0, .int .i64 0, .int .i64 0, .int .i64 0]) 5 40 Tryd.underlying74 hi1 hz10 hz11 hz12 rfl (by decide) v2 k (cC g k) rfl O2 ⟨w3.heap.size, 0, none⟩ 1 1 [.int .i64 (g.p k), .int .i64 (g.q k), .int .i64 (g.s k), .int .i64 (g.t k), .int .i64 (g.u k)] rfl rfl NC (crew_one _ _ _ _ _) (by unfold maxLen; omega) (by omega) (by omega) ?_
                  intro v' w5 own' hgr hn
                  obtain ⟨A2, cap2, hv2⟩ := own_shape own'
                  subst hv2
                  have B1 : Below w.heap.size w w5 := B.grown hgr B.size (fun k e => by have := (hv8 k e).1; omega)
                  replace X4 : Bx w5 b4 #[.slice none 0 0, .slice none 0 0] 76 := X4.of_block (hgr.block _ X4.lt (fun e => by have := (hv8 _ e.symm).1; omega))
                  replace X6 : Bx w5 b6 #[v1, v2] 76 := X6.of_block (hgr.block _ X6.lt (fun e => by have := (hv8 _ e.symm).1; omega))
                  replace X8 : Bx w5 b8 #[.int .i8 (g.p k), .int .i8 (g.q k), .int .i8 (g.s k), .int .i8 (g.t k), .int .i16 (g.u k)] 30 := X8.of_block (hgr.block _ X8.lt (fun e => by have := (hv8 _ e.symm).2; omega))
                  replace O : OwnD w5 (b6 + 1) v1 c d n := World.ownsRow.kept O hgr (own_ne fun q e1 e2 => by have := (hv1 q e1).2; have := (hv8 q e2).1; omega)
                  have O1 : OwnW w5 b7 (.slice A2 (k + 1) cap2) g (k + 1) := by unfold OwnW; rw [cC_succ]; exact own'
                  refine hK.out _ _ X8 (fun hHeld => ?_)
                  clear hK K
                  try simp only [List.getElem_toArray, List.getElem_cons_zero, List.getElem_cons_succ, Act.put, List.setIfInBounds_toArray, List.set_cons_zero, List.set_cons_succ]
                  replace hb8 := Nat.le_trans hb8 hgr.size
                  have c6 := X6.cell 1
                  simp only [List.getElem?_toArray, List.getElem?_cons_zero, List.getElem?_cons_succ] at c6
                  have z6 := X6.frozen 1
                  refine wpAnyH_take (i := 6) (oi := _) (v := ?_) rfl (by kernel_rfl) (by kernel_rfl) (by kernel_rfl) (fun _ _ _ h => h) (Or.inl ⟨by kernel_rfl, ?_⟩) (by assumption) ?_
                  rotate_left
                  · intro w hSw; (try dsimp only at hSw); go_simp; first | done | with_reducible rfl
                  try simp only [List.getElem_toArray, List.getElem_cons_zero, List.getElem_cons_succ, Act.put, List.setIfInBounds_toArray, List.set_cons_zero, List.set_cons_succ]
                  refine wpAnyH_ready (rs := [7]) (by kernel_rfl) (by simp) ?_
                  refine AllReadyH.cons (o := _) rfl (fun K hK => ?_) AllReadyH.nil
                  go_simp
                  replace X8 := X8.other (g := b6) (o := 1) (.slice A2 (k + 1) cap2) (by omega)
                  refine hK.out _ _ X8 (fun hHeld => ?_)
                  clear hK K
                  try simp only [List.getElem_toArray, List.getElem_cons_zero, List.getElem_cons_succ, Act.put, List.setIfInBounds_toArray, List.set_cons_zero, List.set_cons_succ]
                  refine wpAnyH_done (by kernel_rfl) ?_ _
                  clear hHeld c6 z6
                  go_wp2
                  exact ⟨⟨k + 1, .slice A2 (k + 1) cap2, by omega, by first | go_num | simp, B1.setCell (p := ⟨b6, 1, none⟩) (by omega) _, X4.other _ (by omega), X6.set 1 _, OwnD.setOther1 O (by omega) _, OwnW.setOther O1 (by omega) _, by simpa using hb8⟩, by simp [intOf]; omega⟩
            · obtain rfl : k = m := by omega
              obtain ⟨m, rfl⟩ : ∃ m, m = k := ⟨_, rfl⟩
              have hki : ¬ ((m : Int) < (m : Int)) := by omega
              obtain ⟨A1, cap1, hv⟩ := own_shape O
              subst hv
              have HTo := Lib.hid (together_any A1 n cap1 c d wr hn6 (OwnD.rd O) (fun j hj => by have := (P0.out.2 j hj).2; omega))
              have hbd := sumN_bd (y := d) (n := n) (fun j hj => by have := (P0.out.2 j hj).2; omega) n (Nat.le_refl _)
              have c6 := X6.cell 0
              simp only [List.getElem?_toArray, List.getElem?_cons_zero, List.getElem?_cons_succ] at c6
              go_wp2_with fail
              refine HTo.out.mono ?_
              rintro e w3 ⟨hb, rfl⟩
              replace X4 := X4.below hb
              replace X6 := X6.below hb
              replace O := OwnD.below O hb
              replace O2 := OwnW.below O2 hb
              replace B := nxt B hb
              have hb7w : b7 ≤ w3.heap.size := Nat.le_trans hb7 hb.size
              clear hb c6 HTo
              obtain ⟨S, hS⟩ : ∃ S, S = sumN d n := ⟨_, rfl⟩
              rw [← hS] at hbd ⊢
              have HS := Lib.hid hS
              obtain ⟨M, hM⟩ : ∃ M, M = maxK c n := ⟨_, rfl⟩
              rw [← hM]
              clear hS hM
              have X11 := Bx.new w3 #[.int .i64 M, .int .i64 S] 107
              have h411 : b4 < w3.heap.size := X4.lt
              have h611 : b6 < w3.heap.size := X6.lt
              have X4w := X4
              have X6w := X6
              have Bw := B
              have Ow := O
              have O2w := O2
              replace X4 := X4.alloc (.cells #[.int .i64 M, .int .i64 S] 107)
              replace X6 := X6.alloc (.cells #[.int .i64 M, .int .i64 S] 107)
              replace O : OwnD (w3.alloc (.cells #[.int .i64 M, .int .i64 S] 107)) (b6 + 1) (.slice A1 n cap1) c d n := World.ownsRow.alloc O _
              replace O2 : OwnW (w3.alloc (.cells #[.int .i64 M, .int .i64 S] 107)) b7 v2 g m := World.ownsRow.alloc O2 _
              replace B := al B (.cells #[.int .i64 M, .int .i64 S] 107)
              by_cases hS2 : 2000 < S
              · have d1 : decide (2000 < S) = true := by simpa using hS2
                have hcode : JobCode n c d m g 2 := .inr (.inr (.inl ⟨P2.out, hm4, by rw [← HS.out]; exact hS2, rfl⟩))
                have HCo := Lib.hid hcode
                clear hcode
                go_wp2
                obtain ⟨W3, hW3⟩ : ∃ W3 : World, W3 = w3.alloc (.cells #[.int .i64 M, .int .i64 S] 107) := ⟨_, rfl⟩
                rw [← hW3] at X4 X6 X11 O O2 B ⊢
                clear hW3 O O2 X6
                obtain ⟨b11, h11⟩ : ∃ b11, b11 = w3.heap.size := ⟨_, rfl⟩
                rw [← h11] at X11 h411 ⊢
                clear h11
                refine wp_region_held_drew (S := (fun w' : World => Bx w' b11 #[.int .i64 M, .int .i64 S] 107)) (by kernel_rfl) X11 (fun hHeld => ?_)
                replace B := B.drew
                replace X4 : Bx W3.drew b4 #[.slice none 0 0, .slice none 0 0] 76 := X4
                replace X11 : Bx W3.drew b11 #[.int .i64 M, .int .i64 S] 107 := X11
                obtain ⟨wq, hwq⟩ : ∃ wq, W3.drew = wq := ⟨_, rfl⟩
                rw [hwq] at B X4 X11 hHeld ⊢
                clear hwq
                obtain ⟨⟨x0, x1⟩, ⟨z0, z1⟩, Y⟩ := job_store X4 (.slice none 0 0) (.slice none 0 0)
                have y0 := Y.cell 0
                have y1 := Y.cell 1
                simp only [List.getElem?_toArray, List.getElem?_cons_zero, List.getElem?_cons_succ] at y0 y1
                have B' := (B.setCell (p := ⟨b4, 0, none⟩) hb4 (.slice none 0 0)).setCell (p := ⟨b4, 1, none⟩) hb4 (.slice none 0 0)
                refine wpAnyH_take (i := 0) (oi := _) (v := ?_) rfl (by kernel_rfl) (by kernel_rfl) (by kernel_rfl) (fun _ _ _ h => h) (Or.inl ⟨by kernel_rfl, ?_⟩) (by assumption) ?_
                rotate_left
                · intro w hSw; (try dsimp only at hSw); go_simp; first | done | with_reducible rfl
                try simp only [List.getElem_toArray, List.getElem_cons_zero, List.getElem_cons_succ, Act.put, List.setIfInBounds_toArray, List.set_cons_zero, List.set_cons_succ]
                refine wpAnyH_take (i := 1) (oi := _) (v := ?_) rfl (by kernel_rfl) (by kernel_rfl) (by kernel_rfl) (fun _ _ _ h => h) (Or.inl ⟨by kernel_rfl, ?_⟩) (by assumption) ?_
                rotate_left
                · intro w hSw; (try dsimp only at hSw); go_simp; first | done | with_reducible rfl
                try simp only [List.getElem_toArray, List.getElem_cons_zero, List.getElem_cons_succ, Act.put, List.setIfInBounds_toArray, List.set_cons_zero, List.set_cons_succ]
                refine wpAnyH_take (i := 2) (oi := _) (v := ?_) rfl (by kernel_rfl) (by kernel_rfl) (by kernel_rfl) (fun _ _ _ h => h) (Or.inl ⟨by kernel_rfl, ?_⟩) (by assumption) ?_
                rotate_left
                · intro w hSw; have hcell := (fun (w' : World) (hS : Bx w' b11 #[.int .i64 M, .int .i64 S] 107) => (hS.cell 1).trans rfl) w hSw; clear hSw; go_simp; first | done | with_reducible rfl
                try simp only [List.getElem_toArray, List.getElem_cons_zero, List.getElem_cons_succ, Act.put, List.setIfInBounds_toArray, List.set_cons_zero, List.set_cons_succ]
                refine wpAnyH_take (i := 3) (oi := _) (v := ?_) rfl (by kernel_rfl) (by kernel_rfl) (by kernel_rfl) (fun _ _ _ h => h) (Or.inl ⟨by kernel_rfl, ?_⟩) (by assumption) ?_
                rotate_left
                · intro w hSw; (try dsimp only at hSw); go_simp; first | done | with_reducible rfl
                try simp only [List.getElem_toArray, List.getElem_cons_zero, List.getElem_cons_succ, Act.put, List.setIfInBounds_toArray, List.set_cons_zero, List.set_cons_succ]
                refine wpAnyH_take (i := 4) (oi := _) (v := ?_) rfl (by kernel_rfl) (by kernel_rfl) (by kernel_rfl) (fun _ _ _ h => h) (Or.inl ⟨by kernel_rfl, ?_⟩) (by assumption) ?_
                rotate_left
                · intro w hSw; (try dsimp only at hSw); go_simp; first | done | with_reducible rfl
                try simp only [List.getElem_toArray, List.getElem_cons_zero, List.getElem_cons_succ, Act.put, List.setIfInBounds_toArray, List.set_cons_zero, List.set_cons_succ]
                refine wpAnyH_ready (rs := [5]) (by kernel_rfl) (by simp) ?_
                refine AllReadyH.cons (o := _) rfl (fun K hK => ?_) AllReadyH.nil
                go_simp
                refine hK.out _ _ ((X11.other (g := b4) (o := 0) (.slice none 0 0) (by omega)).other (g := b4) (o := 1) (.slice none 0 0) (by omega)) (fun hHeld => ?_)
                clear hK K
                try simp only [List.getElem_toArray, List.getElem_cons_zero, List.getElem_cons_succ, Act.put, List.setIfInBounds_toArray, List.set_cons_zero, List.set_cons_succ]
                refine wpAnyH_take (i := 6) (oi := _) (v := ?_) rfl (by kernel_rfl) (by kernel_rfl) (by kernel_rfl) (fun _ _ _ h => h) (Or.inl ⟨by kernel_rfl, ?_⟩) (by assumption) ?_
                rotate_left
                · intro w hSw; (try dsimp only at hSw); go_simp; first | done | with_reducible rfl
                try simp only [List.getElem_toArray, List.getElem_cons_zero, List.getElem_cons_succ, Act.put, List.setIfInBounds_toArray, List.set_cons_zero, List.set_cons_succ]
                refine wpAnyH_done (by kernel_rfl) ?_ _
                clear X4 X11 Y B x0 x1 z0 z1 hHeld
                go_wp2
                refine bodyPost_ret (by simp [results, Tryd.results48, go_sem, y0, y1]; rfl) rfl ⟨B', .inl ⟨2, _, by decide, HCo.out, .inr (.inr (.inl ⟨_, rfl, rfl⟩)), rfl⟩⟩
              · have d1 : decide (2000 < S) = false := by simpa using hS2
                have hok : Hid (JobOk n c d m g) := Lib.hid ⟨P2.out, hm4, by rw [← HS.out]; omega⟩
                obtain ⟨A3, cap3, hv3⟩ := own_shape O2w
                subst hv3
                obtain ⟨⟨x0, x1⟩, ⟨z0, z1⟩, Y0⟩ := job_store X4w (.slice A1 n cap1) (.slice A3 m cap3)
                have Y := Y0.alloc (.cells #[.int .i64 M, .int .i64 S] 107)
                have y0 := Y.cell 0
                have y1 := Y.cell 1
                have a4 := X6w.cell 0
                have a5 := X6w.cell 1
                simp only [List.getElem?_toArray, List.getElem?_cons_zero, List.getElem?_cons_succ] at y0 y1 a4 a5
                have B' := al ((Bw.setCell (p := ⟨b4, 0, none⟩) hb4 (.slice A1 n cap1)).setCell (p := ⟨b4, 1, none⟩) hb4 (.slice A3 m cap3)) (.cells #[.int .i64 M, .int .i64 S] 107)
                have O' := OwnD.setOther1 (OwnD.setOther Ow (b := b4) (by omega) (.slice A1 n cap1)) (b := b4) (by omega) (.slice A3 m cap3)
                have O2' := OwnW.setOther (OwnW.setOther0 O2w (b := b4) (by omega) (.slice A1 n cap1)) (b := b4) (by omega) (.slice A3 m cap3)
                have HO := Lib.hid (World.ownsRow.mono (World.ownsRow.alloc O' (.cells #[.int .i64 M, .int .i64 S] 107)) (show w.heap.size ≤ b6 + 1 by omega))
                have HO2 := Lib.hid (World.ownsRow.mono (World.ownsRow.alloc O2' (.cells #[.int .i64 M, .int .i64 S] 107)) (show w.heap.size ≤ b7 by omega))
                clear X4 X6 Y Y0 B Bw O O2 Ow O2w O' O2' X11 X4w X6w
                go_wp2
                refine bodyPost_ret (v := .tuple #[.agg #[.slice A1 n cap1, .slice A3 m cap3], .nilIface]) (by simp [results, Tryd.results48, go_sem, y0, y1]) rfl ⟨B', .inr ⟨hok.out, _, _, rfl, HO.out, HO2.out⟩⟩
end Go.Proofs.YtfpoikeibjojgaaDoor
