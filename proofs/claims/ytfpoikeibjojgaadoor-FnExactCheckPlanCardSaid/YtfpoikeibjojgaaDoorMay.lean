/-
  Whether a crew of a job may lay a row: the contract of (impl.job).mayLay. Conditions stand at each.
-/
import Derived.Test.YtfpoikeibjojgaaDoorRows
import Derived.Test.YtfpoikeibjojgaaDoorJob
namespace Go.Proofs.YtfpoikeibjojgaaDoor
open Go Go.ChangeShapes Go.WideShapes Go.ChangeAt Go.RowKit
set_option linter.unusedVariables false
set_option linter.unusedSimpArgs false
set_option maxRecDepth 100000
set_option maxHeartbeats 20000000
/-- n crews from somewhere. -/
def RdW (w : World) (B : Nat) (A : Option Addr) (n : Nat) (g : Gs) : Prop :=
  0 < n → ∃ b, A = some ⟨b, 0, none⟩ ∧ b < B ∧ ∀ j, j < n → w.cell? ⟨b, j * 5, none⟩ = some (.int .i64 (g.p j)) ∧ w.cell? ⟨b, j * 5 + 1, none⟩ = some (.int .i64 (g.q j)) ∧ w.cell? ⟨b, j * 5 + 2, none⟩ = some (.int .i64 (g.s j)) ∧
    w.cell? ⟨b, j * 5 + 3, none⟩ = some (.int .i64 (g.t j)) ∧ w.cell? ⟨b, j * 5 + 4, none⟩ = some (.int .i64 (g.u j))
theorem cC_get (g : Gs) : ∀ n j, j < n → (cC g n)[j * 5]? = some (.int .i64 (g.p j)) ∧ (cC g n)[j * 5 + 1]? = some (.int .i64 (g.q j)) ∧ (cC g n)[j * 5 + 2]? = some (.int .i64 (g.s j)) ∧ (cC g n)[j * 5 + 3]? = some (.int .i64 (g.t j)) ∧ (cC g n)[j * 5 + 4]? = some (.int .i64 (g.u j))
  | 0, j, h => by omega
  | n + 1, j, h => by
    rw [cC_succ]
    by_cases e : j = n
    · subst e
      refine ⟨?_, ?_, ?_, ?_, ?_⟩ <;> (rw [List.getElem?_append_right (by rw [cC_length]; omega), cC_length]; simp)
    · obtain ⟨h0, h1, h2, h3, h4⟩ := cC_get g n j (by omega)
      refine ⟨?_, ?_, ?_, ?_, ?_⟩ <;> (rw [List.getElem?_append_left (by rw [cC_length]; omega)]; assumption)
theorem OwnW.rd {w : World} {base n cap : Nat} {A : Option Addr} {g : Gs} (h : OwnW w base (.slice A n cap) g n) : RdW w w.heap.size A n g := fun h0 => by
  have hs := h
  rcases h.2 with ⟨e, h1⟩ | ⟨g', cap', cur, e, hg, hw, r⟩
  · omega
  · injection e with e1 e2 e3
    subst e1 e3
    refine ⟨g', rfl, (Array.getElem?_eq_some_iff.1 hw).1, fun j hj => ?_⟩
    obtain ⟨x0, x1, x2, x3, x4⟩ := cC_get g n j hj
    have h0 := World.ownsRow.cellAt hs (j * 5) (by omega)
    have h1 := World.ownsRow.cellAt hs (j * 5 + 1) (by omega)
    have h2 := World.ownsRow.cellAt hs (j * 5 + 2) (by omega)
    have h3 := World.ownsRow.cellAt hs (j * 5 + 3) (by omega)
    have h4 := World.ownsRow.cellAt hs (j * 5 + 4) (by omega)
    exact ⟨h0.trans x0, h1.trans x1, h2.trans x2, h3.trans x3, h4.trans x4⟩
theorem yields_two {ops : Array Oper} {S : World → Prop} {op : Oper} {a : Act} (hw : Region.wanted op (yielded ops a.tmps) = true) (ty : TypeId) (x : Operand) (ho : op.op = .load ty x)
    (b o : Nat) (hx : a.eval x = .pointer (some ⟨b, o, none⟩)) (u v : Value) (hS : ∀ w, S w → w.cell? ⟨b, o, none⟩ = some u ∧ w.cell? ⟨b, o + 1, none⟩ = some v) (d : TypeDesc)
    (hu : Tryd.prog.underlying ty = some d) (hd : d.isRow = true) (hi : (Tryd.prog.info? ty).map (·.size) = some 2) : YieldsIf Tryd.prog ops S op (.agg #[u, v]) a := by
  have := yieldsIf_load_mid (P := Tryd.prog) (S := S) hw ty x ho b o hx [u, v] d (fun w hSw j z hj => by
    obtain ⟨h0, h1⟩ := hS w hSw
    have hj2 : j < 2 := by
      rcases Nat.lt_or_ge j 2 with h | h
      · exact h
      · rw [List.getElem?_eq_none (by simpa using h)] at hj; cases hj
    obtain rfl | rfl : j = 0 ∨ j = 1 := by omega
    · simpa using h0.trans hj
    · simpa using h1.trans hj) hu hd (by simpa using hi)
  simpa using this
theorem mayLay_any (A1 : Option Addr) (n cap1 : Nat) (c d : Nat → Int) (A2 : Option Addr) (m cap2 : Nat) (g : Gs) (i : Int) (j : Nat) (r : Bool) (w : World) (hn : n ≤ 6) (hm : m ≤ 4) (hj : j < n)
    (hr1 : RdU w w.heap.size A1 n c d) (hr2 : RdW w w.heap.size A2 m g) (hr : r = true ↔ (0 ≤ i ∧ i < m) ∧ c j ≤ g.p i.toNat) :
    Calls Tryd.prog 50 #[.agg #[.slice A1 n cap1, .slice A2 m cap2], .int .i64 i, .int .i64 (j : Int)] w (BPost r w) := by
  obtain ⟨r0, e0⟩ := dec_ex (0 ≤ i ∧ i ≤ (m : Int) - 1)
  have H0 := Lib.hid (fun W b hb => within1b i 0 ((m : Int) - 1) r0 W b hb e0)
  have E0 := Lib.hid e0
  have HR := Lib.hid hr
  have HR1 := Lib.hid hr1
  have HR2 := Lib.hid hr2
  have HX := Bx.new w #[.slice A1 n cap1, .slice A2 m cap2] 76
  have B := al (Below.refl w.heap.size w) (.cells #[.slice A1 n cap1, .slice A2 m cap2] 76)
  have hji : (j : Int) < (n : Int) := by omega
  have hj0 : (0 : Int) ≤ (j : Int) := by omega
  clear e0 hr hr1 hr2
  go_enter Tryd.func50, Tryd.ntmps50
  go_wp2
  obtain ⟨W0, hW0⟩ : ∃ W0 : World, W0 = w.alloc (.cells #[.slice A1 n cap1, .slice A2 m cap2] 76) := ⟨_, rfl⟩
  rw [← hW0] at HX B ⊢
  clear hW0
  obtain ⟨b3, h3⟩ : ∃ b3, b3 = w.heap.size := ⟨_, rfl⟩
  rw [← h3] at HX ⊢
  clear h3
  refine wp_region_held_drew (S := (fun w' : World => Below W0.drew.heap.size W0.drew w')) (by kernel_rfl) (Below.refl W0.drew.heap.size W0.drew) (fun hHeld => ?_)
  replace B := B.drew
  replace HX : Bx W0.drew b3 #[.slice A1 n cap1, .slice A2 m cap2] 76 := HX
  obtain ⟨wq, hwq⟩ : ∃ wq, W0.drew = wq := ⟨_, rfl⟩
  rw [hwq] at B HX hHeld ⊢
  clear hwq
  have hb3 : b3 < wq.heap.size := HX.lt
  have q0 : wq.cell? ⟨b3, 0, none⟩ = some (.slice A1 n cap1) := (HX.cell 0).trans rfl
  have q1 : wq.cell? ⟨b3, 1, none⟩ = some (.slice A2 m cap2) := (HX.cell 1).trans rfl
  obtain ⟨wb, hwb⟩ : ∃ wb, wb = w := ⟨_, rfl⟩
  have B' : Below wb.heap.size wb wq := by rw [hwb]; exact B
  have HR1' := Lib.hid (show RdU wb wb.heap.size A1 n c d by rw [hwb]; exact HR1.out)
  have HR2' := Lib.hid (show RdW wb wb.heap.size A2 m g by rw [hwb]; exact HR2.out)
  refine wpAnyH_take (i := 0) (oi := _) (v := ?_) rfl (by kernel_rfl) (by kernel_rfl) (by kernel_rfl) (fun _ _ _ h => h) (Or.inl ⟨by kernel_rfl, ?_⟩) (by assumption) ?_
  rotate_left
  · intro w hSw; (try dsimp only at hSw); go_simp; first | done | with_reducible rfl
  try simp only [List.getElem_toArray, List.getElem_cons_zero, List.getElem_cons_succ, Act.put, List.setIfInBounds_toArray, List.set_cons_zero, List.set_cons_succ]
  refine wpAnyH_take (i := 1) (oi := _) (v := ?_) rfl (by kernel_rfl) (by kernel_rfl) (by kernel_rfl) (fun _ _ _ h => h) (Or.inl ⟨by kernel_rfl, ?_⟩) (by assumption) ?_
  rotate_left
  · intro w hSw; have hcell := (fun (w' : World) (hS : Below wq.heap.size wq w') => (hS.cell (p := ⟨b3, 1, none⟩) hb3).trans q1) w hSw; clear hSw; go_simp; first | done | with_reducible rfl
  try simp only [List.getElem_toArray, List.getElem_cons_zero, List.getElem_cons_succ, Act.put, List.setIfInBounds_toArray, List.set_cons_zero, List.set_cons_succ]
  refine wpAnyH_take (i := 2) (oi := _) (v := ?_) rfl (by kernel_rfl) (by kernel_rfl) (by kernel_rfl) (fun _ _ _ h => h) (Or.inl ⟨by kernel_rfl, ?_⟩) (by assumption) ?_
  rotate_left
  · intro w hSw; (try dsimp only at hSw); go_simp; first | done | with_reducible rfl
  try simp only [List.getElem_toArray, List.getElem_cons_zero, List.getElem_cons_succ, Act.put, List.setIfInBounds_toArray, List.set_cons_zero, List.set_cons_succ]
  refine wpAnyH_take (i := 3) (oi := _) (v := ?_) rfl (by kernel_rfl) (by kernel_rfl) (by kernel_rfl) (fun _ _ _ h => h) (Or.inl ⟨by kernel_rfl, ?_⟩) (by assumption) ?_
  rotate_left
  · intro w hSw; (try dsimp only at hSw); go_simp; first | done | with_reducible rfl
  try simp only [List.getElem_toArray, List.getElem_cons_zero, List.getElem_cons_succ, Act.put, List.setIfInBounds_toArray, List.set_cons_zero, List.set_cons_succ]
  refine wpAnyH_take (i := 4) (oi := _) (v := ?_) rfl (by kernel_rfl) (by kernel_rfl) (by kernel_rfl) (fun _ _ _ h => h) (Or.inl ⟨by kernel_rfl, ?_⟩) (by assumption) ?_
  rotate_left
  · intro w hSw; (try dsimp only at hSw); go_simp; first | done | with_reducible rfl
  try simp only [List.getElem_toArray, List.getElem_cons_zero, List.getElem_cons_succ, Act.put, List.setIfInBounds_toArray, List.set_cons_zero, List.set_cons_succ]
  refine wpAnyH_ready (rs := [5]) (by kernel_rfl) (by simp) ?_
  refine AllReadyH.cons (o := _) rfl (fun K hK => ?_) AllReadyH.nil
  go_simp
  refine hK.out _ _ (al hHeld _) (fun hHeld => ?_)
  clear hK K
  try simp only [List.getElem_toArray, List.getElem_cons_zero, List.getElem_cons_succ, Act.put, List.setIfInBounds_toArray, List.set_cons_zero, List.set_cons_succ]
  have hwm : IntKind.i64.wrap ((m : Int) - 1) = (m : Int) - 1 := IntWalk.i64_in _ (by omega)
  rw [hwm]
  refine wpAnyH_ready (rs := [6]) (by kernel_rfl) (by simp) ?_
  refine AllReadyH.cons (o := _) rfl (fun K hK => ?_) AllReadyH.nil
  go_simp
  refine (H0.out wq _ rfl).mono ?_
  rintro e w3 ⟨rfl, hb⟩
  have B3 := nxt B hb
  refine hK.out _ _ hb (fun hHeld => ?_)
  clear hK K
  try simp only [List.getElem_toArray, List.getElem_cons_zero, List.getElem_cons_succ, Act.put, List.setIfInBounds_toArray, List.set_cons_zero, List.set_cons_succ]
  refine wpAnyH_take (i := 7) (oi := _) (v := ?_) rfl (by kernel_rfl) (by kernel_rfl) (by kernel_rfl) (fun _ _ _ h => h) (Or.inl ⟨by kernel_rfl, ?_⟩) (by assumption) ?_
  rotate_left
  · intro w hSw; (try dsimp only at hSw); go_simp; first | done | with_reducible rfl
  try simp only [List.getElem_toArray, List.getElem_cons_zero, List.getElem_cons_succ, Act.put, List.setIfInBounds_toArray, List.set_cons_zero, List.set_cons_succ]
  cases r0 with
  | false =>
    obtain rfl : r = false := Bool.eq_false_iff.2 fun h => by
      have := HR.out.1 h
      have := E0.out.2 ⟨this.1.1, by omega⟩
      cases this
    refine wpAnyH_take (i := 8) (oi := _) (v := undef) rfl (by kernel_rfl) (by kernel_rfl) (by kernel_rfl) (fun _ _ _ h => h) (Or.inr ⟨by kernel_rfl, rfl⟩) (by assumption) ?_
    try simp only [List.getElem_toArray, List.getElem_cons_zero, List.getElem_cons_succ, Act.put, List.setIfInBounds_toArray, List.set_cons_zero, List.set_cons_succ]
    refine wpAnyH_take (i := 9) (oi := _) (v := undef) rfl (by kernel_rfl) (by kernel_rfl) (by kernel_rfl) (fun _ _ _ h => h) (Or.inr ⟨by kernel_rfl, rfl⟩) (by assumption) ?_
    try simp only [List.getElem_toArray, List.getElem_cons_zero, List.getElem_cons_succ, Act.put, List.setIfInBounds_toArray, List.set_cons_zero, List.set_cons_succ]
    refine wpAnyH_take (i := 10) (oi := _) (v := undef) rfl (by kernel_rfl) (by kernel_rfl) (by kernel_rfl) (fun _ _ _ h => h) (Or.inr ⟨by kernel_rfl, rfl⟩) (by assumption) ?_
    try simp only [List.getElem_toArray, List.getElem_cons_zero, List.getElem_cons_succ, Act.put, List.setIfInBounds_toArray, List.set_cons_zero, List.set_cons_succ]
    refine wpAnyH_take (i := 11) (oi := _) (v := undef) rfl (by kernel_rfl) (by kernel_rfl) (by kernel_rfl) (fun _ _ _ h => h) (Or.inr ⟨by kernel_rfl, rfl⟩) (by assumption) ?_
    try simp only [List.getElem_toArray, List.getElem_cons_zero, List.getElem_cons_succ, Act.put, List.setIfInBounds_toArray, List.set_cons_zero, List.set_cons_succ]
    refine wpAnyH_take (i := 12) (oi := _) (v := undef) rfl (by kernel_rfl) (by kernel_rfl) (by kernel_rfl) (fun _ _ _ h => h) (Or.inr ⟨by kernel_rfl, rfl⟩) (by assumption) ?_
    try simp only [List.getElem_toArray, List.getElem_cons_zero, List.getElem_cons_succ, Act.put, List.setIfInBounds_toArray, List.set_cons_zero, List.set_cons_succ]
    refine wpAnyH_take (i := 13) (oi := _) (v := undef) rfl (by kernel_rfl) (by kernel_rfl) (by kernel_rfl) (fun _ _ _ h => h) (Or.inr ⟨by kernel_rfl, rfl⟩) (by assumption) ?_
    try simp only [List.getElem_toArray, List.getElem_cons_zero, List.getElem_cons_succ, Act.put, List.setIfInBounds_toArray, List.set_cons_zero, List.set_cons_succ]
    refine wpAnyH_take (i := 14) (oi := _) (v := undef) rfl (by kernel_rfl) (by kernel_rfl) (by kernel_rfl) (fun _ _ _ h => h) (Or.inr ⟨by kernel_rfl, rfl⟩) (by assumption) ?_
    try simp only [List.getElem_toArray, List.getElem_cons_zero, List.getElem_cons_succ, Act.put, List.setIfInBounds_toArray, List.set_cons_zero, List.set_cons_succ]
    refine wpAnyH_take (i := 15) (oi := _) (v := undef) rfl (by kernel_rfl) (by kernel_rfl) (by kernel_rfl) (fun _ _ _ h => h) (Or.inr ⟨by kernel_rfl, rfl⟩) (by assumption) ?_
    try simp only [List.getElem_toArray, List.getElem_cons_zero, List.getElem_cons_succ, Act.put, List.setIfInBounds_toArray, List.set_cons_zero, List.set_cons_succ]
    refine wpAnyH_take (i := 16) (oi := _) (v := undef) rfl (by kernel_rfl) (by kernel_rfl) (by kernel_rfl) (fun _ _ _ h => h) (Or.inr ⟨by kernel_rfl, rfl⟩) (by assumption) ?_
    try simp only [List.getElem_toArray, List.getElem_cons_zero, List.getElem_cons_succ, Act.put, List.setIfInBounds_toArray, List.set_cons_zero, List.set_cons_succ]
    refine wpAnyH_take (i := 17) (oi := _) (v := undef) rfl (by kernel_rfl) (by kernel_rfl) (by kernel_rfl) (fun _ _ _ h => h) (Or.inr ⟨by kernel_rfl, rfl⟩) (by assumption) ?_
    try simp only [List.getElem_toArray, List.getElem_cons_zero, List.getElem_cons_succ, Act.put, List.setIfInBounds_toArray, List.set_cons_zero, List.set_cons_succ]
    refine wpAnyH_take (i := 18) (oi := _) (v := undef) rfl (by kernel_rfl) (by kernel_rfl) (by kernel_rfl) (fun _ _ _ h => h) (Or.inr ⟨by kernel_rfl, rfl⟩) (by assumption) ?_
    try simp only [List.getElem_toArray, List.getElem_cons_zero, List.getElem_cons_succ, Act.put, List.setIfInBounds_toArray, List.set_cons_zero, List.set_cons_succ]
    refine wpAnyH_take (i := 19) (oi := _) (v := undef) rfl (by kernel_rfl) (by kernel_rfl) (by kernel_rfl) (fun _ _ _ h => h) (Or.inr ⟨by kernel_rfl, rfl⟩) (by assumption) ?_
    try simp only [List.getElem_toArray, List.getElem_cons_zero, List.getElem_cons_succ, Act.put, List.setIfInBounds_toArray, List.set_cons_zero, List.set_cons_succ]
    refine wpAnyH_take (i := 20) (oi := _) (v := ?_) rfl (by kernel_rfl) (by kernel_rfl) (by kernel_rfl) (fun _ _ _ h => h) (Or.inl ⟨by kernel_rfl, ?_⟩) (by assumption) ?_
    rotate_left
    · intro w hSw; (try dsimp only at hSw); go_simp; first | done | with_reducible rfl
    try simp only [List.getElem_toArray, List.getElem_cons_zero, List.getElem_cons_succ, Act.put, List.setIfInBounds_toArray, List.set_cons_zero, List.set_cons_succ]
    refine wpAnyH_take (i := 21) (oi := _) (v := ?_) rfl (by kernel_rfl) (by kernel_rfl) (by kernel_rfl) (fun _ _ _ h => h) (Or.inl ⟨by kernel_rfl, ?_⟩) (by assumption) ?_
    rotate_left
    · intro w hSw; (try dsimp only at hSw); go_simp; first | done | with_reducible rfl
    try simp only [List.getElem_toArray, List.getElem_cons_zero, List.getElem_cons_succ, Act.put, List.setIfInBounds_toArray, List.set_cons_zero, List.set_cons_succ]
    refine wpAnyH_done (by kernel_rfl) ?_ _
    go_wp2
    go_ret
    exact ⟨B3, rfl⟩
  | true =>
    have P0 := E0.out.1 rfl
    obtain ⟨I, rfl⟩ := Int.eq_ofNat_of_zero_le P0.1
    have hI : I < m := by omega
    have hIi : (I : Int) < (m : Int) := by omega
    have hI0 : (0 : Int) ≤ (I : Int) := by omega
    obtain ⟨b2, rfl, hl2, hc2⟩ := HR2'.out (by omega)
    obtain ⟨p0, p1, -, -, -⟩ := hc2 I hI
    have hl2' : b2 < wq.heap.size := Nat.lt_of_lt_of_le hl2 B'.size
    replace p0 : wq.cell? ⟨b2, I * 5, none⟩ = some (.int .i64 (g.p I)) := (B'.cell (p := ⟨b2, I * 5, none⟩) hl2).trans p0
    replace p1 : wq.cell? ⟨b2, I * 5 + 1, none⟩ = some (.int .i64 (g.q I)) := (B'.cell (p := ⟨b2, I * 5 + 1, none⟩) hl2).trans p1
    obtain ⟨b1, o1, rfl, hl1, c0, c1⟩ := HR1'.out.at hj
    have hl1' : b1 < wq.heap.size := Nat.lt_of_lt_of_le hl1 B'.size
    replace c0 : wq.cell? ⟨b1, o1 + j * 2, none⟩ = some (.int .i64 (c j)) := (B'.cell (p := ⟨b1, o1 + j * 2, none⟩) hl1).trans c0
    replace c1 : wq.cell? ⟨b1, o1 + j * 2 + 1, none⟩ = some (.int .i64 (d j)) := (B'.cell (p := ⟨b1, o1 + j * 2 + 1, none⟩) hl1).trans c1
    have HM := Lib.hid (fun W => masters_any (g.p I) (g.q I) (c j) (d j) r W (by rw [HR.out]; simp only [Int.toNat_natCast]; exact ⟨fun h => h.2, fun h => ⟨⟨hI0, hIi⟩, h⟩⟩))
    clear hc2 hl1 hl2
    refine wpAnyH_take (i := 8) (oi := _) (v := ?_) rfl (by kernel_rfl) (by kernel_rfl) (by kernel_rfl) (fun _ _ _ h => h) (Or.inl ⟨by kernel_rfl, ?_⟩) (by assumption) ?_
    rotate_left
    · intro w hSw; (try dsimp only at hSw); go_simp; first | done | with_reducible rfl
    try simp only [List.getElem_toArray, List.getElem_cons_zero, List.getElem_cons_succ, Act.put, List.setIfInBounds_toArray, List.set_cons_zero, List.set_cons_succ]
    refine wpAnyH_take (i := 9) (oi := _) (v := ?_) rfl (by kernel_rfl) (by kernel_rfl) (by kernel_rfl) (fun _ _ _ h => h) (Or.inl ⟨by kernel_rfl, ?_⟩) (by assumption) ?_
    rotate_left
    · intro w hSw; have hcell := (fun (w' : World) (hS : Below wq.heap.size wq w') => (hS.cell (p := ⟨b3, 1, none⟩) hb3).trans q1) w hSw; clear hSw; go_simp; first | done | with_reducible rfl
    try simp only [List.getElem_toArray, List.getElem_cons_zero, List.getElem_cons_succ, Act.put, List.setIfInBounds_toArray, List.set_cons_zero, List.set_cons_succ]
    refine wpAnyH_take (i := 10) (oi := _) (v := ?_) rfl (by kernel_rfl) (by kernel_rfl) (by kernel_rfl) (fun _ _ _ h => h) (Or.inl ⟨by kernel_rfl, ?_⟩) (by assumption) ?_
    rotate_left
    · intro w hSw; (try dsimp only at hSw); go_simp; first | done | with_reducible rfl
    try simp only [List.getElem_toArray, List.getElem_cons_zero, List.getElem_cons_succ, Act.put, List.setIfInBounds_toArray, List.set_cons_zero, List.set_cons_succ]
    refine wpAnyH_take (i := 11) (oi := _) (v := ?_) rfl (by kernel_rfl) (by kernel_rfl) (by kernel_rfl) (fun _ _ _ h => h) (Or.inl ⟨by kernel_rfl, ?_⟩) (by assumption) ?_
    rotate_left
    · intro w hSw; (try dsimp only at hSw); go_simp; first | done | with_reducible rfl
    try simp only [List.getElem_toArray, List.getElem_cons_zero, List.getElem_cons_succ, Act.put, List.setIfInBounds_toArray, List.set_cons_zero, List.set_cons_succ]
    refine wpAnyH_take (i := 12) (oi := _) (v := ?_) rfl (by kernel_rfl) (by kernel_rfl) (by kernel_rfl) (fun _ _ _ h => h) (Or.inl ⟨by kernel_rfl, ?_⟩) (by assumption) ?_
    rotate_left
    · intro w hSw; (try dsimp only at hSw); go_simp; first | done | with_reducible rfl
    try simp only [List.getElem_toArray, List.getElem_cons_zero, List.getElem_cons_succ, Act.put, List.setIfInBounds_toArray, List.set_cons_zero, List.set_cons_succ]
    refine wpAnyH_take (i := 13) (oi := _) (v := .agg #[.int .i64 (g.p I), .int .i64 (g.q I)]) rfl (by kernel_rfl) (by kernel_rfl) (by kernel_rfl) (fun _ _ _ h => h) (yields_two (by kernel_rfl) _ _ rfl b2 (I * 5) rfl (.int .i64 (g.p I)) (.int .i64 (g.q I)) (fun w' hS => ⟨(Below.cell (p := ⟨b2, I * 5, none⟩) hS hl2').trans p0, (Below.cell (p := ⟨b2, I * 5 + 1, none⟩) hS hl2').trans p1⟩) _ Tryd.underlying107 rfl (by kernel_rfl)) (by assumption) ?_
    try simp only [List.getElem_toArray, List.getElem_cons_zero, List.getElem_cons_succ, Act.put, List.setIfInBounds_toArray, List.set_cons_zero, List.set_cons_succ]
    refine wpAnyH_take (i := 14) (oi := _) (v := ?_) rfl (by kernel_rfl) (by kernel_rfl) (by kernel_rfl) (fun _ _ _ h => h) (Or.inl ⟨by kernel_rfl, ?_⟩) (by assumption) ?_
    rotate_left
    · intro w hSw; (try dsimp only at hSw); go_simp; first | done | with_reducible rfl
    try simp only [List.getElem_toArray, List.getElem_cons_zero, List.getElem_cons_succ, Act.put, List.setIfInBounds_toArray, List.set_cons_zero, List.set_cons_succ]
    refine wpAnyH_take (i := 15) (oi := _) (v := ?_) rfl (by kernel_rfl) (by kernel_rfl) (by kernel_rfl) (fun _ _ _ h => h) (Or.inl ⟨by kernel_rfl, ?_⟩) (by assumption) ?_
    rotate_left
    · intro w hSw; have hcell := (fun (w' : World) (hS : Below wq.heap.size wq w') => (hS.cell (p := ⟨b3, 0, none⟩) hb3).trans q0) w hSw; clear hSw; go_simp; first | done | with_reducible rfl
    try simp only [List.getElem_toArray, List.getElem_cons_zero, List.getElem_cons_succ, Act.put, List.setIfInBounds_toArray, List.set_cons_zero, List.set_cons_succ]
    refine wpAnyH_take (i := 16) (oi := _) (v := ?_) rfl (by kernel_rfl) (by kernel_rfl) (by kernel_rfl) (fun _ _ _ h => h) (Or.inl ⟨by kernel_rfl, ?_⟩) (by assumption) ?_
    rotate_left
    · intro w hSw; (try dsimp only at hSw); go_simp; first | done | with_reducible rfl
    try simp only [List.getElem_toArray, List.getElem_cons_zero, List.getElem_cons_succ, Act.put, List.setIfInBounds_toArray, List.set_cons_zero, List.set_cons_succ]
    refine wpAnyH_take (i := 17) (oi := _) (v := ?_) rfl (by kernel_rfl) (by kernel_rfl) (by kernel_rfl) (fun _ _ _ h => h) (Or.inl ⟨by kernel_rfl, ?_⟩) (by assumption) ?_
    rotate_left
    · intro w hSw; (try dsimp only at hSw); go_simp; first | done | with_reducible rfl
    try simp only [List.getElem_toArray, List.getElem_cons_zero, List.getElem_cons_succ, Act.put, List.setIfInBounds_toArray, List.set_cons_zero, List.set_cons_succ]
    refine wpAnyH_take (i := 18) (oi := _) (v := .agg #[.int .i64 (c j), .int .i64 (d j)]) rfl (by kernel_rfl) (by kernel_rfl) (by kernel_rfl) (fun _ _ _ h => h) (yields_two (by kernel_rfl) _ _ rfl b1 (o1 + j * 2) rfl (.int .i64 (c j)) (.int .i64 (d j)) (fun w' hS => ⟨(Below.cell (p := ⟨b1, o1 + j * 2, none⟩) hS hl1').trans c0, (Below.cell (p := ⟨b1, o1 + j * 2 + 1, none⟩) hS hl1').trans c1⟩) _ Tryd.underlying107 rfl (by kernel_rfl)) (by assumption) ?_
    try simp only [List.getElem_toArray, List.getElem_cons_zero, List.getElem_cons_succ, Act.put, List.setIfInBounds_toArray, List.set_cons_zero, List.set_cons_succ]
    refine wpAnyH_ready (rs := [19]) (by kernel_rfl) (by simp) ?_
    refine AllReadyH.cons (o := _) rfl (fun K hK => ?_) AllReadyH.nil
    go_simp
    refine (HM.out _).mono ?_
    rintro e w4 ⟨hb4, rfl⟩
    replace B3 := nxt B3 hb4
    refine hK.out _ _ (hb.trans (hb4.mono hb.size)) (fun hHeld => ?_)
    clear hK K
    try simp only [List.getElem_toArray, List.getElem_cons_zero, List.getElem_cons_succ, Act.put, List.setIfInBounds_toArray, List.set_cons_zero, List.set_cons_succ]
    refine wpAnyH_take (i := 20) (oi := _) (v := ?_) rfl (by kernel_rfl) (by kernel_rfl) (by kernel_rfl) (fun _ _ _ h => h) (Or.inl ⟨by kernel_rfl, ?_⟩) (by assumption) ?_
    rotate_left
    · intro w hSw; (try dsimp only at hSw); go_simp; first | done | with_reducible rfl
    try simp only [List.getElem_toArray, List.getElem_cons_zero, List.getElem_cons_succ, Act.put, List.setIfInBounds_toArray, List.set_cons_zero, List.set_cons_succ]
    refine wpAnyH_take (i := 21) (oi := _) (v := ?_) rfl (by kernel_rfl) (by kernel_rfl) (by kernel_rfl) (fun _ _ _ h => h) (Or.inl ⟨by kernel_rfl, ?_⟩) (by assumption) ?_
    rotate_left
    · intro w hSw; (try dsimp only at hSw); go_simp; first | done | with_reducible rfl
    try simp only [List.getElem_toArray, List.getElem_cons_zero, List.getElem_cons_succ, Act.put, List.setIfInBounds_toArray, List.set_cons_zero, List.set_cons_succ]
    refine wpAnyH_done (by kernel_rfl) ?_ _
    go_wp2
    go_ret
    exact ⟨B3, rfl⟩
end Go.Proofs.YtfpoikeibjojgaaDoor
