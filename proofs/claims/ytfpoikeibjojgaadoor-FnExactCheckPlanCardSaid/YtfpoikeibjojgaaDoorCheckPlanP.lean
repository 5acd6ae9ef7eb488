/-
  CheckPlan on both sides. Conditions stand at each.
-/
import Derived.Test.YtfpoikeibjojgaaDoorRows
import Derived.Test.YtfpoikeibjojgaaDoorPlanP
import Derived.Test.YtfpoikeibjojgaaDoorAsN
namespace Go.Proofs.YtfpoikeibjojgaaDoor
open Go Go.ChangeShapes Go.WideShapes Go.ChangeAt Go.RowKit
set_option linter.unusedVariables false
set_option linter.unusedSimpArgs false
set_option maxRecDepth 100000
set_option maxHeartbeats 8000000
theorem ErrT.below {w w' : World} (h : ErrT w) (hb : Below w.heap.size w w') : ErrT w' := by
  unfold ErrT at h ⊢
  have h00 : 0 < w.heap.size := by
    rcases Nat.lt_or_ge 0 w.heap.size with h' | h'
    · exact h'
    · simp [World.cell?, Array.getElem?_eq_none h'] at h
  exact (hb.cell (p := ⟨0, 0, none⟩) h00).trans h
/-- what CheckPlan answers. -/
def CkPost (n : Nat) (c d : Nat → Int) (m : Nat) (g : Gs) (k : Nat) (pl : Nat → Int) (w : World) (e : Ending) (w' : World) : Prop :=
  Below w.heap.size w w' ∧ ((∃ r : Int, r ≠ 0 ∧ JobCode n c d m g r ∧ e = .returned (.tuple #[.bool false, .int .i64 r])) ∨
    (JobOk n c d m g ∧ ∃ z : Bool, (z = true ↔ RightP n c m g k pl) ∧ e = .returned (.tuple #[.bool z, .int .i64 0])))
theorem specCheckPlan_any (A : Option Addr) (n cap : Nat) (c d : Nat → Int) (A' : Option Addr) (m cap' : Nat) (g : Gs) (P : Option Addr) (k cap'' : Nat) (pl : Nat → Int) (w : World) (hn : n ≤ 1048576) (hm : m ≤ 1048576) (hk : k ≤ 1048576)
    (hr : RdS w w.heap.size A n c d) (hg : RdG w w.heap.size A' m g) (hp : RdK .i64 w w.heap.size P k pl) (hc : ∀ j, -128 ≤ c j ∧ c j ≤ 127) (hd : ∀ j, -32768 ≤ d j ∧ d j ≤ 32767) (hgb : g.bd) :
    Calls Tryd.prog 18 #[.slice A n cap, .slice A' m cap', .slice P k cap''] w (CkPost n c d m g k pl w) := by
  obtain ⟨r1, e1⟩ := dec_ex (RightP n c m g k pl)
  have HA := Lib.hid (l07Asked_any A n cap c d A' m cap' g w hn hm hr hg hc hd hgb)
  have HB := Lib.hid (fun W (hB : Below w.heap.size w W) (h : JobOk n c d m g) => l07Right_any A n cap c d A' m cap' g P k cap'' pl r1 W h.1.1.1 h.2.1 hk ((hr.below hB).mono hB.size) ((hg.below hB).mono hB.size) ((hp.below hB).mono hB.size) e1)
  have E1 := Lib.hid e1
  clear hr hg hp hc hd hgb e1
  go_enter Tryd.func18, Tryd.ntmps18
  go_wp2_with fail
  refine HA.out.mono ?_
  rintro e w1 ⟨hb, r, hcode, rfl⟩
  have HC := Lib.hid hcode
  clear hcode HA
  by_cases h0 : r = 0
  · subst h0
    have HO := Lib.hid (JobCode.ok HC.out)
    go_wp2_with fail
    refine (HB.out _ hb HO.out).mono ?_
    rintro e w2 ⟨hb2, rfl⟩
    replace hb := nxt hb hb2
    clear hb2 HB
    go_wp2
    exact bodyPost_ret (results_tmp2 Tryd.results18 _ _ _) rfl ⟨hb, .inr ⟨HO.out, r1, E1.out, rfl⟩⟩
  · have h1 : (r == 0) = false := by simpa using h0
    have h2 : (r != 0) = true := by simpa using h0
    have H0 := Lib.hid h0
    clear h0
    go_wp2
    exact bodyPost_ret (results_tmp2 Tryd.results18 _ _ _) rfl ⟨hb, .inl ⟨r, H0.out, HC.out, rfl⟩⟩
theorem implCheckPlan_any (A : Option Addr) (n cap : Nat) (c d : Nat → Int) (A' : Option Addr) (m cap' : Nat) (g : Gs) (P : Option Addr) (k cap'' : Nat) (pl : Nat → Int) (w : World) (hn : n ≤ 1048576) (hm : m ≤ 1048576) (hk : k ≤ 1048576)
    (hr : RdS w w.heap.size A n c d) (hg : RdG w w.heap.size A' m g) (hp : RdK .i64 w w.heap.size P k pl) (hc : ∀ j, -128 ≤ c j ∧ c j ≤ 127) (hd : ∀ j, -32768 ≤ d j ∧ d j ≤ 32767) (hgb : g.bd) (hE : ErrT w) :
    Calls Tryd.prog 22 #[.slice A n cap, .slice A' m cap', .slice P k cap''] w (CkPost n c d m g k pl w) := by
  have HA := Lib.hid (runsFor_any A n cap c d A' m cap' g P k cap'' pl w hn hm hk hr hg hp hc hd hgb)
  have HE := Lib.hid hE
  clear hr hg hp hc hd hgb hE
  go_enter Tryd.func22, Tryd.ntmps22
  go_wp2_with fail
  refine HA.out.mono ?_
  rintro e w1 ⟨hb, h⟩
  clear HA
  have hbs : w.heap.size ≤ w1.heap.size := hb.size
  have X10 := Bx.new w1 #[.int .i64 0] 90
  have HE1 := Lib.hid ((HE.out.below hb).below (al (Below.refl w1.heap.size w1) (.cells #[.int .i64 0] 90)))
  replace hb := al hb (.cells #[.int .i64 0] 90)
  have c10 := X10.cell 0
  have z10 := X10.frozen 0
  simp only [List.getElem?_toArray, List.getElem?_cons_zero] at c10
  rcases h with ⟨r, x, hr0, hcode, hx, rfl⟩ | ⟨hO, hno, x, rfl⟩ | ⟨hO, hP, v, sk, rfl, OR⟩
  · have HX := Lib.hid (fun W => refused_any hx W)
    have H0 := Lib.hid hr0
    have HC := Lib.hid hcode
    obtain ⟨tz, vz, rfl, hM⟩ : ∃ tz vz, x = .iface tz vz ∧ Calls Tryd.prog 54 #[.iface tz vz, .iface 92 (.pointer (some ⟨w1.heap.size, 0, none⟩))] (w1.alloc (.cells #[.int .i64 0] 90)) (BPost false (w1.alloc (.cells #[.int .i64 0] 90))) := by
      rcases hx with ⟨s, rfl, rfl⟩ | ⟨k, rfl, rfl⟩ | ⟨k, rfl, rfl⟩ | ⟨k, rfl, rfl⟩
      · exact ⟨_, _, rfl, (asN_miss_unfit _ _ _ HE1.out).mono fun e w' ⟨he, hw⟩ => ⟨by rw [hw]; exact al (al (al (Below.refl _ _) _) _) _, he⟩⟩
      · exact ⟨_, _, rfl, (asN_miss_crowd _ _ _ HE1.out).mono fun e w' ⟨he, hw⟩ => ⟨by rw [hw]; exact al (al (al (Below.refl _ _) _) _) _, he⟩⟩
      · exact ⟨_, _, rfl, (asN_miss_excess _ _ _ HE1.out).mono fun e w' ⟨he, hw⟩ => ⟨by rw [hw]; exact al (al (al (Below.refl _ _) _) _) _, he⟩⟩
      · rcases hcode with ⟨-, h⟩ | ⟨-, -, h⟩ | ⟨-, -, -, h⟩ | ⟨-, -, -, h⟩ <;> omega
    have HM := Lib.hid hM
    clear hx hr0 hcode hM X10 c10 z10 HE HE1
    go_wp2_with fail
    refine HM.out.mono ?_
    rintro e w2 ⟨hb2, rfl⟩
    replace hb := nxt hb hb2
    clear hb2 HM
    go_wp2
    refine wp_region_held_drew (S := (fun _ : World => True)) (by kernel_rfl) trivial (fun hHeld => ?_)
    replace hb := hb.drew
    obtain ⟨wq, hwq⟩ : ∃ wq, w2.drew = wq := ⟨_, rfl⟩
    rw [hwq] at hb ⊢
    clear hwq
    refine wpAnyH_take (i := 0) (oi := _) (v := ?_) rfl (by kernel_rfl) (by kernel_rfl) (by kernel_rfl) (fun _ _ _ h => h) (Or.inl ⟨by kernel_rfl, ?_⟩) (by assumption) ?_
    rotate_left
    · intro w hSw; (try dsimp only at hSw); go_simp; first | done | with_reducible rfl
    try simp only [List.getElem_toArray, List.getElem_cons_zero, List.getElem_cons_succ, Act.put, List.setIfInBounds_toArray, List.set_cons_zero, List.set_cons_succ]
    refine wpAnyH_take (i := 1) (oi := _) (v := ?_) rfl (by kernel_rfl) (by kernel_rfl) (by kernel_rfl) (fun _ _ _ h => h) (Or.inl ⟨by kernel_rfl, ?_⟩) (by assumption) ?_
    rotate_left
    · intro w hSw; (try dsimp only at hSw); go_simp; first | done | with_reducible rfl
    try simp only [List.getElem_toArray, List.getElem_cons_zero, List.getElem_cons_succ, Act.put, List.setIfInBounds_toArray, List.set_cons_zero, List.set_cons_succ]
    refine wpAnyH_take (i := 2) (oi := _) (v := ?_) rfl (by kernel_rfl) (by kernel_rfl) (by kernel_rfl) (fun _ _ _ h => h) (Or.inl ⟨by kernel_rfl, ?_⟩) (by assumption) ?_
    rotate_left
    · intro w hSw; (try dsimp only at hSw); go_simp; first | done | with_reducible rfl
    try simp only [List.getElem_toArray, List.getElem_cons_zero, List.getElem_cons_succ, Act.put, List.setIfInBounds_toArray, List.set_cons_zero, List.set_cons_succ]
    refine wpAnyH_ready (rs := [3]) (by kernel_rfl) (by simp) ?_
    refine AllReadyH.cons (o := _) rfl (fun K hK => ?_) AllReadyH.nil
    go_simp
    refine (HX.out _).mono ?_
    rintro e w3 ⟨hb2, rfl⟩
    replace hb := nxt hb hb2
    clear hb2
    refine hK.out _ _ trivial (fun hHeld => ?_)
    clear hK K
    try simp only [List.getElem_toArray, List.getElem_cons_zero, List.getElem_cons_succ, Act.put, List.setIfInBounds_toArray, List.set_cons_zero, List.set_cons_succ]
    refine wpAnyH_take (i := 4) (oi := _) (v := ?_) rfl (by kernel_rfl) (by kernel_rfl) (by kernel_rfl) (fun _ _ _ h => h) (Or.inl ⟨by kernel_rfl, ?_⟩) (by assumption) ?_
    rotate_left
    · intro w hSw; (try dsimp only at hSw); go_simp; first | done | with_reducible rfl
    try simp only [List.getElem_toArray, List.getElem_cons_zero, List.getElem_cons_succ, Act.put, List.setIfInBounds_toArray, List.set_cons_zero, List.set_cons_succ]
    refine wpAnyH_take (i := 5) (oi := _) (v := ?_) rfl (by kernel_rfl) (by kernel_rfl) (by kernel_rfl) (fun _ _ _ h => h) (Or.inl ⟨by kernel_rfl, ?_⟩) (by assumption) ?_
    rotate_left
    · intro w hSw; (try dsimp only at hSw); go_simp; first | done | with_reducible rfl
    try simp only [List.getElem_toArray, List.getElem_cons_zero, List.getElem_cons_succ, Act.put, List.setIfInBounds_toArray, List.set_cons_zero, List.set_cons_succ]
    refine wpAnyH_done (by kernel_rfl) ?_ _
    go_wp2
    exact bodyPost_ret (results_tmp2 Tryd.results22 _ _ _) rfl ⟨hb, .inl ⟨r, H0.out, HC.out, rfl⟩⟩
  · have HM := Lib.hid (asN_hit x ⟨w1.heap.size, 0, none⟩ _ _ c10 z10 HE1.out)
    have HO := Lib.hid hO
    have HN := Lib.hid hno
    clear hO hno X10 c10 z10 HE HE1
    obtain ⟨wz, hwz⟩ : ∃ wz, wz = w1.heap.size := ⟨_, rfl⟩
    go_wp2_with fail
    refine HM.out.mono ?_
    rintro e w2 ⟨rfl, hw2⟩
    have hb3 : Below w.heap.size w w2 := by
      rw [hw2]
      refine (al (al (al (al hb _) _) _) _).setCell ?_ _
      exact Nat.le_trans hbs (Nat.le_refl _)
    clear hw2 hb HM
    go_wp2
    exact bodyPost_ret (results_tmp2 Tryd.results22 _ _ _) rfl ⟨hb3, .inr ⟨HO.out, false, ⟨fun h => (by cases h), fun h => absurd h HN.out⟩, rfl⟩⟩
  · have HM := Lib.hid (fun t W => as_nil t W)
    have HX := Lib.hid (fun W => refused_nil W)
    have HO := Lib.hid hO
    have HY := Lib.hid hP
    clear hO hP X10 c10 z10 HE HE1 OR
    go_wp2_with fail
    refine (HM.out _ _).mono ?_
    rintro e w2 ⟨rfl, hw2⟩
    obtain ⟨W2, hW2⟩ : ∃ W2 : World, W2 = w1.alloc (.cells #[.int .i64 0] 90) := ⟨_, rfl⟩
    rw [← hW2] at hb hw2
    subst hw2
    clear hW2
    go_wp2
    refine wp_region_held_drew (S := (fun _ : World => True)) (by kernel_rfl) trivial (fun hHeld => ?_)
    replace hb := hb.drew
    obtain ⟨wq, hwq⟩ : ∃ wq, w2.drew = wq := ⟨_, rfl⟩
    rw [hwq] at hb ⊢
    clear hwq
    refine wpAnyH_take (i := 0) (oi := _) (v := ?_) rfl (by kernel_rfl) (by kernel_rfl) (by kernel_rfl) (fun _ _ _ h => h) (Or.inl ⟨by kernel_rfl, ?_⟩) (by assumption) ?_
    rotate_left
    · intro w hSw; (try dsimp only at hSw); go_simp; first | done | with_reducible rfl
    try simp only [List.getElem_toArray, List.getElem_cons_zero, List.getElem_cons_succ, Act.put, List.setIfInBounds_toArray, List.set_cons_zero, List.set_cons_succ]
    refine wpAnyH_take (i := 1) (oi := _) (v := ?_) rfl (by kernel_rfl) (by kernel_rfl) (by kernel_rfl) (fun _ _ _ h => h) (Or.inl ⟨by kernel_rfl, ?_⟩) (by assumption) ?_
    rotate_left
    · intro w hSw; (try dsimp only at hSw); go_simp; first | done | with_reducible rfl
    try simp only [List.getElem_toArray, List.getElem_cons_zero, List.getElem_cons_succ, Act.put, List.setIfInBounds_toArray, List.set_cons_zero, List.set_cons_succ]
    refine wpAnyH_take (i := 2) (oi := _) (v := ?_) rfl (by kernel_rfl) (by kernel_rfl) (by kernel_rfl) (fun _ _ _ h => h) (Or.inl ⟨by kernel_rfl, ?_⟩) (by assumption) ?_
    rotate_left
    · intro w hSw; (try dsimp only at hSw); go_simp; first | done | with_reducible rfl
    try simp only [List.getElem_toArray, List.getElem_cons_zero, List.getElem_cons_succ, Act.put, List.setIfInBounds_toArray, List.set_cons_zero, List.set_cons_succ]
    refine wpAnyH_ready (rs := [3]) (by kernel_rfl) (by simp) ?_
    refine AllReadyH.cons (o := _) rfl (fun K hK => ?_) AllReadyH.nil
    go_simp
    refine (HX.out _).mono ?_
    rintro e w3 ⟨hb2, rfl⟩
    replace hb := nxt hb hb2
    clear hb2
    refine hK.out _ _ trivial (fun hHeld => ?_)
    clear hK K
    try simp only [List.getElem_toArray, List.getElem_cons_zero, List.getElem_cons_succ, Act.put, List.setIfInBounds_toArray, List.set_cons_zero, List.set_cons_succ]
    refine wpAnyH_take (i := 4) (oi := _) (v := ?_) rfl (by kernel_rfl) (by kernel_rfl) (by kernel_rfl) (fun _ _ _ h => h) (Or.inl ⟨by kernel_rfl, ?_⟩) (by assumption) ?_
    rotate_left
    · intro w hSw; (try dsimp only at hSw); go_simp; first | done | with_reducible rfl
    try simp only [List.getElem_toArray, List.getElem_cons_zero, List.getElem_cons_succ, Act.put, List.setIfInBounds_toArray, List.set_cons_zero, List.set_cons_succ]
    refine wpAnyH_take (i := 5) (oi := _) (v := ?_) rfl (by kernel_rfl) (by kernel_rfl) (by kernel_rfl) (fun _ _ _ h => h) (Or.inl ⟨by kernel_rfl, ?_⟩) (by assumption) ?_
    rotate_left
    · intro w hSw; (try dsimp only at hSw); go_simp; first | done | with_reducible rfl
    try simp only [List.getElem_toArray, List.getElem_cons_zero, List.getElem_cons_succ, Act.put, List.setIfInBounds_toArray, List.set_cons_zero, List.set_cons_succ]
    refine wpAnyH_done (by kernel_rfl) ?_ _
    go_wp2
    exact bodyPost_ret (results_tmp2 Tryd.results22 _ _ _) rfl ⟨hb, .inr ⟨HO.out, true, ⟨fun _ => HY.out, fun _ => rfl⟩, rfl⟩⟩
end Go.Proofs.YtfpoikeibjojgaaDoor
