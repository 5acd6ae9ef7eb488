/-
  Both sides of MayLay answer the same; the walk of the law. Conditions stand at each.
-/
import Derived.Test.YtgpnimbgckajlaaDoorRows
import Derived.Test.YtgpnimbgckajlaaDoorMay
import Derived.Test.YtgpnimbgckajlaaDoorRefused
import Derived.Test.YtgpnimbgckajlaaDoorDoorF
namespace Go.Proofs.YtgpnimbgckajlaaDoor.mayLay
open Go Go.ChangeShapes Go.WideShapes Go.ChangeAt Go.RowKit
set_option linter.unusedVariables false
set_option linter.unusedSimpArgs false
set_option maxRecDepth 100000
set_option maxHeartbeats 8000000
theorem _root_.Go.Proofs.YtgpnimbgckajlaaDoor.Bx.newAtR (w : World) (k : Nat) (cs : Array Value) (t : TypeId) (hk : k = w.heap.size) : Bx (w.alloc (.cells cs t)) k cs t := by subst hk; exact Bx.new w cs t
theorem may_any (b b' : Nat) (p q s t u x y : Int) (r : Bool) (w : World) (h : Bx w b (gangC p q s t u) 30) (h' : Bx w b' #[.int .i8 x, .int .i16 y] 32) (hr : r = true ↔ x ≤ p) :
    Calls Tryd.prog 47 #[.pointer (some ⟨b, 0, none⟩), .pointer (some ⟨b', 0, none⟩)] w (BPost r w) := by
  have c0 : w.cell? ⟨b, 0, none⟩ = some (.int .i8 p) := h.cell 0
  have d0 : w.cell? ⟨b', 0, none⟩ = some (.int .i8 x) := h'.cell 0
  by_cases hx : x ≤ p
  · obtain rfl : r = true := hr.2 hx
    have d1 : decide (x ≤ p) = true := by simpa using hx
    clear hr hx h h'
    go_enter Tryd.func47, Tryd.ntmps47
    go_wp2
    go_quiet (fail)
    go_wp2
    go_ret
    exact ⟨below_drewN' (Below.refl _ _) _, by first | rfl | (show Ending.returned (Value.bool (decide (x ≤ p))) = _; rw [d1])⟩
  · obtain rfl : r = false := Bool.eq_false_iff.2 fun hh => hx (hr.1 hh)
    have d1 : decide (x ≤ p) = false := by simpa using hx
    clear hr hx h h'
    go_enter Tryd.func47, Tryd.ntmps47
    go_wp2
    go_quiet (fail)
    go_wp2
    go_ret
    exact ⟨below_drewN' (Below.refl _ _) _, by first | rfl | (show Ending.returned (Value.bool (decide (x ≤ p))) = _; rw [d1])⟩
/-- what MayLay answers. -/
def MlPost (p q s t u x y : Int) (w : World) (e : Ending) (w' : World) : Prop :=
  Below w.heap.size w w' ∧ ((¬ (GangOk p q s t u ∧ ((0 ≤ x ∧ x ≤ 9) ∧ (1 ≤ y ∧ y ≤ 2000))) ∧ e = .returned (.tuple #[.bool false, .int .i64 1])) ∨
    ((GangOk p q s t u ∧ ((0 ≤ x ∧ x ≤ 9) ∧ (1 ≤ y ∧ y ≤ 2000))) ∧ ∃ r : Bool, (r = true ↔ x ≤ p) ∧ e = .returned (.tuple #[.bool r, .int .i64 0])))
/-- one row as a list. -/
theorem one_row {w : World} {b : Nat} {x y : Int} {t : TypeId} (h : Bx w b #[.int .i8 x, .int .i16 y] t) : RdS w w.heap.size (some ⟨b, 0, none⟩) 1 (fun _ => x) (fun _ => y) := fun _ =>
  ⟨b, 0, rfl, h.lt, fun j hj => by
    obtain rfl : j = 0 := by omega
    exact ⟨h.cell 0, h.cell 1⟩⟩
theorem one_gang {w : World} {b : Nat} {p q s t u : Int} {ty : TypeId} (h : Bx w b (gangC p q s t u) ty) : RdG w w.heap.size (some ⟨b, 0, none⟩) 1 ⟨fun _ => p, fun _ => q, fun _ => s, fun _ => t, fun _ => u⟩ := fun _ =>
  ⟨b, 0, rfl, h.lt, fun j hj => by
    obtain rfl : j = 0 := by omega
    exact ⟨h.cell 0, h.cell 1, h.cell 2, h.cell 3, h.cell 4⟩⟩
theorem rows_one {x y : Int} : RowsOk 1 (fun _ => x) (fun _ => y) ↔ (0 ≤ x ∧ x ≤ 9) ∧ (1 ≤ y ∧ y ≤ 2000) := ⟨fun h => h.2 0 (by decide), fun h => ⟨by decide, fun _ _ => h⟩⟩
theorem spec_any (p q s t u x y : Int) (w : World) (bp : -128 ≤ p ∧ p ≤ 127) (bq : -128 ≤ q ∧ q ≤ 127) (bs : -128 ≤ s ∧ s ≤ 127) (bt : -128 ≤ t ∧ t ≤ 127) (bu : -32768 ≤ u ∧ u ≤ 32767) (bx : -128 ≤ x ∧ x ≤ 127) (by' : -32768 ≤ y ∧ y ≤ 32767) :
    Calls Tryd.prog 12 #[.agg #[.int .i8 p, .int .i8 q, .int .i8 s, .int .i8 t, .int .i16 u], .agg #[.int .i8 x, .int .i16 y]] w (MlPost p q s t u x y w) := by
  obtain ⟨r0, e0⟩ := dec_ex (GangOk p q s t u)
  obtain ⟨r1, e1⟩ := dec_ex (RowsOk 1 (fun _ => x) (fun _ => y))
  obtain ⟨r2, e2⟩ := dec_ex (x ≤ p)
  have H0 := Lib.hid (fun b W (hb : Bx W b (gangC p q s t u) 30) => l07Gang_any b p q s t u 30 r0 W bp bq bs bt bu hb e0)
  have H1 := Lib.hid (fun W b (hb : Bx W b #[.int .i8 x, .int .i16 y] 32) => l07Rows_any (some ⟨b, 0, none⟩) 1 1 (fun _ => x) (fun _ => y) r1 W (by omega) (one_row hb) (fun _ => bx) (fun _ => by') e1)
  have H2 := Lib.hid (fun b b' W hb hb' => may_any b b' p q s t u x y r2 W hb hb' e2)
  have E0 := Lib.hid e0
  have E1 := Lib.hid e1
  have E2 := Lib.hid e2
  have X2 := (Bx.new w (gangC p q s t u) 30).alloc (.cells #[.int .i8 x, .int .i16 y] 32)
  have X3 : Bx ((w.alloc (.cells (gangC p q s t u) 30)).alloc (.cells #[.int .i8 x, .int .i16 y] 32)) (w.heap.size + 1) #[.int .i8 x, .int .i16 y] 32 := by
    have := Bx.new (w.alloc (.cells (gangC p q s t u) 30)) #[.int .i8 x, .int .i16 y] 32
    rwa [World.size_alloc] at this
  have B := al (al (Below.refl w.heap.size w) (.cells (gangC p q s t u) 30)) (.cells #[.int .i8 x, .int .i16 y] 32)
  clear e0 e1 e2
  go_enter Tryd.func12, Tryd.ntmps12
  go_wp2_with fail
  refine (H0.out _ _ X2).mono ?_
  rintro e w1 ⟨hb, rfl⟩
  replace X2 := X2.below hb
  replace X3 := X3.below hb
  replace B := nxt B hb
  obtain ⟨b2, h2⟩ : ∃ b2, b2 = w.heap.size := ⟨_, rfl⟩
  rw [← h2] at X2 X3 ⊢
  clear hb h2
  cases r0 with
  | false =>
    have N0 := Lib.hid (show ¬ (GangOk p q s t u ∧ ((0 ≤ x ∧ x ≤ 9) ∧ (1 ≤ y ∧ y ≤ 2000))) from fun h => by have := E0.out.2 h.1; cases this)
    go_wp2
    exact bodyPost_ret (results_tmp2 Tryd.results12 _ _ _) rfl ⟨B, .inl ⟨N0.out, rfl⟩⟩
  | true =>
    have P0 := Lib.hid (E0.out.1 rfl)
    have l3 : b2 + 1 < w1.heap.size := X3.lt
    have d0 : w1.cell? ⟨b2 + 1, 0, none⟩ = some (.int .i8 x) := X3.cell 0
    have d1 : w1.cell? ⟨b2 + 1, 1, none⟩ = some (.int .i16 y) := X3.cell 1
    have X4 := Bx.new w1 #[.int .i8 x, .int .i16 y] 32
    go_wp2_with fail
    refine (H1.out _ _ X4).mono ?_
    rintro e w2 ⟨hb, rfl⟩
    replace X2 := (X2.alloc (.cells #[.int .i8 x, .int .i16 y] 32)).below hb
    replace X3 := (X3.alloc (.cells #[.int .i8 x, .int .i16 y] 32)).below hb
    replace B := nxt (al B (.cells #[.int .i8 x, .int .i16 y] 32)) hb
    clear hb d0 d1 l3 X4
    cases r1 with
    | false =>
      have N0 := Lib.hid (show ¬ (GangOk p q s t u ∧ ((0 ≤ x ∧ x ≤ 9) ∧ (1 ≤ y ∧ y ≤ 2000))) from fun h => by have := E1.out.2 (rows_one.2 h.2); cases this)
      go_wp2
      exact bodyPost_ret (results_tmp2 Tryd.results12 _ _ _) rfl ⟨B, .inl ⟨N0.out, rfl⟩⟩
    | true =>
      have P1 := Lib.hid (rows_one.1 (E1.out.1 rfl))
      go_wp2_with fail
      refine (H2.out _ _ _ X2 X3).mono ?_
      rintro e w3 ⟨hb, rfl⟩
      replace B := nxt B hb
      clear hb X2 X3
      go_wp2
      exact bodyPost_ret (results_tmp2 Tryd.results12 _ _ _) rfl ⟨B, .inr ⟨⟨P0.out, P1.out⟩, r2, E2.out, rfl⟩⟩
theorem impl_any (p q s t u x y : Int) (w : World) (bp : -128 ≤ p ∧ p ≤ 127) (bq : -128 ≤ q ∧ q ≤ 127) (bs : -128 ≤ s ∧ s ≤ 127) (bt : -128 ≤ t ∧ t ≤ 127) (bu : -32768 ≤ u ∧ u ≤ 32767) (bx : -128 ≤ x ∧ x ≤ 127) (by' : -32768 ≤ y ∧ y ≤ 32767) :
    Calls Tryd.prog 15 #[.agg #[.int .i8 p, .int .i8 q, .int .i8 s, .int .i8 t, .int .i16 u], .agg #[.int .i8 x, .int .i16 y]] w (MlPost p q s t u x y w) := by
  obtain ⟨r2, e2⟩ := dec_ex (x ≤ p)
  have E2 := Lib.hid e2
  have HJ := Lib.hid (fun W b b' (hb : Bx W b #[.int .i8 x, .int .i16 y] 32) (hb' : Bx W b' (gangC p q s t u) 30) => jobFor_any (some ⟨b, 0, none⟩) 1 1 (fun _ => x) (fun _ => y) (some ⟨b', 0, none⟩) 1 1 ⟨fun _ => p, fun _ => q, fun _ => s, fun _ => t, fun _ => u⟩ W (by omega) (by omega) (one_row hb) (one_gang hb') (fun _ => bx) (fun _ => by') (fun _ => ⟨bp, bq, bs, bt, bu⟩))
  have hgo : Hid (AllG 1 ⟨fun _ => p, fun _ => q, fun _ => s, fun _ => t, fun _ => u⟩ ↔ GangOk p q s t u) := Lib.hid ⟨fun h => h 0 (by decide), fun h _ _ => h⟩
  have X4 : Bx (((w.alloc (.cells (gangC p q s t u) 30)).alloc (.cells #[.int .i8 x, .int .i16 y] 32)).alloc (.cells #[.int .i8 x, .int .i16 y] 32)) (w.heap.size + 1 + 1) #[.int .i8 x, .int .i16 y] 32 := by
    have := Bx.new ((w.alloc (.cells (gangC p q s t u) 30)).alloc (.cells #[.int .i8 x, .int .i16 y] 32)) #[.int .i8 x, .int .i16 y] 32
    rwa [World.size_alloc, World.size_alloc] at this
  replace X4 := X4.alloc (.cells (gangC p q s t u) 30)
  have X5 : Bx ((((w.alloc (.cells (gangC p q s t u) 30)).alloc (.cells #[.int .i8 x, .int .i16 y] 32)).alloc (.cells #[.int .i8 x, .int .i16 y] 32)).alloc (.cells (gangC p q s t u) 30)) (w.heap.size + 1 + 1 + 1) (gangC p q s t u) 30 := by
    have := Bx.new (((w.alloc (.cells (gangC p q s t u) 30)).alloc (.cells #[.int .i8 x, .int .i16 y] 32)).alloc (.cells #[.int .i8 x, .int .i16 y] 32)) (gangC p q s t u) 30
    rwa [World.size_alloc, World.size_alloc, World.size_alloc] at this
  have B := al (al (al (al (Below.refl w.heap.size w) (.cells (gangC p q s t u) 30)) (.cells #[.int .i8 x, .int .i16 y] 32)) (.cells #[.int .i8 x, .int .i16 y] 32)) (.cells (gangC p q s t u) 30)
  clear e2
  go_enter Tryd.func15, Tryd.ntmps15
  go_wp2_with fail
  refine (HJ.out _ _ _ X4 X5).mono ?_
  rintro e w1 ⟨hb, h⟩
  have hsz := B.size
  replace B := nxt B hb
  clear hb X4 X5
  rcases h with ⟨r, z, hr0, hcode, hz, rfl⟩ | ⟨hok, v1, v2, rfl, O1, O2⟩
  · have hr1 : r = 1 ∧ ¬ (GangOk p q s t u ∧ ((0 ≤ x ∧ x ≤ 9) ∧ (1 ≤ y ∧ y ≤ 2000))) := by
      rcases hcode with ⟨h, h1⟩ | ⟨h, h1, h2⟩ | ⟨h, h1, h2, h3⟩ | ⟨h, h1, h2, h3⟩
      · exact ⟨h1, fun hh => h ⟨rows_one.2 hh.2, hgo.out.2 hh.1⟩⟩
      · omega
      · have := (rows_one.1 h.1).2
        simp only [sumN] at h2
        omega
      · exact absurd h3 hr0
    obtain ⟨rfl, hno⟩ := hr1
    have N0 := Lib.hid hno
    have HC := Lib.hid (fun W => refused_any hz W)
    have hne : z ≠ .nilIface := by rcases hz with ⟨s, rfl, -⟩ | ⟨k, rfl, -⟩ | ⟨k, rfl, -⟩ | ⟨k, rfl, -⟩ <;> (intro h; cases h)
    obtain ⟨tz, vz, rfl⟩ : ∃ tz vz, z = .iface tz vz := by rcases hz with ⟨s, rfl, -⟩ | ⟨k, rfl, -⟩ | ⟨k, rfl, -⟩ | ⟨k, rfl, -⟩ <;> exact ⟨_, _, rfl⟩
    clear hno hcode hr0 hz hne
    replace B := al B (.cells #[.slice none 0 0, .slice none 0 0] 76)
    go_wp2_with fail
    refine (HC.out _).mono ?_
    rintro e w2 ⟨hb, rfl⟩
    replace B := nxt B hb
    clear hb
    go_wp2
    exact bodyPost_ret (results_tmp2 Tryd.results15 _ _ _) rfl ⟨B, .inl ⟨N0.out, rfl⟩⟩
  · have P0 := Lib.hid (hgo.out.1 hok.1.2)
    have P1 := Lib.hid (rows_one.1 hok.1.1)
    obtain ⟨A1, cap1, hv1⟩ := own_shape O1
    obtain ⟨A2, cap2, hv2⟩ := own_shape O2
    subst hv1 hv2
    have hr1 := OwnD.rd (World.ownsRow.alloc O1 (.cells #[.slice A1 1 cap1, .slice A2 1 cap2] 76))
    have hr2 := OwnW.rd (World.ownsRow.alloc O2 (.cells #[.slice A1 1 cap1, .slice A2 1 cap2] 76))
    have HM := Lib.hid (mayLay_any A1 1 cap1 (fun _ => x) (fun _ => y) A2 1 cap2 ⟨fun _ => p, fun _ => q, fun _ => s, fun _ => t, fun _ => u⟩ 0 0 r2 _ (by omega) (by omega) (by omega) hr1 hr2 (by rw [E2.out]; exact ⟨fun h => ⟨⟨by omega, by omega⟩, h⟩, fun h => h.2⟩))
    replace B := al B (.cells #[.slice A1 1 cap1, .slice A2 1 cap2] 76)
    clear hr1 hr2 O1 O2 hok
    go_wp2_with fail
    refine HM.out.mono ?_
    rintro e w2 ⟨hb, rfl⟩
    replace B := nxt B hb
    clear hb
    go_wp2
    exact bodyPost_ret (results_tmp2 Tryd.results15 _ _ _) rfl ⟨B, .inr ⟨⟨P0.out, P1.out⟩, r2, E2.out, rfl⟩⟩
theorem both (p q s t u x y : Int) (bp : -128 ≤ p ∧ p ≤ 127) (bq : -128 ≤ q ∧ q ≤ 127) (bs : -128 ≤ s ∧ s ≤ 127) (bt : -128 ≤ t ∧ t ≤ 127) (bu : -32768 ≤ u ∧ u ≤ 32767) (bx : -128 ≤ x ∧ x ≤ 127) (by' : -32768 ≤ y ∧ y ≤ 32767) :
    ∃ (r : Bool) (c : Int), (∀ w, Calls Tryd.prog 12 #[.agg #[.int .i8 p, .int .i8 q, .int .i8 s, .int .i8 t, .int .i16 u], .agg #[.int .i8 x, .int .i16 y]] w fun e w' => Below w.heap.size w w' ∧ e = .returned (.tuple #[.bool r, .int .i64 c])) ∧
      (∀ w, Calls Tryd.prog 15 #[.agg #[.int .i8 p, .int .i8 q, .int .i8 s, .int .i8 t, .int .i16 u], .agg #[.int .i8 x, .int .i16 y]] w fun e w' => Below w.heap.size w w' ∧ e = .returned (.tuple #[.bool r, .int .i64 c])) := by
  by_cases hok : GangOk p q s t u ∧ ((0 ≤ x ∧ x ≤ 9) ∧ (1 ≤ y ∧ y ≤ 2000))
  · obtain ⟨r, hr⟩ := dec_ex (x ≤ p)
    have key : ∀ w e w', MlPost p q s t u x y w e w' → Below w.heap.size w w' ∧ e = .returned (.tuple #[.bool r, .int .i64 0]) := by
      rintro w e w' ⟨hb, ⟨hn, -⟩ | ⟨-, r', hr', rfl⟩⟩
      · exact absurd hok hn
      · obtain rfl : r' = r := Bool.eq_iff_iff.2 (hr'.trans hr.symm)
        exact ⟨hb, rfl⟩
    exact ⟨r, 0, fun w => (spec_any p q s t u x y w bp bq bs bt bu bx by').mono (key w), fun w => (impl_any p q s t u x y w bp bq bs bt bu bx by').mono (key w)⟩
  · have key : ∀ w e w', MlPost p q s t u x y w e w' → Below w.heap.size w w' ∧ e = .returned (.tuple #[.bool false, .int .i64 1]) := by
      rintro w e w' ⟨hb, ⟨-, rfl⟩ | ⟨h, -⟩⟩
      · exact ⟨hb, rfl⟩
      · exact absurd h hok
    exact ⟨false, 1, fun w => (spec_any p q s t u x y w bp bq bs bt bu bx by').mono (key w), fun w => (impl_any p q s t u x y w bp bq bs bt bu bx by').mono (key w)⟩
theorem walk (p q s t u x y : Int) (w : World) (bp : -128 ≤ p ∧ p ≤ 127) (bq : -128 ≤ q ∧ q ≤ 127) (bs : -128 ≤ s ∧ s ≤ 127) (bt : -128 ≤ t ∧ t ≤ 127) (bu : -32768 ≤ u ∧ u ≤ 32767) (bx : -128 ≤ x ∧ x ≤ 127) (by' : -32768 ≤ y ∧ y ≤ 32767) (hE : ErrT w) :
    Calls Tryd.prog 3 #[.agg #[.int .i8 p, .int .i8 q, .int .i8 s, .int .i8 t, .int .i16 u], .agg #[.int .i8 x, .int .i16 y]] w fun e w' => e = .returned (.bool true) ∧ Below w.heap.size w w' := by
  obtain ⟨r, c, hS, hI⟩ := both p q s t u x y bp bq bs bt bu bx by'
  have HS := Lib.hid hS
  have HI := Lib.hid hI
  have HG := Lib.hid (fun W => toGang_any p q s t u W)
  have HR := Lib.hid (fun W => toRow_any x y W)
  have hrr : (r != r) = false := by simp
  have hcc : (c != c) = false := by simp
  have X2 := (Bx.new w (gangC p q s t u) 25).alloc (.cells #[.int .i8 x, .int .i16 y] 27)
  have X3 := Bx.newAtR (w.alloc (.cells (gangC p q s t u) 25)) (w.heap.size + 1) #[.int .i8 x, .int .i16 y] 27 (by simp)
  have B := al (al (Below.refl w.heap.size w) (.cells (gangC p q s t u) 25)) (.cells #[.int .i8 x, .int .i16 y] 27)
  clear hS hI
  go_enter Tryd.func3, Tryd.ntmps3
  go_wp2
  obtain ⟨W0, hW0⟩ : ∃ W0 : World, W0 = (w.alloc (.cells (gangC p q s t u) 25)).alloc (.cells #[.int .i8 x, .int .i16 y] 27) := ⟨_, rfl⟩
  simp only [gangC] at hW0
  rw [← hW0]
  have hW1 : (w.alloc (.cells (gangC p q s t u) 25)).alloc (.cells #[.int .i8 x, .int .i16 y] 27) = W0 := hW0.symm
  rw [hW1] at X2 X3 B
  clear hW0 hW1
  obtain ⟨b2, h2⟩ : ∃ b2, b2 = w.heap.size := ⟨_, rfl⟩
  rw [← h2] at X2 X3 ⊢
  clear h2
  refine wp_region_held_drew (S := (fun w' : World => Bx w' b2 (gangC p q s t u) 25 ∧ Bx w' (b2 + 1) #[.int .i8 x, .int .i16 y] 27)) (by kernel_rfl) ⟨X2, X3⟩ (fun hHeld => ?_)
  replace B := B.drew
  replace X2 : Bx W0.drew b2 (gangC p q s t u) 25 := X2
  replace X3 : Bx W0.drew (b2 + 1) #[.int .i8 x, .int .i16 y] 27 := X3
  obtain ⟨wq, hwq⟩ : ∃ wq, W0.drew = wq := ⟨_, rfl⟩
  rw [hwq] at B X2 X3 hHeld ⊢
  clear hwq
  refine wpAnyH_take (i := 0) (oi := _) (v := .agg (gangC p q s t u)) rfl (by kernel_rfl) (by kernel_rfl) (by kernel_rfl) (fun _ _ _ h => h) (yields_box (by kernel_rfl) _ _ rfl b2 rfl (gangC p q s t u) 25 (fun _ hS => hS.1) _ Tryd.underlying25 rfl (by kernel_rfl)) (by assumption) ?_
  try simp only [List.getElem_toArray, List.getElem_cons_zero, List.getElem_cons_succ, Act.put, List.setIfInBounds_toArray, List.set_cons_zero, List.set_cons_succ]
  refine wpAnyH_take (i := 2) (oi := _) (v := .agg #[.int .i8 x, .int .i16 y]) rfl (by kernel_rfl) (by kernel_rfl) (by kernel_rfl) (fun _ _ _ h => h) (yields_box (by kernel_rfl) _ _ rfl (b2 + 1) rfl #[.int .i8 x, .int .i16 y] 27 (fun _ hS => hS.2) _ Tryd.underlying27 rfl (by kernel_rfl)) (by assumption) ?_
  try simp only [List.getElem_toArray, List.getElem_cons_zero, List.getElem_cons_succ, Act.put, List.setIfInBounds_toArray, List.set_cons_zero, List.set_cons_succ]
  refine wpAnyH_ready (rs := [1]) (by kernel_rfl) (by simp) ?_
  refine AllReadyH.cons (o := _) rfl (fun K hK => ?_) AllReadyH.nil
  go_simp
  refine (HG.out _).mono ?_
  rintro e w3 ⟨rfl, hb⟩
  replace X2 := X2.below hb
  replace X3 := X3.below hb
  replace B := nxt B hb
  clear hb
  refine hK.out _ _ ⟨X2, X3⟩ (fun hHeld => ?_)
  clear hK K
  try simp only [List.getElem_toArray, List.getElem_cons_zero, List.getElem_cons_succ, Act.put, List.setIfInBounds_toArray, List.set_cons_zero, List.set_cons_succ]
  refine wpAnyH_ready (rs := [3]) (by kernel_rfl) (by simp) ?_
  refine AllReadyH.cons (o := _) rfl (fun K hK => ?_) AllReadyH.nil
  go_simp
  refine (HR.out _).mono ?_
  rintro e w4 ⟨rfl, hb⟩
  replace X2 := X2.below hb
  replace X3 := X3.below hb
  replace B := nxt B hb
  clear hb
  refine hK.out _ _ ⟨X2, X3⟩ (fun hHeld => ?_)
  clear hK K
  try simp only [List.getElem_toArray, List.getElem_cons_zero, List.getElem_cons_succ, Act.put, List.setIfInBounds_toArray, List.set_cons_zero, List.set_cons_succ]
  refine wpAnyH_ready (rs := [4]) (by kernel_rfl) (by simp) ?_
  refine AllReadyH.cons (o := _) rfl (fun K hK => ?_) AllReadyH.nil
  go_simp
  refine (HS.out _).mono ?_
  rintro e w5 ⟨hb, rfl⟩
  replace X2 := X2.below hb
  replace X3 := X3.below hb
  replace B := nxt B hb
  clear hb
  refine hK.out _ _ ⟨X2, X3⟩ (fun hHeld => ?_)
  clear hK K
  try simp only [List.getElem_toArray, List.getElem_cons_zero, List.getElem_cons_succ, Act.put, List.setIfInBounds_toArray, List.set_cons_zero, List.set_cons_succ]
  refine wpAnyH_take (i := 5) (oi := _) (v := ?_) rfl (by kernel_rfl) (by kernel_rfl) (by kernel_rfl) (fun _ _ _ h => h) (Or.inl ⟨by kernel_rfl, ?_⟩) (by assumption) ?_
  rotate_left
  · intro w hSw; (try dsimp only at hSw); go_simp; first | done | with_reducible rfl
  try simp only [List.getElem_toArray, List.getElem_cons_zero, List.getElem_cons_succ, Act.put, List.setIfInBounds_toArray, List.set_cons_zero, List.set_cons_succ]
  refine wpAnyH_take (i := 6) (oi := _) (v := ?_) rfl (by kernel_rfl) (by kernel_rfl) (by kernel_rfl) (fun _ _ _ h => h) (Or.inl ⟨by kernel_rfl, ?_⟩) (by assumption) ?_
  rotate_left
  · intro w hSw; (try dsimp only at hSw); go_simp; first | done | with_reducible rfl
  try simp only [List.getElem_toArray, List.getElem_cons_zero, List.getElem_cons_succ, Act.put, List.setIfInBounds_toArray, List.set_cons_zero, List.set_cons_succ]
  refine wpAnyH_take (i := 7) (oi := _) (v := ?_) rfl (by kernel_rfl) (by kernel_rfl) (by kernel_rfl) (fun _ _ _ h => h) (Or.inl ⟨by kernel_rfl, ?_⟩) (by assumption) ?_
  rotate_left
  · intro w hSw; (try dsimp only at hSw); go_simp; first | done | with_reducible rfl
  try simp only [List.getElem_toArray, List.getElem_cons_zero, List.getElem_cons_succ, Act.put, List.setIfInBounds_toArray, List.set_cons_zero, List.set_cons_succ]
  refine wpAnyH_take (i := 8) (oi := _) (v := ?_) rfl (by kernel_rfl) (by kernel_rfl) (by kernel_rfl) (fun _ _ _ h => h) (Or.inl ⟨by kernel_rfl, ?_⟩) (by assumption) ?_
  rotate_left
  · intro w hSw; (try dsimp only at hSw); go_simp; first | done | with_reducible rfl
  try simp only [List.getElem_toArray, List.getElem_cons_zero, List.getElem_cons_succ, Act.put, List.setIfInBounds_toArray, List.set_cons_zero, List.set_cons_succ]
  refine wpAnyH_take (i := 9) (oi := _) (v := ?_) rfl (by kernel_rfl) (by kernel_rfl) (by kernel_rfl) (fun _ _ _ h => h) (Or.inl ⟨by kernel_rfl, ?_⟩) (by assumption) ?_
  rotate_left
  · intro w hSw; (try dsimp only at hSw); go_simp; first | done | with_reducible rfl
  try simp only [List.getElem_toArray, List.getElem_cons_zero, List.getElem_cons_succ, Act.put, List.setIfInBounds_toArray, List.set_cons_zero, List.set_cons_succ]
  refine wpAnyH_done (by kernel_rfl) ?_ _
  go_wp2
  refine wp_region_held_drew (S := (fun w' : World => Bx w' b2 (gangC p q s t u) 25 ∧ Bx w' (b2 + 1) #[.int .i8 x, .int .i16 y] 27)) (by kernel_rfl) ⟨X2, X3⟩ (fun hHeld => ?_)
  replace B := B.drew
  replace X2 : Bx w5.drew b2 (gangC p q s t u) 25 := X2
  replace X3 : Bx w5.drew (b2 + 1) #[.int .i8 x, .int .i16 y] 27 := X3
  obtain ⟨wq, hwq⟩ : ∃ wq, w5.drew = wq := ⟨_, rfl⟩
  rw [hwq] at B X2 X3 hHeld ⊢
  clear hwq
  refine wpAnyH_take (i := 0) (oi := _) (v := .agg (gangC p q s t u)) rfl (by kernel_rfl) (by kernel_rfl) (by kernel_rfl) (fun _ _ _ h => h) (yields_box (by kernel_rfl) _ _ rfl b2 rfl (gangC p q s t u) 25 (fun _ hS => hS.1) _ Tryd.underlying25 rfl (by kernel_rfl)) (by assumption) ?_
  try simp only [List.getElem_toArray, List.getElem_cons_zero, List.getElem_cons_succ, Act.put, List.setIfInBounds_toArray, List.set_cons_zero, List.set_cons_succ]
  refine wpAnyH_take (i := 2) (oi := _) (v := .agg #[.int .i8 x, .int .i16 y]) rfl (by kernel_rfl) (by kernel_rfl) (by kernel_rfl) (fun _ _ _ h => h) (yields_box (by kernel_rfl) _ _ rfl (b2 + 1) rfl #[.int .i8 x, .int .i16 y] 27 (fun _ hS => hS.2) _ Tryd.underlying27 rfl (by kernel_rfl)) (by assumption) ?_
  try simp only [List.getElem_toArray, List.getElem_cons_zero, List.getElem_cons_succ, Act.put, List.setIfInBounds_toArray, List.set_cons_zero, List.set_cons_succ]
  refine wpAnyH_ready (rs := [1]) (by kernel_rfl) (by simp) ?_
  refine AllReadyH.cons (o := _) rfl (fun K hK => ?_) AllReadyH.nil
  go_simp
  refine (HG.out _).mono ?_
  rintro e w6 ⟨rfl, hb⟩
  replace X2 := X2.below hb
  replace X3 := X3.below hb
  replace B := nxt B hb
  clear hb
  refine hK.out _ _ ⟨X2, X3⟩ (fun hHeld => ?_)
  clear hK K
  try simp only [List.getElem_toArray, List.getElem_cons_zero, List.getElem_cons_succ, Act.put, List.setIfInBounds_toArray, List.set_cons_zero, List.set_cons_succ]
  refine wpAnyH_ready (rs := [3]) (by kernel_rfl) (by simp) ?_
  refine AllReadyH.cons (o := _) rfl (fun K hK => ?_) AllReadyH.nil
  go_simp
  refine (HR.out _).mono ?_
  rintro e w7 ⟨rfl, hb⟩
  replace X2 := X2.below hb
  replace X3 := X3.below hb
  replace B := nxt B hb
  clear hb
  refine hK.out _ _ ⟨X2, X3⟩ (fun hHeld => ?_)
  clear hK K
  try simp only [List.getElem_toArray, List.getElem_cons_zero, List.getElem_cons_succ, Act.put, List.setIfInBounds_toArray, List.set_cons_zero, List.set_cons_succ]
  refine wpAnyH_ready (rs := [4]) (by kernel_rfl) (by simp) ?_
  refine AllReadyH.cons (o := _) rfl (fun K hK => ?_) AllReadyH.nil
  go_simp
  refine (HI.out _).mono ?_
  rintro e w8 ⟨hb, rfl⟩
  replace X2 := X2.below hb
  replace X3 := X3.below hb
  replace B := nxt B hb
  clear hb
  refine hK.out _ _ ⟨X2, X3⟩ (fun hHeld => ?_)
  clear hK K
  try simp only [List.getElem_toArray, List.getElem_cons_zero, List.getElem_cons_succ, Act.put, List.setIfInBounds_toArray, List.set_cons_zero, List.set_cons_succ]
  refine wpAnyH_take (i := 5) (oi := _) (v := ?_) rfl (by kernel_rfl) (by kernel_rfl) (by kernel_rfl) (fun _ _ _ h => h) (Or.inl ⟨by kernel_rfl, ?_⟩) (by assumption) ?_
  rotate_left
  · intro w hSw; (try dsimp only at hSw); go_simp; first | done | with_reducible rfl
  try simp only [List.getElem_toArray, List.getElem_cons_zero, List.getElem_cons_succ, Act.put, List.setIfInBounds_toArray, List.set_cons_zero, List.set_cons_succ]
  refine wpAnyH_take (i := 6) (oi := _) (v := ?_) rfl (by kernel_rfl) (by kernel_rfl) (by kernel_rfl) (fun _ _ _ h => h) (Or.inl ⟨by kernel_rfl, ?_⟩) (by assumption) ?_
  rotate_left
  · intro w hSw; (try dsimp only at hSw); go_simp; first | done | with_reducible rfl
  try simp only [List.getElem_toArray, List.getElem_cons_zero, List.getElem_cons_succ, Act.put, List.setIfInBounds_toArray, List.set_cons_zero, List.set_cons_succ]
  refine wpAnyH_take (i := 7) (oi := _) (v := ?_) rfl (by kernel_rfl) (by kernel_rfl) (by kernel_rfl) (fun _ _ _ h => h) (Or.inl ⟨by kernel_rfl, ?_⟩) (by assumption) ?_
  rotate_left
  · intro w hSw; (try dsimp only at hSw); go_simp; first | done | with_reducible rfl
  try simp only [List.getElem_toArray, List.getElem_cons_zero, List.getElem_cons_succ, Act.put, List.setIfInBounds_toArray, List.set_cons_zero, List.set_cons_succ]
  refine wpAnyH_take (i := 8) (oi := _) (v := ?_) rfl (by kernel_rfl) (by kernel_rfl) (by kernel_rfl) (fun _ _ _ h => h) (Or.inl ⟨by kernel_rfl, ?_⟩) (by assumption) ?_
  rotate_left
  · intro w hSw; (try dsimp only at hSw); go_simp; first | done | with_reducible rfl
  try simp only [List.getElem_toArray, List.getElem_cons_zero, List.getElem_cons_succ, Act.put, List.setIfInBounds_toArray, List.set_cons_zero, List.set_cons_succ]
  refine wpAnyH_take (i := 9) (oi := _) (v := ?_) rfl (by kernel_rfl) (by kernel_rfl) (by kernel_rfl) (fun _ _ _ h => h) (Or.inl ⟨by kernel_rfl, ?_⟩) (by assumption) ?_
  rotate_left
  · intro w hSw; (try dsimp only at hSw); go_simp; first | done | with_reducible rfl
  try simp only [List.getElem_toArray, List.getElem_cons_zero, List.getElem_cons_succ, Act.put, List.setIfInBounds_toArray, List.set_cons_zero, List.set_cons_succ]
  refine wpAnyH_done (by kernel_rfl) ?_ _
  go_wp2
  go_ret
  exact ⟨rfl, B⟩
end Go.Proofs.YtgpnimbgckajlaaDoor.mayLay
