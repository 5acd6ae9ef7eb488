/-
  Both sides of CanPut answer the same. Conditions stand at each.
-/
import Derived.Test.YtkdakpbkpfigeaaRows
import Derived.Test.YtkdakpbkpfigeaaTold
import Derived.Test.YtkdakpbkpfigeaaC2
namespace Go.Proofs.Ytkdakpbkpfigeaa.canPut
open Go Go.ChangeShapes Go.WideShapes Go.ChangeAt Go.RowKit
set_option linter.unusedVariables false
set_option linter.unusedSimpArgs false
set_option maxRecDepth 100000
set_option maxHeartbeats 2000000

/-- the numbers of the slabs with one slab more. -/
def ext (c : Nat → Int) (n : Nat) (x y z u : Int) (j : Nat) : Int :=
  if j = 4 * n then x else if j = 4 * n + 1 then y else if j = 4 * n + 2 then z else if j = 4 * n + 3 then u else c j
section
variable (c : Nat → Int) (n : Nat) (x y z u : Int)
theorem ext0 : ext c n x y z u (4 * n) = x := if_pos rfl
theorem ext1 : ext c n x y z u (4 * n + 1) = y := by unfold ext; rw [if_neg (by omega), if_pos rfl]
theorem ext2 : ext c n x y z u (4 * n + 2) = z := by unfold ext; rw [if_neg (by omega), if_neg (by omega), if_pos rfl]
theorem ext3 : ext c n x y z u (4 * n + 3) = u := by unfold ext; rw [if_neg (by omega), if_neg (by omega), if_neg (by omega), if_pos rfl]
theorem ext_old {j : Nat} (h : j < 4 * n) : ext c n x y z u j = c j := by unfold ext; rw [if_neg (by omega), if_neg (by omega), if_neg (by omega), if_neg (by omega)]
end
theorem gridN_congr {c d : Nat → Int} {n : Nat} (h : ∀ j, j < 4 * n → c j = d j) (p : Nat) : gridN c n p = gridN d n p := by
  induction n with
  | zero => rfl
  | succ k ih =>
    have e : cov c k p = cov d k p := by
      unfold cov
      rw [h (4 * k) (by omega), h (4 * k + 1) (by omega), h (4 * k + 2) (by omega), h (4 * k + 3) (by omega)]
    have e2 := ih (fun j hj => h j (by omega))
    show (if cov c k p then (k : Int) + 1 else gridN c k p) = (if cov d k p then (k : Int) + 1 else gridN d k p)
    simp only [e, e2]
theorem gridN_ext (c : Nat → Int) (n : Nat) (x y z u : Int) (p : Nat) : gridN (ext c n x y z u) n p = gridN c n p := gridN_congr (fun j hj => ext_old c n x y z u hj) p

theorem can_out (X Y : Int) (bq g n : Nat) (c : Nat → Int) (a0 a1 a2 a3 : Int) (w : World) (hX : -128 ≤ X ∧ X ≤ 127) (hY : -128 ≤ Y ∧ Y ≤ 127) (b0 : -128 ≤ a0 ∧ a0 ≤ 127) (b1 : -128 ≤ a1 ∧ a1 ≤ 127) (b2 : -128 ≤ a2 ∧ a2 ≤ 127) (b3 : -128 ≤ a3 ∧ a3 ≤ 127)
    (hq : Sq w bq X Y (.slice (some ⟨g, 0, none⟩) n n)) (hl : ¬ (0 ≤ a0 ∧ 0 ≤ a1 ∧ 1 ≤ a2 ∧ 1 ≤ a3 ∧ a0 + a2 ≤ X ∧ a1 + a3 ≤ Y)) :
    Calls Try.prog 140 #[.pointer (some ⟨bq, 0, none⟩), .agg #[.int .i8 a0, .int .i8 a1, .int .i8 a2, .int .i8 a3]] w fun e w' => Below w.heap.size w w' ∧ e = .returned (.bool false) := by
  go_enter Try.func140, Try.ntmps140
  go_wp2_with fail
  refine (lies_no X Y _ _ _ _ bq _ _ hX hY b0 b1 b2 b3 (hq.alloc _) hl).mono ?_
  rintro e w1 ⟨rfl, hb⟩
  have B := nxt (al (Below.refl w.heap.size w) _) hb
  go_wp2_with fail
  go_ret
  exact ⟨B, rfl⟩

theorem can_in (X Y : Int) (bq g n x0 y0 wd ht : Nat) (c cx : Nat → Int) (w : World) (hX : -128 ≤ X ∧ X ≤ 127) (hY : -128 ≤ Y ∧ Y ≤ 127) (hc : ∀ j, -128 ≤ c j ∧ c j ≤ 127) (hm : n ≤ 1048576)
    (hq : Sq w bq X Y (.slice (some ⟨g, 0, none⟩) n n)) (hrow : w.rowIs g 110 (4 * n) (fun j => .int .i8 (c j))) (hv : Valid X Y n c)
    (e0 : cx (4 * n) = x0) (e1 : cx (4 * n + 1) = y0) (e2 : cx (4 * n + 2) = wd) (e3 : cx (4 * n + 3) = ht) (hcx : ∀ p, gridN cx n p = gridN c n p) (hx : x0 + wd ≤ 12) (hy : y0 + ht ≤ 12)
    (hl : (0 : Int) ≤ x0 ∧ (0 : Int) ≤ y0 ∧ (1 : Int) ≤ wd ∧ (1 : Int) ≤ ht ∧ (x0 : Int) + wd ≤ X ∧ (y0 : Int) + ht ≤ Y) :
    Calls Try.prog 140 #[.pointer (some ⟨bq, 0, none⟩), .agg #[.int .i8 (x0 : Int), .int .i8 (y0 : Int), .int .i8 (wd : Int), .int .i8 (ht : Int)]] w fun e w' => Below w.heap.size w w' ∧ ((opn cx n ∧ e = .returned (.bool true)) ∨ (¬ opn cx n ∧ e = .returned (.bool false))) := by
  have HC := Lib.hid hc
  have HX := Lib.hid hcx
  have E0 := Lib.hid e0
  have E1 := Lib.hid e1
  have E2 := Lib.hid e2
  have E3 := Lib.hid e3
  clear hc hcx e0 e1 e2 e3
  have hxi : (x0 : Int) + (wd : Int) ≤ 12 := by omega
  have hyi : (y0 : Int) + (ht : Int) ≤ 12 := by omega
  go_enter Try.func140, Try.ntmps140
  go_wp2_with fail
  refine (lies_yes X Y _ _ _ _ bq _ _ hX hY (by omega) (by omega) (by omega) (by omega) (hq.alloc _) hl).mono ?_
  rintro e w1 ⟨rfl, hb⟩
  have H3 := (Sl.new w (x0 : Int) y0 wd ht 110).below hb
  have B := nxt (al (Below.refl w.heap.size w) _) hb
  replace hq := (hq.alloc _).below hb
  clear hb
  go_wp2_with fail
  refine (lay_any X Y bq g n c _ hX hY HC.out hm hq (hrow.of_block (B.block _ hrow.lt))).mono ?_
  rintro e w3 ⟨hb, cs, hsz, hone, hcase⟩
  rcases hcase with ⟨_, hcell, rfl⟩ | ⟨hn, _⟩
  case inr => exact absurd hv hn
  replace H3 := H3.below hb
  replace B := nxt B hb
  clear hb hq
  have hG : (w3.alloc (.cells Try.zeroCells192 192)).heap[w3.heap.size]? = some (.cells Try.zeroCells192 192 (0, 0)) := heap_alloc_new w3 _
  have B4 := below_setRow (al B (.cells Try.zeroCells192 192)) B.size cs
  have H4 : Sl ((w3.alloc (.cells Try.zeroCells192 192)).setRow w3.heap.size cs) w.heap.size (x0 : Int) y0 wd ht := (H3.alloc _).of_block (by rw [setRow_size]; exact Nat.le_refl _) (setRow_other _ _ _ _ (by have := H3.1; omega))
  have R4 : ((w3.alloc (.cells Try.zeroCells192 192)).setRow w3.heap.size cs).rowIs w3.heap.size 192 144 (fun p => .int .i64 (gridN cx n p)) := ⟨cs, setRow_heap _ _ _ _ _ _ hG, hsz, fun p hp => by show cs[p]? = some (Value.int IntKind.i64 (gridN cx n p)); rw [hcell p hp, HX.out]⟩
  obtain ⟨W4, hW4⟩ : ∃ W4 : World, W4 = ((w3.alloc (.cells Try.zeroCells192 192)).setRow w3.heap.size cs) := ⟨_, rfl⟩
  rw [← hW4] at B4 H4 R4
  clear H3 B hG
  have H4' := H4
  obtain ⟨l6, p6, q6, r6, s6⟩ := H4'
  go_wp2_with (first
    | (refine wpList_store_row rfl 192 (.tmp 5) (.tmp 16) rfl w3.heap.size cs rfl rfl 192 Try.zeroCells192 (heap_alloc_new w3 _) (by rw [info93, hsz]) (by rw [zc_size, hsz]) hone ?_
       rw [← hW4]
       clear hW4 hcell hone hsz))
  clear p6 q6 r6 s6 l6
  go_loopw [7, 8] (fun t7 t8 W => ∃ y : Nat, t7 = .int .i8 y ∧ (y0 : Int) ≤ (y : Int) ∧ (y : Int) ≤ (y0 : Int) + ht ∧ W = W4 ∧ opnP cx n y 0)
    (fun t7 t8 W => ((y0 : Int) + ht - intOf t7).toNat)
  case atStart => exact ⟨y0, rfl, by omega, by omega, rfl, opnP_start E1.out.symm⟩
  case round =>
    obtain ⟨y, rfl, hy1, hy2, rfl, ho⟩ := hrel
    obtain ⟨wo, rfl⟩ : ∃ wo : World, wo = wr := ⟨_, rfl⟩
    have H4' := H4
    obtain ⟨l6, p6, q6, r6, s6⟩ := H4'
    by_cases hyt : (y : Int) < (y0 : Int) + ht
    · have hy11 : (y : Int) ≤ 11 := by omega
      go_wp2_with fail
      clear p6 q6 r6 s6 l6
      go_loopw [8] (fun t8 W' => ∃ x : Nat, t8 = .int .i8 x ∧ (x0 : Int) ≤ (x : Int) ∧ (x : Int) ≤ (x0 : Int) + wd ∧ W' = wo ∧ opnP cx n y x)
        (fun t8 W' => ((x0 : Int) + wd - intOf t8).toNat)
      case atStart => exact ⟨x0, rfl, by omega, by omega, rfl, opnP_row E0.out.symm ho⟩
      case round =>
        clear ho
        obtain ⟨x, rfl, hx1, hx2, rfl, ho⟩ := hrel
        have H4' := H4
        obtain ⟨l6, p6, q6, r6, s6⟩ := H4'
        by_cases hxt : (x : Int) < (x0 : Int) + wd
        · have hx11 : (x : Int) ≤ 11 := by omega
          have hx12 : x < 12 := by omega
          have hcl := R4.cell (i := y * 12 + x) (by omega)
          have k1 : cx (4 * n) ≤ (x : Int) := by rw [E0.out]; omega
          have k2 : (x : Int) < cx (4 * n) + cx (4 * n + 2) := by rw [E0.out, E2.out]; omega
          have k3 : cx (4 * n + 1) ≤ (y : Int) := by rw [E1.out]; omega
          have k4 : (y : Int) < cx (4 * n + 1) + cx (4 * n + 3) := by rw [E1.out, E3.out]; omega
          have K1 := Lib.hid k1
          have K2 := Lib.hid k2
          have K3 := Lib.hid k3
          have K4 := Lib.hid k4
          clear k1 k2 k3 k4
          by_cases h0 : gridN cx n (y * 12 + x) = 0
          · have b1 : (gridN cx n (y * 12 + x) != 0) = false := by simpa using h0
            have H0 := Lib.hid h0
            clear h0
            go_wp2_with fail
            exact ⟨⟨x + 1, by first | go_num | simp, by omega, by omega, trivial, opnP_cell hx12 K1.out K2.out K3.out K4.out ho H0.out⟩, by simp [intOf]; omega⟩
          · have b1 : (gridN cx n (y * 12 + x) != 0) = true := by simpa using h0
            have HN : ¬ opn cx n := fun h => h0 (h (y * 12 + x) (by omega) (cov_self hx12 K1.out K2.out K3.out K4.out))
            clear h0
            go_wp2_with fail
            go_ret
            exact ⟨B4, .inr ⟨HN, rfl⟩⟩
        · have hxe : (x : Int) = cx (4 * n) + cx (4 * n + 2) := by rw [E0.out, E2.out]; omega
          have HXE := Lib.hid hxe
          clear hxe
          go_wp2_with fail
          exact ⟨⟨y + 1, by first | go_num | simp, by omega, by omega, trivial, opnP_next HXE.out ho⟩, by simp [intOf]; omega⟩
    · have hye : (y : Int) = cx (4 * n + 1) + cx (4 * n + 3) := by rw [E1.out, E3.out]; omega
      have HYE := Lib.hid hye
      clear hye
      go_wp2_with fail
      go_ret
      exact ⟨B4, .inl ⟨opn_end HYE.out ho, rfl⟩⟩
end Go.Proofs.Ytkdakpbkpfigeaa.canPut
