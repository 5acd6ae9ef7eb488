/-
  Whether a slab can be laid: spec.l05Can; both sides of CanLay. Conditions stand at each.
-/
import Derived.Test.YtkggimalkjjnoaaRows
import Derived.Test.YtkggimalkjjnoaaCanLayI
import Derived.Deep.QuietTactic
import Derived.BigQuiet
namespace Go.Proofs.Ytkggimalkjjnoaa
open Go Go.ChangeShapes Go.WideShapes Go.ChangeAt Go.RowKit canPut
set_option linter.unusedVariables false
set_option linter.unusedSimpArgs false
set_option maxRecDepth 100000
set_option maxHeartbeats 4000000
theorem l05Can_in (X Y : Int) (bq g n x0 y0 wd ht : Nat) (c : Nat → Int) (r : Bool) (w : World) (hX : -128 ≤ X ∧ X ≤ 127) (hY : -128 ≤ Y ∧ Y ≤ 127) (hc : ∀ j, -128 ≤ c j ∧ c j ≤ 127) (hm : n ≤ 1048576)
    (hq : Sq w bq X Y (.slice (some ⟨g, 0, none⟩) n n)) (hrow : w.rowIs g 55 (4 * n) (fun j => .int .i8 (c j))) (hv : Valid X Y n c) (hx : x0 + wd ≤ 12) (hy : y0 + ht ≤ 12)
    (hl : (0 : Int) ≤ x0 ∧ (0 : Int) ≤ y0 ∧ (1 : Int) ≤ wd ∧ (1 : Int) ≤ ht ∧ (x0 : Int) + wd ≤ X ∧ (y0 : Int) + ht ≤ Y) (hr : r = true ↔ Layable X Y (gridN c n) (x0 : Int) (y0 : Int) (wd : Int) (ht : Int)) :
    Calls Try.prog 112 #[.pointer (some ⟨bq, 0, none⟩), .agg #[.int .i8 (x0 : Int), .int .i8 (y0 : Int), .int .i8 (wd : Int), .int .i8 (ht : Int)]] w fun e w' => e = .returned (.bool r) ∧ Below w.heap.size w w' := by
  have hr2 : r = true ↔ (∀ k, k < wd * ht → gridN c n (posC (cellAt x0 y0 wd k)) = 0) ∧ Lean (gridN c n) x0 y0 wd ht := by
    rw [hr, layable_nat]
    constructor
    · rintro ⟨_, _, _, _, h⟩; exact h
    · intro h; exact ⟨by omega, by omega, by omega, by omega, h⟩
  have HR2 := Lib.hid hr2
  have HC := Lib.hid hc
  have HL := Lib.hid hl
  clear hr hr2 hc hl
  have e0 := ext0 c n (x0 : Int) y0 wd ht
  have e1 := ext1 c n (x0 : Int) y0 wd ht
  have e2 := ext2 c n (x0 : Int) y0 wd ht
  have e3 := ext3 c n (x0 : Int) y0 wd ht
  have hcx := gridN_ext c n (x0 : Int) y0 wd ht
  have hop1 : (∀ k, k < wd * ht → gridN c n (posC (cellAt x0 y0 wd k)) = 0) → opn (ext c n (x0 : Int) y0 wd ht) n := fun h => opn_yes e0 e1 e2 e3 hx hy (fun k hk => by rw [hcx]; exact h k hk)
  have hop2 : opn (ext c n (x0 : Int) y0 wd ht) n → ∀ k, k < wd * ht → gridN c n (posC (cellAt x0 y0 wd k)) = 0 := fun ho k hk => by
    apply Classical.byContradiction
    intro h
    exact opn_no e0 e1 e2 e3 hx hy ⟨k, hk, by rw [hcx]; exact h⟩ ho
  have CC := Lib.hid (fun (W : World) (h : Sq W bq X Y (.slice (some ⟨g, 0, none⟩) n n)) (h2 : W.rowIs g 55 (4 * n) (fun j => .int .i8 (c j))) => canPut.can_in X Y bq g n x0 y0 wd ht c (ext c n (x0 : Int) y0 wd ht) W hX hY HC.out hm h h2 hv e0 e1 e2 e3 hcx hx hy HL.out)
  have HO1 := Lib.hid hop1
  have HO2 := Lib.hid hop2
  clear e0 e1 e2 e3 hcx hop1 hop2
  have H3 := Sl.new w (x0 : Int) (y0 : Int) (wd : Int) (ht : Int) 55
  have B := al (Below.refl w.heap.size w) (.cells #[.int .i8 (x0 : Int), .int .i8 (y0 : Int), .int .i8 (wd : Int), .int .i8 (ht : Int)] 55)
  have hq' := hq.alloc (.cells #[.int .i8 (x0 : Int), .int .i8 (y0 : Int), .int .i8 (wd : Int), .int .i8 (ht : Int)] 55)
  have R := hrow.alloc (.cells #[.int .i8 (x0 : Int), .int .i8 (y0 : Int), .int .i8 (wd : Int), .int .i8 (ht : Int)] 55)
  go_enter Try.func112, Try.ntmps112
  go_upto_region 1 with fail
  obtain ⟨W0, hW0⟩ : ∃ W0 : World, W0 = (w.alloc (.cells #[.int .i8 (x0 : Int), .int .i8 (y0 : Int), .int .i8 (wd : Int), .int .i8 (ht : Int)] 55)) := ⟨_, rfl⟩
  rw [← hW0] at hq' H3 B R ⊢
  clear hW0
  obtain ⟨l3, p3, q3, r3, s3⟩ := id H3
  go_wp2_with fail
  refine (CC.out _ hq' R).mono ?_
  rintro e w1 ⟨hb, ⟨ho, rfl⟩ | ⟨ho, rfl⟩⟩
  case inr =>
    have hf : r = false := by
      cases r with
      | false => rfl
      | true => exact absurd (HO1.out (HR2.out.1 rfl).1) ho
    subst hf
    replace B := nxt B hb
    clear l3 p3 q3 r3 s3 hb ho HR2 HO1 HO2 CC
    go_wp2
    go_ret
    exact ⟨rfl, B⟩
  have hr3 : r = true ↔ Lean (gridN c n) x0 y0 wd ht := by
    rw [HR2.out]
    exact ⟨fun h => h.2, fun h => ⟨HO2.out ho, h⟩⟩
  have HR3 := Lib.hid hr3
  replace B := nxt B hb
  replace H3 := H3.below hb
  replace hq' := hq'.below hb
  replace R := rowNext0 R hb
  clear l3 p3 q3 r3 s3 hb ho HR2 HO1 HO2 CC hr3
  go_wp2_with fail
  refine (lay_any X Y bq g n c _ hX hY HC.out hm hq' R).mono ?_
  rintro e w3 ⟨hb, cs, hsz, hone, hcase⟩
  rcases hcase with ⟨_, hcell, rfl⟩ | ⟨hn, _⟩
  case inr => exact absurd hv hn
  replace H3 := H3.below hb
  replace B := nxt B hb
  clear hb hq' R
  have hG : (w3.alloc (.cells Try.zeroCells203 203)).heap[w3.heap.size]? = some (.cells Try.zeroCells203 203 (0, 0)) := heap_alloc_new w3 _
  have B4 := below_setRow (al B (.cells Try.zeroCells203 203)) B.size cs
  have H4 : Sl ((w3.alloc (.cells Try.zeroCells203 203)).setRow w3.heap.size cs) w.heap.size (x0 : Int) y0 wd ht := (H3.alloc _).of_block (by rw [setRow_size]; exact Nat.le_refl _) (setRow_other _ _ _ _ (by have := H3.1; omega))
  have R4 : ((w3.alloc (.cells Try.zeroCells203 203)).setRow w3.heap.size cs).rowIs w3.heap.size 203 144 (fun p => .int .i64 (gridN c n p)) := ⟨cs, setRow_heap _ _ _ _ _ _ hG, hsz, fun p hp => by show cs[p]? = some (Value.int IntKind.i64 (gridN c n p)); rw [hcell p hp]⟩
  obtain ⟨W4, hW4⟩ : ∃ W4 : World, W4 = ((w3.alloc (.cells Try.zeroCells203 203)).setRow w3.heap.size cs) := ⟨_, rfl⟩
  rw [← hW4] at B4 H4 R4
  clear H3 B hG
  have H4' := H4
  obtain ⟨l6, p6, q6, r6, s6⟩ := H4'
  go_wp2_with (first
    | (refine wpList_store_row rfl 203 (.tmp 5) (.tmp 18) rfl w3.heap.size cs rfl rfl 203 Try.zeroCells203 (heap_alloc_new w3 _) (by rw [info93, hsz]) (by rw [zc_size, hsz]) hone ?_
       rw [← hW4]
       clear hW4 hcell hone hsz))
  clear p6 q6 r6 s6 l6
  obtain ⟨G, hGe⟩ : ∃ G, G = gridN c n := ⟨_, rfl⟩
  rw [← hGe] at R4 HR3
  obtain ⟨gb, hgb⟩ : ∃ gb, gb = w3.heap.size := ⟨_, rfl⟩
  rw [← hgb] at R4 ⊢
  clear hGe hgb
  go_loopw [7, 8] (fun t7 t8 wr => ∃ (x : Nat) (q : Bool), t8 = .int .i8 x ∧ x0 ≤ x ∧ x ≤ x0 + wd ∧ Below w.heap.size w wr ∧ Sl wr w.heap.size (x0 : Int) (y0 : Int) (wd : Int) (ht : Int) ∧ wr.rowIs gb 203 144 (fun p => .int .i64 (G p)) ∧ t7 = .bool q ∧ (q = true ↔ ∀ i, x0 ≤ i → i < x → y0 = 0 ∨ G ((y0 - 1) * 12 + i) ≠ 0)) (fun t7 t8 wr => ((x0 : Int) + wd - intOf t8).toNat)
  case atStart => exact ⟨x0, true, rfl, by omega, by omega, B4, H4, R4, rfl, by simp; intro i h1 h2; omega⟩
  case round =>
    clear B4 H4 R4
    obtain ⟨x, q, rfl, hx1, hx2, B4, H4, R4, rfl, hq⟩ := hrel
    have HQ := Lib.hid hq
    clear hq
    obtain ⟨l6, p6, q6, r6, s6⟩ := id H4
    by_cases hxt : x < x0 + wd
    · have hxi : (x : Int) < (x0 : Int) + (wd : Int) := by omega
      have hx12 : x < 12 := by omega
      have hxi2 : (x : Int) < 12 := by omega
      have hx0 : (0 : Int) ≤ (x : Int) := by omega
      cases q with
      | false =>
        have HN : Hid (¬ ∀ i, x0 ≤ i → i < x → y0 = 0 ∨ G ((y0 - 1) * 12 + i) ≠ 0) := Lib.hid (fun h => Bool.noConfusion (HQ.out.2 h))
        clear HQ
        go_wp2_with fail
        exact ⟨⟨x + 1, false, by first | go_num | simp, by omega, by omega, B4, H4, R4, by first | trivial | rfl, ⟨fun h => (by cases h), fun h => absurd (fun i h1 h2 => h i h1 (by omega)) HN.out⟩⟩, by simp [intOf]; omega⟩
      | true =>
        have HY := Lib.hid (HQ.out.1 rfl)
        clear HQ
        by_cases hz : y0 = 0
        · have d : ((y0 : Int) == 0) = true := by simpa using hz
          have HZ := Lib.hid hz
          clear hz
          go_wp2_with fail
          exact ⟨⟨x + 1, true, by first | go_num | simp, by omega, by omega, B4, H4, R4, by first | trivial | rfl, by simp; intro i h1 h2; exact .inl HZ.out⟩, by simp [intOf]; omega⟩
        · have d : ((y0 : Int) == 0) = false := by simpa using hz
          have HZ := Lib.hid hz
          have v2 : IntKind.i8.wrap ((y0 : Int) - 1) = (y0 : Int) - 1 := IntWalk.i8_in _ (by omega)
          have v3 : 0 ≤ (y0 : Int) - 1 := by omega
          have v4 : ((y0 : Int) - 1).toNat = y0 - 1 := by omega
          have v5 : (y0 : Int) - 1 < 12 := by omega
          have hc := R4.cell (i := (y0 - 1) * 12 + x) (by omega)
          obtain ⟨y, hy⟩ : ∃ y, y = G ((y0 - 1) * 12 + x) := ⟨_, rfl⟩
          (try dsimp only at hc)
          rw [← hy] at hc
          have HG := Lib.hid hy
          clear hz hy
          by_cases h0 : y = 0
          · have d2 : (y != 0) = false := by simpa using h0
            have H0 := Lib.hid h0
            clear h0
            go_wp2_with fail
            exact ⟨⟨x + 1, false, by first | go_num | simp, by omega, by omega, B4, H4, R4, by first | trivial | rfl, by
              constructor
              · intro h; cases h
              · intro h
                rcases h x (by omega) (by omega) with e | e
                · exact absurd e HZ.out
                · exact absurd (by rw [← HG.out]; exact H0.out) e⟩, by simp [intOf]; omega⟩
          · have d2 : (y != 0) = true := by simpa using h0
            have H0 := Lib.hid h0
            clear h0
            go_wp2_with fail
            exact ⟨⟨x + 1, true, by first | go_num | simp, by omega, by omega, B4, H4, R4, by first | trivial | rfl, by
              constructor
              · intro _ i h1 h2
                by_cases e : i = x
                · subst e; exact .inr (by rw [← HG.out]; exact H0.out)
                · exact HY.out i h1 (by omega)
              · intro _; rfl⟩, by simp [intOf]; omega⟩
    · obtain rfl : x = x0 + wd := by omega
      have hxi : ¬ (((x0 + wd : Nat) : Int) < (x0 : Int) + (wd : Int)) := by omega
      have HNQ := HQ
      clear HQ hxt hx1 hx2
      go_wp2_with fail
      clear p6 q6 r6 s6 l6 hxi
      obtain ⟨qn, rfl⟩ : ∃ qn, qn = q := ⟨_, rfl⟩
      go_loopw [9, 10] (fun t9 t10 wr => ∃ (x : Nat) (q : Bool), t10 = .int .i8 x ∧ y0 ≤ x ∧ x ≤ y0 + ht ∧ Below w.heap.size w wr ∧ Sl wr w.heap.size (x0 : Int) (y0 : Int) (wd : Int) (ht : Int) ∧ wr.rowIs gb 203 144 (fun p => .int .i64 (G p)) ∧ t9 = .bool q ∧ (q = true ↔ ∀ i, y0 ≤ i → i < x → x0 = 0 ∨ G (i * 12 + (x0 - 1)) ≠ 0)) (fun t9 t10 wr => ((y0 : Int) + ht - intOf t10).toNat)
      case atStart => exact ⟨y0, true, rfl, by omega, by omega, B4, H4, R4, rfl, by simp; intro i h1 h2; omega⟩
      case round =>
        clear B4 H4 R4
        obtain ⟨x, q, rfl, hx1, hx2, B4, H4, R4, rfl, hq⟩ := hrel
        have HQ := Lib.hid hq
        clear hq
        obtain ⟨l6, p6, q6, r6, s6⟩ := id H4
        by_cases hxt : x < y0 + ht
        · have hxi : (x : Int) < (y0 : Int) + (ht : Int) := by omega
          have hx12 : x < 12 := by omega
          have hxi2 : (x : Int) < 12 := by omega
          have hx0 : (0 : Int) ≤ (x : Int) := by omega
          cases q with
          | false =>
            have HN : Hid (¬ ∀ i, y0 ≤ i → i < x → x0 = 0 ∨ G (i * 12 + (x0 - 1)) ≠ 0) := Lib.hid (fun h => Bool.noConfusion (HQ.out.2 h))
            clear HQ
            go_wp2_with fail
            go_quiet (fail)
            go_wp2_with fail
            exact ⟨⟨x + 1, false, by first | go_num | simp, by omega, by omega, below_drewN' B4 _, H4, R4, by first | trivial | rfl, ⟨fun h => (by cases h), fun h => absurd (fun i h1 h2 => h i h1 (by omega)) HN.out⟩⟩, by simp [intOf]; omega⟩
          | true =>
            have HY := Lib.hid (HQ.out.1 rfl)
            clear HQ
            by_cases hz : x0 = 0
            · have d : ((x0 : Int) == 0) = true := by simpa using hz
              have HZ := Lib.hid hz
              clear hz
              go_wp2_with fail
              go_quiet (fail)
              go_wp2_with fail
              exact ⟨⟨x + 1, true, by first | go_num | simp, by omega, by omega, below_drewN' B4 _, H4, R4, by first | trivial | rfl, by simp; intro i h1 h2; exact .inl HZ.out⟩, by simp [intOf]; omega⟩
            · have d : ((x0 : Int) == 0) = false := by simpa using hz
              have HZ := Lib.hid hz
              have v2 : IntKind.i8.wrap ((x0 : Int) - 1) = (x0 : Int) - 1 := IntWalk.i8_in _ (by omega)
              have v3 : 0 ≤ (x0 : Int) - 1 := by omega
              have v4 : ((x0 : Int) - 1).toNat = x0 - 1 := by omega
              have v5 : (x0 : Int) - 1 < 12 := by omega
              have hc := R4.cell (i := x * 12 + (x0 - 1)) (by omega)
              obtain ⟨y, hy⟩ : ∃ y, y = G (x * 12 + (x0 - 1)) := ⟨_, rfl⟩
              (try dsimp only at hc)
              rw [← hy] at hc
              have HG := Lib.hid hy
              clear hz hy
              by_cases h0 : y = 0
              · have d2 : (y != 0) = false := by simpa using h0
                have H0 := Lib.hid h0
                clear h0
                go_wp2_with fail
                go_quiet (fail)
                go_wp2_with fail
                exact ⟨⟨x + 1, false, by first | go_num | simp, by omega, by omega, below_drewN' B4 _, H4, R4, by first | trivial | rfl, by
                  constructor
                  · intro h; cases h
                  · intro h
                    rcases h x (by omega) (by omega) with e | e
                    · exact absurd e HZ.out
                    · exact absurd (by rw [← HG.out]; exact H0.out) e⟩, by simp [intOf]; omega⟩
              · have d2 : (y != 0) = true := by simpa using h0
                have H0 := Lib.hid h0
                clear h0
                go_wp2_with fail
                go_quiet (fail)
                go_wp2_with fail
                exact ⟨⟨x + 1, true, by first | go_num | simp, by omega, by omega, below_drewN' B4 _, H4, R4, by first | trivial | rfl, by
                  constructor
                  · intro _ i h1 h2
                    by_cases e : i = x
                    · subst e; exact .inr (by rw [← HG.out]; exact H0.out)
                    · exact HY.out i h1 (by omega)
                  · intro _; rfl⟩, by simp [intOf]; omega⟩
        · obtain rfl : x = y0 + ht := by omega
          have hxi : ¬ (((y0 + ht : Nat) : Int) < (y0 : Int) + (ht : Int)) := by omega
          have HWQ := HQ
          clear HQ hxt hx1 hx2
          have hfin : r = true ↔ (qn = true ∨ q = true) := by
            rw [HR3.out, HNQ.out, HWQ.out]
            unfold Lean North West
            constructor
            · rintro (h | h | h | h)
              · exact .inl (fun i h1 h2 => .inl h)
              · exact .inr (fun i h1 h2 => .inl h)
              · exact .inl (fun i h1 h2 => .inr (by have := h (i - x0) (by omega); rwa [show x0 + (i - x0) = i by omega] at this))
              · exact .inr (fun i h1 h2 => .inr (by have := h (i - y0) (by omega); rwa [show y0 + (i - y0) = i by omega] at this))
            · rintro (h | h)
              · by_cases e : y0 = 0
                · exact .inl e
                · exact .inr (.inr (.inl (fun i hi => (h (x0 + i) (by omega) (by omega)).resolve_left e)))
              · by_cases e : x0 = 0
                · exact .inr (.inl e)
                · exact .inr (.inr (.inr (fun i hi => (h (y0 + i) (by omega) (by omega)).resolve_left e)))
          have HFIN := Lib.hid hfin
          clear hfin HR3 HNQ HWQ
          cases qn with
          | true =>
            obtain rfl : r = true := HFIN.out.2 (.inl rfl)
            go_wp2
            go_ret
            exact ⟨rfl, B4⟩
          | false =>
            have hrq : r = q := by
              have h := HFIN.out
              cases q with
              | true => exact h.2 (.inr rfl)
              | false =>
                cases r with
                | false => rfl
                | true => rcases h.1 rfl with h | h <;> cases h
            subst hrq
            go_wp2
            go_ret
            exact ⟨rfl, B4⟩
end Go.Proofs.Ytkggimalkjjnoaa
