/-
  Slabs that are laid one after another in an order. It names no program. The contract of spec.l05Can on any such square. Conditions stand at each. LayAll's model: slabs are laid one after another in an order. Conditions stand at each. LayAll: slabs are laid one after another in an order; the program's side. Conditions stand at each. Both sides of LayAll answer the same. Conditions stand at each.
-/
import Derived.Test.YtkdakpbkpfigeaaRows
import Derived.Test.YtkdakpbkpfigeaaLaAll0
import Derived.Test.YtkdakpbkpfigeaaFwAll
import Derived.Test.YtkdakpbkpfigeaaHasSort
import Derived.Test.YtkdakpbkpfigeaaSlabN
namespace Go.Proofs.Ytkdakpbkpfigeaa
open Go Go.ChangeShapes Go.WideShapes Go.ChangeAt Go.RowKit canPut
set_option linter.unusedVariables false
set_option linter.unusedSimpArgs false
set_option maxRecDepth 100000
set_option maxHeartbeats 4000000
namespace layAll
/-- may a slab be laid? -/
def LaS (X Y : Int) (D : List S4) (s : S4) : Prop := Layable X Y (gridL D) s.1 s.2.1 s.2.2.1 s.2.2.2
open Classical in
/-- the code, and all slabs when the slabs of a list are laid. -/
noncomputable def layR (X Y : Int) : List S4 → List S4 → Int × List S4
  | [], D => (0, D)
  | s :: S, D => if D.length = 60 then (3, []) else if LaS X Y D s then layR X Y S (D ++ [s]) else (4, [])
theorem layR_nil (X Y : Int) (D : List S4) : layR X Y [] D = (0, D) := rfl
theorem layR_full {X Y : Int} {s : S4} {S D : List S4} (h : D.length = 60) : layR X Y (s :: S) D = (3, []) := by
  show (if D.length = 60 then _ else _) = _
  rw [if_pos h]
theorem layR_yes {X Y : Int} {s : S4} {S D : List S4} (h : D.length ≠ 60) (h2 : LaS X Y D s) : layR X Y (s :: S) D = layR X Y S (D ++ [s]) := by
  show (if D.length = 60 then _ else _) = _
  rw [if_neg h, if_pos h2]
theorem layR_no {X Y : Int} {s : S4} {S D : List S4} (h : D.length ≠ 60) (h2 : ¬ LaS X Y D s) : layR X Y (s :: S) D = (4, []) := by
  show (if D.length = 60 then _ else _) = _
  rw [if_neg h, if_neg h2]
theorem layR_code {X Y : Int} : ∀ (S D : List S4), D.length ≤ 60 → (layR X Y S D).1 = 0 ∧ (layR X Y S D).2.length ≤ 60 ∨ ((layR X Y S D).1 = 3 ∨ (layR X Y S D).1 = 4)
  | [], D, h => .inl ⟨rfl, h⟩
  | s :: S, D, h => by
    by_cases h6 : D.length = 60
    · rw [layR_full h6]; exact .inr (.inl rfl)
    · by_cases hl : LaS X Y D s
      · rw [layR_yes h6 hl]; exact layR_code S _ (by rw [List.length_append]; simp; omega)
      · rw [layR_no h6 hl]; exact .inr (.inr rfl)
theorem lean_congr {G G' : Nat → Int} (h : ∀ p, G p = 0 ↔ G' p = 0) {x0 y0 wd ht : Nat} : Lean G x0 y0 wd ht ↔ Lean G' x0 y0 wd ht := by
  have h' : ∀ p, G p ≠ 0 ↔ G' p ≠ 0 := fun p => not_congr (h p)
  unfold Lean North West
  simp only [h']
theorem layable_congr {X Y : Int} {G G' : Nat → Int} (h : ∀ p, G p = 0 ↔ G' p = 0) {a0 a1 a2 a3 : Int} : Layable X Y G a0 a1 a2 a3 ↔ Layable X Y G' a0 a1 a2 a3 := by
  unfold Layable
  simp only [h, lean_congr h]
theorem open_cover {G : Nat → Int} {x y wd ht : Nat} (hx : x + wd ≤ 12) (hy : y + ht ≤ 12) (f3 : ∀ k, k < wd * ht → G (posC (cellAt x y wd k)) = 0) (p : Nat) (hp : p < 144) (hc : cv ((x : Int), (y : Int), (wd : Int), (ht : Int)) p) : G p = 0 := by
  unfold cv at hc
  dsimp only at hc
  have hi : (p / 12 - y) * wd + (p % 12 - x) < wd * ht := by
    have h1 : p / 12 - y + 1 ≤ ht := by omega
    have h2 : (p / 12 - y + 1) * wd ≤ ht * wd := Nat.mul_le_mul_right _ h1
    rw [Nat.add_mul, Nat.one_mul] at h2
    rw [Nat.mul_comm wd ht]
    omega
  have h3 := f3 _ hi
  have key : ∀ a b : Nat, b < wd → (a * wd + b) % wd = b ∧ (a * wd + b) / wd = a := fun a b hb => by
    rw [Nat.mul_comm a wd]
    refine ⟨by rw [Nat.mul_add_mod]; exact Nat.mod_eq_of_lt hb, ?_⟩
    rw [Nat.mul_add_div (by omega), Nat.div_eq_of_lt hb]
    rfl
  obtain ⟨e1, e2⟩ := key (p / 12 - y) (p % 12 - x) (by omega)
  have e3 : posC (cellAt x y wd ((p / 12 - y) * wd + (p % 12 - x))) = p := by
    unfold posC cellAt
    dsimp only
    rw [e1, e2]
    omega
  rw [e3] at h3
  exact h3
theorem LaS.fit {X Y : Int} {D : List S4} {s : S4} (hX : X ≤ 12) (hY : Y ≤ 12) (hD : Fit4 X Y D) (h : LaS X Y D s) : Fit4 X Y (D ++ [s]) ∧ ls X Y s := by
  obtain ⟨x0, y0, wd, ht, e0, e1, e2, e3, h1, h2, h3, h4, h5, _⟩ := h
  have hl : ls X Y s := by unfold ls; omega
  refine ⟨hD.snoc hl fun p hp hc => ?_, hl⟩
  have hs : s = ((x0 : Int), (y0 : Int), (wd : Int), (ht : Int)) := by
    obtain ⟨s0, s1, s2, s3⟩ := s
    dsimp only at e0 e1 e2 e3
    rw [e0, e1, e2, e3]
  rw [hs] at hc
  exact open_cover (G := gridL D) (by omega) (by omega) h5 p hp hc
/-- the slabs in their order. -/
def seqL (l o : Nat → Int) (m : Nat) : List S4 := (List.range m).map fun i => s4 l (o i).toNat
theorem seq_drop {l o : Nat → Int} {m k i0 : Nat} (hk : k < m) (he : o k = (i0 : Int)) : (seqL l o m).drop k = s4 l i0 :: (seqL l o m).drop (k + 1) := by
  have h : k < (seqL l o m).length := by simp [seqL]; exact hk
  rw [List.drop_eq_getElem_cons h]
  congr 1
  simp [seqL, he]
theorem seq_end {l o : Nat → Int} {m : Nat} : (seqL l o m).drop m = [] := by simp [seqL]
theorem dec_exL (p : Prop) : ∃ r : Bool, r = true ↔ p := by
  by_cases h : p
  · exact ⟨true, by simp [h]⟩
  · exact ⟨false, by simp [h]⟩
theorem addr_injL {b off b' off' : Nat} (h : (some (⟨b, off, none⟩ : Addr)) = some ⟨b', off', none⟩) : b = b' ∧ off = off' := by
  injection h with h
  injection h with h1 h2
  exact ⟨h1, h2⟩
def LaRel (W H n : Nat) (R : Int × List S4) (S D L : List S4) : Prop := n ≤ D.length ∧ D.length ≤ 60 ∧ Fit4 W H D ∧ SortedOf D L ∧ layR W H S D = R
def LaI (W H n : Nat) (R : Int × List S4) (S D : List S4) : Prop := n ≤ D.length ∧ D.length ≤ 60 ∧ Fit4 W H D ∧ layR W H S D = R
/-- what both sides tell. -/
def LaPost (W H : Int) (code : Int) (D : List S4) (w : World) (e : Ending) (w' : World) : Prop :=
  Below w.heap.size w w' ∧ ((code = 0 ∧ ∃ v L, e = .returned (.tuple #[.agg #[.int .i8 W, .int .i8 H, v], .int .i64 0]) ∧ SortedOf D L ∧ HasSlice .i8 4 w' w.heap.size v D.length (fL L)) ∨
    (code ≠ 0 ∧ ∃ v, e = .returned (.tuple #[.agg #[.int .i8 0, .int .i8 0, v], .int .i64 code]) ∧ HasSlice .i8 4 w' w.heap.size v 0 (fL [])))
end layAll
end Go.Proofs.Ytkdakpbkpfigeaa

namespace Go.Proofs.Ytkdakpbkpfigeaa
open Go Go.ChangeShapes Go.WideShapes Go.ChangeAt Go.RowKit canPut
set_option linter.unusedVariables false
set_option linter.unusedSimpArgs false
set_option maxRecDepth 100000
set_option maxHeartbeats 4000000
section
variable (qc : Nat)
theorem l05Can_inG (X Y : Int) (bq g n x0 y0 wd ht : Nat) (c : Nat → Int) (r : Bool) (w : World) (hX : -128 ≤ X ∧ X ≤ 127) (hY : -128 ≤ Y ∧ Y ≤ 127) (hc : ∀ j, -128 ≤ c j ∧ c j ≤ 127) (hm : n ≤ 1048576)
    (hq : Sq w bq X Y (.slice (some ⟨g, 0, none⟩) n qc)) (hrow : Rw w g n c) (hv : Valid X Y n c) (hx : x0 + wd ≤ 12) (hy : y0 + ht ≤ 12)
    (hl : (0 : Int) ≤ x0 ∧ (0 : Int) ≤ y0 ∧ (1 : Int) ≤ wd ∧ (1 : Int) ≤ ht ∧ (x0 : Int) + wd ≤ X ∧ (y0 : Int) + ht ≤ Y) (hr : r = true ↔ Layable X Y (gridN c n) (x0 : Int) (y0 : Int) (wd : Int) (ht : Int)) :
    Calls Try.prog 90 #[.pointer (some ⟨bq, 0, none⟩), .agg #[.int .i8 (x0 : Int), .int .i8 (y0 : Int), .int .i8 (wd : Int), .int .i8 (ht : Int)]] w fun e w' => e = .returned (.bool r) ∧ Below w.heap.size w w' := by
  have hr2 : r = true ↔ (∀ k, k < wd * ht → gridN c n (posC (cellAt x0 y0 wd k)) = 0) ∧ Lean (gridN c n) x0 y0 wd ht := by
    rw [hr, layable_nat]
    constructor
    · rintro ⟨_, _, _, _, h⟩; exact h
    · intro h; exact ⟨by omega, by omega, by omega, by omega, h⟩
  have HR2 := Lib.hid hr2
  have HC := Lib.hid hc
  have HL := Lib.hid hl
  clear hr hr2 hc hl
  have e0 := ext0 c n (x0 : Int) y0 wd ht
  have e1 := ext1 c n (x0 : Int) y0 wd ht
  have e2 := ext2 c n (x0 : Int) y0 wd ht
  have e3 := ext3 c n (x0 : Int) y0 wd ht
  have hcx := gridN_ext c n (x0 : Int) y0 wd ht
  have hop1 : (∀ k, k < wd * ht → gridN c n (posC (cellAt x0 y0 wd k)) = 0) → opn (ext c n (x0 : Int) y0 wd ht) n := fun h => opn_yes e0 e1 e2 e3 hx hy (fun k hk => by rw [hcx]; exact h k hk)
  have hop2 : opn (ext c n (x0 : Int) y0 wd ht) n → ∀ k, k < wd * ht → gridN c n (posC (cellAt x0 y0 wd k)) = 0 := fun ho k hk => by
    apply Classical.byContradiction
    intro h
    exact opn_no e0 e1 e2 e3 hx hy ⟨k, hk, by rw [hcx]; exact h⟩ ho
  have CC := Lib.hid (fun (W : World) (h : Sq W bq X Y (.slice (some ⟨g, 0, none⟩) n qc)) (h2 : Rw W g n c) => can_inG qc X Y bq g n x0 y0 wd ht c (ext c n (x0 : Int) y0 wd ht) W hX hY HC.out hm h h2 hv e0 e1 e2 e3 hcx hx hy HL.out)
  have HO1 := Lib.hid hop1
  have HO2 := Lib.hid hop2
  clear e0 e1 e2 e3 hcx hop1 hop2
  have H3 := Sl.new w (x0 : Int) (y0 : Int) (wd : Int) (ht : Int) 110
  have B := al (Below.refl w.heap.size w) (.cells #[.int .i8 (x0 : Int), .int .i8 (y0 : Int), .int .i8 (wd : Int), .int .i8 (ht : Int)] 110)
  have hq' := hq.alloc (.cells #[.int .i8 (x0 : Int), .int .i8 (y0 : Int), .int .i8 (wd : Int), .int .i8 (ht : Int)] 110)
  have R := hrow.alloc (.cells #[.int .i8 (x0 : Int), .int .i8 (y0 : Int), .int .i8 (wd : Int), .int .i8 (ht : Int)] 110)
  go_enter Try.func90, Try.ntmps90
  go_upto_region 1 with fail
  obtain ⟨W0, hW0⟩ : ∃ W0 : World, W0 = (w.alloc (.cells #[.int .i8 (x0 : Int), .int .i8 (y0 : Int), .int .i8 (wd : Int), .int .i8 (ht : Int)] 110)) := ⟨_, rfl⟩
  rw [← hW0] at hq' H3 B R ⊢
  clear hW0
  obtain ⟨l3, p3, q3, r3, s3⟩ := id H3
  go_wp2_with fail
  refine (CC.out _ hq' R).mono ?_
  rintro e w1 ⟨hb, ⟨ho, rfl⟩ | ⟨ho, rfl⟩⟩
  case inr =>
    have hf : r = false := by
      cases r with
      | false => rfl
      | true => exact absurd (HO1.out (HR2.out.1 rfl).1) ho
    subst hf
    replace B := nxt B hb
    clear l3 p3 q3 r3 s3 hb ho HR2 HO1 HO2 CC
    go_wp2
    go_ret
    exact ⟨rfl, B⟩
  have hr3 : r = true ↔ Lean (gridN c n) x0 y0 wd ht := by
    rw [HR2.out]
    exact ⟨fun h => h.2, fun h => ⟨HO2.out ho, h⟩⟩
  have HR3 := Lib.hid hr3
  replace B := nxt B hb
  replace H3 := H3.below hb
  replace hq' := hq'.below hb
  replace R := R.below hb
  clear l3 p3 q3 r3 s3 hb ho HR2 HO1 HO2 CC hr3
  go_wp2_with fail
  refine (lay_anyG qc X Y bq g n c _ hX hY HC.out hm hq' R).mono ?_
  rintro e w3 ⟨hb, cs, hsz, hone, hcase⟩
  rcases hcase with ⟨_, hcell, rfl⟩ | ⟨hn, _⟩
  case inr => exact absurd hv hn
  replace H3 := H3.below hb
  replace B := nxt B hb
  clear hb hq' R
  have hG : (w3.alloc (.cells Try.zeroCells192 192)).heap[w3.heap.size]? = some (.cells Try.zeroCells192 192 (0, 0)) := heap_alloc_new w3 _
  have B4 := below_setRow (al B (.cells Try.zeroCells192 192)) B.size cs
  have H4 : Sl ((w3.alloc (.cells Try.zeroCells192 192)).setRow w3.heap.size cs) w.heap.size (x0 : Int) y0 wd ht := (H3.alloc _).of_block (by rw [setRow_size]; exact Nat.le_refl _) (setRow_other _ _ _ _ (by have := H3.1; omega))
  have R4 : ((w3.alloc (.cells Try.zeroCells192 192)).setRow w3.heap.size cs).rowIs w3.heap.size 192 144 (fun p => .int .i64 (gridN c n p)) := ⟨cs, setRow_heap _ _ _ _ _ _ hG, hsz, fun p hp => by show cs[p]? = some (Value.int IntKind.i64 (gridN c n p)); rw [hcell p hp]⟩
  obtain ⟨W4, hW4⟩ : ∃ W4 : World, W4 = ((w3.alloc (.cells Try.zeroCells192 192)).setRow w3.heap.size cs) := ⟨_, rfl⟩
  rw [← hW4] at B4 H4 R4
  clear H3 B hG
  have H4' := H4
  obtain ⟨l6, p6, q6, r6, s6⟩ := H4'
  go_wp2_with (first
    | (refine wpList_store_row rfl 192 (.tmp 5) (.tmp 18) rfl w3.heap.size cs rfl rfl 192 Try.zeroCells192 (heap_alloc_new w3 _) (by rw [info93, hsz]) (by rw [zc_size, hsz]) hone ?_
       rw [← hW4]
       clear hW4 hcell hone hsz))
  clear p6 q6 r6 s6 l6
  obtain ⟨G, hGe⟩ : ∃ G, G = gridN c n := ⟨_, rfl⟩
  rw [← hGe] at R4 HR3
  obtain ⟨gb, hgb⟩ : ∃ gb, gb = w3.heap.size := ⟨_, rfl⟩
  rw [← hgb] at R4 ⊢
  clear hGe hgb
  go_loopw [7, 8] (fun t7 t8 wr => ∃ (x : Nat) (q : Bool), t8 = .int .i8 x ∧ x0 ≤ x ∧ x ≤ x0 + wd ∧ Below w.heap.size w wr ∧ Sl wr w.heap.size (x0 : Int) (y0 : Int) (wd : Int) (ht : Int) ∧ wr.rowIs gb 192 144 (fun p => .int .i64 (G p)) ∧ t7 = .bool q ∧ (q = true ↔ ∀ i, x0 ≤ i → i < x → y0 = 0 ∨ G ((y0 - 1) * 12 + i) ≠ 0)) (fun t7 t8 wr => ((x0 : Int) + wd - intOf t8).toNat)
  case atStart => exact ⟨x0, true, rfl, by omega, by omega, B4, H4, R4, rfl, by simp; intro i h1 h2; omega⟩
  case round =>
    clear B4 H4 R4
    obtain ⟨x, q, rfl, hx1, hx2, B4, H4, R4, rfl, hq⟩ := hrel
    have HQ := Lib.hid hq
    clear hq
    obtain ⟨l6, p6, q6, r6, s6⟩ := id H4
    by_cases hxt : x < x0 + wd
    · have hxi : (x : Int) < (x0 : Int) + (wd : Int) := by omega
      have hx12 : x < 12 := by omega
      have hxi2 : (x : Int) < 12 := by omega
      have hx0 : (0 : Int) ≤ (x : Int) := by omega
      cases q with
      | false =>
        have HN : Hid (¬ ∀ i, x0 ≤ i → i < x → y0 = 0 ∨ G ((y0 - 1) * 12 + i) ≠ 0) := Lib.hid (fun h => Bool.noConfusion (HQ.out.2 h))
        clear HQ
        go_wp2_with fail
        exact ⟨⟨x + 1, false, by first | go_num | simp, by omega, by omega, B4, H4, R4, by first | trivial | rfl, ⟨fun h => (by cases h), fun h => absurd (fun i h1 h2 => h i h1 (by omega)) HN.out⟩⟩, by simp [intOf]; omega⟩
      | true =>
        have HY := Lib.hid (HQ.out.1 rfl)
        clear HQ
        by_cases hz : y0 = 0
        · have d : ((y0 : Int) == 0) = true := by simpa using hz
          have HZ := Lib.hid hz
          clear hz
          go_wp2_with fail
          exact ⟨⟨x + 1, true, by first | go_num | simp, by omega, by omega, B4, H4, R4, by first | trivial | rfl, by simp; intro i h1 h2; exact .inl HZ.out⟩, by simp [intOf]; omega⟩
        · have d : ((y0 : Int) == 0) = false := by simpa using hz
          have HZ := Lib.hid hz
          have v2 : IntKind.i8.wrap ((y0 : Int) - 1) = (y0 : Int) - 1 := IntWalk.i8_in _ (by omega)
          have v3 : 0 ≤ (y0 : Int) - 1 := by omega
          have v4 : ((y0 : Int) - 1).toNat = y0 - 1 := by omega
          have v5 : (y0 : Int) - 1 < 12 := by omega
          have hc := R4.cell (i := (y0 - 1) * 12 + x) (by omega)
          obtain ⟨y, hy⟩ : ∃ y, y = G ((y0 - 1) * 12 + x) := ⟨_, rfl⟩
          (try dsimp only at hc)
          rw [← hy] at hc
          have HG := Lib.hid hy
          clear hz hy
          by_cases h0 : y = 0
          · have d2 : (y != 0) = false := by simpa using h0
            have H0 := Lib.hid h0
            clear h0
            go_wp2_with fail
            exact ⟨⟨x + 1, false, by first | go_num | simp, by omega, by omega, B4, H4, R4, by first | trivial | rfl, by
              constructor
              · intro h; cases h
              · intro h
                rcases h x (by omega) (by omega) with e | e
                · exact absurd e HZ.out
                · exact absurd (by rw [← HG.out]; exact H0.out) e⟩, by simp [intOf]; omega⟩
          · have d2 : (y != 0) = true := by simpa using h0
            have H0 := Lib.hid h0
            clear h0
            go_wp2_with fail
            exact ⟨⟨x + 1, true, by first | go_num | simp, by omega, by omega, B4, H4, R4, by first | trivial | rfl, by
              constructor
              · intro _ i h1 h2
                by_cases e : i = x
                · subst e; exact .inr (by rw [← HG.out]; exact H0.out)
                · exact HY.out i h1 (by omega)
              · intro _; rfl⟩, by simp [intOf]; omega⟩
    · obtain rfl : x = x0 + wd := by omega
      have hxi : ¬ (((x0 + wd : Nat) : Int) < (x0 : Int) + (wd : Int)) := by omega
      have HNQ := HQ
      clear HQ hxt hx1 hx2
      go_wp2_with fail
      clear p6 q6 r6 s6 l6 hxi
      obtain ⟨qn, rfl⟩ : ∃ qn, qn = q := ⟨_, rfl⟩
      go_loopw [9, 10] (fun t9 t10 wr => ∃ (x : Nat) (q : Bool), t10 = .int .i8 x ∧ y0 ≤ x ∧ x ≤ y0 + ht ∧ Below w.heap.size w wr ∧ Sl wr w.heap.size (x0 : Int) (y0 : Int) (wd : Int) (ht : Int) ∧ wr.rowIs gb 192 144 (fun p => .int .i64 (G p)) ∧ t9 = .bool q ∧ (q = true ↔ ∀ i, y0 ≤ i → i < x → x0 = 0 ∨ G (i * 12 + (x0 - 1)) ≠ 0)) (fun t9 t10 wr => ((y0 : Int) + ht - intOf t10).toNat)
      case atStart => exact ⟨y0, true, rfl, by omega, by omega, B4, H4, R4, rfl, by simp; intro i h1 h2; omega⟩
      case round =>
        clear B4 H4 R4
        obtain ⟨x, q, rfl, hx1, hx2, B4, H4, R4, rfl, hq⟩ := hrel
        have HQ := Lib.hid hq
        clear hq
        obtain ⟨l6, p6, q6, r6, s6⟩ := id H4
        by_cases hxt : x < y0 + ht
        · have hxi : (x : Int) < (y0 : Int) + (ht : Int) := by omega
          have hx12 : x < 12 := by omega
          have hxi2 : (x : Int) < 12 := by omega
          have hx0 : (0 : Int) ≤ (x : Int) := by omega
          cases q with
          | false =>
            have HN : Hid (¬ ∀ i, y0 ≤ i → i < x → x0 = 0 ∨ G (i * 12 + (x0 - 1)) ≠ 0) := Lib.hid (fun h => Bool.noConfusion (HQ.out.2 h))
            clear HQ
            go_wp2_with fail
            go_quiet (fail)
            go_wp2_with fail
            exact ⟨⟨x + 1, false, by first | go_num | simp, by omega, by omega, below_drewN' B4 _, H4, R4, by first | trivial | rfl, ⟨fun h => (by cases h), fun h => absurd (fun i h1 h2 => h i h1 (by omega)) HN.out⟩⟩, by simp [intOf]; omega⟩
          | true =>
            have HY := Lib.hid (HQ.out.1 rfl)
            clear HQ
            by_cases hz : x0 = 0
            · have d : ((x0 : Int) == 0) = true := by simpa using hz
              have HZ := Lib.hid hz
              clear hz
              go_wp2_with fail
              go_quiet (fail)
              go_wp2_with fail
              exact ⟨⟨x + 1, true, by first | go_num | simp, by omega, by omega, below_drewN' B4 _, H4, R4, by first | trivial | rfl, by simp; intro i h1 h2; exact .inl HZ.out⟩, by simp [intOf]; omega⟩
            · have d : ((x0 : Int) == 0) = false := by simpa using hz
              have HZ := Lib.hid hz
              have v2 : IntKind.i8.wrap ((x0 : Int) - 1) = (x0 : Int) - 1 := IntWalk.i8_in _ (by omega)
              have v3 : 0 ≤ (x0 : Int) - 1 := by omega
              have v4 : ((x0 : Int) - 1).toNat = x0 - 1 := by omega
              have v5 : (x0 : Int) - 1 < 12 := by omega
              have hc := R4.cell (i := x * 12 + (x0 - 1)) (by omega)
              obtain ⟨y, hy⟩ : ∃ y, y = G (x * 12 + (x0 - 1)) := ⟨_, rfl⟩
              (try dsimp only at hc)
              rw [← hy] at hc
              have HG := Lib.hid hy
              clear hz hy
              by_cases h0 : y = 0
              · have d2 : (y != 0) = false := by simpa using h0
                have H0 := Lib.hid h0
                clear h0
                go_wp2_with fail
                go_quiet (fail)
                go_wp2_with fail
                exact ⟨⟨x + 1, false, by first | go_num | simp, by omega, by omega, below_drewN' B4 _, H4, R4, by first | trivial | rfl, by
                  constructor
                  · intro h; cases h
                  · intro h
                    rcases h x (by omega) (by omega) with e | e
                    · exact absurd e HZ.out
                    · exact absurd (by rw [← HG.out]; exact H0.out) e⟩, by simp [intOf]; omega⟩
              · have d2 : (y != 0) = true := by simpa using h0
                have H0 := Lib.hid h0
                clear h0
                go_wp2_with fail
                go_quiet (fail)
                go_wp2_with fail
                exact ⟨⟨x + 1, true, by first | go_num | simp, by omega, by omega, below_drewN' B4 _, H4, R4, by first | trivial | rfl, by
                  constructor
                  · intro _ i h1 h2
                    by_cases e : i = x
                    · subst e; exact .inr (by rw [← HG.out]; exact H0.out)
                    · exact HY.out i h1 (by omega)
                  · intro _; rfl⟩, by simp [intOf]; omega⟩
        · obtain rfl : x = y0 + ht := by omega
          have hxi : ¬ (((y0 + ht : Nat) : Int) < (y0 : Int) + (ht : Int)) := by omega
          have HWQ := HQ
          clear HQ hxt hx1 hx2
          have hfin : r = true ↔ (qn = true ∨ q = true) := by
            rw [HR3.out, HNQ.out, HWQ.out]
            unfold Lean North West
            constructor
            · rintro (h | h | h | h)
              · exact .inl (fun i h1 h2 => .inl h)
              · exact .inr (fun i h1 h2 => .inl h)
              · exact .inl (fun i h1 h2 => .inr (by have := h (i - x0) (by omega); rwa [show x0 + (i - x0) = i by omega] at this))
              · exact .inr (fun i h1 h2 => .inr (by have := h (i - y0) (by omega); rwa [show y0 + (i - y0) = i by omega] at this))
            · rintro (h | h)
              · by_cases e : y0 = 0
                · exact .inl e
                · exact .inr (.inr (.inl (fun i hi => (h (x0 + i) (by omega) (by omega)).resolve_left e)))
              · by_cases e : x0 = 0
                · exact .inr (.inl e)
                · exact .inr (.inr (.inr (fun i hi => (h (y0 + i) (by omega) (by omega)).resolve_left e)))
          have HFIN := Lib.hid hfin
          clear hfin HR3 HNQ HWQ
          cases qn with
          | true =>
            obtain rfl : r = true := HFIN.out.2 (.inl rfl)
            go_wp2
            go_ret
            exact ⟨rfl, B4⟩
          | false =>
            have hrq : r = q := by
              have h := HFIN.out
              cases q with
              | true => exact h.2 (.inr rfl)
              | false =>
                cases r with
                | false => rfl
                | true => rcases h.1 rfl with h | h <;> cases h
            subst hrq
            go_wp2
            go_ret
            exact ⟨rfl, B4⟩
theorem l05Can_outG (X Y : Int) (bq g n : Nat) (c : Nat → Int) (a0 a1 a2 a3 : Int) (w : World) (hX : -128 ≤ X ∧ X ≤ 127) (hY : -128 ≤ Y ∧ Y ≤ 127) (b0 : -128 ≤ a0 ∧ a0 ≤ 127) (b1 : -128 ≤ a1 ∧ a1 ≤ 127) (b2 : -128 ≤ a2 ∧ a2 ≤ 127) (b3 : -128 ≤ a3 ∧ a3 ≤ 127)
    (hq : Sq w bq X Y (.slice (some ⟨g, 0, none⟩) n qc)) (hl : ¬ (0 ≤ a0 ∧ 0 ≤ a1 ∧ 1 ≤ a2 ∧ 1 ≤ a3 ∧ a0 + a2 ≤ X ∧ a1 + a3 ≤ Y)) :
    Calls Try.prog 90 #[.pointer (some ⟨bq, 0, none⟩), .agg #[.int .i8 a0, .int .i8 a1, .int .i8 a2, .int .i8 a3]] w fun e w' => e = .returned (.bool false) ∧ Below w.heap.size w w' := by
  have H3 := Sl.new w a0 a1 a2 a3 110
  have B := al (Below.refl w.heap.size w) (.cells #[.int .i8 a0, .int .i8 a1, .int .i8 a2, .int .i8 a3] 110)
  have hq' := hq.alloc (.cells #[.int .i8 a0, .int .i8 a1, .int .i8 a2, .int .i8 a3] 110)
  go_enter Try.func90, Try.ntmps90
  go_upto_region 1 with fail
  obtain ⟨W0, hW0⟩ : ∃ W0 : World, W0 = (w.alloc (.cells #[.int .i8 a0, .int .i8 a1, .int .i8 a2, .int .i8 a3] 110)) := ⟨_, rfl⟩
  rw [← hW0] at hq' H3 B ⊢
  clear hW0
  obtain ⟨l3, p3, q3, r3, s3⟩ := id H3
  go_wp2_with fail
  refine (can_outG qc X Y bq g n c a0 a1 a2 a3 _ hX hY b0 b1 b2 b3 hq' hl).mono ?_
  rintro e w1 ⟨hb, rfl⟩
  replace B := nxt B hb
  clear l3 p3 q3 r3 s3 hb
  go_wp2
  go_ret
  exact ⟨rfl, B⟩
/-- spec.l05Can, at any slab. -/
theorem l05Can_anyG (X Y : Int) (bq g n : Nat) (c : Nat → Int) (a0 a1 a2 a3 : Int) (r : Bool) (w : World) (hX : -128 ≤ X ∧ X ≤ 127) (hY : -128 ≤ Y ∧ Y ≤ 127) (hc : ∀ j, -128 ≤ c j ∧ c j ≤ 127) (hm : n ≤ 1048576) (b0 : -128 ≤ a0 ∧ a0 ≤ 127) (b1 : -128 ≤ a1 ∧ a1 ≤ 127) (b2 : -128 ≤ a2 ∧ a2 ≤ 127) (b3 : -128 ≤ a3 ∧ a3 ≤ 127)
    (hq : Sq w bq X Y (.slice (some ⟨g, 0, none⟩) n qc)) (hrow : Rw w g n c) (hv : Valid X Y n c) (hr : r = true ↔ Layable X Y (gridN c n) a0 a1 a2 a3) :
    Calls Try.prog 90 #[.pointer (some ⟨bq, 0, none⟩), .agg #[.int .i8 a0, .int .i8 a1, .int .i8 a2, .int .i8 a3]] w fun e w' => e = .returned (.bool r) ∧ Below w.heap.size w w' := by
  by_cases hl : 0 ≤ a0 ∧ 0 ≤ a1 ∧ 1 ≤ a2 ∧ 1 ≤ a3 ∧ a0 + a2 ≤ X ∧ a1 + a3 ≤ Y
  · obtain ⟨x0, rfl⟩ := Int.eq_ofNat_of_zero_le hl.1
    obtain ⟨y0, rfl⟩ := Int.eq_ofNat_of_zero_le hl.2.1
    obtain ⟨wd, rfl⟩ := Int.eq_ofNat_of_zero_le (show 0 ≤ a2 by omega)
    obtain ⟨ht, rfl⟩ := Int.eq_ofNat_of_zero_le (show 0 ≤ a3 by omega)
    have hx : x0 + wd ≤ 12 := by have := hv.2.1; omega
    have hy : y0 + ht ≤ 12 := by have := hv.2.2.2.1; omega
    exact l05Can_inG qc X Y bq g n x0 y0 wd ht c r w hX hY hc hm hq hrow hv hx hy hl hr
  · have hf : r = false := by
      cases r with
      | false => rfl
      | true =>
        obtain ⟨x0, y0, wd, ht, rfl, rfl, rfl, rfl, h1, h2, h3, h4, _⟩ := hr.1 rfl
        exact absurd ⟨by omega, by omega, by omega, by omega, h3, h4⟩ hl
    subst hf
    exact l05Can_outG qc X Y bq g n c a0 a1 a2 a3 w hX hY b0 b1 b2 b3 hq hl
end
end Go.Proofs.Ytkdakpbkpfigeaa

namespace Go.Proofs.Ytkdakpbkpfigeaa
open Go Go.ChangeShapes Go.WideShapes Go.ChangeAt Go.RowKit canPut
set_option linter.unusedVariables false
set_option linter.unusedSimpArgs false
set_option maxRecDepth 100000
set_option maxHeartbeats 4000000

namespace layAll
theorem spec_in (W H g n : Nat) (c : Nat → Int) (A1 : Option Addr) (k1 cap1 : Nat) (l : Nat → Int) (A2 : Option Addr) (m cap2 : Nat) (o : Nat → Int) (w : World) (hc : ∀ j, -128 ≤ c j ∧ c j ≤ 127) (hm : n ≤ 1048576) (hrow : w.rowIs g 110 (4 * n) (fun j => .int .i8 (c j))) (hv : Valid W H n c) (hk1 : k1 ≤ 10) (hmm : m ≤ 1048576) (hcap2 : m ≤ cap2)
    (hl : ∀ j, -128 ≤ l j ∧ l j ≤ 127) (hr1 : Rd8 w w.heap.size A1 (4 * k1) l) (hr2 : RdK .i64 w w.heap.size A2 m o) (he : Each k1 m o) :
    Calls Try.prog 37 #[.agg #[.int .i8 (W : Int), .int .i8 (H : Int), .slice (some ⟨g, 0, none⟩) n n], .slice A1 k1 cap1, .slice A2 m cap2] w (LaPost W H (layR W H (seqL l o m) (toL c n)).1 (layR W H (seqL l o m) (toL c n)).2 w) := by
  have hW : W ≤ 12 := by have := hv.2.1; omega
  have hH : H ≤ 12 := by have := hv.2.2.2.1; omega
  have hW1 : 1 ≤ W := by have := hv.1; omega
  have hH1 : 1 ≤ H := by have := hv.2.2.1; omega
  have hn60 : n ≤ 60 := hv.2.2.2.2.1
  obtain ⟨i0, hi0, hz0, hz1, hz2⟩ := info_parts infoSlab
  have HI := Lib.hid hi0
  have HC := Lib.hid hc
  have HL0 : Hid ((encL (toL c n)).length = n * 4) := Lib.hid (by rw [encL_length, toL_length])
  have HFIT := Lib.hid (Fit4.of_valid hv)
  obtain ⟨R, hR⟩ : ∃ R, R = layR W H (seqL l o m) (toL c n) := ⟨_, rfl⟩
  rw [← hR]
  have HRR := Lib.hid hR
  have hgl := hrow.lt
  have HROW := Lib.hid hrow
  have HV := Lib.hid hv
  have HE := Lib.hid he
  have HLB := Lib.hid hl
  have HR1 := Lib.hid hr1
  have HR2 := Lib.hid hr2
  clear hc hi0 hR hrow hv he hl hr1 hr2
  go_enter Try.func37, Try.ntmps37
  go_wp2_with fail
  have HQ := (Sq.new w (W : Int) (H : Int) (.slice (some ⟨g, 0, none⟩) n n) 31).alloc (.cells #[.int .i8 0, .int .i8 0, .slice none 0 0] 31)
  have B := al (al (Below.refl w.heap.size w) (.cells #[.int .i8 (W : Int), .int .i8 (H : Int), .slice (some ⟨g, 0, none⟩) n n] 31)) (.cells #[.int .i8 0, .int .i8 0, .slice none 0 0] 31)
  have H1 : Bx ((w.alloc (.cells #[.int .i8 (W : Int), .int .i8 (H : Int), .slice (some ⟨g, 0, none⟩) n n] 31)).alloc (.cells #[.int .i8 0, .int .i8 0, .slice none 0 0] 31)) (w.heap.size + 1) #[.int .i8 0, .int .i8 0, .slice none 0 0] 31 := Bx.newAt _ _ _ _ (by simp)
  obtain ⟨W0, hW0⟩ : ∃ W0 : World, W0 = ((w.alloc (.cells #[.int .i8 (W : Int), .int .i8 (H : Int), .slice (some ⟨g, 0, none⟩) n n] 31)).alloc (.cells #[.int .i8 0, .int .i8 0, .slice none 0 0] 31)) := ⟨_, rfl⟩
  rw [← hW0] at HQ B H1 ⊢
  clear hW0
  refine (ok_any W H w.heap.size g n c _ (by omega) (by omega) HC.out hm HQ (HROW.out.of_block (B.block _ hgl))).mono ?_
  rintro e w2 ⟨hb, ⟨_, rfl⟩ | ⟨h, _⟩⟩
  case inr => exact absurd HV.out h
  replace HQ := HQ.below hb
  replace H1 := H1.below hb
  replace B := nxt B hb
  clear hb
  have d1 : decide (10 < k1) = false := by simp; omega
  go_wp2_with fail
  refine (l05Each_any A2 k1 m cap2 o _ (by omega) hmm hcap2 ((HR2.out.below B).mono B.size)).mono ?_
  rintro e w2 ⟨hb, ⟨h, _⟩ | ⟨_, rfl⟩⟩
  · exact absurd HE.out h
  replace HQ := HQ.below hb
  replace H1 := H1.below hb
  replace B := nxt B hb
  clear hb
  clear d1
  have hsz2 : w.heap.size + 2 ≤ w2.heap.size := H1.lt
  go_upto_region 7 with fail
  go_cut [8] (fun t8 wx => ∃ bo go cp : Nat, t8 = .pointer (some ⟨bo, 0, none⟩) ∧ Below w.heap.size w wx ∧ Bx wx (w.heap.size + 1) #[.int .i8 0, .int .i8 0, .slice none 0 0] 31 ∧ Bx wx bo #[.int .i8 (W : Int), .int .i8 (H : Int), .slice (some ⟨go, 0, none⟩) n cp] 31 ∧ Rw wx go n (fL (toL c n)) ∧ w.heap.size + 2 ≤ bo ∧ w.heap.size + 2 ≤ go ∧ go ≠ bo)
  case first =>
    replace B := B.drew
    replace H1 : Bx w2.drew (w.heap.size + 1) #[.int .i8 0, .int .i8 0, .slice none 0 0] 31 := H1
    replace HQ : Sq w2.drew w.heap.size (W : Int) (H : Int) (.slice (some ⟨g, 0, none⟩) n n) := HQ
    replace hsz2 : w.heap.size + 2 ≤ w2.drew.heap.size := hsz2
    obtain ⟨lq, pq, qq, rq⟩ := id HQ
    refine wp_region_held_drew (S := (fun w' : World => w'.cell? ⟨w.heap.size, 0, none⟩ = some (.int .i8 (W : Int)) ∧ w'.cell? ⟨w.heap.size, 1, none⟩ = some (.int .i8 (H : Int)) ∧ w'.cell? ⟨w.heap.size, 2, none⟩ = some (.slice (some ⟨g, 0, none⟩) n n))) (by kernel_rfl) ⟨pq, qq, rq⟩ (fun hHeld => ?_)
    obtain ⟨w3, hw3⟩ : ∃ w3, w2.drew = w3 := ⟨_, rfl⟩
    rw [hw3] at hHeld B H1 HQ hsz2 lq pq qq rq ⊢
    clear hw3
    refine wpAnyH_take (i := 0) (oi := _) (v := ?_) rfl (by kernel_rfl) (by kernel_rfl) (by kernel_rfl) (fun _ _ _ h => h) (Or.inl ⟨by kernel_rfl, ?_⟩) (by assumption) ?_
    rotate_left
    · intro w hSw; (try dsimp only at hSw); go_simp; first | done | with_reducible rfl
    try simp only [List.getElem_toArray, List.getElem_cons_zero, List.getElem_cons_succ, Act.put, List.setIfInBounds_toArray, List.set_cons_zero, List.set_cons_succ]
    refine wpAnyH_take (i := 1) (oi := _) (v := ?_) rfl (by kernel_rfl) (by kernel_rfl) (by kernel_rfl) (fun _ _ _ h => h) (Or.inl ⟨by kernel_rfl, ?_⟩) (by assumption) ?_
    rotate_left
    · intro w hSw; (try dsimp only at hSw); go_simp; first | done | with_reducible rfl
    try simp only [List.getElem_toArray, List.getElem_cons_zero, List.getElem_cons_succ, Act.put, List.setIfInBounds_toArray, List.set_cons_zero, List.set_cons_succ]
    refine wpAnyH_take (i := 2) (oi := _) (v := ?_) rfl (by kernel_rfl) (by kernel_rfl) (by kernel_rfl) (fun _ _ _ h => h) (Or.inl ⟨by kernel_rfl, ?_⟩) (by assumption) ?_
    rotate_left
    · intro w hSw; (try dsimp only at hSw); go_simp; first | done | with_reducible rfl
    try simp only [List.getElem_toArray, List.getElem_cons_zero, List.getElem_cons_succ, Act.put, List.setIfInBounds_toArray, List.set_cons_zero, List.set_cons_succ]
    refine wpAnyH_take (i := 3) (oi := _) (v := ?_) rfl (by kernel_rfl) (by kernel_rfl) (by kernel_rfl) (fun _ _ _ h => h) (Or.inl ⟨by kernel_rfl, ?_⟩) (by assumption) ?_
    rotate_left
    · intro w hSw; (try dsimp only at hSw); go_simp; first | done | with_reducible rfl
    try simp only [List.getElem_toArray, List.getElem_cons_zero, List.getElem_cons_succ, Act.put, List.setIfInBounds_toArray, List.set_cons_zero, List.set_cons_succ]
    refine wpAnyH_take (i := 5) (oi := _) (v := ?_) rfl (by kernel_rfl) (by kernel_rfl) (by kernel_rfl) (fun _ _ _ h => h) (Or.inl ⟨by kernel_rfl, ?_⟩) (by assumption) ?_
    rotate_left
    · intro w hSw; (try dsimp only at hSw); go_simp; first | done | with_reducible rfl
    try simp only [List.getElem_toArray, List.getElem_cons_zero, List.getElem_cons_succ, Act.put, List.setIfInBounds_toArray, List.set_cons_zero, List.set_cons_succ]
    refine wpAnyH_take (i := 6) (oi := _) (v := ?_) rfl (by kernel_rfl) (by kernel_rfl) (by kernel_rfl) (fun _ _ _ h => h) (Or.inl ⟨by kernel_rfl, ?_⟩) (by assumption) ?_
    rotate_left
    · intro w hSw; (try dsimp only at hSw); go_simp; first | done | with_reducible rfl
    try simp only [List.getElem_toArray, List.getElem_cons_zero, List.getElem_cons_succ, Act.put, List.setIfInBounds_toArray, List.set_cons_zero, List.set_cons_succ]
    refine wpAnyH_ready (rs := [4, 9]) (by kernel_rfl) (by simp) ?_
    refine AllReadyH.cons (o := _) rfl (fun K hK => ?_) (AllReadyH.cons (o := _) rfl (fun K hK => ?_) AllReadyH.nil)
    · skip
      go_simp
      have sb0 : w.heap.size + 2 ≤ w3.heap.size := hsz2
      have O0 : (w3.alloc (.cells #[] 110)).ownsRow (w.heap.size + 2) 110 4 (.slice (some ⟨w3.heap.size, 0, none⟩) 0 0) 0 [] := World.ownsRow_made w3 #[] 0 hsz2 (Nat.zero_le _) rfl
      replace HQ := HQ.alloc (.cells #[] 110)
      replace H1 := H1.alloc (.cells #[] 110)
      replace hsz2 : w.heap.size + 2 ≤ (w3.alloc (.cells #[] 110)).heap.size := by rw [World.size_alloc]; omega
      replace B := al B (.cells #[] 110)
      obtain ⟨sb, hsb⟩ : ∃ sb, sb = w3.heap.size := ⟨_, rfl⟩
      rw [← hsb] at O0 sb0 ⊢
      obtain ⟨wv1, hwn⟩ : ∃ v, w3.alloc (.cells #[] 110) = v := ⟨_, rfl⟩
      rw [hwn] at B hsz2 HQ H1 O0 ⊢
      clear hwn hsb
      clear lq pq qq rq
      obtain ⟨lq, pq, qq, rq⟩ := id HQ
      refine hK.out _ _ ⟨pq, qq, rq⟩ (fun hHeld => ?_)
      clear hK K
      try simp only [List.getElem_toArray, List.getElem_cons_zero, List.getElem_cons_succ, Act.put, List.setIfInBounds_toArray, List.set_cons_zero, List.set_cons_succ]
      refine wpAnyH_ready (rs := [7, 9]) (by kernel_rfl) (by simp) ?_
      refine AllReadyH.cons (o := _) rfl (fun K hK => ?_) (AllReadyH.cons (o := _) rfl (fun K hK => ?_) AllReadyH.nil)
      · skip
        have N5 : Hid (∀ j u, (encL (toL c n))[j]? = some u → wv1.cell? ((⟨g, 0, none⟩ : Addr).add j) = some u) := row_adds (HROW.out.of_block (B.block _ hgl))
        have HO0 := Lib.hid O0
        clear O0
        refine wp_append_own _ _ _ 29 rfl (w.heap.size + 2) 110 i0 (.agg #[.int .i8 0, .int .i8 0, .int .i8 0, .int .i8 0]) 4 4 Try.underlying29 HI.out hz0 hz1 hz2 rfl (by decide) (.slice (some ⟨sb, 0, none⟩) 0 0) 0 ([]) rfl HO0.out ⟨g, 0, none⟩ n n (encL (toL c n)) rfl HL0.out (N5) (encL_one _) (by unfold maxLen; omega) (by omega) (by omega) ?_
        intro v2 wv2 ow hg hn
        rw [Nat.zero_add] at ow
        obtain ⟨g5, cp5, rfl⟩ := own_block ow (fun e => by first | exact hn e | (have := hn.1 e; simp at this))
        replace HQ := HQ.of_block hg.size (hg.block _ HQ.1 (fun e => by simp [Value.ownBlock] at e; omega))
        replace H1 := H1.of_block (hg.block _ H1.lt (fun e => by simp [Value.ownBlock] at e; omega))
        replace B := B.grown hg B.size (fun k e => by simp [Value.ownBlock] at e; omega)
        replace hsz2 : w.heap.size + 2 ≤ wv2.heap.size := Nat.le_trans hsz2 hg.size
        have O : Rw wv2 g5 n (fL (toL c n)) := rw_own ow (toL_length c n)
        have g50 : w.heap.size + 2 ≤ g5 := (World.ownsRow.lt ow g5 rfl).1
        clear HO0 N5 ow hg hn
        clear lq pq qq rq
        obtain ⟨lq, pq, qq, rq⟩ := id HQ
        refine hK.out _ _ ⟨pq, qq, rq⟩ (fun hHeld => ?_)
        clear hK K
        try simp only [List.getElem_toArray, List.getElem_cons_zero, List.getElem_cons_succ, Act.put, List.setIfInBounds_toArray, List.set_cons_zero, List.set_cons_succ]
        refine wpAnyH_take (i := 8) (oi := _) (v := ?_) rfl (by kernel_rfl) (by kernel_rfl) (by kernel_rfl) (fun _ _ _ h => h) (Or.inl ⟨by kernel_rfl, ?_⟩) (by assumption) ?_
        rotate_left
        · intro w hSw; (try dsimp only at hSw); go_simp; first | done | with_reducible rfl
        try simp only [List.getElem_toArray, List.getElem_cons_zero, List.getElem_cons_succ, Act.put, List.setIfInBounds_toArray, List.set_cons_zero, List.set_cons_succ]
        refine wpAnyH_ready (rs := [9]) (by kernel_rfl) (by simp) ?_
        refine AllReadyH.cons (o := _) rfl (fun K hK => ?_) AllReadyH.nil
        go_simp
        have X := Bx.new wv2 #[.int .i8 0, .int .i8 0, .slice none 0 0] 31
        have bx0 : w.heap.size + 2 ≤ wv2.heap.size := hsz2
        have nx : g5 < wv2.heap.size := O.1
        replace O := O.alloc (.cells #[.int .i8 0, .int .i8 0, .slice none 0 0] 31)
        replace HQ := HQ.alloc (.cells #[.int .i8 0, .int .i8 0, .slice none 0 0] 31)
        replace H1 := H1.alloc (.cells #[.int .i8 0, .int .i8 0, .slice none 0 0] 31)
        replace hsz2 : w.heap.size + 2 ≤ (wv2.alloc (.cells #[.int .i8 0, .int .i8 0, .slice none 0 0] 31)).heap.size := by rw [World.size_alloc]; omega
        replace B := al B (.cells #[.int .i8 0, .int .i8 0, .slice none 0 0] 31)
        obtain ⟨bx, hbx⟩ : ∃ bx, bx = wv2.heap.size := ⟨_, rfl⟩
        rw [← hbx] at X bx0 nx ⊢
        obtain ⟨wv3, hwn⟩ : ∃ v, wv2.alloc (.cells #[.int .i8 0, .int .i8 0, .slice none 0 0] 31) = v := ⟨_, rfl⟩
        rw [hwn] at B hsz2 HQ H1 X O ⊢
        clear hwn hbx
        clear lq pq qq rq
        obtain ⟨lq, pq, qq, rq⟩ := id HQ
        refine hK.out _ _ ⟨pq, qq, rq⟩ (fun hHeld => ?_)
        clear hK K
        try simp only [List.getElem_toArray, List.getElem_cons_zero, List.getElem_cons_succ, Act.put, List.setIfInBounds_toArray, List.set_cons_zero, List.set_cons_succ]
        refine wpAnyH_ready (rs := [10]) (by kernel_rfl) (by simp) ?_
        refine AllReadyH.cons (o := _) rfl (fun K hK => ?_) AllReadyH.nil
        obtain ⟨p1, q1, r1⟩ := X.cells3
        have f10 := X.frozen 0
        have f11 := X.frozen 1
        have f12 := X.frozen 2
        have hneq : w.heap.size ≠ bx := by omega
        go_simp
        have F1 := X.set3 (.int .i8 (W : Int)) (.int .i8 (H : Int)) (.slice (some ⟨g5, 0, none⟩) n cp5)
        have B3 := below_set3 (g := bx) (v0 := .int .i8 (W : Int)) (v1 := .int .i8 (H : Int)) (v2 := .slice (some ⟨g5, 0, none⟩) n cp5) B (by omega)
        have H13 := H1.other3 (g := bx) (v0 := .int .i8 (W : Int)) (v1 := .int .i8 (H : Int)) (v2 := .slice (some ⟨g5, 0, none⟩) n cp5) (by omega)
        have hng : g5 ≠ bx := by omega
        have O3 := O.of_block (blk3 (v0 := .int .i8 (W : Int)) (v1 := .int .i8 (H : Int)) (v2 := .slice (some ⟨g5, 0, none⟩) n cp5) hng)
        have HQ3 := HQ.of_block (by simp) (blk3 (v0 := .int .i8 (W : Int)) (v1 := .int .i8 (H : Int)) (v2 := .slice (some ⟨g5, 0, none⟩) n cp5) hneq)
        clear lq pq qq rq
        obtain ⟨lq, pq, qq, rq⟩ := id HQ3
        refine hK.out _ _ ⟨pq, qq, rq⟩ (fun hHeld => ?_)
        clear hK K
        try simp only [List.getElem_toArray, List.getElem_cons_zero, List.getElem_cons_succ, Act.put, List.setIfInBounds_toArray, List.set_cons_zero, List.set_cons_succ]
        refine wpAnyH_done (by kernel_rfl) ?_ _
        go_wp2_with fail
        go_meet
        exact ⟨bx, g5, cp5, rfl, B3, H13, F1, O3, by omega, by omega, hng⟩
      · skip
        go_simp
        have X := Bx.new wv1 #[.int .i8 0, .int .i8 0, .slice none 0 0] 31
        have bx0 : w.heap.size + 2 ≤ wv1.heap.size := hsz2
        have nx : sb < wv1.heap.size := (World.ownsRow.lt O0 sb rfl).2
        replace O0 := World.ownsRow.alloc O0 (.cells #[.int .i8 0, .int .i8 0, .slice none 0 0] 31)
        replace HQ := HQ.alloc (.cells #[.int .i8 0, .int .i8 0, .slice none 0 0] 31)
        replace H1 := H1.alloc (.cells #[.int .i8 0, .int .i8 0, .slice none 0 0] 31)
        replace hsz2 : w.heap.size + 2 ≤ (wv1.alloc (.cells #[.int .i8 0, .int .i8 0, .slice none 0 0] 31)).heap.size := by rw [World.size_alloc]; omega
        replace B := al B (.cells #[.int .i8 0, .int .i8 0, .slice none 0 0] 31)
        obtain ⟨bx, hbx⟩ : ∃ bx, bx = wv1.heap.size := ⟨_, rfl⟩
        rw [← hbx] at X bx0 nx ⊢
        obtain ⟨wv2, hwn⟩ : ∃ v, wv1.alloc (.cells #[.int .i8 0, .int .i8 0, .slice none 0 0] 31) = v := ⟨_, rfl⟩
        rw [hwn] at B hsz2 HQ H1 X O0 ⊢
        clear hwn hbx
        clear lq pq qq rq
        obtain ⟨lq, pq, qq, rq⟩ := id HQ
        refine hK.out _ _ ⟨pq, qq, rq⟩ (fun hHeld => ?_)
        clear hK K
        try simp only [List.getElem_toArray, List.getElem_cons_zero, List.getElem_cons_succ, Act.put, List.setIfInBounds_toArray, List.set_cons_zero, List.set_cons_succ]
        refine wpAnyH_ready (rs := [7]) (by kernel_rfl) (by simp) ?_
        refine AllReadyH.cons (o := _) rfl (fun K hK => ?_) AllReadyH.nil
        have N5 : Hid (∀ j u, (encL (toL c n))[j]? = some u → wv2.cell? ((⟨g, 0, none⟩ : Addr).add j) = some u) := row_adds (HROW.out.of_block (B.block _ hgl))
        have HO0 := Lib.hid O0
        clear O0
        refine wp_append_own _ _ _ 29 rfl (w.heap.size + 2) 110 i0 (.agg #[.int .i8 0, .int .i8 0, .int .i8 0, .int .i8 0]) 4 4 Try.underlying29 HI.out hz0 hz1 hz2 rfl (by decide) (.slice (some ⟨sb, 0, none⟩) 0 0) 0 ([]) rfl HO0.out ⟨g, 0, none⟩ n n (encL (toL c n)) rfl HL0.out (N5) (encL_one _) (by unfold maxLen; omega) (by omega) (by omega) ?_
        intro v2 wv3 ow hg hn
        rw [Nat.zero_add] at ow
        obtain ⟨g5, cp5, rfl⟩ := own_block ow (fun e => by first | exact hn e | (have := hn.1 e; simp at this))
        replace HQ := HQ.of_block hg.size (hg.block _ HQ.1 (fun e => by simp [Value.ownBlock] at e; omega))
        replace H1 := H1.of_block (hg.block _ H1.lt (fun e => by simp [Value.ownBlock] at e; omega))
        replace X := X.of_block (hg.block _ X.lt (fun e => by simp [Value.ownBlock] at e; omega))
        replace B := B.grown hg B.size (fun k e => by simp [Value.ownBlock] at e; omega)
        replace hsz2 : w.heap.size + 2 ≤ wv3.heap.size := Nat.le_trans hsz2 hg.size
        have O : Rw wv3 g5 n (fL (toL c n)) := rw_own ow (toL_length c n)
        have g50 : w.heap.size + 2 ≤ g5 := (World.ownsRow.lt ow g5 rfl).1
        have ngx : g5 ≠ bx := fun e => types_apart ow (e ▸ X) (by decide)
        clear HO0 N5 ow hg hn
        clear lq pq qq rq
        obtain ⟨lq, pq, qq, rq⟩ := id HQ
        refine hK.out _ _ ⟨pq, qq, rq⟩ (fun hHeld => ?_)
        clear hK K
        try simp only [List.getElem_toArray, List.getElem_cons_zero, List.getElem_cons_succ, Act.put, List.setIfInBounds_toArray, List.set_cons_zero, List.set_cons_succ]
        refine wpAnyH_take (i := 8) (oi := _) (v := ?_) rfl (by kernel_rfl) (by kernel_rfl) (by kernel_rfl) (fun _ _ _ h => h) (Or.inl ⟨by kernel_rfl, ?_⟩) (by assumption) ?_
        rotate_left
        · intro w hSw; (try dsimp only at hSw); go_simp; first | done | with_reducible rfl
        try simp only [List.getElem_toArray, List.getElem_cons_zero, List.getElem_cons_succ, Act.put, List.setIfInBounds_toArray, List.set_cons_zero, List.set_cons_succ]
        refine wpAnyH_ready (rs := [10]) (by kernel_rfl) (by simp) ?_
        refine AllReadyH.cons (o := _) rfl (fun K hK => ?_) AllReadyH.nil
        obtain ⟨p1, q1, r1⟩ := X.cells3
        have f10 := X.frozen 0
        have f11 := X.frozen 1
        have f12 := X.frozen 2
        have hneq : w.heap.size ≠ bx := by omega
        go_simp
        have F1 := X.set3 (.int .i8 (W : Int)) (.int .i8 (H : Int)) (.slice (some ⟨g5, 0, none⟩) n cp5)
        have B3 := below_set3 (g := bx) (v0 := .int .i8 (W : Int)) (v1 := .int .i8 (H : Int)) (v2 := .slice (some ⟨g5, 0, none⟩) n cp5) B (by omega)
        have H13 := H1.other3 (g := bx) (v0 := .int .i8 (W : Int)) (v1 := .int .i8 (H : Int)) (v2 := .slice (some ⟨g5, 0, none⟩) n cp5) (by omega)
        have hng : g5 ≠ bx := ngx
        have O3 := O.of_block (blk3 (v0 := .int .i8 (W : Int)) (v1 := .int .i8 (H : Int)) (v2 := .slice (some ⟨g5, 0, none⟩) n cp5) hng)
        have HQ3 := HQ.of_block (by simp) (blk3 (v0 := .int .i8 (W : Int)) (v1 := .int .i8 (H : Int)) (v2 := .slice (some ⟨g5, 0, none⟩) n cp5) hneq)
        clear lq pq qq rq
        obtain ⟨lq, pq, qq, rq⟩ := id HQ3
        refine hK.out _ _ ⟨pq, qq, rq⟩ (fun hHeld => ?_)
        clear hK K
        try simp only [List.getElem_toArray, List.getElem_cons_zero, List.getElem_cons_succ, Act.put, List.setIfInBounds_toArray, List.set_cons_zero, List.set_cons_succ]
        refine wpAnyH_done (by kernel_rfl) ?_ _
        go_wp2_with fail
        go_meet
        exact ⟨bx, g5, cp5, rfl, B3, H13, F1, O3, by omega, by omega, hng⟩
    · skip
      go_simp
      have X := Bx.new w3 #[.int .i8 0, .int .i8 0, .slice none 0 0] 31
      have bx0 : w.heap.size + 2 ≤ w3.heap.size := hsz2
      replace HQ := HQ.alloc (.cells #[.int .i8 0, .int .i8 0, .slice none 0 0] 31)
      replace H1 := H1.alloc (.cells #[.int .i8 0, .int .i8 0, .slice none 0 0] 31)
      replace hsz2 : w.heap.size + 2 ≤ (w3.alloc (.cells #[.int .i8 0, .int .i8 0, .slice none 0 0] 31)).heap.size := by rw [World.size_alloc]; omega
      replace B := al B (.cells #[.int .i8 0, .int .i8 0, .slice none 0 0] 31)
      obtain ⟨bx, hbx⟩ : ∃ bx, bx = w3.heap.size := ⟨_, rfl⟩
      rw [← hbx] at X bx0 ⊢
      obtain ⟨wv1, hwn⟩ : ∃ v, w3.alloc (.cells #[.int .i8 0, .int .i8 0, .slice none 0 0] 31) = v := ⟨_, rfl⟩
      rw [hwn] at B hsz2 HQ H1 X ⊢
      clear hwn hbx
      clear lq pq qq rq
      obtain ⟨lq, pq, qq, rq⟩ := id HQ
      refine hK.out _ _ ⟨pq, qq, rq⟩ (fun hHeld => ?_)
      clear hK K
      try simp only [List.getElem_toArray, List.getElem_cons_zero, List.getElem_cons_succ, Act.put, List.setIfInBounds_toArray, List.set_cons_zero, List.set_cons_succ]
      refine wpAnyH_ready (rs := [4]) (by kernel_rfl) (by simp) ?_
      refine AllReadyH.cons (o := _) rfl (fun K hK => ?_) AllReadyH.nil
      go_simp
      have sb0 : w.heap.size + 2 ≤ wv1.heap.size := hsz2
      have O0 : (wv1.alloc (.cells #[] 110)).ownsRow (w.heap.size + 2) 110 4 (.slice (some ⟨wv1.heap.size, 0, none⟩) 0 0) 0 [] := World.ownsRow_made wv1 #[] 0 hsz2 (Nat.zero_le _) rfl
      have nx : bx < wv1.heap.size := X.lt
      replace X := X.alloc (.cells #[] 110)
      replace HQ := HQ.alloc (.cells #[] 110)
      replace H1 := H1.alloc (.cells #[] 110)
      replace hsz2 : w.heap.size + 2 ≤ (wv1.alloc (.cells #[] 110)).heap.size := by rw [World.size_alloc]; omega
      replace B := al B (.cells #[] 110)
      obtain ⟨sb, hsb⟩ : ∃ sb, sb = wv1.heap.size := ⟨_, rfl⟩
      rw [← hsb] at O0 sb0 nx ⊢
      obtain ⟨wv2, hwn⟩ : ∃ v, wv1.alloc (.cells #[] 110) = v := ⟨_, rfl⟩
      rw [hwn] at B hsz2 HQ H1 O0 X ⊢
      clear hwn hsb
      clear lq pq qq rq
      obtain ⟨lq, pq, qq, rq⟩ := id HQ
      refine hK.out _ _ ⟨pq, qq, rq⟩ (fun hHeld => ?_)
      clear hK K
      try simp only [List.getElem_toArray, List.getElem_cons_zero, List.getElem_cons_succ, Act.put, List.setIfInBounds_toArray, List.set_cons_zero, List.set_cons_succ]
      refine wpAnyH_ready (rs := [7]) (by kernel_rfl) (by simp) ?_
      refine AllReadyH.cons (o := _) rfl (fun K hK => ?_) AllReadyH.nil
      have N5 : Hid (∀ j u, (encL (toL c n))[j]? = some u → wv2.cell? ((⟨g, 0, none⟩ : Addr).add j) = some u) := row_adds (HROW.out.of_block (B.block _ hgl))
      have HO0 := Lib.hid O0
      clear O0
      refine wp_append_own _ _ _ 29 rfl (w.heap.size + 2) 110 i0 (.agg #[.int .i8 0, .int .i8 0, .int .i8 0, .int .i8 0]) 4 4 Try.underlying29 HI.out hz0 hz1 hz2 rfl (by decide) (.slice (some ⟨sb, 0, none⟩) 0 0) 0 ([]) rfl HO0.out ⟨g, 0, none⟩ n n (encL (toL c n)) rfl HL0.out (N5) (encL_one _) (by unfold maxLen; omega) (by omega) (by omega) ?_
      intro v2 wv3 ow hg hn
      rw [Nat.zero_add] at ow
      obtain ⟨g5, cp5, rfl⟩ := own_block ow (fun e => by first | exact hn e | (have := hn.1 e; simp at this))
      replace HQ := HQ.of_block hg.size (hg.block _ HQ.1 (fun e => by simp [Value.ownBlock] at e; omega))
      replace H1 := H1.of_block (hg.block _ H1.lt (fun e => by simp [Value.ownBlock] at e; omega))
      replace X := X.of_block (hg.block _ X.lt (fun e => by simp [Value.ownBlock] at e; omega))
      replace B := B.grown hg B.size (fun k e => by simp [Value.ownBlock] at e; omega)
      replace hsz2 : w.heap.size + 2 ≤ wv3.heap.size := Nat.le_trans hsz2 hg.size
      have O : Rw wv3 g5 n (fL (toL c n)) := rw_own ow (toL_length c n)
      have g50 : w.heap.size + 2 ≤ g5 := (World.ownsRow.lt ow g5 rfl).1
      have ngx : g5 ≠ bx := fun e => types_apart ow (e ▸ X) (by decide)
      clear HO0 N5 ow hg hn
      clear lq pq qq rq
      obtain ⟨lq, pq, qq, rq⟩ := id HQ
      refine hK.out _ _ ⟨pq, qq, rq⟩ (fun hHeld => ?_)
      clear hK K
      try simp only [List.getElem_toArray, List.getElem_cons_zero, List.getElem_cons_succ, Act.put, List.setIfInBounds_toArray, List.set_cons_zero, List.set_cons_succ]
      refine wpAnyH_take (i := 8) (oi := _) (v := ?_) rfl (by kernel_rfl) (by kernel_rfl) (by kernel_rfl) (fun _ _ _ h => h) (Or.inl ⟨by kernel_rfl, ?_⟩) (by assumption) ?_
      rotate_left
      · intro w hSw; (try dsimp only at hSw); go_simp; first | done | with_reducible rfl
      try simp only [List.getElem_toArray, List.getElem_cons_zero, List.getElem_cons_succ, Act.put, List.setIfInBounds_toArray, List.set_cons_zero, List.set_cons_succ]
      refine wpAnyH_ready (rs := [10]) (by kernel_rfl) (by simp) ?_
      refine AllReadyH.cons (o := _) rfl (fun K hK => ?_) AllReadyH.nil
      obtain ⟨p1, q1, r1⟩ := X.cells3
      have f10 := X.frozen 0
      have f11 := X.frozen 1
      have f12 := X.frozen 2
      have hneq : w.heap.size ≠ bx := by omega
      go_simp
      have F1 := X.set3 (.int .i8 (W : Int)) (.int .i8 (H : Int)) (.slice (some ⟨g5, 0, none⟩) n cp5)
      have B3 := below_set3 (g := bx) (v0 := .int .i8 (W : Int)) (v1 := .int .i8 (H : Int)) (v2 := .slice (some ⟨g5, 0, none⟩) n cp5) B (by omega)
      have H13 := H1.other3 (g := bx) (v0 := .int .i8 (W : Int)) (v1 := .int .i8 (H : Int)) (v2 := .slice (some ⟨g5, 0, none⟩) n cp5) (by omega)
      have hng : g5 ≠ bx := ngx
      have O3 := O.of_block (blk3 (v0 := .int .i8 (W : Int)) (v1 := .int .i8 (H : Int)) (v2 := .slice (some ⟨g5, 0, none⟩) n cp5) hng)
      have HQ3 := HQ.of_block (by simp) (blk3 (v0 := .int .i8 (W : Int)) (v1 := .int .i8 (H : Int)) (v2 := .slice (some ⟨g5, 0, none⟩) n cp5) hneq)
      clear lq pq qq rq
      obtain ⟨lq, pq, qq, rq⟩ := id HQ3
      refine hK.out _ _ ⟨pq, qq, rq⟩ (fun hHeld => ?_)
      clear hK K
      try simp only [List.getElem_toArray, List.getElem_cons_zero, List.getElem_cons_succ, Act.put, List.setIfInBounds_toArray, List.set_cons_zero, List.set_cons_succ]
      refine wpAnyH_done (by kernel_rfl) ?_ _
      go_wp2_with fail
      go_meet
      exact ⟨bx, g5, cp5, rfl, B3, H13, F1, O3, by omega, by omega, hng⟩
  clear HQ H1 B
  obtain ⟨bo, go, cp, rfl, B, H1, HO, HR, hbo, hgo, hne⟩ := hcut
  obtain ⟨w4, rfl⟩ : ∃ V : World, wc = V := ⟨_, rfl⟩
  obtain ⟨D0, hD0⟩ : ∃ D0, D0 = toL c n := ⟨_, rfl⟩
  have hl0 : D0.length = n := by rw [hD0, toL_length]
  have HR0 : Hid (LaRel W H n R ((seqL l o m).drop 0) D0 D0) := Lib.hid (by
    rw [hD0]
    exact ⟨by rw [toL_length]; exact Nat.le_refl _, by rw [toL_length]; exact hn60, HFIT.out, sorted_self HV.out, HRR.out.symm⟩)
  rw [← hD0, ← hl0] at HR
  rw [← hl0] at HO
  clear hD0 hl0 HRR HFIT HV HC HROW
  go_wp2_with fail
  go_loopw [9, 10] (fun t9 t10 wr => ∃ (k : Nat) (D L : List S4) (go cp : Nat), k ≤ m ∧ t10 = .int .i64 k ∧ t9 = .bool false ∧ Below w.heap.size w wr ∧ Bx wr (w.heap.size + 1) #[.int .i8 0, .int .i8 0, .slice none 0 0] 31 ∧ Bx wr bo #[.int .i8 (W : Int), .int .i8 (H : Int), .slice (some ⟨go, 0, none⟩) D.length cp] 31 ∧ Rw wr go D.length (fL L) ∧ w.heap.size + 2 ≤ go ∧ go ≠ bo ∧ Hid (LaRel W H n R ((seqL l o m).drop k) D L)) (fun t9 t10 wr => m - (intOf t10).toNat)
  case atStart => exact ⟨0, D0, D0, go, cp, by omega, rfl, rfl, B, H1, HO, HR, hgo, hne, HR0⟩
  case round =>
    clear B H1 HO HR hgo hne HR0
    obtain ⟨k, D, L, go, cp, hk, rfl, rfl, B, H1, HO, HR, hgo, hne, HF⟩ := hrel
    have hDn : n ≤ D.length := HF.out.1
    have hD60 : D.length ≤ 60 := HF.out.2.1
    obtain ⟨d, hd'⟩ : ∃ d, d = D.length := ⟨_, rfl⟩
    rw [← hd'] at hDn hD60 HO HR
    have HM := Lib.hid hd'
    clear hd'
    have HLen : Hid (L.length = d) := Lib.hid (by rw [HM.out]; exact HF.out.2.2.2.1.1.length_eq)
    have hszo : bo < wr.heap.size := HO.lt
    obtain ⟨wo, rfl⟩ : ∃ V : World, V = wr := ⟨_, rfl⟩
    obtain ⟨p0, q0, r0⟩ := HO.cells3
    by_cases hlt : k < m
    · have hki : (k : Int) < (m : Int) := by omega
      have hx := HE.out.2.1 k hlt
      obtain ⟨x0, hx0⟩ := Int.eq_ofNat_of_zero_le hx.1
      have hxk : x0 < k1 := by rw [hx0] at hx; omega
      have hxi : (x0 : Int) < (k1 : Int) := by omega
      have HX0 := Lib.hid hx0
      have HSEQ := Lib.hid (seq_drop (l := l) hlt hx0)
      clear hx hx0
      by_cases h6 : d = 60
      · have d6 : ((d : Int) == 60) = true := by rw [h6]; rfl
        have HRD : Hid (R = (3, [])) := Lib.hid (by
          rw [← HF.out.2.2.2.2, HSEQ.out]
          exact layR_full (by rw [← HM.out]; exact h6))
        clear h6
        have hszb1 : w.heap.size + 1 < wo.heap.size := H1.lt
        have hszb2 : w.heap.size ≤ wo.heap.size := B.size
        obtain ⟨p1, q1, r1⟩ := H1.cells3
        have f10 := H1.frozen 0
        have f11 := H1.frozen 1
        have f12 := H1.frozen 2
        go_wp2_with fail
        have F1 := H1.set3 (.int .i8 0) (.int .i8 0) (.slice none 0 0)
        have B3 := below_set3 (g := w.heap.size + 1) (v0 := .int .i8 0) (v1 := .int .i8 0) (v2 := .slice none 0 0) B (by omega)
        obtain ⟨x1, y1, z1⟩ := F1.cells3
        exact bodyPost_ret (v := .tuple #[.agg #[.int .i8 0, .int .i8 0, .slice none 0 0], .int .i64 3]) (by simp [results, Try.results37, go_sem, x1, y1, z1]) rfl (by rw [HRD.out]; exact ⟨B3, .inr ⟨by decide, _, rfl, fillWith.has_nil _ _⟩⟩)
      · have d6 : ((d : Int) == 60) = false := by rw [beq_eq_false_iff_ne]; omega
        have H6 : Hid (D.length ≠ 60) := Lib.hid (by rw [← HM.out]; exact h6)
        have hd59 : d < 60 := by omega
        clear h6
        obtain ⟨b2, off2, rfl, hbl2, c0⟩ := rdInt64 (HR2.out.below B) hlt
        rw [HX0.out] at c0
        obtain ⟨b1, off1, rfl, hbl1, s0, s1, s2, s3⟩ := (HR1.out.below B).at4 hxk
        have y0 := HLB.out (4 * x0)
        have y1 := HLB.out (4 * x0 + 1)
        have y2 := HLB.out (4 * x0 + 2)
        have y3 := HLB.out (4 * x0 + 3)
        obtain ⟨r, hr⟩ := dec_exL (LaS W H D (s4 l x0))
        have hrG : r = true ↔ Layable W H (gridN (fL L) d) (l (4 * x0)) (l (4 * x0 + 1)) (l (4 * x0 + 2)) (l (4 * x0 + 3)) := by
          rw [hr]
          refine layable_congr (fun p => ?_)
          rw [← HLen.out]
          exact (zero_perm HF.out.2.2.2.1.1 p).symm
        have HRR := Lib.hid hr
        have hcan := Lib.hid (l05Can_anyG cp W H bo go d (fL L) (l (4 * x0)) (l (4 * x0 + 1)) (l (4 * x0 + 2)) (l (4 * x0 + 3)) r wo (by omega) (by omega) (fL_bd (by omega) (by omega) (HF.out.2.2.1.perm HF.out.2.2.2.1.1.symm)) (by omega) y0 y1 y2 y3 HO.sq HR (by
          have := HF.out.2.2.1.valid (by omega) (by omega) (by omega) (by omega) HF.out.2.2.2.1 (by rw [← HM.out]; omega)
          rw [HLen.out] at this
          exact this) hrG)
        clear hr hrG y0 y1 y2 y3
        go_wp2_with fail
        refine hcan.out.mono ?_
        rintro e w1 ⟨rfl, hb⟩
        clear hcan p0 q0 r0 s0 s1 s2 s3 c0 d6 hszo
        replace B := nxt B hb
        replace H1 := H1.below hb
        replace HO := HO.below hb
        replace HR := HR.below hb
        clear hb
        cases r with
        | false =>
          have HRD : Hid (R = (4, [])) := Lib.hid (by
            rw [← HF.out.2.2.2.2, HSEQ.out]
            exact layR_no H6.out (fun h => by have := HRR.out.2 h; cases this))
          have hszb1 : w.heap.size + 1 < w1.heap.size := H1.lt
          have hszb2 : w.heap.size ≤ w1.heap.size := B.size
          obtain ⟨p1, q1, r1⟩ := H1.cells3
          have f10 := H1.frozen 0
          have f11 := H1.frozen 1
          have f12 := H1.frozen 2
          go_wp2_with fail
          have F1 := H1.set3 (.int .i8 0) (.int .i8 0) (.slice none 0 0)
          have B3 := below_set3 (g := w.heap.size + 1) (v0 := .int .i8 0) (v1 := .int .i8 0) (v2 := .slice none 0 0) B (by omega)
          obtain ⟨x1, y1, z1⟩ := F1.cells3
          exact bodyPost_ret (v := .tuple #[.agg #[.int .i8 0, .int .i8 0, .slice none 0 0], .int .i64 4]) (by simp [results, Try.results37, go_sem, x1, y1, z1]) rfl (by rw [HRD.out]; exact ⟨B3, .inr ⟨by decide, _, rfl, fillWith.has_nil _ _⟩⟩)
        | true =>
          have HLS : Hid (LaS W H D (s4 l x0)) := Lib.hid (HRR.out.1 rfl)
          obtain ⟨b2', off2', e2', hbl2', c0⟩ := rdInt64 (HR2.out.below B) hlt
          obtain ⟨rfl, rfl⟩ := addr_injL e2'
          rw [HX0.out] at c0
          obtain ⟨b1', off1', e1', hbl1', s0, s1, s2, s3⟩ := (HR1.out.below B).at4 hxk
          obtain ⟨rfl, rfl⟩ := addr_injL e1'
          obtain ⟨a0, ha0⟩ : ∃ a, a = l (4 * x0) := ⟨_, rfl⟩
          obtain ⟨a1, ha1⟩ : ∃ a, a = l (4 * x0 + 1) := ⟨_, rfl⟩
          obtain ⟨a2, ha2⟩ : ∃ a, a = l (4 * x0 + 2) := ⟨_, rfl⟩
          obtain ⟨a3, ha3⟩ : ∃ a, a = l (4 * x0 + 3) := ⟨_, rfl⟩
          have HS4 : Hid (s4 l x0 = (a0, a1, a2, a3)) := Lib.hid (by unfold s4; rw [ha0, ha1, ha2, ha3])
          rw [← ha0] at s0
          rw [← ha1] at s1
          rw [← ha2] at s2
          rw [← ha3] at s3
          clear ha0 ha1 ha2 ha3 e1' e2'
          have hbo2 : bo < w1.heap.size := HO.lt
          have HP := Lib.hid (put_anyG cp W H bo go d (fL L) a0 a1 a2 a3 w1 hD60 HO.sq HR)
          go_wp2_with fail
          refine HP.out.mono ?_
          clear HP
          rintro e w3 ⟨hb, v3, L3, rfl, hs3, S3⟩
          replace B := nxt B hb
          replace H1 := H1.below hb
          replace HO := HO.below hb
          clear hb HR s0 s1 s2 s3 c0
          obtain ⟨go3, cp3, rfl, hgo3, HR3⟩ := has_rw S3
          have hne3 : go3 ≠ bo := by have h1 := hbo2; omega
          have hszw : w.heap.size + 2 ≤ w1.heap.size := by omega
          clear S3
          have HF3 : Hid (LaRel W H n R ((seqL l o m).drop (k + 1)) (D ++ [(a0, a1, a2, a3)]) L3) := Lib.hid (by
            have hls := HLS.out
            rw [HS4.out] at hls
            have hfit := hls.fit (by omega) (by omega) HF.out.2.2.1
            refine ⟨by rw [List.length_append]; have := HF.out.1; omega, by rw [List.length_append, ← HM.out]; simp; omega, hfit.1, ?_, ?_⟩
            · refine SortedOf.snoc HF.out.2.2.2.1 ?_
              have h := hs3
              unfold putL at h
              rw [← HLen.out, toL_fL] at h
              exact h
            · have h := HF.out.2.2.2.2
              rw [HSEQ.out, HS4.out, layR_yes H6.out hls] at h
              exact h)
          have HS3 := Lib.hid hs3
          clear hs3
          obtain ⟨p0, q0, r0⟩ := HO.cells3
          have f0 := HO.frozen 0
          have f1 := HO.frozen 1
          have f2 := HO.frozen 2
          go_wp2_with fail
          have F1 := HO.set3 (.int .i8 (W : Int)) (.int .i8 (H : Int)) (.slice (some ⟨go3, 0, none⟩) (d + 1) cp3)
          have B3 := below_set3 (g := bo) (v0 := .int .i8 (W : Int)) (v1 := .int .i8 (H : Int)) (v2 := .slice (some ⟨go3, 0, none⟩) (d + 1) cp3) B (by omega)
          have H13 := H1.other3 (g := bo) (v0 := .int .i8 (W : Int)) (v1 := .int .i8 (H : Int)) (v2 := .slice (some ⟨go3, 0, none⟩) (d + 1) cp3) (by omega)
          have HR4 := HR3.of_block (blk3 (v0 := .int .i8 (W : Int)) (v1 := .int .i8 (H : Int)) (v2 := .slice (some ⟨go3, 0, none⟩) (d + 1) cp3) hne3)
          have hlen : (D ++ [(a0, a1, a2, a3)]).length = d + 1 := by rw [List.length_append, ← HM.out]; rfl
          exact ⟨⟨k + 1, D ++ [(a0, a1, a2, a3)], L3, go3, cp3, by omega, by first | go_num | simp, rfl, B3, H13, by rw [hlen]; exact F1, by rw [hlen]; exact HR4, by omega, hne3, HF3⟩, by simp [intOf]; omega⟩
    · obtain rfl : k = m := by omega
      have hki : ¬ ((k : Int) < (k : Int)) := by omega
      have HRD : Hid (R = (0, D)) := Lib.hid (by rw [← HF.out.2.2.2.2, seq_end]; rfl)
      obtain ⟨p1, q1, r1⟩ := H1.cells3
      have f0 := H1.frozen 0
      have f1 := H1.frozen 1
      have f2 := H1.frozen 2
      have hsz2 : w.heap.size ≤ wo.heap.size := B.size
      have HSO := Lib.hid HF.out.2.2.2.1
      go_wp2_with fail
      have F1 := H1.set3 (.int .i8 (W : Int)) (.int .i8 (H : Int)) (.slice (some ⟨go, 0, none⟩) d cp)
      have B3 := below_set3 (g := w.heap.size + 1) (v0 := .int .i8 (W : Int)) (v1 := .int .i8 (H : Int)) (v2 := .slice (some ⟨go, 0, none⟩) d cp) B (by omega)
      have HR4 := HR.of_block (blk3 (g := w.heap.size + 1) (v0 := .int .i8 (W : Int)) (v1 := .int .i8 (H : Int)) (v2 := .slice (some ⟨go, 0, none⟩) d cp) (by omega))
      obtain ⟨x1, y1, z1⟩ := F1.cells3
      refine bodyPost_ret (v := .tuple #[.agg #[.int .i8 (W : Int), .int .i8 (H : Int), .slice (some ⟨go, 0, none⟩) d cp], .int .i64 0]) (by simp [results, Try.results37, go_sem, x1, y1, z1]) rfl ?_
      rw [HRD.out]
      exact ⟨B3, .inl ⟨rfl, .slice (some ⟨go, 0, none⟩) d cp, L, rfl, HSO.out, by rw [← HM.out]; exact rw_has HR4 (by omega)⟩⟩
end layAll
end Go.Proofs.Ytkdakpbkpfigeaa

namespace Go.Proofs.Ytkdakpbkpfigeaa
open Go Go.ChangeShapes Go.WideShapes Go.ChangeAt Go.RowKit canPut
set_option linter.unusedVariables false
set_option linter.unusedSimpArgs false
set_option maxRecDepth 100000
set_option maxHeartbeats 4000000

namespace layAll
theorem impl_in (W H g n : Nat) (c : Nat → Int) (A1 : Option Addr) (k1 cap1 : Nat) (l : Nat → Int) (A2 : Option Addr) (m cap2 : Nat) (o : Nat → Int) (w : World) (hc : ∀ j, -128 ≤ c j ∧ c j ≤ 127) (hm : n ≤ 1048576) (hrow : w.rowIs g 110 (4 * n) (fun j => .int .i8 (c j))) (hv : Valid W H n c) (hk1 : k1 ≤ 10) (hmm : m ≤ 1048576) (hcap2 : m ≤ cap2)
    (hl : ∀ j, -128 ≤ l j ∧ l j ≤ 127) (hr1 : Rd8 w w.heap.size A1 (4 * k1) l) (hr2 : RdK .i64 w w.heap.size A2 m o) (he : Each k1 m o) :
    Calls Try.prog 39 #[.agg #[.int .i8 (W : Int), .int .i8 (H : Int), .slice (some ⟨g, 0, none⟩) n n], .slice A1 k1 cap1, .slice A2 m cap2] w (LaPost W H (layR W H (seqL l o m) (toL c n)).1 (layR W H (seqL l o m) (toL c n)).2 w) := by
  have hW : W ≤ 12 := by have := hv.2.1; omega
  have hH : H ≤ 12 := by have := hv.2.2.2.1; omega
  have hW1 : 1 ≤ W := by have := hv.1; omega
  have hH1 : 1 ≤ H := by have := hv.2.2.1; omega
  have hn60 : n ≤ 60 := hv.2.2.2.2.1
  obtain ⟨i0, hi0, hz0, hz1, hz2⟩ := info_parts infoSlab
  have HI := Lib.hid hi0
  have HC := Lib.hid hc
  have HL0 : Hid ((encL (toL c n)).length = n * 4) := Lib.hid (by rw [encL_length, toL_length])
  have HFIT := Lib.hid (Fit4.of_valid hv)
  obtain ⟨R, hR⟩ : ∃ R, R = layR W H (seqL l o m) (toL c n) := ⟨_, rfl⟩
  rw [← hR]
  have HRR := Lib.hid hR
  have hgl := hrow.lt
  have HROW := Lib.hid hrow
  have HV := Lib.hid hv
  have HE := Lib.hid he
  have HLB := Lib.hid hl
  have HR1 := Lib.hid hr1
  have HR2 := Lib.hid hr2
  clear hc hi0 hR hrow hv he hl hr1 hr2
  go_enter Try.func39, Try.ntmps39
  go_wp2_with fail
  have HQ := (Sq.new w (W : Int) (H : Int) (.slice (some ⟨g, 0, none⟩) n n) 31).alloc (.cells #[.int .i8 0, .int .i8 0, .slice none 0 0] 31)
  have B := al (al (Below.refl w.heap.size w) (.cells #[.int .i8 (W : Int), .int .i8 (H : Int), .slice (some ⟨g, 0, none⟩) n n] 31)) (.cells #[.int .i8 0, .int .i8 0, .slice none 0 0] 31)
  have H1 : Bx ((w.alloc (.cells #[.int .i8 (W : Int), .int .i8 (H : Int), .slice (some ⟨g, 0, none⟩) n n] 31)).alloc (.cells #[.int .i8 0, .int .i8 0, .slice none 0 0] 31)) (w.heap.size + 1) #[.int .i8 0, .int .i8 0, .slice none 0 0] 31 := Bx.newAt _ _ _ _ (by simp)
  obtain ⟨W0, hW0⟩ : ∃ W0 : World, W0 = ((w.alloc (.cells #[.int .i8 (W : Int), .int .i8 (H : Int), .slice (some ⟨g, 0, none⟩) n n] 31)).alloc (.cells #[.int .i8 0, .int .i8 0, .slice none 0 0] 31)) := ⟨_, rfl⟩
  rw [← hW0] at HQ B H1 ⊢
  clear hW0
  refine (implValid_any W H g n c _ (by omega) (by omega) HC.out hm (HROW.out.of_block (B.block _ hgl))).mono ?_
  rintro e w2 ⟨hb, ⟨h, rfl⟩ | ⟨h, _⟩⟩
  case inr => exact absurd HV.out h
  clear h
  replace HQ := HQ.below hb
  replace H1 := H1.below hb
  replace B := nxt B hb
  clear hb
  have d1 : decide (10 < k1) = false := by simp; omega
  go_wp2_with fail
  refine (hasEach_any A2 k1 m cap2 o _ (by omega) hmm ((HR2.out.below B).mono B.size)).mono ?_
  rintro e w2 ⟨hb, ⟨h, _⟩ | ⟨_, rfl⟩⟩
  · exact absurd HE.out h
  replace HQ := HQ.below hb
  replace H1 := H1.below hb
  replace B := nxt B hb
  clear hb
  clear d1
  obtain ⟨lq, pq, qq, rq⟩ := id HQ
  go_wp2_with fail
  refine (gridOf_any W H g n c _ HC.out HV.out (HROW.out.of_block (B.block _ hgl))).mono ?_
  rintro e w4 ⟨hb, cs, rfl, hsz, hone, hcell⟩
  replace HQ := HQ.below hb
  replace H1 := H1.below hb
  replace B := nxt B hb
  clear hb lq pq qq rq
  have hG : (w4.alloc (.cells Try.zeroCells105 105)).heap[w4.heap.size]? = some (.cells Try.zeroCells105 105 (0, 0)) := heap_alloc_new w4 _
  have B4 := below_setRow (al B (.cells Try.zeroCells105 105)) B.size cs
  have R4 : ((w4.alloc (.cells Try.zeroCells105 105)).setRow w4.heap.size cs).rowIs w4.heap.size 105 144 (fun p => .int .i8 (gridL (toL c n) p)) := ⟨cs, setRow_heap _ _ _ _ _ _ hG, hsz, fun p hp => by show cs[p]? = some (Value.int IntKind.i8 (gridL (toL c n) p)); rw [hcell p hp]; unfold gridL; rw [toL_length, grid_toL]⟩
  have HQ4 : Sq ((w4.alloc (.cells Try.zeroCells105 105)).setRow w4.heap.size cs) w.heap.size (W : Int) (H : Int) (.slice (some ⟨g, 0, none⟩) n n) := (HQ.alloc _).of_block (by rw [setRow_size]; exact Nat.le_refl _) (setRow_other _ _ _ _ (by have := HQ.1; omega))
  have H14 : Bx ((w4.alloc (.cells Try.zeroCells105 105)).setRow w4.heap.size cs) (w.heap.size + 1) #[.int .i8 0, .int .i8 0, .slice none 0 0] 31 := (H1.alloc _).of_block (setRow_other _ _ _ _ (by have := H1.lt; omega))
  have hbg : w.heap.size + 2 ≤ w4.heap.size := H1.lt
  obtain ⟨W4, hW4⟩ : ∃ W4 : World, W4 = ((w4.alloc (.cells Try.zeroCells105 105)).setRow w4.heap.size cs) := ⟨_, rfl⟩
  have hs4 : w4.heap.size + 1 ≤ W4.heap.size := by rw [hW4, setRow_size]; simp
  go_wp2_with (first
    | (refine wpList_store_row rfl 105 (.tmp 8) (.tmp 31) rfl w4.heap.size cs rfl rfl 105 Try.zeroCells105 (heap_alloc_new w4 _) (by rw [infoGrid, hsz]) (by rw [zi_size, hsz]) hone ?_
       rw [← hW4] at B4 HQ4 H14 R4 ⊢
       clear hW4 hG HQ H1 B hcell hsz hone
       obtain ⟨lq, pq, qq, rq⟩ := id HQ4))
  obtain ⟨bg, hbgE⟩ : ∃ bg, bg = w4.heap.size := ⟨_, rfl⟩
  rw [← hbgE] at R4 hbg hs4 ⊢
  clear hbgE lq pq qq rq
  refine (clone_any g n n c _ hm (HROW.out.of_block (B4.block _ hgl))).mono ?_
  rintro e w5 ⟨hb, vc, rfl, OC⟩
  have HQ := HQ4.below hb
  have H1 := H14.below hb
  have RG := rowNext0 R4 hb
  have B := nxt B4 hb
  rw [rowV_enc] at OC
  have O : w5.ownsRow (bg + 1) 110 4 vc n (encL (toL c n)) := World.ownsRow.mono OC hs4
  clear hb HQ4 H14 R4 B4 OC hs4
  obtain ⟨D0, hD0⟩ : ∃ D0, D0 = toL c n := ⟨_, rfl⟩
  have hl0 : D0.length = n := by rw [hD0, toL_length]
  have HF0 : Hid (LaI W H n R ((seqL l o m).drop 0) D0) := Lib.hid (by
    rw [hD0]
    exact ⟨by rw [toL_length]; exact Nat.le_refl _, by rw [toL_length]; exact hn60, HFIT.out, HRR.out.symm⟩)
  rw [← hD0] at O RG
  have O' : w5.ownsRow (bg + 1) 110 4 vc D0.length (encL D0) := by rw [hl0]; exact O
  clear O hD0 hl0 HRR HFIT HV HC HROW
  go_wp2_with fail
  go_loopw [9, 11, 12, 37] (fun t9 t11 t12 t37 wr => ∃ (k : Nat) (D : List S4), k ≤ m ∧ t37 = .int .i64 k ∧ Below w.heap.size w wr ∧ Sq wr w.heap.size (W : Int) (H : Int) (.slice (some ⟨g, 0, none⟩) n n) ∧ Bx wr (w.heap.size + 1) #[.int .i8 0, .int .i8 0, .slice none 0 0] 31 ∧ wr.rowIs bg 105 144 (fun p => .int .i8 (gridL D p)) ∧ wr.ownsRow (bg + 1) 110 4 t9 D.length (encL D) ∧ Hid (LaI W H n R ((seqL l o m).drop k) D)) (fun t9 t11 t12 t37 wr => m - (intOf t37).toNat)
  case atStart => exact ⟨0, D0, by omega, rfl, B, HQ, H1, RG, O', HF0⟩
  case round =>
    clear B HQ H1 RG O' HF0
    obtain ⟨k, D, hk, rfl, B, HQ, H1, RG, O, HF⟩ := hrel
    obtain ⟨A, cap, hu⟩ := row_shape O
    obtain ⟨v0, rfl⟩ : ∃ v0 : Value, v0 = u9 := ⟨_, rfl⟩
    subst hu
    have hDn : n ≤ D.length := HF.out.1
    have hD60 : D.length ≤ 60 := HF.out.2.1
    obtain ⟨d, hd'⟩ : ∃ d, d = D.length := ⟨_, rfl⟩
    rw [← hd'] at hDn hD60 O ⊢
    have HM := Lib.hid hd'
    clear hd'
    have hszb : bg + 1 ≤ wr.heap.size := RG.lt
    by_cases hlt : k < m
    · have hki : (k : Int) < (m : Int) := by omega
      have hx := HE.out.2.1 k hlt
      obtain ⟨x0, hx0⟩ := Int.eq_ofNat_of_zero_le hx.1
      have hxk : x0 < k1 := by rw [hx0] at hx; omega
      have hxi : (x0 : Int) < (k1 : Int) := by omega
      have HSEQ := Lib.hid (seq_drop (l := l) hlt hx0)
      obtain ⟨b2, off2, rfl, hbl2, c0⟩ := rdInt64 (HR2.out.below B) hlt
      rw [hx0] at c0
      obtain ⟨b1, off1, rfl, hbl1, s0, s1, s2, s3⟩ := (HR1.out.below B).at4 hxk
      have y0 := HLB.out (4 * x0)
      have y1 := HLB.out (4 * x0 + 1)
      have y2 := HLB.out (4 * x0 + 2)
      have y3 := HLB.out (4 * x0 + 3)
      obtain ⟨a0, ha0⟩ : ∃ a, a = l (4 * x0) := ⟨_, rfl⟩
      obtain ⟨a1, ha1⟩ : ∃ a, a = l (4 * x0 + 1) := ⟨_, rfl⟩
      obtain ⟨a2, ha2⟩ : ∃ a, a = l (4 * x0 + 2) := ⟨_, rfl⟩
      obtain ⟨a3, ha3⟩ : ∃ a, a = l (4 * x0 + 3) := ⟨_, rfl⟩
      have HS4 : Hid (s4 l x0 = (a0, a1, a2, a3)) := Lib.hid (by unfold s4; rw [ha0, ha1, ha2, ha3])
      rw [← ha0] at s0 y0
      rw [← ha1] at s1 y1
      rw [← ha2] at s2 y2
      rw [← ha3] at s3 y3
      clear ha0 ha1 ha2 ha3 hx hx0
      go_upto_region 13 with fail
      have X := Bx.new wr #[.int .i8 a0, .int .i8 a1, .int .i8 a2, .int .i8 a3] 110
      replace HQ := HQ.alloc (.cells #[.int .i8 a0, .int .i8 a1, .int .i8 a2, .int .i8 a3] 110)
      replace H1 := H1.alloc (.cells #[.int .i8 a0, .int .i8 a1, .int .i8 a2, .int .i8 a3] 110)
      replace RG := RG.alloc (.cells #[.int .i8 a0, .int .i8 a1, .int .i8 a2, .int .i8 a3] 110)
      have hox : Value.ownBlock (.slice A d cap) ≠ some wr.heap.size := fun e => by have := (World.ownsRow.lt O _ e).2; omega
      replace O := World.ownsRow.alloc O (.cells #[.int .i8 a0, .int .i8 a1, .int .i8 a2, .int .i8 a3] 110)
      replace B := al B (.cells #[.int .i8 a0, .int .i8 a1, .int .i8 a2, .int .i8 a3] 110)
      obtain ⟨bx, hbx⟩ : ∃ bx, bx = wr.heap.size := ⟨_, rfl⟩
      obtain ⟨w2, hw2⟩ : ∃ V : World, V = wr.alloc (.cells #[.int .i8 a0, .int .i8 a1, .int .i8 a2, .int .i8 a3] 110) := ⟨_, rfl⟩
      rw [← hw2] at HQ H1 RG O B X ⊢
      have hszb2 : bg + 1 ≤ w2.heap.size := by rw [hw2]; simp; omega
      rw [← hbx] at X hszb hox ⊢
      clear hw2 hbx s0 s1 s2 s3 c0
      by_cases h6 : d = 60
      · have d6 : ((d : Int) == 60) = true := by rw [h6]; rfl
        have HRD : Hid (R = (3, [])) := Lib.hid (by
          rw [← HF.out.2.2.2, HSEQ.out]
          exact layR_full (by rw [← HM.out]; exact h6))
        clear h6
        have hszb1 : w.heap.size + 1 < w2.heap.size := H1.lt
        have hszb2 : w.heap.size ≤ w2.heap.size := B.size
        obtain ⟨p1, q1, r1⟩ := H1.cells3
        have f10 := H1.frozen 0
        have f11 := H1.frozen 1
        have f12 := H1.frozen 2
        go_wp2_with fail
        have F1 := H1.set3 (.int .i8 0) (.int .i8 0) (.slice none 0 0)
        have B3 := below_set3 (g := w.heap.size + 1) (v0 := .int .i8 0) (v1 := .int .i8 0) (v2 := .slice none 0 0) B (by omega)
        obtain ⟨x1, y1, z1⟩ := F1.cells3
        exact bodyPost_ret (v := .tuple #[.agg #[.int .i8 0, .int .i8 0, .slice none 0 0], .int .i64 3]) (by simp [results, Try.results39, go_sem, x1, y1, z1]) rfl (by rw [HRD.out]; exact ⟨B3, .inr ⟨by decide, _, rfl, fillWith.has_nil _ _⟩⟩)
      · have d6 : ((d : Int) == 60) = false := by rw [beq_eq_false_iff_ne]; omega
        have H6 : Hid (D.length ≠ 60) := Lib.hid (by rw [← HM.out]; exact h6)
        have hd59 : d < 60 := by omega
        clear h6
        obtain ⟨r, hr⟩ := dec_exL (LaS W H D (a0, a1, a2, a3))
        have HRR := Lib.hid hr
        have hcan := Lib.hid (canLay_any W H (.slice (some ⟨g, 0, none⟩) n n) bg (fun p => gridL D p) a0 a1 a2 a3 r w2 (by omega) (by omega) y0 y1 y2 y3 RG hr)
        clear hr y0 y1 y2 y3
        obtain ⟨lq, pq, qq, rq⟩ := id HQ
        obtain ⟨p0, q0, r0, s0⟩ := X.cells4
        go_wp2_with fail
        refine hcan.out.mono ?_
        rintro e w1 ⟨rfl, hb⟩
        clear hcan lq pq qq rq p0 q0 r0 s0 d6
        replace HQ := HQ.below hb
        replace H1 := H1.below hb
        replace RG := rowNext0 RG hb
        replace O := fillWith.own_belowF O hb
        replace X := X.below hb
        replace hszb2 : bg + 1 ≤ w1.heap.size := Nat.le_trans hszb2 hb.size
        replace B := nxt B hb
        clear hb
        cases r with
        | false =>
          have HRD : Hid (R = (4, [])) := Lib.hid (by
            rw [← HF.out.2.2.2, HSEQ.out, HS4.out]
            exact layR_no H6.out (fun h => by have := HRR.out.2 h; cases this))
          have hszb1 : w.heap.size + 1 < w1.heap.size := H1.lt
          have hszb2 : w.heap.size ≤ w1.heap.size := B.size
          obtain ⟨p1, q1, r1⟩ := H1.cells3
          have f10 := H1.frozen 0
          have f11 := H1.frozen 1
          have f12 := H1.frozen 2
          go_wp2_with fail
          have F1 := H1.set3 (.int .i8 0) (.int .i8 0) (.slice none 0 0)
          have B3 := below_set3 (g := w.heap.size + 1) (v0 := .int .i8 0) (v1 := .int .i8 0) (v2 := .slice none 0 0) B (by omega)
          obtain ⟨x1, y1, z1⟩ := F1.cells3
          exact bodyPost_ret (v := .tuple #[.agg #[.int .i8 0, .int .i8 0, .slice none 0 0], .int .i64 4]) (by simp [results, Try.results39, go_sem, x1, y1, z1]) rfl (by rw [HRD.out]; exact ⟨B3, .inr ⟨by decide, _, rfl, fillWith.has_nil _ _⟩⟩)
        | true =>
          have hls := HRR.out.1 rfl
          have hfit := hls.fit (by omega) (by omega) HF.out.2.2.1
          obtain ⟨hl1, hl2, hl3, hl4, hl5, hl6⟩ := hfit.2
          dsimp only at hl1 hl2 hl3 hl4 hl5 hl6
          have HLS := Lib.hid hls
          have HFF := Lib.hid hfit.1
          clear hls hfit
          obtain ⟨x1, rfl⟩ := Int.eq_ofNat_of_zero_le hl1
          obtain ⟨y1, rfl⟩ := Int.eq_ofNat_of_zero_le hl2
          obtain ⟨wd, rfl⟩ := Int.eq_ofNat_of_zero_le (show 0 ≤ a2 by omega)
          obtain ⟨ht, rfl⟩ := Int.eq_ofNat_of_zero_le (show 0 ≤ a3 by omega)
          have hx12 : x1 + wd ≤ 12 := by omega
          have hy12 : y1 + ht ≤ 12 := by omega
          clear hl1 hl2 hl3 hl4 hl5 hl6
          have hlo : ∀ b, Value.ownBlock (.slice A d cap) = some b → bg + 1 ≤ b := fun b e => (World.ownsRow.lt O b e).1
          have hxb : bx < w1.heap.size := X.lt
          obtain ⟨p0, q0, r0, s0⟩ := X.cells4
          have HO := Lib.hid O
          clear O
          go_upto_region 18 with (at_builtin; refine wpList_append_own _ rfl _ _ 29 rfl (bg + 1) 110 i0 (.agg #[.int .i8 0, .int .i8 0, .int .i8 0, .int .i8 0]) 4 4 Try.underlying29 HI.out hz0 hz1 hz2 rfl (by decide) _ d (encL D) rfl (World.ownsRow.alloc HO.out _) ⟨w1.heap.size, 0, none⟩ 1 1 (encS ((x1 : Int), (y1 : Int), (wd : Int), (ht : Int))) rfl rfl (new_cells w1 #[.int .i8 (x1 : Int), .int .i8 (y1 : Int), .int .i8 (wd : Int), .int .i8 (ht : Int)] 110) (encL_one [((x1 : Int), (y1 : Int), (wd : Int), (ht : Int))]) (by unfold maxLen; omega) (by omega) (by simp; omega) ?_; intro v' w3 own' hgr hn3)
          have B3 : Below w.heap.size w w3 := (al B (.cells #[.int .i8 (x1 : Int), .int .i8 (y1 : Int), .int .i8 (wd : Int), .int .i8 (ht : Int)] 110)).grown hgr (al B _).size (fun k e => by have := hlo k e; omega)
          have HQ3 := (HQ.alloc (.cells #[.int .i8 (x1 : Int), .int .i8 (y1 : Int), .int .i8 (wd : Int), .int .i8 (ht : Int)] 110)).of_block hgr.size (hgr.block _ (HQ.alloc (.cells #[.int .i8 (x1 : Int), .int .i8 (y1 : Int), .int .i8 (wd : Int), .int .i8 (ht : Int)] 110)).1 (fun e => by have := hlo _ e.symm; omega))
          have H13 := (H1.alloc (.cells #[.int .i8 (x1 : Int), .int .i8 (y1 : Int), .int .i8 (wd : Int), .int .i8 (ht : Int)] 110)).of_block (hgr.block _ (H1.alloc (.cells #[.int .i8 (x1 : Int), .int .i8 (y1 : Int), .int .i8 (wd : Int), .int .i8 (ht : Int)] 110)).lt (fun e => by have := hlo _ e.symm; omega))
          have RG3 := (RG.alloc (.cells #[.int .i8 (x1 : Int), .int .i8 (y1 : Int), .int .i8 (wd : Int), .int .i8 (ht : Int)] 110)).of_block (hgr.block _ (RG.alloc (.cells #[.int .i8 (x1 : Int), .int .i8 (y1 : Int), .int .i8 (wd : Int), .int .i8 (ht : Int)] 110)).lt (fun e => by have := hlo _ e.symm; omega))
          have X3 := (X.alloc (.cells #[.int .i8 (x1 : Int), .int .i8 (y1 : Int), .int .i8 (wd : Int), .int .i8 (ht : Int)] 110)).of_block (hgr.block _ (X.alloc (.cells #[.int .i8 (x1 : Int), .int .i8 (y1 : Int), .int .i8 (wd : Int), .int .i8 (ht : Int)] 110)).lt (fun e => hox e.symm))
          have O3 : w3.ownsRow (bg + 1) 110 4 v' (d + 1) (encL (D ++ [((x1 : Int), (y1 : Int), (wd : Int), (ht : Int))])) := by rw [encL_append]; exact own'
          obtain ⟨A', cap', hv'⟩ := row_shape O3
          subst hv'
          clear HQ H1 RG X B own' hgr hn3 HO hlo hox p0 q0 r0 s0
          obtain ⟨p0, q0, r0, s0⟩ := X3.cells4
          have e8 : IntKind.i8.wrap ((d : Int) + 1) = (d : Int) + 1 := IntWalk.i8_in _ (by omega)
          go_wp2_with fail
          refine (callsIn_wide.1 (lay_in 6 (by omega) bg x1 y1 wd ht _ (fun p => gridL D p) _ hx12 hy12 RG3)).mono ?_
          rintro e w4' ⟨⟨v, rfl⟩, hg, hz'⟩
          have B4 := below_grown B3 hg B3.size (by omega)
          have HQ4 := HQ3.of_block hg.size (hg.block _ HQ3.1 (fun e => by injection e; omega))
          have H14 := H13.of_block (hg.block _ H13.lt (fun e => by injection e; omega))
          have O4 := World.ownsRow.kept O3 hg (.inr (fun e => by have := (World.ownsRow.lt O3 _ e).1; omega))
          have RG4 : w4'.rowIs bg 105 144 (fun p => .int .i8 (gridL (D ++ [((x1 : Int), (y1 : Int), (wd : Int), (ht : Int))]) p)) := hz'.congr (fun p hp => by
            have h := fillWith.grid_next (D := D) hp hx12 hy12
            rw [← HM.out] at h
            exact congrArg (Value.int IntKind.i8) h)
          clear hg hz' B3 HQ3 H13 RG3 X3 O3 p0 q0 r0 s0 e8
          have hlen : (D ++ [((x1 : Int), (y1 : Int), (wd : Int), (ht : Int))]).length = d + 1 := by rw [List.length_append, ← HM.out]; rfl
          have HF3 : Hid (LaI W H n R ((seqL l o m).drop (k + 1)) (D ++ [((x1 : Int), (y1 : Int), (wd : Int), (ht : Int))])) := Lib.hid (by
            refine ⟨by rw [hlen]; omega, by rw [hlen]; omega, HFF.out, ?_⟩
            have h := HF.out.2.2.2
            rw [HSEQ.out, HS4.out, layR_yes H6.out HLS.out] at h
            exact h)
          have HLEN := Lib.hid hlen
          clear hlen
          go_wp2_with fail
          exact ⟨⟨k + 1, D ++ [((x1 : Int), (y1 : Int), (wd : Int), (ht : Int))], by omega, by first | go_num | simp, B4, HQ4, H14, RG4, by rw [HLEN.out]; exact O4, HF3⟩, by simp [intOf]; omega⟩
    · obtain rfl : k = m := by omega
      have hki : ¬ ((k : Int) < (k : Int)) := by omega
      have HRD : Hid (R = (0, D)) := Lib.hid (by rw [← HF.out.2.2.2, seq_end]; rfl)
      obtain ⟨w2, rfl⟩ : ∃ V : World, V = wr := ⟨_, rfl⟩
      clear RG hszb
      obtain ⟨lq, pq, qq, rq⟩ := id HQ
      go_wp2_with fail
      clear lq pq qq rq
      have hmD : D.length = d := HM.out.symm
      rcases fillWith.own_empty O with ⟨rfl, h0⟩ | ⟨go, rfl, hgo1, hgo2⟩
      · have HM0 := Lib.hid h0
        clear h0 hmD
        have hsq := squareWith_none (W : Int) (H : Int) cap w2
        have HSQ : Hid (Calls Try.prog 86 #[.int .i8 (W : Int), .int .i8 (H : Int), .slice none d cap] w2 fun e w' => e = .returned (.agg #[.int .i8 (W : Int), .int .i8 (H : Int), .slice none 0 cap]) ∧ Below w2.heap.size w2 w') := Lib.hid (by rw [HM0.out]; exact hsq)
        clear hsq
        refine HSQ.out.mono ?_
        rintro e w6 ⟨rfl, hb⟩
        replace HQ := HQ.below hb
        replace H1 := H1.below hb
        replace B := nxt B hb
        clear hb HSQ
        obtain ⟨p1, q1, r1⟩ := H1.cells3
        have f0 := H1.frozen 0
        have f1 := H1.frozen 1
        have f2 := H1.frozen 2
        have hsz2 : w.heap.size ≤ w6.heap.size := B.size
        go_wp2_with fail
        have F1 := H1.set3 (.int .i8 (W : Int)) (.int .i8 (H : Int)) (.slice none 0 cap)
        have B3 := below_set3 (g := w.heap.size + 1) (v0 := .int .i8 (W : Int)) (v1 := .int .i8 (H : Int)) (v2 := .slice none 0 cap) B (by omega)
        obtain ⟨x1, y1, z1⟩ := F1.cells3
        have hD0 : D = [] := List.eq_nil_of_length_eq_zero (by rw [← HM.out]; exact HM0.out)
        refine bodyPost_ret (v := .tuple #[.agg #[.int .i8 (W : Int), .int .i8 (H : Int), .slice none 0 cap], .int .i64 0]) (by simp [results, Try.results39, go_sem, x1, y1, z1]) rfl ?_
        rw [HRD.out, hD0]
        exact ⟨B3, .inl ⟨rfl, .slice none 0 cap, [], rfl, ⟨List.Perm.refl _, List.Pairwise.nil⟩, ⟨none, 0, cap, rfl, fun h => absurd h (by simp), fun j hj => absurd hj (by simp)⟩⟩⟩
      · have hRW := rw_own O hmD
        have HSQ := Lib.hid (squareWith_any (W : Int) (H : Int) go d cap (fL D) w2 (by omega) hRW.1 hRW.2)
        clear hRW hmD
        refine HSQ.out.mono ?_
        rintro e w6 ⟨rfl, hgr, L, hSo, hOL⟩
        have hng1 : go ≠ w.heap.size + 1 := by omega
        replace H1 := H1.of_block (hgr.block _ H1.lt (fun e => by injection e; omega))
        replace B := below_grown B hgr B.size (by omega)
        have hs6 : go < w6.heap.size := Nat.lt_of_lt_of_le hgo2 hgr.size
        have HSo : Hid (SortedOf D L) := Lib.hid (by
          have h := hSo
          rw [HM.out, toL_fL] at h
          exact h)
        have HOL := Lib.hid hOL
        clear hgr hSo hOL HSQ O HQ
        obtain ⟨p1, q1, r1⟩ := H1.cells3
        have f0 := H1.frozen 0
        have f1 := H1.frozen 1
        have f2 := H1.frozen 2
        have hsz2 : w.heap.size ≤ w6.heap.size := B.size
        go_wp2_with fail
        have F1 := H1.set3 (.int .i8 (W : Int)) (.int .i8 (H : Int)) (.slice (some ⟨go, 0, none⟩) d cap)
        have B3 := below_set3 (g := w.heap.size + 1) (v0 := .int .i8 (W : Int)) (v1 := .int .i8 (H : Int)) (v2 := .slice (some ⟨go, 0, none⟩) d cap) B (by omega)
        obtain ⟨x1, y1, z1⟩ := F1.cells3
        have HR4 : Rw (((w6.setCell ⟨w.heap.size + 1, 0, none⟩ (.int .i8 (W : Int))).setCell ⟨w.heap.size + 1, 1, none⟩ (.int .i8 (H : Int))).setCell ⟨w.heap.size + 1, 2, none⟩ (.slice (some ⟨go, 0, none⟩) d cap)) go d (fL L) := Rw.of_block (w := w6) ⟨hs6, HOL.out⟩ (blk3 hng1)
        refine bodyPost_ret (v := .tuple #[.agg #[.int .i8 (W : Int), .int .i8 (H : Int), .slice (some ⟨go, 0, none⟩) d cap], .int .i64 0]) (by simp [results, Try.results39, go_sem, x1, y1, z1]) rfl ?_
        rw [HRD.out]
        exact ⟨B3, .inl ⟨rfl, .slice (some ⟨go, 0, none⟩) d cap, L, rfl, HSo.out, by rw [← HM.out]; exact rw_has HR4 (by omega)⟩⟩
end layAll
end Go.Proofs.Ytkdakpbkpfigeaa

namespace Go.Proofs.Ytkdakpbkpfigeaa
open Go Go.ChangeShapes Go.WideShapes Go.ChangeAt Go.RowKit canPut
set_option linter.unusedVariables false
set_option linter.unusedSimpArgs false
set_option maxRecDepth 100000
set_option maxHeartbeats 4000000

namespace layAll
theorem specA (X Y : Int) (g n : Nat) (c : Nat → Int) (A1 : Option Addr) (k1 cap1 : Nat) (A2 : Option Addr) (m cap2 : Nat) (o : Nat → Int) (w : World) (hX : -128 ≤ X ∧ X ≤ 127) (hY : -128 ≤ Y ∧ Y ≤ 127) (hc : ∀ j, -128 ≤ c j ∧ c j ≤ 127) (hm : n ≤ 1048576) (hk1 : k1 ≤ 1048576) (hmm : m ≤ 1048576) (hcap2 : m ≤ cap2)
    (hrow : w.rowIs g 110 (4 * n) (fun j => .int .i8 (c j))) (hr2 : RdK .i64 w w.heap.size A2 m o) (hv : ¬ Valid X Y n c) :
    Calls Try.prog 37 #[.agg #[.int .i8 X, .int .i8 Y, .slice (some ⟨g, 0, none⟩) n n], .slice A1 k1 cap1, .slice A2 m cap2] w (LaPost X Y 1 [] w) := by
  go_enter Try.func37, Try.ntmps37
  go_wp2_with fail
  have HQ := (Sq.new w X Y (.slice (some ⟨g, 0, none⟩) n n) 31).alloc (.cells #[.int .i8 0, .int .i8 0, .slice none 0 0] 31)
  have B := al (al (Below.refl w.heap.size w) (.cells #[.int .i8 X, .int .i8 Y, .slice (some ⟨g, 0, none⟩) n n] 31)) (.cells #[.int .i8 0, .int .i8 0, .slice none 0 0] 31)
  have H1 : Bx ((w.alloc (.cells #[.int .i8 X, .int .i8 Y, .slice (some ⟨g, 0, none⟩) n n] 31)).alloc (.cells #[.int .i8 0, .int .i8 0, .slice none 0 0] 31)) (w.heap.size + 1) #[.int .i8 0, .int .i8 0, .slice none 0 0] 31 := Bx.newAt _ _ _ _ (by simp)
  obtain ⟨W0, hW0⟩ : ∃ W0 : World, W0 = ((w.alloc (.cells #[.int .i8 X, .int .i8 Y, .slice (some ⟨g, 0, none⟩) n n] 31)).alloc (.cells #[.int .i8 0, .int .i8 0, .slice none 0 0] 31)) := ⟨_, rfl⟩
  rw [← hW0] at HQ B H1 ⊢
  clear hW0
  refine (ok_any X Y w.heap.size g n c _ hX hY hc hm HQ (hrow.of_block (B.block _ hrow.lt))).mono ?_
  rintro e w2 ⟨hb, ⟨h, rfl⟩ | ⟨h, rfl⟩⟩
  · exact absurd h hv
  replace HQ := HQ.below hb
  replace H1 := H1.below hb
  replace B := nxt B hb
  clear hb h
  have hszb1 : w.heap.size + 1 < w2.heap.size := H1.lt
  have hszb2 : w.heap.size ≤ w2.heap.size := B.size
  obtain ⟨p1, q1, r1⟩ := H1.cells3
  have f10 := H1.frozen 0
  have f11 := H1.frozen 1
  have f12 := H1.frozen 2
  go_wp2_with fail
  have F1 := H1.set3 (.int .i8 0) (.int .i8 0) (.slice none 0 0)
  have B3 := below_set3 (g := w.heap.size + 1) (v0 := .int .i8 0) (v1 := .int .i8 0) (v2 := .slice none 0 0) B (by omega)
  obtain ⟨x1, y1, z1⟩ := F1.cells3
  exact bodyPost_ret (v := .tuple #[.agg #[.int .i8 0, .int .i8 0, .slice none 0 0], .int .i64 1]) (by simp [results, Try.results37, go_sem, x1, y1, z1]) rfl ⟨B3, .inr ⟨by decide, _, rfl, fillWith.has_nil _ _⟩⟩
theorem specB (X Y : Int) (g n : Nat) (c : Nat → Int) (A1 : Option Addr) (k1 cap1 : Nat) (A2 : Option Addr) (m cap2 : Nat) (o : Nat → Int) (w : World) (hX : -128 ≤ X ∧ X ≤ 127) (hY : -128 ≤ Y ∧ Y ≤ 127) (hc : ∀ j, -128 ≤ c j ∧ c j ≤ 127) (hm : n ≤ 1048576) (hk1 : k1 ≤ 1048576) (hmm : m ≤ 1048576) (hcap2 : m ≤ cap2)
    (hrow : w.rowIs g 110 (4 * n) (fun j => .int .i8 (c j))) (hr2 : RdK .i64 w w.heap.size A2 m o) (hv : Valid X Y n c) (h10 : 10 < k1) :
    Calls Try.prog 37 #[.agg #[.int .i8 X, .int .i8 Y, .slice (some ⟨g, 0, none⟩) n n], .slice A1 k1 cap1, .slice A2 m cap2] w (LaPost X Y 3 [] w) := by
  go_enter Try.func37, Try.ntmps37
  go_wp2_with fail
  have HQ := (Sq.new w X Y (.slice (some ⟨g, 0, none⟩) n n) 31).alloc (.cells #[.int .i8 0, .int .i8 0, .slice none 0 0] 31)
  have B := al (al (Below.refl w.heap.size w) (.cells #[.int .i8 X, .int .i8 Y, .slice (some ⟨g, 0, none⟩) n n] 31)) (.cells #[.int .i8 0, .int .i8 0, .slice none 0 0] 31)
  have H1 : Bx ((w.alloc (.cells #[.int .i8 X, .int .i8 Y, .slice (some ⟨g, 0, none⟩) n n] 31)).alloc (.cells #[.int .i8 0, .int .i8 0, .slice none 0 0] 31)) (w.heap.size + 1) #[.int .i8 0, .int .i8 0, .slice none 0 0] 31 := Bx.newAt _ _ _ _ (by simp)
  obtain ⟨W0, hW0⟩ : ∃ W0 : World, W0 = ((w.alloc (.cells #[.int .i8 X, .int .i8 Y, .slice (some ⟨g, 0, none⟩) n n] 31)).alloc (.cells #[.int .i8 0, .int .i8 0, .slice none 0 0] 31)) := ⟨_, rfl⟩
  rw [← hW0] at HQ B H1 ⊢
  clear hW0
  refine (ok_any X Y w.heap.size g n c _ hX hY hc hm HQ (hrow.of_block (B.block _ hrow.lt))).mono ?_
  rintro e w2 ⟨hb, ⟨h, rfl⟩ | ⟨h, rfl⟩⟩
  case inr => exact absurd hv h
  replace HQ := HQ.below hb
  replace H1 := H1.below hb
  replace B := nxt B hb
  clear hb h
  have d1 : decide (10 < k1) = true := by simpa using h10
  have hszb1 : w.heap.size + 1 < w2.heap.size := H1.lt
  have hszb2 : w.heap.size ≤ w2.heap.size := B.size
  obtain ⟨p1, q1, r1⟩ := H1.cells3
  have f10 := H1.frozen 0
  have f11 := H1.frozen 1
  have f12 := H1.frozen 2
  go_wp2_with fail
  have F1 := H1.set3 (.int .i8 0) (.int .i8 0) (.slice none 0 0)
  have B3 := below_set3 (g := w.heap.size + 1) (v0 := .int .i8 0) (v1 := .int .i8 0) (v2 := .slice none 0 0) B (by omega)
  obtain ⟨x1, y1, z1⟩ := F1.cells3
  exact bodyPost_ret (v := .tuple #[.agg #[.int .i8 0, .int .i8 0, .slice none 0 0], .int .i64 3]) (by simp [results, Try.results37, go_sem, x1, y1, z1]) rfl ⟨B3, .inr ⟨by decide, _, rfl, fillWith.has_nil _ _⟩⟩
theorem specC (X Y : Int) (g n : Nat) (c : Nat → Int) (A1 : Option Addr) (k1 cap1 : Nat) (A2 : Option Addr) (m cap2 : Nat) (o : Nat → Int) (w : World) (hX : -128 ≤ X ∧ X ≤ 127) (hY : -128 ≤ Y ∧ Y ≤ 127) (hc : ∀ j, -128 ≤ c j ∧ c j ≤ 127) (hm : n ≤ 1048576) (hk1 : k1 ≤ 1048576) (hmm : m ≤ 1048576) (hcap2 : m ≤ cap2)
    (hrow : w.rowIs g 110 (4 * n) (fun j => .int .i8 (c j))) (hr2 : RdK .i64 w w.heap.size A2 m o) (hv : Valid X Y n c) (h10 : k1 ≤ 10) (he : ¬ Each k1 m o) :
    Calls Try.prog 37 #[.agg #[.int .i8 X, .int .i8 Y, .slice (some ⟨g, 0, none⟩) n n], .slice A1 k1 cap1, .slice A2 m cap2] w (LaPost X Y 4 [] w) := by
  go_enter Try.func37, Try.ntmps37
  go_wp2_with fail
  have HQ := (Sq.new w X Y (.slice (some ⟨g, 0, none⟩) n n) 31).alloc (.cells #[.int .i8 0, .int .i8 0, .slice none 0 0] 31)
  have B := al (al (Below.refl w.heap.size w) (.cells #[.int .i8 X, .int .i8 Y, .slice (some ⟨g, 0, none⟩) n n] 31)) (.cells #[.int .i8 0, .int .i8 0, .slice none 0 0] 31)
  have H1 : Bx ((w.alloc (.cells #[.int .i8 X, .int .i8 Y, .slice (some ⟨g, 0, none⟩) n n] 31)).alloc (.cells #[.int .i8 0, .int .i8 0, .slice none 0 0] 31)) (w.heap.size + 1) #[.int .i8 0, .int .i8 0, .slice none 0 0] 31 := Bx.newAt _ _ _ _ (by simp)
  obtain ⟨W0, hW0⟩ : ∃ W0 : World, W0 = ((w.alloc (.cells #[.int .i8 X, .int .i8 Y, .slice (some ⟨g, 0, none⟩) n n] 31)).alloc (.cells #[.int .i8 0, .int .i8 0, .slice none 0 0] 31)) := ⟨_, rfl⟩
  rw [← hW0] at HQ B H1 ⊢
  clear hW0
  refine (ok_any X Y w.heap.size g n c _ hX hY hc hm HQ (hrow.of_block (B.block _ hrow.lt))).mono ?_
  rintro e w2 ⟨hb, ⟨h, rfl⟩ | ⟨h, rfl⟩⟩
  case inr => exact absurd hv h
  replace HQ := HQ.below hb
  replace H1 := H1.below hb
  replace B := nxt B hb
  clear hb h
  have d1 : decide (10 < k1) = false := by simp; omega
  go_wp2_with fail
  refine (l05Each_any A2 k1 m cap2 o _ hk1 hmm hcap2 ((hr2.below B).mono B.size)).mono ?_
  rintro e w3 ⟨hb, ⟨h, rfl⟩ | ⟨h, _⟩⟩
  case inr => exact absurd h he
  replace HQ := HQ.below hb
  replace H1 := H1.below hb
  replace B := nxt B hb
  clear hb h
  clear d1
  have hszb1 : w.heap.size + 1 < w3.heap.size := H1.lt
  have hszb2 : w.heap.size ≤ w3.heap.size := B.size
  obtain ⟨p1, q1, r1⟩ := H1.cells3
  have f10 := H1.frozen 0
  have f11 := H1.frozen 1
  have f12 := H1.frozen 2
  go_wp2_with fail
  have F1 := H1.set3 (.int .i8 0) (.int .i8 0) (.slice none 0 0)
  have B3 := below_set3 (g := w.heap.size + 1) (v0 := .int .i8 0) (v1 := .int .i8 0) (v2 := .slice none 0 0) B (by omega)
  obtain ⟨x1, y1, z1⟩ := F1.cells3
  exact bodyPost_ret (v := .tuple #[.agg #[.int .i8 0, .int .i8 0, .slice none 0 0], .int .i64 4]) (by simp [results, Try.results37, go_sem, x1, y1, z1]) rfl ⟨B3, .inr ⟨by decide, _, rfl, fillWith.has_nil _ _⟩⟩
theorem implA (X Y : Int) (g n : Nat) (c : Nat → Int) (A1 : Option Addr) (k1 cap1 : Nat) (A2 : Option Addr) (m cap2 : Nat) (o : Nat → Int) (w : World) (hX : -128 ≤ X ∧ X ≤ 127) (hY : -128 ≤ Y ∧ Y ≤ 127) (hc : ∀ j, -128 ≤ c j ∧ c j ≤ 127) (hm : n ≤ 1048576) (hk1 : k1 ≤ 1048576) (hmm : m ≤ 1048576) (hcap2 : m ≤ cap2)
    (hrow : w.rowIs g 110 (4 * n) (fun j => .int .i8 (c j))) (hr2 : RdK .i64 w w.heap.size A2 m o) (hv : ¬ Valid X Y n c) :
    Calls Try.prog 39 #[.agg #[.int .i8 X, .int .i8 Y, .slice (some ⟨g, 0, none⟩) n n], .slice A1 k1 cap1, .slice A2 m cap2] w (LaPost X Y 1 [] w) := by
  go_enter Try.func39, Try.ntmps39
  go_wp2_with fail
  have HQ := (Sq.new w X Y (.slice (some ⟨g, 0, none⟩) n n) 31).alloc (.cells #[.int .i8 0, .int .i8 0, .slice none 0 0] 31)
  have B := al (al (Below.refl w.heap.size w) (.cells #[.int .i8 X, .int .i8 Y, .slice (some ⟨g, 0, none⟩) n n] 31)) (.cells #[.int .i8 0, .int .i8 0, .slice none 0 0] 31)
  have H1 : Bx ((w.alloc (.cells #[.int .i8 X, .int .i8 Y, .slice (some ⟨g, 0, none⟩) n n] 31)).alloc (.cells #[.int .i8 0, .int .i8 0, .slice none 0 0] 31)) (w.heap.size + 1) #[.int .i8 0, .int .i8 0, .slice none 0 0] 31 := Bx.newAt _ _ _ _ (by simp)
  obtain ⟨W0, hW0⟩ : ∃ W0 : World, W0 = ((w.alloc (.cells #[.int .i8 X, .int .i8 Y, .slice (some ⟨g, 0, none⟩) n n] 31)).alloc (.cells #[.int .i8 0, .int .i8 0, .slice none 0 0] 31)) := ⟨_, rfl⟩
  rw [← hW0] at HQ B H1 ⊢
  clear hW0
  refine (implValid_any X Y g n c _ hX hY hc hm (hrow.of_block (B.block _ hrow.lt))).mono ?_
  rintro e w2 ⟨hb, ⟨h, rfl⟩ | ⟨h, rfl⟩⟩
  · exact absurd h hv
  replace HQ := HQ.below hb
  replace H1 := H1.below hb
  replace B := nxt B hb
  clear hb h
  have hszb1 : w.heap.size + 1 < w2.heap.size := H1.lt
  have hszb2 : w.heap.size ≤ w2.heap.size := B.size
  obtain ⟨p1, q1, r1⟩ := H1.cells3
  have f10 := H1.frozen 0
  have f11 := H1.frozen 1
  have f12 := H1.frozen 2
  go_wp2_with fail
  have F1 := H1.set3 (.int .i8 0) (.int .i8 0) (.slice none 0 0)
  have B3 := below_set3 (g := w.heap.size + 1) (v0 := .int .i8 0) (v1 := .int .i8 0) (v2 := .slice none 0 0) B (by omega)
  obtain ⟨x1, y1, z1⟩ := F1.cells3
  exact bodyPost_ret (v := .tuple #[.agg #[.int .i8 0, .int .i8 0, .slice none 0 0], .int .i64 1]) (by simp [results, Try.results39, go_sem, x1, y1, z1]) rfl ⟨B3, .inr ⟨by decide, _, rfl, fillWith.has_nil _ _⟩⟩
theorem implB (X Y : Int) (g n : Nat) (c : Nat → Int) (A1 : Option Addr) (k1 cap1 : Nat) (A2 : Option Addr) (m cap2 : Nat) (o : Nat → Int) (w : World) (hX : -128 ≤ X ∧ X ≤ 127) (hY : -128 ≤ Y ∧ Y ≤ 127) (hc : ∀ j, -128 ≤ c j ∧ c j ≤ 127) (hm : n ≤ 1048576) (hk1 : k1 ≤ 1048576) (hmm : m ≤ 1048576) (hcap2 : m ≤ cap2)
    (hrow : w.rowIs g 110 (4 * n) (fun j => .int .i8 (c j))) (hr2 : RdK .i64 w w.heap.size A2 m o) (hv : Valid X Y n c) (h10 : 10 < k1) :
    Calls Try.prog 39 #[.agg #[.int .i8 X, .int .i8 Y, .slice (some ⟨g, 0, none⟩) n n], .slice A1 k1 cap1, .slice A2 m cap2] w (LaPost X Y 3 [] w) := by
  go_enter Try.func39, Try.ntmps39
  go_wp2_with fail
  have HQ := (Sq.new w X Y (.slice (some ⟨g, 0, none⟩) n n) 31).alloc (.cells #[.int .i8 0, .int .i8 0, .slice none 0 0] 31)
  have B := al (al (Below.refl w.heap.size w) (.cells #[.int .i8 X, .int .i8 Y, .slice (some ⟨g, 0, none⟩) n n] 31)) (.cells #[.int .i8 0, .int .i8 0, .slice none 0 0] 31)
  have H1 : Bx ((w.alloc (.cells #[.int .i8 X, .int .i8 Y, .slice (some ⟨g, 0, none⟩) n n] 31)).alloc (.cells #[.int .i8 0, .int .i8 0, .slice none 0 0] 31)) (w.heap.size + 1) #[.int .i8 0, .int .i8 0, .slice none 0 0] 31 := Bx.newAt _ _ _ _ (by simp)
  obtain ⟨W0, hW0⟩ : ∃ W0 : World, W0 = ((w.alloc (.cells #[.int .i8 X, .int .i8 Y, .slice (some ⟨g, 0, none⟩) n n] 31)).alloc (.cells #[.int .i8 0, .int .i8 0, .slice none 0 0] 31)) := ⟨_, rfl⟩
  rw [← hW0] at HQ B H1 ⊢
  clear hW0
  refine (implValid_any X Y g n c _ hX hY hc hm (hrow.of_block (B.block _ hrow.lt))).mono ?_
  rintro e w2 ⟨hb, ⟨h, rfl⟩ | ⟨h, rfl⟩⟩
  case inr => exact absurd hv h
  replace HQ := HQ.below hb
  replace H1 := H1.below hb
  replace B := nxt B hb
  clear hb h
  have d1 : decide (10 < k1) = true := by simpa using h10
  have hszb1 : w.heap.size + 1 < w2.heap.size := H1.lt
  have hszb2 : w.heap.size ≤ w2.heap.size := B.size
  obtain ⟨p1, q1, r1⟩ := H1.cells3
  have f10 := H1.frozen 0
  have f11 := H1.frozen 1
  have f12 := H1.frozen 2
  go_wp2_with fail
  have F1 := H1.set3 (.int .i8 0) (.int .i8 0) (.slice none 0 0)
  have B3 := below_set3 (g := w.heap.size + 1) (v0 := .int .i8 0) (v1 := .int .i8 0) (v2 := .slice none 0 0) B (by omega)
  obtain ⟨x1, y1, z1⟩ := F1.cells3
  exact bodyPost_ret (v := .tuple #[.agg #[.int .i8 0, .int .i8 0, .slice none 0 0], .int .i64 3]) (by simp [results, Try.results39, go_sem, x1, y1, z1]) rfl ⟨B3, .inr ⟨by decide, _, rfl, fillWith.has_nil _ _⟩⟩
theorem implC (X Y : Int) (g n : Nat) (c : Nat → Int) (A1 : Option Addr) (k1 cap1 : Nat) (A2 : Option Addr) (m cap2 : Nat) (o : Nat → Int) (w : World) (hX : -128 ≤ X ∧ X ≤ 127) (hY : -128 ≤ Y ∧ Y ≤ 127) (hc : ∀ j, -128 ≤ c j ∧ c j ≤ 127) (hm : n ≤ 1048576) (hk1 : k1 ≤ 1048576) (hmm : m ≤ 1048576) (hcap2 : m ≤ cap2)
    (hrow : w.rowIs g 110 (4 * n) (fun j => .int .i8 (c j))) (hr2 : RdK .i64 w w.heap.size A2 m o) (hv : Valid X Y n c) (h10 : k1 ≤ 10) (he : ¬ Each k1 m o) :
    Calls Try.prog 39 #[.agg #[.int .i8 X, .int .i8 Y, .slice (some ⟨g, 0, none⟩) n n], .slice A1 k1 cap1, .slice A2 m cap2] w (LaPost X Y 4 [] w) := by
  go_enter Try.func39, Try.ntmps39
  go_wp2_with fail
  have HQ := (Sq.new w X Y (.slice (some ⟨g, 0, none⟩) n n) 31).alloc (.cells #[.int .i8 0, .int .i8 0, .slice none 0 0] 31)
  have B := al (al (Below.refl w.heap.size w) (.cells #[.int .i8 X, .int .i8 Y, .slice (some ⟨g, 0, none⟩) n n] 31)) (.cells #[.int .i8 0, .int .i8 0, .slice none 0 0] 31)
  have H1 : Bx ((w.alloc (.cells #[.int .i8 X, .int .i8 Y, .slice (some ⟨g, 0, none⟩) n n] 31)).alloc (.cells #[.int .i8 0, .int .i8 0, .slice none 0 0] 31)) (w.heap.size + 1) #[.int .i8 0, .int .i8 0, .slice none 0 0] 31 := Bx.newAt _ _ _ _ (by simp)
  obtain ⟨W0, hW0⟩ : ∃ W0 : World, W0 = ((w.alloc (.cells #[.int .i8 X, .int .i8 Y, .slice (some ⟨g, 0, none⟩) n n] 31)).alloc (.cells #[.int .i8 0, .int .i8 0, .slice none 0 0] 31)) := ⟨_, rfl⟩
  rw [← hW0] at HQ B H1 ⊢
  clear hW0
  refine (implValid_any X Y g n c _ hX hY hc hm (hrow.of_block (B.block _ hrow.lt))).mono ?_
  rintro e w2 ⟨hb, ⟨h, rfl⟩ | ⟨h, rfl⟩⟩
  case inr => exact absurd hv h
  replace HQ := HQ.below hb
  replace H1 := H1.below hb
  replace B := nxt B hb
  clear hb h
  have d1 : decide (10 < k1) = false := by simp; omega
  go_wp2_with fail
  refine (hasEach_any A2 k1 m cap2 o _ hk1 hmm ((hr2.below B).mono B.size)).mono ?_
  rintro e w3 ⟨hb, ⟨h, rfl⟩ | ⟨h, _⟩⟩
  case inr => exact absurd h he
  replace HQ := HQ.below hb
  replace H1 := H1.below hb
  replace B := nxt B hb
  clear hb h
  clear d1
  have hszb1 : w.heap.size + 1 < w3.heap.size := H1.lt
  have hszb2 : w.heap.size ≤ w3.heap.size := B.size
  obtain ⟨p1, q1, r1⟩ := H1.cells3
  have f10 := H1.frozen 0
  have f11 := H1.frozen 1
  have f12 := H1.frozen 2
  go_wp2_with fail
  have F1 := H1.set3 (.int .i8 0) (.int .i8 0) (.slice none 0 0)
  have B3 := below_set3 (g := w.heap.size + 1) (v0 := .int .i8 0) (v1 := .int .i8 0) (v2 := .slice none 0 0) B (by omega)
  obtain ⟨x1, y1, z1⟩ := F1.cells3
  exact bodyPost_ret (v := .tuple #[.agg #[.int .i8 0, .int .i8 0, .slice none 0 0], .int .i64 4]) (by simp [results, Try.results39, go_sem, x1, y1, z1]) rfl ⟨B3, .inr ⟨by decide, _, rfl, fillWith.has_nil _ _⟩⟩
theorem layR_fit {X Y : Int} (hX : X ≤ 12) (hY : Y ≤ 12) : ∀ (S D : List S4), Fit4 X Y D → Fit4 X Y (layR X Y S D).2
  | [], D, h => h
  | s :: S, D, h => by
    by_cases h6 : D.length = 60
    · rw [layR_full h6]; exact ⟨(fun s hs => by cases hs), List.Pairwise.nil⟩
    · by_cases hl : LaS X Y D s
      · rw [layR_yes h6 hl]; exact layR_fit hX hY S _ (hl.fit hX hY h).1
      · rw [layR_no h6 hl]; exact ⟨(fun s hs => by cases hs), List.Pairwise.nil⟩
theorem both (X Y : Int) (n : Nat) (c : Nat → Int) (k1 : Nat) (l : Nat → Int) (m : Nat) (o : Nat → Int) (hX : -128 ≤ X ∧ X ≤ 127) (hY : -128 ≤ Y ∧ Y ≤ 127) (hc : ∀ j, -128 ≤ c j ∧ c j ≤ 127) (hm : n ≤ 1048576) (hl : ∀ j, -128 ≤ l j ∧ l j ≤ 127) (hk1 : k1 ≤ 1048576) (ho : ∀ j, (Lit.int .i64 (o j)).wf = true) (hmm : m ≤ 1048576) :
    ∃ (rX rY z1 : Int) (nn : Nat) (ff : Nat → Int), nn ≤ 1000 ∧
      (∀ (W : World) (G0 G1 G2 : Nat), Ab W G0 n c → Ab W G1 k1 l → Ar W G2 m o → Calls Try.prog 37 #[.agg #[.int .i8 X, .int .i8 Y, .slice (some ⟨G0, 0, none⟩) n n], .slice (some ⟨G1, 0, none⟩) k1 k1, .slice (some ⟨G2, 0, none⟩) m m] W fun e w' => Below W.heap.size W w' ∧ ∃ v, e = .returned (.tuple #[.agg #[.int .i8 rX, .int .i8 rY, v], .int .i64 z1]) ∧ HasSlice .i8 4 w' W.heap.size v nn ff) ∧
      (∀ (W : World) (G0 G1 G2 : Nat), Ab W G0 n c → Ab W G1 k1 l → Ar W G2 m o → Calls Try.prog 39 #[.agg #[.int .i8 X, .int .i8 Y, .slice (some ⟨G0, 0, none⟩) n n], .slice (some ⟨G1, 0, none⟩) k1 k1, .slice (some ⟨G2, 0, none⟩) m m] W fun e w' => Below W.heap.size W w' ∧ ∃ v, e = .returned (.tuple #[.agg #[.int .i8 rX, .int .i8 rY, v], .int .i64 z1]) ∧ HasSlice .i8 4 w' W.heap.size v nn ff) := by
  have key : ∀ (code : Int) (D : List S4), (code = 0 → D.length ≤ 60 ∧ Apart D) → (∀ (W : World) (G0 G1 G2 : Nat), Ab W G0 n c → Ab W G1 k1 l → Ar W G2 m o → Calls Try.prog 37 #[.agg #[.int .i8 X, .int .i8 Y, .slice (some ⟨G0, 0, none⟩) n n], .slice (some ⟨G1, 0, none⟩) k1 k1, .slice (some ⟨G2, 0, none⟩) m m] W (LaPost X Y code D W)) → (∀ (W : World) (G0 G1 G2 : Nat), Ab W G0 n c → Ab W G1 k1 l → Ar W G2 m o → Calls Try.prog 39 #[.agg #[.int .i8 X, .int .i8 Y, .slice (some ⟨G0, 0, none⟩) n n], .slice (some ⟨G1, 0, none⟩) k1 k1, .slice (some ⟨G2, 0, none⟩) m m] W (LaPost X Y code D W)) → ∃ (rX rY z1 : Int) (nn : Nat) (ff : Nat → Int), nn ≤ 1000 ∧
      (∀ (W : World) (G0 G1 G2 : Nat), Ab W G0 n c → Ab W G1 k1 l → Ar W G2 m o → Calls Try.prog 37 #[.agg #[.int .i8 X, .int .i8 Y, .slice (some ⟨G0, 0, none⟩) n n], .slice (some ⟨G1, 0, none⟩) k1 k1, .slice (some ⟨G2, 0, none⟩) m m] W fun e w' => Below W.heap.size W w' ∧ ∃ v, e = .returned (.tuple #[.agg #[.int .i8 rX, .int .i8 rY, v], .int .i64 z1]) ∧ HasSlice .i8 4 w' W.heap.size v nn ff) ∧
      (∀ (W : World) (G0 G1 G2 : Nat), Ab W G0 n c → Ab W G1 k1 l → Ar W G2 m o → Calls Try.prog 39 #[.agg #[.int .i8 X, .int .i8 Y, .slice (some ⟨G0, 0, none⟩) n n], .slice (some ⟨G1, 0, none⟩) k1 k1, .slice (some ⟨G2, 0, none⟩) m m] W fun e w' => Below W.heap.size W w' ∧ ∃ v, e = .returned (.tuple #[.agg #[.int .i8 rX, .int .i8 rY, v], .int .i64 z1]) ∧ HasSlice .i8 4 w' W.heap.size v nn ff) := by
    intro code D hD h1 h2
    by_cases hcode : code = 0
    · subst hcode
      obtain ⟨L, hL⟩ := exists_sorted D
      have hk : ∀ (W : World) (e : Ending) (w' : World), LaPost X Y 0 D W e w' → Below W.heap.size W w' ∧ ∃ v, e = .returned (.tuple #[.agg #[.int .i8 X, .int .i8 Y, v], .int .i64 0]) ∧ HasSlice .i8 4 w' W.heap.size v D.length (fL L) := by
        rintro W e w' ⟨hb, ⟨_, v, L', he, hs, hS⟩ | ⟨h, _⟩⟩
        · obtain rfl := hs.unique hL (hD rfl).2
          exact ⟨hb, v, he, hS⟩
        · exact absurd rfl h
      exact ⟨X, Y, 0, D.length, fL L, by have := (hD rfl).1; omega, fun W G0 G1 G2 a b d => (h1 W G0 G1 G2 a b d).mono (hk W), fun W G0 G1 G2 a b d => (h2 W G0 G1 G2 a b d).mono (hk W)⟩
    · have hk : ∀ (W : World) (e : Ending) (w' : World), LaPost X Y code D W e w' → Below W.heap.size W w' ∧ ∃ v, e = .returned (.tuple #[.agg #[.int .i8 0, .int .i8 0, v], .int .i64 code]) ∧ HasSlice .i8 4 w' W.heap.size v 0 (fL []) := by
        rintro W e w' ⟨hb, ⟨h, _⟩ | ⟨_, v, he, hS⟩⟩
        · exact absurd h hcode
        · exact ⟨hb, v, he, hS⟩
      exact ⟨0, 0, code, 0, fL [], by omega, fun W G0 G1 G2 a b d => (h1 W G0 G1 G2 a b d).mono (hk W), fun W G0 G1 G2 a b d => (h2 W G0 G1 G2 a b d).mono (hk W)⟩
  by_cases hv : Valid X Y n c
  · by_cases h10 : k1 ≤ 10
    · by_cases he : Each k1 m o
      · obtain ⟨W', rfl⟩ := Int.eq_ofNat_of_zero_le (show 0 ≤ X by have := hv.1; omega)
        obtain ⟨H', rfl⟩ := Int.eq_ofNat_of_zero_le (show 0 ≤ Y by have := hv.2.2.1; omega)
        refine key (layR W' H' (seqL l o m) (toL c n)).1 (layR W' H' (seqL l o m) (toL c n)).2 (fun h0 => ⟨?_, ?_⟩) (fun W G0 G1 G2 a b d => spec_in W' H' G0 n c _ k1 k1 l _ m m o W hc hm a.row hv h10 hmm (Nat.le_refl _) hl b.rd d.rd he) (fun W G0 G1 G2 a b d => impl_in W' H' G0 n c _ k1 k1 l _ m m o W hc hm a.row hv h10 hmm (Nat.le_refl _) hl b.rd d.rd he)
        · rcases layR_code (X := W') (Y := H') (seqL l o m) (toL c n) (by rw [toL_length]; exact hv.2.2.2.2.1) with h | h
          · exact h.2
          · omega
        · exact (layR_fit (by have := hv.2.1; omega) (by have := hv.2.2.2.1; omega) _ _ (Fit4.of_valid hv)).apart (by have := hv.2.1; omega) (by have := hv.2.2.2.1; omega)
      · exact key 4 [] (fun h => by cases h) (fun W G0 G1 G2 a b d => specC X Y G0 n c _ k1 k1 _ m m o W hX hY hc hm hk1 hmm (Nat.le_refl _) a.row d.rd hv h10 he) (fun W G0 G1 G2 a b d => implC X Y G0 n c _ k1 k1 _ m m o W hX hY hc hm hk1 hmm (Nat.le_refl _) a.row d.rd hv h10 he)
    · exact key 3 [] (fun h => by cases h) (fun W G0 G1 G2 a b d => specB X Y G0 n c _ k1 k1 _ m m o W hX hY hc hm hk1 hmm (Nat.le_refl _) a.row d.rd hv (by omega)) (fun W G0 G1 G2 a b d => implB X Y G0 n c _ k1 k1 _ m m o W hX hY hc hm hk1 hmm (Nat.le_refl _) a.row d.rd hv (by omega))
  · exact key 1 [] (fun h => by cases h) (fun W G0 G1 G2 a b d => specA X Y G0 n c _ k1 k1 _ m m o W hX hY hc hm hk1 hmm (Nat.le_refl _) a.row d.rd hv) (fun W G0 G1 G2 a b d => implA X Y G0 n c _ k1 k1 _ m m o W hX hY hc hm hk1 hmm (Nat.le_refl _) a.row d.rd hv)
end layAll
end Go.Proofs.Ytkdakpbkpfigeaa
