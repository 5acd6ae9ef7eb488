/-
  The contract of spec.l00Has over four numbers, and of spec.CrossesIn. Conditions stand at each.
-/
import Derived.Test.YtmbmdplafjminaaRows
import Derived.Test.YtmbmdplafjminaaCrossM
import Derived.Test.YtmbmdplafjminaaCells
import Derived.Test.YtmbmdplafjminaaOpenL
import Derived.StillTailTactics
import Derived.Deep.QuietTactic
import Derived.BigQuiet
namespace Go.Proofs.Ytmbmdplafjminaa
open Go Go.ChangeShapes Go.WideShapes Go.ChangeAt Go.RowKit
set_option linter.unusedVariables false
set_option linter.unusedSimpArgs false
set_option maxRecDepth 100000
set_option maxHeartbeats 2000000

def hasB (f : Nat → Int) (k : Nat) (v : Int) : Bool := decide (∃ j, j < k ∧ f j = v)
theorem has_any (b k cap : Nat) (f : Nat → Int) (v : Int) (w : World) (hk : k ≤ 4) (hc : ∀ j, j < 4 → w.cell? ⟨b, j, none⟩ = some (.int .i64 (f j))) :
    Calls Try.prog 89 #[.slice (some ⟨b, 0, none⟩) k cap, .int .i64 v] w fun e w' => e = .returned (.bool (hasB f k v)) ∧ w' = w := by
  have HC := Lib.hid hc
  clear hc
  go_enter Try.func89, Try.ntmps89
  go_wp2
  go_loop [5] (fun t5 => ∃ i : Nat, i ≤ k ∧ t5 = .int .i64 i ∧ ∀ j, j < i → f j ≠ v) (fun t5 => k - (intOf t5).toNat)
  case atStart => exact ⟨0, by omega, rfl, fun j hj => absurd hj (by omega)⟩
  case round =>
    obtain ⟨i, hi, rfl, hall⟩ := hrel
    have HA := Lib.hid hall
    clear hall
    by_cases hlt : i < k
    · have c0 := HC.out i (by omega)
      by_cases he : f i = v
      · have b1 : (f i == v) = true := by simpa using he
        have hr : hasB f k v = true := by unfold hasB; simp; exact ⟨i, hlt, he⟩
        have HR := Lib.hid hr
        clear he hr
        go_wp2
        go_ret
        exact ⟨by rw [HR.out]; rfl, rfl⟩
      · have b1 : (f i == v) = false := by simpa using he
        have HE := Lib.hid he
        clear he
        go_wp2
        refine ⟨⟨i + 1, by omega, by first | go_num | simp, ?_⟩, by simp [intOf]; omega⟩
        intro j hj
        by_cases e : j = i
        · subst e; exact HE.out
        · exact HA.out j (by omega)
    · obtain rfl : i = k := by omega
      have hr : hasB f i v = false := by unfold hasB; simp; exact HA.out
      have HR := Lib.hid hr
      clear hr
      go_wp2
      go_ret
      exact ⟨by rw [HR.out]; rfl, rfl⟩

/-- the crosses among the first cells. -/
def crossC (W : Nat) (G : Nat → Int) (n : Nat) : List (Nat × Nat) := (allC W n).filter (crossB G)
theorem crossC_length (W : Nat) (G : Nat → Int) (n : Nat) : (crossC W G n).length ≤ n := by
  unfold crossC
  exact Nat.le_trans (List.length_filter_le _ _) (by rw [allC_length]; exact Nat.le_refl _)
theorem crossC_succ_yes {W n : Nat} {G : Nat → Int} (h : crossB G (cl W n) = true) : crossC W G (n + 1) = crossC W G n ++ [cl W n] := by
  unfold crossC; rw [allC_succ, List.filter_append]; simp [h]
theorem crossC_succ_no {W n : Nat} {G : Nat → Int} (h : crossB G (cl W n) = false) : crossC W G (n + 1) = crossC W G n := by
  unfold crossC; rw [allC_succ, List.filter_append]; simp [h]
/-- the first row has none. -/
theorem crossC_row0 {W : Nat} {G : Nat → Int} (hW : 1 ≤ W) : ∀ m, m ≤ W → crossC W G m = []
  | 0, _ => rfl
  | m + 1, h => by
    rw [crossC_succ_no, crossC_row0 hW m (by omega)]
    have : cl W m = (m, 0) := by have := cl_eq (W := W) (y := 0) (x := m) (by omega); simpa using this
    rw [this]
    exact crossB_edge (.inr rfl)

def fineB (f : Nat → Int) : Nat → Bool
  | 0 => true
  | i + 1 => fineB f i && (f i != 0) && !hasB f i (f i)
theorem fineB_iff (f : Nat → Int) : ∀ i, fineB f i = true ↔ fine f i
  | 0 => ⟨fun _ j hj => absurd hj (by omega), fun _ => rfl⟩
  | i + 1 => by
    have ih := fineB_iff f i
    show (fineB f i && (f i != 0) && !hasB f i (f i)) = true ↔ _
    rw [Bool.and_eq_true, Bool.and_eq_true, ih]
    unfold hasB
    constructor
    · rintro ⟨⟨h1, h2⟩, h3⟩ j hj
      by_cases e : j = i
      · subst e
        refine ⟨by simpa using h2, fun k hk e => ?_⟩
        simp at h3
        exact h3 k hk e
      · exact h1 j (by omega)
    · intro h
      refine ⟨⟨fun j hj => h j (by omega), by simpa using (h i (by omega)).1⟩, ?_⟩
      simp
      exact fun k hk => (h i (by omega)).2 k hk

/-- what the walk keeps. -/
structure CR (w : World) (W H : Nat) (v : Value) (b6 base : Nat) (G : Nat → Int) (L : List (Nat × Nat)) (u : Value) (Wd : World) : Prop where
  B : Below w.heap.size w Wd
  Q : Sq Wd w.heap.size W H v
  R : Wd.rowIs b6 93 144 (fun p => .int .i64 (G p))
  O : OwnC Wd base u L
  o1 : b6 < base
  o2 : w.heap.size < base
  o3 : base ≤ Wd.heap.size
theorem CR.drewN {w : World} {W H : Nat} {v : Value} {b6 base : Nat} {G : Nat → Int} {L : List (Nat × Nat)} {u : Value} {Wd : World} (h : CR w W H v b6 base G L u Wd) (n : Nat) : CR w W H v b6 base G L u (Wd.drewN n) :=
  ⟨below_drewN' h.B n, h.Q, h.R, h.O, h.o1, h.o2, h.o3⟩
theorem CR.alloc {w : World} {W H : Nat} {v : Value} {b6 base : Nat} {G : Nat → Int} {L : List (Nat × Nat)} {u : Value} {Wd : World} (h : CR w W H v b6 base G L u Wd) (o : Obj) : CR w W H v b6 base G L u (Wd.alloc o) :=
  ⟨al h.B o, h.Q.alloc o, h.R.alloc o, h.O.alloc o, h.o1, h.o2, by have := h.o3; simp; omega⟩

set_option maxHeartbeats 4000000 in
theorem crossS_in (W H g n : Nat) (c : Nat → Int) (w : World) (hc : ∀ j, -128 ≤ c j ∧ c j ≤ 127) (hm : n ≤ 1048576) (hrow : w.rowIs g 58 (4 * n) (fun j => .int .i8 (c j))) (hv : Valid W H n c) :
    Calls Try.prog 52 #[.agg #[.int .i8 (W : Int), .int .i8 (H : Int), .slice (some ⟨g, 0, none⟩) n n]] w fun e w' => Below w.heap.size w w' ∧ ∃ u, e = .returned (.tuple #[u, .int .i64 0]) ∧ OwnC w' w.heap.size u (crossC W (gridN c n) (W * H)) := by
  obtain ⟨i0, hi0, hz0, hz1, hz2⟩ := info_parts infoCell
  have HC := Lib.hid hc
  clear hc
  have hW0 : 1 ≤ W := by have := hv.1; omega
  have hH0 : 1 ≤ H := by have := hv.2.2.1; omega
  have hW : W ≤ 12 := by have := hv.2.1; omega
  have hH : H ≤ 12 := by have := hv.2.2.2.1; omega
  have hok := hv.2.2.2.2.2
  have hWi : (W : Int) ≤ 12 := by omega
  have hHi : (H : Int) ≤ 12 := by omega
  go_enter Try.func52, Try.ntmps52
  go_wp2_with fail
  have HQ := Sq.new w (W : Int) (H : Int) (.slice (some ⟨g, 0, none⟩) n n) 32
  have B := al (Below.refl w.heap.size w) (.cells #[.int .i8 (W : Int), .int .i8 (H : Int), .slice (some ⟨g, 0, none⟩) n n] 32)
  refine (ok_any W H w.heap.size g n c _ (by omega) (by omega) HC.out hm HQ (hrow.of_block (B.block _ hrow.lt))).mono ?_
  rintro e w1 ⟨hb, ⟨h, rfl⟩ | ⟨h, _⟩⟩
  case inr => exact absurd hv h
  clear h
  replace HQ := HQ.below hb
  replace B := nxt B hb
  clear hb
  go_wp2_with fail
  refine (lay_any W H _ g n c _ (by omega) (by omega) HC.out hm HQ (hrow.of_block (B.block _ hrow.lt))).mono ?_
  rintro e w3 ⟨hb, cs, hsz, hone, hcase⟩
  rcases hcase with ⟨_, hcell, rfl⟩ | ⟨hn, _⟩
  case inr => exact absurd hv hn
  replace HQ := HQ.below hb
  replace B := nxt B hb
  clear hb
  have hq3 := HQ.1
  have hG : (w3.alloc (.cells Try.zeroCells93 93)).heap[w3.heap.size]? = some (.cells Try.zeroCells93 93 (0, 0)) := heap_alloc_new w3 _
  have B4 := below_setRow (al B (.cells Try.zeroCells93 93)) B.size cs
  have HQ4 : Sq ((w3.alloc (.cells Try.zeroCells93 93)).setRow w3.heap.size cs) w.heap.size W H (.slice (some ⟨g, 0, none⟩) n n) := (HQ.alloc _).of_block (by rw [setRow_size]; exact Nat.le_refl _) (setRow_other _ _ _ _ (by have := HQ.1; omega))
  have R4 : ((w3.alloc (.cells Try.zeroCells93 93)).setRow w3.heap.size cs).rowIs w3.heap.size 93 144 (fun p => .int .i64 (gridN c n p)) := ⟨cs, setRow_heap _ _ _ _ _ _ hG, hsz, hcell⟩
  obtain ⟨W4, hW4⟩ : ∃ W4 : World, W4 = ((w3.alloc (.cells Try.zeroCells93 93)).setRow w3.heap.size cs) := ⟨_, rfl⟩
  go_wp2_with (first
    | (refine wpList_store_row rfl 93 (.tmp 4) (.tmp 17) rfl w3.heap.size cs rfl rfl 93 Try.zeroCells93 (heap_alloc_new w3 _) (by rw [info93, hsz]) (by rw [zc_size, hsz]) hone ?_
       rw [← hW4] at B4 HQ4 R4 ⊢
       clear hW4 hG HQ B hcell))
  have hs34 := R4.lt
  have h0 : CR w W H (.slice (some ⟨g, 0, none⟩) n n) w3.heap.size W4.heap.size (gridN c n) (crossC W (gridN c n) (W * (0 + 1))) (.slice (some ⟨W4.heap.size, 0, none⟩) 0 0) (W4.alloc (.cells #[] 45)) :=
    ⟨al B4 _, HQ4.alloc _, R4.alloc _, by rw [crossC_row0 hW0 _ (by omega)]; exact World.ownsRow_made W4 #[] 0 (Nat.le_refl _) (Nat.zero_le _) rfl, hs34, by omega, by simp⟩
  have HH0 := Lib.hid h0
  obtain ⟨Wz, hWz⟩ : ∃ Wz : World, Wz = W4.alloc (.cells #[] 45) := ⟨_, rfl⟩
  rw [← hWz] at HH0 ⊢
  clear h0 B4 HQ4 R4 hWz
  go_loopw [6, 7] (fun t6 t7 wr => ∃ l : Nat, l + 1 ≤ H ∧ t7 = .int .i8 ((l : Int) + 1) ∧ CR w W H (.slice (some ⟨g, 0, none⟩) n n) w3.heap.size W4.heap.size (gridN c n) (crossC W (gridN c n) (W * (l + 1))) t6 wr) (fun t6 t7 wr => H - (intOf t7).toNat)
  case atStart => exact ⟨0, by omega, by simp, HH0.out⟩
  case round =>
    clear HH0
    obtain ⟨l, hl, rfl, h⟩ := hrel
    obtain ⟨u6', rfl⟩ : ∃ v0 : Value, v0 = u6 := ⟨_, rfl⟩
    have HH := Lib.hid h
    clear h
    obtain ⟨lq, pq, qq, rq⟩ := id HH.out.Q
    by_cases hlt : l + 1 < H
    · have hli : (l : Int) + 1 < (H : Int) := by omega
      go_wp2
      clear lq pq qq rq
      go_loopw [6, 8] (fun t6 t8 wr => ∃ m : Nat, m + 1 ≤ W ∧ t8 = .int .i8 ((m : Int) + 1) ∧ CR w W H (.slice (some ⟨g, 0, none⟩) n n) w3.heap.size W4.heap.size (gridN c n) (crossC W (gridN c n) (W * (l + 1) + (m + 1))) t6 wr) (fun t6 t8 wr => W - (intOf t8).toNat)
      case atStart =>
        refine ⟨0, by omega, by simp, ?_⟩
        have e := cl_eq (W := W) (y := l + 1) (x := 0) (by omega)
        rw [Nat.add_zero] at e
        rw [Nat.zero_add, crossC_succ_no (by rw [e]; exact crossB_edge (.inl rfl))]
        exact HH.out
      case round =>
        clear HH
        obtain ⟨m, hm1, rfl, h⟩ := hrel
        obtain ⟨u6', rfl⟩ : ∃ v0 : Value, v0 = u6 := ⟨_, rfl⟩
        have HH := Lib.hid h
        clear h
        obtain ⟨lq, pq, qq, rq⟩ := id HH.out.Q
        by_cases hlt2 : m + 1 < W
        · have hmi : (m : Int) + 1 < (W : Int) := by omega
          have c0 := HH.out.R.cell (i := l * 12 + m) (by omega)
          have c1 := HH.out.R.cell (i := l * 12 + (m + 1)) (by omega)
          have c2 := HH.out.R.cell (i := (l + 1) * 12 + m) (by omega)
          have c3 := HH.out.R.cell (i := (l + 1) * 12 + (m + 1)) (by omega)
          have t1 : ((m : Int) + 1).toNat = m + 1 := by omega
          have t2 : ((l : Int) + 1).toNat = l + 1 := by omega
          have hm12 : (m : Int) + 1 < 12 := by omega
          have hl12 : (l : Int) + 1 < 12 := by omega
          have hm12' : (m : Int) < 12 := by omega
          have hm0 : (0 : Int) ≤ (m : Int) + 1 := by omega
          have hl0 : (0 : Int) ≤ (l : Int) + 1 := by omega
          have hl12' : (l : Int) < 12 := by omega
          go_wp2_with fail
          have v1 : IntKind.i8.wrap ((l : Int) + 1 - 1) = (l : Int) := by rw [IntWalk.i8_in _ (by omega)]; omega
          have v2 : IntKind.i8.wrap ((m : Int) + 1 - 1) = (m : Int) := by rw [IntWalk.i8_in _ (by omega)]; omega
          have v3 : IntKind.i8.wrap (l : Int) = (l : Int) := IntWalk.i8_in _ (by omega)
          have v4 : IntKind.i8.wrap (m : Int) = (m : Int) := IntWalk.i8_in _ (by omega)
          go_still_tail 24, (by kernel_rfl)
          go_wp2_with fail
          have hcx := crossB_iff (x := m) (y := l) hok (by omega) (by omega)
          have HCX := Lib.hid hcx
          obtain ⟨f, hf⟩ : ∃ f, f = four (gridN c n) m l := ⟨_, rfl⟩
          have q0 : gridN c n (l * 12 + m) = f 0 := by rw [hf]; rfl
          have q1 : gridN c n (l * 12 + (m + 1)) = f 1 := by rw [hf]; rfl
          have q2 : gridN c n ((l + 1) * 12 + m) = f 2 := by rw [hf]; rfl
          have q3 : gridN c n ((l + 1) * 12 + (m + 1)) = f 3 := by rw [hf]; rfl
          have HFF := Lib.hid hf
          rw [q0, q1, q2, q3]
          have HA := Lib.hid (CR.alloc HH.out (.cells #[.int .i64 (f 0), .int .i64 (f 1), .int .i64 (f 2), .int .i64 (f 3)] 2))
          have h9 : ∀ j, j < 4 → (wr.alloc (.cells #[.int .i64 (f 0), .int .i64 (f 1), .int .i64 (f 2), .int .i64 (f 3)] 2)).drew.cell? ⟨wr.heap.size, j, none⟩ = some (.int .i64 (f j)) := by
            intro j hj
            have hj' : j = 0 ∨ j = 1 ∨ j = 2 ∨ j = 3 := by omega
            rcases hj' with rfl | rfl | rfl | rfl
            · simp
            · simp
            · simp
            · simp
          have H9 := Lib.hid h9
          have HA' : Hid (CR w W H (.slice (some ⟨g, 0, none⟩) n n) w3.heap.size W4.heap.size (gridN c n) (crossC W (gridN c n) (W * (l + 1) + (m + 1))) u6' (wr.alloc (.cells #[.int .i64 (f 0), .int .i64 (f 1), .int .i64 (f 2), .int .i64 (f 3)] 2)).drew) := Lib.hid ⟨HA.out.B.drew, HA.out.Q, HA.out.R, HA.out.O, HA.out.o1, HA.out.o2, HA.out.o3⟩
          obtain ⟨Wk, hWk⟩ : ∃ Wk, (wr.alloc (.cells #[.int .i64 (f 0), .int .i64 (f 1), .int .i64 (f 2), .int .i64 (f 3)] 2)).drew = Wk := ⟨_, rfl⟩
          rw [hWk] at H9 HA' ⊢
          obtain ⟨b9, hb9⟩ : ∃ b9, b9 = wr.heap.size := ⟨_, rfl⟩
          rw [← hb9] at H9 ⊢
          clear hWk hb9 HA HH h9 hf q0 q1 q2 q3 hcx c0 c1 c2 c3 t1 t2 v1 v2 v3 v4 hm0 hl0 hm12' hl12' lq pq qq rq
          go_loopw [10, 11] (fun t10 t11 wr => ∃ i : Nat, i ≤ 4 ∧ t11 = .int .i64 i ∧ t10 = .bool (fineB f i) ∧ CR w W H (.slice (some ⟨g, 0, none⟩) n n) w3.heap.size W4.heap.size (gridN c n) (crossC W (gridN c n) (W * (l + 1) + (m + 1))) u6' wr ∧ ∀ j, j < 4 → wr.cell? ⟨b9, j, none⟩ = some (.int .i64 (f j))) (fun t10 t11 wr => 4 - (intOf t11).toNat)
          case atStart => exact ⟨0, by omega, rfl, rfl, HA'.out, H9.out⟩
          case round =>
            clear HA' H9
            obtain ⟨i, hi, rfl, rfl, h, h9⟩ := hrel
            have HH := Lib.hid h
            have H9 := Lib.hid h9
            clear h h9
            by_cases hi4 : i < 4
            · have hii : (i : Int) < 4 := by omega
              have ci := H9.out i hi4
              have es : fineB f (i + 1) = (fineB f i && (f i != 0) && !hasB f i (f i)) := rfl
              obtain ⟨p, hp⟩ : ∃ p, p = fineB f i := ⟨_, rfl⟩
              rw [← hp] at es ⊢
              have HES := Lib.hid es
              clear es hp
              cases p with
              | false =>
                have e2 : fineB f (i + 1) = false := by rw [HES.out]; rfl
                have HE2 := Lib.hid e2
                clear e2
                go_wp2_with fail
                go_quiet (fail)
                go_wp2
                exact ⟨⟨i + 1, by omega, by first | go_num | simp, by rw [HE2.out], HH.out.drewN _, H9.out⟩, by simp [intOf]; omega⟩
              | true =>
                by_cases hz : f i = 0
                · have b0 : (f i != 0) = false := by simpa using hz
                  have e2 : fineB f (i + 1) = false := by rw [HES.out, b0]; rfl
                  have HE2 := Lib.hid e2
                  clear e2 hz
                  go_wp2_with fail
                  go_quiet (fail)
                  go_wp2
                  exact ⟨⟨i + 1, by omega, by first | go_num | simp, by rw [HE2.out], HH.out.drewN _, H9.out⟩, by simp [intOf]; omega⟩
                · have b0 : (f i != 0) = true := by simpa using hz
                  have e2 : fineB f (i + 1) = !hasB f i (f i) := by rw [HES.out, b0]; simp
                  have HE2 := Lib.hid e2
                  clear e2 hz
                  go_wp2_with fail
                  go_quiet ((go_at_call 89; exact Calls.quiet_of_same (has_any b9 i _ f (f i) _ (by omega) (fun j hj => H9.out j hj))))
                  go_wp2
                  exact ⟨⟨i + 1, by omega, by first | go_num | simp, by rw [HE2.out], HH.out.drewN _, H9.out⟩, by simp [intOf]; omega⟩
            · obtain rfl : i = 4 := by omega
              have hcl := cl_eq (W := W) (y := l + 1) (x := m + 1) (by omega)
              have HCL := Lib.hid hcl
              clear hcl
              cases hfb : fineB f 4 with
              | false =>
                have hno : crossB (gridN c n) (m + 1, l + 1) = false := by
                  rw [Bool.eq_false_iff]
                  intro h
                  have := (fineB_iff f 4).2 (by rw [HFF.out]; exact HCX.out.1 h)
                  rw [hfb] at this
                  cases this
                have HNO := Lib.hid hno
                clear hno hfb
                go_wp2
                refine ⟨⟨m + 1, by omega, by first | go_num | simp, ?_⟩, by simp [intOf]; omega⟩
                rw [← Nat.add_assoc, crossC_succ_no (by rw [HCL.out]; exact HNO.out)]
                exact HH.out
              | true =>
                have hyes : crossB (gridN c n) (m + 1, l + 1) = true := HCX.out.2 (by rw [← HFF.out]; exact (fineB_iff f 4).1 hfb)
                have HYES := Lib.hid hyes
                have h144 : W * (l + 1) + (m + 1) < 144 := by
                  have : W * (l + 1) + W ≤ W * 12 := by rw [← Nat.mul_succ]; exact Nat.mul_le_mul_left _ (by omega)
                  omega
                have hle := crossC_length W (gridN c n) (W * (l + 1) + (m + 1))
                have HLE := Lib.hid (show (crossC W (gridN c n) (W * (l + 1) + (m + 1))).length ≤ 144 by omega)
                clear hyes hfb hle h144
                go_wp2_with (at_builtin; refine wpList_append_own _ rfl _ _ 48 rfl W4.heap.size 45 i0 (.agg #[.int .i8 0, .int .i8 0]) 2 2 Try.underlying48 hi0 hz0 hz1 hz2 rfl (by decide) _ _ _ rfl (World.ownsRow.alloc HH.out.O _) ⟨wr.heap.size, 0, none⟩ 1 1 [.int .i8 ((m : Int) + 1), .int .i8 ((l : Int) + 1)] rfl rfl (new_cells wr #[.int .i8 ((m : Int) + 1), .int .i8 ((l : Int) + 1)] 45) one_ints (by have := HLE.out; unfold maxLen; omega) (by have := HLE.out; omega) (by have := HH.out.o3; simp; omega) ?_; intro v' w1 own' hgr _)
                have hlo : ∀ k, u6'.ownBlock = some k → W4.heap.size ≤ k := fun k e => (World.ownsRow.lt HH.out.O k e).1
                have hA := CR.alloc HH.out (.cells #[.int .i8 ((m : Int) + 1), .int .i8 ((l : Int) + 1)] 45)
                have hn : CR w W H (.slice (some ⟨g, 0, none⟩) n n) w3.heap.size W4.heap.size (gridN c n) (crossC W (gridN c n) (W * (l + 1) + (m + 1 + 1))) v' w1 := by
                  refine ⟨hA.B.grown hgr hA.B.size (fun k e => by have := hlo k e; have := hA.o2; omega), hA.Q.of_block hgr.size (hgr.block _ hA.Q.1 (fun e => by have := hlo _ e.symm; have := hA.o2; omega)), hA.R.of_block (hgr.block _ hA.R.lt (fun e => by have := hlo _ e.symm; have := hA.o1; omega)), ?_, hA.o1, hA.o2, Nat.le_trans hA.o3 hgr.size⟩
                  unfold OwnC
                  rw [← Nat.add_assoc, crossC_succ_yes (by rw [HCL.out]; exact HYES.out), HCL.out, cellsL_append, cellsL_one, List.length_append]
                  exact own'
                have HN := Lib.hid hn
                clear own' hgr hn hlo hA HH H9
                go_wp2
                exact ⟨⟨m + 1, by omega, by first | go_num | simp, HN.out⟩, by simp [intOf]; omega⟩
        · have hmw : m + 1 = W := by omega
          have hmi : ¬ (m : Int) + 1 < (W : Int) := by omega
          go_wp2
          refine ⟨⟨l + 1, by omega, by first | go_num | simp, ?_⟩, by simp [intOf]; omega⟩
          have := HH.out
          rw [hmw, ← Nat.mul_succ] at this
          exact this
    · have hlh : l + 1 = H := by omega
      have hli : ¬ (l : Int) + 1 < (H : Int) := by omega
      go_wp2
      refine bodyPost_ret (results_tmp2 Try.results52 _ _ _) rfl ⟨HH.out.B, u6', rfl, ?_⟩
      rw [← hlh]
      exact World.ownsRow.mono HH.out.O (by have := HH.out.o2; omega)
end Go.Proofs.Ytmbmdplafjminaa
