/-
  Contracts of the model's l04Gully and l04Fall. Conditions stand at each.
-/
import Derived.Test.YtegnhpanlbfmdaaRows
import Derived.Test.YtegnhpanlbfmdaaBesS
import Derived.Test.YtegnhpanlbfmdaaBesM
import Derived.BigQuiet
namespace Go.Proofs.Ytegnhpanlbfmdaa
open Go Go.ChangeShapes Go.WideShapes Go.ChangeAt Go.RowKit
set_option linter.unusedVariables false
set_option linter.unusedSimpArgs false
set_option maxRecDepth 100000
set_option maxHeartbeats 4000000

theorem OwnC.of_blocks {w w' : World} {base : Nat} {v : Value} {L : List (Nat × Nat)} (h : OwnC w base v L) (hk : ∀ g, base ≤ g → g < w.heap.size → w'.heap[g]? = w.heap[g]?) : OwnC w' base v L := by
  refine ⟨h.1, h.2.imp id ?_⟩
  rintro ⟨g, cap, cur, h1, h2, h3, h4⟩
  exact ⟨g, cap, cur, h1, h2, (hk g h2 (Array.getElem?_eq_some_iff.1 h3).1).trans h3, h4⟩
theorem OwnC.setOther {w : World} {base b i : Nat} {v u : Value} {L : List (Nat × Nat)} (h : OwnC w base v L) (hb : b < base) : OwnC (w.setCell ⟨b, i, none⟩ u) base v L :=
  h.of_blocks fun g hg _ => Below.heap_setCell w ⟨b, i, none⟩ u g (by simp; omega)
theorem OwnC.drew {w : World} {base : Nat} {v : Value} {L : List (Nat × Nat)} (h : OwnC w base v L) : OwnC w.drew base v L := h
theorem OwnC.sub {w w' : World} {base B : Nat} {v : Value} {L : List (Nat × Nat)} (h : OwnC w base v L) (hb : Below B w w') (hB : w.heap.size ≤ B) : OwnC w' base v L :=
  h.of_blocks fun g _ hg => hb.block g (by omega)

theorem OwnC.form {w : World} {base : Nat} {v : Value} {L : List (Nat × Nat)} (h : OwnC w base v L) : ∃ A cap, v = .slice A L.length cap ∧ (0 < L.length → ∃ g, A = some ⟨g, 0, none⟩ ∧ base ≤ g ∧ g < w.heap.size) := by
  rcases h.2 with ⟨rfl, h0⟩ | ⟨g, cap, cur, h1, h2, h3, h4⟩
  · exact ⟨none, 0, by rw [h0], fun k => absurd h0 (by omega)⟩
  · exact ⟨some ⟨g, 0, none⟩, cap, h1, fun _ => ⟨g, rfl, h2, (Array.getElem?_eq_some_iff.1 h3).1⟩⟩

def GuPost (n : Nat) (c : Nat → Int) (a b : Int) (w : World) (e : Ending) (w' : World) : Prop :=
  Below w.heap.size w w' ∧ ((∃ i, i < n ∧ gSame c a b i ∧ e = .returned (.int .i64 (i : Int))) ∨ ((∀ i, i < n → ¬ gSame c a b i) ∧ e = .returned (.int .i64 (-1))))
theorem ggully_any (X Y : Int) (h : Nat → Int) (bq : Nat) (A : Option Addr) (n cap : Nat) (c : Nat → Int) (a b : Int) (w : World) (h8 : n ≤ 8) (hB : Bx w bq (gV X Y h (.slice A n cap)) 33) (hr : RdK .i8 w w.heap.size A (2 * n) c) :
    Calls Try.prog 135 #[.pointer (some ⟨bq, 0, none⟩), .agg #[.int .i8 a, .int .i8 b]] w (GuPost n c a b w) := by
  have hlt0 := hB.lt
  have X0 := Bx.new w #[.int .i8 a, .int .i8 b] 40
  have B0 := al (Below.refl w.heap.size w) (.cells #[.int .i8 a, .int .i8 b] 40)
  have X1 := hB.alloc (.cells #[.int .i8 a, .int .i8 b] 40)
  have R1 := hr.below B0
  clear hr
  go_enter Try.func135, Try.ntmps135
  go_wp2
  obtain ⟨W0, hW0⟩ : ∃ W0 : World, W0 = w.alloc (.cells #[.int .i8 a, .int .i8 b] 40) := ⟨_, rfl⟩
  rw [← hW0] at X0 B0 X1 R1 ⊢
  clear hW0
  have hs0 := X0.lt
  go_loopw [5] (fun t5 wr => ∃ i : Nat, i ≤ n ∧ t5 = .int .i64 i ∧ Below w.heap.size w wr ∧ Below W0.heap.size W0 wr ∧ ∀ j, j < i → ¬ gSame c a b j) (fun t5 _ => n - (intOf t5).toNat)
  case atStart => exact ⟨0, by omega, rfl, B0, Below.refl _ _, fun j hj => absurd hj (by omega)⟩
  case round =>
    clear B0
    obtain ⟨i, hi, rfl, B, B1, hno⟩ := hrel
    obtain ⟨wo, rfl⟩ : ∃ wo : World, wo = wr := ⟨_, rfl⟩
    have HNO := Lib.hid hno
    have Z0 := X0.below B1
    have Z1 := X1.below B1
    have R2 := R1.below (B1.mono (Nat.le_of_lt hs0))
    obtain ⟨l1, p1, q1, r1⟩ := Z1.gcells
    clear hno
    by_cases hlt : i < n
    · have hii : (i : Int) < n := by omega
      obtain ⟨bg, off, rfl, hbl, c0, c1⟩ := rdCell R2 hlt
      have d0 : wo.cell? ⟨w.heap.size, 0, none⟩ = some (.int .i8 a) := Z0.cell 0
      have d1 : wo.cell? ⟨w.heap.size, 1, none⟩ = some (.int .i8 b) := Z0.cell 1
      by_cases h0 : c (2 * i) = a
      · have e0 : (c (2 * i) == a) = true := by simpa using h0
        have H0 := Lib.hid h0
        clear h0
        by_cases h1 : c (2 * i + 1) = b
        · have e1 : (c (2 * i + 1) == b) = true := by simpa using h1
          have H1 := Lib.hid h1
          clear h1
          go_wp2
          go_quiet (fail)
          go_wp2
          go_ret
          exact ⟨below_drewN' B _, .inl ⟨i, hlt, ⟨H0.out, H1.out⟩, rfl⟩⟩
        · have e1 : (c (2 * i + 1) == b) = false := by simpa using h1
          have H1 := Lib.hid h1
          clear h1
          go_wp2
          go_quiet (fail)
          go_wp2
          refine ⟨⟨i + 1, by omega, by first | go_num | simp, below_drewN' B _, below_drewN' B1 _, fun j hj => ?_⟩, by simp [intOf]; omega⟩
          by_cases e : j = i
          · subst e; exact fun k => H1.out k.2
          · exact HNO.out j (by omega)
      · have e0 : (c (2 * i) == a) = false := by simpa using h0
        have H0 := Lib.hid h0
        clear h0
        go_wp2
        go_quiet (fail)
        go_wp2
        refine ⟨⟨i + 1, by omega, by first | go_num | simp, below_drewN' B _, below_drewN' B1 _, fun j hj => ?_⟩, by simp [intOf]; omega⟩
        by_cases e : j = i
        · subst e; exact fun k => H0.out k.1
        · exact HNO.out j (by omega)
    · obtain rfl : i = n := by omega
      go_wp2
      go_ret
      exact ⟨B, .inr ⟨HNO.out, rfl⟩⟩

def cellA (p : Nat × Nat) : Array Value := #[.int .i8 (p.1 : Int), .int .i8 (p.2 : Int)]
def GfPost (W H : Nat) (h : Nat → Int) (n : Nat) (c : Nat → Int) (p : Nat × Nat) (w : World) (e : Ending) (w' : World) : Prop :=
  Below w.heap.size w w' ∧ ∃ (q : Nat × Nat) (r : Bool), e = .returned (.tuple #[.agg (cellA q), .bool r]) ∧ (r = true ↔ Goes W H h n c p) ∧ (r = true → q = lowP W H h p)
theorem gfall_any (W H x y : Nat) (h : Nat → Int) (bq : Nat) (A : Option Addr) (n cap : Nat) (c : Nat → Int) (w : World) (hW : W ≤ 9) (hH : H ≤ 9) (hx : x < W) (hy : y < H) (h8 : n ≤ 8) (hh : ∀ p, -32768 ≤ h p ∧ h p ≤ 32767) (hB : Bx w bq (gV W H h (.slice A n cap)) 33) (hr : RdK .i8 w w.heap.size A (2 * n) c) :
    Calls Try.prog 124 #[.pointer (some ⟨bq, 0, none⟩), .agg #[.int .i8 (x : Int), .int .i8 (y : Int)]] w (GfPost W H h n c (x, y) w) := by
  have HH := Lib.hid hh
  clear hh
  have hxi : (x : Int) < 9 := by omega
  have hyi : (y : Int) < 9 := by omega
  have X0 := (Bx.new w #[.int .i8 (x : Int), .int .i8 (y : Int)] 40).alloc (.cells #[.int .i8 0, .int .i8 0] 40)
  have X4 := Bx.newAt (w.alloc (.cells #[.int .i8 (x : Int), .int .i8 (y : Int)] 40)) (w.heap.size + 1) #[.int .i8 0, .int .i8 0] 40 (by simp)
  have B := al (al (Below.refl w.heap.size w) (.cells #[.int .i8 (x : Int), .int .i8 (y : Int)] 40)) (.cells #[.int .i8 0, .int .i8 0] 40)
  have X1 := (hB.alloc (.cells #[.int .i8 (x : Int), .int .i8 (y : Int)] 40)).alloc (.cells #[.int .i8 0, .int .i8 0] 40)
  have R1 := hr.below B
  have hlt0 := hB.lt
  clear hr
  go_enter Try.func124, Try.ntmps124
  go_wp2_with fail
  refine (ggully_any W H h bq A n cap c (x : Int) (y : Int) _ h8 X1 (R1.mono (by simp; omega))).mono ?_
  rintro e w1 ⟨hb, ⟨i, hi, hs, rfl⟩ | ⟨hno, rfl⟩⟩
  · replace X0 := X0.below hb
    replace X4 := X4.below hb
    replace B := nxt B hb
    have hg : gAt c n (x, y) := ⟨i, hi, hs⟩
    have HG := Lib.hid hg
    have c0 : w1.cell? ⟨w.heap.size, 0, none⟩ = some (.int .i8 (x : Int)) := X0.cell 0
    have c1 : w1.cell? ⟨w.heap.size, 1, none⟩ = some (.int .i8 (y : Int)) := X0.cell 1
    have f0 := X4.frozen 0
    have f1 := X4.frozen 1
    have s0 := X4.cell 0
    have s1 := X4.cell 1
    have hi0 : (0 : Int) ≤ (i : Int) := by omega
    clear hb hg hs X1
    go_wp2
    refine bodyPost_ret (v := .tuple #[.agg (cellA (x, y)), .bool false]) (by simp [results, Try.results124, go_sem, cellA, s0, s1]) rfl ⟨?_, (x, y), false, rfl, ⟨(fun k => by cases k), fun k => absurd HG.out k.1⟩, fun k => by cases k⟩
    exact (B.setCell (p := ⟨w.heap.size + 1, 0, none⟩) (by simp) _).setCell (p := ⟨w.heap.size + 1, 1, none⟩) (by simp) _
  · have hg : ¬ gAt c n (x, y) := fun ⟨i, hi, hs⟩ => hno i hi hs
    have HG := Lib.hid hg
    replace X0 := X0.below hb
    replace X1 := X1.below hb
    replace X4 := X4.below hb
    replace B := nxt B hb
    have c0 : w1.cell? ⟨w.heap.size, 0, none⟩ = some (.int .i8 (x : Int)) := X0.cell 0
    have c1 : w1.cell? ⟨w.heap.size, 1, none⟩ = some (.int .i8 (y : Int)) := X0.cell 1
    have hs1 : w.heap.size + 1 < w1.heap.size := X4.lt
    clear hb hg hno R1
    have d0 : (w1.alloc (.cells #[.int .i8 (x : Int), .int .i8 (y : Int)] 40)).cell? ⟨w.heap.size, 0, none⟩ = some (.int .i8 (x : Int)) := (X0.alloc (.cells #[.int .i8 (x : Int), .int .i8 (y : Int)] 40)).cell 0
    have d1 : (w1.alloc (.cells #[.int .i8 (x : Int), .int .i8 (y : Int)] 40)).cell? ⟨w.heap.size, 1, none⟩ = some (.int .i8 (y : Int)) := (X0.alloc (.cells #[.int .i8 (x : Int), .int .i8 (y : Int)] 40)).cell 1
    go_wp2_with fail
    clear d0 d1
    have X6 := Bx.new w1 #[.int .i8 (x : Int), .int .i8 (y : Int)] 40
    replace X0 := X0.alloc (.cells #[.int .i8 (x : Int), .int .i8 (y : Int)] 40)
    replace X1 := X1.alloc (.cells #[.int .i8 (x : Int), .int .i8 (y : Int)] 40)
    replace X4 := X4.alloc (.cells #[.int .i8 (x : Int), .int .i8 (y : Int)] 40)
    replace B := al B (.cells #[.int .i8 (x : Int), .int .i8 (y : Int)] 40)
    obtain ⟨W2, hW2⟩ : ∃ W2 : World, W2 = w1.alloc (.cells #[.int .i8 (x : Int), .int .i8 (y : Int)] 40) := ⟨_, rfl⟩
    have hs2 : w1.heap.size < W2.heap.size := by rw [hW2]; simp
    rw [← hW2] at X0 X1 X4 X6 B ⊢
    clear hW2 c0 c1
    refine (gbes_any W H x y h _ bq _ hW hH hx hy X1).mono ?_
    rintro e w3 ⟨hb, v, rfl, O⟩
    have hL : ∀ q ∈ besL W H x y, q.1 < W ∧ q.2 < H := fun q hq => besK_mem hq
    have hm4 : (besL W H x y).length ≤ 4 := besK_length 4
    have hlow : lowP W H h (x, y) = lowL h (besL W H x y) (x, y) := rfl
    generalize besL W H x y = L at O hL hm4 hlow
    obtain ⟨m, hm⟩ : ∃ m, m = L.length := ⟨_, rfl⟩
    obtain ⟨A2, cap2, rfl, hA2⟩ := O.form
    rw [← hm] at O hA2 hm4 ⊢
    replace X0 := X0.below hb
    replace X4 := X4.below hb
    replace X6 := X6.below hb
    replace B := nxt B hb
    have hs3 := hb.size
    have HL := Lib.hid hL
    have HM := Lib.hid hm
    have HLO := Lib.hid hlow
    clear hb X1 hL hm hlow
    go_wp2_with fail
    go_loopw [8] (fun t8 wr => ∃ k : Nat, k ≤ m ∧ t8 = .int .i64 k ∧ Below w.heap.size w wr ∧ Bx wr w.heap.size #[.int .i8 (x : Int), .int .i8 (y : Int)] 40 ∧ Bx wr (w.heap.size + 1) #[.int .i8 0, .int .i8 0] 40 ∧
      OwnC wr W2.heap.size (.slice A2 m cap2) L ∧ ∃ p : Nat × Nat, p = lowL h (L.take k) (x, y) ∧ p.1 < W ∧ p.2 < H ∧ Bx wr w1.heap.size (cellA p) 40) (fun t8 _ => m - (intOf t8).toNat)
    case atStart => exact ⟨0, by omega, rfl, B, X0, X4, O, (x, y), rfl, hx, hy, X6⟩
    case round =>
      clear B X0 X4 X6 O
      obtain ⟨k, hk, rfl, B, X0, X4, O, p, hp, hpW, hpH, X6⟩ := hrel
      obtain ⟨px, py⟩ := p
      obtain ⟨wo, rfl⟩ : ∃ wo : World, wo = wr := ⟨_, rfl⟩
      have HP := Lib.hid hp
      have X1 : Bx wo bq (gV W H h (.slice A n cap)) 33 := hB.of_block (B.block _ hlt0)
      clear hp
      dsimp only at hpW hpH
      have b0 : wo.cell? ⟨w1.heap.size, 0, none⟩ = some (.int .i8 (px : Int)) := X6.cell 0
      have b1 : wo.cell? ⟨w1.heap.size, 1, none⟩ = some (.int .i8 (py : Int)) := X6.cell 1
      have hpx : (px : Int) < 9 := by omega
      have hpy : (py : Int) < 9 := by omega
      by_cases hlt : k < m
      · have hki : (k : Int) < m := by omega
        obtain ⟨g, rfl, hg, _⟩ := hA2 (by omega)
        have hq : L[k]? = some (L[k]'(by rw [← HM.out]; exact hlt)) := List.getElem?_eq_getElem _
        obtain ⟨⟨a, b⟩, hq⟩ : ∃ q, L[k]? = some q := ⟨_, hq⟩
        obtain ⟨hqa, hqb⟩ := HL.out _ (List.mem_of_getElem? hq)
        dsimp only at hqa hqb
        obtain ⟨c0, c1⟩ := OwnC.get O HM.out.symm hq
        dsimp only at c0 c1
        have hsg := (World.ownsRow.lt O g rfl).2
        have HQ := Lib.hid hq
        clear hq
        have hai : (a : Int) < 9 := by omega
        have hbi : (b : Int) < 9 := by omega
        by_cases hl : h (b * 9 + a) < h (py * 9 + px)
        · have Hl := Lib.hid hl
          go_wp2
          refine wp_region_held_drew (S := (fun w' : World => w'.cell? ⟨g, k * 2, none⟩ = some (.int .i8 (a : Int)) ∧ w'.cell? ⟨g, k * 2 + 1, none⟩ = some (.int .i8 (b : Int)) ∧ w'.cell? ⟨w1.heap.size, 0, none⟩ = some (.int .i8 (px : Int)) ∧ w'.cell? ⟨w1.heap.size, 1, none⟩ = some (.int .i8 (py : Int)))) (by kernel_rfl) ⟨c0, c1, b0, b1⟩ (fun hHeld => ?_)
          refine wpAnyH_take (i := 0) (oi := _) (v := ?_) rfl (by kernel_rfl) (by kernel_rfl) (by kernel_rfl) (fun _ _ _ h => h) (Or.inl ⟨by kernel_rfl, ?_⟩) (by assumption) ?_
          rotate_left
          · intro w hSw; (try dsimp only at hSw); go_simp; first | done | with_reducible rfl
          try simp only [List.getElem_toArray, List.getElem_cons_zero, List.getElem_cons_succ, Act.put, List.setIfInBounds_toArray, List.set_cons_zero, List.set_cons_succ]
          refine wpAnyH_take (i := 1) (oi := _) (v := ?_) rfl (by kernel_rfl) (by kernel_rfl) (by kernel_rfl) (fun _ _ _ h => h) (Or.inl ⟨by kernel_rfl, ?_⟩) (by assumption) ?_
          rotate_left
          · intro w hSw; (try dsimp only at hSw); go_simp; first | done | with_reducible rfl
          try simp only [List.getElem_toArray, List.getElem_cons_zero, List.getElem_cons_succ, Act.put, List.setIfInBounds_toArray, List.set_cons_zero, List.set_cons_succ]
          refine wpAnyH_take (i := 2) (oi := _) (v := ?_) rfl (by kernel_rfl) (by kernel_rfl) (by kernel_rfl) (fun _ _ _ h => h) (Or.inl ⟨by kernel_rfl, ?_⟩) (by assumption) ?_
          rotate_left
          · intro w hSw; (try dsimp only at hSw); go_simp; first | done | with_reducible rfl
          try simp only [List.getElem_toArray, List.getElem_cons_zero, List.getElem_cons_succ, Act.put, List.setIfInBounds_toArray, List.set_cons_zero, List.set_cons_succ]
          refine wpAnyH_take (i := 3) (oi := _) (v := ?_) rfl (by kernel_rfl) (by kernel_rfl) (by kernel_rfl) (fun _ _ _ h => h) (Or.inl ⟨by kernel_rfl, ?_⟩) (by assumption) ?_
          rotate_left
          · intro w hSw; (try dsimp only at hSw); go_simp; first | done | with_reducible rfl
          try simp only [List.getElem_toArray, List.getElem_cons_zero, List.getElem_cons_succ, Act.put, List.setIfInBounds_toArray, List.set_cons_zero, List.set_cons_succ]
          refine wpAnyH_take (i := 4) (oi := _) (v := ?_) rfl (by kernel_rfl) (by kernel_rfl) (by kernel_rfl) (fun _ _ _ h => h) (Or.inl ⟨by kernel_rfl, ?_⟩) (by assumption) ?_
          rotate_left
          · intro w hSw; (try dsimp only at hSw); go_simp; first | done | with_reducible rfl
          try simp only [List.getElem_toArray, List.getElem_cons_zero, List.getElem_cons_succ, Act.put, List.setIfInBounds_toArray, List.set_cons_zero, List.set_cons_succ]
          refine wpAnyH_take (i := 6) (oi := _) (v := ?_) rfl (by kernel_rfl) (by kernel_rfl) (by kernel_rfl) (fun _ _ _ h => h) (Or.inl ⟨by kernel_rfl, ?_⟩) (by assumption) ?_
          rotate_left
          · intro w hSw; (try dsimp only at hSw); go_simp; first | done | with_reducible rfl
          try simp only [List.getElem_toArray, List.getElem_cons_zero, List.getElem_cons_succ, Act.put, List.setIfInBounds_toArray, List.set_cons_zero, List.set_cons_succ]
          refine wpAnyH_take (i := 7) (oi := _) (v := ?_) rfl (by kernel_rfl) (by kernel_rfl) (by kernel_rfl) (fun _ _ _ h => h) (Or.inl ⟨by kernel_rfl, ?_⟩) (by assumption) ?_
          rotate_left
          · intro w hSw; (try dsimp only at hSw); go_simp; first | done | with_reducible rfl
          try simp only [List.getElem_toArray, List.getElem_cons_zero, List.getElem_cons_succ, Act.put, List.setIfInBounds_toArray, List.set_cons_zero, List.set_cons_succ]
          refine wpAnyH_ready (rs := [5]) (by kernel_rfl) (by simp) ?_
          refine AllReadyH.cons (o := _) rfl (fun K hK => ?_) AllReadyH.nil
          go_simp
          refine (gheight_any W H h _ bq a b _ (by omega) (by omega) HH.out X1.drew).mono ?_
          rintro e w5 ⟨rfl, hb⟩
          replace X1 := X1.drew.below hb
          replace X0 := X0.drew.below hb
          replace X4 := X4.drew.below hb
          replace X6 := X6.drew.below hb
          replace O := OwnC.below O.drew hb
          replace B := nxt B.drew hb
          clear hb c0 c1 b0 b1
          obtain ⟨c0, c1⟩ := OwnC.get O HM.out.symm HQ.out
          dsimp only at c0 c1
          have b0 : w5.cell? ⟨w1.heap.size, 0, none⟩ = some (.int .i8 (px : Int)) := X6.cell 0
          have b1 : w5.cell? ⟨w1.heap.size, 1, none⟩ = some (.int .i8 (py : Int)) := X6.cell 1
          refine hK.out _ _ ⟨c0, c1, b0, b1⟩ (fun hHeld => ?_)
          clear hK K
          try simp only [List.getElem_toArray, List.getElem_cons_zero, List.getElem_cons_succ, Act.put, List.setIfInBounds_toArray, List.set_cons_zero, List.set_cons_succ]
          refine wpAnyH_ready (rs := [8]) (by kernel_rfl) (by simp) ?_
          refine AllReadyH.cons (o := _) rfl (fun K hK => ?_) AllReadyH.nil
          go_simp
          refine (gheight_any W H h _ bq px py _ (by omega) (by omega) HH.out X1).mono ?_
          rintro e w5 ⟨rfl, hb⟩
          replace X1 := X1.below hb
          replace X0 := X0.below hb
          replace X4 := X4.below hb
          replace X6 := X6.below hb
          replace O := OwnC.below O hb
          replace B := nxt B hb
          clear hb c0 c1 b0 b1
          obtain ⟨c0, c1⟩ := OwnC.get O HM.out.symm HQ.out
          dsimp only at c0 c1
          have b0 : w5.cell? ⟨w1.heap.size, 0, none⟩ = some (.int .i8 (px : Int)) := X6.cell 0
          have b1 : w5.cell? ⟨w1.heap.size, 1, none⟩ = some (.int .i8 (py : Int)) := X6.cell 1
          refine hK.out _ _ ⟨c0, c1, b0, b1⟩ (fun hHeld => ?_)
          clear hK K
          try simp only [List.getElem_toArray, List.getElem_cons_zero, List.getElem_cons_succ, Act.put, List.setIfInBounds_toArray, List.set_cons_zero, List.set_cons_succ]
          refine wpAnyH_take (i := 9) (oi := _) (v := ?_) rfl (by kernel_rfl) (by kernel_rfl) (by kernel_rfl) (fun _ _ _ h => h) (Or.inl ⟨by kernel_rfl, ?_⟩) (by assumption) ?_
          rotate_left
          · intro w hSw; (try dsimp only at hSw); go_simp; first | done | with_reducible rfl
          try simp only [List.getElem_toArray, List.getElem_cons_zero, List.getElem_cons_succ, Act.put, List.setIfInBounds_toArray, List.set_cons_zero, List.set_cons_succ]
          refine wpAnyH_done (by kernel_rfl) ?_ _
          have f60 := X6.frozen 0
          have f61 := X6.frozen 1
          go_wp2
          refine ⟨⟨k + 1, by omega, by first | go_num | simp, (B.setCell (p := ⟨w1.heap.size, 0, none⟩) (by simp; omega) _).setCell (p := ⟨w1.heap.size, 1, none⟩) (by simp; omega) _, (X0.other _ (by omega)).other _ (by omega), (X4.other _ (by omega)).other _ (by omega), (O.setOther hs2).setOther hs2, (a, b), ?_, hqa, hqb, (X6.set 0 _).set 1 _⟩, by simp [intOf]; omega⟩
          rw [take_snoc HQ.out, lowL_yes]
          rw [← HP.out]
          exact hl
        · have hle : h (py * 9 + px) ≤ h (b * 9 + a) := by omega
          have HN := Lib.hid hl
          clear hl
          go_wp2
          refine wp_region_held_drew (S := (fun w' : World => w'.cell? ⟨g, k * 2, none⟩ = some (.int .i8 (a : Int)) ∧ w'.cell? ⟨g, k * 2 + 1, none⟩ = some (.int .i8 (b : Int)) ∧ w'.cell? ⟨w1.heap.size, 0, none⟩ = some (.int .i8 (px : Int)) ∧ w'.cell? ⟨w1.heap.size, 1, none⟩ = some (.int .i8 (py : Int)))) (by kernel_rfl) ⟨c0, c1, b0, b1⟩ (fun hHeld => ?_)
          refine wpAnyH_take (i := 0) (oi := _) (v := ?_) rfl (by kernel_rfl) (by kernel_rfl) (by kernel_rfl) (fun _ _ _ h => h) (Or.inl ⟨by kernel_rfl, ?_⟩) (by assumption) ?_
          rotate_left
          · intro w hSw; (try dsimp only at hSw); go_simp; first | done | with_reducible rfl
          try simp only [List.getElem_toArray, List.getElem_cons_zero, List.getElem_cons_succ, Act.put, List.setIfInBounds_toArray, List.set_cons_zero, List.set_cons_succ]
          refine wpAnyH_take (i := 1) (oi := _) (v := ?_) rfl (by kernel_rfl) (by kernel_rfl) (by kernel_rfl) (fun _ _ _ h => h) (Or.inl ⟨by kernel_rfl, ?_⟩) (by assumption) ?_
          rotate_left
          · intro w hSw; (try dsimp only at hSw); go_simp; first | done | with_reducible rfl
          try simp only [List.getElem_toArray, List.getElem_cons_zero, List.getElem_cons_succ, Act.put, List.setIfInBounds_toArray, List.set_cons_zero, List.set_cons_succ]
          refine wpAnyH_take (i := 2) (oi := _) (v := ?_) rfl (by kernel_rfl) (by kernel_rfl) (by kernel_rfl) (fun _ _ _ h => h) (Or.inl ⟨by kernel_rfl, ?_⟩) (by assumption) ?_
          rotate_left
          · intro w hSw; (try dsimp only at hSw); go_simp; first | done | with_reducible rfl
          try simp only [List.getElem_toArray, List.getElem_cons_zero, List.getElem_cons_succ, Act.put, List.setIfInBounds_toArray, List.set_cons_zero, List.set_cons_succ]
          refine wpAnyH_take (i := 3) (oi := _) (v := ?_) rfl (by kernel_rfl) (by kernel_rfl) (by kernel_rfl) (fun _ _ _ h => h) (Or.inl ⟨by kernel_rfl, ?_⟩) (by assumption) ?_
          rotate_left
          · intro w hSw; (try dsimp only at hSw); go_simp; first | done | with_reducible rfl
          try simp only [List.getElem_toArray, List.getElem_cons_zero, List.getElem_cons_succ, Act.put, List.setIfInBounds_toArray, List.set_cons_zero, List.set_cons_succ]
          refine wpAnyH_take (i := 4) (oi := _) (v := ?_) rfl (by kernel_rfl) (by kernel_rfl) (by kernel_rfl) (fun _ _ _ h => h) (Or.inl ⟨by kernel_rfl, ?_⟩) (by assumption) ?_
          rotate_left
          · intro w hSw; (try dsimp only at hSw); go_simp; first | done | with_reducible rfl
          try simp only [List.getElem_toArray, List.getElem_cons_zero, List.getElem_cons_succ, Act.put, List.setIfInBounds_toArray, List.set_cons_zero, List.set_cons_succ]
          refine wpAnyH_take (i := 6) (oi := _) (v := ?_) rfl (by kernel_rfl) (by kernel_rfl) (by kernel_rfl) (fun _ _ _ h => h) (Or.inl ⟨by kernel_rfl, ?_⟩) (by assumption) ?_
          rotate_left
          · intro w hSw; (try dsimp only at hSw); go_simp; first | done | with_reducible rfl
          try simp only [List.getElem_toArray, List.getElem_cons_zero, List.getElem_cons_succ, Act.put, List.setIfInBounds_toArray, List.set_cons_zero, List.set_cons_succ]
          refine wpAnyH_take (i := 7) (oi := _) (v := ?_) rfl (by kernel_rfl) (by kernel_rfl) (by kernel_rfl) (fun _ _ _ h => h) (Or.inl ⟨by kernel_rfl, ?_⟩) (by assumption) ?_
          rotate_left
          · intro w hSw; (try dsimp only at hSw); go_simp; first | done | with_reducible rfl
          try simp only [List.getElem_toArray, List.getElem_cons_zero, List.getElem_cons_succ, Act.put, List.setIfInBounds_toArray, List.set_cons_zero, List.set_cons_succ]
          refine wpAnyH_ready (rs := [5]) (by kernel_rfl) (by simp) ?_
          refine AllReadyH.cons (o := _) rfl (fun K hK => ?_) AllReadyH.nil
          go_simp
          refine (gheight_any W H h _ bq a b _ (by omega) (by omega) HH.out X1.drew).mono ?_
          rintro e w5 ⟨rfl, hb⟩
          replace X1 := X1.drew.below hb
          replace X0 := X0.drew.below hb
          replace X4 := X4.drew.below hb
          replace X6 := X6.drew.below hb
          replace O := OwnC.below O.drew hb
          replace B := nxt B.drew hb
          clear hb c0 c1 b0 b1
          obtain ⟨c0, c1⟩ := OwnC.get O HM.out.symm HQ.out
          dsimp only at c0 c1
          have b0 : w5.cell? ⟨w1.heap.size, 0, none⟩ = some (.int .i8 (px : Int)) := X6.cell 0
          have b1 : w5.cell? ⟨w1.heap.size, 1, none⟩ = some (.int .i8 (py : Int)) := X6.cell 1
          refine hK.out _ _ ⟨c0, c1, b0, b1⟩ (fun hHeld => ?_)
          clear hK K
          try simp only [List.getElem_toArray, List.getElem_cons_zero, List.getElem_cons_succ, Act.put, List.setIfInBounds_toArray, List.set_cons_zero, List.set_cons_succ]
          refine wpAnyH_ready (rs := [8]) (by kernel_rfl) (by simp) ?_
          refine AllReadyH.cons (o := _) rfl (fun K hK => ?_) AllReadyH.nil
          go_simp
          refine (gheight_any W H h _ bq px py _ (by omega) (by omega) HH.out X1).mono ?_
          rintro e w5 ⟨rfl, hb⟩
          replace X1 := X1.below hb
          replace X0 := X0.below hb
          replace X4 := X4.below hb
          replace X6 := X6.below hb
          replace O := OwnC.below O hb
          replace B := nxt B hb
          clear hb c0 c1 b0 b1
          obtain ⟨c0, c1⟩ := OwnC.get O HM.out.symm HQ.out
          dsimp only at c0 c1
          have b0 : w5.cell? ⟨w1.heap.size, 0, none⟩ = some (.int .i8 (px : Int)) := X6.cell 0
          have b1 : w5.cell? ⟨w1.heap.size, 1, none⟩ = some (.int .i8 (py : Int)) := X6.cell 1
          refine hK.out _ _ ⟨c0, c1, b0, b1⟩ (fun hHeld => ?_)
          clear hK K
          try simp only [List.getElem_toArray, List.getElem_cons_zero, List.getElem_cons_succ, Act.put, List.setIfInBounds_toArray, List.set_cons_zero, List.set_cons_succ]
          refine wpAnyH_take (i := 9) (oi := _) (v := ?_) rfl (by kernel_rfl) (by kernel_rfl) (by kernel_rfl) (fun _ _ _ h => h) (Or.inl ⟨by kernel_rfl, ?_⟩) (by assumption) ?_
          rotate_left
          · intro w hSw; (try dsimp only at hSw); go_simp; first | done | with_reducible rfl
          try simp only [List.getElem_toArray, List.getElem_cons_zero, List.getElem_cons_succ, Act.put, List.setIfInBounds_toArray, List.set_cons_zero, List.set_cons_succ]
          refine wpAnyH_done (by kernel_rfl) ?_ _
          go_wp2
          refine ⟨⟨k + 1, by omega, by first | go_num | simp, B, X0, X4, O, (px, py), ?_, hpW, hpH, X6⟩, by simp [intOf]; omega⟩
          rw [take_snoc HQ.out, lowL_no]
          · exact HP.out
          · rw [← HP.out]; exact Int.not_lt.2 HN.out
      · obtain rfl : k = m := by omega
        have hp2 : (px, py) = lowP W H h (x, y) := by rw [HLO.out, HP.out, HM.out, List.take_length]
        have HP2 := Lib.hid hp2
        have d0 : wo.cell? ⟨w.heap.size, 0, none⟩ = some (.int .i8 (x : Int)) := X0.cell 0
        have d1 : wo.cell? ⟨w.heap.size, 1, none⟩ = some (.int .i8 (y : Int)) := X0.cell 1
        clear hp2
        have n40 : w.heap.size ≠ w.heap.size + 1 := by omega
        have n41 : w1.heap.size ≠ w.heap.size + 1 := by omega
        replace X6 : Bx wo w1.heap.size #[.int .i8 (px : Int), .int .i8 (py : Int)] 40 := X6
        generalize hpi : (px : Int) = pxi at b0 b1 hpx X6
        generalize hqi : (py : Int) = pyi at b0 b1 hpy X6
        have HPI := Lib.hid hpi
        have HQI := Lib.hid hqi
        clear hpi hqi
        by_cases hpx0 : pxi = (x : Int)
        · subst hpx0
          by_cases hpy0 : pyi = (y : Int)
          · subst hpy0
            go_wp2
            refine wp_region_held_drew (S := (fun w' : World => w'.cell? ⟨w.heap.size, 0, none⟩ = some (.int .i8 (x : Int)) ∧ w'.cell? ⟨w.heap.size, 1, none⟩ = some (.int .i8 (y : Int)) ∧ w'.cell? ⟨w1.heap.size, 0, none⟩ = some (.int .i8 (x : Int)) ∧ w'.cell? ⟨w1.heap.size, 1, none⟩ = some (.int .i8 (y : Int)))) (by kernel_rfl) ⟨d0, d1, b0, b1⟩ (fun hHeld => ?_)
            obtain ⟨wd, hwd⟩ : ∃ wd : World, wd = wo.drew := ⟨_, rfl⟩
            replace X0 : Bx wd _ _ _ := hwd ▸ X0.drew
            replace X4 : Bx wd _ _ _ := hwd ▸ X4.drew
            replace X6 : Bx wd _ _ _ := hwd ▸ X6.drew
            replace B : Below w.heap.size w wd := hwd ▸ B.drew
            rw [← hwd] at hHeld ⊢
            clear hwd d0 d1 b0 b1
            refine wpAnyH_take (i := 0) (oi := _) (v := ?_) rfl (by kernel_rfl) (by kernel_rfl) (by kernel_rfl) (fun _ _ _ h => h) (Or.inl ⟨by kernel_rfl, ?_⟩) (by assumption) ?_
            rotate_left
            · intro w hSw; (try dsimp only at hSw); go_simp; first | done | with_reducible rfl
            try simp only [List.getElem_toArray, List.getElem_cons_zero, List.getElem_cons_succ, Act.put, List.setIfInBounds_toArray, List.set_cons_zero, List.set_cons_succ]
            refine wpAnyH_take (i := 1) (oi := _) (v := ?_) rfl (by kernel_rfl) (by kernel_rfl) (by kernel_rfl) (fun _ _ _ h => h) (Or.inl ⟨by kernel_rfl, ?_⟩) (by assumption) ?_
            rotate_left
            · intro w hSw; (try dsimp only at hSw); go_simp; first | done | with_reducible rfl
            try simp only [List.getElem_toArray, List.getElem_cons_zero, List.getElem_cons_succ, Act.put, List.setIfInBounds_toArray, List.set_cons_zero, List.set_cons_succ]
            refine wpAnyH_take (i := 2) (oi := _) (v := ?_) rfl (by kernel_rfl) (by kernel_rfl) (by kernel_rfl) (fun _ _ _ h => h) (Or.inl ⟨by kernel_rfl, ?_⟩) (by assumption) ?_
            rotate_left
            · intro w hSw; (try dsimp only at hSw); go_simp; first | done | with_reducible rfl
            try simp only [List.getElem_toArray, List.getElem_cons_zero, List.getElem_cons_succ, Act.put, List.setIfInBounds_toArray, List.set_cons_zero, List.set_cons_succ]
            refine wpAnyH_take (i := 3) (oi := _) (v := ?_) rfl (by kernel_rfl) (by kernel_rfl) (by kernel_rfl) (fun _ _ _ h => h) (Or.inl ⟨by kernel_rfl, ?_⟩) (by assumption) ?_
            rotate_left
            · intro w hSw; (try dsimp only at hSw); go_simp; first | done | with_reducible rfl
            try simp only [List.getElem_toArray, List.getElem_cons_zero, List.getElem_cons_succ, Act.put, List.setIfInBounds_toArray, List.set_cons_zero, List.set_cons_succ]
            have s40 : wd.cell? ⟨w.heap.size + 1, 0, none⟩ = some (.int .i8 0) := X4.cell 0
            have s41 : wd.cell? ⟨w.heap.size + 1, 1, none⟩ = some (.int .i8 0) := X4.cell 1
            have f40 : wd.frozen? ⟨w.heap.size + 1, 0, none⟩ = false := X4.frozen 0
            have f41 : wd.frozen? ⟨w.heap.size + 1, 1, none⟩ = false := X4.frozen 1
            refine wpAnyH_ready (rs := [4]) (by kernel_rfl) (by simp) ?_
            refine AllReadyH.cons (o := _) rfl (fun K hK => ?_) AllReadyH.nil
            go_simp
            have X0q := (X0.other (g := w.heap.size + 1) (o := 0) (.int .i8 (x : Int)) n40).other (g := w.heap.size + 1) (o := 1) (.int .i8 (y : Int)) n40
            have X6q := (X6.other (g := w.heap.size + 1) (o := 0) (.int .i8 (x : Int)) n41).other (g := w.heap.size + 1) (o := 1) (.int .i8 (y : Int)) n41
            refine hK.out _ _ ⟨X0q.cell 0, X0q.cell 1, X6q.cell 0, X6q.cell 1⟩ (fun hHeld => ?_)
            clear hK K
            try simp only [List.getElem_toArray, List.getElem_cons_zero, List.getElem_cons_succ, Act.put, List.setIfInBounds_toArray, List.set_cons_zero, List.set_cons_succ]
            refine wpAnyH_take (i := 5) (oi := _) (v := ?_) rfl (by kernel_rfl) (by kernel_rfl) (by kernel_rfl) (fun _ _ _ h => h) (Or.inl ⟨by kernel_rfl, ?_⟩) (by assumption) ?_
            rotate_left
            · intro w hSw; (try dsimp only at hSw); go_simp; first | done | with_reducible rfl
            try simp only [List.getElem_toArray, List.getElem_cons_zero, List.getElem_cons_succ, Act.put, List.setIfInBounds_toArray, List.set_cons_zero, List.set_cons_succ]
            refine wpAnyH_done (by kernel_rfl) ?_ _
            have X5 := (X4.set 0 (.int .i8 (x : Int))).set 1 (.int .i8 (y : Int))
            replace B := (B.setCell (p := ⟨w.heap.size + 1, 0, none⟩) (by simp) (.int .i8 (x : Int))).setCell (p := ⟨w.heap.size + 1, 1, none⟩) (by simp) (.int .i8 (y : Int))
            obtain ⟨w9, hw9⟩ : ∃ w9 : World, w9 = (wd.setCell ⟨w.heap.size + 1, 0, none⟩ (.int .i8 (x : Int))).setCell ⟨w.heap.size + 1, 1, none⟩ (.int .i8 (y : Int)) := ⟨_, rfl⟩
            rw [← hw9] at X5 B ⊢
            have s0 : w9.cell? ⟨w.heap.size + 1, 0, none⟩ = some (.int .i8 (x : Int)) := X5.cell 0
            have s1 : w9.cell? ⟨w.heap.size + 1, 1, none⟩ = some (.int .i8 (y : Int)) := X5.cell 1
            clear hw9
            go_wp2
            refine bodyPost_ret (v := .tuple #[.agg (cellA (px, py)), .bool false]) (by simp [results, Try.results124, go_sem, cellA, s0, s1, HPI.out, HQI.out]) rfl ⟨B, (px, py), false, rfl, ⟨(fun k => by cases k), fun k => absurd (HP2.out.symm.trans (Prod.ext (by have := HPI.out; dsimp only; omega) (by have := HQI.out; dsimp only; omega))) k.2⟩, fun k => by cases k⟩
          · have HPY := Lib.hid hpy0
            go_wp2
            refine wp_region_held_drew (S := (fun w' : World => w'.cell? ⟨w.heap.size, 0, none⟩ = some (.int .i8 (x : Int)) ∧ w'.cell? ⟨w.heap.size, 1, none⟩ = some (.int .i8 (y : Int)) ∧ w'.cell? ⟨w1.heap.size, 0, none⟩ = some (.int .i8 (x : Int)) ∧ w'.cell? ⟨w1.heap.size, 1, none⟩ = some (.int .i8 pyi))) (by kernel_rfl) ⟨d0, d1, b0, b1⟩ (fun hHeld => ?_)
            obtain ⟨wd, hwd⟩ : ∃ wd : World, wd = wo.drew := ⟨_, rfl⟩
            replace X0 : Bx wd _ _ _ := hwd ▸ X0.drew
            replace X4 : Bx wd _ _ _ := hwd ▸ X4.drew
            replace X6 : Bx wd _ _ _ := hwd ▸ X6.drew
            replace B : Below w.heap.size w wd := hwd ▸ B.drew
            rw [← hwd] at hHeld ⊢
            clear hwd d0 d1 b0 b1
            refine wpAnyH_take (i := 0) (oi := _) (v := ?_) rfl (by kernel_rfl) (by kernel_rfl) (by kernel_rfl) (fun _ _ _ h => h) (Or.inl ⟨by kernel_rfl, ?_⟩) (by assumption) ?_
            rotate_left
            · intro w hSw; (try dsimp only at hSw); go_simp; first | done | with_reducible rfl
            try simp only [List.getElem_toArray, List.getElem_cons_zero, List.getElem_cons_succ, Act.put, List.setIfInBounds_toArray, List.set_cons_zero, List.set_cons_succ]
            refine wpAnyH_take (i := 1) (oi := _) (v := ?_) rfl (by kernel_rfl) (by kernel_rfl) (by kernel_rfl) (fun _ _ _ h => h) (Or.inl ⟨by kernel_rfl, ?_⟩) (by assumption) ?_
            rotate_left
            · intro w hSw; (try dsimp only at hSw); go_simp; first | done | with_reducible rfl
            try simp only [List.getElem_toArray, List.getElem_cons_zero, List.getElem_cons_succ, Act.put, List.setIfInBounds_toArray, List.set_cons_zero, List.set_cons_succ]
            refine wpAnyH_take (i := 2) (oi := _) (v := ?_) rfl (by kernel_rfl) (by kernel_rfl) (by kernel_rfl) (fun _ _ _ h => h) (Or.inl ⟨by kernel_rfl, ?_⟩) (by assumption) ?_
            rotate_left
            · intro w hSw; (try dsimp only at hSw); go_simp; first | done | with_reducible rfl
            try simp only [List.getElem_toArray, List.getElem_cons_zero, List.getElem_cons_succ, Act.put, List.setIfInBounds_toArray, List.set_cons_zero, List.set_cons_succ]
            refine wpAnyH_take (i := 3) (oi := _) (v := ?_) rfl (by kernel_rfl) (by kernel_rfl) (by kernel_rfl) (fun _ _ _ h => h) (Or.inl ⟨by kernel_rfl, ?_⟩) (by assumption) ?_
            rotate_left
            · intro w hSw; (try dsimp only at hSw); go_simp; first | done | with_reducible rfl
            try simp only [List.getElem_toArray, List.getElem_cons_zero, List.getElem_cons_succ, Act.put, List.setIfInBounds_toArray, List.set_cons_zero, List.set_cons_succ]
            have s40 : wd.cell? ⟨w.heap.size + 1, 0, none⟩ = some (.int .i8 0) := X4.cell 0
            have s41 : wd.cell? ⟨w.heap.size + 1, 1, none⟩ = some (.int .i8 0) := X4.cell 1
            have f40 : wd.frozen? ⟨w.heap.size + 1, 0, none⟩ = false := X4.frozen 0
            have f41 : wd.frozen? ⟨w.heap.size + 1, 1, none⟩ = false := X4.frozen 1
            refine wpAnyH_ready (rs := [4]) (by kernel_rfl) (by simp) ?_
            refine AllReadyH.cons (o := _) rfl (fun K hK => ?_) AllReadyH.nil
            go_simp
            have X0q := (X0.other (g := w.heap.size + 1) (o := 0) (.int .i8 (x : Int)) n40).other (g := w.heap.size + 1) (o := 1) (.int .i8 pyi) n40
            have X6q := (X6.other (g := w.heap.size + 1) (o := 0) (.int .i8 (x : Int)) n41).other (g := w.heap.size + 1) (o := 1) (.int .i8 pyi) n41
            refine hK.out _ _ ⟨X0q.cell 0, X0q.cell 1, X6q.cell 0, X6q.cell 1⟩ (fun hHeld => ?_)
            clear hK K
            try simp only [List.getElem_toArray, List.getElem_cons_zero, List.getElem_cons_succ, Act.put, List.setIfInBounds_toArray, List.set_cons_zero, List.set_cons_succ]
            refine wpAnyH_take (i := 5) (oi := _) (v := ?_) rfl (by kernel_rfl) (by kernel_rfl) (by kernel_rfl) (fun _ _ _ h => h) (Or.inl ⟨by kernel_rfl, ?_⟩) (by assumption) ?_
            rotate_left
            · intro w hSw; (try dsimp only at hSw); go_simp; first | done | with_reducible rfl
            try simp only [List.getElem_toArray, List.getElem_cons_zero, List.getElem_cons_succ, Act.put, List.setIfInBounds_toArray, List.set_cons_zero, List.set_cons_succ]
            refine wpAnyH_done (by kernel_rfl) ?_ _
            have X5 := (X4.set 0 (.int .i8 (x : Int))).set 1 (.int .i8 pyi)
            replace B := (B.setCell (p := ⟨w.heap.size + 1, 0, none⟩) (by simp) (.int .i8 (x : Int))).setCell (p := ⟨w.heap.size + 1, 1, none⟩) (by simp) (.int .i8 pyi)
            obtain ⟨w9, hw9⟩ : ∃ w9 : World, w9 = (wd.setCell ⟨w.heap.size + 1, 0, none⟩ (.int .i8 (x : Int))).setCell ⟨w.heap.size + 1, 1, none⟩ (.int .i8 pyi) := ⟨_, rfl⟩
            rw [← hw9] at X5 B ⊢
            have s0 : w9.cell? ⟨w.heap.size + 1, 0, none⟩ = some (.int .i8 (x : Int)) := X5.cell 0
            have s1 : w9.cell? ⟨w.heap.size + 1, 1, none⟩ = some (.int .i8 pyi) := X5.cell 1
            clear hw9
            go_wp2
            refine bodyPost_ret (v := .tuple #[.agg (cellA (px, py)), .bool true]) (by simp [results, Try.results124, go_sem, cellA, s0, s1, HPI.out, HQI.out]) rfl ⟨B, (px, py), true, rfl, ⟨fun _ => ⟨HG.out, fun k => HPY.out (by rw [← HP2.out] at k; injection k with _ k; have := HQI.out; omega)⟩, fun _ => rfl⟩, fun _ => HP2.out⟩
        · have HPX := Lib.hid hpx0
          go_wp2
          refine wp_region_held_drew (S := (fun w' : World => w'.cell? ⟨w.heap.size, 0, none⟩ = some (.int .i8 (x : Int)) ∧ w'.cell? ⟨w.heap.size, 1, none⟩ = some (.int .i8 (y : Int)) ∧ w'.cell? ⟨w1.heap.size, 0, none⟩ = some (.int .i8 pxi) ∧ w'.cell? ⟨w1.heap.size, 1, none⟩ = some (.int .i8 pyi))) (by kernel_rfl) ⟨d0, d1, b0, b1⟩ (fun hHeld => ?_)
          obtain ⟨wd, hwd⟩ : ∃ wd : World, wd = wo.drew := ⟨_, rfl⟩
          replace X0 : Bx wd _ _ _ := hwd ▸ X0.drew
          replace X4 : Bx wd _ _ _ := hwd ▸ X4.drew
          replace X6 : Bx wd _ _ _ := hwd ▸ X6.drew
          replace B : Below w.heap.size w wd := hwd ▸ B.drew
          rw [← hwd] at hHeld ⊢
          clear hwd d0 d1 b0 b1
          refine wpAnyH_take (i := 0) (oi := _) (v := ?_) rfl (by kernel_rfl) (by kernel_rfl) (by kernel_rfl) (fun _ _ _ h => h) (Or.inl ⟨by kernel_rfl, ?_⟩) (by assumption) ?_
          rotate_left
          · intro w hSw; (try dsimp only at hSw); go_simp; first | done | with_reducible rfl
          try simp only [List.getElem_toArray, List.getElem_cons_zero, List.getElem_cons_succ, Act.put, List.setIfInBounds_toArray, List.set_cons_zero, List.set_cons_succ]
          refine wpAnyH_take (i := 1) (oi := _) (v := ?_) rfl (by kernel_rfl) (by kernel_rfl) (by kernel_rfl) (fun _ _ _ h => h) (Or.inl ⟨by kernel_rfl, ?_⟩) (by assumption) ?_
          rotate_left
          · intro w hSw; (try dsimp only at hSw); go_simp; first | done | with_reducible rfl
          try simp only [List.getElem_toArray, List.getElem_cons_zero, List.getElem_cons_succ, Act.put, List.setIfInBounds_toArray, List.set_cons_zero, List.set_cons_succ]
          refine wpAnyH_take (i := 2) (oi := _) (v := ?_) rfl (by kernel_rfl) (by kernel_rfl) (by kernel_rfl) (fun _ _ _ h => h) (Or.inl ⟨by kernel_rfl, ?_⟩) (by assumption) ?_
          rotate_left
          · intro w hSw; (try dsimp only at hSw); go_simp; first | done | with_reducible rfl
          try simp only [List.getElem_toArray, List.getElem_cons_zero, List.getElem_cons_succ, Act.put, List.setIfInBounds_toArray, List.set_cons_zero, List.set_cons_succ]
          refine wpAnyH_take (i := 3) (oi := _) (v := ?_) rfl (by kernel_rfl) (by kernel_rfl) (by kernel_rfl) (fun _ _ _ h => h) (Or.inl ⟨by kernel_rfl, ?_⟩) (by assumption) ?_
          rotate_left
          · intro w hSw; (try dsimp only at hSw); go_simp; first | done | with_reducible rfl
          try simp only [List.getElem_toArray, List.getElem_cons_zero, List.getElem_cons_succ, Act.put, List.setIfInBounds_toArray, List.set_cons_zero, List.set_cons_succ]
          have s40 : wd.cell? ⟨w.heap.size + 1, 0, none⟩ = some (.int .i8 0) := X4.cell 0
          have s41 : wd.cell? ⟨w.heap.size + 1, 1, none⟩ = some (.int .i8 0) := X4.cell 1
          have f40 : wd.frozen? ⟨w.heap.size + 1, 0, none⟩ = false := X4.frozen 0
          have f41 : wd.frozen? ⟨w.heap.size + 1, 1, none⟩ = false := X4.frozen 1
          refine wpAnyH_ready (rs := [4]) (by kernel_rfl) (by simp) ?_
          refine AllReadyH.cons (o := _) rfl (fun K hK => ?_) AllReadyH.nil
          go_simp
          have X0q := (X0.other (g := w.heap.size + 1) (o := 0) (.int .i8 pxi) n40).other (g := w.heap.size + 1) (o := 1) (.int .i8 pyi) n40
          have X6q := (X6.other (g := w.heap.size + 1) (o := 0) (.int .i8 pxi) n41).other (g := w.heap.size + 1) (o := 1) (.int .i8 pyi) n41
          refine hK.out _ _ ⟨X0q.cell 0, X0q.cell 1, X6q.cell 0, X6q.cell 1⟩ (fun hHeld => ?_)
          clear hK K
          try simp only [List.getElem_toArray, List.getElem_cons_zero, List.getElem_cons_succ, Act.put, List.setIfInBounds_toArray, List.set_cons_zero, List.set_cons_succ]
          refine wpAnyH_take (i := 5) (oi := _) (v := ?_) rfl (by kernel_rfl) (by kernel_rfl) (by kernel_rfl) (fun _ _ _ h => h) (Or.inl ⟨by kernel_rfl, ?_⟩) (by assumption) ?_
          rotate_left
          · intro w hSw; (try dsimp only at hSw); go_simp; first | done | with_reducible rfl
          try simp only [List.getElem_toArray, List.getElem_cons_zero, List.getElem_cons_succ, Act.put, List.setIfInBounds_toArray, List.set_cons_zero, List.set_cons_succ]
          refine wpAnyH_done (by kernel_rfl) ?_ _
          have X5 := (X4.set 0 (.int .i8 pxi)).set 1 (.int .i8 pyi)
          replace B := (B.setCell (p := ⟨w.heap.size + 1, 0, none⟩) (by simp) (.int .i8 pxi)).setCell (p := ⟨w.heap.size + 1, 1, none⟩) (by simp) (.int .i8 pyi)
          obtain ⟨w9, hw9⟩ : ∃ w9 : World, w9 = (wd.setCell ⟨w.heap.size + 1, 0, none⟩ (.int .i8 pxi)).setCell ⟨w.heap.size + 1, 1, none⟩ (.int .i8 pyi) := ⟨_, rfl⟩
          rw [← hw9] at X5 B ⊢
          have s0 : w9.cell? ⟨w.heap.size + 1, 0, none⟩ = some (.int .i8 pxi) := X5.cell 0
          have s1 : w9.cell? ⟨w.heap.size + 1, 1, none⟩ = some (.int .i8 pyi) := X5.cell 1
          clear hw9
          go_wp2
          refine bodyPost_ret (v := .tuple #[.agg (cellA (px, py)), .bool true]) (by simp [results, Try.results124, go_sem, cellA, s0, s1, HPI.out, HQI.out]) rfl ⟨B, (px, py), true, rfl, ⟨fun _ => ⟨HG.out, fun k => HPX.out (by rw [← HP2.out] at k; injection k with k _; have := HPI.out; omega)⟩, fun _ => rfl⟩, fun _ => HP2.out⟩
end Go.Proofs.Ytegnhpanlbfmdaa
