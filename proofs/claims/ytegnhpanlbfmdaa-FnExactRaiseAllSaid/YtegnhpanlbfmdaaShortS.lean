/-
  The contract of the model's l04Short. Conditions stand at each.
-/
import Derived.Test.YtegnhpanlbfmdaaRows
import Derived.Test.YtegnhpanlbfmdaaFallS
namespace Go.Proofs.Ytegnhpanlbfmdaa
open Go Go.ChangeShapes Go.WideShapes Go.ChangeAt Go.RowKit
set_option linter.unusedVariables false
set_option linter.unusedSimpArgs false
set_option maxRecDepth 100000
set_option maxHeartbeats 4000000

/-- too little fall at a point. -/
def ShortAt (W H : Nat) (h : Nat → Int) (n : Nat) (c : Nat → Int) (fall : Int) (p : Nat × Nat) : Prop := ¬ gAt c n p ∧ htP h p - htP h (lowP W H h p) < fall
/-- some of a list is lower by so much. -/
def Keeps (h : Nat → Int) (fall : Int) (p : Nat × Nat) (L : List (Nat × Nat)) : Prop := ∃ q ∈ L, htP h p - htP h q ≥ fall
theorem keeps_nil {h : Nat → Int} {fall : Int} {p : Nat × Nat} : ¬ Keeps h fall p [] := fun ⟨q, hq, _⟩ => by cases hq
theorem keeps_snoc {h : Nat → Int} {fall : Int} {p q : Nat × Nat} {L : List (Nat × Nat)} : Keeps h fall p (L ++ [q]) ↔ Keeps h fall p L ∨ htP h p - htP h q ≥ fall := by
  constructor
  · rintro ⟨r, hr, hf⟩
    rcases List.mem_append.1 hr with hr | hr
    · exact .inl ⟨r, hr, hf⟩
    · rw [List.mem_singleton.1 hr] at hf; exact .inr hf
  · rintro (⟨r, hr, hf⟩ | hf)
    · exact ⟨r, List.mem_append_left _ hr, hf⟩
    · exact ⟨q, by simp, hf⟩
theorem short_iff {W H : Nat} {h : Nat → Int} {n : Nat} {c : Nat → Int} {fall : Int} {p : Nat × Nat} (h1 : 1 ≤ fall) (hg : ¬ gAt c n p) : ShortAt W H h n c fall p ↔ ¬ Keeps h fall p (besL W H p.1 p.2) := by
  obtain ⟨l1, l2, l3⟩ := lowL_le (h := h) (besL W H p.1 p.2) p
  unfold ShortAt
  constructor
  · rintro ⟨_, hs⟩ ⟨q, hq, hf⟩
    have := l2 q hq
    have e : lowP W H h p = lowL h (besL W H p.1 p.2) p := rfl
    rw [e] at hs
    omega
  · intro hk
    refine ⟨hg, ?_⟩
    show htP h p - htP h (lowL h (besL W H p.1 p.2) p) < fall
    rcases l3 with e | ⟨e, _⟩
    · rw [e]; omega
    · exact Int.not_le.1 fun hf => hk ⟨_, e, hf⟩

def FsPost (W H : Nat) (h : Nat → Int) (n : Nat) (c : Nat → Int) (fall : Int) (w : World) (e : Ending) (w' : World) : Prop :=
  Below w.heap.size w w' ∧ ((∃ i, i < W * H ∧ ShortAt W H h n c fall (cl W i) ∧ (∀ j, j < i → ¬ ShortAt W H h n c fall (cl W j)) ∧ e = .returned (.tuple #[.agg (cellA (cl W i)), .bool true])) ∨
    ((∀ j, j < W * H → ¬ ShortAt W H h n c fall (cl W j)) ∧ e = .returned (.tuple #[.agg #[.int .i8 0, .int .i8 0], .bool false])))

theorem gshort_any (W H : Nat) (h : Nat → Int) (bq : Nat) (A : Option Addr) (n cap : Nat) (c : Nat → Int) (fall : Int) (w : World) (hW0 : 1 ≤ W) (hW : W ≤ 9) (hH : H ≤ 9) (h8 : n ≤ 8) (hh : ∀ p, -32768 ≤ h p ∧ h p ≤ 32767) (hf1 : 1 ≤ fall) (hB : Bx w bq (gV W H h (.slice A n cap)) 33) (hr : RdK .i8 w w.heap.size A (2 * n) c) :
    Calls Try.prog 156 #[.pointer (some ⟨bq, 0, none⟩), .int .i64 fall] w (FsPost W H h n c fall w) := by
  have HH := Lib.hid hh
  have HR := Lib.hid hr
  have HF1 := Lib.hid hf1
  have hlt0 := hB.lt
  clear hh hr hf1
  have X4 := Bx.new w #[.int .i8 0, .int .i8 0] 40
  have B := al (Below.refl w.heap.size w) (.cells #[.int .i8 0, .int .i8 0] 40)
  have X1 := hB.alloc (.cells #[.int .i8 0, .int .i8 0] 40)
  go_enter Try.func156, Try.ntmps156
  go_wp2_with fail
  refine (gall_any W H bq h _ _ hW0 hW hH X1).mono ?_
  rintro e w1 ⟨hb, va, rfl, OA⟩
  obtain ⟨N, hN⟩ : ∃ N, N = W * H := ⟨_, rfl⟩
  rw [← hN] at OA
  obtain ⟨Aa, capa, rfl, hAa⟩ := OwnC.form OA
  rw [allC_length] at OA hAa ⊢
  replace X4 := X4.below hb
  replace B := nxt B hb
  replace OA : OwnC w1 (w.heap.size + 1) _ _ := World.ownsRow.mono OA (by simp)
  have hN81 : N ≤ 81 := by rw [hN]; exact Nat.mul_le_mul hW hH
  have HN := Lib.hid hN
  clear hb X1 hN
  go_wp2_with fail
  go_loopw [7, 8, 9, 10] (fun t7 t8 t9 t10 wr => ∃ i : Nat, i ≤ N ∧ t7 = .int .i64 i ∧ Below w.heap.size w wr ∧ Bx wr w.heap.size #[.int .i8 0, .int .i8 0] 40 ∧ OwnC wr (w.heap.size + 1) (.slice Aa N capa) (allC W N) ∧ ∀ j, j < i → ¬ ShortAt W H h n c fall (cl W j)) (fun t7 t8 t9 t10 _ => N - (intOf t7).toNat)
  case atStart => exact ⟨0, by omega, rfl, B, X4, OA, fun j hj => absurd hj (by omega)⟩
  case round =>
    clear B X4 OA
    obtain ⟨i, hi, rfl, B, X4, OA, hno⟩ := hrel
    obtain ⟨wo, rfl⟩ : ∃ wo : World, wo = wr := ⟨_, rfl⟩
    have HNO := Lib.hid hno
    clear hno
    by_cases hlt : i < N
    · have hii : (i : Int) < N := by omega
      obtain ⟨ga, rfl, hga, _⟩ := hAa (by omega)
      obtain ⟨x, y, hxy⟩ : ∃ x y, cl W i = (x, y) := ⟨_, _, rfl⟩
      have hbd := cl_lt (by omega : W ≤ 12) (by omega : H ≤ 12) (show i < W * H by rw [← HN.out]; exact hlt)
      rw [hxy] at hbd
      obtain ⟨hx, hy⟩ := hbd
      dsimp only at hx hy
      obtain ⟨c0, c1⟩ := OwnC.get OA (allC_length W N) (q := (x, y)) (by rw [allC_get W N i hlt, hxy])
      dsimp only at c0 c1
      have HXY := Lib.hid hxy
      clear hxy
      have hxi : (x : Int) < 9 := by omega
      have hyi : (y : Int) < 9 := by omega
      have hsg := (World.ownsRow.lt OA ga rfl).2
      have X1 : Bx wo bq (gV W H h (.slice A n cap)) 33 := hB.of_block (B.block _ hlt0)
      go_wp2_with fail
      refine (ggully_any W H h bq A n cap c (x : Int) (y : Int) _ h8 X1 ((HR.out.below B).mono B.size)).mono ?_
      rintro e w2 ⟨hb, ⟨k, hk, hs, rfl⟩ | ⟨hng, rfl⟩⟩
      · have hg : gAt c n (x, y) := ⟨k, hk, hs⟩
        have HG := Lib.hid hg
        have hk0 : (0 : Int) ≤ (k : Int) := by omega
        replace X4 := X4.below hb
        replace OA := OwnC.below OA hb
        replace B := nxt B hb
        clear hb hs hg c0 c1 X1
        go_wp2
        refine ⟨⟨i + 1, by omega, by first | go_num | simp, B, X4, OA, fun j hj => ?_⟩, by simp [intOf]; omega⟩
        by_cases e : j = i
        · subst e; rw [HXY.out]; exact fun k => k.1 HG.out
        · exact HNO.out j (by omega)
      · have hg : ¬ gAt c n (x, y) := fun ⟨k, hk, hs⟩ => hng k hk hs
        have HG := Lib.hid hg
        replace X4 := X4.below hb
        replace OA := OwnC.below OA hb
        replace X1 := X1.below hb
        replace B := nxt B hb
        have hs2 := X4.lt
        clear hb hng hg c0 c1
        obtain ⟨c0, c1⟩ := OwnC.get OA (allC_length W N) (q := (x, y)) (by rw [allC_get W N i hlt, HXY.out])
        dsimp only at c0 c1
        go_wp2_with fail
        refine (gbes_any W H x y h _ bq _ hW hH hx hy X1).mono ?_
        rintro e w3 ⟨hb, v, rfl, OL⟩
        have hL : ∀ q ∈ besL W H x y, q.1 < W ∧ q.2 < H := fun q hq => besK_mem hq
        have hm4 : (besL W H x y).length ≤ 4 := besK_length 4
        have hsh : ShortAt W H h n c fall (x, y) ↔ ¬ Keeps h fall (x, y) (besL W H x y) := short_iff HF1.out HG.out
        generalize besL W H x y = L at OL hL hm4 hsh
        obtain ⟨m, hm⟩ : ∃ m, m = L.length := ⟨_, rfl⟩
        obtain ⟨A2, cap2, rfl, hA2⟩ := OL.form
        rw [← hm] at OL hA2 hm4 ⊢
        replace X4 := X4.below hb
        replace OA := OwnC.below OA hb
        replace B := nxt B hb
        replace OL : OwnC w3 (w.heap.size + 1) _ L := World.ownsRow.mono OL (by omega)
        have HL := Lib.hid hL
        have HM := Lib.hid hm
        have HSH := Lib.hid hsh
        clear hb hL hm hsh c0 c1 X1
        go_wp2_with fail
        go_loopw [8, 10] (fun t8 t10 wr => ∃ k : Nat, k ≤ m ∧ t10 = .int .i64 k ∧ Below w.heap.size w wr ∧ Bx wr w.heap.size #[.int .i8 0, .int .i8 0] 40 ∧ OwnC wr (w.heap.size + 1) (.slice (some ⟨ga, 0, none⟩) N capa) (allC W N) ∧
          OwnC wr (w.heap.size + 1) (.slice A2 m cap2) L ∧ ∃ r : Bool, t8 = .bool r ∧ (r = true ↔ Keeps h fall (x, y) (L.take k))) (fun t8 t10 _ => m - (intOf t10).toNat)
        case atStart => exact ⟨0, by omega, rfl, B, X4, OA, OL, false, rfl, (fun k => by cases k), fun k => absurd k keeps_nil⟩
        case round =>
          clear B X4 OA OL
          obtain ⟨k, hk, rfl, B, X4, OA, OL, r, rfl, hrk⟩ := hrel
          obtain ⟨wi, rfl⟩ : ∃ wi : World, wi = wr := ⟨_, rfl⟩
          have HRK := Lib.hid hrk
          clear hrk
          by_cases hlk : k < m
          · have hki : (k : Int) < m := by omega
            obtain ⟨gb, rfl, hgb, _⟩ := hA2 (by omega)
            have hq : L[k]? = some (L[k]'(by rw [← HM.out]; exact hlk)) := List.getElem?_eq_getElem _
            obtain ⟨⟨a, b⟩, hq⟩ : ∃ q, L[k]? = some q := ⟨_, hq⟩
            obtain ⟨hqa, hqb⟩ := HL.out _ (List.mem_of_getElem? hq)
            dsimp only at hqa hqb
            obtain ⟨d0, d1⟩ := OwnC.get OL HM.out.symm hq
            dsimp only at d0 d1
            obtain ⟨c0, c1⟩ := OwnC.get OA (allC_length W N) (q := (x, y)) (by rw [allC_get W N i hlt, HXY.out])
            dsimp only at c0 c1
            have HQ := Lib.hid hq
            clear hq
            cases r
            · have X1 : Bx wi bq (gV W H h (.slice A n cap)) 33 := hB.of_block (B.block _ hlt0)
              have hz1 := HH.out (y * 9 + x)
              have hz2 := HH.out (b * 9 + a)
              have wz : IntKind.i64.wrap (h (y * 9 + x) - h (b * 9 + a)) = h (y * 9 + x) - h (b * 9 + a) := IntWalk.i64_in _ (by omega)
              by_cases hk0 : fall ≤ h (y * 9 + x) - h (b * 9 + a)
              · have HK0 := Lib.hid hk0
                go_wp2
                refine wp_region_held_drew (S := (fun w' : World => w'.cell? ⟨ga, i * 2, none⟩ = some (.int .i8 (x : Int)) ∧ w'.cell? ⟨ga, i * 2 + 1, none⟩ = some (.int .i8 (y : Int)) ∧ w'.cell? ⟨gb, k * 2, none⟩ = some (.int .i8 (a : Int)) ∧ w'.cell? ⟨gb, k * 2 + 1, none⟩ = some (.int .i8 (b : Int)))) (by kernel_rfl) ⟨c0, c1, d0, d1⟩ (fun hHeld => ?_)
                refine wpAnyH_take (i := 0) (oi := _) (v := ?_) rfl (by kernel_rfl) (by kernel_rfl) (by kernel_rfl) (fun _ _ _ h => h) (Or.inl ⟨by kernel_rfl, ?_⟩) (by assumption) ?_
                rotate_left
                · intro w hSw; (try dsimp only at hSw); go_simp; first | done | with_reducible rfl
                try simp only [List.getElem_toArray, List.getElem_cons_zero, List.getElem_cons_succ, Act.put, List.setIfInBounds_toArray, List.set_cons_zero, List.set_cons_succ]
                refine wpAnyH_take (i := 1) (oi := _) (v := ?_) rfl (by kernel_rfl) (by kernel_rfl) (by kernel_rfl) (fun _ _ _ h => h) (Or.inl ⟨by kernel_rfl, ?_⟩) (by assumption) ?_
                rotate_left
                · intro w hSw; (try dsimp only at hSw); go_simp; first | done | with_reducible rfl
                try simp only [List.getElem_toArray, List.getElem_cons_zero, List.getElem_cons_succ, Act.put, List.setIfInBounds_toArray, List.set_cons_zero, List.set_cons_succ]
                refine wpAnyH_take (i := 2) (oi := _) (v := ?_) rfl (by kernel_rfl) (by kernel_rfl) (by kernel_rfl) (fun _ _ _ h => h) (Or.inl ⟨by kernel_rfl, ?_⟩) (by assumption) ?_
                rotate_left
                · intro w hSw; (try dsimp only at hSw); go_simp; first | done | with_reducible rfl
                try simp only [List.getElem_toArray, List.getElem_cons_zero, List.getElem_cons_succ, Act.put, List.setIfInBounds_toArray, List.set_cons_zero, List.set_cons_succ]
                refine wpAnyH_take (i := 3) (oi := _) (v := ?_) rfl (by kernel_rfl) (by kernel_rfl) (by kernel_rfl) (fun _ _ _ h => h) (Or.inl ⟨by kernel_rfl, ?_⟩) (by assumption) ?_
                rotate_left
                · intro w hSw; (try dsimp only at hSw); go_simp; first | done | with_reducible rfl
                try simp only [List.getElem_toArray, List.getElem_cons_zero, List.getElem_cons_succ, Act.put, List.setIfInBounds_toArray, List.set_cons_zero, List.set_cons_succ]
                refine wpAnyH_take (i := 4) (oi := _) (v := ?_) rfl (by kernel_rfl) (by kernel_rfl) (by kernel_rfl) (fun _ _ _ h => h) (Or.inl ⟨by kernel_rfl, ?_⟩) (by assumption) ?_
                rotate_left
                · intro w hSw; (try dsimp only at hSw); go_simp; first | done | with_reducible rfl
                try simp only [List.getElem_toArray, List.getElem_cons_zero, List.getElem_cons_succ, Act.put, List.setIfInBounds_toArray, List.set_cons_zero, List.set_cons_succ]
                refine wpAnyH_take (i := 5) (oi := _) (v := ?_) rfl (by kernel_rfl) (by kernel_rfl) (by kernel_rfl) (fun _ _ _ h => h) (Or.inl ⟨by kernel_rfl, ?_⟩) (by assumption) ?_
                rotate_left
                · intro w hSw; (try dsimp only at hSw); go_simp; first | done | with_reducible rfl
                try simp only [List.getElem_toArray, List.getElem_cons_zero, List.getElem_cons_succ, Act.put, List.setIfInBounds_toArray, List.set_cons_zero, List.set_cons_succ]
                refine wpAnyH_take (i := 6) (oi := _) (v := ?_) rfl (by kernel_rfl) (by kernel_rfl) (by kernel_rfl) (fun _ _ _ h => h) (Or.inl ⟨by kernel_rfl, ?_⟩) (by assumption) ?_
                rotate_left
                · intro w hSw; (try dsimp only at hSw); go_simp; first | done | with_reducible rfl
                try simp only [List.getElem_toArray, List.getElem_cons_zero, List.getElem_cons_succ, Act.put, List.setIfInBounds_toArray, List.set_cons_zero, List.set_cons_succ]
                refine wpAnyH_take (i := 8) (oi := _) (v := ?_) rfl (by kernel_rfl) (by kernel_rfl) (by kernel_rfl) (fun _ _ _ h => h) (Or.inl ⟨by kernel_rfl, ?_⟩) (by assumption) ?_
                rotate_left
                · intro w hSw; (try dsimp only at hSw); go_simp; first | done | with_reducible rfl
                try simp only [List.getElem_toArray, List.getElem_cons_zero, List.getElem_cons_succ, Act.put, List.setIfInBounds_toArray, List.set_cons_zero, List.set_cons_succ]
                refine wpAnyH_take (i := 9) (oi := _) (v := ?_) rfl (by kernel_rfl) (by kernel_rfl) (by kernel_rfl) (fun _ _ _ h => h) (Or.inl ⟨by kernel_rfl, ?_⟩) (by assumption) ?_
                rotate_left
                · intro w hSw; (try dsimp only at hSw); go_simp; first | done | with_reducible rfl
                try simp only [List.getElem_toArray, List.getElem_cons_zero, List.getElem_cons_succ, Act.put, List.setIfInBounds_toArray, List.set_cons_zero, List.set_cons_succ]
                refine wpAnyH_take (i := 10) (oi := _) (v := ?_) rfl (by kernel_rfl) (by kernel_rfl) (by kernel_rfl) (fun _ _ _ h => h) (Or.inl ⟨by kernel_rfl, ?_⟩) (by assumption) ?_
                rotate_left
                · intro w hSw; (try dsimp only at hSw); go_simp; first | done | with_reducible rfl
                try simp only [List.getElem_toArray, List.getElem_cons_zero, List.getElem_cons_succ, Act.put, List.setIfInBounds_toArray, List.set_cons_zero, List.set_cons_succ]
                refine wpAnyH_take (i := 11) (oi := _) (v := ?_) rfl (by kernel_rfl) (by kernel_rfl) (by kernel_rfl) (fun _ _ _ h => h) (Or.inl ⟨by kernel_rfl, ?_⟩) (by assumption) ?_
                rotate_left
                · intro w hSw; (try dsimp only at hSw); go_simp; first | done | with_reducible rfl
                try simp only [List.getElem_toArray, List.getElem_cons_zero, List.getElem_cons_succ, Act.put, List.setIfInBounds_toArray, List.set_cons_zero, List.set_cons_succ]
                refine wpAnyH_take (i := 12) (oi := _) (v := ?_) rfl (by kernel_rfl) (by kernel_rfl) (by kernel_rfl) (fun _ _ _ h => h) (Or.inl ⟨by kernel_rfl, ?_⟩) (by assumption) ?_
                rotate_left
                · intro w hSw; (try dsimp only at hSw); go_simp; first | done | with_reducible rfl
                try simp only [List.getElem_toArray, List.getElem_cons_zero, List.getElem_cons_succ, Act.put, List.setIfInBounds_toArray, List.set_cons_zero, List.set_cons_succ]
                refine wpAnyH_take (i := 15) (oi := _) (v := ?_) rfl (by kernel_rfl) (by kernel_rfl) (by kernel_rfl) (fun _ _ _ h => h) (Or.inl ⟨by kernel_rfl, ?_⟩) (by assumption) ?_
                rotate_left
                · intro w hSw; (try dsimp only at hSw); go_simp; first | done | with_reducible rfl
                try simp only [List.getElem_toArray, List.getElem_cons_zero, List.getElem_cons_succ, Act.put, List.setIfInBounds_toArray, List.set_cons_zero, List.set_cons_succ]
                refine wpAnyH_ready (rs := [7]) (by kernel_rfl) (by simp) ?_
                refine AllReadyH.cons (o := _) rfl (fun K hK => ?_) AllReadyH.nil
                go_simp
                refine (gheight_any W H h _ bq x y _ (by omega) (by omega) HH.out X1.drew).mono ?_
                rintro e w5 ⟨rfl, hb⟩
                replace X1 := X1.drew.below hb
                replace X4 := X4.drew.below hb
                replace OA := OwnC.below OA.drew hb
                replace OL := OwnC.below OL.drew hb
                replace B := nxt B.drew hb
                clear hb c0 c1 d0 d1
                obtain ⟨c0, c1⟩ := OwnC.get OA (allC_length W N) (q := (x, y)) (by rw [allC_get W N i hlt, HXY.out])
                dsimp only at c0 c1
                obtain ⟨d0, d1⟩ := OwnC.get OL HM.out.symm HQ.out
                dsimp only at d0 d1
                refine hK.out _ _ ⟨c0, c1, d0, d1⟩ (fun hHeld => ?_)
                clear hK K
                try simp only [List.getElem_toArray, List.getElem_cons_zero, List.getElem_cons_succ, Act.put, List.setIfInBounds_toArray, List.set_cons_zero, List.set_cons_succ]
                refine wpAnyH_ready (rs := [13]) (by kernel_rfl) (by simp) ?_
                refine AllReadyH.cons (o := _) rfl (fun K hK => ?_) AllReadyH.nil
                go_simp
                refine (gheight_any W H h _ bq a b _ (by omega) (by omega) HH.out X1).mono ?_
                rintro e w5 ⟨rfl, hb⟩
                replace X1 := X1.below hb
                replace X4 := X4.below hb
                replace OA := OwnC.below OA hb
                replace OL := OwnC.below OL hb
                replace B := nxt B hb
                clear hb c0 c1 d0 d1
                obtain ⟨c0, c1⟩ := OwnC.get OA (allC_length W N) (q := (x, y)) (by rw [allC_get W N i hlt, HXY.out])
                dsimp only at c0 c1
                obtain ⟨d0, d1⟩ := OwnC.get OL HM.out.symm HQ.out
                dsimp only at d0 d1
                refine hK.out _ _ ⟨c0, c1, d0, d1⟩ (fun hHeld => ?_)
                clear hK K
                try simp only [List.getElem_toArray, List.getElem_cons_zero, List.getElem_cons_succ, Act.put, List.setIfInBounds_toArray, List.set_cons_zero, List.set_cons_succ]
                refine wpAnyH_take (i := 14) (oi := _) (v := ?_) rfl (by kernel_rfl) (by kernel_rfl) (by kernel_rfl) (fun _ _ _ h => h) (Or.inl ⟨by kernel_rfl, ?_⟩) (by assumption) ?_
                rotate_left
                · intro w hSw; (try dsimp only at hSw); go_simp; first | done | with_reducible rfl
                try simp only [List.getElem_toArray, List.getElem_cons_zero, List.getElem_cons_succ, Act.put, List.setIfInBounds_toArray, List.set_cons_zero, List.set_cons_succ]
                refine wpAnyH_take (i := 16) (oi := _) (v := ?_) rfl (by kernel_rfl) (by kernel_rfl) (by kernel_rfl) (fun _ _ _ h => h) (Or.inl ⟨by kernel_rfl, ?_⟩) (by assumption) ?_
                rotate_left
                · intro w hSw; (try dsimp only at hSw); go_simp; first | done | with_reducible rfl
                try simp only [List.getElem_toArray, List.getElem_cons_zero, List.getElem_cons_succ, Act.put, List.setIfInBounds_toArray, List.set_cons_zero, List.set_cons_succ]
                refine wpAnyH_take (i := 17) (oi := _) (v := ?_) rfl (by kernel_rfl) (by kernel_rfl) (by kernel_rfl) (fun _ _ _ h => h) (Or.inl ⟨by kernel_rfl, ?_⟩) (by assumption) ?_
                rotate_left
                · intro w hSw; (try dsimp only at hSw); go_simp; first | done | with_reducible rfl
                try simp only [List.getElem_toArray, List.getElem_cons_zero, List.getElem_cons_succ, Act.put, List.setIfInBounds_toArray, List.set_cons_zero, List.set_cons_succ]
                refine wpAnyH_take (i := 18) (oi := _) (v := ?_) rfl (by kernel_rfl) (by kernel_rfl) (by kernel_rfl) (fun _ _ _ h => h) (Or.inl ⟨by kernel_rfl, ?_⟩) (by assumption) ?_
                rotate_left
                · intro w hSw; (try dsimp only at hSw); go_simp; first | done | with_reducible rfl
                try simp only [List.getElem_toArray, List.getElem_cons_zero, List.getElem_cons_succ, Act.put, List.setIfInBounds_toArray, List.set_cons_zero, List.set_cons_succ]
                refine wpAnyH_done (by kernel_rfl) ?_ _
                go_wp2
                refine ⟨⟨k + 1, by omega, by first | go_num | simp, B, X4, OA, OL, true, rfl, fun _ => ?_, fun _ => rfl⟩, by simp [intOf]; omega⟩
                rw [take_snoc HQ.out]
                exact keeps_snoc.2 (.inr HK0.out)
              · have hk1 : h (y * 9 + x) - h (b * 9 + a) < fall := by omega
                have HK0 := Lib.hid hk0
                clear hk0
                go_wp2
                refine wp_region_held_drew (S := (fun w' : World => w'.cell? ⟨ga, i * 2, none⟩ = some (.int .i8 (x : Int)) ∧ w'.cell? ⟨ga, i * 2 + 1, none⟩ = some (.int .i8 (y : Int)) ∧ w'.cell? ⟨gb, k * 2, none⟩ = some (.int .i8 (a : Int)) ∧ w'.cell? ⟨gb, k * 2 + 1, none⟩ = some (.int .i8 (b : Int)))) (by kernel_rfl) ⟨c0, c1, d0, d1⟩ (fun hHeld => ?_)
                refine wpAnyH_take (i := 0) (oi := _) (v := ?_) rfl (by kernel_rfl) (by kernel_rfl) (by kernel_rfl) (fun _ _ _ h => h) (Or.inl ⟨by kernel_rfl, ?_⟩) (by assumption) ?_
                rotate_left
                · intro w hSw; (try dsimp only at hSw); go_simp; first | done | with_reducible rfl
                try simp only [List.getElem_toArray, List.getElem_cons_zero, List.getElem_cons_succ, Act.put, List.setIfInBounds_toArray, List.set_cons_zero, List.set_cons_succ]
                refine wpAnyH_take (i := 1) (oi := _) (v := ?_) rfl (by kernel_rfl) (by kernel_rfl) (by kernel_rfl) (fun _ _ _ h => h) (Or.inl ⟨by kernel_rfl, ?_⟩) (by assumption) ?_
                rotate_left
                · intro w hSw; (try dsimp only at hSw); go_simp; first | done | with_reducible rfl
                try simp only [List.getElem_toArray, List.getElem_cons_zero, List.getElem_cons_succ, Act.put, List.setIfInBounds_toArray, List.set_cons_zero, List.set_cons_succ]
                refine wpAnyH_take (i := 2) (oi := _) (v := ?_) rfl (by kernel_rfl) (by kernel_rfl) (by kernel_rfl) (fun _ _ _ h => h) (Or.inl ⟨by kernel_rfl, ?_⟩) (by assumption) ?_
                rotate_left
                · intro w hSw; (try dsimp only at hSw); go_simp; first | done | with_reducible rfl
                try simp only [List.getElem_toArray, List.getElem_cons_zero, List.getElem_cons_succ, Act.put, List.setIfInBounds_toArray, List.set_cons_zero, List.set_cons_succ]
                refine wpAnyH_take (i := 3) (oi := _) (v := ?_) rfl (by kernel_rfl) (by kernel_rfl) (by kernel_rfl) (fun _ _ _ h => h) (Or.inl ⟨by kernel_rfl, ?_⟩) (by assumption) ?_
                rotate_left
                · intro w hSw; (try dsimp only at hSw); go_simp; first | done | with_reducible rfl
                try simp only [List.getElem_toArray, List.getElem_cons_zero, List.getElem_cons_succ, Act.put, List.setIfInBounds_toArray, List.set_cons_zero, List.set_cons_succ]
                refine wpAnyH_take (i := 4) (oi := _) (v := ?_) rfl (by kernel_rfl) (by kernel_rfl) (by kernel_rfl) (fun _ _ _ h => h) (Or.inl ⟨by kernel_rfl, ?_⟩) (by assumption) ?_
                rotate_left
                · intro w hSw; (try dsimp only at hSw); go_simp; first | done | with_reducible rfl
                try simp only [List.getElem_toArray, List.getElem_cons_zero, List.getElem_cons_succ, Act.put, List.setIfInBounds_toArray, List.set_cons_zero, List.set_cons_succ]
                refine wpAnyH_take (i := 5) (oi := _) (v := ?_) rfl (by kernel_rfl) (by kernel_rfl) (by kernel_rfl) (fun _ _ _ h => h) (Or.inl ⟨by kernel_rfl, ?_⟩) (by assumption) ?_
                rotate_left
                · intro w hSw; (try dsimp only at hSw); go_simp; first | done | with_reducible rfl
                try simp only [List.getElem_toArray, List.getElem_cons_zero, List.getElem_cons_succ, Act.put, List.setIfInBounds_toArray, List.set_cons_zero, List.set_cons_succ]
                refine wpAnyH_take (i := 6) (oi := _) (v := ?_) rfl (by kernel_rfl) (by kernel_rfl) (by kernel_rfl) (fun _ _ _ h => h) (Or.inl ⟨by kernel_rfl, ?_⟩) (by assumption) ?_
                rotate_left
                · intro w hSw; (try dsimp only at hSw); go_simp; first | done | with_reducible rfl
                try simp only [List.getElem_toArray, List.getElem_cons_zero, List.getElem_cons_succ, Act.put, List.setIfInBounds_toArray, List.set_cons_zero, List.set_cons_succ]
                refine wpAnyH_take (i := 8) (oi := _) (v := ?_) rfl (by kernel_rfl) (by kernel_rfl) (by kernel_rfl) (fun _ _ _ h => h) (Or.inl ⟨by kernel_rfl, ?_⟩) (by assumption) ?_
                rotate_left
                · intro w hSw; (try dsimp only at hSw); go_simp; first | done | with_reducible rfl
                try simp only [List.getElem_toArray, List.getElem_cons_zero, List.getElem_cons_succ, Act.put, List.setIfInBounds_toArray, List.set_cons_zero, List.set_cons_succ]
                refine wpAnyH_take (i := 9) (oi := _) (v := ?_) rfl (by kernel_rfl) (by kernel_rfl) (by kernel_rfl) (fun _ _ _ h => h) (Or.inl ⟨by kernel_rfl, ?_⟩) (by assumption) ?_
                rotate_left
                · intro w hSw; (try dsimp only at hSw); go_simp; first | done | with_reducible rfl
                try simp only [List.getElem_toArray, List.getElem_cons_zero, List.getElem_cons_succ, Act.put, List.setIfInBounds_toArray, List.set_cons_zero, List.set_cons_succ]
                refine wpAnyH_take (i := 10) (oi := _) (v := ?_) rfl (by kernel_rfl) (by kernel_rfl) (by kernel_rfl) (fun _ _ _ h => h) (Or.inl ⟨by kernel_rfl, ?_⟩) (by assumption) ?_
                rotate_left
                · intro w hSw; (try dsimp only at hSw); go_simp; first | done | with_reducible rfl
                try simp only [List.getElem_toArray, List.getElem_cons_zero, List.getElem_cons_succ, Act.put, List.setIfInBounds_toArray, List.set_cons_zero, List.set_cons_succ]
                refine wpAnyH_take (i := 11) (oi := _) (v := ?_) rfl (by kernel_rfl) (by kernel_rfl) (by kernel_rfl) (fun _ _ _ h => h) (Or.inl ⟨by kernel_rfl, ?_⟩) (by assumption) ?_
                rotate_left
                · intro w hSw; (try dsimp only at hSw); go_simp; first | done | with_reducible rfl
                try simp only [List.getElem_toArray, List.getElem_cons_zero, List.getElem_cons_succ, Act.put, List.setIfInBounds_toArray, List.set_cons_zero, List.set_cons_succ]
                refine wpAnyH_take (i := 12) (oi := _) (v := ?_) rfl (by kernel_rfl) (by kernel_rfl) (by kernel_rfl) (fun _ _ _ h => h) (Or.inl ⟨by kernel_rfl, ?_⟩) (by assumption) ?_
                rotate_left
                · intro w hSw; (try dsimp only at hSw); go_simp; first | done | with_reducible rfl
                try simp only [List.getElem_toArray, List.getElem_cons_zero, List.getElem_cons_succ, Act.put, List.setIfInBounds_toArray, List.set_cons_zero, List.set_cons_succ]
                refine wpAnyH_take (i := 15) (oi := _) (v := ?_) rfl (by kernel_rfl) (by kernel_rfl) (by kernel_rfl) (fun _ _ _ h => h) (Or.inl ⟨by kernel_rfl, ?_⟩) (by assumption) ?_
                rotate_left
                · intro w hSw; (try dsimp only at hSw); go_simp; first | done | with_reducible rfl
                try simp only [List.getElem_toArray, List.getElem_cons_zero, List.getElem_cons_succ, Act.put, List.setIfInBounds_toArray, List.set_cons_zero, List.set_cons_succ]
                refine wpAnyH_ready (rs := [7]) (by kernel_rfl) (by simp) ?_
                refine AllReadyH.cons (o := _) rfl (fun K hK => ?_) AllReadyH.nil
                go_simp
                refine (gheight_any W H h _ bq x y _ (by omega) (by omega) HH.out X1.drew).mono ?_
                rintro e w5 ⟨rfl, hb⟩
                replace X1 := X1.drew.below hb
                replace X4 := X4.drew.below hb
                replace OA := OwnC.below OA.drew hb
                replace OL := OwnC.below OL.drew hb
                replace B := nxt B.drew hb
                clear hb c0 c1 d0 d1
                obtain ⟨c0, c1⟩ := OwnC.get OA (allC_length W N) (q := (x, y)) (by rw [allC_get W N i hlt, HXY.out])
                dsimp only at c0 c1
                obtain ⟨d0, d1⟩ := OwnC.get OL HM.out.symm HQ.out
                dsimp only at d0 d1
                refine hK.out _ _ ⟨c0, c1, d0, d1⟩ (fun hHeld => ?_)
                clear hK K
                try simp only [List.getElem_toArray, List.getElem_cons_zero, List.getElem_cons_succ, Act.put, List.setIfInBounds_toArray, List.set_cons_zero, List.set_cons_succ]
                refine wpAnyH_ready (rs := [13]) (by kernel_rfl) (by simp) ?_
                refine AllReadyH.cons (o := _) rfl (fun K hK => ?_) AllReadyH.nil
                go_simp
                refine (gheight_any W H h _ bq a b _ (by omega) (by omega) HH.out X1).mono ?_
                rintro e w5 ⟨rfl, hb⟩
                replace X1 := X1.below hb
                replace X4 := X4.below hb
                replace OA := OwnC.below OA hb
                replace OL := OwnC.below OL hb
                replace B := nxt B hb
                clear hb c0 c1 d0 d1
                obtain ⟨c0, c1⟩ := OwnC.get OA (allC_length W N) (q := (x, y)) (by rw [allC_get W N i hlt, HXY.out])
                dsimp only at c0 c1
                obtain ⟨d0, d1⟩ := OwnC.get OL HM.out.symm HQ.out
                dsimp only at d0 d1
                refine hK.out _ _ ⟨c0, c1, d0, d1⟩ (fun hHeld => ?_)
                clear hK K
                try simp only [List.getElem_toArray, List.getElem_cons_zero, List.getElem_cons_succ, Act.put, List.setIfInBounds_toArray, List.set_cons_zero, List.set_cons_succ]
                refine wpAnyH_take (i := 14) (oi := _) (v := ?_) rfl (by kernel_rfl) (by kernel_rfl) (by kernel_rfl) (fun _ _ _ h => h) (Or.inl ⟨by kernel_rfl, ?_⟩) (by assumption) ?_
                rotate_left
                · intro w hSw; (try dsimp only at hSw); go_simp; first | done | with_reducible rfl
                try simp only [List.getElem_toArray, List.getElem_cons_zero, List.getElem_cons_succ, Act.put, List.setIfInBounds_toArray, List.set_cons_zero, List.set_cons_succ]
                refine wpAnyH_take (i := 16) (oi := _) (v := ?_) rfl (by kernel_rfl) (by kernel_rfl) (by kernel_rfl) (fun _ _ _ h => h) (Or.inl ⟨by kernel_rfl, ?_⟩) (by assumption) ?_
                rotate_left
                · intro w hSw; (try dsimp only at hSw); go_simp; first | done | with_reducible rfl
                try simp only [List.getElem_toArray, List.getElem_cons_zero, List.getElem_cons_succ, Act.put, List.setIfInBounds_toArray, List.set_cons_zero, List.set_cons_succ]
                refine wpAnyH_take (i := 17) (oi := _) (v := ?_) rfl (by kernel_rfl) (by kernel_rfl) (by kernel_rfl) (fun _ _ _ h => h) (Or.inl ⟨by kernel_rfl, ?_⟩) (by assumption) ?_
                rotate_left
                · intro w hSw; (try dsimp only at hSw); go_simp; first | done | with_reducible rfl
                try simp only [List.getElem_toArray, List.getElem_cons_zero, List.getElem_cons_succ, Act.put, List.setIfInBounds_toArray, List.set_cons_zero, List.set_cons_succ]
                refine wpAnyH_take (i := 18) (oi := _) (v := ?_) rfl (by kernel_rfl) (by kernel_rfl) (by kernel_rfl) (fun _ _ _ h => h) (Or.inl ⟨by kernel_rfl, ?_⟩) (by assumption) ?_
                rotate_left
                · intro w hSw; (try dsimp only at hSw); go_simp; first | done | with_reducible rfl
                try simp only [List.getElem_toArray, List.getElem_cons_zero, List.getElem_cons_succ, Act.put, List.setIfInBounds_toArray, List.set_cons_zero, List.set_cons_succ]
                refine wpAnyH_done (by kernel_rfl) ?_ _
                go_wp2
                refine ⟨⟨k + 1, by omega, by first | go_num | simp, B, X4, OA, OL, false, by rw [decide_eq_false (Int.not_le.2 HK0.out)], (fun k => by cases k), fun hkk => ?_⟩, by simp [intOf]; omega⟩
                rw [take_snoc HQ.out] at hkk
                rcases keeps_snoc.1 hkk with h1 | h1
                · exact HRK.out.2 h1
                · exact absurd h1 (Int.not_le.2 HK0.out)
            · go_wp2
              refine wp_region_held_drew (S := (fun _ : World => True)) (by kernel_rfl) trivial (fun hHeld => ?_)
              refine wpAnyH_take (i := 0) (oi := _) (v := ?_) rfl (by kernel_rfl) (by kernel_rfl) (by kernel_rfl) (fun _ _ _ h => h) (Or.inl ⟨by kernel_rfl, ?_⟩) (by assumption) ?_
              rotate_left
              · intro w hSw; (try dsimp only at hSw); go_simp; first | done | with_reducible rfl
              try simp only [List.getElem_toArray, List.getElem_cons_zero, List.getElem_cons_succ, Act.put, List.setIfInBounds_toArray, List.set_cons_zero, List.set_cons_succ]
              refine wpAnyH_take (i := 1) (oi := _) (v := ?_) rfl (by kernel_rfl) (by kernel_rfl) (by kernel_rfl) (fun _ _ _ h => h) (Or.inl ⟨by kernel_rfl, ?_⟩) (by assumption) ?_
              rotate_left
              · intro w hSw; (try dsimp only at hSw); go_simp; first | done | with_reducible rfl
              try simp only [List.getElem_toArray, List.getElem_cons_zero, List.getElem_cons_succ, Act.put, List.setIfInBounds_toArray, List.set_cons_zero, List.set_cons_succ]
              refine wpAnyH_take (i := 2) (oi := _) (v := undef) rfl (by kernel_rfl) (by kernel_rfl) (by kernel_rfl) (fun _ _ _ h => h) (Or.inr ⟨by kernel_rfl, rfl⟩) (by assumption) ?_
              try simp only [List.getElem_toArray, List.getElem_cons_zero, List.getElem_cons_succ, Act.put, List.setIfInBounds_toArray, List.set_cons_zero, List.set_cons_succ]
              refine wpAnyH_take (i := 3) (oi := _) (v := undef) rfl (by kernel_rfl) (by kernel_rfl) (by kernel_rfl) (fun _ _ _ h => h) (Or.inr ⟨by kernel_rfl, rfl⟩) (by assumption) ?_
              try simp only [List.getElem_toArray, List.getElem_cons_zero, List.getElem_cons_succ, Act.put, List.setIfInBounds_toArray, List.set_cons_zero, List.set_cons_succ]
              refine wpAnyH_take (i := 4) (oi := _) (v := undef) rfl (by kernel_rfl) (by kernel_rfl) (by kernel_rfl) (fun _ _ _ h => h) (Or.inr ⟨by kernel_rfl, rfl⟩) (by assumption) ?_
              try simp only [List.getElem_toArray, List.getElem_cons_zero, List.getElem_cons_succ, Act.put, List.setIfInBounds_toArray, List.set_cons_zero, List.set_cons_succ]
              refine wpAnyH_take (i := 5) (oi := _) (v := undef) rfl (by kernel_rfl) (by kernel_rfl) (by kernel_rfl) (fun _ _ _ h => h) (Or.inr ⟨by kernel_rfl, rfl⟩) (by assumption) ?_
              try simp only [List.getElem_toArray, List.getElem_cons_zero, List.getElem_cons_succ, Act.put, List.setIfInBounds_toArray, List.set_cons_zero, List.set_cons_succ]
              refine wpAnyH_take (i := 6) (oi := _) (v := undef) rfl (by kernel_rfl) (by kernel_rfl) (by kernel_rfl) (fun _ _ _ h => h) (Or.inr ⟨by kernel_rfl, rfl⟩) (by assumption) ?_
              try simp only [List.getElem_toArray, List.getElem_cons_zero, List.getElem_cons_succ, Act.put, List.setIfInBounds_toArray, List.set_cons_zero, List.set_cons_succ]
              refine wpAnyH_take (i := 7) (oi := _) (v := undef) rfl (by kernel_rfl) (by kernel_rfl) (by kernel_rfl) (fun _ _ _ h => h) (Or.inr ⟨by kernel_rfl, rfl⟩) (by assumption) ?_
              try simp only [List.getElem_toArray, List.getElem_cons_zero, List.getElem_cons_succ, Act.put, List.setIfInBounds_toArray, List.set_cons_zero, List.set_cons_succ]
              refine wpAnyH_take (i := 8) (oi := _) (v := undef) rfl (by kernel_rfl) (by kernel_rfl) (by kernel_rfl) (fun _ _ _ h => h) (Or.inr ⟨by kernel_rfl, rfl⟩) (by assumption) ?_
              try simp only [List.getElem_toArray, List.getElem_cons_zero, List.getElem_cons_succ, Act.put, List.setIfInBounds_toArray, List.set_cons_zero, List.set_cons_succ]
              refine wpAnyH_take (i := 9) (oi := _) (v := undef) rfl (by kernel_rfl) (by kernel_rfl) (by kernel_rfl) (fun _ _ _ h => h) (Or.inr ⟨by kernel_rfl, rfl⟩) (by assumption) ?_
              try simp only [List.getElem_toArray, List.getElem_cons_zero, List.getElem_cons_succ, Act.put, List.setIfInBounds_toArray, List.set_cons_zero, List.set_cons_succ]
              refine wpAnyH_take (i := 10) (oi := _) (v := undef) rfl (by kernel_rfl) (by kernel_rfl) (by kernel_rfl) (fun _ _ _ h => h) (Or.inr ⟨by kernel_rfl, rfl⟩) (by assumption) ?_
              try simp only [List.getElem_toArray, List.getElem_cons_zero, List.getElem_cons_succ, Act.put, List.setIfInBounds_toArray, List.set_cons_zero, List.set_cons_succ]
              refine wpAnyH_take (i := 11) (oi := _) (v := undef) rfl (by kernel_rfl) (by kernel_rfl) (by kernel_rfl) (fun _ _ _ h => h) (Or.inr ⟨by kernel_rfl, rfl⟩) (by assumption) ?_
              try simp only [List.getElem_toArray, List.getElem_cons_zero, List.getElem_cons_succ, Act.put, List.setIfInBounds_toArray, List.set_cons_zero, List.set_cons_succ]
              refine wpAnyH_take (i := 12) (oi := _) (v := undef) rfl (by kernel_rfl) (by kernel_rfl) (by kernel_rfl) (fun _ _ _ h => h) (Or.inr ⟨by kernel_rfl, rfl⟩) (by assumption) ?_
              try simp only [List.getElem_toArray, List.getElem_cons_zero, List.getElem_cons_succ, Act.put, List.setIfInBounds_toArray, List.set_cons_zero, List.set_cons_succ]
              refine wpAnyH_take (i := 13) (oi := _) (v := undef) rfl (by kernel_rfl) (by kernel_rfl) (by kernel_rfl) (fun _ _ _ h => h) (Or.inr ⟨by kernel_rfl, rfl⟩) (by assumption) ?_
              try simp only [List.getElem_toArray, List.getElem_cons_zero, List.getElem_cons_succ, Act.put, List.setIfInBounds_toArray, List.set_cons_zero, List.set_cons_succ]
              refine wpAnyH_take (i := 14) (oi := _) (v := undef) rfl (by kernel_rfl) (by kernel_rfl) (by kernel_rfl) (fun _ _ _ h => h) (Or.inr ⟨by kernel_rfl, rfl⟩) (by assumption) ?_
              try simp only [List.getElem_toArray, List.getElem_cons_zero, List.getElem_cons_succ, Act.put, List.setIfInBounds_toArray, List.set_cons_zero, List.set_cons_succ]
              refine wpAnyH_take (i := 15) (oi := _) (v := undef) rfl (by kernel_rfl) (by kernel_rfl) (by kernel_rfl) (fun _ _ _ h => h) (Or.inr ⟨by kernel_rfl, rfl⟩) (by assumption) ?_
              try simp only [List.getElem_toArray, List.getElem_cons_zero, List.getElem_cons_succ, Act.put, List.setIfInBounds_toArray, List.set_cons_zero, List.set_cons_succ]
              refine wpAnyH_take (i := 16) (oi := _) (v := undef) rfl (by kernel_rfl) (by kernel_rfl) (by kernel_rfl) (fun _ _ _ h => h) (Or.inr ⟨by kernel_rfl, rfl⟩) (by assumption) ?_
              try simp only [List.getElem_toArray, List.getElem_cons_zero, List.getElem_cons_succ, Act.put, List.setIfInBounds_toArray, List.set_cons_zero, List.set_cons_succ]
              refine wpAnyH_take (i := 17) (oi := _) (v := ?_) rfl (by kernel_rfl) (by kernel_rfl) (by kernel_rfl) (fun _ _ _ h => h) (Or.inl ⟨by kernel_rfl, ?_⟩) (by assumption) ?_
              rotate_left
              · intro w hSw; (try dsimp only at hSw); go_simp; first | done | with_reducible rfl
              try simp only [List.getElem_toArray, List.getElem_cons_zero, List.getElem_cons_succ, Act.put, List.setIfInBounds_toArray, List.set_cons_zero, List.set_cons_succ]
              refine wpAnyH_take (i := 18) (oi := _) (v := ?_) rfl (by kernel_rfl) (by kernel_rfl) (by kernel_rfl) (fun _ _ _ h => h) (Or.inl ⟨by kernel_rfl, ?_⟩) (by assumption) ?_
              rotate_left
              · intro w hSw; (try dsimp only at hSw); go_simp; first | done | with_reducible rfl
              try simp only [List.getElem_toArray, List.getElem_cons_zero, List.getElem_cons_succ, Act.put, List.setIfInBounds_toArray, List.set_cons_zero, List.set_cons_succ]
              refine wpAnyH_done (by kernel_rfl) ?_ _
              go_wp2
              refine ⟨⟨k + 1, by omega, by first | go_num | simp, B.drew, X4.drew, OA.drew, OL.drew, true, rfl, fun _ => ?_, fun _ => rfl⟩, by simp [intOf]; omega⟩
              rw [take_snoc HQ.out]
              exact keeps_snoc.2 (.inl (HRK.out.1 (by simp)))
          · obtain rfl : k = m := by omega
            have hall : L.take k = L := by rw [HM.out, List.take_length]
            have hrk2 := HRK.out
            rw [hall] at hrk2
            have HR2 := Lib.hid hrk2
            clear hall hrk2
            obtain ⟨c0, c1⟩ := OwnC.get OA (allC_length W N) (q := (x, y)) (by rw [allC_get W N i hlt, HXY.out])
            dsimp only at c0 c1
            cases r
            · have s0 := X4.cell 0
              have s1 := X4.cell 1
              have f0 := X4.frozen 0
              have f1 := X4.frozen 1
              go_wp2
              have Y4 := (X4.set 0 (.int .i8 (x : Int))).set 1 (.int .i8 (y : Int))
              have q0 := Y4.cell 0
              have q1 := Y4.cell 1
              simp at q0 q1
              refine bodyPost_ret (v := .tuple #[.agg (cellA (x, y)), .bool true]) (by simp [results, Try.results156, go_sem, cellA, q0, q1]) rfl ⟨(B.setCell (p := ⟨w.heap.size, 0, none⟩) (by simp) _).setCell (p := ⟨w.heap.size, 1, none⟩) (by simp) _, .inl ⟨i, by rw [← HN.out]; exact hlt, ?_, HNO.out, by rw [HXY.out]⟩⟩
              rw [HXY.out]
              exact HSH.out.2 fun hk => by simpa using HR2.out.2 hk
            · go_wp2
              refine ⟨⟨i + 1, by omega, by first | go_num | simp, B, X4, OA, fun j hj => ?_⟩, by simp [intOf]; omega⟩
              by_cases e : j = i
              · subst e; rw [HXY.out]; exact fun hs => HSH.out.1 hs (HR2.out.1 (by simp))
              · exact HNO.out j (by omega)
    · obtain rfl : i = N := by omega
      have s0 := X4.cell 0
      have s1 := X4.cell 1
      have f0 := X4.frozen 0
      have f1 := X4.frozen 1
      go_wp2
      have Y4 := (X4.set 0 (.int .i8 0)).set 1 (.int .i8 0)
      have q0 := Y4.cell 0
      have q1 := Y4.cell 1
      simp at q0 q1
      refine bodyPost_ret (v := .tuple #[.agg #[.int .i8 0, .int .i8 0], .bool false]) (by simp [results, Try.results156, go_sem, q0, q1]) rfl ⟨(B.setCell (p := ⟨w.heap.size, 0, none⟩) (by simp) _).setCell (p := ⟨w.heap.size, 1, none⟩) (by simp) _, .inr ⟨by rw [← HN.out]; exact HNO.out, rfl⟩⟩
end Go.Proofs.Ytegnhpanlbfmdaa
