/-
  The greatest amount for which a stock is enough: the contract of impl.greatestOf. Conditions stand at each.
-/
import Derived.Test.YtgpnimbgckajlaaRows
import Derived.Test.YtgpnimbgckajlaaMost
import Derived.Test.YtgpnimbgckajlaaIv
namespace Go.Proofs.Ytgpnimbgckajlaa
open Go Go.ChangeShapes Go.WideShapes Go.ChangeAt Go.RowKit
set_option linter.unusedVariables false
set_option linter.unusedSimpArgs false
set_option maxRecDepth 100000
set_option maxHeartbeats 4000000
theorem greatestOf_any (m st : Nat → Int) (z : Int) (w : World) (h16 : In16 m) (hm : MixOk m) (hst : StockOk st) (hz : MostAt m st z) :
    Calls Try.prog 74 #[.agg #[.int .i16 (m 0), .int .i16 (m 1), .int .i16 (m 2)], .agg #[.int .i16 (st 0), .int .i16 (st 1), .int .i16 (st 2)]] w fun e w' => Below w.heap.size w w' ∧ e = .returned (.int .i64 z) := by
  have HF := Lib.hid (fun W n hn => neededFor_any m n W h16 hm hn)
  have HZ := Lib.hid hz
  have HST := Lib.hid hst
  have X2 := (Bx.new w (mixC m) 44).alloc (.cells (mixC st) 44)
  have X3 := Bx.newAtI (w.alloc (.cells (mixC m) 44)) (w.heap.size + 1) (mixC st) 44 (by simp)
  have B := al (al (Below.refl w.heap.size w) (.cells (mixC m) 44)) (.cells (mixC st) 44)
  clear hm h16 hz hst
  go_enter Try.func74, Try.ntmps74
  go_wp2
  obtain ⟨W0, hW0⟩ : ∃ W0 : World, W0 = (w.alloc (.cells (mixC m) 44)).alloc (.cells (mixC st) 44) := ⟨_, rfl⟩
  simp only [mixC] at hW0
  rw [← hW0]
  have hW1 : (w.alloc (.cells (mixC m) 44)).alloc (.cells (mixC st) 44) = W0 := hW0.symm
  rw [hW1] at X2 X3 B
  clear hW0 hW1
  obtain ⟨b2, h2⟩ : ∃ b2, b2 = w.heap.size := ⟨_, rfl⟩
  rw [← h2] at X2 X3 ⊢
  clear h2
  go_loopw [5] (fun t5 wr => ∃ k : Nat, k ≤ 5000 ∧ t5 = .int .i64 k ∧ Below w.heap.size w wr ∧ Bx wr b2 (mixC m) 44 ∧ Bx wr (b2 + 1) (mixC st) 44 ∧ ∀ y : Int, (k : Int) < y → y ≤ 5000 → ¬ Enough m st y) (fun t5 wr => (intOf t5).toNat)
  case atStart => exact ⟨5000, by omega, rfl, B, X2, X3, fun y h1 h2 => by omega⟩
  case round =>
    clear B X2 X3
    obtain ⟨k, hk, rfl, B, X2, X3, hno⟩ := hrel
    have HN := Lib.hid hno
    obtain ⟨r, hr⟩ := dec_ex (∀ j, j < 3 → needM m k j ≤ st j)
    have HE := Lib.hid (fun W => isEnough_any st (needM m k) r W hr)
    have ER := Lib.hid hr
    have hk1 : (k : Int) ≤ 5000 := by omega
    have hk0 : (0 : Int) ≤ (k : Int) := by omega
    clear hno hr
    go_wp2
    refine wp_region_held_drew (S := (fun w' : World => Bx w' b2 (mixC m) 44 ∧ Bx w' (b2 + 1) (mixC st) 44)) (by kernel_rfl) ⟨X2, X3⟩ (fun hHeld => ?_)
    replace B := B.drew
    replace X2 : Bx wr.drew b2 (mixC m) 44 := X2
    replace X3 : Bx wr.drew (b2 + 1) (mixC st) 44 := X3
    obtain ⟨wq, hwq⟩ : ∃ wq, wr.drew = wq := ⟨_, rfl⟩
    rw [hwq] at B X2 X3 hHeld ⊢
    clear hwq
    refine wpAnyH_take (i := 0) (oi := _) (v := .agg (mixC st)) rfl (by kernel_rfl) (by kernel_rfl) (by kernel_rfl) (fun _ _ _ h => h) (yields_box (by kernel_rfl) _ _ rfl (b2 + 1) rfl (mixC st) 44 (fun _ hS => hS.2) _ Try.underlying44 rfl (by kernel_rfl)) (by assumption) ?_
    try simp only [List.getElem_toArray, List.getElem_cons_zero, List.getElem_cons_succ, Act.put, List.setIfInBounds_toArray, List.set_cons_zero, List.set_cons_succ]
    refine wpAnyH_take (i := 1) (oi := _) (v := .agg (mixC m)) rfl (by kernel_rfl) (by kernel_rfl) (by kernel_rfl) (fun _ _ _ h => h) (yields_box (by kernel_rfl) _ _ rfl b2 rfl (mixC m) 44 (fun _ hS => hS.1) _ Try.underlying44 rfl (by kernel_rfl)) (by assumption) ?_
    try simp only [List.getElem_toArray, List.getElem_cons_zero, List.getElem_cons_succ, Act.put, List.setIfInBounds_toArray, List.set_cons_zero, List.set_cons_succ]
    refine wpAnyH_take (i := 2) (oi := _) (v := ?_) rfl (by kernel_rfl) (by kernel_rfl) (by kernel_rfl) (fun _ _ _ h => h) (Or.inl ⟨by kernel_rfl, ?_⟩) (by assumption) ?_
    rotate_left
    · intro w hSw; (try dsimp only at hSw); go_simp; first | done | with_reducible rfl
    try simp only [List.getElem_toArray, List.getElem_cons_zero, List.getElem_cons_succ, Act.put, List.setIfInBounds_toArray, List.set_cons_zero, List.set_cons_succ]
    refine wpAnyH_ready (rs := [3]) (by kernel_rfl) (by simp) ?_
    refine AllReadyH.cons (o := _) rfl (fun K hK => ?_) AllReadyH.nil
    go_simp
    refine (HF.out wq k ⟨hk0, hk1⟩).mono ?_
    rintro e w3 ⟨hb, rfl⟩
    replace X2 := X2.below hb
    replace X3 := X3.below hb
    replace B := nxt B hb
    clear hb
    refine hK.out _ _ ⟨X2, X3⟩ (fun hHeld => ?_)
    clear hK K
    try simp only [List.getElem_toArray, List.getElem_cons_zero, List.getElem_cons_succ, Act.put, List.setIfInBounds_toArray, List.set_cons_zero, List.set_cons_succ]
    refine wpAnyH_ready (rs := [4]) (by kernel_rfl) (by simp) ?_
    refine AllReadyH.cons (o := _) rfl (fun K hK => ?_) AllReadyH.nil
    go_simp
    refine (HE.out _).mono ?_
    rintro e w4 ⟨hb, rfl⟩
    replace X2 := X2.below hb
    replace X3 := X3.below hb
    replace B := nxt B hb
    clear hb
    refine hK.out _ _ ⟨X2, X3⟩ (fun hHeld => ?_)
    clear hK K
    try simp only [List.getElem_toArray, List.getElem_cons_zero, List.getElem_cons_succ, Act.put, List.setIfInBounds_toArray, List.set_cons_zero, List.set_cons_succ]
    refine wpAnyH_take (i := 5) (oi := _) (v := ?_) rfl (by kernel_rfl) (by kernel_rfl) (by kernel_rfl) (fun _ _ _ h => h) (Or.inl ⟨by kernel_rfl, ?_⟩) (by assumption) ?_
    rotate_left
    · intro w hSw; (try dsimp only at hSw); go_simp; first | done | with_reducible rfl
    try simp only [List.getElem_toArray, List.getElem_cons_zero, List.getElem_cons_succ, Act.put, List.setIfInBounds_toArray, List.set_cons_zero, List.set_cons_succ]
    refine wpAnyH_done (by kernel_rfl) ?_ _
    clear hHeld
    cases r with
    | true =>
      have he : Enough m st k := ER.out.1 rfl
      have hz : z = k := HZ.out.one ⟨⟨hk0, hk1⟩, he, HN.out⟩
      subst hz
      clear he
      go_wp2
      go_ret
      exact ⟨B, rfl⟩
    | false =>
      have he : ¬ Enough m st k := fun h => by have := ER.out.2 h; cases this
      have hk : k ≠ 0 := by
        rintro rfl
        refine he fun j hj => ?_
        have := needM_nil (m := m) j
        rw [show (((0 : Nat) : Int)) = 0 from rfl, this]
        exact (HST.out j hj).1
      have HN' : Hid (∀ y : Int, (k : Int) - 1 < y → y ≤ 5000 → ¬ Enough m st y) := Lib.hid fun y hy1 hy2 => by
        by_cases e : y = k
        · rw [e]; exact he
        · exact HN.out y (by omega) hy2
      clear he
      go_wp2
      exact ⟨⟨k - 1, by omega, by rw [show ((k - 1 : Nat) : Int) = (k : Int) - 1 by omega], B, X2, X3, by rw [show ((k - 1 : Nat) : Int) = (k : Int) - 1 by omega]; exact HN'.out⟩, by simp [intOf]; omega⟩
end Go.Proofs.Ytgpnimbgckajlaa
