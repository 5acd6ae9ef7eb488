/-
  The contracts of spec.l00Has and spec.l03Common. Conditions stand at each.
-/
import Derived.Test.YtjeccdmhpbaabaaRows
import Derived.Test.YtjeccdmhpbaabaaJointsS
import Derived.Test.YtjeccdmhpbaabaaCommonM
import Derived.Test.YtjeccdmhpbaabaaOwnAt
namespace Go.Proofs.Ytjeccdmhpbaabaa
open Go Go.ChangeShapes Go.WideShapes Go.ChangeAt Go.RowKit
set_option linter.unusedVariables false
set_option linter.unusedSimpArgs false
set_option maxRecDepth 100000
set_option maxHeartbeats 2000000

def HasPost (L : List Int) (v : Int) (w : World) (e : Ending) (w' : World) : Prop := w' = w ∧ ((v ∈ L ∧ e = .returned (.bool true)) ∨ (¬ v ∈ L ∧ e = .returned (.bool false)))
theorem hasL_any (A : Option Addr) (n cap N : Nat) (L : List Int) (v : Int) (w : World) (hn : n = L.length) (hn2 : n ≤ 1048576) (hN : N ≤ w.heap.size) (hr : RdK .i64 w N A n (fun j => L.getD j 0)) :
    Calls Try.prog 165 #[.slice A n cap, .int .i64 v] w (HasPost L v w) := by
  have HR := Lib.hid hr
  have HN := Lib.hid hn
  clear hr hn
  go_enter Try.func165, Try.ntmps165
  go_wp2_with fail
  go_loop [5] (fun t5 => ∃ k : Nat, k ≤ n ∧ t5 = .int .i64 k ∧ ∀ j, j < k → L.getD j 0 ≠ v) (fun t5 => n - (intOf t5).toNat)
  case atStart => exact ⟨0, by omega, rfl, fun j hj => by omega⟩
  case round =>
    obtain ⟨k, hk, rfl, hall⟩ := hrel
    have HA := Lib.hid hall
    clear hall
    by_cases hlt : k < n
    · obtain ⟨b, off, rfl, hbl, ck⟩ := rdInt64 HR.out hlt
      obtain ⟨x, hx⟩ : ∃ x, x = L.getD k 0 := ⟨_, rfl⟩
      rw [← hx] at ck
      have HX := Lib.hid hx
      clear hx
      by_cases e1 : x = v
      · subst e1
        have D1 : (x == x) = true := by simp
        go_wp2
        go_ret
        refine ⟨rfl, .inl ⟨?_, rfl⟩⟩
        have hlt' : k < L.length := by rw [← HN.out]; exact hlt
        rw [HX.out, List.getD_eq_getElem?_getD, List.getElem?_eq_getElem hlt']
        exact List.getElem_mem hlt'
      · have D1 : (x == v) = false := by simpa using e1
        go_wp2
        go_round
        case rel => exact ⟨k + 1, by omega, by first | go_num | simp, fun j hj => by
          by_cases e : j = k
          · subst e; rw [← HX.out]; exact e1
          · exact HA.out j (by omega)⟩
        case measure => simp [intOf]; omega
    · obtain rfl : k = n := by omega
      go_wp2
      go_ret
      refine ⟨rfl, .inr ⟨fun h => ?_, rfl⟩⟩
      obtain ⟨j, hj, e⟩ := List.getElem_of_mem h
      refine HA.out j (by rw [HN.out]; exact hj) ?_
      rw [List.getD_eq_getElem?_getD, List.getElem?_eq_getElem hj]
      exact e

theorem l03Common_any (A B : Option Addr) (n m ca cb : Nat) (c d : Nat → Int) (joint : Int) (w : World) (h1 : 1 ≤ n) (h60 : n ≤ 60) (g1 : 1 ≤ m) (g60 : m ≤ 60) (hr : RdK .i64 w w.heap.size A n c) (hs : RdK .i64 w w.heap.size B m d) :
    Calls Try.prog 114 #[.slice A n ca, .slice B m cb, .int .i64 joint] w fun e w' => Below w.heap.size w w' ∧ ∃ v, e = .returned v ∧ OwnI w' w.heap.size v (comL (jtL joint c (n - 1)) (jtL joint d (m - 1))) := by
  obtain ⟨i0, hi, hz0, hz1, hz2⟩ := info_parts infoI64
  have HR := Lib.hid hr
  have HS := Lib.hid hs
  clear hr hs
  go_enter Try.func114, Try.ntmps114
  go_wp2_with fail
  obtain ⟨W0, hW0⟩ : ∃ W0 : World, W0 = (w.alloc (.cells #[] 2)) := ⟨_, rfl⟩
  have B0 : Below w.heap.size w W0 := by rw [hW0]; exact al (Below.refl _ _) _
  have O0 : OwnI W0 w.heap.size (.slice (some ⟨w.heap.size, 0, none⟩) 0 0) [] := by rw [hW0]; exact OwnI.made w (Nat.le_refl _)
  have hs0 : W0.heap.size = w.heap.size + 1 := by rw [hW0]; simp
  rw [← hW0]
  clear hW0
  have s0 : W0.heap.size = w.heap.size + 1 := hs0
  refine (l03Joints_any A n ca c joint _ h1 h60 ((HR.out.below B0).mono B0.size)).mono ?_
  rintro e w1 ⟨hb, v1, rfl, O1⟩
  have s1 := hb.size
  obtain ⟨A1, p1, rfl⟩ := O1.shape
  have R1 := O1.rdI
  replace O0 := O0.below hb
  replace B0 := nxt B0 hb
  clear hb O1
  rw [s0] at R1
  go_wp2_with fail
  refine (l03Joints_any B m cb d joint _ g1 g60 ((HS.out.below B0).mono B0.size)).mono ?_
  rintro e w2 ⟨hb, v2, rfl, O2⟩
  have s2 := hb.size
  obtain ⟨A2, p2, rfl⟩ := O2.shape
  have R2 := (O2.rdI).mono (show w.heap.size + 1 ≤ w1.heap.size by omega) (Nat.le_refl _)
  replace R1 := (R1.below hb (Nat.le_refl _)).mono (Nat.le_refl _) s2
  replace O0 := O0.below hb
  replace B0 := nxt B0 hb
  have hN2 : w.heap.size + 1 ≤ w2.heap.size := by omega
  clear hb O2 s0 s1 s2
  have L1 := jtL_length joint c (n - 1)
  have L2 := jtL_length joint d (m - 1)
  obtain ⟨X, hX⟩ : ∃ X, X = jtL joint c (n - 1) := ⟨_, rfl⟩
  obtain ⟨Y, hY⟩ : ∃ Y, Y = jtL joint d (m - 1) := ⟨_, rfl⟩
  rw [← hX] at L1 R1 ⊢
  rw [← hY] at L2 R2 ⊢
  have hXl : X.length ≤ 60 := by omega
  have hYl : Y.length ≤ 60 := by omega
  have HR1 := Lib.hid R1
  have HR2 := Lib.hid R2
  have HXX := Lib.hid hX
  have HYY := Lib.hid hY
  clear L1 L2 hX hY R1 R2
  have hw2 := B0.size
  go_wp2_with fail
  go_loopw [7, 10] (fun t7 t10 wr => ∃ k : Nat, k ≤ X.length ∧ t10 = .int .i64 k ∧ Below w.heap.size w wr ∧ (Fresh (w.heap.size + 1) w2.heap.size t7 ∧ Still (w.heap.size + 1) w2.heap.size w2 wr ∧ w2.heap.size ≤ wr.heap.size) ∧ OwnI wr w.heap.size t7 (comL (X.take k) Y)) (fun t7 t10 wr => X.length - (intOf t10).toNat)
  case atStart => exact ⟨0, by omega, rfl, B0, ⟨fun k e => by (have e' : w.heap.size = k := by simpa [Value.ownBlock] using e); omega, Still.refl _, Nat.le_refl _⟩, O0⟩
  case round =>
    clear B0 O0
    obtain ⟨k, hk, rfl, B, ⟨hF, hK, hZ⟩, O⟩ := hrel
    obtain ⟨wo, rfl⟩ : ∃ wo : World, wo = wr := ⟨_, rfl⟩
    obtain ⟨v0, rfl⟩ : ∃ v0 : Value, v0 = u7 := ⟨_, rfl⟩
    have HO := Lib.hid O
    have HB := Lib.hid B
    have HF := Lib.hid hF
    have HK := Lib.hid hK
    have R1 := HR1.out.still hK
    have R2 := HR2.out.still hK
    clear O B hF hK
    by_cases hlt : k < X.length
    · obtain ⟨b, off, eA, _, hbl, hck⟩ := R1 (by omega)
      have ck : wo.cell? ⟨b, off + k, none⟩ = some (.int .i64 (X.getD k 0)) := hck k hlt
      subst eA
      obtain ⟨x, hx⟩ : ∃ x, x = X.getD k 0 := ⟨_, rfl⟩
      rw [← hx] at ck
      have ht : X.take (k + 1) = X.take k ++ [x] := by
        rw [List.take_succ_eq_append_getElem hlt, hx, List.getD_eq_getElem?_getD, List.getElem?_eq_getElem hlt]
        rfl
      have HT := Lib.hid ht
      have HR2' := Lib.hid R2
      clear hx R1 R2 ht hck
      go_wp2_with fail
      refine (hasL_any A2 Y.length p2 _ Y x _ rfl (by omega) (Nat.le_refl _) (HR2'.out.rd hZ)).mono ?_
      rintro e w3 ⟨hw, ⟨h, rfl⟩ | ⟨h, rfl⟩⟩
      · replace hw := hw.symm
        subst hw
        have H := Lib.hid h
        clear h
        have hsz := comL_le (X.take k) Y
        have htl : (X.take k).length ≤ k := by rw [List.length_take]; omega
        go_wp2_with (at_builtin; refine wpList_append_own_at _ rfl _ _ 29 rfl w.heap.size 2 i0 (.int .i64 0) 1 8 Try.underlying29 hi hz0 hz1 hz2 rfl (by decide) _ _ _ rfl (World.ownsRow.alloc HO.out _) ⟨wo.heap.size, 0, none⟩ 1 1 [.int .i64 x] rfl rfl (ncells wo #[.int .i64 x] 2) one64 (by have := HB.out.size; unfold maxLen; omega) (by have := HB.out.size; omega) (by have := HB.out.size; simp; omega) ?_; intro v' w1 own' hgr _ hat)
        have B1 : Below w.heap.size w w1 := (al HB.out _).grown hgr (al HB.out _).size (fun k e => (HO.out.lt k e).1)
        have O1 : OwnI w1 w.heap.size v' (comL (X.take (k + 1)) Y) := by
          rw [HT.out, comL_snoc, if_pos H.out]
          exact OwnI.snoc own'
        have hzz := hgr.size
        rw [World.size_alloc] at hzz
        have F1 : Fresh (w.heap.size + 1) w2.heap.size v' := HF.out.next hat (by rw [World.size_alloc]; omega)
        have K1 : Still (w.heap.size + 1) w2.heap.size w2 w1 := (HK.out.alloc hZ _).grown hgr HF.out (by rw [World.size_alloc]; omega)
        clear own' hgr
        exact ⟨⟨k + 1, by omega, by first | go_num | simp, B1, ⟨F1, K1, by omega⟩, O1⟩, by simp [intOf]; omega⟩
      · replace hw := hw.symm
        subst hw
        have H := Lib.hid h
        clear h
        go_wp2_with fail
        exact ⟨⟨k + 1, by omega, by first | go_num | simp, HB.out, ⟨HF.out, HK.out, hZ⟩, by rw [HT.out, comL_snoc, if_neg H.out, List.append_nil]; exact HO.out⟩, by simp [intOf]; omega⟩
    · obtain rfl : k = X.length := by omega
      go_wp2_with fail
      go_ret
      have O := HO.out
      rw [List.take_length, HXX.out, HYY.out] at O
      exact ⟨HB.out, _, rfl, O⟩
end Go.Proofs.Ytjeccdmhpbaabaa
