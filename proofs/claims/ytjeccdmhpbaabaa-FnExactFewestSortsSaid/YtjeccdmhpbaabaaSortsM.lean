/-
  The numbers of FewestSorts, and the contract of impl.fillsAll. Conditions stand at each.
-/
import Derived.Test.YtjeccdmhpbaabaaRows
import Derived.Test.YtjeccdmhpbaabaaSelI
import Derived.Test.YtjeccdmhpbaabaaFillS
namespace Go.Proofs.Ytjeccdmhpbaabaa
open Go Go.ChangeShapes Go.WideShapes Go.ChangeAt Go.RowKit
set_option linter.unusedVariables false
set_option linter.unusedSimpArgs false
set_option maxRecDepth 100000
set_option maxHeartbeats 2000000

/-- the fewest setts of some sorts that fill a row; less than 0 if there are none. -/
def tF (n : Nat) (c d : Nat → Int) (k l : Int) : Int := TT (bF n c k) (qF n d) n 0 (l + k).toNat
def AllF (n : Nat) (c d : Nat → Int) (k : Int) (m : Nat) (f : Nat → Int) : Prop := ∀ j, j < m → 0 ≤ tF n c d k (f j)
theorem atL_ok {n s : Nat} {c d : Nat → Int} (h : SOk n c d) : EOk (selL s n).length (atL (selL s n) c) (atL (selL s n) d) := by
  refine ⟨Nat.le_trans (selL_le s n) h.1.2, fun j hj => ?_⟩
  have hm : (selL s n).getD j 0 ∈ selL s n := by
    rw [List.getD_eq_getElem?_getD, List.getElem?_eq_getElem hj]
    exact List.getElem_mem hj
  have := h.2 _ (selL_lt hm)
  exact ⟨this.1, this.2.1⟩
open Classical in
/-- the model's best, and the program's. -/
noncomputable def sB (n : Nat) (a : Nat → Prop) : Nat → Int
  | 0 => -1
  | s + 1 => if 0 ≤ sB n a s ∧ sB n a s ≤ ((selL s n).length : Int) then sB n a s else if a s then ((selL s n).length : Int) else sB n a s
open Classical in
noncomputable def iB (n : Nat) (a : Nat → Prop) : Nat → Int
  | 0 => (n : Int) + 1
  | s + 1 => if ((selL s n).length : Int) < iB n a s ∧ a s then ((selL s n).length : Int) else iB n a s
theorem iB_sB (n : Nat) (a : Nat → Prop) : ∀ s, iB n a s = (if sB n a s < 0 then (n : Int) + 1 else sB n a s) ∧ sB n a s ≤ n
  | 0 => ⟨rfl, by show (-1 : Int) ≤ n; omega⟩
  | s + 1 => by
    obtain ⟨h1, h2⟩ := iB_sB n a s
    have hl := selL_le s n
    obtain ⟨x, hx⟩ : ∃ x : Nat, x = (selL s n).length := ⟨_, rfl⟩
    obtain ⟨t, ht⟩ : ∃ t, t = sB n a s := ⟨_, rfl⟩
    rw [iB, sB, h1, ← hx, ← ht]
    rw [← hx] at hl
    rw [← ht] at h2
    by_cases ha : a s
    · by_cases ht0 : t < 0
      · rw [if_pos ht0, if_neg (show ¬ (0 ≤ t ∧ t ≤ (x : Int)) by omega), if_pos ha, if_pos ⟨by omega, ha⟩, if_neg (by omega)]
        exact ⟨rfl, by omega⟩
      · rw [if_neg ht0]
        by_cases hc : t ≤ (x : Int)
        · rw [if_pos (show 0 ≤ t ∧ t ≤ (x : Int) by omega), if_neg (fun h => by omega), if_neg ht0]
          exact ⟨rfl, by omega⟩
        · rw [if_neg (show ¬ (0 ≤ t ∧ t ≤ (x : Int)) by omega), if_pos ha, if_pos ⟨by omega, ha⟩, if_neg (by omega)]
          exact ⟨rfl, by omega⟩
    · rw [if_neg ha, ite_self, if_neg (fun h => ha h.2)]
      exact ⟨rfl, h2⟩

theorem iB_yes {n s : Nat} {a : Nat → Prop} (h : ((selL s n).length : Int) < iB n a s ∧ a s) : iB n a (s + 1) = ((selL s n).length : Int) := by rw [iB, if_pos h]
theorem iB_no {n s : Nat} {a : Nat → Prop} (h : ¬ (((selL s n).length : Int) < iB n a s ∧ a s)) : iB n a (s + 1) = iB n a s := by rw [iB, if_neg h]
theorem sB_skip {n s : Nat} {a : Nat → Prop} (h : 0 ≤ sB n a s ∧ sB n a s ≤ ((selL s n).length : Int)) : sB n a (s + 1) = sB n a s := by rw [sB, if_pos h]
theorem sB_yes {n s : Nat} {a : Nat → Prop} (h : ¬ (0 ≤ sB n a s ∧ sB n a s ≤ ((selL s n).length : Int))) (ha : a s) : sB n a (s + 1) = ((selL s n).length : Int) := by rw [sB, if_neg h, if_pos ha]
theorem sB_no {n s : Nat} {a : Nat → Prop} (ha : ¬ a s) : sB n a (s + 1) = sB n a s := by rw [sB, if_neg ha, ite_self]
theorem fillsAll_any (A B : Option Addr) (n cap m cb : Nat) (c d f : Nat → Int) (k : Int) (w : World) (hm : m ≤ 8) (hs : EOk n c d) (hk : JointOk k) (hl : ∀ j, j < m → LongOk (f j)) (hr : RdS w w.heap.size A n c d) (hf : RdK .i64 w w.heap.size B m f) :
    Calls Try.prog 133 #[.slice A n cap, .slice B m cb, .int .i64 k] w fun e w' => Below w.heap.size w w' ∧ ((AllF n c d k m f ∧ e = .returned (.bool true)) ∨ (¬ AllF n c d k m f ∧ e = .returned (.bool false))) := by
  have hn6 := hs.1
  have hq60 := qF_60 hs
  have hfew := fun (r : Nat) (W : World) => fewest_any (w.heap.size + 4) w.heap.size (w.heap.size + 2) (w.heap.size + 1) (w.heap.size + 3) A n cap c d k hs hk n 0 (by omega) r W
  have HFW := Lib.hid hfew
  have hTT := fun r => FF_TT (bF n c k) (qF n d) n 0 r hn6 hq60
  have HTT := Lib.hid hTT
  have HR := Lib.hid hr
  have HF := Lib.hid hf
  have HL := Lib.hid hl
  have HK := Lib.hid hk
  unfold JointOk at hk
  have hE : ∀ (args : Array Value) (w : World), (callFunc 190 args).run Try.prog w = .ok (.enter 190 args) w := enters_of Try.func190 (by kernel_rfl) rfl
  clear hq60 hfew hTT hr hf hl hs
  go_enter Try.func133, Try.ntmps133
  go_wp2_with fail
  refine (fewestBy_any A n cap c d k _ HR.out).mono ?_
  rintro e w1 ⟨rfl, hb1, s1, hFB, hTab⟩
  have HFB := Lib.hid hFB
  have HTab := Lib.hid hTab
  have HB1 := Lib.hid hb1
  clear hFB hTab hb1
  go_wp2_with fail
  go_loopw [9, 15] (fun t9 t15 wr => ∃ i : Nat, i ≤ m ∧ t15 = .int .i64 i ∧ Below w.heap.size w wr ∧ FB (w.heap.size + 4) w.heap.size (w.heap.size + 2) (w.heap.size + 1) (w.heap.size + 3) A n cap c d k wr ∧ TabI wr (w.heap.size + 2) (FF (bF n c k) (qF n d) n) ∧ ∀ j, j < i → 0 ≤ tF n c d k (f j)) (fun t9 t15 wr => m - (intOf t15).toNat)
  case atStart => exact ⟨0, Nat.zero_le _, rfl, HB1.out, HFB.out, HTab.out, fun j hj => by omega⟩
  case round =>
    clear HB1 HFB HTab
    obtain ⟨i, hi, rfl, hB, hFB, hT, hall⟩ := hrel
    obtain ⟨wo, rfl⟩ : ∃ wo : World, wo = wr := ⟨_, rfl⟩
    have HB := Lib.hid hB
    have HFB := Lib.hid hFB
    have HT := Lib.hid hT
    have HA := Lib.hid hall
    clear hB hFB hT hall
    by_cases hlt : i < m
    · have hlti : (i : Int) < (m : Int) := by omega
      obtain ⟨b, off, rfl, hbl, ck⟩ := rdInt64 (HF.out.below HB.out) hlt
      have hlo := HL.out i hlt
      obtain ⟨x, hx⟩ : ∃ x, x = f i := ⟨_, rfl⟩
      rw [← hx] at ck hlo
      unfold LongOk at hlo
      obtain ⟨L, hL⟩ : ∃ L : Nat, x + k = (L : Int) := ⟨(x + k).toNat, by omega⟩
      have hL405 : L ≤ 405 := by omega
      have htf : tF n c d k (f i) = TT (bF n c k) (qF n d) n 0 L := by
        unfold tF; rw [← hx, hL]; rfl
      have HTF := Lib.hid htf
      have HLL := Lib.hid hL
      clear hx htf hL
      go_wp2_with fail
      refine (roomOf_any x k _ (by omega) (by omega)).mono ?_
      rintro e w3 ⟨rfl, rfl⟩
      rw [HLL.out]
      go_wp2_with fail
      refine (HFW.out L wo hL405 HFB.out HT.out).mono ?_
      rintro e w4 ⟨rfl, hK4, hT4⟩
      have hN := HFB.out.1.1
      have B4 : Below w.heap.size w w4 := HB.out.trans (hK4.1.mono (by omega))
      have HF4 := Lib.hid (HFB.out.kt hK4)
      have HT4 := Lib.hid hT4
      rw [(HTT.out L).1]
      have htb := (HTT.out L).2
      obtain ⟨t, ht⟩ : ∃ t, t = TT (bF n c k) (qF n d) n 0 L := ⟨_, rfl⟩
      rw [← ht] at htb ⊢
      have HTE := Lib.hid ht
      clear hK4 hT4 ht
      by_cases ht0 : t < 0
      · have ha : asF t = 361 := by unfold asF; rw [if_pos ht0]
        rw [ha]
        clear ha
        go_wp2_with fail
        go_ret
        exact ⟨B4, .inr ⟨fun h => by have := h i hlt; rw [HTF.out, ← HTE.out] at this; omega, rfl⟩⟩
      · have ha : asF t = t := by unfold asF; rw [if_neg ht0]
        rw [ha]
        have hne : (t == 361) = false := by simp; omega
        clear ha
        go_wp2_with fail
        exact ⟨⟨i + 1, by omega, by first | go_num | simp, B4, HF4.out, HT4.out, fun j hj => by
          by_cases e : j = i
          · subst e; rw [HTF.out, ← HTE.out]; omega
          · exact HA.out j (by omega)⟩, by simp [intOf]; omega⟩
    · obtain rfl : i = m := by omega
      have hlti : ¬ (i : Int) < (i : Int) := by omega
      go_wp2_with fail
      go_ret
      exact ⟨HB.out, .inl ⟨HA.out, rfl⟩⟩
end Go.Proofs.Ytjeccdmhpbaabaa
