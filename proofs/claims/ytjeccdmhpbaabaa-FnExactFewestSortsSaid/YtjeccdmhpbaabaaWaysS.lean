/-
  The contract of spec.WaysToFill. Conditions stand at each.
-/
import Derived.StillTailTactics
import Derived.Test.YtjeccdmhpbaabaaRows
import Derived.Test.YtjeccdmhpbaabaaCodes
import Derived.Test.YtjeccdmhpbaabaaWaysM
namespace Go.Proofs.Ytjeccdmhpbaabaa
open Go Go.ChangeShapes Go.WideShapes Go.ChangeAt Go.RowKit
set_option linter.unusedVariables false
set_option linter.unusedSimpArgs false
set_option maxRecDepth 100000
set_option maxHeartbeats 2000000

/-- in how many ways the first sorts fill a room. -/
def wS (c d : Nat → Int) (k : Int) : Nat → Nat → Int
  | 0 => fun a => if a = 0 then 1 else 0
  | i + 1 => wUp (c i + k).toNat (d i).toNat (wS c d k i)
/-- what WaysToFill answers. -/
def Wayed (s f : Prop) (v : Int) (w : World) (e : Ending) (w' : World) : Prop :=
  Below w.heap.size w w' ∧ ((s ∧ f ∧ e = .returned (.tuple #[.int .i64 v, .int .i64 0])) ∨ (¬ s ∧ e = .returned (.tuple #[.int .i64 0, .int .i64 1])) ∨ (s ∧ ¬ f ∧ e = .returned (.tuple #[.int .i64 0, .int .i64 2])))

theorem make_i64 (L M : Nat) (hM : M = L + 1) (hL : L ≤ 1000) (W : World) :
    (Instr.makeSlice 29 (.int .i64 ((L : Int) + 1)) (.int .i64 ((L : Int) + 1))).run Try.prog W = .ok (.slice (some ⟨W.heap.size, 0, none⟩) M M) (W.alloc (.cells (madeCells #[.int .i64 0] M) 2)) := by
  obtain ⟨i0, hi, hz0, hz1, hz2⟩ := info_parts infoI64
  have h := run_make_rowN (P := Try.prog) 29 2 i0 _ Try.underlying29 hi hz0 .i64 .i64 M M (Nat.le_refl _) (by rw [hz2]; omega) (by omega) W
  rw [hz1, Nat.mul_one] at h
  rw [show ((L : Int) + 1) = (M : Int) by omega]
  exact h
theorem made_ar (W : World) (M : Nat) : Ar (W.alloc (.cells (madeCells #[.int .i64 0] M) 2)) W.heap.size M (fun _ => 0) := by
  refine ⟨by simp, fun j hj => ?_⟩
  have h := rowIs_made1 W (.int .i64 0) M 2
  rw [Nat.zero_add]
  exact ⟨h.cell hj, h.frozen j⟩
theorem Ar.congr {w : World} {g n : Nat} {f f' : Nat → Int} (h : Ar w g n f) (e : ∀ j, j < n → f j = f' j) : Ar w g n f' := ⟨h.1, h.2.congr e⟩
theorem Ar.set {w : World} {g n i : Nat} {f : Nat → Int} (h : Ar w g n f) (hi : i < n) (v : Int) : Ar (w.setCell ⟨g, i, none⟩ (.int .i64 v)) g n (fun j => if j = i then v else f j) := by
  have := h.2.set hi v
  rw [Nat.zero_add] at this
  exact ⟨by simpa using h.1, this⟩
theorem Ar.at {w : World} {g n i : Nat} {f : Nat → Int} (h : Ar w g n f) (hi : i < n) : w.cell? ⟨g, i, none⟩ = some (.int .i64 (f i)) ∧ w.frozen? ⟨g, i, none⟩ = false := by
  have := h.2 i hi
  rwa [Nat.zero_add] at this
theorem Ar.other {w : World} {g g' n i : Nat} {f : Nat → Int} (h : Ar w g n f) (hne : g ≠ g') (v : Value) : Ar (w.setCell ⟨g', i, none⟩ v) g n f := h.kept (by simp) (Below.heap_setCell w _ _ _ hne)

theorem specWays_any (A : Option Addr) (n : Nat) (c d : Nat → Int) (l k : Int) (w : World) (hn : n ≤ 1048576) (hr : RdS w w.heap.size A n c d) (hc : ∀ j, -128 ≤ c j ∧ c j ≤ 127) (hd : ∀ j, -32768 ≤ d j ∧ d j ≤ 32767) :
    Calls Try.prog 62 #[.slice A n n, .int .i64 l, .int .i64 k] w (Wayed (SOk n c d) (JointOk k ∧ LongOk l) (wS c d k n (l + k).toNat) w) := by
  have HR := Lib.hid hr
  have HC := Lib.hid hc
  have HD := Lib.hid hd
  clear hr hc hd
  go_enter Try.func62, Try.ntmps62
  obtain ⟨w0, hw0⟩ : ∃ w0, w0 = w := ⟨_, rfl⟩
  go_wp2_with fail
  refine (l03Long_any l _).mono ?_
  rintro e w1 ⟨hw, ⟨h, rfl⟩ | ⟨h, rfl⟩⟩
  case inr =>
    have H := Lib.hid h
    replace hw := hw.symm
    subst hw
    clear h
    go_wp2_with fail
    refine (asked_any A n n c d false _ hn HR.out HC.out HD.out).mono ?_
    rintro e w2 ⟨hb, ⟨h, h', _⟩ | ⟨h, rfl⟩ | ⟨h, _, rfl⟩⟩
    · exact absurd h' (by simp)
    · have H2 := Lib.hid h
      clear h
      go_wp2_with fail
      go_ret2
      exact ⟨hb, .inr (.inl ⟨H2.out, rfl⟩)⟩
    · have H2 := Lib.hid h
      clear h
      go_wp2_with fail
      go_ret2
      exact ⟨hb, .inr (.inr ⟨H2.out, fun h => H.out h.2, rfl⟩)⟩
  have H := Lib.hid h
  replace hw := hw.symm
  subst hw
  clear h
  go_wp2_with fail
  refine (l03Joint_any k _).mono ?_
  rintro e w1 ⟨hw, ⟨h, rfl⟩ | ⟨h, rfl⟩⟩
  case inr =>
    have H1 := Lib.hid h
    replace hw := hw.symm
    subst hw
    clear h
    go_wp2_with fail
    refine (asked_any A n n c d false _ hn HR.out HC.out HD.out).mono ?_
    rintro e w2 ⟨hb, ⟨h, h', _⟩ | ⟨h, rfl⟩ | ⟨h, _, rfl⟩⟩
    · exact absurd h' (by simp)
    · have H2 := Lib.hid h
      clear h
      go_wp2_with fail
      go_ret2
      exact ⟨hb, .inr (.inl ⟨H2.out, rfl⟩)⟩
    · have H2 := Lib.hid h
      clear h
      go_wp2_with fail
      go_ret2
      exact ⟨hb, .inr (.inr ⟨H2.out, fun h => H1.out h.1, rfl⟩)⟩
  have H1 := Lib.hid h
  replace hw := hw.symm
  subst hw
  clear h
  go_wp2_with fail
  refine (asked_any A n n c d true _ hn HR.out HC.out HD.out).mono ?_
  rintro e w2 ⟨hb, ⟨h, _, rfl⟩ | ⟨h, rfl⟩ | ⟨_, h', _⟩⟩
  case inr.inr => exact absurd rfl h'
  case inr.inl =>
    have H2 := Lib.hid h
    clear h
    go_wp2_with fail
    go_ret2
    exact ⟨hb, .inr (.inl ⟨H2.out, rfl⟩)⟩
  have H2 := Lib.hid h
  clear h
  have hl := H.out
  have hk := H1.out
  unfold LongOk at hl
  unfold JointOk at hk
  obtain ⟨L, hL⟩ : ∃ L : Nat, l + k = (L : Int) := ⟨(l + k).toNat, by omega⟩
  have hL2 : L ≤ 405 := by omega
  have hL1 : 1 ≤ L := by omega
  have hLt : (l + k).toNat = L := by omega
  have HLt := Lib.hid hLt
  clear hLt
  obtain ⟨M, hM⟩ : ∃ M, M = L + 1 := ⟨_, rfl⟩
  have hMi : (M : Int) = (L : Int) + 1 := by omega
  have hmk := make_i64 L M hM (by omega)
  have HM := Lib.hid hM
  have HMi := Lib.hid hMi
  clear hM hMi
  have hM0 : 0 < (M : Int) := by have := HM.out; omega
  have hM1 : 0 < M := by have := HM.out; omega
  have hA := made_ar w2 M
  obtain ⟨q0, f0⟩ := hA.at hM1
  go_wp2_with fail
  obtain ⟨W3, hW3⟩ : ∃ W3 : World, W3 = (w2.alloc (.cells (madeCells #[.int .i64 0] M) 2)).setCell ⟨w2.heap.size, 0, none⟩ (.int .i64 1) := ⟨_, rfl⟩
  have A3 : Ar W3 w2.heap.size M (wS c d k 0) := by rw [hW3]; exact hA.set hM1 1
  have B3 : Below w.heap.size w W3 := by rw [hW3]; exact (al hb _).setCell (p := ⟨w2.heap.size, 0, none⟩) hb.size _
  have g3 : w.heap.size ≤ w2.heap.size := hb.size
  rw [← World.setCell_alloc_new, ← hW3]
  have HA3 := Lib.hid A3
  clear hW3 q0 f0 hA hb A3
  go_loopw [10, 11] (fun t10 t11 wr => ∃ i : Nat, i ≤ n ∧ t11 = .int .i64 i ∧ Below w.heap.size w wr ∧ ∃ g, t10 = .slice (some ⟨g, 0, none⟩) M M ∧ w.heap.size ≤ g ∧ Ar wr g M (wS c d k i)) (fun t10 t11 wr => n - (intOf t11).toNat)
  case atStart => exact ⟨0, by omega, rfl, B3, _, rfl, g3, HA3.out⟩
  case round =>
    clear B3
    obtain ⟨i, hi, rfl, B, g, rfl, hg, hA⟩ := hrel
    obtain ⟨wo, rfl⟩ : ∃ wo : World, wo = wr := ⟨_, rfl⟩
    have HB := Lib.hid B
    have HA := Lib.hid hA
    clear B hA
    by_cases hlt : i < n
    · have hlti : (i : Int) < (n : Int) := by omega
      obtain ⟨b, off, rfl, hbl, c0, c1⟩ := (HR.out.below HB.out).at hlt
      have hsat := H2.out.2 i hlt
      obtain ⟨hx, hy, _⟩ := hsat
      obtain ⟨x, ex⟩ : ∃ x, x = c i := ⟨_, rfl⟩
      obtain ⟨cnt, ecnt⟩ : ∃ cnt : Nat, d i = (cnt : Int) := ⟨(d i).toNat, by omega⟩
      obtain ⟨by', eby⟩ : ∃ by' : Nat, c i + k = (by' : Int) := ⟨(c i + k).toNat, by omega⟩
      have hby : 1 ≤ by' := by omega
      have hby2 : by' ≤ 25 := by omega
      have hcnt : cnt ≤ 60 := by omega
      have hws : wS c d k (i + 1) = wUp by' cnt (wS c d k i) := by
        rw [wS, eby, ecnt]; rfl
      have HW := Lib.hid hws
      obtain ⟨f, hf⟩ : ∃ f, f = wS c d k i := ⟨_, rfl⟩
      rw [← hf] at HA HW
      rw [← ex] at c0 hx eby
      rw [ecnt] at c1 hy
      have HE := Lib.hid (And.intro ex ecnt)
      clear hws ex ecnt hf
      have hbl2 : b < w.heap.size := hbl
      go_wp2_with fail
      obtain ⟨g2, hg2⟩ : ∃ g2, g2 = wo.heap.size := ⟨_, rfl⟩
      have hne : g ≠ g2 := by have := HA.out.1; omega
      have hA2 := made_ar wo M
      have hA1 := HA.out.alloc (.cells (madeCells #[.int .i64 0] M) 2)
      have hB2 := al HB.out (.cells (madeCells #[.int .i64 0] M) 2)
      rw [← hg2] at hA2 ⊢
      obtain ⟨V, hV⟩ : ∃ V : World, V = wo.alloc (.cells (madeCells #[.int .i64 0] M) 2) := ⟨_, rfl⟩
      rw [← hV] at hA1 hA2 hB2 ⊢
      have hgg : w.heap.size ≤ g2 := by have := HB.out.size; omega
      clear hV hg2 HB HA c0 c1
      go_loopw [14, 15] (fun t14 t15 wr => ∃ a : Nat, a ≤ M ∧ t14 = .int .i64 a ∧ Below w.heap.size w wr ∧ Ar wr g M f ∧ Ar wr g2 M (fun j => if j < a then wUp by' cnt f j else 0)) (fun t14 t15 wr => M - (intOf t14).toNat)
      case atStart => exact ⟨0, by omega, rfl, hB2, hA1, hA2.congr fun j _ => by simp⟩
      case round =>
        clear hB2 hA1 hA2
        obtain ⟨a, ha, rfl, B, A1, A2⟩ := hrel
        obtain ⟨wp, rfl⟩ : ∃ wp : World, wp = wr := ⟨_, rfl⟩
        have HB := Lib.hid B
        have HA1 := Lib.hid A1
        have HA2 := Lib.hid A2
        clear B A1 A2
        have hML : M = L + 1 := HM.out
        by_cases hlta : a < M
        · have halt : (a : Int) ≤ (L : Int) := by omega
          have HML := Lib.hid hML
          clear hML
          go_wp2_with fail
          go_loopw [15] (fun t15 wr => ∃ q : Nat, q ≤ fitN by' cnt a ∧ t15 = .int .i64 q ∧ Below w.heap.size w wr ∧ Ar wr g M f ∧ Ar wr g2 M (fun j => if j < a then wUp by' cnt f j else if j = a then wsum (fun k => f (a - k * by')) q else 0)) (fun t15 wr => fitN by' cnt a - (intOf t15).toNat)
          case atStart => exact ⟨0, Nat.zero_le _, rfl, HB.out, HA1.out, HA2.out.congr fun j _ => by
            by_cases h1 : j < a
            · rw [if_pos h1, if_pos h1]
            · rw [if_neg h1, if_neg h1]
              by_cases h2 : j = a
              · rw [if_pos h2]; rfl
              · rw [if_neg h2]⟩
          case round =>
            clear HB HA1 HA2
            obtain ⟨q, hq, rfl, B, A1, A2⟩ := hrel
            obtain ⟨wq, rfl⟩ : ∃ wq : World, wq = wr := ⟨_, rfl⟩
            have HB := Lib.hid B
            have HA1 := Lib.hid A1
            have HA2 := Lib.hid A2
            clear B A1 A2
            obtain ⟨b', off', e', _, c0, c1⟩ := (HR.out.below HB.out).at hlt
            injection e' with e'
            injection e' with eb eo _
            subst eb eo
            rw [HE.out.2] at c1
            by_cases hqf : q < fitN by' cnt a
            · have h1 := (fitN_le (by omega) hqf).1
              have h2 := (fitN_le (by omega) hqf).2
              obtain ⟨p, hp⟩ : ∃ p : Nat, (q : Int) * (by' : Int) = (p : Int) := ⟨q * by', by rw [Int.natCast_mul]⟩
              have hpn : q * by' = p := by rw [← Int.natCast_mul] at hp; exact Int.ofNat.inj hp
              rw [hpn] at h2
              have dq : (q : Int) ≤ (cnt : Int) := by omega
              have dp : (p : Int) ≤ (a : Int) := by omega
              have ai : (a : Int) < (M : Int) := by omega
              have n1 : (a : Int) - (p : Int) < (M : Int) := by omega
              have n0 : 0 ≤ (a : Int) - (p : Int) := by omega
              have t1 : ((a : Int) - (p : Int)).toNat = a - p := by omega
              have v0 : IntKind.i64.wrap (p : Int) = (p : Int) := IntWalk.i64_in _ (by omega)
              have v1 : IntKind.i64.wrap ((a : Int) - (p : Int)) = (a : Int) - (p : Int) := IntWalk.i64_in _ (by omega)
              have A1 := (HA1.out.at (show a - p < M by omega)).1
              obtain ⟨A2, F2⟩ := HA2.out.at hlta
              rw [if_neg (by omega), if_pos rfl] at A2
              have es : wsum (fun k => f (a - k * by')) (q + 1) = wrap64 (wsum (fun k => f (a - k * by')) q + f (a - p)) := by rw [wsum, hpn]
              obtain ⟨X, hX⟩ : ∃ X, X = wsum (fun k => f (a - k * by')) q := ⟨_, rfl⟩
              obtain ⟨Y, hY⟩ : ∃ Y, Y = f (a - p) := ⟨_, rfl⟩
              rw [← hX] at A2
              rw [← hY] at A1
              rw [← hX, ← hY] at es
              have HES := Lib.hid es
              have hq1000 : q ≤ 1000 := by omega
              clear es hX hY hpn h2
              go_wp2_with fail
              go_still_tail 14, (by kernel_rfl)
              change wpList _ _ _ _ _ wq.drew
              go_wp2_with fail
              have A1' : Ar (wq.setCell ⟨g2, a, none⟩ (.int .i64 (wrap64 (X + Y)))).drew g M f := HA1.out.other (i := a) hne (.int .i64 (wrap64 (X + Y)))
              have A2' : Ar (wq.setCell ⟨g2, a, none⟩ (.int .i64 (wrap64 (X + Y)))).drew g2 M (fun j => if j < a then wUp by' cnt f j else if j = a then wsum (fun k => f (a - k * by')) (q + 1) else 0) := by
                refine Ar.congr (w := (wq.setCell ⟨g2, a, none⟩ (.int .i64 (wrap64 (X + Y))))) (HA2.out.set hlta (wrap64 (X + Y))) fun j hj => ?_
                by_cases e : j = a
                · subst e
                  rw [if_pos rfl, if_neg (by omega), if_pos rfl, HES.out]
                · rw [if_neg e]
                  by_cases e2 : j < a
                  · rw [if_pos e2, if_pos e2]
                  · rw [if_neg e2, if_neg e2, if_neg e, if_neg e]
              exact ⟨⟨q + 1, by omega, by first | go_num | simp, (HB.out.setCell (p := ⟨g2, a, none⟩) hgg _).drew, A1', A2'⟩, by simp [intOf]; omega⟩
            · obtain rfl : q = fitN by' cnt a := by omega
              have hfin : Ar wq g2 M (fun j => if j < a + 1 then wUp by' cnt f j else 0) := HA2.out.congr fun j hj => by
                by_cases e : j = a
                · subst e
                  rw [if_neg (by omega), if_pos rfl, if_pos (by omega)]
                  rfl
                · by_cases e2 : j < a
                  · rw [if_pos e2, if_pos (by omega)]
                  · rw [if_neg e2, if_neg e, if_neg (by omega)]
              have HF := Lib.hid hfin
              clear hfin
              obtain ⟨q, hqq⟩ : ∃ q, q = fitN by' cnt a := ⟨_, rfl⟩
              rw [← hqq]
              by_cases hqc : q ≤ cnt
              · have hgt : ¬ q * by' ≤ a := fun h => by have := lt_fitN (cnt := cnt) (show 0 < by' by omega) hqc h; omega
                obtain ⟨p, hp⟩ : ∃ p : Nat, (q : Int) * (by' : Int) = (p : Int) := ⟨q * by', by rw [Int.natCast_mul]⟩
                have hpn : q * by' = p := by rw [← Int.natCast_mul] at hp; exact Int.ofNat.inj hp
                have hple : p ≤ 60 * 25 := by rw [← hpn]; exact Nat.mul_le_mul (by omega) hby2
                rw [hpn] at hgt
                have dq : (q : Int) ≤ (cnt : Int) := by omega
                have dp : ¬ (p : Int) ≤ (a : Int) := by omega
                have dp' : decide ((p : Int) ≤ (a : Int)) = false := by simpa using dp
                have HQ := Lib.hid hqq
                clear hqq hpn
                go_wp2_with fail
                exact ⟨⟨a + 1, by omega, by first | go_num | simp, HB.out, HA1.out, HF.out⟩, by simp [intOf]; omega⟩
              · have dq : ¬ (q : Int) ≤ (cnt : Int) := by omega
                have dq' : decide ((q : Int) ≤ (cnt : Int)) = false := by simpa using dq
                have HQ := Lib.hid hqq
                clear hqq
                go_wp2_with fail
                exact ⟨⟨a + 1, by omega, by first | go_num | simp, HB.out, HA1.out, HF.out⟩, by simp [intOf]; omega⟩
        · obtain rfl : a = M := by omega
          have hla : ¬ (a : Int) ≤ (L : Int) := by omega
          have hla' : decide ((a : Int) ≤ (L : Int)) = false := by simpa using hla
          have HML := Lib.hid hML
          clear hML
          have hfin : Ar wp g2 a (wS c d k (i + 1)) := HA2.out.congr fun j hj => by rw [if_pos hj, HW.out]
          go_wp2_with fail
          exact ⟨⟨i + 1, by omega, by first | go_num | simp, HB.out, g2, rfl, hgg, hfin⟩, by simp [intOf]; omega⟩
    · obtain rfl : i = n := by omega
      have hlti : ¬ (i : Int) < (i : Int) := by omega
      have hLM : (L : Int) < (M : Int) := by have := HM.out; omega
      have cL := (HA.out.at (show L < M by have := HM.out; omega)).1
      go_wp2_with fail
      go_ret2
      exact ⟨HB.out, .inl ⟨H2.out, ⟨H1.out, H.out⟩, rfl⟩⟩
end Go.Proofs.Ytjeccdmhpbaabaa
