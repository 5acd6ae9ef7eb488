/-
  OrderText on both sides. Conditions stand at each.
-/
import Derived.Test.YtneijlogidhgiaaDoorRows
import Derived.Test.YtneijlogidhgiaaDoorNTxt
namespace Go.Proofs.YtneijlogidhgiaaDoor
open Go Go.ChangeShapes Go.WideShapes Go.ChangeAt Go.RowKit
set_option linter.unusedVariables false
set_option linter.unusedSimpArgs false
set_option maxRecDepth 100000
set_option maxHeartbeats 4000000
/-- an order that has a text. -/
def OrdOk (n : Nat) (d : Nat → Int) : Prop := n ≤ 100 ∧ ∀ j, j < n → 0 ≤ d j ∧ d j ≤ 999
theorem OrdOk.bd {n : Nat} {d : Nat → Int} (h : OrdOk n d) : ∀ j, j < n → -1000 ≤ d j ∧ d j ≤ 1000 := fun j hj => by have := h.2 j hj; omega
theorem l05Numbers_any (A : Option Addr) (n cap : Nat) (d : Nat → Int) (r : Bool) (w : World) (hn : n ≤ 1048576) (hr : RdK .i64 w w.heap.size A n d) (hrr : r = true ↔ OrdOk n d) :
    Calls Tryd.prog 27 #[.slice A n cap] w (BPost r w) := by
  have HR := Lib.hid hr
  have HRR := Lib.hid hrr
  clear hr hrr
  go_enter Tryd.func27, Tryd.ntmps27
  go_wp2
  go_loopw [3] (fun t3 wr => ∃ k : Nat, k ≤ n ∧ t3 = .int .i64 k ∧ Below w.heap.size w wr ∧ ∀ j, j < k → 0 ≤ d j ∧ d j ≤ 999) (fun t3 wr => n - (intOf t3).toNat)
  case atStart => exact ⟨0, by omega, rfl, Below.refl _ _, fun j hj => by omega⟩
  case round =>
    obtain ⟨k, hk, rfl, hB, hall⟩ := hrel
    have HA := Lib.hid hall
    clear hall
    by_cases hlt : k < n
    · have hki : (k : Int) < (n : Int) := by omega
      obtain ⟨b, off, rfl, hbl, c0⟩ := (HR.out.below hB).atn hlt
      obtain ⟨r0, e0⟩ := dec_ex (0 ≤ d k ∧ d k ≤ 999)
      have H0 := Lib.hid (fun W => in_any (d k) 0 999 r0 W e0)
      have E0 := Lib.hid e0
      clear e0
      go_wp2_with fail
      refine (H0.out _).mono ?_
      rintro e w1 ⟨rfl, rfl⟩
      cases r0 with
      | false =>
        obtain rfl : r = false := Bool.eq_false_iff.2 fun h => by have := E0.out.2 ((HRR.out.1 h).2 k hlt); cases this
        go_wp2
        go_ret
        exact ⟨hB, rfl⟩
      | true =>
        have T0 := E0.out.1 rfl
        go_wp2
        exact ⟨⟨k + 1, by omega, by first | go_num | simp, hB, all_stepN HA.out T0⟩, by simp [intOf]; omega⟩
    · obtain rfl : k = n := by omega
      have hki : ¬ ((k : Int) < (k : Int)) := by omega
      by_cases h100 : k ≤ 100
      · have h1 : (k : Int) ≤ 100 := by omega
        have h2 : decide ((k : Int) ≤ 100) = true := by simpa using h1
        obtain rfl : r = true := HRR.out.2 ⟨h100, HA.out⟩
        go_wp2
        go_ret
        exact ⟨hB, by first | rfl | (rw [h2])⟩
      · have h1 : ¬ ((k : Int) ≤ 100) := by omega
        have h2 : decide ((k : Int) ≤ 100) = false := by simpa using h1
        obtain rfl : r = false := Bool.eq_false_iff.2 fun h => h100 (HRR.out.1 h).1
        go_wp2
        go_ret
        exact ⟨hB, by first | rfl | (rw [h2])⟩
theorem l05Text_any (A : Option Addr) (n cap : Nat) (d : Nat → Int) (w : World) (hO : OrdOk n d) (hr : RdK .i64 w w.heap.size A n d) :
    Calls Tryd.prog 28 #[.slice A n cap] w fun e w' => e = .returned (.string (bS (nL d n))) ∧ Below w.heap.size w w' := by
  have HR := Lib.hid hr
  have HO := Lib.hid hO
  have hn6 : n ≤ 100 := hO.1
  clear hr hO
  go_enter Tryd.func28, Tryd.ntmps28
  go_wp2
  go_loopw [3, 4] (fun t3 t4 wr => ∃ (k : Nat), k ≤ n ∧ t4 = .int .i64 k ∧ t3 = .string (bS (nL d k)) ∧ Below w.heap.size w wr) (fun t3 t4 wr => n - (intOf t4).toNat)
  case atStart => exact ⟨0, by omega, rfl, rfl, Below.refl _ _⟩
  case round =>
    obtain ⟨k, hk, rfl, rfl, hB⟩ := hrel
    have hl := nL_len HO.out.bd k hk
    by_cases hlt : k < n
    · have hki : (k : Int) < (n : Int) := by omega
      obtain ⟨hd0, hd1⟩ := HO.out.2 k hlt
      obtain ⟨b, off, rfl, hbl, c0⟩ := (HR.out.below hB).atn hlt
      obtain ⟨D, hD⟩ := Int.eq_ofNat_of_zero_le hd0
      have hlen := itoa_len (d k)
      rw [hD] at c0
      have HD := Lib.hid (fun W => decimal_any D W (by omega))
      obtain ⟨xd, hxd⟩ : ∃ xd, xd = Lib.decDigits D := ⟨_, rfl⟩
      have hdd : Lib.itoa (d k) = xd := by rw [hD, itoa_pos, hxd]
      rw [← hxd] at HD
      obtain ⟨xt, hxt⟩ : ∃ xt, xt = nL d k := ⟨_, rfl⟩
      have HN : Hid (nL d (k + 1) = (xt ++ if k = 0 then [] else [32]) ++ xd) := Lib.hid (by rw [hxt, ← hdd]; rfl)
      have hlc : xd.length ≤ 2000 := by rw [← hdd]; omega
      have hlt2 : xt.length ≤ 200000 := by rw [hxt]; omega
      rw [← hxt]
      clear hD hxd hxt hl hd0 hd1 hdd hlen
      by_cases h0 : 0 < k
      · have hk0 : (0 : Int) < (k : Int) := by omega
        have g1 : ¬ (9223372036854775807 < (bS xt).size + 1) := by rw [bS_size]; omega
        obtain ⟨y0, hy0⟩ : ∃ y0, y0 = xt ++ [32] := ⟨_, rfl⟩
        have e1 : bS xt ++ ⟨#[32]⟩ = bS y0 := by rw [hy0]; exact bS_append xt [32]
        have hl0 : y0.length ≤ 200001 := by rw [hy0, List.length_append, List.length_singleton]; omega
        have HY0 := Lib.hid hy0
        clear hy0
        have g4 : ¬ (9223372036854775807 < (bS y0).size + (bS xd).size) := by rw [bS_size, bS_size]; omega
        obtain ⟨y3, hy3⟩ : ∃ y3, y3 = y0 ++ xd := ⟨_, rfl⟩
        have e4 : bS y0 ++ bS xd = bS y3 := by rw [hy3]; exact bS_append _ _
        have HF : Hid (y3 = nL d (k + 1)) := Lib.hid (by rw [HN.out, hy3, if_neg (by omega), HY0.out])
        clear hy3
        go_wp2_with fail
        refine (HD.out _).mono ?_
        rintro e w3 ⟨rfl, hb⟩
        replace hB := nxt hB hb
        clear hb
        go_wp2
        exact ⟨⟨k + 1, by omega, by first | go_num | simp, by rw [HF.out], hB⟩, by simp [intOf]; omega⟩
      · have hk0 : ¬ ((0 : Int) < (k : Int)) := by omega
        have g4 : ¬ (9223372036854775807 < (bS xt).size + (bS xd).size) := by rw [bS_size, bS_size]; omega
        obtain ⟨y3, hy3⟩ : ∃ y3, y3 = xt ++ xd := ⟨_, rfl⟩
        have e4 : bS xt ++ bS xd = bS y3 := by rw [hy3]; exact bS_append _ _
        have HF : Hid (y3 = nL d (k + 1)) := Lib.hid (by rw [HN.out, hy3, if_pos (by omega), List.append_nil])
        clear hy3
        go_wp2_with fail
        refine (HD.out _).mono ?_
        rintro e w3 ⟨rfl, hb⟩
        replace hB := nxt hB hb
        clear hb
        go_wp2
        exact ⟨⟨k + 1, by omega, by first | go_num | simp, by rw [HF.out], hB⟩, by simp [intOf]; omega⟩
    · obtain rfl : k = n := by omega
      have hki : ¬ ((k : Int) < (k : Int)) := by omega
      go_wp2
      go_ret
      exact ⟨rfl, hB⟩
/-- the answers of OrderText. -/
def OrdPost (n : Nat) (d : Nat → Int) (w : World) (e : Ending) (w' : World) : Prop :=
  Below w.heap.size w w' ∧ ((OrdOk n d ∧ e = .returned (.string (bS (nL d n)))) ∨ (¬ OrdOk n d ∧ e = .returned (.string (bS []))))
theorem specOrder_any (A : Option Addr) (n cap : Nat) (d : Nat → Int) (w : World) (hn : n ≤ 1048576) (hr : RdK .i64 w w.heap.size A n d) :
    Calls Tryd.prog 11 #[.slice A n cap] w (OrdPost n d w) := by
  obtain ⟨r, e⟩ := dec_ex (OrdOk n d)
  have H1 := Lib.hid (l05Numbers_any A n cap d r w hn hr e)
  have H2 := Lib.hid (fun W (hB : Below w.heap.size w W) (h : OrdOk n d) => l05Text_any A n cap d W h ((hr.below hB).mono hB.size))
  have E := Lib.hid e
  clear hr e
  go_enter Tryd.func11, Tryd.ntmps11
  go_wp2_with fail
  refine H1.out.mono ?_
  rintro e w1 ⟨hb, rfl⟩
  cases r with
  | false =>
    have N := Lib.hid (show ¬ OrdOk n d from fun h => by have := E.out.2 h; cases this)
    go_wp2
    go_ret
    exact ⟨hb, .inr ⟨N.out, rfl⟩⟩
  | true =>
    have Y := Lib.hid (E.out.1 rfl)
    go_wp2_with fail
    refine (H2.out _ hb Y.out).mono ?_
    rintro e w2 ⟨rfl, hb2⟩
    replace hb := nxt hb hb2
    clear hb2
    go_wp2
    go_ret
    exact ⟨hb, .inl ⟨Y.out, rfl⟩⟩
theorem implOrder_any (A : Option Addr) (n cap : Nat) (d : Nat → Int) (w : World) (hn : n ≤ 1048576) (hr : RdK .i64 w w.heap.size A n d) (hT : TabP w) :
    Calls Tryd.prog 13 #[.slice A n cap] w (OrdPost n d w) := by
  have HR := Lib.hid hr
  have HT := Lib.hid hT
  clear hr hT
  by_cases h100 : n ≤ 100
  · have h1 : ¬ ((100 : Int) < (n : Int)) := by omega
    go_enter Tryd.func13, Tryd.ntmps13
    go_wp2
    go_loopw [3, 5, 11] (fun t3 t5 t11 wr => ∃ (k : Nat) (v : Value), k ≤ n ∧ t11 = .int .i64 k ∧ t3 = v ∧ Below w.heap.size w wr ∧ OwnN wr w.heap.size v d k ∧ ∀ j, j < k → 0 ≤ d j ∧ d j ≤ 999) (fun t3 t5 t11 wr => n - (intOf t11).toNat)
    case atStart => exact ⟨0, .slice none 0 0, by omega, rfl, rfl, Below.refl _ _, World.ownsRow_nil _ _ _ _, fun j hj => by omega⟩
    case round =>
      obtain ⟨k, v, hk, rfl, rfl, hB, O, hall⟩ := hrel
      obtain ⟨v0, rfl⟩ : ∃ v0 : Value, v0 = u3 := ⟨_, rfl⟩
      have HA := Lib.hid hall
      clear hall
      by_cases hlt : k < n
      · have hki : (k : Int) < (n : Int) := by omega
        obtain ⟨b, off, rfl, hbl, c0⟩ := (HR.out.below hB).atn hlt
        obtain ⟨x, hx⟩ : ∃ x, x = d k := ⟨_, rfl⟩
        rw [← hx] at c0
        have HX := Lib.hid hx
        clear hx
        by_cases hneg : x < 0
        · have N := Lib.hid (show ¬ OrdOk n d from fun h => by have := h.2 k hlt; rw [← HX.out] at this; omega)
          go_wp2
          go_ret
          exact ⟨hB, .inr ⟨N.out, rfl⟩⟩
        · by_cases hbig : 999 < x
          · have N := Lib.hid (show ¬ OrdOk n d from fun h => by have := h.2 k hlt; rw [← HX.out] at this; omega)
            go_wp2
            go_ret
            exact ⟨hB, .inr ⟨N.out, rfl⟩⟩
          · have HF := Lib.hid (fun W (hT : TabP W) => formatInt_any x W (by omega) hT)
            have T1 := Lib.hid (show 0 ≤ d k ∧ d k ≤ 999 by rw [← HX.out]; omega)
            obtain ⟨s, hs⟩ : ∃ s, s = Lib.itoa x := ⟨_, rfl⟩
            rw [← hs] at HF
            have HS := Lib.hid (show Lib.itoa (d k) = s by rw [← HX.out, hs])
            clear hs
            go_wp2_with fail
            refine (HF.out _ (HT.out.below hB)).mono ?_
            rintro e w3 ⟨rfl, hb⟩
            replace hB := nxt hB hb
            replace O := OwnN.below O hb
            clear hb c0 HF
            obtain ⟨i0, hi, hz0, hz1, hz2⟩ := info_parts infoStr
            unfold OwnN at O
            go_wp2_with (at_builtin; refine wpList_append_own _ rfl _ _ 52 rfl w.heap.size 9 i0 (.string ⟨#[]⟩) 1 16 Tryd.underlying52 hi hz0 hz1 hz2 rfl (by decide) _ _ _ rfl (World.ownsRow.alloc O _) ⟨w3.heap.size, 0, none⟩ 1 1 [.string (bS s)] rfl rfl (ncells w3 #[.string (bS s)] 9) (str_one _) (by unfold maxLen; omega) (by have := hB.size; omega) (by simp; have := hB.size; omega) ?_; intro v' w4 own' hgr _)
            have B1 : Below w.heap.size w w4 := (al hB _).grown hgr (al hB _).size (fun q e => by have := (World.ownsRow.lt O q e).1; omega)
            have O1 : OwnN w4 w.heap.size v' d (k + 1) := by unfold OwnN; rw [nC_succ, HS.out]; exact own'
            exact ⟨⟨k + 1, v', by omega, by first | go_num | simp, rfl, B1, O1, all_stepN HA.out T1.out⟩, by simp [intOf]; omega⟩
      · obtain rfl : k = n := by omega
        have hki : ¬ ((k : Int) < (k : Int)) := by omega
        obtain ⟨Aw, capw, hvw⟩ := own_shapeT O
        subst hvw
        have HJ := Lib.hid (join_words k d w.heap.size Aw capw wr (by omega) (fun j hj => by have := HA.out j hj; omega) O)
        clear O
        go_wp2_with fail
        refine HJ.out.mono ?_
        rintro e w3 ⟨rfl, hb⟩
        replace hB := nxt hB hb
        clear hb
        go_wp2
        go_ret
        exact ⟨hB, .inl ⟨⟨h100, HA.out⟩, rfl⟩⟩
  · have h1 : (100 : Int) < (n : Int) := by omega
    have N := Lib.hid (show ¬ OrdOk n d from fun h => h100 h.1)
    go_enter Tryd.func13, Tryd.ntmps13
    go_wp2
    go_ret
    exact ⟨Below.refl _ _, .inr ⟨N.out, rfl⟩⟩
end Go.Proofs.YtneijlogidhgiaaDoor
