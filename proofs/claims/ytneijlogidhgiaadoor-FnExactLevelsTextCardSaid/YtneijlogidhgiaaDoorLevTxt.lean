/-
  LevelsText on both sides. Conditions stand at each; the program's side asks that the library's table of powers of ten is as its text lays it.
-/
import Derived.Test.YtneijlogidhgiaaDoorRows
import Derived.Test.YtneijlogidhgiaaDoorNTxt
import Derived.Test.YtneijlogidhgiaaDoorLev
namespace Go.Proofs.YtneijlogidhgiaaDoor
open Go Go.ChangeShapes Go.WideShapes Go.ChangeAt Go.RowKit
set_option linter.unusedVariables false
set_option linter.unusedSimpArgs false
set_option maxRecDepth 100000
set_option maxHeartbeats 8000000
theorem itoa_neg {x : Int} (h : x < 0) : Lib.itoa x = [45] ++ Lib.decDigits x.natAbs := by unfold Lib.itoa; rw [if_pos h]; rfl
theorem itoa_nn {x : Int} (h : ¬ x < 0) : Lib.itoa x = Lib.decDigits x.toNat := by unfold Lib.itoa; rw [if_neg h]
theorem l06Text_any (A : Option Addr) (n cap : Nat) (d : Nat → Int) (w : World) (hn : n ≤ 1048576) (hO : ∀ j, j < n → -100 ≤ d j ∧ d j ≤ 100) (hr : RdK .i64 w w.heap.size A n d) :
    Calls Tryd.prog 32 #[.slice A n cap] w fun e w' => e = .returned (.string (bS (nL d n))) ∧ Below w.heap.size w w' := by
  have HR := Lib.hid hr
  have HO := Lib.hid hO
  clear hr hO
  go_enter Tryd.func32, Tryd.ntmps32
  go_wp2
  go_loopw [3, 4, 5] (fun t3 t4 t5 wr => ∃ (k : Nat), k ≤ n ∧ t4 = .int .i64 k ∧ t3 = .string (bS (nL d k)) ∧ Below w.heap.size w wr) (fun t3 t4 t5 wr => n - (intOf t4).toNat)
  case atStart => exact ⟨0, by omega, rfl, rfl, Below.refl _ _⟩
  case round =>
    obtain ⟨k, hk, rfl, rfl, hB⟩ := hrel
    have hl := nL_len (d := d) (n := n) (fun j hj => by have := HO.out j hj; omega) k hk
    by_cases hlt : k < n
    · have hki : (k : Int) < (n : Int) := by omega
      obtain ⟨hd0, hd1⟩ := HO.out k hlt
      obtain ⟨b, off, rfl, hbl, c0⟩ := (HR.out.below hB).atn hlt
      have hlen := itoa_len (d k)
      obtain ⟨x, hx⟩ : ∃ x, x = d k := ⟨_, rfl⟩
      rw [← hx] at c0 hd0 hd1 hlen
      obtain ⟨xt, hxt⟩ : ∃ xt, xt = nL d k := ⟨_, rfl⟩
      have HN : Hid (nL d (k + 1) = (xt ++ if k = 0 then [] else [32]) ++ Lib.itoa x) := Lib.hid (by rw [hxt, hx]; rfl)
      have hlt2 : xt.length ≤ 3000000000 := by rw [hxt]; omega
      have hlx : (Lib.itoa x).length ≤ 2000 := by omega
      rw [← hxt]
      clear hxt hl hx
      by_cases hneg : x < 0
      · obtain ⟨D, hD⟩ : ∃ D : Nat, -x = (D : Int) := ⟨x.natAbs, by omega⟩
        have HD := Lib.hid (fun W => decimal_any D W (by omega))
        obtain ⟨xd, hxd⟩ : ∃ xd, xd = Lib.decDigits D := ⟨_, rfl⟩
        rw [← hxd] at HD
        have HI := Lib.hid (show Lib.itoa x = [45] ++ xd by rw [itoa_neg hneg, hxd, show x.natAbs = D by omega])
        have hwn : IntKind.i64.wrap (-x) = (D : Int) := by rw [IntWalk.i64_in _ (by omega)]; exact hD
        have hwn2 : IntKind.i64.wrap (D : Int) = (D : Int) := IntWalk.i64_in _ (by omega)
        have hlc : xd.length ≤ 2000 := by have := HI.out; rw [this] at hlx; simp only [List.length_append, List.length_singleton] at hlx; omega
        clear hxd hlx hlen
        by_cases h0 : 0 < k
        · have hk0 : (0 : Int) < (k : Int) := by omega
          have g1 : ¬ (9223372036854775807 < (bS xt).size + 1) := by rw [bS_size]; omega
          obtain ⟨y0, hy0⟩ : ∃ y0, y0 = xt ++ [32] := ⟨_, rfl⟩
          have e1 : bS xt ++ ⟨#[32]⟩ = bS y0 := by rw [hy0]; exact bS_append xt [32]
          have hl0 : y0.length ≤ 3000000001 := by rw [hy0, List.length_append, List.length_singleton]; omega
          have HY0 := Lib.hid hy0
          clear hy0
          have g2 : ¬ (9223372036854775807 < (bS y0).size + 1) := by rw [bS_size]; omega
          obtain ⟨y1, hy1⟩ : ∃ y1, y1 = y0 ++ [45] := ⟨_, rfl⟩
          have e2 : bS y0 ++ ⟨#[45]⟩ = bS y1 := by rw [hy1]; exact bS_append y0 [45]
          have hl1 : y1.length ≤ 3000000002 := by rw [hy1, List.length_append, List.length_singleton]; omega
          have HY1 := Lib.hid hy1
          clear hy1
          have g4 : ¬ (9223372036854775807 < (bS y1).size + (bS xd).size) := by rw [bS_size, bS_size]; omega
          obtain ⟨y3, hy3⟩ : ∃ y3, y3 = y1 ++ xd := ⟨_, rfl⟩
          have e4 : bS y1 ++ bS xd = bS y3 := by rw [hy3]; exact bS_append _ _
          have HF : Hid (y3 = nL d (k + 1)) := Lib.hid (by rw [HN.out, hy3, HI.out, HY1.out, if_neg (by omega), HY0.out]; simp)
          clear hy3
          go_wp2_with fail
          refine (HD.out _).mono ?_
          rintro e w3 ⟨rfl, hb⟩
          replace hB := nxt hB hb
          clear hb
          go_wp2
          exact ⟨⟨k + 1, by omega, by first | go_num | simp, by rw [HF.out], hB⟩, by simp [intOf]; omega⟩
        · have hk0 : ¬ ((0 : Int) < (k : Int)) := by omega
          have g2 : ¬ (9223372036854775807 < (bS xt).size + 1) := by rw [bS_size]; omega
          obtain ⟨y1, hy1⟩ : ∃ y1, y1 = xt ++ [45] := ⟨_, rfl⟩
          have e2 : bS xt ++ ⟨#[45]⟩ = bS y1 := by rw [hy1]; exact bS_append xt [45]
          have hl1 : y1.length ≤ 3000000002 := by rw [hy1, List.length_append, List.length_singleton]; omega
          have HY1 := Lib.hid hy1
          clear hy1
          have g4 : ¬ (9223372036854775807 < (bS y1).size + (bS xd).size) := by rw [bS_size, bS_size]; omega
          obtain ⟨y3, hy3⟩ : ∃ y3, y3 = y1 ++ xd := ⟨_, rfl⟩
          have e4 : bS y1 ++ bS xd = bS y3 := by rw [hy3]; exact bS_append _ _
          have HF : Hid (y3 = nL d (k + 1)) := Lib.hid (by rw [HN.out, hy3, HI.out, HY1.out, if_pos (by omega), List.append_nil]; simp)
          clear hy3
          go_wp2_with fail
          refine (HD.out _).mono ?_
          rintro e w3 ⟨rfl, hb⟩
          replace hB := nxt hB hb
          clear hb
          go_wp2
          exact ⟨⟨k + 1, by omega, by first | go_num | simp, by rw [HF.out], hB⟩, by simp [intOf]; omega⟩
      · obtain ⟨D, rfl⟩ := Int.eq_ofNat_of_zero_le (show 0 ≤ x by omega)
        have HD := Lib.hid (fun W => decimal_any D W (by omega))
        obtain ⟨xd, hxd⟩ : ∃ xd, xd = Lib.decDigits D := ⟨_, rfl⟩
        rw [← hxd] at HD
        have HI := Lib.hid (show Lib.itoa (D : Int) = xd by rw [itoa_pos, hxd])
        have hlc : xd.length ≤ 2000 := by rw [← HI.out]; exact hlx
        clear hxd hlx hlen
        by_cases h0 : 0 < k
        · have hk0 : (0 : Int) < (k : Int) := by omega
          have g1 : ¬ (9223372036854775807 < (bS xt).size + 1) := by rw [bS_size]; omega
          obtain ⟨y0, hy0⟩ : ∃ y0, y0 = xt ++ [32] := ⟨_, rfl⟩
          have e1 : bS xt ++ ⟨#[32]⟩ = bS y0 := by rw [hy0]; exact bS_append xt [32]
          have hl0 : y0.length ≤ 3000000001 := by rw [hy0, List.length_append, List.length_singleton]; omega
          have HY0 := Lib.hid hy0
          clear hy0
          have g4 : ¬ (9223372036854775807 < (bS y0).size + (bS xd).size) := by rw [bS_size, bS_size]; omega
          obtain ⟨y3, hy3⟩ : ∃ y3, y3 = y0 ++ xd := ⟨_, rfl⟩
          have e4 : bS y0 ++ bS xd = bS y3 := by rw [hy3]; exact bS_append _ _
          have HF : Hid (y3 = nL d (k + 1)) := Lib.hid (by rw [HN.out, hy3, HI.out, if_neg (by omega), HY0.out])
          clear hy3
          go_wp2_with fail
          refine (HD.out _).mono ?_
          rintro e w3 ⟨rfl, hb⟩
          replace hB := nxt hB hb
          clear hb
          go_wp2
          exact ⟨⟨k + 1, by omega, by first | go_num | simp, by rw [HF.out], hB⟩, by simp [intOf]; omega⟩
        · have hk0 : ¬ ((0 : Int) < (k : Int)) := by omega
          have g4 : ¬ (9223372036854775807 < (bS xt).size + (bS xd).size) := by rw [bS_size, bS_size]; omega
          obtain ⟨y3, hy3⟩ : ∃ y3, y3 = xt ++ xd := ⟨_, rfl⟩
          have e4 : bS xt ++ bS xd = bS y3 := by rw [hy3]; exact bS_append _ _
          have HF : Hid (y3 = nL d (k + 1)) := Lib.hid (by rw [HN.out, hy3, HI.out, if_pos (by omega), List.append_nil])
          clear hy3
          go_wp2_with fail
          refine (HD.out _).mono ?_
          rintro e w3 ⟨rfl, hb⟩
          replace hB := nxt hB hb
          clear hb
          go_wp2
          exact ⟨⟨k + 1, by omega, by first | go_num | simp, by rw [HF.out], hB⟩, by simp [intOf]; omega⟩
    · obtain rfl : k = n := by omega
      have hki : ¬ ((k : Int) < (k : Int)) := by omega
      go_wp2
      go_ret
      exact ⟨rfl, hB⟩
/-- the answers of LevelsText. -/
def LevPost (X Y : Int) (n : Nat) (c : Nat → Int) (m : Nat) (d : Nat → Int) (w : World) (e : Ending) (w' : World) : Prop :=
  Below w.heap.size w w' ∧ ((NumsOk X Y n c m d (-100) 100 ∧ e = .returned (.string (bS (nL d m)))) ∨ (¬ NumsOk X Y n c m d (-100) 100 ∧ e = .returned (.string (bS []))))
theorem dec_exL (P : Prop) : ∃ r : Bool, r = true ↔ P := by
  by_cases h : P
  · exact ⟨true, by simp [h]⟩
  · exact ⟨false, by simp [h]⟩
theorem specLevTxt_any (X Y : Int) (g n : Nat) (c : Nat → Int) (A : Option Addr) (m cap : Nat) (d : Nat → Int) (w : World) (hX : -128 ≤ X ∧ X ≤ 127) (hY : -128 ≤ Y ∧ Y ≤ 127) (hc : ∀ j, -128 ≤ c j ∧ c j ≤ 127) (hm : n ≤ 1048576) (hmm : m ≤ 1048576)
    (hrow : w.rowIs g 77 (4 * n) (fun j => .int .i8 (c j))) (hr : RdK .i64 w w.heap.size A m d) :
    Calls Tryd.prog 16 #[.agg #[.int .i8 X, .int .i8 Y, .slice (some ⟨g, 0, none⟩) n n], .slice A m cap] w (LevPost X Y n c m d w) := by
  obtain ⟨r, e⟩ := dec_exL (NumsOk X Y n c m d (-100) 100)
  have HQ := Sq.new w X Y (.slice (some ⟨g, 0, none⟩) n n) 42
  have B := al (Below.refl w.heap.size w) (.cells #[.int .i8 X, .int .i8 Y, .slice (some ⟨g, 0, none⟩) n n] 42)
  have H1 := Lib.hid (specLevels_any X Y w.heap.size g n c A m cap d r _ hX hY hc hm hmm HQ (hrow.of_block (B.block _ hrow.lt)) ((hr.below B).mono B.size) e)
  have H2 := Lib.hid (fun W (hB : Below w.heap.size w W) (h : NumsOk X Y n c m d (-100) 100) => l06Text_any A m cap d W hmm h.2.2 ((hr.below hB).mono hB.size))
  have E := Lib.hid e
  clear hr hc hrow HQ e
  go_enter Tryd.func16, Tryd.ntmps16
  go_wp2_with fail
  refine H1.out.mono ?_
  rintro e w1 ⟨hb, rfl⟩
  replace B := nxt B hb
  clear hb H1
  cases r with
  | false =>
    have N := Lib.hid (show ¬ NumsOk X Y n c m d (-100) 100 from fun h => by have := E.out.2 h; cases this)
    go_wp2
    go_ret
    exact ⟨B, .inr ⟨N.out, rfl⟩⟩
  | true =>
    have Y' := Lib.hid (E.out.1 rfl)
    go_wp2_with fail
    refine (H2.out _ B Y'.out).mono ?_
    rintro e w2 ⟨rfl, hb2⟩
    replace B := nxt B hb2
    clear hb2
    go_wp2
    go_ret
    exact ⟨B, .inl ⟨Y'.out, rfl⟩⟩
theorem implLevTxt_any (X Y : Int) (g n : Nat) (c : Nat → Int) (A : Option Addr) (m cap : Nat) (d : Nat → Int) (w : World) (hX : -128 ≤ X ∧ X ≤ 127) (hY : -128 ≤ Y ∧ Y ≤ 127) (hc : ∀ j, -128 ≤ c j ∧ c j ≤ 127) (hm : n ≤ 1048576) (hmm : m ≤ 1048576)
    (hrow : w.rowIs g 77 (4 * n) (fun j => .int .i8 (c j))) (hr : RdK .i64 w w.heap.size A m d) (hT : TabP w) :
    Calls Tryd.prog 18 #[.agg #[.int .i8 X, .int .i8 Y, .slice (some ⟨g, 0, none⟩) n n], .slice A m cap] w (LevPost X Y n c m d w) := by
  obtain ⟨r, e⟩ := dec_exL (NumsOk X Y n c m d (-100) 100)
  have B := al (Below.refl w.heap.size w) (.cells #[.int .i8 X, .int .i8 Y, .slice (some ⟨g, 0, none⟩) n n] 42)
  have H1 := Lib.hid (implLevels_any X Y g n c A m cap d r _ hX hY hc hm hmm (hrow.of_block (B.block _ hrow.lt)) ((hr.below B).mono B.size) e)
  have HR := Lib.hid hr
  have HT := Lib.hid hT
  have E := Lib.hid e
  clear hr hc hrow e hT
  go_enter Tryd.func18, Tryd.ntmps18
  go_wp2_with fail
  refine H1.out.mono ?_
  rintro e w1 ⟨hb, rfl⟩
  replace B := nxt B hb
  clear hb H1
  cases r with
  | false =>
    have N := Lib.hid (show ¬ NumsOk X Y n c m d (-100) 100 from fun h => by have := E.out.2 h; cases this)
    go_wp2
    go_ret
    exact ⟨B, .inr ⟨N.out, rfl⟩⟩
  | true =>
    have HO := Lib.hid (E.out.1 rfl)
    have HD := Lib.hid (show ∀ j, j < m → -100 ≤ d j ∧ d j ≤ 100 from HO.out.2.2)
    go_wp2
    go_loopw [5, 7, 14] (fun t5 t7 t14 wr => ∃ (k : Nat) (v : Value), k ≤ m ∧ t14 = .int .i64 k ∧ t5 = v ∧ Below w.heap.size w wr ∧ OwnN wr w.heap.size v d k) (fun t5 t7 t14 wr => m - (intOf t14).toNat)
    case atStart => exact ⟨0, .slice none 0 0, by omega, rfl, rfl, B, World.ownsRow_nil _ _ _ _⟩
    case round =>
      clear B
      obtain ⟨k, v, hk, rfl, rfl, hB, O⟩ := hrel
      obtain ⟨v0, rfl⟩ : ∃ v0 : Value, v0 = u5 := ⟨_, rfl⟩
      by_cases hlt : k < m
      · have hki : (k : Int) < (m : Int) := by omega
        obtain ⟨b, off, rfl, hbl, c0⟩ := (HR.out.below hB).atn hlt
        obtain ⟨x, hx⟩ : ∃ x, x = d k := ⟨_, rfl⟩
        have hxb := HD.out k hlt
        rw [← hx] at c0 hxb
        have HF := Lib.hid (fun W (hT : TabP W) => formatInt_any x W (by omega) hT)
        obtain ⟨s, hs⟩ : ∃ s, s = Lib.itoa x := ⟨_, rfl⟩
        rw [← hs] at HF
        have HS := Lib.hid (show Lib.itoa (d k) = s by rw [← hx, hs])
        clear hs hx hxb
        go_wp2_with fail
        refine (HF.out _ (HT.out.below hB)).mono ?_
        rintro e w3 ⟨rfl, hb⟩
        replace hB := nxt hB hb
        replace O := OwnN.below O hb
        clear hb c0 HF
        obtain ⟨i0, hi, hz0, hz1, hz2⟩ := info_parts infoStr
        unfold OwnN at O
        go_wp2_with (at_builtin; refine wpList_append_own _ rfl _ _ 52 rfl w.heap.size 9 i0 (.string ⟨#[]⟩) 1 16 Tryd.underlying52 hi hz0 hz1 hz2 rfl (by decide) _ _ _ rfl (World.ownsRow.alloc O _) ⟨w3.heap.size, 0, none⟩ 1 1 [.string (bS s)] rfl rfl (ncells w3 #[.string (bS s)] 9) (str_one _) (by unfold maxLen; omega) (by have := hB.size; omega) (by simp; have := hB.size; omega) ?_; intro v' w4 own' hgr _)
        have B1 : Below w.heap.size w w4 := (al hB _).grown hgr (al hB _).size (fun q e => by have := (World.ownsRow.lt O q e).1; omega)
        have O1 : OwnN w4 w.heap.size v' d (k + 1) := by unfold OwnN; rw [nC_succ, HS.out]; exact own'
        exact ⟨⟨k + 1, v', by omega, by first | go_num | simp, rfl, B1, O1⟩, by simp [intOf]; omega⟩
      · obtain rfl : k = m := by omega
        have hki : ¬ ((k : Int) < (k : Int)) := by omega
        obtain ⟨Aw, capw, hvw⟩ := own_shapeT O
        subst hvw
        have HJ := Lib.hid (join_words k d w.heap.size Aw capw wr (by omega) (fun j hj => by have := HD.out j hj; omega) O)
        clear O
        go_wp2_with fail
        refine HJ.out.mono ?_
        rintro e w3 ⟨rfl, hb⟩
        replace hB := nxt hB hb
        clear hb
        go_wp2
        go_ret
        exact ⟨hB, .inl ⟨HO.out, rfl⟩⟩
end Go.Proofs.YtneijlogidhgiaaDoor
