/-
  Both sides of LiftedBy answer the same. Conditions stand at each.
-/
import Derived.Test.YtkggimalkjjnoaaRows
import Derived.Test.YtkggimalkjjnoaaPipeC
import Derived.Test.YtkggimalkjjnoaaCanPutC
import Derived.Test.YtkggimalkjjnoaaIv
namespace Go.Proofs.Ytkggimalkjjnoaa
open Go Go.ChangeShapes Go.WideShapes Go.ChangeAt Go.RowKit Go.Shelf
set_option linter.unusedVariables false
set_option linter.unusedSimpArgs false
set_option maxRecDepth 100000
set_option maxHeartbeats 4000000
theorem gridN_bd (c : Nat → Int) (p : Nat) : ∀ n, 0 ≤ gridN c n p ∧ gridN c n p ≤ (n : Int)
  | 0 => by simp [gridN]
  | n + 1 => by
    have := gridN_bd c p n
    unfold gridN
    split
    · omega
    · omega
open Classical in
theorem lfL_yes {G c : Nat → Int} {k x y : Nat} {v : Int} (hx : c (2 * k) = (x : Int)) (hy : c (2 * k + 1) = (y : Int)) (hv : v = G (y * 12 + x) - 1) (h0 : 0 ≤ v) (hi : ¬ InL (lfL G c k).length (fun j => (lfL G c k).getD j 0) v) : lfL G c (k + 1) = lfL G c k ++ [v] := by
  show (if _ then _ else _) = _
  rw [hx, hy, Int.toNat_natCast, Int.toNat_natCast, ← hv, if_pos ⟨h0, hi⟩]
open Classical in
theorem lfL_no {G c : Nat → Int} {k x y : Nat} {v : Int} (hx : c (2 * k) = (x : Int)) (hy : c (2 * k + 1) = (y : Int)) (hv : v = G (y * 12 + x) - 1) (h : ¬ (0 ≤ v ∧ ¬ InL (lfL G c k).length (fun j => (lfL G c k).getD j 0) v)) : lfL G c (k + 1) = lfL G c k := by
  show (if _ then _ else _) = _
  rw [hx, hy, Int.toNat_natCast, Int.toNat_natCast, ← hv, if_neg h]
namespace liftedBy
def LbPost (X Y : Int) (m : Nat) (d : Nat → Int) (n : Nat) (c : Nat → Int) (w : World) (e : Ending) (w' : World) : Prop :=
  Below w.heap.size w w' ∧ ((¬ Valid X Y m d ∧ ∃ v, e = .returned (.tuple #[v, .int .i64 1]) ∧ OwnI w' w.heap.size v []) ∨
    (Valid X Y m d ∧ ∃ r, r ≠ 0 ∧ WyCode X Y n c r ∧ ∃ v, e = .returned (.tuple #[v, .int .i64 r]) ∧ OwnI w' w.heap.size v []) ∨
    (Valid X Y m d ∧ WyCode X Y n c 0 ∧ ∃ v, e = .returned (.tuple #[v, .int .i64 0]) ∧ OwnI w' w.heap.size v (lfL (gridN d m) c n)))
theorem ok_of {X Y : Int} {n : Nat} {c : Nat → Int} (h : WyCode X Y n c 0) : n ≤ 100 ∧ CellsIn X Y n c ∧ Joined n c := by
  rcases h with ⟨_, e⟩ | ⟨_, _, e⟩ | ⟨_, _, _, e⟩ | ⟨a, b, d, _⟩
  · exact absurd e (by decide)
  · exact absurd e (by decide)
  · exact absurd e (by decide)
  · exact ⟨a, b, d⟩

theorem impl_any (X Y : Int) (g m : Nat) (d : Nat → Int) (A : Option Addr) (n cap : Nat) (c : Nat → Int) (w : World) (hX : -128 ≤ X ∧ X ≤ 127) (hY : -128 ≤ Y ∧ Y ≤ 127) (hd : ∀ j, -128 ≤ d j ∧ d j ≤ 127) (hm : m ≤ 1048576) (hn : n ≤ 1048576) (hc : ∀ j, -128 ≤ c j ∧ c j ≤ 127) (hrow : w.rowIs g 55 (4 * m) (fun j => .int .i8 (d j))) (hr : RdK .i8 w w.heap.size A (2 * n) c) :
    Calls Try.prog 30 #[.agg #[.int .i8 X, .int .i8 Y, .slice (some ⟨g, 0, none⟩) m m], .slice A n cap] w (LbPost X Y m d n c w) := by
  have HR := Lib.hid hr
  have HC := Lib.hid hc
  have HD := Lib.hid hd
  obtain ⟨i0, hi, hz0, hz1, hz2⟩ := info_parts infoI64
  clear hr hc hd
  have HQ := Sq.new w X Y (.slice (some ⟨g, 0, none⟩) m m) 34
  have B := al (Below.refl w.heap.size w) (.cells #[.int .i8 X, .int .i8 Y, .slice (some ⟨g, 0, none⟩) m m] 34)
  have R := hrow.alloc (.cells #[.int .i8 X, .int .i8 Y, .slice (some ⟨g, 0, none⟩) m m] 34)
  go_enter Try.func30, Try.ntmps30
  go_upto_region 1 with fail
  obtain ⟨W0, hW0⟩ : ∃ W0 : World, W0 = (w.alloc (.cells #[.int .i8 X, .int .i8 Y, .slice (some ⟨g, 0, none⟩) m m] 34)) := ⟨_, rfl⟩
  rw [← hW0] at HQ B R ⊢
  clear hW0
  obtain ⟨lq, pq, qq, rq⟩ := id HQ
  go_wp2_with fail
  refine (implValid_any X Y g m d _ hX hY HD.out hm R).mono ?_
  rintro e w1 ⟨hb, ⟨hv, rfl⟩ | ⟨hv, rfl⟩⟩
  case inr =>
    replace B := nxt B hb
    have HV := Lib.hid hv
    clear lq pq qq rq hb hv
    go_wp2_with fail
    exact bodyPost_ret (results_tmp2 Try.results30 _ _ _) rfl ⟨B, .inl ⟨HV.out, _, rfl, OwnI.nil _ _⟩⟩
  have HV := Lib.hid hv
  have hX12 : 1 ≤ X ∧ X ≤ 12 := ⟨hv.1, hv.2.1⟩
  have hY12 : 1 ≤ Y ∧ Y ≤ 12 := ⟨hv.2.2.1, hv.2.2.2.1⟩
  replace HQ := HQ.below hb
  replace R := rowNext0 R hb
  replace B := nxt B hb
  clear lq pq qq rq hb hv
  obtain ⟨lq, pq, qq, rq⟩ := id HQ
  go_wp2_with fail
  refine (code_any A n cap c (.slice (some ⟨g, 0, none⟩) m m) X Y _ hn hX12 hY12 HC.out ((HR.out.below B).mono B.size)).mono ?_
  rintro e w2 ⟨hb, r, hw, rfl⟩
  replace HQ := HQ.below hb
  replace R := rowNext0 R hb
  replace B := nxt B hb
  clear lq pq qq rq hb
  by_cases h0 : r = 0
  case neg =>
    have d0 : (r != 0) = true := by simpa using h0
    have HW := Lib.hid hw
    have H0 := Lib.hid h0
    clear hw h0
    go_wp2_with fail
    exact bodyPost_ret (results_tmp2 Try.results30 _ _ _) rfl ⟨B, .inr (.inl ⟨HV.out, r, H0.out, HW.out, _, rfl, OwnI.nil _ _⟩)⟩
  subst h0
  have HW := Lib.hid hw
  obtain ⟨h100, hin, _⟩ := ok_of hw
  have HIN := Lib.hid hin
  clear hw hin
  obtain ⟨lq, pq, qq, rq⟩ := id HQ
  go_wp2_with fail
  refine (gridOf_any X Y g m d _ HD.out HV.out R).mono ?_
  rintro e w3 ⟨hb, cs, rfl, hsz, hone, hcell⟩
  replace HQ := HQ.below hb
  replace B := nxt B hb
  clear hb lq pq qq rq R
  have hG : (w3.alloc (.cells Try.zeroCells129 129)).heap[w3.heap.size]? = some (.cells Try.zeroCells129 129 (0, 0)) := heap_alloc_new w3 _
  have B4 := below_setRow (al B (.cells Try.zeroCells129 129)) B.size cs
  have R4 : ((w3.alloc (.cells Try.zeroCells129 129)).setRow w3.heap.size cs).rowIs w3.heap.size 129 144 (fun p => .int .i8 (gridN d m p)) := ⟨cs, setRow_heap _ _ _ _ _ _ hG, hsz, fun p hp => by show cs[p]? = some (Value.int IntKind.i8 (gridN d m p)); rw [hcell p hp]⟩
  obtain ⟨W4, hW4⟩ : ∃ W4 : World, W4 = ((w3.alloc (.cells Try.zeroCells129 129)).setRow w3.heap.size cs) := ⟨_, rfl⟩
  go_wp2_with (first
    | (refine wpList_store_row rfl 129 (.tmp 7) (.tmp 22) rfl w3.heap.size cs rfl rfl 129 Try.zeroCells129 (heap_alloc_new w3 _) (by rw [infoGrid, hsz]) (by rw [zi_size, hsz]) hone ?_
       rw [← hW4] at B4 R4 ⊢
       clear hW4 hG HQ B hcell hone hsz))
  have hm60 : m ≤ 60 := by have := HV.out; exact this.2.2.2.2.1
  have hGb := fun p => gridN_bd d p m
  obtain ⟨G, hGe⟩ : ∃ G, G = gridN d m := ⟨_, rfl⟩
  rw [← hGe] at R4
  have HGB : Hid (∀ p, 0 ≤ G p ∧ G p ≤ 60) := Lib.hid (by rw [hGe]; intro p; have := hGb p; omega)
  have HGE := Lib.hid hGe
  obtain ⟨gb, hgb⟩ : ∃ gb, gb = w3.heap.size := ⟨_, rfl⟩
  rw [← hgb] at R4 ⊢
  clear hGe hgb hGb
  go_loopw [8, 10, 11, 25] (fun t8 t10 t11 t25 wr => ∃ k : Nat, k ≤ n ∧ t25 = .int .i64 k ∧ Below w.heap.size w wr ∧ wr.rowIs gb 129 144 (fun p => .int .i8 (G p)) ∧ OwnI wr W4.heap.size t8 (lfL G c k) ∧ W4.heap.size ≤ wr.heap.size) (fun t8 t10 t11 t25 wr => n - (intOf t25).toNat)
  case atStart => exact ⟨0, by omega, rfl, B4, R4, OwnI.nil _ _, Nat.le_refl _⟩
  case round =>
    obtain ⟨W5, hW5⟩ : ∃ W5 : World, W5 = W4 := ⟨_, rfl⟩
    have hgl : gb < W4.heap.size := R4.lt
    have HB4 := Lib.hid B4.size
    clear B4 R4 hW5
    obtain ⟨k, hk, rfl, B, R, O, hwg⟩ := hrel
    obtain ⟨v0, rfl⟩ : ∃ v0 : Value, v0 = u8 := ⟨_, rfl⟩
    have hO := Lib.hid O
    clear O
    by_cases hlt : k < n
    · have hki : (k : Int) < (n : Int) := by omega
      obtain ⟨b, off, rfl, hbl, c0, c1⟩ := rdCell (HR.out.below B) hlt
      have hbs : b < wr.heap.size := Nat.lt_of_lt_of_le hbl B.size
      obtain ⟨k1, k2, k3, k4⟩ := HIN.out k hlt
      obtain ⟨x, hx⟩ := Int.eq_ofNat_of_zero_le k1
      obtain ⟨y, hy⟩ := Int.eq_ofNat_of_zero_le k2
      have hx12 : x < 12 := by omega
      have hy12 : y < 12 := by omega
      rw [hx] at c0
      rw [hy] at c1
      have hgb := HGB.out (y * 12 + x)
      have hlen := lfL_length G c k
      obtain ⟨z, hz⟩ : ∃ z, z = G (y * 12 + x) := ⟨_, rfl⟩
      rw [← hz] at hgb
      have hv : z - 1 = G (y * 12 + x) - 1 := by rw [hz]
      have e1 : IntKind.i64.wrap z = z := IntWalk.i64_in _ (by omega)
      have e2 : IntKind.i64.wrap (z - 1) = z - 1 := IntWalk.i64_in _ (by omega)
      have LY := Lib.hid (lfL_yes (G := G) (c := c) (k := k) hx hy hv)
      have LN := Lib.hid (lfL_no (G := G) (c := c) (k := k) hx hy hv)
      have hgb1 := hgb.1
      have hgb2 := hgb.2
      have HZ := Lib.hid hz
      clear k1 k2 k3 k4 hx hy hv hz hgb
      have R1 := R.alloc (.cells #[.int .i8 (x : Int), .int .i8 (y : Int)] 81)
      have B1 := al B (.cells #[.int .i8 (x : Int), .int .i8 (y : Int)] 81)
      have O1 := hO.out.alloc (.cells #[.int .i8 (x : Int), .int .i8 (y : Int)] 81)
      have hO1 := Lib.hid O1
      clear O1
      go_wp2_with fail
      obtain ⟨W6, hW6⟩ : ∃ W6 : World, W6 = (wr.alloc (.cells #[.int .i8 (x : Int), .int .i8 (y : Int)] 81)) := ⟨_, rfl⟩
      have hwg6 : W4.heap.size ≤ W6.heap.size := by rw [hW6]; simp; omega
      rw [← hW6] at R1 B1 hO1 ⊢
      clear hW6 hO c0 c1
      refine (at_in gb x y G _ hx12 hy12 R1).mono ?_
      rintro e W7 ⟨he, hb⟩
      rw [← HZ.out] at he
      subst he
      have hWGE : W4.heap.size ≤ W7.heap.size := Nat.le_trans hwg6 hb.size
      replace R1 := rowNext0 R1 hb
      replace B1 := nxt B1 hb
      have hO7 := Lib.hid (hO1.out.below hb)
      clear hb hO1 R B
      obtain ⟨A8, cap8, rfl⟩ := hO7.out.shape
      have hrd := hO7.out.rd.2
      by_cases h0 : z = 0
      · subst h0
        have HN := Lib.hid (LN.out (fun h => by have := h.1; omega))
        clear LY LN hrd e1 e2
        go_wp2
        exact ⟨⟨k + 1, by omega, by first | go_num | simp, B1, R1, by rw [HN.out]; exact hO7.out, hWGE⟩, by simp [intOf]; omega⟩
      · have hzz : 0 ≤ z - 1 := by omega
        have hzz' : 1 ≤ z := by omega
        by_cases hin : InL (lfL G c k).length (fun j => (lfL G c k).getD j 0) (z - 1)
        · have HN := Lib.hid (LN.out (fun h => h.2 hin))
          have HI := Lib.hid (fun (W : World) (hr : RdK .i64 W W.heap.size A8 (lfL G c k).length (fun j => (lfL G c k).getD j 0)) => contains_yes A8 (lfL G c k).length cap8 _ (z - 1) W (by omega) hr hin)
          have HRD := Lib.hid hrd
          obtain ⟨N8, hN8⟩ : ∃ N8, N8 = (lfL G c k).length := ⟨_, rfl⟩
          rw [← hN8] at HI HRD hlen ⊢
          have HN8 := Lib.hid hN8
          clear LY LN hrd hin h0 hN8
          go_wp2_with fail
          refine (HI.out _ HRD.out).mono ?_
          rintro e w8 ⟨rfl, hw8⟩
          replace hw8 := hw8.symm
          subst hw8
          clear e1 e2
          go_wp2
          exact ⟨⟨k + 1, by omega, by first | go_num | simp, B1, R1, by rw [HN.out, HN8.out]; exact hO7.out, hWGE⟩, by simp [intOf]; omega⟩
        · have HY := Lib.hid (LY.out hzz hin)
          have HI := Lib.hid (fun (W : World) (hr : RdK .i64 W W.heap.size A8 (lfL G c k).length (fun j => (lfL G c k).getD j 0)) => contains_no A8 (lfL G c k).length cap8 _ (z - 1) W (by omega) hr hin)
          have HRD := Lib.hid hrd
          obtain ⟨N8, hN8⟩ : ∃ N8, N8 = (lfL G c k).length := ⟨_, rfl⟩
          have hO8 : Hid (OwnI W7 W4.heap.size (.slice A8 N8 cap8) (lfL G c k)) := Lib.hid (by rw [hN8]; exact hO7.out)
          rw [← hN8] at HI HRD hlen ⊢
          have hlen' : (lfL G c k).length ≤ k := by rw [← hN8]; exact hlen
          clear LY LN hrd hin h0 hO7 hN8
          go_wp2_with fail
          refine (HI.out _ HRD.out).mono ?_
          rintro e w8 ⟨rfl, hw8⟩
          replace hw8 := hw8.symm
          subst hw8
          have hWs := HB4.out
          have hW47 : W4.heap.size ≤ W7.heap.size := hWGE
          go_wp2_with (at_builtin; refine wpList_append_own _ rfl _ _ 29 rfl W4.heap.size 2 i0 (.int .i64 0) 1 8 Try.underlying29 hi hz0 hz1 hz2 rfl (by decide) _ _ _ rfl (World.ownsRow.alloc hO8.out _) ⟨W7.heap.size, 0, none⟩ 1 1 [.int .i64 (z - 1)] rfl rfl (ncells W7 #[.int .i64 (z - 1)] 2) one64 (by unfold maxLen; omega) (by omega) (by simp; omega) ?_; intro v' w1 own' hgr _)
          have hgr2 : (W7.alloc (.cells #[.int .i64 (z - 1)] 2)).grownBy w1 (Value.slice A8 N8 cap8).ownBlock := hgr
          have O9 := OwnI.snoc own'
          have B9 : Below w.heap.size w w1 := (al B1 _).grown hgr2 (al B1 _).size (fun k e => by have := (hO8.out.lt k e).1; omega)
          have R9 : w1.rowIs gb 129 144 (fun p => .int .i8 (G p)) := (R1.alloc (.cells #[.int .i64 (z - 1)] 2)).of_block (hgr2.block gb (by simp; omega) (fun e => by have := (hO8.out.lt gb e.symm).1; omega))
          rw [← HY.out] at O9
          have hgs := hgr2.size
          have HF := Lib.hid (And.intro B9 (And.intro R9 (And.intro O9 (show W4.heap.size ≤ w1.heap.size by simp at hgs; omega))))
          clear own' hgr hgr2 hgs O9 B9 R9 e1 e2 hO8 R1 B1
          go_wp2
          exact ⟨⟨k + 1, by omega, by first | go_num | simp, HF.out.1, HF.out.2.1, HF.out.2.2.1, HF.out.2.2.2⟩, by simp [intOf]; omega⟩
    · obtain rfl : k = n := by omega
      have hki : ¬ ((k : Int) < (k : Int)) := by omega
      go_wp2_with fail
      exact bodyPost_ret (results_tmp2 Try.results30 _ _ _) rfl ⟨B, .inr (.inr ⟨HV.out, HW.out, _, rfl, by rw [← HGE.out]; exact hO.out.mono HB4.out⟩)⟩
end liftedBy
end Go.Proofs.Ytkggimalkjjnoaa
