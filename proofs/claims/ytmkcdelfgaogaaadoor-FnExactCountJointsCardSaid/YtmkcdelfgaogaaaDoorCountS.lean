/-
  CountJoints on the two sides; all points of a square (l06Points). Conditions stand at each.
-/
import Derived.Test.YtmkcdelfgaogaaaDoorRows
import Derived.Test.YtmkcdelfgaogaaaDoorJoAll
import Derived.Test.YtmkcdelfgaogaaaDoorTold
import Derived.Test.YtmkcdelfgaogaaaDoorOwnC
import Derived.Test.YtmkcdelfgaogaaaDoorC2
import Derived.Deep.QuietTactic
import Derived.Deep.AppendLies
import Derived.Laws.OwnMore
import Derived.Maps.AppendAt
import Derived.Deep.Onto
import Derived.Lib.Hide
namespace Go.Proofs.YtmkcdelfgaogaaaDoor
open Go Go.ChangeShapes Go.WideShapes Go.ChangeAt Go.RowKit
set_option linter.unusedVariables false
set_option linter.unusedSimpArgs false
set_option maxRecDepth 100000
set_option maxHeartbeats 2000000

theorem points_any (W H bq : Nat) (q : Value) (w : World) (hW0 : 1 ≤ W) (hW : W ≤ 12) (hH : H ≤ 12) (hq : Sq w bq W H q) :
    Calls Tryd.prog 38 #[.pointer (some ⟨bq, 0, none⟩)] w (AllPost (W + 1) (H + 1) w) := by
  obtain ⟨i0, hi, hz0, hz1, hz2⟩ := info_parts infoCell
  have hWi : (W : Int) ≤ 12 := by omega
  have hHi : (H : Int) ≤ 12 := by omega
  go_enter Tryd.func38, Tryd.ntmps38
  go_wp2
  have B0 : Below w.heap.size w (w.alloc (.cells #[] 35)) := al (Below.refl _ _) _
  have O0 : (w.alloc (.cells #[] 35)).ownsRow w.heap.size 35 2 (.slice (some ⟨w.heap.size, 0, none⟩) 0 0) 0 [] := World.ownsRow_made w #[] 0 (Nat.le_refl _) (Nat.zero_le _) rfl
  obtain ⟨W0, hW0'⟩ : ∃ W0 : World, W0 = w.alloc (.cells #[] 35) := ⟨_, rfl⟩
  rw [← hW0'] at B0 O0 ⊢
  clear hW0'
  go_loopw [3, 4] (fun t3 t4 wr => ∃ y : Nat, y ≤ H + 1 ∧ t4 = .int .i8 y ∧ Below w.heap.size w wr ∧ OwnC wr w.heap.size t3 (allC (W + 1) ((W + 1) * y))) (fun t3 t4 wr => (H + 1) - (intOf t4).toNat)
  case atStart => exact ⟨0, by omega, by simp, B0, O0⟩
  case round =>
    clear B0 O0
    obtain ⟨y, hy, rfl, B, O⟩ := hrel
    obtain ⟨v0, rfl⟩ : ∃ v0 : Value, v0 = u3 := ⟨_, rfl⟩
    have hq0 := hq.of_block B.size (B.block _ hq.1)
    obtain ⟨lq, pq, qq, rq⟩ := id hq0
    by_cases hyt : y < H + 1
    · have hyh : y ≤ H := by omega
      have hyz : (y : Int) ≤ (H : Int) := by omega
      go_wp2
      clear lq pq qq rq
      go_loopw [3, 5] (fun t3 t5 wr => ∃ x : Nat, x ≤ W + 1 ∧ t5 = .int .i8 x ∧ Below w.heap.size w wr ∧ OwnC wr w.heap.size t3 (allC (W + 1) ((W + 1) * y + x))) (fun t3 t5 wr => (W + 1) - (intOf t5).toNat)
      case atStart => exact ⟨0, by omega, by simp, B, O⟩
      case round =>
        clear B O hq0
        obtain ⟨x, hx, rfl, B, O⟩ := hrel
        have hq0 := hq.of_block B.size (B.block _ hq.1)
        obtain ⟨lq, pq, qq, rq⟩ := id hq0
        by_cases hxt : x < W + 1
        · have hxh : x ≤ W := by omega
          have h144 : (W + 1) * y + x < 169 := by
            have : (W + 1) * y + (W + 1) ≤ (W + 1) * 13 := by rw [← Nat.mul_succ]; exact Nat.mul_le_mul_left _ (by omega)
            omega
          have hyi : (y : Int) ≤ (H : Int) := by omega
          have hyj : (y : Int) ≤ 12 := by omega
          have hxi : (x : Int) ≤ (W : Int) := by omega
          have hxj : (x : Int) ≤ 12 := by omega
          have wx : IntKind.i8.wrap ((x : Int) + 1) = (x : Int) + 1 := IntWalk.i8_in _ (by omega)
          have H144 := Lib.hid h144
          clear h144
          go_wp2_with (at_builtin; refine wpList_append_own _ rfl _ _ 53 rfl w.heap.size 35 i0 (.agg #[.int .i8 0, .int .i8 0]) 2 2 Tryd.underlying53 hi hz0 hz1 hz2 rfl (by decide) _ _ _ rfl (World.ownsRow.alloc O _) ⟨wr.heap.size, 0, none⟩ 1 1 [.int .i8 (x : Int), .int .i8 (y : Int)] rfl rfl (new_cells wr #[.int .i8 (x : Int), .int .i8 (y : Int)] 35) one_ints (by rw [allC_length]; have := H144.out; unfold maxLen; omega) (by rw [allC_length]; have := H144.out; omega) (by have := B.size; simp; omega) ?_; intro v' w1 own' hgr _)
          have B1 : Below w.heap.size w w1 := (al B _).grown hgr (al B _).size (fun k e => (O.lt k e).1)
          have O1 : OwnC w1 w.heap.size v' (allC (W + 1) ((W + 1) * y + (x + 1))) := by
            unfold OwnC
            rw [← Nat.add_assoc, allC_succ, cl_eq hxt, cellsL_append, cellsL_one, List.length_append]
            exact own'
          clear own' hgr O B lq pq qq rq hq0 H144
          go_wp2
          exact ⟨⟨x + 1, by omega, by first | go_num | simp, B1, O1⟩, by simp [intOf]; omega⟩
        · obtain rfl : x = W + 1 := by omega
          go_wp2
          exact ⟨⟨y + 1, by omega, by first | go_num | simp, B, by rw [Nat.mul_succ]; exact O⟩, by simp [intOf]; omega⟩
    · obtain rfl : y = H + 1 := by omega
      go_wp2
      go_ret
      exact ⟨B, v0, rfl, O⟩

/-- what CountJoints answers. -/
def CjPost (X Y : Int) (n : Nat) (c : Nat → Int) (w : World) (e : Ending) (w' : World) : Prop :=
  Below w.heap.size w w' ∧ ((¬ Valid X Y n c ∧ e = .returned (.tuple #[.int .i64 0, .int .i64 1])) ∨ (Valid X Y n c ∧ e = .returned (.tuple #[.int .i64 ((jl X.toNat (gridN c n) (X.toNat * Y.toNat)).length : Int), .int .i64 0])))
theorem implCj_any (X Y : Int) (g n : Nat) (c : Nat → Int) (a0 a1 a2 : Addr) (w : World) (hX : -128 ≤ X ∧ X ≤ 127) (hY : -128 ≤ Y ∧ Y ≤ 127) (hc : ∀ j, -128 ≤ c j ∧ c j ≤ 127) (hm : n ≤ 1048576)
    (hrow : w.rowIs g 105 (4 * n) (fun j => .int .i8 (c j))) (hS : Sent w a0 a1 a2) :
    Calls Tryd.prog 15 #[.agg #[.int .i8 X, .int .i8 Y, .slice (some ⟨g, 0, none⟩) n n]] w (CjPost X Y n c w) := by
  have HC := Lib.hid hc
  clear hc
  go_enter Tryd.func15, Tryd.ntmps15
  go_wp2_with fail
  have B := al (Below.refl w.heap.size w) (.cells #[.int .i8 X, .int .i8 Y, .slice (some ⟨g, 0, none⟩) n n] 33)
  obtain ⟨W1, hW1⟩ : ∃ W1 : World, W1 = w.alloc (.cells #[.int .i8 X, .int .i8 Y, .slice (some ⟨g, 0, none⟩) n n] 33) := ⟨_, rfl⟩
  rw [← hW1] at B ⊢
  clear hW1
  refine (jointsFor_any X Y g n c none 0 0 (fun _ => 0) (fun _ => 0) a0 a1 a2 W1 hX hY HC.out hm (hrow.of_block (B.block _ hrow.lt)) (by omega) (by omega) (fun h => absurd h (by omega)) (fun _ => by omega) (fun _ => by omega) (hS.below B)).mono ?_
  rintro e w2 ⟨hb, hcase⟩
  replace B := nxt B hb
  have S2 := hS.below B
  clear hb
  rcases hcase with ⟨hv, rfl⟩ | ⟨hv, hn, rfl⟩ | ⟨hv, hy, m, rfl, hmw, hM⟩
  · have HV := Lib.hid hv
    clear hv
    go_wp2_with fail
    refine (codeOf0 a0 a1 a2 w2 S2).mono ?_
    rintro e w3 ⟨rfl, hb⟩
    replace B := nxt B hb
    clear hb
    go_wp2
    exact bodyPost_ret (results_tmp2 Tryd.results15 _ _ _) rfl ⟨B, .inl ⟨HV.out, rfl⟩⟩
  · exact absurd (fun j hj => absurd hj (by omega)) hn
  · have HV := Lib.hid hv
    have hl := hM.len (jl_keys _) 3
    clear hv hy
    obtain ⟨N, hN⟩ : ∃ N, N = (jl X.toNat (gridN c n) (X.toNat * Y.toNat)).length := ⟨_, rfl⟩
    rw [← hN] at hl
    have HN := Lib.hid hN
    clear hN
    go_wp2_with fail
    refine bodyPost_ret (results_tmp2 Tryd.results15 _ _ _) rfl ⟨B, .inr ⟨HV.out, ?_⟩⟩
    rw [← HN.out]
    rfl
/-- how many of the two ways below k are joints. -/
def cntW (G : Nat → Int) (x y : Int) (k : Nat) : Nat := (if 1 < k ∧ wayJ G x y 1 = true then 1 else 0) + (if 2 < k ∧ wayJ G x y 2 = true then 1 else 0)
theorem cntW_one (G : Nat → Int) (x y : Int) : cntW G x y 1 = 0 := by unfold cntW; rw [if_neg (by omega), if_neg (by omega)]
theorem cntW_three (G : Nat → Int) (x y : Int) : cntW G x y 3 = cntE G x y := by
  unfold cntW cntE wayJ
  by_cases h1 : nJ G x y = true <;> by_cases h2 : wJ G x y = true <;> simp [h1, h2]
theorem cntW_succ {G : Nat → Int} {x y : Int} {k : Nat} (h : k = 1 ∨ k = 2) : cntW G x y (k + 1) = cntW G x y k + (if wayJ G x y k = true then 1 else 0) := by
  unfold cntW
  rcases h with rfl | rfl <;> by_cases h1 : wayJ G x y 1 = true <;> by_cases h2 : wayJ G x y 2 = true <;> simp [h1, h2]
theorem cntW_le (G : Nat → Int) (x y : Int) (k : Nat) : cntW G x y k ≤ 2 := by
  unfold cntW
  split <;> split <;> omega
theorem rasS_le {W : Nat} {f : Nat → Nat → Nat} (h : ∀ x y, f x y ≤ 2) : ∀ k, rasS W f k ≤ 2 * k
  | 0 => by simp [rasS]
  | k + 1 => by
    have := rasS_le (W := W) h k
    have := h (k % W) (k / W)
    show rasS W f k + f (k % W) (k / W) ≤ _
    omega
theorem specCj_any (X Y : Int) (g n : Nat) (c : Nat → Int) (w : World) (hX : -128 ≤ X ∧ X ≤ 127) (hY : -128 ≤ Y ∧ Y ≤ 127) (hc : ∀ j, -128 ≤ c j ∧ c j ≤ 127) (hm : n ≤ 1048576)
    (hrow : w.rowIs g 105 (4 * n) (fun j => .int .i8 (c j))) :
    Calls Tryd.prog 14 #[.agg #[.int .i8 X, .int .i8 Y, .slice (some ⟨g, 0, none⟩) n n]] w (CjPost X Y n c w) := by
  have HC := Lib.hid hc
  clear hc
  go_enter Tryd.func14, Tryd.ntmps14
  go_wp2_with fail
  have X1 := (Sq.new w X Y (.slice (some ⟨g, 0, none⟩) n n) 33).alloc (.cells #[] 35)
  have B := al (al (Below.refl w.heap.size w) (.cells #[.int .i8 X, .int .i8 Y, .slice (some ⟨g, 0, none⟩) n n] 33)) (.cells #[] 35)
  obtain ⟨W1, hW1⟩ : ∃ W1 : World, W1 = (w.alloc (.cells #[.int .i8 X, .int .i8 Y, .slice (some ⟨g, 0, none⟩) n n] 33)).alloc (.cells #[] 35) := ⟨_, rfl⟩
  rw [← hW1] at X1 B ⊢
  clear hW1
  refine (told_any X Y _ g n c _ 0 0 (fun _ => 0) (fun _ => 0) true W1 hX hY HC.out hm X1 (hrow.of_block (B.block _ hrow.lt)) (by omega) (by omega) (fun h => absurd h (by omega)) (fun _ => by omega) (fun _ => by omega)).mono ?_
  rintro e w2 ⟨hb, cs, hsz, hone, hcase⟩
  have hl1 := (X1.below hb).1
  replace X1 := (X1.below hb).alloc (.cells Tryd.zeroCells64 64)
  replace B := nxt B hb
  have hsz1 := B.size
  replace B := al B (.cells Tryd.zeroCells64 64)
  have h8 := heap_alloc_new w2 (.cells Tryd.zeroCells64 64)
  have H8 := Lib.hid h8
  clear hb
  rcases hcase with ⟨hv, rfl⟩ | ⟨hv, hn, rfl⟩ | ⟨hv, hy, hcell, rfl⟩
  · have HV := Lib.hid hv
    clear hv h8
    go_wp2_with (first
      | (refine wpList_store_row rfl 64 (.tmp 4) (.tmp 13) rfl w2.heap.size cs rfl rfl 64 Tryd.zeroCells64 H8.out (by rw [info93, hsz]) (by rw [zc_size, hsz]) hone ?_))
    exact bodyPost_ret (results_tmp2 Tryd.results14 _ _ _) rfl ⟨below_setRow B hsz1 _, .inl ⟨HV.out, rfl⟩⟩
  · exact absurd ⟨rfl, fun j hj => absurd hj (by omega)⟩ hn
  obtain ⟨W, rfl⟩ : ∃ W : Nat, X = W := Int.eq_ofNat_of_zero_le (by have := hv.1; omega)
  obtain ⟨H, rfl⟩ : ∃ H : Nat, Y = H := Int.eq_ofNat_of_zero_le (by have := hv.2.2.1; omega)
  have hW0 : 1 ≤ W := by have := hv.1; omega
  have hW : W ≤ 12 := by have := hv.2.1; omega
  have hH : H ≤ 12 := by have := hv.2.2.2.1; omega
  have h8' := setRow_heap _ w2.heap.size _ cs _ _ h8
  have R := (show ((w2.alloc (.cells Tryd.zeroCells64 64)).setRow w2.heap.size cs).rowIs w2.heap.size 64 144 (fun p => .int .i64 (gridN c n p)) from ⟨cs, h8', hsz, hcell⟩)
  replace X1 : Sq ((w2.alloc (.cells Tryd.zeroCells64 64)).setRow w2.heap.size cs) _ _ _ _ := X1.of_block (by rw [setRow_size]; exact Nat.le_refl _) (setRow_other _ w2.heap.size _ cs (by omega))
  replace B := below_setRow B hsz1 cs
  obtain ⟨W3, hW3⟩ : ∃ W3 : World, W3 = (w2.alloc (.cells Tryd.zeroCells64 64)).setRow w2.heap.size cs := ⟨_, rfl⟩
  have HV := Lib.hid hv
  rw [← hW3] at R X1 B
  clear h8' hcell hv hy h8
  go_wp2_with (first
    | (refine wpList_store_row rfl 64 (.tmp 4) (.tmp 13) rfl w2.heap.size cs rfl rfl 64 Tryd.zeroCells64 H8.out (by rw [info93, hsz]) (by rw [zc_size, hsz]) hone ?_))
  rw [← hW3]
  clear hW3 H8 hone hsz
  refine (points_any W H _ _ W3 hW0 hW hH X1).mono ?_
  rintro e w5 ⟨hb, va, rfl, O⟩
  obtain ⟨N, hN⟩ : ∃ N, N = (W + 1) * (H + 1) := ⟨_, rfl⟩
  rw [← hN] at O
  have hN0 : 0 < N := by rw [hN]; exact Nat.mul_pos (by omega) (by omega)
  have hN169 : N ≤ 169 := by rw [hN]; exact Nat.mul_le_mul (show W + 1 ≤ 13 by omega) (show H + 1 ≤ 13 by omega)
  obtain ⟨ga, cap, rfl, hga, hga2⟩ := own_some O (by rw [allC_length]; exact hN0)
  rw [allC_length] at *
  replace R := R.of_block (hb.block _ R.lt)
  replace B := nxt B hb
  have HN := Lib.hid hN
  clear hb hN X1
  obtain ⟨f, hf⟩ : ∃ f : Nat → Nat → Nat, f = fun (x y : Nat) => cntE (gridN c n) (x : Int) (y : Int) := ⟨_, rfl⟩
  have HF := Lib.hid hf
  have hf2 : ∀ x y, f x y ≤ 2 := fun x y => by rw [hf]; show cntE _ _ _ ≤ 2; rw [← cntW_three]; exact cntW_le _ _ _ _
  have HF2 := Lib.hid hf2
  clear hf hf2
  go_wp2_with fail
  go_loopw [6, 8, 9] (fun t6 t8 t9 wr => ∃ i : Nat, i ≤ N ∧ t8 = .int .i64 i ∧ t6 = .int .i64 (rasS (W + 1) f i : Nat) ∧ Below w.heap.size w wr ∧ Below w5.heap.size w5 wr) (fun t6 t8 t9 wr => N - (intOf t8).toNat)
  case atStart => exact ⟨0, by omega, by simp, by simp [rasS], B, Below.refl _ _⟩
  case round =>
    clear B
    obtain ⟨i, hi, rfl, rfl, B, BB⟩ := hrel
    obtain ⟨wo, rfl⟩ : ∃ wo : World, wo = wr := ⟨_, rfl⟩
    by_cases hlt : i < N
    · obtain ⟨x, y, hxy⟩ : ∃ x y, cl (W + 1) i = (x, y) := ⟨_, _, rfl⟩
      have hx : x < W + 1 := by
        have : (cl (W + 1) i).1 < W + 1 := Nat.mod_lt _ (by omega)
        rwa [hxy] at this
      have hy : y < H + 1 := by
        have : (cl (W + 1) i).2 < H + 1 := Nat.div_lt_of_lt_mul (by rw [← HN.out]; exact hlt)
        rwa [hxy] at this
      have hcnt : rasS (W + 1) f (i + 1) = rasS (W + 1) f i + cntW (gridN c n) x y 3 := by
        show rasS (W + 1) f i + f (i % (W + 1)) (i / (W + 1)) = _
        rw [cntW_three, HF.out]
        have e1 : i % (W + 1) = x := congrArg Prod.fst hxy
        have e2 : i / (W + 1) = y := congrArg Prod.snd hxy
        rw [e1, e2]
      have hle := rasS_le (W := W + 1) HF2.out i
      obtain ⟨s, hs⟩ : ∃ s, s = rasS (W + 1) f i := ⟨_, rfl⟩
      rw [← hs] at hcnt hle ⊢
      have hs2 : s ≤ 338 := by omega
      have HCN := Lib.hid hcnt
      have hxi : (x : Int) ≤ 12 := by omega
      have hyi : (y : Int) ≤ 12 := by omega
      have HE := Lib.hid (fun k W' hk hR => edgeS_any w2.heap.size (x : Int) (y : Int) k (gridN c n) W' (by omega) (by omega) hk hR)
      have HW := Lib.hid (cntW_le (gridN c n) x y)
      have HS := Lib.hid (fun k => cntW_succ (G := gridN c n) (x := x) (y := y) (k := k))
      have hlti : (i : Int) < (N : Int) := by omega
      clear hcnt hs hle
      go_wp2_with fail
      go_loopw [6, 9] (fun t6 t9 wr => ∃ k : Nat, 1 ≤ k ∧ k ≤ 3 ∧ t9 = .int .i64 k ∧ t6 = .int .i64 ((s + cntW (gridN c n) x y k : Nat) : Int) ∧ Below w.heap.size w wr ∧ Below w5.heap.size w5 wr) (fun t6 t9 wr => 3 - (intOf t9).toNat)
      case atStart => exact ⟨1, by omega, by omega, by simp, by rw [cntW_one]; simp, B, BB⟩
      case round =>
        clear B BB
        obtain ⟨k, hk1, hk3, rfl, rfl, B, BB⟩ := hrel
        obtain ⟨wo, rfl⟩ : ∃ wo : World, wo = wr := ⟨_, rfl⟩
        by_cases hk : k < 3
        · have hki : (k : Int) ≤ 2 := by omega
          have hsuc := HS.out k (by omega)
          have hcle := HW.out k
          obtain ⟨c0, c1⟩ := OwnC.get (O.below BB) (allC_length (W + 1) N) (q := (x, y)) (by rw [allC_get (W + 1) N i hlt, hxy])
          have hcap : True := trivial
          have hga3 : ga < wo.heap.size := Nat.lt_of_lt_of_le hga2 BB.size
          obtain ⟨z, hz⟩ : ∃ z, z = s + cntW (gridN c n) x y k := ⟨_, rfl⟩
          have hz2 : z ≤ 340 := by omega
          rw [← hz]
          have HZ := Lib.hid hz
          have HSU := Lib.hid hsuc
          have RR := R.of_block (BB.block _ R.lt)
          clear hz hsuc hcle
          obtain ⟨r, hr⟩ : ∃ r, r = wayJ (gridN c n) x y k := ⟨_, rfl⟩
          have HEE := HE.out k wo (by omega) RR
          rw [← hr] at HEE
          have HEE' := Lib.hid HEE
          have HRR := Lib.hid hr
          clear hr HEE RR
          go_wp2_with fail
          refine HEE'.out.mono ?_
          rintro e w6 ⟨rfl, hb⟩
          replace B := nxt B hb
          replace BB := nxt BB hb
          clear hb HEE' c0 c1 hga3
          cases r with
          | true =>
            go_wp2
            refine ⟨⟨k + 1, by omega, by omega, by first | go_num | simp, ?_, B, BB⟩, by simp [intOf]; omega⟩
            have e2 := HSU.out
            rw [if_pos HRR.out.symm] at e2
            rw [e2, show s + (cntW (gridN c n) x y k + 1) = z + 1 by have := HZ.out; omega]
            first | rfl | simp
          | false =>
            go_wp2
            refine ⟨⟨k + 1, by omega, by omega, by first | go_num | simp, ?_, B, BB⟩, by simp [intOf]; omega⟩
            have e2 := HSU.out
            rw [if_neg (by rw [← HRR.out]; decide)] at e2
            rw [e2, show s + (cntW (gridN c n) x y k + 0) = z by have := HZ.out; omega]
        · obtain rfl : k = 3 := by omega
          go_wp2
          refine ⟨⟨i + 1, by omega, by first | go_num | simp, ?_, B, BB⟩, by simp [intOf]; omega⟩
          rw [HCN.out]
    · obtain rfl : i = N := by omega
      go_wp2
      refine bodyPost_ret (results_tmp2 Tryd.results14 _ _ _) rfl ⟨B, .inr ⟨HV.out, ?_⟩⟩
      have e := points_joints (open_out HV.out)
      rw [← HN.out, ← HF.out] at e
      show Ending.returned (.tuple #[.int .i64 ((rasS (W + 1) f i : Nat) : Int), .int .i64 0]) = _
      rw [e]
      rfl
end Go.Proofs.YtmkcdelfgaogaaaDoor
