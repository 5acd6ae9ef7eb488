/-
  IsJoint on the two sides. Conditions stand at each.
-/
import Derived.Test.YtmkcdelfgaogaaaDoorRows
import Derived.Test.YtmkcdelfgaogaaaDoorJoAll
namespace Go.Proofs.YtmkcdelfgaogaaaDoor
open Go Go.ChangeShapes Go.WideShapes Go.ChangeAt Go.RowKit
set_option linter.unusedVariables false
set_option linter.unusedSimpArgs false
set_option maxRecDepth 100000
set_option maxHeartbeats 4000000

/-- what IsJoint answers. -/
def IjPost (X Y : Int) (n : Nat) (c : Nat → Int) (ax ay bx by_ : Int) (w : World) (e : Ending) (w' : World) : Prop :=
  Below w.heap.size w w' ∧ ((¬ Valid X Y n c ∧ e = .returned (.tuple #[.bool false, .int .i64 1])) ∨ (Valid X Y n c ∧ ¬ (PtIn X Y ax ay ∧ PtIn X Y bx by_) ∧ e = .returned (.tuple #[.bool false, .int .i64 2])) ∨
    (Valid X Y n c ∧ (PtIn X Y ax ay ∧ PtIn X Y bx by_) ∧ e = .returned (.tuple #[.bool (betw (gridN c n) ax ay bx by_), .int .i64 0])))
def p2 (a b : Int) (j : Nat) : Int := if j = 0 then a else b
theorem p2_8 {a b : Int} (ha : -128 ≤ a ∧ a ≤ 127) (hb : -128 ≤ b ∧ b ≤ 127) (j : Nat) : -128 ≤ p2 a b j ∧ p2 a b j ≤ 127 := by unfold p2; split <;> assumption
theorem all2 {X Y ax ay bx by_ : Int} : AllIn X Y 2 (p2 ax bx) (p2 ay by_) ↔ PtIn X Y ax ay ∧ PtIn X Y bx by_ := by
  unfold AllIn
  refine ⟨fun h => ⟨h 0 (by omega), h 1 (by omega)⟩, fun h j hj => ?_⟩
  match j, hj with
  | 0, _ => exact h.1
  | 1, _ => exact h.2
theorem rd2 (w : World) (ax ay bx by_ : Int) (t : TypeId) : RdP (w.alloc (.cells #[.int .i8 ax, .int .i8 ay, .int .i8 bx, .int .i8 by_] t)) (some ⟨w.heap.size, 0, none⟩) 2 (p2 ax bx) (p2 ay by_) := fun _ => by
  have h := Bx.new w #[.int .i8 ax, .int .i8 ay, .int .i8 bx, .int .i8 by_] t
  refine ⟨w.heap.size, 0, rfl, by simp, fun j hj => ?_⟩
  match j, hj with
  | 0, _ => exact ⟨h.cell 0, h.cell 1⟩
  | 1, _ => exact ⟨h.cell 2, h.cell 3⟩

theorem specIj_any (X Y : Int) (g n : Nat) (c : Nat → Int) (ax ay bx by_ : Int) (w : World) (hX : -128 ≤ X ∧ X ≤ 127) (hY : -128 ≤ Y ∧ Y ≤ 127) (hc : ∀ j, -128 ≤ c j ∧ c j ≤ 127) (hm : n ≤ 1048576)
    (hrow : w.rowIs g 105 (4 * n) (fun j => .int .i8 (c j))) (hax : -128 ≤ ax ∧ ax ≤ 127) (hay : -128 ≤ ay ∧ ay ≤ 127) (hbx : -128 ≤ bx ∧ bx ≤ 127) (hby : -128 ≤ by_ ∧ by_ ≤ 127) :
    Calls Tryd.prog 9 #[.agg #[.int .i8 X, .int .i8 Y, .slice (some ⟨g, 0, none⟩) n n], .agg #[.int .i8 ax, .int .i8 ay], .agg #[.int .i8 bx, .int .i8 by_]] w (IjPost X Y n c ax ay bx by_ w) := by
  have HC := Lib.hid hc
  clear hc
  go_enter Tryd.func9, Tryd.ntmps9
  go_wp2_with fail
  have X3 := ((Sq.new w X Y (.slice (some ⟨g, 0, none⟩) n n) 33).alloc (.cells #[.int .i8 ax, .int .i8 ay] 35)).alloc (.cells #[.int .i8 bx, .int .i8 by_] 35)
  have X4 := (C2.new (w.alloc (.cells #[.int .i8 X, .int .i8 Y, .slice (some ⟨g, 0, none⟩) n n] 33)) ax ay 35).alloc (.cells #[.int .i8 bx, .int .i8 by_] 35)
  have X5 := C2.new ((w.alloc (.cells #[.int .i8 X, .int .i8 Y, .slice (some ⟨g, 0, none⟩) n n] 33)).alloc (.cells #[.int .i8 ax, .int .i8 ay] 35)) bx by_ 35
  have B := al (al (al (Below.refl w.heap.size w) (.cells #[.int .i8 X, .int .i8 Y, .slice (some ⟨g, 0, none⟩) n n] 33)) (.cells #[.int .i8 ax, .int .i8 ay] 35)) (.cells #[.int .i8 bx, .int .i8 by_] 35)
  have e1 : (w.alloc (.cells #[.int .i8 X, .int .i8 Y, .slice (some ⟨g, 0, none⟩) n n] 33)).heap.size = w.heap.size + 1 := by simp
  have e2 : ((w.alloc (.cells #[.int .i8 X, .int .i8 Y, .slice (some ⟨g, 0, none⟩) n n] 33)).alloc (.cells #[.int .i8 ax, .int .i8 ay] 35)).heap.size = w.heap.size + 1 + 1 := by simp
  rw [e1] at X4
  rw [e2] at X5
  have e3 : (((w.alloc (.cells #[.int .i8 X, .int .i8 Y, .slice (some ⟨g, 0, none⟩) n n] 33)).alloc (.cells #[.int .i8 ax, .int .i8 ay] 35)).alloc (.cells #[.int .i8 bx, .int .i8 by_] 35)).heap.size = w.heap.size + 1 + 1 + 1 := by simp
  obtain ⟨W0, hW0⟩ : ∃ W0 : World, W0 = ((w.alloc (.cells #[.int .i8 X, .int .i8 Y, .slice (some ⟨g, 0, none⟩) n n] 33)).alloc (.cells #[.int .i8 ax, .int .i8 ay] 35)).alloc (.cells #[.int .i8 bx, .int .i8 by_] 35) := ⟨_, rfl⟩
  rw [← hW0] at X3 X4 X5 B e3 ⊢
  clear hW0 e1 e2
  have R := rd2 W0 ax ay bx by_ 35
  rw [e3] at R
  replace X3 := X3.alloc (.cells #[.int .i8 ax, .int .i8 ay, .int .i8 bx, .int .i8 by_] 35)
  replace X4 := X4.alloc (.cells #[.int .i8 ax, .int .i8 ay, .int .i8 bx, .int .i8 by_] 35)
  replace X5 := X5.alloc (.cells #[.int .i8 ax, .int .i8 ay, .int .i8 bx, .int .i8 by_] 35)
  replace B := al B (.cells #[.int .i8 ax, .int .i8 ay, .int .i8 bx, .int .i8 by_] 35)
  obtain ⟨W1, hW1⟩ : ∃ W1 : World, W1 = W0.alloc (.cells #[.int .i8 ax, .int .i8 ay, .int .i8 bx, .int .i8 by_] 35) := ⟨_, rfl⟩
  rw [← hW1] at X3 X4 X5 B R ⊢
  clear hW1 e3
  refine (told_any X Y _ g n c _ 2 2 (p2 ax bx) (p2 ay by_) true W1 hX hY HC.out hm X3 (hrow.of_block (B.block _ hrow.lt)) (by omega) (by omega) R (p2_8 hax hbx) (p2_8 hay hby)).mono ?_
  rintro e w2 ⟨hb, cs, hsz, hone, hcase⟩
  have hl4 := (X4.below hb).1
  have hl5 := (X5.below hb).1
  replace X4 := (X4.below hb).alloc (.cells Tryd.zeroCells64 64)
  replace X5 := (X5.below hb).alloc (.cells Tryd.zeroCells64 64)
  replace B := nxt B hb
  have hsz1 := B.size
  replace B := al B (.cells Tryd.zeroCells64 64)
  have h8 := heap_alloc_new w2 (.cells Tryd.zeroCells64 64)
  have H8 := Lib.hid h8
  clear hb X3 R
  rcases hcase with ⟨hv, rfl⟩ | ⟨hv, hn, rfl⟩ | ⟨hv, hy, hcell, rfl⟩
  · go_wp2_with (first
      | (refine wpList_store_row rfl 64 (.tmp 8) (.tmp 15) rfl w2.heap.size cs rfl rfl 64 Tryd.zeroCells64 H8.out (by rw [info93, hsz]) (by rw [zc_size, hsz]) hone ?_))
    exact bodyPost_ret (results_tmp2 Tryd.results9 _ _ _) rfl ⟨below_setRow B hsz1 _, .inl ⟨hv, rfl⟩⟩
  · have HN := Lib.hid hn
    clear hn
    go_wp2_with (first
      | (refine wpList_store_row rfl 64 (.tmp 8) (.tmp 15) rfl w2.heap.size cs rfl rfl 64 Tryd.zeroCells64 H8.out (by rw [info93, hsz]) (by rw [zc_size, hsz]) hone ?_))
    exact bodyPost_ret (results_tmp2 Tryd.results9 _ _ _) rfl ⟨below_setRow B hsz1 _, .inr (.inl ⟨hv, fun h => HN.out ⟨by trivial, all2.2 h⟩, rfl⟩)⟩
  · have hy2 := all2.1 hy.2
    have h8' := setRow_heap _ w2.heap.size _ cs _ _ h8
    have R8 : ((w2.alloc (.cells Tryd.zeroCells64 64)).setRow w2.heap.size cs).rowIs w2.heap.size 64 144 (fun p => .int .i64 (gridN c n p)) := ⟨cs, h8', hsz, hcell⟩
    have X4' : C2 ((w2.alloc (.cells Tryd.zeroCells64 64)).setRow w2.heap.size cs) _ _ _ := X4.of_block (by rw [setRow_size]; exact Nat.le_refl _) (setRow_other _ w2.heap.size _ cs (by omega))
    have X5' : C2 ((w2.alloc (.cells Tryd.zeroCells64 64)).setRow w2.heap.size cs) _ _ _ := X5.of_block (by rw [setRow_size]; exact Nat.le_refl _) (setRow_other _ w2.heap.size _ cs (by omega))
    have B' := below_setRow B hsz1 cs
    obtain ⟨W3, hW3⟩ : ∃ W3 : World, W3 = (w2.alloc (.cells Tryd.zeroCells64 64)).setRow w2.heap.size cs := ⟨_, rfl⟩
    rw [← hW3] at R8 X4' X5' B'
    have p1 := hv.2.1
    have q1 := hv.2.2.2.1
    obtain ⟨⟨a1, a2, a3, a4⟩, ⟨b1, b2, b3, b4⟩⟩ := id hy2
    obtain ⟨r, hr⟩ : ∃ r, r = betw (gridN c n) ax ay bx by_ := ⟨_, rfl⟩
    have HB := Lib.hid (betwS_any w2.heap.size ax ay bx by_ (gridN c n) W3 (by omega) (by omega) R8)
    have HY := Lib.hid hy2
    have HV := Lib.hid hv
    rw [← hr] at HB
    have HR := Lib.hid hr
    obtain ⟨l4, p4, q4⟩ := id X4'
    obtain ⟨l5, p5, q5⟩ := id X5'
    rw [hW3] at p4 q4 p5 q5
    clear hr hy hy2 hv X4 X5 X4' X5' h8' B R8 hcell hrow h8 a1 a2 a3 a4 b1 b2 b3 b4 p1 q1 l4 l5
    go_wp2_with (first
      | (refine wpList_store_row rfl 64 (.tmp 8) (.tmp 15) rfl w2.heap.size cs rfl rfl 64 Tryd.zeroCells64 H8.out (by rw [info93, hsz]) (by rw [zc_size, hsz]) hone ?_))
    rw [← hW3]
    clear p4 q4 p5 q5 hW3 H8
    refine HB.out.mono ?_
    rintro e w4 ⟨rfl, hb⟩
    replace B' := nxt B' hb
    clear hb HB
    go_wp2
    refine bodyPost_ret (results_tmp2 Tryd.results9 _ _ _) rfl ⟨B', .inr (.inr ⟨HV.out, HY.out, ?_⟩)⟩
    rw [← HR.out]
    rfl
theorem jl_hasK {W H n : Nat} {c : Nat → Int} (hv : Valid W H n c) (ax ay bx by_ : Int) : hasK (jl W (gridN c n) (W * H)) (edE ax ay bx by_) = betw (gridN c n) ax ay bx by_ := hasE_betw (open_out hv) ax ay bx by_
theorem implIj_any (X Y : Int) (g n : Nat) (c : Nat → Int) (ax ay bx by_ : Int) (a0 a1 a2 : Addr) (w : World) (hX : -128 ≤ X ∧ X ≤ 127) (hY : -128 ≤ Y ∧ Y ≤ 127) (hc : ∀ j, -128 ≤ c j ∧ c j ≤ 127) (hm : n ≤ 1048576)
    (hrow : w.rowIs g 105 (4 * n) (fun j => .int .i8 (c j))) (hax : -128 ≤ ax ∧ ax ≤ 127) (hay : -128 ≤ ay ∧ ay ≤ 127) (hbx : -128 ≤ bx ∧ bx ≤ 127) (hby : -128 ≤ by_ ∧ by_ ≤ 127) (hS : Sent w a0 a1 a2) :
    Calls Tryd.prog 12 #[.agg #[.int .i8 X, .int .i8 Y, .slice (some ⟨g, 0, none⟩) n n], .agg #[.int .i8 ax, .int .i8 ay], .agg #[.int .i8 bx, .int .i8 by_]] w (IjPost X Y n c ax ay bx by_ w) := by
  have HC := Lib.hid hc
  clear hc
  go_enter Tryd.func12, Tryd.ntmps12
  go_wp2_with fail
  have X3 := ((Sq.new w X Y (.slice (some ⟨g, 0, none⟩) n n) 33).alloc (.cells #[.int .i8 ax, .int .i8 ay] 35)).alloc (.cells #[.int .i8 bx, .int .i8 by_] 35)
  have X4 := (C2.new (w.alloc (.cells #[.int .i8 X, .int .i8 Y, .slice (some ⟨g, 0, none⟩) n n] 33)) ax ay 35).alloc (.cells #[.int .i8 bx, .int .i8 by_] 35)
  have X5 := C2.new ((w.alloc (.cells #[.int .i8 X, .int .i8 Y, .slice (some ⟨g, 0, none⟩) n n] 33)).alloc (.cells #[.int .i8 ax, .int .i8 ay] 35)) bx by_ 35
  have B := al (al (al (Below.refl w.heap.size w) (.cells #[.int .i8 X, .int .i8 Y, .slice (some ⟨g, 0, none⟩) n n] 33)) (.cells #[.int .i8 ax, .int .i8 ay] 35)) (.cells #[.int .i8 bx, .int .i8 by_] 35)
  have e1 : (w.alloc (.cells #[.int .i8 X, .int .i8 Y, .slice (some ⟨g, 0, none⟩) n n] 33)).heap.size = w.heap.size + 1 := by simp
  have e2 : ((w.alloc (.cells #[.int .i8 X, .int .i8 Y, .slice (some ⟨g, 0, none⟩) n n] 33)).alloc (.cells #[.int .i8 ax, .int .i8 ay] 35)).heap.size = w.heap.size + 1 + 1 := by simp
  rw [e1] at X4
  rw [e2] at X5
  have e3 : (((w.alloc (.cells #[.int .i8 X, .int .i8 Y, .slice (some ⟨g, 0, none⟩) n n] 33)).alloc (.cells #[.int .i8 ax, .int .i8 ay] 35)).alloc (.cells #[.int .i8 bx, .int .i8 by_] 35)).heap.size = w.heap.size + 1 + 1 + 1 := by simp
  obtain ⟨W0, hW0⟩ : ∃ W0 : World, W0 = ((w.alloc (.cells #[.int .i8 X, .int .i8 Y, .slice (some ⟨g, 0, none⟩) n n] 33)).alloc (.cells #[.int .i8 ax, .int .i8 ay] 35)).alloc (.cells #[.int .i8 bx, .int .i8 by_] 35) := ⟨_, rfl⟩
  rw [← hW0] at X3 X4 X5 B e3 ⊢
  clear hW0 e1 e2
  have R := rd2 W0 ax ay bx by_ 35
  rw [e3] at R
  replace X3 := X3.alloc (.cells #[.int .i8 ax, .int .i8 ay, .int .i8 bx, .int .i8 by_] 35)
  replace X4 := X4.alloc (.cells #[.int .i8 ax, .int .i8 ay, .int .i8 bx, .int .i8 by_] 35)
  replace X5 := X5.alloc (.cells #[.int .i8 ax, .int .i8 ay, .int .i8 bx, .int .i8 by_] 35)
  replace B := al B (.cells #[.int .i8 ax, .int .i8 ay, .int .i8 bx, .int .i8 by_] 35)
  obtain ⟨W1, hW1⟩ : ∃ W1 : World, W1 = W0.alloc (.cells #[.int .i8 ax, .int .i8 ay, .int .i8 bx, .int .i8 by_] 35) := ⟨_, rfl⟩
  rw [← hW1] at X3 X4 X5 B R ⊢
  clear hW1 e3
  refine (jointsFor_any X Y g n c _ 2 2 (p2 ax bx) (p2 ay by_) a0 a1 a2 W1 hX hY HC.out hm (hrow.of_block (B.block _ hrow.lt)) (by omega) (by omega) R (p2_8 hax hbx) (p2_8 hay hby) (hS.below B)).mono ?_
  rintro e w2 ⟨hb, hcase⟩
  replace X4 := X4.below hb
  replace X5 := X5.below hb
  replace B := nxt B hb
  have S2 := hS.below B
  clear hb X3 R
  rcases hcase with ⟨hv, rfl⟩ | ⟨hv, hn, rfl⟩ | ⟨hv, hy, m, rfl, hmw, hM⟩
  · have HV := Lib.hid hv
    clear hv
    go_wp2_with fail
    refine (codeOf0 a0 a1 a2 w2 S2).mono ?_
    rintro e w3 ⟨rfl, hb⟩
    replace B := nxt B hb
    clear hb
    go_wp2
    exact bodyPost_ret (results_tmp2 Tryd.results12 _ _ _) rfl ⟨B, .inl ⟨HV.out, rfl⟩⟩
  · have HV := Lib.hid hv
    have HN := Lib.hid hn
    clear hn hv
    go_wp2_with fail
    refine (codeOf1 a0 a1 a2 w2 S2).mono ?_
    rintro e w3 ⟨rfl, hb⟩
    replace B := nxt B hb
    clear hb
    go_wp2
    exact bodyPost_ret (results_tmp2 Tryd.results12 _ _ _) rfl ⟨B, .inr (.inl ⟨HV.out, fun h => HN.out (all2.2 h), rfl⟩)⟩
  · have HY := Lib.hid (all2.1 hy)
    have HV := Lib.hid hv
    obtain ⟨W, rfl⟩ : ∃ W : Nat, X = W := Int.eq_ofNat_of_zero_le (by have := hv.1; omega)
    obtain ⟨H, rfl⟩ : ∃ H : Nat, Y = H := Int.eq_ofNat_of_zero_le (by have := hv.2.2.1; omega)
    have hM' : EMap w2 m (jl W (gridN c n) (W * H)) := hM
    have HH := jhas_any m _ ax ay bx by_ w2 hax hay hbx hby hM'
    rw [jl_hasK hv] at HH
    obtain ⟨r, hr⟩ : ∃ r, r = betw (gridN c n) ax ay bx by_ := ⟨_, rfl⟩
    rw [← hr] at HH
    have HR := Lib.hid hr
    replace HH := Lib.hid HH
    obtain ⟨l4, p4, q4⟩ := id X4
    obtain ⟨l5, p5, q5⟩ := id X5
    clear hr hy hv hM hM' X4 X5 l4 l5
    go_wp2_with fail
    refine HH.out.mono ?_
    rintro e w3 ⟨rfl, hb⟩
    replace B := nxt B hb
    clear hb HH p4 q4 p5 q5
    go_wp2
    refine bodyPost_ret (results_tmp2 Tryd.results12 _ _ _) rfl ⟨B, .inr (.inr ⟨HV.out, HY.out, ?_⟩)⟩
    rw [← HR.out]
    rfl
/-- jointsFor's answer, told by its two values. -/
theorem JfPost.two {X Y : Int} {n k : Nat} {c px py : Nat → Int} {a0 a1 : Addr} {w : World} {e : Ending} {w' : World} (h : JfPost X Y n k c px py a0 a1 w e w') :
    Below w.heap.size w w' ∧ ∃ v1 v2, e = .returned (.tuple #[v1, v2]) ∧ ((¬ Valid X Y n c ∧ v1 = .map none ∧ v2 = .iface 165 (.pointer (some a0))) ∨
      (Valid X Y n c ∧ ¬ AllIn X Y k px py ∧ v1 = .map none ∧ v2 = .iface 165 (.pointer (some a1))) ∨
      (Valid X Y n c ∧ AllIn X Y k px py ∧ ∃ m, v1 = .map (some m) ∧ v2 = .nilIface ∧ w.heap.size ≤ m ∧ EMap w' m (jl X.toNat (gridN c n) (X.toNat * Y.toNat)))) := by
  refine ⟨h.1, ?_⟩
  rcases h.2 with ⟨h1, rfl⟩ | ⟨h1, h2, rfl⟩ | ⟨h1, h2, m, rfl, h3, h4⟩
  · exact ⟨_, _, rfl, .inl ⟨h1, rfl, rfl⟩⟩
  · exact ⟨_, _, rfl, .inr (.inl ⟨h1, h2, rfl, rfl⟩)⟩
  · exact ⟨_, _, rfl, .inr (.inr ⟨h1, h2, m, rfl, rfl, h3, h4⟩)⟩
end Go.Proofs.YtmkcdelfgaogaaaDoor
