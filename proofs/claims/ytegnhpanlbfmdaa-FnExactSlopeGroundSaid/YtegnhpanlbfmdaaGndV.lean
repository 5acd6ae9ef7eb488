/-
  The contract of impl.ValidGround. Conditions stand at each.
-/
import Derived.Test.YtegnhpanlbfmdaaRows
import Derived.Test.YtegnhpanlbfmdaaGndG
import Derived.Test.YtegnhpanlbfmdaaGndOk
import Derived.Test.YtegnhpanlbfmdaaKpt
import Derived.Test.YtegnhpanlbfmdaaIvIn
import Derived.Test.YtegnhpanlbfmdaaIvEq
namespace Go.Proofs.Ytegnhpanlbfmdaa
open Go Go.ChangeShapes Go.WideShapes Go.ChangeAt Go.RowKit Go.Shelf
set_option linter.unusedVariables false
set_option linter.unusedSimpArgs false
set_option maxRecDepth 100000
set_option maxHeartbeats 4000000
attribute [local go_sem] Oper.semAt_some

/-- the iterator over all points of a ground. -/
theorem points_in (n : Nat) (hn : 2 ≤ n) (wd ht : Nat) (w : World) :
    CallsIn Fence.wide n Try.prog 116 #[.agg #[.int .i8 (wd : Int), .int .i8 (ht : Int)]] w fun e w' => Below w.heap.size w w' ∧ ∃ bs, e = .returned (.func (.func 220) #[] #[.pointer (some ⟨bs, 0, none⟩)]) ∧ w.heap.size ≤ bs ∧ Sl w' bs 0 0 wd ht := by
  have hro : Fence.wide.round = none := rfl
  refine callsIn_of_wp Try.func116 rfl trivial ?_ hro
  simp only [Try.ntmps116, List.size_toArray, List.length_cons, List.length_nil, Nat.reduceAdd, Nat.reduceSub, Array.replicate_succ, Array.replicate_zero, List.push_toArray, List.append_toArray, List.nil_append, List.cons_append]
  gi_wp2_with fail
  refine ⟨trivial, fun _ => by omega, ?_⟩
  refine (cellsOf_in Fence.wide (n - 1) trivial hro _ _ _ _ _).mono ?_
  rintro e w' ⟨rfl, rfl⟩
  gi_wp2
  go_ret
  refine ⟨al (al (Below.refl _ _) _) _, _, rfl, by simp, ?_⟩
  have := Sl.new (w.alloc (.cells #[.int .i8 (wd : Int), .int .i8 (ht : Int)] 114)) 0 0 wd ht 206
  simpa using this

def GvPost (X Y : Int) (h : Nat → Int) (n : Nat) (c : Nat → Int) (w : World) (e : Ending) (w' : World) : Prop :=
  Below w.heap.size w w' ∧ ((GValid X Y h n c ∧ e = .returned (.bool true)) ∨ (¬ GValid X Y h n c ∧ e = .returned (.bool false)))

theorem gv_head (X Y : Int) (h : Nat → Int) (g n : Nat) (c : Nat → Int) (w : World) (hX : -128 ≤ X ∧ X ≤ 127) (hY : -128 ≤ Y ∧ Y ≤ 127) (hc : ∀ j, -128 ≤ c j ∧ c j ≤ 127) (hm : n ≤ 1048576) (hA : Ac w g n c) (hd : ¬ (gHead X Y n ∧ gGls X Y c n)) :
    Calls Try.prog 28 #[.agg (gV X Y h (.slice (some ⟨g, 0, none⟩) n n))] w (GvPost X Y h n c w) := by
  have hv : ¬ GValid X Y h n c := fun k => hd ⟨k.1, k.2.2⟩
  have HV := Lib.hid hv
  have HD := Lib.hid hd
  have HC := Lib.hid hc
  clear hv hd hc
  have X1 := (Bx.new w (gV X Y h (.slice (some ⟨g, 0, none⟩) n n)) 33).alloc (.cells #[.bool false] 4)
  have X2 := Bx.newAt (w.alloc (.cells (gV X Y h (.slice (some ⟨g, 0, none⟩) n n)) 33)) (w.heap.size + 1) #[.bool false] 4 (by simp)
  have B := al (al (Below.refl w.heap.size w) (.cells (gV X Y h (.slice (some ⟨g, 0, none⟩) n n)) 33)) (.cells #[.bool false] 4)
  have hA2 := (hA.alloc (.cells (gV X Y h (.slice (some ⟨g, 0, none⟩) n n)) 33)).alloc (.cells #[.bool false] 4)
  go_enter Try.func28, Try.ntmps28
  go_wp2_with (refine wpList_load_box X1 rfl _ _ rfl rfl _ Try.underlying33 rfl (infoGv _ _ _ _) ?_)
  refine (sizesOf_any X Y h _ _).mono ?_
  rintro e w1 ⟨rfl, hb⟩
  replace X1 := (X1.below hb).alloc (.cells #[.int .i8 X, .int .i8 Y] 114)
  replace X2 := (X2.below hb).alloc (.cells #[.int .i8 X, .int .i8 Y] 114)
  have X3 := Bx.new w1 #[.int .i8 X, .int .i8 Y] 114
  replace hA2 := (hA2.below hb).alloc (.cells #[.int .i8 X, .int .i8 Y] 114)
  replace B := al (nxt B hb) (.cells #[.int .i8 X, .int .i8 Y] 114)
  clear hb
  by_cases hR : (1 ≤ X ∧ X ≤ 9) ∧ (1 ≤ Y ∧ Y ≤ 9)
  · have hG : ¬ (n ≤ 8 ∧ gGls X Y c n) := fun k => HD.out ⟨⟨hR.1, hR.2, k.1⟩, k.2⟩
    have HG := Lib.hid hG
    clear hG
    go_wp2_with fail
    refine (areRight_any X Y true _ hX hY ⟨fun _ => hR, fun _ => rfl⟩).mono ?_
    rintro e w2 ⟨rfl, hb⟩
    replace X1 := X1.below hb
    replace X2 := X2.below hb
    replace X3 := X3.below hb
    replace hA2 := hA2.below hb
    replace B := nxt B hb
    clear hb
    obtain ⟨l1, p1, q1, r1⟩ := X1.gcells
    have p3 : w2.cell? ⟨w1.heap.size, 0, none⟩ = some (.int .i8 X) := X3.cell 0
    have q3 : w2.cell? ⟨w1.heap.size, 1, none⟩ = some (.int .i8 Y) := X3.cell 1
    go_wp2_with fail
    refine (areGullies_any X Y _ n n w2.heap.size c _ hR.1 hR.2 HC.out hm (Nat.le_refl _) hA2.rd).mono ?_
    rintro e w3 ⟨hb, ⟨hk, _⟩ | ⟨_, rfl⟩⟩
    · exact absurd hk HG.out
    replace X2 := X2.below hb
    replace B := nxt B hb
    clear hb l1 p1 q1 r1 p3 q3
    have x2 : w3.cell? ⟨w.heap.size + 1, 0, none⟩ = some (.bool false) := X2.cell 0
    have f2 := X2.frozen 0
    go_wp2
    refine bodyPost_ret (v := .bool false) (by simp [results, Try.results28, go_sem, x2]) rfl ⟨B.setCell (p := ⟨w.heap.size + 1, 0, none⟩) (by simp) _, .inr ⟨HV.out, rfl⟩⟩
  · have HNR := Lib.hid hR
    clear hR
    go_wp2_with fail
    refine (areRight_any X Y false _ hX hY ⟨(fun k => by cases k), fun k => absurd k HNR.out⟩).mono ?_
    rintro e w2 ⟨rfl, hb⟩
    replace X2 := X2.below hb
    replace B := nxt B hb
    clear hb
    have x2 : w2.cell? ⟨w.heap.size + 1, 0, none⟩ = some (.bool false) := X2.cell 0
    have f2 := X2.frozen 0
    go_wp2
    refine bodyPost_ret (v := .bool false) (by simp [results, Try.results28, go_sem, x2]) rfl ⟨B.setCell (p := ⟨w.heap.size + 1, 0, none⟩) (by simp) _, .inr ⟨HV.out, rfl⟩⟩

def posP {wd ht : Nat} (x : PX wd ht) : Nat := x.1.2 * 9 + x.1.1
/-- h, but 0 at the places of a list. -/
def zl {wd ht : Nat} (L : List (PX wd ht)) (h : Nat → Int) (p : Nat) : Int := if (L.any fun x => posP x == p) = true then 0 else h p
theorem zl_nil {wd ht : Nat} (h : Nat → Int) : zl ([] : List (PX wd ht)) h = h := by funext p; simp [zl]
theorem zl_snoc {wd ht : Nat} (L : List (PX wd ht)) (x : PX wd ht) (h : Nat → Int) (p : Nat) : (if p = posP x then 0 else zl L h p) = zl (L ++ [x]) h p := by
  unfold zl
  rw [List.any_append]
  by_cases e : p = posP x
  · subst e; simp
  · have : (posP x == p) = false := by simpa using fun k => e k.symm
    simp only [List.any_cons, List.any_nil, this, if_neg e, Bool.or_false]
theorem posP_lt {wd ht : Nat} (hw : wd ≤ 9) (hh : ht ≤ 9) (x : PX wd ht) : posP x < 81 := by
  have h1 := x.2.1
  have h2 := x.2.2
  unfold posP
  omega
theorem infoR : (Try.prog.info? 118).map (·.size) = some 81 := by kernel_rfl
theorem infoRh (h : Nat → Int) : (Try.prog.info? 118).map (·.size) = some (hV h).size := by rw [hV_size]; exact infoR
theorem zsizeR {h : Nat → Int} : Try.zeroCells118.size = (hV h).size := by rw [hV_size]; kernel_rfl
theorem zeroR : Try.zeroCells118 = hV (fun _ => 0) := by
  have hall : (List.range 81).all (fun p => isZero16 Try.zeroCells118[p]?) = true := by kernel_rfl
  exact iV_of (by kernel_rfl) fun p hp => of_isZero16 (List.all_eq_true.1 hall p (List.mem_range.2 hp))

theorem gv_loop (W H : Nat) (h : Nat → Int) (g n : Nat) (c : Nat → Int) (w : World) (hh : ∀ p, -32768 ≤ h p ∧ h p ≤ 32767) (hc : ∀ j, -128 ≤ c j ∧ c j ≤ 127) (hA : Ac w g n c) (hd : gHead W H n) (hgl : gGls W H c n) :
    CallsIn Fence.wide 7 Try.prog 28 #[.agg (gV W H h (.slice (some ⟨g, 0, none⟩) n n))] w (GvPost W H h n c w) := by
  have hro : Fence.wide.round = none := rfl
  obtain ⟨hX, hY, h8⟩ := id hd
  have hW9 : W ≤ 9 := by omega
  have hH9 : H ≤ 9 := by omega
  have hp : 0 < W ∧ 0 < H := by omega
  have HD := Lib.hid hd
  have HG := Lib.hid hgl
  have HC := Lib.hid hc
  have HH := Lib.hid hh
  clear hd hgl hc hh
  refine callsIn_of_wp_marks Try.func28 rfl trivial ?_ hro
  simp only [Try.ntmps28, List.size_toArray, List.length_cons, List.length_nil, Nat.reduceAdd, Nat.reduceSub, Array.replicate_succ, Array.replicate_zero, List.push_toArray, List.append_toArray, List.nil_append, List.cons_append]
  have X1 := (Bx.new w (gV W H h (.slice (some ⟨g, 0, none⟩) n n)) 33).alloc (.cells #[.bool false] 4)
  have X2 := Bx.newAt (w.alloc (.cells (gV W H h (.slice (some ⟨g, 0, none⟩) n n)) 33)) (w.heap.size + 1) #[.bool false] 4 (by simp)
  have B := al (al (Below.refl w.heap.size w) (.cells (gV W H h (.slice (some ⟨g, 0, none⟩) n n)) 33)) (.cells #[.bool false] 4)
  have hA2 := (hA.alloc (.cells (gV W H h (.slice (some ⟨g, 0, none⟩) n n)) 33)).alloc (.cells #[.bool false] 4)
  gi_wp2_with (first
    | (refine wpListIn_load_box X1 rfl _ _ rfl rfl _ Try.underlying33 rfl (infoGv _ _ _ _) ?_)
    | (refine ⟨trivial, ?_⟩; gi_at_call 113; refine (callsIn_wide.2 (sizesOf_any W H h _ _)).mono ?_))
  rintro e w1 ⟨rfl, hb⟩
  have hg1 := X1.lt
  replace X1 := (X1.below hb).alloc (.cells #[.int .i8 (W : Int), .int .i8 (H : Int)] 114)
  replace X2 := (X2.below hb).alloc (.cells #[.int .i8 (W : Int), .int .i8 (H : Int)] 114)
  have X3 := Bx.new w1 #[.int .i8 (W : Int), .int .i8 (H : Int)] 114
  replace hA2 := (hA2.below hb).alloc (.cells #[.int .i8 (W : Int), .int .i8 (H : Int)] 114)
  have hs1 : w.heap.size + 2 ≤ w1.heap.size := by have := hb.size; simp at this; omega
  replace B := al (nxt B hb) (.cells #[.int .i8 (W : Int), .int .i8 (H : Int)] 114)
  clear hb hg1
  gi_wp2_with (refine ⟨trivial, ?_⟩; gi_at_call 114; refine (callsIn_wide.2 (areRight_any W H true _ (by omega) (by omega) ⟨fun _ => ⟨hX, hY⟩, fun _ => rfl⟩)).mono ?_)
  rintro e w2 ⟨rfl, hb⟩
  replace X1 := X1.below hb
  replace X2 := X2.below hb
  replace X3 := X3.below hb
  replace hA2 := hA2.below hb
  replace B := nxt B hb
  clear hb
  obtain ⟨l1, p1, q1, r1⟩ := X1.gcells
  have p3 : w2.cell? ⟨w1.heap.size, 0, none⟩ = some (.int .i8 (W : Int)) := X3.cell 0
  have q3 : w2.cell? ⟨w1.heap.size, 1, none⟩ = some (.int .i8 (H : Int)) := X3.cell 1
  gi_wp2_with (refine ⟨trivial, ?_⟩; gi_at_call 115; refine (callsIn_wide.2 (areGullies_any W H _ n n w2.heap.size c _ hX hY HC.out (by omega) (Nat.le_refl _) hA2.rd)).mono ?_)
  rintro e w3 ⟨hb, ⟨_, rfl⟩ | ⟨hk, _⟩⟩
  case inr => exact absurd ⟨h8, HG.out⟩ hk
  replace X1 := X1.below hb
  replace X2 := X2.below hb
  replace X3 := X3.below hb
  replace B := nxt B hb
  clear hb l1 p1 q1 r1 p3 q3 hA2
  gi_wp2_with (first
    | (refine wpListIn_load_part X1 rfl _ _ rfl 2 rfl (hV h) (gV_part _ _ _ _) _ Try.underlying25 rfl (info99h _) ?_)
    | (refine wpListIn_store_new rfl _ _ _ rfl rfl rfl (infoRh _) zsizeR (iV_one _ _ _) ?_
       have hb2 : w.heap.size + 1 < w3.heap.size := X2.lt
       have hb3 : w1.heap.size < w3.heap.size := X3.lt
       have X5 := Bx.new w3 (hV h) 118
       replace X2 := X2.alloc (.cells (hV h) 118)
       replace X3 := X3.alloc (.cells (hV h) 118)
       replace B := al B (.cells (hV h) 118)
       obtain ⟨w4, hW⟩ : ∃ w4 : World, w4 = w3.alloc (.cells (hV h) 118) := ⟨_, rfl⟩
       rw [← hW] at X2 X3 X5 B ⊢
       clear hW X1
       have p3 : w4.cell? ⟨w1.heap.size, 0, none⟩ = some (.int .i8 (W : Int)) := X3.cell 0
       have q3 : w4.cell? ⟨w1.heap.size, 1, none⟩ = some (.int .i8 (H : Int)) := X3.cell 1))
  refine ⟨trivial, (points_in 6 (by omega) W H _).mono ?_⟩
  rintro e w6 ⟨hb, bs, rfl, hbs, hSl⟩
  have hs4 : w3.heap.size < w4.heap.size := X5.lt
  replace X2 := X2.below hb
  replace X5 := X5.below hb
  replace B := nxt B hb
  clear hb p3 q3 X3
  gi_wp2_with fail
  refine range_cells (by omega) bs W H hp rfl rfl (by omega) (by omega) hSl (fun k => k = w.heap.size + 1 ∨ k = w3.heap.size) (by omega)
    (fun pre V => Bx V w3.heap.size (hV (zl pre h)) 118 ∧ Bx V (w.heap.size + 1) #[.bool false] 4 ∧ ∀ x ∈ pre, 0 ≤ h (posP x) ∧ h (posP x) ≤ 200)
    (fun cc pre V => Kpt w6.heap.size (fun k => k = w.heap.size + 1 ∨ k = w3.heap.size) w6 V ∧ cc = .ret ∧ Bx V (w.heap.size + 1) #[.bool false] 4 ∧ ∃ x ∈ pre, ¬ (0 ≤ h (posP x) ∧ h (posP x) ≤ 200))
    ?_ ?_ ?_ 5 22 ?assign ?body ?done ?stop
  · exact OwnFrom.and (ownFrom_bx _ (fun _ => _) (fun pre => hV (zl pre h)) _) (OwnFrom.and (ownFrom_bx _ (fun _ => _) (fun _ => _) _) (ownFrom_pure _ _))
  · exact fun cc => OwnFrom.and (ownFrom_kpt _ _ w6 (Nat.le_refl _)) (OwnFrom.and (ownFrom_pure _ _) (OwnFrom.and (ownFrom_bx _ (fun _ => _) (fun _ => _) _) (ownFrom_pure _ _)))
  · exact ⟨X5.cast (by rw [zl_nil]), X2, fun x hx => by cases hx⟩
  case assign =>
    rintro l x V K hK
    dsimp only [encP]
    gi_wp2
    exact hK
  case body =>
    rintro l pre x b V hbV hx hk ⟨hR, hF, hall⟩ hlt
    have x1 := x.2.1
    have x2 := x.2.2
    have cx : V.cell? ⟨b, 0, none⟩ = some (.int .i8 (x.1.1 : Int)) := hx.cell 0
    have cy : V.cell? ⟨b, 1, none⟩ = some (.int .i8 (x.1.2 : Int)) := hx.cell 1
    have hps := posP_lt hW9 hH9 x
    have hz0 := hR.iget hps
    have hz : V.cell? ⟨w3.heap.size, 0 + x.1.2 * 9 + x.1.1, none⟩ = some (.int .i16 (zl pre h (posP x))) := by
      rw [show 0 + x.1.2 * 9 + x.1.1 = posP x by unfold posP; omega]; exact hz0
    have hzb : -32768 ≤ zl pre h (posP x) ∧ zl pre h (posP x) ≤ 32767 := by
      have := HH.out (posP x)
      unfold zl
      split <;> omega
    have HALL := Lib.hid hall
    clear hall hz0
    have K0 := Kpt.refl w6.heap.size (fun k => k = w.heap.size + 1 ∨ k = w3.heap.size) V
    gi_wp2_with (refine ⟨trivial, ?_⟩; gi_at_call 118; refine (CallsIn.inRound l (callsIn_wide.2 (reliefAt_any w3.heap.size 0 x.1.1 x.1.2 _ _ (by omega) (by omega) hzb hz))).mono ?_)
    rintro e w7 ⟨rfl, hb⟩
    replace hx := hx.below hb
    replace hR := hR.below hb
    replace hF := hF.below hb
    replace K0 := K0.below hb
    clear hb cx cy hz
    by_cases hr : 0 ≤ h (posP x) ∧ h (posP x) ≤ 200
    · have hzr : 0 ≤ zl pre h (posP x) ∧ zl pre h (posP x) ≤ 200 := by unfold zl; split <;> omega
      have cx : w7.cell? ⟨b, 0, none⟩ = some (.int .i8 (x.1.1 : Int)) := hx.cell 0
      have cy : w7.cell? ⟨b, 1, none⟩ = some (.int .i8 (x.1.2 : Int)) := hx.cell 1
      have hz0 := hR.iget hps
      have hz : w7.cell? ⟨w3.heap.size, 0 + x.1.2 * 9 + x.1.1, none⟩ = some (.int .i16 (zl pre h (posP x))) := by
        rw [show 0 + x.1.2 * 9 + x.1.1 = posP x by unfold posP; omega]; exact hz0
      have hfz := hR.frozen (0 + x.1.2 * 9 + x.1.1)
      have HZR := Lib.hid hzr
      clear hzr hz0
      gi_wp2_with (first
        | (refine ⟨trivial, ?_⟩; gi_at_call 117; refine (CallsIn.inRound l (callsIn_wide.2 (isRise_any _ true _ ⟨fun _ => HZR.out, fun _ => rfl⟩))).mono ?_; rintro e w8 ⟨rfl, rfl⟩)
        | (refine ⟨trivial, ?_⟩; gi_at_call 119; refine (CallsIn.inRound l (callsIn_wide.2 (reliefSet_any w3.heap.size 0 x.1.1 x.1.2 0 _ _ (by omega) (by omega) (by omega) hz hfz))).mono ?_))
      rintro e w9 ⟨⟨u, rfl⟩, w8, hb, rfl⟩
      replace hR := (hR.below hb).iset (0 + x.1.2 * 9 + x.1.1) 0
      have hne : w.heap.size + 1 ≠ w3.heap.size := by have := X2.lt; omega
      replace hF := (hF.below hb).other (g := w3.heap.size) (o := 0 + x.1.2 * 9 + x.1.1) (.int .i16 0) hne
      replace K0 := (K0.below hb).setCell (Or.inr rfl) (0 + x.1.2 * 9 + x.1.1) (.int .i16 0)
      simp only [Nat.zero_add] at hR hF K0
      clear hb cx cy hz hfz
      gi_wp2
      refine ⟨K0, hR.icongr fun p _ => ?_, hF, fun y hy => ?_⟩
      · exact zl_snoc pre x h p
      · rcases List.mem_append.1 hy with hy | hy
        · exact HALL.out y hy
        · obtain rfl : y = x := by simpa using hy
          exact hr
    · have hnp : ¬ (pre.any fun y => posP y == posP x) = true := fun k => by
        obtain ⟨y, hy, he⟩ := List.any_eq_true.1 k
        have he' : posP y = posP x := by simpa using he
        exact hr (he' ▸ HALL.out y hy)
      have hzr : ¬ (0 ≤ zl pre h (posP x) ∧ zl pre h (posP x) ≤ 200) := by unfold zl; rw [if_neg hnp]; exact hr
      have HZR := Lib.hid hzr
      have HNR := Lib.hid hr
      have fF := hF.frozen 0
      have cF : w7.cell? ⟨w.heap.size + 1, 0, none⟩ = some (.bool false) := hF.cell 0
      clear hzr hr hnp
      gi_wp2_with (refine ⟨trivial, ?_⟩; gi_at_call 117; refine (CallsIn.inRound l (callsIn_wide.2 (isRise_any _ false _ ⟨(fun k => by cases k), fun k => absurd k HZR.out⟩))).mono ?_; rintro e w8 ⟨rfl, rfl⟩)
      replace K0 := K0.setCell (Or.inl rfl) 0 (.bool false)
      exact ⟨K0.keepsFrom, hk.trans K0, rfl, hF.set 0 (.bool false), x, by simp, HNR.out⟩
  case done =>
    rintro D V hD hk ⟨hR, hF, hall⟩ hdef
    have fF := hF.frozen 0
    have cF : V.cell? ⟨w.heap.size + 1, 0, none⟩ = some (.bool false) := hF.cell 0
    have HALL := Lib.hid hall
    clear hall
    obtain ⟨i0, hi0⟩ : ∃ i, Try.prog.info? 23 = some i := Option.isSome_iff_exists.1 (by kernel_rfl)
    obtain ⟨i1, hi1, hz1⟩ : ∃ i, Try.prog.info? 24 = some i ∧ i.size = 9 := by
      have := info9
      cases hq : Try.prog.info? 24 with
      | none => rw [hq] at this; cases this
      | some i => rw [hq] at this; exact ⟨i, rfl, by simpa using this⟩
    have hE := run_equalIn_rows (P := Try.prog) V Try.underlying118 Try.underlying24 Try.underlying23 hi0 (by kernel_rfl) hi1 hz1 (by kernel_rfl) (zl (uptoP hp (W * H)) h) (fun _ => 0)
    have hE' : (Op.equalIn 10000 118 (.agg (hV (zl (uptoP hp (W * H)) h))) (.agg Try.zeroCells118)).run Try.prog V = .ok (agreeBB (zl (uptoP hp (W * H)) h) (fun _ => 0) 9 (List.range 9)) V := by rw [zeroR]; exact hE
    clear hE
    have hiff := agreeBB_iff (f := zl (uptoP hp (W * H)) h) (g := fun _ => 0) (n := 9) (m := 9) (by omega)
    have hval : (agreeBB (zl (uptoP hp (W * H)) h) (fun _ => 0) 9 (List.range 9) = true) ↔ GValid W H h n c := by
      rw [hiff]
      constructor
      · intro k
        refine ⟨HD.out, fun p hp81 => ?_, HG.out⟩
        by_cases ha : ((uptoP hp (W * H)).any fun x => posP x == p) = true
        · obtain ⟨x, hx, he⟩ := List.any_eq_true.1 ha
          have he' : posP x = p := by simpa using he
          have hx1 := x.2.1
          have hx2 := x.2.2
          refine ⟨he' ▸ HALL.out x hx, fun _ => ?_⟩
          unfold posP at he'
          have e1 : p % 9 = x.1.1 := by omega
          have e2 : p / 9 = x.1.2 := by omega
          rw [e1, e2]
          exact ⟨⟨by omega, by omega⟩, by omega, by omega⟩
        · have := k p hp81
          unfold zl at this
          rw [if_neg ha] at this
          exact ⟨by omega, fun hne => absurd this hne⟩
      · intro hv p hp81
        unfold zl
        by_cases ha : ((uptoP hp (W * H)).any fun x => posP x == p) = true
        · rw [if_pos ha]
        · rw [if_neg ha]
          refine Classical.byContradiction fun hne => ha ?_
          obtain ⟨⟨h1, h2⟩, h3, h4⟩ := (hv.2.1 p hp81).2 hne
          refine List.any_eq_true.2 ⟨⟨(p % 9, p / 9), by omega, by omega⟩, ?_, by simp [posP]; omega⟩
          have := mem_uptoP hp (x := p % 9) (y := p / 9) (by omega) (by omega)
          exact this
    have HVAL := Lib.hid hval
    clear hiff hval
    generalize agreeBB (zl (uptoP hp (W * H)) h) (fun _ => 0) 9 (List.range 9) = r at hE' HVAL
    gi_wp2_with (refine wpListIn_load_box hR rfl _ _ rfl rfl _ Try.underlying118 rfl (infoRh _) ?_)
    have hF' := hF.set 0 (.bool r)
    have hd' := deferred_set hdef ⟨w.heap.size + 1, 0, none⟩ (.bool r)
    have cF' := (hF'.put hd').cell 0
    simp at cF'
    have hB' := (B.trans ((hk.toBelow (k0 := w.heap.size) (fun k hk => by omega) B.size))).setCell (p := ⟨w.heap.size + 1, 0, none⟩) (by simp) (.bool r)
    refine ⟨by simp, .inl ⟨_, _, rfl, run_takeDeferred hd', ?_⟩⟩
    refine ⟨.bool r, by simp [results, Try.results28, go_sem, cF'], hB'.trans (belowK_b (w := w) (Nat.le_refl _) _ D _ _ (by have := B.size; omega) hd' rfl rfl), ?_⟩
    cases r
    · exact .inr ⟨fun k => (by have := HVAL.out.2 k; cases this), rfl⟩
    · exact .inl ⟨HVAL.out.1 rfl, rfl⟩
  case stop =>
    rintro D cc k V hD hkk ⟨hk, rfl, hF, x, hx, hbad⟩ hdef
    gi_wp2
    have cF := (hF.put hdef).cell 0
    simp at cF
    have hB' := B.trans ((hk.toBelow (k0 := w.heap.size) (fun k hk => by omega) B.size))
    refine ⟨by simp, .inl ⟨_, _, rfl, run_takeDeferred hdef, ?_⟩⟩
    refine ⟨.bool false, by simp [results, Try.results28, go_sem, cF], hB'.trans (belowK_b (w := w) (Nat.le_refl _) _ D _ _ (by have := B.size; omega) hdef rfl rfl), .inr ⟨fun hv => hbad (hv.2.1 (posP x) (posP_lt hW9 hH9 x)).1, rfl⟩⟩

theorem implGV_any (X Y : Int) (h : Nat → Int) (g n : Nat) (c : Nat → Int) (w : World) (hX : -128 ≤ X ∧ X ≤ 127) (hY : -128 ≤ Y ∧ Y ≤ 127) (hh : ∀ p, -32768 ≤ h p ∧ h p ≤ 32767) (hc : ∀ j, -128 ≤ c j ∧ c j ≤ 127) (hm : n ≤ 1048576) (hA : Ac w g n c) :
    Calls Try.prog 28 #[.agg (gV X Y h (.slice (some ⟨g, 0, none⟩) n n))] w (GvPost X Y h n c w) := by
  by_cases hd : gHead X Y n ∧ gGls X Y c n
  · obtain ⟨W', rfl⟩ := Int.eq_ofNat_of_zero_le (show 0 ≤ X by have := hd.1.1; omega)
    obtain ⟨H', rfl⟩ := Int.eq_ofNat_of_zero_le (show 0 ≤ Y by have := hd.1.2.1; omega)
    exact callsIn_wide.1 (gv_loop W' H' h g n c w hh hc hA hd.1 hd.2)
  · exact gv_head X Y h g n c w hX hY hc hm hA hd
end Go.Proofs.Ytegnhpanlbfmdaa
