/-
  The contracts of impl.fewestBy and of the function that it returns, which keeps a table of what it has told. Conditions stand at each.
-/
import Derived.Deep.RegionHeld3
import Derived.Laws.EntriesVeiled
import Derived.Test.YtjeccdmhpbaabaaRows
import Derived.Test.YtjeccdmhpbaabaaCodes
import Derived.Test.YtjeccdmhpbaabaaFillM
namespace Go.Proofs.Ytjeccdmhpbaabaa
open Go Go.ChangeShapes Go.WideShapes Go.ChangeAt Go.RowKit
set_option linter.unusedVariables false
set_option linter.unusedSimpArgs false
set_option maxRecDepth 100000
set_option maxHeartbeats 2000000

theorem roomForP_any (x y j : Int) (q b p : Nat) (w : World) (hx : 1 ≤ x ∧ x ≤ 20) (hj : 0 ≤ j ∧ j ≤ 5) (hb : x + j = (b : Int)) (hq : q ≤ 1000) (hp : q * b = p) :
    Calls Try.prog 129 #[.agg #[.int .i8 x, .int .i16 y], .int .i64 (q : Int), .int .i64 j] w fun e w' => e = .returned (.int .i64 (p : Int)) ∧ Below w.heap.size w w' := by
  subst hp; exact roomFor_any x y j q b w hx hj hb hq
theorem fittingP_any (x j : Int) (cnt a b mi : Nat) (w : World) (hx : 1 ≤ x ∧ x ≤ 20) (hj : 0 ≤ j ∧ j ≤ 5) (hb : x + j = (b : Int)) (hcnt : cnt ≤ 60) (ha : a ≤ 1000) (hm : min cnt (a / b) = mi) :
    Calls Try.prog 128 #[.agg #[.int .i8 x, .int .i16 (cnt : Int)], .int .i64 (a : Int), .int .i64 j] w fun e w' => e = .returned (.int .i64 (mi : Int)) ∧ Below w.heap.size w w' := by
  subst hm; exact fitting_any x j cnt a b w hx hj hb hcnt ha

/-- sorts whose numbers are within their bounds. -/
def EOk (n : Nat) (c d : Nat → Int) : Prop := n ≤ 6 ∧ ∀ j, j < n → (1 ≤ c j ∧ c j ≤ 20) ∧ (0 ≤ d j ∧ d j ≤ 60)
theorem SOk.e {n : Nat} {c d : Nat → Int} (h : SOk n c d) : EOk n c d := ⟨h.1.2, fun j hj => ⟨(h.2 j hj).1, (h.2 j hj).2.1⟩⟩
/-- a sort's width with its joint, and its count. -/
def bF (n : Nat) (c : Nat → Int) (k : Int) (i : Nat) : Nat := if i < n then (c i + k).toNat else 1
def qF (n : Nat) (d : Nat → Int) (i : Nat) : Nat := if i < n then (d i).toNat else 0
theorem bF_one {n : Nat} {c d : Nat → Int} {k : Int} (h : EOk n c d) (hk : JointOk k) (i : Nat) : 1 ≤ bF n c k i := by
  unfold bF
  by_cases hi : i < n
  · rw [if_pos hi]; have := (h.2 i hi).1; have := hk.1; omega
  · rw [if_neg hi]; omega
theorem qF_60 {n : Nat} {c d : Nat → Int} (h : EOk n c d) (i : Nat) : qF n d i ≤ 60 := by
  unfold qF
  by_cases hi : i < n
  · rw [if_pos hi]; have := (h.2 i hi).2; omega
  · rw [if_neg hi]; omega
theorem bF_eq {n : Nat} {c d : Nat → Int} {k : Int} (h : EOk n c d) (hk : JointOk k) {i : Nat} (hi : i < n) : c i + k = (bF n c k i : Int) ∧ bF n c k i ≤ 25 := by
  unfold bF; rw [if_pos hi]; have := (h.2 i hi).1; have := hk; unfold JointOk at this; omega
theorem qF_eq {n : Nat} {c d : Nat → Int} (h : EOk n c d) {i : Nat} (hi : i < n) : d i = (qF n d i : Int) := by
  unfold qF; rw [if_pos hi]; have := (h.2 i hi).2; omega

/-- the table has nothing yet, or what is right. -/
def TabI (W : World) (tb : Nat) (F : Nat → Nat → Int) : Prop :=
  tb < W.heap.size ∧ ∃ X : Nat → Nat → Int, ∀ f r, f < 6 → r < 406 → (W.cell? ⟨tb, f * 406 + r, none⟩ = some (.int .i64 (X f r)) ∧ W.frozen? ⟨tb, f * 406 + r, none⟩ = false) ∧ (X f r = 0 ∨ X f r = F f r + 1)
theorem TabI.kept {W W' : World} {tb : Nat} {F : Nat → Nat → Int} (h : TabI W tb F) (hs : W.heap.size ≤ W'.heap.size) (e : W'.heap[tb]? = W.heap[tb]?) : TabI W' tb F := by
  obtain ⟨h1, X, h2⟩ := h
  refine ⟨by omega, X, fun f r hf hr => ?_⟩
  obtain ⟨⟨a1, a2⟩, a3⟩ := h2 f r hf hr
  exact ⟨⟨(World.cell?_of_block (w := W) e).trans a1, (World.frozen?_of_block (w := W) e).trans a2⟩, a3⟩
theorem TabI.below {W W' : World} {tb : Nat} {F : Nat → Nat → Int} (h : TabI W tb F) (hb : Below W.heap.size W W') : TabI W' tb F := h.kept hb.size (hb.block tb h.1)
theorem TabI.set {W : World} {tb : Nat} {F : Nat → Nat → Int} (h : TabI W tb F) {i r : Nat} (hi : i < 6) (hr : r < 406) : TabI (W.setCell ⟨tb, i * 406 + r, none⟩ (.int .i64 (F i r + 1))) tb F := by
  obtain ⟨h1, X, h2⟩ := h
  refine ⟨by simpa using h1, fun f s => if f = i ∧ s = r then F i r + 1 else X f s, fun f s hf hs => ?_⟩
  obtain ⟨⟨a1, a2⟩, a3⟩ := h2 f s hf hs
  dsimp only
  by_cases e : f = i ∧ s = r
  · obtain ⟨rfl, rfl⟩ := e
    refine ⟨⟨?_, by rw [World.frozen?_setCell]; exact a2⟩, ?_⟩
    · rw [if_pos ⟨rfl, rfl⟩]; exact World.cell?_setCell_same' _ _ _ (by rw [a1]; rfl)
    · rw [if_pos ⟨rfl, rfl⟩]; exact .inr rfl
  · rw [if_neg e]
    refine ⟨⟨?_, by rw [World.frozen?_setCell]; exact a2⟩, a3⟩
    rw [World.cell?_setCell_other _ _ _ _ (fun he => e (by injection he; omega))]
    exact a1
/-- what a function keeps that writes the table alone. -/
def KT (N tb : Nat) (W W' : World) : Prop := Below tb W W' ∧ ∀ j, j < W.heap.size → j ≠ tb → W'.heap[j]? = W.heap[j]?
theorem KT.refl (N tb : Nat) (W : World) : KT N tb W W := ⟨Below.refl _ _, fun _ _ _ => rfl⟩
theorem KT.trans {N tb : Nat} {A B C : World} (h : KT N tb A B) (k : KT N tb B C) : KT N tb A C := ⟨h.1.trans k.1, fun j hj hne => (k.2 j (Nat.lt_of_lt_of_le hj h.1.size) hne).trans (h.2 j hj hne)⟩
theorem KT.below {N tb : Nat} {W W' : World} (hb : Below W.heap.size W W') (ht : tb < W.heap.size) : KT N tb W W' := ⟨hb.mono (by omega), fun j hj _ => hb.block j hj⟩
theorem KT.set {N tb o : Nat} {W : World} (v : Value) : KT N tb W (W.setCell ⟨tb, o, none⟩ v) := ⟨(Below.refl _ _).setCell (p := ⟨tb, o, none⟩) (Nat.le_refl _) _, fun j _ hne => Below.heap_setCell W _ _ _ hne⟩
theorem KT.cell {N tb j o : Nat} {W W' : World} (h : KT N tb W W') (hN : N ≤ W.heap.size) (hj : j < N) (hne : j ≠ tb) : W'.cell? ⟨j, o, none⟩ = W.cell? ⟨j, o, none⟩ := World.cell?_of_block (h.2 j (by omega) hne)
/-- the boxes of the function, and the setts. -/
def FB (N lb tb jb fb : Nat) (A : Option Addr) (n cap : Nat) (c d : Nat → Int) (k : Int) (W : World) : Prop :=
  (N ≤ W.heap.size ∧ tb < N) ∧ (lb < N ∧ lb ≠ tb ∧ W.cell? ⟨lb, 0, none⟩ = some (.slice A n cap)) ∧ (jb < N ∧ jb ≠ tb ∧ W.cell? ⟨jb, 0, none⟩ = some (.int .i64 k)) ∧
  (fb < N ∧ fb ≠ tb ∧ W.cell? ⟨fb, 0, none⟩ = some (.func (.func 190) #[] #[.pointer (some ⟨lb, 0, none⟩), .pointer (some ⟨tb, 0, none⟩), .pointer (some ⟨jb, 0, none⟩), .pointer (some ⟨fb, 0, none⟩)])) ∧
  (0 < n → ∃ bl off, A = some ⟨bl, off, none⟩ ∧ bl < N ∧ bl ≠ tb ∧ ∀ j, j < n → W.cell? ⟨bl, off + j * 2, none⟩ = some (.int .i8 (c j)) ∧ W.cell? ⟨bl, off + j * 2 + 1, none⟩ = some (.int .i16 (d j)))
theorem FB.kt {N lb tb jb fb : Nat} {A : Option Addr} {n cap : Nat} {c d : Nat → Int} {k : Int} {W W' : World} (h : FB N lb tb jb fb A n cap c d k W) (hk : KT N tb W W') : FB N lb tb jb fb A n cap c d k W' := by
  obtain ⟨⟨h0, h00⟩, ⟨a1, a2, a3⟩, ⟨b1, b2, b3⟩, ⟨c1, c2, c3⟩, h4⟩ := h
  refine ⟨⟨Nat.le_trans h0 hk.1.size, h00⟩, ⟨a1, a2, (hk.cell h0 a1 a2).trans a3⟩, ⟨b1, b2, (hk.cell h0 b1 b2).trans b3⟩, ⟨c1, c2, (hk.cell h0 c1 c2).trans c3⟩, fun hn => ?_⟩
  obtain ⟨bl, off, e, d1, d2, d3⟩ := h4 hn
  exact ⟨bl, off, e, d1, d2, fun j hj => ⟨(hk.cell h0 d1 d2).trans (d3 j hj).1, (hk.cell h0 d1 d2).trans (d3 j hj).2⟩⟩
/-- what the function answers. -/
def FPost (N tb : Nat) (F : Nat → Nat → Int) (i r : Nat) (W : World) (e : Ending) (W' : World) : Prop :=
  e = .returned (.int .i64 (F i r)) ∧ KT N tb W W' ∧ TabI W' tb F

theorem fewest_end (N lb tb jb fb : Nat) (A : Option Addr) (n cap : Nat) (c d : Nat → Int) (k : Int) (r : Nat) (w : World) (hn : n ≤ 6) (hB : FB N lb tb jb fb A n cap c d k w) (hT : TabI w tb (FF (bF n c k) (qF n d) n)) :
    Calls Try.prog 190 #[.int .i64 (n : Int), .int .i64 (r : Int), .pointer (some ⟨lb, 0, none⟩), .pointer (some ⟨tb, 0, none⟩), .pointer (some ⟨jb, 0, none⟩), .pointer (some ⟨fb, 0, none⟩)] w (FPost N tb (FF (bF n c k) (qF n d) n) n r w) := by
  obtain ⟨_, ⟨_, _, a3⟩, _⟩ := hB
  have HT := Lib.hid hT
  have hF := FF_end (bF n c k) (qF n d) n r
  have HF := Lib.hid hF
  clear hT hF
  by_cases h : r = 0
  · have hr0 : ((r : Int) == 0) = true := by simpa using h
    have H := Lib.hid h
    clear h
    go_enter Try.func190, Try.ntmps190
    go_wp2_with fail
    go_ret
    exact ⟨by rw [HF.out, if_pos H.out]; rfl, KT.refl _ _ _, HT.out⟩
  · have hr0 : ((r : Int) == 0) = false := by simpa using h
    have hnn : ((n : Int) == (n : Int)) = true := by simp
    have H := Lib.hid h
    clear h
    go_enter Try.func190, Try.ntmps190
    go_wp2_with fail
    go_ret
    exact ⟨by rw [HF.out, if_neg H.out]; rfl, KT.refl _ _ _, HT.out⟩

theorem fewest_step (N lb tb jb fb : Nat) (A : Option Addr) (n cap : Nat) (c d : Nat → Int) (k : Int) (i r : Nat) (w : World) (hi : i < n) (hr : r ≤ 405) (hs : EOk n c d) (hk : JointOk k) (hB : FB N lb tb jb fb A n cap c d k w) (hT : TabI w tb (FF (bF n c k) (qF n d) n))
    (IH : ∀ (s : Nat) (W : World), s ≤ 405 → FB N lb tb jb fb A n cap c d k W → TabI W tb (FF (bF n c k) (qF n d) n) →
      Calls Try.prog 190 #[.int .i64 ((i : Int) + 1), .int .i64 (s : Int), .pointer (some ⟨lb, 0, none⟩), .pointer (some ⟨tb, 0, none⟩), .pointer (some ⟨jb, 0, none⟩), .pointer (some ⟨fb, 0, none⟩)] W (FPost N tb (FF (bF n c k) (qF n d) n) (i + 1) s W)) :
    Calls Try.prog 190 #[.int .i64 (i : Int), .int .i64 (r : Int), .pointer (some ⟨lb, 0, none⟩), .pointer (some ⟨tb, 0, none⟩), .pointer (some ⟨jb, 0, none⟩), .pointer (some ⟨fb, 0, none⟩)] w (FPost N tb (FF (bF n c k) (qF n d) n) i r w) := by
  have hn6 := hs.1
  have hq60 := qF_60 hs
  have hb1 := bF_one hs hk
  have hF0 := FF_zero (bF n c k) (qF n d) n i hn6 hq60 hb1
  have hstep := FF_step (bF n c k) (qF n d) n i r hi
  have hroom := FF_room (bF n c k) (qF n d) n i r hn6 hq60
  have hroomX := fun s => FF_room (bF n c k) (qF n d) n (i + 1) s hn6 hq60
  obtain ⟨eby, hby2⟩ := bF_eq hs hk hi
  have ecnt := qF_eq hs hi
  have hby := hb1 i
  have hcnt := hq60 i
  have hx := (hs.2 i hi).1
  unfold JointOk at hk
  obtain ⟨F, hF⟩ : ∃ F, F = FF (bF n c k) (qF n d) n := ⟨_, rfl⟩
  rw [← hF] at hT IH hF0 hstep hroom ⊢
  simp only [← hF] at hroomX
  obtain ⟨by', hbb⟩ : ∃ by', by' = bF n c k i := ⟨_, rfl⟩
  obtain ⟨cnt, hcc⟩ : ∃ cnt, cnt = qF n d i := ⟨_, rfl⟩
  rw [← hbb] at hstep eby hby2 hby
  rw [← hcc] at hstep ecnt hcnt
  obtain ⟨x, ex⟩ : ∃ x, x = c i := ⟨_, rfl⟩
  rw [← ex] at hx eby
  have HF0 := Lib.hid hF0
  have HST := Lib.hid hstep
  have HIH := Lib.hid IH
  have HT := Lib.hid hT
  have HB := Lib.hid hB
  have HRX := Lib.hid hroomX
  have HE := Lib.hid eby
  clear hF hbb hcc hF0 hstep IH hq60 hb1 hs hT hroomX eby
  by_cases h : r = 0
  · have hr0 : ((r : Int) == 0) = true := by simpa using h
    have H := Lib.hid h
    clear h hB
    go_enter Try.func190, Try.ntmps190
    go_wp2_with fail
    go_ret
    exact ⟨by rw [H.out, HF0.out]; rfl, KT.refl _ _ _, HT.out⟩
  have hr0 : ((r : Int) == 0) = false := by simpa using h
  have hin : ((i : Int) == (n : Int)) = false := by simp; omega
  have hi6 : (i : Int) < 6 := by omega
  have hi0 : 0 ≤ (i : Int) := by omega
  have hr406 : (r : Int) < 406 := by omega
  have hlt : (i : Int) < (n : Int) := by omega
  obtain ⟨_, ⟨a1, a2, a3⟩, ⟨b1, b2, b3⟩, ⟨c1, c2, c3⟩, h4⟩ := hB
  obtain ⟨bl, off, rfl, d1, d2, d3⟩ := h4 (by omega)
  obtain ⟨e1, e2⟩ := d3 i hi
  rw [← ex] at e1
  rw [ecnt] at e2
  obtain ⟨_, X, hX⟩ := HT.out
  obtain ⟨⟨f1, f2⟩, f3⟩ := hX i r (by omega) (by omega)
  obtain ⟨kn, hkn⟩ : ∃ kn, kn = X i r := ⟨_, rfl⟩
  rw [← hkn] at f1 f3
  have HX := Lib.hid (And.intro ex ecnt)
  clear h h4 d3 hX hkn ex ecnt
  rcases f3 with f3 | f3
  case inr =>
    have hpos : decide (0 < kn) = true := by simp; omega
    have hsub : kn - 1 = F i r := by omega
    have H3 := Lib.hid hsub
    have hkn2 : 0 < kn ∧ kn ≤ 362 := by omega
    clear f3 hsub
    go_enter Try.func190, Try.ntmps190
    go_wp2_with fail
    go_ret
    exact ⟨by rw [← H3.out]; rfl, KT.refl _ _ _, HT.out⟩
  subst f3
  obtain ⟨mi, hmi⟩ : ∃ mi, min cnt (r / by') = mi := ⟨_, rfl⟩
  have hmi60 : mi ≤ 60 := by omega
  have v1 : IntKind.i64.wrap ((mi : Int) + 1) = (mi : Int) + 1 := IntWalk.i64_in _ (by omega)
  have HMI := Lib.hid hmi
  have HN := HB.out.1.1
  have HTB := HB.out.1.2
  clear hmi
  go_enter Try.func190, Try.ntmps190
  go_wp2_with fail
  have p0 : w.drew.cell? ⟨lb, 0, none⟩ = some (.slice (some ⟨bl, off, none⟩) n cap) := a3
  have p1 : w.drew.cell? ⟨bl, off + i * 2, none⟩ = some (.int .i8 x) := e1
  have p2 : w.drew.cell? ⟨bl, off + i * 2 + 1, none⟩ = some (.int .i16 (cnt : Int)) := e2
  have p3 : w.drew.cell? ⟨jb, 0, none⟩ = some (.int .i64 k) := b3
  have BD : Below w.heap.size w w.drew := (Below.refl _ _).drew
  have hzd : w.drew.heap.size = w.heap.size := rfl
  have HZD := Lib.hid hzd
  clear hzd a3 e1 e2 b3 c3 f1 f2
  go_region_held3 (fun w' => w'.cell? ⟨lb, 0, none⟩ = some (.slice (some ⟨bl, off, none⟩) n cap) ∧ w'.cell? ⟨bl, off + i * 2, none⟩ = some (.int .i8 x) ∧ w'.cell? ⟨bl, off + i * 2 + 1, none⟩ = some (.int .i16 (cnt : Int)) ∧ w'.cell? ⟨jb, 0, none⟩ = some (.int .i64 k))
    (first | exact ⟨p0, p1, p2, p3⟩)
    (first
      | (go_at_call 128
         refine (fittingP_any x k cnt r by' mi _ hx hk HE.out hcnt (by omega) HMI.out).mono ?_
         rintro e w3 ⟨rfl, hb3⟩
         have hz := HZD.out
         replace p0 := (hb3.cell (p := ⟨lb, 0, none⟩) (by show lb < w.drew.heap.size; omega)).trans p0
         replace p1 := (hb3.cell (p := ⟨bl, off + i * 2, none⟩) (by show bl < w.drew.heap.size; omega)).trans p1
         replace p2 := (hb3.cell (p := ⟨bl, off + i * 2 + 1, none⟩) (by show bl < w.drew.heap.size; omega)).trans p2
         replace p3 := (hb3.cell (p := ⟨jb, 0, none⟩) (by show jb < w.drew.heap.size; omega)).trans p3
         replace BD := nxt BD hb3
         clear hz hb3))
  have hfit : fitN by' cnt r = mi + 1 := by unfold fitN; rw [HMI.out]
  have HFIT := Lib.hid hfit
  have hT3 := HT.out.below BD
  have hK3 : KT N tb w w3 := KT.below BD (by omega)
  have HT3 := Lib.hid hT3
  have HK3 := Lib.hid hK3
  clear hfit hT3 hK3 p0 p1 p2 p3 BD
  go_wp2_with fail
  go_loopw [10, 11, 12, 36] (fun t10 t11 t12 t36 wr => ∃ q : Nat, q ≤ mi + 1 ∧ t36 = .int .i64 q ∧ t10 = .int .i64 (fS (F (i + 1)) by' r q) ∧ KT N tb w wr ∧ TabI wr tb F) (fun t10 t11 t12 t36 wr => mi + 1 - (intOf t36).toNat)
  case atStart => exact ⟨0, Nat.zero_le _, rfl, rfl, HK3.out, HT3.out⟩
  case round =>
    clear HK3 HT3
    obtain ⟨q, hq, rfl, rfl, hK, hT⟩ := hrel
    obtain ⟨wo, rfl⟩ : ∃ wo : World, wo = wr := ⟨_, rfl⟩
    have HK := Lib.hid hK
    have HTw := Lib.hid hT
    clear hK hT
    have hmi1 : (((mi + 1 : Nat)) : Int) = (mi : Int) + 1 := by omega
    by_cases hqm : q < mi + 1
    · have hqi : (q : Int) < (mi : Int) + 1 := by omega
      have h2 : q * by' ≤ r := (fitN_le (cnt := cnt) (show 0 < by' by omega) (by rw [HFIT.out]; exact hqm)).2
      obtain ⟨p, hp⟩ : ∃ p, q * by' = p := ⟨_, rfl⟩
      rw [hp] at h2
      have HP := Lib.hid hp
      obtain ⟨s, hs⟩ : ∃ s, s = r - p := ⟨_, rfl⟩
      have hsi : (r : Int) - (p : Int) = (s : Int) := by omega
      have hs405 : s ≤ 405 := by omega
      have vs : IntKind.i64.wrap ((r : Int) - (p : Int)) = (s : Int) := by rw [hsi]; exact IntWalk.i64_in _ (by omega)
      have vs2 : IntKind.i64.wrap (s : Int) = (s : Int) := IntWalk.i64_in _ (by omega)
      have vi : IntKind.i64.wrap ((i : Int) + 1) = (i : Int) + 1 := IntWalk.i64_in _ (by omega)
      have HS := Lib.hid hs
      clear hs hp
      have hFBo := HB.out.kt HK.out
      have HFBo := Lib.hid hFBo
      obtain ⟨⟨hNo, _⟩, ⟨_, _, a3⟩, ⟨_, _, b3⟩, ⟨_, _, c3⟩, h4⟩ := hFBo
      obtain ⟨bl', off', e', _, _, d3⟩ := h4 (by omega)
      injection e' with e'
      injection e' with eb eo _
      subst eb eo
      obtain ⟨e1, e2⟩ := d3 i hi
      rw [← HX.out.1] at e1
      rw [HX.out.2] at e2
      have p0 : wo.drew.cell? ⟨lb, 0, none⟩ = some (.slice (some ⟨bl, off, none⟩) n cap) := a3
      have p1 : wo.drew.cell? ⟨bl, off + i * 2, none⟩ = some (.int .i8 x) := e1
      have p2 : wo.drew.cell? ⟨bl, off + i * 2 + 1, none⟩ = some (.int .i16 (cnt : Int)) := e2
      have p3 : wo.drew.cell? ⟨jb, 0, none⟩ = some (.int .i64 k) := b3
      have p4 : wo.drew.cell? ⟨fb, 0, none⟩ = some (.func (.func 190) #[] #[.pointer (some ⟨lb, 0, none⟩), .pointer (some ⟨tb, 0, none⟩), .pointer (some ⟨jb, 0, none⟩), .pointer (some ⟨fb, 0, none⟩)]) := c3
      have hTd : TabI wo.drew tb F := HTw.out
      have hKd : KT N tb wo wo.drew := ⟨(Below.refl _ _).drew, fun _ _ _ => rfl⟩
      have hzd : wo.drew.heap.size = wo.heap.size := rfl
      have HZD := Lib.hid hzd
      clear hzd h4 d3 a3 b3 c3 e1 e2
      go_wp2_with fail
      go_region_held3 (fun w' => w'.cell? ⟨lb, 0, none⟩ = some (.slice (some ⟨bl, off, none⟩) n cap) ∧ w'.cell? ⟨bl, off + i * 2, none⟩ = some (.int .i8 x) ∧ w'.cell? ⟨bl, off + i * 2 + 1, none⟩ = some (.int .i16 (cnt : Int)) ∧ w'.cell? ⟨jb, 0, none⟩ = some (.int .i64 k) ∧ w'.cell? ⟨fb, 0, none⟩ = some (.func (.func 190) #[] #[.pointer (some ⟨lb, 0, none⟩), .pointer (some ⟨tb, 0, none⟩), .pointer (some ⟨jb, 0, none⟩), .pointer (some ⟨fb, 0, none⟩)]))
        (first | exact ⟨p0, p1, p2, p3, p4⟩)
        (first
          | (go_at_call 129
             with_reducible refine (roomForP_any x (cnt : Int) k q by' p _ hx hk HE.out (by omega) HP.out).mono ?_
             rintro e w4 ⟨rfl, hb4⟩
             have hz := HZD.out
             replace hKd := hKd.trans (KT.below (N := N) (tb := tb) hb4 (by omega))
             replace hTd := hTd.below hb4
             replace p0 := (hb4.cell (p := ⟨lb, 0, none⟩) (by show lb < wo.drew.heap.size; omega)).trans p0
             replace p1 := (hb4.cell (p := ⟨bl, off + i * 2, none⟩) (by show bl < wo.drew.heap.size; omega)).trans p1
             replace p2 := (hb4.cell (p := ⟨bl, off + i * 2 + 1, none⟩) (by show bl < wo.drew.heap.size; omega)).trans p2
             replace p3 := (hb4.cell (p := ⟨jb, 0, none⟩) (by show jb < wo.drew.heap.size; omega)).trans p3
             replace p4 := (hb4.cell (p := ⟨fb, 0, none⟩) (by show fb < wo.drew.heap.size; omega)).trans p4
             clear hz hb4)
          | (go_at_call 190
             with_reducible refine (HIH.out s _ hs405 (HFBo.out.kt hKd) hTd).mono ?_
             rintro e w5 ⟨rfl, hK5, hT5⟩
             have hN4 := Nat.le_trans hNo hKd.1.size
             replace hKd := hKd.trans hK5
             replace hTd := hT5
             replace p0 := (hK5.cell hN4 a1 a2).trans p0
             replace p1 := (hK5.cell hN4 d1 d2).trans p1
             replace p2 := (hK5.cell hN4 d1 d2).trans p2
             replace p3 := (hK5.cell hN4 b1 b2).trans p3
             replace p4 := (hK5.cell hN4 c1 c2).trans p4
             clear hK5 hT5 hN4))
      have hes : fS (F (i + 1)) by' r (q + 1) = if (q : Int) + F (i + 1) s < fS (F (i + 1)) by' r q then (q : Int) + F (i + 1) s else fS (F (i + 1)) by' r q := by rw [fS, HP.out, ← HS.out]
      obtain ⟨f0, hf0⟩ : ∃ f0, f0 = fS (F (i + 1)) by' r q := ⟨_, rfl⟩
      obtain ⟨g0, hg0⟩ : ∃ g0, g0 = F (i + 1) s := ⟨_, rfl⟩
      have hgb := HRX.out s
      rw [← hf0, ← hg0] at hes ⊢
      rw [← hg0] at hgb
      have HES := Lib.hid hes
      have HKd := Lib.hid (HK.out.trans hKd)
      have HTd := Lib.hid hTd
      clear hf0 hg0 hes p0 p1 p2 p3 p4 hKd hTd
      by_cases hmin : (q : Int) + g0 < f0
      · have D : min f0 ((q : Int) + g0) = (q : Int) + g0 := by omega
        go_wp2_with fail
        exact ⟨⟨q + 1, by omega, by first | go_num | simp, by rw [HES.out, if_pos hmin], HKd.out, HTd.out⟩, by simp [intOf]; omega⟩
      · have D : min f0 ((q : Int) + g0) = f0 := by omega
        go_wp2_with fail
        exact ⟨⟨q + 1, by omega, by first | go_num | simp, by rw [HES.out, if_neg hmin], HKd.out, HTd.out⟩, by simp [intOf]; omega⟩
    · obtain rfl : q = mi + 1 := by omega
      have hqi : ¬ (((mi + 1 : Nat) : Int) < (mi : Int) + 1) := by omega
      have hfin : fS (F (i + 1)) by' r (mi + 1) = F i r := by rw [HST.out, HFIT.out]
      rw [hfin]
      obtain ⟨z, hz⟩ : ∃ z, z = F i r := ⟨_, rfl⟩
      rw [← hz] at hroom ⊢
      obtain ⟨_, X, hX⟩ := HTw.out
      obtain ⟨⟨f1, f2⟩, _⟩ := hX i r (by omega) (by omega)
      have hset := HTw.out.set (i := i) (r := r) (by omega) (by omega)
      rw [← hz] at hset
      have HSET := Lib.hid hset
      have HZ := Lib.hid hz
      clear hX hset hz hfin
      go_wp2_with fail
      go_ret
      exact ⟨by rw [← HZ.out]; rfl, HK.out.trans (KT.set _), HSET.out⟩

theorem fewest_any (N lb tb jb fb : Nat) (A : Option Addr) (n cap : Nat) (c d : Nat → Int) (k : Int) (hs : EOk n c d) (hk : JointOk k) : ∀ (m i : Nat), i + m = n → ∀ (r : Nat) (w : World), r ≤ 405 → FB N lb tb jb fb A n cap c d k w → TabI w tb (FF (bF n c k) (qF n d) n) →
    Calls Try.prog 190 #[.int .i64 (i : Int), .int .i64 (r : Int), .pointer (some ⟨lb, 0, none⟩), .pointer (some ⟨tb, 0, none⟩), .pointer (some ⟨jb, 0, none⟩), .pointer (some ⟨fb, 0, none⟩)] w (FPost N tb (FF (bF n c k) (qF n d) n) i r w)
  | 0, i, hi, r, w, hr, hB, hT => by
    obtain rfl : i = n := by omega
    exact fewest_end N lb tb jb fb A i cap c d k r w hs.1 hB hT
  | m + 1, i, hi, r, w, hr, hB, hT => fewest_step N lb tb jb fb A n cap c d k i r w (by omega) hr hs hk hB hT fun s W hs' hB' hT' =>
    fewest_any N lb tb jb fb A n cap c d k hs hk m (i + 1) (by omega) s W hs' hB' hT'

def isZ : Value → Bool
  | .int .i64 (Int.ofNat 0) => true
  | _ => false
theorem zeros_all : Try.zeroCells203.toList.all isZ = true := by kernel_rfl
theorem zeros_at {j : Nat} (h : j < 2436) : Try.zeroCells203[j]? = some (.int .i64 0) := by
  have hs : j < Try.zeroCells203.toList.length := by rw [Array.length_toList, Try.zeroCells203_size]; exact h
  have ha := (List.all_eq_true.1 zeros_all) _ (List.getElem_mem hs)
  rw [← Array.getElem?_toList, List.getElem?_eq_getElem hs]
  revert ha
  generalize Try.zeroCells203.toList[j] = v
  intro ha
  unfold isZ at ha
  split at ha
  · rfl
  · cases ha

theorem fewestBy_any (A : Option Addr) (n cap : Nat) (c d : Nat → Int) (k : Int) (w : World) (hr : RdS w w.heap.size A n c d) :
    Calls Try.prog 169 #[.slice A n cap, .int .i64 k] w fun e w' => e = .returned (.func (.func 190) #[] #[.pointer (some ⟨w.heap.size, 0, none⟩), .pointer (some ⟨w.heap.size + 2, 0, none⟩), .pointer (some ⟨w.heap.size + 1, 0, none⟩), .pointer (some ⟨w.heap.size + 3, 0, none⟩)]) ∧
      Below w.heap.size w w' ∧ w'.heap.size = w.heap.size + 4 ∧ FB (w.heap.size + 4) w.heap.size (w.heap.size + 2) (w.heap.size + 1) (w.heap.size + 3) A n cap c d k w' ∧ TabI w' (w.heap.size + 2) (FF (bF n c k) (qF n d) n) := by
  have hmf : ∀ (fn : Fn) (first cap : Array Value) (w : World), (Instr.makeFunc fn first cap).run Try.prog w = .ok (.func fn first cap) w := fun _ _ _ _ => rfl
  go_enter Try.func169, Try.ntmps169
  go_wp2_with fail
  obtain ⟨W1, hW1⟩ : ∃ W1 : World, W1 = w.alloc (.cells #[.slice A n cap] 25) := ⟨_, rfl⟩
  obtain ⟨W2, hW2⟩ : ∃ W2 : World, W2 = W1.alloc (.cells #[.int .i64 k] 2) := ⟨_, rfl⟩
  obtain ⟨W3, hW3⟩ : ∃ W3 : World, W3 = W2.alloc (.cells Try.zeroCells203 203) := ⟨_, rfl⟩
  have s1 : W1.heap.size = w.heap.size + 1 := by rw [hW1]; simp
  have s2 : W2.heap.size = w.heap.size + 2 := by rw [hW2]; simp; omega
  have s3 : W3.heap.size = w.heap.size + 3 := by rw [hW3]; simp; omega
  rw [← hW1, ← hW2, ← hW3]
  obtain ⟨W4, hW4⟩ : ∃ W4 : World, W4 = W3.alloc (.cells #[.func (.func 190) #[] #[.pointer (some ⟨w.heap.size, 0, none⟩), .pointer (some ⟨w.heap.size + 1 + 1, 0, none⟩), .pointer (some ⟨w.heap.size + 1, 0, none⟩), .pointer (some ⟨w.heap.size + 1 + 1 + 1, 0, none⟩)]] 170) := ⟨_, rfl⟩
  have s4 : W4.heap.size = w.heap.size + 4 := by rw [hW4]; simp; omega
  have b1 : Below w.heap.size w W1 := by rw [hW1]; exact al (Below.refl _ _) _
  have b2 : Below w.heap.size w W2 := by rw [hW2]; exact al b1 _
  have b3 : Below w.heap.size w W3 := by rw [hW3]; exact al b2 _
  have b4 : Below w.heap.size w W4 := by rw [hW4]; exact al b3 _
  have h1 : W4.heap[w.heap.size]? = some (.cells #[.slice A n cap] 25 (0, 0)) := by
    rw [hW4]; refine (Below.heap_alloc _ _ _ (by omega)).trans ?_
    rw [hW3]; refine (Below.heap_alloc _ _ _ (by omega)).trans ?_
    rw [hW2]; refine (Below.heap_alloc _ _ _ (by omega)).trans ?_
    rw [hW1]; exact heap_alloc_new w _
  have h2 : W4.heap[w.heap.size + 1]? = some (.cells #[.int .i64 k] 2 (0, 0)) := by
    rw [hW4]; refine (Below.heap_alloc _ _ _ (by omega)).trans ?_
    rw [hW3]; refine (Below.heap_alloc _ _ _ (by omega)).trans ?_
    rw [hW2]; have := heap_alloc_new W1 (.cells #[.int .i64 k] 2); rwa [s1] at this
  have h3 : W4.heap[w.heap.size + 2]? = some (.cells Try.zeroCells203 203 (0, 0)) := by
    rw [hW4]; refine (Below.heap_alloc _ _ _ (by omega)).trans ?_
    rw [hW3]; have := heap_alloc_new W2 (.cells Try.zeroCells203 203); rwa [s2] at this
  have h4 : W4.heap[w.heap.size + 3]? = some (.cells #[.func (.func 190) #[] #[.pointer (some ⟨w.heap.size, 0, none⟩), .pointer (some ⟨w.heap.size + 2, 0, none⟩), .pointer (some ⟨w.heap.size + 1, 0, none⟩), .pointer (some ⟨w.heap.size + 3, 0, none⟩)]] 170 (0, 0)) := by
    rw [hW4]; have := heap_alloc_new W3 (.cells #[.func (.func 190) #[] #[.pointer (some ⟨w.heap.size, 0, none⟩), .pointer (some ⟨w.heap.size + 1 + 1, 0, none⟩), .pointer (some ⟨w.heap.size + 1, 0, none⟩), .pointer (some ⟨w.heap.size + 1 + 1 + 1, 0, none⟩)]] 170); rwa [s3] at this
  rw [← hW4]
  clear hW1 hW2 hW3 hW4
  go_ret
  refine ⟨rfl, b4, s4, ⟨⟨by omega, by omega⟩, ⟨by omega, by omega, ?_⟩, ⟨by omega, by omega, ?_⟩, ⟨by omega, by omega, ?_⟩, fun hn => ?_⟩, by omega, fun _ _ => 0, fun f r hf hr => ⟨⟨?_, ?_⟩, .inl rfl⟩⟩
  · rw [cell_of_row _ _ 0 _ _ _ h1]; rfl
  · rw [cell_of_row _ _ 0 _ _ _ h2]; rfl
  · rw [cell_of_row _ _ 0 _ _ _ h4]; rfl
  · obtain ⟨bl, off, e, hb, hc⟩ := (hr.below b4) hn
    exact ⟨bl, off, e, by omega, by omega, hc⟩
  · rw [cell_of_row _ _ _ _ _ _ h3]; exact zeros_at (by omega)
  · exact frozen_of_row _ _ _ _ _ h3
end Go.Proofs.Ytjeccdmhpbaabaa
