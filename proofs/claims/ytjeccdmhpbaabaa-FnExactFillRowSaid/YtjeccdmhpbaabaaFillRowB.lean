/-
  Both sides of FillRow answer the same. Conditions stand at each.
-/
import Derived.Test.YtjeccdmhpbaabaaRows
import Derived.Test.YtjeccdmhpbaabaaFillS
namespace Go.Proofs.Ytjeccdmhpbaabaa
open Go Go.ChangeShapes Go.WideShapes Go.ChangeAt Go.RowKit
set_option linter.unusedVariables false
set_option linter.unusedSimpArgs false
set_option maxRecDepth 100000
set_option maxHeartbeats 2000000
namespace fillRow
def Post (s f : Prop) (t : Int) (K : List Int) (w : World) (e : Ending) (w' : World) : Prop :=
  Below w.heap.size w w' ∧ ((s ∧ f ∧ 0 ≤ t ∧ ∃ v, e = .returned (.tuple #[v, .int .i64 t, .int .i64 0]) ∧ OwnI w' w.heap.size v K) ∨ (s ∧ f ∧ t < 0 ∧ ∃ v, e = .returned (.tuple #[v, .int .i64 0, .int .i64 6]) ∧ OwnI w' w.heap.size v []) ∨
    (¬ s ∧ ∃ v, e = .returned (.tuple #[v, .int .i64 0, .int .i64 1]) ∧ OwnI w' w.heap.size v []) ∨ (s ∧ ¬ f ∧ ∃ v, e = .returned (.tuple #[v, .int .i64 0, .int .i64 2]) ∧ OwnI w' w.heap.size v []))

theorem spec_any (A : Option Addr) (n : Nat) (c d : Nat → Int) (l k : Int) (w : World) (hn : n ≤ 1048576) (hr : RdS w w.heap.size A n c d) (hc : ∀ j, -128 ≤ c j ∧ c j ≤ 127) (hd : ∀ j, -32768 ≤ d j ∧ d j ≤ 32767) :
    Calls Try.prog 60 #[.slice A n n, .int .i64 l, .int .i64 k] w (Post (SOk n c d) (JointOk k ∧ LongOk l) (TT (bF n c k) (qF n d) n 0 (l + k).toNat) (kL (bF n c k) (qF n d) n (l + k).toNat n) w) := by
  have HR := Lib.hid hr
  have HC := Lib.hid hc
  have HD := Lib.hid hd
  clear hr hc hd
  obtain ⟨L, hLt⟩ : ∃ L, L = (l + k).toNat := ⟨_, rfl⟩
  rw [← hLt]
  obtain ⟨t, ht⟩ : ∃ t, t = TT (bF n c k) (qF n d) n 0 L := ⟨_, rfl⟩
  rw [← ht]
  have HLt := Lib.hid hLt
  have HTt := Lib.hid ht
  clear hLt ht
  go_enter Try.func60, Try.ntmps60
  go_wp2_with fail
  refine (l03Long_any l _).mono ?_
  rintro e w1 ⟨hw, ⟨h, rfl⟩ | ⟨h, rfl⟩⟩
  case inr =>
    have H := Lib.hid h
    replace hw := hw.symm
    subst hw
    clear h
    go_wp2_with fail
    refine (asked_any A n n c d false _ hn HR.out HC.out HD.out).mono ?_
    rintro e w2 ⟨hb, ⟨h, h', _⟩ | ⟨h, rfl⟩ | ⟨h, _, rfl⟩⟩
    · exact absurd h' (by simp)
    · have H2 := Lib.hid h
      clear h
      go_wp2_with fail
      exact bodyPost_ret (results_tmp3 Try.results60 _ _ _) rfl ⟨al hb _, .inr (.inr (.inl ⟨H2.out, _, rfl, OwnI.made _ hb.size⟩))⟩
    · have H2 := Lib.hid h
      clear h
      go_wp2_with fail
      exact bodyPost_ret (results_tmp3 Try.results60 _ _ _) rfl ⟨al hb _, .inr (.inr (.inr ⟨H2.out, fun h => H.out h.2, _, rfl, OwnI.made _ hb.size⟩))⟩
  have H := Lib.hid h
  replace hw := hw.symm
  subst hw
  clear h
  go_wp2_with fail
  refine (l03Joint_any k _).mono ?_
  rintro e w1 ⟨hw, ⟨h, rfl⟩ | ⟨h, rfl⟩⟩
  case inr =>
    have H1 := Lib.hid h
    replace hw := hw.symm
    subst hw
    clear h
    go_wp2_with fail
    refine (asked_any A n n c d false _ hn HR.out HC.out HD.out).mono ?_
    rintro e w2 ⟨hb, ⟨h, h', _⟩ | ⟨h, rfl⟩ | ⟨h, _, rfl⟩⟩
    · exact absurd h' (by simp)
    · have H2 := Lib.hid h
      clear h
      go_wp2_with fail
      exact bodyPost_ret (results_tmp3 Try.results60 _ _ _) rfl ⟨al hb _, .inr (.inr (.inl ⟨H2.out, _, rfl, OwnI.made _ hb.size⟩))⟩
    · have H2 := Lib.hid h
      clear h
      go_wp2_with fail
      exact bodyPost_ret (results_tmp3 Try.results60 _ _ _) rfl ⟨al hb _, .inr (.inr (.inr ⟨H2.out, fun h => H1.out h.1, _, rfl, OwnI.made _ hb.size⟩))⟩
  have H1 := Lib.hid h
  replace hw := hw.symm
  subst hw
  clear h
  go_wp2_with fail
  refine (asked_any A n n c d true _ hn HR.out HC.out HD.out).mono ?_
  rintro e w2 ⟨hb, ⟨h, _, rfl⟩ | ⟨h, rfl⟩ | ⟨_, h', _⟩⟩
  case inr.inr => exact absurd rfl h'
  case inr.inl =>
    have H2 := Lib.hid h
    clear h
    go_wp2_with fail
    exact bodyPost_ret (results_tmp3 Try.results60 _ _ _) rfl ⟨al hb _, .inr (.inr (.inl ⟨H2.out, _, rfl, OwnI.made _ hb.size⟩))⟩
  have H2 := Lib.hid h
  clear h
  have hl := H.out
  have hk := H1.out
  unfold LongOk at hl
  unfold JointOk at hk
  have hL : l + k = (L : Int) := by rw [HLt.out]; omega
  have HL := Lib.hid hL
  clear hL hl hk
  have hfill := l03Fill_any A n n c d l k L w2 H2.out.e H1.out H.out HL.out ((HR.out.below hb).mono hb.size)
  rw [← HTt.out] at hfill
  have HF := Lib.hid hfill
  clear hfill
  go_wp2_with fail
  refine HF.out.mono ?_
  rintro e w3 ⟨hb3, ⟨ht, v, rfl, O⟩ | ⟨ht, v, rfl, O⟩⟩
  · have B3 := nxt hb hb3
    go_wp2_with fail
    exact bodyPost_ret (results_tmp3 Try.results60 _ _ _) rfl ⟨al B3 _, .inr (.inl ⟨H2.out, ⟨H1.out, H.out⟩, ht, _, rfl, OwnI.made _ B3.size⟩)⟩
  · have B3 := nxt hb hb3
    go_wp2_with fail
    exact bodyPost_ret (results_tmp3 Try.results60 _ _ _) rfl ⟨B3, .inl ⟨H2.out, ⟨H1.out, H.out⟩, ht, v, rfl, O.mono hb.size⟩⟩

theorem impl_any (A : Option Addr) (n : Nat) (c d : Nat → Int) (l k : Int) (w : World) (hn : n ≤ 1048576) (hr : RdS w w.heap.size A n c d) (hc : ∀ j, -128 ≤ c j ∧ c j ≤ 127) (hd : ∀ j, -32768 ≤ d j ∧ d j ≤ 32767) :
    Calls Try.prog 61 #[.slice A n n, .int .i64 l, .int .i64 k] w (Post (SOk n c d) (JointOk k ∧ LongOk l) (TT (bF n c k) (qF n d) n 0 (l + k).toNat) (kL (bF n c k) (qF n d) n (l + k).toNat n) w) := by
  have HR := Lib.hid hr
  have HC := Lib.hid hc
  have HD := Lib.hid hd
  clear hr hc hd
  obtain ⟨L, hLt⟩ : ∃ L, L = (l + k).toNat := ⟨_, rfl⟩
  rw [← hLt]
  obtain ⟨t, ht⟩ : ∃ t, t = TT (bF n c k) (qF n d) n 0 L := ⟨_, rfl⟩
  rw [← ht]
  have HLt := Lib.hid hLt
  have HTt := Lib.hid ht
  clear hLt ht
  go_enter Try.func61, Try.ntmps61
  go_wp2_with fail
  obtain ⟨W0, hW0⟩ : ∃ W0 : World, W0 = w.alloc (.cells #[.int .i64 l] 2) := ⟨_, rfl⟩
  have B0 : Below w.heap.size w W0 := by rw [hW0]; exact al (Below.refl _ _) _
  have R0 : RdK .i64 W0 W0.heap.size (some ⟨w.heap.size, 0, none⟩) 1 (fun _ => l) := by
    rw [hW0]
    refine fun _ => ⟨w.heap.size, 0, rfl, by simp, fun j hj => ?_⟩
    obtain rfl : j = 0 := by omega
    rw [cell_of_row _ _ 0 _ _ _ (heap_alloc_new w _)]; rfl
  rw [← hW0]
  clear hW0
  refine (codeOfRows_any A _ n n 1 1 c d (fun _ => l) k _ hn (by omega) ((HR.out.below B0).mono B0.size) R0 HC.out HD.out).mono ?_
  rintro e w2 ⟨hb, ⟨h, h', rfl⟩ | ⟨h, rfl⟩ | ⟨h, h', rfl⟩⟩
  case inr.inl =>
    have H2 := Lib.hid h
    have B2 := nxt B0 hb
    clear h R0 hb
    go_wp2_with fail
    exact bodyPost_ret (results_tmp3 Try.results61 _ _ _) rfl ⟨B2, .inr (.inr (.inl ⟨H2.out, _, rfl, OwnI.nil _ _⟩))⟩
  case inr.inr =>
    have H2 := Lib.hid h
    have H3 := Lib.hid h'
    have B2 := nxt B0 hb
    clear h h' R0 hb
    go_wp2_with fail
    exact bodyPost_ret (results_tmp3 Try.results61 _ _ _) rfl ⟨B2, .inr (.inr (.inr ⟨H2.out, fun h => H3.out ⟨h.1, fun _ _ => h.2⟩, _, rfl, OwnI.nil _ _⟩))⟩
  have H2 := Lib.hid h
  have H := Lib.hid (h'.2 0 (by omega))
  have H1 := Lib.hid h'.1
  have B2 := nxt B0 hb
  clear h h' R0 hb B0
  have hl := H.out
  have hk := H1.out
  unfold LongOk at hl
  unfold JointOk at hk
  have hL : l + k = (L : Int) := by rw [HLt.out]; omega
  have HL := Lib.hid hL
  clear hL hl hk
  have hn6 := H2.out.1.2
  have htb := (FF_TT (bF n c k) (qF n d) n 0 L hn6 (qF_60 H2.out.e)).2
  have hfill := fillingOf_any A n n c d l k L w2 H2.out.e H1.out H.out HL.out ((HR.out.below B2).mono B2.size)
  rw [← HTt.out] at hfill htb
  have HF := Lib.hid hfill
  clear hfill
  go_wp2_with fail
  refine HF.out.mono ?_
  rintro e w3 ⟨hb3, ⟨ht, rfl⟩ | ⟨ht, v, rfl, O⟩⟩
  · have B3 := nxt B2 hb3
    go_wp2_with fail
    exact bodyPost_ret (results_tmp3 Try.results61 _ _ _) rfl ⟨B3, .inr (.inl ⟨H2.out, ⟨H1.out, H.out⟩, ht, _, rfl, OwnI.nil _ _⟩)⟩
  · have B3 := nxt B2 hb3
    have hne : (t == 361) = false := by simp; omega
    go_wp2_with fail
    exact bodyPost_ret (results_tmp3 Try.results61 _ _ _) rfl ⟨B3, .inl ⟨H2.out, ⟨H1.out, H.out⟩, ht, v, rfl, O.mono B2.size⟩⟩

theorem both (n : Nat) (c d : Nat → Int) (l k : Int) (hc : ∀ j, -128 ≤ c j ∧ c j ≤ 127) (hd : ∀ j, -32768 ≤ d j ∧ d j ≤ 32767) (hn : n ≤ 1048576) (bl : (Lit.int .i64 l).wf = true) (bk : (Lit.int .i64 k).wf = true) :
    ∃ (nn : Nat) (ff : Nat → Int) (z1 z2 : Int), nn ≤ 1000 ∧
      (∀ (W : World) (G0 : Nat), As W G0 n c d → Calls Try.prog 60 #[.slice (some ⟨G0, 0, none⟩) n n, .int .i64 l, .int .i64 k] W fun e w' => Below W.heap.size W w' ∧ ∃ v, e = .returned (.tuple #[v, .int .i64 z1, .int .i64 z2]) ∧ HasSlice .i64 1 w' W.heap.size v nn ff) ∧
      (∀ (W : World) (G0 : Nat), As W G0 n c d → Calls Try.prog 61 #[.slice (some ⟨G0, 0, none⟩) n n, .int .i64 l, .int .i64 k] W fun e w' => Below W.heap.size W w' ∧ ∃ v, e = .returned (.tuple #[v, .int .i64 z1, .int .i64 z2]) ∧ HasSlice .i64 1 w' W.heap.size v nn ff) := by
  have hS := fun (W : World) (G : Nat) (R : As W G n c d) => spec_any _ n c d l k W hn R.rd hc hd
  have hI := fun (W : World) (G : Nat) (R : As W G n c d) => impl_any _ n c d l k W hn R.rd hc hd
  by_cases h1 : SOk n c d
  · by_cases h2 : JointOk k ∧ LongOk l
    · by_cases h3 : 0 ≤ TT (bF n c k) (qF n d) n 0 (l + k).toNat
      · refine ⟨(kL (bF n c k) (qF n d) n (l + k).toNat n).length, fun j => (kL (bF n c k) (qF n d) n (l + k).toNat n).getD j 0, TT (bF n c k) (qF n d) n 0 (l + k).toNat, 0, by rw [kL_length]; have := h1.1.2; omega, fun W G R => (hS W G R).mono ?_, fun W G R => (hI W G R).mono ?_⟩
        all_goals
          rintro e w' ⟨hb, ⟨_, _, _, v, rfl, O⟩ | ⟨_, _, h, _⟩ | ⟨h, _⟩ | ⟨_, h, _⟩⟩
          · exact ⟨hb, v, rfl, O.has⟩
          · omega
          · exact absurd h1 h
          · exact absurd h2 h
      · refine ⟨0, fun j => ([] : List Int).getD j 0, 0, 6, Nat.zero_le _, fun W G R => (hS W G R).mono ?_, fun W G R => (hI W G R).mono ?_⟩
        all_goals
          rintro e w' ⟨hb, ⟨_, _, h, _⟩ | ⟨_, _, _, v, rfl, O⟩ | ⟨h, _⟩ | ⟨_, h, _⟩⟩
          · exact absurd h h3
          · exact ⟨hb, v, rfl, O.has⟩
          · exact absurd h1 h
          · exact absurd h2 h
    · refine ⟨0, fun j => ([] : List Int).getD j 0, 0, 2, Nat.zero_le _, fun W G R => (hS W G R).mono ?_, fun W G R => (hI W G R).mono ?_⟩
      all_goals
        rintro e w' ⟨hb, ⟨_, h, _⟩ | ⟨_, h, _⟩ | ⟨h, _⟩ | ⟨_, _, v, rfl, O⟩⟩
        · exact absurd h h2
        · exact absurd h h2
        · exact absurd h1 h
        · exact ⟨hb, v, rfl, O.has⟩
  · refine ⟨0, fun j => ([] : List Int).getD j 0, 0, 1, Nat.zero_le _, fun W G R => (hS W G R).mono ?_, fun W G R => (hI W G R).mono ?_⟩
    all_goals
      rintro e w' ⟨hb, ⟨h, _⟩ | ⟨h, _⟩ | ⟨_, v, rfl, O⟩ | ⟨h, _⟩⟩
      · exact absurd h h1
      · exact absurd h h1
      · exact ⟨hb, v, rfl, O.has⟩
      · exact absurd h h1
end fillRow
end Go.Proofs.Ytjeccdmhpbaabaa
