/-
  Both sides of CheckStacks answer the same. Conditions stand at each.
-/
import Derived.Test.YtkggimalkjjnoaaRows
import Derived.Test.YtkggimalkjjnoaaCheckStS
namespace Go.Proofs.Ytkggimalkjjnoaa
open Go Go.ChangeShapes Go.WideShapes Go.ChangeAt Go.RowKit
set_option linter.unusedVariables false
set_option linter.unusedSimpArgs false
set_option maxRecDepth 100000
set_option maxHeartbeats 4000000
namespace checkStacks
theorem impl_any (A B D : Option Addr) (n m l ca cb cd : Nat) (c d s : Nat → Int) (w : World) (hn : n ≤ 1048576) (hm : m ≤ 1048576) (hl : l ≤ 1048576) (hca : n ≤ ca) (hcb : m ≤ cb) (hr : RdK .i64 w w.heap.size A n c) (hs : RdK .i64 w w.heap.size B m d) (ht : RdK .i64 w w.heap.size D l s) :
    Calls Try.prog 59 #[.slice A n ca, .slice B m cb, .slice D l cd] w (CkPost n c m d l s w) := by
  have HH := Lib.hid (turnsOf_any A B n m ca cb c d w hn hm hca hcb hr hs)
  have HT := Lib.hid ht
  clear hr hs ht
  go_enter Try.func59, Try.ntmps59
  go_wp2_with fail
  refine HH.out.mono ?_
  rintro e W ⟨hb, ⟨hv, v, rfl, O⟩ | ⟨r, h0, hv, rfl⟩⟩
  case inr =>
    have d0 : (r != 0) = true := by simpa using h0
    have HV := Lib.hid hv
    have H0 := Lib.hid h0
    clear hv h0
    go_wp2_with fail
    exact bodyPost_ret (results_tmp2 Try.results59 _ _ _) rfl ⟨hb, .inl ⟨r, H0.out, HV.out, rfl⟩⟩
  have HV := Lib.hid hv
  obtain ⟨h10, hag⟩ := ok_of hv
  have HA := Lib.hid hag
  obtain ⟨A', cap', rfl⟩ := O.shape
  have hrd := O.rd.2
  have hL : (tnL c m d n).length = n := tnL_length c m d n
  rw [hL] at hrd ⊢
  have HRD := Lib.hid hrd
  clear hv hag hL hrd O
  by_cases hso : StkOk n l s
  case neg =>
    have HSO := Lib.hid hso
    clear hso
    go_wp2_with fail
    refine (areStacks_no D n l cd s _ hn hl ((HT.out.below hb).mono hb.size) HSO.out).mono ?_
    rintro e w2 ⟨rfl, hw2⟩
    replace hw2 := hw2.symm
    subst hw2
    go_wp2_with fail
    exact bodyPost_ret (results_tmp2 Try.results59 _ _ _) rfl ⟨hb, .inr (.inr ⟨HV.out, fun h => HSO.out h.1, rfl⟩)⟩
  have HSO := Lib.hid hso
  have hln := hso.1
  clear hso
  subst hln
  go_wp2_with fail
  refine (areStacks_yes D l l cd s _ hn hl ((HT.out.below hb).mono hb.size) HSO.out).mono ?_
  rintro e w2 ⟨rfl, hw2⟩
  replace hw2 := hw2.symm
  subst hw2
  go_wp2_with fail
  refine (bareYard_any W).mono ?_
  rintro e W1 ⟨rfl, hb1⟩
  have HRD1 := Lib.hid (HRD.out.below hb1)
  have hWs := hb1.size
  replace hb := nxt hb hb1
  clear HRD hb1
  have hX : Bx (W1.alloc (.cells bareC 161)) W1.heap.size bareC 161 := Bx.new W1 _ _
  have hBW := al hb (.cells bareC 161)
  have HRD := Lib.hid (HRD1.out.below (Below.alloc (Below.refl W.heap.size W1) hWs (.cells bareC 161)))
  have hsz : (W1.alloc (.cells bareC 161)).heap.size = W1.heap.size + 1 := by simp
  obtain ⟨W2, hW2⟩ : ∃ W2 : World, W2 = W1.alloc (.cells bareC 161) := ⟨_, rfl⟩
  go_wp2_with (refine wpList_store_new rfl _ _ _ rfl rfl rfl (by kernel_rfl) (by kernel_rfl) (by kernel_rfl) ?_; rw [← hW2] at hX hBW HRD hsz ⊢; clear hW2)
  have hbs := hb.size
  obtain ⟨b, hbe⟩ : ∃ b, b = W1.heap.size := ⟨_, rfl⟩
  rw [← hbe] at hX hsz hWs hbs ⊢
  have HZ : Hid (W2.heap.size = b + 1) := Lib.hid hsz
  have hbl : b < W2.heap.size := hX.lt
  clear hbe hsz HRD1 hb
  go_loopw [11, 12, 30] (fun t11 t12 t30 wr => ∃ k : Nat, k ≤ l ∧ t30 = .int .i64 k ∧ W2.grownBy wr (some b) ∧ StRight s (tnF c m d) k ∧ ∃ cs : Array Value, Bx wr b cs 161 ∧ YardC wr (b + 1) cs (pl s (tnF c m d) k)) (fun t11 t12 t30 wr => l - (intOf t30).toNat)
  case atStart => exact ⟨0, by omega, rfl, World.grownBy.refl _ _, fun i hi => by omega, _, hX, yard_bare _ _ _ (fun p => rfl)⟩
  case round =>
    clear hX
    obtain ⟨k, hk, rfl, hg, hR, cs, hB, hY⟩ := hrel
    have HR := Lib.hid hR
    have HY := Lib.hid hY
    have HB := Lib.hid hB
    clear hR hY hB
    have hgs := hg.size
    have BW : Below w.heap.size w wr := hBW.grown hg hBW.size (fun k e => by injection e with e; omega)
    by_cases hlt : k < l
    · have hki : (k : Int) < (l : Int) := by omega
      have hk0 : (0 : Int) ≤ (k : Int) := by omega
      have hin := HSO.out.2 k hlt
      obtain ⟨q, hq⟩ : ∃ q : Nat, s k = (q : Int) := ⟨(s k).toNat, by omega⟩
      have hq9 : q < 10 := by omega
      have hqi : (q : Int) < 10 := by omega
      have hq0 : (0 : Int) ≤ (q : Int) := by omega
      obtain ⟨b1, off, rfl, hbl1, c0⟩ := rdInt64 (HT.out.below BW) hlt
      rw [hq] at c0
      obtain ⟨b2, off2, rfl, hbl2, c1⟩ := rdInt64 (HRD.out.grown hg hWs (by omega)) hlt
      rw [tnL_get c m d hlt] at c1
      obtain ⟨x, hx⟩ : ∃ x, x = tnF c m d k := ⟨_, rfl⟩
      rw [← hx] at c1
      have hne : ∀ j, j < k → tnF c m d j ≠ tnF c m d k := fun j hj => tnF_ne HA.out hlt hj
      obtain ⟨v, hv, hP⟩ := HY.out.2 q hq9
      have hcy : wr.cell? ⟨b, q, none⟩ = some v := (HB.out.cell q).trans hv
      have hpl := pl_length s (tnF c m d) k q
      have hcase := takes_cases hP (by omega) x
      have HQ := Lib.hid hq
      have HX := Lib.hid hx
      have HN := Lib.hid hne
      have hsucc : StRight s (tnF c m d) (k + 1) ↔ StRight s (tnF c m d) k ∧ Takes (pl s (tnF c m d) k q) x := by rw [hx]; exact stRight_succ hq hne
      have HSU := Lib.hid hsucc
      clear hq hx hne hv hP hin hsucc
      have hb1w : b1 < wr.heap.size := Nat.lt_of_lt_of_le hbl1 BW.size
      have key : ∀ (W3 : World), Below wr.heap.size wr W3 → (W2.grownBy W3 (some b)) ∧ YardC W3 (b + 1) cs (pl s (tnF c m d) k) ∧ Bx W3 b cs 161 := fun W3 h3 =>
        ⟨hg.trans ⟨h3.os, h3.tape, h3.output, h3.size, fun j hj _ => h3.block j hj⟩, HY.out.below h3, HB.out.below h3⟩
      have HK := Lib.hid key
      clear key
      have fin : ∀ (W3 w4 : World) (e : Ending), Below wr.heap.size wr W3 → Takes (pl s (tnF c m d) k q) x → PutPost b (b + 1) (pl s (tnF c m d) k) q x W3 e w4 →
          W2.grownBy w4 (some b) ∧ StRight s (tnF c m d) (k + 1) ∧ ∃ cs : Array Value, Bx w4 b cs 161 ∧ YardC w4 (b + 1) cs (pl s (tnF c m d) (k + 1)) := by
        rintro W3 w4 e h3 ht ⟨g4, _, cs4, hB4, hY4⟩
        exact ⟨(HK.out W3 h3).1.trans g4, HSU.out.2 ⟨HR.out, ht⟩, cs4, hB4, hY4.congr (fun p hp => by rw [HX.out]; exact upd_pl HQ.out p)⟩
      have HF := Lib.hid fin
      clear fin
      rcases hcase with ⟨rfl, ht⟩ | ⟨g, N, cap, y, rfl, hgl, hN1, hN2, hcg, ht⟩
      · have HTK := Lib.hid ht
        have hm' := m_bare_takes
        clear ht
        go_wp2_with fail
        refine (bare_takes x _).mono ?_
        rintro e W3 ⟨rfl, hb3⟩
        have c0' : W3.cell? ⟨b1, off + k, none⟩ = some (.int .i64 (q : Int)) := (hb3.cell (p := ⟨b1, off + k, none⟩) hb1w).trans c0
        have hs3 := hb3.size
        have H3 := Lib.hid hb3
        clear c0 c1 hcy hb3
        go_wp2_with fail
        refine (put_any b (b + 1) q x cs _ W3 hq9 (by omega) (by omega) (HK.out W3 H3.out).2.2 (HK.out W3 H3.out).2.1 (by omega)).mono ?_
        rintro e w4 hp4
        have HF4 := Lib.hid (HF.out W3 w4 e H3.out HTK.out hp4)
        obtain ⟨v4, rfl⟩ := hp4.2.1
        clear hp4
        go_wp2
        exact ⟨⟨k + 1, by omega, by first | go_num | simp, HF4.out⟩, by simp [intOf]; omega⟩
      · have hm' := m_pile_takes
        by_cases htk : x < y
        · have HTK := Lib.hid (ht.2 htk)
          have d1 : decide (x < y) = true := by simpa using htk
          clear ht htk
          go_wp2_with fail
          refine (pile_takes g N cap x y true wr hN1 (by omega) hcg d1).mono ?_
          rintro e w3 ⟨rfl, hw3⟩
          replace hw3 := hw3.symm
          subst hw3
          have H3 := Lib.hid (Below.refl wr.heap.size wr)
          go_wp2_with fail
          refine (put_any b (b + 1) q x cs _ wr hq9 (by omega) (by omega) (HK.out wr H3.out).2.2 (HK.out wr H3.out).2.1 (by omega)).mono ?_
          rintro e w4 hp4
          have HF4 := Lib.hid (HF.out wr w4 e H3.out HTK.out hp4)
          obtain ⟨v4, rfl⟩ := hp4.2.1
          clear hp4
          go_wp2
          exact ⟨⟨k + 1, by omega, by first | go_num | simp, HF4.out⟩, by simp [intOf]; omega⟩
        · have HTK := Lib.hid (fun h => htk (ht.1 h))
          have d1 : decide (x < y) = false := by simpa using htk
          clear ht htk
          go_wp2_with fail
          refine (pile_takes g N cap x y false wr hN1 (by omega) hcg d1).mono ?_
          rintro e w3 ⟨rfl, hw3⟩
          replace hw3 := hw3.symm
          subst hw3
          go_wp2_with fail
          exact bodyPost_ret (results_tmp2 Try.results59 _ _ _) rfl ⟨BW, .inr (.inr ⟨HV.out, fun h => by
            have h1 : StRight s (tnF c m d) (k + 1) := fun i hi j hj e => h.2 i (by omega) j hj e
            exact HTK.out (HSU.out.1 h1).2, rfl⟩)⟩
    · obtain rfl : k = l := by omega
      have hki : ¬ ((k : Int) < (k : Int)) := by omega
      go_wp2_with fail
      exact bodyPost_ret (results_tmp2 Try.results59 _ _ _) rfl ⟨BW, .inr (.inl ⟨HV.out, ⟨HSO.out, HR.out⟩, rfl⟩)⟩

theorem both (n : Nat) (c : Nat → Int) (m : Nat) (d : Nat → Int) (l : Nat) (s : Nat → Int) (hc : ∀ j, (Lit.int .i64 (c j)).wf = true) (hn : n ≤ 1048576) (hd : ∀ j, (Lit.int .i64 (d j)).wf = true) (hm : m ≤ 1048576) (hs : ∀ j, (Lit.int .i64 (s j)).wf = true) (hl : l ≤ 1048576) :
    ∃ (z1 : Bool) (z2 : Int),
      (∀ (W : World) (G0 G1 G2 : Nat), Ar W G0 n c → Ar W G1 m d → Ar W G2 l s → Calls Try.prog 58 #[.slice (some ⟨G0, 0, none⟩) n n, .slice (some ⟨G1, 0, none⟩) m m, .slice (some ⟨G2, 0, none⟩) l l] W fun e w' => e = .returned (.tuple #[.bool z1, .int .i64 z2]) ∧ Below W.heap.size W w') ∧
      (∀ (W : World) (G0 G1 G2 : Nat), Ar W G0 n c → Ar W G1 m d → Ar W G2 l s → Calls Try.prog 59 #[.slice (some ⟨G0, 0, none⟩) n n, .slice (some ⟨G1, 0, none⟩) m m, .slice (some ⟨G2, 0, none⟩) l l] W fun e w' => e = .returned (.tuple #[.bool z1, .int .i64 z2]) ∧ Below W.heap.size W w') := by
  have key : ∀ r, StCode n c m d r → ∃ (z1 : Bool) (z2 : Int), ∀ (W : World) (e : Ending) (w' : World), CkPost n c m d l s W e w' → e = .returned (.tuple #[.bool z1, .int .i64 z2]) ∧ Below W.heap.size W w' := by
    intro r hr
    by_cases h0 : r = 0
    · subst h0
      by_cases hf : Fine n c m d l s
      · refine ⟨true, 0, fun W e w' ⟨hb, hp⟩ => ?_⟩
        rcases hp with ⟨r', h1, h2, _⟩ | ⟨_, _, he⟩ | ⟨_, h2, _⟩
        · exact absurd (h2.one hr) h1
        · exact ⟨he, hb⟩
        · exact absurd hf h2
      · refine ⟨false, 0, fun W e w' ⟨hb, hp⟩ => ?_⟩
        rcases hp with ⟨r', h1, h2, _⟩ | ⟨_, h2, _⟩ | ⟨_, _, he⟩
        · exact absurd (h2.one hr) h1
        · exact absurd h2 hf
        · exact ⟨he, hb⟩
    · refine ⟨false, r, fun W e w' ⟨hb, hp⟩ => ?_⟩
      rcases hp with ⟨r', h1, h2, he⟩ | ⟨h2, _, _⟩ | ⟨h2, _, _⟩
      · obtain rfl := h2.one hr
        exact ⟨he, hb⟩
      · exact absurd (hr.one h2) h0
      · exact absurd (hr.one h2) h0
  obtain ⟨r, hr⟩ : ∃ r, StCode n c m d r := by
    by_cases h1 : n ≤ 10
    · by_cases h2 : Again n c m d
      · exact ⟨0, .inr (.inr ⟨h1, h2, rfl⟩)⟩
      · exact ⟨4, .inr (.inl ⟨h1, h2, rfl⟩)⟩
    · exact ⟨3, .inl ⟨by omega, rfl⟩⟩
  obtain ⟨z1, z2, hk⟩ := key r hr
  exact ⟨z1, z2, fun W G0 G1 G2 h0 h1 h2 => (spec_any _ _ _ n m l n m l c d s W hn hm hl (Nat.le_refl _) (Nat.le_refl _) h0.rd h1.rd h2.rd).mono (hk W),
    fun W G0 G1 G2 h0 h1 h2 => (impl_any _ _ _ n m l n m l c d s W hn hm hl (Nat.le_refl _) (Nat.le_refl _) h0.rd h1.rd h2.rd).mono (hk W)⟩
end checkStacks
end Go.Proofs.Ytkggimalkjjnoaa
