/-
  The program's FewestStacks: the first stack that takes a slab. Conditions stand at each.
-/
import Derived.Test.YtkggimalkjjnoaaRows
import Derived.Test.YtkggimalkjjnoaaFewStM
import Derived.Test.YtkggimalkjjnoaaCheckStS
import Derived.Shelf.Abstract
namespace Go.Proofs.Ytkggimalkjjnoaa
open Go Go.ChangeShapes Go.WideShapes Go.ChangeAt Go.RowKit Go.Shelf
set_option linter.unusedVariables false
set_option linter.unusedSimpArgs false
set_option maxRecDepth 100000
set_option maxHeartbeats 4000000
namespace fewestStacks
/-- no pile of a yard lies in a slice's block. -/
def Free (cs : Array Value) (v0 : Value) : Prop := ∀ (p : Nat) (s : Value) (g : Nat), cs[p]? = some (Value.iface 176 s) → s.ownBlock = some g → v0.ownBlock ≠ some g
theorem free_bare (v0 : Value) : Free bareC v0 := by
  intro p s g h
  unfold bareC bareV at h
  by_cases hp : p < 10
  · have : p = 0 ∨ p = 1 ∨ p = 2 ∨ p = 3 ∨ p = 4 ∨ p = 5 ∨ p = 6 ∨ p = 7 ∨ p = 8 ∨ p = 9 := by omega
    rcases this with rfl | rfl | rfl | rfl | rfl | rfl | rfl | rfl | rfl | rfl <;> (simp at h)
  · rw [Array.getElem?_eq_none (by simp; omega)] at h
    cases h
theorem Free.put {cs : Array Value} {v0 s : Value} {p B : Nat} (h : Free cs v0) (hs : ∀ g, s.ownBlock = some g → B ≤ g) (h0 : ∀ g, v0.ownBlock = some g → g < B) : Free (cs.setIfInBounds p (.iface 176 s)) v0 := by
  intro q u g hq hg e
  rw [Array.getElem?_setIfInBounds] at hq
  by_cases hpq : p = q
  · rw [if_pos hpq] at hq
    split at hq
    · injection hq with hq
      injection hq with _ hq
      subst hq
      have := hs g hg
      have := h0 g e
      omega
    · cases hq
  · rw [if_neg hpq] at hq
    exact h q u g hq hg e
theorem Free.next {cs : Array Value} {v0 v' : Value} {w : World} {lo : Nat} {f : Nat → List Int} (h : Free cs v0) (hY : YardC w lo cs f) (hat : v'.ownBlock = v0.ownBlock ∨ ∃ N, w.heap.size ≤ N ∧ v'.ownBlock = some N) : Free cs v' := by
  intro q u g hq hg e
  rcases hat with e' | ⟨N, hN, e'⟩
  · rw [e'] at e; exact h q u g hq hg e
  · rw [e'] at e
    injection e with e
    have hq10 : q < 10 := by
      apply Nat.lt_of_not_le
      intro hle
      rw [Array.getElem?_eq_none (by rw [hY.1]; exact hle)] at hq
      cases hq
    obtain ⟨v, hv, hP⟩ := hY.2 q hq10
    rw [hq] at hv
    cases hv
    rcases hP with ⟨_, h0⟩ | ⟨_, s, hs, ho⟩
    · cases h0
    · injection hs with _ hs
      subst hs
      have := (OwnI.lt ho g hg).2
      omega
theorem YardC.append {w w' : World} {lo : Nat} {cs : Array Value} {f : Nat → List Int} {v0 : Value} (h : YardC w lo cs f) (hF : Free cs v0) (hg : ∀ k, k < w.heap.size → v0.ownBlock ≠ some k → w'.heap[k]? = w.heap[k]?) : YardC w' lo cs f :=
  ⟨h.1, fun p hp => by
    obtain ⟨v, hv, hP⟩ := h.2 p hp
    refine ⟨v, hv, ?_⟩
    rcases hP with h0 | ⟨h1, s, rfl, ho⟩
    · exact .inl h0
    · refine .inr ⟨h1, s, rfl, ?_⟩
      rcases ho with ⟨hl, h0 | ⟨g, cap, cur, rfl, hb, hgg, r⟩⟩
      · exact ⟨hl, .inl h0⟩
      · exact ⟨hl, .inr ⟨g, cap, cur, rfl, hb, (hg g (Array.getElem?_eq_some_iff.1 hgg).1 (hF p _ g hv rfl)).trans hgg, r⟩⟩⟩
/-- the closure that asks a place. -/
theorem asks_any (tb lo : Nat) (v : Value) (L : List Int) (x : Int) (r : Bool) (w : World) (hP : PileV w lo v L) (hl : L.length ≤ 1000) (hx : w.cell? ⟨tb, 0, none⟩ = some (.int .i64 x)) (hr : r = true ↔ Takes L x) :
    Calls Try.prog 130 #[v, .pointer (some ⟨tb, 0, none⟩)] w fun e w' => e = .returned (.bool r) ∧ Below w.heap.size w w' := by
  rcases takes_cases hP hl x with ⟨rfl, ht⟩ | ⟨g, N, cap, y, rfl, hgl, hN1, hN2, hcg, ht⟩
  · obtain rfl : r = true := hr.2 ht
    have hm := m_bare_takes
    clear hr ht hP
    go_enter Try.func130, Try.ntmps130
    go_wp2_with fail
    refine (bare_takes x _).mono ?_
    rintro e w1 ⟨rfl, hb⟩
    go_wp2
    go_ret
    exact ⟨rfl, hb⟩
  · have d : decide (x < y) = r := by
      cases r with
      | true => simpa using ht.1 (hr.1 rfl)
      | false => simp; apply Int.not_lt.1; intro h; have := hr.2 (ht.2 h); cases this
    have D := Lib.hid d
    have hm := m_pile_takes
    clear hr ht hP d
    go_enter Try.func130, Try.ntmps130
    go_wp2_with fail
    refine (pile_takes g N cap x y r _ hN1 (by omega) hcg D.out).mono ?_
    rintro e w1 ⟨rfl, hw⟩
    replace hw := hw.symm
    subst hw
    go_wp2
    go_ret
    exact ⟨rfl, Below.refl _ _⟩
theorem indexFunc_any (gf : Nat) (lb : Array Value) (b at' : Nat) (cs : Array Value) (w : World) (ha : at' < 10) (hs : cs.size = 10) (hB : Bx w b cs 161)
    (hE : ∀ args w, (callFunc gf args).run Try.prog w = .ok (.enter gf args) w)
    (hF : ∀ W, Below w.heap.size w W → ∀ p v, p ≤ at' → cs[p]? = some v → Calls Try.prog gf (#[v] ++ lb) W fun e w' => e = .returned (.bool (decide (p = at'))) ∧ Below W.heap.size W w') :
    Calls Try.prog 129 #[.slice (some ⟨b, 0, none⟩) 10 10, .func (.func gf) #[] lb] w fun e w' => e = .returned (.int .i64 (at' : Int)) ∧ Below w.heap.size w w' := by
  have HF := Lib.hid hF
  have HE := Lib.hid hE
  have HB := Lib.hid hB
  have HS := Lib.hid hs
  have hbl := hB.lt
  clear hF hE hB hs
  go_enter Try.func129, Try.ntmps129
  go_wp2_with fail
  go_loopw [5, 8] (fun t5 t8 wr => ∃ k : Nat, k ≤ at' ∧ t8 = .int .i64 k ∧ Below w.heap.size w wr) (fun t5 t8 wr => at' - (intOf t8).toNat)
  case atStart => exact ⟨0, by omega, rfl, Below.refl _ _⟩
  case round =>
    obtain ⟨k, hk, rfl, B⟩ := hrel
    have hki : (k : Int) < 10 := by omega
    have hk0 : (0 : Int) ≤ (k : Int) := by omega
    obtain ⟨v, hv⟩ : ∃ v, cs[k]? = some v := ⟨_, Array.getElem?_eq_getElem (by rw [HS.out]; omega)⟩
    have c0 : wr.cell? ⟨b, k, none⟩ = some v := (HB.out.below B |>.cell k).trans hv
    have hcall := HF.out wr B k v hk hv
    by_cases hlt : k < at'
    · have d : decide (k = at') = false := by simp; omega
      rw [d] at hcall
      have HC := Lib.hid hcall
      have hE := HE.out
      clear hcall d hv
      go_wp2_with fail
      refine HC.out.mono ?_
      rintro e w1 ⟨rfl, hb⟩
      have B1 := nxt B hb
      clear hb hE c0
      go_wp2
      exact ⟨⟨k + 1, by omega, by first | go_num | simp, B1⟩, by simp [intOf]; omega⟩
    · obtain rfl : k = at' := by omega
      have d : decide (k = k) = true := by simp
      rw [d] at hcall
      have HC := Lib.hid hcall
      have hE := HE.out
      clear hcall d hv
      go_wp2_with fail
      refine HC.out.mono ?_
      rintro e w1 ⟨rfl, hb⟩
      have B1 := nxt B hb
      clear hb hE c0
      go_wp2
      go_ret
      exact ⟨rfl, B1⟩

def FkPost (n : Nat) (c : Nat → Int) (m : Nat) (d : Nat → Int) (w : World) (e : Ending) (w' : World) : Prop :=
  Below w.heap.size w w' ∧ ((StCode n c m d 0 ∧ ∃ v, e = .returned (.tuple #[v, .int .i64 ((fsT (tnF c m d) n).length : Int), .int .i64 0]) ∧ OwnI w' w.heap.size v (fsL (tnF c m d) n)) ∨
    ∃ r, r ≠ 0 ∧ StCode n c m d r ∧ ∃ v, e = .returned (.tuple #[v, .int .i64 0, .int .i64 r]) ∧ OwnI w' w.heap.size v [])

theorem impl_any (A B : Option Addr) (n m ca cb : Nat) (c d : Nat → Int) (w : World) (hn : n ≤ 1048576) (hm : m ≤ 1048576) (hca : n ≤ ca) (hcb : m ≤ cb) (hr : RdK .i64 w w.heap.size A n c) (hs : RdK .i64 w w.heap.size B m d) :
    Calls Try.prog 57 #[.slice A n ca, .slice B m cb] w (FkPost n c m d w) := by
  have HH := Lib.hid (turnsOf_any A B n m ca cb c d w hn hm hca hcb hr hs)
  obtain ⟨i0, hi, hz0, hz1, hz2⟩ := info_parts infoI64
  have HE : Hid (∀ (args : Array Value) (w : World), (callFunc 130 args).run Try.prog w = .ok (.enter 130 args) w) := Lib.hid (enters_of Try.func130 (by kernel_rfl) rfl)
  clear hr hs
  go_enter Try.func57, Try.ntmps57
  go_wp2_with fail
  refine HH.out.mono ?_
  rintro e W ⟨hb, ⟨hv, v, rfl, O⟩ | ⟨r, h0, hv, rfl⟩⟩
  case inr =>
    have d0 : (r != 0) = true := by simpa using h0
    have HV := Lib.hid hv
    have H0 := Lib.hid h0
    clear hv h0
    go_wp2_with fail
    exact bodyPost_ret (results_tmp3 Try.results57 _ _ _) rfl ⟨hb, .inr ⟨r, H0.out, HV.out, _, rfl, OwnI.nil _ _⟩⟩
  have HV := Lib.hid hv
  obtain ⟨h10, hag⟩ := checkStacks.ok_of hv
  have HA := Lib.hid hag
  obtain ⟨A', cap', rfl⟩ := O.shape
  have hrd := O.rd.2
  have hL : (tnL c m d n).length = n := tnL_length c m d n
  rw [hL] at hrd ⊢
  have HRD := Lib.hid hrd
  clear hv hag hL hrd O
  go_wp2_with fail
  refine (bareYard_any W).mono ?_
  rintro e W1 ⟨rfl, hb1⟩
  have HRD1 := Lib.hid (HRD.out.below hb1)
  have hWs := hb1.size
  replace hb := nxt hb hb1
  clear HRD hb1
  have hX : Bx (W1.alloc (.cells bareC 161)) W1.heap.size bareC 161 := Bx.new W1 _ _
  have hBW := al hb (.cells bareC 161)
  have HRD := Lib.hid (HRD1.out.below (Below.alloc (Below.refl W.heap.size W1) hWs (.cells bareC 161)))
  have hsz : (W1.alloc (.cells bareC 161)).heap.size = W1.heap.size + 1 := by simp
  obtain ⟨W2, hW2⟩ : ∃ W2 : World, W2 = W1.alloc (.cells bareC 161) := ⟨_, rfl⟩
  go_wp2_with (refine wpList_store_new rfl _ _ _ rfl rfl rfl (by kernel_rfl) (by kernel_rfl) (by kernel_rfl) ?_; rw [← hW2] at hX hBW HRD hsz ⊢; clear hW2)
  have hbs := hb.size
  obtain ⟨b, hbe⟩ : ∃ b, b = W1.heap.size := ⟨_, rfl⟩
  rw [← hbe] at hX hsz hWs hbs ⊢
  have HZ : Hid (W2.heap.size = b + 1) := Lib.hid hsz
  have hbl : b < W2.heap.size := hX.lt
  clear hbe hsz HRD1 hb
  go_loopw [10, 11, 13, 14, 27] (fun t10 t11 t13 t14 t27 wr => ∃ k : Nat, k ≤ n ∧ t27 = .int .i64 k ∧ t11 = .int .i64 ((fsT (tnF c m d) k).length : Int) ∧ W2.grownBy wr (some b) ∧ OwnI wr (b + 1) t10 (fsL (tnF c m d) k) ∧ ∃ cs : Array Value, Bx wr b cs 161 ∧ YardC wr (b + 1) cs (pl (fsS (tnF c m d)) (tnF c m d) k) ∧ Free cs t10) (fun t10 t11 t13 t14 t27 wr => n - (intOf t27).toNat)
  case atStart => exact ⟨0, by omega, rfl, rfl, World.grownBy.refl _ _, OwnI.nil _ _, _, hX, yard_bare _ _ _ (fun p => rfl), free_bare _⟩
  case round =>
    clear hX
    obtain ⟨k, hk, rfl, rfl, hg, O, cs, hB, hY, hfr⟩ := hrel
    have HFR := Lib.hid hfr
    clear hfr
    obtain ⟨v0, rfl⟩ : ∃ v0 : Value, v0 = u10 := ⟨_, rfl⟩
    have hO := Lib.hid O
    have HY := Lib.hid hY
    have HB := Lib.hid hB
    clear O hY hB
    have hgs := hg.size
    have BW : Below w.heap.size w wr := hBW.grown hg hBW.size (fun k e => by injection e with e; omega)
    by_cases hlt : k < n
    · have hki : (k : Int) < (n : Int) := by omega
      have hk0 : (0 : Int) ≤ (k : Int) := by omega
      obtain ⟨b2, off2, rfl, hbl2, c1⟩ := rdInt64 (HRD.out.grown hg hWs (by omega)) hlt
      rw [tnL_get c m d hlt] at c1
      have hne : ∀ j, j < k → tnF c m d j ≠ tnF c m d k := fun j hj => tnF_ne HA.out hlt hj
      have htk := fs_takes hne
      have hno : ∀ p, p < fsA (tnF c m d) k → ¬ Takes (pl (fsS (tnF c m d)) (tnF c m d) k p) (tnF c m d k) := fun p hp => fs_not hp
      have hal := fsA_le (tnF c m d) k
      have hupd : ∀ p, upd (pl (fsS (tnF c m d)) (tnF c m d) k) (fsA (tnF c m d) k) (tnF c m d k) p = pl (fsS (tnF c m d)) (tnF c m d) (k + 1) p := upd_pl rfl
      have hpl := fun p => pl_length (fsS (tnF c m d)) (tnF c m d) k p
      have hlen' : ((fsT (tnF c m d) (k + 1)).length : Int) = max ((fsT (tnF c m d) k).length : Int) ((fsA (tnF c m d) k : Int) + 1) := by
        have := fsTo_length (fsT (tnF c m d) k) (tnF c m d k)
        have e : fsA (tnF c m d) k = fsAt (fsT (tnF c m d) k) (tnF c m d k) := rfl
        show ((fsTo (fsT (tnF c m d) k) (tnF c m d k)).length : Int) = _
        omega
      have hfl := fsL_succ (tnF c m d) k
      have hfl2 : (fsL (tnF c m d) k).length ≤ k := by rw [fsL_length]; exact Nat.le_refl _
      have hTl := fsT_length (tnF c m d) k
      obtain ⟨x, hx⟩ : ∃ x, x = tnF c m d k := ⟨_, rfl⟩
      obtain ⟨q, hq⟩ : ∃ q, q = fsA (tnF c m d) k := ⟨_, rfl⟩
      have hfs : fsS (tnF c m d) k = (q : Int) := by rw [hq]; rfl
      obtain ⟨F, hF⟩ : ∃ F, F = pl (fsS (tnF c m d)) (tnF c m d) k := ⟨_, rfl⟩
      obtain ⟨N, hN⟩ : ∃ N : Nat, N = (fsT (tnF c m d) k).length := ⟨_, rfl⟩
      rw [← hN] at hTl hlen' ⊢
      rw [← hF] at htk hno hupd hpl HY
      rw [← hx] at c1 htk hno hupd
      rw [← hq] at htk hno hal hupd hlen'
      rw [hfs] at hfl
      have HTK := Lib.hid htk
      have HNO := Lib.hid hno
      have HUP := Lib.hid hupd
      have HPL := Lib.hid hpl
      have HLN := Lib.hid hlen'
      have HFL := Lib.hid hfl
      have hq9 : q < 10 := by omega
      have hq0 : (0 : Int) ≤ (q : Int) := by omega
      have hqi : (q : Int) ≤ 10 := by omega
      have hmx : max (N : Int) ((q : Int) + 1) = ((fsT (tnF c m d) (k + 1)).length : Int) := hlen'.symm
      obtain ⟨M, hM⟩ : ∃ M : Nat, M = (fsT (tnF c m d) (k + 1)).length := ⟨_, rfl⟩
      rw [← hM] at hmx
      have HM := Lib.hid hM
      have HMX := Lib.hid hmx
      clear htk hno hupd hpl hlen' hfl hx hq hfs hF hN hne hM hmx
      have hB3 : Bx (wr.alloc (.cells #[.int .i64 x] 2)) wr.heap.size #[.int .i64 x] 2 := Bx.new _ _ _
      have hb3 : Below wr.heap.size wr (wr.alloc (.cells #[.int .i64 x] 2)) := al (Below.refl _ _) _
      have hmf : ∀ (fn : Fn) (first cap : Array Value) (w : World), (Instr.makeFunc fn first cap).run Try.prog w = .ok (.func fn first cap) w := fun _ _ _ _ => rfl
      have hbw : b < wr.heap.size := HB.out.lt
      go_wp2_with fail
      obtain ⟨W3, hW3⟩ : ∃ W3 : World, W3 = (wr.alloc (.cells #[.int .i64 x] 2)) := ⟨_, rfl⟩
      rw [← hW3] at hB3 hb3 ⊢
      have HB3 := Lib.hid hB3
      clear hW3 hB3 hmf c1
      have hs3 := hb3.size
      have hcall : ∀ W, Below W3.heap.size W3 W → ∀ p v, p ≤ q → cs[p]? = some v → Calls Try.prog 130 (#[v] ++ #[.pointer (some ⟨wr.heap.size, 0, none⟩)]) W fun e w' => e = .returned (.bool (decide (p = q))) ∧ Below W.heap.size W w' := by
        intro W h p v hp hv
        show Calls Try.prog 130 #[v, .pointer (some ⟨wr.heap.size, 0, none⟩)] W _
        have hY3 := (HY.out.below hb3).below h
        obtain ⟨v', hv', hP⟩ := hY3.2 p (by omega)
        rw [hv] at hv'
        cases hv'
        refine asks_any wr.heap.size (b + 1) v (F p) x _ W hP (by have := HPL.out p; omega) ((HB3.out.below h).cell 0) ?_
        simp only [decide_eq_true_eq]
        constructor
        · intro e
          rw [e]
          exact HTK.out
        · intro ht
          apply Classical.byContradiction
          intro hpq
          exact HNO.out p (by omega) ht
      have HCALL := Lib.hid hcall
      clear hcall
      refine (indexFunc_any 130 #[.pointer (some ⟨wr.heap.size, 0, none⟩)] b q cs W3 hq9 HY.out.1 (HB.out.below hb3) HE.out HCALL.out).mono ?_
      rintro e W4 ⟨rfl, hb4⟩
      have c13 : W4.cell? ⟨wr.heap.size, 0, none⟩ = some (.int .i64 x) := (HB3.out.below hb4).cell 0
      have h34 := nxt hb3 hb4
      have hs4 := h34.size
      have H34 := Lib.hid h34
      clear hb3 hb4 h34
      go_wp2_with fail
      refine (put_fresh b (b + 1) q x cs F W4 hq9 (by omega) (by omega) (HB.out.below H34.out) (HY.out.below H34.out) (by have := HPL.out q; omega)).mono ?_
      rintro e W5 ⟨g5, ⟨v5, rfl⟩, s5, hs5', hB5, hY5⟩
      have hfr5 : Free (cs.setIfInBounds q (.iface 176 s5)) v0 := HFR.out.put hs5' (fun g hg => ((hO.out.below H34.out).lt g hg).2)
      obtain ⟨cs5, hcs5⟩ : ∃ cs5, cs5 = cs.setIfInBounds q (.iface 176 s5) := ⟨_, rfl⟩
      rw [← hcs5] at hB5 hY5 hfr5
      have HFR5 := Lib.hid hfr5
      clear hs5' hcs5 hfr5
      have O5 : OwnI W5 (b + 1) v0 (fsL (tnF c m d) k) := (hO.out.below H34.out).kept g5 (.inr (fun e => by have := (hO.out.lt _ e).1; omega))
      have G5 : W2.grownBy W5 (some b) := (hg.trans ⟨H34.out.os, H34.out.tape, H34.out.output, H34.out.size, fun j hj _ => H34.out.block j hj⟩).trans g5
      have HY5 := Lib.hid (hY5.congr (fun p _ => HUP.out p))
      have HB5 := Lib.hid hB5
      have HO5 := Lib.hid O5
      have hs5 := G5.size
      have hbl5 := hB5.lt
      clear g5 hY5 hB5 O5 c13
      go_wp2_with (at_builtin; refine wpList_append_own_at _ rfl _ _ 29 rfl (b + 1) 2 i0 (.int .i64 0) 1 8 Try.underlying29 hi hz0 hz1 hz2 rfl (by decide) _ _ _ rfl (World.ownsRow.alloc HO5.out _) ⟨W5.heap.size, 0, none⟩ 1 1 [.int .i64 (q : Int)] rfl rfl (ncells W5 #[.int .i64 (q : Int)] 2) one64 (by unfold maxLen; omega) (by omega) (by simp; omega) ?_; intro v' w1 own' hgr _ hat)
      have O1 := OwnI.snoc own'
      rw [← HFL.out] at O1
      have ga : Below W5.heap.size W5 (W5.alloc (.cells #[.int .i64 (q : Int)] 2)) := al (Below.refl _ _) _
      have Bn : ∀ j, j < W5.heap.size → v0.ownBlock ≠ some j → w1.heap[j]? = W5.heap[j]? := fun j hj hne => (hgr.block j (by simp; omega) (fun e => hne e.symm)).trans (ga.block j hj)
      have G1 : W2.grownBy w1 (some b) := ⟨hgr.os.trans (ga.os.trans G5.os), hgr.tape.trans (ga.tape.trans G5.tape), hgr.output.trans (ga.output.trans G5.output), Nat.le_trans hs5 (Nat.le_trans ga.size hgr.size), fun j hj hne => (Bn j (by omega) (fun e => by have := (HO5.out.lt _ e).1; have := HZ.out; omega)).trans (G5.block j hj hne)⟩
      have HB1 : Bx w1 b cs5 161 := Bx.of_block HB5.out (Bn b hbl5 (fun e => by have := (HO5.out.lt _ e).1; omega))
      have HY1 : YardC w1 (b + 1) cs5 (pl (fsS (tnF c m d)) (tnF c m d) (k + 1)) := YardC.append HY5.out HFR5.out Bn
      have HF1 : Free cs5 v' := HFR5.out.next HY5.out (by rcases hat with e | e
                                                          · exact .inl e
                                                          · exact .inr ⟨_, ga.size, e⟩)
      clear own' hgr ga Bn hat
      have HE1 := Lib.hid (And.intro G1 (And.intro O1 (And.intro HB1 (And.intro HY1 HF1))))
      clear G1 O1 HB1 HY1 HF1
      go_wp2
      exact ⟨⟨k + 1, by omega, by first | go_num | simp, by rw [← HM.out]; have h := HMX.out; congr 1; split <;> omega, HE1.out.1, HE1.out.2.1, cs5, HE1.out.2.2⟩, by simp [intOf]; omega⟩
    · obtain rfl : k = n := by omega
      have hki : ¬ ((k : Int) < (k : Int)) := by omega
      go_wp2_with fail
      exact bodyPost_ret (results_tmp3 Try.results57 _ _ _) rfl ⟨BW, .inl ⟨HV.out, _, rfl, hO.out.mono (by omega)⟩⟩
end fewestStacks
end Go.Proofs.Ytkggimalkjjnoaa
