/-
  MeetAt on the program's side: the contract of impl.MeetAt. Conditions stand at each.
-/
import Derived.Test.YtfpoikeibjojgaaDoorRows
import Derived.Test.YtfpoikeibjojgaaDoorMeetS
import Derived.Test.YtfpoikeibjojgaaDoorMeetC
import Derived.Test.YtfpoikeibjojgaaDoorLeastI
import Derived.Test.YtfpoikeibjojgaaDoorRefused
import Derived.Test.YtfpoikeibjojgaaDoorMeetK
import Derived.Shelf.Abstract
import Derived.Deep.DeepCutAuto
namespace Go.Proofs.YtfpoikeibjojgaaDoor
open Go Go.ChangeShapes Go.WideShapes Go.ChangeAt Go.RowKit
set_option linter.unusedVariables false
set_option linter.unusedSimpArgs false
set_option maxRecDepth 100000
set_option maxHeartbeats 8000000
theorem own_cap {w : World} {base : Nat} {e : TypeId} {sz : Nat} {v : Value} {n : Nat} {xs : List Value} (h : w.ownsRow base e sz v n xs) : ∃ A cap, v = .slice A n cap ∧ n ≤ cap := by
  rcases h.2 with ⟨rfl, h0⟩ | ⟨g, cap, cur, rfl, h1, h2, h3, h4⟩
  · exact ⟨none, 0, by rw [h0], by omega⟩
  · exact ⟨_, _, rfl, h3⟩
theorem yields_five {ops : Array Oper} {S : World → Prop} {op : Oper} {a : Act} (hw : Region.wanted op (yielded ops a.tmps) = true) (ty : TypeId) (x : Operand) (ho : op.op = .load ty x)
    (b o : Nat) (hx : a.eval x = .pointer (some ⟨b, o, none⟩)) (p q s t u : Value) (hS : ∀ w, S w → w.cell? ⟨b, o, none⟩ = some p ∧ w.cell? ⟨b, o + 1, none⟩ = some q ∧ w.cell? ⟨b, o + 2, none⟩ = some s ∧ w.cell? ⟨b, o + 3, none⟩ = some t ∧ w.cell? ⟨b, o + 4, none⟩ = some u) (d : TypeDesc)
    (hu : Tryd.prog.underlying ty = some d) (hd : d.isRow = true) (hi : (Tryd.prog.info? ty).map (·.size) = some 5) : YieldsIf Tryd.prog ops S op (.agg #[p, q, s, t, u]) a := by
  have := yieldsIf_load_mid (P := Tryd.prog) (S := S) hw ty x ho b o hx [p, q, s, t, u] d (fun w hSw j z hj => by
    obtain ⟨h0, h1, h2, h3, h4⟩ := hS w hSw
    have hj2 : j < 5 := by
      rcases Nat.lt_or_ge j 5 with h | h
      · exact h
      · rw [List.getElem?_eq_none (by simpa using h)] at hj; cases hj
    obtain rfl | rfl | rfl | rfl | rfl : j = 0 ∨ j = 1 ∨ j = 2 ∨ j = 3 ∨ j = 4 := by omega
    · simpa using h0.trans hj
    · simpa using h1.trans hj
    · simpa using h2.trans hj
    · simpa using h3.trans hj
    · simpa using h4.trans hj) hu hd (by simpa using hi)
  simpa using this
theorem crew_store {w : World} {b : Nat} {a0 a1 a2 a3 a4 : Value} {t : TypeId} (h : Bx w b #[a0, a1, a2, a3, a4] t) (v0 v1 v2 v3 v4 : Value) :
    (w.cell? ⟨b, 0, none⟩ = some a0 ∧ w.cell? ⟨b, 1, none⟩ = some a1 ∧ w.cell? ⟨b, 2, none⟩ = some a2 ∧ w.cell? ⟨b, 3, none⟩ = some a3 ∧ w.cell? ⟨b, 4, none⟩ = some a4) ∧ (w.frozen? ⟨b, 0, none⟩ = false ∧ w.frozen? ⟨b, 1, none⟩ = false ∧ w.frozen? ⟨b, 2, none⟩ = false ∧ w.frozen? ⟨b, 3, none⟩ = false ∧ w.frozen? ⟨b, 4, none⟩ = false) ∧
    Bx (((((w.setCell ⟨b, 0, none⟩ v0).setCell ⟨b, 1, none⟩ v1).setCell ⟨b, 2, none⟩ v2).setCell ⟨b, 3, none⟩ v3).setCell ⟨b, 4, none⟩ v4) b #[v0, v1, v2, v3, v4] t :=
  ⟨⟨h.cell 0, h.cell 1, h.cell 2, h.cell 3, h.cell 4⟩, ⟨h.frozen 0, h.frozen 1, h.frozen 2, h.frozen 3, h.frozen 4⟩, ((((h.set 0 v0).set 1 v1).set 2 v2).set 3 v3).set 4 v4⟩
theorem crew_other {w : World} {b b' : Nat} {cs : Array Value} {t : TypeId} (h : Bx w b' cs t) (hne : b' ≠ b) (v0 v1 v2 v3 v4 : Value) : Bx (((((w.setCell ⟨b, 0, none⟩ v0).setCell ⟨b, 1, none⟩ v1).setCell ⟨b, 2, none⟩ v2).setCell ⟨b, 3, none⟩ v3).setCell ⟨b, 4, none⟩ v4) b' cs t :=
  ((((h.other (g := b) (o := 0) v0 (by omega)).other (g := b) (o := 1) v1 (by omega)).other (g := b) (o := 2) v2 (by omega)).other (g := b) (o := 3) v3 (by omega)).other (g := b) (o := 4) v4 (by omega)
theorem crew_below {w0 w : World} {base b : Nat} (h : Below base w0 w) (hb : base ≤ b) (v0 v1 v2 v3 v4 : Value) : Below base w0 (((((w.setCell ⟨b, 0, none⟩ v0).setCell ⟨b, 1, none⟩ v1).setCell ⟨b, 2, none⟩ v2).setCell ⟨b, 3, none⟩ v3).setCell ⟨b, 4, none⟩ v4) :=
  ((((h.setCell (p := ⟨b, 0, none⟩) hb v0).setCell (p := ⟨b, 1, none⟩) hb v1).setCell (p := ⟨b, 2, none⟩) hb v2).setCell (p := ⟨b, 3, none⟩) hb v3).setCell (p := ⟨b, 4, none⟩) hb v4
theorem implMeet_any (A : Option Addr) (n cap : Nat) (c d : Nat → Int) (g : Gs) (w : World) (hn : n ≤ 1048576) (hr : RdS w w.heap.size A n c d) (hc : ∀ j, -128 ≤ c j ∧ c j ≤ 127) (hd : ∀ j, -32768 ≤ d j ∧ d j ≤ 32767) (hgb : g.bd) :
    Calls Tryd.prog 39 #[.slice A n cap, .agg #[.int .i8 (g.p 0), .int .i8 (g.q 0), .int .i8 (g.s 0), .int .i8 (g.t 0), .int .i16 (g.u 0)], .agg #[.int .i8 (g.p 1), .int .i8 (g.q 1), .int .i8 (g.s 1), .int .i8 (g.t 1), .int .i16 (g.u 1)]] w (MeetPost n c d g w) := by
  have HA := Lib.hid (fun W b (hw : Below w.heap.size w W) (hb : Bx W b (gangs2C g) 30) => jobFor_any A n cap c d (some ⟨b, 0, none⟩) 2 2 g W hn (by omega) ((hr.below hw).mono hw.size) (two_gangs hb) hc hd hgb)
  have X4 : Bx (((w.alloc (.cells (gangC (g.p 0) (g.q 0) (g.s 0) (g.t 0) (g.u 0)) 30)).alloc (.cells (gangC (g.p 1) (g.q 1) (g.s 1) (g.t 1) (g.u 1)) 30)).alloc (.cells (gangs2C g) 30)) (w.heap.size + 1 + 1) (gangs2C g) 30 := by
    have := Bx.new ((w.alloc (.cells (gangC (g.p 0) (g.q 0) (g.s 0) (g.t 0) (g.u 0)) 30)).alloc (.cells (gangC (g.p 1) (g.q 1) (g.s 1) (g.t 1) (g.u 1)) 30)) (gangs2C g) 30
    rwa [World.size_alloc, World.size_alloc] at this
  have B := al (al (al (Below.refl w.heap.size w) (.cells (gangC (g.p 0) (g.q 0) (g.s 0) (g.t 0) (g.u 0)) 30)) (.cells (gangC (g.p 1) (g.q 1) (g.s 1) (g.t 1) (g.u 1)) 30)) (.cells (gangs2C g) 30)
  clear hr hgb
  go_enter Tryd.func39, Tryd.ntmps39
  go_wp2_with fail
  refine (HA.out _ _ B X4).mono ?_
  rintro e w1 ⟨hb, h⟩
  replace B := nxt B hb
  clear hb X4 HA
  rcases h with ⟨r, z, hr0, hcode, hz, rfl⟩ | ⟨hok, v1, v2, rfl, O1, O2⟩
  · have HC := Lib.hid (fun W => refused_any hz W)
    have HJ := Lib.hid hcode
    obtain ⟨tz, vz, rfl⟩ : ∃ tz vz, z = .iface tz vz := by rcases hz with ⟨s, rfl, -⟩ | ⟨k, rfl, -⟩ | ⟨k, rfl, -⟩ | ⟨k, rfl, -⟩ <;> exact ⟨_, _, rfl⟩
    have HR0 := Lib.hid hr0
    clear hcode hr0 hz
    replace B := al B (.cells #[.slice none 0 0, .slice none 0 0] 76)
    go_wp2_with fail
    refine (HC.out _).mono ?_
    rintro e w2 ⟨hb, rfl⟩
    replace B := nxt B hb
    clear hb
    go_wp2
    exact bodyPost_ret (by simp [results, Tryd.results39, go_sem]) rfl ⟨B, .inl ⟨r, HR0.out, HJ.out, rfl⟩⟩
  · have HO := Lib.hid hok
    obtain ⟨A1, cap1, hv1, hcap1⟩ := own_cap O1
    obtain ⟨A2, cap2, hv2, hcap2⟩ := own_cap O2
    subst hv1 hv2
    have hr1 := OwnD.rd (World.ownsRow.alloc O1 (.cells #[.slice A1 n cap1, .slice A2 2 cap2] 76))
    have hr2 := OwnW.rd (World.ownsRow.alloc O2 (.cells #[.slice A1 n cap1, .slice A2 2 cap2] 76))
    have X9 := Bx.new w1 #[.slice A1 n cap1, .slice A2 2 cap2] 76
    replace B := al B (.cells #[.slice A1 n cap1, .slice A2 2 cap2] 76)
    clear O1 O2 hok
    go_wp2
    obtain ⟨W1, hW1⟩ : ∃ W1 : World, W1 = w1.alloc (.cells #[.slice A1 n cap1, .slice A2 2 cap2] 76) := ⟨_, rfl⟩
    rw [← hW1] at B X9 hr1 hr2 ⊢
    clear hW1
    obtain ⟨b9, h9⟩ : ∃ b9, b9 = w1.heap.size := ⟨_, rfl⟩
    rw [← h9] at X9 ⊢
    clear h9
    obtain ⟨b2, rfl, hl2, hc2⟩ := hr2 (by omega)
    have C0 := hc2 0 (by omega)
    have C1 := hc2 1 (by omega)
    clear hc2 hr2
    have HR1 := Lib.hid hr1
    clear hr1
    go_cut [11, 12] (fun t11 t12 wx => ∃ b11 b12 : Nat, t11 = .pointer (some ⟨b11, 0, none⟩) ∧ t12 = .pointer (some ⟨b12, 0, none⟩) ∧ Below W1.heap.size W1 wx ∧ Bx wx b11 (crewC (g.p 0) (g.q 0) (g.s 0) (g.t 0) (g.u 0)) 109 ∧ Bx wx b12 (crewC (g.p 1) (g.q 1) (g.s 1) (g.t 1) (g.u 1)) 109)
    case first =>
      refine wp_region_held_drew (S := (fun w' : World => Below W1.drew.heap.size W1.drew w')) (by kernel_rfl) (Below.refl W1.drew.heap.size W1.drew) (fun hHeld => ?_)
      have hW2 : Below W1.heap.size W1 W1.drew := (Below.refl W1.heap.size W1).drew
      replace X9 : Bx W1.drew b9 #[.slice A1 n cap1, .slice (some ⟨b2, 0, none⟩) 2 cap2] 76 := X9
      have hl2' : b2 < W1.drew.heap.size := Nat.lt_of_lt_of_le hl2 hW2.size
      have C0' : W1.drew.cell? ⟨b2, 0, none⟩ = some (.int .i64 (g.p 0)) ∧ W1.drew.cell? ⟨b2, 1, none⟩ = some (.int .i64 (g.q 0)) ∧ W1.drew.cell? ⟨b2, 2, none⟩ = some (.int .i64 (g.s 0)) ∧ W1.drew.cell? ⟨b2, 3, none⟩ = some (.int .i64 (g.t 0)) ∧ W1.drew.cell? ⟨b2, 4, none⟩ = some (.int .i64 (g.u 0)) := C0
      have C1' : W1.drew.cell? ⟨b2, 5, none⟩ = some (.int .i64 (g.p 1)) ∧ W1.drew.cell? ⟨b2, 6, none⟩ = some (.int .i64 (g.q 1)) ∧ W1.drew.cell? ⟨b2, 7, none⟩ = some (.int .i64 (g.s 1)) ∧ W1.drew.cell? ⟨b2, 8, none⟩ = some (.int .i64 (g.t 1)) ∧ W1.drew.cell? ⟨b2, 9, none⟩ = some (.int .i64 (g.u 1)) := C1
      obtain ⟨wq, hwq⟩ : ∃ wq, W1.drew = wq := ⟨_, rfl⟩
      rw [hwq] at hW2 X9 hl2' C0' C1' hHeld ⊢
      clear hwq C0 C1
      have hb9 : b9 < wq.heap.size := X9.lt
      have q1 : wq.cell? ⟨b9, 1, none⟩ = some (.slice (some ⟨b2, 0, none⟩) 2 cap2) := (X9.cell 1).trans rfl
      refine wpAnyH_take (i := 0) (oi := _) (v := ?_) rfl (by kernel_rfl) (by kernel_rfl) (by kernel_rfl) (fun _ _ _ h => h) (Or.inl ⟨by kernel_rfl, ?_⟩) (by assumption) ?_
      rotate_left
      · intro w hSw; (try dsimp only at hSw); go_simp; first | done | with_reducible rfl
      try simp only [List.getElem_toArray, List.getElem_cons_zero, List.getElem_cons_succ, Act.put, List.setIfInBounds_toArray, List.set_cons_zero, List.set_cons_succ]
      refine wpAnyH_take (i := 1) (oi := _) (v := ?_) rfl (by kernel_rfl) (by kernel_rfl) (by kernel_rfl) (fun _ _ _ h => h) (Or.inl ⟨by kernel_rfl, ?_⟩) (by assumption) ?_
      rotate_left
      · intro w hSw; have hcell := (fun (w' : World) (hS : Below wq.heap.size wq w') => (hS.cell (p := ⟨b9, 1, none⟩) hb9).trans q1) w hSw; clear hSw; go_simp; first | done | with_reducible rfl
      try simp only [List.getElem_toArray, List.getElem_cons_zero, List.getElem_cons_succ, Act.put, List.setIfInBounds_toArray, List.set_cons_zero, List.set_cons_succ]
      refine wpAnyH_take (i := 2) (oi := _) (v := ?_) rfl (by kernel_rfl) (by kernel_rfl) (by kernel_rfl) (fun _ _ _ h => h) (Or.inl ⟨by kernel_rfl, ?_⟩) (by assumption) ?_
      rotate_left
      · intro w hSw; (try dsimp only at hSw); go_simp; first | done | with_reducible rfl
      try simp only [List.getElem_toArray, List.getElem_cons_zero, List.getElem_cons_succ, Act.put, List.setIfInBounds_toArray, List.set_cons_zero, List.set_cons_succ]
      refine wpAnyH_take (i := 3) (oi := _) (v := .agg #[.int .i64 (g.p 0), .int .i64 (g.q 0), .int .i64 (g.s 0), .int .i64 (g.t 0), .int .i64 (g.u 0)]) rfl (by kernel_rfl) (by kernel_rfl) (by kernel_rfl) (fun _ _ _ h => h) (yields_five (by kernel_rfl) _ _ rfl b2 0 rfl (.int .i64 (g.p 0)) (.int .i64 (g.q 0)) (.int .i64 (g.s 0)) (.int .i64 (g.t 0)) (.int .i64 (g.u 0)) (fun w' hS => ⟨(Below.cell (p := ⟨b2, 0, none⟩) hS hl2').trans C0'.1, (Below.cell (p := ⟨b2, 1, none⟩) hS hl2').trans C0'.2.1, (Below.cell (p := ⟨b2, 2, none⟩) hS hl2').trans C0'.2.2.1, (Below.cell (p := ⟨b2, 3, none⟩) hS hl2').trans C0'.2.2.2.1, (Below.cell (p := ⟨b2, 4, none⟩) hS hl2').trans C0'.2.2.2.2⟩) _ Tryd.underlying109 rfl (by kernel_rfl)) (by assumption) ?_
      try simp only [List.getElem_toArray, List.getElem_cons_zero, List.getElem_cons_succ, Act.put, List.setIfInBounds_toArray, List.set_cons_zero, List.set_cons_succ]
      refine wpAnyH_take (i := 4) (oi := _) (v := ?_) rfl (by kernel_rfl) (by kernel_rfl) (by kernel_rfl) (fun _ _ _ h => h) (Or.inl ⟨by kernel_rfl, ?_⟩) (by assumption) ?_
      rotate_left
      · intro w hSw; (try dsimp only at hSw); go_simp; first | done | with_reducible rfl
      try simp only [List.getElem_toArray, List.getElem_cons_zero, List.getElem_cons_succ, Act.put, List.setIfInBounds_toArray, List.set_cons_zero, List.set_cons_succ]
      refine wpAnyH_take (i := 5) (oi := _) (v := ?_) rfl (by kernel_rfl) (by kernel_rfl) (by kernel_rfl) (fun _ _ _ h => h) (Or.inl ⟨by kernel_rfl, ?_⟩) (by assumption) ?_
      rotate_left
      · intro w hSw; have hcell := (fun (w' : World) (hS : Below wq.heap.size wq w') => (hS.cell (p := ⟨b9, 1, none⟩) hb9).trans q1) w hSw; clear hSw; go_simp; first | done | with_reducible rfl
      try simp only [List.getElem_toArray, List.getElem_cons_zero, List.getElem_cons_succ, Act.put, List.setIfInBounds_toArray, List.set_cons_zero, List.set_cons_succ]
      refine wpAnyH_take (i := 6) (oi := _) (v := ?_) rfl (by kernel_rfl) (by kernel_rfl) (by kernel_rfl) (fun _ _ _ h => h) (Or.inl ⟨by kernel_rfl, ?_⟩) (by assumption) ?_
      rotate_left
      · intro w hSw; (try dsimp only at hSw); go_simp; first | done | with_reducible rfl
      try simp only [List.getElem_toArray, List.getElem_cons_zero, List.getElem_cons_succ, Act.put, List.setIfInBounds_toArray, List.set_cons_zero, List.set_cons_succ]
      refine wpAnyH_take (i := 7) (oi := _) (v := .agg #[.int .i64 (g.p 1), .int .i64 (g.q 1), .int .i64 (g.s 1), .int .i64 (g.t 1), .int .i64 (g.u 1)]) rfl (by kernel_rfl) (by kernel_rfl) (by kernel_rfl) (fun _ _ _ h => h) (yields_five (by kernel_rfl) _ _ rfl b2 5 rfl (.int .i64 (g.p 1)) (.int .i64 (g.q 1)) (.int .i64 (g.s 1)) (.int .i64 (g.t 1)) (.int .i64 (g.u 1)) (fun w' hS => ⟨(Below.cell (p := ⟨b2, 5, none⟩) hS hl2').trans C1'.1, (Below.cell (p := ⟨b2, 6, none⟩) hS hl2').trans C1'.2.1, (Below.cell (p := ⟨b2, 7, none⟩) hS hl2').trans C1'.2.2.1, (Below.cell (p := ⟨b2, 8, none⟩) hS hl2').trans C1'.2.2.2.1, (Below.cell (p := ⟨b2, 9, none⟩) hS hl2').trans C1'.2.2.2.2⟩) _ Tryd.underlying109 rfl (by kernel_rfl)) (by assumption) ?_
      try simp only [List.getElem_toArray, List.getElem_cons_zero, List.getElem_cons_succ, Act.put, List.setIfInBounds_toArray, List.set_cons_zero, List.set_cons_succ]
      refine wpAnyH_ready (rs := [8, 9]) (by kernel_rfl) (by simp) ?_
      refine AllReadyH.cons (o := _) rfl (fun K hK => ?_) (AllReadyH.cons (o := _) rfl (fun K hK => ?_) AllReadyH.nil)
      · skip
        go_simp
        have Ya := Bx.new wq #[.int .i64 0, .int .i64 0, .int .i64 0, .int .i64 0, .int .i64 0] 109
        have S1 : Below wq.heap.size wq (wq.alloc (.cells #[.int .i64 0, .int .i64 0, .int .i64 0, .int .i64 0, .int .i64 0] 109)) := al (Below.refl _ _) _
        obtain ⟨wa, hwa⟩ : ∃ wa, wa = wq.alloc (.cells #[.int .i64 0, .int .i64 0, .int .i64 0, .int .i64 0, .int .i64 0] 109) := ⟨_, rfl⟩
        rw [← hwa] at Ya S1 ⊢
        clear hwa
        have hlt := Ya.lt
        refine hK.out _ _ S1 (fun hHeld => ?_)
        clear hK K
        try simp only [List.getElem_toArray, List.getElem_cons_zero, List.getElem_cons_succ, Act.put, List.setIfInBounds_toArray, List.set_cons_zero, List.set_cons_succ]
        refine wpAnyH_ready (rs := [9]) (by kernel_rfl) (by simp) ?_
        refine AllReadyH.cons (o := _) rfl (fun K hK => ?_) AllReadyH.nil
        go_simp
        replace Ya := Ya.alloc (.cells #[.int .i64 0, .int .i64 0, .int .i64 0, .int .i64 0, .int .i64 0] 109)
        have Yb := Bx.new wa #[.int .i64 0, .int .i64 0, .int .i64 0, .int .i64 0, .int .i64 0] 109
        have S2 : Below wq.heap.size wq (wa.alloc (.cells #[.int .i64 0, .int .i64 0, .int .i64 0, .int .i64 0, .int .i64 0] 109)) := al S1 _
        obtain ⟨wb, hwb⟩ : ∃ wb, wb = wa.alloc (.cells #[.int .i64 0, .int .i64 0, .int .i64 0, .int .i64 0, .int .i64 0] 109) := ⟨_, rfl⟩
        rw [← hwb] at Ya Yb S2 ⊢
        clear hwb
        have hne : wq.heap.size ≠ wa.heap.size := by omega
        have hla : wq.heap.size ≤ wq.heap.size := by omega
        have hlb : wq.heap.size ≤ wa.heap.size := by omega
        refine hK.out _ _ S2 (fun hHeld => ?_)
        clear hK K
        try simp only [List.getElem_toArray, List.getElem_cons_zero, List.getElem_cons_succ, Act.put, List.setIfInBounds_toArray, List.set_cons_zero, List.set_cons_succ]
        obtain ⟨⟨c0, c1, c2, c3, c4⟩, ⟨z0, z1, z2, z3, z4⟩, Yn⟩ := crew_store Ya (.int .i64 (g.p 0)) (.int .i64 (g.q 0)) (.int .i64 (g.s 0)) (.int .i64 (g.t 0)) (.int .i64 (g.u 0))
        replace Yb := crew_other (b := wq.heap.size) Yb (by omega) (.int .i64 (g.p 0)) (.int .i64 (g.q 0)) (.int .i64 (g.s 0)) (.int .i64 (g.t 0)) (.int .i64 (g.u 0))
        replace S2 := crew_below (b := wq.heap.size) S2 hla (.int .i64 (g.p 0)) (.int .i64 (g.q 0)) (.int .i64 (g.s 0)) (.int .i64 (g.t 0)) (.int .i64 (g.u 0))
        replace Ya := Yn
        clear Yn
        refine wpAnyH_ready (rs := [10]) (by kernel_rfl) (by simp) ?_
        refine AllReadyH.cons (o := _) rfl (fun K hK => ?_) AllReadyH.nil
        go_simp
        refine hK.out _ _ S2 (fun hHeld => ?_)
        clear hK K
        try simp only [List.getElem_toArray, List.getElem_cons_zero, List.getElem_cons_succ, Act.put, List.setIfInBounds_toArray, List.set_cons_zero, List.set_cons_succ]
        clear c0 c1 c2 c3 c4 z0 z1 z2 z3 z4
        obtain ⟨⟨c0, c1, c2, c3, c4⟩, ⟨z0, z1, z2, z3, z4⟩, Yn⟩ := crew_store Yb (.int .i64 (g.p 1)) (.int .i64 (g.q 1)) (.int .i64 (g.s 1)) (.int .i64 (g.t 1)) (.int .i64 (g.u 1))
        replace Ya := crew_other (b := wa.heap.size) Ya (by omega) (.int .i64 (g.p 1)) (.int .i64 (g.q 1)) (.int .i64 (g.s 1)) (.int .i64 (g.t 1)) (.int .i64 (g.u 1))
        replace S2 := crew_below (b := wa.heap.size) S2 hlb (.int .i64 (g.p 1)) (.int .i64 (g.q 1)) (.int .i64 (g.s 1)) (.int .i64 (g.t 1)) (.int .i64 (g.u 1))
        replace Yb := Yn
        clear Yn
        refine wpAnyH_ready (rs := [11]) (by kernel_rfl) (by simp) ?_
        refine AllReadyH.cons (o := _) rfl (fun K hK => ?_) AllReadyH.nil
        go_simp
        refine hK.out _ _ S2 (fun hHeld => ?_)
        clear hK K
        try simp only [List.getElem_toArray, List.getElem_cons_zero, List.getElem_cons_succ, Act.put, List.setIfInBounds_toArray, List.set_cons_zero, List.set_cons_succ]
        clear c0 c1 c2 c3 c4 z0 z1 z2 z3 z4
        refine wpAnyH_done (by kernel_rfl) ?_ _
        go_wp2
        go_meet
        exact ⟨wq.heap.size, wa.heap.size, rfl, rfl, hW2.trans (S2.mono (by exact hW2.size)), Ya, Yb⟩
      · skip
        go_simp
        have Ya := Bx.new wq #[.int .i64 0, .int .i64 0, .int .i64 0, .int .i64 0, .int .i64 0] 109
        have S1 : Below wq.heap.size wq (wq.alloc (.cells #[.int .i64 0, .int .i64 0, .int .i64 0, .int .i64 0, .int .i64 0] 109)) := al (Below.refl _ _) _
        obtain ⟨wa, hwa⟩ : ∃ wa, wa = wq.alloc (.cells #[.int .i64 0, .int .i64 0, .int .i64 0, .int .i64 0, .int .i64 0] 109) := ⟨_, rfl⟩
        rw [← hwa] at Ya S1 ⊢
        clear hwa
        have hlt := Ya.lt
        refine hK.out _ _ S1 (fun hHeld => ?_)
        clear hK K
        try simp only [List.getElem_toArray, List.getElem_cons_zero, List.getElem_cons_succ, Act.put, List.setIfInBounds_toArray, List.set_cons_zero, List.set_cons_succ]
        refine wpAnyH_ready (rs := [8]) (by kernel_rfl) (by simp) ?_
        refine AllReadyH.cons (o := _) rfl (fun K hK => ?_) AllReadyH.nil
        go_simp
        replace Ya := Ya.alloc (.cells #[.int .i64 0, .int .i64 0, .int .i64 0, .int .i64 0, .int .i64 0] 109)
        have Yb := Bx.new wa #[.int .i64 0, .int .i64 0, .int .i64 0, .int .i64 0, .int .i64 0] 109
        have S2 : Below wq.heap.size wq (wa.alloc (.cells #[.int .i64 0, .int .i64 0, .int .i64 0, .int .i64 0, .int .i64 0] 109)) := al S1 _
        obtain ⟨wb, hwb⟩ : ∃ wb, wb = wa.alloc (.cells #[.int .i64 0, .int .i64 0, .int .i64 0, .int .i64 0, .int .i64 0] 109) := ⟨_, rfl⟩
        rw [← hwb] at Ya Yb S2 ⊢
        clear hwb
        have hne : wq.heap.size ≠ wa.heap.size := by omega
        have hla : wq.heap.size ≤ wq.heap.size := by omega
        have hlb : wq.heap.size ≤ wa.heap.size := by omega
        refine hK.out _ _ S2 (fun hHeld => ?_)
        clear hK K
        try simp only [List.getElem_toArray, List.getElem_cons_zero, List.getElem_cons_succ, Act.put, List.setIfInBounds_toArray, List.set_cons_zero, List.set_cons_succ]
        obtain ⟨⟨c0, c1, c2, c3, c4⟩, ⟨z0, z1, z2, z3, z4⟩, Yn⟩ := crew_store Yb (.int .i64 (g.p 0)) (.int .i64 (g.q 0)) (.int .i64 (g.s 0)) (.int .i64 (g.t 0)) (.int .i64 (g.u 0))
        replace Ya := crew_other (b := wa.heap.size) Ya (by omega) (.int .i64 (g.p 0)) (.int .i64 (g.q 0)) (.int .i64 (g.s 0)) (.int .i64 (g.t 0)) (.int .i64 (g.u 0))
        replace S2 := crew_below (b := wa.heap.size) S2 hlb (.int .i64 (g.p 0)) (.int .i64 (g.q 0)) (.int .i64 (g.s 0)) (.int .i64 (g.t 0)) (.int .i64 (g.u 0))
        replace Yb := Yn
        clear Yn
        refine wpAnyH_ready (rs := [10]) (by kernel_rfl) (by simp) ?_
        refine AllReadyH.cons (o := _) rfl (fun K hK => ?_) AllReadyH.nil
        go_simp
        refine hK.out _ _ S2 (fun hHeld => ?_)
        clear hK K
        try simp only [List.getElem_toArray, List.getElem_cons_zero, List.getElem_cons_succ, Act.put, List.setIfInBounds_toArray, List.set_cons_zero, List.set_cons_succ]
        clear c0 c1 c2 c3 c4 z0 z1 z2 z3 z4
        obtain ⟨⟨c0, c1, c2, c3, c4⟩, ⟨z0, z1, z2, z3, z4⟩, Yn⟩ := crew_store Ya (.int .i64 (g.p 1)) (.int .i64 (g.q 1)) (.int .i64 (g.s 1)) (.int .i64 (g.t 1)) (.int .i64 (g.u 1))
        replace Yb := crew_other (b := wq.heap.size) Yb (by omega) (.int .i64 (g.p 1)) (.int .i64 (g.q 1)) (.int .i64 (g.s 1)) (.int .i64 (g.t 1)) (.int .i64 (g.u 1))
        replace S2 := crew_below (b := wq.heap.size) S2 hla (.int .i64 (g.p 1)) (.int .i64 (g.q 1)) (.int .i64 (g.s 1)) (.int .i64 (g.t 1)) (.int .i64 (g.u 1))
        replace Ya := Yn
        clear Yn
        refine wpAnyH_ready (rs := [11]) (by kernel_rfl) (by simp) ?_
        refine AllReadyH.cons (o := _) rfl (fun K hK => ?_) AllReadyH.nil
        go_simp
        refine hK.out _ _ S2 (fun hHeld => ?_)
        clear hK K
        try simp only [List.getElem_toArray, List.getElem_cons_zero, List.getElem_cons_succ, Act.put, List.setIfInBounds_toArray, List.set_cons_zero, List.set_cons_succ]
        clear c0 c1 c2 c3 c4 z0 z1 z2 z3 z4
        refine wpAnyH_done (by kernel_rfl) ?_ _
        go_wp2
        go_meet
        exact ⟨wa.heap.size, wq.heap.size, rfl, rfl, hW2.trans (S2.mono (by exact hW2.size)), Yb, Ya⟩
    case rest =>
      obtain ⟨b11, b12, rfl, rfl, B2, X11, X12⟩ := hcut
      replace X9 := X9.below B2
      replace B := nxt B B2
      obtain ⟨W, hW⟩ : ∃ W : World, W = wc := ⟨_, rfl⟩
      have B3 : Below W.heap.size W wc := by rw [hW]; exact Below.refl _ _
      have HR3 := Lib.hid (show RdU W W.heap.size A1 n c d by rw [hW]; exact (HR1.out.below B2).mono B2.size)
      have hBW : Below w.heap.size w W := by rw [hW]; exact B
      have l9 : b9 < W.heap.size := by rw [hW]; exact X9.lt
      have l11 : b11 < W.heap.size := by rw [hW]; exact X11.lt
      have l12 : b12 < W.heap.size := by rw [hW]; exact X12.lt
      have hn6 : n ≤ 6 := HO.out.1.1.1
      have HDJ := Lib.hid (show ∀ j, j < n → 0 ≤ d j ∧ d j ≤ 2000 from fun j hj => ⟨by have := (HO.out.1.1.2 j hj).2; omega, (HO.out.1.1.2 j hj).2.2⟩)
      have HT1 := Lib.hid (fun (k : Nat) (hk : k ≤ n) V (hV : Below W.heap.size W V) => together_any A1 k cap1 c d V (by omega) (((HR3.out.take hk).below hV).mono hV.size) (fun j hj => HDJ.out j (by omega)))
      have HT2 := Lib.hid (fun (k : Nat) (hk : k ≤ n) V (hV : Below W.heap.size W V) => together_any (if cap1 = k then A1 else A1.map (fun x => x.add (k * 2))) (n - k) (cap1 - k) (shN c k) (shN d k) V (by omega) (((HR3.out.drop hk hcap1).below hV).mono hV.size) (fun j hj => HDJ.out (k + j) (by omega)))
      have HIF := Lib.hid (fun (k : Nat) (hk : k ≤ n) => meetOk_iff (c := c) (g := g) hk (HO.out.1.2 0 (by decide)).1.1 (HO.out.1.2 1 (by decide)).1.1)
      have hw1 : IntKind.i64.wrap ((n : Int) + 1) = (n : Int) + 1 := IntWalk.i64_in _ (by omega)
      clear B B2 hc hd hW
      go_wp2
      go_loopw [13, 14, 40] (fun t13 t14 t40 wr => ∃ (k : Nat) (ks : List Nat), k ≤ n + 1 ∧ t40 = .int .i64 k ∧ Below W.heap.size W wr ∧ Bx wr b9 #[.slice A1 n cap1, .slice (some ⟨b2, 0, none⟩) 2 cap2] 76 ∧ Bx wr b11 (crewC (g.p 0) (g.q 0) (g.s 0) (g.t 0) (g.u 0)) 109 ∧ Bx wr b12 (crewC (g.p 1) (g.q 1) (g.s 1) (g.t 1) (g.u 1)) 109 ∧ OwnI wr W.heap.size t13 (ks.map (fun j : Nat => (j : Int))) ∧ Kept k (MeetOk n c g) ks) (fun t13 t14 t40 wr => n + 1 - (intOf t40).toNat)
      case atStart => exact ⟨0, [], by omega, rfl, B3, X9, X11, X12, OwnI.nil _ _, Kept.nil _⟩
      case round =>
        clear B3 X9 X11 X12
        obtain ⟨k, ks, hk, rfl, hB, Y9, Y11, Y12, O, hks⟩ := hrel
        obtain ⟨v0, rfl⟩ : ∃ v0 : Value, v0 = u13 := ⟨_, rfl⟩
        have HK := Lib.hid hks
        clear hks
        by_cases hlt : k ≤ n
        · have hki : (k : Int) < (n : Int) + 1 := by omega
          have hkn : (k : Int) ≤ (n : Int) := by omega
          have hkc : (k : Int) ≤ (cap1 : Int) := by omega
          obtain ⟨r1, e1⟩ := dec_ex (maxK c k ≤ g.p 0)
          obtain ⟨r2, e2⟩ := dec_ex (maxK (shN c k) (n - k) ≤ g.p 1)
          have HM1 := Lib.hid (fun V => masters_any (g.p 0) (g.q 0) (maxK c k) (sumN d k) r1 V e1)
          have HM2 := Lib.hid (fun V => masters_any (g.p 1) (g.q 1) (maxK (shN c k) (n - k)) (sumN (shN d k) (n - k)) r2 V e2)
          have HC1 := Lib.hid (HT1.out k hlt)
          have HC2 := Lib.hid (HT2.out k hlt)
          have HOK := Lib.hid (show MeetOk n c g k ↔ (r1 = true ∧ r2 = true) by rw [e1, e2]; exact HIF.out k hlt)
          clear e1 e2
          go_wp2
          refine wp_region_held_drew (S := (fun w' : World => Below W.heap.size W w' ∧ Bx w' b9 #[.slice A1 n cap1, .slice (some ⟨b2, 0, none⟩) 2 cap2] 76 ∧ Bx w' b11 (crewC (g.p 0) (g.q 0) (g.s 0) (g.t 0) (g.u 0)) 109 ∧ Bx w' b12 (crewC (g.p 1) (g.q 1) (g.s 1) (g.t 1) (g.u 1)) 109)) (by kernel_rfl) ⟨hB.drew, Y9, Y11, Y12⟩ (fun hHeld => ?_)
          replace hB : Below W.heap.size W wr.drew := hB.drew
          replace Y9 : Bx wr.drew b9 #[.slice A1 n cap1, .slice (some ⟨b2, 0, none⟩) 2 cap2] 76 := Y9
          replace Y11 : Bx wr.drew b11 (crewC (g.p 0) (g.q 0) (g.s 0) (g.t 0) (g.u 0)) 109 := Y11
          replace Y12 : Bx wr.drew b12 (crewC (g.p 1) (g.q 1) (g.s 1) (g.t 1) (g.u 1)) 109 := Y12
          replace O : OwnI wr.drew W.heap.size v0 (ks.map (fun j : Nat => (j : Int))) := O
          obtain ⟨wq, hwq⟩ : ∃ wq, wr.drew = wq := ⟨_, rfl⟩
          rw [hwq] at hB Y9 Y11 Y12 O hHeld ⊢
          clear hwq
          refine wpAnyH_take (i := 0) (oi := _) (v := ?_) rfl (by kernel_rfl) (by kernel_rfl) (by kernel_rfl) (fun _ _ _ h => h) (Or.inl ⟨by kernel_rfl, ?_⟩) (by assumption) ?_
          rotate_left
          · intro w hSw; (try dsimp only at hSw); go_simp; first | done | with_reducible rfl
          try simp only [List.getElem_toArray, List.getElem_cons_zero, List.getElem_cons_succ, Act.put, List.setIfInBounds_toArray, List.set_cons_zero, List.set_cons_succ]
          refine wpAnyH_take (i := 1) (oi := _) (v := .agg #[.int .i64 (g.p 0), .int .i64 (g.q 0)]) rfl (by kernel_rfl) (by kernel_rfl) (by kernel_rfl) (fun _ _ _ h => h) (yields_two (by kernel_rfl) _ _ rfl b11 0 rfl (.int .i64 (g.p 0)) (.int .i64 (g.q 0)) (fun w' hS => ⟨hS.2.2.1.cell 0, hS.2.2.1.cell 1⟩) _ Tryd.underlying107 rfl (by kernel_rfl)) (by assumption) ?_
          try simp only [List.getElem_toArray, List.getElem_cons_zero, List.getElem_cons_succ, Act.put, List.setIfInBounds_toArray, List.set_cons_zero, List.set_cons_succ]
          refine wpAnyH_take (i := 2) (oi := _) (v := ?_) rfl (by kernel_rfl) (by kernel_rfl) (by kernel_rfl) (fun _ _ _ h => h) (Or.inl ⟨by kernel_rfl, ?_⟩) (by assumption) ?_
          rotate_left
          · intro w hSw; (try dsimp only at hSw); go_simp; first | done | with_reducible rfl
          try simp only [List.getElem_toArray, List.getElem_cons_zero, List.getElem_cons_succ, Act.put, List.setIfInBounds_toArray, List.set_cons_zero, List.set_cons_succ]
          refine wpAnyH_take (i := 3) (oi := _) (v := ?_) rfl (by kernel_rfl) (by kernel_rfl) (by kernel_rfl) (fun _ _ _ h => h) (Or.inl ⟨by kernel_rfl, ?_⟩) (by assumption) ?_
          rotate_left
          · intro w hSw; have hcell := (fun (w' : World) (hS : Below W.heap.size W w' ∧ Bx w' b9 #[.slice A1 n cap1, .slice (some ⟨b2, 0, none⟩) 2 cap2] 76 ∧ Bx w' b11 (crewC (g.p 0) (g.q 0) (g.s 0) (g.t 0) (g.u 0)) 109 ∧ Bx w' b12 (crewC (g.p 1) (g.q 1) (g.s 1) (g.t 1) (g.u 1)) 109) => (show w'.cell? ⟨b9, 0, none⟩ = some (.slice A1 n cap1) from hS.2.1.cell 0)) w hSw; clear hSw; go_simp; first | done | with_reducible rfl
          try simp only [List.getElem_toArray, List.getElem_cons_zero, List.getElem_cons_succ, Act.put, List.setIfInBounds_toArray, List.set_cons_zero, List.set_cons_succ]
          refine wpAnyH_take (i := 4) (oi := _) (v := ?_) rfl (by kernel_rfl) (by kernel_rfl) (by kernel_rfl) (fun _ _ _ h => h) (Or.inl ⟨by kernel_rfl, ?_⟩) (by assumption) ?_
          rotate_left
          · intro w hSw; (try dsimp only at hSw); go_simp; first | done | with_reducible rfl
          try simp only [List.getElem_toArray, List.getElem_cons_zero, List.getElem_cons_succ, Act.put, List.setIfInBounds_toArray, List.set_cons_zero, List.set_cons_succ]
          refine wpAnyH_take (i := 5) (oi := _) (v := ?_) rfl (by kernel_rfl) (by kernel_rfl) (by kernel_rfl) (fun _ _ _ h => h) (Or.inl ⟨by kernel_rfl, ?_⟩) (by assumption) ?_
          rotate_left
          · intro w hSw; (try dsimp only at hSw); go_simp; first | done | with_reducible rfl
          try simp only [List.getElem_toArray, List.getElem_cons_zero, List.getElem_cons_succ, Act.put, List.setIfInBounds_toArray, List.set_cons_zero, List.set_cons_succ]
          refine wpAnyH_ready (rs := [6]) (by kernel_rfl) (by simp) ?_
          refine AllReadyH.cons (o := _) rfl (fun K hK => ?_) AllReadyH.nil
          go_simp
          refine (HC1.out _ hB).mono ?_
          rintro e wa ⟨hb, rfl⟩
          replace hB := nxt hB hb
          replace Y9 := Y9.below hb
          replace Y11 := Y11.below hb
          replace Y12 := Y12.below hb
          replace O := O.below hb
          clear hb
          refine hK.out _ _ ⟨hB, Y9, Y11, Y12⟩ (fun hHeld => ?_)
          clear hK K
          try simp only [List.getElem_toArray, List.getElem_cons_zero, List.getElem_cons_succ, Act.put, List.setIfInBounds_toArray, List.set_cons_zero, List.set_cons_succ]
          refine wpAnyH_ready (rs := [7]) (by kernel_rfl) (by simp) ?_
          refine AllReadyH.cons (o := _) rfl (fun K hK => ?_) AllReadyH.nil
          go_simp
          refine (HM1.out _).mono ?_
          rintro e wb ⟨hb, rfl⟩
          replace hB := nxt hB hb
          replace Y9 := Y9.below hb
          replace Y11 := Y11.below hb
          replace Y12 := Y12.below hb
          replace O := O.below hb
          clear hb
          refine hK.out _ _ ⟨hB, Y9, Y11, Y12⟩ (fun hHeld => ?_)
          clear hK K
          try simp only [List.getElem_toArray, List.getElem_cons_zero, List.getElem_cons_succ, Act.put, List.setIfInBounds_toArray, List.set_cons_zero, List.set_cons_succ]
          refine wpAnyH_take (i := 8) (oi := _) (v := ?_) rfl (by kernel_rfl) (by kernel_rfl) (by kernel_rfl) (fun _ _ _ h => h) (Or.inl ⟨by kernel_rfl, ?_⟩) (by assumption) ?_
          rotate_left
          · intro w hSw; (try dsimp only at hSw); go_simp; first | done | with_reducible rfl
          try simp only [List.getElem_toArray, List.getElem_cons_zero, List.getElem_cons_succ, Act.put, List.setIfInBounds_toArray, List.set_cons_zero, List.set_cons_succ]
          cases r1 with
          | false =>
            have N := Lib.hid (HK.out.skip fun h => by have := (HOK.out.1 h).1; cases this)
            refine wpAnyH_take (i := 9) (oi := _) (v := undef) rfl (by kernel_rfl) (by kernel_rfl) (by kernel_rfl) (fun _ _ _ h => h) (Or.inr ⟨by kernel_rfl, rfl⟩) (by assumption) ?_
            try simp only [List.getElem_toArray, List.getElem_cons_zero, List.getElem_cons_succ, Act.put, List.setIfInBounds_toArray, List.set_cons_zero, List.set_cons_succ]
            refine wpAnyH_take (i := 10) (oi := _) (v := undef) rfl (by kernel_rfl) (by kernel_rfl) (by kernel_rfl) (fun _ _ _ h => h) (Or.inr ⟨by kernel_rfl, rfl⟩) (by assumption) ?_
            try simp only [List.getElem_toArray, List.getElem_cons_zero, List.getElem_cons_succ, Act.put, List.setIfInBounds_toArray, List.set_cons_zero, List.set_cons_succ]
            refine wpAnyH_take (i := 11) (oi := _) (v := undef) rfl (by kernel_rfl) (by kernel_rfl) (by kernel_rfl) (fun _ _ _ h => h) (Or.inr ⟨by kernel_rfl, rfl⟩) (by assumption) ?_
            try simp only [List.getElem_toArray, List.getElem_cons_zero, List.getElem_cons_succ, Act.put, List.setIfInBounds_toArray, List.set_cons_zero, List.set_cons_succ]
            refine wpAnyH_take (i := 12) (oi := _) (v := undef) rfl (by kernel_rfl) (by kernel_rfl) (by kernel_rfl) (fun _ _ _ h => h) (Or.inr ⟨by kernel_rfl, rfl⟩) (by assumption) ?_
            try simp only [List.getElem_toArray, List.getElem_cons_zero, List.getElem_cons_succ, Act.put, List.setIfInBounds_toArray, List.set_cons_zero, List.set_cons_succ]
            refine wpAnyH_take (i := 13) (oi := _) (v := undef) rfl (by kernel_rfl) (by kernel_rfl) (by kernel_rfl) (fun _ _ _ h => h) (Or.inr ⟨by kernel_rfl, rfl⟩) (by assumption) ?_
            try simp only [List.getElem_toArray, List.getElem_cons_zero, List.getElem_cons_succ, Act.put, List.setIfInBounds_toArray, List.set_cons_zero, List.set_cons_succ]
            refine wpAnyH_take (i := 14) (oi := _) (v := undef) rfl (by kernel_rfl) (by kernel_rfl) (by kernel_rfl) (fun _ _ _ h => h) (Or.inr ⟨by kernel_rfl, rfl⟩) (by assumption) ?_
            try simp only [List.getElem_toArray, List.getElem_cons_zero, List.getElem_cons_succ, Act.put, List.setIfInBounds_toArray, List.set_cons_zero, List.set_cons_succ]
            refine wpAnyH_take (i := 15) (oi := _) (v := undef) rfl (by kernel_rfl) (by kernel_rfl) (by kernel_rfl) (fun _ _ _ h => h) (Or.inr ⟨by kernel_rfl, rfl⟩) (by assumption) ?_
            try simp only [List.getElem_toArray, List.getElem_cons_zero, List.getElem_cons_succ, Act.put, List.setIfInBounds_toArray, List.set_cons_zero, List.set_cons_succ]
            refine wpAnyH_take (i := 16) (oi := _) (v := undef) rfl (by kernel_rfl) (by kernel_rfl) (by kernel_rfl) (fun _ _ _ h => h) (Or.inr ⟨by kernel_rfl, rfl⟩) (by assumption) ?_
            try simp only [List.getElem_toArray, List.getElem_cons_zero, List.getElem_cons_succ, Act.put, List.setIfInBounds_toArray, List.set_cons_zero, List.set_cons_succ]
            refine wpAnyH_take (i := 17) (oi := _) (v := ?_) rfl (by kernel_rfl) (by kernel_rfl) (by kernel_rfl) (fun _ _ _ h => h) (Or.inl ⟨by kernel_rfl, ?_⟩) (by assumption) ?_
            rotate_left
            · intro w hSw; (try dsimp only at hSw); go_simp; first | done | with_reducible rfl
            try simp only [List.getElem_toArray, List.getElem_cons_zero, List.getElem_cons_succ, Act.put, List.setIfInBounds_toArray, List.set_cons_zero, List.set_cons_succ]
            refine wpAnyH_done (by kernel_rfl) ?_ _
            go_wp2
            exact ⟨⟨k + 1, ks, by omega, by first | go_num | simp, hB, Y9, Y11, Y12, O, N.out⟩, by simp [intOf]; omega⟩
          | true =>
            refine wpAnyH_take (i := 9) (oi := _) (v := ?_) rfl (by kernel_rfl) (by kernel_rfl) (by kernel_rfl) (fun _ _ _ h => h) (Or.inl ⟨by kernel_rfl, ?_⟩) (by assumption) ?_
            rotate_left
            · intro w hSw; (try dsimp only at hSw); go_simp; first | done | with_reducible rfl
            try simp only [List.getElem_toArray, List.getElem_cons_zero, List.getElem_cons_succ, Act.put, List.setIfInBounds_toArray, List.set_cons_zero, List.set_cons_succ]
            refine wpAnyH_take (i := 10) (oi := _) (v := .agg #[.int .i64 (g.p 1), .int .i64 (g.q 1)]) rfl (by kernel_rfl) (by kernel_rfl) (by kernel_rfl) (fun _ _ _ h => h) (yields_two (by kernel_rfl) _ _ rfl b12 0 rfl (.int .i64 (g.p 1)) (.int .i64 (g.q 1)) (fun w' hS => ⟨hS.2.2.2.cell 0, hS.2.2.2.cell 1⟩) _ Tryd.underlying107 rfl (by kernel_rfl)) (by assumption) ?_
            try simp only [List.getElem_toArray, List.getElem_cons_zero, List.getElem_cons_succ, Act.put, List.setIfInBounds_toArray, List.set_cons_zero, List.set_cons_succ]
            refine wpAnyH_take (i := 11) (oi := _) (v := ?_) rfl (by kernel_rfl) (by kernel_rfl) (by kernel_rfl) (fun _ _ _ h => h) (Or.inl ⟨by kernel_rfl, ?_⟩) (by assumption) ?_
            rotate_left
            · intro w hSw; (try dsimp only at hSw); go_simp; first | done | with_reducible rfl
            try simp only [List.getElem_toArray, List.getElem_cons_zero, List.getElem_cons_succ, Act.put, List.setIfInBounds_toArray, List.set_cons_zero, List.set_cons_succ]
            refine wpAnyH_take (i := 12) (oi := _) (v := ?_) rfl (by kernel_rfl) (by kernel_rfl) (by kernel_rfl) (fun _ _ _ h => h) (Or.inl ⟨by kernel_rfl, ?_⟩) (by assumption) ?_
            rotate_left
            · intro w hSw; have hcell := (fun (w' : World) (hS : Below W.heap.size W w' ∧ Bx w' b9 #[.slice A1 n cap1, .slice (some ⟨b2, 0, none⟩) 2 cap2] 76 ∧ Bx w' b11 (crewC (g.p 0) (g.q 0) (g.s 0) (g.t 0) (g.u 0)) 109 ∧ Bx w' b12 (crewC (g.p 1) (g.q 1) (g.s 1) (g.t 1) (g.u 1)) 109) => (show w'.cell? ⟨b9, 0, none⟩ = some (.slice A1 n cap1) from hS.2.1.cell 0)) w hSw; clear hSw; go_simp; first | done | with_reducible rfl
            try simp only [List.getElem_toArray, List.getElem_cons_zero, List.getElem_cons_succ, Act.put, List.setIfInBounds_toArray, List.set_cons_zero, List.set_cons_succ]
            refine wpAnyH_take (i := 13) (oi := _) (v := ?_) rfl (by kernel_rfl) (by kernel_rfl) (by kernel_rfl) (fun _ _ _ h => h) (Or.inl ⟨by kernel_rfl, ?_⟩) (by assumption) ?_
            rotate_left
            · intro w hSw; (try dsimp only at hSw); go_simp; first | done | with_reducible rfl
            try simp only [List.getElem_toArray, List.getElem_cons_zero, List.getElem_cons_succ, Act.put, List.setIfInBounds_toArray, List.set_cons_zero, List.set_cons_succ]
            refine wpAnyH_take (i := 14) (oi := _) (v := ?_) rfl (by kernel_rfl) (by kernel_rfl) (by kernel_rfl) (fun _ _ _ h => h) (Or.inl ⟨by kernel_rfl, ?_⟩) (by assumption) ?_
            rotate_left
            · intro w hSw; (try dsimp only at hSw); go_simp; first | done | with_reducible rfl
            try simp only [List.getElem_toArray, List.getElem_cons_zero, List.getElem_cons_succ, Act.put, List.setIfInBounds_toArray, List.set_cons_zero, List.set_cons_succ]
            refine wpAnyH_ready (rs := [15]) (by kernel_rfl) (by simp) ?_
            refine AllReadyH.cons (o := _) rfl (fun K hK => ?_) AllReadyH.nil
            go_simp
            refine (HC2.out _ hB).mono ?_
            rintro e wd ⟨hb, rfl⟩
            replace hB := nxt hB hb
            replace Y9 := Y9.below hb
            replace Y11 := Y11.below hb
            replace Y12 := Y12.below hb
            replace O := O.below hb
            clear hb
            refine hK.out _ _ ⟨hB, Y9, Y11, Y12⟩ (fun hHeld => ?_)
            clear hK K
            try simp only [List.getElem_toArray, List.getElem_cons_zero, List.getElem_cons_succ, Act.put, List.setIfInBounds_toArray, List.set_cons_zero, List.set_cons_succ]
            refine wpAnyH_ready (rs := [16]) (by kernel_rfl) (by simp) ?_
            refine AllReadyH.cons (o := _) rfl (fun K hK => ?_) AllReadyH.nil
            go_simp
            refine (HM2.out _).mono ?_
            rintro e we ⟨hb, rfl⟩
            replace hB := nxt hB hb
            replace Y9 := Y9.below hb
            replace Y11 := Y11.below hb
            replace Y12 := Y12.below hb
            replace O := O.below hb
            clear hb
            refine hK.out _ _ ⟨hB, Y9, Y11, Y12⟩ (fun hHeld => ?_)
            clear hK K
            try simp only [List.getElem_toArray, List.getElem_cons_zero, List.getElem_cons_succ, Act.put, List.setIfInBounds_toArray, List.set_cons_zero, List.set_cons_succ]
            refine wpAnyH_take (i := 17) (oi := _) (v := ?_) rfl (by kernel_rfl) (by kernel_rfl) (by kernel_rfl) (fun _ _ _ h => h) (Or.inl ⟨by kernel_rfl, ?_⟩) (by assumption) ?_
            rotate_left
            · intro w hSw; (try dsimp only at hSw); go_simp; first | done | with_reducible rfl
            try simp only [List.getElem_toArray, List.getElem_cons_zero, List.getElem_cons_succ, Act.put, List.setIfInBounds_toArray, List.set_cons_zero, List.set_cons_succ]
            refine wpAnyH_done (by kernel_rfl) ?_ _
            cases r2 with
            | false =>
              have N := Lib.hid (HK.out.skip fun h => by have := (HOK.out.1 h).2; cases this)
              go_wp2
              exact ⟨⟨k + 1, ks, by omega, by first | go_num | simp, hB, Y9, Y11, Y12, O, N.out⟩, by simp [intOf]; omega⟩
            | true =>
              have N := Lib.hid (HK.out.snoc (HOK.out.2 ⟨rfl, rfl⟩))
              have hlen : (ks.map (fun j : Nat => (j : Int))).length ≤ k := by rw [List.length_map]; exact HK.out.2.2
              have hwk : IntKind.i64.wrap (k : Int) = (k : Int) := IntWalk.i64_in _ (by omega)
              obtain ⟨L, hL⟩ : ∃ L, L = ks.map (fun j : Nat => (j : Int)) := ⟨_, rfl⟩
              rw [← hL] at O hlen
              have HLL := Lib.hid hL
              have l9' := Y9.lt
              clear HM1 HM2 HC1 HC2 HT1 HT2 HIF HDJ HR3 HR1 HOK HK hL
              obtain ⟨i0, hi, hz0, hz1, hz2⟩ := info_parts infoI64
              go_wp2_with (at_builtin; refine wpList_append_own _ rfl _ _ 37 rfl W.heap.size 2 i0 (.int .i64 0) 1 8 Tryd.underlying37 hi hz0 hz1 hz2 rfl (by decide) _ _ _ rfl (World.ownsRow.alloc O _) ⟨we.heap.size, 0, none⟩ 1 1 [.int .i64 (k : Int)] rfl rfl (ncells we #[.int .i64 (k : Int)] 2) one64 (by have := hB.size; unfold maxLen; omega) (by have := hB.size; omega) (by have := hB.size; simp; omega) ?_; intro v' w1 own' hgr _)
              have B1 : Below W.heap.size W w1 := (al hB _).grown hgr (al hB _).size (fun q e => by have := (O.lt q e).1; omega)
              have Z9 : Bx w1 b9 #[.slice A1 n cap1, .slice (some ⟨b2, 0, none⟩) 2 cap2] 76 := (Y9.alloc _).of_block (hgr.block _ (Y9.alloc _).lt (fun e => by have := (O.lt _ e.symm).1; omega))
              have Z11 : Bx w1 b11 (crewC (g.p 0) (g.q 0) (g.s 0) (g.t 0) (g.u 0)) 109 := (Y11.alloc _).of_block (hgr.block _ (Y11.alloc _).lt (fun e => by have := (O.lt _ e.symm).1; omega))
              have Z12 : Bx w1 b12 (crewC (g.p 1) (g.q 1) (g.s 1) (g.t 1) (g.u 1)) 109 := (Y12.alloc _).of_block (hgr.block _ (Y12.alloc _).lt (fun e => by have := (O.lt _ e.symm).1; omega))
              have O1 := OwnI.snoc own'
              rw [HLL.out, show ks.map (fun j : Nat => (j : Int)) ++ [(k : Int)] = (ks ++ [k]).map (fun j : Nat => (j : Int)) from by simp] at O1
              exact ⟨⟨k + 1, ks ++ [k], by omega, by first | go_num | simp, B1, Z9, Z11, Z12, O1, N.out⟩, by simp [intOf]; omega⟩
        · obtain rfl : k = n + 1 := by omega
          have hki : ¬ (((n + 1 : Nat) : Int) < (n : Int) + 1) := by omega
          generalize ((n + 1 : Nat) : Int) = kk at hki
          obtain ⟨A', cap', hv⟩ := O.shape
          subst hv
          have hrd := O.rd.2
          have hBw : Below w.heap.size w wr := hBW.trans (hB.mono hBW.size)
          cases ks with
          | nil =>
            have N := Lib.hid (Kept.none HK.out)
            clear HT1 HT2 hrd
            go_wp2
            exact bodyPost_ret (by simp [results, Tryd.results39, go_sem]) rfl ⟨hBw, .inr (.inl ⟨HO.out, N.out, rfl⟩)⟩
          | cons j0 js =>
            obtain ⟨ks, hks⟩ : ∃ ks, ks = j0 :: js := ⟨_, rfl⟩
            rw [← hks] at HK O hrd ⊢
            have hm1 : 1 ≤ ks.length := by rw [hks]; simp
            have hm2 : ks.length ≤ 7 := by have := HK.out.2.2; omega
            clear hks
            rw [List.length_map] at hrd ⊢
            have hget : ∀ i, (ks.map (fun j : Nat => (j : Int))).getD i 0 = ((ks.getD i 0 : Nat) : Int) := fun i => by
              simp only [List.getD_eq_getElem?_getD, List.getElem?_map]
              cases ks[i]? <;> rfl
            have hF := HK.out.first (f := meetV n d g) (by omega)
            have hin : ∀ i, i < ks.length → ks.getD i 0 ≤ n := fun i hi => by
              have hi' : i < ks.length := hi
              have := ((HK.out.1 (ks.getD i 0)).1 (by simp [List.getD, hi'])).1
              omega
            have hE : ∀ (args : Array Value) (w : World), (callFunc 74 args).run Tryd.prog w = .ok (.enter 74 args) w := enters_of Tryd.func74 (by kernel_rfl) rfl
            have hL := leastI_any 74 #[.pointer (some ⟨b11, 0, none⟩), .pointer (some ⟨b9, 0, none⟩), .pointer (some ⟨b12, 0, none⟩)] A' ks.length cap' (fun i => (ks.map (fun j : Nat => (j : Int))).getD i 0) (fun i => meetV n d g (ks.getD i 0)) wr hm1 (by omega) hrd hE (fun V hV i hi => by
              rw [hget i]
              exact meetFn_any b11 b9 b12 A1 n cap1 (.slice (some ⟨b2, 0, none⟩) 2 cap2) c d g 109 76 109 (ks.getD i 0) V hcap1 (hin i hi) HO.out (Y11.below hV) (Y9.below hV) (Y12.below hV) (((HR3.out.below hB).below (Below.mono hV (by exact hB.size))).mono (by have := hB.size; have := hV.size; omega)))
            simp only [hget] at hL
            obtain ⟨k0, hk0⟩ : ∃ k0, k0 = ks.getD (lsS (fun i => meetV n d g (ks.getD i 0)) ks.length).1 0 := ⟨_, rfl⟩
            rw [← hk0] at hL hF
            have HL := Lib.hid hL
            have HF := Lib.hid hF
            have hmi : ¬ ((ks.length : Int) = 0) := by omega
            have hm0 : ((ks.length : Int) == 0) = false := by simpa using (by omega : ¬ ks.length = 0)
            clear hL hF hrd hget hin hE HT1 HT2 hmi hk0
            go_wp2_with fail
            refine HL.out.mono ?_
            rintro e w5 ⟨hb, rfl⟩
            replace hBw := nxt hBw hb
            clear hb
            go_wp2
            exact bodyPost_ret (by simp [results, Tryd.results39, go_sem]) rfl ⟨hBw, .inr (.inr ⟨HO.out, k0, HF.out, rfl⟩)⟩
end Go.Proofs.YtfpoikeibjojgaaDoor
