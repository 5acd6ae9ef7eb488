/-
  MeetAt on the model's side: contracts of spec.l07May at elements, spec.l00Max, spec.MeetAt. Conditions stand at each.
-/
import Derived.Test.YtfpoikeibjojgaaDoorRows
import Derived.Test.YtfpoikeibjojgaaDoorMeetM
import Derived.Test.YtfpoikeibjojgaaDoorDaysS
namespace Go.Proofs.YtfpoikeibjojgaaDoor
open Go Go.ChangeShapes Go.WideShapes Go.ChangeAt Go.RowKit
set_option linter.unusedVariables false
set_option linter.unusedSimpArgs false
set_option maxRecDepth 100000
set_option maxHeartbeats 8000000
theorem l07May_at (b o b' o' : Nat) (p x : Int) (r : Bool) (w : World) (c0 : w.cell? ⟨b, o, none⟩ = some (.int .i8 p)) (d0 : w.cell? ⟨b', o', none⟩ = some (.int .i8 x)) (hr : r = true ↔ x ≤ p) :
    Calls Tryd.prog 47 #[.pointer (some ⟨b, o, none⟩), .pointer (some ⟨b', o', none⟩)] w (BPost r w) := by
  by_cases hx : x ≤ p
  · obtain rfl : r = true := hr.2 hx
    have d1 : decide (x ≤ p) = true := by simpa using hx
    clear hr hx
    go_enter Tryd.func47, Tryd.ntmps47
    go_wp2
    go_quiet (fail)
    go_wp2
    go_ret
    exact ⟨below_drewN' (Below.refl _ _) _, by first | rfl | (show Ending.returned (Value.bool (decide (x ≤ p))) = _; rw [d1])⟩
  · obtain rfl : r = false := Bool.eq_false_iff.2 fun hh => hx (hr.1 hh)
    have d1 : decide (x ≤ p) = false := by simpa using hx
    clear hr hx
    go_enter Tryd.func47, Tryd.ntmps47
    go_wp2
    go_quiet (fail)
    go_wp2
    go_ret
    exact ⟨below_drewN' (Below.refl _ _) _, by first | rfl | (show Ending.returned (Value.bool (decide (x ≤ p))) = _; rw [d1])⟩
theorem maxS_any (a b M : Int) (w : World) (h : max a b = M) : Calls Tryd.prog 68 #[.int .i64 a, .int .i64 b] w fun e w' => Below w.heap.size w w' ∧ e = .returned (.int .i64 M) := by
  by_cases hab : b < a
  · obtain rfl : M = a := by omega
    clear h
    go_enter Tryd.func68, Tryd.ntmps68
    go_wp2_with fail
    go_ret
    exact ⟨Below.refl _ _, rfl⟩
  · obtain rfl : M = b := by omega
    clear h
    go_enter Tryd.func68, Tryd.ntmps68
    go_wp2_with fail
    go_ret
    exact ⟨Below.refl _ _, rfl⟩
/-- what MeetAt answers. -/
def MeetPost (n : Nat) (c d : Nat → Int) (g : Gs) (w : World) (e : Ending) (w' : World) : Prop :=
  Below w.heap.size w w' ∧ ((∃ r : Int, r ≠ 0 ∧ JobCode n c d 2 g r ∧ e = .returned (.tuple #[.int .i64 0, .int .i64 0, .int .i64 r])) ∨
    (JobOk n c d 2 g ∧ (∀ k, k < n + 1 → ¬ MeetOk n c g k) ∧ e = .returned (.tuple #[.int .i64 0, .int .i64 0, .int .i64 6])) ∨
    (JobOk n c d 2 g ∧ ∃ k : Nat, FirstLeast (n + 1) (MeetOk n c g) (meetV n d g) k ∧ e = .returned (.tuple #[.int .i64 k, .int .i64 (meetV n d g k), .int .i64 0])))
def gangs2C (g : Gs) : Array Value := #[.int .i8 (g.p 0), .int .i8 (g.q 0), .int .i8 (g.s 0), .int .i8 (g.t 0), .int .i16 (g.u 0), .int .i8 (g.p 1), .int .i8 (g.q 1), .int .i8 (g.s 1), .int .i8 (g.t 1), .int .i16 (g.u 1)]
theorem two_gangs {w : World} {b : Nat} {g : Gs} {t : TypeId} (h : Bx w b (gangs2C g) t) : RdG w w.heap.size (some ⟨b, 0, none⟩) 2 g := fun _ =>
  ⟨b, 0, rfl, h.lt, fun j hj => by
    obtain rfl | rfl : j = 0 ∨ j = 1 := by omega
    · exact ⟨h.cell 0, h.cell 1, h.cell 2, h.cell 3, h.cell 4⟩
    · exact ⟨h.cell 5, h.cell 6, h.cell 7, h.cell 8, h.cell 9⟩⟩
/-- the best so far. -/
def BestS (k : Nat) (ok : Nat → Prop) (f : Nat → Int) (z v : Int) : Prop := (z = 0 ∧ v = -1 ∧ ∀ j, j < k → ¬ ok j) ∨ ∃ a : Nat, FirstLeast k ok f a ∧ z = a ∧ v = f a
theorem BestS.keep {k : Nat} {ok : Nat → Prop} {f : Nat → Int} {z v : Int} (h : BestS k ok f z v) (h' : ¬ (ok k ∧ (v < 0 ∨ f k < v))) : BestS (k + 1) ok f z v := by
  rcases h with ⟨h1, h2, h3⟩ | ⟨a, h1, h2, h3⟩
  · exact .inl ⟨h1, h2, all_step h3 fun hk => h' ⟨hk, by omega⟩⟩
  · exact .inr ⟨a, h1.keep fun hk => by
      rcases Int.lt_or_le (f k) (f a) with hlt | hle
      · exact absurd ⟨hk, Or.inr (by omega)⟩ h'
      · exact hle, h2, h3⟩
theorem BestS.new {k : Nat} {ok : Nat → Prop} {f : Nat → Int} {z v : Int} (h : BestS k ok f z v) (hk : ok k) (h' : v < 0 ∨ f k < v) (hf : ∀ j, j < k → 0 ≤ f j) : BestS (k + 1) ok f k (f k) := by
  rcases h with ⟨h1, h2, h3⟩ | ⟨a, h1, h2, h3⟩
  · exact .inr ⟨k, FirstLeast.first h3 hk, rfl, rfl⟩
  · exact .inr ⟨k, h1.new hk (by have := hf a h1.1; omega), rfl, rfl⟩
theorem specMeet_any (A : Option Addr) (n cap : Nat) (c d : Nat → Int) (g : Gs) (w : World) (hn : n ≤ 1048576) (hcap : n ≤ cap) (hr : RdS w w.heap.size A n c d) (hc : ∀ j, -128 ≤ c j ∧ c j ≤ 127) (hd : ∀ j, -32768 ≤ d j ∧ d j ≤ 32767) (hgb : g.bd) :
    Calls Tryd.prog 38 #[.slice A n cap, .agg #[.int .i8 (g.p 0), .int .i8 (g.q 0), .int .i8 (g.s 0), .int .i8 (g.t 0), .int .i16 (g.u 0)], .agg #[.int .i8 (g.p 1), .int .i8 (g.q 1), .int .i8 (g.s 1), .int .i8 (g.t 1), .int .i16 (g.u 1)]] w (MeetPost n c d g w) := by
  have HR := Lib.hid hr
  have HA := Lib.hid (fun W b (hw : Below w.heap.size w W) (hb : Bx W b (gangs2C g) 30) => l07Asked_any A n cap c d (some ⟨b, 0, none⟩) 2 2 g W hn (by omega) ((hr.below hw).mono hw.size) (two_gangs hb) hc hd hgb)
  have X2 := ((Bx.new w (gangC (g.p 0) (g.q 0) (g.s 0) (g.t 0) (g.u 0)) 30).alloc (.cells (gangC (g.p 1) (g.q 1) (g.s 1) (g.t 1) (g.u 1)) 30)).alloc (.cells (gangs2C g) 30)
  have X3 : Bx ((w.alloc (.cells (gangC (g.p 0) (g.q 0) (g.s 0) (g.t 0) (g.u 0)) 30)).alloc (.cells (gangC (g.p 1) (g.q 1) (g.s 1) (g.t 1) (g.u 1)) 30)) (w.heap.size + 1) (gangC (g.p 1) (g.q 1) (g.s 1) (g.t 1) (g.u 1)) 30 := by
    have := Bx.new (w.alloc (.cells (gangC (g.p 0) (g.q 0) (g.s 0) (g.t 0) (g.u 0)) 30)) (gangC (g.p 1) (g.q 1) (g.s 1) (g.t 1) (g.u 1)) 30
    rwa [World.size_alloc] at this
  replace X3 := X3.alloc (.cells (gangs2C g) 30)
  have X4 : Bx (((w.alloc (.cells (gangC (g.p 0) (g.q 0) (g.s 0) (g.t 0) (g.u 0)) 30)).alloc (.cells (gangC (g.p 1) (g.q 1) (g.s 1) (g.t 1) (g.u 1)) 30)).alloc (.cells (gangs2C g) 30)) (w.heap.size + 1 + 1) (gangs2C g) 30 := by
    have := Bx.new ((w.alloc (.cells (gangC (g.p 0) (g.q 0) (g.s 0) (g.t 0) (g.u 0)) 30)).alloc (.cells (gangC (g.p 1) (g.q 1) (g.s 1) (g.t 1) (g.u 1)) 30)) (gangs2C g) 30
    rwa [World.size_alloc, World.size_alloc] at this
  have B := al (al (al (Below.refl w.heap.size w) (.cells (gangC (g.p 0) (g.q 0) (g.s 0) (g.t 0) (g.u 0)) 30)) (.cells (gangC (g.p 1) (g.q 1) (g.s 1) (g.t 1) (g.u 1)) 30)) (.cells (gangs2C g) 30)
  clear hr hgb
  go_enter Tryd.func38, Tryd.ntmps38
  go_wp2_with fail
  refine (HA.out _ _ B X4).mono ?_
  rintro e w1 ⟨hb, r, hj, rfl⟩
  replace X2 := X2.below hb
  replace X3 := X3.below hb
  replace B := nxt B hb
  obtain ⟨b2, h2⟩ : ∃ b2, b2 = w.heap.size := ⟨_, rfl⟩
  rw [← h2] at X2 X3 ⊢
  clear hb X4 h2
  have HJ := Lib.hid hj
  clear hj
  by_cases h0 : r = 0
  · subst h0
    have HO := Lib.hid (JobCode.ok HJ.out)
    obtain ⟨W, hW⟩ : ∃ W : World, W = w := ⟨_, rfl⟩
    have hB : Below W.heap.size W w1 := by rw [hW]; exact B
    have HR' := Lib.hid (show RdS W W.heap.size A n c d by rw [hW]; exact HR.out)
    go_wp2
    go_loopw [10, 11, 12, 13, 14, 15] (fun t10 t11 t12 t13 t14 t15 wr => ∃ (k : Nat) (z v : Int), k ≤ n + 1 ∧ t10 = .int .i64 z ∧ t11 = .int .i64 v ∧ t12 = .int .i64 k ∧ Below W.heap.size W wr ∧ Bx wr b2 (gangC (g.p 0) (g.q 0) (g.s 0) (g.t 0) (g.u 0)) 30 ∧ Bx wr (b2 + 1) (gangC (g.p 1) (g.q 1) (g.s 1) (g.t 1) (g.u 1)) 30 ∧ BestS k (MeetOk n c g) (meetV n d g) z v) (fun t10 t11 t12 t13 t14 t15 wr => n + 1 - (intOf t12).toNat)
    case atStart => exact ⟨0, 0, -1, by omega, rfl, rfl, rfl, hB, X2, X3, .inl ⟨rfl, rfl, fun j hj => by omega⟩⟩
    case round =>
      clear hB X2 X3
      obtain ⟨k, z, v, hk, rfl, rfl, rfl, hB, X2, X3, hst⟩ := hrel
      have HS := Lib.hid hst
      clear hst
      by_cases hlt : k ≤ n
      · have hki : (k : Int) ≤ (n : Int) := by omega
        have hc0 : -128 ≤ g.p 0 ∧ g.p 0 ≤ 127 := by have := HO.out.1.2 0 (by decide); have := this.1; omega
        go_wp2
        go_loopw [13, 14] (fun t13 t14 wr => ∃ (i : Nat) (b : Bool), i ≤ n ∧ t13 = .bool b ∧ t14 = .int .i64 i ∧ Below W.heap.size W wr ∧ Bx wr b2 (gangC (g.p 0) (g.q 0) (g.s 0) (g.t 0) (g.u 0)) 30 ∧ Bx wr (b2 + 1) (gangC (g.p 1) (g.q 1) (g.s 1) (g.t 1) (g.u 1)) 30 ∧ (b = true ↔ MeetOk i c g k)) (fun t13 t14 wr => n - (intOf t14).toNat)
        case atStart => exact ⟨0, true, by omega, rfl, rfl, hB, X2, X3, ⟨fun _ j hj => by omega, fun _ => rfl⟩⟩
        case round =>
          clear hB X2 X3
          obtain ⟨i, b, hi, rfl, rfl, hB, X2, X3, hbk⟩ := hrel
          have HB := Lib.hid hbk
          clear hbk
          by_cases hin : i < n
          · have hii : (i : Int) < (n : Int) := by omega
            cases b with
            | false =>
              have N0 := Lib.hid (show false = true ↔ MeetOk (i + 1) c g k from ⟨fun h => (by cases h), fun h => HB.out.2 fun j hj => h j (by omega)⟩)
              go_wp2
              exact ⟨⟨i + 1, false, by omega, rfl, by first | go_num | simp, hB, X2, X3, N0.out⟩, by simp [intOf]; omega⟩
            | true =>
              have HT := Lib.hid (HB.out.1 rfl)
              obtain ⟨bb, off, rfl, hbl, x0, x1⟩ := (HR'.out.below hB).at hin
              have y0 : wr.cell? ⟨b2, 0, none⟩ = some (.int .i8 (g.p 0)) := X2.cell 0
              have y1 : wr.cell? ⟨b2 + 1, 0, none⟩ = some (.int .i8 (g.p 1)) := X3.cell 0
              by_cases hik : i < k
              · have hki2 : (i : Int) < (k : Int) := by omega
                have hki3 : ¬ ((k : Int) ≤ (i : Int)) := by omega
                obtain ⟨r, hr⟩ := dec_ex (c i ≤ g.p 0)
                have HM := Lib.hid (l07May_at b2 0 bb (off + i * 2) (g.p 0) (c i) r wr y0 x0 hr)
                have HF := Lib.hid (show r = true ↔ MeetOk (i + 1) c g k from hr.trans ⟨fun h => all_step HT.out ⟨fun _ => h, fun h' => by omega⟩, fun h => (h i (by omega)).1 hik⟩)
                clear hr x0 x1 y0 y1
                go_wp2_with fail
                refine HM.out.mono ?_
                rintro e wn ⟨hw, rfl⟩
                replace hB := nxt hB hw
                replace X2 := X2.below hw
                replace X3 := X3.below hw
                clear hw HM
                cases r with
                | false =>
                  go_wp2
                  exact ⟨⟨i + 1, false, by omega, rfl, by first | go_num | simp, hB, X2, X3, HF.out⟩, by simp [intOf]; omega⟩
                | true =>
                  go_wp2
                  exact ⟨⟨i + 1, true, by omega, rfl, by first | go_num | simp, hB, X2, X3, by simpa using HF.out⟩, by simp [intOf]; omega⟩
              · have hki2 : ¬ ((i : Int) < (k : Int)) := by omega
                have hki3 : (k : Int) ≤ (i : Int) := by omega
                obtain ⟨r, hr⟩ := dec_ex (c i ≤ g.p 1)
                have HM := Lib.hid (l07May_at (b2 + 1) 0 bb (off + i * 2) (g.p 1) (c i) r wr y1 x0 hr)
                have HF := Lib.hid (show r = true ↔ MeetOk (i + 1) c g k from hr.trans ⟨fun h => all_step HT.out ⟨fun h' => by omega, fun _ => h⟩, fun h => (h i (by omega)).2 (by omega)⟩)
                clear hr x0 x1 y0 y1
                go_wp2_with fail
                refine HM.out.mono ?_
                rintro e wn ⟨hw, rfl⟩
                replace hB := nxt hB hw
                replace X2 := X2.below hw
                replace X3 := X3.below hw
                clear hw HM
                go_wp2
                exact ⟨⟨i + 1, r, by omega, by first | rfl | (cases r <;> rfl), by first | go_num | simp, hB, X2, X3, HF.out⟩, by simp [intOf]; omega⟩
          · obtain rfl : n = i := by omega
            have hii : ¬ ((n : Int) < (n : Int)) := by omega
            have hkc : (k : Int) ≤ (cap : Int) := by omega
            go_wp2
            refine wp_region_held_drew (S := (fun w' : World => Below W.heap.size W w' ∧ Bx w' b2 (gangC (g.p 0) (g.q 0) (g.s 0) (g.t 0) (g.u 0)) 30 ∧ Bx w' (b2 + 1) (gangC (g.p 1) (g.q 1) (g.s 1) (g.t 1) (g.u 1)) 30)) (by kernel_rfl) ⟨hB.drew, X2, X3⟩ (fun hHeld => ?_)
            replace hB : Below W.heap.size W wr.drew := hB.drew
            replace X2 : Bx wr.drew b2 (gangC (g.p 0) (g.q 0) (g.s 0) (g.t 0) (g.u 0)) 30 := X2
            replace X3 : Bx wr.drew (b2 + 1) (gangC (g.p 1) (g.q 1) (g.s 1) (g.t 1) (g.u 1)) 30 := X3
            obtain ⟨wq, hwq⟩ : ∃ wq, wr.drew = wq := ⟨_, rfl⟩
            rw [hwq] at hB X2 X3 hHeld ⊢
            clear hwq
            refine wpAnyH_take (i := 0) (oi := _) (v := ?_) rfl (by kernel_rfl) (by kernel_rfl) (by kernel_rfl) (fun _ _ _ h => h) (Or.inl ⟨by kernel_rfl, ?_⟩) (by assumption) ?_
            rotate_left
            · intro w hSw; (try dsimp only at hSw); go_simp; first | done | with_reducible rfl
            try simp only [List.getElem_toArray, List.getElem_cons_zero, List.getElem_cons_succ, Act.put, List.setIfInBounds_toArray, List.set_cons_zero, List.set_cons_succ]
            refine wpAnyH_take (i := 1) (oi := _) (v := ?_) rfl (by kernel_rfl) (by kernel_rfl) (by kernel_rfl) (fun _ _ _ h => h) (Or.inl ⟨by kernel_rfl, ?_⟩) (by assumption) ?_
            rotate_left
            · intro w hSw; (try dsimp only at hSw); go_simp; first | done | with_reducible rfl
            try simp only [List.getElem_toArray, List.getElem_cons_zero, List.getElem_cons_succ, Act.put, List.setIfInBounds_toArray, List.set_cons_zero, List.set_cons_succ]
            refine wpAnyH_take (i := 2) (oi := _) (v := ?_) rfl (by kernel_rfl) (by kernel_rfl) (by kernel_rfl) (fun _ _ _ h => h) (Or.inl ⟨by kernel_rfl, ?_⟩) (by assumption) ?_
            rotate_left
            · intro w hSw; (try dsimp only at hSw); go_simp; first | done | with_reducible rfl
            try simp only [List.getElem_toArray, List.getElem_cons_zero, List.getElem_cons_succ, Act.put, List.setIfInBounds_toArray, List.set_cons_zero, List.set_cons_succ]
            refine wpAnyH_take (i := 5) (oi := _) (v := ?_) rfl (by kernel_rfl) (by kernel_rfl) (by kernel_rfl) (fun _ _ _ h => h) (Or.inl ⟨by kernel_rfl, ?_⟩) (by assumption) ?_
            rotate_left
            · intro w hSw; (try dsimp only at hSw); go_simp; first | done | with_reducible rfl
            try simp only [List.getElem_toArray, List.getElem_cons_zero, List.getElem_cons_succ, Act.put, List.setIfInBounds_toArray, List.set_cons_zero, List.set_cons_succ]
            refine wpAnyH_take (i := 6) (oi := _) (v := ?_) rfl (by kernel_rfl) (by kernel_rfl) (by kernel_rfl) (fun _ _ _ h => h) (Or.inl ⟨by kernel_rfl, ?_⟩) (by assumption) ?_
            rotate_left
            · intro w hSw; (try dsimp only at hSw); go_simp; first | done | with_reducible rfl
            try simp only [List.getElem_toArray, List.getElem_cons_zero, List.getElem_cons_succ, Act.put, List.setIfInBounds_toArray, List.set_cons_zero, List.set_cons_succ]
            refine wpAnyH_take (i := 7) (oi := _) (v := ?_) rfl (by kernel_rfl) (by kernel_rfl) (by kernel_rfl) (fun _ _ _ h => h) (Or.inl ⟨by kernel_rfl, ?_⟩) (by assumption) ?_
            rotate_left
            · intro w hSw; (try dsimp only at hSw); go_simp; first | done | with_reducible rfl
            try simp only [List.getElem_toArray, List.getElem_cons_zero, List.getElem_cons_succ, Act.put, List.setIfInBounds_toArray, List.set_cons_zero, List.set_cons_succ]
            have hbd := meetV_bd HO.out.1.2 HO.out.1.1 HO.out.2.2 hlt
            have hn6 : n ≤ 6 := HO.out.1.1.1
            have hdj : ∀ j, j < n → 0 ≤ d j ∧ d j ≤ 2000 := fun j hj => ⟨by have := (HO.out.1.1.2 j hj).2; omega, (HO.out.1.1.2 j hj).2.2⟩
            have HV := Lib.hid hbd.2.2
            have HW1 := Lib.hid (fun V (hV : Below W.heap.size W V) => l07Work_any A k cap c d V (by omega) (((HR'.out.take hlt).below hV).mono hV.size) (fun j hj => hdj j (by omega)))
            have HW2 := Lib.hid (fun V (hV : Below W.heap.size W V) => l07Work_any (if cap = k then A else A.map (fun x => x.add (k * 2))) (n - k) (cap - k) (shN c k) (shN d k) V (by omega) (((HR'.out.drop hlt hcap).below hV).mono hV.size) (fun j hj => hdj (k + j) (by omega)))
            have HD1 := Lib.hid (fun V (hV : Bx V b2 (gangC (g.p 0) (g.q 0) (g.s 0) (g.t 0) (g.u 0)) 30) => l07Days_any b2 (g.p 0) (g.q 0) (g.s 0) (g.t 0) (g.u 0) 30 (sumN d k) V (HO.out.1.2 0 (by decide)) hbd.1 hV)
            have HD2 := Lib.hid (fun V (hV : Bx V (b2 + 1) (gangC (g.p 1) (g.q 1) (g.s 1) (g.t 1) (g.u 1)) 30) => l07Days_any (b2 + 1) (g.p 1) (g.q 1) (g.s 1) (g.t 1) (g.u 1) 30 (sumN (shN d k) (n - k)) V (HO.out.1.2 1 (by decide)) hbd.2.1 hV)
            have HX := Lib.hid (fun V => maxS_any (daysL (g.q 0) (g.s 0) (g.t 0) (sumN d k)) (daysL (g.q 1) (g.s 1) (g.t 1) (sumN (shN d k) (n - k))) (meetV n d g k) V rfl)
            clear hbd hdj
            refine wpAnyH_ready (rs := [3]) (by kernel_rfl) (by simp) ?_
            refine AllReadyH.cons (o := _) rfl (fun K hK => ?_) AllReadyH.nil
            go_simp
            refine (HW1.out _ hB).mono ?_
            rintro e wa ⟨hb, rfl⟩
            replace hB := nxt hB hb
            replace X2 := X2.below hb
            replace X3 := X3.below hb
            clear hb
            refine hK.out _ _ ⟨hB, X2, X3⟩ (fun hHeld => ?_)
            clear hK K
            try simp only [List.getElem_toArray, List.getElem_cons_zero, List.getElem_cons_succ, Act.put, List.setIfInBounds_toArray, List.set_cons_zero, List.set_cons_succ]
            refine wpAnyH_ready (rs := [4]) (by kernel_rfl) (by simp) ?_
            refine AllReadyH.cons (o := _) rfl (fun K hK => ?_) AllReadyH.nil
            go_simp
            refine (HD1.out _ X2).mono ?_
            rintro e wb ⟨hb, rfl⟩
            replace hB := nxt hB hb
            replace X2 := X2.below hb
            replace X3 := X3.below hb
            clear hb
            refine hK.out _ _ ⟨hB, X2, X3⟩ (fun hHeld => ?_)
            clear hK K
            try simp only [List.getElem_toArray, List.getElem_cons_zero, List.getElem_cons_succ, Act.put, List.setIfInBounds_toArray, List.set_cons_zero, List.set_cons_succ]
            refine wpAnyH_ready (rs := [8]) (by kernel_rfl) (by simp) ?_
            refine AllReadyH.cons (o := _) rfl (fun K hK => ?_) AllReadyH.nil
            go_simp
            refine (HW2.out _ hB).mono ?_
            rintro e wc ⟨hb, rfl⟩
            replace hB := nxt hB hb
            replace X2 := X2.below hb
            replace X3 := X3.below hb
            clear hb
            refine hK.out _ _ ⟨hB, X2, X3⟩ (fun hHeld => ?_)
            clear hK K
            try simp only [List.getElem_toArray, List.getElem_cons_zero, List.getElem_cons_succ, Act.put, List.setIfInBounds_toArray, List.set_cons_zero, List.set_cons_succ]
            refine wpAnyH_ready (rs := [9]) (by kernel_rfl) (by simp) ?_
            refine AllReadyH.cons (o := _) rfl (fun K hK => ?_) AllReadyH.nil
            go_simp
            refine (HD2.out _ X3).mono ?_
            rintro e wd ⟨hb, rfl⟩
            replace hB := nxt hB hb
            replace X2 := X2.below hb
            replace X3 := X3.below hb
            clear hb
            refine hK.out _ _ ⟨hB, X2, X3⟩ (fun hHeld => ?_)
            clear hK K
            try simp only [List.getElem_toArray, List.getElem_cons_zero, List.getElem_cons_succ, Act.put, List.setIfInBounds_toArray, List.set_cons_zero, List.set_cons_succ]
            refine wpAnyH_ready (rs := [10]) (by kernel_rfl) (by simp) ?_
            refine AllReadyH.cons (o := _) rfl (fun K hK => ?_) AllReadyH.nil
            go_simp
            refine (HX.out _).mono ?_
            rintro e we ⟨hb, rfl⟩
            replace hB := nxt hB hb
            replace X2 := X2.below hb
            replace X3 := X3.below hb
            clear hb
            refine hK.out _ _ ⟨hB, X2, X3⟩ (fun hHeld => ?_)
            clear hK K
            try simp only [List.getElem_toArray, List.getElem_cons_zero, List.getElem_cons_succ, Act.put, List.setIfInBounds_toArray, List.set_cons_zero, List.set_cons_succ]
            refine wpAnyH_take (i := 11) (oi := _) (v := ?_) rfl (by kernel_rfl) (by kernel_rfl) (by kernel_rfl) (fun _ _ _ h => h) (Or.inl ⟨by kernel_rfl, ?_⟩) (by assumption) ?_
            rotate_left
            · intro w hSw; (try dsimp only at hSw); go_simp; first | done | with_reducible rfl
            try simp only [List.getElem_toArray, List.getElem_cons_zero, List.getElem_cons_succ, Act.put, List.setIfInBounds_toArray, List.set_cons_zero, List.set_cons_succ]
            refine wpAnyH_done (by kernel_rfl) ?_ _
            clear HW1 HW2 HD1 HD2 HX
            have hf : ∀ j, j < k → 0 ≤ meetV n d g j := fun j hj => (meetV_bd HO.out.1.2 HO.out.1.1 HO.out.2.2 (k := j) (by omega)).2.2
            have HN := Lib.hid (fun (hk : MeetOk n c g k) h' => HS.out.new hk h' hf)
            clear hf
            obtain ⟨f, hf⟩ : ∃ f, f = meetV n d g k := ⟨_, rfl⟩
            have HK := Lib.hid (fun h' => HS.out.keep h')
            rw [← hf] at HK HN HV ⊢
            clear hf
            cases b with
            | false =>
              have hno : ¬ MeetOk n c g k := fun h => by have := HB.out.2 h; cases this
              go_wp2
              exact ⟨⟨k + 1, z, v, by omega, rfl, rfl, by first | go_num | simp, hB, X2, X3, HK.out fun h => hno h.1⟩, by simp [intOf]; omega⟩
            | true =>
              have HT := Lib.hid (HB.out.1 rfl)
              by_cases hv : v < 0
              · go_wp2
                exact ⟨⟨k + 1, k, f, by omega, by first | rfl | go_num | simp, rfl, by first | go_num | simp, hB, X2, X3, HN.out HT.out (.inl hv)⟩, by simp [intOf]; omega⟩
              · by_cases hfv : f < v
                · go_wp2
                  exact ⟨⟨k + 1, k, f, by omega, by first | rfl | go_num | simp, rfl, by first | go_num | simp, hB, X2, X3, HN.out HT.out (.inr hfv)⟩, by simp [intOf]; omega⟩
                · go_wp2
                  exact ⟨⟨k + 1, z, v, by omega, rfl, rfl, by first | go_num | simp, hB, X2, X3, HK.out fun h => h.2.elim hv hfv⟩, by simp [intOf]; omega⟩
      · obtain rfl : k = n + 1 := by omega
        have hki : ¬ (((n + 1 : Nat) : Int) ≤ (n : Int)) := by omega
        generalize ((n + 1 : Nat) : Int) = kk at *
        have hz : v < 0 ∨ 0 ≤ v := by omega
        rcases HS.out with ⟨rfl, rfl, hno⟩ | ⟨a, ha, rfl, rfl⟩
        · go_wp2
          exact bodyPost_ret (by simp [results, Tryd.results38, go_sem]) rfl ⟨by rw [← hW]; exact hB, .inr (.inl ⟨HO.out, hno, rfl⟩)⟩
        · have hv0 : ¬ (meetV n d g a < 0) := by have := (meetV_bd HO.out.1.2 HO.out.1.1 HO.out.2.2 (k := a) (by have := ha.1; omega)).2.2; omega
          go_wp2
          exact bodyPost_ret (by simp [results, Tryd.results38, go_sem]) rfl ⟨by rw [← hW]; exact hB, .inr (.inr ⟨HO.out, a, ha, rfl⟩)⟩
  · have hne : (r == 0) = false := by simpa using h0
    go_wp2
    exact bodyPost_ret (by simp [results, Tryd.results38, go_sem]) rfl ⟨B, .inl ⟨r, h0, HJ.out, rfl⟩⟩
end Go.Proofs.YtfpoikeibjojgaaDoor
