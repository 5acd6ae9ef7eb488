/-
  The runs of a plan, or the first error: the contract of impl.runsFor, whose deferred closure recovers. Conditions stand at each.
-/
import Derived.Test.YtfpoikeibjojgaaDoorRows
import Derived.Test.YtfpoikeibjojgaaDoorRunsOf
import Derived.Defers
import Derived.Recover
import Derived.Stop.Asserts
namespace Go.Proofs.YtfpoikeibjojgaaDoor
open Go Go.ChangeShapes Go.WideShapes Go.ChangeAt Go.RowKit
set_option linter.unusedVariables false
set_option linter.unusedSimpArgs false
set_option maxRecDepth 100000
set_option maxHeartbeats 8000000
theorem refusal_yes (v : Value) (xT : TypeId) (w : World) : (Instr.typeAssert (.iface 90 v) xT 136 true).run Tryd.prog w = .ok (.tuple #[.iface 90 v, .bool true]) w :=
  run_typeAssert_hasB Tryd.underlying136 (by kernel_rfl) v xT w
theorem refusal_nil (xT : TypeId) (w : World) : (Instr.typeAssert .nilIface xT 136 true).run Tryd.prog w = .ok (.tuple #[.nilIface, .bool false]) w := by kernel_rfl
theorem catch_panic (p : Addr) (x : Int) (u : Value) (older : List PanicEntry) (w : World) (hc : w.cell? p = some u) (hz : w.frozen? p = false) :
    CallsD Tryd.prog 90 #[.pointer (some p)] (.panicking ({ v := .iface 90 (.agg #[.int .i64 x]), recovered := false } :: older)) w fun e u' w' =>
      e = .returned (.tuple #[]) ∧ u' = .panicking ({ v := .iface 90 (.agg #[.int .i64 x]), recovered := true } :: older) ∧ w' = w.setCell p (.iface 90 (.agg #[.int .i64 x])) := by
  have h1 := fun xT w => refusal_yes (.agg #[.int .i64 x]) xT w
  refine callsD_of_wpS Tryd.func90 rfl fun c₀ cs hu => ?_
  apply wpS_seq
  apply wpS_region
  simp [wpOpsS, go_sem, recoverD, hu, Tryd.ntmps90, Exit.thenS, h1]
  apply wpS_seq
  apply wpS_region
  simp [wpOpsS, go_sem, Exit.thenS]
  refine wpS_cond (t := true) (by simp [Act.eval, Array.replicate]) ?_
  simp only [if_true]
  apply wpS_region
  simp [wpOpsS, go_sem, hc, hz, bodyPostS, results, Tryd.results90]
theorem catch_idle (p : Addr) (w : World) :
    CallsD Tryd.prog 90 #[.pointer (some p)] .returning w fun e u' w' => e = .returned (.tuple #[]) ∧ u' = .returning ∧ w' = w := by
  have h1 := fun xT w => refusal_nil xT w
  refine callsD_of_wpS Tryd.func90 rfl fun c₀ cs hu => ?_
  apply wpS_seq
  apply wpS_region
  simp [wpOpsS, go_sem, recoverD, hu, Tryd.ntmps90, Exit.thenS, h1]
  apply wpS_seq
  apply wpS_region
  simp [wpOpsS, go_sem, Exit.thenS]
  refine wpS_cond (t := false) (by simp [Act.eval, Array.replicate]) ?_
  simp only [Bool.false_eq_true, if_false]
  refine wpS_of_wp (wp_skip ?_)
  cases c₀
  simp_all [bodyPostS, results, Tryd.results90]
theorem own_set_other {w : World} {base b o : Nat} {e : TypeId} {sz : Nat} {v : Value} {n : Nat} {xs : List Value} {u : Value} (h : w.ownsRow base e sz v n xs) (hb : b < base) : (w.setCell ⟨b, o, none⟩ u).ownsRow base e sz v n xs := by
  refine ⟨h.1, h.2.imp id ?_⟩
  rintro ⟨g, cap, cur, rfl, hg, hw, r⟩
  exact ⟨g, cap, cur, rfl, hg, (Below.heap_setCell w ⟨b, o, none⟩ u g (by simp; omega)).trans hw, r⟩
/-- what runsFor answers. -/
def ForPost (n : Nat) (c d : Nat → Int) (m : Nat) (g : Gs) (k : Nat) (pl : Nat → Int) (w : World) (e : Ending) (w' : World) : Prop :=
  Below w.heap.size w w' ∧ ((∃ (r : Int) (x : Value), r ≠ 0 ∧ JobCode n c d m g r ∧ Refuses x r ∧ e = .returned (.tuple #[.slice none 0 0, x])) ∨
    (JobOk n c d m g ∧ ¬ RightP n c m g k pl ∧ ∃ x : Int, e = .returned (.tuple #[.slice none 0 0, .iface 90 (.agg #[.int .i64 x])])) ∨
    (JobOk n c d m g ∧ RightP n c m g k pl ∧ ∃ v sk, e = .returned (.tuple #[v, .nilIface]) ∧ OwnR w' w.heap.size v sk (rwk d pl n) (rgg pl n) g (rn pl n)))
theorem runsFor_any (A : Option Addr) (n cap : Nat) (c d : Nat → Int) (A' : Option Addr) (m cap' : Nat) (g : Gs) (P : Option Addr) (k cap'' : Nat) (pl : Nat → Int) (w : World) (hn : n ≤ 1048576) (hm : m ≤ 1048576) (hk : k ≤ 1048576)
    (hr : RdS w w.heap.size A n c d) (hg : RdG w w.heap.size A' m g) (hp : RdK .i64 w w.heap.size P k pl) (hc : ∀ j, -128 ≤ c j ∧ c j ≤ 127) (hd : ∀ j, -32768 ≤ d j ∧ d j ≤ 32767) (hgb : g.bd) :
    Calls Tryd.prog 53 #[.slice A n cap, .slice A' m cap', .slice P k cap''] w (ForPost n c d m g k pl w) := by
  have hmf : ∀ (fn : Fn) (first cap : Array Value) (w : World), (Instr.makeFunc fn first cap).run Tryd.prog w = .ok (.func fn first cap) w := fun _ _ _ _ => rfl
  have HJ := Lib.hid (fun W (hB : Below w.heap.size w W) => jobFor_any A n cap c d A' m cap' g W hn hm ((hr.below hB).mono hB.size) ((hg.below hB).mono hB.size) hc hd hgb)
  have HP := Lib.hid hp
  have X7 := Bx.new w #[.nilIface] 78
  have B := al (Below.refl w.heap.size w) (.cells #[.nilIface] 78)
  clear hr hg hc hd hgb hp
  go_enter_defers Tryd.func53, Tryd.ntmps53
  go_wp2_with fail
  refine (HJ.out _ B).mono ?_
  rintro e w1 ⟨hb, h⟩
  replace X7 := X7.below hb
  have hsz : (w.alloc (.cells #[.nilIface] 78)).heap.size = w.heap.size + 1 := by simp
  rw [hsz] at h
  obtain ⟨b7, h7⟩ : ∃ b7, b7 = w.heap.size := ⟨_, rfl⟩
  have hb7 : w.heap.size ≤ b7 := by omega
  replace B := nxt B hb
  rw [← h7] at X7 h ⊢
  have X7lt := X7.lt
  clear hb h7 hsz HJ
  rcases h with ⟨r, x, hr0, hcode, hx, rfl⟩ | ⟨hO, v1, v2, rfl, O1, O2⟩
  · obtain ⟨tz, vz, rfl⟩ : ∃ tz vz, x = .iface tz vz := by rcases hx with ⟨s, rfl, -⟩ | ⟨k, rfl, -⟩ | ⟨k, rfl, -⟩ | ⟨k, rfl, -⟩ <;> exact ⟨_, _, rfl⟩
    have HX := Lib.hid hx
    have HC := Lib.hid hcode
    have HR0 := Lib.hid hr0
    clear hx hcode hr0
    have c7 := (X7.alloc (.cells #[.slice none 0 0, .slice none 0 0] 76)).cell 0
    have z7 := (X7.alloc (.cells #[.slice none 0 0, .slice none 0 0] 76)).frozen 0
    have Y7 : Bx ((w1.setCell ⟨b7, 0, none⟩ (.iface tz vz)).alloc (.cells #[.slice none 0 0, .slice none 0 0] 76)) b7 #[.iface tz vz] 78 := (X7.set 0 (.iface tz vz)).alloc _
    have d7 := Y7.cell 0
    simp only [List.getElem?_toArray, List.getElem?_cons_zero] at c7 d7
    have B2 := al (B.setCell (p := ⟨b7, 0, none⟩) hb7 (.iface tz vz)) (.cells #[.slice none 0 0, .slice none 0 0] 76)
    go_wp2
    obtain ⟨W2, hW2⟩ : ∃ W2 : World, W2 = (w1.setCell ⟨b7, 0, none⟩ (.iface tz vz)).alloc (.cells #[.slice none 0 0, .slice none 0 0] 76) := ⟨_, rfl⟩
    rw [← hW2] at Y7 B2 ⊢
    clear hW2 c7 z7 d7
    have c7 : W2.drew.cell? ⟨b7, 0, none⟩ = some (.iface tz vz) := (Y7.cell 0).trans rfl
    have z7 : W2.drew.frozen? ⟨b7, 0, none⟩ = false := Y7.frozen 0
    go_region
    have Y8 : Bx (W2.setCell ⟨b7, 0, none⟩ (.iface tz vz)).drew b7 #[.iface tz vz] 78 := (Bx.set Y7 0 (.iface tz vz) : Bx (W2.setCell ⟨b7, 0, none⟩ (.iface tz vz)) b7 #[.iface tz vz] 78)
    replace B2 := (B2.setCell (p := ⟨b7, 0, none⟩) hb7 (.iface tz vz)).drew
    have d7 : (W2.setCell ⟨b7, 0, none⟩ (.iface tz vz)).drew.cell? ⟨b7, 0, none⟩ = some (.iface tz vz) := (Y8.cell 0).trans rfl
    clear c7 z7
    go_wp2
    exact ⟨.tuple #[.slice none 0 0, .iface tz vz], by simp [results, Tryd.results53, go_sem, d7], B2, .inl ⟨r, _, HR0.out, HC.out, HX.out, rfl⟩⟩
  · obtain ⟨A1, cap1, hv1⟩ := own_shape O1
    obtain ⟨A2, cap2, hv2⟩ := own_shape O2
    subst hv1 hv2
    have c7 := (X7.alloc (.cells #[.slice A1 n cap1, .slice A2 m cap2] 76)).cell 0
    have z7 := (X7.alloc (.cells #[.slice A1 n cap1, .slice A2 m cap2] 76)).frozen 0
    have Y7 : Bx (w1.setCell ⟨b7, 0, none⟩ .nilIface) b7 #[.nilIface] 78 := X7.set 0 .nilIface
    have Z7 : Bx ((w1.setCell ⟨b7, 0, none⟩ .nilIface).setCell ⟨b7, 0, none⟩ (.iface 126 (.agg #[.string ⟨#[97, 32, 112, 108, 97, 110]⟩]))) b7 #[(.iface 126 (.agg #[.string ⟨#[97, 32, 112, 108, 97, 110]⟩]))] 78 := Y7.set 0 (.iface 126 (.agg #[.string ⟨#[97, 32, 112, 108, 97, 110]⟩]))
    have d7 := (Y7.alloc (.cells #[.slice A1 n cap1, .slice A2 m cap2] 76)).cell 0
    have e7 := (Y7.alloc (.cells #[.slice A1 n cap1, .slice A2 m cap2] 76)).frozen 0
    simp only [List.getElem?_toArray, List.getElem?_cons_zero] at c7 d7
    have O1' := World.ownsRow.alloc (own_set_other (o := 0) (u := (.iface 126 (.agg #[.string ⟨#[97, 32, 112, 108, 97, 110]⟩]))) (own_set_other (o := 0) (u := .nilIface) O1 (show b7 < b7 + 1 by omega)) (show b7 < b7 + 1 by omega)) (.cells #[.slice A1 n cap1, .slice A2 m cap2] 76)
    have O2' := World.ownsRow.alloc (own_set_other (o := 0) (u := (.iface 126 (.agg #[.string ⟨#[97, 32, 112, 108, 97, 110]⟩]))) (own_set_other (o := 0) (u := .nilIface) O2 (show b7 < b7 + 1 by omega)) (show b7 < b7 + 1 by omega)) (.cells #[.slice A1 n cap1, .slice A2 m cap2] 76)
    have B2 := al ((B.setCell (p := ⟨b7, 0, none⟩) hb7 .nilIface).setCell (p := ⟨b7, 0, none⟩) hb7 (.iface 126 (.agg #[.string ⟨#[97, 32, 112, 108, 97, 110]⟩]))) (.cells #[.slice A1 n cap1, .slice A2 m cap2] 76)
    have HRO := Lib.hid (runsOf_any A1 n cap1 c d A2 m cap2 g P k cap'' pl _ hO hk (OwnD.rd O1') (OwnW.rd O2') ((HP.out.below B2).mono B2.size))
    have HO := Lib.hid hO
    replace Z7 := Z7.alloc (.cells #[.slice A1 n cap1, .slice A2 m cap2] 76)
    clear O1 O2 O1' O2' hO X7
    go_wp2_with fail
    refine HRO.out.mono ?_
    rintro e w3 ⟨hb, h⟩
    replace B2 := nxt B2 hb
    replace Z7 := Z7.below hb
    have f7 := Z7.cell 0
    have g7 := Z7.frozen 0
    simp only [List.getElem?_toArray, List.getElem?_cons_zero] at f7
    rcases h with ⟨hno, x, rfl⟩ | ⟨hyes, v, sk, rfl, OR⟩
    · have HN := Lib.hid hno
      clear hno hb HRO Y7 c7 z7 d7 e7
      go_wp2
      refine leaves_cons (f := 90) (args := #[.pointer (some ⟨b7, 0, none⟩)]) (by simp) (by simp [go_sem]) ?_
      refine (catch_panic ⟨b7, 0, none⟩ x _ [] w3 f7 g7).mono ?_
      rintro e u' w'' ⟨rfl, rfl, rfl⟩
      replace Z7 : Bx (w3.setCell ⟨b7, 0, none⟩ (.iface 90 (.agg #[.int .i64 x]))) b7 #[.iface 90 (.agg #[.int .i64 x])] 78 := Z7.set 0 _
      have d7 := Z7.cell 0
      simp only [List.getElem?_toArray, List.getElem?_cons_zero] at d7
      exact ⟨.tuple #[.slice none 0 0, .iface 90 (.agg #[.int .i64 x])], by simp [results, Tryd.results53, go_sem, d7], B2.setCell (p := ⟨b7, 0, none⟩) hb7 _, .inr (.inl ⟨HO.out, HN.out, x, rfl⟩)⟩
    · have HY := Lib.hid hyes
      have OR2 := OwnR.below OR (Below.refl _ _)
      clear hyes hb HRO Y7 c7 z7 d7 e7
      go_wp2
      have Z8 : Bx (w3.setCell ⟨b7, 0, none⟩ .nilIface) b7 #[.nilIface] 78 := Z7.set 0 .nilIface
      have d7 := Z8.cell 0
      simp only [List.getElem?_toArray, List.getElem?_cons_zero] at d7
      refine leaves_cons (f := 90) (args := #[.pointer (some ⟨b7, 0, none⟩)]) (by simp) (by simp [go_sem]) ?_
      refine (catch_idle ⟨b7, 0, none⟩ (w3.setCell ⟨b7, 0, none⟩ .nilIface)).mono ?_
      rintro e u' w'' ⟨rfl, rfl, rfl⟩
      exact ⟨.tuple #[v, .nilIface], by simp [results, Tryd.results53, go_sem, d7], B2.setCell (p := ⟨b7, 0, none⟩) hb7 _, .inr (.inr ⟨HO.out, HY.out, v, sk, rfl, World.ownsRow.mono (own_set_other OR (by simp; omega)) (by simp; omega)⟩)⟩
end Go.Proofs.YtfpoikeibjojgaaDoor
