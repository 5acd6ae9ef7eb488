/-
  A yard of stacks: what it holds, spec of bareYard, takes, with, put. Conditions stand at each.
-/
import Derived.Test.YtkggimalkjjnoaaRows
import Derived.Test.YtkggimalkjjnoaaStCode
import Derived.Test.YtkggimalkjjnoaaIv
import Derived.ArgAppend
import Derived.Laws.ResultCell
import Derived.Laws.Rows
namespace Go.Proofs.Ytkggimalkjjnoaa
open Go Go.ChangeShapes Go.WideShapes Go.ChangeAt Go.RowKit
set_option linter.unusedVariables false
set_option linter.unusedSimpArgs false
set_option maxRecDepth 100000
set_option maxHeartbeats 4000000
def bareV : Value := .iface 175 (.agg #[])
/-- what a place of a yard holds. -/
def PileV (w : World) (lo : Nat) (v : Value) (L : List Int) : Prop :=
  (L = [] ∧ v = bareV) ∨ (L ≠ [] ∧ ∃ s, v = .iface 176 s ∧ w.ownsRow lo 2 1 s L.length (L.map (Value.int .i64)))
def YardC (w : World) (lo : Nat) (cs : Array Value) (f : Nat → List Int) : Prop := cs.size = 10 ∧ ∀ p, p < 10 → ∃ v, cs[p]? = some v ∧ PileV w lo v (f p)
def bareC : Array Value := #[bareV, bareV, bareV, bareV, bareV, bareV, bareV, bareV, bareV, bareV]
theorem PileV.far {w w' : World} {lo : Nat} {v : Value} {L : List Int} (h : PileV w lo v L) (hb : ∀ k, lo ≤ k → k < w.heap.size → w'.heap[k]? = w.heap[k]?) : PileV w' lo v L := by
  rcases h with h | ⟨h1, s, h2, h3⟩
  · exact .inl h
  · exact .inr ⟨h1, s, h2, OwnI.far h3 hb⟩

theorem m_bare_with (w : World) : (method 502 175 (.agg #[]) "loop.example/g01383/impl.with").run Try.prog w = .ok (318, .agg #[]) w := by kernel_rfl
theorem m_bare_takes (w : World) : (method 502 175 (.agg #[]) "loop.example/g01383/impl.takes").run Try.prog w = .ok (317, .agg #[]) w := by kernel_rfl
theorem m_pile_with (A : Option Addr) (n c : Nat) (w : World) : (method 502 176 (.slice A n c) "loop.example/g01383/impl.with").run Try.prog w = .ok (320, .slice A n c) w := by kernel_rfl
theorem m_pile_takes (A : Option Addr) (n c : Nat) (w : World) : (method 502 176 (.slice A n c) "loop.example/g01383/impl.takes").run Try.prog w = .ok (319, .slice A n c) w := by kernel_rfl
theorem bare_takes (t : Int) (w : World) : Calls Try.prog 317 #[.agg #[], .int .i64 t] w fun e w' => e = .returned (.bool true) ∧ Below w.heap.size w w' := by
  go_enter Try.func317, Try.ntmps317
  go_wp2
  go_ret
  refine ⟨rfl, ?_⟩
  (repeat (first | exact Below.refl _ _ | apply Below.drew | refine below_drewN' ?_ _ | refine Below.setCell ?_ (by first | (simp; done) | (simp; omega)) _ | refine Below.alloc ?_ (by first | (simp; done) | (simp; omega)) _))
theorem pile_takes (g n cap : Nat) (t y : Int) (r : Bool) (w : World) (h1 : 1 ≤ n) (hn : n ≤ 1048576) (hy : w.cell? ⟨g, n - 1, none⟩ = some (.int .i64 y)) (hr : decide (t < y) = r) :
    Calls Try.prog 319 #[.slice (some ⟨g, 0, none⟩) n cap, .int .i64 t] w fun e w' => e = .returned (.bool r) ∧ w' = w := by
  have s1 : IntKind.i64.wrap ((n : Int) - 1) = (n : Int) - 1 := IntWalk.i64_in _ (by omega)
  have s2 : 0 ≤ (n : Int) - 1 := by omega
  have s3 : ((n : Int) - 1).toNat = n - 1 := by omega
  have s4 : (n : Int) - 1 < (n : Int) := by omega
  go_enter Try.func319, Try.ntmps319
  go_wp2
  go_ret
  exact ⟨rfl, rfl⟩
def WithPost (L : List Int) (x : Int) (w : World) (e : Ending) (w' : World) : Prop :=
  Below w.heap.size w w' ∧ ∃ s, e = .returned s ∧ w'.ownsRow w.heap.size 2 1 s (L ++ [x]).length ((L ++ [x]).map (Value.int .i64))
theorem bare_with (x : Int) (w : World) : Calls Try.prog 318 #[.agg #[], .int .i64 x] w (WithPost [] x w) := by
  go_enter Try.func318, Try.ntmps318
  go_wp2_with fail
  go_ret
  refine ⟨?_, _, rfl, ?_⟩
  · (repeat (first | exact Below.refl _ _ | apply Below.drew | refine below_drewN' ?_ _ | refine Below.setCell ?_ (by first | (simp; done) | (simp; omega)) _ | refine Below.alloc ?_ (by first | (simp; done) | (simp; omega)) _))
  · exact ⟨rfl, .inr ⟨_, 1, #[.int .i64 x], rfl, by simp, by have := heap_alloc_new (w.alloc (.cells #[] 175)) (.cells #[.int .i64 x] 2); rw [World.size_alloc] at this; exact this, by simp, by unfold maxLen; omega, rfl, rfl⟩⟩
theorem row_cells {w : World} {lo g n cap : Nat} {xs : List Value} (h : w.ownsRow lo 2 1 (.slice (some ⟨g, 0, none⟩) n cap) n xs) : ∀ j u, xs[j]? = some u → w.cell? ⟨g, j, none⟩ = some u := by
  rcases h with ⟨hl, ⟨h0, _⟩ | ⟨g', cap', cur, hv, hb, hg, hnc, hcm, hcs, ht⟩⟩
  · cases h0
  · cases hv
    intro j u hj
    have : (w.cell? ⟨g, j, none⟩) = cur[j]? := Bx.cell (t := 2) hg j
    rw [this]
    rw [← ht, List.getElem?_take] at hj
    split at hj
    · rw [← Array.getElem?_toList]; exact hj
    · cases hj
theorem pile_with (g cap : Nat) (L : List Int) (x : Int) (lo : Nat) (w : World) (h1 : 1 ≤ L.length) (hn : L.length ≤ 1000) (ho : w.ownsRow lo 2 1 (.slice (some ⟨g, 0, none⟩) L.length cap) L.length (L.map (Value.int .i64))) :
    Calls Try.prog 320 #[.slice (some ⟨g, 0, none⟩) L.length cap, .int .i64 x] w (WithPost L x w) := by
  have hc := Lib.hid (row_cells ho)
  have hcap : (L.length : Int) ≤ (cap : Int) := by
    rcases ho with ⟨hl, ⟨h0, _⟩ | ⟨g', cap', cur, hv, hb, hg, hnc, hcm, hcs, ht⟩⟩
    · cases h0
    · cases hv; omega
  have hlt : g < w.heap.size := by
    rcases ho with ⟨hl, ⟨h0, _⟩ | ⟨g', cap', cur, hv, hb, hg, hnc, hcm, hcs, ht⟩⟩
    · cases h0
    · cases hv; exact (Array.getElem?_eq_some_iff.1 hg).1
  have hlen : (L.map (Value.int .i64)).length = L.length * 1 := by simp
  have HL := Lib.hid hlen
  obtain ⟨N, hN⟩ : ∃ N, N = L.length := ⟨_, rfl⟩
  obtain ⟨i0, hi, hz0, hz1, hz2⟩ := info_parts infoI64
  rw [← hN] at h1 hn hcap HL ⊢
  have HN := Lib.hid hN
  have s0 : (0 : Int) ≤ (N : Int) := by omega
  have HOLDS : Hid (∀ b : Addr, some (⟨g, 0, none⟩ : Addr) = some b → ∀ j u, (L.map (Value.int .i64))[j]? = some u → (w.alloc (.cells #[.int .i64 x] 2)).cell? (b.add j) = some u) := Lib.hid (by
    intro b hb j u hj
    cases hb
    rw [Go.WideShapes.add_plain]
    exact ((Below.alloc (Below.refl _ w) (Nat.le_refl _) _).cell (p := ⟨g, 0 + j, none⟩) hlt).trans (by rw [Nat.zero_add]; exact hc.out j u hj))
  clear ho hlen hN
  go_enter Try.func320, Try.ntmps320
  go_wp2_with (at_builtin; refine wpList_append_grows _ rfl _ _ 176 rfl 2 i0 (.int .i64 0) 1 8 Try.underlying176 hi hz0 hz1 hz2 rfl (by decide) (some ⟨g, 0, none⟩) N N (L.map (Value.int .i64)) rfl (fun h => nomatch h) HL.out HOLDS.out ⟨w.heap.size, 0, none⟩ 1 1 [.int .i64 x] rfl rfl (ncells w #[.int .i64 x] 2) one64 (by omega) (by unfold maxLen; omega) (by omega) ?_; intro v' w1 own' hgr)
  go_wp2
  go_ret
  have B1 : Below w.heap.size w w1 := (al (Below.refl _ w) _).grown hgr (al (Below.refl _ w) _).size (fun k e => by cases e)
  refine ⟨B1, _, rfl, ?_⟩
  have e : (L ++ [x]).length = N + 1 := by rw [HN.out]; simp
  rw [e, List.map_append]
  exact World.ownsRow.mono own' (by simp)

def upd (f : Nat → List Int) (p : Nat) (x : Int) (q : Nat) : List Int := if q = p then f p ++ [x] else f q
def PutPost (b lo : Nat) (f : Nat → List Int) (p : Nat) (x : Int) (w : World) (e : Ending) (w' : World) : Prop :=
  w.grownBy w' (some b) ∧ (∃ v, e = .returned v) ∧ ∃ cs, Bx w' b cs 161 ∧ YardC w' lo cs (upd f p x)
theorem yard_put {w w1 w2 : World} {b lo p : Nat} {x : Int} {cs : Array Value} {f : Nat → List Int} {s : Value} (hp : p < 10) (hY : YardC w lo cs f) (hb : b < lo) (hlo : lo ≤ w.heap.size) (h1 : Below w.heap.size w w1) (h2 : w2 = w1.setCell ⟨b, p, none⟩ (.iface 176 s))
    (hs : w1.ownsRow w.heap.size 2 1 s (f p ++ [x]).length ((f p ++ [x]).map (Value.int .i64))) : YardC w2 lo (cs.setIfInBounds p (.iface 176 s)) (upd f p x) := by
  subst h2
  have far : ∀ k, lo ≤ k → (w1.setCell ⟨b, p, none⟩ (.iface 176 s)).heap[k]? = w1.heap[k]? := fun k hk => Below.heap_setCell _ _ _ _ (by simp; omega)
  refine ⟨by simp [hY.1], fun q hq => ?_⟩
  rw [Array.getElem?_setIfInBounds]
  by_cases e : p = q
  · subst e
    rw [if_pos rfl, if_pos (by rw [hY.1]; exact hq)]
    refine ⟨_, rfl, .inr ⟨by simp [upd], s, rfl, ?_⟩⟩
    show World.ownsRow _ lo _ 1 s (upd f p x p).length ((upd f p x p).map (Value.int .i64))
    have e : upd f p x p = f p ++ [x] := if_pos rfl
    rw [e]
    exact OwnI.far (World.ownsRow.mono hs hlo) (fun k hk _ => far k hk)
  · rw [if_neg e]
    obtain ⟨v, hv, hP⟩ := hY.2 q hq
    refine ⟨v, hv, ?_⟩
    have e : upd f p x q = f q := if_neg (fun h => e h.symm)
    rw [e]
    exact hP.far (fun k hk hk2 => (far k hk).trans (h1.block k hk2))
theorem grown_set1 (w : World) (b p : Nat) (v : Value) : w.grownBy (w.setCell ⟨b, p, none⟩ v) (some b) := grown_set (World.grownBy.refl w _) p v
theorem below_grown_some {w w2 : World} (h : Below w.heap.size w w2) (b p : Nat) (v : Value) : w.grownBy (w2.setCell ⟨b, p, none⟩ v) (some b) := by
  have h1 : w.grownBy w2 (some b) := ⟨h.os, h.tape, h.output, h.size, fun k hk _ => h.block k hk⟩
  exact grown_set h1 p v
theorem own_some1 {w : World} {lo : Nat} {s : Value} {n : Nat} {xs : List Value} (h : w.ownsRow lo 2 1 s n xs) (hn : 0 < n) : ∃ g cap, s = .slice (some ⟨g, 0, none⟩) n cap ∧ lo ≤ g ∧ g < w.heap.size := by
  rcases h with ⟨hl, ⟨_, h0⟩ | ⟨g', cap', cur, hv, hb, hg, hnc, hcm, hcs, ht⟩⟩
  · omega
  · exact ⟨g', cap', hv, hb, (Array.getElem?_eq_some_iff.1 hg).1⟩
theorem own_fresh {w : World} {lo : Nat} {s : Value} {n : Nat} {xs : List Value} (h : w.ownsRow lo 2 1 s n xs) : ∀ g, s.ownBlock = some g → lo ≤ g := by
  intro g hg
  rcases h with ⟨hl, ⟨rfl, h0⟩ | ⟨g', cap', cur, rfl, hb, _⟩⟩
  · cases hg
  · injection hg with e
    have e' : g' = g := e
    omega
/-- as PutPost, and the pile is a new one. -/
def PutPost2 (b lo : Nat) (f : Nat → List Int) (p : Nat) (x : Int) (cs : Array Value) (w : World) (e : Ending) (w' : World) : Prop :=
  w.grownBy w' (some b) ∧ (∃ v, e = .returned v) ∧ ∃ s, (∀ g, s.ownBlock = some g → w.heap.size ≤ g) ∧ Bx w' b (cs.setIfInBounds p (.iface 176 s)) 161 ∧ YardC w' lo (cs.setIfInBounds p (.iface 176 s)) (upd f p x)
theorem put_fresh (b lo p : Nat) (x : Int) (cs : Array Value) (f : Nat → List Int) (w : World) (hp : p < 10) (hb : b < lo) (hlo : lo ≤ w.heap.size) (hB : Bx w b cs 161) (hY : YardC w lo cs f) (hf : (f p).length ≤ 1000) :
    Calls Try.prog 131 #[.pointer (some ⟨b, 0, none⟩), .int .i64 (p : Int), .int .i64 x] w (PutPost2 b lo f p x cs w) := by
  obtain ⟨v, hv, hP⟩ := hY.2 p hp
  have hpi : (p : Int) < 10 := by omega
  have hp0 : (0 : Int) ≤ (p : Int) := by omega
  have HY := Lib.hid hY
  have HB := Lib.hid hB
  have HV := Lib.hid hv
  have c0 : w.cell? ⟨b, p, none⟩ = some v := (hB.cell p).trans hv
  have hbl := hB.lt
  clear hY hB hv
  rcases hP with ⟨h0, rfl⟩ | ⟨h0, s, rfl, hs⟩
  · have H0 := Lib.hid h0
    clear h0
    unfold bareV at c0
    have hm := m_bare_with
    go_enter Try.func131, Try.ntmps131
    go_wp2
    go_region_with ((go_at_call 318; refine (bare_with x _).mono ?_; rintro e w2 ⟨hb1, s, rfl, hs⟩; have hB2 : Bx w2 b cs 161 := Bx.below (w := w.drew) HB.out hb1; have c1 : w2.cell? ⟨b, p, none⟩ = some bareV := (hB2.cell p).trans HV.out; have f1 := hB2.frozen p))
    go_wp2
    have hs' : w2.ownsRow w.heap.size 2 1 s (f p ++ [x]).length ((f p ++ [x]).map (Value.int .i64)) := by rw [H0.out]; exact hs
    exact bodyPost_ret (results_none rfl _ _ _) rfl ⟨below_grown_some (nxt (Below.refl w.heap.size w).drew hb1) b p _, ⟨_, rfl⟩, s, own_fresh hs, hB2.set p _, yard_put hp HY.out hb hlo (nxt (Below.refl w.heap.size w).drew hb1) rfl hs'⟩
  · obtain ⟨L, hL⟩ : ∃ L, L = f p := ⟨_, rfl⟩
    rw [← hL] at h0 hs hf
    have hLl : 1 ≤ L.length := by
      cases L with
      | nil => exact absurd rfl h0
      | cons a l => simp
    have HL := Lib.hid hL
    obtain ⟨g, cap, rfl, hg, hgl⟩ := own_some1 hs (by omega)
    have hgb : g ≠ b := by omega
    have hsd : w.drew.ownsRow lo 2 1 (.slice (some ⟨g, 0, none⟩) L.length cap) L.length (L.map (Value.int .i64)) := hs
    have HS := Lib.hid hsd
    clear hsd
    have HW := Lib.hid (fun (W : World) (h : W.ownsRow lo 2 1 (.slice (some ⟨g, 0, none⟩) L.length cap) L.length (L.map (Value.int .i64))) => pile_with g cap L x lo W hLl hf h)
    obtain ⟨N, hN⟩ : ∃ N, N = L.length := ⟨_, rfl⟩
    rw [← hN] at c0 hf hLl HS HW HV
    have HN := Lib.hid hN
    have hm := m_pile_with
    clear h0 hs hL hN
    go_enter Try.func131, Try.ntmps131
    go_wp2
    go_region_with ((go_at_call 320; refine (HW.out _ HS.out).mono ?_; rintro e w2 ⟨hb1, s, rfl, hs⟩; have hB2 : Bx w2 b cs 161 := Bx.below (w := w.drew) HB.out hb1; have c1 : w2.cell? ⟨b, p, none⟩ = some (.iface 176 (.slice (some ⟨g, 0, none⟩) N cap)) := (hB2.cell p).trans HV.out; have f1 := hB2.frozen p))
    go_wp2
    have hs' : w2.ownsRow w.heap.size 2 1 s (f p ++ [x]).length ((f p ++ [x]).map (Value.int .i64)) := by rw [← HL.out]; exact hs
    exact bodyPost_ret (results_none rfl _ _ _) rfl ⟨below_grown_some (nxt (Below.refl w.heap.size w).drew hb1) b p _, ⟨_, rfl⟩, s, own_fresh hs, hB2.set p _, yard_put hp HY.out hb hlo (nxt (Below.refl w.heap.size w).drew hb1) rfl hs'⟩

theorem put_any (b lo p : Nat) (x : Int) (cs : Array Value) (f : Nat → List Int) (w : World) (hp : p < 10) (hb : b < lo) (hlo : lo ≤ w.heap.size) (hB : Bx w b cs 161) (hY : YardC w lo cs f) (hf : (f p).length ≤ 1000) :
    Calls Try.prog 131 #[.pointer (some ⟨b, 0, none⟩), .int .i64 (p : Int), .int .i64 x] w (PutPost b lo f p x w) :=
  (put_fresh b lo p x cs f w hp hb hlo hB hY hf).mono fun e w' ⟨h1, h2, s, _, h3, h4⟩ => ⟨h1, h2, _, h3, h4⟩

/-- what a place says of a slab. -/
def TkPost (r : Bool) (w : World) (e : Ending) (w' : World) : Prop := e = .returned (.bool r) ∧ Below w.heap.size w w'

theorem bareYard_any (w : World) : Calls Try.prog 128 #[] w fun e w' => e = .returned (.agg bareC) ∧ Below w.heap.size w w' := by
  go_enter Try.func128, Try.ntmps128
  go_wp2
  have hz : (#[.nilIface, .nilIface, .nilIface, .nilIface, .nilIface, .nilIface, .nilIface, .nilIface, .nilIface, .nilIface] : Array Value).size = 10 := by kernel_rfl
  obtain ⟨W0, hW0⟩ : ∃ W0 : World, W0 = ((w.alloc (.cells #[.nilIface, .nilIface, .nilIface, .nilIface, .nilIface, .nilIface, .nilIface, .nilIface, .nilIface, .nilIface] 161)).alloc (.cells #[.nilIface, .nilIface, .nilIface, .nilIface, .nilIface, .nilIface, .nilIface, .nilIface, .nilIface, .nilIface] 161)) := ⟨_, rfl⟩
  have hX : Bx W0 w.heap.size #[.nilIface, .nilIface, .nilIface, .nilIface, .nilIface, .nilIface, .nilIface, .nilIface, .nilIface, .nilIface] 161 := by rw [hW0]; exact (Bx.new w _ _).alloc _
  have hY : Bx W0 (w.heap.size + 1) #[.nilIface, .nilIface, .nilIface, .nilIface, .nilIface, .nilIface, .nilIface, .nilIface, .nilIface, .nilIface] 161 := by rw [hW0]; exact Bx.newAt _ _ _ _ (by simp)
  have B0 : Below w.heap.size w W0 := by rw [hW0]; exact al (al (Below.refl _ _) _) _
  rw [← hW0]
  clear hW0
  go_loopw [2, 3] (fun t2 t3 wr => ∃ k : Nat, k ≤ 10 ∧ t3 = .int .i64 k ∧ Below w.heap.size w wr ∧ Bx wr w.heap.size #[.nilIface, .nilIface, .nilIface, .nilIface, .nilIface, .nilIface, .nilIface, .nilIface, .nilIface, .nilIface] 161 ∧ ∃ cs : Array Value, Bx wr (w.heap.size + 1) cs 161 ∧ cs.size = 10 ∧ ∀ q, q < k → cs[q]? = some bareV) (fun t2 t3 wr => 10 - (intOf t3).toNat)
  case atStart => exact ⟨0, by omega, rfl, B0, hX, _, hY, hz, fun q hq => by omega⟩
  case round =>
    clear hX hY B0
    obtain ⟨k, hk, rfl, B, X, cs, Y, hs, hc⟩ := hrel
    have HC := Lib.hid hc
    clear hc
    by_cases hlt : k < 10
    · have hki : (k : Int) < 10 := by omega
      have hk0 : (0 : Int) ≤ (k : Int) := by omega
      obtain ⟨v, hv⟩ : ∃ v, cs[k]? = some v := ⟨_, Array.getElem?_eq_getElem (by omega)⟩
      have c0 : wr.cell? ⟨w.heap.size + 1, k, none⟩ = some v := (Y.cell k).trans hv
      have f0 := Y.frozen k
      have X2 := X.other (g := w.heap.size + 1) (o := k) bareV (by omega)
      have Y2 := Y.set k bareV
      have B2 := B.setCell (p := ⟨w.heap.size + 1, k, none⟩) (by simp) bareV
      have HS := Lib.hid hs
      clear hs hv
      go_wp2
      exact ⟨⟨k + 1, by omega, by first | go_num | simp, B2, X2, _, Y2, by simp [HS.out], fun q hq => by
        rw [Array.getElem?_setIfInBounds]
        by_cases e : k = q
        · rw [if_pos e, if_pos (by rw [HS.out]; omega)]
        · rw [if_neg e]; exact HC.out q (by omega)⟩, by simp [intOf]; omega⟩
    · obtain rfl : k = 10 := by omega
      have e : cs = bareC := by
        apply Array.ext_getElem?
        intro i
        by_cases hi : i < 10
        · rw [HC.out i hi]
          have : i = 0 ∨ i = 1 ∨ i = 2 ∨ i = 3 ∨ i = 4 ∨ i = 5 ∨ i = 6 ∨ i = 7 ∨ i = 8 ∨ i = 9 := by omega
          rcases this with rfl | rfl | rfl | rfl | rfl | rfl | rfl | rfl | rfl | rfl <;> rfl
        · rw [Array.getElem?_eq_none (by omega), Array.getElem?_eq_none (by show 10 ≤ i; omega)]
      subst e
      have X3 := X.setRow bareC
      have B3 := setRow_below B (Nat.le_refl w.heap.size) bareC
      have HX := Lib.hid X
      have HY := Lib.hid Y
      clear X Y HC hs
      go_wp2_with (first
        | (refine wpList_load_box HY.out rfl _ _ rfl rfl _ Try.underlying161 rfl (by kernel_rfl) ?_)
        | (refine wpList_store_box HX.out rfl _ _ _ rfl rfl rfl (by kernel_rfl) (by kernel_rfl) (by kernel_rfl) ?_))
      exact bodyPost_ret (results_cell_row (by rfl) _ _ _ _ _ (0, 0) _ rfl X3 Try.underlying161 rfl (by kernel_rfl)) rfl ⟨rfl, B3⟩
end Go.Proofs.Ytkggimalkjjnoaa
