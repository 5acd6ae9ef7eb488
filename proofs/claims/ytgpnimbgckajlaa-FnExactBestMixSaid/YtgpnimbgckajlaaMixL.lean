/-
  Lists of mixes as arguments of a law: opened, copied, compared. Conditions stand at each.
-/
import Derived.Test.YtgpnimbgckajlaaRows
import Derived.Test.YtgpnimbgckajlaaBestI
import Derived.Test.YtgpnimbgckajlaaMixForB
import Derived.Test.YtgpnimbgckajlaaRes
import Derived.Test.YtgpnimbgckajlaaArgs
import Derived.Test.YtgpnimbgckajlaaOpenG
import Derived.Laws.IdiomArrays
namespace Go.Proofs.Ytgpnimbgckajlaa
open Go Go.ChangeShapes Go.WideShapes Go.ChangeAt Go.RowKit Go.Deep Go.Joins
set_option linter.unusedVariables false
set_option linter.unusedSimpArgs false
set_option maxRecDepth 100000
set_option maxHeartbeats 4000000
/-- block g is a copy of n mixes, of the call's own. -/
def Am (w : World) (g n : Nat) (c : Nat → Int) : Prop := g < w.heap.size ∧ OwnK .i16 w g 0 (3 * n) c
section
variable {w w' : World} {g n : Nat} {c : Nat → Int}
theorem Am.kept (h : Am w g n c) (hs : w.heap.size ≤ w'.heap.size) (e : w'.heap[g]? = w.heap[g]?) : Am w' g n c := ⟨Nat.lt_of_lt_of_le h.1 hs, h.2.of_block e⟩
theorem Am.below (h : Am w g n c) (hb : Below w.heap.size w w') : Am w' g n c := h.kept hb.size (hb.block g h.1)
theorem Am.alloc (h : Am w g n c) (o : Obj) : Am (w.alloc o) g n c := h.kept (by simp) (Below.heap_alloc w o g h.1)
theorem Am.rd (h : Am w g n c) : RdK .i16 w w.heap.size (some ⟨g, 0, none⟩) (3 * n) c := h.2.rd fun _ => ⟨rfl, h.1⟩
theorem Am.drew (h : Am w g n c) : Am w.drew g n c := h
end
theorem RdK.monoM {kd : IntKind} {w : World} {B B' n : Nat} {A : Option Addr} {c : Nat → Int} (h : RdK kd w B A n c) (hb : B ≤ B') : RdK kd w B' A n c := fun h0 => by
  obtain ⟨b, off, e, hl, hc⟩ := h h0
  exact ⟨b, off, e, by omega, hc⟩
section
variable {H : Type} {enc : TypeId × Value → H} {w : World}
theorem open_mixes {base : Nat} {v : Value} {x : DataW H} {p : List MemPlace} (hv : Value.okWide Try.prog w .any base 53 v) (h0 : DataW.Trod enc Try.prog w 0 (fun _ => true) true 53 v x p) :
    ∃ A n cap c, v = .slice A n cap ∧ n ≤ maxLen ∧ RdK .i16 w w.heap.size A (3 * n) c ∧ ∀ j, -32768 ≤ c j ∧ c j ≤ 32767 := by
  obtain ⟨A', n', cap', rfl⟩ := okWide_slice Try.underlying53 hv
  obtain ⟨fuel, h⟩ := h0
  rw [show (Value.slice A' n' cap').cells.toList = [Value.slice A' n' cap'] from rfl] at h
  have c3 : Try.prog.cellsOf 42 = 3 := by kernel_rfl
  rcases open_slice Try.underlying53 h with ⟨hcs, _⟩ | ⟨a, len, cap, m, nf, D, Pl, hcs, _, hl, hm, hmm, _, hi⟩
  · exact ⟨none, 0, 0, fun _ => 0, by simpa using hcs, by simp [maxLen], fun h0 => absurd h0 (by omega), fun _ => (by decide : -32768 ≤ (0 : Int) ∧ (0 : Int) ≤ 32767)⟩
  · simp only [if_true] at hmm
    subst hmm
    have hcell : ∀ q, q < 3 * len → ∃ z : Int, w.cell? (a.add q) = some (.int .i16 z) ∧ (-32768 ≤ z ∧ z ≤ 32767) := by
      intro q hq
      obtain ⟨cs', hc, ht⟩ := hi (q / 3) (by omega)
      rw [c3] at hc
      obtain ⟨_, hlen, hget⟩ := World.cells?_some hc
      obtain ⟨k0, k1, k2, rfl⟩ : ∃ k0 k1 k2, cs' = [k0, k1, k2] := by
        match cs', hlen with
        | [a0, a1, a2], _ => exact ⟨a0, a1, a2, rfl⟩
      obtain ⟨y0, y1, y2, n, _, h0, h1, h2⟩ := trod_array3 Try.underlying42 (by kernel_rfl) ht
      obtain ⟨z0, e0, _, wz0⟩ := DataW.trod_int Try.underlying23 h0
      obtain ⟨z1, e1, _, wz1⟩ := DataW.trod_int Try.underlying23 h1
      obtain ⟨z2, e2, _, wz2⟩ := DataW.trod_int Try.underlying23 h2
      have f0 : k0 = .int .i16 z0 := by simpa using e0
      have f1 : k1 = .int .i16 z1 := by simpa using e1
      have f2 : k2 = .int .i16 z2 := by simpa using e2
      subst f0 f1 f2
      have hq3 : q % 3 < 3 := Nat.mod_lt _ (by decide)
      have hg := hget (q % 3) hq3
      rw [Addr.add_add, show q / 3 * 3 + q % 3 = q by omega] at hg
      have : q % 3 = 0 ∨ q % 3 = 1 ∨ q % 3 = 2 := by omega
      rcases this with e | e | e <;> rw [e] at hg
      · exact ⟨z0, hg, bd16s wz0⟩
      · exact ⟨z1, hg, bd16s wz1⟩
      · exact ⟨z2, hg, bd16s wz2⟩
    refine ⟨some a, len, _, fun k => if hk : k < 3 * len then Classical.choose (hcell k hk) else 0, by simpa using hcs, by omega, fun h0 => ?_, fun j => ?_⟩
    · have h00 := (Classical.choose_spec (hcell 0 h0)).1
      have hs := World.cell?_spot h00
      have hbl := block_lt_of_cell h00
      obtain ⟨b, off, spot⟩ := a
      have hsp : spot = none := by simpa [Addr.add] using hs
      subst hsp
      refine ⟨b, off, rfl, by simpa [Addr.add] using hbl, fun j hj => ?_⟩
      simp only [dif_pos hj]
      rw [← Go.WideShapes.add_plain]
      exact (Classical.choose_spec (hcell j hj)).1
    · by_cases hj : j < 3 * len
      · simp only [dif_pos hj]
        exact (Classical.choose_spec (hcell j hj)).2
      · simp only [dif_neg hj]
        decide
end
theorem szMixS_ok (A : Option Addr) (n cap : Nat) (L : Int) (w : World) (hL0 : 0 ≤ L) (hL : L ≤ 1048576) (hn : (n : Int) ≤ L) :
    Calls Try.prog 33 #[.slice A n cap, .int .i64 L] w fun e w' => e = .returned (.int .i64 (L - n)) ∧ w = w' := by
  have h1 : 0 ≤ L - (n : Int) := by omega
  go_enter Try.func33, Try.ntmps33
  go_wp2
  go_ret
  exact ⟨rfl, rfl⟩
theorem szMixS_big (A : Option Addr) (n cap : Nat) (L : Int) (w : World) (hL0 : 0 ≤ L) (hL : L ≤ 1048576) (hn : L < (n : Int)) (hm : n ≤ 9223372036854775807) :
    Calls Try.prog 33 #[.slice A n cap, .int .i64 L] w fun e w' => e = .returned (.int .i64 (-1)) ∧ w = w' := by
  have h1 : L - (n : Int) < 0 := by omega
  go_enter Try.func33, Try.ntmps33
  go_wp2
  go_ret
  exact ⟨rfl, rfl⟩
theorem infoMixT : (Try.prog.info? 44).map (fun i => (i.zero, i.size, i.bytes)) = some (some (.agg #[.int .i16 0, .int .i16 0, .int .i16 0]), 3, 6) := by kernel_rfl
theorem own_made3 (w : World) (n : Nat) (t : TypeId) : OwnK .i16 (w.alloc (.cells (madeCells #[.int .i16 0, .int .i16 0, .int .i16 0] (n * 3)) t)) w.heap.size 0 (3 * n) (fun _ => 0) := by
  have hr : (w.alloc (.cells (madeCells #[.int .i16 0, .int .i16 0, .int .i16 0] (n * 3)) t)).rowIs w.heap.size t (n * 3) (fun _ => .int .i16 0) := by
    refine World.rowIs_alloc w _ t _ ?_ |> fun h => by rwa [size_madeCells] at h
    intro i hi
    rw [size_madeCells] at hi
    have : i % 3 = 0 ∨ i % 3 = 1 ∨ i % 3 = 2 := by omega
    rcases this with h | h | h <;> simp [madeCells, hi, h]
  intro j hj
  rw [Nat.zero_add]
  exact ⟨hr.cell (i := j) (by omega), hr.frozen j⟩
theorem own_at3 {w : World} {g n k : Nat} {f : Nat → Int} (h : OwnK .i16 w g 0 (3 * n) f) (hk : k < n) :
    (w.cell? ⟨g, k * 3, none⟩ = some (.int .i16 (f (3 * k))) ∧ w.cell? ⟨g, k * 3 + 1, none⟩ = some (.int .i16 (f (3 * k + 1))) ∧ w.cell? ⟨g, k * 3 + 2, none⟩ = some (.int .i16 (f (3 * k + 2)))) ∧
    (w.frozen? ⟨g, k * 3, none⟩ = false ∧ w.frozen? ⟨g, k * 3 + 1, none⟩ = false ∧ w.frozen? ⟨g, k * 3 + 2, none⟩ = false) := by
  have h0 := h (3 * k) (by omega)
  have h1 := h (3 * k + 1) (by omega)
  have h2 := h (3 * k + 2) (by omega)
  rw [show 0 + 3 * k = k * 3 by omega] at h0
  rw [show 0 + (3 * k + 1) = k * 3 + 1 by omega] at h1
  rw [show 0 + (3 * k + 2) = k * 3 + 2 by omega] at h2
  exact ⟨⟨h0.1, h1.1, h2.1⟩, h0.2, h1.2, h2.2⟩
theorem own_set3 {w : World} {g n k : Nat} {f : Nat → Int} (h : OwnK .i16 w g 0 (3 * n) f) (hk : k < n) (v0 v1 v2 : Int) :
    OwnK .i16 (((w.setCell ⟨g, k * 3, none⟩ (.int .i16 v0)).setCell ⟨g, k * 3 + 1, none⟩ (.int .i16 v1)).setCell ⟨g, k * 3 + 2, none⟩ (.int .i16 v2)) g 0 (3 * n) (fun j => if j = k * 3 + 2 then v2 else if j = k * 3 + 1 then v1 else if j = k * 3 then v0 else f j) := by
  have := ((h.set (i := k * 3) (by omega) v0).set (i := k * 3 + 1) (by omega) v1).set (i := k * 3 + 2) (by omega) v2
  simpa only [Nat.zero_add] using this
theorem toMixS_any (A : Option Addr) (n cap N : Nat) (c : Nat → Int) (w : World) (hn : n ≤ 1048576) (hN : N ≤ w.heap.size) (hr : RdK .i16 w N A (3 * n) c) :
    Calls Try.prog 35 #[.slice A n cap] w fun e w' => ∃ g, e = .returned (.slice (some ⟨g, 0, none⟩) n n) ∧ w.heap.size ≤ g ∧ Below w.heap.size w w' ∧ Am w' g n c := by
  obtain ⟨i0, hi, hz0, hz1, hz2⟩ := info_parts infoMixT
  have hmk := fun W => run_make_rowN (P := Try.prog) 57 44 i0 _ Try.underlying57 hi hz0 .i64 .i64 n n (Nat.le_refl _) (by rw [hz2]; omega) (by omega) W
  have HR := Lib.hid hr
  clear hr
  go_enter Try.func35, Try.ntmps35
  go_wp2
  obtain ⟨W0, hW0⟩ : ∃ W0 : World, W0 = (w.alloc (.cells (madeCells #[.int .i16 0, .int .i16 0, .int .i16 0] (n * 3)) 44)) := ⟨_, rfl⟩
  have hb0 : Below w.heap.size w W0 := by rw [hW0]; exact (Below.refl _ _).alloc (Nat.le_refl _) _
  have hg0 : w.heap.size < W0.heap.size := by rw [hW0]; simp
  have hrow0 : OwnK .i16 W0 w.heap.size 0 (3 * n) (fun _ => 0) := by rw [hW0]; exact own_made3 w n _
  rw [← hW0]
  clear hW0 hmk
  go_loopw [4] (fun i wr => ∃ k : Nat, k ≤ n ∧ i = .int .i64 k ∧ Below w.heap.size w wr ∧ w.heap.size < wr.heap.size ∧ OwnK .i16 wr w.heap.size 0 (3 * n) (fun j => if j < 3 * k then c j else 0)) (fun i _ => n - (intOf i).toNat)
  case atStart => exact ⟨0, by omega, rfl, hb0, hg0, hrow0.congr (fun j _ => by simp)⟩
  case round =>
    obtain ⟨k, hk, rfl, hb, hg, hrow⟩ := hrel
    by_cases hlt : k < n
    · obtain ⟨b, off, rfl, hbl, hcs⟩ := mix_at (HR.out.below (hb.mono hN)) hlt
      have x0 := hcs 0 (by decide)
      have x1 := hcs 1 (by decide)
      have x2 := hcs 2 (by decide)
      rw [Nat.add_zero] at x0
      clear hcs
      have hki : (k : Int) < (n : Int) := by omega
      go_wp2_with (go_at_call 26; refine (toMix_any (mk3 c k) _).mono ?_; rintro e w1 ⟨hb1, rfl⟩; have hrow1 := hrow.of_block (hb1.block _ hg); obtain ⟨⟨d0, d1, d2⟩, f0, f1, f2⟩ := own_at3 hrow1 hlt; have hz := Nat.lt_of_lt_of_le hg hb1.size)
      go_roundw
      case rel =>
        refine ⟨k + 1, by omega, by go_num, ((((hb.trans (hb1.mono hb.size)).setCell (Nat.le_refl _) _).setCell (Nat.le_refl _) _).setCell (Nat.le_refl _) _), by simpa using hz, ?_⟩
        have h2 := own_set3 hrow1 hlt (mk3 c k 0) (mk3 c k 1) (mk3 c k 2)
        refine h2.congr fun j hj => ?_
        by_cases e2 : j = k * 3 + 2
        · subst e2; simp only [if_pos]; rw [if_pos (by omega)]; unfold mk3; congr 1; omega
        rw [if_neg e2]
        by_cases e1 : j = k * 3 + 1
        · subst e1; simp only [if_pos]; rw [if_pos (by omega)]; unfold mk3; congr 1; omega
        rw [if_neg e1]
        by_cases e0 : j = k * 3
        · subst e0; simp only [if_pos]; rw [if_pos (by omega)]; unfold mk3; congr 1; omega
        rw [if_neg e0]
        by_cases hj' : j < 3 * k
        · rw [if_pos hj', if_pos (by omega)]
        · rw [if_neg hj', if_neg (by omega)]
      case measure => simp [intOf]; omega
    · obtain rfl : k = n := by omega
      go_wp2
      go_ret
      exact ⟨_, rfl, Nat.le_refl _, hb, hg, hrow.congr (fun j hj => by simp only [if_pos hj])⟩
theorem eqMixS_any (A B : Option Addr) (n ca cb N : Nat) (c : Nat → Int) (w : World) (hn : n ≤ 1048576) (hN : N ≤ w.heap.size) (hr : RdK .i16 w N A (3 * n) c) (hs : RdK .i16 w N B (3 * n) c) :
    Calls Try.prog 37 #[.slice A n ca, .slice B n cb] w fun e w' => e = .returned (.bool true) ∧ Below w.heap.size w w' := by
  have HR := Lib.hid hr
  have HS := Lib.hid hs
  clear hr hs
  have hnn : ((n : Int) == (n : Int)) = true := by simp
  have hnb : ((n : Int) != (n : Int)) = false := by simp
  go_enter Try.func37, Try.ntmps37
  go_wp2
  go_loopw [5] (fun i wr => ∃ k : Nat, k ≤ n ∧ i = .int .i64 k ∧ Below w.heap.size w wr) (fun i wr => n - (intOf i).toNat)
  case atStart => exact ⟨0, by omega, rfl, Below.refl _ _⟩
  case round =>
    obtain ⟨k, hk, rfl, hb⟩ := hrel
    by_cases hlt : k < n
    · have hki : (k : Int) < (n : Int) := by omega
      obtain ⟨b, off, rfl, hbl, hcs⟩ := mix_at (HR.out.below (hb.mono hN)) hlt
      obtain ⟨b', off', rfl, hbl', hcs'⟩ := mix_at (HS.out.below (hb.mono hN)) hlt
      have x0 := hcs 0 (by decide)
      have x1 := hcs 1 (by decide)
      have x2 := hcs 2 (by decide)
      have y0 := hcs' 0 (by decide)
      have y1 := hcs' 1 (by decide)
      have y2 := hcs' 2 (by decide)
      rw [Nat.add_zero] at x0 y0
      clear hcs hcs'
      go_wp2
      go_still_tail 8, (by kernel_rfl)
      change wpList _ _ _ _ _ wr.drew
      go_wp2_with (go_at_call 30; refine (eqMix_yes (mk3 c k) _).mono ?_; rintro e w1 ⟨hb1, rfl⟩)
      go_roundw
      case rel => exact ⟨k + 1, by omega, by go_num, hb.drew.trans (hb1.mono hb.size)⟩
      case measure => simp [intOf]; omega
    · obtain rfl : k = n := by omega
      go_wp2
      go_ret
      exact ⟨rfl, hb⟩
end Go.Proofs.Ytgpnimbgckajlaa
