/-
  The contracts of spec.l03Sorts and impl.sortsOf. Conditions stand at each.
-/
import Derived.Test.YtjeccdmhpbaabaaRows
import Derived.Test.YtjeccdmhpbaabaaSelM
namespace Go.Proofs.Ytjeccdmhpbaabaa
open Go Go.ChangeShapes Go.WideShapes Go.ChangeAt Go.RowKit
set_option linter.unusedVariables false
set_option linter.unusedSimpArgs false
set_option maxRecDepth 100000
set_option maxHeartbeats 2000000

theorem two_cells (w : World) (x y : Int) (t : TypeId) : ∀ j u, ([Value.int .i8 x, .int .i16 y])[j]? = some u → (w.alloc (.cells #[.int .i8 x, .int .i16 y] t)).cell? ((⟨w.heap.size, 0, none⟩ : Addr).add j) = some u := by
  intro j u h
  rw [Go.WideShapes.add_plain, Nat.zero_add, cell_of_row _ _ j _ _ _ (heap_alloc_new w _)]
  simpa using h
theorem two_cells1 (w : World) (o : Obj) (x y : Int) (t : TypeId) : ∀ j u, ([Value.int .i8 x, .int .i16 y])[j]? = some u → ((w.alloc o).alloc (.cells #[.int .i8 x, .int .i16 y] t)).cell? ((⟨w.heap.size + 1, 0, none⟩ : Addr).add j) = some u := by
  intro j u h
  have := two_cells (w.alloc o) x y t j u h
  rwa [World.size_alloc] at this
theorem two_one {x y : Int} : ∀ u ∈ [Value.int .i8 x, Value.int .i16 y], u.oneCell' = true := by
  intro u hu
  simp at hu
  rcases hu with rfl | rfl <;> rfl
theorem bit_is : ∀ s, s < 64 → ∀ i, i < 6 → (bits BinOp.and IntKind.i64 ((s : Nat) / 2 ^ i : Int) 1 == 1) = Nat.testBit s i := by decide +kernel

theorem l03Sorts_any (A : Option Addr) (n cap s : Nat) (c d : Nat → Int) (w : World) (hn : n ≤ 6) (hs : s < 64) (hr : RdS w w.heap.size A n c d) :
    Calls Try.prog 131 #[.slice A n cap, .int .i64 (s : Int)] w fun e w' => Below w.heap.size w w' ∧ ∃ v, e = .returned v ∧ OwnL w' w.heap.size v (selL s n) c d := by
  obtain ⟨i0, hi, hz0, hz1, hz2⟩ := info_parts infoSett
  have HR := Lib.hid hr
  clear hr
  go_enter Try.func131, Try.ntmps131
  go_wp2_with fail
  go_loopw [5, 6] (fun t5 t6 wr => ∃ i : Nat, i ≤ n ∧ t6 = .int .i64 i ∧ Below w.heap.size w wr ∧ OwnL wr w.heap.size t5 (selL s i) c d) (fun t5 t6 wr => n - (intOf t6).toNat)
  case atStart => exact ⟨0, by omega, rfl, al (Below.refl _ _) _, World.ownsRow_made w #[] 0 (Nat.le_refl _) (Nat.zero_le _) rfl⟩
  case round =>
    obtain ⟨i, hi1, rfl, B, O⟩ := hrel
    obtain ⟨wo, rfl⟩ : ∃ wo : World, wo = wr := ⟨_, rfl⟩
    obtain ⟨v0, rfl⟩ : ∃ v0 : Value, v0 = u5 := ⟨_, rfl⟩
    have HB := Lib.hid B
    have HO := Lib.hid O
    clear B O
    by_cases hlt : i < n
    · have hlti : (i : Int) < (n : Int) := by omega
      obtain ⟨b, off, rfl, hbl, c0, c1⟩ := (HR.out.below HB.out).at hlt
      have hbit := bit_is s hs i (by omega)
      have hsu := selL_succ s i
      have HSU := Lib.hid hsu
      clear hsu
      by_cases hb : s.testBit i = true
      · rw [hb] at hbit
        have HBT := Lib.hid hb
        clear hb
        go_wp2_with (at_builtin; refine wpList_append_own _ rfl _ _ 25 rfl w.heap.size 89 i0 (.agg #[.int .i8 0, .int .i16 0]) 2 4 Try.underlying25 hi hz0 hz1 hz2 rfl (by decide) _ _ _ rfl (World.ownsRow.alloc HO.out _) ⟨wo.heap.size, 0, none⟩ 1 1 [.int .i8 (c i), .int .i16 (d i)] rfl rfl (two_cells wo _ _ _) two_one (by have := selL_le s i; unfold maxLen; omega) (by have := selL_le s i; omega) (by have := HB.out.size; simp; omega) ?_; intro v' w1 own' hgr _)
        have B1 : Below w.heap.size w w1 := (al HB.out _).grown hgr (al HB.out _).size (fun k e => (World.ownsRow.lt HO.out k e).1)
        have O1 : OwnL w1 w.heap.size v' (selL s (i + 1)) c d := by
          rw [HSU.out, if_pos HBT.out]
          exact OwnL.snoc own'
        clear own' hgr
        exact ⟨⟨i + 1, by omega, by first | go_num | simp, B1, O1⟩, by simp [intOf]; omega⟩
      · have hb' : s.testBit i = false := by simpa using hb
        rw [hb'] at hbit
        have HBT := Lib.hid hb
        clear hb hb'
        go_wp2_with fail
        exact ⟨⟨i + 1, by omega, by first | go_num | simp, HB.out, by rw [HSU.out, if_neg HBT.out, List.append_nil]; exact HO.out⟩, by simp [intOf]; omega⟩
    · obtain rfl : i = n := by omega
      have hlti : ¬ (i : Int) < (i : Int) := by omega
      go_wp2_with fail
      go_ret
      exact ⟨HB.out, _, rfl, HO.out⟩
theorem sortsOf_any (A : Option Addr) (n cap s : Nat) (c d : Nat → Int) (w : World) (hn : n ≤ 6) (hs : s < 64) (hr : RdS w w.heap.size A n c d) :
    Calls Try.prog 132 #[.slice A n cap, .int .i64 (s : Int)] w fun e w' => Below w.heap.size w w' ∧ ∃ v, e = .returned v ∧ OwnL w' w.heap.size v (selL s n) c d := by
  obtain ⟨i0, hi, hz0, hz1, hz2⟩ := info_parts infoSett
  have HR := Lib.hid hr
  clear hr
  go_enter Try.func132, Try.ntmps132
  go_wp2_with fail
  go_loopw [5, 6, 7, 10] (fun t5 t6 t7 t10 wr => ∃ i : Nat, i ≤ n ∧ t10 = .int .i64 i ∧ Below w.heap.size w wr ∧ OwnL wr w.heap.size t5 (selL s i) c d) (fun t5 t6 t7 t10 wr => n - (intOf t10).toNat)
  case atStart => exact ⟨0, by omega, rfl, Below.refl _ _, World.ownsRow_nil _ _ _ _⟩
  case round =>
    obtain ⟨i, hi1, rfl, B, O⟩ := hrel
    obtain ⟨wo, rfl⟩ : ∃ wo : World, wo = wr := ⟨_, rfl⟩
    obtain ⟨v0, rfl⟩ : ∃ v0 : Value, v0 = u5 := ⟨_, rfl⟩
    have HB := Lib.hid B
    have HO := Lib.hid O
    clear B O
    by_cases hlt : i < n
    · have hlti : (i : Int) < (n : Int) := by omega
      obtain ⟨b, off, rfl, hbl, c0, c1⟩ := (HR.out.below HB.out).at hlt
      have hbit := bit_is s hs i (by omega)
      have hsu := selL_succ s i
      have HSU := Lib.hid hsu
      clear hsu
      by_cases hb : s.testBit i = true
      · rw [hb] at hbit
        have HBT := Lib.hid hb
        clear hb
        go_wp2_with (at_builtin; refine wpList_append_own _ rfl _ _ 25 rfl w.heap.size 89 i0 (.agg #[.int .i8 0, .int .i16 0]) 2 4 Try.underlying25 hi hz0 hz1 hz2 rfl (by decide) _ _ _ rfl (World.ownsRow.alloc (World.ownsRow.alloc HO.out _) _) ⟨wo.heap.size + 1, 0, none⟩ 1 1 [.int .i8 (c i), .int .i16 (d i)] rfl rfl (two_cells1 wo _ _ _ _) two_one (by have := selL_le s i; unfold maxLen; omega) (by have := selL_le s i; omega) (by have := HB.out.size; simp; omega) ?_; intro v' w1 own' hgr _)
        have B1 : Below w.heap.size w w1 := (al (al HB.out _) _).grown hgr (al (al HB.out _) _).size (fun k e => (World.ownsRow.lt HO.out k e).1)
        have O1 : OwnL w1 w.heap.size v' (selL s (i + 1)) c d := by
          rw [HSU.out, if_pos HBT.out]
          exact OwnL.snoc own'
        clear own' hgr
        exact ⟨⟨i + 1, by omega, by first | go_num | simp, B1, O1⟩, by simp [intOf]; omega⟩
      · have hb' : s.testBit i = false := by simpa using hb
        rw [hb'] at hbit
        have HBT := Lib.hid hb
        clear hb hb'
        go_wp2_with fail
        exact ⟨⟨i + 1, by omega, by first | go_num | simp, al HB.out _, by rw [HSU.out, if_neg HBT.out, List.append_nil]; exact World.ownsRow.alloc HO.out _⟩, by simp [intOf]; omega⟩
    · obtain rfl : i = n := by omega
      have hlti : ¬ (i : Int) < (i : Int) := by omega
      go_wp2_with fail
      go_ret
      exact ⟨HB.out, _, rfl, HO.out⟩
end Go.Proofs.Ytjeccdmhpbaabaa
