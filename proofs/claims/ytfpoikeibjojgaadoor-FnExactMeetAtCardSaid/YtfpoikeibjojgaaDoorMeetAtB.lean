/-
  Both sides of MeetAt answer the same; the walk of the law. Conditions stand at each.
-/
import Derived.Test.YtfpoikeibjojgaaDoorRows
import Derived.Test.YtfpoikeibjojgaaDoorMeetI
import Derived.Test.YtfpoikeibjojgaaDoorDoorF
namespace Go.Proofs.YtfpoikeibjojgaaDoor.meetAt
open Go Go.ChangeShapes Go.WideShapes Go.ChangeAt Go.RowKit
set_option linter.unusedVariables false
set_option linter.unusedSimpArgs false
set_option maxRecDepth 100000
set_option maxHeartbeats 8000000
theorem _root_.Go.Proofs.YtfpoikeibjojgaaDoor.Bx.newAtM (w : World) (k : Nat) (cs : Array Value) (t : TypeId) (hk : k = w.heap.size) : Bx (w.alloc (.cells cs t)) k cs t := by subst hk; exact Bx.new w cs t
theorem JobOk.code {n : Nat} {c d : Nat → Int} {m : Nat} {g : Gs} (h : JobOk n c d m g) : JobCode n c d m g 0 := .inr (.inr (.inr ⟨h.1, h.2.1, h.2.2, rfl⟩))
theorem key (n : Nat) (c d : Nat → Int) (g : Gs) : ∃ z v r : Int, ∀ w e w', MeetPost n c d g w e w' → Below w.heap.size w w' ∧ e = .returned (.tuple #[.int .i64 z, .int .i64 v, .int .i64 r]) := by
  by_cases hok : JobOk n c d 2 g
  · by_cases hex : ∃ k, FirstLeast (n + 1) (MeetOk n c g) (meetV n d g) k
    · obtain ⟨k, hk⟩ := hex
      refine ⟨k, meetV n d g k, 0, ?_⟩
      rintro w e w' ⟨hb, ⟨r, hr, hj, -⟩ | ⟨-, hno, -⟩ | ⟨-, k', hk', rfl⟩⟩
      · exact absurd (hj.one (JobOk.code hok)) hr
      · exact absurd hk.2.1 (hno k hk.1)
      · obtain rfl := hk'.one hk
        exact ⟨hb, rfl⟩
    · refine ⟨0, 0, 6, ?_⟩
      rintro w e w' ⟨hb, ⟨r, hr, hj, -⟩ | ⟨-, -, rfl⟩ | ⟨-, k', hk', -⟩⟩
      · exact absurd (hj.one (JobOk.code hok)) hr
      · exact ⟨hb, rfl⟩
      · exact absurd ⟨k', hk'⟩ hex
  · by_cases hex : ∃ r : Int, JobCode n c d 2 g r
    · obtain ⟨r, hr⟩ := hex
      refine ⟨0, 0, r, ?_⟩
      rintro w e w' ⟨hb, ⟨r', -, hj, rfl⟩ | ⟨h, -⟩ | ⟨h, -⟩⟩
      · obtain rfl := hj.one hr
        exact ⟨hb, rfl⟩
      · exact absurd h hok
      · exact absurd h hok
    · refine ⟨0, 0, 0, ?_⟩
      rintro w e w' ⟨hb, ⟨r', -, hj, -⟩ | ⟨h, -⟩ | ⟨h, -⟩⟩
      · exact absurd ⟨r', hj⟩ hex
      · exact absurd h hok
      · exact absurd h hok
def gv (g : Gs) (j : Nat) : Value := .agg #[.int .i8 (g.p j), .int .i8 (g.q j), .int .i8 (g.s j), .int .i8 (g.t j), .int .i16 (g.u j)]
theorem both (n : Nat) (c d : Nat → Int) (g : Gs) (hn : n ≤ 1048576) (hc : ∀ j, -128 ≤ c j ∧ c j ≤ 127) (hd : ∀ j, -32768 ≤ d j ∧ d j ≤ 32767) (hgb : g.bd) :
    ∃ z v r : Int, (∀ (W : World) (G : Nat), As W G n c d → Calls Tryd.prog 38 #[.slice (some ⟨G, 0, none⟩) n n, .agg #[.int .i8 (g.p 0), .int .i8 (g.q 0), .int .i8 (g.s 0), .int .i8 (g.t 0), .int .i16 (g.u 0)], .agg #[.int .i8 (g.p 1), .int .i8 (g.q 1), .int .i8 (g.s 1), .int .i8 (g.t 1), .int .i16 (g.u 1)]] W fun e w' => Below W.heap.size W w' ∧ e = .returned (.tuple #[.int .i64 z, .int .i64 v, .int .i64 r])) ∧
      (∀ (W : World) (G : Nat), As W G n c d → Calls Tryd.prog 39 #[.slice (some ⟨G, 0, none⟩) n n, .agg #[.int .i8 (g.p 0), .int .i8 (g.q 0), .int .i8 (g.s 0), .int .i8 (g.t 0), .int .i16 (g.u 0)], .agg #[.int .i8 (g.p 1), .int .i8 (g.q 1), .int .i8 (g.s 1), .int .i8 (g.t 1), .int .i16 (g.u 1)]] W fun e w' => Below W.heap.size W w' ∧ e = .returned (.tuple #[.int .i64 z, .int .i64 v, .int .i64 r])) := by
  obtain ⟨z, v, r, h⟩ := key n c d g
  exact ⟨z, v, r, fun W G R => (specMeet_any _ n n c d g W hn (Nat.le_refl _) R.rd hc hd hgb).mono (h W), fun W G R => (implMeet_any _ n n c d g W hn R.rd hc hd hgb).mono (h W)⟩
theorem law (A : Option Addr) (n cap : Nat) (c d : Nat → Int) (g : Gs) (z v r : Int) (w : World) (hn : n ≤ 1048576) (hr : RdS w w.heap.size A n c d)
    (hS : ∀ (W : World) (G : Nat), As W G n c d → Calls Tryd.prog 38 #[.slice (some ⟨G, 0, none⟩) n n, .agg #[.int .i8 (g.p 0), .int .i8 (g.q 0), .int .i8 (g.s 0), .int .i8 (g.t 0), .int .i16 (g.u 0)], .agg #[.int .i8 (g.p 1), .int .i8 (g.q 1), .int .i8 (g.s 1), .int .i8 (g.t 1), .int .i16 (g.u 1)]] W fun e w' => Below W.heap.size W w' ∧ e = .returned (.tuple #[.int .i64 z, .int .i64 v, .int .i64 r]))
    (hI : ∀ (W : World) (G : Nat), As W G n c d → Calls Tryd.prog 39 #[.slice (some ⟨G, 0, none⟩) n n, .agg #[.int .i8 (g.p 0), .int .i8 (g.q 0), .int .i8 (g.s 0), .int .i8 (g.t 0), .int .i16 (g.u 0)], .agg #[.int .i8 (g.p 1), .int .i8 (g.q 1), .int .i8 (g.s 1), .int .i8 (g.t 1), .int .i16 (g.u 1)]] W fun e w' => Below W.heap.size W w' ∧ e = .returned (.tuple #[.int .i64 z, .int .i64 v, .int .i64 r])) :
    Calls Tryd.prog 9 #[.slice A n cap, .agg #[.int .i8 (g.p 0), .int .i8 (g.q 0), .int .i8 (g.s 0), .int .i8 (g.t 0), .int .i16 (g.u 0)], .agg #[.int .i8 (g.p 1), .int .i8 (g.q 1), .int .i8 (g.s 1), .int .i8 (g.t 1), .int .i16 (g.u 1)]] w fun e w' => e = .returned (.bool true) ∧ Below w.heap.size w w' := by
  have HS := Lib.hid hS
  have HI := Lib.hid hI
  have HR := Lib.hid hr
  have HG0 := Lib.hid (fun W => toGang_any (g.p 0) (g.q 0) (g.s 0) (g.t 0) (g.u 0) W)
  have HG1 := Lib.hid (fun W => toGang_any (g.p 1) (g.q 1) (g.s 1) (g.t 1) (g.u 1) W)
  have HT := Lib.hid (fun W (hB : Below w.heap.size w W) => toRowS_any A n cap w.heap.size c d W hn hB.size (HR.out.below hB))
  have HZ := Lib.hid (fun W => szRowS_ok A n cap 1048576 W (by omega) (by omega) (by omega))
  have hz0 : 0 ≤ 1048576 - (n : Int) := by omega
  have hz1 : ¬ (1048576 - (n : Int) < 0) := by omega
  have hzz : (z != z) = false := by simp
  have hvv : (v != v) = false := by simp
  have hrr : (r != r) = false := by simp
  have X2 := (Bx.new w (gangC (g.p 0) (g.q 0) (g.s 0) (g.t 0) (g.u 0)) 25).alloc (.cells (gangC (g.p 1) (g.q 1) (g.s 1) (g.t 1) (g.u 1)) 25)
  have X3 := Bx.newAtM (w.alloc (.cells (gangC (g.p 0) (g.q 0) (g.s 0) (g.t 0) (g.u 0)) 25)) (w.heap.size + 1) (gangC (g.p 1) (g.q 1) (g.s 1) (g.t 1) (g.u 1)) 25 (by simp)
  have B := al (al (Below.refl w.heap.size w) (.cells (gangC (g.p 0) (g.q 0) (g.s 0) (g.t 0) (g.u 0)) 25)) (.cells (gangC (g.p 1) (g.q 1) (g.s 1) (g.t 1) (g.u 1)) 25)
  clear hS hI hr
  go_enter Tryd.func9, Tryd.ntmps9
  go_wp2_with fail
  refine (HZ.out _).mono ?_
  rintro e w1 ⟨rfl, hw1⟩
  obtain ⟨b2, h2⟩ : ∃ b2, b2 = w.heap.size := ⟨_, rfl⟩
  rw [← h2] at X2 X3 ⊢
  clear h2
  have hW1 : ((w.alloc (.cells (gangC (g.p 0) (g.q 0) (g.s 0) (g.t 0) (g.u 0)) 25)).alloc (.cells (gangC (g.p 1) (g.q 1) (g.s 1) (g.t 1) (g.u 1)) 25)) = w1 := hw1
  rw [hW1] at X2 X3 B
  clear hw1 hW1 HZ
  go_wp2
  refine wp_region_held_drew (S := (fun w' : World => Bx w' b2 (gangC (g.p 0) (g.q 0) (g.s 0) (g.t 0) (g.u 0)) 25 ∧ Bx w' (b2 + 1) (gangC (g.p 1) (g.q 1) (g.s 1) (g.t 1) (g.u 1)) 25)) (by kernel_rfl) ⟨X2, X3⟩ (fun hHeld => ?_)
  replace B := B.drew
  replace X2 : Bx w1.drew b2 (gangC (g.p 0) (g.q 0) (g.s 0) (g.t 0) (g.u 0)) 25 := X2
  replace X3 : Bx w1.drew (b2 + 1) (gangC (g.p 1) (g.q 1) (g.s 1) (g.t 1) (g.u 1)) 25 := X3
  obtain ⟨wq, hwq⟩ : ∃ wq, w1.drew = wq := ⟨_, rfl⟩
  rw [hwq] at B X2 X3 hHeld ⊢
  clear hwq
  refine wpAnyH_take (i := 2) (oi := _) (v := .agg (gangC (g.p 0) (g.q 0) (g.s 0) (g.t 0) (g.u 0))) rfl (by kernel_rfl) (by kernel_rfl) (by kernel_rfl) (fun _ _ _ h => h) (yields_box (by kernel_rfl) _ _ rfl b2 rfl (gangC (g.p 0) (g.q 0) (g.s 0) (g.t 0) (g.u 0)) 25 (fun _ hS => hS.1) _ Tryd.underlying25 rfl (by kernel_rfl)) (by assumption) ?_
  try simp only [List.getElem_toArray, List.getElem_cons_zero, List.getElem_cons_succ, Act.put, List.setIfInBounds_toArray, List.set_cons_zero, List.set_cons_succ]
  refine wpAnyH_take (i := 4) (oi := _) (v := .agg (gangC (g.p 1) (g.q 1) (g.s 1) (g.t 1) (g.u 1))) rfl (by kernel_rfl) (by kernel_rfl) (by kernel_rfl) (fun _ _ _ h => h) (yields_box (by kernel_rfl) _ _ rfl (b2 + 1) rfl (gangC (g.p 1) (g.q 1) (g.s 1) (g.t 1) (g.u 1)) 25 (fun _ hS => hS.2) _ Tryd.underlying25 rfl (by kernel_rfl)) (by assumption) ?_
  try simp only [List.getElem_toArray, List.getElem_cons_zero, List.getElem_cons_succ, Act.put, List.setIfInBounds_toArray, List.set_cons_zero, List.set_cons_succ]
  refine wpAnyH_take (i := 0) (oi := _) (v := ?_) rfl (by kernel_rfl) (by kernel_rfl) (by kernel_rfl) (fun _ _ _ h => h) (Or.inl ⟨by kernel_rfl, ?_⟩) (by assumption) ?_
  rotate_left
  · intro w hSw; (try dsimp only at hSw); go_simp; first | done | with_reducible rfl
  try simp only [List.getElem_toArray, List.getElem_cons_zero, List.getElem_cons_succ, Act.put, List.setIfInBounds_toArray, List.set_cons_zero, List.set_cons_succ]
  refine wpAnyH_ready (rs := [1]) (by kernel_rfl) (by simp) ?_
  refine AllReadyH.cons (o := _) rfl (fun K hK => ?_) AllReadyH.nil
  go_simp
  refine (HT.out _ B).mono ?_
  rintro e w2 ⟨ga, rfl, hg, hb, Xa⟩
  replace X2 := X2.below hb
  replace X3 := X3.below hb
  replace B := nxt B hb
  clear hb
  refine hK.out _ _ ⟨X2, X3⟩ (fun hHeld => ?_)
  clear hK K
  try simp only [List.getElem_toArray, List.getElem_cons_zero, List.getElem_cons_succ, Act.put, List.setIfInBounds_toArray, List.set_cons_zero, List.set_cons_succ]
  refine wpAnyH_ready (rs := [3]) (by kernel_rfl) (by simp) ?_
  refine AllReadyH.cons (o := _) rfl (fun K hK => ?_) AllReadyH.nil
  go_simp
  refine (HG0.out _).mono ?_
  rintro e w3 ⟨rfl, hb⟩
  replace Xa := Xa.below hb
  replace X2 := X2.below hb
  replace X3 := X3.below hb
  replace B := nxt B hb
  clear hb
  refine hK.out _ _ ⟨X2, X3⟩ (fun hHeld => ?_)
  clear hK K
  try simp only [List.getElem_toArray, List.getElem_cons_zero, List.getElem_cons_succ, Act.put, List.setIfInBounds_toArray, List.set_cons_zero, List.set_cons_succ]
  refine wpAnyH_ready (rs := [5]) (by kernel_rfl) (by simp) ?_
  refine AllReadyH.cons (o := _) rfl (fun K hK => ?_) AllReadyH.nil
  go_simp
  refine (HG1.out _).mono ?_
  rintro e w4 ⟨rfl, hb⟩
  replace Xa := Xa.below hb
  replace X2 := X2.below hb
  replace X3 := X3.below hb
  replace B := nxt B hb
  clear hb
  refine hK.out _ _ ⟨X2, X3⟩ (fun hHeld => ?_)
  clear hK K
  try simp only [List.getElem_toArray, List.getElem_cons_zero, List.getElem_cons_succ, Act.put, List.setIfInBounds_toArray, List.set_cons_zero, List.set_cons_succ]
  refine wpAnyH_ready (rs := [6]) (by kernel_rfl) (by simp) ?_
  refine AllReadyH.cons (o := _) rfl (fun K hK => ?_) AllReadyH.nil
  go_simp
  refine (HS.out _ ga Xa).mono ?_
  rintro e w5 ⟨hb, rfl⟩
  replace X2 := X2.below hb
  replace X3 := X3.below hb
  replace B := nxt B hb
  clear hb
  refine hK.out _ _ ⟨X2, X3⟩ (fun hHeld => ?_)
  clear hK K
  try simp only [List.getElem_toArray, List.getElem_cons_zero, List.getElem_cons_succ, Act.put, List.setIfInBounds_toArray, List.set_cons_zero, List.set_cons_succ]
  refine wpAnyH_take (i := 7) (oi := _) (v := ?_) rfl (by kernel_rfl) (by kernel_rfl) (by kernel_rfl) (fun _ _ _ h => h) (Or.inl ⟨by kernel_rfl, ?_⟩) (by assumption) ?_
  rotate_left
  · intro w hSw; (try dsimp only at hSw); go_simp; first | done | with_reducible rfl
  try simp only [List.getElem_toArray, List.getElem_cons_zero, List.getElem_cons_succ, Act.put, List.setIfInBounds_toArray, List.set_cons_zero, List.set_cons_succ]
  refine wpAnyH_take (i := 8) (oi := _) (v := ?_) rfl (by kernel_rfl) (by kernel_rfl) (by kernel_rfl) (fun _ _ _ h => h) (Or.inl ⟨by kernel_rfl, ?_⟩) (by assumption) ?_
  rotate_left
  · intro w hSw; (try dsimp only at hSw); go_simp; first | done | with_reducible rfl
  try simp only [List.getElem_toArray, List.getElem_cons_zero, List.getElem_cons_succ, Act.put, List.setIfInBounds_toArray, List.set_cons_zero, List.set_cons_succ]
  refine wpAnyH_take (i := 9) (oi := _) (v := ?_) rfl (by kernel_rfl) (by kernel_rfl) (by kernel_rfl) (fun _ _ _ h => h) (Or.inl ⟨by kernel_rfl, ?_⟩) (by assumption) ?_
  rotate_left
  · intro w hSw; (try dsimp only at hSw); go_simp; first | done | with_reducible rfl
  try simp only [List.getElem_toArray, List.getElem_cons_zero, List.getElem_cons_succ, Act.put, List.setIfInBounds_toArray, List.set_cons_zero, List.set_cons_succ]
  refine wpAnyH_take (i := 10) (oi := _) (v := ?_) rfl (by kernel_rfl) (by kernel_rfl) (by kernel_rfl) (fun _ _ _ h => h) (Or.inl ⟨by kernel_rfl, ?_⟩) (by assumption) ?_
  rotate_left
  · intro w hSw; (try dsimp only at hSw); go_simp; first | done | with_reducible rfl
  try simp only [List.getElem_toArray, List.getElem_cons_zero, List.getElem_cons_succ, Act.put, List.setIfInBounds_toArray, List.set_cons_zero, List.set_cons_succ]
  refine wpAnyH_take (i := 11) (oi := _) (v := ?_) rfl (by kernel_rfl) (by kernel_rfl) (by kernel_rfl) (fun _ _ _ h => h) (Or.inl ⟨by kernel_rfl, ?_⟩) (by assumption) ?_
  rotate_left
  · intro w hSw; (try dsimp only at hSw); go_simp; first | done | with_reducible rfl
  try simp only [List.getElem_toArray, List.getElem_cons_zero, List.getElem_cons_succ, Act.put, List.setIfInBounds_toArray, List.set_cons_zero, List.set_cons_succ]
  refine wpAnyH_take (i := 12) (oi := _) (v := ?_) rfl (by kernel_rfl) (by kernel_rfl) (by kernel_rfl) (fun _ _ _ h => h) (Or.inl ⟨by kernel_rfl, ?_⟩) (by assumption) ?_
  rotate_left
  · intro w hSw; (try dsimp only at hSw); go_simp; first | done | with_reducible rfl
  try simp only [List.getElem_toArray, List.getElem_cons_zero, List.getElem_cons_succ, Act.put, List.setIfInBounds_toArray, List.set_cons_zero, List.set_cons_succ]
  refine wpAnyH_take (i := 13) (oi := _) (v := ?_) rfl (by kernel_rfl) (by kernel_rfl) (by kernel_rfl) (fun _ _ _ h => h) (Or.inl ⟨by kernel_rfl, ?_⟩) (by assumption) ?_
  rotate_left
  · intro w hSw; (try dsimp only at hSw); go_simp; first | done | with_reducible rfl
  try simp only [List.getElem_toArray, List.getElem_cons_zero, List.getElem_cons_succ, Act.put, List.setIfInBounds_toArray, List.set_cons_zero, List.set_cons_succ]
  refine wpAnyH_done (by kernel_rfl) ?_ _
  clear Xa hg hHeld
  go_wp2_with fail
  refine (HT.out _ B).mono ?_
  rintro e w6 ⟨gb, rfl, hg, hb, Xb⟩
  replace X2 := X2.below hb
  replace X3 := X3.below hb
  replace B := nxt B hb
  clear hb hg
  go_wp2
  refine wp_region_held_drew (S := (fun w' : World => Bx w' b2 (gangC (g.p 0) (g.q 0) (g.s 0) (g.t 0) (g.u 0)) 25 ∧ Bx w' (b2 + 1) (gangC (g.p 1) (g.q 1) (g.s 1) (g.t 1) (g.u 1)) 25)) (by kernel_rfl) ⟨X2, X3⟩ (fun hHeld => ?_)
  replace B := B.drew
  replace X2 : Bx w6.drew b2 (gangC (g.p 0) (g.q 0) (g.s 0) (g.t 0) (g.u 0)) 25 := X2
  replace X3 : Bx w6.drew (b2 + 1) (gangC (g.p 1) (g.q 1) (g.s 1) (g.t 1) (g.u 1)) 25 := X3
  replace Xb : As w6.drew gb n c d := Xb
  obtain ⟨wq, hwq⟩ : ∃ wq, w6.drew = wq := ⟨_, rfl⟩
  rw [hwq] at B X2 X3 Xb hHeld ⊢
  clear hwq
  refine wpAnyH_take (i := 1) (oi := _) (v := .agg (gangC (g.p 0) (g.q 0) (g.s 0) (g.t 0) (g.u 0))) rfl (by kernel_rfl) (by kernel_rfl) (by kernel_rfl) (fun _ _ _ h => h) (yields_box (by kernel_rfl) _ _ rfl b2 rfl (gangC (g.p 0) (g.q 0) (g.s 0) (g.t 0) (g.u 0)) 25 (fun _ hS => hS.1) _ Tryd.underlying25 rfl (by kernel_rfl)) (by assumption) ?_
  try simp only [List.getElem_toArray, List.getElem_cons_zero, List.getElem_cons_succ, Act.put, List.setIfInBounds_toArray, List.set_cons_zero, List.set_cons_succ]
  refine wpAnyH_take (i := 3) (oi := _) (v := .agg (gangC (g.p 1) (g.q 1) (g.s 1) (g.t 1) (g.u 1))) rfl (by kernel_rfl) (by kernel_rfl) (by kernel_rfl) (fun _ _ _ h => h) (yields_box (by kernel_rfl) _ _ rfl (b2 + 1) rfl (gangC (g.p 1) (g.q 1) (g.s 1) (g.t 1) (g.u 1)) 25 (fun _ hS => hS.2) _ Tryd.underlying25 rfl (by kernel_rfl)) (by assumption) ?_
  try simp only [List.getElem_toArray, List.getElem_cons_zero, List.getElem_cons_succ, Act.put, List.setIfInBounds_toArray, List.set_cons_zero, List.set_cons_succ]
  refine wpAnyH_take (i := 0) (oi := _) (v := ?_) rfl (by kernel_rfl) (by kernel_rfl) (by kernel_rfl) (fun _ _ _ h => h) (Or.inl ⟨by kernel_rfl, ?_⟩) (by assumption) ?_
  rotate_left
  · intro w hSw; (try dsimp only at hSw); go_simp; first | done | with_reducible rfl
  try simp only [List.getElem_toArray, List.getElem_cons_zero, List.getElem_cons_succ, Act.put, List.setIfInBounds_toArray, List.set_cons_zero, List.set_cons_succ]
  refine wpAnyH_ready (rs := [2]) (by kernel_rfl) (by simp) ?_
  refine AllReadyH.cons (o := _) rfl (fun K hK => ?_) AllReadyH.nil
  go_simp
  refine (HG0.out _).mono ?_
  rintro e w7 ⟨rfl, hb⟩
  replace Xb := Xb.below hb
  replace X2 := X2.below hb
  replace X3 := X3.below hb
  replace B := nxt B hb
  clear hb
  refine hK.out _ _ ⟨X2, X3⟩ (fun hHeld => ?_)
  clear hK K
  try simp only [List.getElem_toArray, List.getElem_cons_zero, List.getElem_cons_succ, Act.put, List.setIfInBounds_toArray, List.set_cons_zero, List.set_cons_succ]
  refine wpAnyH_ready (rs := [4]) (by kernel_rfl) (by simp) ?_
  refine AllReadyH.cons (o := _) rfl (fun K hK => ?_) AllReadyH.nil
  go_simp
  refine (HG1.out _).mono ?_
  rintro e w8 ⟨rfl, hb⟩
  replace Xb := Xb.below hb
  replace X2 := X2.below hb
  replace X3 := X3.below hb
  replace B := nxt B hb
  clear hb
  refine hK.out _ _ ⟨X2, X3⟩ (fun hHeld => ?_)
  clear hK K
  try simp only [List.getElem_toArray, List.getElem_cons_zero, List.getElem_cons_succ, Act.put, List.setIfInBounds_toArray, List.set_cons_zero, List.set_cons_succ]
  refine wpAnyH_ready (rs := [5]) (by kernel_rfl) (by simp) ?_
  refine AllReadyH.cons (o := _) rfl (fun K hK => ?_) AllReadyH.nil
  go_simp
  refine (HI.out _ gb Xb).mono ?_
  rintro e w9 ⟨hb, rfl⟩
  replace Xb := Xb.below hb
  replace X2 := X2.below hb
  replace X3 := X3.below hb
  replace B := nxt B hb
  clear hb
  refine hK.out _ _ ⟨X2, X3⟩ (fun hHeld => ?_)
  clear hK K
  try simp only [List.getElem_toArray, List.getElem_cons_zero, List.getElem_cons_succ, Act.put, List.setIfInBounds_toArray, List.set_cons_zero, List.set_cons_succ]
  refine wpAnyH_take (i := 6) (oi := _) (v := ?_) rfl (by kernel_rfl) (by kernel_rfl) (by kernel_rfl) (fun _ _ _ h => h) (Or.inl ⟨by kernel_rfl, ?_⟩) (by assumption) ?_
  rotate_left
  · intro w hSw; (try dsimp only at hSw); go_simp; first | done | with_reducible rfl
  try simp only [List.getElem_toArray, List.getElem_cons_zero, List.getElem_cons_succ, Act.put, List.setIfInBounds_toArray, List.set_cons_zero, List.set_cons_succ]
  refine wpAnyH_take (i := 7) (oi := _) (v := ?_) rfl (by kernel_rfl) (by kernel_rfl) (by kernel_rfl) (fun _ _ _ h => h) (Or.inl ⟨by kernel_rfl, ?_⟩) (by assumption) ?_
  rotate_left
  · intro w hSw; (try dsimp only at hSw); go_simp; first | done | with_reducible rfl
  try simp only [List.getElem_toArray, List.getElem_cons_zero, List.getElem_cons_succ, Act.put, List.setIfInBounds_toArray, List.set_cons_zero, List.set_cons_succ]
  refine wpAnyH_take (i := 8) (oi := _) (v := ?_) rfl (by kernel_rfl) (by kernel_rfl) (by kernel_rfl) (fun _ _ _ h => h) (Or.inl ⟨by kernel_rfl, ?_⟩) (by assumption) ?_
  rotate_left
  · intro w hSw; (try dsimp only at hSw); go_simp; first | done | with_reducible rfl
  try simp only [List.getElem_toArray, List.getElem_cons_zero, List.getElem_cons_succ, Act.put, List.setIfInBounds_toArray, List.set_cons_zero, List.set_cons_succ]
  refine wpAnyH_take (i := 9) (oi := _) (v := ?_) rfl (by kernel_rfl) (by kernel_rfl) (by kernel_rfl) (fun _ _ _ h => h) (Or.inl ⟨by kernel_rfl, ?_⟩) (by assumption) ?_
  rotate_left
  · intro w hSw; (try dsimp only at hSw); go_simp; first | done | with_reducible rfl
  try simp only [List.getElem_toArray, List.getElem_cons_zero, List.getElem_cons_succ, Act.put, List.setIfInBounds_toArray, List.set_cons_zero, List.set_cons_succ]
  refine wpAnyH_take (i := 10) (oi := _) (v := ?_) rfl (by kernel_rfl) (by kernel_rfl) (by kernel_rfl) (fun _ _ _ h => h) (Or.inl ⟨by kernel_rfl, ?_⟩) (by assumption) ?_
  rotate_left
  · intro w hSw; (try dsimp only at hSw); go_simp; first | done | with_reducible rfl
  try simp only [List.getElem_toArray, List.getElem_cons_zero, List.getElem_cons_succ, Act.put, List.setIfInBounds_toArray, List.set_cons_zero, List.set_cons_succ]
  refine wpAnyH_take (i := 11) (oi := _) (v := ?_) rfl (by kernel_rfl) (by kernel_rfl) (by kernel_rfl) (fun _ _ _ h => h) (Or.inl ⟨by kernel_rfl, ?_⟩) (by assumption) ?_
  rotate_left
  · intro w hSw; (try dsimp only at hSw); go_simp; first | done | with_reducible rfl
  try simp only [List.getElem_toArray, List.getElem_cons_zero, List.getElem_cons_succ, Act.put, List.setIfInBounds_toArray, List.set_cons_zero, List.set_cons_succ]
  refine wpAnyH_take (i := 12) (oi := _) (v := ?_) rfl (by kernel_rfl) (by kernel_rfl) (by kernel_rfl) (fun _ _ _ h => h) (Or.inl ⟨by kernel_rfl, ?_⟩) (by assumption) ?_
  rotate_left
  · intro w hSw; (try dsimp only at hSw); go_simp; first | done | with_reducible rfl
  try simp only [List.getElem_toArray, List.getElem_cons_zero, List.getElem_cons_succ, Act.put, List.setIfInBounds_toArray, List.set_cons_zero, List.set_cons_succ]
  refine wpAnyH_done (by kernel_rfl) ?_ _
  clear hHeld X2 X3
  go_wp2_with fail
  refine (HT.out _ B).mono ?_
  rintro e w10 ⟨gc, rfl, hg, hb, Xc⟩
  replace Xb := Xb.below hb
  replace B := nxt B hb
  clear hb hg
  go_wp2_with fail
  refine (eqRowS_any (some ⟨gb, 0, none⟩) (some ⟨gc, 0, none⟩) n n n n _ c d c d _ (by omega) (by omega) (Nat.le_refl _) Xb.rd Xc.rd ⟨rfl, fun _ _ => ⟨rfl, rfl⟩⟩).mono ?_
  rintro e w11 ⟨rfl, hb⟩
  replace B := nxt B hb
  clear hb
  go_wp2
  go_ret
  exact ⟨rfl, B⟩
theorem big (A : Option Addr) (n cap : Nat) (p q s t u p' q' s' t' u' : Int) (w : World) (hn : 1048576 < n) (hm : n ≤ 9223372036854775807) :
    Calls Tryd.prog 9 #[.slice A n cap, .agg #[.int .i8 p, .int .i8 q, .int .i8 s, .int .i8 t, .int .i16 u], .agg #[.int .i8 p', .int .i8 q', .int .i8 s', .int .i8 t', .int .i16 u']] w fun e w' => e = .returned (.bool true) ∧ Below w.heap.size w w' := by
  have HZ := Lib.hid (fun W => szRowS_big A n cap 1048576 W (by omega) (by omega) (by omega) hm)
  have B := al (al (Below.refl w.heap.size w) (.cells (gangC p q s t u) 25)) (.cells (gangC p' q' s' t' u') 25)
  clear hn hm
  go_enter Tryd.func9, Tryd.ntmps9
  go_wp2_with fail
  refine (HZ.out _).mono ?_
  rintro e w1 ⟨rfl, hw1⟩
  subst hw1
  go_wp2
  go_ret
  exact ⟨rfl, B⟩
theorem walk (A : Option Addr) (n cap : Nat) (c d : Nat → Int) (p q s t u p' q' s' t' u' : Int) (w : World) (hm : n ≤ 9223372036854775807) (hr : RdS w w.heap.size A n c d) (hc : ∀ j, -128 ≤ c j ∧ c j ≤ 127) (hd : ∀ j, -32768 ≤ d j ∧ d j ≤ 32767)
    (bp : -128 ≤ p ∧ p ≤ 127) (bq : -128 ≤ q ∧ q ≤ 127) (bs : -128 ≤ s ∧ s ≤ 127) (bt : -128 ≤ t ∧ t ≤ 127) (bu : -32768 ≤ u ∧ u ≤ 32767) (bp' : -128 ≤ p' ∧ p' ≤ 127) (bq' : -128 ≤ q' ∧ q' ≤ 127) (bs' : -128 ≤ s' ∧ s' ≤ 127) (bt' : -128 ≤ t' ∧ t' ≤ 127) (bu' : -32768 ≤ u' ∧ u' ≤ 32767) (hE : ErrT w) :
    Calls Tryd.prog 9 #[.slice A n cap, .agg #[.int .i8 p, .int .i8 q, .int .i8 s, .int .i8 t, .int .i16 u], .agg #[.int .i8 p', .int .i8 q', .int .i8 s', .int .i8 t', .int .i16 u']] w fun e w' => e = .returned (.bool true) ∧ Below w.heap.size w w' := by
  by_cases hn : 1048576 < n
  · exact big A n cap p q s t u p' q' s' t' u' w hn hm
  obtain ⟨g, ⟨rfl, rfl, rfl, rfl, rfl⟩, ⟨rfl, rfl, rfl, rfl, rfl⟩, hg⟩ := gangs2_ex p q s t u p' q' s' t' u'
  have hbd : g.bd := fun j => by
    obtain ⟨h1, h2, h3, h4, h5⟩ := hg j
    refine ⟨?_, ?_, ?_, ?_, ?_⟩
    · rcases h1 with h | h <;> rw [h] <;> assumption
    · rcases h2 with h | h <;> rw [h] <;> assumption
    · rcases h3 with h | h <;> rw [h] <;> assumption
    · rcases h4 with h | h <;> rw [h] <;> assumption
    · rcases h5 with h | h <;> rw [h] <;> assumption
  obtain ⟨z, v, r, hS, hI⟩ := both n c d g (by omega) hc hd hbd
  exact law A n cap c d g z v r w (by omega) hr hS hI
end Go.Proofs.YtfpoikeibjojgaaDoor.meetAt
