/-
  The text of a number on the model's side: the contract of spec.Decimal. Conditions stand at each.
-/
import Derived.Test.YtneijlogidhgiaaDoorRows
import Derived.Test.YtneijlogidhgiaaDoorNums
import Derived.Test.YtneijlogidhgiaaDoorIn
import Derived.Lib.ItoaNum
import Derived.Laws.IdiomStrings
namespace Go.Proofs.YtneijlogidhgiaaDoor
open Go Go.ChangeShapes Go.WideShapes Go.ChangeAt Go.RowKit
set_option linter.unusedVariables false
set_option linter.unusedSimpArgs false
set_option maxRecDepth 100000
set_option maxHeartbeats 4000000
/-- a list of bytes as a string; a digit. -/
def bS (l : List UInt8) : ByteArray := ⟨l.toArray⟩
def dgt (n : Nat) : UInt8 := UInt8.ofNat (48 + n)
theorem dgt_nat {n : Nat} (h : n < 10) : (dgt n).toNat = 48 + n := by
  unfold dgt
  rw [UInt8.toNat_ofNat']
  omega
theorem conv_one (w : World) (b c : Nat) (n : Nat) (hn : n < 10) (hc : w.cell? ⟨b, 0, none⟩ = some (.int .u8 (48 + (n : Int)))) :
    (convert 66 9 (.slice (some ⟨b, 0, none⟩) 1 c)).run Tryd.prog w = .ok (.string (bS [dgt n])) w :=
  run_convert_bytes_back w 66 9 5 ⟨b, 0, none⟩ c [dgt n] Tryd.underlying66 Tryd.underlying5 Tryd.underlying9 (fun j hj => by
    obtain rfl : j = 0 := by simpa using hj
    show w.cell? ⟨b, 0, none⟩ = some (Value.int .u8 ((dgt n).toNat : Int))
    rw [hc, dgt_nat hn, Int.natCast_add]
    rfl)
theorem dec_small {n : Nat} (h : n < 10) : Lib.decDigits n = [dgt n] := by rw [Lib.decDigits, dif_pos h]; rfl
theorem dec_great {n : Nat} (h : ¬ n < 10) : Lib.decDigits n = Lib.decDigits (n / 10) ++ [dgt (n % 10)] := by rw [Lib.decDigits, dif_neg h]; rfl
theorem bS_append (a b : List UInt8) : bS a ++ bS b = bS (a ++ b) := by
  apply ByteArray.ext
  simp [bS]
theorem bS_size (l : List UInt8) : (bS l).size = l.length := rfl
theorem dec_len (n : Nat) : (Lib.decDigits n).length ≤ n + 1 := by
  induction n using Nat.strongRecOn with
  | ind n ih =>
    by_cases hn : n < 10
    · rw [dec_small hn]; simp
    · rw [dec_great hn, List.length_append]
      have := ih (n / 10) (by omega)
      simp
      omega
theorem decimal_small (n : Nat) (w : World) (hn : n < 10) :
    Calls Tryd.prog 37 #[.int .i64 (n : Int)] w fun e w' => e = .returned (.string (bS (Lib.decDigits n))) ∧ Below w.heap.size w w' := by
  rw [dec_small hn]
  have h1 : (n : Int) < 10 := by omega
  have h2 : (n : Int).tmod 10 = n := by rw [Int.tmod_eq_emod_of_nonneg (by omega)]; omega
  have h3 : IntKind.i64.wrap (48 + (n : Int)) = ((48 + n : Nat) : Int) := by rw [IntWalk.i64_in _ (by omega)]; omega
  have B := al (Below.refl w.heap.size w) (.cells #[.int .u8 (48 + (n : Int))] 5)
  have hc := conv_one (w.alloc (.cells #[.int .u8 (48 + (n : Int))] 5)) w.heap.size 1 n hn (by simp)
  go_enter Tryd.func37, Tryd.ntmps37
  go_wp2
  go_ret
  exact ⟨rfl, B⟩
theorem decimal_any : ∀ (n : Nat) (w : World), n ≤ 1000000 → Calls Tryd.prog 37 #[.int .i64 (n : Int)] w fun e w' => e = .returned (.string (bS (Lib.decDigits n))) ∧ Below w.heap.size w w' := by
  intro n
  induction n using Nat.strongRecOn with
  | ind n ih =>
    intro w hm
    by_cases hn : n < 10
    · exact decimal_small n w hn
    rw [dec_great hn]
    have HI := Lib.hid (fun W => ih (n / 10) (by omega) W (by omega))
    have h1 : ¬ ((n : Int) < 10) := by omega
    have h2 : (n : Int).tmod 10 = ((n % 10 : Nat) : Int) := by rw [Int.tmod_eq_emod_of_nonneg (by omega)]; omega
    have h3 : (n : Int).tdiv 10 = ((n / 10 : Nat) : Int) := by rw [Int.tdiv_eq_ediv_of_nonneg (by omega)]; omega
    obtain ⟨q, hq⟩ : ∃ q, q = n / 10 := ⟨_, rfl⟩
    obtain ⟨r, hr⟩ : ∃ r, r = n % 10 := ⟨_, rfl⟩
    have hr10 : r < 10 := by omega
    have hq6 : q ≤ 1000000 := by omega
    rw [← hq] at HI h3 ⊢
    rw [← hr] at h2 ⊢
    have h4 : IntKind.i64.wrap (r : Int) = (r : Int) := IntWalk.i64_in _ (by omega)
    have h5 : IntKind.i64.wrap (q : Int) = (q : Int) := IntWalk.i64_in _ (by omega)
    have h6 : IntKind.i64.wrap (48 + (r : Int)) = 48 + (r : Int) := IntWalk.i64_in _ (by omega)
    have h7 : IntKind.u8.wrap (48 + (r : Int)) = 48 + (r : Int) := by rw [IntKind.wrap]; simp [IntKind.bits, IntKind.signed]; omega
    have hsz : ¬ (9223372036854775807 < (bS (Lib.decDigits q)).size + (bS [dgt r]).size) := by
      have := dec_len q
      rw [bS_size, bS_size, List.length_singleton]
      omega
    have HB := Lib.hid (bS_append (Lib.decDigits q) [dgt r])
    clear hq hr ih
    go_enter Tryd.func37, Tryd.ntmps37
    go_wp2
    refine wp_region_held_drew (S := (fun w' : World => Below w.drew.heap.size w.drew w')) (by kernel_rfl) (Below.refl w.drew.heap.size w.drew) (fun hHeld => ?_)
    have B : Below w.heap.size w w.drew := (Below.refl w.heap.size w).drew
    obtain ⟨wq, hwq⟩ : ∃ wq, w.drew = wq := ⟨_, rfl⟩
    rw [hwq] at B hHeld ⊢
    clear hwq
    have S : Below wq.heap.size wq wq := Below.refl _ _
    refine wpAnyH_take (i := 0) (oi := _) (v := ?_) rfl (by kernel_rfl) (by kernel_rfl) (by kernel_rfl) (fun _ _ _ h => h) (Or.inl ⟨by kernel_rfl, ?_⟩) (by assumption) ?_
    rotate_left
    · intro w hSw; (try dsimp only at hSw); go_simp; first | done | with_reducible rfl
    try simp only [List.getElem_toArray, List.getElem_cons_zero, List.getElem_cons_succ, Act.put, List.setIfInBounds_toArray, List.set_cons_zero, List.set_cons_succ]
    refine wpAnyH_take (i := 1) (oi := _) (v := ?_) rfl (by kernel_rfl) (by kernel_rfl) (by kernel_rfl) (fun _ _ _ h => h) (Or.inl ⟨by kernel_rfl, ?_⟩) (by assumption) ?_
    rotate_left
    · intro w hSw; (try dsimp only at hSw); go_simp; first | done | with_reducible rfl
    try simp only [List.getElem_toArray, List.getElem_cons_zero, List.getElem_cons_succ, Act.put, List.setIfInBounds_toArray, List.set_cons_zero, List.set_cons_succ]
    refine wpAnyH_take (i := 3) (oi := _) (v := ?_) rfl (by kernel_rfl) (by kernel_rfl) (by kernel_rfl) (fun _ _ _ h => h) (Or.inl ⟨by kernel_rfl, ?_⟩) (by assumption) ?_
    rotate_left
    · intro w hSw; (try dsimp only at hSw); go_simp; first | done | with_reducible rfl
    try simp only [List.getElem_toArray, List.getElem_cons_zero, List.getElem_cons_succ, Act.put, List.setIfInBounds_toArray, List.set_cons_zero, List.set_cons_succ]
    refine wpAnyH_take (i := 4) (oi := _) (v := ?_) rfl (by kernel_rfl) (by kernel_rfl) (by kernel_rfl) (fun _ _ _ h => h) (Or.inl ⟨by kernel_rfl, ?_⟩) (by assumption) ?_
    rotate_left
    · intro w hSw; (try dsimp only at hSw); go_simp; first | done | with_reducible rfl
    try simp only [List.getElem_toArray, List.getElem_cons_zero, List.getElem_cons_succ, Act.put, List.setIfInBounds_toArray, List.set_cons_zero, List.set_cons_succ]
    refine wpAnyH_take (i := 5) (oi := _) (v := ?_) rfl (by kernel_rfl) (by kernel_rfl) (by kernel_rfl) (fun _ _ _ h => h) (Or.inl ⟨by kernel_rfl, ?_⟩) (by assumption) ?_
    rotate_left
    · intro w hSw; (try dsimp only at hSw); go_simp; first | done | with_reducible rfl
    try simp only [List.getElem_toArray, List.getElem_cons_zero, List.getElem_cons_succ, Act.put, List.setIfInBounds_toArray, List.set_cons_zero, List.set_cons_succ]
    refine wpAnyH_take (i := 6) (oi := _) (v := ?_) rfl (by kernel_rfl) (by kernel_rfl) (by kernel_rfl) (fun _ _ _ h => h) (Or.inl ⟨by kernel_rfl, ?_⟩) (by assumption) ?_
    rotate_left
    · intro w hSw; (try dsimp only at hSw); go_simp; first | done | with_reducible rfl
    try simp only [List.getElem_toArray, List.getElem_cons_zero, List.getElem_cons_succ, Act.put, List.setIfInBounds_toArray, List.set_cons_zero, List.set_cons_succ]
    refine wpAnyH_ready (rs := [2, 7]) (by kernel_rfl) (by simp) ?_
    refine AllReadyH.cons (o := _) rfl (fun K hK => ?_) (AllReadyH.cons (o := _) rfl (fun K hK => ?_) AllReadyH.nil)
    · skip
      go_simp
      refine (HI.out _).mono ?_
      rintro e w3 ⟨rfl, hb⟩
      replace B := nxt B hb
      replace S := nxt S hb
      clear hb
      refine hK.out _ _ S (fun hHeld => ?_)
      clear hK K
      try simp only [List.getElem_toArray, List.getElem_cons_zero, List.getElem_cons_succ, Act.put, List.setIfInBounds_toArray, List.set_cons_zero, List.set_cons_succ]
      refine wpAnyH_ready (rs := [7]) (by kernel_rfl) (by simp) ?_
      refine AllReadyH.cons (o := _) rfl (fun K hK => ?_) AllReadyH.nil
      go_simp
      have hc : (w3.alloc (.cells #[.int .u8 (48 + (r : Int))] 5)).cell? ⟨w3.heap.size, 0, none⟩ = some (.int .u8 (48 + (r : Int))) := by simp
      have hbl : w3.heap.size < (w3.alloc (.cells #[.int .u8 (48 + (r : Int))] 5)).heap.size := by simp
      replace B := al B (.cells #[.int .u8 (48 + (r : Int))] 5)
      replace S : Below wq.heap.size wq (w3.alloc (.cells #[.int .u8 (48 + (r : Int))] 5)) := al S (.cells #[.int .u8 (48 + (r : Int))] 5)
      obtain ⟨w4, hw2⟩ : ∃ w4, w4 = w3.alloc (.cells #[.int .u8 (48 + (r : Int))] 5) := ⟨_, rfl⟩
      rw [← hw2] at hc hbl B S ⊢
      clear hw2
      obtain ⟨bb, hbb⟩ : ∃ bb, bb = w3.heap.size := ⟨_, rfl⟩
      rw [← hbb] at hc hbl ⊢
      clear hbb
      refine hK.out _ _ S (fun hHeld => ?_)
      clear hK K
      try simp only [List.getElem_toArray, List.getElem_cons_zero, List.getElem_cons_succ, Act.put, List.setIfInBounds_toArray, List.set_cons_zero, List.set_cons_succ]
      refine wpAnyH_ready (rs := [8]) (by kernel_rfl) (by simp) ?_
      refine AllReadyH.cons (o := _) rfl (fun K hK => ?_) AllReadyH.nil
      have hcv := conv_one w4 bb 1 r hr10 hc
      go_simp
      refine hK.out _ _ S (fun hHeld => ?_)
      clear hK K
      try simp only [List.getElem_toArray, List.getElem_cons_zero, List.getElem_cons_succ, Act.put, List.setIfInBounds_toArray, List.set_cons_zero, List.set_cons_succ]
      clear hcv
      refine wpAnyH_take (i := 9) (oi := _) (v := ?_) rfl (by kernel_rfl) (by kernel_rfl) (by kernel_rfl) (fun _ _ _ h => h) (Or.inl ⟨by kernel_rfl, ?_⟩) (by assumption) ?_
      rotate_left
      · intro w hSw; (try dsimp only at hSw); go_simp; first | done | with_reducible rfl
      try simp only [List.getElem_toArray, List.getElem_cons_zero, List.getElem_cons_succ, Act.put, List.setIfInBounds_toArray, List.set_cons_zero, List.set_cons_succ]
      refine wpAnyH_take (i := 10) (oi := _) (v := ?_) rfl (by kernel_rfl) (by kernel_rfl) (by kernel_rfl) (fun _ _ _ h => h) (Or.inl ⟨by kernel_rfl, ?_⟩) (by assumption) ?_
      rotate_left
      · intro w hSw; (try dsimp only at hSw); go_simp; first | done | with_reducible rfl
      try simp only [List.getElem_toArray, List.getElem_cons_zero, List.getElem_cons_succ, Act.put, List.setIfInBounds_toArray, List.set_cons_zero, List.set_cons_succ]
      refine wpAnyH_done (by kernel_rfl) ?_ _
      go_wp2
      refine bodyPost_ret (v := .string (bS (Lib.decDigits q) ++ bS [dgt r])) (by simp [results, Tryd.results37, go_sem]) rfl ⟨by rw [HB.out], B⟩
    · skip
      go_simp
      have hc : (wq.alloc (.cells #[.int .u8 (48 + (r : Int))] 5)).cell? ⟨wq.heap.size, 0, none⟩ = some (.int .u8 (48 + (r : Int))) := by simp
      have hbl : wq.heap.size < (wq.alloc (.cells #[.int .u8 (48 + (r : Int))] 5)).heap.size := by simp
      replace B := al B (.cells #[.int .u8 (48 + (r : Int))] 5)
      replace S : Below wq.heap.size wq (wq.alloc (.cells #[.int .u8 (48 + (r : Int))] 5)) := al S (.cells #[.int .u8 (48 + (r : Int))] 5)
      obtain ⟨w3, hw2⟩ : ∃ w3, w3 = wq.alloc (.cells #[.int .u8 (48 + (r : Int))] 5) := ⟨_, rfl⟩
      rw [← hw2] at hc hbl B S ⊢
      clear hw2
      obtain ⟨bb, hbb⟩ : ∃ bb, bb = wq.heap.size := ⟨_, rfl⟩
      rw [← hbb] at hc hbl ⊢
      clear hbb
      refine hK.out _ _ S (fun hHeld => ?_)
      clear hK K
      try simp only [List.getElem_toArray, List.getElem_cons_zero, List.getElem_cons_succ, Act.put, List.setIfInBounds_toArray, List.set_cons_zero, List.set_cons_succ]
      refine wpAnyH_ready (rs := [2, 8]) (by kernel_rfl) (by simp) ?_
      refine AllReadyH.cons (o := _) rfl (fun K hK => ?_) (AllReadyH.cons (o := _) rfl (fun K hK => ?_) AllReadyH.nil)
      · skip
        go_simp
        refine (HI.out _).mono ?_
        rintro e w4 ⟨rfl, hb⟩
        replace B := nxt B hb
        replace hc : w4.cell? ⟨bb, 0, none⟩ = _ := (hb.cell (p := ⟨bb, 0, none⟩) hbl).trans hc
        replace hbl := Nat.lt_of_lt_of_le hbl hb.size
        replace S := nxt S hb
        clear hb
        refine hK.out _ _ S (fun hHeld => ?_)
        clear hK K
        try simp only [List.getElem_toArray, List.getElem_cons_zero, List.getElem_cons_succ, Act.put, List.setIfInBounds_toArray, List.set_cons_zero, List.set_cons_succ]
        refine wpAnyH_ready (rs := [8]) (by kernel_rfl) (by simp) ?_
        refine AllReadyH.cons (o := _) rfl (fun K hK => ?_) AllReadyH.nil
        have hcv := conv_one w4 bb 1 r hr10 hc
        go_simp
        refine hK.out _ _ S (fun hHeld => ?_)
        clear hK K
        try simp only [List.getElem_toArray, List.getElem_cons_zero, List.getElem_cons_succ, Act.put, List.setIfInBounds_toArray, List.set_cons_zero, List.set_cons_succ]
        clear hcv
        refine wpAnyH_take (i := 9) (oi := _) (v := ?_) rfl (by kernel_rfl) (by kernel_rfl) (by kernel_rfl) (fun _ _ _ h => h) (Or.inl ⟨by kernel_rfl, ?_⟩) (by assumption) ?_
        rotate_left
        · intro w hSw; (try dsimp only at hSw); go_simp; first | done | with_reducible rfl
        try simp only [List.getElem_toArray, List.getElem_cons_zero, List.getElem_cons_succ, Act.put, List.setIfInBounds_toArray, List.set_cons_zero, List.set_cons_succ]
        refine wpAnyH_take (i := 10) (oi := _) (v := ?_) rfl (by kernel_rfl) (by kernel_rfl) (by kernel_rfl) (fun _ _ _ h => h) (Or.inl ⟨by kernel_rfl, ?_⟩) (by assumption) ?_
        rotate_left
        · intro w hSw; (try dsimp only at hSw); go_simp; first | done | with_reducible rfl
        try simp only [List.getElem_toArray, List.getElem_cons_zero, List.getElem_cons_succ, Act.put, List.setIfInBounds_toArray, List.set_cons_zero, List.set_cons_succ]
        refine wpAnyH_done (by kernel_rfl) ?_ _
        go_wp2
        refine bodyPost_ret (v := .string (bS (Lib.decDigits q) ++ bS [dgt r])) (by simp [results, Tryd.results37, go_sem]) rfl ⟨by rw [HB.out], B⟩
      · skip
        have hcv := conv_one w3 bb 1 r hr10 hc
        go_simp
        refine hK.out _ _ S (fun hHeld => ?_)
        clear hK K
        try simp only [List.getElem_toArray, List.getElem_cons_zero, List.getElem_cons_succ, Act.put, List.setIfInBounds_toArray, List.set_cons_zero, List.set_cons_succ]
        clear hcv
        refine wpAnyH_ready (rs := [2]) (by kernel_rfl) (by simp) ?_
        refine AllReadyH.cons (o := _) rfl (fun K hK => ?_) AllReadyH.nil
        go_simp
        refine (HI.out _).mono ?_
        rintro e w4 ⟨rfl, hb⟩
        replace B := nxt B hb
        replace hc : w4.cell? ⟨bb, 0, none⟩ = _ := (hb.cell (p := ⟨bb, 0, none⟩) hbl).trans hc
        replace hbl := Nat.lt_of_lt_of_le hbl hb.size
        replace S := nxt S hb
        clear hb
        refine hK.out _ _ S (fun hHeld => ?_)
        clear hK K
        try simp only [List.getElem_toArray, List.getElem_cons_zero, List.getElem_cons_succ, Act.put, List.setIfInBounds_toArray, List.set_cons_zero, List.set_cons_succ]
        refine wpAnyH_take (i := 9) (oi := _) (v := ?_) rfl (by kernel_rfl) (by kernel_rfl) (by kernel_rfl) (fun _ _ _ h => h) (Or.inl ⟨by kernel_rfl, ?_⟩) (by assumption) ?_
        rotate_left
        · intro w hSw; (try dsimp only at hSw); go_simp; first | done | with_reducible rfl
        try simp only [List.getElem_toArray, List.getElem_cons_zero, List.getElem_cons_succ, Act.put, List.setIfInBounds_toArray, List.set_cons_zero, List.set_cons_succ]
        refine wpAnyH_take (i := 10) (oi := _) (v := ?_) rfl (by kernel_rfl) (by kernel_rfl) (by kernel_rfl) (fun _ _ _ h => h) (Or.inl ⟨by kernel_rfl, ?_⟩) (by assumption) ?_
        rotate_left
        · intro w hSw; (try dsimp only at hSw); go_simp; first | done | with_reducible rfl
        try simp only [List.getElem_toArray, List.getElem_cons_zero, List.getElem_cons_succ, Act.put, List.setIfInBounds_toArray, List.set_cons_zero, List.set_cons_succ]
        refine wpAnyH_done (by kernel_rfl) ?_ _
        go_wp2
        refine bodyPost_ret (v := .string (bS (Lib.decDigits q) ++ bS [dgt r])) (by simp [results, Tryd.results37, go_sem]) rfl ⟨by rw [HB.out], B⟩
end Go.Proofs.YtneijlogidhgiaaDoor
