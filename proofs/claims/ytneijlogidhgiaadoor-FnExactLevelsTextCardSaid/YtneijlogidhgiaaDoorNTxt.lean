/-
  Texts of lists of numbers: OrderText on both sides. Conditions stand at each; the program's side asks that the library's table of powers of ten is as its text lays it.
-/
import Derived.Test.YtneijlogidhgiaaDoorRows
import Derived.Test.YtneijlogidhgiaaDoorTxtB
import Derived.Test.YtneijlogidhgiaaDoorNums
import Derived.Test.YtneijlogidhgiaaDoorIn
namespace Go.Proofs.YtneijlogidhgiaaDoor
open Go Go.ChangeShapes Go.WideShapes Go.ChangeAt Go.RowKit
set_option linter.unusedVariables false
set_option linter.unusedSimpArgs false
set_option maxRecDepth 100000
set_option maxHeartbeats 4000000
theorem formatInt_any (z : Int) (w : World) (hz : -1000000 ≤ z ∧ z ≤ 1000000) (hT : TabP w) : Calls Tryd.prog 29 #[.int .i64 z, .int .i64 10] w fun e w' => e = .returned (.string (bS (Lib.itoa z))) ∧ Below w.heap.size w w' :=
  (tx_strconv_FormatInt_10 z (by omega) (by omega) w hT).mono fun e w' ⟨he, k, os, hw⟩ => by
    subst hw
    exact ⟨he, Lib.below_grow _ _ (Nat.le_refl _) _ _⟩
theorem itoa_len (z : Int) : (Lib.itoa z).length ≤ z.natAbs + 2 := by
  unfold Lib.itoa
  split
  · have := dec_len z.natAbs
    simp only [List.length_cons]
    omega
  · have := dec_len z.toNat
    omega
theorem itoa_pos {n : Nat} : Lib.itoa (n : Int) = Lib.decDigits n := by unfold Lib.itoa; rw [if_neg (by omega), Int.toNat_natCast]
/-- the text of the first numbers. -/
def nL (d : Nat → Int) : Nat → List UInt8
  | 0 => []
  | k + 1 => (nL d k ++ if k = 0 then [] else [32]) ++ Lib.itoa (d k)
theorem nL_len {d : Nat → Int} {n : Nat} (h : ∀ j, j < n → -1000 ≤ d j ∧ d j ≤ 1000) : ∀ k, k ≤ n → (nL d k).length ≤ 2000 * k
  | 0, _ => by simp [nL]
  | k + 1, hk => by
    have h1 := nL_len h k (by omega)
    have h2 := itoa_len (d k)
    have h3 := h k (by omega)
    simp only [nL, List.length_append]
    have : (if k = 0 then ([] : List UInt8) else [32]).length ≤ 1 := by split <;> simp
    omega
theorem join_nL (d : Nat → Int) : ∀ n, Lib.join ((List.range n).map fun j => Lib.itoa (d j)) [32] = nL d n
  | 0 => rfl
  | 1 => by
    show Lib.join [Lib.itoa (d 0)] [32] = _
    rw [Lib.join_one]
    simp [nL]
  | n + 2 => by
    rw [List.range_succ, List.map_append, List.range_succ_eq_map, List.map_cons, List.map_cons, List.map_nil, join_snoc]
    have h := join_nL d (n + 1)
    rw [List.range_succ_eq_map, List.map_cons] at h
    rw [h]
    simp [nL]
/-- the words of the first numbers. -/
def nC (d : Nat → Int) (k : Nat) : List Value := (List.range k).map fun j => .string (bS (Lib.itoa (d j)))
theorem nC_succ (d : Nat → Int) (k : Nat) : nC d (k + 1) = nC d k ++ [.string (bS (Lib.itoa (d k)))] := by simp [nC, List.range_succ]
def OwnN (w : World) (base : Nat) (v : Value) (d : Nat → Int) (k : Nat) : Prop := w.ownsRow base 9 1 v k (nC d k)
theorem OwnN.below {w w' : World} {base k : Nat} {v : Value} {d : Nat → Int} (h : OwnN w base v d k) (hb : Below w.heap.size w w') : OwnN w' base v d k := by
  refine ⟨h.1, h.2.imp id ?_⟩
  rintro ⟨g, cap, cur, rfl, hg, hw, r⟩
  exact ⟨g, cap, cur, rfl, hg, (hb.block g (Array.getElem?_eq_some_iff.1 hw).1).trans hw, r⟩
/-- the words joined. -/
theorem join_words (k : Nat) (d : Nat → Int) (base : Nat) (Aw : Option Addr) (capw : Nat) (W : World) (hk : k ≤ 1048576) (hd : ∀ j, j < k → -1000 ≤ d j ∧ d j ≤ 1000) (O : OwnN W base (.slice Aw k capw) d k) :
    Calls Tryd.prog 25 #[.slice Aw k capw, .string ⟨#[32]⟩] W fun e w' => e = .returned (.string (bS (nL d k))) ∧ Below W.heap.size W w' := by
  by_cases h0 : k = 0
  · subst h0
    exact (tx_strings_Join_none Aw capw ⟨#[32]⟩ W).mono fun e w' ⟨he, hw⟩ => ⟨he, by rw [hw]; exact Below.refl _ _⟩
  · have O' := O
    rcases O'.2 with ⟨h1, h2⟩ | ⟨gb, cap', cur, h1, h2, h3, h4, h5, h6, h7⟩
    · exact absurd h2 h0
    · injection h1 with h1 h8 h9
      subst h1 h9
      have hxl : ((List.range k).map fun j => bS (Lib.itoa (d j))).length = k := by simp
      have hjl : ((List.range k).map fun j => bS (Lib.itoa (d j))).map (fun x => x.data.toList) = (List.range k).map fun j => Lib.itoa (d j) := by
        rw [List.map_map]
        exact List.map_congr_left fun j _ => by simp [bS]
      have HJ := tx_strings_Join gb 0 capw ((List.range k).map fun j => bS (Lib.itoa (d j))) ⟨#[32]⟩ W (fun j x hx => by
          have hjk : j < k := by have := (List.getElem?_eq_some_iff.1 hx).1; simpa using this
          have hcell := World.ownsRow.cellAt O j (by omega)
          rw [Nat.zero_add, hcell]
          simp [nC, hjk] at hx ⊢
          rw [← hx])
        (Array.getElem?_eq_some_iff.1 h3).1 (by rw [hxl]; omega) (by rw [hxl]; exact h4)
        (by
          rw [hjl]
          show (Lib.join ((List.range k).map fun j => Lib.itoa (d j)) [32]).length ≤ _
          rw [join_nL]
          have := nL_len hd k (Nat.le_refl _)
          omega)
      rw [hxl, hjl] at HJ
      exact HJ.mono fun e w' ⟨he, hb⟩ => ⟨by rw [he]; show Ending.returned (Value.string (bS (Lib.join ((List.range k).map fun j => Lib.itoa (d j)) [32]))) = _; rw [join_nL], hb⟩
theorem all_stepN {P : Nat → Prop} {k : Nat} (h : ∀ j, j < k → P j) (h1 : P k) : ∀ j, j < k + 1 → P j := fun j hj => by
  by_cases e : j = k
  · rw [e]; exact h1
  · exact h j (by omega)
theorem RdK.atn {kd : IntKind} {w : World} {B n k : Nat} {A : Option Addr} {c : Nat → Int} (h : RdK kd w B A n c) (hk : k < n) : ∃ b off, A = some ⟨b, off, none⟩ ∧ b < B ∧ w.cell? ⟨b, off + k, none⟩ = some (.int kd (c k)) := by
  obtain ⟨b, off, e, hl, hc⟩ := h (by omega)
  exact ⟨b, off, e, hl, hc k hk⟩
end Go.Proofs.YtneijlogidhgiaaDoor
