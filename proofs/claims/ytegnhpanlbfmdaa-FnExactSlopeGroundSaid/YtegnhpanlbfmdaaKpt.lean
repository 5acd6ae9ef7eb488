/-
  A range over the iterator of cells, with one word for what a round may turn: Kpt. Conditions stand at each.
-/
import Derived.Test.YtegnhpanlbfmdaaRows
import Derived.Test.YtegnhpanlbfmdaaIterP
import Derived.Test.YtegnhpanlbfmdaaRet
namespace Go.Proofs.Ytegnhpanlbfmdaa
open Go Go.ChangeShapes Go.WideShapes Go.ChangeAt Go.RowKit Go.Shelf
set_option linter.unusedVariables false
set_option linter.unusedSimpArgs false
set_option maxRecDepth 100000
set_option maxHeartbeats 2000000

/-- from W to V: what is not in M lies as it lay, and whatever is no cells and lies at or beyond B. -/
structure Kpt (B : Nat) (M : Nat → Prop) (W V : World) : Prop where
  os : V.os = W.os
  tape : V.tape = W.tape
  output : V.output = W.output
  size : W.heap.size ≤ V.heap.size
  same : ∀ (k : Nat) (o : Obj), W.heap[k]? = some o → (¬ M k ∨ (B ≤ k ∧ o.isCells = false)) → V.heap[k]? = some o
section
variable {B : Nat} {M : Nat → Prop} {W V U : World} {b : Nat} {cs : Array Value} {t : TypeId}
theorem Kpt.refl (B : Nat) (M : Nat → Prop) (W : World) : Kpt B M W W := ⟨rfl, rfl, rfl, Nat.le_refl _, fun _ _ h _ => h⟩
theorem Kpt.trans (h : Kpt B M W V) (k : Kpt B M V U) : Kpt B M W U :=
  ⟨k.os.trans h.os, k.tape.trans h.tape, k.output.trans h.output, Nat.le_trans h.size k.size, fun i o hi ho => k.same i o (h.same i o hi ho) ho⟩
theorem Kpt.of_below (B : Nat) (M : Nat → Prop) (h : Below W.heap.size W V) : Kpt B M W V :=
  ⟨h.os, h.tape, h.output, h.size, fun k o hk _ => (h.block k (Array.getElem?_eq_some_iff.1 hk).1).trans hk⟩
theorem Kpt.below (h : Kpt B M W V) (k : Below V.heap.size V U) : Kpt B M W U := h.trans (Kpt.of_below B M k)
theorem Kpt.alloc (h : Kpt B M W V) (o : Obj) : Kpt B M W (V.alloc o) := h.below (al (Below.refl _ _) o)
theorem Kpt.drew (h : Kpt B M W V) : Kpt B M W V.drew := ⟨h.os, h.tape, h.output, h.size, h.same⟩
theorem Kpt.of_setCell (B : Nat) {M : Nat → Prop} (W : World) (hb : M b) (i : Nat) (v : Value) : Kpt B M W (W.setCell ⟨b, i, none⟩ v) := by
  refine ⟨rfl, rfl, rfl, by simp, fun k o hk ho => ?_⟩
  by_cases e : k = b
  · subst e
    have hc : o.isCells = false := by rcases ho with h | h; exact absurd hb h; exact h.2
    exact (KeepsOthers.setCell W ⟨k, i, none⟩ v).same k o hk hc
  · exact (Below.heap_setCell W ⟨b, i, none⟩ v k e).trans hk
theorem Kpt.setCell (h : Kpt B M W V) (hb : M b) (i : Nat) (v : Value) : Kpt B M W (V.setCell ⟨b, i, none⟩ v) := h.trans (Kpt.of_setCell B V hb i v)
theorem Kpt.grown {row : Option Nat} (h : Kpt B M W V) (hg : V.grownBy U row) (hr : ∀ k, row = some k → M k ∧ (k < B ∨ ∃ cs t fr, V.heap[k]? = some (.cells cs t fr))) : Kpt B M W U := by
  refine h.trans ⟨hg.os, hg.tape, hg.output, hg.size, fun k o hk ho => ?_⟩
  refine (hg.block k (Array.getElem?_eq_some_iff.1 hk).1 (fun e => ?_)).trans hk
  obtain ⟨h1, h2⟩ := hr k e.symm
  rcases ho with h3 | ⟨h3, h4⟩
  · exact h3 h1
  · rcases h2 with h2 | ⟨cs, t, fr, h2⟩
    · omega
    · rw [hk] at h2; cases h2; cases h4
theorem Kpt.bx (h : Kpt B M W V) (hB : Bx W b cs t) (hb : ¬ M b) : Bx V b cs t := h.same b _ hB (Or.inl hb)
theorem Kpt.block (h : Kpt B M W V) (hl : b < W.heap.size) (hb : ¬ M b) : V.heap[b]? = W.heap[b]? := by
  have := h.same b _ (Array.getElem?_eq_getElem hl) (Or.inl hb)
  rw [this, Array.getElem?_eq_getElem hl]
theorem Kpt.keepsFrom (h : Kpt B M W V) : KeepsFrom B W V := ⟨h.size, fun k o hk hi ho => h.same k o hi (Or.inr ⟨hk, ho⟩)⟩
theorem Kpt.kpB (h : Kpt B M W V) (hl : b < W.heap.size) (hb : ¬ M b) : KpB b W V := ⟨h.size, h.block hl hb⟩
theorem Kpt.toBelow {k0 : Nat} (h : Kpt B M W V) (hM : ∀ k, M k → k0 ≤ k) (hk : k0 ≤ W.heap.size) : Below k0 W V :=
  ⟨h.os, h.tape, h.output, h.size, fun k hk0 => h.block (by omega) (fun hm => by have := hM k hm; omega)⟩
theorem Kpt.mono {M' : Nat → Prop} (h : Kpt B M W V) (hM : ∀ k, M k → M' k) : Kpt B M' W V :=
  ⟨h.os, h.tape, h.output, h.size, fun k o hk ho => h.same k o hk (ho.imp (fun hn hm => hn (hM k hm)) id)⟩
end
theorem ownFrom_kpt {β : Type} (B : Nat) (M : Nat → Prop) (W : World) (hB : W.heap.size ≤ B) : OwnFrom B (fun (_ : β) V => Kpt B M W V) := fun _ X Y row hs hg hr => by
  refine ⟨hg.os.trans hs.os, hg.tape.trans hs.tape, hg.output.trans hs.output, Nat.le_trans hs.size hg.size, fun k o hk ho => ?_⟩
  have hX := hs.same k o hk ho
  refine (hg.block k (Array.getElem?_eq_some_iff.1 hX).1 (fun e => ?_)).trans hX
  have h1 := (hr k e.symm).1
  have h2 := (Array.getElem?_eq_some_iff.1 hk).1
  omega
theorem ownFrom_bx {β : Type} (B : Nat) (b : β → Nat) (cs : β → Array Value) (t : TypeId) : OwnFrom B (fun (s : β) V => Bx V (b s) (cs s) t) := fun s X Y row hs hg hr => by
  have h : X.heap[b s]? = some (.cells (cs s) t (0, 0)) := hs
  exact (hg.block _ (Array.getElem?_eq_some_iff.1 h).1 (fun e => by obtain ⟨o, ho, hc⟩ := (hr _ e.symm).2; rw [h] at ho; cases ho; cases hc)).trans h

theorem Bx.put {V : World} {b D : Nat} {cs : Array Value} {t : TypeId} (h : Bx V b cs t) (hd : V.heap[D]? = some (.deferred (some []))) : Bx (V.putObj D (.deferred none)) b cs t :=
  ownFrom_bx 0 (fun _ : Unit => b) (fun _ => cs) t () V _ (some D) h (grownBy_putObj' _ D (.deferred none)) (fun r e => by cases e; exact ⟨Nat.zero_le _, _, hd, rfl⟩)
theorem deferred_set {V : World} {D : Nat} (hd : V.heap[D]? = some (.deferred (some []))) (a : Addr) (v : Value) : (V.setCell a v).heap[D]? = some (.deferred (some [])) :=
  (KeepsOthers.setCell V a v).same D _ hd rfl
theorem kpBt {b : Nat} {A B C : World} (h : KpB b A B) (k : KpB b B C) : KpB b A C := ⟨Nat.le_trans h.1 k.1, k.2.trans h.2⟩
theorem kpBput {b : Nat} {w : World} (hb : b < w.heap.size) (W : World) (l : Nat) (o o' : Obj) (hl : w.heap.size ≤ l) (h : W.heap[l]? = some o) (_ : o.isCells = false) (_ : o.isWalk = false) : KpB b W (W.putObj l o') := by
  have hg := grownBy_putObj' W l o'
  by_cases hbW : b < W.heap.size
  · exact ⟨hg.size, hg.block b hbW (fun e => by injection e; omega)⟩
  · have := (Array.getElem?_eq_some_iff.1 h).1
    omega

/-- how a round may be left. -/
def rndPost {α : Type} (B : Nat) (M : Nat → Prop) (J : List α → World → Prop) (Jx : Code → List α → World → Prop) (xs : List α) (W : World) : Exit → Act → World → Prop
  | .normal, _, V => Kpt B M W V ∧ J xs V
  | .ret, _, V => KeepsFrom B W V ∧ Jx .ret xs V
  | .exit id, _, V => KeepsFrom B W V ∧ Jx (.exit id) xs V
  | .goto _, _, _ => False
  | .panic _, _, _ => False
  | .outgrown, _, _ => False

/-- **a range over all cells of wd by ht.** -/
theorem range_cells {n : Nat} {g : Operand} {ps : Array Tmp} {assign body : Code} {Q : Exit → Act → World → Prop} {a : Act} {w : World} (h2 : 2 ≤ n) (bs wd ht : Nat) (hp : 0 < wd ∧ 0 < ht)
    (hg : a.eval g = .func (.func 220) #[] #[.pointer (some ⟨bs, 0, none⟩)]) (hps : ps.size = 1) (hx : wd ≤ 12) (hy : ht ≤ 12) (hS : Sl w bs 0 0 wd ht)
    (M : Nat → Prop) (hM : ¬ M bs) (J : List (PX wd ht) → World → Prop) (Jx : Code → List (PX wd ht) → World → Prop) (hJ : OwnFrom w.heap.size J) (hJx : ∀ c, OwnFrom w.heap.size (Jx c)) (h0 : J [] w) (p q : Nat)
    (hassign : ∀ (l : Nat) (x : PX wd ht) (W : World) (K : Act → World → Prop), K { tmps := (a.tmps.setIfInBounds q (.agg #[.int .i8 (x.1.1 : Int), .int .i8 (x.1.2 : Int)])).setIfInBounds p (.pointer (some ⟨W.heap.size, 0, none⟩)), defers := [] } (W.alloc (.cells #[.int .i8 (x.1.1 : Int), .int .i8 (x.1.2 : Int)] 40)) →
      assign.wpIn (Fence.wide.inRound l) (n - 1 - 1) Try.prog (Exit.then K (fun _ _ _ => False)) { tmps := (ps.zip (encP x)).foldl (fun t (p, v) => t.setIfInBounds p v) a.tmps, defers := [] } W)
    (hbody : ∀ (l : Nat) (pre : List (PX wd ht)) (x : PX wd ht) (b : Nat) (W : World), w.heap.size ≤ b → Bx W b #[.int .i8 (x.1.1 : Int), .int .i8 (x.1.2 : Int)] 40 → Kpt w.heap.size M w W → J pre W → pre.length < wd * ht →
      body.wpIn (Fence.wide.inRound l) (n - 1 - 1) Try.prog (rndPost w.heap.size M J Jx (pre ++ [x]) W) { tmps := (a.tmps.setIfInBounds q (.agg #[.int .i8 (x.1.1 : Int), .int .i8 (x.1.2 : Int)])).setIfInBounds p (.pointer (some ⟨b, 0, none⟩)), defers := [] } W)
    (hdone : ∀ (D : Nat) (W : World), w.heap.size ≤ D → Kpt w.heap.size M w W → J (uptoP hp (wd * ht)) W → W.heap[D]? = some (.deferred (some [])) → Q .normal { a with defers := { target := .collected D, args := #[] } :: a.defers } W)
    (hstop : ∀ (D : Nat) (c : Code) (k : Nat) (W : World), w.heap.size ≤ D → k ≤ wd * ht → Jx c (uptoP hp k) W → W.heap[D]? = some (.deferred (some [])) → c.wpIn Fence.wide n Try.prog Q { a with defers := { target := .collected D, args := #[] } :: a.defers } W) :
    (Code.rangeFunc g ps assign body).wpIn Fence.wide n Try.prog Q a w := by
  have hro : Fence.wide.round = none := rfl
  have hbs : bs < w.heap.size := hS.1
  have hstops := cellsP_stops Fence.wide (n - 1) trivial hro (by omega) bs wd ht hp hx hy w hS
  refine wpIn_rangeFunc_ownH hro (by omega) (gf := 220) (lb := #[.pointer (some ⟨bs, 0, none⟩)]) hg trivial (enters_of Try.func220 (by kernel_rfl) rfl)
    hstops kpBt (kpBput hbs) (Below.refl _ _) (fun x => by rw [hps]; rfl)
    (fun pre V => Kpt w.heap.size M w V ∧ J pre V) Jx ?_ hJx ?_
    (fun x a' V => ∃ b, w.heap.size ≤ b ∧ Bx V b #[.int .i8 (x.1.1 : Int), .int .i8 (x.1.2 : Int)] 40 ∧ a' = { tmps := (a.tmps.setIfInBounds q (.agg #[.int .i8 (x.1.1 : Int), .int .i8 (x.1.2 : Int)])).setIfInBounds p (.pointer (some ⟨b, 0, none⟩)), defers := [] })
    ?_ ?_ ?_ ?_ ?_
  · exact OwnFrom.and (ownFrom_kpt _ M w (Nat.le_refl _)) hJ
  · exact ⟨Kpt.refl _ _ _, h0⟩
  · exact fun x a' _ X Y row hs hg' hr => by
      obtain ⟨b, h1, h2, h3⟩ := hs
      exact ⟨b, h1, ownFrom_bx w.heap.size (fun _ : Unit => b) (fun _ => _) _ () X Y row h2 hg' hr, h3⟩
  · rintro l pre x W K ⟨hk, hj⟩ hK
    refine hassign l x W K (hK _ _ ((KeepsOthers.alloc _ _).from _) ((Kpt.of_below w.heap.size M (al (Below.refl _ W) _)).kpB (Nat.lt_of_lt_of_le hbs hk.size) hM) ⟨hk.alloc _, hJ.alloc _ hj⟩ ⟨W.heap.size, hk.size, Bx.new _ _ _, rfl⟩)
  · rintro l pre x a' W hl hr ⟨hk, hj⟩ ⟨b, hb, hx', rfl⟩ hlt
    refine Code.wpIn_mono ?_ (hbody l pre x b W hb hx' hk hj hlt)
    rintro e a' V hV
    cases e with
    | normal => exact ⟨hV.1.keepsFrom, hV.1.kpB (Nat.lt_of_lt_of_le hbs hk.size) hM, hk.trans hV.1, hV.2⟩
    | ret => exact hV
    | exit id => exact hV
    | goto t => exact hV.elim
    | panic c => exact hV.elim
    | outgrown => exact hV.elim
  · rintro D xs W hD rfl ⟨hk, hj⟩ hdef
    exact hdone D W hD hk hj hdef
  · rintro D c pre W hD ⟨k, hk, rfl⟩ hj hdef
    exact hstop D c k W hD hk hj hdef
end Go.Proofs.Ytegnhpanlbfmdaa
