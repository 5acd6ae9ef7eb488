/-
  The code of a refusal: the contract of impl.refusedWith. Conditions stand at each.
-/
import Derived.Test.YtfpoikeibjojgaaDoorRows
import Derived.Test.YtfpoikeibjojgaaDoorAs
import Derived.Test.YtfpoikeibjojgaaDoorRet
import Derived.Test.YtfpoikeibjojgaaDoorRefD
namespace Go.Proofs.YtfpoikeibjojgaaDoor
open Go Go.ChangeShapes Go.WideShapes Go.ChangeAt Go.RowKit
set_option linter.unusedVariables false
set_option linter.unusedSimpArgs false
set_option maxRecDepth 100000
set_option maxHeartbeats 4000000
theorem refused_nil (w : World) : Calls Tryd.prog 49 #[.nilIface] w fun e w' => Below w.heap.size w w' ∧ e = .returned (.int .i64 0) := by
  have B := al (Below.refl w.heap.size w) (.cells #[.nilIface] 136)
  go_enter Tryd.func49, Tryd.ntmps49
  go_wp2_with fail
  refine (as_nil _ _).mono ?_
  rintro e w1 ⟨rfl, hw⟩
  subst hw
  go_wp2
  go_ret
  exact ⟨B, rfl⟩

theorem m_code_unfit (x : ByteArray) (w : World) : (Go.method 377 126 (.agg #[.string x]) "loop.example/g01383/impl.code").run Tryd.prog w = .ok (177, .agg #[.string x]) w := by kernel_rfl
theorem code_unfit (x : ByteArray) (w : World) : Calls Tryd.prog 177 #[.agg #[.string x]] w fun e w' => Below w.heap.size w w' ∧ e = .returned (.int .i64 1) := by
  go_enter Tryd.func177, Tryd.ntmps177
  go_wp2
  go_ret
  refine ⟨?_, rfl⟩
  (repeat (first | exact Below.refl _ _ | apply Below.drew | refine Below.setCell ?_ (by first | (simp; done) | (simp; omega)) _ | refine Below.alloc ?_ (by first | (simp; done) | (simp; omega)) _))
theorem refused_unfit (x : ByteArray) (w : World) : Calls Tryd.prog 49 #[.iface 126 (.agg #[.string x])] w fun e w' => Below w.heap.size w w' ∧ e = .returned (.int .i64 1) := by
  have mc := m_code_unfit x
  have HC := Lib.hid (fun W => code_unfit x W)
  have X := Bx.new w #[.nilIface] 136
  have ha := X.cell 0
  simp only [List.getElem?_toArray, List.getElem?_cons_zero] at ha
  have hf := X.frozen 0
  have B := al (Below.refl w.heap.size w) (.cells #[.nilIface] 136)
  have HA := Lib.hid (as_hit_unfit x ⟨w.heap.size, 0, none⟩ .nilIface _ ha hf)
  clear ha hf
  go_enter Tryd.func49, Tryd.ntmps49
  go_wp2_with fail
  refine HA.out.mono ?_
  rintro e w1 ⟨rfl, hw⟩
  have hall := ((((X.alloc (.cells #[.pointer (some ⟨w.heap.size, 0, none⟩)] 137)).alloc (.cells #[.pointer (some ⟨10, 137, none⟩), .pointer (some ⟨(w.alloc (.cells #[.nilIface] 136)).heap.size, 0, none⟩), .int .u64 150] 143)).alloc (.cells #[.pointer (some ⟨10, 137, none⟩), .pointer (some ⟨(w.alloc (.cells #[.nilIface] 136)).heap.size, 0, none⟩), .int .u64 150] 143)).alloc (.cells #[.string x] 126)).set 0 (.iface 126 (.agg #[.string x]))
  have Bal := (al (al (al (al B (.cells #[.pointer (some ⟨w.heap.size, 0, none⟩)] 137)) (.cells #[.pointer (some ⟨10, 137, none⟩), .pointer (some ⟨(w.alloc (.cells #[.nilIface] 136)).heap.size, 0, none⟩), .int .u64 150] 143)) (.cells #[.pointer (some ⟨10, 137, none⟩), .pointer (some ⟨(w.alloc (.cells #[.nilIface] 136)).heap.size, 0, none⟩), .int .u64 150] 143)) (.cells #[.string x] 126)).setCell (p := ⟨w.heap.size, 0, none⟩) (Nat.le_refl _) (.iface 126 (.agg #[.string x]))
  rw [← hw] at hall Bal
  have c0 := hall.cell 0
  simp only [List.setIfInBounds_toArray, List.set_cons_zero, List.getElem?_toArray, List.getElem?_cons_zero] at c0
  clear hw hall X B
  go_wp2_with fail
  refine (HC.out _).mono ?_
  rintro e w2 ⟨hb, rfl⟩
  replace Bal := nxt Bal hb
  clear hb c0
  go_wp2
  go_ret
  exact ⟨Bal, rfl⟩

theorem m_code_crowd (x : Int) (w : World) : (Go.method 377 130 (.agg #[.int .i64 x]) "loop.example/g01383/impl.code").run Tryd.prog w = .ok (179, .agg #[.int .i64 x]) w := by kernel_rfl
theorem code_crowd (x : Int) (w : World) : Calls Tryd.prog 179 #[.agg #[.int .i64 x]] w fun e w' => Below w.heap.size w w' ∧ e = .returned (.int .i64 3) := by
  go_enter Tryd.func179, Tryd.ntmps179
  go_wp2
  go_ret
  refine ⟨?_, rfl⟩
  (repeat (first | exact Below.refl _ _ | apply Below.drew | refine Below.setCell ?_ (by first | (simp; done) | (simp; omega)) _ | refine Below.alloc ?_ (by first | (simp; done) | (simp; omega)) _))
theorem refused_crowd (x : Int) (w : World) : Calls Tryd.prog 49 #[.iface 130 (.agg #[.int .i64 x])] w fun e w' => Below w.heap.size w w' ∧ e = .returned (.int .i64 3) := by
  have mc := m_code_crowd x
  have HC := Lib.hid (fun W => code_crowd x W)
  have X := Bx.new w #[.nilIface] 136
  have ha := X.cell 0
  simp only [List.getElem?_toArray, List.getElem?_cons_zero] at ha
  have hf := X.frozen 0
  have B := al (Below.refl w.heap.size w) (.cells #[.nilIface] 136)
  have HA := Lib.hid (as_hit_crowd x ⟨w.heap.size, 0, none⟩ .nilIface _ ha hf)
  clear ha hf
  go_enter Tryd.func49, Tryd.ntmps49
  go_wp2_with fail
  refine HA.out.mono ?_
  rintro e w1 ⟨rfl, hw⟩
  have hall := ((((X.alloc (.cells #[.pointer (some ⟨w.heap.size, 0, none⟩)] 137)).alloc (.cells #[.pointer (some ⟨10, 137, none⟩), .pointer (some ⟨(w.alloc (.cells #[.nilIface] 136)).heap.size, 0, none⟩), .int .u64 150] 143)).alloc (.cells #[.pointer (some ⟨10, 137, none⟩), .pointer (some ⟨(w.alloc (.cells #[.nilIface] 136)).heap.size, 0, none⟩), .int .u64 150] 143)).alloc (.cells #[.int .i64 x] 130)).set 0 (.iface 130 (.agg #[.int .i64 x]))
  have Bal := (al (al (al (al B (.cells #[.pointer (some ⟨w.heap.size, 0, none⟩)] 137)) (.cells #[.pointer (some ⟨10, 137, none⟩), .pointer (some ⟨(w.alloc (.cells #[.nilIface] 136)).heap.size, 0, none⟩), .int .u64 150] 143)) (.cells #[.pointer (some ⟨10, 137, none⟩), .pointer (some ⟨(w.alloc (.cells #[.nilIface] 136)).heap.size, 0, none⟩), .int .u64 150] 143)) (.cells #[.int .i64 x] 130)).setCell (p := ⟨w.heap.size, 0, none⟩) (Nat.le_refl _) (.iface 130 (.agg #[.int .i64 x]))
  rw [← hw] at hall Bal
  have c0 := hall.cell 0
  simp only [List.setIfInBounds_toArray, List.set_cons_zero, List.getElem?_toArray, List.getElem?_cons_zero] at c0
  clear hw hall X B
  go_wp2_with fail
  refine (HC.out _).mono ?_
  rintro e w2 ⟨hb, rfl⟩
  replace Bal := nxt Bal hb
  clear hb c0
  go_wp2
  go_ret
  exact ⟨Bal, rfl⟩

theorem m_code_excess (x : Int) (w : World) : (Go.method 377 134 (.agg #[.int .i64 x]) "loop.example/g01383/impl.code").run Tryd.prog w = .ok (181, .agg #[.int .i64 x]) w := by kernel_rfl
theorem code_excess (x : Int) (w : World) : Calls Tryd.prog 181 #[.agg #[.int .i64 x]] w fun e w' => Below w.heap.size w w' ∧ e = .returned (.int .i64 2) := by
  go_enter Tryd.func181, Tryd.ntmps181
  go_wp2
  go_ret
  refine ⟨?_, rfl⟩
  (repeat (first | exact Below.refl _ _ | apply Below.drew | refine Below.setCell ?_ (by first | (simp; done) | (simp; omega)) _ | refine Below.alloc ?_ (by first | (simp; done) | (simp; omega)) _))
theorem refused_excess (x : Int) (w : World) : Calls Tryd.prog 49 #[.iface 134 (.agg #[.int .i64 x])] w fun e w' => Below w.heap.size w w' ∧ e = .returned (.int .i64 2) := by
  have mc := m_code_excess x
  have HC := Lib.hid (fun W => code_excess x W)
  have X := Bx.new w #[.nilIface] 136
  have ha := X.cell 0
  simp only [List.getElem?_toArray, List.getElem?_cons_zero] at ha
  have hf := X.frozen 0
  have B := al (Below.refl w.heap.size w) (.cells #[.nilIface] 136)
  have HA := Lib.hid (as_hit_excess x ⟨w.heap.size, 0, none⟩ .nilIface _ ha hf)
  clear ha hf
  go_enter Tryd.func49, Tryd.ntmps49
  go_wp2_with fail
  refine HA.out.mono ?_
  rintro e w1 ⟨rfl, hw⟩
  have hall := ((((X.alloc (.cells #[.pointer (some ⟨w.heap.size, 0, none⟩)] 137)).alloc (.cells #[.pointer (some ⟨10, 137, none⟩), .pointer (some ⟨(w.alloc (.cells #[.nilIface] 136)).heap.size, 0, none⟩), .int .u64 150] 143)).alloc (.cells #[.pointer (some ⟨10, 137, none⟩), .pointer (some ⟨(w.alloc (.cells #[.nilIface] 136)).heap.size, 0, none⟩), .int .u64 150] 143)).alloc (.cells #[.int .i64 x] 134)).set 0 (.iface 134 (.agg #[.int .i64 x]))
  have Bal := (al (al (al (al B (.cells #[.pointer (some ⟨w.heap.size, 0, none⟩)] 137)) (.cells #[.pointer (some ⟨10, 137, none⟩), .pointer (some ⟨(w.alloc (.cells #[.nilIface] 136)).heap.size, 0, none⟩), .int .u64 150] 143)) (.cells #[.pointer (some ⟨10, 137, none⟩), .pointer (some ⟨(w.alloc (.cells #[.nilIface] 136)).heap.size, 0, none⟩), .int .u64 150] 143)) (.cells #[.int .i64 x] 134)).setCell (p := ⟨w.heap.size, 0, none⟩) (Nat.le_refl _) (.iface 134 (.agg #[.int .i64 x]))
  rw [← hw] at hall Bal
  have c0 := hall.cell 0
  simp only [List.setIfInBounds_toArray, List.set_cons_zero, List.getElem?_toArray, List.getElem?_cons_zero] at c0
  clear hw hall X B
  go_wp2_with fail
  refine (HC.out _).mono ?_
  rintro e w2 ⟨hb, rfl⟩
  replace Bal := nxt Bal hb
  clear hb c0
  go_wp2
  go_ret
  exact ⟨Bal, rfl⟩

theorem m_code_notPlan (x : Int) (w : World) : (Go.method 377 90 (.agg #[.int .i64 x]) "loop.example/g01383/impl.code").run Tryd.prog w = .ok (175, .agg #[.int .i64 x]) w := by kernel_rfl
theorem code_notPlan (x : Int) (w : World) : Calls Tryd.prog 175 #[.agg #[.int .i64 x]] w fun e w' => Below w.heap.size w w' ∧ e = .returned (.int .i64 4) := by
  go_enter Tryd.func175, Tryd.ntmps175
  go_wp2
  go_ret
  refine ⟨?_, rfl⟩
  (repeat (first | exact Below.refl _ _ | apply Below.drew | refine Below.setCell ?_ (by first | (simp; done) | (simp; omega)) _ | refine Below.alloc ?_ (by first | (simp; done) | (simp; omega)) _))
theorem refused_notPlan (x : Int) (w : World) : Calls Tryd.prog 49 #[.iface 90 (.agg #[.int .i64 x])] w fun e w' => Below w.heap.size w w' ∧ e = .returned (.int .i64 4) := by
  have mc := m_code_notPlan x
  have HC := Lib.hid (fun W => code_notPlan x W)
  have X := Bx.new w #[.nilIface] 136
  have ha := X.cell 0
  simp only [List.getElem?_toArray, List.getElem?_cons_zero] at ha
  have hf := X.frozen 0
  have B := al (Below.refl w.heap.size w) (.cells #[.nilIface] 136)
  have HA := Lib.hid (as_hit_notPlan x ⟨w.heap.size, 0, none⟩ .nilIface _ ha hf)
  clear ha hf
  go_enter Tryd.func49, Tryd.ntmps49
  go_wp2_with fail
  refine HA.out.mono ?_
  rintro e w1 ⟨rfl, hw⟩
  have hall := ((((X.alloc (.cells #[.pointer (some ⟨w.heap.size, 0, none⟩)] 137)).alloc (.cells #[.pointer (some ⟨10, 137, none⟩), .pointer (some ⟨(w.alloc (.cells #[.nilIface] 136)).heap.size, 0, none⟩), .int .u64 150] 143)).alloc (.cells #[.pointer (some ⟨10, 137, none⟩), .pointer (some ⟨(w.alloc (.cells #[.nilIface] 136)).heap.size, 0, none⟩), .int .u64 150] 143)).alloc (.cells #[.int .i64 x] 90)).set 0 (.iface 90 (.agg #[.int .i64 x]))
  have Bal := (al (al (al (al B (.cells #[.pointer (some ⟨w.heap.size, 0, none⟩)] 137)) (.cells #[.pointer (some ⟨10, 137, none⟩), .pointer (some ⟨(w.alloc (.cells #[.nilIface] 136)).heap.size, 0, none⟩), .int .u64 150] 143)) (.cells #[.pointer (some ⟨10, 137, none⟩), .pointer (some ⟨(w.alloc (.cells #[.nilIface] 136)).heap.size, 0, none⟩), .int .u64 150] 143)) (.cells #[.int .i64 x] 90)).setCell (p := ⟨w.heap.size, 0, none⟩) (Nat.le_refl _) (.iface 90 (.agg #[.int .i64 x]))
  rw [← hw] at hall Bal
  have c0 := hall.cell 0
  simp only [List.setIfInBounds_toArray, List.set_cons_zero, List.getElem?_toArray, List.getElem?_cons_zero] at c0
  clear hw hall X B
  go_wp2_with fail
  refine (HC.out _).mono ?_
  rintro e w2 ⟨hb, rfl⟩
  replace Bal := nxt Bal hb
  clear hb c0
  go_wp2
  go_ret
  exact ⟨Bal, rfl⟩

theorem refused_any {x : Value} {c : Int} (h : Refuses x c) (w : World) : Calls Tryd.prog 49 #[x] w fun e w' => Below w.heap.size w w' ∧ e = .returned (.int .i64 c) := by
  rcases h with ⟨s, rfl, rfl⟩ | ⟨k, rfl, rfl⟩ | ⟨k, rfl, rfl⟩ | ⟨k, rfl, rfl⟩
  · exact refused_unfit s w
  · exact refused_crowd k w
  · exact refused_excess k w
  · exact refused_notPlan k w
end Go.Proofs.YtfpoikeibjojgaaDoor
