/- The walk of the law FnSlots. -/
import Derived.Test.YtcapioiigfldoaaRows
import Derived.Test.YtcapioiigfldoaaAreasW
namespace Go.Proofs.Ytcapioiigfldoaa
open Go.RowKit
set_option linter.unusedSimpArgs false
set_option linter.unusedVariables false
theorem slot_same (s : St) (n : Int) (a : Ar) : slotS (putS s n a) n = a := by
  unfold slotS putS
  by_cases h : n.tmod 2 = 0
  · simp [h]
  · simp [h]
theorem slot_even (s : St) (n : Int) (a : Ar) (h : n.tmod 2 = 0) : slotS (putS s n a) 1 = slotS s 1 := by
  unfold slotS putS
  simp [h]
theorem slot_odd (s : St) (n : Int) (a : Ar) (h : ¬ n.tmod 2 = 0) : slotS (putS s n a) 0 = slotS s 0 := by
  unfold slotS putS
  simp [h]
theorem put_log (s : St) (n : Int) (a : Ar) : (putS s n a).log = s.log := by
  unfold putS
  split <;> rfl
theorem put_len (s : St) (n : Int) (a : Ar) : ((s.log.data.size + s.even.data.size + s.odd.data.size : Nat) : Int) - (slotS s n).data.size + a.data.size = (((putS s n a).log.data.size + (putS s n a).even.data.size + (putS s n a).odd.data.size : Nat) : Int) := by
  unfold putS slotS
  split
  · simp only []; omega
  · simp only []; omega
theorem put_fits (s : St) (n : Int) (a : Ar) (h1 : s.log.data.size ≤ 20000) (h2 : s.even.data.size ≤ 20000) (h3 : s.odd.data.size ≤ 20000) (h4 : a.data.size ≤ 20000) : (putS s n a).log.data.size + (putS s n a).even.data.size + (putS s n a).odd.data.size ≤ 60000 := by
  unfold putS
  split
  · simp only []; omega
  · simp only []; omega
theorem slot_fits (s : St) (n : Int) (h2 : s.even.data.size ≤ 20000) (h3 : s.odd.data.size ≤ 20000) : (slotS s n).data.size ≤ 20000 := by
  unfold slotS
  split <;> omega
set_option maxRecDepth 100000 in
theorem exec_loadI {ρ : Operand → Value} {o : Oper} {x : Operand} (b : Nat) (s : St) (w : World) (h : w.heap[b]? = some (.cells #[.string s.log.data, .int .i64 s.log.safe, .string s.even.data, .int .i64 s.even.safe, .string s.odd.data, .int .i64 s.odd.safe] 27 (0, 0))) (ho : o.op = .load 27 x := by rfl) (hx : ρ x = .pointer (some ⟨b, 0, none⟩) := by rfl) :
    (execOp ρ o).run Try.prog w = .ok (.value (stA s)) w := by
  have c0 := cell_of_row _ _ 0 _ _ _ h
  have c1 := cell_of_row _ _ 1 _ _ _ h
  have c2 := cell_of_row _ _ 2 _ _ _ h
  have c3 := cell_of_row _ _ 3 _ _ _ h
  have c4 := cell_of_row _ _ 4 _ _ _ h
  have c5 := cell_of_row _ _ 5 _ _ _ h
  simp at c0 c1 c2 c3 c4 c5
  unfold execOp
  rw [ho]
  simp [go_sem, hx, c0, c1, c2, c3, c4, c5, stA]
set_option maxRecDepth 100000 in
theorem exec_fldS {ρ : Operand → Value} {o : Oper} {x : Operand} (b : Nat) (w : World) (ho : o.op = .fieldAddr 27 x 0 := by rfl) (hx : ρ x = .pointer (some ⟨b, 0, none⟩) := by rfl) :
    (execOp ρ o).run Try.prog w = .ok (.value (.pointer (some ⟨b, 0, none⟩))) w := by
  unfold execOp
  rw [ho]
  simp [go_sem, hx]
set_option maxRecDepth 100000 in
theorem exec_eqA {ρ : Operand → Value} {o : Oper} {x y : Operand} (a : Ar) (w : World) (ho : o.op = .binOp .eql 25 x y 25 := by rfl) (hx : ρ x = arA a := by rfl) (hy : ρ y = arA a := by rfl) :
    (execOp ρ o).run Try.prog w = .ok (.value (.bool true)) w := by
  unfold execOp
  rw [ho]
  unfold arA at hx hy
  simp [go_sem, hx, hy]
set_option maxRecDepth 100000 in
theorem exec_eqI {ρ : Operand → Value} {o : Oper} {x y : Operand} (X : Int) (w : World) (ho : o.op = .binOp .eql 3 x y 3 := by rfl) (hx : ρ x = .int .i64 X := by rfl) (hy : ρ y = .int .i64 X := by rfl) :
    (execOp ρ o).run Try.prog w = .ok (.value (.bool true)) w := by
  unfold execOp
  rw [ho]
  simp [go_sem, hx, hy]
set_option maxRecDepth 100000 in
theorem exec_datA {ρ : Operand → Value} {o : Oper} {x : Operand} (a : Ar) (w : World) (ho : o.op = .field 25 x 0 := by rfl) (hx : ρ x = arA a := by rfl) :
    (execOp ρ o).run Try.prog w = .ok (.value (.string a.data)) w := by
  unfold execOp
  rw [ho]
  unfold arA at hx
  simp [go_sem, hx, Instr.field, asAgg]
set_option maxRecDepth 100000 in
theorem exec_pickT {ρ : Operand → Value} {o : Oper} {x y z : Operand} (v : Value) (w : World) (ho : o.op = .pick x y z := by rfl) (hx : ρ x = .bool true := by rfl) (hy : ρ y = v := by rfl) :
    (execOp ρ o).run Try.prog w = .ok (.value v) w := by
  unfold execOp
  rw [ho]
  simp [go_sem, hx, hy]
theorem st_cells {w : World} {b : Nat} {s : St} {t : TypeId} (h : w.heap[b]? = some (.cells #[.string s.log.data, .int .i64 s.log.safe, .string s.even.data, .int .i64 s.even.safe, .string s.odd.data, .int .i64 s.odd.safe] t (0, 0))) : w.cell? ⟨b, 0, none⟩ = some (.string s.log.data) ∧ w.cell? ⟨b, 1, none⟩ = some (.int .i64 s.log.safe) :=
  ⟨cell_of_row _ _ 0 _ _ _ h, cell_of_row _ _ 1 _ _ _ h⟩
end Go.Proofs.Ytcapioiigfldoaa
