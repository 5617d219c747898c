/- The walk of the law FnExactPutSlot. -/
import Derived.Test.YtcapioiigfldoaaRows
import Derived.Test.YtcapioiigfldoaaStL
import Derived.Deep.DeepCutAuto
namespace Go.Proofs.Ytcapioiigfldoaa
open Go.RowKit
set_option linter.unusedSimpArgs false
set_option linter.unusedVariables false
set_option maxRecDepth 100000 in
theorem exec_loadSt {ρ : Operand → Value} {o : Oper} {x : Operand} (b : Nat) (s : St) (w : World) (h : ∀ k v, (#[.string s.log.data, .int .i64 s.log.safe, .string s.even.data, .int .i64 s.even.safe, .string s.odd.data, .int .i64 s.odd.safe] : Array Value)[k]? = some v → w.cell? ⟨b, k, none⟩ = some v) (ho : o.op = .load 47 x := by rfl) (hx : ρ x = .pointer (some ⟨b, 0, none⟩) := by rfl) :
    (execOp ρ o).run Try.prog w = .ok (.value (stA s)) w := by
  have h0 := h 0 _ rfl
  have h1 := h 1 _ rfl
  have h2 := h 2 _ rfl
  have h3 := h 3 _ rfl
  have h4 := h 4 _ rfl
  have h5 := h 5 _ rfl
  unfold execOp
  rw [ho]
  simp [go_sem, hx, h0, h1, h2, h3, h4, h5, stA]
set_option maxRecDepth 100000 in
theorem exec_loadL {ρ : Operand → Value} {o : Oper} {x : Operand} (b : Nat) (a : Ar) (w : World) (h : ∀ k v, (#[.string a.data, .int .i64 a.safe] : Array Value)[k]? = some v → w.cell? ⟨b, k, none⟩ = some v) (ho : o.op = .load 41 x := by rfl) (hx : ρ x = .pointer (some ⟨b, 0, none⟩) := by rfl) :
    (execOp ρ o).run Try.prog w = .ok (.value (arA a)) w := by
  have h0 := h 0 _ rfl
  have h1 := h 1 _ rfl
  unfold execOp
  rw [ho]
  simp [go_sem, hx, h0, h1, arA]
set_option maxRecDepth 100000 in
theorem exec_allocS {ρ : Operand → Value} {o : Oper} (w : World) (ho : o.op = .alloc 27 := by rfl) :
    (execOp ρ o).run Try.prog w = .ok (.value (.pointer (some ⟨w.heap.size, 0, none⟩))) (w.alloc (.cells #[.string ⟨#[]⟩, .int .i64 0, .string ⟨#[]⟩, .int .i64 0, .string ⟨#[]⟩, .int .i64 0] 27)) := by
  unfold execOp
  rw [ho]
  simp [go_sem]
/-- A store laid into a block of six cells. -/
def put6 (w : World) (g : Nat) (s : St) : World :=
  (((((w.setCell ⟨g, 0, none⟩ (.string s.log.data)).setCell ⟨g, 1, none⟩ (.int .i64 s.log.safe)).setCell ⟨g, 2, none⟩ (.string s.even.data)).setCell ⟨g, 3, none⟩ (.int .i64 s.even.safe)).setCell ⟨g, 4, none⟩ (.string s.odd.data)).setCell ⟨g, 5, none⟩ (.int .i64 s.odd.safe)
theorem put6_heap {w : World} {g : Nat} {s : St} {t : TypeId} (h : w.heap[g]? = some (.cells #[.string ⟨#[]⟩, .int .i64 0, .string ⟨#[]⟩, .int .i64 0, .string ⟨#[]⟩, .int .i64 0] t (0, 0))) : (put6 w g s).heap[g]? = some (.cells #[.string s.log.data, .int .i64 s.log.safe, .string s.even.data, .int .i64 s.even.safe, .string s.odd.data, .int .i64 s.odd.safe] t (0, 0)) := by
  unfold put6
  exact Go.heap_setCell_same _ _ _ _ _ _ (Go.heap_setCell_same _ _ _ _ _ _ (Go.heap_setCell_same _ _ _ _ _ _ (Go.heap_setCell_same _ _ _ _ _ _ (Go.heap_setCell_same _ _ _ _ _ _ (Go.heap_setCell_same _ _ _ _ _ _ h)))))
theorem put6_below {B : Nat} {w0 w : World} {g : Nat} {s : St} (h : Below B w0 w) (hg : B ≤ g) : Below B w0 (put6 w g s) := by
  unfold put6
  repeat refine Below.setCell ?_ hg _
  exact h
set_option maxRecDepth 100000 in
theorem exec_store6 {ρ : Operand → Value} {o : Oper} {x y : Operand} (g : Nat) (s : St) (w : World) (h : w.heap[g]? = some (.cells #[.string ⟨#[]⟩, .int .i64 0, .string ⟨#[]⟩, .int .i64 0, .string ⟨#[]⟩, .int .i64 0] 27 (0, 0))) (ho : o.op = .store 27 x y := by rfl) (hx : ρ x = .pointer (some ⟨g, 0, none⟩) := by rfl) (hy : ρ y = stA s := by rfl) :
    (execOp ρ o).run Try.prog w = .ok .skip (put6 w g s) := by
  have c0 := cell_of_row _ _ 0 _ _ _ h
  have z0 := frozen_of_row _ _ 0 _ _ h
  have c1 := cell_of_row _ _ 1 _ _ _ h
  have z1 := frozen_of_row _ _ 1 _ _ h
  have c2 := cell_of_row _ _ 2 _ _ _ h
  have z2 := frozen_of_row _ _ 2 _ _ h
  have c3 := cell_of_row _ _ 3 _ _ _ h
  have z3 := frozen_of_row _ _ 3 _ _ h
  have c4 := cell_of_row _ _ 4 _ _ _ h
  have z4 := frozen_of_row _ _ 4 _ _ h
  have c5 := cell_of_row _ _ 5 _ _ _ h
  have z5 := frozen_of_row _ _ 5 _ _ h
  simp at c0 c1 c2 c3 c4 c5
  unfold execOp
  rw [ho]
  simp [go_sem, hx, hy, stA, c0, c1, c2, c3, c4, c5, z0, z1, z2, z3, z4, z5, put6]
/-- A store lies in a block made since. -/
def PutAt (u : World) (s : St) (g : Nat) (w : World) : Prop := Below u.heap.size u w ∧ u.heap.size ≤ g ∧ w.heap[g]? = some (.cells #[.string s.log.data, .int .i64 s.log.safe, .string s.even.data, .int .i64 s.even.safe, .string s.odd.data, .int .i64 s.odd.safe] 27 (0, 0))
end Go.Proofs.Ytcapioiigfldoaa
