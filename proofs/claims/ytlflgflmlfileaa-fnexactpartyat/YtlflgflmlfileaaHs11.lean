/- QueueOf of the model. -/
import Derived.Test.YtlflgflmlfileaaRows
import Derived.Test.YtlflgflmlfileaaHs7
import Derived.Test.YtlflgflmlfileaaHs9
import Derived.Test.YtlflgflmlfileaaSameI
import Derived.Deep.DeepCutAuto
namespace Go.Proofs.Ytlflgflmlfileaa
open Go.RowKit
set_option linter.unusedSimpArgs false
set_option linter.unusedVariables false
set_option maxRecDepth 100000 in
theorem exec_alloc_en {ρ : Operand → Value} {o : Oper} (w : World) (ho : o.op = .alloc 26 := by rfl) :
    (execOp ρ o).run Try.prog w = .ok (.value (.pointer (some ⟨w.heap.size, 0, none⟩))) (w.alloc (.cells #[.int .i64 0, .int .i64 0, .int .i64 0, .int .i64 0] 26)) := by
  unfold execOp
  rw [ho]
  simp [go_sem]
def putEn (w : World) (g : Nat) (x : En) : World := (((w.setCell ⟨g, 0, none⟩ (.int .i64 x.lev)).setCell ⟨g, 1, none⟩ (.int .i64 x.turn)).setCell ⟨g, 2, none⟩ (.int .i64 x.id)).setCell ⟨g, 3, none⟩ (.int .i64 x.size)
theorem putEn_heap {w : World} {g : Nat} {x : En} {t : TypeId} (h : w.heap[g]? = some (.cells #[.int .i64 0, .int .i64 0, .int .i64 0, .int .i64 0] t (0, 0))) : (putEn w g x).heap[g]? = some (.cells #[.int .i64 x.lev, .int .i64 x.turn, .int .i64 x.id, .int .i64 x.size] t (0, 0)) := by
  unfold putEn
  have h := Go.heap_setCell_same _ g 0 _ t (.int .i64 x.lev) h
  have h := Go.heap_setCell_same _ g 1 _ t (.int .i64 x.turn) h
  have h := Go.heap_setCell_same _ g 2 _ t (.int .i64 x.id) h
  exact Go.heap_setCell_same _ g 3 _ t (.int .i64 x.size) h
theorem putEn_below {B : Nat} {w0 w : World} {g : Nat} {x : En} (h : Below B w0 w) (hg : B ≤ g) : Below B w0 (putEn w g x) := by
  unfold putEn
  exact (((h.setCell hg _).setCell hg _).setCell hg _).setCell hg _
set_option maxRecDepth 100000 in
theorem exec_store_en {ρ : Operand → Value} {o : Oper} {x y : Operand} (g : Nat) (e : En) (w : World) (h : w.heap[g]? = some (.cells #[.int .i64 0, .int .i64 0, .int .i64 0, .int .i64 0] 26 (0, 0))) (ho : o.op = .store 26 x y := by rfl) (hx : ρ x = .pointer (some ⟨g, 0, none⟩) := by rfl) (hy : ρ y = enA e := by rfl) :
    (execOp ρ o).run Try.prog w = .ok .skip (putEn w g e) := by
  have c0 := cell_of_row _ _ 0 _ _ _ h
  have z0 := frozen_of_row _ _ 0 _ _ h
  have c1 := cell_of_row _ _ 1 _ _ _ h
  have z1 := frozen_of_row _ _ 1 _ _ h
  have c2 := cell_of_row _ _ 2 _ _ _ h
  have z2 := frozen_of_row _ _ 2 _ _ h
  have c3 := cell_of_row _ _ 3 _ _ _ h
  have z3 := frozen_of_row _ _ 3 _ _ h
  simp at c0 c1 c2 c3
  unfold execOp
  rw [ho]
  simp [go_sem, hx, hy, enA, c0, c1, c2, c3, z0, z1, z2, z3, putEn]
/-- What QueueOf returns. -/
def queueV (r : Ru) (l : List Pt) (cabin now : Int) : List En := l.foldr (fun x acc => if (entryOfV r x now).2 = true ∧ x.cabin = cabin then enPut acc (entryOfV r x now).1 else acc) []
theorem drop_getD {α : Type} (l : List α) (k : Nat) (d : α) (h : k < l.length) : l.drop k = l.getD k d :: l.drop (k + 1) := by
  rw [List.drop_eq_getElem_cons h, List.getD_eq_getElem?_getD, List.getElem?_eq_getElem h]; rfl
end Go.Proofs.Ytlflgflmlfileaa
