/- cmp.Compare, cmp.Or, within, slices.Index and Contains over ints of the program. -/
import Derived.Test.YtlflgflmlfileaaGreatRows
import Derived.Test.YtlflgflmlfileaaGreatRowX
import Derived.Test.YtlflgflmlfileaaGreatHs6
import Derived.Test.YtlflgflmlfileaaGreatSameI
namespace Go.Proofs.YtlflgflmlfileaaGreat
open Go.RowKit
set_option linter.unusedSimpArgs false
set_option linter.unusedVariables false
/-- What cmp.Compare returns. -/
def cmpV (a b : Int) : Int := if a < b then -1 else if b < a then 1 else 0
/-- cmp.Or of two numbers. -/
def orV (a b : Int) : Int := if a = 0 then b else a
set_option maxRecDepth 100000 in
theorem exec_two_int {ρ : Operand → Value} {o : Oper} {x y : Operand} (X Y : Int) (w : World) (ho : o.op = .buildSlice 32 2 #[(0, x), (1, y)] := by rfl) (hx : ρ x = .int .i64 X := by rfl) (hy : ρ y = .int .i64 Y := by rfl) :
    (execOp ρ o).run Tryz.prog w = .ok (.value (.slice (some ⟨w.heap.size, 0, none⟩) 2 2)) (w.alloc (.cells #[.int .i64 X, .int .i64 Y] 3)) := by
  unfold execOp
  rw [ho]
  simp [go_sem, hx, hy]
theorem cell_new2 (w : World) (x y : Value) (t : TypeId) (k : Nat) (hk : k < 2) : (w.alloc (.cells #[x, y] t)).cell? ⟨w.heap.size, 0 + k, none⟩ = some (#[x, y].getD k x) := by
  rcases (show k = 0 ∨ k = 1 by omega) with rfl | rfl <;> simp
/-- Where a search ends: the first place, or the end. -/
def endV {α : Type} (p : α → Bool) (l : List α) : Nat := (l.findIdx? p).getD l.length
theorem endV_le {α : Type} (p : α → Bool) (l : List α) : endV p l ≤ l.length := by
  unfold endV
  cases h : l.findIdx? p with
  | none => simp
  | some k =>
    have := (List.findIdx?_eq_some_iff_getElem.1 h).1
    simp; omega
theorem endV_no {α : Type} (p : α → Bool) (l : List α) (h : idxV (l.findIdx? p) < 0) : (endV p l : Int) = (l.length : Int) := by
  unfold endV
  cases hf : l.findIdx? p with
  | none => simp
  | some k => rw [hf] at h; simp [idxV] at h; omega
theorem endV_yes {α : Type} (p : α → Bool) (l : List α) (h : ¬ idxV (l.findIdx? p) < 0) : idxV (l.findIdx? p) = (endV p l : Int) := by
  unfold endV
  cases hf : l.findIdx? p with
  | none => rw [hf] at h; simp [idxV] at h
  | some k => simp [idxV]
end Go.Proofs.YtlflgflmlfileaaGreat
