/- The walk of the law FnAreas. -/
import Derived.Test.YtcapioiigfldoaaRows
import Derived.Test.YtcapioiigfldoaaArF
namespace Go.Proofs.Ytcapioiigfldoaa
open Go.RowKit
set_option linter.unusedSimpArgs false
set_option linter.unusedVariables false
theorem blk_call {w w' : World} {r : Nat} {o : Obj} (h : w.heap[r]? = some o) (b : Below w.heap.size w w') : w'.heap[r]? = some o := by
  rw [b.block r (Array.getElem?_eq_some_iff.1 h).1, h]
theorem blk_alloc {w : World} {r : Nat} {o : Obj} (h : w.heap[r]? = some o) (x : Obj) : (w.alloc x).heap[r]? = some o := by
  rw [Go.heap_alloc_old _ _ (Array.getElem?_eq_some_iff.1 h).1, h]
theorem blk_lt {w : World} {r : Nat} {o : Obj} (h : w.heap[r]? = some o) : r < w.heap.size := (Array.getElem?_eq_some_iff.1 h).1
theorem blk2 {w : World} {r : Nat} {u v : Value} {t : TypeId} (h : w.heap[r]? = some (.cells #[u, v] t)) : w.cell? ⟨r, 0, none⟩ = some u ∧ w.cell? ⟨r, 1, none⟩ = some v :=
  ⟨cell_of_row _ _ 0 _ _ _ h, cell_of_row _ _ 1 _ _ _ h⟩
theorem ext_left (x y : ByteArray) : (x ++ y).extract 0 x.size = x := by
  rw [← strB_strN ((x ++ y).extract 0 x.size), strN_extract]
  have e : strN (x ++ y) = strN x ++ strN y := by unfold strN; simp
  rw [e, List.drop_zero, Nat.sub_zero, ← strN_length x, List.take_left, strB_strN]
theorem ext_right (x y : ByteArray) : (x ++ y).extract x.size (x ++ y).size = y := by
  rw [← strB_strN ((x ++ y).extract x.size (x ++ y).size), strN_extract]
  have e : strN (x ++ y) = strN x ++ strN y := by unfold strN; simp
  rw [e, ← strN_length x, List.drop_left, List.take_of_length_le (by rw [strN_length, ByteArray.size_append, strN_length]; omega), strB_strN]
end Go.Proofs.Ytcapioiigfldoaa
