/- FrameAt of the program. -/
import Derived.Test.YtcapioiigfldoaaRows
import Derived.Test.YtcapioiigfldoaaFrM
namespace Go.Proofs.Ytcapioiigfldoaa
open Go.RowKit
set_option linter.unusedSimpArgs false
set_option linter.unusedVariables false
/-- What FrameAt returns. -/
def frV (o : Option (Nat × List Nat × Nat)) (at_ : Nat) : Value :=
  match o with
  | some (seq, b, sz) => .tuple #[.agg #[.int .i64 (seq : Int), .string (strB b), .int .i64 ((at_ + sz : Nat) : Int)], .bool true]
  | none => .tuple #[.agg #[.int .i64 0, .string ⟨#[]⟩, .int .i64 0], .bool false]
/-- The head that FrameAt looks at. -/
theorem head_of (s : ByteArray) (a m : Nat) (hm : (m = 68 ∧ 68 ≤ s.size - a) ∨ (m = s.size - a ∧ m < 68)) : ∃ H, s.extract a (a + m) = H ∧ H.size ≤ 68 ∧ strN H = ((strN s).drop a).take 68 := by
  refine ⟨_, rfl, ?_, ?_⟩
  · rw [← strN_length, strN_extract, List.length_take]; omega
  · rw [strN_extract, show a + m - a = m by omega]
    rcases hm with ⟨rfl, _⟩ | ⟨hm, h2⟩
    · rfl
    · rw [List.take_of_length_le (by rw [List.length_drop, strN_length]; omega), List.take_of_length_le (by rw [List.length_drop, strN_length]; omega)]
theorem frameOf_all (seq : Nat) {b : List Nat} (h : AllB b) : AllB (frameOf seq b) := by
  unfold frameOf
  have h1 := AllB.append (encI_all (seq : Int)) h
  exact AllB.append (encI_all _) (AllB.append (four_all _ (M.crc_lt _ h1)) h1)
theorem fOf_all (seq : Int) {b : List Nat} (h : AllB b) : AllB (fOf seq b) := by
  unfold fOf
  split
  · exact frameOf_all _ h
  · intro x hx; cases hx
theorem box3 (w w2 : World) (v0 v1 v2 : Value) (t : TypeId) (b : Below (w.alloc (.cells #[v0, v1, v2] t)).heap.size (w.alloc (.cells #[v0, v1, v2] t)) w2) :
    (w2.cell? ⟨w.heap.size, 0, none⟩ = some v0 ∧ w2.cell? ⟨w.heap.size, 1, none⟩ = some v1 ∧ w2.cell? ⟨w.heap.size, 2, none⟩ = some v2) ∧ w2.frozen? ⟨w.heap.size, 0, none⟩ = false ∧ w2.frozen? ⟨w.heap.size, 1, none⟩ = false ∧ w2.frozen? ⟨w.heap.size, 2, none⟩ = false :=
  ⟨⟨(b.cell (by simp)).trans (by simp [go_sem]), (b.cell (by simp)).trans (by simp [go_sem]), (b.cell (by simp)).trans (by simp [go_sem])⟩, (b.frozen (by simp)).trans (by simp [go_sem]), (b.frozen (by simp)).trans (by simp [go_sem]), (b.frozen (by simp)).trans (by simp [go_sem])⟩
end Go.Proofs.Ytcapioiigfldoaa
