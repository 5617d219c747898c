/- Marks in a row of frames. -/
import Derived.Test.YtcapioiigfldoaaRows
import Derived.Test.YtcapioiigfldoaaRw
namespace Go.Proofs.Ytcapioiigfldoaa
open Go.RowKit
set_option linter.unusedSimpArgs false
set_option linter.unusedVariables false
theorem grown_of_below {a w : World} (h : Below a.heap.size a w) (row : Option Nat) : a.grownBy w row := ⟨h.os, h.tape, h.output, h.size, fun i hi _ => h.block i hi⟩
/-- The frame of the marks from q on. -/
def markF (q : Nat) : Fr := ⟨(q : Int), markT (q + 1), ((q + 2 : Nat) : Int)⟩
def marksF (k n : Nat) : List Fr := (List.range n).map fun i => markF (k + i * 3)
theorem marksF_length (k n : Nat) : (marksF k n).length = n := by simp [marksF]
theorem marksF_getD (k n i : Nat) (h : i < n) : (marksF k n).getD i fr0 = markF (k + i * 3) := by simp [marksF, h]
theorem marksF_succ (k j : Nat) : marksF k (j + 1) = marksF k j ++ [markF (k + j * 3)] := by simp [marksF, List.range_succ]
def markedF (l : List Fr) (k j : Nat) : List Value := (marksF k j).flatMap frC ++ (l.flatMap frC).drop (j * 3)
theorem markedF_zero (l : List Fr) (k : Nat) : markedF l k 0 = l.flatMap frC := by simp [markedF, marksF]
theorem markedF_all (l : List Fr) (k : Nat) : markedF l k l.length = (marksF k l.length).flatMap frC := by
  unfold markedF; rw [List.drop_of_length_le (by rw [flat_len frC 3 frC_len]; omega), List.append_nil]
theorem markedF_len (l : List Fr) (k j : Nat) (hj : j ≤ l.length) : (markedF l k j).length = l.length * 3 := by
  unfold markedF
  rw [List.length_append, flat_len frC 3 frC_len, marksF_length, List.length_drop, flat_len frC 3 frC_len]; omega
theorem markedF_set (l : List Fr) (k j : Nat) (hj : j < l.length) :
    (((markedF l k j).set (j * 3) (.int .i64 ((k + j * 3 : Nat) : Int))).set (j * 3 + 1) (.string (markT (k + j * 3 + 1)))).set (j * 3 + 2) (.int .i64 ((k + j * 3 + 2 : Nat) : Int)) = markedF l k (j + 1) := by
  have hlen : ((marksF k j).flatMap frC).length = j * 3 := by rw [flat_len frC 3 frC_len, marksF_length]
  have hl : (l.flatMap frC).length = l.length * 3 := flat_len frC 3 frC_len l
  obtain ⟨x0, x1, x2, r, hd⟩ : ∃ x0 x1 x2 r, (l.flatMap frC).drop (j * 3) = x0 :: x1 :: x2 :: r := by
    have : 3 ≤ ((l.flatMap frC).drop (j * 3)).length := by rw [List.length_drop, hl]; omega
    match h : (l.flatMap frC).drop (j * 3), this with
    | x0 :: x1 :: x2 :: r, _ => exact ⟨x0, x1, x2, r, rfl⟩
  have hd3 : (l.flatMap frC).drop ((j + 1) * 3) = r := by
    rw [show (j + 1) * 3 = 3 + j * 3 by omega, Nat.add_comm, ← List.drop_drop, hd]; rfl
  unfold markedF
  rw [hd, hd3, marksF_succ, List.flatMap_append, List.append_assoc]
  rw [List.set_append_right _ _ (by omega), hlen, Nat.sub_self, List.set_cons_zero]
  rw [List.set_append_right _ _ (by omega), hlen, show j * 3 + 1 - j * 3 = 1 by omega]
  rw [List.set_append_right _ _ (by omega), hlen, show j * 3 + 2 - j * 3 = 2 by omega]
  rfl
set_option maxRecDepth 100000 in
theorem exec_loadS {ρ : Operand → Value} {o : Oper} {x : Operand} (b off : Nat) (s : ByteArray) (w : World) (h : w.cell? ⟨b, off, none⟩ = some (.string s)) (ho : o.op = .load 9 x := by rfl) (hx : ρ x = .pointer (some ⟨b, off, none⟩) := by rfl) :
    (execOp ρ o).run Try.prog w = .ok (.value (.string s)) w := by
  unfold execOp
  rw [ho]
  simp [go_sem, hx, h]
end Go.Proofs.Ytcapioiigfldoaa
