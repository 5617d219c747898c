/- l9Copy of the model. -/
import Derived.Test.YtlflgflmlfileaaRows
import Derived.Test.YtlflgflmlfileaaHs13
import Derived.Test.YtlflgflmlfileaaG5
namespace Go.Proofs.Ytlflgflmlfileaa
open Go.RowKit
set_option linter.unusedSimpArgs false
set_option linter.unusedVariables false
set_option maxRecDepth 100000 in
theorem exec_fldW {ρ : Operand → Value} {o : Oper} {x : Operand} (b : Nat) (w : World) (ho : o.op = .fieldAddr 118 x 0 := by rfl) (hx : ρ x = .pointer (some ⟨b, 0, none⟩) := by rfl) :
    (execOp ρ o).run Try.prog w = .ok (.value (.pointer (some ⟨b, 0, none⟩))) w := by
  unfold execOp
  rw [ho]
  simp [go_sem, hx]
set_option maxRecDepth 100000 in
theorem exec_loadSp {ρ : Operand → Value} {o : Oper} {x : Operand} (t : TypeId) (b off : Nat) (B : Option Addr) (n c : Nat) (w : World) (ht : t = 160 ∨ t = 116) (h : w.cell? ⟨b, off, none⟩ = some (.slice B n c)) (ho : o.op = .load t x := by rfl) (hx : ρ x = .pointer (some ⟨b, off, none⟩) := by rfl) :
    (execOp ρ o).run Try.prog w = .ok (.value (.slice B n c)) w := by
  unfold execOp
  rw [ho]
  rcases ht with rfl | rfl <;> simp [go_sem, hx, h]
set_option maxRecDepth 100000 in
theorem exec_storeSp {ρ : Operand → Value} {o : Oper} {x y : Operand} (t : TypeId) (b off : Nat) (B : Option Addr) (n c : Nat) (u : Value) (w : World) (ht : t = 160 ∨ t = 116) (h : w.cell? ⟨b, off, none⟩ = some u) (hz : w.frozen? ⟨b, off, none⟩ = false) (ho : o.op = .store t x y := by rfl) (hx : ρ x = .pointer (some ⟨b, off, none⟩) := by rfl) (hy : ρ y = .slice B n c := by rfl) :
    (execOp ρ o).run Try.prog w = .ok .skip (w.setCell ⟨b, off, none⟩ (.slice B n c)) := by
  unfold execOp
  rw [ho]
  rcases ht with rfl | rfl <;> simp [go_sem, hx, hy, h, hz]
set_option maxRecDepth 100000 in
theorem exec_idxSp {ρ : Operand → Value} {o : Oper} {x y : Operand} (b off n c k : Nat) (w : World) (h : k < n) (ho : o.op = .indexAddr 116 x y := by rfl) (hx : ρ x = .slice (some ⟨b, off, none⟩) n c := by rfl) (hy : ρ y = .int .i64 (k : Int) := by rfl) :
    (execOp ρ o).run Try.prog w = .ok (.value (.pointer (some ⟨b, off + k, none⟩))) w := by
  have h1 : (k : Int) < (n : Int) := by omega
  unfold execOp
  rw [ho]
  simp [go_sem, hx, hy, h]
set_option maxRecDepth 100000 in
theorem exec_none_pn {ρ : Operand → Value} {o : Oper} (w : World) (ho : o.op = .buildSlice 160 0 #[] := by rfl) :
    (execOp ρ o).run Try.prog w = .ok (.value (.slice (some ⟨w.heap.size, 0, none⟩) 0 0)) (w.alloc (.cells #[] 177)) := by
  unfold execOp
  rw [ho]
  simp [go_sem]
set_option maxRecDepth 100000 in
theorem exec_one_sp {ρ : Operand → Value} {o : Oper} {y : Operand} (s : Sp) (w : World) (ho : o.op = .buildSlice 116 1 #[(0, y)] := by rfl) (hy : ρ y = .slice s.a s.l.length s.c := by rfl) :
    (execOp ρ o).run Try.prog w = .ok (.value (.slice (some ⟨w.heap.size, 0, none⟩) 1 1)) (w.alloc (.cells (spC s).toArray 160)) := by
  unfold execOp
  rw [ho]
  simp [go_sem, hy, spC]
def CpS (w : World) (g1 g3 b o : Nat) (u1 u3 y : Value) : Prop := w.heap[g3]? = some (.cells #[u3] 118) ∧ w.heap[g1]? = some (.cells #[u1] 118) ∧ w.cell? ⟨b, o, none⟩ = some y
theorem CpS.step {w w' : World} {g1 g3 b o : Nat} {u1 u3 y : Value} {row : Option Nat} (h : CpS w g1 g3 b o u1 u3 y) (g : w.grownBy w' row) (B : Nat) (hr : ∀ j, row = some j → B ≤ j) (h1 : g1 < B) (h3 : g3 < B) (hb : b < B) : CpS w' g1 g3 b o u1 u3 y := by
  obtain ⟨a3, a1, a0⟩ := h
  refine ⟨(g.block _ (blk_lt a3) (fun e => by have := hr _ e.symm; omega)).trans a3, (g.block _ (blk_lt a1) (fun e => by have := hr _ e.symm; omega)).trans a1, World.grownBy.cell g a0 (fun e => by have := hr _ e.symm; simp at this; omega)⟩
theorem OwnW.alloc {w : World} {B : Nat} {A : Option Addr} {c : Nat} {sp : List Sp} (h : OwnW w B A c sp) (o : Obj) : OwnW (w.alloc o) B A c sp := ⟨h.row.alloc o, fun s hs => (h.sp s hs).alloc o⟩
end Go.Proofs.Ytlflgflmlfileaa
