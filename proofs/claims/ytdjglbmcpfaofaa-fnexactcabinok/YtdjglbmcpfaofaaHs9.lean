/- l7Copy, l7Put of the model. -/
import Derived.Test.YtdjglbmcpfaofaaRows
import Derived.Test.YtdjglbmcpfaofaaRowX
import Derived.Test.YtdjglbmcpfaofaaHs6
namespace Go.Proofs.Ytdjglbmcpfaofaa
open Go.RowKit
set_option linter.unusedSimpArgs false
set_option linter.unusedVariables false
set_option maxRecDepth 100000 in
theorem exec_one_en {ρ : Operand → Value} {o : Oper} {y : Operand} (x : En) (w : World) (ho : o.op = .buildSlice 33 1 #[(0, y)] := by rfl) (hy : ρ y = enA x := by rfl) :
    (execOp ρ o).run Try.prog w = .ok (.value (.slice (some ⟨w.heap.size, 0, none⟩) 1 1)) (w.alloc (.cells (enC x).toArray 115)) := by
  unfold execOp
  rw [ho]
  simp [go_sem, hy, enA, enC]
/-- What l7Put returns. -/
def enPut (l : List En) (x : En) : List En := insP (fun y => decide (En.less y x)) l x
theorem enPut_len (l : List En) (x : En) : (enPut l x).length = l.length + 1 := insP_len _ _ _
end Go.Proofs.Ytdjglbmcpfaofaa
