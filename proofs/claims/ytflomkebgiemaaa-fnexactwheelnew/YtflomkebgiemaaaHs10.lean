/- PinsIn of the model. -/
import Derived.Test.YtflomkebgiemaaaRows
import Derived.Test.YtflomkebgiemaaaHs8
namespace Go.Proofs.Ytflomkebgiemaaa
open Go.RowKit
set_option linter.unusedSimpArgs false
set_option linter.unusedVariables false
set_option maxRecDepth 100000 in
theorem exec_build_pn {ρ : Operand → Value} {o : Oper} {x y : Operand} (X Y : Int) (w : World) (ho : o.op = .build 33 #[(0, x), (1, y)] := by rfl) (hx : ρ x = .int .i64 X := by rfl) (hy : ρ y = .int .i64 Y := by rfl) :
    (execOp ρ o).run Try.prog w = .ok (.value (pnA ⟨X, Y⟩)) w := by
  unfold execOp
  rw [ho]
  simp [go_sem, hx, hy, pnA]
/-- What PinsIn returns. -/
def pinsV (l : List Pt) (cabin : Int) : List Pn := l.foldl (fun acc x => if x.state = 2 ∧ x.cabin = cabin then pnPut acc ⟨x.until_, x.id⟩ else acc) []
end Go.Proofs.Ytflomkebgiemaaa
