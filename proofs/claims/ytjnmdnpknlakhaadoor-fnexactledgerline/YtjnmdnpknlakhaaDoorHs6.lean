/- Entries, pins: small tests. -/
import Derived.Test.YtjnmdnpknlakhaaDoorRows
import Derived.Test.YtjnmdnpknlakhaaDoorHs3
namespace Go.Proofs.YtjnmdnpknlakhaaDoor
open Go.RowKit
set_option linter.unusedSimpArgs false
set_option linter.unusedVariables false
set_option maxRecDepth 100000 in
theorem exec_neqI {ρ : Operand → Value} {o : Oper} {x y : Operand} (X Y : Int) (d : Bool) (w : World) (hd : (X != Y) = d) (ho : o.op = .binOp .neq 3 x y 3 := by rfl) (hx : ρ x = .int .i64 X := by rfl) (hy : ρ y = .int .i64 Y := by rfl) :
    (execOp ρ o).run Tryd.prog w = .ok (.value (.bool d)) w := by
  subst hd
  unfold execOp
  rw [ho]
  simp [go_sem, hx, hy]
set_option maxRecDepth 100000 in
theorem exec_gtrI {ρ : Operand → Value} {o : Oper} {x y : Operand} (X Y : Int) (d : Bool) (w : World) (hd : decide (Y < X) = d) (ho : o.op = .binOp .gtr 3 x y 3 := by rfl) (hx : ρ x = .int .i64 X := by rfl) (hy : ρ y = .int .i64 Y := by rfl) :
    (execOp ρ o).run Tryd.prog w = .ok (.value (.bool d)) w := by
  subst hd
  unfold execOp
  rw [ho]
  simp [go_sem, hx, hy]
def En.less (a b : En) : Prop := a.lev < b.lev ∨ a.lev = b.lev ∧ a.turn < b.turn
instance (a b : En) : Decidable (En.less a b) := by unfold En.less; infer_instance
def Pn.less (a b : Pn) : Prop := a.at_ < b.at_ ∨ a.at_ = b.at_ ∧ a.id < b.id
instance (a b : Pn) : Decidable (Pn.less a b) := by unfold Pn.less; infer_instance
end Go.Proofs.YtjnmdnpknlakhaaDoor
