/- Trim of the model, Shed of both. -/
import Derived.Test.YtcapioiigfldoaaRows
import Derived.Test.YtcapioiigfldoaaArT
namespace Go.Proofs.Ytcapioiigfldoaa
open Go.RowKit
set_option linter.unusedSimpArgs false
set_option linter.unusedVariables false
theorem min_if (x y : Int) : (if x < y then x else y) = min x y := by
  split <;> omega
set_option maxRecDepth 100000 in
theorem exec_subI {ρ : Operand → Value} {o : Oper} {x y : Operand} (X Y Z : Int) (w : World) (h : X - Y = Z) (h1 : -9223372036854775808 ≤ Z) (h2 : Z ≤ 9223372036854775807) (ho : o.op = .binOp .sub 3 x y 3 := by rfl) (hx : ρ x = .int .i64 X := by rfl) (hy : ρ y = .int .i64 Y := by rfl) :
    (execOp ρ o).run Try.prog w = .ok (.value (.int .i64 Z)) w := by
  have hw : IntKind.i64.wrap Z = Z := by rw [IntKind.wrap_i64]; omega
  unfold execOp
  rw [ho]
  simp [go_sem, hx, hy, h, hw]
set_option maxRecDepth 100000 in
theorem exec_lenS {ρ : Operand → Value} {o : Oper} {x : Operand} (X : ByteArray) (w : World) (ho : o.op = .call { callee := .builtin .len, args := #[x], argTypes := #[9] } := by rfl) (hx : ρ x = .string X := by rfl) :
    (execOp ρ o).run Try.prog w = .ok (.value (.int .i64 (X.size : Int))) w := by
  unfold execOp
  rw [ho]
  simp [go_sem, hx]
set_option maxRecDepth 100000 in
theorem exec_loadA {ρ : Operand → Value} {o : Oper} {x : Operand} (b : Nat) (a : Ar) (w : World) (h : w.cell? ⟨b, 0, none⟩ = some (.string a.data) ∧ w.cell? ⟨b, 1, none⟩ = some (.int .i64 a.safe)) (ho : o.op = .load 25 x := by rfl) (hx : ρ x = .pointer (some ⟨b, 0, none⟩) := by rfl) :
    (execOp ρ o).run Try.prog w = .ok (.value (arA a)) w := by
  unfold execOp
  rw [ho]
  simp [go_sem, hx, h.1, h.2, arA]
set_option maxRecDepth 100000 in
theorem exec_neqA {ρ : Operand → Value} {o : Oper} {x y : Operand} (s : ByteArray) (X Y : Int) (d : Bool) (w : World) (hd : (!decide (X = Y)) = d) (ho : o.op = .binOp .neq 25 x y 25 := by rfl) (hx : ρ x = .agg #[.string s, .int .i64 X] := by rfl) (hy : ρ y = .agg #[.string s, .int .i64 Y] := by rfl) :
    (execOp ρ o).run Try.prog w = .ok (.value (.bool d)) w := by
  subst hd
  unfold execOp
  rw [ho]
  simp [go_sem, hx, hy]
  split <;> simp_all
end Go.Proofs.Ytcapioiigfldoaa
