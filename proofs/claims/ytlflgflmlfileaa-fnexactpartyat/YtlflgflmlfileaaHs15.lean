/- WheelOk of the model. -/
import Derived.Test.YtlflgflmlfileaaRows
import Derived.Test.YtlflgflmlfileaaHs14
namespace Go.Proofs.Ytlflgflmlfileaa
open Go.RowKit
set_option linter.unusedSimpArgs false
set_option linter.unusedVariables false
set_option maxRecDepth 100000 in
theorem exec_fldPn0 {ρ : Operand → Value} {o : Oper} {x : Operand} (b off : Nat) (w : World) (ho : o.op = .fieldAddr 177 x 0 := by rfl) (hx : ρ x = .pointer (some ⟨b, off, none⟩) := by rfl) :
    (execOp ρ o).run Try.prog w = .ok (.value (.pointer (some ⟨b, off, none⟩))) w := by
  unfold execOp
  rw [ho]
  simp [go_sem, hx]
set_option maxRecDepth 100000 in
theorem exec_rem9 {ρ : Operand → Value} {o : Oper} {x : Operand} (X : Int) (w : World) (ho : o.op = .binOp .rem 3 x (.const (.int .i64 9)) 3 := by rfl) (hx : ρ x = .int .i64 X := by rfl) (hc : ρ (.const (.int .i64 9)) = .int .i64 9 := by rfl) :
    (execOp ρ o).run Try.prog w = .ok (.value (.int .i64 (X.tmod 9))) w := by
  have h1 : -9 < X.tmod 9 ∧ X.tmod 9 < 9 := ⟨Int.lt_tmod_of_pos _ (by omega), Int.tmod_lt_of_pos _ (by omega)⟩
  have h2 : IntKind.i64.wrap (X.tmod 9) = X.tmod 9 := by rw [IntKind.wrap_i64]; omega
  unfold execOp
  rw [ho]
  simp [go_sem, hx, hc, h2]
def Pn.inn (x : Pn) : Prop := (1 ≤ x.at_ ∧ x.at_ ≤ 1000008) ∧ (1 ≤ x.id ∧ x.id ≤ 999)
def pnsOk (q : List Pn) (n : Nat) : Prop := ∀ i, i < n → (q.getD i pn0).inn ∧ ∀ k, k < i → (q.getD k pn0).id ≠ (q.getD i pn0).id
def spokeOk (i : Nat) (l : List Pn) (n : Nat) : Prop := ∀ k, k < n → (l.getD k pn0).at_.tmod 9 = (i : Int) ∧ (0 < k → Pn.less (l.getD (k - 1) pn0) (l.getD k pn0))
/-- What WheelOk tells. -/
def wheelFine (ls : List (List Pn)) : Prop := ls.length = 9 ∧ ls.flatten.length ≤ 10 ∧ pnsOk ls.flatten ls.flatten.length ∧ ∀ i, i < ls.length → spokeOk i (ls.getD i []) (ls.getD i []).length
noncomputable def wheelB (ls : List (List Pn)) : Bool := @decide (wheelFine ls) (Classical.propDecidable _)
theorem wheelB_yes {ls : List (List Pn)} (h : wheelFine ls) : wheelB ls = true := by unfold wheelB; exact @decide_eq_true _ (Classical.propDecidable _) h
theorem wheelB_no {ls : List (List Pn)} (h : ¬ wheelFine ls) : wheelB ls = false := by unfold wheelB; exact @decide_eq_false _ (Classical.propDecidable _) h
theorem wheelB_iff {ls : List (List Pn)} (h : wheelB ls = true) : wheelFine ls := by unfold wheelB at h; exact @of_decide_eq_true _ (Classical.propDecidable _) h
theorem ls_at (sp : List Sp) (i : Nat) : (sp.map (fun s => s.l)).getD i [] = (sp.getD i sp0).l := by
  simp only [List.getD_eq_getElem?_getD, List.getElem?_map]
  cases sp[i]? <;> rfl
theorem ls_flat (sp : List Sp) : (sp.map (fun s => s.l)).flatten = allPn sp := by unfold allPn; rw [List.flatMap_def]
end Go.Proofs.Ytlflgflmlfileaa
