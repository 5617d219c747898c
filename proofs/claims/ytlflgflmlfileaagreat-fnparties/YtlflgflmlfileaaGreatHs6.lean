/- Entries, pins: small tests. -/
import Derived.Test.YtlflgflmlfileaaGreatRows
import Derived.Test.YtlflgflmlfileaaGreatHs3
namespace Go.Proofs.YtlflgflmlfileaaGreat
open Go.RowKit
set_option linter.unusedSimpArgs false
set_option linter.unusedVariables false
set_option maxRecDepth 100000 in
theorem exec_neqI {ρ : Operand → Value} {o : Oper} {x y : Operand} (X Y : Int) (d : Bool) (w : World) (hd : (X != Y) = d) (ho : o.op = .binOp .neq 3 x y 3 := by rfl) (hx : ρ x = .int .i64 X := by rfl) (hy : ρ y = .int .i64 Y := by rfl) :
    (execOp ρ o).run Tryz.prog w = .ok (.value (.bool d)) w := by
  subst hd
  unfold execOp
  rw [ho]
  simp [go_sem, hx, hy]
set_option maxRecDepth 100000 in
theorem exec_gtrI {ρ : Operand → Value} {o : Oper} {x y : Operand} (X Y : Int) (d : Bool) (w : World) (hd : decide (Y < X) = d) (ho : o.op = .binOp .gtr 3 x y 3 := by rfl) (hx : ρ x = .int .i64 X := by rfl) (hy : ρ y = .int .i64 Y := by rfl) :
    (execOp ρ o).run Tryz.prog w = .ok (.value (.bool d)) w := by
  subst hd
  unfold execOp
  rw [ho]
  simp [go_sem, hx, hy]
def En.less (a b : En) : Prop := a.lev < b.lev ∨ a.lev = b.lev ∧ a.turn < b.turn
instance (a b : En) : Decidable (En.less a b) := by unfold En.less; infer_instance
def Pn.less (a b : Pn) : Prop := a.at_ < b.at_ ∨ a.at_ = b.at_ ∧ a.id < b.id
instance (a b : Pn) : Decidable (Pn.less a b) := by unfold Pn.less; infer_instance
set_option maxRecDepth 100000 in
set_option maxHeartbeats 800000 in
theorem entryLess_spec (a b : En) (w : World) : Calls Tryz.prog 93 #[enA a, enA b] w fun e w' => e = .returned (.bool (decide (En.less a b))) ∧ Below w.heap.size w w' := by
  have b0 : Hid (Below w.heap.size w ((w.alloc (.cells #[.int .i64 a.lev, .int .i64 a.turn, .int .i64 a.id, .int .i64 a.size] 100)).alloc (.cells #[.int .i64 b.lev, .int .i64 b.turn, .int .i64 b.id, .int .i64 b.size] 100))) := ((Below.refl _ _).alloc (Nat.le_refl _) _).alloc (by simp) _
  have hd : ∀ q, decide (En.less a b) = q → Hid (decide (En.less a b) = q) := fun q h => h
  unfold enA
  by_cases h1 : a.lev < b.lev
  · have H := hd true (decide_eq_true (.inl h1))
    clear hd
    go_enter Tryz.func93, Tryz.ntmps93
    go_wp2
    go_ret
    exact ⟨by rw [H.out] <;> rfl, b0.out⟩
  have h1' : decide (a.lev < b.lev) = false := by simpa using h1
  by_cases h2 : a.lev = b.lev
  rotate_left
  · have H := hd false (decide_eq_false (fun h => h.elim h1 (fun x => h2 x.1)))
    have h2' : (a.lev == b.lev) = false := by simp [h2]
    clear hd
    go_enter Tryz.func93, Tryz.ntmps93
    go_wp2
    go_ret
    exact ⟨by rw [H.out] <;> rfl, b0.out⟩
  have h2' : (a.lev == b.lev) = true := by simp [h2]
  by_cases h3 : a.turn < b.turn
  · have H := hd true (decide_eq_true (.inr ⟨h2, h3⟩))
    clear hd h2
    go_enter Tryz.func93, Tryz.ntmps93
    go_wp2
    go_ret
    exact ⟨by rw [H.out] <;> rfl, b0.out⟩
  · have H := hd false (decide_eq_false (fun h => h.elim h1 (fun x => h3 x.2)))
    have h3' : decide (a.turn < b.turn) = false := by simpa using h3
    clear hd h2
    go_enter Tryz.func93, Tryz.ntmps93
    go_wp2
    go_ret
    exact ⟨by rw [H.out] <;> rfl, b0.out⟩
set_option maxRecDepth 100000 in
set_option maxHeartbeats 800000 in
theorem l9Less_spec (a b : Pn) (w : World) : Calls Tryz.prog 90 #[pnA a, pnA b] w fun e w' => e = .returned (.bool (decide (Pn.less a b))) ∧ Below w.heap.size w w' := by
  have b0 : Hid (Below w.heap.size w ((w.alloc (.cells #[.int .i64 a.at_, .int .i64 a.id] 95)).alloc (.cells #[.int .i64 b.at_, .int .i64 b.id] 95))) := ((Below.refl _ _).alloc (Nat.le_refl _) _).alloc (by simp) _
  have hd : ∀ q, decide (Pn.less a b) = q → Hid (decide (Pn.less a b) = q) := fun q h => h
  unfold pnA
  by_cases h1 : a.at_ < b.at_
  · have H := hd true (decide_eq_true (.inl h1))
    clear hd
    go_enter Tryz.func90, Tryz.ntmps90
    go_wp2
    go_ret
    exact ⟨by rw [H.out] <;> rfl, b0.out⟩
  have h1' : decide (a.at_ < b.at_) = false := by simpa using h1
  by_cases h2 : a.at_ = b.at_
  rotate_left
  · have H := hd false (decide_eq_false (fun h => h.elim h1 (fun x => h2 x.1)))
    have h2' : (a.at_ == b.at_) = false := by simp [h2]
    clear hd
    go_enter Tryz.func90, Tryz.ntmps90
    go_wp2
    go_ret
    exact ⟨by rw [H.out] <;> rfl, b0.out⟩
  have h2' : (a.at_ == b.at_) = true := by simp [h2]
  by_cases h3 : a.id < b.id
  · have H := hd true (decide_eq_true (.inr ⟨h2, h3⟩))
    clear hd h2
    go_enter Tryz.func90, Tryz.ntmps90
    go_wp2
    go_ret
    exact ⟨by rw [H.out] <;> rfl, b0.out⟩
  · have H := hd false (decide_eq_false (fun h => h.elim h1 (fun x => h3 x.2)))
    have h3' : decide (a.id < b.id) = false := by simpa using h3
    clear hd h2
    go_enter Tryz.func90, Tryz.ntmps90
    go_wp2
    go_ret
    exact ⟨by rw [H.out] <;> rfl, b0.out⟩
end Go.Proofs.YtlflgflmlfileaaGreat
