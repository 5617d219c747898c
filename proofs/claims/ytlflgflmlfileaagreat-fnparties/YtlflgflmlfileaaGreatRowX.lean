/- Rows: slices of slices, insertion. -/
import Derived.Test.YtlflgflmlfileaaGreatRows
import Derived.Test.YtlflgflmlfileaaGreatHs4
namespace Go.Proofs.YtlflgflmlfileaaGreat
open Go.RowKit
set_option linter.unusedSimpArgs false
set_option linter.unusedVariables false
set_option maxRecDepth 100000 in
theorem exec_pickF {ρ : Operand → Value} {o : Oper} {x y z : Operand} (v : Value) (w : World) (ho : o.op = .pick x y z := by rfl) (hx : ρ x = .bool false := by rfl) (hz : ρ z = v := by rfl) :
    (execOp ρ o).run Tryz.prog w = .ok (.value v) w := by
  unfold execOp
  rw [ho]
  simp [go_sem, hx, hz]
set_option maxRecDepth 100000 in
theorem exec_lenT {t e sz bytes : Nat} {z : Value} (T : RowT t e sz bytes z) {ρ : Operand → Value} {o : Oper} {x : Operand} (A : Option Addr) (n c : Nat) (w : World) (ho : o.op = .call { callee := .builtin .len, args := #[x], argTypes := #[t] } := by rfl) (hx : ρ x = .slice A n c := by rfl) :
    (execOp ρ o).run Tryz.prog w = .ok (.value (.int .i64 (n : Int))) w := by
  unfold execOp
  rw [ho]
  have hu := T.ut
  simp [go_sem, hx, Builtin.len_, Go.underlying, hu]
set_option maxRecDepth 100000 in
theorem size_run {t e sz bytes : Nat} {z : Value} (T : RowT t e sz bytes z) (w : World) : (sizeOf e).run Tryz.prog w = .ok sz w := by
  obtain ⟨i0, hi, hz0, hz1, hz2⟩ := info_parts T.inf
  simp [Go.sizeOf, typeInfo, go_sem, hi, hz1]
set_option maxRecDepth 100000 in
theorem exec_sliceTo {t e sz bytes : Nat} {z : Value} (T : RowT t e sz bytes z) {ρ : Operand → Value} {o : Oper} {x y : Operand} (A : Option Addr) (n c k : Nat) (w : World) (hk : k ≤ n) (hc : n ≤ c) (hn : A = none → c = 0) (ho : o.op = .slice t x none (some y) none := by rfl) (hx : ρ x = .slice A n c := by rfl) (hy : ρ y = .int .i64 (k : Int) := by rfl) :
    (execOp ρ o).run Tryz.prog w = .ok (.value (.slice A k c)) w := by
  have hu := T.ut
  have hs := size_run T
  unfold execOp
  rw [ho]
  rcases A with _ | ad
  · obtain rfl := hn rfl
    obtain rfl : n = 0 := by omega
    obtain rfl : k = 0 := by omega
    simp [go_sem, hx, hy, hu, hs]
  · simp [go_sem, hx, hy, hu, hs, Nat.le_trans hk hc]
/-- Where list[k:] lies. -/
def fromA (A : Option Addr) (c k sz : Nat) : Option Addr := A.map fun ad => if c = k then ad else ad.add (k * sz)
set_option maxRecDepth 100000 in
theorem exec_sliceFrom {t e sz bytes : Nat} {z : Value} (T : RowT t e sz bytes z) {ρ : Operand → Value} {o : Oper} {x y : Operand} (A : Option Addr) (n c k : Nat) (w : World) (hk : k ≤ n) (hc : n ≤ c) (hn : A = none → c = 0) (ho : o.op = .slice t x (some y) none none := by rfl) (hx : ρ x = .slice A n c := by rfl) (hy : ρ y = .int .i64 (k : Int) := by rfl) :
    (execOp ρ o).run Tryz.prog w = .ok (.value (.slice (fromA A c k sz) (n - k) (c - k))) w := by
  have hu := T.ut
  have hs := size_run T
  unfold execOp
  rw [ho]
  rcases A with _ | ad
  · obtain rfl := hn rfl
    obtain rfl : n = 0 := by omega
    obtain rfl : k = 0 := by omega
    simp [go_sem, hx, hy, hu, hs, fromA]
  · simp [go_sem, hx, hy, hu, hs, hk, fromA]
    split <;> rfl
theorem fromA_nil {A : Option Addr} {c k sz : Nat} (hn : A = none → c = 0) : fromA A c k sz = none → c - k = 0 := by
  rcases A with _ | ad
  · intro _; have := hn rfl; omega
  · intro h; cases h
theorem Rws.from_ {w : World} {B : Nat} {A : Option Addr} {cs : List Value} {n c k sz : Nat} (h : Rws w B A cs) (hl : cs.length = n * sz) (hk : k ≤ n) (hc : n ≤ c) : Rws w B (fromA A c k sz) (cs.drop (k * sz)) := by
  by_cases hck : c = k
  · left
    obtain rfl : k = n := by omega
    rw [List.drop_of_length_le (by omega)]
  rcases h with h | ⟨b, off, e, hb, hcell⟩
  · left; rw [h]; simp
  · subst e
    refine .inr ⟨b, off + k * sz, ?_, hb, fun j hj => ?_⟩
    · unfold fromA; simp only [Option.map_some, if_neg hck, add_at]
    · rw [List.length_drop] at hj
      rw [Nat.add_assoc, hcell _ (by omega), List.getElem?_drop]
theorem Rws.to_ {w : World} {B : Nat} {A : Option Addr} {cs : List Value} (k : Nat) (h : Rws w B A cs) : Rws w B A (cs.take k) := by
  rcases h with h | ⟨b, off, e, hb, hcell⟩
  · left; rw [h]; simp
  · refine .inr ⟨b, off, e, hb, fun j hj => ?_⟩
    have h1 : j < k := by rw [List.length_take] at hj; omega
    have h2 : j < cs.length := by rw [List.length_take] at hj; omega
    rw [hcell _ h2, List.getElem?_take, if_pos h1]
theorem flat_take {α : Type} (enc : α → List Value) (sz : Nat) (h : ∀ x, (enc x).length = sz) (l : List α) (k : Nat) : (l.take k).flatMap enc = (l.flatMap enc).take (k * sz) := by
  induction l generalizing k with
  | nil => simp
  | cons x l ih =>
    cases k with
    | zero => simp
    | succ k =>
      rw [List.take_succ_cons, List.flatMap_cons, List.flatMap_cons, ih, List.take_append, h, Nat.succ_mul, List.take_of_length_le (l := enc x) (by rw [h]; omega), Nat.add_sub_cancel]
theorem flat_drop {α : Type} (enc : α → List Value) (sz : Nat) (h : ∀ x, (enc x).length = sz) (l : List α) (k : Nat) : (l.drop k).flatMap enc = (l.flatMap enc).drop (k * sz) := by
  induction l generalizing k with
  | nil => simp
  | cons x l ih =>
    cases k with
    | zero => simp
    | succ k =>
      rw [List.drop_succ_cons, List.flatMap_cons, ih, List.drop_append, h, Nat.succ_mul, List.drop_of_length_le (l := enc x) (by rw [h]; omega), List.nil_append, Nat.add_sub_cancel]
/-- A walk takes one operation whose run is known. -/
theorem wpList_exec {P : Program} {ops : Array Oper} {rest : List Oper} {o : Oper} {a : Act} {w w' : World} {Q : Exit → Act → World → Prop} (v : Value) (hgd : o.guard = none) (hr : (execOp a.eval o).run P w = .ok (.value v) w')
    (h : wpList P ops Q rest (a.put o.dst v) w') : wpList P ops Q (o :: rest) a w := by
  refine wpList_plain hgd fun K hK => ?_
  unfold Oper.wp
  rw [hr, Oper.upon_value]
  exact hK _ _ h
/-- x put at its place. -/
def insP {α : Type} (p : α → Bool) (l : List α) (x : α) : List α := l.takeWhile p ++ x :: l.dropWhile p
theorem while_at {α : Type} (p : α → Bool) (l : List α) (d : α) (k : Nat) (hk : k ≤ l.length) (hall : ∀ j, j < k → p (l.getD j d) = true) (hend : k < l.length → p (l.getD k d) = false) : l.takeWhile p = l.take k ∧ l.dropWhile p = l.drop k := by
  induction l generalizing k with
  | nil => simp
  | cons x l ih =>
    cases k with
    | zero =>
      have h0 : p x = false := hend (by simp)
      simp [List.takeWhile_cons, List.dropWhile_cons, h0]
    | succ k =>
      have h0 : p x = true := hall 0 (by omega)
      obtain ⟨h1, h2⟩ := ih k (by simpa using hk) (fun j hj => hall (j + 1) (by omega)) (fun h => hend (by simpa using h))
      simp [List.takeWhile_cons, List.dropWhile_cons, h0, h1, h2]
theorem insP_at {α : Type} (p : α → Bool) (l : List α) (x d : α) (k : Nat) (hk : k ≤ l.length) (hall : ∀ j, j < k → p (l.getD j d) = true) (hend : k < l.length → p (l.getD k d) = false) : insP p l x = l.take k ++ [x] ++ l.drop k := by
  obtain ⟨h1, h2⟩ := while_at p l d k hk hall hend
  unfold insP; rw [h1, h2]; simp
theorem insP_len {α : Type} (p : α → Bool) (l : List α) (x : α) : (insP p l x).length = l.length + 1 := by
  unfold insP
  have : (l.takeWhile p ++ l.dropWhile p).length = l.length := by rw [List.takeWhile_append_dropWhile]
  rw [List.length_append] at this
  simp only [List.length_append, List.length_cons]; omega
end Go.Proofs.YtlflgflmlfileaaGreat
