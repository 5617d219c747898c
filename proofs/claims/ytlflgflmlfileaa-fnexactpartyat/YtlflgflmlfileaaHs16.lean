/- WheelPut of the model. -/
import Derived.Test.YtlflgflmlfileaaRows
import Derived.Test.YtlflgflmlfileaaHs15
import Derived.Test.YtlflgflmlfileaaHs11
namespace Go.Proofs.Ytlflgflmlfileaa
open Go.RowKit
set_option linter.unusedSimpArgs false
set_option linter.unusedVariables false
/-- A wheel in new memory, and a bool. -/
def NewWB (w : World) (x : List (List Pn) × Bool) (e : Ending) (w' : World) : Prop :=
  ∃ A c sp, e = .returned (.tuple #[.agg #[.slice A sp.length c], .bool x.2]) ∧ sp.map (·.l) = x.1 ∧ OwnW w' w.heap.size A c sp ∧ Below w.heap.size w w'
/-- What WheelPut returns. -/
noncomputable def wheelPutV (ls : List (List Pn)) (p : Pn) : List (List Pn) × Bool :=
  if wheelB ls = true ∧ 1 ≤ p.at_ then
    (if wheelB (ls.set (p.at_.tmod 9).toNat (pnPut (ls.getD (p.at_.tmod 9).toNat []) p)) = true then (ls.set (p.at_.tmod 9).toNat (pnPut (ls.getD (p.at_.tmod 9).toNat []) p), true) else (ls, false))
  else (ls, false)
theorem flat_set (sq : List Sp) (k : Nat) (s : Sp) : (sq.flatMap spC).set k (.slice s.a s.l.length s.c) = (sq.set k s).flatMap spC := by
  have e : ∀ l : List Sp, l.flatMap spC = l.map (fun s => Value.slice s.a s.l.length s.c) := fun l => by
    induction l with
    | nil => rfl
    | cons x l ih => rw [List.flatMap_cons, ih]; rfl
  rw [e, e, List.map_set]
theorem allPn_set (sq : List Sp) (k : Nat) (s : Sp) (h : k < sq.length) : (allPn (sq.set k s)).length ≤ (allPn sq).length + s.l.length := by
  have e1 : sq.set k s = sq.take k ++ s :: sq.drop (k + 1) := List.set_eq_take_append_cons_drop .. |>.trans (by rw [if_pos h])
  have e2 : allPn sq = allPn (sq.take k) ++ allPn (sq.drop k) := by unfold allPn; rw [← List.flatMap_append, List.take_append_drop]
  have e3 : allPn (sq.drop k) = (sq.getD k sp0).l ++ allPn (sq.drop (k + 1)) := by unfold allPn; rw [drop_getD sq k sp0 h, List.flatMap_cons]
  rw [e2, e3, e1]
  unfold allPn
  simp only [List.flatMap_append, List.flatMap_cons, List.length_append]
  omega
structure WP (w u : World) (A : Option Addr) (c : Nat) (sp : List Sp) (p : Pn) (g : Nat) (P : Option Addr) (cp : Nat) (sq : List Sp) : Prop where
  T : Three w u (.cells #[.slice A sp.length c] 118) (.cells #[.int .i64 p.at_, .int .i64 p.id] 177) (.cells #[.slice none 0 0] 118)
  H : u.heap[g]? = some (.cells #[.slice P sq.length cp] 118)
  O : OwnW u (w.heap.size + 3) P cp sq
theorem WP.call {w u u' : World} {A : Option Addr} {c : Nat} {sp : List Sp} {p : Pn} {g : Nat} {P : Option Addr} {cp : Nat} {sq : List Sp} (h : WP w u A c sp p g P cp sq) (b : Below u.heap.size u u') : WP w u' A c sp p g P cp sq :=
  ⟨h.T.call b, blk_call h.H b, h.O.below b⟩
end Go.Proofs.Ytlflgflmlfileaa
