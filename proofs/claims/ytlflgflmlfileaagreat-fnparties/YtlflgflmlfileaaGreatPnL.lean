/- The laws' helpers over pins. -/
import Derived.Test.YtlflgflmlfileaaGreatRows
import Derived.Test.YtlflgflmlfileaaGreatRowX
namespace Go.Proofs.YtlflgflmlfileaaGreat
open Go.RowKit
set_option linter.unusedSimpArgs false
set_option linter.unusedVariables false
/-- Its numbers are ints. -/
def Pn.fits (x : Pn) : Prop := inI x.at_ ∧ inI x.id
/-- toPinS halfway: k are copied over the cells Z. -/
def half_pn (Z : List Value) (l : List Pn) (k : Nat) : List Value := (l.take k).flatMap pnC ++ Z.drop (k * 2)
theorem half_pn_zero (Z : List Value) (l : List Pn) : half_pn Z l 0 = Z := by simp [half_pn]
theorem half_pn_all (Z : List Value) (l : List Pn) (hZ : Z.length = l.length * 2) : half_pn Z l l.length = l.flatMap pnC := by
  unfold half_pn; rw [List.take_length, List.drop_of_length_le (by omega), List.append_nil]
theorem half_pn_len (Z : List Value) (l : List Pn) (k : Nat) (hZ : Z.length = l.length * 2) (hk : k ≤ l.length) : (half_pn Z l k).length = l.length * 2 := by
  unfold half_pn
  rw [List.length_append, flat_len pnC 2 pnC_len, List.length_take, List.length_drop, hZ, Nat.min_eq_left hk]; omega
theorem half_pn_set (Z : List Value) (l : List Pn) (k : Nat) (hZ : Z.length = l.length * 2) (hk : k < l.length) :
    ((half_pn Z l k).set (k * 2) (.int .i64 (l.getD k pn0).at_)).set (k * 2 + 1) (.int .i64 (l.getD k pn0).id) = half_pn Z l (k + 1) := by
  have hlen : ((l.take k).flatMap pnC).length = k * 2 := by rw [flat_len pnC 2 pnC_len, List.length_take, Nat.min_eq_left (by omega)]
  obtain ⟨x0, x1, r, hd⟩ : ∃ x0 x1 r, Z.drop (k * 2) = x0 :: x1 :: r := by
    have : 2 ≤ (Z.drop (k * 2)).length := by rw [List.length_drop, hZ]; omega
    match h : Z.drop (k * 2), this with
    | x0 :: x1 :: r, _ => exact ⟨x0, x1, r, rfl⟩
  have hd3 : Z.drop ((k + 1) * 2) = r := by
    rw [show (k + 1) * 2 = 2 + k * 2 by omega, Nat.add_comm, ← List.drop_drop, hd]; rfl
  unfold half_pn
  rw [hd, hd3, take_snoc l k pn0 hk, List.flatMap_append, List.append_assoc]
  rw [List.set_append_right _ _ (by omega), hlen, Nat.sub_self, List.set_cons_zero]
  rw [List.set_append_right _ _ (by omega), hlen, show k * 2 + 1 - k * 2 = 1 by omega]
  rfl
/-- The marks from q on. -/
def mark_pn (q : Nat) : Pn := ⟨(q : Int), ((q + 1 : Nat) : Int)⟩
def marks_pn (k n : Nat) : List Pn := (List.range n).map fun i => mark_pn (k + i * 2)
theorem marks_pn_length (k n : Nat) : (marks_pn k n).length = n := by simp [marks_pn]
theorem marks_pn_getD (k n i : Nat) (h : i < n) : (marks_pn k n).getD i pn0 = mark_pn (k + i * 2) := by simp [marks_pn, h]
theorem marks_pn_succ (k j : Nat) : marks_pn k (j + 1) = marks_pn k j ++ [mark_pn (k + j * 2)] := by simp [marks_pn, List.range_succ]
def marked_pn (l : List Pn) (k j : Nat) : List Value := (marks_pn k j).flatMap pnC ++ (l.flatMap pnC).drop (j * 2)
theorem marked_pn_zero (l : List Pn) (k : Nat) : marked_pn l k 0 = l.flatMap pnC := by simp [marked_pn, marks_pn]
theorem marked_pn_all (l : List Pn) (k : Nat) : marked_pn l k l.length = (marks_pn k l.length).flatMap pnC := by
  unfold marked_pn; rw [List.drop_of_length_le (by rw [flat_len pnC 2 pnC_len]; omega), List.append_nil]
theorem marked_pn_len (l : List Pn) (k j : Nat) (hj : j ≤ l.length) : (marked_pn l k j).length = l.length * 2 := by
  unfold marked_pn
  rw [List.length_append, flat_len pnC 2 pnC_len, marks_pn_length, List.length_drop, flat_len pnC 2 pnC_len]; omega
theorem marked_pn_set (l : List Pn) (k j : Nat) (hj : j < l.length) :
    ((marked_pn l k j).set (j * 2) (.int .i64 ((k + j * 2 : Nat) : Int))).set (j * 2 + 1) (.int .i64 ((k + j * 2 + 1 : Nat) : Int)) = marked_pn l k (j + 1) := by
  have hlen : ((marks_pn k j).flatMap pnC).length = j * 2 := by rw [flat_len pnC 2 pnC_len, marks_pn_length]
  have hl : (l.flatMap pnC).length = l.length * 2 := flat_len pnC 2 pnC_len l
  obtain ⟨x0, x1, r, hd⟩ : ∃ x0 x1 r, (l.flatMap pnC).drop (j * 2) = x0 :: x1 :: r := by
    have : 2 ≤ ((l.flatMap pnC).drop (j * 2)).length := by rw [List.length_drop, hl]; omega
    match h : (l.flatMap pnC).drop (j * 2), this with
    | x0 :: x1 :: r, _ => exact ⟨x0, x1, r, rfl⟩
  have hd3 : (l.flatMap pnC).drop ((j + 1) * 2) = r := by
    rw [show (j + 1) * 2 = 2 + j * 2 by omega, Nat.add_comm, ← List.drop_drop, hd]; rfl
  unfold marked_pn
  rw [hd, hd3, marks_pn_succ, List.flatMap_append, List.append_assoc]
  rw [List.set_append_right _ _ (by omega), hlen, Nat.sub_self, List.set_cons_zero]
  rw [List.set_append_right _ _ (by omega), hlen, show j * 2 + 1 - j * 2 = 1 by omega]
  rfl
end Go.Proofs.YtlflgflmlfileaaGreat
