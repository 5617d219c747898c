/- The laws' helpers over ledgers. -/
import Derived.Test.YtlflgflmlfileaaGreatRows
import Derived.Test.YtlflgflmlfileaaGreatHs6
import Derived.Test.YtlflgflmlfileaaGreatG6
namespace Go.Proofs.YtlflgflmlfileaaGreat
open Go.RowKit
set_option linter.unusedSimpArgs false
set_option linter.unusedVariables false
/-- Its numbers are ints. -/
def Le.fits (x : Le) : Prop := inI x.total ∧ inI x.free ∧ inI x.held ∧ inI x.sold ∧ inI x.tied
/-- toLedgerS halfway: k are copied over the cells Z. -/
def half_le (Z : List Value) (l : List Le) (k : Nat) : List Value := (l.take k).flatMap leC ++ Z.drop (k * 5)
theorem half_le_zero (Z : List Value) (l : List Le) : half_le Z l 0 = Z := by simp [half_le]
theorem half_le_all (Z : List Value) (l : List Le) (hZ : Z.length = l.length * 5) : half_le Z l l.length = l.flatMap leC := by
  unfold half_le; rw [List.take_length, List.drop_of_length_le (by omega), List.append_nil]
theorem half_le_len (Z : List Value) (l : List Le) (k : Nat) (hZ : Z.length = l.length * 5) (hk : k ≤ l.length) : (half_le Z l k).length = l.length * 5 := by
  unfold half_le
  rw [List.length_append, flat_len leC 5 leC_len, List.length_take, List.length_drop, hZ, Nat.min_eq_left hk]; omega
theorem half_le_set (Z : List Value) (l : List Le) (k : Nat) (hZ : Z.length = l.length * 5) (hk : k < l.length) :
    (((((half_le Z l k).set (k * 5) (.int .i64 (l.getD k le0).total)).set (k * 5 + 1) (.int .i64 (l.getD k le0).free)).set (k * 5 + 2) (.int .i64 (l.getD k le0).held)).set (k * 5 + 3) (.int .i64 (l.getD k le0).sold)).set (k * 5 + 4) (.int .i64 (l.getD k le0).tied) = half_le Z l (k + 1) := by
  have hlen : ((l.take k).flatMap leC).length = k * 5 := by rw [flat_len leC 5 leC_len, List.length_take, Nat.min_eq_left (by omega)]
  obtain ⟨x0, x1, x2, x3, x4, r, hd⟩ : ∃ x0 x1 x2 x3 x4 r, Z.drop (k * 5) = x0 :: x1 :: x2 :: x3 :: x4 :: r := by
    have : 5 ≤ (Z.drop (k * 5)).length := by rw [List.length_drop, hZ]; omega
    match h : Z.drop (k * 5), this with
    | x0 :: x1 :: x2 :: x3 :: x4 :: r, _ => exact ⟨x0, x1, x2, x3, x4, r, rfl⟩
  have hd3 : Z.drop ((k + 1) * 5) = r := by
    rw [show (k + 1) * 5 = 5 + k * 5 by omega, Nat.add_comm, ← List.drop_drop, hd]; rfl
  unfold half_le
  rw [hd, hd3, take_snoc l k le0 hk, List.flatMap_append, List.append_assoc]
  rw [List.set_append_right _ _ (by omega), hlen, Nat.sub_self, List.set_cons_zero]
  rw [List.set_append_right _ _ (by omega), hlen, show k * 5 + 1 - k * 5 = 1 by omega]
  rw [List.set_append_right _ _ (by omega), hlen, show k * 5 + 2 - k * 5 = 2 by omega]
  rw [List.set_append_right _ _ (by omega), hlen, show k * 5 + 3 - k * 5 = 3 by omega]
  rw [List.set_append_right _ _ (by omega), hlen, show k * 5 + 4 - k * 5 = 4 by omega]
  rfl
/-- The marks from q on. -/
def mark_le (q : Nat) : Le := ⟨(q : Int), ((q + 1 : Nat) : Int), ((q + 2 : Nat) : Int), ((q + 3 : Nat) : Int), ((q + 4 : Nat) : Int)⟩
def marks_le (k n : Nat) : List Le := (List.range n).map fun i => mark_le (k + i * 5)
theorem marks_le_length (k n : Nat) : (marks_le k n).length = n := by simp [marks_le]
theorem marks_le_getD (k n i : Nat) (h : i < n) : (marks_le k n).getD i le0 = mark_le (k + i * 5) := by simp [marks_le, h]
theorem marks_le_succ (k j : Nat) : marks_le k (j + 1) = marks_le k j ++ [mark_le (k + j * 5)] := by simp [marks_le, List.range_succ]
def marked_le (l : List Le) (k j : Nat) : List Value := (marks_le k j).flatMap leC ++ (l.flatMap leC).drop (j * 5)
theorem marked_le_zero (l : List Le) (k : Nat) : marked_le l k 0 = l.flatMap leC := by simp [marked_le, marks_le]
theorem marked_le_all (l : List Le) (k : Nat) : marked_le l k l.length = (marks_le k l.length).flatMap leC := by
  unfold marked_le; rw [List.drop_of_length_le (by rw [flat_len leC 5 leC_len]; omega), List.append_nil]
theorem marked_le_len (l : List Le) (k j : Nat) (hj : j ≤ l.length) : (marked_le l k j).length = l.length * 5 := by
  unfold marked_le
  rw [List.length_append, flat_len leC 5 leC_len, marks_le_length, List.length_drop, flat_len leC 5 leC_len]; omega
theorem marked_le_set (l : List Le) (k j : Nat) (hj : j < l.length) :
    (((((marked_le l k j).set (j * 5) (.int .i64 ((k + j * 5 : Nat) : Int))).set (j * 5 + 1) (.int .i64 ((k + j * 5 + 1 : Nat) : Int))).set (j * 5 + 2) (.int .i64 ((k + j * 5 + 2 : Nat) : Int))).set (j * 5 + 3) (.int .i64 ((k + j * 5 + 3 : Nat) : Int))).set (j * 5 + 4) (.int .i64 ((k + j * 5 + 4 : Nat) : Int)) = marked_le l k (j + 1) := by
  have hlen : ((marks_le k j).flatMap leC).length = j * 5 := by rw [flat_len leC 5 leC_len, marks_le_length]
  have hl : (l.flatMap leC).length = l.length * 5 := flat_len leC 5 leC_len l
  obtain ⟨x0, x1, x2, x3, x4, r, hd⟩ : ∃ x0 x1 x2 x3 x4 r, (l.flatMap leC).drop (j * 5) = x0 :: x1 :: x2 :: x3 :: x4 :: r := by
    have : 5 ≤ ((l.flatMap leC).drop (j * 5)).length := by rw [List.length_drop, hl]; omega
    match h : (l.flatMap leC).drop (j * 5), this with
    | x0 :: x1 :: x2 :: x3 :: x4 :: r, _ => exact ⟨x0, x1, x2, x3, x4, r, rfl⟩
  have hd3 : (l.flatMap leC).drop ((j + 1) * 5) = r := by
    rw [show (j + 1) * 5 = 5 + j * 5 by omega, Nat.add_comm, ← List.drop_drop, hd]; rfl
  unfold marked_le
  rw [hd, hd3, marks_le_succ, List.flatMap_append, List.append_assoc]
  rw [List.set_append_right _ _ (by omega), hlen, Nat.sub_self, List.set_cons_zero]
  rw [List.set_append_right _ _ (by omega), hlen, show j * 5 + 1 - j * 5 = 1 by omega]
  rw [List.set_append_right _ _ (by omega), hlen, show j * 5 + 2 - j * 5 = 2 by omega]
  rw [List.set_append_right _ _ (by omega), hlen, show j * 5 + 3 - j * 5 = 3 by omega]
  rw [List.set_append_right _ _ (by omega), hlen, show j * 5 + 4 - j * 5 = 4 by omega]
  rfl
end Go.Proofs.YtlflgflmlfileaaGreat
