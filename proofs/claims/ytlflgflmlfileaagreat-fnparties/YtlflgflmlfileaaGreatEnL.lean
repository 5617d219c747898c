/- The laws' helpers over entries. -/
import Derived.Test.YtlflgflmlfileaaGreatRows
import Derived.Test.YtlflgflmlfileaaGreatRowX
namespace Go.Proofs.YtlflgflmlfileaaGreat
open Go.RowKit
set_option linter.unusedSimpArgs false
set_option linter.unusedVariables false
/-- Its numbers are ints. -/
def En.fits (x : En) : Prop := inI x.lev ∧ inI x.turn ∧ inI x.id ∧ inI x.size
/-- toEntryS halfway: k are copied over the cells Z. -/
def half_en (Z : List Value) (l : List En) (k : Nat) : List Value := (l.take k).flatMap enC ++ Z.drop (k * 4)
theorem half_en_zero (Z : List Value) (l : List En) : half_en Z l 0 = Z := by simp [half_en]
theorem half_en_all (Z : List Value) (l : List En) (hZ : Z.length = l.length * 4) : half_en Z l l.length = l.flatMap enC := by
  unfold half_en; rw [List.take_length, List.drop_of_length_le (by omega), List.append_nil]
theorem half_en_len (Z : List Value) (l : List En) (k : Nat) (hZ : Z.length = l.length * 4) (hk : k ≤ l.length) : (half_en Z l k).length = l.length * 4 := by
  unfold half_en
  rw [List.length_append, flat_len enC 4 enC_len, List.length_take, List.length_drop, hZ, Nat.min_eq_left hk]; omega
theorem half_en_set (Z : List Value) (l : List En) (k : Nat) (hZ : Z.length = l.length * 4) (hk : k < l.length) :
    ((((half_en Z l k).set (k * 4) (.int .i64 (l.getD k en0).lev)).set (k * 4 + 1) (.int .i64 (l.getD k en0).turn)).set (k * 4 + 2) (.int .i64 (l.getD k en0).id)).set (k * 4 + 3) (.int .i64 (l.getD k en0).size) = half_en Z l (k + 1) := by
  have hlen : ((l.take k).flatMap enC).length = k * 4 := by rw [flat_len enC 4 enC_len, List.length_take, Nat.min_eq_left (by omega)]
  obtain ⟨x0, x1, x2, x3, r, hd⟩ : ∃ x0 x1 x2 x3 r, Z.drop (k * 4) = x0 :: x1 :: x2 :: x3 :: r := by
    have : 4 ≤ (Z.drop (k * 4)).length := by rw [List.length_drop, hZ]; omega
    match h : Z.drop (k * 4), this with
    | x0 :: x1 :: x2 :: x3 :: r, _ => exact ⟨x0, x1, x2, x3, r, rfl⟩
  have hd3 : Z.drop ((k + 1) * 4) = r := by
    rw [show (k + 1) * 4 = 4 + k * 4 by omega, Nat.add_comm, ← List.drop_drop, hd]; rfl
  unfold half_en
  rw [hd, hd3, take_snoc l k en0 hk, List.flatMap_append, List.append_assoc]
  rw [List.set_append_right _ _ (by omega), hlen, Nat.sub_self, List.set_cons_zero]
  rw [List.set_append_right _ _ (by omega), hlen, show k * 4 + 1 - k * 4 = 1 by omega]
  rw [List.set_append_right _ _ (by omega), hlen, show k * 4 + 2 - k * 4 = 2 by omega]
  rw [List.set_append_right _ _ (by omega), hlen, show k * 4 + 3 - k * 4 = 3 by omega]
  rfl
/-- The marks from q on. -/
def mark_en (q : Nat) : En := ⟨(q : Int), ((q + 1 : Nat) : Int), ((q + 2 : Nat) : Int), ((q + 3 : Nat) : Int)⟩
def marks_en (k n : Nat) : List En := (List.range n).map fun i => mark_en (k + i * 4)
theorem marks_en_length (k n : Nat) : (marks_en k n).length = n := by simp [marks_en]
theorem marks_en_getD (k n i : Nat) (h : i < n) : (marks_en k n).getD i en0 = mark_en (k + i * 4) := by simp [marks_en, h]
theorem marks_en_succ (k j : Nat) : marks_en k (j + 1) = marks_en k j ++ [mark_en (k + j * 4)] := by simp [marks_en, List.range_succ]
def marked_en (l : List En) (k j : Nat) : List Value := (marks_en k j).flatMap enC ++ (l.flatMap enC).drop (j * 4)
theorem marked_en_zero (l : List En) (k : Nat) : marked_en l k 0 = l.flatMap enC := by simp [marked_en, marks_en]
theorem marked_en_all (l : List En) (k : Nat) : marked_en l k l.length = (marks_en k l.length).flatMap enC := by
  unfold marked_en; rw [List.drop_of_length_le (by rw [flat_len enC 4 enC_len]; omega), List.append_nil]
theorem marked_en_len (l : List En) (k j : Nat) (hj : j ≤ l.length) : (marked_en l k j).length = l.length * 4 := by
  unfold marked_en
  rw [List.length_append, flat_len enC 4 enC_len, marks_en_length, List.length_drop, flat_len enC 4 enC_len]; omega
theorem marked_en_set (l : List En) (k j : Nat) (hj : j < l.length) :
    ((((marked_en l k j).set (j * 4) (.int .i64 ((k + j * 4 : Nat) : Int))).set (j * 4 + 1) (.int .i64 ((k + j * 4 + 1 : Nat) : Int))).set (j * 4 + 2) (.int .i64 ((k + j * 4 + 2 : Nat) : Int))).set (j * 4 + 3) (.int .i64 ((k + j * 4 + 3 : Nat) : Int)) = marked_en l k (j + 1) := by
  have hlen : ((marks_en k j).flatMap enC).length = j * 4 := by rw [flat_len enC 4 enC_len, marks_en_length]
  have hl : (l.flatMap enC).length = l.length * 4 := flat_len enC 4 enC_len l
  obtain ⟨x0, x1, x2, x3, r, hd⟩ : ∃ x0 x1 x2 x3 r, (l.flatMap enC).drop (j * 4) = x0 :: x1 :: x2 :: x3 :: r := by
    have : 4 ≤ ((l.flatMap enC).drop (j * 4)).length := by rw [List.length_drop, hl]; omega
    match h : (l.flatMap enC).drop (j * 4), this with
    | x0 :: x1 :: x2 :: x3 :: r, _ => exact ⟨x0, x1, x2, x3, r, rfl⟩
  have hd3 : (l.flatMap enC).drop ((j + 1) * 4) = r := by
    rw [show (j + 1) * 4 = 4 + j * 4 by omega, Nat.add_comm, ← List.drop_drop, hd]; rfl
  unfold marked_en
  rw [hd, hd3, marks_en_succ, List.flatMap_append, List.append_assoc]
  rw [List.set_append_right _ _ (by omega), hlen, Nat.sub_self, List.set_cons_zero]
  rw [List.set_append_right _ _ (by omega), hlen, show j * 4 + 1 - j * 4 = 1 by omega]
  rw [List.set_append_right _ _ (by omega), hlen, show j * 4 + 2 - j * 4 = 2 by omega]
  rw [List.set_append_right _ _ (by omega), hlen, show j * 4 + 3 - j * 4 = 3 by omega]
  rfl
end Go.Proofs.YtlflgflmlfileaaGreat
