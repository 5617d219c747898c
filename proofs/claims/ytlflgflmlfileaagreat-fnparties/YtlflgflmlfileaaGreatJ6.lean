/- Texts laid together: PtW, PtyL. -/
import Derived.Test.YtlflgflmlfileaaGreatRows
import Derived.Test.YtlflgflmlfileaaGreatHs3
import Derived.Test.YtlflgflmlfileaaGreatRowX
namespace Go.Proofs.YtlflgflmlfileaaGreat
open Go.RowKit
set_option linter.unusedSimpArgs false
set_option linter.unusedVariables false
def guA (p : Pt) : Value := .agg #[.int .i64 p.id, .int .i64 p.cabin, .int .i64 p.from_, .int .i64 p.size, .int .i64 p.tier, .int .i64 p.since, .int .i64 p.turn, .int .i64 p.state, .int .i64 p.until_, .int .i64 p.asked]
/-- Its numbers are ints. -/
def Pt.fits (x : Pt) : Prop := inI x.id ∧ inI x.cabin ∧ inI x.from_ ∧ inI x.size ∧ inI x.tier ∧ inI x.since ∧ inI x.turn ∧ inI x.state ∧ inI x.until_ ∧ inI x.asked
/-- toPartyS halfway: k are copied over the cells Z. -/
def half_pt (Z : List Value) (l : List Pt) (k : Nat) : List Value := (l.take k).flatMap ptC ++ Z.drop (k * 10)
theorem half_pt_zero (Z : List Value) (l : List Pt) : half_pt Z l 0 = Z := by simp [half_pt]
theorem half_pt_all (Z : List Value) (l : List Pt) (hZ : Z.length = l.length * 10) : half_pt Z l l.length = l.flatMap ptC := by
  unfold half_pt; rw [List.take_length, List.drop_of_length_le (by omega), List.append_nil]
theorem half_pt_len (Z : List Value) (l : List Pt) (k : Nat) (hZ : Z.length = l.length * 10) (hk : k ≤ l.length) : (half_pt Z l k).length = l.length * 10 := by
  unfold half_pt
  rw [List.length_append, flat_len ptC 10 ptC_len, List.length_take, List.length_drop, hZ, Nat.min_eq_left hk]; omega
theorem half_pt_set (Z : List Value) (l : List Pt) (k : Nat) (hZ : Z.length = l.length * 10) (hk : k < l.length) :
    ((((((((((half_pt Z l k).set (k * 10) (.int .i64 (l.getD k pt0).id)).set (k * 10 + 1) (.int .i64 (l.getD k pt0).cabin)).set (k * 10 + 2) (.int .i64 (l.getD k pt0).from_)).set (k * 10 + 3) (.int .i64 (l.getD k pt0).size)).set (k * 10 + 4) (.int .i64 (l.getD k pt0).tier)).set (k * 10 + 5) (.int .i64 (l.getD k pt0).since)).set (k * 10 + 6) (.int .i64 (l.getD k pt0).turn)).set (k * 10 + 7) (.int .i64 (l.getD k pt0).state)).set (k * 10 + 8) (.int .i64 (l.getD k pt0).until_)).set (k * 10 + 9) (.int .i64 (l.getD k pt0).asked) = half_pt Z l (k + 1) := by
  have hlen : ((l.take k).flatMap ptC).length = k * 10 := by rw [flat_len ptC 10 ptC_len, List.length_take, Nat.min_eq_left (by omega)]
  obtain ⟨x0, x1, x2, x3, x4, x5, x6, x7, x8, x9, r, hd⟩ : ∃ x0 x1 x2 x3 x4 x5 x6 x7 x8 x9 r, Z.drop (k * 10) = x0 :: x1 :: x2 :: x3 :: x4 :: x5 :: x6 :: x7 :: x8 :: x9 :: r := by
    have : 10 ≤ (Z.drop (k * 10)).length := by rw [List.length_drop, hZ]; omega
    match h : Z.drop (k * 10), this with
    | x0 :: x1 :: x2 :: x3 :: x4 :: x5 :: x6 :: x7 :: x8 :: x9 :: r, _ => exact ⟨x0, x1, x2, x3, x4, x5, x6, x7, x8, x9, r, rfl⟩
  have hd3 : Z.drop ((k + 1) * 10) = r := by
    rw [show (k + 1) * 10 = 10 + k * 10 by omega, Nat.add_comm, ← List.drop_drop, hd]; rfl
  unfold half_pt
  rw [hd, hd3, take_snoc l k pt0 hk, List.flatMap_append, List.append_assoc]
  rw [List.set_append_right _ _ (by omega), hlen, Nat.sub_self, List.set_cons_zero]
  rw [List.set_append_right _ _ (by omega), hlen, show k * 10 + 1 - k * 10 = 1 by omega]
  rw [List.set_append_right _ _ (by omega), hlen, show k * 10 + 2 - k * 10 = 2 by omega]
  rw [List.set_append_right _ _ (by omega), hlen, show k * 10 + 3 - k * 10 = 3 by omega]
  rw [List.set_append_right _ _ (by omega), hlen, show k * 10 + 4 - k * 10 = 4 by omega]
  rw [List.set_append_right _ _ (by omega), hlen, show k * 10 + 5 - k * 10 = 5 by omega]
  rw [List.set_append_right _ _ (by omega), hlen, show k * 10 + 6 - k * 10 = 6 by omega]
  rw [List.set_append_right _ _ (by omega), hlen, show k * 10 + 7 - k * 10 = 7 by omega]
  rw [List.set_append_right _ _ (by omega), hlen, show k * 10 + 8 - k * 10 = 8 by omega]
  rw [List.set_append_right _ _ (by omega), hlen, show k * 10 + 9 - k * 10 = 9 by omega]
  rfl
/-- The marks from q on. -/
def mark_pt (q : Nat) : Pt := ⟨(q : Int), ((q + 1 : Nat) : Int), ((q + 2 : Nat) : Int), ((q + 3 : Nat) : Int), ((q + 4 : Nat) : Int), ((q + 5 : Nat) : Int), ((q + 6 : Nat) : Int), ((q + 7 : Nat) : Int), ((q + 8 : Nat) : Int), ((q + 9 : Nat) : Int)⟩
def marks_pt (k n : Nat) : List Pt := (List.range n).map fun i => mark_pt (k + i * 10)
theorem marks_pt_length (k n : Nat) : (marks_pt k n).length = n := by simp [marks_pt]
theorem marks_pt_getD (k n i : Nat) (h : i < n) : (marks_pt k n).getD i pt0 = mark_pt (k + i * 10) := by simp [marks_pt, h]
theorem marks_pt_succ (k j : Nat) : marks_pt k (j + 1) = marks_pt k j ++ [mark_pt (k + j * 10)] := by simp [marks_pt, List.range_succ]
def marked_pt (l : List Pt) (k j : Nat) : List Value := (marks_pt k j).flatMap ptC ++ (l.flatMap ptC).drop (j * 10)
theorem marked_pt_zero (l : List Pt) (k : Nat) : marked_pt l k 0 = l.flatMap ptC := by simp [marked_pt, marks_pt]
theorem marked_pt_all (l : List Pt) (k : Nat) : marked_pt l k l.length = (marks_pt k l.length).flatMap ptC := by
  unfold marked_pt; rw [List.drop_of_length_le (by rw [flat_len ptC 10 ptC_len]; omega), List.append_nil]
theorem marked_pt_len (l : List Pt) (k j : Nat) (hj : j ≤ l.length) : (marked_pt l k j).length = l.length * 10 := by
  unfold marked_pt
  rw [List.length_append, flat_len ptC 10 ptC_len, marks_pt_length, List.length_drop, flat_len ptC 10 ptC_len]; omega
theorem marked_pt_set (l : List Pt) (k j : Nat) (hj : j < l.length) :
    ((((((((((marked_pt l k j).set (j * 10) (.int .i64 ((k + j * 10 : Nat) : Int))).set (j * 10 + 1) (.int .i64 ((k + j * 10 + 1 : Nat) : Int))).set (j * 10 + 2) (.int .i64 ((k + j * 10 + 2 : Nat) : Int))).set (j * 10 + 3) (.int .i64 ((k + j * 10 + 3 : Nat) : Int))).set (j * 10 + 4) (.int .i64 ((k + j * 10 + 4 : Nat) : Int))).set (j * 10 + 5) (.int .i64 ((k + j * 10 + 5 : Nat) : Int))).set (j * 10 + 6) (.int .i64 ((k + j * 10 + 6 : Nat) : Int))).set (j * 10 + 7) (.int .i64 ((k + j * 10 + 7 : Nat) : Int))).set (j * 10 + 8) (.int .i64 ((k + j * 10 + 8 : Nat) : Int))).set (j * 10 + 9) (.int .i64 ((k + j * 10 + 9 : Nat) : Int)) = marked_pt l k (j + 1) := by
  have hlen : ((marks_pt k j).flatMap ptC).length = j * 10 := by rw [flat_len ptC 10 ptC_len, marks_pt_length]
  have hl : (l.flatMap ptC).length = l.length * 10 := flat_len ptC 10 ptC_len l
  obtain ⟨x0, x1, x2, x3, x4, x5, x6, x7, x8, x9, r, hd⟩ : ∃ x0 x1 x2 x3 x4 x5 x6 x7 x8 x9 r, (l.flatMap ptC).drop (j * 10) = x0 :: x1 :: x2 :: x3 :: x4 :: x5 :: x6 :: x7 :: x8 :: x9 :: r := by
    have : 10 ≤ ((l.flatMap ptC).drop (j * 10)).length := by rw [List.length_drop, hl]; omega
    match h : (l.flatMap ptC).drop (j * 10), this with
    | x0 :: x1 :: x2 :: x3 :: x4 :: x5 :: x6 :: x7 :: x8 :: x9 :: r, _ => exact ⟨x0, x1, x2, x3, x4, x5, x6, x7, x8, x9, r, rfl⟩
  have hd3 : (l.flatMap ptC).drop ((j + 1) * 10) = r := by
    rw [show (j + 1) * 10 = 10 + j * 10 by omega, Nat.add_comm, ← List.drop_drop, hd]; rfl
  unfold marked_pt
  rw [hd, hd3, marks_pt_succ, List.flatMap_append, List.append_assoc]
  rw [List.set_append_right _ _ (by omega), hlen, Nat.sub_self, List.set_cons_zero]
  rw [List.set_append_right _ _ (by omega), hlen, show j * 10 + 1 - j * 10 = 1 by omega]
  rw [List.set_append_right _ _ (by omega), hlen, show j * 10 + 2 - j * 10 = 2 by omega]
  rw [List.set_append_right _ _ (by omega), hlen, show j * 10 + 3 - j * 10 = 3 by omega]
  rw [List.set_append_right _ _ (by omega), hlen, show j * 10 + 4 - j * 10 = 4 by omega]
  rw [List.set_append_right _ _ (by omega), hlen, show j * 10 + 5 - j * 10 = 5 by omega]
  rw [List.set_append_right _ _ (by omega), hlen, show j * 10 + 6 - j * 10 = 6 by omega]
  rw [List.set_append_right _ _ (by omega), hlen, show j * 10 + 7 - j * 10 = 7 by omega]
  rw [List.set_append_right _ _ (by omega), hlen, show j * 10 + 8 - j * 10 = 8 by omega]
  rw [List.set_append_right _ _ (by omega), hlen, show j * 10 + 9 - j * 10 = 9 by omega]
  rfl
end Go.Proofs.YtlflgflmlfileaaGreat
