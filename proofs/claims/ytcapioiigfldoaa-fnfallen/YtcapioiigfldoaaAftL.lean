/- The helpers of the laws over a slice of frames that came in. -/
import Derived.Test.YtcapioiigfldoaaRows
import Derived.Test.YtcapioiigfldoaaAft
namespace Go.Proofs.Ytcapioiigfldoaa
open Go.RowKit
set_option linter.unusedSimpArgs false
set_option linter.unusedVariables false
/-- Every body of the list is a string. -/
def FrSz (l : List Fr) : Prop := ∀ f ∈ l, f.body.size ≤ 9223372036854775807
theorem FrSz.getD {l : List Fr} (h : FrSz l) {k : Nat} (hk : k < l.length) : (l.getD k fr0).body.size ≤ 9223372036854775807 := by
  rw [List.getD_eq_getElem?_getD, List.getElem?_eq_getElem hk]; exact h _ (List.getElem_mem hk)
/-- toFrameS halfway: k frames are copied over the cells Z. -/
def halfF (Z : List Value) (l : List Fr) (k : Nat) : List Value := (l.take k).flatMap frC ++ Z.drop (k * 3)
theorem halfF_zero (Z : List Value) (l : List Fr) : halfF Z l 0 = Z := by simp [halfF]
theorem halfF_all (Z : List Value) (l : List Fr) (hZ : Z.length = l.length * 3) : halfF Z l l.length = l.flatMap frC := by
  unfold halfF; rw [List.take_length, List.drop_of_length_le (by omega), List.append_nil]
theorem halfF_len (Z : List Value) (l : List Fr) (k : Nat) (hZ : Z.length = l.length * 3) (hk : k ≤ l.length) : (halfF Z l k).length = l.length * 3 := by
  unfold halfF
  rw [List.length_append, flat_len frC 3 frC_len, List.length_take, List.length_drop, hZ, Nat.min_eq_left hk]; omega
theorem halfF_set (Z : List Value) (l : List Fr) (k : Nat) (hZ : Z.length = l.length * 3) (hk : k < l.length) :
    (((halfF Z l k).set (k * 3) (.int .i64 (l.getD k fr0).seq)).set (k * 3 + 1) (.string (l.getD k fr0).body)).set (k * 3 + 2) (.int .i64 (l.getD k fr0).next) = halfF Z l (k + 1) := by
  have hlen : ((l.take k).flatMap frC).length = k * 3 := by rw [flat_len frC 3 frC_len, List.length_take, Nat.min_eq_left (by omega)]
  obtain ⟨x0, x1, x2, r, hd⟩ : ∃ x0 x1 x2 r, Z.drop (k * 3) = x0 :: x1 :: x2 :: r := by
    have : 3 ≤ (Z.drop (k * 3)).length := by rw [List.length_drop, hZ]; omega
    match h : Z.drop (k * 3), this with
    | x0 :: x1 :: x2 :: r, _ => exact ⟨x0, x1, x2, r, rfl⟩
  have hd3 : Z.drop ((k + 1) * 3) = r := by
    rw [show (k + 1) * 3 = 3 + k * 3 by omega, Nat.add_comm, ← List.drop_drop, hd]; rfl
  unfold halfF
  rw [hd, hd3, take_snoc l k fr0 hk, List.flatMap_append, List.append_assoc]
  rw [List.set_append_right _ _ (by omega), hlen, Nat.sub_self, List.set_cons_zero]
  rw [List.set_append_right _ _ (by omega), hlen, show k * 3 + 1 - k * 3 = 1 by omega]
  rw [List.set_append_right _ _ (by omega), hlen, show k * 3 + 2 - k * 3 = 2 by omega]
  rfl
end Go.Proofs.Ytcapioiigfldoaa
