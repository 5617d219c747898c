/- After: what the program and the model return. -/
import Derived.Test.YtcapioiigfldoaaRows
import Derived.Test.YtcapioiigfldoaaFrs
namespace Go.Proofs.Ytcapioiigfldoaa
open Go.RowKit
set_option linter.unusedSimpArgs false
set_option linter.unusedVariables false
/-- What After selects. -/
def afterOf : List Fr → Int → List Fr
  | [], _ => []
  | f :: r, q => if f.seq ≤ q then afterOf r q else if f.seq = q + 1 then f :: afterOf r f.seq else []
theorem afterOf_len (l : List Fr) (q : Int) : (afterOf l q).length ≤ l.length := by
  induction l generalizing q with
  | nil => simp [afterOf]
  | cons f r ih =>
    simp only [afterOf]
    split
    · have := ih q; simp only [List.length_cons]; omega
    · split
      · have := ih f.seq; simp only [List.length_cons]; omega
      · simp
theorem dropF (l : List Fr) (k : Nat) (h : k < l.length) : l.drop k = l.getD k fr0 :: l.drop (k + 1) := by
  rw [List.drop_eq_getElem_cons h, List.getD_eq_getElem?_getD, List.getElem?_eq_getElem h]; rfl
/-- Where the loop of After stands. -/
def AftAt (l : List Fr) (seq : Int) (k : Nat) (p : List Fr) (q : Int) : Prop := p ++ afterOf (l.drop k) q = afterOf l seq ∧ p.length ≤ k
theorem AftAt.skip {l : List Fr} {seq q : Int} {k : Nat} {p : List Fr} (h : AftAt l seq k p q) (hk : k < l.length) (hq : (l.getD k fr0).seq ≤ q) : AftAt l seq (k + 1) p q := by
  refine ⟨?_, by have := h.2; omega⟩
  rw [← h.1, dropF l k hk]
  simp only [afterOf]
  rw [if_pos hq]
theorem AftAt.take {l : List Fr} {seq q : Int} {k : Nat} {p : List Fr} (h : AftAt l seq k p q) (hk : k < l.length) (hq : (l.getD k fr0).seq = q + 1) : AftAt l seq (k + 1) (p ++ [l.getD k fr0]) (q + 1) := by
  refine ⟨?_, by have := h.2; simp; omega⟩
  rw [← h.1, dropF l k hk]
  simp only [afterOf]
  rw [if_neg (by omega), if_pos hq, List.append_assoc, hq]; rfl
theorem AftAt.stop {l : List Fr} {seq q : Int} {k : Nat} {p : List Fr} (h : AftAt l seq k p q) (hk : k < l.length) (hq : q < (l.getD k fr0).seq) (hn : (l.getD k fr0).seq ≠ q + 1) : p = afterOf l seq := by
  have h1 := h.1
  rw [dropF l k hk] at h1
  simp only [afterOf] at h1
  rw [if_neg (by omega), if_neg hn, List.append_nil] at h1
  exact h1
theorem AftAt.last {l : List Fr} {seq q : Int} {p : List Fr} (h : AftAt l seq l.length p q) : p = afterOf l seq := by
  have h1 := h.1
  rw [List.drop_length] at h1
  simpa [afterOf] using h1
/-- Every number of the list is an int. -/
def FrWf (l : List Fr) : Prop := ∀ f ∈ l, -9223372036854775808 ≤ f.seq ∧ f.seq ≤ 9223372036854775807
theorem FrWf.getD {l : List Fr} (h : FrWf l) {k : Nat} (hk : k < l.length) : -9223372036854775808 ≤ (l.getD k fr0).seq ∧ (l.getD k fr0).seq ≤ 9223372036854775807 := by
  rw [List.getD_eq_getElem?_getD, List.getElem?_eq_getElem hk]; exact h _ (List.getElem_mem hk)
end Go.Proofs.Ytcapioiigfldoaa
