/- times, hasInt of the laws; DrawFirstFit of the model. -/
import Derived.Test.YtlflgflmlfileaaRows
import Derived.Test.YtlflgflmlfileaaEn6
namespace Go.Proofs.Ytlflgflmlfileaa
open Go.RowKit
set_option linter.unusedSimpArgs false
set_option linter.unusedVariables false
theorem fitAt_cases (l : List En) (free : Int) (sk : List Int) : (fitAt l free sk = -1 ∧ ∀ j, j < l.length → fitP free sk (l.getD j en0) = false) ∨ ∃ k : Nat, fitAt l free sk = (k : Int) ∧ k < l.length ∧ fitP free sk (l.getD k en0) = true ∧ ∀ j, j < k → fitP free sk (l.getD j en0) = false := by
  unfold fitAt
  rcases h : l.findIdx? (fitP free sk) with _ | k
  · left
    refine ⟨rfl, fun j hj => ?_⟩
    rw [List.findIdx?_eq_none_iff] at h
    rw [List.getD_eq_getElem?_getD, List.getElem?_eq_getElem hj]
    exact h _ (List.getElem_mem hj)
  · right
    obtain ⟨hk, hp, hn⟩ := List.findIdx?_eq_some_iff_getElem.1 h
    refine ⟨k, rfl, hk, ?_, fun j hj => ?_⟩
    · rw [List.getD_eq_getElem?_getD, List.getElem?_eq_getElem hk]; exact hp
    · have := hn j hj
      rw [List.getD_eq_getElem?_getD, List.getElem?_eq_getElem (by omega)]
      simpa using this
/-- What DrawFirstFit hands out. -/
def GotFit (w : World) (e : Ending) (w' : World) : Prop :=
  ∃ (el : List En) (LA : Option Addr) (lc : Nat) (free : Int) (p : List Int) (PA : Option Addr) (pc : Nat), el.length ≤ 14 ∧ (∀ f ∈ el, f.fits) ∧ p.length ≤ 4 ∧ inI free ∧ e = .returned (.tuple #[.slice LA el.length lc, .int .i64 free, .slice PA p.length pc]) ∧ Rws w' w'.heap.size LA (el.flatMap enC) ∧ Rws w' w'.heap.size PA (ints p) ∧ Below w.heap.size w w'
end Go.Proofs.Ytlflgflmlfileaa
