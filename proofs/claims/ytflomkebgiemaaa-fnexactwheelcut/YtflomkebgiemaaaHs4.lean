/- What the small functions tell. -/
import Derived.Test.YtflomkebgiemaaaRows
import Derived.Test.YtflomkebgiemaaaHs3
namespace Go.Proofs.Ytflomkebgiemaaa
open Go.RowKit
set_option linter.unusedSimpArgs false
set_option linter.unusedVariables false
theorem take_succ_getD {α : Type} (l : List α) (k : Nat) (d : α) (h : k < l.length) : l.take (k + 1) = l.take k ++ [l.getD k d] := by
  rw [List.take_add_one, List.getElem?_eq_getElem h, List.getD_eq_getElem?_getD, List.getElem?_eq_getElem h]; rfl
theorem findIdx_at {α : Type} (p : α → Bool) (l : List α) (d : α) (k : Nat) (hk : k < l.length) (hn : ∀ j, j < k → p (l.getD j d) = false) (hp : p (l.getD k d) = true) : l.findIdx? p = some k := by
  rw [List.findIdx?_eq_some_iff_getElem]
  refine ⟨hk, ?_, fun j hj => ?_⟩
  · rw [List.getD_eq_getElem?_getD, List.getElem?_eq_getElem hk] at hp; exact hp
  · have := hn j hj
    rw [List.getD_eq_getElem?_getD, List.getElem?_eq_getElem (by omega)] at this
    simpa using this
theorem findIdx_no {α : Type} (p : α → Bool) (l : List α) (d : α) (hn : ∀ j, j < l.length → p (l.getD j d) = false) : l.findIdx? p = none := by
  rw [List.findIdx?_eq_none_iff]
  intro x hx
  obtain ⟨j, hj, rfl⟩ := List.getElem_of_mem hx
  have := hn j hj
  rw [List.getD_eq_getElem?_getD, List.getElem?_eq_getElem hj] at this
  exact this
def idxV (o : Option Nat) : Int := match o with | some k => k | none => -1
theorem idxV_in {α : Type} (p : α → Bool) (l : List α) : -1 ≤ idxV (l.findIdx? p) ∧ idxV (l.findIdx? p) < l.length := by
  unfold idxV
  split
  · rename_i k h
    have := (List.findIdx?_eq_some_iff_getElem.1 h).1
    omega
  · omega
/-- Where a party stands in the list. -/
def ptAt (l : List Pt) (id : Int) : Int := idxV (l.findIdx? fun x => x.id == id)
/-- How many parties of a cabin there are. -/
def countV (l : List Pt) (cabin : Int) : Int := (l.map fun x => if x.cabin = cabin then 1 else 0).sum
/-- The seats that are held. -/
def heldV (l : List Pt) (cabin : Int) : Int := (l.map fun x => if x.state = 2 ∧ x.cabin = cabin ∧ (1 ≤ x.size ∧ x.size ≤ 6) then x.size else 0).sum
/-- The seats that are tied. -/
def tiedV (l : List Pt) (cabin : Int) : Int := (l.map fun x => if x.from_ = cabin ∧ (1 ≤ x.size ∧ x.size ≤ 6) then x.size else 0).sum
end Go.Proofs.Ytflomkebgiemaaa
