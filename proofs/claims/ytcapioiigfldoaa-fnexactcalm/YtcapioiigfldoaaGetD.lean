/- GetNum of the program. -/
import Derived.Test.YtcapioiigfldoaaRows
import Derived.Test.YtcapioiigfldoaaGet
namespace Go.Proofs.Ytcapioiigfldoaa
open Go.RowKit
set_option linter.unusedSimpArgs false
set_option linter.unusedVariables false
/-- The second of two boxes, each written twice. -/
theorem boxes (w : World) (g : Nat) (b x y : Value) (hb : w.cell? ⟨g + 1, 0, none⟩ = some b) :
    ((((w.setCell ⟨g, 0, none⟩ x).setCell ⟨g + 1, 0, none⟩ y).setCell ⟨g, 0, none⟩ x).setCell ⟨g + 1, 0, none⟩ y).cell? ⟨g + 1, 0, none⟩ = some y := by
  have hne : (⟨g, 0, none⟩ : Addr) ≠ ⟨g + 1, 0, none⟩ := by simp
  have h1 : (w.setCell ⟨g, 0, none⟩ x).cell? ⟨g + 1, 0, none⟩ = some b := by rw [World.cell?_setCell_other _ _ _ _ hne]; exact hb
  have h2 := World.cell?_setCell_same _ _ y h1
  have h3 : (((w.setCell ⟨g, 0, none⟩ x).setCell ⟨g + 1, 0, none⟩ y).setCell ⟨g, 0, none⟩ x).cell? ⟨g + 1, 0, none⟩ = some y := by rw [World.cell?_setCell_other _ _ _ _ hne]; exact h2
  exact World.cell?_setCell_same _ _ y h3
end Go.Proofs.Ytcapioiigfldoaa
