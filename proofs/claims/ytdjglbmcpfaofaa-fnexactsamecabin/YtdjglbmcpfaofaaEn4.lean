/- QueuePut, QueueCut of the model. -/
import Derived.Test.YtdjglbmcpfaofaaRows
import Derived.Test.YtdjglbmcpfaofaaEn3
namespace Go.Proofs.Ytdjglbmcpfaofaa
open Go.RowKit
set_option linter.unusedSimpArgs false
set_option linter.unusedVariables false
/-- A new row of entries and a bool. -/
def GotQ (w : World) (r : List En × Bool) (e : Ending) (w' : World) : Prop := ∃ B d, e = .returned (.tuple #[.slice B r.1.length d, .bool r.2]) ∧ w'.ownsRow w.heap.size 115 4 (.slice B r.1.length d) r.1.length (r.1.flatMap enC) ∧ Below w.heap.size w w'
/-- What QueuePut returns. -/
def quPutV (l : List En) (x : En) : List En × Bool := if quB l = true ∧ quB (enPut l x) = true then (enPut l x, true) else (l, false)
theorem quPutV_no {l : List En} {x : En} (h : ¬ (quB l = true ∧ quB (enPut l x) = true)) : quPutV l x = (l, false) := if_neg h
theorem quPutV_yes {l : List En} {x : En} (h1 : quB l = true) (h2 : quB (enPut l x) = true) : quPutV l x = (enPut l x, true) := if_pos ⟨h1, h2⟩
/-- What QueueCut returns. -/
def quCutV (l : List En) (id : Int) : List En × Bool := if enAt l id < 0 then (l, false) else (l.take (enAt l id).toNat ++ l.drop ((enAt l id).toNat + 1), true)
theorem quPutV_len (l : List En) (x : En) : (quPutV l x).1.length ≤ l.length + 1 := by
  unfold quPutV
  split
  · rw [enPut_len]; omega
  · show l.length ≤ _; omega
theorem quCutV_len (l : List En) (id : Int) : (quCutV l id).1.length ≤ l.length := by
  unfold quCutV
  split
  · exact Nat.le_refl _
  · simp only [List.length_append, List.length_take, List.length_drop]; omega
end Go.Proofs.Ytdjglbmcpfaofaa
