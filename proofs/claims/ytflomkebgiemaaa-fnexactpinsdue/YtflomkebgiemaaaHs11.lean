/- QueueOf of the model. -/
import Derived.Test.YtflomkebgiemaaaRows
import Derived.Test.YtflomkebgiemaaaHs7
import Derived.Test.YtflomkebgiemaaaHs9
import Derived.Test.YtflomkebgiemaaaSameI
import Derived.Deep.DeepCutAuto
namespace Go.Proofs.Ytflomkebgiemaaa
open Go.RowKit
set_option linter.unusedSimpArgs false
set_option linter.unusedVariables false
def putEn (w : World) (g : Nat) (x : En) : World := (((w.setCell ⟨g, 0, none⟩ (.int .i64 x.lev)).setCell ⟨g, 1, none⟩ (.int .i64 x.turn)).setCell ⟨g, 2, none⟩ (.int .i64 x.id)).setCell ⟨g, 3, none⟩ (.int .i64 x.size)
theorem putEn_heap {w : World} {g : Nat} {x : En} {t : TypeId} (h : w.heap[g]? = some (.cells #[.int .i64 0, .int .i64 0, .int .i64 0, .int .i64 0] t (0, 0))) : (putEn w g x).heap[g]? = some (.cells #[.int .i64 x.lev, .int .i64 x.turn, .int .i64 x.id, .int .i64 x.size] t (0, 0)) := by
  unfold putEn
  have h := Go.heap_setCell_same _ g 0 _ t (.int .i64 x.lev) h
  have h := Go.heap_setCell_same _ g 1 _ t (.int .i64 x.turn) h
  have h := Go.heap_setCell_same _ g 2 _ t (.int .i64 x.id) h
  exact Go.heap_setCell_same _ g 3 _ t (.int .i64 x.size) h
theorem putEn_below {B : Nat} {w0 w : World} {g : Nat} {x : En} (h : Below B w0 w) (hg : B ≤ g) : Below B w0 (putEn w g x) := by
  unfold putEn
  exact (((h.setCell hg _).setCell hg _).setCell hg _).setCell hg _
/-- What QueueOf returns. -/
def queueV (r : Ru) (l : List Pt) (cabin now : Int) : List En := l.foldr (fun x acc => if (entryOfV r x now).2 = true ∧ x.cabin = cabin then enPut acc (entryOfV r x now).1 else acc) []
theorem drop_getD {α : Type} (l : List α) (k : Nat) (d : α) (h : k < l.length) : l.drop k = l.getD k d :: l.drop (k + 1) := by
  rw [List.drop_eq_getElem_cons h, List.getD_eq_getElem?_getD, List.getElem?_eq_getElem h]; rfl
end Go.Proofs.Ytflomkebgiemaaa
