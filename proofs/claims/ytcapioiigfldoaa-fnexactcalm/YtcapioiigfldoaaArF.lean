/- DrawAppend, DrawPutSlot. -/
import Derived.Test.YtcapioiigfldoaaRows
import Derived.Test.YtcapioiigfldoaaArE
namespace Go.Proofs.Ytcapioiigfldoaa
open Go.RowKit
set_option linter.unusedSimpArgs false
set_option linter.unusedVariables false
def moreTexts : List ByteArray := [⟨#[]⟩, ⟨#[120]⟩, ⟨#[109, 111, 114, 101, 32, 111, 102, 32, 105, 116]⟩]
set_option maxRecDepth 100000 in
theorem exec_texts {ρ : Operand → Value} {o : Oper} (w : World) (ho : o.op = .buildSlice 81 3 #[(0, .const (.string ⟨#[]⟩)), (1, .const (.string ⟨#[120]⟩)), (2, .const (.string ⟨#[109, 111, 114, 101, 32, 111, 102, 32, 105, 116]⟩))] := by rfl) (hc : ∀ v, ρ (.const v) = v := by intro v; rfl) :
    (execOp ρ o).run Try.prog w = .ok (.value (.slice (some ⟨w.heap.size, 0, none⟩) 3 3)) (w.alloc (.cells (moreTexts.map Value.string).toArray 9)) := by
  unfold execOp
  rw [ho]
  simp [go_sem, hc, moreTexts]
theorem grown_keep {w w2 : World} {g r : Nat} {o : Obj} (h : w.grownBy w2 (some g)) (hr : w.heap[r]? = some o) (hne : r ≠ g) : w2.heap[r]? = some o := by
  rw [h.block r (Array.getElem?_eq_some_iff.1 hr).1 (by simpa using hne), hr]
/-- What DrawAppend hands out. -/
def GotApp (w : World) (e : Ending) (w' : World) : Prop :=
  ∃ (a : Ar) (s : ByteArray), (a.go ∧ a.data.size ≤ 20000 ∧ s.size ≤ 10) ∧ e = .returned (.tuple #[arA a, .string s]) ∧ Below w.heap.size w w'
theorem got_app {w w2 : World} {r : Nat} {u v : Value} {d s : ByteArray} {z : Int} (hd : d.size ≤ 20000) (hz : -9223372036854775808 ≤ z ∧ z ≤ 9223372036854775807) (hs : s.size ≤ 10) (hb : Below w.heap.size w w2) (hr : w.heap.size ≤ r) :
    GotApp w (.returned (.tuple #[.agg #[.string d, .int .i64 z], .string s])) ((w2.setCell ⟨r, 0, none⟩ u).setCell ⟨r, 1, none⟩ v) :=
  ⟨⟨d, z⟩, s, ⟨⟨by show d.size ≤ _; omega, hz⟩, hd, hs⟩, rfl, (hb.setCell hr _).setCell hr _⟩
/-- What DrawPutSlot hands out. -/
def GotPut (w : World) (e : Ending) (w' : World) : Prop :=
  ∃ (s : St) (n : Int) (a : Ar), (s.go ∧ s.log.data.size ≤ 20000 ∧ s.even.data.size ≤ 20000 ∧ s.odd.data.size ≤ 20000) ∧ (-9223372036854775808 ≤ n ∧ n ≤ 9223372036854775807) ∧ (a.go ∧ a.data.size ≤ 20000) ∧ e = .returned (.tuple #[stA s, .int .i64 n, arA a]) ∧ Below w.heap.size w w'
end Go.Proofs.Ytcapioiigfldoaa
