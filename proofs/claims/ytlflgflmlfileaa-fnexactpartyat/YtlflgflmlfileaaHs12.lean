/- Wheels; l9All of the model. -/
import Derived.Test.YtlflgflmlfileaaRows
import Derived.Test.YtlflgflmlfileaaHs10
namespace Go.Proofs.Ytlflgflmlfileaa
open Go.RowKit
set_option linter.unusedSimpArgs false
set_option linter.unusedVariables false
/-- A spoke and where it lies. -/
structure Sp where
  a : Option Addr
  c : Nat
  l : List Pn
def spC (s : Sp) : List Value := [.slice s.a s.l.length s.c]
def sp0 : Sp := ⟨none, 0, []⟩
theorem spC_len (s : Sp) : (spC s).length = 1 := rfl
theorem spC_one (l : List Sp) : ∀ u ∈ l.flatMap spC, u.oneCell' = true := by
  intro u hu
  obtain ⟨x, _, hx⟩ := List.mem_flatMap.1 hu
  simp [spC] at hx
  subst hx; rfl
theorem Rws.sp {w : World} {B : Nat} {A : Option Addr} {l : List Sp} (h : Rws w B A (l.flatMap spC)) {i : Nat} (hi : i < l.length) :
    ∃ b off, A = some ⟨b, off, none⟩ ∧ b < B ∧ w.cell? ⟨b, off + i, none⟩ = some (.slice (l.getD i sp0).a (l.getD i sp0).l.length (l.getD i sp0).c) := by
  obtain ⟨b, off, e, hb, hc⟩ := Rws.el spC_len h (by omega) sp0 hi
  have := hc 0 (by omega)
  rw [Nat.mul_one, Nat.add_zero] at this
  exact ⟨b, off, e, hb, this⟩
/-- A spoke that can be read. -/
structure Sp.ok (w : World) (s : Sp) : Prop where
  row : Rws w w.heap.size s.a (s.l.flatMap pnC)
  cap : s.l.length ≤ s.c
  nil : s.a = none → s.c = 0
/-- A wheel that can be read. -/
structure Whl (w : World) (A : Option Addr) (sp : List Sp) : Prop where
  row : Rws w w.heap.size A (sp.flatMap spC)
  ok : ∀ s ∈ sp, s.ok w
theorem Sp.ok.below {w w' : World} {s : Sp} (h : s.ok w) (hb : Below w.heap.size w w') : s.ok w' := ⟨rws_below h.row hb, h.cap, h.nil⟩
theorem Whl.below {w w' : World} {A : Option Addr} {sp : List Sp} (h : Whl w A sp) (hb : Below w.heap.size w w') : Whl w' A sp := ⟨rws_below h.row hb, fun s hs => (h.ok s hs).below hb⟩
theorem Whl.at_ {w : World} {A : Option Addr} {sp : List Sp} (h : Whl w A sp) {i : Nat} (hi : i < sp.length) : (sp.getD i sp0).ok w := h.ok _ (getD_mem sp i sp0 hi)
/-- All pins of a wheel. -/
def allPn (sp : List Sp) : List Pn := sp.flatMap (·.l)
theorem allPn_take (sp : List Sp) (k : Nat) (h : k < sp.length) : allPn (sp.take (k + 1)) = allPn (sp.take k) ++ (sp.getD k sp0).l := by
  unfold allPn; rw [take_succ_getD sp k sp0 h, List.flatMap_append]; simp
theorem allPn_take_le (sp : List Sp) (k : Nat) : (allPn (sp.take k)).length ≤ (allPn sp).length := by
  have : allPn sp = allPn (sp.take k) ++ allPn (sp.drop k) := by unfold allPn; rw [← List.flatMap_append, List.take_append_drop]
  rw [this, List.length_append]; omega
theorem allPn_at_le (sp : List Sp) (k : Nat) (h : k < sp.length) : (allPn (sp.take k)).length + (sp.getD k sp0).l.length ≤ (allPn sp).length := by
  have := allPn_take_le sp (k + 1)
  rw [allPn_take sp k h, List.length_append] at this; exact this
end Go.Proofs.Ytlflgflmlfileaa
