/- WheelNew of the model. -/
import Derived.Test.YtlflgflmlfileaaRows
import Derived.Test.YtlflgflmlfileaaHs12
import Derived.Test.YtlflgflmlfileaaSameI
namespace Go.Proofs.Ytlflgflmlfileaa
open Go.RowKit
set_option linter.unusedSimpArgs false
set_option linter.unusedVariables false
/-- A spoke of the call's own. -/
def Sp.own (w : World) (B : Nat) (s : Sp) : Prop := w.ownsRow B 177 2 (.slice s.a s.l.length s.c) s.l.length (s.l.flatMap pnC)
theorem Sp.own.ok {w : World} {B : Nat} {s : Sp} (h : s.own w B) : s.ok w := ⟨own_rws h, own_cap h, own_nil h⟩
/-- A wheel of the call's own: its row and its spokes. -/
structure OwnW (w : World) (B : Nat) (A : Option Addr) (c : Nat) (sp : List Sp) : Prop where
  row : w.ownsRow B 160 1 (.slice A sp.length c) sp.length (sp.flatMap spC)
  sp : ∀ s ∈ sp, s.own w B
theorem OwnW.whl {w : World} {B : Nat} {A : Option Addr} {c : Nat} {sp : List Sp} (h : OwnW w B A c sp) : Whl w A sp := ⟨own_rws h.row, fun s hs => (h.sp s hs).ok⟩
theorem OwnW.below {w w' : World} {B : Nat} {A : Option Addr} {c : Nat} {sp : List Sp} (h : OwnW w B A c sp) (hb : Below w.heap.size w w') : OwnW w' B A c sp := ⟨own_below h.row hb, fun s hs => own_below (h.sp s hs) hb⟩
theorem OwnW.weak {w : World} {B B' : Nat} {A : Option Addr} {c : Nat} {sp : List Sp} (h : OwnW w B A c sp) (hB : B' ≤ B) : OwnW w B' A c sp := ⟨own_weak h.row hB, fun s hs => own_weak (h.sp s hs) hB⟩
/-- A block of another type may change. -/
theorem OwnW.put {w : World} {B : Nat} {A : Option Addr} {c : Nat} {sp : List Sp} (h : OwnW w B A c sp) {g : Nat} {cs : Array Value} {t : TypeId} {fr : Nat × Nat} (hg : w.heap[g]? = some (.cells cs t fr)) (h1 : t ≠ 160) (h2 : t ≠ 177) (i : Nat) (v : Value) : OwnW (w.setCell ⟨g, i, none⟩ v) B A c sp :=
  ⟨h.row.kept (Go.Lib.grownBy_setCell w g i v) (.inr (own_ne_type h.row hg h1)), fun s hs => (h.sp s hs).kept (Go.Lib.grownBy_setCell w g i v) (.inr (own_ne_type (h.sp s hs) hg h2))⟩
/-- What is in new memory: a wheel. -/
def NewW (w : World) (ls : List (List Pn)) (e : Ending) (w' : World) : Prop :=
  ∃ A c sp, e = .returned (.agg #[.slice A sp.length c]) ∧ sp.map (·.l) = ls ∧ OwnW w' w.heap.size A c sp ∧ Below w.heap.size w w'
/-- The row of a slice is of its type. -/
theorem own_typed2 {w : World} {B e sz n : Nat} {v : Value} {cs : List Value} (h : w.ownsRow B e sz v n cs) : ∀ k, v.ownBlock = some k → ∃ cur, w.heap[k]? = some (.cells cur e (0, 0)) := by
  intro k hk
  rcases h.2 with ⟨hv, _⟩ | ⟨g, cap, cur, hv, _, hg, _⟩
  · rw [hv] at hk; cases hk
  · rw [hv] at hk; injection hk with hk; subst hk; exact ⟨cur, hg⟩
theorem OwnW.grow {w w' : World} {B : Nat} {sp : List Sp} (h : ∀ s ∈ sp, s.own w B) {v : Value} {n : Nat} {cs : List Value} (hv : w.ownsRow B 160 1 v n cs) (g : w.grownBy w' v.ownBlock) : ∀ s ∈ sp, s.own w' B := by
  intro s hs
  refine own_kept2 (h s hs) g (fun k h1 h2 => ?_)
  obtain ⟨cur, hc⟩ := own_typed2 hv k h2
  exact own_ne_type (h s hs) hc (by decide) h1
def nineW : List (List Pn) := List.replicate 9 []
end Go.Proofs.Ytlflgflmlfileaa
