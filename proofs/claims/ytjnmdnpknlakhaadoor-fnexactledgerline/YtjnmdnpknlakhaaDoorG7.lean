/- Texts laid together: Hs2, Bent. -/
import Derived.Test.YtjnmdnpknlakhaaDoorRows
import Derived.Test.YtjnmdnpknlakhaaDoorG6
import Derived.Test.YtjnmdnpknlakhaaDoorG5
namespace Go.Proofs.YtjnmdnpknlakhaaDoor
open Go.RowKit
set_option linter.unusedSimpArgs false
set_option linter.unusedVariables false
theorem heap_set_ne (w : World) (b off : Nat) (v : Value) {k : Nat} (h : k ≠ b) : (w.setCell ⟨b, off, none⟩ v).heap[k]? = w.heap[k]? := by
  unfold World.setCell
  simp
  rw [Array.getElem?_modify, if_neg (Ne.symm h)]
theorem grown_setCell (w : World) (b off : Nat) (v : Value) : w.grownBy (w.setCell ⟨b, off, none⟩ v) (some b) :=
  ⟨rfl, rfl, rfl, by simp [World.setCell], fun k _ hk => heap_set_ne w b off v (fun e => hk (by rw [e]))⟩
theorem grown_setD {a w : World} {g : Nat} (h : a.grownBy w (some g)) (b off : Nat) (v : Value) (hb : a.heap.size ≤ b) : a.grownBy (w.setCell ⟨b, off, none⟩ v) (some g) :=
  grown_step h (grown_setCell w b off v) (fun j hj => by injection hj with hj; omega)
theorem RuOk.go {r : Ru} (h : RuOk r) : r.go ∧ r.seats.length ≤ 4 := by
  obtain ⟨n1, n2, seat, t, ro, s, p, wi, re, tr, cr⟩ := h
  refine ⟨⟨?_, ?_, ?_, ?_, ?_, ?_, ?_, ?_, ?_, by omega⟩, n2⟩
  · intro z hz
    obtain ⟨j, hj, rfl⟩ := List.mem_iff_getElem.1 hz
    have := seat j hj
    rw [List.getD_eq_getElem?_getD, List.getElem?_eq_getElem hj] at this
    unfold inI; simp at this; omega
  all_goals (unfold inI; omega)
theorem own_cut {w : World} {base n m : Nat} {A : Option Addr} {c : Nat} {cs : List Value} (h : w.ownsRow base 3 1 (.slice A n c) n cs) (hm : m ≤ n) (hA : A ≠ none) : w.ownsRow base 3 1 (.slice A m c) m (cs.take m) := by
  refine ⟨by rw [List.length_take, h.1]; omega, ?_⟩
  rcases h.2 with ⟨h2, _⟩ | ⟨g, cap, cur, hv, hb, hg, hnc, hmx, hs, ht⟩
  · injection h2 with h2 _ _; exact absurd h2 hA
  · injection hv with h1 h2 h3
    subst h3
    refine .inr ⟨g, c, cur, by rw [h1], hb, hg, by omega, hmx, hs, ?_⟩
    rw [← ht, List.take_take]
    congr 1; omega
end Go.Proofs.YtjnmdnpknlakhaaDoor
