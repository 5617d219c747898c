/- SameRules of the program. -/
import Derived.Test.YtlflgflmlfileaaGreatRows
import Derived.Test.YtlflgflmlfileaaGreatG6
namespace Go.Proofs.YtlflgflmlfileaaGreat
open Go.RowKit
set_option linter.unusedSimpArgs false
set_option linter.unusedVariables false
set_option maxRecDepth 100000 in
theorem exec_loadRi {ρ : Operand → Value} {o : Oper} {x : Operand} (b : Nat) (A : Option Addr) (c : Nat) (r : Ru) (w : World) (h : w.heap[b]? = some (.cells #[.slice A r.seats.length c, .int .i64 r.tiers, .int .i64 r.room, .int .i64 r.size, .int .i64 r.period, .int .i64 r.window, .int .i64 r.rest, .int .i64 r.tries, .int .i64 r.crew] 34 (0, 0))) (ho : o.op = .load 34 x := by rfl) (hx : ρ x = .pointer (some ⟨b, 0, none⟩) := by rfl) :
    (execOp ρ o).run Tryz.prog w = .ok (.value (ruV A c r)) w := by
  have c0 := cell_of_row _ _ 0 _ _ _ h
  have c1 := cell_of_row _ _ 1 _ _ _ h
  have c2 := cell_of_row _ _ 2 _ _ _ h
  have c3 := cell_of_row _ _ 3 _ _ _ h
  have c4 := cell_of_row _ _ 4 _ _ _ h
  have c5 := cell_of_row _ _ 5 _ _ _ h
  have c6 := cell_of_row _ _ 6 _ _ _ h
  have c7 := cell_of_row _ _ 7 _ _ _ h
  have c8 := cell_of_row _ _ 8 _ _ _ h
  simp at c0 c1 c2 c3 c4 c5 c6 c7 c8
  unfold execOp
  rw [ho]
  simp [go_sem, hx, c0, c1, c2, c3, c4, c5, c6, c7, c8, ruV]
/-- All numbers of rules in their order. -/
def allR (r : Ru) : List Int := [r.tiers, r.room, r.size, r.period, r.window, r.rest, r.tries, r.crew] ++ r.seats
theorem allR_len (r : Ru) : (allR r).length = 8 + r.seats.length := by simp [allR]; omega
theorem allR_same (a b : Ru) : (allR a = allR b) ↔ sameR a b := by
  unfold allR sameR
  simp
  constructor
  · rintro ⟨h1, h2, h3, h4, h5, h6, h7, h8, h9⟩; exact ⟨h9, h1, h2, h3, h4, h5, h6, h7, h8⟩
  · rintro ⟨h9, h1, h2, h3, h4, h5, h6, h7, h8⟩; exact ⟨h1, h2, h3, h4, h5, h6, h7, h8, h9⟩
theorem own_nil {w : World} {B e sz n m c : Nat} {A : Option Addr} {cs : List Value} (h : w.ownsRow B e sz (.slice A n c) m cs) : A = none → c = 0 := by
  rcases h.2 with ⟨hv, hn⟩ | ⟨g, cap, cur, hv, _⟩
  · injection hv with h1 h2 h3; intro _; exact h3
  · injection hv with h1 h2 h3; subst h1; intro h; cases h
end Go.Proofs.YtlflgflmlfileaaGreat
