/- SameRules of the program. -/
import Derived.Test.YtflomkebgiemaaaRows
import Derived.Test.YtflomkebgiemaaaG6
namespace Go.Proofs.Ytflomkebgiemaaa
open Go.RowKit
set_option linter.unusedSimpArgs false
set_option linter.unusedVariables false
/-- All numbers of rules in their order. -/
def allR (r : Ru) : List Int := [r.tiers, r.room, r.size, r.period, r.window, r.rest, r.tries, r.crew] ++ r.seats
theorem allR_len (r : Ru) : (allR r).length = 8 + r.seats.length := by simp [allR]; omega
theorem allR_same (a b : Ru) : (allR a = allR b) ↔ sameR a b := by
  unfold allR sameR
  simp
  constructor
  · rintro ⟨h1, h2, h3, h4, h5, h6, h7, h8, h9⟩; exact ⟨h9, h1, h2, h3, h4, h5, h6, h7, h8⟩
  · rintro ⟨h9, h1, h2, h3, h4, h5, h6, h7, h8⟩; exact ⟨h1, h2, h3, h4, h5, h6, h7, h8, h9⟩
theorem own_nil {w : World} {B e sz n m c : Nat} {A : Option Addr} {cs : List Value} (h : w.ownsRow B e sz (.slice A n c) m cs) : A = none → c = 0 := by
  rcases h.2 with ⟨hv, hn⟩ | ⟨g, cap, cur, hv, _⟩
  · injection hv with h1 h2 h3; intro _; exact h3
  · injection hv with h1 h2 h3; subst h1; intro h; cases h
end Go.Proofs.Ytflomkebgiemaaa
