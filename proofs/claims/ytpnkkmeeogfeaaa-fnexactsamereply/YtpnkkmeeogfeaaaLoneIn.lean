/- Texts of this kind, picked for what this seat needs. -/
import Derived.Test.YtpnkkmeeogfeaaaRows
import Derived.WalkKit
import Derived.WalkSpells
import Derived.WalkLawsBesides
import Derived.Outline
import Derived.Lib.Hide
import Derived.IntWalk
import Derived.BigQuiet
import Derived.Deep.QuietTactic
import Derived.Deep.Draws
import Derived.OpenShut
import Derived.Deep.Slices
import Derived.Deep.Fields
import Derived.ChangeSame
import Derived.Test.YtpnkkmeeogfeaaaLone
namespace Go.Proofs.Ytpnkkmeeogfeaaa
open Go.RowKit Go.ChangeShapes Go.WideShapes Go.Deep
set_option linter.unusedSimpArgs false
set_option linter.unusedVariables false
attribute [local go_sem] Oper.semAt_some
set_option maxRecDepth 100000 in
theorem ints_in {H : Type} {enc : TypeId × Value → H} {W : World} {fuel len cap : Nat} {held : Bool} {a : Option Addr} {x : DataW H × List MemPlace} (h : DataW.trod enc Try.prog W 0 (fun _ => true) held fuel 22 [.slice a len cap] = some x) :
    ∃ l : List Int, len = l.length ∧ Rws W W.heap.size a (ints l) ∧ (∀ z ∈ l, inI z) ∧ l.length ≤ 9223372036854775807 := by
  rcases open_slice Try.underlying22 h with ⟨hcs, _⟩ | ⟨ad, n, c, m, k, D, Pl, hcs, _, hl, hm, hmm, _, hi⟩
  · injection hcs with hcs _
    injection hcs with h1 h2 h3
    subst h1 h2 h3
    exact ⟨[], rfl, .inl rfl, (fun f hf => by cases hf), Nat.zero_le _⟩
  · injection hcs with hcs _
    injection hcs with h1 h2 h3
    subst h1 h2 h3
    simp only [if_true] at hmm
    subst hmm
    have hel : ∀ i, i < len → ∃ z : Int, W.cell? (ad.add (i * 1)) = some (.int .i64 z) ∧ inI z := by
      intro i hilt
      obtain ⟨cs', hc, ht⟩ := hi i (by omega)
      rw [cellsInt] at hc
      obtain ⟨z, e0, _, w0⟩ := DataW.trod_int Try.underlying3 ht
      subst e0
      have := (World.cells?_some hc).2.2 0 (by omega)
      refine ⟨z, ?_, bounds_i64 w0⟩
      simpa [Addr.add] using this
    obtain ⟨F, hF⟩ := @choose_lt Int ⟨0⟩ len (fun i z => W.cell? (ad.add (i * 1)) = some (.int .i64 z) ∧ inI z) hel
    refine ⟨(List.range len).map F, by simp, ?_, ?_, by simp; unfold maxLen at hm; omega⟩
    · rcases Nat.eq_zero_or_pos len with h0 | h0
      · subst h0; exact .inl (by simp [ints])
      · obtain ⟨b, off, spot⟩ := ad
        have h1 := (hF 0 h0).1
        have hspot : spot = none := by simpa [Addr.add] using World.cell?_spot h1
        subst hspot
        refine .inr ⟨b, off, rfl, ?_, fun k hk => ?_⟩
        · have := World.block_lt_of_cell? W _ h1; simpa [Addr.add] using this
        · rw [ints_len, List.length_map, List.length_range] at hk
          have hc := (hF k hk).1
          rw [add_at, Nat.mul_one] at hc
          rw [hc, ints_get _ _ (by simpa using hk)]
          simp [hk]
    · intro z hz
      obtain ⟨i, hi, rfl⟩ := List.mem_map.1 hz
      exact (hF i (by simpa using hi)).2
end Go.Proofs.Ytpnkkmeeogfeaaa
