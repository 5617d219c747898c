/- Texts laid together: FrIn, ArIn, IntIn, RulIn. -/
import Derived.Test.YtdjglbmcpfaofaaRows
import Derived.Test.YtdjglbmcpfaofaaG3
import Derived.OpenShut
import Derived.Deep.Slices
import Derived.Deep.Fields
import Derived.ChangeSame
import Derived.Test.YtdjglbmcpfaofaaG4
import Derived.Test.YtdjglbmcpfaofaaG5
import Derived.Test.YtdjglbmcpfaofaaG6
namespace Go.Proofs.Ytdjglbmcpfaofaa
open Go.RowKit Go.ChangeShapes Go.WideShapes Go.Deep
set_option linter.unusedSimpArgs false
set_option linter.unusedVariables false
set_option maxRecDepth 100000 in
theorem cellsInt : Try.prog.cellsOf 3 = 1 := by kernel_rfl
set_option maxRecDepth 100000 in
theorem cellsStr : Try.prog.cellsOf 9 = 1 := by kernel_rfl
set_option maxRecDepth 100000 in
theorem cellsI : Try.prog.cellsOf 3 = 1 := by kernel_rfl
set_option maxRecDepth 100000 in
theorem cellsS : Try.prog.cellsOf 9 = 1 := by kernel_rfl
set_option maxRecDepth 100000 in
theorem ints_in {H : Type} {enc : TypeId × Value → H} {W : World} {fuel len cap : Nat} {held : Bool} {a : Option Addr} {x : DataW H × List MemPlace} (h : DataW.trod enc Try.prog W 0 (fun _ => true) held fuel 99 [.slice a len cap] = some x) :
    ∃ l : List Int, len = l.length ∧ Rws W W.heap.size a (ints l) ∧ (∀ z ∈ l, inI z) ∧ l.length ≤ 9223372036854775807 := by
  rcases open_slice Try.underlying99 h with ⟨hcs, _⟩ | ⟨ad, n, c, m, k, D, Pl, hcs, _, hl, hm, hmm, _, hi⟩
  · injection hcs with hcs _
    injection hcs with h1 h2 h3
    subst h1 h2 h3
    exact ⟨[], rfl, .inl rfl, (fun f hf => by cases hf), Nat.zero_le _⟩
  · injection hcs with hcs _
    injection hcs with h1 h2 h3
    subst h1 h2 h3
    simp only [if_true] at hmm
    subst hmm
    have hel : ∀ i, i < len → ∃ z : Int, W.cell? (ad.add (i * 1)) = some (.int .i64 z) ∧ inI z := by
      intro i hilt
      obtain ⟨cs', hc, ht⟩ := hi i (by omega)
      rw [cellsInt] at hc
      obtain ⟨z, e0, _, w0⟩ := DataW.trod_int Try.underlying3 ht
      subst e0
      have := (World.cells?_some hc).2.2 0 (by omega)
      refine ⟨z, ?_, bounds_i64 w0⟩
      simpa [Addr.add] using this
    obtain ⟨F, hF⟩ := @choose_lt Int ⟨0⟩ len (fun i z => W.cell? (ad.add (i * 1)) = some (.int .i64 z) ∧ inI z) hel
    refine ⟨(List.range len).map F, by simp, ?_, ?_, by simp; unfold maxLen at hm; omega⟩
    · rcases Nat.eq_zero_or_pos len with h0 | h0
      · subst h0; exact .inl (by simp [ints])
      · obtain ⟨b, off, spot⟩ := ad
        have h1 := (hF 0 h0).1
        have hspot : spot = none := by simpa [Addr.add] using World.cell?_spot h1
        subst hspot
        refine .inr ⟨b, off, rfl, ?_, fun k hk => ?_⟩
        · have := World.block_lt_of_cell? W _ h1; simpa [Addr.add] using this
        · rw [ints_len, List.length_map, List.length_range] at hk
          have hc := (hF k hk).1
          rw [add_at, Nat.mul_one] at hc
          rw [hc, ints_get _ _ (by simpa using hk)]
          simp [hk]
    · intro z hz
      obtain ⟨i, hi, rfl⟩ := List.mem_map.1 hz
      exact (hF i (by simpa using hi)).2
set_option maxRecDepth 100000 in
theorem ints_cells {H : Type} {enc : TypeId × Value → H} {W : World} {fuel : Nat} {held : Bool} {cs : List Value} {x : DataW H × List MemPlace} (h : DataW.trod enc Try.prog W 0 (fun _ => true) held fuel 99 cs = some x) :
    ∃ (a : Option Addr) (l : List Int) (c : Nat), cs = [.slice a l.length c] ∧ Rws W W.heap.size a (ints l) ∧ (∀ z ∈ l, inI z) ∧ l.length ≤ 9223372036854775807 ∧ (a = none → c = 0) := by
  rcases open_slice Try.underlying99 h with ⟨hcs, _⟩ | ⟨ad, n, c, m, k, D, Pl, hcs, _, _⟩
  · subst hcs
    obtain ⟨l, hl, hA, hi, hlen⟩ := ints_in h
    exact ⟨none, l, 0, by rw [← hl], hA, hi, hlen, fun _ => rfl⟩
  · subst hcs
    obtain ⟨l, hl, hA, hi, hlen⟩ := ints_in h
    exact ⟨some ad, l, c, by rw [← hl], hA, hi, hlen, fun h => by cases h⟩
set_option maxRecDepth 100000 in
theorem cellsIs : Try.prog.cellsOf 99 = 1 := by kernel_rfl
end Go.Proofs.Ytdjglbmcpfaofaa
