/- Texts laid together: FrIn, ArIn, IntIn, RulIn. -/
import Derived.Test.YtlflgflmlfileaaRows
import Derived.Test.YtlflgflmlfileaaG3
import Derived.OpenShut
import Derived.Deep.Slices
import Derived.Deep.Fields
import Derived.ChangeSame
import Derived.Test.YtlflgflmlfileaaG4
import Derived.Test.YtlflgflmlfileaaG5
import Derived.Test.YtlflgflmlfileaaG6
namespace Go.Proofs.Ytlflgflmlfileaa
open Go.RowKit Go.ChangeShapes Go.WideShapes Go.Deep
set_option linter.unusedSimpArgs false
set_option linter.unusedVariables false
set_option maxRecDepth 100000 in
theorem cellsInt : Try.prog.cellsOf 3 = 1 := by kernel_rfl
set_option maxRecDepth 100000 in
theorem cellsStr : Try.prog.cellsOf 9 = 1 := by kernel_rfl
set_option maxRecDepth 100000 in
theorem cellsI : Try.prog.cellsOf 3 = 1 := by kernel_rfl
set_option maxRecDepth 100000 in
theorem cellsS : Try.prog.cellsOf 9 = 1 := by kernel_rfl
set_option maxRecDepth 100000 in
theorem ints_in {H : Type} {enc : TypeId × Value → H} {W : World} {fuel len cap : Nat} {held : Bool} {a : Option Addr} {x : DataW H × List MemPlace} (h : DataW.trod enc Try.prog W 0 (fun _ => true) held fuel 32 [.slice a len cap] = some x) :
    ∃ l : List Int, len = l.length ∧ Rws W W.heap.size a (ints l) ∧ (∀ z ∈ l, inI z) ∧ l.length ≤ 9223372036854775807 := by
  rcases open_slice Try.underlying32 h with ⟨hcs, _⟩ | ⟨ad, n, c, m, k, D, Pl, hcs, _, hl, hm, hmm, _, hi⟩
  · injection hcs with hcs _
    injection hcs with h1 h2 h3
    subst h1 h2 h3
    exact ⟨[], rfl, .inl rfl, (fun f hf => by cases hf), Nat.zero_le _⟩
  · injection hcs with hcs _
    injection hcs with h1 h2 h3
    subst h1 h2 h3
    simp only [if_true] at hmm
    subst hmm
    have hel : ∀ i, i < len → ∃ z : Int, W.cell? (ad.add (i * 1)) = some (.int .i64 z) ∧ inI z := by
      intro i hilt
      obtain ⟨cs', hc, ht⟩ := hi i (by omega)
      rw [cellsInt] at hc
      obtain ⟨z, e0, _, w0⟩ := DataW.trod_int Try.underlying3 ht
      subst e0
      have := (World.cells?_some hc).2.2 0 (by omega)
      refine ⟨z, ?_, bounds_i64 w0⟩
      simpa [Addr.add] using this
    obtain ⟨F, hF⟩ := @choose_lt Int ⟨0⟩ len (fun i z => W.cell? (ad.add (i * 1)) = some (.int .i64 z) ∧ inI z) hel
    refine ⟨(List.range len).map F, by simp, ?_, ?_, by simp; unfold maxLen at hm; omega⟩
    · rcases Nat.eq_zero_or_pos len with h0 | h0
      · subst h0; exact .inl (by simp [ints])
      · obtain ⟨b, off, spot⟩ := ad
        have h1 := (hF 0 h0).1
        have hspot : spot = none := by simpa [Addr.add] using World.cell?_spot h1
        subst hspot
        refine .inr ⟨b, off, rfl, ?_, fun k hk => ?_⟩
        · have := World.block_lt_of_cell? W _ h1; simpa [Addr.add] using this
        · rw [ints_len, List.length_map, List.length_range] at hk
          have hc := (hF k hk).1
          rw [add_at, Nat.mul_one] at hc
          rw [hc, ints_get _ _ (by simpa using hk)]
          simp [hk]
    · intro z hz
      obtain ⟨i, hi, rfl⟩ := List.mem_map.1 hz
      exact (hF i (by simpa using hi)).2
set_option maxRecDepth 100000 in
theorem ints_cells {H : Type} {enc : TypeId × Value → H} {W : World} {fuel : Nat} {held : Bool} {cs : List Value} {x : DataW H × List MemPlace} (h : DataW.trod enc Try.prog W 0 (fun _ => true) held fuel 32 cs = some x) :
    ∃ (a : Option Addr) (l : List Int) (c : Nat), cs = [.slice a l.length c] ∧ Rws W W.heap.size a (ints l) ∧ (∀ z ∈ l, inI z) ∧ l.length ≤ 9223372036854775807 ∧ (a = none → c = 0) := by
  rcases open_slice Try.underlying32 h with ⟨hcs, _⟩ | ⟨ad, n, c, m, k, D, Pl, hcs, _, _⟩
  · subst hcs
    obtain ⟨l, hl, hA, hi, hlen⟩ := ints_in h
    exact ⟨none, l, 0, by rw [← hl], hA, hi, hlen, fun _ => rfl⟩
  · subst hcs
    obtain ⟨l, hl, hA, hi, hlen⟩ := ints_in h
    exact ⟨some ad, l, c, by rw [← hl], hA, hi, hlen, fun h => by cases h⟩
set_option maxRecDepth 100000 in
theorem cellsIs : Try.prog.cellsOf 32 = 1 := by kernel_rfl
set_option maxRecDepth 100000 in
theorem cellsRu : Try.prog.cellsOf 34 = 9 := by kernel_rfl
set_option maxRecDepth 100000 in
theorem rules_in {H : Type} {enc : TypeId × Value → H} {W : World} {b0 : Nat} {r : Reach} {held : Bool} {v : Value} {d : DataW H} {p : List MemPlace} (hv : Value.okWide Try.prog W r b0 34 v) (h : DataW.Trod enc Try.prog W 0 (fun _ => true) held 34 v d p) :
    ∃ (A : Option Addr) (c : Nat) (s : Ru), v = ruV A c s ∧ s.go ∧ Rws W W.heap.size A (ints s.seats) ∧ (A = none → c = 0) := by
  obtain ⟨cs, rfl, _⟩ := okWide_struct Try.underlying34 hv
  obtain ⟨fuel, hf⟩ := h
  have hf : DataW.trod enc Try.prog W 0 (fun _ => true) held fuel 34 cs.toList = some (d, p) := hf
  obtain ⟨xs, n, _, _, hlen, hxl, hf⟩ := DataW.trod_struct Try.underlying34 hf
  rw [cellsRu] at hlen
  obtain ⟨l⟩ := cs
  have hlen : l.length = 9 := hlen
  match l, hlen, xs, hxl with
  | [c0, c1, c2, c3, c4, c5, c6, c7, c8], _, [y0, y1, y2, y3, y4, y5, y6, y7, y8], _ =>
    have f0 : DataW.trod enc Try.prog W 0 (fun _ => true) held n 32 (([c0, c1, c2, c3, c4, c5, c6, c7, c8].drop 0).take (Try.prog.cellsOf 32)) = some y0 := hf 0 _ rfl
    have g : ∀ j (hj : j < 8), ∃ y, DataW.trod enc Try.prog W 0 (fun _ => true) held n 3 (([c0, c1, c2, c3, c4, c5, c6, c7, c8].drop (j + 1)).take (Try.prog.cellsOf 3)) = some y := by
      intro j hj
      match j, hj with
      | 0, _ => exact ⟨y1, hf 1 _ rfl⟩
      | 1, _ => exact ⟨y2, hf 2 _ rfl⟩
      | 2, _ => exact ⟨y3, hf 3 _ rfl⟩
      | 3, _ => exact ⟨y4, hf 4 _ rfl⟩
      | 4, _ => exact ⟨y5, hf 5 _ rfl⟩
      | 5, _ => exact ⟨y6, hf 6 _ rfl⟩
      | 6, _ => exact ⟨y7, hf 7 _ rfl⟩
      | 7, _ => exact ⟨y8, hf 8 _ rfl⟩
    rw [cellsIs] at f0
    simp only [cellsInt] at g
    have gi : ∀ (c : Value) (y : DataW H × List MemPlace), DataW.trod enc Try.prog W 0 (fun _ => true) held n 3 [c] = some y → ∃ z : Int, c = .int .i64 z ∧ inI z := by
      intro c y hy
      obtain ⟨z, e0, _, w0⟩ := DataW.trod_int Try.underlying3 hy
      injection e0 with e0 _
      exact ⟨z, e0, bounds_i64 w0⟩
    obtain ⟨A, s, c, e0, hA, hi, hlen2, hn⟩ := ints_cells f0
    injection e0 with e0 _
    subst e0
    obtain ⟨z1, rfl, h1⟩ := let ⟨y, hy⟩ := g 0 (by omega); gi _ y hy
    obtain ⟨z2, rfl, h2⟩ := let ⟨y, hy⟩ := g 1 (by omega); gi _ y hy
    obtain ⟨z3, rfl, h3⟩ := let ⟨y, hy⟩ := g 2 (by omega); gi _ y hy
    obtain ⟨z4, rfl, h4⟩ := let ⟨y, hy⟩ := g 3 (by omega); gi _ y hy
    obtain ⟨z5, rfl, h5⟩ := let ⟨y, hy⟩ := g 4 (by omega); gi _ y hy
    obtain ⟨z6, rfl, h6⟩ := let ⟨y, hy⟩ := g 5 (by omega); gi _ y hy
    obtain ⟨z7, rfl, h7⟩ := let ⟨y, hy⟩ := g 6 (by omega); gi _ y hy
    obtain ⟨z8, rfl, h8⟩ := let ⟨y, hy⟩ := g 7 (by omega); gi _ y hy
    exact ⟨A, c, ⟨s, z1, z2, z3, z4, z5, z6, z7, z8⟩, rfl, ⟨hi, h1, h2, h3, h4, h5, h6, h7, h8, hlen2⟩, hA, hn⟩
end Go.Proofs.Ytlflgflmlfileaa
