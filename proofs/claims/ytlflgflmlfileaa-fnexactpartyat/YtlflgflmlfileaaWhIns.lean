/- Wheels that came in. -/
import Derived.Test.YtlflgflmlfileaaRows
import Derived.Test.YtlflgflmlfileaaPnIns
import Derived.Test.YtlflgflmlfileaaHs12
namespace Go.Proofs.Ytlflgflmlfileaa
open Go.RowKit Go.ChangeShapes Go.WideShapes Go.Deep
set_option linter.unusedSimpArgs false
set_option linter.unusedVariables false
/-- A spoke that came in. -/
def Sp.came (W : World) (s : Sp) : Prop := s.ok W ∧ (∀ f ∈ s.l, f.fits) ∧ s.l.length ≤ 9223372036854775807
set_option maxRecDepth 100000 in
theorem spoke_in {H : Type} {enc : TypeId × Value → H} {W : World} {fuel : Nat} {held : Bool} {cs : List Value} {x : DataW H × List MemPlace} (h : DataW.trod enc Try.prog W 0 (fun _ => true) held fuel 159 cs = some x) :
    ∃ s : Sp, cs = spC s ∧ s.came W := by
  rcases open_slice Try.underlying159 h with ⟨hcs, _⟩ | ⟨ad, n, c, m, k, D, Pl, hcs, _, hl, _⟩
  · subst hcs
    obtain ⟨l, hl, hA, hi, hlen⟩ := pns_in h
    have h0 : l = [] := List.eq_nil_of_length_eq_zero hl.symm
    subst h0
    exact ⟨⟨none, 0, []⟩, rfl, ⟨.inl rfl, Nat.le_refl _, fun _ => rfl⟩, (fun f hf => by cases hf), Nat.zero_le _⟩
  · subst hcs
    obtain ⟨l, hl2, hA, hi, hlen⟩ := pns_in h
    subst hl2
    exact ⟨⟨some ad, c, l⟩, rfl, ⟨hA, hl, fun h => by cases h⟩, hi, hlen⟩
set_option maxRecDepth 100000 in
theorem cellsLsp : Try.prog.cellsOf 159 = 1 := by kernel_rfl
set_option maxRecDepth 100000 in
theorem spokes_in {H : Type} {enc : TypeId × Value → H} {W : World} {fuel : Nat} {held : Bool} {cs : List Value} {x : DataW H × List MemPlace} (h : DataW.trod enc Try.prog W 0 (fun _ => true) held fuel 110 cs = some x) :
    ∃ (A : Option Addr) (c : Nat) (l : List Sp), cs = [.slice A l.length c] ∧ Whl W A l ∧ (∀ s ∈ l, s.came W) ∧ l.length ≤ 9223372036854775807 := by
  rcases open_slice Try.underlying110 h with ⟨hcs, _⟩ | ⟨ad, len, c, m, k, D, Pl, hcs, _, hl, hm, hmm, _, hi⟩
  · exact ⟨none, 0, [], hcs, ⟨.inl rfl, (fun s hs => by cases hs)⟩, (fun s hs => by cases hs), Nat.zero_le _⟩
  · simp only [if_true] at hmm
    subst hmm
    have hel : ∀ i, i < len → ∃ s : Sp, (∀ j, j < 1 → W.cell? ((ad.add (i * 1)).add j) = (spC s)[j]?) ∧ s.came W := by
      intro i hilt
      obtain ⟨cs', hc, ht⟩ := hi i (by omega)
      rw [cellsLsp] at hc
      obtain ⟨s, rfl, hw⟩ := spoke_in ht
      exact ⟨s, (World.cells?_some hc).2.2, hw⟩
    obtain ⟨F, hF⟩ := @choose_lt Sp ⟨sp0⟩ len (fun i s => (∀ j, j < 1 → W.cell? ((ad.add (i * 1)).add j) = (spC s)[j]?) ∧ s.came W) hel
    refine ⟨some ad, _, (List.range len).map F, by rw [hcs]; simp; rfl, ⟨?_, ?_⟩, ?_, by simp; unfold maxLen at hm; omega⟩
    · rcases Nat.eq_zero_or_pos len with h0 | h0
      · subst h0; exact .inl (by simp)
      · obtain ⟨b, off, spot⟩ := ad
        have h1 := (hF 0 h0).1 0 (by omega)
        have h1 : W.cell? (((⟨b, off, spot⟩ : Addr).add (0 * 1)).add 0) = some (.slice (F 0).a (F 0).l.length (F 0).c) := h1
        have hspot : spot = none := by simpa [Addr.add] using World.cell?_spot h1
        subst hspot
        refine .inr ⟨b, off, rfl, ?_, fun k hk => ?_⟩
        · have := World.block_lt_of_cell? W _ h1; simpa [Addr.add] using this
        · rw [flat_len spC 1 spC_len, List.length_map, List.length_range] at hk
          have hk3 : k < len := by omega
          have hc := (hF k hk3).1 0 (by omega)
          rw [add_at, add_at, Nat.add_zero, Nat.mul_one] at hc
          rw [hc]
          have hg := flat_get spC 1 spC_len ((List.range len).map F) k 0 sp0 (by simpa using hk3) (by omega)
          rw [Nat.mul_one, Nat.add_zero] at hg
          rw [hg]
          simp [hk3]
    · intro s hs
      obtain ⟨i, hi, rfl⟩ := List.mem_map.1 hs
      exact (hF i (by simpa using hi)).2.1
    · intro s hs
      obtain ⟨i, hi, rfl⟩ := List.mem_map.1 hs
      exact (hF i (by simpa using hi)).2
set_option maxRecDepth 100000 in
theorem cellsLwh : Try.prog.cellsOf 112 = 1 := by kernel_rfl
set_option maxRecDepth 100000 in
theorem cellsLss : Try.prog.cellsOf 110 = 1 := by kernel_rfl
set_option maxRecDepth 100000 in
theorem wheel_in {H : Type} {enc : TypeId × Value → H} {W : World} {b0 : Nat} {r : Reach} {held : Bool} {v : Value} {d : DataW H} {p : List MemPlace} (hv : Value.okWide Try.prog W r b0 112 v) (h : DataW.Trod enc Try.prog W 0 (fun _ => true) held 112 v d p) :
    ∃ (A : Option Addr) (c : Nat) (sp : List Sp), v = .agg #[.slice A sp.length c] ∧ sp.length ≤ 9223372036854775807 ∧ (∀ s ∈ sp, s.l.length ≤ 9223372036854775807) ∧ (∀ l ∈ sp.map (fun s => s.l), ∀ x ∈ l, x.fits) ∧ Whl W A sp := by
  obtain ⟨cs, rfl, _⟩ := okWide_struct Try.underlying112 hv
  obtain ⟨fuel, hf⟩ := h
  have hf : DataW.trod enc Try.prog W 0 (fun _ => true) held fuel 112 cs.toList = some (d, p) := hf
  obtain ⟨xs, n, _, _, hlen, hxl, hf⟩ := DataW.trod_struct Try.underlying112 hf
  rw [cellsLwh] at hlen
  obtain ⟨l⟩ := cs
  have hlen : l.length = 1 := hlen
  match l, hlen, xs, hxl with
  | [c0], _, [y0], _ =>
    have f0 : DataW.trod enc Try.prog W 0 (fun _ => true) held n 110 (([c0].drop 0).take (Try.prog.cellsOf 110)) = some y0 := hf 0 _ rfl
    rw [cellsLss] at f0
    obtain ⟨A, c, sp, e0, hW, hc, hl⟩ := spokes_in f0
    injection e0 with e0 _
    subst e0
    refine ⟨A, c, sp, rfl, hl, (fun s hs => (hc s hs).2.2), ?_, hW⟩
    intro l hl x hx
    obtain ⟨s, hs, rfl⟩ := List.mem_map.1 hl
    exact (hc s hs).2.1 x hx
end Go.Proofs.Ytlflgflmlfileaa
