/- Pins that came in. -/
import Derived.Test.YtlflgflmlfileaaRows
import Derived.Test.YtlflgflmlfileaaPnL
import Derived.Test.YtlflgflmlfileaaIn
namespace Go.Proofs.Ytlflgflmlfileaa
open Go.RowKit Go.ChangeShapes Go.WideShapes Go.Deep
set_option linter.unusedSimpArgs false
set_option linter.unusedVariables false
set_option maxRecDepth 100000 in
theorem cellsLpn : Try.prog.cellsOf 179 = 2 := by kernel_rfl
set_option maxRecDepth 100000 in
theorem pn_trod {H : Type} {enc : TypeId × Value → H} {W : World} {base fuel : Nat} {sp : Nat → Bool} {held : Bool} {cs : List Value} {x : DataW H × List MemPlace} (h : DataW.trod enc Try.prog W base sp held fuel 179 cs = some x) :
    ∃ f : Pn, cs = pnC f ∧ f.fits := by
  obtain ⟨xs, n, _, _, hlen, hxl, hf⟩ := DataW.trod_struct Try.underlying179 h
  rw [cellsLpn] at hlen
  match cs, hlen, xs, hxl with
  | [c0, c1], _, [y0, y1], _ =>
    have f0 : DataW.trod enc Try.prog W base sp held n 3 (([c0, c1].drop 0).take (Try.prog.cellsOf 3)) = some y0 := hf 0 _ rfl
    rw [cellsI] at f0
    obtain ⟨z0, e0, _, w0⟩ := DataW.trod_int Try.underlying3 f0
    injection e0 with e0 _
    have f1 : DataW.trod enc Try.prog W base sp held n 3 (([c0, c1].drop 1).take (Try.prog.cellsOf 3)) = some y1 := hf 1 _ rfl
    rw [cellsI] at f1
    obtain ⟨z1, e1, _, w1⟩ := DataW.trod_int Try.underlying3 f1
    injection e1 with e1 _
    subst e0 e1
    exact ⟨⟨z0, z1⟩, rfl, bounds_i64 w0, bounds_i64 w1⟩
set_option maxRecDepth 100000 in
theorem pn_in {H : Type} {enc : TypeId × Value → H} {W : World} {base b0 : Nat} {r : Reach} {sp : Nat → Bool} {held : Bool} {v : Value} {d : DataW H} {p : List MemPlace} (hv : Value.okWide Try.prog W r b0 179 v) (h : DataW.Trod enc Try.prog W base sp held 179 v d p) :
    ∃ a : Pn, v = pnA a ∧ a.fits := by
  obtain ⟨cs, rfl, _⟩ := okWide_struct Try.underlying179 hv
  obtain ⟨fuel, hf⟩ := h
  obtain ⟨a, e, hg⟩ := pn_trod hf
  refine ⟨a, ?_, hg⟩
  have e : cs.toList = pnC a := e
  unfold pnA
  congr
  exact Array.toList_inj.mp e
set_option maxRecDepth 100000 in
theorem pns_in {H : Type} {enc : TypeId × Value → H} {W : World} {fuel len cap : Nat} {held : Bool} {a : Option Addr} {x : DataW H × List MemPlace} (h : DataW.trod enc Try.prog W 0 (fun _ => true) held fuel 159 [.slice a len cap] = some x) :
    ∃ l : List Pn, len = l.length ∧ Rws W W.heap.size a (l.flatMap pnC) ∧ (∀ f ∈ l, f.fits) ∧ l.length ≤ 9223372036854775807 := by
  rcases open_slice Try.underlying159 h with ⟨hcs, _⟩ | ⟨ad, n, c, m, k, D, Pl, hcs, _, hl, hm, hmm, _, hi⟩
  · injection hcs with hcs _
    injection hcs with h1 h2 h3
    subst h1 h2 h3
    exact ⟨[], rfl, .inl rfl, (fun f hf => by cases hf), Nat.zero_le _⟩
  · injection hcs with hcs _
    injection hcs with h1 h2 h3
    subst h1 h2 h3
    simp only [if_true] at hmm
    subst hmm
    have hel : ∀ i, i < len → ∃ f : Pn, (∀ j, j < 2 → W.cell? ((ad.add (i * 2)).add j) = (pnC f)[j]?) ∧ f.fits := by
      intro i hilt
      obtain ⟨cs', hc, ht⟩ := hi i (by omega)
      rw [cellsLpn] at hc
      obtain ⟨f, rfl, hw⟩ := pn_trod ht
      exact ⟨f, (World.cells?_some hc).2.2, hw⟩
    obtain ⟨F, hF⟩ := @choose_lt Pn ⟨pn0⟩ len (fun i f => (∀ j, j < 2 → W.cell? ((ad.add (i * 2)).add j) = (pnC f)[j]?) ∧ f.fits) hel
    refine ⟨(List.range len).map F, by simp, ?_, ?_, by simp; unfold maxLen at hm; omega⟩
    · rcases Nat.eq_zero_or_pos len with h0 | h0
      · subst h0; exact .inl (by simp)
      · obtain ⟨b, off, spot⟩ := ad
        have h1 := (hF 0 h0).1 0 (by omega)
        have h1 : W.cell? (((⟨b, off, spot⟩ : Addr).add (0 * 2)).add 0) = some (.int .i64 (F 0).at_) := h1
        have hspot : spot = none := by simpa [Addr.add] using World.cell?_spot h1
        subst hspot
        refine .inr ⟨b, off, rfl, ?_, fun k hk => ?_⟩
        · have := World.block_lt_of_cell? W _ h1; simpa [Addr.add] using this
        · rw [flat_len pnC 2 pnC_len, List.length_map, List.length_range] at hk
          have hk3 : k / 2 < len := by omega
          have hc := (hF (k / 2) hk3).1 (k % 2) (by omega)
          rw [add_at, add_at, Nat.add_assoc, show k / 2 * 2 + k % 2 = k by omega] at hc
          rw [hc]
          have hg := flat_get pnC 2 pnC_len ((List.range len).map F) (k / 2) (k % 2) pn0 (by simpa using hk3) (by omega)
          rw [show k / 2 * 2 + k % 2 = k by omega] at hg
          rw [hg]
          simp [hk3]
    · intro f hf
      obtain ⟨i, hi, rfl⟩ := List.mem_map.1 hf
      exact (hF i (by simpa using hi)).2
end Go.Proofs.Ytlflgflmlfileaa
