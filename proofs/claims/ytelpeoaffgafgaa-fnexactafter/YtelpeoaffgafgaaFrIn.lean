/- A slice of frames that came in. -/
import Derived.Test.YtelpeoaffgafgaaRows
import Derived.Test.YtelpeoaffgafgaaG3
import Derived.OpenShut
import Derived.Deep.Slices
import Derived.Deep.Fields
import Derived.ChangeSame
namespace Go.Proofs.Ytelpeoaffgafgaa
open Go.RowKit Go.ChangeShapes Go.WideShapes Go.Deep
set_option linter.unusedSimpArgs false
set_option linter.unusedVariables false
set_option maxRecDepth 100000 in
theorem cellsInt : Try.prog.cellsOf 3 = 1 := by kernel_rfl
set_option maxRecDepth 100000 in
theorem cellsStr : Try.prog.cellsOf 9 = 1 := by kernel_rfl
set_option maxRecDepth 100000 in
theorem cellsLFr : Try.prog.cellsOf 80 = 3 := by kernel_rfl
set_option maxRecDepth 100000 in
theorem frame_in {H : Type} {enc : TypeId × Value → H} {W : World} {base fuel : Nat} {sp : Nat → Bool} {held : Bool} {cs : List Value} {x : DataW H × List MemPlace} (h : DataW.trod enc Try.prog W base sp held fuel 80 cs = some x) :
    ∃ f : Fr, cs = frC f ∧ (-9223372036854775808 ≤ f.seq ∧ f.seq ≤ 9223372036854775807) ∧ f.body.size ≤ 9223372036854775807 := by
  obtain ⟨xs, n, _, _, hlen, hxl, hf⟩ := DataW.trod_struct Try.underlying80 h
  rw [cellsLFr] at hlen
  match cs, hlen, xs, hxl with
  | [c0, c1, c2], _, [y0, y1, y2], _ =>
    have f0 : DataW.trod enc Try.prog W base sp held n 3 (([c0, c1, c2].drop 0).take (Try.prog.cellsOf 3)) = some y0 := hf 0 _ rfl
    have f1 : DataW.trod enc Try.prog W base sp held n 9 (([c0, c1, c2].drop 1).take (Try.prog.cellsOf 9)) = some y1 := hf 1 _ rfl
    have f2 : DataW.trod enc Try.prog W base sp held n 3 (([c0, c1, c2].drop 2).take (Try.prog.cellsOf 3)) = some y2 := hf 2 _ rfl
    rw [cellsInt] at f0 f2
    rw [cellsStr] at f1
    obtain ⟨z0, e0, _, w0⟩ := DataW.trod_int Try.underlying3 f0
    obtain ⟨s, e1, _, w1⟩ := DataW.trod_string Try.underlying9 f1
    obtain ⟨z2, e2, _, w2⟩ := DataW.trod_int Try.underlying3 f2
    injection e0 with e0 _
    injection e1 with e1 _
    injection e2 with e2 _
    subst e0 e1 e2
    refine ⟨⟨z0, s, z2⟩, rfl, bounds_i64 w0, ?_⟩
    unfold maxLen at w1
    show s.size ≤ _
    omega
set_option maxRecDepth 100000 in
theorem frames_in {H : Type} {enc : TypeId × Value → H} {W : World} {fuel len cap : Nat} {held : Bool} {a : Option Addr} {x : DataW H × List MemPlace} (h : DataW.trod enc Try.prog W 0 (fun _ => true) held fuel 49 [.slice a len cap] = some x) :
    ∃ l : List Fr, len = l.length ∧ Rws W W.heap.size a (l.flatMap frC) ∧ FrWf l ∧ FrSz l ∧ l.length ≤ 9223372036854775807 := by
  rcases open_slice Try.underlying49 h with ⟨hcs, _⟩ | ⟨ad, n, c, m, k, D, Pl, hcs, _, hl, hm, hmm, _, hi⟩
  · injection hcs with hcs _
    injection hcs with h1 h2 h3
    subst h1 h2 h3
    exact ⟨[], rfl, .inl rfl, (fun f hf => by cases hf), (fun f hf => by cases hf), Nat.zero_le _⟩
  · injection hcs with hcs _
    injection hcs with h1 h2 h3
    subst h1 h2 h3
    simp only [if_true] at hmm
    subst hmm
    have hel : ∀ i, i < len → ∃ f : Fr, (∀ j, j < 3 → W.cell? ((ad.add (i * 3)).add j) = (frC f)[j]?) ∧ (-9223372036854775808 ≤ f.seq ∧ f.seq ≤ 9223372036854775807) ∧ f.body.size ≤ 9223372036854775807 := by
      intro i hilt
      obtain ⟨cs', hc, ht⟩ := hi i (by omega)
      rw [cellsLFr] at hc
      obtain ⟨f, rfl, hw, hs⟩ := frame_in ht
      exact ⟨f, (World.cells?_some hc).2.2, hw, hs⟩
    obtain ⟨F, hF⟩ := @choose_lt Fr ⟨fr0⟩ len (fun i f => (∀ j, j < 3 → W.cell? ((ad.add (i * 3)).add j) = (frC f)[j]?) ∧ (-9223372036854775808 ≤ f.seq ∧ f.seq ≤ 9223372036854775807) ∧ f.body.size ≤ 9223372036854775807) hel
    refine ⟨(List.range len).map F, by simp, ?_, ?_, ?_, by simp; unfold maxLen at hm; omega⟩
    · rcases Nat.eq_zero_or_pos len with h0 | h0
      · subst h0; exact .inl (by simp)
      · obtain ⟨b, off, spot⟩ := ad
        have h1 := (hF 0 h0).1 0 (by omega)
        have h1 : W.cell? (((⟨b, off, spot⟩ : Addr).add (0 * 3)).add 0) = some (.int .i64 (F 0).seq) := h1
        have hspot : spot = none := by simpa [Addr.add] using World.cell?_spot h1
        subst hspot
        refine .inr ⟨b, off, rfl, ?_, fun k hk => ?_⟩
        · have := World.block_lt_of_cell? W _ h1; simpa [Addr.add] using this
        · rw [flat_len frC 3 frC_len, List.length_map, List.length_range] at hk
          have hk3 : k / 3 < len := by omega
          have hc := (hF (k / 3) hk3).1 (k % 3) (by omega)
          rw [add_at, add_at, Nat.add_assoc, show k / 3 * 3 + k % 3 = k by omega] at hc
          rw [hc]
          have hg := flat_get frC 3 frC_len ((List.range len).map F) (k / 3) (k % 3) fr0 (by simpa using hk3) (by omega)
          rw [show k / 3 * 3 + k % 3 = k by omega] at hg
          rw [hg]
          simp [hk3]
    · intro f hf
      obtain ⟨i, hi, rfl⟩ := List.mem_map.1 hf
      exact (hF i (by simpa using hi)).2.1
    · intro f hf
      obtain ⟨i, hi, rfl⟩ := List.mem_map.1 hf
      exact (hF i (by simpa using hi)).2.2
end Go.Proofs.Ytelpeoaffgafgaa
