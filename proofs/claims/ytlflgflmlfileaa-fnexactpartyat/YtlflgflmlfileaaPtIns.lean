/- Parties that came in. -/
import Derived.Test.YtlflgflmlfileaaRows
import Derived.Test.YtlflgflmlfileaaPtyL
import Derived.Test.YtlflgflmlfileaaIn
namespace Go.Proofs.Ytlflgflmlfileaa
open Go.RowKit Go.ChangeShapes Go.WideShapes Go.Deep
set_option linter.unusedSimpArgs false
set_option linter.unusedVariables false
set_option maxRecDepth 100000 in
theorem cellsLpt : Try.prog.cellsOf 50 = 10 := by kernel_rfl
set_option maxRecDepth 100000 in
theorem pt_trod {H : Type} {enc : TypeId × Value → H} {W : World} {base fuel : Nat} {sp : Nat → Bool} {held : Bool} {cs : List Value} {x : DataW H × List MemPlace} (h : DataW.trod enc Try.prog W base sp held fuel 50 cs = some x) :
    ∃ f : Pt, cs = ptC f ∧ f.fits := by
  obtain ⟨xs, n, _, _, hlen, hxl, hf⟩ := DataW.trod_struct Try.underlying50 h
  rw [cellsLpt] at hlen
  match cs, hlen, xs, hxl with
  | [c0, c1, c2, c3, c4, c5, c6, c7, c8, c9], _, [y0, y1, y2, y3, y4, y5, y6, y7, y8, y9], _ =>
    have f0 : DataW.trod enc Try.prog W base sp held n 3 (([c0, c1, c2, c3, c4, c5, c6, c7, c8, c9].drop 0).take (Try.prog.cellsOf 3)) = some y0 := hf 0 _ rfl
    rw [cellsI] at f0
    obtain ⟨z0, e0, _, w0⟩ := DataW.trod_int Try.underlying3 f0
    injection e0 with e0 _
    have f1 : DataW.trod enc Try.prog W base sp held n 3 (([c0, c1, c2, c3, c4, c5, c6, c7, c8, c9].drop 1).take (Try.prog.cellsOf 3)) = some y1 := hf 1 _ rfl
    rw [cellsI] at f1
    obtain ⟨z1, e1, _, w1⟩ := DataW.trod_int Try.underlying3 f1
    injection e1 with e1 _
    have f2 : DataW.trod enc Try.prog W base sp held n 3 (([c0, c1, c2, c3, c4, c5, c6, c7, c8, c9].drop 2).take (Try.prog.cellsOf 3)) = some y2 := hf 2 _ rfl
    rw [cellsI] at f2
    obtain ⟨z2, e2, _, w2⟩ := DataW.trod_int Try.underlying3 f2
    injection e2 with e2 _
    have f3 : DataW.trod enc Try.prog W base sp held n 3 (([c0, c1, c2, c3, c4, c5, c6, c7, c8, c9].drop 3).take (Try.prog.cellsOf 3)) = some y3 := hf 3 _ rfl
    rw [cellsI] at f3
    obtain ⟨z3, e3, _, w3⟩ := DataW.trod_int Try.underlying3 f3
    injection e3 with e3 _
    have f4 : DataW.trod enc Try.prog W base sp held n 3 (([c0, c1, c2, c3, c4, c5, c6, c7, c8, c9].drop 4).take (Try.prog.cellsOf 3)) = some y4 := hf 4 _ rfl
    rw [cellsI] at f4
    obtain ⟨z4, e4, _, w4⟩ := DataW.trod_int Try.underlying3 f4
    injection e4 with e4 _
    have f5 : DataW.trod enc Try.prog W base sp held n 3 (([c0, c1, c2, c3, c4, c5, c6, c7, c8, c9].drop 5).take (Try.prog.cellsOf 3)) = some y5 := hf 5 _ rfl
    rw [cellsI] at f5
    obtain ⟨z5, e5, _, w5⟩ := DataW.trod_int Try.underlying3 f5
    injection e5 with e5 _
    have f6 : DataW.trod enc Try.prog W base sp held n 3 (([c0, c1, c2, c3, c4, c5, c6, c7, c8, c9].drop 6).take (Try.prog.cellsOf 3)) = some y6 := hf 6 _ rfl
    rw [cellsI] at f6
    obtain ⟨z6, e6, _, w6⟩ := DataW.trod_int Try.underlying3 f6
    injection e6 with e6 _
    have f7 : DataW.trod enc Try.prog W base sp held n 3 (([c0, c1, c2, c3, c4, c5, c6, c7, c8, c9].drop 7).take (Try.prog.cellsOf 3)) = some y7 := hf 7 _ rfl
    rw [cellsI] at f7
    obtain ⟨z7, e7, _, w7⟩ := DataW.trod_int Try.underlying3 f7
    injection e7 with e7 _
    have f8 : DataW.trod enc Try.prog W base sp held n 3 (([c0, c1, c2, c3, c4, c5, c6, c7, c8, c9].drop 8).take (Try.prog.cellsOf 3)) = some y8 := hf 8 _ rfl
    rw [cellsI] at f8
    obtain ⟨z8, e8, _, w8⟩ := DataW.trod_int Try.underlying3 f8
    injection e8 with e8 _
    have f9 : DataW.trod enc Try.prog W base sp held n 3 (([c0, c1, c2, c3, c4, c5, c6, c7, c8, c9].drop 9).take (Try.prog.cellsOf 3)) = some y9 := hf 9 _ rfl
    rw [cellsI] at f9
    obtain ⟨z9, e9, _, w9⟩ := DataW.trod_int Try.underlying3 f9
    injection e9 with e9 _
    subst e0 e1 e2 e3 e4 e5 e6 e7 e8 e9
    exact ⟨⟨z0, z1, z2, z3, z4, z5, z6, z7, z8, z9⟩, rfl, bounds_i64 w0, bounds_i64 w1, bounds_i64 w2, bounds_i64 w3, bounds_i64 w4, bounds_i64 w5, bounds_i64 w6, bounds_i64 w7, bounds_i64 w8, bounds_i64 w9⟩
set_option maxRecDepth 100000 in
theorem pt_in {H : Type} {enc : TypeId × Value → H} {W : World} {base b0 : Nat} {r : Reach} {sp : Nat → Bool} {held : Bool} {v : Value} {d : DataW H} {p : List MemPlace} (hv : Value.okWide Try.prog W r b0 50 v) (h : DataW.Trod enc Try.prog W base sp held 50 v d p) :
    ∃ a : Pt, v = ptA a ∧ a.fits := by
  obtain ⟨cs, rfl, _⟩ := okWide_struct Try.underlying50 hv
  obtain ⟨fuel, hf⟩ := h
  obtain ⟨a, e, hg⟩ := pt_trod hf
  refine ⟨a, ?_, hg⟩
  have e : cs.toList = ptC a := e
  unfold ptA
  congr
  exact Array.toList_inj.mp e
set_option maxRecDepth 100000 in
theorem pts_in {H : Type} {enc : TypeId × Value → H} {W : World} {fuel len cap : Nat} {held : Bool} {a : Option Addr} {x : DataW H × List MemPlace} (h : DataW.trod enc Try.prog W 0 (fun _ => true) held fuel 35 [.slice a len cap] = some x) :
    ∃ l : List Pt, len = l.length ∧ Rws W W.heap.size a (l.flatMap ptC) ∧ (∀ f ∈ l, f.fits) ∧ l.length ≤ 9223372036854775807 := by
  rcases open_slice Try.underlying35 h with ⟨hcs, _⟩ | ⟨ad, n, c, m, k, D, Pl, hcs, _, hl, hm, hmm, _, hi⟩
  · injection hcs with hcs _
    injection hcs with h1 h2 h3
    subst h1 h2 h3
    exact ⟨[], rfl, .inl rfl, (fun f hf => by cases hf), Nat.zero_le _⟩
  · injection hcs with hcs _
    injection hcs with h1 h2 h3
    subst h1 h2 h3
    simp only [if_true] at hmm
    subst hmm
    have hel : ∀ i, i < len → ∃ f : Pt, (∀ j, j < 10 → W.cell? ((ad.add (i * 10)).add j) = (ptC f)[j]?) ∧ f.fits := by
      intro i hilt
      obtain ⟨cs', hc, ht⟩ := hi i (by omega)
      rw [cellsLpt] at hc
      obtain ⟨f, rfl, hw⟩ := pt_trod ht
      exact ⟨f, (World.cells?_some hc).2.2, hw⟩
    obtain ⟨F, hF⟩ := @choose_lt Pt ⟨pt0⟩ len (fun i f => (∀ j, j < 10 → W.cell? ((ad.add (i * 10)).add j) = (ptC f)[j]?) ∧ f.fits) hel
    refine ⟨(List.range len).map F, by simp, ?_, ?_, by simp; unfold maxLen at hm; omega⟩
    · rcases Nat.eq_zero_or_pos len with h0 | h0
      · subst h0; exact .inl (by simp)
      · obtain ⟨b, off, spot⟩ := ad
        have h1 := (hF 0 h0).1 0 (by omega)
        have h1 : W.cell? (((⟨b, off, spot⟩ : Addr).add (0 * 10)).add 0) = some (.int .i64 (F 0).id) := h1
        have hspot : spot = none := by simpa [Addr.add] using World.cell?_spot h1
        subst hspot
        refine .inr ⟨b, off, rfl, ?_, fun k hk => ?_⟩
        · have := World.block_lt_of_cell? W _ h1; simpa [Addr.add] using this
        · rw [flat_len ptC 10 ptC_len, List.length_map, List.length_range] at hk
          have hk3 : k / 10 < len := by omega
          have hc := (hF (k / 10) hk3).1 (k % 10) (by omega)
          rw [add_at, add_at, Nat.add_assoc, show k / 10 * 10 + k % 10 = k by omega] at hc
          rw [hc]
          have hg := flat_get ptC 10 ptC_len ((List.range len).map F) (k / 10) (k % 10) pt0 (by simpa using hk3) (by omega)
          rw [show k / 10 * 10 + k % 10 = k by omega] at hg
          rw [hg]
          simp [hk3]
    · intro f hf
      obtain ⟨i, hi, rfl⟩ := List.mem_map.1 hf
      exact (hF i (by simpa using hi)).2
end Go.Proofs.Ytlflgflmlfileaa
