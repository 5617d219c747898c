/- A state that came in. -/
import Derived.Test.YtlflgflmlfileaaRows
import Derived.Test.YtlflgflmlfileaaHcA
import Derived.Test.YtlflgflmlfileaaCbIns
import Derived.Test.YtlflgflmlfileaaPtIns
import Derived.Test.YtlflgflmlfileaaIn
namespace Go.Proofs.Ytlflgflmlfileaa
open Go.RowKit Go.ChangeShapes Go.WideShapes Go.Deep
set_option linter.unusedSimpArgs false
set_option linter.unusedVariables false
set_option maxRecDepth 100000 in
theorem cabin_trod {H : Type} {enc : TypeId × Value → H} {W : World} {fuel : Nat} {held : Bool} {cs : List Value} {x : DataW H × List MemPlace} (hf : DataW.trod enc Try.prog W 0 (fun _ => true) held fuel 114 cs = some x) :
    ∃ (y : Cv), cs = cvL y ∧ y.came ∧ y.reads W := by
  obtain ⟨xs, n, _, _, hlen, hxl, hf⟩ := DataW.trod_struct Try.underlying114 hf
  rw [cellsLcb] at hlen
  match cs, hlen, xs, hxl with
  | [c0, c1, c2, c3, c4, c5, c6], _, [y0, y1, y2], _ =>
    have f0 : DataW.trod enc Try.prog W 0 (fun _ => true) held n 109 (([c0, c1, c2, c3, c4, c5, c6].drop 0).take (Try.prog.cellsOf 109)) = some y0 := hf 0 _ rfl
    have f1 : DataW.trod enc Try.prog W 0 (fun _ => true) held n 66 (([c0, c1, c2, c3, c4, c5, c6].drop 5).take (Try.prog.cellsOf 66)) = some y1 := hf 1 _ rfl
    have f2 : DataW.trod enc Try.prog W 0 (fun _ => true) held n 112 (([c0, c1, c2, c3, c4, c5, c6].drop 6).take (Try.prog.cellsOf 112)) = some y2 := hf 2 _ rfl
    rw [cellsLle] at f0
    rw [cellsLes] at f1
    rw [cellsLwh] at f2
    obtain ⟨x, e0, hx⟩ := le_trod f0
    obtain ⟨Q, q, qc, e1, hQ, hqf, hql⟩ := ens_cells f1
    obtain ⟨A, c, sp, e2, hn, hs, hf2, hW⟩ := wheel_trod f2
    have g0 : [c0, c1, c2, c3, c4] = leC x := e0
    have g1 : [c5] = [Value.slice Q q.length qc] := e1
    have g2 : [c6] = [Value.slice A sp.length c] := e2
    clear e0 e1 e2 f0 f1 f2 hf
    unfold leC at g0
    simp only [List.cons.injEq, and_true] at g0 g1 g2
    obtain ⟨h0, h1, h2, h3, h4⟩ := g0
    subst h0 h1 h2 h3 h4 g1 g2
    exact ⟨⟨x, Q, qc, q, A, c, sp⟩, rfl, ⟨hx, hqf, hql, hn, hs, hf2⟩, ⟨hQ, hW⟩⟩
set_option maxRecDepth 100000 in
theorem rules_trod {H : Type} {enc : TypeId × Value → H} {W : World} {fuel : Nat} {held : Bool} {cs : List Value} {x : DataW H × List MemPlace} (hf : DataW.trod enc Try.prog W 0 (fun _ => true) held fuel 34 cs = some x) :
    ∃ (A : Option Addr) (c : Nat) (s : Ru), cs = [.slice A s.seats.length c, .int .i64 s.tiers, .int .i64 s.room, .int .i64 s.size, .int .i64 s.period, .int .i64 s.window, .int .i64 s.rest, .int .i64 s.tries, .int .i64 s.crew] ∧ s.go ∧ Rws W W.heap.size A (ints s.seats) ∧ (A = none → c = 0) := by
  obtain ⟨xs, n, _, _, hlen, hxl, hf⟩ := DataW.trod_struct Try.underlying34 hf
  rw [cellsRu] at hlen
  match cs, hlen, xs, hxl with
  | [c0, c1, c2, c3, c4, c5, c6, c7, c8], _, [y0, y1, y2, y3, y4, y5, y6, y7, y8], _ =>
    have f0 : DataW.trod enc Try.prog W 0 (fun _ => true) held n 32 (([c0, c1, c2, c3, c4, c5, c6, c7, c8].drop 0).take (Try.prog.cellsOf 32)) = some y0 := hf 0 _ rfl
    have g : ∀ j (hj : j < 8), ∃ y, DataW.trod enc Try.prog W 0 (fun _ => true) held n 3 (([c0, c1, c2, c3, c4, c5, c6, c7, c8].drop (j + 1)).take (Try.prog.cellsOf 3)) = some y := by
      intro j hj
      match j, hj with
      | 0, _ => exact ⟨y1, hf 1 _ rfl⟩
      | 1, _ => exact ⟨y2, hf 2 _ rfl⟩
      | 2, _ => exact ⟨y3, hf 3 _ rfl⟩
      | 3, _ => exact ⟨y4, hf 4 _ rfl⟩
      | 4, _ => exact ⟨y5, hf 5 _ rfl⟩
      | 5, _ => exact ⟨y6, hf 6 _ rfl⟩
      | 6, _ => exact ⟨y7, hf 7 _ rfl⟩
      | 7, _ => exact ⟨y8, hf 8 _ rfl⟩
    rw [cellsIs] at f0
    simp only [cellsInt] at g
    have gi : ∀ (c : Value) (y : DataW H × List MemPlace), DataW.trod enc Try.prog W 0 (fun _ => true) held n 3 [c] = some y → ∃ z : Int, c = .int .i64 z ∧ inI z := by
      intro c y hy
      obtain ⟨z, e0, _, w0⟩ := DataW.trod_int Try.underlying3 hy
      injection e0 with e0 _
      exact ⟨z, e0, bounds_i64 w0⟩
    obtain ⟨A, s, c, e0, hA, hi, hlen2, hn⟩ := ints_cells f0
    injection e0 with e0 _
    subst e0
    obtain ⟨z1, rfl, h1⟩ := let ⟨y, hy⟩ := g 0 (by omega); gi _ y hy
    obtain ⟨z2, rfl, h2⟩ := let ⟨y, hy⟩ := g 1 (by omega); gi _ y hy
    obtain ⟨z3, rfl, h3⟩ := let ⟨y, hy⟩ := g 2 (by omega); gi _ y hy
    obtain ⟨z4, rfl, h4⟩ := let ⟨y, hy⟩ := g 3 (by omega); gi _ y hy
    obtain ⟨z5, rfl, h5⟩ := let ⟨y, hy⟩ := g 4 (by omega); gi _ y hy
    obtain ⟨z6, rfl, h6⟩ := let ⟨y, hy⟩ := g 5 (by omega); gi _ y hy
    obtain ⟨z7, rfl, h7⟩ := let ⟨y, hy⟩ := g 6 (by omega); gi _ y hy
    obtain ⟨z8, rfl, h8⟩ := let ⟨y, hy⟩ := g 7 (by omega); gi _ y hy
    exact ⟨A, c, ⟨s, z1, z2, z3, z4, z5, z6, z7, z8⟩, rfl, ⟨hi, h1, h2, h3, h4, h5, h6, h7, h8, hlen2⟩, hA, hn⟩
set_option maxRecDepth 100000 in
theorem pts_cells {H : Type} {enc : TypeId × Value → H} {W : World} {fuel : Nat} {held : Bool} {cs : List Value} {x : DataW H × List MemPlace} (h : DataW.trod enc Try.prog W 0 (fun _ => true) held fuel 35 cs = some x) :
    ∃ (a : Option Addr) (l : List Pt) (c : Nat), cs = [.slice a l.length c] ∧ Rws W W.heap.size a (l.flatMap ptC) ∧ l.length ≤ 9223372036854775807 := by
  rcases open_slice Try.underlying35 h with ⟨hcs, _⟩ | ⟨ad, n, c, m, k, D, Pl, hcs, _, _⟩
  · subst hcs
    obtain ⟨l, hl, hA, hi, hlen⟩ := pts_in h
    exact ⟨none, l, 0, by rw [← hl], hA, hlen⟩
  · subst hcs
    obtain ⟨l, hl, hA, hi, hlen⟩ := pts_in h
    exact ⟨some ad, l, c, by rw [← hl], hA, hlen⟩
set_option maxRecDepth 100000 in
theorem cabins_cells {H : Type} {enc : TypeId × Value → H} {W : World} {fuel : Nat} {held : Bool} {cs : List Value} {x : DataW H × List MemPlace} (h : DataW.trod enc Try.prog W 0 (fun _ => true) held fuel 36 cs = some x) :
    ∃ (A : Option Addr) (l : List Cv) (c : Nat), cs = [.slice A l.length c] ∧ CsR W A l ∧ (∀ v ∈ l, v.came) ∧ l.length ≤ 9223372036854775807 := by
  rcases open_slice Try.underlying36 h with ⟨hcs, _⟩ | ⟨ad, len, c, m, k, D, Pl, hcs, _, hl, hm, hmm, _, hi⟩
  · exact ⟨none, [], 0, hcs, ⟨.inl rfl, (fun s hs => by cases hs)⟩, (fun s hs => by cases hs), Nat.zero_le _⟩
  · simp only [if_true] at hmm
    subst hmm
    have hel : ∀ i, i < len → ∃ s : Cv, (∀ j, j < 7 → W.cell? ((ad.add (i * 7)).add j) = (cvL s)[j]?) ∧ s.came ∧ s.reads W := by
      intro i hilt
      obtain ⟨cs', hc, ht⟩ := hi i (by omega)
      rw [cellsLcb] at hc
      obtain ⟨s, rfl, hw⟩ := cabin_trod ht
      exact ⟨s, (World.cells?_some hc).2.2, hw⟩
    obtain ⟨F, hF⟩ := @choose_lt Cv ⟨cv0⟩ len (fun i s => (∀ j, j < 7 → W.cell? ((ad.add (i * 7)).add j) = (cvL s)[j]?) ∧ s.came ∧ s.reads W) hel
    refine ⟨some ad, (List.range len).map F, _, by rw [hcs]; simp; rfl, ⟨?_, ?_⟩, ?_, by simp; unfold maxLen at hm; omega⟩
    · rcases Nat.eq_zero_or_pos len with h0 | h0
      · subst h0; exact .inl (by simp)
      · obtain ⟨b, off, spot⟩ := ad
        have h1 := (hF 0 h0).1 0 (by omega)
        have h1 : W.cell? (((⟨b, off, spot⟩ : Addr).add (0 * 7)).add 0) = some (.int .i64 (F 0).le.total) := h1
        have hspot : spot = none := by simpa [Addr.add] using World.cell?_spot h1
        subst hspot
        refine .inr ⟨b, off, rfl, ?_, fun k hk => ?_⟩
        · have := World.block_lt_of_cell? W _ h1; simpa [Addr.add] using this
        · rw [flat_len cvL 7 cvL_len, List.length_map, List.length_range] at hk
          have hk3 : k / 7 < len := by omega
          have hc := (hF (k / 7) hk3).1 (k % 7) (by omega)
          rw [add_at, add_at, Nat.add_assoc, show k / 7 * 7 + k % 7 = k by omega] at hc
          rw [hc]
          have hg := flat_get cvL 7 cvL_len ((List.range len).map F) (k / 7) (k % 7) cv0 (by simpa using hk3) (by omega)
          rw [show k / 7 * 7 + k % 7 = k by omega] at hg
          rw [hg]
          simp [hk3]
    · intro s hs
      obtain ⟨i, hi, rfl⟩ := List.mem_map.1 hs
      exact (hF i (by simpa using hi)).2.2
    · intro s hs
      obtain ⟨i, hi, rfl⟩ := List.mem_map.1 hs
      exact (hF i (by simpa using hi)).2.1
set_option maxRecDepth 100000 in
theorem cellsLho : Try.prog.cellsOf 38 = 15 := by kernel_rfl
set_option maxRecDepth 100000 in
theorem cellsLps : Try.prog.cellsOf 35 = 1 := by kernel_rfl
set_option maxRecDepth 100000 in
theorem cellsLcs : Try.prog.cellsOf 36 = 1 := by kernel_rfl
set_option maxRecDepth 100000 in
set_option maxHeartbeats 1600000 in
theorem house_in {H : Type} {enc : TypeId × Value → H} {W : World} {b0 : Nat} {r : Reach} {held : Bool} {v : Value} {d : DataW H} {p : List MemPlace} (hv : Value.okWide Try.prog W r b0 38 v) (h : DataW.Trod enc Try.prog W 0 (fun _ => true) held 38 v d p) :
    ∃ (y : Hv), v = hvA y ∧ y.came ∧ y.reads W := by
  obtain ⟨cs, rfl, _⟩ := okWide_struct Try.underlying38 hv
  obtain ⟨fuel, hf⟩ := h
  have hf : DataW.trod enc Try.prog W 0 (fun _ => true) held fuel 38 cs.toList = some (d, p) := hf
  obtain ⟨xs, n, _, _, hlen, hxl, hf⟩ := DataW.trod_struct Try.underlying38 hf
  rw [cellsLho] at hlen
  obtain ⟨l⟩ := cs
  have hlen : l.length = 15 := hlen
  match l, hlen, xs, hxl with
  | [c0, c1, c2, c3, c4, c5, c6, c7, c8, c9, c10, c11, c12, c13, c14], _, [y0, y1, y2, y3, y4, y5, y6], _ =>
    have f0 : DataW.trod enc Try.prog W 0 (fun _ => true) held n 34 (([c0, c1, c2, c3, c4, c5, c6, c7, c8, c9, c10, c11, c12, c13, c14].drop 0).take (Try.prog.cellsOf 34)) = some y0 := hf 0 _ rfl
    rw [cellsRu] at f0
    have f1 : DataW.trod enc Try.prog W 0 (fun _ => true) held n 3 (([c0, c1, c2, c3, c4, c5, c6, c7, c8, c9, c10, c11, c12, c13, c14].drop 9).take (Try.prog.cellsOf 3)) = some y1 := hf 1 _ rfl
    rw [cellsInt] at f1
    have f2 : DataW.trod enc Try.prog W 0 (fun _ => true) held n 3 (([c0, c1, c2, c3, c4, c5, c6, c7, c8, c9, c10, c11, c12, c13, c14].drop 10).take (Try.prog.cellsOf 3)) = some y2 := hf 2 _ rfl
    rw [cellsInt] at f2
    have f3 : DataW.trod enc Try.prog W 0 (fun _ => true) held n 35 (([c0, c1, c2, c3, c4, c5, c6, c7, c8, c9, c10, c11, c12, c13, c14].drop 11).take (Try.prog.cellsOf 35)) = some y3 := hf 3 _ rfl
    rw [cellsLps] at f3
    have f4 : DataW.trod enc Try.prog W 0 (fun _ => true) held n 36 (([c0, c1, c2, c3, c4, c5, c6, c7, c8, c9, c10, c11, c12, c13, c14].drop 12).take (Try.prog.cellsOf 36)) = some y4 := hf 4 _ rfl
    rw [cellsLcs] at f4
    have f5 : DataW.trod enc Try.prog W 0 (fun _ => true) held n 32 (([c0, c1, c2, c3, c4, c5, c6, c7, c8, c9, c10, c11, c12, c13, c14].drop 13).take (Try.prog.cellsOf 32)) = some y5 := hf 5 _ rfl
    rw [cellsIs] at f5
    have f6 : DataW.trod enc Try.prog W 0 (fun _ => true) held n 32 (([c0, c1, c2, c3, c4, c5, c6, c7, c8, c9, c10, c11, c12, c13, c14].drop 14).take (Try.prog.cellsOf 32)) = some y6 := hf 6 _ rfl
    rw [cellsIs] at f6
    obtain ⟨RA, rc, r, e0, hr, hR, _⟩ := rules_trod f0
    obtain ⟨z1, e1, _, _⟩ := DataW.trod_int Try.underlying3 f1
    obtain ⟨z2, e2, _, _⟩ := DataW.trod_int Try.underlying3 f2
    obtain ⟨PA, pl, pc, e3, hP, hpl⟩ := pts_cells f3
    obtain ⟨CA, vs, cc, e4, hC, hvs, hcl⟩ := cabins_cells f4
    obtain ⟨TA, tl, tc, e5, hT, _, htl, _⟩ := ints_cells f5
    obtain ⟨JA, jl, jc, e6, hJ, _, hjl, _⟩ := ints_cells f6
    have g0 : [c0, c1, c2, c3, c4, c5, c6, c7, c8] = [.slice RA r.seats.length rc, .int .i64 r.tiers, .int .i64 r.room, .int .i64 r.size, .int .i64 r.period, .int .i64 r.window, .int .i64 r.rest, .int .i64 r.tries, .int .i64 r.crew] := e0
    have g1 : [c9] = [Value.int .i64 z1] := e1
    have g2 : [c10] = [Value.int .i64 z2] := e2
    have g3 : [c11] = [Value.slice PA pl.length pc] := e3
    have g4 : [c12] = [Value.slice CA vs.length cc] := e4
    have g5 : [c13] = [Value.slice TA tl.length tc] := e5
    have g6 : [c14] = [Value.slice JA jl.length jc] := e6
    clear e0 e1 e2 e3 e4 e5 e6 f0 f1 f2 f3 f4 f5 f6 hf hv
    simp only [List.cons.injEq, and_true] at g0 g1 g2 g3 g4 g5 g6
    obtain ⟨h0, h1, h2, h3, h4, h5, h6, h7, h8⟩ := g0
    subst h0 h1 h2 h3 h4 h5 h6 h7 h8 g1 g2 g3 g4 g5 g6
    exact ⟨⟨RA, rc, r, z1, z2, PA, pc, pl, CA, cc, vs, TA, tc, tl, JA, jc, jl⟩, rfl, ⟨hr.len, hpl, hcl, hvs, htl, hjl⟩, ⟨hR, hP, hC, hT, hJ⟩⟩
end Go.Proofs.Ytlflgflmlfileaa
