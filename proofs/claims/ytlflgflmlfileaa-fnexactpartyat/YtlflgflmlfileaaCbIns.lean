/- Cabins that came in. -/
import Derived.Test.YtlflgflmlfileaaRows
import Derived.Test.YtlflgflmlfileaaCvA
import Derived.Test.YtlflgflmlfileaaEnIns
import Derived.Test.YtlflgflmlfileaaLeIns
import Derived.Test.YtlflgflmlfileaaWhIns
namespace Go.Proofs.Ytlflgflmlfileaa
open Go.RowKit Go.ChangeShapes Go.WideShapes Go.Deep
set_option linter.unusedSimpArgs false
set_option linter.unusedVariables false
set_option maxRecDepth 100000 in
theorem ens_cells {H : Type} {enc : TypeId × Value → H} {W : World} {fuel : Nat} {held : Bool} {cs : List Value} {x : DataW H × List MemPlace} (h : DataW.trod enc Try.prog W 0 (fun _ => true) held fuel 66 cs = some x) :
    ∃ (a : Option Addr) (l : List En) (c : Nat), cs = [.slice a l.length c] ∧ Rws W W.heap.size a (l.flatMap enC) ∧ (∀ f ∈ l, f.fits) ∧ l.length ≤ 9223372036854775807 := by
  rcases open_slice Try.underlying66 h with ⟨hcs, _⟩ | ⟨ad, n, c, m, k, D, Pl, hcs, _, _⟩
  · subst hcs
    obtain ⟨l, hl, hA, hi, hlen⟩ := ens_in h
    exact ⟨none, l, 0, by rw [← hl], hA, hi, hlen⟩
  · subst hcs
    obtain ⟨l, hl, hA, hi, hlen⟩ := ens_in h
    exact ⟨some ad, l, c, by rw [← hl], hA, hi, hlen⟩
set_option maxRecDepth 100000 in
theorem cellsLes : Try.prog.cellsOf 66 = 1 := by kernel_rfl
set_option maxRecDepth 100000 in
theorem cellsLcb : Try.prog.cellsOf 114 = 7 := by kernel_rfl
set_option maxRecDepth 100000 in
theorem wheel_trod {H : Type} {enc : TypeId × Value → H} {W : World} {fuel : Nat} {held : Bool} {cs : List Value} {x : DataW H × List MemPlace} (h : DataW.trod enc Try.prog W 0 (fun _ => true) held fuel 112 cs = some x) :
    ∃ (A : Option Addr) (c : Nat) (sp : List Sp), cs = [.slice A sp.length c] ∧ sp.length ≤ 9223372036854775807 ∧ (∀ s ∈ sp, s.l.length ≤ 9223372036854775807) ∧ (∀ l ∈ sp.map (fun s => s.l), ∀ x ∈ l, x.fits) ∧ Whl W A sp := by
  obtain ⟨xs, n, _, _, hlen, hxl, hf⟩ := DataW.trod_struct Try.underlying112 h
  rw [cellsLwh] at hlen
  match cs, hlen, xs, hxl with
  | [c0], _, [y0], _ =>
    have f0 : DataW.trod enc Try.prog W 0 (fun _ => true) held n 110 (([c0].drop 0).take (Try.prog.cellsOf 110)) = some y0 := hf 0 _ rfl
    rw [cellsLss] at f0
    obtain ⟨A, c, sp, e0, hW, hc, hl⟩ := spokes_in f0
    refine ⟨A, c, sp, e0, hl, (fun s hs => (hc s hs).2.2), ?_, hW⟩
    intro l hl x hx
    obtain ⟨s, hs, rfl⟩ := List.mem_map.1 hl
    exact (hc s hs).2.1 x hx
set_option maxRecDepth 100000 in
theorem cabin_in {H : Type} {enc : TypeId × Value → H} {W : World} {b0 : Nat} {r : Reach} {held : Bool} {v : Value} {d : DataW H} {p : List MemPlace} (hv : Value.okWide Try.prog W r b0 114 v) (h : DataW.Trod enc Try.prog W 0 (fun _ => true) held 114 v d p) :
    ∃ (y : Cv), v = cvA y ∧ y.came ∧ y.reads W := by
  obtain ⟨cs, rfl, _⟩ := okWide_struct Try.underlying114 hv
  obtain ⟨fuel, hf⟩ := h
  have hf : DataW.trod enc Try.prog W 0 (fun _ => true) held fuel 114 cs.toList = some (d, p) := hf
  obtain ⟨xs, n, _, _, hlen, hxl, hf⟩ := DataW.trod_struct Try.underlying114 hf
  rw [cellsLcb] at hlen
  obtain ⟨l⟩ := cs
  have hlen : l.length = 7 := hlen
  match l, hlen, xs, hxl with
  | [c0, c1, c2, c3, c4, c5, c6], _, [y0, y1, y2], _ =>
    have f0 : DataW.trod enc Try.prog W 0 (fun _ => true) held n 109 (([c0, c1, c2, c3, c4, c5, c6].drop 0).take (Try.prog.cellsOf 109)) = some y0 := hf 0 _ rfl
    have f1 : DataW.trod enc Try.prog W 0 (fun _ => true) held n 66 (([c0, c1, c2, c3, c4, c5, c6].drop 5).take (Try.prog.cellsOf 66)) = some y1 := hf 1 _ rfl
    have f2 : DataW.trod enc Try.prog W 0 (fun _ => true) held n 112 (([c0, c1, c2, c3, c4, c5, c6].drop 6).take (Try.prog.cellsOf 112)) = some y2 := hf 2 _ rfl
    rw [cellsLle] at f0
    rw [cellsLes] at f1
    rw [cellsLwh] at f2
    obtain ⟨x, e0, hx⟩ := le_trod f0
    obtain ⟨Q, q, qc, e1, hQ, hqf, hql⟩ := ens_cells f1
    obtain ⟨A, c, sp, e2, hn, hs, hf2, hW⟩ := wheel_trod f2
    have g0 : [c0, c1, c2, c3, c4] = leC x := e0
    have g1 : [c5] = [Value.slice Q q.length qc] := e1
    have g2 : [c6] = [Value.slice A sp.length c] := e2
    clear e0 e1 e2 f0 f1 f2 hf hv
    unfold leC at g0
    simp only [List.cons.injEq, and_true] at g0 g1 g2
    obtain ⟨h0, h1, h2, h3, h4⟩ := g0
    subst h0 h1 h2 h3 h4 g1 g2
    exact ⟨⟨x, Q, qc, q, A, c, sp⟩, rfl, ⟨hx, hqf, hql, hn, hs, hf2⟩, ⟨hQ, hW⟩⟩
end Go.Proofs.Ytlflgflmlfileaa
