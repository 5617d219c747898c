/- Areas and stores that came in. -/
import Derived.Test.YtcapioiigfldoaaRows
import Derived.Test.YtcapioiigfldoaaSt
import Derived.OpenShut
import Derived.Deep.Slices
import Derived.Deep.Fields
import Derived.ChangeSame
namespace Go.Proofs.Ytcapioiigfldoaa
open Go.RowKit Go.ChangeShapes Go.WideShapes Go.Deep
set_option linter.unusedSimpArgs false
set_option linter.unusedVariables false
set_option maxRecDepth 100000 in
theorem cellsI : Try.prog.cellsOf 3 = 1 := by kernel_rfl
set_option maxRecDepth 100000 in
theorem cellsS : Try.prog.cellsOf 9 = 1 := by kernel_rfl
set_option maxRecDepth 100000 in
theorem cellsAr : Try.prog.cellsOf 41 = 2 := by kernel_rfl
set_option maxRecDepth 100000 in
theorem cellsSt : Try.prog.cellsOf 47 = 6 := by kernel_rfl
set_option maxRecDepth 100000 in
theorem area_cells {H : Type} {enc : TypeId × Value → H} {W : World} {base fuel : Nat} {sp : Nat → Bool} {held : Bool} {cs : List Value} {x : DataW H × List MemPlace} (h : DataW.trod enc Try.prog W base sp held fuel 41 cs = some x) :
    ∃ a : Ar, cs = [.string a.data, .int .i64 a.safe] ∧ a.go := by
  obtain ⟨xs, n, _, _, hlen, hxl, hf⟩ := DataW.trod_struct Try.underlying41 h
  rw [cellsAr] at hlen
  match cs, hlen, xs, hxl with
  | [c0, c1], _, [y0, y1], _ =>
    have f0 : DataW.trod enc Try.prog W base sp held n 9 (([c0, c1].drop 0).take (Try.prog.cellsOf 9)) = some y0 := hf 0 _ rfl
    have f1 : DataW.trod enc Try.prog W base sp held n 3 (([c0, c1].drop 1).take (Try.prog.cellsOf 3)) = some y1 := hf 1 _ rfl
    rw [cellsS] at f0
    rw [cellsI] at f1
    obtain ⟨s, e0, _, w0⟩ := DataW.trod_string Try.underlying9 f0
    obtain ⟨z, e1, _, w1⟩ := DataW.trod_int Try.underlying3 f1
    injection e0 with e0 _
    injection e1 with e1 _
    subst e0 e1
    refine ⟨⟨s, z⟩, rfl, ?_, bounds_i64 w1⟩
    unfold maxLen at w0
    show s.size ≤ _
    omega
set_option maxRecDepth 100000 in
theorem area_in {H : Type} {enc : TypeId × Value → H} {W : World} {base b0 : Nat} {r : Reach} {sp : Nat → Bool} {held : Bool} {v : Value} {d : DataW H} {p : List MemPlace} (hv : Value.okWide Try.prog W r b0 41 v) (h : DataW.Trod enc Try.prog W base sp held 41 v d p) :
    ∃ a : Ar, v = arA a ∧ a.go := by
  obtain ⟨cs, rfl, _⟩ := okWide_struct Try.underlying41 hv
  obtain ⟨fuel, hf⟩ := h
  obtain ⟨a, e, hg⟩ := area_cells hf
  refine ⟨a, ?_, hg⟩
  have e : cs.toList = [.string a.data, .int .i64 a.safe] := e
  unfold arA
  congr
  exact Array.toList_inj.mp e
set_option maxRecDepth 100000 in
theorem store_in {H : Type} {enc : TypeId × Value → H} {W : World} {base b0 : Nat} {r : Reach} {sp : Nat → Bool} {held : Bool} {v : Value} {d : DataW H} {p : List MemPlace} (hv : Value.okWide Try.prog W r b0 47 v) (h : DataW.Trod enc Try.prog W base sp held 47 v d p) :
    ∃ s : St, v = stA s ∧ s.go := by
  obtain ⟨cs, rfl, _⟩ := okWide_struct Try.underlying47 hv
  obtain ⟨fuel, hf⟩ := h
  have hf : DataW.trod enc Try.prog W base sp held fuel 47 cs.toList = some (d, p) := hf
  obtain ⟨xs, n, _, _, hlen, hxl, hf⟩ := DataW.trod_struct Try.underlying47 hf
  rw [cellsSt] at hlen
  obtain ⟨l⟩ := cs
  have hlen : l.length = 6 := hlen
  match l, hlen, xs, hxl with
  | [c0, c1, c2, c3, c4, c5], _, [y0, y1, y2], _ =>
    have f0 : DataW.trod enc Try.prog W base sp held n 41 (([c0, c1, c2, c3, c4, c5].drop 0).take (Try.prog.cellsOf 41)) = some y0 := hf 0 _ rfl
    have f1 : DataW.trod enc Try.prog W base sp held n 41 (([c0, c1, c2, c3, c4, c5].drop 2).take (Try.prog.cellsOf 41)) = some y1 := hf 1 _ rfl
    have f2 : DataW.trod enc Try.prog W base sp held n 41 (([c0, c1, c2, c3, c4, c5].drop 4).take (Try.prog.cellsOf 41)) = some y2 := hf 2 _ rfl
    rw [cellsAr] at f0 f1 f2
    obtain ⟨a, e0, g0⟩ := area_cells f0
    obtain ⟨b, e1, g1⟩ := area_cells f1
    obtain ⟨c, e2, g2⟩ := area_cells f2
    simp only [List.drop_zero, List.drop_succ_cons, List.take_succ_cons, List.take_zero, List.cons.injEq, and_true] at e0 e1 e2
    obtain ⟨rfl, rfl⟩ := e0
    obtain ⟨rfl, rfl⟩ := e1
    obtain ⟨rfl, rfl⟩ := e2
    exact ⟨⟨a, b, c⟩, rfl, g0, g1, g2⟩
end Go.Proofs.Ytcapioiigfldoaa
