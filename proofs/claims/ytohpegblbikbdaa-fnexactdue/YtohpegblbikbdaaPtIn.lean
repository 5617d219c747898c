/- A party that came in. -/
import Derived.Test.YtohpegblbikbdaaRows
import Derived.Test.YtohpegblbikbdaaHs3
import Derived.Test.YtohpegblbikbdaaIn
namespace Go.Proofs.Ytohpegblbikbdaa
open Go.RowKit Go.ChangeShapes Go.WideShapes Go.Deep
set_option linter.unusedSimpArgs false
set_option linter.unusedVariables false
set_option maxRecDepth 100000 in
theorem cellsPt : Try.prog.cellsOf 40 = 10 := by kernel_rfl
set_option maxRecDepth 100000 in
theorem party_in {H : Type} {enc : TypeId × Value → H} {W : World} {base b0 : Nat} {r : Reach} {sp : Nat → Bool} {held : Bool} {v : Value} {d : DataW H} {p : List MemPlace} (hv : Value.okWide Try.prog W r b0 40 v) (h : DataW.Trod enc Try.prog W base sp held 40 v d p) :
    ∃ a : Pt, v = ptA a ∧ True := by
  obtain ⟨cs, rfl, _⟩ := okWide_struct Try.underlying40 hv
  obtain ⟨fuel, hf⟩ := h
  have hf : DataW.trod enc Try.prog W base sp held fuel 40 cs.toList = some (d, p) := hf
  obtain ⟨xs, n, _, _, hlen, hxl, hf⟩ := DataW.trod_struct Try.underlying40 hf
  rw [cellsPt] at hlen
  obtain ⟨l⟩ := cs
  have hlen : l.length = 10 := hlen
  match l, hlen, xs, hxl with
  | [c0, c1, c2, c3, c4, c5, c6, c7, c8, c9], _, [y0, y1, y2, y3, y4, y5, y6, y7, y8, y9], _ =>
    have f0 : DataW.trod enc Try.prog W base sp held n 3 (([c0, c1, c2, c3, c4, c5, c6, c7, c8, c9].drop 0).take (Try.prog.cellsOf 3)) = some y0 := hf 0 _ rfl
    rw [cellsI] at f0
    obtain ⟨z0, e0, _, _⟩ := DataW.trod_int Try.underlying3 f0
    injection e0 with e0 _
    have f1 : DataW.trod enc Try.prog W base sp held n 3 (([c0, c1, c2, c3, c4, c5, c6, c7, c8, c9].drop 1).take (Try.prog.cellsOf 3)) = some y1 := hf 1 _ rfl
    rw [cellsI] at f1
    obtain ⟨z1, e1, _, _⟩ := DataW.trod_int Try.underlying3 f1
    injection e1 with e1 _
    have f2 : DataW.trod enc Try.prog W base sp held n 3 (([c0, c1, c2, c3, c4, c5, c6, c7, c8, c9].drop 2).take (Try.prog.cellsOf 3)) = some y2 := hf 2 _ rfl
    rw [cellsI] at f2
    obtain ⟨z2, e2, _, _⟩ := DataW.trod_int Try.underlying3 f2
    injection e2 with e2 _
    have f3 : DataW.trod enc Try.prog W base sp held n 3 (([c0, c1, c2, c3, c4, c5, c6, c7, c8, c9].drop 3).take (Try.prog.cellsOf 3)) = some y3 := hf 3 _ rfl
    rw [cellsI] at f3
    obtain ⟨z3, e3, _, _⟩ := DataW.trod_int Try.underlying3 f3
    injection e3 with e3 _
    have f4 : DataW.trod enc Try.prog W base sp held n 3 (([c0, c1, c2, c3, c4, c5, c6, c7, c8, c9].drop 4).take (Try.prog.cellsOf 3)) = some y4 := hf 4 _ rfl
    rw [cellsI] at f4
    obtain ⟨z4, e4, _, _⟩ := DataW.trod_int Try.underlying3 f4
    injection e4 with e4 _
    have f5 : DataW.trod enc Try.prog W base sp held n 3 (([c0, c1, c2, c3, c4, c5, c6, c7, c8, c9].drop 5).take (Try.prog.cellsOf 3)) = some y5 := hf 5 _ rfl
    rw [cellsI] at f5
    obtain ⟨z5, e5, _, _⟩ := DataW.trod_int Try.underlying3 f5
    injection e5 with e5 _
    have f6 : DataW.trod enc Try.prog W base sp held n 3 (([c0, c1, c2, c3, c4, c5, c6, c7, c8, c9].drop 6).take (Try.prog.cellsOf 3)) = some y6 := hf 6 _ rfl
    rw [cellsI] at f6
    obtain ⟨z6, e6, _, _⟩ := DataW.trod_int Try.underlying3 f6
    injection e6 with e6 _
    have f7 : DataW.trod enc Try.prog W base sp held n 3 (([c0, c1, c2, c3, c4, c5, c6, c7, c8, c9].drop 7).take (Try.prog.cellsOf 3)) = some y7 := hf 7 _ rfl
    rw [cellsI] at f7
    obtain ⟨z7, e7, _, _⟩ := DataW.trod_int Try.underlying3 f7
    injection e7 with e7 _
    have f8 : DataW.trod enc Try.prog W base sp held n 3 (([c0, c1, c2, c3, c4, c5, c6, c7, c8, c9].drop 8).take (Try.prog.cellsOf 3)) = some y8 := hf 8 _ rfl
    rw [cellsI] at f8
    obtain ⟨z8, e8, _, _⟩ := DataW.trod_int Try.underlying3 f8
    injection e8 with e8 _
    have f9 : DataW.trod enc Try.prog W base sp held n 3 (([c0, c1, c2, c3, c4, c5, c6, c7, c8, c9].drop 9).take (Try.prog.cellsOf 3)) = some y9 := hf 9 _ rfl
    rw [cellsI] at f9
    obtain ⟨z9, e9, _, _⟩ := DataW.trod_int Try.underlying3 f9
    injection e9 with e9 _
    subst e0 e1 e2 e3 e4 e5 e6 e7 e8 e9
    exact ⟨⟨z0, z1, z2, z3, z4, z5, z6, z7, z8, z9⟩, rfl, trivial⟩
end Go.Proofs.Ytohpegblbikbdaa
