/- A request that came in. -/
import Derived.Test.YtjoihjfpdjbcpaaRows
import Derived.Test.YtjoihjfpdjbcpaaRqI
import Derived.OpenShut
import Derived.Deep.Slices
import Derived.Deep.Fields
import Derived.ChangeSame
namespace Go.Proofs.Ytjoihjfpdjbcpaa
open Go.RowKit Go.ChangeShapes Go.WideShapes Go.Deep
set_option linter.unusedSimpArgs false
set_option linter.unusedVariables false
/-- Its numbers are ints. -/
def Rq.fits (x : Rq) : Prop := inI x.kind ∧ inI x.id ∧ inI x.cabin ∧ inI x.from_ ∧ inI x.size ∧ inI x.tier
set_option maxRecDepth 100000 in
theorem cellsLrq : Try.prog.cellsOf 23 = 6 := by kernel_rfl
set_option maxRecDepth 100000 in
theorem rq_trod {H : Type} {enc : TypeId × Value → H} {W : World} {base fuel : Nat} {sp : Nat → Bool} {held : Bool} {cs : List Value} {x : DataW H × List MemPlace} (h : DataW.trod enc Try.prog W base sp held fuel 23 cs = some x) :
    ∃ f : Rq, cs = rqC f ∧ f.fits := by
  obtain ⟨xs, n, _, _, hlen, hxl, hf⟩ := DataW.trod_struct Try.underlying23 h
  rw [cellsLrq] at hlen
  match cs, hlen, xs, hxl with
  | [c0, c1, c2, c3, c4, c5], _, [y0, y1, y2, y3, y4, y5], _ =>
    have f0 : DataW.trod enc Try.prog W base sp held n 3 (([c0, c1, c2, c3, c4, c5].drop 0).take (Try.prog.cellsOf 3)) = some y0 := hf 0 _ rfl
    rw [cellsI] at f0
    obtain ⟨z0, e0, _, w0⟩ := DataW.trod_int Try.underlying3 f0
    injection e0 with e0 _
    have f1 : DataW.trod enc Try.prog W base sp held n 3 (([c0, c1, c2, c3, c4, c5].drop 1).take (Try.prog.cellsOf 3)) = some y1 := hf 1 _ rfl
    rw [cellsI] at f1
    obtain ⟨z1, e1, _, w1⟩ := DataW.trod_int Try.underlying3 f1
    injection e1 with e1 _
    have f2 : DataW.trod enc Try.prog W base sp held n 3 (([c0, c1, c2, c3, c4, c5].drop 2).take (Try.prog.cellsOf 3)) = some y2 := hf 2 _ rfl
    rw [cellsI] at f2
    obtain ⟨z2, e2, _, w2⟩ := DataW.trod_int Try.underlying3 f2
    injection e2 with e2 _
    have f3 : DataW.trod enc Try.prog W base sp held n 3 (([c0, c1, c2, c3, c4, c5].drop 3).take (Try.prog.cellsOf 3)) = some y3 := hf 3 _ rfl
    rw [cellsI] at f3
    obtain ⟨z3, e3, _, w3⟩ := DataW.trod_int Try.underlying3 f3
    injection e3 with e3 _
    have f4 : DataW.trod enc Try.prog W base sp held n 3 (([c0, c1, c2, c3, c4, c5].drop 4).take (Try.prog.cellsOf 3)) = some y4 := hf 4 _ rfl
    rw [cellsI] at f4
    obtain ⟨z4, e4, _, w4⟩ := DataW.trod_int Try.underlying3 f4
    injection e4 with e4 _
    have f5 : DataW.trod enc Try.prog W base sp held n 3 (([c0, c1, c2, c3, c4, c5].drop 5).take (Try.prog.cellsOf 3)) = some y5 := hf 5 _ rfl
    rw [cellsI] at f5
    obtain ⟨z5, e5, _, w5⟩ := DataW.trod_int Try.underlying3 f5
    injection e5 with e5 _
    subst e0 e1 e2 e3 e4 e5
    exact ⟨⟨z0, z1, z2, z3, z4, z5⟩, rfl, bounds_i64 w0, bounds_i64 w1, bounds_i64 w2, bounds_i64 w3, bounds_i64 w4, bounds_i64 w5⟩
set_option maxRecDepth 100000 in
theorem rq_in {H : Type} {enc : TypeId × Value → H} {W : World} {base b0 : Nat} {r : Reach} {sp : Nat → Bool} {held : Bool} {v : Value} {d : DataW H} {p : List MemPlace} (hv : Value.okWide Try.prog W r b0 23 v) (h : DataW.Trod enc Try.prog W base sp held 23 v d p) :
    ∃ a : Rq, v = rqA a ∧ a.fits := by
  obtain ⟨cs, rfl, _⟩ := okWide_struct Try.underlying23 hv
  obtain ⟨fuel, hf⟩ := h
  obtain ⟨a, e, hg⟩ := rq_trod hf
  refine ⟨a, ?_, hg⟩
  have e : cs.toList = rqC a := e
  unfold rqA
  congr
  exact Array.toList_inj.mp e
end Go.Proofs.Ytjoihjfpdjbcpaa
