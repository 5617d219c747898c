/- A cabin as it lies. -/
import Derived.Test.YtlflgflmlfileaaRows
import Derived.Test.YtlflgflmlfileaaG9
import Derived.Test.YtlflgflmlfileaaLeL
import Derived.Test.YtlflgflmlfileaaEnL
namespace Go.Proofs.Ytlflgflmlfileaa
open Go.RowKit
set_option linter.unusedSimpArgs false
set_option linter.unusedVariables false
structure Cv where
  le : Le
  Q : Option Addr
  qc : Nat
  q : List En
  A : Option Addr
  c : Nat
  sp : List Sp
def cvA (v : Cv) : Value := .agg #[.int .i64 v.le.total, .int .i64 v.le.free, .int .i64 v.le.held, .int .i64 v.le.sold, .int .i64 v.le.tied, .slice v.Q v.q.length v.qc, .slice v.A v.sp.length v.c]
def Cv.ls (v : Cv) : List (List Pn) := v.sp.map (fun s => s.l)
structure Cv.reads (v : Cv) (w : World) : Prop where
  row : Rws w w.heap.size v.Q (v.q.flatMap enC)
  whl : Whl w v.A v.sp
theorem Cv.reads.below {v : Cv} {w w' : World} (h : v.reads w) (b : Below w.heap.size w w') : v.reads w' := ⟨rws_below h.row b, h.whl.below b⟩
/-- What came in fits. -/
structure Cv.came (v : Cv) : Prop where
  le : v.le.fits
  qf : ∀ f ∈ v.q, f.fits
  ql : v.q.length ≤ 9223372036854775807
  sn : v.sp.length ≤ 9223372036854775807
  sl : ∀ s ∈ v.sp, s.l.length ≤ 9223372036854775807
  sf : FitL v.ls
/-- A cabin whose ints fit. -/
structure Cv.fits (v : Cv) : Prop where
  le : v.le.fits
  qf : ∀ f ∈ v.q, f.fits
  sf : FitL v.ls
theorem Cv.came.fits {v : Cv} (h : v.came) : v.fits := ⟨h.le, h.qf, h.sf⟩
/-- Two cabins of one content. -/
structure Cv.like (v u : Cv) : Prop where
  le : v.le = u.le
  q : v.q = u.q
  ls : v.ls = u.ls
theorem Cv.like.refl (v : Cv) : v.like v := ⟨rfl, rfl, rfl⟩
theorem Cv.like.trans {a b c : Cv} (h : a.like b) (k : b.like c) : a.like c := ⟨h.le.trans k.le, h.q.trans k.q, h.ls.trans k.ls⟩
theorem Cv.like.symm {a b : Cv} (h : a.like b) : b.like a := ⟨h.le.symm, h.q.symm, h.ls.symm⟩
/-- A cabin of a size that the laws look at. -/
structure Cv.small (v : Cv) : Prop where
  q : v.q.length ≤ 1048576
  s : SzW v.ls
theorem Cv.small.of {a b : Cv} (h : a.small) (k : b.like a) : b.small := ⟨by rw [k.q]; exact h.q, by rw [k.ls]; exact h.s⟩
theorem Cv.fits.of {a b : Cv} (h : a.fits) (k : b.like a) : b.fits := ⟨by rw [k.le]; exact h.le, by rw [k.q]; exact h.qf, by rw [k.ls]; exact h.sf⟩
/-- The cells of a cabin. -/
def cvC (v : Cv) : Array Value := #[.int .i64 v.le.total, .int .i64 v.le.free, .int .i64 v.le.held, .int .i64 v.le.sold, .int .i64 v.le.tied, .slice v.Q v.q.length v.qc, .slice v.A v.sp.length v.c]
/-- A cabin in new memory that reads as v. -/
def NewCv (w : World) (v : Cv) (e : Ending) (w' : World) : Prop := ∃ y : Cv, e = .returned (cvA y) ∧ y.like v ∧ y.reads w' ∧ Below w.heap.size w w'
end Go.Proofs.Ytlflgflmlfileaa
