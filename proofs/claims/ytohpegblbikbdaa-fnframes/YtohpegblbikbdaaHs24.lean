/- What is kept in l11Right of the model. -/
import Derived.Test.YtohpegblbikbdaaRows
import Derived.Test.YtohpegblbikbdaaHs23
namespace Go.Proofs.Ytohpegblbikbdaa
open Go.RowKit
set_option linter.unusedSimpArgs false
set_option linter.unusedVariables false
structure Rt (w u : World) (g : Nat) (A : Option Addr) (l : List Nat) (c top g3 g4 : Nat) (RB : Option Addr) (rc : Nat) (r : Ru) (x : Ho) (cs js : List Value) (ts : List Int) (pl : List Pt) : Prop where
  Z : u.heap[w.heap.size]? = some (.cells #[.slice none 0 0, .int .i64 0, .int .i64 0, .int .i64 0, .int .i64 0, .int .i64 0, .int .i64 0, .int .i64 0, .int .i64 0, .int .i64 0, .int .i64 0, .slice none 0 0, .slice none 0 0, .slice none 0 0, .slice none 0 0] 52)
  R : u.heap[g3]? = some (.cells #[.slice RB r.seats.length rc, .int .i64 r.tiers, .int .i64 r.room, .int .i64 r.size, .int .i64 r.period, .int .i64 r.window, .int .i64 r.rest, .int .i64 r.tries, .int .i64 r.crew] 48)
  H : u.heap[g4]? = some (.cells #[.slice x.ra x.r.seats.length x.rc, .int .i64 x.r.tiers, .int .i64 x.r.room, .int .i64 x.r.size, .int .i64 x.r.period, .int .i64 x.r.window, .int .i64 x.r.rest, .int .i64 x.r.tries, .int .i64 x.r.crew, .int .i64 x.now, .int .i64 x.turn, .slice x.p x.pn x.pc, .slice x.c x.cn x.cc, .slice x.t x.tn x.tc, .slice x.j x.jn x.jc] 52)
  oR : u.ownsRow (w.heap.size + 1) 3 1 (.slice RB r.seats.length rc) r.seats.length (ints r.seats)
  oA : u.ownsRow (w.heap.size + 1) 3 1 (.slice x.ra x.r.seats.length x.rc) x.r.seats.length (ints x.r.seats)
  oC : u.ownsRow (w.heap.size + 1) 89 7 (.slice x.c x.cn x.cc) x.cn cs
  oJ : u.ownsRow (w.heap.size + 1) 3 1 (.slice x.j x.jn x.jc) x.jn js
  oT : u.ownsRow (w.heap.size + 1) 3 1 (.slice x.t x.tn x.tc) x.tn (ints ts)
  oP : u.ownsRow (w.heap.size + 1) 42 10 (.slice x.p x.pn x.pc) x.pn (pl.flatMap ptC)
  boR : ∀ j, (Value.slice RB r.seats.length rc).ownBlock = some j → j < top
  boA : ∀ j, (Value.slice x.ra x.r.seats.length x.rc).ownBlock = some j → j < top
  boC : ∀ j, (Value.slice x.c x.cn x.cc).ownBlock = some j → j < top
  boJ : ∀ j, (Value.slice x.j x.jn x.jc).ownBlock = some j → j < top
  boT : ∀ j, (Value.slice x.t x.tn x.tc).ownBlock = some j → j < top
  boP : ∀ j, (Value.slice x.p x.pn x.pc).ownBlock = some j → j < top
  xr : x.r = r
  xp : x.pn = pl.length
  xt : x.tn = ts.length
  xc : x.cn = r.seats.length
  cur : Cur u g A l c
  gr : w.grownBy u (some g)
  lg : g < w.heap.size
  l3 : w.heap.size < g3
  l4 : g3 < g4
  l5 : g4 < top
  l6 : top ≤ u.heap.size
theorem rt_gr {a b c : World} {g : Nat} {row : Option Nat} (h : a.grownBy b (some g)) (k : b.grownBy c row) (hr : ∀ j, row = some j → j = g ∨ a.heap.size ≤ j) : a.grownBy c (some g) := by
  refine h.andThen k (fun j hj => ?_)
  rcases hr j hj with e | e
  · right; rw [e]
  · left; exact e
theorem Rt.step {w u u2 : World} {g : Nat} {A : Option Addr} {l : List Nat} {c top g3 g4 : Nat} {RB : Option Addr} {rc : Nat} {r : Ru} {x : Ho} {cs js : List Value} {ts : List Int} {pl : List Pt} {row : Option Nat} (h : Rt w u g A l c top g3 g4 RB rc r x cs js ts pl) (gr : u.grownBy u2 row) (hrow : ∀ j, row = some j → j = g ∨ top ≤ j) (hc : Cur u2 g A l c) : Rt w u2 g A l c top g3 g4 RB rc r x cs js ts pl := by
  have lg := h.lg
  have l3 := h.l3
  have l4 := h.l4
  have l5 := h.l5
  exact ⟨(gr.block _ (blk_lt h.Z) (fun e => by have := hrow _ e.symm; omega)).trans h.Z, (gr.block _ (blk_lt h.R) (fun e => by have := hrow _ e.symm; omega)).trans h.R, (gr.block _ (blk_lt h.H) (fun e => by have := hrow _ e.symm; omega)).trans h.H, own_kept2 h.oR gr (fun j h1 h2 => by have := hrow _ h2; have := h.boR j h1; have := (own_low h.oR) j h1; omega), own_kept2 h.oA gr (fun j h1 h2 => by have := hrow _ h2; have := h.boA j h1; have := (own_low h.oA) j h1; omega), own_kept2 h.oC gr (fun j h1 h2 => by have := hrow _ h2; have := h.boC j h1; have := (own_low h.oC) j h1; omega), own_kept2 h.oJ gr (fun j h1 h2 => by have := hrow _ h2; have := h.boJ j h1; have := (own_low h.oJ) j h1; omega), own_kept2 h.oT gr (fun j h1 h2 => by have := hrow _ h2; have := h.boT j h1; have := (own_low h.oT) j h1; omega), own_kept2 h.oP gr (fun j h1 h2 => by have := hrow _ h2; have := h.boP j h1; have := (own_low h.oP) j h1; omega), h.boR, h.boA, h.boC, h.boJ, h.boT, h.boP, h.xr, h.xp, h.xt, h.xc, hc, rt_gr h.gr gr (fun j hj => by have := hrow j hj; omega), h.lg, h.l3, h.l4, h.l5, Nat.le_trans h.l6 gr.size⟩
theorem Rt.draw {w u u2 : World} {g : Nat} {A : Option Addr} {l : List Nat} {c top g3 g4 : Nat} {RB : Option Addr} {rc : Nat} {r : Ru} {x : Ho} {cs js : List Value} {ts : List Int} {pl : List Pt} (h : Rt w u g A l c top g3 g4 RB rc r x cs js ts pl) (gr : u.grownBy u2 (some g)) (hc : Cur u2 g A l c) : Rt w u2 g A l c top g3 g4 RB rc r x cs js ts pl := h.step gr (fun j hj => by injection hj with hj; exact .inl hj.symm) hc
theorem Rt.call {w u u2 : World} {g : Nat} {A : Option Addr} {l : List Nat} {c top g3 g4 : Nat} {RB : Option Addr} {rc : Nat} {r : Ru} {x : Ho} {cs js : List Value} {ts : List Int} {pl : List Pt} (h : Rt w u g A l c top g3 g4 RB rc r x cs js ts pl) (b : Below u.heap.size u u2) : Rt w u2 g A l c top g3 g4 RB rc r x cs js ts pl := h.step (grown_of_below b none) (fun j hj => by cases hj) (h.cur.mem b)
theorem Rt.set {w u : World} {g : Nat} {A : Option Addr} {l : List Nat} {c top g3 g4 : Nat} {RB : Option Addr} {rc : Nat} {r : Ru} {x : Ho} {cs js : List Value} {ts : List Int} {pl : List Pt} (h : Rt w u g A l c top g3 g4 RB rc r x cs js ts pl) (b i : Nat) (v : Value) (hb : top ≤ b) : Rt w (u.setCell ⟨b, i, none⟩ v) g A l c top g3 g4 RB rc r x cs js ts pl :=
  h.step (grown_setCell u b i v) (fun j hj => by injection hj with hj; right; omega) (h.cur.setCell b i v (by have := h.lg; have := h.l3; have := h.l4; have := h.l5; omega))
theorem Rt.raise {w u : World} {g : Nat} {A : Option Addr} {l : List Nat} {c top g3 g4 : Nat} {RB : Option Addr} {rc : Nat} {r : Ru} {x : Ho} {cs js : List Value} {ts : List Int} {pl : List Pt} (h : Rt w u g A l c top g3 g4 RB rc r x cs js ts pl) : Rt w u g A l c u.heap.size g3 g4 RB rc r x cs js ts pl := by
  have l6 := h.l6
  exact ⟨h.Z, h.R, h.H, h.oR, h.oA, h.oC, h.oJ, h.oT, h.oP, fun j hj => Nat.lt_of_lt_of_le (h.boR j hj) l6, fun j hj => Nat.lt_of_lt_of_le (h.boA j hj) l6, fun j hj => Nat.lt_of_lt_of_le (h.boC j hj) l6, fun j hj => Nat.lt_of_lt_of_le (h.boJ j hj) l6, fun j hj => Nat.lt_of_lt_of_le (h.boT j hj) l6, fun j hj => Nat.lt_of_lt_of_le (h.boP j hj) l6, h.xr, h.xp, h.xt, h.xc, h.cur, h.gr, h.lg, h.l3, h.l4, Nat.lt_of_lt_of_le h.l5 l6, Nat.le_refl _⟩
theorem Rt.now {w u : World} {g : Nat} {A : Option Addr} {l : List Nat} {c top g3 g4 : Nat} {RB : Option Addr} {rc : Nat} {r : Ru} {x : Ho} {cs js : List Value} {ts : List Int} {pl : List Pt} (h : Rt w u g A l c top g3 g4 RB rc r x cs js ts pl) (z : Int) : Rt w (u.setCell ⟨g4, 9, none⟩ (.int .i64 z)) g A l c top g3 g4 RB rc r (⟨x.ra, x.rc, x.r, z, x.turn, x.p, x.pn, x.pc, x.c, x.cn, x.cc, x.t, x.tn, x.tc, x.j, x.jn, x.jc⟩ : Ho) cs js ts pl := by
  have lg := h.lg
  have l3 := h.l3
  have l4 := h.l4
  have l5 := h.l5
  exact ⟨(heap_set_ne u g4 9 _ (by omega)).trans h.Z, (heap_set_ne u g4 9 _ (by omega)).trans h.R, by have := Go.heap_setCell_same u g4 9 _ _ (.int .i64 z) h.H; simpa using this, h.oR.kept (Go.Lib.grownBy_setCell u g4 9 _) (.inr (own_ne_type h.oR h.H (by decide))), h.oA.kept (Go.Lib.grownBy_setCell u g4 9 _) (.inr (own_ne_type h.oA h.H (by decide))), h.oC.kept (Go.Lib.grownBy_setCell u g4 9 _) (.inr (own_ne_type h.oC h.H (by decide))), h.oJ.kept (Go.Lib.grownBy_setCell u g4 9 _) (.inr (own_ne_type h.oJ h.H (by decide))), h.oT.kept (Go.Lib.grownBy_setCell u g4 9 _) (.inr (own_ne_type h.oT h.H (by decide))), h.oP.kept (Go.Lib.grownBy_setCell u g4 9 _) (.inr (own_ne_type h.oP h.H (by decide))), h.boR, h.boA, h.boC, h.boJ, h.boT, h.boP, h.xr, h.xp, h.xt, h.xc, h.cur.setCell g4 9 _ (by omega), grown_setD h.gr g4 9 _ (by omega), h.lg, h.l3, h.l4, h.l5, by rw [World.size_setCell]; exact h.l6⟩
theorem Rt.turn {w u : World} {g : Nat} {A : Option Addr} {l : List Nat} {c top g3 g4 : Nat} {RB : Option Addr} {rc : Nat} {r : Ru} {x : Ho} {cs js : List Value} {ts : List Int} {pl : List Pt} (h : Rt w u g A l c top g3 g4 RB rc r x cs js ts pl) (z : Int) : Rt w (u.setCell ⟨g4, 10, none⟩ (.int .i64 z)) g A l c top g3 g4 RB rc r (⟨x.ra, x.rc, x.r, x.now, z, x.p, x.pn, x.pc, x.c, x.cn, x.cc, x.t, x.tn, x.tc, x.j, x.jn, x.jc⟩ : Ho) cs js ts pl := by
  have lg := h.lg
  have l3 := h.l3
  have l4 := h.l4
  have l5 := h.l5
  exact ⟨(heap_set_ne u g4 10 _ (by omega)).trans h.Z, (heap_set_ne u g4 10 _ (by omega)).trans h.R, by have := Go.heap_setCell_same u g4 10 _ _ (.int .i64 z) h.H; simpa using this, h.oR.kept (Go.Lib.grownBy_setCell u g4 10 _) (.inr (own_ne_type h.oR h.H (by decide))), h.oA.kept (Go.Lib.grownBy_setCell u g4 10 _) (.inr (own_ne_type h.oA h.H (by decide))), h.oC.kept (Go.Lib.grownBy_setCell u g4 10 _) (.inr (own_ne_type h.oC h.H (by decide))), h.oJ.kept (Go.Lib.grownBy_setCell u g4 10 _) (.inr (own_ne_type h.oJ h.H (by decide))), h.oT.kept (Go.Lib.grownBy_setCell u g4 10 _) (.inr (own_ne_type h.oT h.H (by decide))), h.oP.kept (Go.Lib.grownBy_setCell u g4 10 _) (.inr (own_ne_type h.oP h.H (by decide))), h.boR, h.boA, h.boC, h.boJ, h.boT, h.boP, h.xr, h.xp, h.xt, h.xc, h.cur.setCell g4 10 _ (by omega), grown_setD h.gr g4 10 _ (by omega), h.lg, h.l3, h.l4, h.l5, by rw [World.size_setCell]; exact h.l6⟩
theorem Rt.party {w u : World} {g : Nat} {A : Option Addr} {l : List Nat} {c top g3 g4 : Nat} {RB : Option Addr} {rc : Nat} {r : Ru} {x : Ho} {cs js : List Value} {ts : List Int} {pl : List Pt} (h : Rt w u g A l c top g3 g4 RB rc r x cs js ts pl) (P : Option Addr) (pc : Nat) (q : List Pt) (hP : u.ownsRow (w.heap.size + 1) 42 10 (.slice P q.length pc) q.length (q.flatMap ptC)) (hb : ∀ j, (Value.slice P q.length pc).ownBlock = some j → j < top) : Rt w (u.setCell ⟨g4, 11, none⟩ (.slice P q.length pc)) g A l c top g3 g4 RB rc r (⟨x.ra, x.rc, x.r, x.now, x.turn, P, q.length, pc, x.c, x.cn, x.cc, x.t, x.tn, x.tc, x.j, x.jn, x.jc⟩ : Ho) cs js ts q := by
  have lg := h.lg
  have l3 := h.l3
  have l4 := h.l4
  have l5 := h.l5
  exact ⟨(heap_set_ne u g4 11 _ (by omega)).trans h.Z, (heap_set_ne u g4 11 _ (by omega)).trans h.R, by have := Go.heap_setCell_same u g4 11 _ _ (.slice P q.length pc) h.H; simpa using this, h.oR.kept (Go.Lib.grownBy_setCell u g4 11 _) (.inr (own_ne_type h.oR h.H (by decide))), h.oA.kept (Go.Lib.grownBy_setCell u g4 11 _) (.inr (own_ne_type h.oA h.H (by decide))), h.oC.kept (Go.Lib.grownBy_setCell u g4 11 _) (.inr (own_ne_type h.oC h.H (by decide))), h.oJ.kept (Go.Lib.grownBy_setCell u g4 11 _) (.inr (own_ne_type h.oJ h.H (by decide))), h.oT.kept (Go.Lib.grownBy_setCell u g4 11 _) (.inr (own_ne_type h.oT h.H (by decide))), hP.kept (Go.Lib.grownBy_setCell u g4 11 _) (.inr (own_ne_type hP h.H (by decide))), h.boR, h.boA, h.boC, h.boJ, h.boT, hb, h.xr, rfl, h.xt, h.xc, h.cur.setCell g4 11 _ (by omega), grown_setD h.gr g4 11 _ (by omega), h.lg, h.l3, h.l4, h.l5, by rw [World.size_setCell]; exact h.l6⟩
theorem Rt.todo {w u : World} {g : Nat} {A : Option Addr} {l : List Nat} {c top g3 g4 : Nat} {RB : Option Addr} {rc : Nat} {r : Ru} {x : Ho} {cs js : List Value} {ts : List Int} {pl : List Pt} (h : Rt w u g A l c top g3 g4 RB rc r x cs js ts pl) (P : Option Addr) (pc : Nat) (q : List Int) (hP : u.ownsRow (w.heap.size + 1) 3 1 (.slice P q.length pc) q.length (ints q)) (hb : ∀ j, (Value.slice P q.length pc).ownBlock = some j → j < top) : Rt w (u.setCell ⟨g4, 13, none⟩ (.slice P q.length pc)) g A l c top g3 g4 RB rc r (⟨x.ra, x.rc, x.r, x.now, x.turn, x.p, x.pn, x.pc, x.c, x.cn, x.cc, P, q.length, pc, x.j, x.jn, x.jc⟩ : Ho) cs js q pl := by
  have lg := h.lg
  have l3 := h.l3
  have l4 := h.l4
  have l5 := h.l5
  exact ⟨(heap_set_ne u g4 13 _ (by omega)).trans h.Z, (heap_set_ne u g4 13 _ (by omega)).trans h.R, by have := Go.heap_setCell_same u g4 13 _ _ (.slice P q.length pc) h.H; simpa using this, h.oR.kept (Go.Lib.grownBy_setCell u g4 13 _) (.inr (own_ne_type h.oR h.H (by decide))), h.oA.kept (Go.Lib.grownBy_setCell u g4 13 _) (.inr (own_ne_type h.oA h.H (by decide))), h.oC.kept (Go.Lib.grownBy_setCell u g4 13 _) (.inr (own_ne_type h.oC h.H (by decide))), h.oJ.kept (Go.Lib.grownBy_setCell u g4 13 _) (.inr (own_ne_type h.oJ h.H (by decide))), hP.kept (Go.Lib.grownBy_setCell u g4 13 _) (.inr (own_ne_type hP h.H (by decide))), h.oP.kept (Go.Lib.grownBy_setCell u g4 13 _) (.inr (own_ne_type h.oP h.H (by decide))), h.boR, h.boA, h.boC, h.boJ, hb, h.boP, h.xr, h.xp, rfl, h.xc, h.cur.setCell g4 13 _ (by omega), grown_setD h.gr g4 13 _ (by omega), h.lg, h.l3, h.l4, h.l5, by rw [World.size_setCell]; exact h.l6⟩
end Go.Proofs.Ytohpegblbikbdaa
