/- The end of l11Right of the model. -/
import Derived.Test.YtohpegblbikbdaaRows
import Derived.Test.YtohpegblbikbdaaHs26
namespace Go.Proofs.Ytohpegblbikbdaa
open Go.RowKit
set_option linter.unusedSimpArgs false
set_option linter.unusedVariables false
theorem putHo_cur {w : World} {g : Nat} {A : Option Addr} {l : List Nat} {c b : Nat} {x : Ho} (h : Cur w g A l c) (hb : g < b) : Cur (putHo w b x) g A l c := by
  unfold putHo
  exact Cur.setCell (Cur.setCell (Cur.setCell (Cur.setCell (Cur.setCell (Cur.setCell (Cur.setCell (Cur.setCell (Cur.setCell (Cur.setCell (Cur.setCell (Cur.setCell (Cur.setCell (Cur.setCell (Cur.setCell (h) b 0 _ hb) b 1 _ hb) b 2 _ hb) b 3 _ hb) b 4 _ hb) b 5 _ hb) b 6 _ hb) b 7 _ hb) b 8 _ hb) b 9 _ hb) b 10 _ hb) b 11 _ hb) b 12 _ hb) b 13 _ hb) b 14 _ hb
theorem putHo_grown {a w : World} {g b : Nat} {x : Ho} (h : a.grownBy w (some g)) (hb : a.heap.size ≤ b) : a.grownBy (putHo w b x) (some g) := by
  unfold putHo
  exact grown_setD (grown_setD (grown_setD (grown_setD (grown_setD (grown_setD (grown_setD (grown_setD (grown_setD (grown_setD (grown_setD (grown_setD (grown_setD (grown_setD (grown_setD (h) b 0 _ hb) b 1 _ hb) b 2 _ hb) b 3 _ hb) b 4 _ hb) b 5 _ hb) b 6 _ hb) b 7 _ hb) b 8 _ hb) b 9 _ hb) b 10 _ hb) b 11 _ hb) b 12 _ hb) b 13 _ hb) b 14 _ hb
structure Rt3 (w u : World) (g : Nat) (A : Option Addr) (l : List Nat) (c g3 g4 : Nat) (RB : Option Addr) (rc : Nat) (r : Ru) (x : Ho) (js : List Value) (pl : List Pt) : Prop where
  Z : u.heap[w.heap.size]? = some (.cells #[.slice none 0 0, .int .i64 0, .int .i64 0, .int .i64 0, .int .i64 0, .int .i64 0, .int .i64 0, .int .i64 0, .int .i64 0, .int .i64 0, .int .i64 0, .slice none 0 0, .slice none 0 0, .slice none 0 0, .slice none 0 0] 52)
  R : u.heap[g3]? = some (.cells #[.slice RB r.seats.length rc, .int .i64 r.tiers, .int .i64 r.room, .int .i64 r.size, .int .i64 r.period, .int .i64 r.window, .int .i64 r.rest, .int .i64 r.tries, .int .i64 r.crew] 48)
  H : u.heap[g4]? = some (.cells #[.slice x.ra x.r.seats.length x.rc, .int .i64 x.r.tiers, .int .i64 x.r.room, .int .i64 x.r.size, .int .i64 x.r.period, .int .i64 x.r.window, .int .i64 x.r.rest, .int .i64 x.r.tries, .int .i64 x.r.crew, .int .i64 x.now, .int .i64 x.turn, .slice x.p x.pn x.pc, .slice x.c x.cn x.cc, .slice x.t x.tn x.tc, .slice x.j x.jn x.jc] 52)
  oJ : u.ownsRow (w.heap.size + 1) 3 1 (.slice x.j x.jn x.jc) x.jn js
  oP : u.ownsRow (w.heap.size + 1) 42 10 (.slice x.p x.pn x.pc) x.pn (pl.flatMap ptC)
  cur : Cur u g A l c
  gr : w.grownBy u (some g)
  lg : g < w.heap.size
  l3 : w.heap.size < g3
  l4 : g3 < g4
theorem Rt.to3 {w u : World} {g : Nat} {A : Option Addr} {l : List Nat} {c top g3 g4 : Nat} {RB : Option Addr} {rc : Nat} {r : Ru} {x : Ho} {cs js : List Value} {ts : List Int} {pl : List Pt} (h : Rt w u g A l c top g3 g4 RB rc r x cs js ts pl) : Rt3 w u g A l c g3 g4 RB rc r x js pl := ⟨h.Z, h.R, h.H, h.oJ, h.oP, h.cur, h.gr, h.lg, h.l3, h.l4⟩
theorem Rt3.draw {w u u2 : World} {g : Nat} {A : Option Addr} {l : List Nat} {c g3 g4 : Nat} {RB : Option Addr} {rc : Nat} {r : Ru} {x : Ho} {js : List Value} {pl : List Pt} (h : Rt3 w u g A l c g3 g4 RB rc r x js pl) (gr : u.grownBy u2 (some g)) (hc : Cur u2 g A l c) : Rt3 w u2 g A l c g3 g4 RB rc r x js pl := by
  have lg := h.lg
  have l3 := h.l3
  have l4 := h.l4
  exact ⟨(gr.block _ (blk_lt h.Z) (fun e => by injection e with e; omega)).trans h.Z, (gr.block _ (blk_lt h.R) (fun e => by injection e with e; omega)).trans h.R, (gr.block _ (blk_lt h.H) (fun e => by injection e with e; omega)).trans h.H, own_cur h.oJ gr (by omega), own_cur h.oP gr (by omega), hc, h.gr.trans gr, lg, l3, l4⟩
theorem Rt3.job {w u : World} {g : Nat} {A : Option Addr} {l : List Nat} {c g3 g4 : Nat} {RB : Option Addr} {rc : Nat} {r : Ru} {x : Ho} {js : List Value} {pl : List Pt} (h : Rt3 w u g A l c g3 g4 RB rc r x js pl) {b : Nat} (hb : x.j = some ⟨b, 0, none⟩) (j : Nat) (v : Value) : Rt3 w (u.setCell ⟨b, j, none⟩ v) g A l c g3 g4 RB rc r x (js.set j v) pl := by
  have hob : (Value.slice x.j x.jn x.jc).ownBlock = some b := by rw [hb]; rfl
  obtain ⟨cur, hcur⟩ := own_typed2 h.oJ b hob
  have hlo := own_low h.oJ b hob
  have lg := h.lg
  obtain ⟨xra, xrc, xr, xnow, xturn, xp, xpn, xpc, xc, xcn, xcc, xt, xtn, xtc, xj, xjn, xjc⟩ := x
  simp only at hb
  subst hb
  exact ⟨(heap_set_ne u b j _ (fun e => by have h1 := h.Z; rw [e, hcur] at h1; injection h1 with h1; injection h1 with _ h2; revert h2; decide)).trans h.Z, (heap_set_ne u b j _ (fun e => by have h1 := h.R; rw [e, hcur] at h1; injection h1 with h1; injection h1 with _ h2; revert h2; decide)).trans h.R, (heap_set_ne u b j _ (fun e => by have h1 := h.H; rw [e, hcur] at h1; injection h1 with h1; injection h1 with _ h2; revert h2; decide)).trans h.H, (h.oJ.stored j v).1, h.oP.kept (Go.Lib.grownBy_setCell u b j _) (.inr (own_ne_type h.oP hcur (by decide))), h.cur.setCell b j _ (by omega), grown_setD h.gr b j _ (by omega), lg, h.l3, h.l4⟩
end Go.Proofs.Ytohpegblbikbdaa
