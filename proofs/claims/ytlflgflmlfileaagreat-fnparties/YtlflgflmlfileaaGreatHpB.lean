/- l11Draw of the model. -/
import Derived.Test.YtlflgflmlfileaaGreatRows
import Derived.Test.YtlflgflmlfileaaGreatHpA
import Derived.Test.YtlflgflmlfileaaGreatHs25
import Derived.Test.YtlflgflmlfileaaGreatJ5
namespace Go.Proofs.YtlflgflmlfileaaGreat
open Go.RowKit
set_option linter.unusedSimpArgs false
set_option linter.unusedVariables false
/-- What is kept in l11Draw. -/
structure Lx (w u : World) (g : Nat) (A : Option Addr) (l : List Nat) (c gh : Nat) (x : Ho) (pl : List Pt) : Prop where
  Z : u.heap[w.heap.size]? = some (.cells #[.slice none 0 0, .int .i64 0, .int .i64 0, .int .i64 0, .int .i64 0, .int .i64 0, .int .i64 0, .int .i64 0, .int .i64 0, .int .i64 0, .int .i64 0, .slice none 0 0, .slice none 0 0, .slice none 0 0, .slice none 0 0] 37)
  H : u.heap[gh]? = some (.cells #[.slice x.ra x.r.seats.length x.rc, .int .i64 x.r.tiers, .int .i64 x.r.room, .int .i64 x.r.size, .int .i64 x.r.period, .int .i64 x.r.window, .int .i64 x.r.rest, .int .i64 x.r.tries, .int .i64 x.r.crew, .int .i64 x.now, .int .i64 x.turn, .slice x.p x.pn x.pc, .slice x.c x.cn x.cc, .slice x.t x.tn x.tc, .slice x.j x.jn x.jc] 37)
  oP : u.ownsRow (w.heap.size + 1) 26 10 (.slice x.p x.pn x.pc) x.pn (pl.flatMap ptC)
  xp : x.pn = pl.length
  pl9 : pl.length ≤ 9
  cur : Cur u g A l c
  gr : w.grownBy u (some g)
  lg : g < w.heap.size
  lh : w.heap.size < gh
/-- What l11Draw hands out. -/
def GotLd (w : World) (g : Nat) (A : Option Addr) (l : List Nat) (c : Nat) (e : Ending) (w' : World) : Prop :=
  ∃ (x : Ho) (pl : List Pt), e = .returned (hoA x) ∧ x.pn = pl.length ∧ pl.length ≤ 9 ∧ w'.ownsRow (w.heap.size + 1) 26 10 (.slice x.p x.pn x.pc) x.pn (pl.flatMap ptC) ∧ Cur w' g A l c ∧ w.grownBy w' (some g)
theorem Lx.got {w u : World} {g : Nat} {A : Option Addr} {l : List Nat} {c gh : Nat} {x : Ho} {pl : List Pt} (h : Lx w u g A l c gh x pl) : GotLd w g A l c (.returned (hoA x)) (putHo u w.heap.size x) :=
  ⟨x, pl, rfl, h.xp, h.pl9, putHo_own h.oP (own_ne_type h.oP h.Z (by decide)), putHo_cur h.cur h.lg, putHo_grown h.gr (Nat.le_refl _)⟩
/-- A cell of the state is stored. -/
theorem Lx.put {w u : World} {g : Nat} {A : Option Addr} {l : List Nat} {c gh : Nat} {x : Ho} {pl : List Pt} (h : Lx w u g A l c gh x pl) (i : Nat) (v : Value) (x' : Ho) (hx : (#[.slice x.ra x.r.seats.length x.rc, .int .i64 x.r.tiers, .int .i64 x.r.room, .int .i64 x.r.size, .int .i64 x.r.period, .int .i64 x.r.window, .int .i64 x.r.rest, .int .i64 x.r.tries, .int .i64 x.r.crew, .int .i64 x.now, .int .i64 x.turn, .slice x.p x.pn x.pc, .slice x.c x.cn x.cc, .slice x.t x.tn x.tc, .slice x.j x.jn x.jc] : Array Value).setIfInBounds i v = #[.slice x'.ra x'.r.seats.length x'.rc, .int .i64 x'.r.tiers, .int .i64 x'.r.room, .int .i64 x'.r.size, .int .i64 x'.r.period, .int .i64 x'.r.window, .int .i64 x'.r.rest, .int .i64 x'.r.tries, .int .i64 x'.r.crew, .int .i64 x'.now, .int .i64 x'.turn, .slice x'.p x'.pn x'.pc, .slice x'.c x'.cn x'.cc, .slice x'.t x'.tn x'.tc, .slice x'.j x'.jn x'.jc]) (hp : x'.p = x.p) (hn : x'.pn = x.pn) (hc : x'.pc = x.pc) :
    Lx w (u.setCell ⟨gh, i, none⟩ v) g A l c gh x' pl := by
  have lg := h.lg
  have lh := h.lh
  refine ⟨(heap_set_ne u gh i v (by omega)).trans h.Z, ?_, ?_, by rw [hn]; exact h.xp, h.pl9, h.cur.setCell gh i v (by omega), grown_setD h.gr gh i v (by omega), lg, lh⟩
  · rw [← hx]; exact Go.heap_setCell_same _ _ i _ _ v h.H
  · rw [hp, hn, hc]; exact h.oP.kept (Go.Lib.grownBy_setCell u gh i v) (.inr (own_ne_type h.oP h.H (by decide)))
/-- Rows of other types, and new blocks, change. -/
theorem Lx.step {w u u2 : World} {g : Nat} {A : Option Addr} {l : List Nat} {c gh : Nat} {x : Ho} {pl : List Pt} {row : Option Nat} (h : Lx w u g A l c gh x pl) (gr : u.grownBy u2 row) (hr : ∀ j, row = some j → w.heap.size < j ∧ ∃ cur t fr, u.heap[j]? = some (.cells cur t fr) ∧ t ≠ 37 ∧ t ≠ 26) : Lx w u2 g A l c gh x pl := by
  have lg := h.lg
  have ne : ∀ (b : Nat) (cs : Array Value), u.heap[b]? = some (.cells cs 37) → some b ≠ row := fun b cs hb e => by
    obtain ⟨_, cur, t, fr, hc, ht, _⟩ := hr b e.symm
    rw [hb] at hc; injection hc with hc; injection hc with _ h2; exact ht h2.symm
  refine ⟨(gr.block _ (blk_lt h.Z) (ne _ _ h.Z)).trans h.Z, (gr.block _ (blk_lt h.H) (ne _ _ h.H)).trans h.H, own_kept2 h.oP gr (fun j h1 h2 => ?_), h.xp, h.pl9, h.cur.grown gr (fun k hk => by have := (hr k hk).1; omega), grown_step h.gr gr (fun j hj => by have := (hr j hj).1; omega), lg, h.lh⟩
  obtain ⟨_, cur, t, fr, hc, _, ht⟩ := hr j h2
  exact own_ne_type h.oP hc ht h1
theorem Lx.draw {w u u2 : World} {g : Nat} {A : Option Addr} {l : List Nat} {c gh : Nat} {x : Ho} {pl : List Pt} (h : Lx w u g A l c gh x pl) (gr : u.grownBy u2 (some g)) (hc : Cur u2 g A l c) : Lx w u2 g A l c gh x pl := by
  have lg := h.lg
  have lh := h.lh
  exact ⟨grown_keep gr h.Z (by omega), grown_keep gr h.H (by omega), own_cur h.oP gr (by omega), h.xp, h.pl9, hc, h.gr.trans gr, lg, lh⟩
theorem Lx.new {w u : World} {g : Nat} {A : Option Addr} {l : List Nat} {c gh : Nat} {x : Ho} {pl : List Pt} (h : Lx w u g A l c gh x pl) (o : Obj) : Lx w (u.alloc o) g A l c gh x pl := h.step (World.grownBy_alloc u o none) (fun j hj => by cases hj)
/-- A cell of a row of another type is stored. -/
theorem Lx.cell {w u : World} {g : Nat} {A : Option Addr} {l : List Nat} {c gh : Nat} {x : Ho} {pl : List Pt} (h : Lx w u g A l c gh x pl) {b i : Nat} {v : Value} (hb : w.heap.size < b) (ht : ∃ cur t fr, u.heap[b]? = some (.cells cur t fr) ∧ t ≠ 37 ∧ t ≠ 26) : Lx w (u.setCell ⟨b, i, none⟩ v) g A l c gh x pl :=
  h.step (Go.Lib.grownBy_setCell u b i v) (fun j hj => by injection hj with hj; subst hj; exact ⟨hb, ht⟩)
theorem Lx.keepH {w u u2 : World} {g : Nat} {A : Option Addr} {l : List Nat} {c gh : Nat} {x : Ho} {pl : List Pt} (h : Lx w u g A l c gh x pl) (gr : u.grownBy u2 (Value.slice x.p x.pn x.pc).ownBlock) : u2.heap[gh]? = some (.cells #[.slice x.ra x.r.seats.length x.rc, .int .i64 x.r.tiers, .int .i64 x.r.room, .int .i64 x.r.size, .int .i64 x.r.period, .int .i64 x.r.window, .int .i64 x.r.rest, .int .i64 x.r.tries, .int .i64 x.r.crew, .int .i64 x.now, .int .i64 x.turn, .slice x.p x.pn x.pc, .slice x.c x.cn x.cc, .slice x.t x.tn x.tc, .slice x.j x.jn x.jc] 37) :=
  (gr.block _ (blk_lt h.H) (fun e => own_ne_type h.oP h.H (by decide) e.symm)).trans h.H
/-- The row of parties grows. -/
theorem Lx.app {w u u2 : World} {g : Nat} {A : Option Addr} {l : List Nat} {c gh : Nat} {x : Ho} {pl : List Pt} (h : Lx w u g A l c gh x pl) (gr : u.grownBy u2 (Value.slice x.p x.pn x.pc).ownBlock) (P2 : Option Addr) (n2 c2 : Nat) (pl2 : List Pt) (o : u2.ownsRow (w.heap.size + 1) 26 10 (.slice P2 n2 c2) n2 (pl2.flatMap ptC)) (hn : n2 = pl2.length) (h9 : pl2.length ≤ 9) :
    Lx w (u2.setCell ⟨gh, 11, none⟩ (.slice P2 n2 c2)) g A l c gh (⟨x.ra, x.rc, x.r, x.now, x.turn, P2, n2, c2, x.c, x.cn, x.cc, x.t, x.tn, x.tc, x.j, x.jn, x.jc⟩ : Ho) pl2 := by
  have lg := h.lg
  have lh := h.lh
  have H2 := h.keepH gr
  have Z2 : u2.heap[w.heap.size]? = some (.cells #[.slice none 0 0, .int .i64 0, .int .i64 0, .int .i64 0, .int .i64 0, .int .i64 0, .int .i64 0, .int .i64 0, .int .i64 0, .int .i64 0, .int .i64 0, .slice none 0 0, .slice none 0 0, .slice none 0 0, .slice none 0 0] 37) := (gr.block _ (blk_lt h.Z) (fun e => own_ne_type h.oP h.Z (by decide) e.symm)).trans h.Z
  have lo := own_low h.oP
  refine ⟨(heap_set_ne u2 gh 11 _ (by omega)).trans Z2, ?_, o.kept (Go.Lib.grownBy_setCell u2 gh 11 _) (.inr (own_ne_type o H2 (by decide))), hn, h9, (h.cur.grown gr (fun k hk => by have := lo k hk; omega)).setCell gh 11 _ (by omega), grown_setD (grown_step h.gr gr (fun j hj => by have := lo j hj; omega)) gh 11 _ (by omega), lg, lh⟩
  have := Go.heap_setCell_same _ _ 11 _ _ (.slice P2 n2 c2) H2
  simpa using this
theorem heap_set_u {w : World} {g i : Nat} {u : Value} {t : TypeId} (h : ∃ cur, w.heap[g]? = some (.cells cur t (0, 0))) : ∃ cur, (w.setCell ⟨g, i, none⟩ u).heap[g]? = some (.cells cur t (0, 0)) := by
  obtain ⟨cur, hc⟩ := h
  exact ⟨_, Go.heap_setCell_same w g i _ _ u hc⟩
theorem Lx.cellC {w u : World} {g : Nat} {A : Option Addr} {l : List Nat} {c gh : Nat} {x : Ho} {pl : List Pt} (h : Lx w u g A l c gh x pl) {b i : Nat} {v : Value} (hb : w.heap.size < b) (ht : ∃ cur, u.heap[b]? = some (.cells cur 59 (0, 0))) : Lx w (u.setCell ⟨b, i, none⟩ v) g A l c gh x pl :=
  h.cell hb (let ⟨cur, hc⟩ := ht; ⟨cur, 59, (0, 0), hc, by decide, by decide⟩)
theorem Lx.cab {w u : World} {g : Nat} {A : Option Addr} {l : List Nat} {c gh : Nat} {x : Ho} {pl : List Pt} (h : Lx w u g A l c gh x pl) {b o : Nat} (y : Cb) (hb : w.heap.size < b) (ht : ∃ cur, u.heap[b]? = some (.cells cur 59 (0, 0))) : Lx w (putCbAt u b o y) g A l c gh x pl := by
  unfold putCbAt
  exact ((((((h.cellC hb ht).cellC hb (heap_set_u ht)).cellC hb (heap_set_u (heap_set_u ht))).cellC hb (heap_set_u (heap_set_u (heap_set_u ht)))).cellC hb (heap_set_u (heap_set_u (heap_set_u (heap_set_u ht))))).cellC hb (heap_set_u (heap_set_u (heap_set_u (heap_set_u (heap_set_u ht)))))).cellC hb (heap_set_u (heap_set_u (heap_set_u (heap_set_u (heap_set_u (heap_set_u ht))))))
theorem pt_set (p : Pt) (ps : List Pt) (z : Int) : (((p :: ps).flatMap ptC).set 5 (.int .i64 z) = (⟨p.id, p.cabin, p.from_, p.size, p.tier, z, p.turn, p.state, p.until_, p.asked⟩ :: ps).flatMap ptC) ∧ (((p :: ps).flatMap ptC).set 6 (.int .i64 z) = (⟨p.id, p.cabin, p.from_, p.size, p.tier, p.since, z, p.state, p.until_, p.asked⟩ :: ps).flatMap ptC) := ⟨rfl, rfl⟩
/-- A cell of the first party is stored. -/
theorem Lx.party {w u : World} {g : Nat} {A : Option Addr} {l : List Nat} {c gh : Nat} {x : Ho} {p : Pt} {ps : List Pt} (h : Lx w u g A l c gh x (p :: ps)) {b : Nat} (hb : x.p = some ⟨b, 0, none⟩) (i : Nat) (v : Value) (q : Pt) (hq : ((p :: ps).flatMap ptC).set i v = (q :: ps).flatMap ptC) : Lx w (u.setCell ⟨b, i, none⟩ v) g A l c gh x (q :: ps) := by
  have lg := h.lg
  have hob : (Value.slice x.p x.pn x.pc).ownBlock = some b := by rw [hb]; rfl
  obtain ⟨cur, hcur⟩ := own_typed2 h.oP b hob
  have hlo := own_low h.oP b hob
  have ne : ∀ (k : Nat) (cs : Array Value), u.heap[k]? = some (.cells cs 37) → k ≠ b := fun k cs hk e => by
    subst e; rw [hk] at hcur; injection hcur with h1; injection h1 with _ h2; revert h2; decide
  have oP := h.oP
  rw [hb] at oP
  refine ⟨(heap_set_ne u b i v (ne _ _ h.Z)).trans h.Z, (heap_set_ne u b i v (ne _ _ h.H)).trans h.H, ?_, h.xp, h.pl9, h.cur.setCell b i v (by omega), grown_setD h.gr b i v (by omega), lg, h.lh⟩
  rw [hb, ← hq]
  exact (oP.stored i v).1
set_option maxRecDepth 100000 in
theorem exec_loadPs {ρ : Operand → Value} {o : Oper} {x : Operand} (b off : Nat) (B : Option Addr) (n c : Nat) (w : World) (h : w.cell? ⟨b, off, none⟩ = some (.slice B n c)) (ho : o.op = .load 24 x := by rfl) (hx : ρ x = .pointer (some ⟨b, off, none⟩) := by rfl) :
    (execOp ρ o).run Tryz.prog w = .ok (.value (.slice B n c)) w := by
  unfold execOp
  rw [ho]
  simp [go_sem, hx, h]
set_option maxRecDepth 100000 in
theorem exec_loadCs {ρ : Operand → Value} {o : Oper} {x : Operand} (b off : Nat) (B : Option Addr) (n c : Nat) (w : World) (h : w.cell? ⟨b, off, none⟩ = some (.slice B n c)) (ho : o.op = .load 35 x := by rfl) (hx : ρ x = .pointer (some ⟨b, off, none⟩) := by rfl) :
    (execOp ρ o).run Tryz.prog w = .ok (.value (.slice B n c)) w := by
  unfold execOp
  rw [ho]
  simp [go_sem, hx, h]
set_option maxRecDepth 100000 in
theorem exec_storePs {ρ : Operand → Value} {o : Oper} {x y : Operand} (b off : Nat) (B : Option Addr) (n c : Nat) (u : Value) (w : World) (h : w.cell? ⟨b, off, none⟩ = some u) (hz : w.frozen? ⟨b, off, none⟩ = false) (ho : o.op = .store 24 x y := by rfl) (hx : ρ x = .pointer (some ⟨b, off, none⟩) := by rfl) (hy : ρ y = .slice B n c := by rfl) :
    (execOp ρ o).run Tryz.prog w = .ok .skip (w.setCell ⟨b, off, none⟩ (.slice B n c)) := by
  unfold execOp
  rw [ho]
  simp [go_sem, hx, hy, h, hz]
set_option maxRecDepth 100000 in
theorem exec_loadHr {ρ : Operand → Value} {o : Oper} {y : Operand} (b : Nat) (x : Ho) (w : World) (h : w.heap[b]? = some (.cells #[.slice x.ra x.r.seats.length x.rc, .int .i64 x.r.tiers, .int .i64 x.r.room, .int .i64 x.r.size, .int .i64 x.r.period, .int .i64 x.r.window, .int .i64 x.r.rest, .int .i64 x.r.tries, .int .i64 x.r.crew, .int .i64 x.now, .int .i64 x.turn, .slice x.p x.pn x.pc, .slice x.c x.cn x.cc, .slice x.t x.tn x.tc, .slice x.j x.jn x.jc] 37)) (ho : o.op = .load 34 y := by rfl) (hx : ρ y = .pointer (some ⟨b, 0, none⟩) := by rfl) :
    (execOp ρ o).run Tryz.prog w = .ok (.value (ruV x.ra x.rc x.r)) w := by
  have c0 := cell_of_row _ _ 0 _ _ _ h
  have c1 := cell_of_row _ _ 1 _ _ _ h
  have c2 := cell_of_row _ _ 2 _ _ _ h
  have c3 := cell_of_row _ _ 3 _ _ _ h
  have c4 := cell_of_row _ _ 4 _ _ _ h
  have c5 := cell_of_row _ _ 5 _ _ _ h
  have c6 := cell_of_row _ _ 6 _ _ _ h
  have c7 := cell_of_row _ _ 7 _ _ _ h
  have c8 := cell_of_row _ _ 8 _ _ _ h
  simp at c0 c1 c2 c3 c4 c5 c6 c7 c8
  unfold execOp
  rw [ho]
  simp [go_sem, hx, c0, c1, c2, c3, c4, c5, c6, c7, c8, ruV]
theorem putHo_heapZ {w : World} {b : Nat} {x : Ho} (h : w.heap[b]? = some (.cells #[.slice none 0 0, .int .i64 0, .int .i64 0, .int .i64 0, .int .i64 0, .int .i64 0, .int .i64 0, .int .i64 0, .int .i64 0, .int .i64 0, .int .i64 0, .slice none 0 0, .slice none 0 0, .slice none 0 0, .slice none 0 0] 37)) : (putHo w b x).heap[b]? = some (.cells #[.slice x.ra x.r.seats.length x.rc, .int .i64 x.r.tiers, .int .i64 x.r.room, .int .i64 x.r.size, .int .i64 x.r.period, .int .i64 x.r.window, .int .i64 x.r.rest, .int .i64 x.r.tries, .int .i64 x.r.crew, .int .i64 x.now, .int .i64 x.turn, .slice x.p x.pn x.pc, .slice x.c x.cn x.cc, .slice x.t x.tn x.tc, .slice x.j x.jn x.jc] 37) := by
  unfold putHo
  have h := Go.heap_setCell_same _ b 0 _ 37 (.slice x.ra x.r.seats.length x.rc) h
  have h := Go.heap_setCell_same _ b 1 _ 37 (.int .i64 x.r.tiers) h
  have h := Go.heap_setCell_same _ b 2 _ 37 (.int .i64 x.r.room) h
  have h := Go.heap_setCell_same _ b 3 _ 37 (.int .i64 x.r.size) h
  have h := Go.heap_setCell_same _ b 4 _ 37 (.int .i64 x.r.period) h
  have h := Go.heap_setCell_same _ b 5 _ 37 (.int .i64 x.r.window) h
  have h := Go.heap_setCell_same _ b 6 _ 37 (.int .i64 x.r.rest) h
  have h := Go.heap_setCell_same _ b 7 _ 37 (.int .i64 x.r.tries) h
  have h := Go.heap_setCell_same _ b 8 _ 37 (.int .i64 x.r.crew) h
  have h := Go.heap_setCell_same _ b 9 _ 37 (.int .i64 x.now) h
  have h := Go.heap_setCell_same _ b 10 _ 37 (.int .i64 x.turn) h
  have h := Go.heap_setCell_same _ b 11 _ 37 (.slice x.p x.pn x.pc) h
  have h := Go.heap_setCell_same _ b 12 _ 37 (.slice x.c x.cn x.cc) h
  have h := Go.heap_setCell_same _ b 13 _ 37 (.slice x.t x.tn x.tc) h
  have h := Go.heap_setCell_same _ b 14 _ 37 (.slice x.j x.jn x.jc) h
  simpa using h
set_option maxRecDepth 100000 in
theorem exec_loadHoV {ρ : Operand → Value} {o : Oper} {y : Operand} (b : Nat) (x : Ho) (w : World) (h : w.heap[b]? = some (.cells #[.slice x.ra x.r.seats.length x.rc, .int .i64 x.r.tiers, .int .i64 x.r.room, .int .i64 x.r.size, .int .i64 x.r.period, .int .i64 x.r.window, .int .i64 x.r.rest, .int .i64 x.r.tries, .int .i64 x.r.crew, .int .i64 x.now, .int .i64 x.turn, .slice x.p x.pn x.pc, .slice x.c x.cn x.cc, .slice x.t x.tn x.tc, .slice x.j x.jn x.jc] 37)) (ho : o.op = .load 37 y := by rfl) (hx : ρ y = .pointer (some ⟨b, 0, none⟩) := by rfl) :
    (execOp ρ o).run Tryz.prog w = .ok (.value (hoA x)) w := by
  have c0 := cell_of_row _ _ 0 _ _ _ h
  have c1 := cell_of_row _ _ 1 _ _ _ h
  have c2 := cell_of_row _ _ 2 _ _ _ h
  have c3 := cell_of_row _ _ 3 _ _ _ h
  have c4 := cell_of_row _ _ 4 _ _ _ h
  have c5 := cell_of_row _ _ 5 _ _ _ h
  have c6 := cell_of_row _ _ 6 _ _ _ h
  have c7 := cell_of_row _ _ 7 _ _ _ h
  have c8 := cell_of_row _ _ 8 _ _ _ h
  have c9 := cell_of_row _ _ 9 _ _ _ h
  have c10 := cell_of_row _ _ 10 _ _ _ h
  have c11 := cell_of_row _ _ 11 _ _ _ h
  have c12 := cell_of_row _ _ 12 _ _ _ h
  have c13 := cell_of_row _ _ 13 _ _ _ h
  have c14 := cell_of_row _ _ 14 _ _ _ h
  simp at c0 c1 c2 c3 c4 c5 c6 c7 c8 c9 c10 c11 c12 c13 c14
  unfold execOp
  rw [ho]
  simp [go_sem, hx, c0, c1, c2, c3, c4, c5, c6, c7, c8, c9, c10, c11, c12, c13, c14, hoA]
set_option maxRecDepth 100000 in
theorem exec_storeHoV {ρ : Operand → Value} {o : Oper} {x y : Operand} (b : Nat) (p : Ho) (w : World) (h : w.heap[b]? = some (.cells #[.slice none 0 0, .int .i64 0, .int .i64 0, .int .i64 0, .int .i64 0, .int .i64 0, .int .i64 0, .int .i64 0, .int .i64 0, .int .i64 0, .int .i64 0, .slice none 0 0, .slice none 0 0, .slice none 0 0, .slice none 0 0] 37)) (ho : o.op = .store 37 x y := by rfl) (hx : ρ x = .pointer (some ⟨b, 0, none⟩) := by rfl) (hy : ρ y = hoA p := by rfl) :
    (execOp ρ o).run Tryz.prog w = .ok .skip (putHo w b p) := by
  have c0 := cell_of_row _ _ 0 _ _ _ h
  have z0 := frozen_of_row _ _ 0 _ _ h
  have c1 := cell_of_row _ _ 1 _ _ _ h
  have z1 := frozen_of_row _ _ 1 _ _ h
  have c2 := cell_of_row _ _ 2 _ _ _ h
  have z2 := frozen_of_row _ _ 2 _ _ h
  have c3 := cell_of_row _ _ 3 _ _ _ h
  have z3 := frozen_of_row _ _ 3 _ _ h
  have c4 := cell_of_row _ _ 4 _ _ _ h
  have z4 := frozen_of_row _ _ 4 _ _ h
  have c5 := cell_of_row _ _ 5 _ _ _ h
  have z5 := frozen_of_row _ _ 5 _ _ h
  have c6 := cell_of_row _ _ 6 _ _ _ h
  have z6 := frozen_of_row _ _ 6 _ _ h
  have c7 := cell_of_row _ _ 7 _ _ _ h
  have z7 := frozen_of_row _ _ 7 _ _ h
  have c8 := cell_of_row _ _ 8 _ _ _ h
  have z8 := frozen_of_row _ _ 8 _ _ h
  have c9 := cell_of_row _ _ 9 _ _ _ h
  have z9 := frozen_of_row _ _ 9 _ _ h
  have c10 := cell_of_row _ _ 10 _ _ _ h
  have z10 := frozen_of_row _ _ 10 _ _ h
  have c11 := cell_of_row _ _ 11 _ _ _ h
  have z11 := frozen_of_row _ _ 11 _ _ h
  have c12 := cell_of_row _ _ 12 _ _ _ h
  have z12 := frozen_of_row _ _ 12 _ _ h
  have c13 := cell_of_row _ _ 13 _ _ _ h
  have z13 := frozen_of_row _ _ 13 _ _ h
  have c14 := cell_of_row _ _ 14 _ _ _ h
  have z14 := frozen_of_row _ _ 14 _ _ h
  simp at c0 c1 c2 c3 c4 c5 c6 c7 c8 c9 c10 c11 c12 c13 c14
  unfold execOp
  rw [ho]
  simp [go_sem, hx, hy, hoA, c0, z0, c1, z1, c2, z2, c3, z3, c4, z4, c5, z5, c6, z6, c7, z7, c8, z8, c9, z9, c10, z10, c11, z11, c12, z12, c13, z13, c14, z14, putHo]
set_option maxRecDepth 100000 in
set_option maxHeartbeats 1600000 in
/-- What stands behind the if-chain: the state is loaded and handed out. -/
theorem Lx.done {w u : World} {g : Nat} {A : Option Addr} {l : List Nat} {c gh : Nat} {x : Ho} {pl : List Pt} (h : Lx w u g A l c gh x pl) {K : Act → World → Prop} {o1 o2 : Oper} {a : Act} {id : Nat}
    (hK : ∀ a w1, Code.wp Tryz.prog .ret (bodyPost Tryz.prog Tryz.f11 (GotLd w g A l c)) a w1 → K a w1)
    (g1 : o1.guard = none) (g2 : o2.guard = none) (d1 : o1.dst = some 97) (d2 : o2.dst = none) (e1 : o1.op = .load 37 (.tmp 3)) (e2 : o2.op = .store 37 (.tmp 2) (.tmp 97))
    (hs : a.tmps.size = 98) (h2 : a.eval (.tmp 2) = .pointer (some ⟨w.heap.size, 0, none⟩)) (h3 : a.eval (.tmp 3) = .pointer (some ⟨gh, 0, none⟩)) (hd : a.defers = []) :
    Code.wp Tryz.prog (Code.region id #[o1, o2] false) (Exit.then K (bodyPost Tryz.prog Tryz.f11 (GotLd w g A l c))) a u := by
  refine wp_region_list ?_
  show wpList Tryz.prog #[o1, o2] _ [o1, o2] a u
  refine wpList_exec (hoA x) g1 (exec_loadHoV gh x u h.H e1 h3) ?_
  rw [d1]
  refine wpList_plain g2 fun K2 hK2 => ?_
  obtain ⟨tm, df⟩ := a
  simp only at hs hd
  subst hd
  have h2' : tm.getD 2 undef = .pointer (some ⟨w.heap.size, 0, none⟩) := h2
  have hz : (Act.put ⟨tm, []⟩ (some 97) (hoA x)).eval (.tmp 97) = hoA x := by
    show (tm.setIfInBounds 97 (hoA x)).getD 97 undef = hoA x
    simp [Array.getD, hs]
  have hy : (Act.put ⟨tm, []⟩ (some 97) (hoA x)).eval (.tmp 2) = .pointer (some ⟨w.heap.size, 0, none⟩) := by
    show (tm.setIfInBounds 97 (hoA x)).getD 2 undef = _
    rw [← h2']
    simp [Array.getD, hs]
  unfold Oper.wp
  rw [exec_storeHoV w.heap.size x u h.Z e2 hy hz, Oper.upon_skip, d2]
  refine hK2 _ _ ?_
  refine hK _ _ ?_
  have Z := putHo_heapZ (x := x) h.Z
  have R := h.got
  have hy2 : (tm.setIfInBounds 97 (hoA x)).getD 2 undef = .pointer (some ⟨w.heap.size, 0, none⟩) := hy
  refine wp_ret ?_
  show _ = [] ∧ ∃ v, _ ∧ _
  refine ⟨rfl, hoA x, ?_, R⟩
  show (results Tryz.f11 (tm.setIfInBounds 97 (hoA x))).run Tryz.prog (putHo u w.heap.size x) = _
  generalize putHo u w.heap.size x = U at *
  generalize tm.setIfInBounds 97 (hoA x) = tm2 at *
  have e0 := cell_of_row _ _ 0 _ _ _ Z
  have e1 := cell_of_row _ _ 1 _ _ _ Z
  have e2 := cell_of_row _ _ 2 _ _ _ Z
  have e3 := cell_of_row _ _ 3 _ _ _ Z
  have e4 := cell_of_row _ _ 4 _ _ _ Z
  have e5 := cell_of_row _ _ 5 _ _ _ Z
  have e6 := cell_of_row _ _ 6 _ _ _ Z
  have e7 := cell_of_row _ _ 7 _ _ _ Z
  have e8 := cell_of_row _ _ 8 _ _ _ Z
  have e9 := cell_of_row _ _ 9 _ _ _ Z
  have e10 := cell_of_row _ _ 10 _ _ _ Z
  have e11 := cell_of_row _ _ 11 _ _ _ Z
  have e12 := cell_of_row _ _ 12 _ _ _ Z
  have e13 := cell_of_row _ _ 13 _ _ _ Z
  have e14 := cell_of_row _ _ 14 _ _ _ Z
  simp at e0 e1 e2 e3 e4 e5 e6 e7 e8 e9 e10 e11 e12 e13 e14
  have hy3 : tm2[2]?.getD undef = .pointer (some ⟨w.heap.size, 0, none⟩) := by simpa using hy2
  simp [results, Tryz.results11, go_sem, hy3, e0, e1, e2, e3, e4, e5, e6, e7, e8, e9, e10, e11, e12, e13, e14, hoA]
set_option maxRecDepth 100000 in
set_option maxHeartbeats 12800000 in
theorem l11Draw_any (A : Option Addr) (l : List Nat) (c g : Nat) (w : World) (hl : l.length ≤ 2097152) (hb : AllB l) (hcw : Cur w g A l c) :
    Calls Tryz.prog 11 #[.pointer (some ⟨g, 0, none⟩)] w (GotLd w g A l c) := by
  have hlt := hcw.lt
  have hz0 := heap_new w (.cells #[.slice none 0 0, .int .i64 0, .int .i64 0, .int .i64 0, .int .i64 0, .int .i64 0, .int .i64 0, .int .i64 0, .int .i64 0, .int .i64 0, .int .i64 0, .slice none 0 0, .slice none 0 0, .slice none 0 0, .slice none 0 0] 37)
  have hc0 := hcw.alloc (.cells #[.slice none 0 0, .int .i64 0, .int .i64 0, .int .i64 0, .int .i64 0, .int .i64 0, .int .i64 0, .int .i64 0, .int .i64 0, .int .i64 0, .int .i64 0, .slice none 0 0, .slice none 0 0, .slice none 0 0, .slice none 0 0] 37)
  have g0 := grown_made w (.cells #[.slice none 0 0, .int .i64 0, .int .i64 0, .int .i64 0, .int .i64 0, .int .i64 0, .int .i64 0, .int .i64 0, .int .i64 0, .int .i64 0, .int .i64 0, .slice none 0 0, .slice none 0 0, .slice none 0 0, .slice none 0 0] 37) g
  have F0 : Hid (_ ∧ _) := ⟨hz0, g0⟩
  clear hz0 g0 hcw
  go_enter Tryz.func11, Tryz.ntmps11
  go_wp2_with fail
  refine (l11Right_own A l c g _ hl hb hc0).mono ?_
  rintro e w1 ⟨x, pl, cs, ts, js, rfl, hr, hxp, hpl, hnow, hxc, htn, hjn, oP, oC0, oT0, oJ0, oA0, hc1, gr1⟩
  have HXC := Lib.hid hxc
  have HPL := Lib.hid hpl
  clear hxc
  have sz0 : (w.alloc (.cells #[.slice none 0 0, .int .i64 0, .int .i64 0, .int .i64 0, .int .i64 0, .int .i64 0, .int .i64 0, .int .i64 0, .int .i64 0, .int .i64 0, .int .i64 0, .slice none 0 0, .slice none 0 0, .slice none 0 0, .slice none 0 0] 37)).heap.size = w.heap.size + 1 := by simp
  rw [sz0] at oP oC0 oT0 oJ0 oA0
  have hz1 := grown_keep gr1 F0.out.1 (by omega)
  have K1 : Lx w (w1.alloc (.cells #[.slice x.ra x.r.seats.length x.rc, .int .i64 x.r.tiers, .int .i64 x.r.room, .int .i64 x.r.size, .int .i64 x.r.period, .int .i64 x.r.window, .int .i64 x.r.rest, .int .i64 x.r.tries, .int .i64 x.r.crew, .int .i64 x.now, .int .i64 x.turn, .slice x.p x.pn x.pc, .slice x.c x.cn x.cc, .slice x.t x.tn x.tc, .slice x.j x.jn x.jc] 37)) g A l c w1.heap.size x pl := ⟨blk_alloc hz1 _, heap_new _ _, (own_weak oP (by omega)).alloc _, hxp, by omega, hc1.alloc _, grown_step (F0.out.2.trans gr1) (World.grownBy_alloc _ _ none) (fun j h => by cases h), hlt, blk_lt hz1⟩
  have K3 := K1.new (.cells (([-1, 0, 1, 3, 1000000, 1000001, 1000002, 9223372036854775807, -9223372036854775808] : List Int).map (Value.int .i64)).toArray 3)
  have oC := ((own_weak oC0 (show w.heap.size + 1 ≤ _ by omega)).alloc (.cells #[.slice x.ra x.r.seats.length x.rc, .int .i64 x.r.tiers, .int .i64 x.r.room, .int .i64 x.r.size, .int .i64 x.r.period, .int .i64 x.r.window, .int .i64 x.r.rest, .int .i64 x.r.tries, .int .i64 x.r.crew, .int .i64 x.now, .int .i64 x.turn, .slice x.p x.pn x.pc, .slice x.c x.cn x.cc, .slice x.t x.tn x.tc, .slice x.j x.jn x.jc] 37)).alloc (.cells (([-1, 0, 1, 3, 1000000, 1000001, 1000002, 9223372036854775807, -9223372036854775808] : List Int).map (Value.int .i64)).toArray 3)
  have oT := ((own_weak oT0 (show w.heap.size + 1 ≤ _ by omega)).alloc (.cells #[.slice x.ra x.r.seats.length x.rc, .int .i64 x.r.tiers, .int .i64 x.r.room, .int .i64 x.r.size, .int .i64 x.r.period, .int .i64 x.r.window, .int .i64 x.r.rest, .int .i64 x.r.tries, .int .i64 x.r.crew, .int .i64 x.now, .int .i64 x.turn, .slice x.p x.pn x.pc, .slice x.c x.cn x.cc, .slice x.t x.tn x.tc, .slice x.j x.jn x.jc] 37)).alloc (.cells (([-1, 0, 1, 3, 1000000, 1000001, 1000002, 9223372036854775807, -9223372036854775808] : List Int).map (Value.int .i64)).toArray 3)
  have oJ := ((own_weak oJ0 (show w.heap.size + 1 ≤ _ by omega)).alloc (.cells #[.slice x.ra x.r.seats.length x.rc, .int .i64 x.r.tiers, .int .i64 x.r.room, .int .i64 x.r.size, .int .i64 x.r.period, .int .i64 x.r.window, .int .i64 x.r.rest, .int .i64 x.r.tries, .int .i64 x.r.crew, .int .i64 x.now, .int .i64 x.turn, .slice x.p x.pn x.pc, .slice x.c x.cn x.cc, .slice x.t x.tn x.tc, .slice x.j x.jn x.jc] 37)).alloc (.cells (([-1, 0, 1, 3, 1000000, 1000001, 1000002, 9223372036854775807, -9223372036854775808] : List Int).map (Value.int .i64)).toArray 3)
  have oA := ((own_weak oA0 (show w.heap.size + 1 ≤ _ by omega)).alloc (.cells #[.slice x.ra x.r.seats.length x.rc, .int .i64 x.r.tiers, .int .i64 x.r.room, .int .i64 x.r.size, .int .i64 x.r.period, .int .i64 x.r.window, .int .i64 x.r.rest, .int .i64 x.r.tries, .int .i64 x.r.crew, .int .i64 x.now, .int .i64 x.turn, .slice x.p x.pn x.pc, .slice x.c x.cn x.cc, .slice x.t x.tn x.tc, .slice x.j x.jn x.jc] 37)).alloc (.cells (([-1, 0, 1, 3, 1000000, 1000001, 1000002, 9223372036854775807, -9223372036854775808] : List Int).map (Value.int .i64)).toArray 3)
  have hx := ints_new (w1.alloc (.cells #[.slice x.ra x.r.seats.length x.rc, .int .i64 x.r.tiers, .int .i64 x.r.room, .int .i64 x.r.size, .int .i64 x.r.period, .int .i64 x.r.window, .int .i64 x.r.rest, .int .i64 x.r.tries, .int .i64 x.r.crew, .int .i64 x.now, .int .i64 x.turn, .slice x.p x.pn x.pc, .slice x.c x.cn x.cc, .slice x.t x.tn x.tc, .slice x.j x.jn x.jc] 37)) [-1, 0, 1, 3, 1000000, 1000001, 1000002, 9223372036854775807, -9223372036854775808]
  rw [World.size_alloc] at hx
  have ltz := blk_lt hz1
  have CP := Lib.hid (l1PickInt_any A l c g [-1, 0, 1, 3, 1000000, 1000001, 1000002, 9223372036854775807, -9223372036854775808] (w1.heap.size + 1) 9 9 _ hl hb K3.cur rfl (by simp) (by simp) (by omega) hx)
  have HK3 := Lib.hid K3
  have HR3 := Lib.hid (And.intro oC (And.intro oT (And.intro oJ oA)))
  clear K1 K3 oP oC oT oJ oA oC0 oT0 oJ0 oA0 hc1 gr1 hz1 F0 hx sz0 hc0 hxp hpl
  unfold hoA
  go_wp2_with fail
  refine CP.out.mono ?_
  rintro e w3 ⟨z, hzm, rfl, hc4, gr4⟩
  have HK4 := Lib.hid (HK3.out.draw gr4 hc4)
  have HR4 := Lib.hid (And.intro (own_cur HR3.out.1 gr4 (by omega)) (And.intro (own_cur HR3.out.2.1 gr4 (by omega)) (And.intro (own_cur HR3.out.2.2.1 gr4 (by omega)) (own_cur HR3.out.2.2.2 gr4 (by omega)))))
  clear CP HK3 HR3 hc4 gr4 hzm
  go_wp2_with fail
  refine (l1Below_any A l c g 40 _ hl hb (by omega) (by omega) HK4.out.cur).mono ?_
  rintro e w4 ⟨k, hk, rfl, hc5, gr5⟩
  have K := HK4.out.draw gr5 hc5
  have oC := own_cur HR4.out.1 gr5 (by omega)
  have oT := own_cur HR4.out.2.1 gr5 (by omega)
  have oJ := own_cur HR4.out.2.2.1 gr5 (by omega)
  have oA := own_cur HR4.out.2.2.2 gr5 (by omega)
  clear HK4 HR4 hc5 gr5
  generalize w1.heap.size = gh at *
  clear w1 w3
  by_cases k0 : k = 0
  · subst k0
    have s0 := cell_of_row _ _ 9 _ _ _ K.H
    have s1 := frozen_of_row _ _ 9 _ _ K.H
    simp at s0
    have K2 := K.put 9 (.int .i64 z) (⟨x.ra, x.rc, x.r, z, x.turn, x.p, x.pn, x.pc, x.c, x.cn, x.cc, x.t, x.tn, x.tc, x.j, x.jn, x.jc⟩ : Ho) rfl rfl rfl rfl
    clear K oC oT oJ oA
    have HF := Lib.hid K2
    clear K2 
    go_upto_region 26 with fail
    exact Lx.done HF.out (by assumption) rfl rfl rfl rfl rfl rfl rfl rfl rfl rfl
  have e0 : ((k : Int) == 0) = false := by simp; omega
  by_cases k1 : k = 1
  · subst k1
    have s0 := cell_of_row _ _ 10 _ _ _ K.H
    have s1 := frozen_of_row _ _ 10 _ _ K.H
    simp at s0
    have K2 := K.put 10 (.int .i64 z) (⟨x.ra, x.rc, x.r, x.now, z, x.p, x.pn, x.pc, x.c, x.cn, x.cc, x.t, x.tn, x.tc, x.j, x.jn, x.jc⟩ : Ho) rfl rfl rfl rfl
    clear K oC oT oJ oA
    have HF := Lib.hid K2
    clear K2 
    go_upto_region 26 with fail
    exact Lx.done HF.out (by assumption) rfl rfl rfl rfl rfl rfl rfl rfl rfl rfl
  have e1 : ((k : Int) == 1) = false := by simp; omega
  by_cases k2 : k = 2
  · subst k2
    have a0 := cell_of_row _ _ 13 _ _ _ K.H
    simp at a0
    have KA := Lib.hid (K.new (.cells #[.int .i64 z] 3))
    have O1 := oT.alloc (.cells #[.int .i64 z] 3)
    have RN : Rws (w4.alloc (.cells #[.int .i64 z] 3)) (w4.heap.size + 1) (some ⟨w4.heap.size, 0, none⟩) [.int .i64 z] := Rws.new w4 [.int .i64 z] 3
    have hsz := K.gr.size
    have lgk := K.lg
    have lhk := blk_lt K.H
    have lhh := K.lh
    clear K oC oT oJ oA
    go_wp2_with (at_builtin; refine wpList_appR rowInt _ rfl (.tmp 23) (.tmp 25) rfl (w.heap.size + 1) _ x.tn ts rfl O1 _ _ 1 1 [.int .i64 z] rfl rfl RN (fun h => by cases h) (fun u hu => by simp at hu; rw [hu]; rfl) (by omega) (by simp; omega) ?_)
    intro v2 w2 o2 g2
    obtain ⟨T2, tc2, rfl, _⟩ := own_form o2
    have K := KA.out.step g2 (fun j hj => ⟨by have := own_low O1 j hj; omega, let ⟨cur, hc⟩ := own_typed2 O1 j hj; ⟨cur, 3, (0, 0), hc, by decide, by decide⟩⟩)
    have s0 := cell_of_row _ _ 13 _ _ _ K.H
    have s1 := frozen_of_row _ _ 13 _ _ K.H
    simp at s0
    have K2 := K.put 13 (.slice T2 (x.tn + 1) tc2) (⟨x.ra, x.rc, x.r, x.now, x.turn, x.p, x.pn, x.pc, x.c, x.cn, x.cc, T2, (x.tn + 1), tc2, x.j, x.jn, x.jc⟩ : Ho) rfl rfl rfl rfl
    clear K KA O1 RN o2 g2 a0
    have HF := Lib.hid K2
    clear K2 
    go_upto_region 26 with fail
    exact Lx.done HF.out (by assumption) rfl rfl rfl rfl rfl rfl rfl rfl rfl rfl
  have e2 : ((k : Int) == 2) = false := by simp; omega
  by_cases k3 : k = 3
  · subst k3
    have a0 := cell_of_row _ _ 14 _ _ _ K.H
    simp at a0
    have KA := Lib.hid (K.new (.cells #[.int .i64 z] 3))
    have O1 := oJ.alloc (.cells #[.int .i64 z] 3)
    have RN : Rws (w4.alloc (.cells #[.int .i64 z] 3)) (w4.heap.size + 1) (some ⟨w4.heap.size, 0, none⟩) [.int .i64 z] := Rws.new w4 [.int .i64 z] 3
    have hsz := K.gr.size
    have lgk := K.lg
    have lhk := blk_lt K.H
    have lhh := K.lh
    clear K oC oT oJ oA
    go_wp2_with (at_builtin; refine wpList_appR rowInt _ rfl (.tmp 31) (.tmp 33) rfl (w.heap.size + 1) _ x.jn js rfl O1 _ _ 1 1 [.int .i64 z] rfl rfl RN (fun h => by cases h) (fun u hu => by simp at hu; rw [hu]; rfl) (by omega) (by simp; omega) ?_)
    intro v2 w2 o2 g2
    obtain ⟨T2, tc2, rfl, _⟩ := own_form o2
    have K := KA.out.step g2 (fun j hj => ⟨by have := own_low O1 j hj; omega, let ⟨cur, hc⟩ := own_typed2 O1 j hj; ⟨cur, 3, (0, 0), hc, by decide, by decide⟩⟩)
    have s0 := cell_of_row _ _ 14 _ _ _ K.H
    have s1 := frozen_of_row _ _ 14 _ _ K.H
    simp at s0
    have K2 := K.put 14 (.slice T2 (x.jn + 1) tc2) (⟨x.ra, x.rc, x.r, x.now, x.turn, x.p, x.pn, x.pc, x.c, x.cn, x.cc, x.t, x.tn, x.tc, T2, (x.jn + 1), tc2⟩ : Ho) rfl rfl rfl rfl
    clear K KA O1 RN o2 g2 a0
    have HF := Lib.hid K2
    clear K2 
    go_upto_region 26 with fail
    exact Lx.done HF.out (by assumption) rfl rfl rfl rfl rfl rfl rfl rfl rfl rfl
  have e3 : ((k : Int) == 3) = false := by simp; omega
  by_cases k4 : k = 4
  · subst k4
    have lgk := K.lg
    have lhk := K.lh
    have hsz := K.gr.size
    have pl9 := K.pl9
    have xpk := K.xp
    have ltk := blk_lt K.H
    have HK := Lib.hid K
    have HOA := Lib.hid oA
    have XPK := Lib.hid xpk
    clear K oC oT oJ oA xpk
    go_wp2_with fail
    have xpk := XPK.out
    refine wp_region_F 11 (fun w' => Hid (w'.heap[gh]? = some (.cells #[.slice x.ra x.r.seats.length x.rc, .int .i64 x.r.tiers, .int .i64 x.r.room, .int .i64 x.r.size, .int .i64 x.r.period, .int .i64 x.r.window, .int .i64 x.r.rest, .int .i64 x.r.tries, .int .i64 x.r.crew, .int .i64 x.now, .int .i64 x.turn, .slice x.p x.pn x.pc, .slice x.c x.cn x.cc, .slice x.t x.tn x.tc, .slice x.j x.jn x.jc] 37))) (by kernel_rfl) ?_
    have g0 : w4.grownBy w4.drew (some g) := grown_of_below (below_drawn (Below.refl w4.heap.size w4) 1) _
    have hH0 : Hid (w4.drew.heap[gh]? = some (.cells #[.slice x.ra x.r.seats.length x.rc, .int .i64 x.r.tiers, .int .i64 x.r.room, .int .i64 x.r.size, .int .i64 x.r.period, .int .i64 x.r.window, .int .i64 x.r.rest, .int .i64 x.r.tries, .int .i64 x.r.crew, .int .i64 x.now, .int .i64 x.turn, .slice x.p x.pn x.pc, .slice x.c x.cn x.cc, .slice x.t x.tn x.tc, .slice x.j x.jn x.jc] 37)) := HK.out.H
    refine f_take 0 38 (.pointer (some ⟨gh, 11, none⟩)) rfl rfl (by kernel_rfl) (by kernel_rfl) (by kernel_rfl) (by kernel_rfl) (fun _ _ _ h => h) rfl hH0 (fun w _ => exec_fldHo _ 3 11 w (by simp)) ?_
    refine f_take 1 39 (.slice x.p x.pn x.pc) rfl rfl (by kernel_rfl) (by kernel_rfl) (by kernel_rfl) (by kernel_rfl) (fun _ _ _ h => h) rfl hH0 (fun w h => exec_loadPs _ 11 _ _ _ w (by have c11 := cell_of_row _ _ 11 _ _ _ h.out; simp at c11; exact c11)) ?_
    simp only [Act.put, List.setIfInBounds_toArray, List.set_cons_zero, List.set_cons_succ]
    refine f_take 2 40 (.pointer (some ⟨g, 0, none⟩)) rfl rfl (by kernel_rfl) (by kernel_rfl) (by kernel_rfl) (by kernel_rfl) (fun _ _ _ h => h) rfl hH0 (fun w _ => rfl) ?_
    refine f_take 3 41 (.pointer (some ⟨gh, 0, none⟩)) rfl rfl (by kernel_rfl) (by kernel_rfl) (by kernel_rfl) (by kernel_rfl) (fun _ _ _ h => h) rfl hH0 (fun w _ => exec_fldHo _ 0 0 w (by simp)) ?_
    simp only [Act.put, List.setIfInBounds_toArray, List.set_cons_zero, List.set_cons_succ]
    refine f_take 4 42 (ruV x.ra x.rc x.r) rfl rfl (by kernel_rfl) (by kernel_rfl) (by kernel_rfl) (by kernel_rfl) (fun _ _ _ h => h) rfl hH0 (fun w h => exec_loadHr _ x w h.out) ?_
    refine f_take 5 43 (.pointer (some ⟨gh, 9, none⟩)) rfl rfl (by kernel_rfl) (by kernel_rfl) (by kernel_rfl) (by kernel_rfl) (fun _ _ _ h => h) rfl hH0 (fun w _ => exec_fldHo _ 1 9 w (by simp)) ?_
    simp only [Act.put, List.setIfInBounds_toArray, List.set_cons_zero, List.set_cons_succ]
    refine f_take 6 44 (.int .i64 x.now) rfl rfl (by kernel_rfl) (by kernel_rfl) (by kernel_rfl) (by kernel_rfl) (fun _ _ _ h => h) rfl hH0 (fun w h => exec_load1 3 _ 9 _ w (.inl rfl) (by have c9 := cell_of_row _ _ 9 _ _ _ h.out; simp at c9; exact c9)) ?_
    simp only [Act.put, List.setIfInBounds_toArray, List.set_cons_zero, List.set_cons_succ]
    refine f_call 7 45 22 #[.pointer (some ⟨g, 0, none⟩), ruV x.ra x.rc x.r, .int .i64 x.now] rfl rfl (by kernel_rfl) rfl (exec_call Tryz.func22 (by kernel_rfl) (by kernel_rfl) _) ?_
    refine (l6Bent_any A x.ra l c g x.rc (w.heap.size + 1) x.r x.now _ hl hb (HK.out.cur.mem (below_drawn (Below.refl _ _) 1)) hr hnow (own_cur HOA.out g0 (by omega)) (by omega)).mono ?_
    rintro e v5 ⟨p, rfl, _, hd5, gs5⟩
    have K5 := HK.out.draw (g0.trans gs5) hd5
    refine ⟨_, rfl, (fun _ _ => Lib.hid K5.H), ?_⟩
    simp only [Act.put, List.setIfInBounds_toArray, List.set_cons_zero, List.set_cons_succ]
    have K6 := K5.new (.cells (ptC p).toArray 26)
    refine f_op 8 46 (.slice (some ⟨v5.heap.size, 0, none⟩) 1 1) rfl rfl (by kernel_rfl) rfl (exec_one_pt p _) (fun _ _ => Lib.hid K6.H) ?_
    simp only [Act.put, List.setIfInBounds_toArray, List.set_cons_zero, List.set_cons_succ]
    refine f_opx 9 47 rfl rfl (by kernel_rfl) rfl (exec_appR rowPty _ (w.heap.size + 1) _ x.pn _ K6.oP _ _ 1 1 (ptC p) rfl (Rws.new v5 (ptC p) 26) (fun h => by cases h) (by intro z hz; exact ptC_one [p] z (by simpa using hz)) (by omega) (by have := K5.gr.size; simp; omega)) (fun v w' h _ _ => Lib.hid (K6.keepH h.2)) ?_
    rintro v7 w7 ⟨o7, g7⟩
    simp only [Act.put, List.setIfInBounds_toArray, List.set_cons_zero, List.set_cons_succ]
    obtain ⟨P2, pc2, rfl, _⟩ := own_form o7
    have H7 := K6.keepH g7
    have c7 := cell_of_row _ _ 11 _ _ _ H7
    have f7 := frozen_of_row _ _ 11 _ _ H7
    simp at c7
    refine f_take 10 48 (.pointer (some ⟨gh, 11, none⟩)) rfl rfl (by kernel_rfl) (by kernel_rfl) (by kernel_rfl) (by kernel_rfl) (fun _ _ _ h => h) rfl (Lib.hid H7) (fun w _ => exec_fldHo _ 3 11 w (by simp)) ?_
    simp only [Act.put, List.setIfInBounds_toArray, List.set_cons_zero, List.set_cons_succ]
    refine f_store 11 rfl rfl (by kernel_rfl) rfl (exec_storePs gh 11 P2 (x.pn + 1) pc2 _ w7 c7 f7) (fun h => absurd rfl h) ?_
    refine f_done (by kernel_rfl) ?_ _
    have eF : (pl ++ [p]).flatMap ptC = pl.flatMap ptC ++ ptC p := by simp
    have K2 := K6.app g7 P2 (x.pn + 1) pc2 (pl ++ [p]) (by rw [eF]; exact o7) (by rw [List.length_append, xpk]; rfl) (by rw [List.length_append]; have := HPL.out; simp; omega)
    clear K5 K6 o7 g7 H7 c7 f7 HK HOA gs5 hd5 hH0 g0 xpk
    have HF := Lib.hid K2
    clear K2 
    go_upto_region 26 with fail
    exact Lx.done HF.out (by assumption) rfl rfl rfl rfl rfl rfl rfl rfl rfl rfl
  have e4 : ((k : Int) == 4) = false := by simp; omega
  by_cases k5 : k = 5
  · subst k5
    have d11 := cell_of_row _ _ 11 _ _ _ K.H
    simp at d11
    have xpk := K.xp
    cases pl with
    | nil =>
      have h0 : x.pn = 0 := xpk
      rw [h0] at d11
      have HK := Lib.hid K
      clear K oC oT oJ oA xpk h0
      go_upto_region 26 with fail
      have K := HK.out
      clear HK d11
      have HF := Lib.hid K
      clear K 
      exact Lx.done HF.out (by assumption) rfl rfl rfl rfl rfl rfl rfl rfl rfl rfl
    | cons p ps =>
      obtain ⟨gp, hgp, hbp⟩ : ∃ b, x.p = some ⟨b, 0, none⟩ ∧ w.heap.size + 1 ≤ b := by
        obtain ⟨_, _, eC, _, _, hC⟩ := own_form K.oP
        obtain ⟨b, eb, h2⟩ := hC (by rw [xpk]; simp)
        injection eC with eC1
        exact ⟨b, eC1.trans eb, h2⟩
      have hpn : ∃ m : Nat, x.pn = m + 1 := ⟨ps.length, xpk⟩
      obtain ⟨m, hpn⟩ := hpn
      have oP := K.oP
      rw [hgp, hpn] at d11 oP
      have s0 : ∃ u, w4.cell? ⟨gp, 5, none⟩ = some u := by rw [oP.cellAt 5 (by omega)]; exact ⟨_, List.getElem?_eq_getElem (by have := oP.1; omega)⟩
      obtain ⟨s0, hs0⟩ := s0
      have s1 := oP.frozenAt 5
      have K2 := K.party hgp 5 (.int .i64 z) _ (pt_set p ps z).1
      have gt0 : (0 : Int) < ((m + 1 : Nat) : Int) := by omega
      have HK2 := Lib.hid K2
      clear K K2 oC oT oJ oA oP xpk
      clear hpn hgp
      go_upto_region 26 with fail
      have K2 := HK2.out
      clear HK2 d11 hs0 s1
      have HF := Lib.hid K2
      clear K2 
      exact Lx.done HF.out (by assumption) rfl rfl rfl rfl rfl rfl rfl rfl rfl rfl
  have e5 : ((k : Int) == 5) = false := by simp; omega
  by_cases k6 : k = 6
  · subst k6
    obtain ⟨m, hm⟩ : ∃ m : Nat, x.cn = m + 1 := ⟨x.cn - 1, by have := hr.n1; have := HXC.out; omega⟩
    have d12 := cell_of_row _ _ 12 _ _ _ K.H
    have y12 := frozen_of_row _ _ 12 _ _ K.H
    simp at d12
    have hcap : m ≤ x.cc := by have := own_cap oC; omega
    have K2 := K.put 12 (.slice x.c m x.cc) (⟨x.ra, x.rc, x.r, x.now, x.turn, x.p, x.pn, x.pc, x.c, m, x.cc, x.t, x.tn, x.tc, x.j, x.jn, x.jc⟩ : Ho) rfl rfl rfl rfl
    have HK2 := Lib.hid K2
    have hsub : wrap64 ((x.cn : Int) - 1) = (m : Int) := by rw [IntWalk.wrap64_in _ (by have := hr.n2; have := HXC.out; omega)]; omega
    clear K K2 oC oT oJ oA hm
    go_upto_region 26 with fail
    have K2 := HK2.out
    clear HK2 d12 y12
    have HF := Lib.hid K2
    clear K2 
    exact Lx.done HF.out (by assumption) rfl rfl rfl rfl rfl rfl rfl rfl rfl rfl
  have e6 : ((k : Int) == 6) = false := by simp; omega
  by_cases k7 : k = 7
  · subst k7
    have d11 := cell_of_row _ _ 12 _ _ _ K.H
    clear d11
    obtain ⟨gc, hgc, hbc⟩ : ∃ b, x.c = some ⟨b, 0, none⟩ ∧ w.heap.size + 1 ≤ b := by
      obtain ⟨_, _, eC, _, _, hC⟩ := own_form oC
      obtain ⟨b, eb, h2⟩ := hC (by rw [HXC.out]; exact hr.n1)
      injection eC with eC1
      exact ⟨b, eC1.trans eb, h2⟩
    have hcn : 0 < x.cn := by rw [HXC.out]; exact hr.n1
    rw [hgc] at oC
    have HK := Lib.hid K
    have HOC := Lib.hid oC
    have lgk := K.lg
    have lhk := K.lh
    have HB : Hid (∀ u : World, u.heap[gh]? = some (.cells #[.slice x.ra x.r.seats.length x.rc, .int .i64 x.r.tiers, .int .i64 x.r.room, .int .i64 x.r.size, .int .i64 x.r.period, .int .i64 x.r.window, .int .i64 x.r.rest, .int .i64 x.r.tries, .int .i64 x.r.crew, .int .i64 x.now, .int .i64 x.turn, .slice x.p x.pn x.pc, .slice x.c x.cn x.cc, .slice x.t x.tn x.tc, .slice x.j x.jn x.jc] 37) → u.cell? ⟨gh, 12, none⟩ = some (.slice (some ⟨gc, 0, none⟩) x.cn x.cc)) := fun u h => by have c := cell_of_row _ _ 12 _ _ _ h; simp at c; rw [hgc] at c; exact c
    clear K oC oT oJ oA
    go_wp2_with fail
    refine wp_region_F 5 (fun w' => Hid (w'.heap[gh]? = some (.cells #[.slice x.ra x.r.seats.length x.rc, .int .i64 x.r.tiers, .int .i64 x.r.room, .int .i64 x.r.size, .int .i64 x.r.period, .int .i64 x.r.window, .int .i64 x.r.rest, .int .i64 x.r.tries, .int .i64 x.r.crew, .int .i64 x.now, .int .i64 x.turn, .slice x.p x.pn x.pc, .slice x.c x.cn x.cc, .slice x.t x.tn x.tc, .slice x.j x.jn x.jc] 37))) (by kernel_rfl) ?_
    have g0 : w4.grownBy w4.drew (some g) := grown_of_below (below_drawn (Below.refl w4.heap.size w4) 1) _
    have hH0 : Hid (w4.drew.heap[gh]? = some (.cells #[.slice x.ra x.r.seats.length x.rc, .int .i64 x.r.tiers, .int .i64 x.r.room, .int .i64 x.r.size, .int .i64 x.r.period, .int .i64 x.r.window, .int .i64 x.r.rest, .int .i64 x.r.tries, .int .i64 x.r.crew, .int .i64 x.now, .int .i64 x.turn, .slice x.p x.pn x.pc, .slice x.c x.cn x.cc, .slice x.t x.tn x.tc, .slice x.j x.jn x.jc] 37)) := HK.out.H
    refine f_take 0 72 (.pointer (some ⟨gh, 12, none⟩)) rfl rfl (by kernel_rfl) (by kernel_rfl) (by kernel_rfl) (by kernel_rfl) (fun _ _ _ h => h) rfl hH0 (fun w _ => exec_fldHo _ 4 12 w (by simp)) ?_
    refine f_take 1 73 (.slice (some ⟨gc, 0, none⟩) x.cn x.cc) rfl rfl (by kernel_rfl) (by kernel_rfl) (by kernel_rfl) (by kernel_rfl) (fun _ _ _ h => h) rfl hH0 (fun w h => exec_loadCs _ 12 _ _ _ w (HB.out w h.out)) ?_
    simp only [Act.put, List.setIfInBounds_toArray, List.set_cons_zero, List.set_cons_succ]
    refine f_take 2 74 (.pointer (some ⟨g, 0, none⟩)) rfl rfl (by kernel_rfl) (by kernel_rfl) (by kernel_rfl) (by kernel_rfl) (fun _ _ _ h => h) rfl hH0 (fun w _ => rfl) ?_
    simp only [Act.put, List.setIfInBounds_toArray, List.set_cons_zero, List.set_cons_succ]
    refine f_call 3 75 23 #[.pointer (some ⟨g, 0, none⟩)] rfl rfl (by kernel_rfl) rfl (exec_call Tryz.func23 (by kernel_rfl) (by kernel_rfl) _) ?_
    refine (l10Draw_any A l c g _ hl hb (HK.out.cur.mem (below_drawn (Below.refl _ _) 1))).mono ?_
    rintro e v5 ⟨y, rfl, hd5, gs5⟩
    have K5 := HK.out.draw (g0.trans gs5) hd5
    have oC5 := own_cur HOC.out (g0.trans gs5) (by omega)
    refine ⟨_, rfl, (fun _ _ => Lib.hid K5.H), ?_⟩
    simp only [Act.put, List.setIfInBounds_toArray, List.set_cons_zero, List.set_cons_succ]
    refine f_take 4 76 (.pointer (some ⟨gc, 0 + 0 * 7, none⟩)) rfl rfl (by kernel_rfl) (by kernel_rfl) (by kernel_rfl) (by kernel_rfl) (fun _ _ _ h => h) rfl (Lib.hid K5.H) (fun w _ => exec_idxCab gc 0 x.cn x.cc 0 w hcn) ?_
    simp only [Act.put, List.setIfInBounds_toArray, List.set_cons_zero, List.set_cons_succ]
    refine f_store 5 rfl rfl (by kernel_rfl) rfl (exec_store_cbAt gc (0 + 0 * 7) y _ (fun j hj => by rw [Nat.zero_mul, Nat.add_zero, Nat.zero_add, oC5.cellAt j (by omega)]; exact ⟨_, List.getElem?_eq_getElem (by have := oC5.1; omega)⟩) (fun j => oC5.frozenAt j)) (fun h => absurd rfl h) ?_
    refine f_done (by kernel_rfl) ?_ _
    have K2 := K5.cab (b := gc) (o := 0 + 0 * 7) y (by omega) (own_typed2 oC5 gc rfl)
    clear K5 oC5 HK HOC HB gs5 hd5 hH0 g0 hgc
    have HF := Lib.hid K2
    clear K2 
    go_upto_region 26 with fail
    exact Lx.done HF.out (by assumption) rfl rfl rfl rfl rfl rfl rfl rfl rfl rfl
  have e7 : ((k : Int) == 7) = false := by simp; omega
  by_cases k8 : k = 8
  · subst k8
    have s0 := cell_of_row _ _ 2 _ _ _ K.H
    have s1 := frozen_of_row _ _ 2 _ _ K.H
    simp at s0
    have K2 := K.put 2 (.int .i64 z) (⟨x.ra, x.rc, ⟨x.r.seats, x.r.tiers, z, x.r.size, x.r.period, x.r.window, x.r.rest, x.r.tries, x.r.crew⟩, x.now, x.turn, x.p, x.pn, x.pc, x.c, x.cn, x.cc, x.t, x.tn, x.tc, x.j, x.jn, x.jc⟩ : Ho) rfl rfl rfl rfl
    clear K oC oT oJ oA
    have HF := Lib.hid K2
    clear K2 
    go_upto_region 26 with fail
    exact Lx.done HF.out (by assumption) rfl rfl rfl rfl rfl rfl rfl rfl rfl rfl
  have e8 : ((k : Int) == 8) = false := by simp; omega
  by_cases k9 : k = 9
  · subst k9
    have d11 := cell_of_row _ _ 11 _ _ _ K.H
    simp at d11
    have xpk := K.xp
    by_cases hp1 : pl.length ≤ 1
    · have hx1 : (x.pn : Int) ≤ 1 := by omega
      have gt0 : ¬ (1 : Int) < (x.pn : Int) := by omega
      have HK := Lib.hid K
      clear K oC oT oJ oA xpk
      go_upto_region 26 with fail
      have K := HK.out
      clear HK d11
      have HF := Lib.hid K
      clear K 
      exact Lx.done HF.out (by assumption) rfl rfl rfl rfl rfl rfl rfl rfl rfl rfl
    · obtain ⟨p, q, ps, rfl⟩ : ∃ p q ps, pl = p :: q :: ps := by
        match pl, hp1 with
        | [], h => exact absurd (by simp) h
        | [_], h => exact absurd (by simp) h
        | p :: q :: ps, _ => exact ⟨p, q, ps, rfl⟩
      obtain ⟨gp, hgp, hbp⟩ : ∃ b, x.p = some ⟨b, 0, none⟩ ∧ w.heap.size + 1 ≤ b := by
        obtain ⟨_, _, eC, _, _, hC⟩ := own_form K.oP
        obtain ⟨b, eb, h2⟩ := hC (by rw [xpk]; simp)
        injection eC with eC1
        exact ⟨b, eC1.trans eb, h2⟩
      have hx2 : 2 ≤ x.pn := by rw [xpk]; simp
      have oP := K.oP
      rw [hgp] at d11 oP
      have ol : ((p :: q :: ps).flatMap ptC).length = x.pn * 10 := oP.1
      have gt0 : (1 : Int) < (x.pn : Int) := by omega
      have HD : Hid (Lx w w4.drew g A l c gh x (p :: q :: ps)) := Lib.hid (K.step (grown_of_below (below_drawn (Below.refl w4.heap.size w4) 1) none) (fun j h => by cases h))
      have cL : Hid (∀ u, Below w4.heap.size w4 u → u.cell? ⟨gh, 11, none⟩ = some (.slice (some ⟨gp, 0, none⟩) x.pn x.pc)) := fun u b => (b.cell (p := ⟨gh, 11, none⟩) (blk_lt K.H)).trans d11
      have lgp : gp < w4.heap.size := own_block_lt K.oP gp (by rw [hgp]; rfl)
      have cT : Hid (∀ u, Below w4.heap.size w4 u → u.cell? ⟨gp, 0 + 1 * 10 + 6, none⟩ = some (.int .i64 q.turn)) := fun u b => (b.cell (p := ⟨gp, 0 + 1 * 10 + 6, none⟩) lgp).trans ((oP.cellAt 16 (by omega)).trans rfl)
      have s0 : ∃ u, w4.drew.cell? ⟨gp, 0 + 0 * 10 + 6, none⟩ = some u := ⟨_, (oP.cellAt 6 (by omega)).trans rfl⟩
      obtain ⟨s0, hs0⟩ := s0
      have s1 : w4.drew.frozen? ⟨gp, 0 + 0 * 10 + 6, none⟩ = false := oP.frozenAt 6
      have HS := Lib.hid (And.intro hs0 s1)
      clear K oC oT oJ oA oP ol hs0 s1 xpk
      go_wp2_with fail
      refine wp_region_F 9 (fun w' => Hid (Below w4.heap.size w4 w')) (by kernel_rfl) ?_
      have hH0 : Hid (Below w4.heap.size w4 w4.drew) := below_drawn (Below.refl w4.heap.size w4) 1
      refine f_take 0 88 (.pointer (some ⟨gh, 11, none⟩)) rfl rfl (by kernel_rfl) (by kernel_rfl) (by kernel_rfl) (by kernel_rfl) (fun _ _ _ h => h) rfl hH0 (fun w _ => exec_fldHo _ 3 11 w (by simp)) ?_
      refine f_take 1 89 (.slice (some ⟨gp, 0, none⟩) x.pn x.pc) rfl rfl (by kernel_rfl) (by kernel_rfl) (by kernel_rfl) (by kernel_rfl) (fun _ _ _ h => h) rfl hH0 (fun w h => exec_loadPs _ 11 _ _ _ w (cL.out w h.out)) ?_
      simp only [Act.put, List.setIfInBounds_toArray, List.set_cons_zero, List.set_cons_succ]
      refine f_take 2 90 (.pointer (some ⟨gh, 11, none⟩)) rfl rfl (by kernel_rfl) (by kernel_rfl) (by kernel_rfl) (by kernel_rfl) (fun _ _ _ h => h) rfl hH0 (fun w _ => exec_fldHo _ 3 11 w (by simp)) ?_
      refine f_take 3 91 (.slice (some ⟨gp, 0, none⟩) x.pn x.pc) rfl rfl (by kernel_rfl) (by kernel_rfl) (by kernel_rfl) (by kernel_rfl) (fun _ _ _ h => h) rfl hH0 (fun w h => exec_loadPs _ 11 _ _ _ w (cL.out w h.out)) ?_
      simp only [Act.put, List.setIfInBounds_toArray, List.set_cons_zero, List.set_cons_succ]
      refine f_take 4 92 (.pointer (some ⟨gp, 0 + 1 * 10, none⟩)) rfl rfl (by kernel_rfl) (by kernel_rfl) (by kernel_rfl) (by kernel_rfl) (fun _ _ _ h => h) rfl hH0 (fun w _ => exec_idx_pt gp 0 x.pn x.pc 1 w (by omega)) ?_
      refine f_take 5 93 (.pointer (some ⟨gp, 0 + 1 * 10 + 6, none⟩)) rfl rfl (by kernel_rfl) (by kernel_rfl) (by kernel_rfl) (by kernel_rfl) (fun _ _ _ h => h) rfl hH0 (fun w _ => exec_fldPt gp (0 + 1 * 10) 6 w (by omega)) ?_
      simp only [Act.put, List.setIfInBounds_toArray, List.set_cons_zero, List.set_cons_succ]
      refine f_take 6 94 (.int .i64 q.turn) rfl rfl (by kernel_rfl) (by kernel_rfl) (by kernel_rfl) (by kernel_rfl) (fun _ _ _ h => h) rfl hH0 (fun w h => exec_load1 3 gp (0 + 1 * 10 + 6) _ w (.inl rfl) (cT.out w h.out)) ?_
      refine f_op 7 95 (.pointer (some ⟨gp, 0 + 0 * 10, none⟩)) rfl rfl (by kernel_rfl) rfl (exec_idx_pt gp 0 x.pn x.pc 0 w4.drew (by omega)) (fun _ _ => hH0) ?_
      simp only [Act.put, List.setIfInBounds_toArray, List.set_cons_zero, List.set_cons_succ]
      refine f_op 8 96 (.pointer (some ⟨gp, 0 + 0 * 10 + 6, none⟩)) rfl rfl (by kernel_rfl) rfl (exec_fldPt gp (0 + 0 * 10) 6 w4.drew (by omega)) (fun _ _ => hH0) ?_
      simp only [Act.put, List.setIfInBounds_toArray, List.set_cons_zero, List.set_cons_succ]
      refine f_store 9 rfl rfl (by kernel_rfl) rfl (exec_storeI 3 gp (0 + 0 * 10 + 6) .i64 q.turn s0 w4.drew (.inl rfl) HS.out.1 HS.out.2) (fun h => absurd rfl h) ?_
      refine f_done (by kernel_rfl) ?_ _
      have K2 := HD.out.party hgp (0 + 0 * 10 + 6) (.int .i64 q.turn) _ (pt_set p (q :: ps) q.turn).2
      clear HD cL cT HS hH0 d11 hgp
      have HF := Lib.hid K2
      clear K2 
      go_upto_region 26 with fail
      exact Lx.done HF.out (by assumption) rfl rfl rfl rfl rfl rfl rfl rfl rfl rfl
  have e9 : ((k : Int) == 9) = false := by simp; omega
  have HK := Lib.hid K
  clear K oC oT oJ oA
  go_upto_region 26 with fail
  have K := HK.out
  clear HK
  have HF := Lib.hid K
  clear K 
  exact Lx.done HF.out (by assumption) rfl rfl rfl rfl rfl rfl rfl rfl rfl rfl
end Go.Proofs.YtlflgflmlfileaaGreat
