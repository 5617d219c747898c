/- Parties, entries, pins, ledgers, requests. -/
import Derived.Test.YtlflgflmlfileaaGreatRows
import Derived.Test.YtlflgflmlfileaaGreatG7
namespace Go.Proofs.YtlflgflmlfileaaGreat
open Go.RowKit
set_option linter.unusedSimpArgs false
set_option linter.unusedVariables false
/-- A party. -/
structure Pt where
  id : Int
  cabin : Int
  from_ : Int
  size : Int
  tier : Int
  since : Int
  turn : Int
  state : Int
  until_ : Int
  asked : Int
def ptC (x : Pt) : List Value := [.int .i64 x.id, .int .i64 x.cabin, .int .i64 x.from_, .int .i64 x.size, .int .i64 x.tier, .int .i64 x.since, .int .i64 x.turn, .int .i64 x.state, .int .i64 x.until_, .int .i64 x.asked]
def ptA (x : Pt) : Value := .agg #[.int .i64 x.id, .int .i64 x.cabin, .int .i64 x.from_, .int .i64 x.size, .int .i64 x.tier, .int .i64 x.since, .int .i64 x.turn, .int .i64 x.state, .int .i64 x.until_, .int .i64 x.asked]
def pt0 : Pt := ⟨0, 0, 0, 0, 0, 0, 0, 0, 0, 0⟩
theorem ptC_len (x : Pt) : (ptC x).length = 10 := rfl
theorem ptC_one (l : List Pt) : ∀ u ∈ l.flatMap ptC, u.oneCell' = true := by
  intro u hu
  obtain ⟨x, _, hx⟩ := List.mem_flatMap.1 hu
  simp [ptC] at hx
  rcases hx with rfl | rfl | rfl | rfl | rfl | rfl | rfl | rfl | rfl | rfl <;> rfl
/-- The cells of x lie there. -/
def Pt.here (w : World) (b off : Nat) (x : Pt) : Prop := w.cell? ⟨b, off, none⟩ = some (.int .i64 x.id) ∧ w.cell? ⟨b, off + 1, none⟩ = some (.int .i64 x.cabin) ∧ w.cell? ⟨b, off + 2, none⟩ = some (.int .i64 x.from_) ∧ w.cell? ⟨b, off + 3, none⟩ = some (.int .i64 x.size) ∧ w.cell? ⟨b, off + 4, none⟩ = some (.int .i64 x.tier) ∧ w.cell? ⟨b, off + 5, none⟩ = some (.int .i64 x.since) ∧ w.cell? ⟨b, off + 6, none⟩ = some (.int .i64 x.turn) ∧ w.cell? ⟨b, off + 7, none⟩ = some (.int .i64 x.state) ∧ w.cell? ⟨b, off + 8, none⟩ = some (.int .i64 x.until_) ∧ w.cell? ⟨b, off + 9, none⟩ = some (.int .i64 x.asked)
theorem Rws.pt {w : World} {B : Nat} {A : Option Addr} {l : List Pt} (h : Rws w B A (l.flatMap ptC)) {i : Nat} (hi : i < l.length) :
    ∃ b off, A = some ⟨b, off, none⟩ ∧ b < B ∧ Pt.here w b (off + i * 10) (l.getD i pt0) := by
  obtain ⟨b, off, e, hb, hc⟩ := Rws.el ptC_len h (by omega) pt0 hi
  exact ⟨b, off, e, hb, hc 0 (by omega), hc 1 (by omega), hc 2 (by omega), hc 3 (by omega), hc 4 (by omega), hc 5 (by omega), hc 6 (by omega), hc 7 (by omega), hc 8 (by omega), hc 9 (by omega)⟩
theorem Pt.here.below {w w' : World} {b off : Nat} {x : Pt} (h : Pt.here w b off x) (hb : Below w.heap.size w w') (hl : b < w.heap.size) : Pt.here w' b off x := by
  obtain ⟨h0, h1, h2, h3, h4, h5, h6, h7, h8, h9⟩ := h
  exact ⟨(hb.cell (by exact hl)).trans h0, (hb.cell (by exact hl)).trans h1, (hb.cell (by exact hl)).trans h2, (hb.cell (by exact hl)).trans h3, (hb.cell (by exact hl)).trans h4, (hb.cell (by exact hl)).trans h5, (hb.cell (by exact hl)).trans h6, (hb.cell (by exact hl)).trans h7, (hb.cell (by exact hl)).trans h8, (hb.cell (by exact hl)).trans h9⟩
theorem Pt.here.box {w : World} (x : Pt) (t : TypeId) : Pt.here (w.alloc (.cells #[.int .i64 x.id, .int .i64 x.cabin, .int .i64 x.from_, .int .i64 x.size, .int .i64 x.tier, .int .i64 x.since, .int .i64 x.turn, .int .i64 x.state, .int .i64 x.until_, .int .i64 x.asked] t)) w.heap.size 0 x := by
  refine ⟨?_, ?_, ?_, ?_, ?_, ?_, ?_, ?_, ?_, ?_⟩ <;> rw [World.cell?_alloc_at _ _ _ _ rfl] <;> rfl
theorem Pt.here.blk {w : World} {b : Nat} {x : Pt} {t : TypeId} (h : w.heap[b]? = some (.cells #[.int .i64 x.id, .int .i64 x.cabin, .int .i64 x.from_, .int .i64 x.size, .int .i64 x.tier, .int .i64 x.since, .int .i64 x.turn, .int .i64 x.state, .int .i64 x.until_, .int .i64 x.asked] t)) : Pt.here w b 0 x := by
  have c0 := cell_of_row _ _ 0 _ _ _ h
  have c1 := cell_of_row _ _ 1 _ _ _ h
  have c2 := cell_of_row _ _ 2 _ _ _ h
  have c3 := cell_of_row _ _ 3 _ _ _ h
  have c4 := cell_of_row _ _ 4 _ _ _ h
  have c5 := cell_of_row _ _ 5 _ _ _ h
  have c6 := cell_of_row _ _ 6 _ _ _ h
  have c7 := cell_of_row _ _ 7 _ _ _ h
  have c8 := cell_of_row _ _ 8 _ _ _ h
  have c9 := cell_of_row _ _ 9 _ _ _ h
  simp at c0 c1 c2 c3 c4 c5 c6 c7 c8 c9
  exact ⟨c0, c1, c2, c3, c4, c5, c6, c7, c8, c9⟩
set_option maxRecDepth 100000 in
theorem exec_load_pt {ρ : Operand → Value} {o : Oper} {x : Operand} (b off : Nat) (p : Pt) (w : World) (h : Pt.here w b off p) (ho : o.op = .load 26 x := by rfl) (hx : ρ x = .pointer (some ⟨b, off, none⟩) := by rfl) :
    (execOp ρ o).run Tryz.prog w = .ok (.value (ptA p)) w := by
  obtain ⟨h0, h1, h2, h3, h4, h5, h6, h7, h8, h9⟩ := h
  unfold execOp
  rw [ho]
  simp [go_sem, hx, h0, h1, h2, h3, h4, h5, h6, h7, h8, h9, ptA]
set_option maxRecDepth 100000 in
theorem exec_idx_pt {ρ : Operand → Value} {o : Oper} {x y : Operand} (b off n c k : Nat) (w : World) (h : k < n) (ho : o.op = .indexAddr 24 x y := by rfl) (hx : ρ x = .slice (some ⟨b, off, none⟩) n c := by rfl) (hy : ρ y = .int .i64 (k : Int) := by rfl) :
    (execOp ρ o).run Tryz.prog w = .ok (.value (.pointer (some ⟨b, off + k * 10, none⟩))) w := by
  have h1 : (k : Int) < (n : Int) := by omega
  unfold execOp
  rw [ho]
  simp [go_sem, hx, hy, h]
/-- An entry of a waiting list. -/
structure En where
  lev : Int
  turn : Int
  id : Int
  size : Int
def enC (x : En) : List Value := [.int .i64 x.lev, .int .i64 x.turn, .int .i64 x.id, .int .i64 x.size]
def enA (x : En) : Value := .agg #[.int .i64 x.lev, .int .i64 x.turn, .int .i64 x.id, .int .i64 x.size]
def en0 : En := ⟨0, 0, 0, 0⟩
theorem enC_len (x : En) : (enC x).length = 4 := rfl
theorem enC_one (l : List En) : ∀ u ∈ l.flatMap enC, u.oneCell' = true := by
  intro u hu
  obtain ⟨x, _, hx⟩ := List.mem_flatMap.1 hu
  simp [enC] at hx
  rcases hx with rfl | rfl | rfl | rfl <;> rfl
/-- The cells of x lie there. -/
def En.here (w : World) (b off : Nat) (x : En) : Prop := w.cell? ⟨b, off, none⟩ = some (.int .i64 x.lev) ∧ w.cell? ⟨b, off + 1, none⟩ = some (.int .i64 x.turn) ∧ w.cell? ⟨b, off + 2, none⟩ = some (.int .i64 x.id) ∧ w.cell? ⟨b, off + 3, none⟩ = some (.int .i64 x.size)
theorem Rws.en {w : World} {B : Nat} {A : Option Addr} {l : List En} (h : Rws w B A (l.flatMap enC)) {i : Nat} (hi : i < l.length) :
    ∃ b off, A = some ⟨b, off, none⟩ ∧ b < B ∧ En.here w b (off + i * 4) (l.getD i en0) := by
  obtain ⟨b, off, e, hb, hc⟩ := Rws.el enC_len h (by omega) en0 hi
  exact ⟨b, off, e, hb, hc 0 (by omega), hc 1 (by omega), hc 2 (by omega), hc 3 (by omega)⟩
theorem En.here.below {w w' : World} {b off : Nat} {x : En} (h : En.here w b off x) (hb : Below w.heap.size w w') (hl : b < w.heap.size) : En.here w' b off x := by
  obtain ⟨h0, h1, h2, h3⟩ := h
  exact ⟨(hb.cell (by exact hl)).trans h0, (hb.cell (by exact hl)).trans h1, (hb.cell (by exact hl)).trans h2, (hb.cell (by exact hl)).trans h3⟩
theorem En.here.box {w : World} (x : En) (t : TypeId) : En.here (w.alloc (.cells #[.int .i64 x.lev, .int .i64 x.turn, .int .i64 x.id, .int .i64 x.size] t)) w.heap.size 0 x := by
  refine ⟨?_, ?_, ?_, ?_⟩ <;> rw [World.cell?_alloc_at _ _ _ _ rfl] <;> rfl
theorem En.here.blk {w : World} {b : Nat} {x : En} {t : TypeId} (h : w.heap[b]? = some (.cells #[.int .i64 x.lev, .int .i64 x.turn, .int .i64 x.id, .int .i64 x.size] t)) : En.here w b 0 x := by
  have c0 := cell_of_row _ _ 0 _ _ _ h
  have c1 := cell_of_row _ _ 1 _ _ _ h
  have c2 := cell_of_row _ _ 2 _ _ _ h
  have c3 := cell_of_row _ _ 3 _ _ _ h
  simp at c0 c1 c2 c3
  exact ⟨c0, c1, c2, c3⟩
set_option maxRecDepth 100000 in
theorem exec_load_en {ρ : Operand → Value} {o : Oper} {x : Operand} (b off : Nat) (p : En) (w : World) (h : En.here w b off p) (ho : o.op = .load 100 x := by rfl) (hx : ρ x = .pointer (some ⟨b, off, none⟩) := by rfl) :
    (execOp ρ o).run Tryz.prog w = .ok (.value (enA p)) w := by
  obtain ⟨h0, h1, h2, h3⟩ := h
  unfold execOp
  rw [ho]
  simp [go_sem, hx, h0, h1, h2, h3, enA]
set_option maxRecDepth 100000 in
theorem exec_idx_en {ρ : Operand → Value} {o : Oper} {x y : Operand} (b off n c k : Nat) (w : World) (h : k < n) (ho : o.op = .indexAddr 54 x y := by rfl) (hx : ρ x = .slice (some ⟨b, off, none⟩) n c := by rfl) (hy : ρ y = .int .i64 (k : Int) := by rfl) :
    (execOp ρ o).run Tryz.prog w = .ok (.value (.pointer (some ⟨b, off + k * 4, none⟩))) w := by
  have h1 : (k : Int) < (n : Int) := by omega
  unfold execOp
  rw [ho]
  simp [go_sem, hx, hy, h]
/-- A pin of a wheel. -/
structure Pn where
  at_ : Int
  id : Int
def pnC (x : Pn) : List Value := [.int .i64 x.at_, .int .i64 x.id]
def pnA (x : Pn) : Value := .agg #[.int .i64 x.at_, .int .i64 x.id]
def pn0 : Pn := ⟨0, 0⟩
theorem pnC_len (x : Pn) : (pnC x).length = 2 := rfl
theorem pnC_one (l : List Pn) : ∀ u ∈ l.flatMap pnC, u.oneCell' = true := by
  intro u hu
  obtain ⟨x, _, hx⟩ := List.mem_flatMap.1 hu
  simp [pnC] at hx
  rcases hx with rfl | rfl <;> rfl
/-- The cells of x lie there. -/
def Pn.here (w : World) (b off : Nat) (x : Pn) : Prop := w.cell? ⟨b, off, none⟩ = some (.int .i64 x.at_) ∧ w.cell? ⟨b, off + 1, none⟩ = some (.int .i64 x.id)
theorem Rws.pn {w : World} {B : Nat} {A : Option Addr} {l : List Pn} (h : Rws w B A (l.flatMap pnC)) {i : Nat} (hi : i < l.length) :
    ∃ b off, A = some ⟨b, off, none⟩ ∧ b < B ∧ Pn.here w b (off + i * 2) (l.getD i pn0) := by
  obtain ⟨b, off, e, hb, hc⟩ := Rws.el pnC_len h (by omega) pn0 hi
  exact ⟨b, off, e, hb, hc 0 (by omega), hc 1 (by omega)⟩
theorem Pn.here.below {w w' : World} {b off : Nat} {x : Pn} (h : Pn.here w b off x) (hb : Below w.heap.size w w') (hl : b < w.heap.size) : Pn.here w' b off x := by
  obtain ⟨h0, h1⟩ := h
  exact ⟨(hb.cell (by exact hl)).trans h0, (hb.cell (by exact hl)).trans h1⟩
theorem Pn.here.box {w : World} (x : Pn) (t : TypeId) : Pn.here (w.alloc (.cells #[.int .i64 x.at_, .int .i64 x.id] t)) w.heap.size 0 x := by
  refine ⟨?_, ?_⟩ <;> rw [World.cell?_alloc_at _ _ _ _ rfl] <;> rfl
theorem Pn.here.blk {w : World} {b : Nat} {x : Pn} {t : TypeId} (h : w.heap[b]? = some (.cells #[.int .i64 x.at_, .int .i64 x.id] t)) : Pn.here w b 0 x := by
  have c0 := cell_of_row _ _ 0 _ _ _ h
  have c1 := cell_of_row _ _ 1 _ _ _ h
  simp at c0 c1
  exact ⟨c0, c1⟩
set_option maxRecDepth 100000 in
theorem exec_load_pn {ρ : Operand → Value} {o : Oper} {x : Operand} (b off : Nat) (p : Pn) (w : World) (h : Pn.here w b off p) (ho : o.op = .load 95 x := by rfl) (hx : ρ x = .pointer (some ⟨b, off, none⟩) := by rfl) :
    (execOp ρ o).run Tryz.prog w = .ok (.value (pnA p)) w := by
  obtain ⟨h0, h1⟩ := h
  unfold execOp
  rw [ho]
  simp [go_sem, hx, h0, h1, pnA]
set_option maxRecDepth 100000 in
theorem exec_idx_pn {ρ : Operand → Value} {o : Oper} {x y : Operand} (b off n c k : Nat) (w : World) (h : k < n) (ho : o.op = .indexAddr 90 x y := by rfl) (hx : ρ x = .slice (some ⟨b, off, none⟩) n c := by rfl) (hy : ρ y = .int .i64 (k : Int) := by rfl) :
    (execOp ρ o).run Tryz.prog w = .ok (.value (.pointer (some ⟨b, off + k * 2, none⟩))) w := by
  have h1 : (k : Int) < (n : Int) := by omega
  unfold execOp
  rw [ho]
  simp [go_sem, hx, hy, h]
/-- A ledger. -/
structure Le where
  total : Int
  free : Int
  held : Int
  sold : Int
  tied : Int
def leC (x : Le) : List Value := [.int .i64 x.total, .int .i64 x.free, .int .i64 x.held, .int .i64 x.sold, .int .i64 x.tied]
def leA (x : Le) : Value := .agg #[.int .i64 x.total, .int .i64 x.free, .int .i64 x.held, .int .i64 x.sold, .int .i64 x.tied]
def le0 : Le := ⟨0, 0, 0, 0, 0⟩
theorem leC_len (x : Le) : (leC x).length = 5 := rfl
theorem leC_one (l : List Le) : ∀ u ∈ l.flatMap leC, u.oneCell' = true := by
  intro u hu
  obtain ⟨x, _, hx⟩ := List.mem_flatMap.1 hu
  simp [leC] at hx
  rcases hx with rfl | rfl | rfl | rfl | rfl <;> rfl
/-- The cells of x lie there. -/
def Le.here (w : World) (b off : Nat) (x : Le) : Prop := w.cell? ⟨b, off, none⟩ = some (.int .i64 x.total) ∧ w.cell? ⟨b, off + 1, none⟩ = some (.int .i64 x.free) ∧ w.cell? ⟨b, off + 2, none⟩ = some (.int .i64 x.held) ∧ w.cell? ⟨b, off + 3, none⟩ = some (.int .i64 x.sold) ∧ w.cell? ⟨b, off + 4, none⟩ = some (.int .i64 x.tied)
theorem Rws.le {w : World} {B : Nat} {A : Option Addr} {l : List Le} (h : Rws w B A (l.flatMap leC)) {i : Nat} (hi : i < l.length) :
    ∃ b off, A = some ⟨b, off, none⟩ ∧ b < B ∧ Le.here w b (off + i * 5) (l.getD i le0) := by
  obtain ⟨b, off, e, hb, hc⟩ := Rws.el leC_len h (by omega) le0 hi
  exact ⟨b, off, e, hb, hc 0 (by omega), hc 1 (by omega), hc 2 (by omega), hc 3 (by omega), hc 4 (by omega)⟩
theorem Le.here.below {w w' : World} {b off : Nat} {x : Le} (h : Le.here w b off x) (hb : Below w.heap.size w w') (hl : b < w.heap.size) : Le.here w' b off x := by
  obtain ⟨h0, h1, h2, h3, h4⟩ := h
  exact ⟨(hb.cell (by exact hl)).trans h0, (hb.cell (by exact hl)).trans h1, (hb.cell (by exact hl)).trans h2, (hb.cell (by exact hl)).trans h3, (hb.cell (by exact hl)).trans h4⟩
theorem Le.here.box {w : World} (x : Le) (t : TypeId) : Le.here (w.alloc (.cells #[.int .i64 x.total, .int .i64 x.free, .int .i64 x.held, .int .i64 x.sold, .int .i64 x.tied] t)) w.heap.size 0 x := by
  refine ⟨?_, ?_, ?_, ?_, ?_⟩ <;> rw [World.cell?_alloc_at _ _ _ _ rfl] <;> rfl
theorem Le.here.blk {w : World} {b : Nat} {x : Le} {t : TypeId} (h : w.heap[b]? = some (.cells #[.int .i64 x.total, .int .i64 x.free, .int .i64 x.held, .int .i64 x.sold, .int .i64 x.tied] t)) : Le.here w b 0 x := by
  have c0 := cell_of_row _ _ 0 _ _ _ h
  have c1 := cell_of_row _ _ 1 _ _ _ h
  have c2 := cell_of_row _ _ 2 _ _ _ h
  have c3 := cell_of_row _ _ 3 _ _ _ h
  have c4 := cell_of_row _ _ 4 _ _ _ h
  simp at c0 c1 c2 c3 c4
  exact ⟨c0, c1, c2, c3, c4⟩
/-- A request. -/
structure Rq where
  kind : Int
  id : Int
  cabin : Int
  from_ : Int
  size : Int
  tier : Int
def rqC (x : Rq) : List Value := [.int .i64 x.kind, .int .i64 x.id, .int .i64 x.cabin, .int .i64 x.from_, .int .i64 x.size, .int .i64 x.tier]
def rqA (x : Rq) : Value := .agg #[.int .i64 x.kind, .int .i64 x.id, .int .i64 x.cabin, .int .i64 x.from_, .int .i64 x.size, .int .i64 x.tier]
def rq0 : Rq := ⟨0, 0, 0, 0, 0, 0⟩
theorem rqC_len (x : Rq) : (rqC x).length = 6 := rfl
theorem rqC_one (l : List Rq) : ∀ u ∈ l.flatMap rqC, u.oneCell' = true := by
  intro u hu
  obtain ⟨x, _, hx⟩ := List.mem_flatMap.1 hu
  simp [rqC] at hx
  rcases hx with rfl | rfl | rfl | rfl | rfl | rfl <;> rfl
/-- The cells of x lie there. -/
def Rq.here (w : World) (b off : Nat) (x : Rq) : Prop := w.cell? ⟨b, off, none⟩ = some (.int .i64 x.kind) ∧ w.cell? ⟨b, off + 1, none⟩ = some (.int .i64 x.id) ∧ w.cell? ⟨b, off + 2, none⟩ = some (.int .i64 x.cabin) ∧ w.cell? ⟨b, off + 3, none⟩ = some (.int .i64 x.from_) ∧ w.cell? ⟨b, off + 4, none⟩ = some (.int .i64 x.size) ∧ w.cell? ⟨b, off + 5, none⟩ = some (.int .i64 x.tier)
theorem Rws.rq {w : World} {B : Nat} {A : Option Addr} {l : List Rq} (h : Rws w B A (l.flatMap rqC)) {i : Nat} (hi : i < l.length) :
    ∃ b off, A = some ⟨b, off, none⟩ ∧ b < B ∧ Rq.here w b (off + i * 6) (l.getD i rq0) := by
  obtain ⟨b, off, e, hb, hc⟩ := Rws.el rqC_len h (by omega) rq0 hi
  exact ⟨b, off, e, hb, hc 0 (by omega), hc 1 (by omega), hc 2 (by omega), hc 3 (by omega), hc 4 (by omega), hc 5 (by omega)⟩
theorem Rq.here.below {w w' : World} {b off : Nat} {x : Rq} (h : Rq.here w b off x) (hb : Below w.heap.size w w') (hl : b < w.heap.size) : Rq.here w' b off x := by
  obtain ⟨h0, h1, h2, h3, h4, h5⟩ := h
  exact ⟨(hb.cell (by exact hl)).trans h0, (hb.cell (by exact hl)).trans h1, (hb.cell (by exact hl)).trans h2, (hb.cell (by exact hl)).trans h3, (hb.cell (by exact hl)).trans h4, (hb.cell (by exact hl)).trans h5⟩
theorem Rq.here.box {w : World} (x : Rq) (t : TypeId) : Rq.here (w.alloc (.cells #[.int .i64 x.kind, .int .i64 x.id, .int .i64 x.cabin, .int .i64 x.from_, .int .i64 x.size, .int .i64 x.tier] t)) w.heap.size 0 x := by
  refine ⟨?_, ?_, ?_, ?_, ?_, ?_⟩ <;> rw [World.cell?_alloc_at _ _ _ _ rfl] <;> rfl
theorem Rq.here.blk {w : World} {b : Nat} {x : Rq} {t : TypeId} (h : w.heap[b]? = some (.cells #[.int .i64 x.kind, .int .i64 x.id, .int .i64 x.cabin, .int .i64 x.from_, .int .i64 x.size, .int .i64 x.tier] t)) : Rq.here w b 0 x := by
  have c0 := cell_of_row _ _ 0 _ _ _ h
  have c1 := cell_of_row _ _ 1 _ _ _ h
  have c2 := cell_of_row _ _ 2 _ _ _ h
  have c3 := cell_of_row _ _ 3 _ _ _ h
  have c4 := cell_of_row _ _ 4 _ _ _ h
  have c5 := cell_of_row _ _ 5 _ _ _ h
  simp at c0 c1 c2 c3 c4 c5
  exact ⟨c0, c1, c2, c3, c4, c5⟩
end Go.Proofs.YtlflgflmlfileaaGreat
