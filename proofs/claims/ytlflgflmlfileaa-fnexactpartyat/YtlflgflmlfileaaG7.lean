/- Texts laid together: Hs2, Bent. -/
import Derived.Test.YtlflgflmlfileaaRows
import Derived.Test.YtlflgflmlfileaaG6
import Derived.Test.YtlflgflmlfileaaG5
namespace Go.Proofs.Ytlflgflmlfileaa
open Go.RowKit
set_option linter.unusedSimpArgs false
set_option linter.unusedVariables false
def GotRules (w : World) (g : Nat) (A : Option Addr) (l : List Nat) (c : Nat) (e : Ending) (w' : World) : Prop :=
  ∃ (r : Ru) (B : Option Addr) (cb : Nat), RuOk r ∧ e = .returned (ruV B cb r) ∧ w'.ownsRow w.heap.size 3 1 (.slice B r.seats.length cb) r.seats.length (ints r.seats) ∧ Cur w' g A l c ∧ w.grownBy w' (some g)
theorem heap_set_ne (w : World) (b off : Nat) (v : Value) {k : Nat} (h : k ≠ b) : (w.setCell ⟨b, off, none⟩ v).heap[k]? = w.heap[k]? := by
  unfold World.setCell
  simp
  rw [Array.getElem?_modify, if_neg (Ne.symm h)]
theorem grown_setCell (w : World) (b off : Nat) (v : Value) : w.grownBy (w.setCell ⟨b, off, none⟩ v) (some b) :=
  ⟨rfl, rfl, rfl, by simp [World.setCell], fun k _ hk => heap_set_ne w b off v (fun e => hk (by rw [e]))⟩
theorem grown_setD {a w : World} {g : Nat} (h : a.grownBy w (some g)) (b off : Nat) (v : Value) (hb : a.heap.size ≤ b) : a.grownBy (w.setCell ⟨b, off, none⟩ v) (some g) :=
  grown_step h (grown_setCell w b off v) (fun j hj => by injection hj with hj; omega)
theorem Cur.setCell {w : World} {g : Nat} {A : Option Addr} {l : List Nat} {c : Nat} (h : Cur w g A l c) (b off : Nat) (v : Value) (hb : g < b) : Cur (w.setCell ⟨b, off, none⟩ v) g A l c :=
  h.grown (grown_setCell w b off v) (fun k hk => by injection hk with hk; omega)
set_option maxRecDepth 100000 in
theorem exec_fld0 {ρ : Operand → Value} {o : Oper} {x : Operand} (b : Nat) (w : World) (ho : o.op = .fieldAddr 41 x 0 := by rfl) (hx : ρ x = .pointer (some ⟨b, 0, none⟩) := by rfl) :
    (execOp ρ o).run Try.prog w = .ok (.value (.pointer (some ⟨b, 0, none⟩))) w := by
  unfold execOp
  rw [ho]
  simp [go_sem, hx]
set_option maxRecDepth 100000 in
theorem exec_loadSl {ρ : Operand → Value} {o : Oper} {x : Operand} (t : TypeId) (b off : Nat) (B : Option Addr) (n c : Nat) (w : World) (ht : t = 32) (h : w.cell? ⟨b, off, none⟩ = some (.slice B n c)) (ho : o.op = .load t x := by rfl) (hx : ρ x = .pointer (some ⟨b, off, none⟩) := by rfl) :
    (execOp ρ o).run Try.prog w = .ok (.value (.slice B n c)) w := by
  subst ht
  unfold execOp
  rw [ho]
  simp [go_sem, hx, h]
set_option maxRecDepth 100000 in
theorem exec_storeSl {ρ : Operand → Value} {o : Oper} {x y : Operand} (t : TypeId) (b off : Nat) (B : Option Addr) (n c : Nat) (u : Value) (w : World) (ht : t = 32) (h : w.cell? ⟨b, off, none⟩ = some u) (hz : w.frozen? ⟨b, off, none⟩ = false) (ho : o.op = .store t x y := by rfl) (hx : ρ x = .pointer (some ⟨b, off, none⟩) := by rfl) (hy : ρ y = .slice B n c := by rfl) :
    (execOp ρ o).run Try.prog w = .ok .skip (w.setCell ⟨b, off, none⟩ (.slice B n c)) := by
  subst ht
  unfold execOp
  rw [ho]
  simp [go_sem, hx, hy, h, hz]
set_option maxRecDepth 100000 in
theorem exec_one {ρ : Operand → Value} {o : Oper} {x : Operand} (z : Int) (w : World) (ho : o.op = .buildSlice 32 1 #[(0, x)] := by rfl) (hx : ρ x = .int .i64 z := by rfl) :
    (execOp ρ o).run Try.prog w = .ok (.value (.slice (some ⟨w.heap.size, 0, none⟩) 1 1)) (w.alloc (.cells #[.int .i64 z] 3)) := by
  unfold execOp
  rw [ho]
  simp [go_sem, hx]
/-- The draw hands out rules, right or wrong. -/
def GotRu (w : World) (g : Nat) (A : Option Addr) (l : List Nat) (c : Nat) (e : Ending) (w' : World) : Prop :=
  ∃ (r : Ru) (B : Option Addr) (cb : Nat), (r.go ∧ r.seats.length ≤ 5) ∧ e = .returned (ruV B cb r) ∧ w'.ownsRow w.heap.size 3 1 (.slice B r.seats.length cb) r.seats.length (ints r.seats) ∧ Cur w' g A l c ∧ w.grownBy w' (some g)
theorem RuOk.go {r : Ru} (h : RuOk r) : r.go ∧ r.seats.length ≤ 4 := by
  obtain ⟨n1, n2, seat, t, ro, s, p, wi, re, tr, cr⟩ := h
  refine ⟨⟨?_, ?_, ?_, ?_, ?_, ?_, ?_, ?_, ?_, by omega⟩, n2⟩
  · intro z hz
    obtain ⟨j, hj, rfl⟩ := List.mem_iff_getElem.1 hz
    have := seat j hj
    rw [List.getD_eq_getElem?_getD, List.getElem?_eq_getElem hj] at this
    unfold inI; simp at this; omega
  all_goals (unfold inI; omega)
theorem own_cut {w : World} {base n m : Nat} {A : Option Addr} {c : Nat} {cs : List Value} (h : w.ownsRow base 3 1 (.slice A n c) n cs) (hm : m ≤ n) (hA : A ≠ none) : w.ownsRow base 3 1 (.slice A m c) m (cs.take m) := by
  refine ⟨by rw [List.length_take, h.1]; omega, ?_⟩
  rcases h.2 with ⟨h2, _⟩ | ⟨g, cap, cur, hv, hb, hg, hnc, hmx, hs, ht⟩
  · injection h2 with h2 _ _; exact absurd h2 hA
  · injection hv with h1 h2 h3
    subst h3
    refine .inr ⟨g, c, cur, by rw [h1], hb, hg, by omega, hmx, hs, ?_⟩
    rw [← ht, List.take_take]
    congr 1; omega
/-- What stands ahead of the last statement. -/
theorem got_bent {w w5 : World} {g : Nat} {A : Option Addr} {l : List Nat} {c : Nat} {B : Option Addr} {cb : Nat} {r : Ru} (hg : r.go) (hs : r.seats.length ≤ 5) (ho : w5.ownsRow (w.heap.size + 1) 3 1 (.slice B r.seats.length cb) r.seats.length (ints r.seats)) (hc : Cur w5 g A l c) (gr : w.grownBy w5 (some g)) (hlt : g < w.heap.size) :
    GotRu w g A l c (.returned (ruV B cb r)) (put9 w5 w.heap.size B cb r) := by
  have hlo := own_low ho
  have hg9 : w5.grownBy (put9 w5 w.heap.size B cb r) (some w.heap.size) := by
    unfold put9
    exact (((((((((grown_setCell _ _ _ _).trans (grown_setCell _ _ _ _)).trans (grown_setCell _ _ _ _)).trans (grown_setCell _ _ _ _)).trans (grown_setCell _ _ _ _)).trans (grown_setCell _ _ _ _)).trans (grown_setCell _ _ _ _)).trans (grown_setCell _ _ _ _)).trans (grown_setCell _ _ _ _))
  exact ⟨r, B, cb, ⟨hg, hs⟩, rfl, put9_own (own_weak ho (by omega)) (fun h => by have := hlo _ h; omega), hc.grown hg9 (fun k hk => by injection hk with hk; omega), grown_step gr hg9 (fun k hk => by injection hk with hk; omega)⟩
end Go.Proofs.Ytlflgflmlfileaa
