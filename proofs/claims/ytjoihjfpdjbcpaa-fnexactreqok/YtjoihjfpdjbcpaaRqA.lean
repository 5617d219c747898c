/- Small words for requests. -/
import Derived.Test.YtjoihjfpdjbcpaaRows
import Derived.WalkKit
import Derived.WalkSpells
import Derived.WalkLawsBesides
import Derived.Outline
import Derived.Lib.Hide
import Derived.IntWalk
import Derived.BigQuiet
import Derived.Deep.QuietTactic
import Derived.Deep.Draws
import Derived.RegionTactic
import Derived.Deep.RegionWith
import Derived.Deep.RegionHeld3
import Derived.StillTailTactics
namespace Go.Proofs.Ytjoihjfpdjbcpaa
open Go.RowKit
set_option linter.unusedSimpArgs false
set_option linter.unusedVariables false
set_option maxRecDepth 100000 in
theorem l1In_any (x a b : Int) (w : World) : Calls Try.prog 8 #[.int .i64 x, .int .i64 a, .int .i64 b] w fun e w' => e = .returned (.bool (decide (a ≤ x ∧ x ≤ b))) ∧ w = w' := by
  by_cases h1 : a ≤ x <;> by_cases h2 : x ≤ b
  all_goals
    go_enter Try.func8, Try.ntmps8
    go_wp2
    go_ret
    exact ⟨by simp [h1, h2], rfl⟩
set_option maxRecDepth 100000 in
theorem l1In_yes (x a b : Int) (w : World) (h : a ≤ x ∧ x ≤ b) : Calls Try.prog 8 #[.int .i64 x, .int .i64 a, .int .i64 b] w fun e w' => e = .returned (.bool true) ∧ w = w' :=
  (l1In_any x a b w).mono fun e w' ⟨he, hw⟩ => ⟨by rw [he]; simp [h], hw⟩
set_option maxRecDepth 100000 in
theorem l1In_no (x a b : Int) (w : World) (h : ¬ (a ≤ x ∧ x ≤ b)) : Calls Try.prog 8 #[.int .i64 x, .int .i64 a, .int .i64 b] w fun e w' => e = .returned (.bool false) ∧ w = w' :=
  (l1In_any x a b w).mono fun e w' ⟨he, hw⟩ => ⟨by rw [he]; simp only [h, decide_false], hw⟩
set_option maxRecDepth 100000 in
theorem within_any (x a b : Int) (w : World) : Calls Try.prog 11 #[.int .i64 x, .int .i64 a, .int .i64 b] w fun e w' => e = .returned (.bool (decide (a ≤ x ∧ x ≤ b))) ∧ w = w' := by
  by_cases h1 : a ≤ x <;> by_cases h2 : x ≤ b
  all_goals
    go_enter Try.func11, Try.ntmps11
    go_wp2
    go_ret
    exact ⟨by simp [h1, h2], rfl⟩
set_option maxRecDepth 100000 in
theorem within_yes (x a b : Int) (w : World) (h : a ≤ x ∧ x ≤ b) : Calls Try.prog 11 #[.int .i64 x, .int .i64 a, .int .i64 b] w fun e w' => e = .returned (.bool true) ∧ w = w' :=
  (within_any x a b w).mono fun e w' ⟨he, hw⟩ => ⟨by rw [he]; simp [h], hw⟩
set_option maxRecDepth 100000 in
theorem within_no (x a b : Int) (w : World) (h : ¬ (a ≤ x ∧ x ≤ b)) : Calls Try.prog 11 #[.int .i64 x, .int .i64 a, .int .i64 b] w fun e w' => e = .returned (.bool false) ∧ w = w' :=
  (within_any x a b w).mono fun e w' ⟨he, hw⟩ => ⟨by rw [he]; simp only [h, decide_false], hw⟩
theorem below_drawn {B : Nat} {a w : World} (h : Below B a w) (n : Nat) : Below B a (w.drewN n) := ⟨h.os, h.tape, h.output, h.size, h.block⟩
/-- A call of a Go function is entered. -/
theorem exec_call {P : Program} {a : Act} {o : Oper} {f : FuncId} {xs : Array Operand} {ats : Array TypeId} {args : Array Value} {fn : Func} (hf : P.funcs[f]? = some fn) (hn : (fn.name == "runtime.NumGoroutine") = false) (hb : fn.body.isNone = false) (w : World)
    (ho : o.op = .call { callee := .value (.func f), args := xs, argTypes := ats } := by rfl) (ha : xs.map a.eval = args := by (simp only [List.map_toArray, List.map_cons, List.map_nil]; rfl)) : (execOp a.eval o).run P w = .ok (.enter f args) w := by
  subst ha
  have h1 : fn.name ≠ "runtime.NumGoroutine" := by simpa using hn
  have ef : a.eval (.func f) = .func (.func f) #[] #[] := rfl
  unfold execOp
  obtain ⟨c, hc⟩ : ∃ c, fn.body = some c := by
    cases h : fn.body with
    | none => rw [h] at hb; cases hb
    | some c => exact ⟨c, rfl⟩
  simp [ho, resolve, Deferred.ofValue, invoke, ef, callFunc, hf, h1, hc]
/-- An operation that yields v in every world of the class is taken first. -/
theorem held_take {P : Program} {md : Region.Mode} {ops : Array Oper} {Q : Exit → Act → World → Prop} {S : World → Prop} {fuel : Nat} {listed : Array Bool} {a : Act} {w : World} (i d : Nat) (v : Value) {oi : Oper}
    (hi : ops[i]? = some oi) (hd : oi.dst = some d) (hs : Region.noSelect ops = true) (hf : Region.free md ops listed i = true) (hr : (Region.ready md ops listed).contains i = true)
    (hQ : ∀ c a w, Q (.panic c) (a.put (some d) v) w → Q (.panic c) a w) (hw : Region.wanted oi (yielded ops a.tmps) = true) (hS : S w) (hy : ∀ w, S w → (execOp a.eval oi).run P w = .ok (.value v) w)
    (h : wpAnyH P md ops Q S fuel (listed.setIfInBounds i true) (a.put (some d) v) w) : wpAnyH P md ops Q S (fuel + 1) listed a w :=
  wpAnyH_take hi hs hf hr (by rw [hd]; exact hQ) (.inl ⟨hw, hy⟩) hS (by rw [hd]; exact h)
/-- The one operation that may come up is a call. -/
theorem held_call {P : Program} {md : Region.Mode} {ops : Array Oper} {Q : Exit → Act → World → Prop} {S : World → Prop} {fuel : Nat} {listed : Array Bool} {a : Act} {w : World} (i d : Nat) (f : FuncId) (args : Array Value) {oi : Oper}
    (hi : ops[i]? = some oi) (hd : oi.dst = some d) (hr : Region.ready md ops listed = [i]) (hw : Region.wanted oi (yielded ops a.tmps) = true)
    (he : (execOp a.eval oi).run P w = .ok (.enter f args) w)
    (h : Calls P f args w fun e w' => ∃ v, e = .returned v ∧ S w' ∧ wpAnyH P md ops Q S fuel (listed.setIfInBounds i true) (a.put (some d) v) w') : wpAnyH P md ops Q S (fuel + 1) listed a w := by
  refine wpAnyH_ready hr (by simp) (AllReadyH.cons hi (fun K hK => ?_) AllReadyH.nil)
  rw [if_pos hw]
  unfold Oper.wp
  rw [he, Oper.upon_enter]
  refine h.mono ?_
  rintro e w' ⟨v, rfl, hS, hh⟩
  rw [hd]
  exact hK.out _ _ hS (fun _ => hh)
/-- The one operation that may come up yields v. -/
theorem held_op {P : Program} {md : Region.Mode} {ops : Array Oper} {Q : Exit → Act → World → Prop} {S : World → Prop} {fuel : Nat} {listed : Array Bool} {a : Act} {w w' : World} (i d : Nat) (v : Value) {oi : Oper}
    (hi : ops[i]? = some oi) (hd : oi.dst = some d) (hr : Region.ready md ops listed = [i]) (hw : Region.wanted oi (yielded ops a.tmps) = true)
    (he : (execOp a.eval oi).run P w = .ok (.value v) w') (hS : S w')
    (h : wpAnyH P md ops Q S fuel (listed.setIfInBounds i true) (a.put (some d) v) w') : wpAnyH P md ops Q S (fuel + 1) listed a w := by
  refine wpAnyH_ready hr (by simp) (AllReadyH.cons hi (fun K hK => ?_) AllReadyH.nil)
  rw [if_pos hw]
  unfold Oper.wp
  rw [he, Oper.upon_value, hd]
  exact hK.out _ _ hS (fun _ => h)
/-- An operation whose guard says no yields nothing. -/
theorem held_skip {P : Program} {md : Region.Mode} {ops : Array Oper} {Q : Exit → Act → World → Prop} {S : World → Prop} {fuel : Nat} {listed : Array Bool} {a : Act} {w : World} (i d : Nat) {oi : Oper}
    (hi : ops[i]? = some oi) (hd : oi.dst = some d) (hs : Region.noSelect ops = true) (hf : Region.free md ops listed i = true) (hr : (Region.ready md ops listed).contains i = true)
    (hQ : ∀ c a w, Q (.panic c) (a.put (some d) undef) w → Q (.panic c) a w) (hw : Region.wanted oi (yielded ops a.tmps) = false) (hS : S w)
    (h : wpAnyH P md ops Q S fuel (listed.setIfInBounds i true) (a.put (some d) undef) w) : wpAnyH P md ops Q S (fuel + 1) listed a w :=
  wpAnyH_take hi hs hf hr (by rw [hd]; exact hQ) (.inr ⟨hw, rfl⟩) hS (by rw [hd]; exact h)
set_option maxRecDepth 100000 in
theorem exec_load1 {ρ : Operand → Value} {o : Oper} {x : Operand} (t : TypeId) (b off : Nat) (v : Value) (w : World) (ht : t = 3 ∨ t = 4 ∨ t = 5 ∨ t = 9) (h : w.cell? ⟨b, off, none⟩ = some v) (ho : o.op = .load t x := by rfl) (hx : ρ x = .pointer (some ⟨b, off, none⟩) := by rfl) :
    (execOp ρ o).run Try.prog w = .ok (.value v) w := by
  unfold execOp
  rw [ho]
  rcases ht with rfl | rfl | rfl | rfl <;> simp [go_sem, hx, h]
set_option maxRecDepth 100000 in
theorem exec_pickF {ρ : Operand → Value} {o : Oper} {x y z : Operand} (v : Value) (w : World) (ho : o.op = .pick x y z := by rfl) (hx : ρ x = .bool false := by rfl) (hz : ρ z = v := by rfl) :
    (execOp ρ o).run Try.prog w = .ok (.value v) w := by
  unfold execOp
  rw [ho]
  simp [go_sem, hx, hz]
set_option maxRecDepth 100000 in
theorem exec_pickT {ρ : Operand → Value} {o : Oper} {x y z : Operand} (v : Value) (w : World) (ho : o.op = .pick x y z := by rfl) (hx : ρ x = .bool true := by rfl) (hy : ρ y = v := by rfl) :
    (execOp ρ o).run Try.prog w = .ok (.value v) w := by
  unfold execOp
  rw [ho]
  simp [go_sem, hx, hy]
/-- What a call from here on leaves of a block that was made just before. -/
theorem boxk (w w2 : World) (cs : Array Value) (t : TypeId) (b : Below (w.alloc (.cells cs t)).heap.size (w.alloc (.cells cs t)) w2) (k : Nat) (v : Value) (h : cs[k]? = some v) : w2.cell? ⟨w.heap.size, k, none⟩ = some v := by
  refine (b.cell (by simp)).trans ?_
  rw [World.cell?_alloc_at _ _ _ _ rfl, h]
theorem boxB (w w2 : World) (o : Obj) (b : Below (w.alloc o).heap.size (w.alloc o) w2) : Below w.heap.size w w2 := ((Below.refl _ _).alloc (Nat.le_refl _) _).trans (b.mono (by simp))
/-- A request. -/
structure Rq where
  kind : Int
  id : Int
  cabin : Int
  from_ : Int
  size : Int
  tier : Int
def rqC (x : Rq) : List Value := [.int .i64 x.kind, .int .i64 x.id, .int .i64 x.cabin, .int .i64 x.from_, .int .i64 x.size, .int .i64 x.tier]
def rqA (x : Rq) : Value := .agg #[.int .i64 x.kind, .int .i64 x.id, .int .i64 x.cabin, .int .i64 x.from_, .int .i64 x.size, .int .i64 x.tier]
def rq0 : Rq := ⟨0, 0, 0, 0, 0, 0⟩
/-- The cells of x lie there. -/
def Rq.here (w : World) (b off : Nat) (x : Rq) : Prop := w.cell? ⟨b, off, none⟩ = some (.int .i64 x.kind) ∧ w.cell? ⟨b, off + 1, none⟩ = some (.int .i64 x.id) ∧ w.cell? ⟨b, off + 2, none⟩ = some (.int .i64 x.cabin) ∧ w.cell? ⟨b, off + 3, none⟩ = some (.int .i64 x.from_) ∧ w.cell? ⟨b, off + 4, none⟩ = some (.int .i64 x.size) ∧ w.cell? ⟨b, off + 5, none⟩ = some (.int .i64 x.tier)
theorem Rq.here.below {w w' : World} {b off : Nat} {x : Rq} (h : Rq.here w b off x) (hb : Below w.heap.size w w') (hl : b < w.heap.size) : Rq.here w' b off x := by
  obtain ⟨h0, h1, h2, h3, h4, h5⟩ := h
  exact ⟨(hb.cell (by exact hl)).trans h0, (hb.cell (by exact hl)).trans h1, (hb.cell (by exact hl)).trans h2, (hb.cell (by exact hl)).trans h3, (hb.cell (by exact hl)).trans h4, (hb.cell (by exact hl)).trans h5⟩
theorem Rq.here.box {w : World} (x : Rq) (t : TypeId) : Rq.here (w.alloc (.cells #[.int .i64 x.kind, .int .i64 x.id, .int .i64 x.cabin, .int .i64 x.from_, .int .i64 x.size, .int .i64 x.tier] t)) w.heap.size 0 x := by
  refine ⟨?_, ?_, ?_, ?_, ?_, ?_⟩ <;> rw [World.cell?_alloc_at _ _ _ _ rfl] <;> rfl
set_option maxRecDepth 100000 in
theorem exec_load_rq {ρ : Operand → Value} {o : Oper} {x : Operand} (b off : Nat) (p : Rq) (w : World) (h : Rq.here w b off p) (ho : o.op = .load 25 x := by rfl) (hx : ρ x = .pointer (some ⟨b, off, none⟩) := by rfl) :
    (execOp ρ o).run Try.prog w = .ok (.value (rqA p)) w := by
  obtain ⟨h0, h1, h2, h3, h4, h5⟩ := h
  unfold execOp
  rw [ho]
  simp [go_sem, hx, h0, h1, h2, h3, h4, h5, rqA]
def inI (z : Int) : Prop := -9223372036854775808 ≤ z ∧ z ≤ 9223372036854775807
set_option maxRecDepth 100000 in
theorem cellsI : Try.prog.cellsOf 3 = 1 := by kernel_rfl
end Go.Proofs.Ytjoihjfpdjbcpaa
