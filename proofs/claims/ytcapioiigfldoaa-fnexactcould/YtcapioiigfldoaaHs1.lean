/- append on rows of the call; rules and small tests of the house that the draws make. -/
import Derived.Test.YtcapioiigfldoaaRows
import Derived.Test.YtcapioiigfldoaaL2
namespace Go.Proofs.Ytcapioiigfldoaa
open Go.RowKit
set_option linter.unusedSimpArgs false
set_option linter.unusedVariables false
/-- What a slice type's rows are made of. -/
structure RowT (t e sz bytes : Nat) (z : Value) : Prop where
  ut : Try.prog.underlying t = some (.slice e)
  inf : (Try.prog.info? e).map (fun i => (i.zero, i.size, i.bytes)) = some (some z, sz, bytes)
  zc : z.cells.size = sz
  pos : 0 < sz
  by_ : bytes ≤ 1024
set_option maxRecDepth 100000 in
/-- append(v, q...) as a step. -/
theorem exec_appR {t e sz bytes : Nat} {z : Value} (T : RowT t e sz bytes z) {o : Oper} {a : Act} {s x : Operand} (w : World)
    (base : Nat) (v : Value) (n : Nat) (xs : List Value) (hown : w.ownsRow base e sz v n xs)
    (B : Nat) (A : Option Addr) (m c : Nat) (news : List Value) (hl : news.length = m * sz) (hR : Rws w B A news) (hnil : A = none → c = 0) (h1 : ∀ u ∈ news, u.oneCell' = true)
    (hlen : n + m ≤ 1073741824) (hbase : base ≤ w.heap.size)
    (ho : o.op = .call { callee := .builtin .append, args := #[s, x], argTypes := #[t, t] } := by rfl) (hs : a.eval s = v := by rfl) (hx : a.eval x = .slice A m c := by rfl) :
    ∃ v' w', (execOp a.eval o).run Try.prog w = .ok (.value v') w' ∧ w'.ownsRow base e sz v' (n + m) (xs ++ news) ∧ w.grownBy w' v.ownBlock := by
  obtain ⟨i0, hi, hz0, hz1, hz2⟩ := info_parts T.inf
  rcases A with _ | ad
  · have h0 : news = [] := by
      rcases hR with h | ⟨_, _, h, _⟩
      · exact h
      · cases h
    subst h0
    have hm : m = 0 := by
      rcases Nat.eq_zero_or_pos m with h | h
      · exact h
      · have := Nat.mul_pos h T.pos; simp at hl; omega
    subst hm
    rw [hnil rfl] at hx
    have hrun := run_append_owned_none (P := Try.prog) (w := w) base t o.type e i0 sz T.ut hi v n xs hown
    refine ⟨v, w, ?_, by simpa using hown, World.grownBy.refl _ _⟩
    simp [execOp, ho, resolve, invoke, builtin, hs, hx, hrun, Result.andThen]
  · have hb : (n + m) * bytes ≤ 140737488355328 := by
      have h2 := T.by_
      have : (n + m) * bytes ≤ 1073741824 * 1024 := Nat.mul_le_mul hlen h2
      omega
    obtain ⟨v', w', hr, h2, h3, _, _⟩ := run_append_own_at (P := Try.prog) w base t o.type e i0 z sz bytes T.ut hi hz0 hz1 hz2 T.zc T.pos v n xs hown ad m c news hl
      (fun j u hj => by
        rcases hR with rfl | ⟨b, off, e1, _, hc⟩
        · simp at hj
        · injection e1 with e1
          subst e1
          have hjl : j < news.length := by
            rcases Nat.lt_or_ge j news.length with h | h
            · exact h
            · rw [List.getElem?_eq_none h] at hj; cases hj
          rw [add_at, hc j hjl]; exact hj) h1 (by unfold maxLen; omega) hb hbase
    refine ⟨v', w', ?_, h2, h3⟩
    simp [execOp, ho, resolve, invoke, builtin, hs, hx, hr, Result.andThen]
set_option maxRecDepth 100000 in
/-- append(v, q...) in a walk. -/
theorem wpList_appR {t e sz bytes : Nat} {z : Value} (T : RowT t e sz bytes z) (w : World) {ops : Array Oper} {rest : List Oper} {o : Oper} {a : Act} {Q : Exit → Act → World → Prop} (hgd : o.guard = none) (s x : Operand)
    (ho : o.op = .call { callee := .builtin .append, args := #[s, x], argTypes := #[t, t] })
    (base : Nat) (v : Value) (n : Nat) (xs : List Value) (hs : a.eval s = v) (hown : w.ownsRow base e sz v n xs)
    (B : Nat) (A : Option Addr) (m c : Nat) (news : List Value) (hx : a.eval x = .slice A m c) (hl : news.length = m * sz) (hR : Rws w B A news) (hnil : A = none → c = 0) (h1 : ∀ u ∈ news, u.oneCell' = true)
    (hlen : n + m ≤ 1073741824) (hbase : base ≤ w.heap.size)
    (h : ∀ v' w', w'.ownsRow base e sz v' (n + m) (xs ++ news) → w.grownBy w' v.ownBlock → wpList Try.prog ops Q rest (a.put o.dst v') w') :
    wpList Try.prog ops Q (o :: rest) a w := by
  obtain ⟨v', w', hr, h2, h3⟩ := exec_appR T w base v n xs hown B A m c news hl hR hnil h1 hlen hbase ho hs hx
  refine wpList_plain hgd fun K hK => ?_
  unfold Oper.wp
  rw [hr, Oper.upon_value]
  exact hK _ _ (h v' w' h2 h3)
/-- A block just laid, as a row. -/
theorem Rws.new (w : World) (cs : List Value) (e : Nat) : Rws (w.alloc (.cells cs.toArray e)) (w.heap.size + 1) (some ⟨w.heap.size, 0, none⟩) cs :=
  .inr ⟨_, _, rfl, by omega, fun k hk => by rw [Nat.zero_add, World.cell?_alloc_at _ _ _ _ rfl]; simp⟩
theorem Rws.alloc {w : World} {B : Nat} {A : Option Addr} {cs : List Value} (h : Rws w B A cs) (hB : B ≤ w.heap.size) (o : Obj) : Rws (w.alloc o) B A cs := h.below ((Below.refl _ _).alloc hB o)
theorem ints_one (l : List Int) : ∀ u ∈ l.map (Value.int .i64), u.oneCell' = true := by
  intro u hu
  simp only [List.mem_map] at hu
  obtain ⟨b, _, rfl⟩ := hu
  rfl
set_option maxRecDepth 100000 in
theorem rowInt : RowT 28 3 1 8 (.int .i64 0) := ⟨Try.underlying28, by kernel_rfl, rfl, by omega, by omega⟩
/-- Rules, as Go holds them. -/
structure Ru where
  seats : List Int
  tiers : Int
  room : Int
  size : Int
  period : Int
  window : Int
  rest : Int
  tries : Int
  crew : Int
/-- The rules r as a value, their seats at A. -/
def ruV (A : Option Addr) (c : Nat) (r : Ru) : Value := .agg #[.slice A r.seats.length c, .int .i64 r.tiers, .int .i64 r.room, .int .i64 r.size, .int .i64 r.period, .int .i64 r.window, .int .i64 r.rest, .int .i64 r.tries, .int .i64 r.crew]
def ints (l : List Int) : List Value := l.map (Value.int .i64)
theorem ints_len (l : List Int) : (ints l).length = l.length := by simp [ints]
theorem ints_get (l : List Int) (k : Nat) (h : k < l.length) : (ints l)[k]? = some (.int .i64 (l.getD k 0)) := by simp [ints, h]
theorem ints_append (a b : List Int) : ints (a ++ b) = ints a ++ ints b := by simp [ints]
theorem Rws.int {w : World} {B : Nat} {A : Option Addr} {l : List Int} (h : Rws w B A (ints l)) {i : Nat} (hi : i < l.length) : ∃ b off, A = some ⟨b, off, none⟩ ∧ b < B ∧ w.cell? ⟨b, off + i, none⟩ = some (.int .i64 (l.getD i 0)) := by
  rcases h with h | ⟨b, off, e, hb, hc⟩
  · have := congrArg List.length h; rw [ints_len] at this; simp at this; subst this; simp at hi
  · exact ⟨b, off, e, hb, by rw [hc i (by rw [ints_len]; exact hi), ints_get l i hi]⟩
/-- The rules that the draws make. -/
structure RuOk (r : Ru) : Prop where
  n1 : 1 ≤ r.seats.length
  n2 : r.seats.length ≤ 4
  seat : ∀ i, i < r.seats.length → 1 ≤ r.seats.getD i 0 ∧ r.seats.getD i 0 ≤ 60
  tiers : 1 ≤ r.tiers ∧ r.tiers ≤ 5
  room : 1 ≤ r.room ∧ r.room ≤ 10
  size : 1 ≤ r.size ∧ r.size ≤ 6
  period : 1 ≤ r.period ∧ r.period ≤ 12
  window : 1 ≤ r.window ∧ r.window ≤ 8
  rest : 0 ≤ r.rest ∧ r.rest ≤ 8
  tries : 1 ≤ r.tries ∧ r.tries ≤ 4
  crew : 1 ≤ r.crew ∧ r.crew ≤ 3
set_option maxRecDepth 100000 in
theorem l1Max_any (a b : Int) (w : World) : Calls Try.prog 49 #[.int .i64 a, .int .i64 b] w fun e w' => e = .returned (.int .i64 (if b < a then a else b)) ∧ w = w' := by
  by_cases h : b < a
  · rw [if_pos h]
    go_enter Try.func49, Try.ntmps49
    go_wp2
    go_ret
    exact ⟨rfl, rfl⟩
  · rw [if_neg h]
    have h2 : decide (b < a) = false := by simpa using h
    go_enter Try.func49, Try.ntmps49
    go_wp2
    go_ret
    exact ⟨rfl, rfl⟩
end Go.Proofs.Ytcapioiigfldoaa
