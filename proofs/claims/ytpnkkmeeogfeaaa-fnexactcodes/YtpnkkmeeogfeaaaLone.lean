/- Texts of this kind, picked for what this seat needs. -/
import Derived.Test.YtpnkkmeeogfeaaaRows
import Derived.WalkKit
import Derived.WalkSpells
import Derived.WalkLawsBesides
import Derived.Outline
import Derived.Lib.Hide
import Derived.IntWalk
import Derived.BigQuiet
import Derived.Deep.QuietTactic
import Derived.Deep.Draws
import Derived.RegionTactic
import Derived.Deep.RegionWith
import Derived.Deep.RegionHeld3
import Derived.StillTailTactics
import Derived.Maps.AppendAt
import Derived.Laws.AppendOwnNone
import Derived.OpenShut
import Derived.Lib.BufferWrite
namespace Go.Proofs.Ytpnkkmeeogfeaaa
open Go.RowKit
set_option linter.unusedSimpArgs false
set_option linter.unusedVariables false
attribute [local go_sem] Oper.semAt_some
/-- One bit of the checksum. -/
def bit1 (x : Nat) : Nat := if x % 2 = 1 then (x / 2) ^^^ 3988292384 else x / 2
def bitN : Nat → Nat → Nat
  | 0, x => x
  | k + 1, x => bit1 (bitN k x)
def step (x b : Nat) : Nat := bitN 8 (x ^^^ b)
theorem take_snoc {α : Type} (l : List α) (k : Nat) (d : α) (h : k < l.length) : l.take (k + 1) = l.take k ++ [l.getD k d] := by
  rw [List.take_succ_eq_append_getElem h, List.getD_eq_getElem?_getD, List.getElem?_eq_getElem h]; rfl
theorem below_drawn {B : Nat} {a w : World} (h : Below B a w) (n : Nat) : Below B a (w.drewN n) := ⟨h.os, h.tape, h.output, h.size, h.block⟩
theorem add_at (b off k : Nat) : (⟨b, off, none⟩ : Addr).add k = ⟨b, off + k, none⟩ := by unfold Addr.add; split <;> simp_all
theorem getD_mem {α : Type} (xs : List α) (k : Nat) (d : α) (h : k < xs.length) : xs.getD k d ∈ xs := by
  rw [List.getD_eq_getElem?_getD, List.getElem?_eq_getElem h]; exact List.getElem_mem _
/-- A call of a Go function is entered. -/
theorem exec_call {P : Program} {a : Act} {o : Oper} {f : FuncId} {xs : Array Operand} {ats : Array TypeId} {args : Array Value} {fn : Func} (hf : P.funcs[f]? = some fn) (hn : (fn.name == "runtime.NumGoroutine") = false) (hb : fn.body.isNone = false) (w : World)
    (ho : o.op = .call { callee := .value (.func f), args := xs, argTypes := ats } := by rfl) (ha : xs.map a.eval = args := by (simp only [List.map_toArray, List.map_cons, List.map_nil]; rfl)) : (execOp a.eval o).run P w = .ok (.enter f args) w := by
  subst ha
  have h1 : fn.name ≠ "runtime.NumGoroutine" := by simpa using hn
  have ef : a.eval (.func f) = .func (.func f) #[] #[] := rfl
  unfold execOp
  obtain ⟨c, hc⟩ : ∃ c, fn.body = some c := by
    cases h : fn.body with
    | none => rw [h] at hb; cases hb
    | some c => exact ⟨c, rfl⟩
  simp [ho, resolve, Deferred.ofValue, invoke, ef, callFunc, hf, h1, hc]
/-- An operation that yields v in every world of the class is taken first. -/
theorem held_take {P : Program} {md : Region.Mode} {ops : Array Oper} {Q : Exit → Act → World → Prop} {S : World → Prop} {fuel : Nat} {listed : Array Bool} {a : Act} {w : World} (i d : Nat) (v : Value) {oi : Oper}
    (hi : ops[i]? = some oi) (hd : oi.dst = some d) (hs : Region.noSelect ops = true) (hf : Region.free md ops listed i = true) (hr : (Region.ready md ops listed).contains i = true)
    (hQ : ∀ c a w, Q (.panic c) (a.put (some d) v) w → Q (.panic c) a w) (hw : Region.wanted oi (yielded ops a.tmps) = true) (hS : S w) (hy : ∀ w, S w → (execOp a.eval oi).run P w = .ok (.value v) w)
    (h : wpAnyH P md ops Q S fuel (listed.setIfInBounds i true) (a.put (some d) v) w) : wpAnyH P md ops Q S (fuel + 1) listed a w :=
  wpAnyH_take hi hs hf hr (by rw [hd]; exact hQ) (.inl ⟨hw, hy⟩) hS (by rw [hd]; exact h)
/-- The one operation that may come up is a call. -/
theorem held_call {P : Program} {md : Region.Mode} {ops : Array Oper} {Q : Exit → Act → World → Prop} {S : World → Prop} {fuel : Nat} {listed : Array Bool} {a : Act} {w : World} (i d : Nat) (f : FuncId) (args : Array Value) {oi : Oper}
    (hi : ops[i]? = some oi) (hd : oi.dst = some d) (hr : Region.ready md ops listed = [i]) (hw : Region.wanted oi (yielded ops a.tmps) = true)
    (he : (execOp a.eval oi).run P w = .ok (.enter f args) w)
    (h : Calls P f args w fun e w' => ∃ v, e = .returned v ∧ S w' ∧ wpAnyH P md ops Q S fuel (listed.setIfInBounds i true) (a.put (some d) v) w') : wpAnyH P md ops Q S (fuel + 1) listed a w := by
  refine wpAnyH_ready hr (by simp) (AllReadyH.cons hi (fun K hK => ?_) AllReadyH.nil)
  rw [if_pos hw]
  unfold Oper.wp
  rw [he, Oper.upon_enter]
  refine h.mono ?_
  rintro e w' ⟨v, rfl, hS, hh⟩
  rw [hd]
  exact hK.out _ _ hS (fun _ => hh)
/-- The one operation that may come up yields v. -/
theorem held_op {P : Program} {md : Region.Mode} {ops : Array Oper} {Q : Exit → Act → World → Prop} {S : World → Prop} {fuel : Nat} {listed : Array Bool} {a : Act} {w w' : World} (i d : Nat) (v : Value) {oi : Oper}
    (hi : ops[i]? = some oi) (hd : oi.dst = some d) (hr : Region.ready md ops listed = [i]) (hw : Region.wanted oi (yielded ops a.tmps) = true)
    (he : (execOp a.eval oi).run P w = .ok (.value v) w') (hS : S w')
    (h : wpAnyH P md ops Q S fuel (listed.setIfInBounds i true) (a.put (some d) v) w') : wpAnyH P md ops Q S (fuel + 1) listed a w := by
  refine wpAnyH_ready hr (by simp) (AllReadyH.cons hi (fun K hK => ?_) AllReadyH.nil)
  rw [if_pos hw]
  unfold Oper.wp
  rw [he, Oper.upon_value, hd]
  exact hK.out _ _ hS (fun _ => h)
/-- The slice at A reads as the cells cs, and lies below block B. -/
def Rws (w : World) (B : Nat) (A : Option Addr) (cs : List Value) : Prop :=
  cs = [] ∨ ∃ b off, A = some ⟨b, off, none⟩ ∧ b < B ∧ ∀ k, k < cs.length → w.cell? ⟨b, off + k, none⟩ = cs[k]?
theorem Rws.below {w w' : World} {B : Nat} {A : Option Addr} {cs : List Value} (h : Rws w B A cs) (hb : Below B w w') : Rws w' B A cs := by
  rcases h with h | ⟨b, off, e, hlt, hc⟩
  · exact .inl h
  · exact .inr ⟨b, off, e, hlt, fun k hk => (hb.cell (by exact hlt)).trans (hc k hk)⟩
theorem Rws.more {w : World} {B B' : Nat} {A : Option Addr} {cs : List Value} (h : Rws w B A cs) (hB : B ≤ B') : Rws w B' A cs := by
  rcases h with h | ⟨b, off, e, hlt, hc⟩
  · exact .inl h
  · exact .inr ⟨b, off, e, by omega, hc⟩
theorem Rws.drewN {w : World} {B : Nat} {A : Option Addr} {cs : List Value} (h : Rws w B A cs) (n : Nat) : Rws (w.drewN n) B A cs := h
theorem own_rws {w : World} {base e sz n m c : Nat} {A : Option Addr} {cs : List Value} (h : w.ownsRow base e sz (.slice A n c) m cs) : Rws w w.heap.size A cs := by
  rcases h.2 with ⟨_, hn⟩ | ⟨g, cap, cur, hv, hb, hg, hnc, hm, hs, ht⟩
  · left
    have := h.1
    rw [hn, Nat.zero_mul] at this
    exact List.eq_nil_of_length_eq_zero this
  · injection hv with h1 h2 h3
    subst h1 h2 h3
    refine .inr ⟨g, 0, rfl, (Array.getElem?_eq_some_iff.1 hg).1, fun k hk => ?_⟩
    rw [Nat.zero_add]
    exact World.ownsRow.cellAt (g := g) (cap := c) h k (by have := h.1; omega)
theorem own_form {w : World} {base e sz n : Nat} {v : Value} {cs : List Value} (h : w.ownsRow base e sz v n cs) :
    ∃ A cap, v = .slice A n cap ∧ n ≤ cap ∧ (A = none → cap = 0) ∧ (0 < n → ∃ g, A = some ⟨g, 0, none⟩ ∧ base ≤ g) := by
  rcases h.2 with ⟨hv, hn⟩ | ⟨g, cap, cur, hv, hb, hg, hnc, hm, hs, ht⟩
  · exact ⟨none, 0, by rw [hv, hn], by omega, fun _ => rfl, fun h => by omega⟩
  · exact ⟨some ⟨g, 0, none⟩, cap, hv, hnc, (fun h => by cases h), (fun _ => ⟨g, rfl, hb⟩)⟩
theorem own_below {w w' : World} {base e sz n : Nat} {v : Value} {cs : List Value} (h : w.ownsRow base e sz v n cs) (hb : Below w.heap.size w w') : w'.ownsRow base e sz v n cs := by
  refine ⟨h.1, ?_⟩
  rcases h.2 with h2 | ⟨g, cap, cur, hv, hg, hh, r⟩
  · exact .inl h2
  · exact .inr ⟨g, cap, cur, hv, hg, by rw [hb.block g (Array.getElem?_eq_some_iff.1 hh).1]; exact hh, r⟩
theorem own_low {w : World} {base e sz n : Nat} {v : Value} {cs : List Value} (h : w.ownsRow base e sz v n cs) : ∀ k, v.ownBlock = some k → base ≤ k := fun k hk => (World.ownsRow.lt h k hk).1
/-- What a new slice is, as a function returns it. -/
def NewR (e sz : Nat) (w : World) (n : Nat) (cs : List Value) (en : Ending) (w' : World) : Prop :=
  ∃ A c, en = .returned (.slice A n c) ∧ w'.ownsRow w.heap.size e sz (.slice A n c) n cs ∧ Below w.heap.size w w'
theorem NewR.of_own {e sz : Nat} {w w' : World} {n : Nat} {cs : List Value} {v : Value} (h : w'.ownsRow w.heap.size e sz v n cs) (hb : Below w.heap.size w w') : NewR e sz w n cs (.returned v) w' := by
  obtain ⟨A, c, rfl, _, _⟩ := own_form h
  exact ⟨A, c, rfl, h, hb⟩
theorem own_empty (w : World) (base e sz : Nat) (h : base ≤ w.heap.size) : (w.alloc (.cells #[] e)).ownsRow base e sz (.slice (some ⟨w.heap.size, 0, none⟩) 0 0) 0 [] :=
  ⟨by simp, .inr ⟨_, _, _, rfl, h, heap_alloc_new _ _, Nat.le_refl _, by simp, by simp, by simp⟩⟩
theorem flat_len {α : Type} (enc : α → List Value) (sz : Nat) (h : ∀ x, (enc x).length = sz) (l : List α) : (l.flatMap enc).length = l.length * sz := by
  induction l with
  | nil => simp
  | cons x l ih => rw [List.flatMap_cons, List.length_append, h, ih, List.length_cons, Nat.succ_mul]; omega
theorem flat_get {α : Type} (enc : α → List Value) (sz : Nat) (h : ∀ x, (enc x).length = sz) (l : List α) (i f : Nat) (d : α) (hi : i < l.length) (hf : f < sz) : (l.flatMap enc)[i * sz + f]? = (enc (l.getD i d))[f]? := by
  induction l generalizing i with
  | nil => simp at hi
  | cons x l ih =>
    rw [List.flatMap_cons]
    cases i with
    | zero => rw [Nat.zero_mul, Nat.zero_add, List.getElem?_append_left (by rw [h]; exact hf)]; rfl
    | succ i =>
      rw [List.getElem?_append_right (by rw [h, Nat.succ_mul]; omega), h, show (i + 1) * sz + f - sz = i * sz + f by rw [Nat.succ_mul]; omega]
      rw [ih i (by simpa using hi)]
      rfl
/-- The cells of element i. -/
theorem Rws.el {α : Type} {enc : α → List Value} {sz : Nat} (h1 : ∀ x, (enc x).length = sz) {w : World} {B : Nat} {A : Option Addr} {l : List α} (h : Rws w B A (l.flatMap enc)) (hs : 0 < sz) {i : Nat} (d : α) (hi : i < l.length) :
    ∃ b off, A = some ⟨b, off, none⟩ ∧ b < B ∧ ∀ f, f < sz → w.cell? ⟨b, off + i * sz + f, none⟩ = (enc (l.getD i d))[f]? := by
  have hl := flat_len enc sz h1 l
  have hm : i * sz + sz ≤ l.length * sz := by rw [← Nat.succ_mul]; exact Nat.mul_le_mul_right _ hi
  rcases h with h | ⟨b, off, e, hb, hc⟩
  · rw [h] at hl; simp only [List.length_nil] at hl; omega
  · refine ⟨b, off, e, hb, fun f hf => ?_⟩
    rw [Nat.add_assoc, hc _ (by rw [hl]; omega), flat_get enc sz h1 l i f d hi hf]
set_option maxRecDepth 100000 in
theorem cellsInt : Try.prog.cellsOf 3 = 1 := by kernel_rfl
/-- Behind the cursor's own writes what is owned above it stays. -/
theorem own_cur {w w' : World} {e sz n B g : Nat} {v : Value} {cs : List Value} (h : w.ownsRow B e sz v n cs) (gr : w.grownBy w' (some g)) (hg : g < B) : w'.ownsRow B e sz v n cs := by
  refine h.kept gr ?_
  rcases hv : v.ownBlock with _ | k
  · exact .inl rfl
  · refine .inr fun e => ?_
    have h1 := (World.ownsRow.lt h k hv).1
    injection e with e
    omega
set_option maxRecDepth 100000 in
theorem exec_load1 {ρ : Operand → Value} {o : Oper} {x : Operand} (t : TypeId) (b off : Nat) (v : Value) (w : World) (ht : t = 3 ∨ t = 4 ∨ t = 5 ∨ t = 9) (h : w.cell? ⟨b, off, none⟩ = some v) (ho : o.op = .load t x := by rfl) (hx : ρ x = .pointer (some ⟨b, off, none⟩) := by rfl) :
    (execOp ρ o).run Try.prog w = .ok (.value v) w := by
  unfold execOp
  rw [ho]
  rcases ht with rfl | rfl | rfl | rfl <;> simp [go_sem, hx, h]
theorem heap_new (w : World) (o : Obj) : (w.alloc o).heap[w.heap.size]? = some o := by
  show (w.heap.push o)[w.heap.size]? = some o
  exact Array.getElem?_push_size
theorem boxB (w w2 : World) (o : Obj) (b : Below (w.alloc o).heap.size (w.alloc o) w2) : Below w.heap.size w w2 := ((Below.refl _ _).alloc (Nat.le_refl _) _).trans (b.mono (by simp))
/-- Three blocks that the call made first hold these. -/
def Three (w w1 : World) (A B C : Obj) : Prop := w1.heap[w.heap.size]? = some A ∧ w1.heap[w.heap.size + 1]? = some B ∧ w1.heap[w.heap.size + 2]? = some C ∧ Below w.heap.size w w1
theorem Three.make (w : World) (A B C : Obj) : Three w (((w.alloc A).alloc B).alloc C) A B C := by
  have e0 : (w.alloc A).heap.size = w.heap.size + 1 := by simp
  have e1 : ((w.alloc A).alloc B).heap.size = w.heap.size + 2 := by simp
  refine ⟨?_, ?_, ?_, (((Below.refl _ _).alloc (Nat.le_refl _) _).alloc (by simp) _).alloc (by simp; omega) _⟩
  · rw [Go.heap_alloc_old _ _ (by omega), Go.heap_alloc_old _ _ (by omega), heap_new]
  · rw [Go.heap_alloc_old _ _ (by omega), ← e0, heap_new]
  · rw [← e1, heap_new]
theorem Three.call {w w1 w2 : World} {A B C : Obj} (h : Three w w1 A B C) (b : Below w1.heap.size w1 w2) : Three w w2 A B C := by
  obtain ⟨h0, h1, h2, hb⟩ := h
  exact ⟨(b.block _ (Array.getElem?_eq_some_iff.1 h0).1).trans h0, (b.block _ (Array.getElem?_eq_some_iff.1 h1).1).trans h1, (b.block _ (Array.getElem?_eq_some_iff.1 h2).1).trans h2, hb.trans (b.mono hb.size)⟩
set_option maxRecDepth 100000 in
theorem cellsI : Try.prog.cellsOf 3 = 1 := by kernel_rfl
theorem blk_call {w w' : World} {r : Nat} {o : Obj} (h : w.heap[r]? = some o) (b : Below w.heap.size w w') : w'.heap[r]? = some o := by
  rw [b.block r (Array.getElem?_eq_some_iff.1 h).1, h]
theorem blk_alloc {w : World} {r : Nat} {o : Obj} (h : w.heap[r]? = some o) (x : Obj) : (w.alloc x).heap[r]? = some o := by
  rw [Go.heap_alloc_old _ _ (Array.getElem?_eq_some_iff.1 h).1, h]
theorem blk_lt {w : World} {r : Nat} {o : Obj} (h : w.heap[r]? = some o) : r < w.heap.size := (Array.getElem?_eq_some_iff.1 h).1
/-- What a slice type's rows are made of. -/
structure RowT (t e sz bytes : Nat) (z : Value) : Prop where
  ut : Try.prog.underlying t = some (.slice e)
  inf : (Try.prog.info? e).map (fun i => (i.zero, i.size, i.bytes)) = some (some z, sz, bytes)
  zc : z.cells.size = sz
  pos : 0 < sz
  by_ : bytes ≤ 1024
set_option maxRecDepth 100000 in
/-- append(v, q...) as a step. -/
theorem exec_appR {t e sz bytes : Nat} {z : Value} (T : RowT t e sz bytes z) {o : Oper} {a : Act} {s x : Operand} (w : World)
    (base : Nat) (v : Value) (n : Nat) (xs : List Value) (hown : w.ownsRow base e sz v n xs)
    (B : Nat) (A : Option Addr) (m c : Nat) (news : List Value) (hl : news.length = m * sz) (hR : Rws w B A news) (hnil : A = none → c = 0) (h1 : ∀ u ∈ news, u.oneCell' = true)
    (hlen : n + m ≤ 1073741824) (hbase : base ≤ w.heap.size)
    (ho : o.op = .call { callee := .builtin .append, args := #[s, x], argTypes := #[t, t] } := by rfl) (hs : a.eval s = v := by rfl) (hx : a.eval x = .slice A m c := by rfl) :
    ∃ v' w', (execOp a.eval o).run Try.prog w = .ok (.value v') w' ∧ w'.ownsRow base e sz v' (n + m) (xs ++ news) ∧ w.grownBy w' v.ownBlock := by
  obtain ⟨i0, hi, hz0, hz1, hz2⟩ := info_parts T.inf
  rcases A with _ | ad
  · have h0 : news = [] := by
      rcases hR with h | ⟨_, _, h, _⟩
      · exact h
      · cases h
    subst h0
    have hm : m = 0 := by
      rcases Nat.eq_zero_or_pos m with h | h
      · exact h
      · have := Nat.mul_pos h T.pos; simp at hl; omega
    subst hm
    rw [hnil rfl] at hx
    have hrun := run_append_owned_none (P := Try.prog) (w := w) base t o.type e i0 sz T.ut hi v n xs hown
    refine ⟨v, w, ?_, by simpa using hown, World.grownBy.refl _ _⟩
    simp [execOp, ho, resolve, invoke, builtin, hs, hx, hrun, Result.andThen]
  · have hb : (n + m) * bytes ≤ 140737488355328 := by
      have h2 := T.by_
      have : (n + m) * bytes ≤ 1073741824 * 1024 := Nat.mul_le_mul hlen h2
      omega
    obtain ⟨v', w', hr, h2, h3, _, _⟩ := run_append_own_at (P := Try.prog) w base t o.type e i0 z sz bytes T.ut hi hz0 hz1 hz2 T.zc T.pos v n xs hown ad m c news hl
      (fun j u hj => by
        rcases hR with rfl | ⟨b, off, e1, _, hc⟩
        · simp at hj
        · injection e1 with e1
          subst e1
          have hjl : j < news.length := by
            rcases Nat.lt_or_ge j news.length with h | h
            · exact h
            · rw [List.getElem?_eq_none h] at hj; cases hj
          rw [add_at, hc j hjl]; exact hj) h1 (by unfold maxLen; omega) hb hbase
    refine ⟨v', w', ?_, h2, h3⟩
    simp [execOp, ho, resolve, invoke, builtin, hs, hx, hr, Result.andThen]
set_option maxRecDepth 100000 in
/-- append(v, q...) in a walk. -/
theorem wpList_appR {t e sz bytes : Nat} {z : Value} (T : RowT t e sz bytes z) (w : World) {ops : Array Oper} {rest : List Oper} {o : Oper} {a : Act} {Q : Exit → Act → World → Prop} (hgd : o.guard = none) (s x : Operand)
    (ho : o.op = .call { callee := .builtin .append, args := #[s, x], argTypes := #[t, t] })
    (base : Nat) (v : Value) (n : Nat) (xs : List Value) (hs : a.eval s = v) (hown : w.ownsRow base e sz v n xs)
    (B : Nat) (A : Option Addr) (m c : Nat) (news : List Value) (hx : a.eval x = .slice A m c) (hl : news.length = m * sz) (hR : Rws w B A news) (hnil : A = none → c = 0) (h1 : ∀ u ∈ news, u.oneCell' = true)
    (hlen : n + m ≤ 1073741824) (hbase : base ≤ w.heap.size)
    (h : ∀ v' w', w'.ownsRow base e sz v' (n + m) (xs ++ news) → w.grownBy w' v.ownBlock → wpList Try.prog ops Q rest (a.put o.dst v') w') :
    wpList Try.prog ops Q (o :: rest) a w := by
  obtain ⟨v', w', hr, h2, h3⟩ := exec_appR T w base v n xs hown B A m c news hl hR hnil h1 hlen hbase ho hs hx
  refine wpList_plain hgd fun K hK => ?_
  unfold Oper.wp
  rw [hr, Oper.upon_value]
  exact hK _ _ (h v' w' h2 h3)
/-- A block just laid, as a row. -/
theorem Rws.new (w : World) (cs : List Value) (e : Nat) : Rws (w.alloc (.cells cs.toArray e)) (w.heap.size + 1) (some ⟨w.heap.size, 0, none⟩) cs :=
  .inr ⟨_, _, rfl, by omega, fun k hk => by rw [Nat.zero_add, World.cell?_alloc_at _ _ _ _ rfl]; simp⟩
theorem Rws.alloc {w : World} {B : Nat} {A : Option Addr} {cs : List Value} (h : Rws w B A cs) (hB : B ≤ w.heap.size) (o : Obj) : Rws (w.alloc o) B A cs := h.below ((Below.refl _ _).alloc hB o)
set_option maxRecDepth 100000 in
theorem rowInt : RowT 22 3 1 8 (.int .i64 0) := ⟨Try.underlying22, by kernel_rfl, rfl, by omega, by omega⟩
def ints (l : List Int) : List Value := l.map (Value.int .i64)
theorem ints_len (l : List Int) : (ints l).length = l.length := by simp [ints]
theorem ints_get (l : List Int) (k : Nat) (h : k < l.length) : (ints l)[k]? = some (.int .i64 (l.getD k 0)) := by simp [ints, h]
theorem ints_append (a b : List Int) : ints (a ++ b) = ints a ++ ints b := by simp [ints]
theorem Rws.int {w : World} {B : Nat} {A : Option Addr} {l : List Int} (h : Rws w B A (ints l)) {i : Nat} (hi : i < l.length) : ∃ b off, A = some ⟨b, off, none⟩ ∧ b < B ∧ w.cell? ⟨b, off + i, none⟩ = some (.int .i64 (l.getD i 0)) := by
  rcases h with h | ⟨b, off, e, hb, hc⟩
  · have := congrArg List.length h; rw [ints_len] at this; simp at this; subst this; simp at hi
  · exact ⟨b, off, e, hb, by rw [hc i (by rw [ints_len]; exact hi), ints_get l i hi]⟩
/-- Two blocks made just before. -/
theorem two_at (w w2 : World) (A B : Obj) (b : Below ((w.alloc A).alloc B).heap.size ((w.alloc A).alloc B) w2) : w2.heap[w.heap.size]? = some A ∧ w2.heap[w.heap.size + 1]? = some B ∧ Below w.heap.size w w2 := by
  have e0 : (w.alloc A).heap.size = w.heap.size + 1 := by simp
  refine ⟨(b.block _ (by simp; omega)).trans ?_, (b.block _ (by simp)).trans ?_, boxB _ _ _ (boxB _ _ _ b)⟩
  · rw [Go.heap_alloc_old _ _ (by omega), heap_new]
  · rw [← e0, heap_new]
/-- toIntS halfway. -/
def halfI (l : List Int) (k : Nat) : List Value := ints (l.take k) ++ ints (List.replicate (l.length - k) 0)
theorem halfI_zero (l : List Int) : (madeCells #[Value.int .i64 0] l.length).toList = halfI l 0 := by
  rw [toList_madeCells_one]; simp [halfI, ints]
theorem halfI_all (l : List Int) : halfI l l.length = ints l := by simp [halfI, ints]
theorem halfI_len (l : List Int) (k : Nat) (hk : k ≤ l.length) : (halfI l k).length = l.length := by simp [halfI, ints]; omega
theorem halfI_set (l : List Int) (k : Nat) (hk : k < l.length) : (halfI l k).set k (.int .i64 (l.getD k 0)) = halfI l (k + 1) := by
  unfold halfI
  rw [take_snoc l k 0 hk, ints_append, List.set_append]
  have h1 : (ints (l.take k)).length = k := by simp [ints]; omega
  rw [if_neg (by omega), h1, Nat.sub_self]
  have h2 : l.length - k = (l.length - (k + 1)) + 1 := by omega
  rw [h2, List.replicate_succ]
  simp [ints]
set_option maxRecDepth 100000 in
theorem info3 : (Try.prog.info? 3).map (fun i => (i.zero, i.size, i.bytes)) = some (some (.int .i64 0), 1, 8) := by kernel_rfl
set_option maxRecDepth 100000 in
set_option maxHeartbeats 400000 in
/-- toIntS: a new block with the same numbers. -/
theorem toInt_any (A : Option Addr) (l : List Int) (c B : Nat) (w : World) (hl : l.length ≤ 2097152) (hA : Rws w B A (ints l)) (hB : B ≤ w.heap.size) :
    Calls Try.prog 21 #[.slice A l.length c] w fun e w' => e = .returned (.slice (some ⟨w.heap.size, 0, none⟩) l.length l.length) ∧ w.alloc (.cells (ints l).toArray 3) = w' := by
  obtain ⟨i0, hi, hz0, hz1, hz2⟩ := info_parts info3
  have hmk : (Instr.makeSlice 22 (.int .i64 (l.length : Int)) (.int .i64 (l.length : Int))).run Try.prog w =
      .ok (.slice (some ⟨w.heap.size, 0, none⟩) l.length l.length) (w.alloc (.cells (halfI l 0).toArray 3)) := by
    have h := run_make (P := Try.prog) w 22 3 i0 (.int .i64 0) Try.underlying22 hi hz0 .i64 .i64 l.length l.length (by omega) (by omega) (by rw [hz2]; omega) (by omega)
    rw [h, hz1, Int.toNat_natCast, Nat.mul_one, ← halfI_zero]
    rfl
  go_enter Try.func21, Try.ntmps21
  go_wp2
  go_loopw [4] (fun i wr => ∃ k : Nat, k ≤ l.length ∧ i = .int .i64 k ∧ wr = w.alloc (.cells (halfI l k).toArray 3)) (fun i _ => l.length - (intOf i).toNat)
  case atStart => exact ⟨0, by omega, rfl, rfl⟩
  case round =>
    clear hmk
    obtain ⟨k, hk, rfl, rfl⟩ := hrel
    by_cases hlt : k < l.length
    · obtain ⟨b, off, rfl, hbB, hc⟩ := hA.int hlt
      have hne : ¬ b = w.heap.size := by omega
      have hltb : b < w.heap.size := by omega
      have HS := Lib.hid (halfI_set l k hlt)
      have hsz2 : k < (halfI l k).length := by rw [halfI_len l k hk]; omega
      generalize l.getD k 0 = v at *
      generalize halfI l k = cur at *
      go_wp2
      go_roundw
      case rel => exact ⟨k + 1, by omega, by go_num, by rw [← HS.out]⟩
      case measure => simp [intOf]; omega
    · obtain rfl : k = l.length := by omega
      rw [halfI_all]
      go_wp2
      go_ret
      exact ⟨rfl, rfl⟩
set_option maxRecDepth 100000 in
set_option maxHeartbeats 400000 in
/-- eqIntS on two slices that read alike. -/
theorem eqInt_same (A A' : Option Addr) (l : List Int) (c c' B B' : Nat) (w : World) (hl : l.length ≤ 2097152) (hA : Rws w B A (ints l)) (hA' : Rws w B' A' (ints l)) :
    Calls Try.prog 14 #[.slice A l.length c, .slice A' l.length c'] w fun e w' => e = .returned (.bool true) ∧ Below w.heap.size w w' := by
  have hne : ((l.length : Int) != (l.length : Int)) = false := by simp
  go_enter Try.func14, Try.ntmps14
  go_wp2
  go_loopw [5] (fun i wr => ∃ k n : Nat, k ≤ l.length ∧ i = .int .i64 k ∧ wr = w.drewN n) (fun i _ => l.length - (intOf i).toNat)
  case atStart => exact ⟨0, 0, by omega, rfl, rfl⟩
  case round =>
    obtain ⟨k, n, hk, rfl, rfl⟩ := hrel
    by_cases hlt : k < l.length
    · obtain ⟨b, off, rfl, hbB, hc⟩ := hA.int hlt
      obtain ⟨b', off', rfl, hbB', hc'⟩ := hA'.int hlt
      generalize l.getD k 0 = x at *
      have hx : (x != x) = false := by simp
      go_wp2_with fail
      go_quiet (fail)
      go_wp2
      go_roundw
      case rel => exact ⟨k + 1, _, by omega, by go_num, rfl⟩
      case measure => simp [intOf]; omega
    · go_wp2
      go_ret
      exact ⟨rfl, below_drawn (Below.refl _ _) _⟩
def inI (z : Int) : Prop := -9223372036854775808 ≤ z ∧ z ≤ 9223372036854775807
/-- n marks from k on. -/
def marksI (k n : Nat) : List Int := (List.range n).map fun i => ((k + i : Nat) : Int)
theorem marksI_length (k n : Nat) : (marksI k n).length = n := by simp [marksI]
theorem marksI_getD (k n i : Nat) (h : i < n) : (marksI k n).getD i 0 = ((k + i : Nat) : Int) := by simp [marksI, h]
def markedI (l : List Int) (k j : Nat) : List Value := ints (marksI k j) ++ (ints l).drop j
theorem markedI_zero (l : List Int) (k : Nat) : markedI l k 0 = ints l := by simp [markedI, marksI, ints]
theorem markedI_all (l : List Int) (k : Nat) : markedI l k l.length = ints (marksI k l.length) := by
  unfold markedI; rw [List.drop_of_length_le (by rw [ints_len]; omega), List.append_nil]
theorem markedI_set (l : List Int) (k j : Nat) (hj : j < l.length) : (markedI l k j).set j (.int .i64 ((k + j : Nat) : Int)) = markedI l k (j + 1) := by
  unfold markedI
  have hlen : (ints (marksI k j)).length = j := by rw [ints_len, marksI_length]
  rw [List.set_append_right _ _ (by omega), hlen, Nat.sub_self]
  have hd : (ints l).drop j = (ints l)[j]'(by rw [ints_len]; exact hj) :: (ints l).drop (j + 1) := List.drop_eq_getElem_cons _
  rw [hd, List.set_cons_zero]
  have hm : marksI k (j + 1) = marksI k j ++ [((k + j : Nat) : Int)] := by simp [marksI, List.range_succ]
  rw [hm, ints_append, List.append_assoc]
  rfl
set_option maxRecDepth 100000 in
set_option maxHeartbeats 400000 in
theorem heldInt_any (A : Option Addr) (k n c B : Nat) (w : World) (hn : n ≤ 2097152) (hk : k ≤ 2097152) (hA : Rws w B A (ints (marksI k n))) :
    Calls Try.prog 18 #[.slice A n c, .int .i64 k] w fun e w' => e = .returned (.int .i64 ((k + n : Nat) : Int)) ∧ w = w' := by
  go_enter Try.func18, Try.ntmps18
  go_wp2
  go_loop [1, 5] (fun q i => ∃ j : Nat, j ≤ n ∧ i = .int .i64 j ∧ q = .int .i64 ((k + j : Nat) : Int)) (fun _ i => n - (intOf i).toNat)
  case atStart => exact ⟨0, by omega, rfl, rfl⟩
  case round =>
    obtain ⟨j, hj, rfl, rfl⟩ := hrel
    by_cases hlt : j < n
    · obtain ⟨b, off, rfl, hbB, hc⟩ := hA.int (i := j) (by rw [marksI_length]; exact hlt)
      rw [marksI_getD k n j hlt] at hc
      have hne : ((((k + j : Nat)) : Int) != (((k + j : Nat)) : Int)) = false := by simp
      generalize hq : k + j = q at *
      have HQ := Lib.hid hq
      have hql : q ≤ 4194304 := by omega
      clear hq
      go_wp2
      go_round
      case rel => exact ⟨j + 1, by omega, by go_num, by have := HQ.out; go_num⟩
      case measure => simp [intOf]; omega
    · obtain rfl : j = n := by omega
      go_wp2
      go_ret
      exact ⟨rfl, rfl⟩
set_option maxRecDepth 100000 in
set_option maxHeartbeats 400000 in
theorem markInt_any (A : Option Addr) (l : List Int) (k c base : Nat) (w : World) (hl : l.length ≤ 2097152) (hk : k ≤ 2097152) (hA : w.ownsRow base 3 1 (.slice A l.length c) l.length (ints l)) :
    Calls Try.prog 17 #[.slice A l.length c, .int .i64 k] w fun e w' => e = .returned (.int .i64 ((k + l.length : Nat) : Int)) ∧
      w'.ownsRow base 3 1 (.slice A l.length c) l.length (ints (marksI k l.length)) ∧ w.grownBy w' (Value.ownBlock (.slice A l.length c)) := by
  go_enter Try.func17, Try.ntmps17
  go_wp2
  go_loopw [1, 5] (fun q i wr => ∃ j : Nat, j ≤ l.length ∧ i = .int .i64 j ∧ q = .int .i64 ((k + j : Nat) : Int) ∧
      wr.ownsRow base 3 1 (.slice A l.length c) l.length (markedI l k j) ∧ w.grownBy wr (Value.ownBlock (.slice A l.length c))) (fun _ i _ => l.length - (intOf i).toNat)
  case atStart => exact ⟨0, by omega, rfl, rfl, by rw [markedI_zero]; exact hA, World.grownBy.refl _ _⟩
  case round =>
    obtain ⟨j, hj, rfl, rfl, hown, hgr⟩ := hrel
    by_cases hlt : j < l.length
    · obtain ⟨A', c', he, _, _, hp⟩ := own_form hA
      obtain ⟨g, rfl, hg⟩ := hp (by omega)
      obtain ⟨rfl, rfl⟩ : A = some ⟨g, 0, none⟩ ∧ c' = c := by injection he with h1 h2 h3; exact ⟨h1, h3.symm⟩
      have hcell := hown.cellAt j (by omega)
      have hsz : (markedI l k j).length = l.length := by simp [markedI, ints_len, marksI_length]; omega
      obtain ⟨u, hu⟩ : ∃ u, wr.cell? ⟨g, j, none⟩ = some u := by
        rw [hcell]; exact ⟨_, List.getElem?_eq_getElem (by omega)⟩
      have hfz := hown.frozenAt j
      have HST := Lib.hid (hown.stored j (.int .i64 ((k + j : Nat) : Int)))
      have HS := Lib.hid (markedI_set l k j hlt)
      have HG := Lib.hid hgr
      generalize hq : k + j = q at *
      have HQ := Lib.hid hq
      have hql : q ≤ 4194304 := by omega
      clear hq hown hgr hcell he hA hsz hp
      go_wp2
      go_roundw
      case rel => exact ⟨j + 1, by omega, by go_num, by have := HQ.out; go_num, by rw [← HS.out]; exact HST.out.1, HG.out.trans HST.out.2⟩
      case measure => simp [intOf]; omega
    · obtain rfl : j = l.length := by omega
      rw [markedI_all] at hown
      go_wp2
      go_ret
      exact ⟨rfl, hown, hgr⟩
theorem own_ints (w : World) (base : Nat) (l : List Int) (hb : base ≤ w.heap.size) (hl : l.length ≤ 2097152) :
    (w.alloc (.cells (ints l).toArray 3)).ownsRow base 3 1 (.slice (some ⟨w.heap.size, 0, none⟩) l.length l.length) l.length (ints l) := by
  refine ⟨by simp [ints_len], .inr ⟨_, _, _, rfl, hb, heap_alloc_new _ _, Nat.le_refl _, by unfold maxLen; omega, by simp [ints_len], ?_⟩⟩
  rw [Nat.mul_one, ← ints_len l]
  exact List.take_length
theorem own_weak {w : World} {base B e sz n : Nat} {v : Value} {cs : List Value} (h : w.ownsRow base e sz v n cs) (hB : B ≤ base) : w.ownsRow B e sz v n cs := by
  refine ⟨h.1, ?_⟩
  rcases h.2 with h2 | ⟨g, cap, cur, hv, hg, r⟩
  · exact .inl h2
  · exact .inr ⟨g, cap, cur, hv, by omega, r⟩
theorem own_set {w : World} {B e sz n q i : Nat} {v u : Value} {cs : List Value} (h : w.ownsRow B e sz v n cs) (hq : q < B) : (w.setCell ⟨q, i, none⟩ u).ownsRow B e sz v n cs :=
  own_cur h (Go.Lib.grownBy_setCell w q i u) hq
theorem rws_below {w w' : World} {A : Option Addr} {cs : List Value} (h : Rws w w.heap.size A cs) (hb : Below w.heap.size w w') : Rws w' w'.heap.size A cs := (h.below hb).more hb.size
set_option maxRecDepth 100000 in
set_option maxHeartbeats 800000 in
theorem l1Same_spec (A A' : Option Addr) (l l' : List Int) (c c' : Nat) (w : World) (hl : l.length ≤ 2097152) (hl' : l'.length ≤ 9223372036854775807) (hA : Rws w w.heap.size A (ints l)) (hA' : Rws w w.heap.size A' (ints l')) :
    Calls Try.prog 20 #[.slice A l.length c, .slice A' l'.length c'] w fun e w' => e = .returned (.bool (decide (l = l'))) ∧ Below w.heap.size w w' := by
  by_cases hlen : l.length = l'.length
  rotate_left
  · have hne : ((l.length : Int) != (l'.length : Int)) = true := by simp; omega
    rw [decide_eq_false (fun h => hlen (by rw [h]))]
    go_enter Try.func20, Try.ntmps20
    go_wp2
    go_ret
    exact ⟨rfl, Below.refl _ _⟩
  have hne : ((l.length : Int) != (l'.length : Int)) = false := by simp; omega
  go_enter Try.func20, Try.ntmps20
  go_wp2
  go_loopw [5] (fun i wr => ∃ k n : Nat, k ≤ l.length ∧ i = .int .i64 k ∧ (∀ j, j < k → l.getD j 0 = l'.getD j 0) ∧ wr = w.drewN n) (fun i _ => l.length - (intOf i).toNat)
  case atStart => exact ⟨0, 0, by omega, rfl, (fun j hj => by omega), rfl⟩
  case round =>
    obtain ⟨k, n, hk, rfl, hall, rfl⟩ := hrel
    by_cases hlt : k < l.length
    · obtain ⟨b, off, rfl, hbB, hc⟩ := hA.int hlt
      obtain ⟨b', off', rfl, hbB', hc'⟩ := hA'.int (i := k) (by omega)
      by_cases hx : l.getD k 0 = l'.getD k 0
      · have hall' : ∀ j, j < k + 1 → l.getD j 0 = l'.getD j 0 := by
          intro j hj
          by_cases e : j = k
          · subst e; exact hx
          · exact hall j (by omega)
        have HA := Lib.hid hall'
        rw [← hx] at hc'
        clear hall hall' hx
        generalize l.getD k 0 = x at *
        have hx : (x != x) = false := by simp
        go_wp2_with fail
        go_quiet (fail)
        go_wp2
        go_roundw
        case rel => exact ⟨k + 1, _, by omega, by go_num, HA.out, rfl⟩
        case measure => simp [intOf]; omega
      · have HN : Hid (decide (l = l') = false) := by show _ = _; exact decide_eq_false (fun h => hx (by subst h; rfl))
        have hxb : (l.getD k 0 != l'.getD k 0) = true := by simp only [bne_iff_ne, ne_eq]; exact hx
        clear hall
        generalize l.getD k 0 = x at *
        generalize l'.getD k 0 = y at *
        go_wp2_with fail
        go_quiet (fail)
        go_wp2
        go_ret
        exact ⟨by rw [HN.out] <;> rfl, below_drawn (below_drawn (Below.refl _ _) _) _⟩
    · have HY : Hid (decide (l = l') = true) := by
        show _ = _
        refine decide_eq_true (List.ext_getElem hlen fun j h1 h2 => ?_)
        have := hall j (by omega)
        rwa [List.getD_eq_getElem?_getD, List.getElem?_eq_getElem h1, List.getD_eq_getElem?_getD, List.getElem?_eq_getElem h2] at this
      clear hall
      go_wp2
      go_ret
      exact ⟨by rw [HY.out] <;> rfl, below_drawn (Below.refl _ _) _⟩
theorem own_ne_type {w : World} {B e sz n g : Nat} {v : Value} {cs : List Value} {cs2 : Array Value} {t : TypeId} {fr : Nat × Nat} (h : w.ownsRow B e sz v n cs) (hg : w.heap[g]? = some (.cells cs2 t fr)) (hte : t ≠ e) : v.ownBlock ≠ some g := by
  rcases h.2 with ⟨rfl, _⟩ | ⟨k, cap, cur, rfl, _, hk, _⟩
  · intro hh; cases hh
  · intro hh
    injection hh with hh
    have hh : k = g := hh
    subst hh
    rw [hg] at hk
    injection hk with hk
    injection hk with _ h2 _
    exact hte h2
theorem own_kept2 {w w' : World} {B e sz n : Nat} {v : Value} {cs : List Value} {row : Option Nat} (h : w.ownsRow B e sz v n cs) (g : w.grownBy w' row) (hne : ∀ k, v.ownBlock = some k → row = some k → False) : w'.ownsRow B e sz v n cs := by
  refine h.kept g ?_
  rcases hv : v.ownBlock with _ | k
  · exact .inl rfl
  · exact .inr fun q => hne k hv q.symm
theorem own_cap {w : World} {B e sz n m c : Nat} {A : Option Addr} {cs : List Value} (h : w.ownsRow B e sz (.slice A n c) m cs) : m ≤ c := by
  obtain ⟨_, _, he, h2, _⟩ := own_form h
  injection he with _ _ h3
  rw [h3]; exact h2
/-- A request. -/
structure Rq where
  kind : Int
  id : Int
  cabin : Int
  from_ : Int
  size : Int
  tier : Int
def rqC (x : Rq) : List Value := [.int .i64 x.kind, .int .i64 x.id, .int .i64 x.cabin, .int .i64 x.from_, .int .i64 x.size, .int .i64 x.tier]
def rqA (x : Rq) : Value := .agg #[.int .i64 x.kind, .int .i64 x.id, .int .i64 x.cabin, .int .i64 x.from_, .int .i64 x.size, .int .i64 x.tier]
def rq0 : Rq := ⟨0, 0, 0, 0, 0, 0⟩
theorem rqC_len (x : Rq) : (rqC x).length = 6 := rfl
theorem rqC_one (l : List Rq) : ∀ u ∈ l.flatMap rqC, u.oneCell' = true := by
  intro u hu
  obtain ⟨x, _, hx⟩ := List.mem_flatMap.1 hu
  simp [rqC] at hx
  rcases hx with rfl | rfl | rfl | rfl | rfl | rfl <;> rfl
/-- The cells of x lie there. -/
def Rq.here (w : World) (b off : Nat) (x : Rq) : Prop := w.cell? ⟨b, off, none⟩ = some (.int .i64 x.kind) ∧ w.cell? ⟨b, off + 1, none⟩ = some (.int .i64 x.id) ∧ w.cell? ⟨b, off + 2, none⟩ = some (.int .i64 x.cabin) ∧ w.cell? ⟨b, off + 3, none⟩ = some (.int .i64 x.from_) ∧ w.cell? ⟨b, off + 4, none⟩ = some (.int .i64 x.size) ∧ w.cell? ⟨b, off + 5, none⟩ = some (.int .i64 x.tier)
theorem Rws.rq {w : World} {B : Nat} {A : Option Addr} {l : List Rq} (h : Rws w B A (l.flatMap rqC)) {i : Nat} (hi : i < l.length) :
    ∃ b off, A = some ⟨b, off, none⟩ ∧ b < B ∧ Rq.here w b (off + i * 6) (l.getD i rq0) := by
  obtain ⟨b, off, e, hb, hc⟩ := Rws.el rqC_len h (by omega) rq0 hi
  exact ⟨b, off, e, hb, hc 0 (by omega), hc 1 (by omega), hc 2 (by omega), hc 3 (by omega), hc 4 (by omega), hc 5 (by omega)⟩
theorem Rq.here.below {w w' : World} {b off : Nat} {x : Rq} (h : Rq.here w b off x) (hb : Below w.heap.size w w') (hl : b < w.heap.size) : Rq.here w' b off x := by
  obtain ⟨h0, h1, h2, h3, h4, h5⟩ := h
  exact ⟨(hb.cell (by exact hl)).trans h0, (hb.cell (by exact hl)).trans h1, (hb.cell (by exact hl)).trans h2, (hb.cell (by exact hl)).trans h3, (hb.cell (by exact hl)).trans h4, (hb.cell (by exact hl)).trans h5⟩
theorem Rq.here.blk {w : World} {b : Nat} {x : Rq} {t : TypeId} (h : w.heap[b]? = some (.cells #[.int .i64 x.kind, .int .i64 x.id, .int .i64 x.cabin, .int .i64 x.from_, .int .i64 x.size, .int .i64 x.tier] t)) : Rq.here w b 0 x := by
  have c0 := cell_of_row _ _ 0 _ _ _ h
  have c1 := cell_of_row _ _ 1 _ _ _ h
  have c2 := cell_of_row _ _ 2 _ _ _ h
  have c3 := cell_of_row _ _ 3 _ _ _ h
  have c4 := cell_of_row _ _ 4 _ _ _ h
  have c5 := cell_of_row _ _ 5 _ _ _ h
  simp at c0 c1 c2 c3 c4 c5
  exact ⟨c0, c1, c2, c3, c4, c5⟩
theorem take_succ_getD {α : Type} (l : List α) (k : Nat) (d : α) (h : k < l.length) : l.take (k + 1) = l.take k ++ [l.getD k d] := by
  rw [List.take_add_one, List.getElem?_eq_getElem h, List.getD_eq_getElem?_getD, List.getElem?_eq_getElem h]; rfl
theorem own_nil {w : World} {B e sz n m c : Nat} {A : Option Addr} {cs : List Value} (h : w.ownsRow B e sz (.slice A n c) m cs) : A = none → c = 0 := by
  rcases h.2 with ⟨hv, hn⟩ | ⟨g, cap, cur, hv, _⟩
  · injection hv with h1 h2 h3; intro _; exact h3
  · injection hv with h1 h2 h3; subst h1; intro h; cases h
set_option maxRecDepth 100000 in
set_option maxHeartbeats 800000 in
theorem equal_ints (A A' : Option Addr) (l l' : List Int) (c c' : Nat) (w : World) (hl : l.length ≤ 4194304) (hl' : l'.length ≤ 9223372036854775807) (hA : Rws w w.heap.size A (ints l)) (hA' : Rws w w.heap.size A' (ints l')) :
    Calls Try.prog 22 #[.slice A l.length c, .slice A' l'.length c'] w fun e w' => e = .returned (.bool (decide (l = l'))) ∧ Below w.heap.size w w' := by
  by_cases hlen : l.length = l'.length
  rotate_left
  · have hne : ((l.length : Int) != (l'.length : Int)) = true := by simp; omega
    rw [decide_eq_false (fun h => hlen (by rw [h]))]
    go_enter Try.func22, Try.ntmps22
    go_wp2
    go_ret
    exact ⟨rfl, Below.refl _ _⟩
  have hne : ((l.length : Int) != (l'.length : Int)) = false := by simp; omega
  go_enter Try.func22, Try.ntmps22
  go_wp2
  go_loopw [13] (fun i wr => ∃ k n : Nat, k ≤ l.length ∧ i = .int .i64 k ∧ (∀ j, j < k → l.getD j 0 = l'.getD j 0) ∧ wr = w.drewN n) (fun i _ => l.length - (intOf i).toNat)
  case atStart => exact ⟨0, 0, by omega, rfl, (fun j hj => by omega), rfl⟩
  case round =>
    obtain ⟨k, n, hk, rfl, hall, rfl⟩ := hrel
    by_cases hlt : k < l.length
    · obtain ⟨b, off, rfl, hbB, hc⟩ := hA.int hlt
      obtain ⟨b', off', rfl, hbB', hc'⟩ := hA'.int (i := k) (by omega)
      by_cases hx : l.getD k 0 = l'.getD k 0
      · have hall' : ∀ j, j < k + 1 → l.getD j 0 = l'.getD j 0 := by
          intro j hj
          by_cases e : j = k
          · subst e; exact hx
          · exact hall j (by omega)
        have HA := Lib.hid hall'
        rw [← hx] at hc'
        clear hall hall' hx
        generalize l.getD k 0 = x at *
        have hx : (x != x) = false := by simp
        go_wp2_with fail
        go_quiet (fail)
        go_wp2
        go_roundw
        case rel => exact ⟨k + 1, _, by omega, by go_num, HA.out, rfl⟩
        case measure => simp [intOf]; omega
      · have HN : Hid (decide (l = l') = false) := by show _ = _; exact decide_eq_false (fun h => hx (by subst h; rfl))
        have hxb : (l.getD k 0 != l'.getD k 0) = true := by simp only [bne_iff_ne, ne_eq]; exact hx
        clear hall
        generalize l.getD k 0 = x at *
        generalize l'.getD k 0 = y at *
        go_wp2_with fail
        go_quiet (fail)
        go_wp2
        go_ret
        exact ⟨by rw [HN.out] <;> rfl, below_drawn (below_drawn (Below.refl _ _) _) _⟩
    · have HY : Hid (decide (l = l') = true) := by
        show _ = _
        refine decide_eq_true (List.ext_getElem hlen fun j h1 h2 => ?_)
        have := hall j (by omega)
        rwa [List.getD_eq_getElem?_getD, List.getElem?_eq_getElem h1, List.getD_eq_getElem?_getD, List.getElem?_eq_getElem h2] at this
      clear hall
      go_wp2
      go_ret
      exact ⟨by rw [HY.out] <;> rfl, below_drawn (Below.refl _ _) _⟩
/-- The row of a slice is of its type. -/
theorem own_typed2 {w : World} {B e sz n : Nat} {v : Value} {cs : List Value} (h : w.ownsRow B e sz v n cs) : ∀ k, v.ownBlock = some k → ∃ cur, w.heap[k]? = some (.cells cur e (0, 0)) := by
  intro k hk
  rcases h.2 with ⟨hv, _⟩ | ⟨g, cap, cur, hv, _, hg, _⟩
  · rw [hv] at hk; cases hk
  · rw [hv] at hk; injection hk with hk; subst hk; exact ⟨cur, hg⟩
theorem rws_grown {w w' : World} {B : Nat} {A : Option Addr} {cs : List Value} {row : Option Nat} (h : Rws w B A cs) (g : w.grownBy w' row) (hne : ∀ j, row = some j → ∀ ad, A = some ad → ad.block ≠ j) : Rws w' B A cs := by
  rcases h with h | ⟨b, off, e, hb, hc⟩
  · exact .inl h
  · refine .inr ⟨b, off, e, hb, fun k hk => ?_⟩
    have h1 := hc k hk
    rw [List.getElem?_eq_getElem hk] at h1 ⊢
    exact World.grownBy.cell g h1 (fun q => hne b q.symm _ e rfl)
theorem ownBlock_eq (A : Option Addr) (n c : Nat) : (Value.slice A n c).ownBlock = A.map (·.block) := by cases A <;> rfl
/-- Only blocks of P may have changed. -/
structure Tch (P : Nat → Prop) (w w' : World) : Prop where
  os : w'.os = w.os
  tape : w'.tape = w.tape
  output : w'.output = w.output
  size : w.heap.size ≤ w'.heap.size
  block : ∀ i, i < w.heap.size → ¬ P i → w'.heap[i]? = w.heap[i]?
theorem Tch.refl (P : Nat → Prop) (w : World) : Tch P w w := ⟨rfl, rfl, rfl, Nat.le_refl _, fun _ _ _ => rfl⟩
theorem Tch.trans {P : Nat → Prop} {a b c : World} (h : Tch P a b) (k : Tch P b c) : Tch P a c :=
  ⟨k.os.trans h.os, k.tape.trans h.tape, k.output.trans h.output, Nat.le_trans h.size k.size, fun i hi hp => (k.block i (Nat.lt_of_lt_of_le hi h.size) hp).trans (h.block i hi hp)⟩
theorem Tch.of_grown {P : Nat → Prop} {w w' : World} {row : Option Nat} (g : w.grownBy w' row) (h : ∀ i, row = some i → P i) : Tch P w w' :=
  ⟨g.os, g.tape, g.output, g.size, fun i hi hp => g.block i hi (fun e => hp (h i e.symm))⟩
theorem Tch.below {P : Nat → Prop} {w w' : World} {B : Nat} (t : Tch P w w') (hB : B ≤ w.heap.size) (h : ∀ i, P i → B ≤ i) : Below B w w' :=
  ⟨t.os, t.tape, t.output, t.size, fun i hi => t.block i (by omega) (fun hp => by have := h i hp; omega)⟩
theorem Tch.own {P : Nat → Prop} {w w' : World} {B e sz n : Nat} {v : Value} {cs : List Value} (t : Tch P w w') (h : w.ownsRow B e sz v n cs) (hp : ∀ g, v.ownBlock = some g → ¬ P g) : w'.ownsRow B e sz v n cs := by
  refine ⟨h.1, ?_⟩
  rcases h.2 with h2 | ⟨g, cap, cur, hv, hg, hh, r⟩
  · exact .inl h2
  · exact .inr ⟨g, cap, cur, hv, hg, by rw [t.block g (Array.getElem?_eq_some_iff.1 hh).1 (hp g (by rw [hv]; rfl))]; exact hh, r⟩
theorem Tch.blk {P : Nat → Prop} {w w' : World} {r : Nat} {o : Obj} (t : Tch P w w') (h : w.heap[r]? = some o) (hp : ¬ P r) : w'.heap[r]? = some o := by
  rw [t.block r (Array.getElem?_eq_some_iff.1 h).1 hp]; exact h
/-- toReqS halfway: k are copied over the cells Z. -/
def half_rq (Z : List Value) (l : List Rq) (k : Nat) : List Value := (l.take k).flatMap rqC ++ Z.drop (k * 6)
end Go.Proofs.Ytpnkkmeeogfeaaa
