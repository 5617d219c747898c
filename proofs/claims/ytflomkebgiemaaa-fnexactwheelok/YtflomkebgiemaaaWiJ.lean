/- A range over an iterator with a row of its own; pinsInOrder of the program. -/
import Derived.Test.YtflomkebgiemaaaRows
import Derived.Test.YtflomkebgiemaaaWiA
import Derived.RangeFuncNested
import Derived.RangeFuncBox
import Derived.RangeFuncBound
import Derived.RangeFuncCalls
import Derived.RangeFuncLeaves
import Derived.Shelf.Abstract
import Derived.Shelf.RegionOpen
import Derived.OwnWalkIn
import Derived.TacticsInMore
import Derived.LoopNIn
import Derived.LoopIn
namespace Go.Proofs.Ytflomkebgiemaaa
open Go.RowKit Go.Shelf
set_option linter.unusedSimpArgs false
set_option linter.unusedVariables false
attribute [local go_sem] Oper.semAt_some
/-- The contract of an iterator that has laid blocks of its own (the first d + 1 since its call) and writes into it between two rounds: the loop's invariants must not speak of these blocks, and a round must leave them alone. -/
def SeqRow {α : Type} (F : Fence) (n : Nat) (P : Program) (g : Nat) (lb : Array Value) (encs : α → Array Value) (n₀ d : Nat) (S Sp : List α → Prop) (N : Nat) (w : World) : Prop :=
  ∀ (l : Nat) (J Jx : List α → World → Prop) (W : World), Below w.heap.size w W →
    (∀ s A B, J s A → Tch (fun k => W.heap.size ≤ k ∧ k ≤ W.heap.size + d) A B → J s B) → (∀ s A B, Jx s A → Tch (fun k => W.heap.size ≤ k ∧ k ≤ W.heap.size + d) A B → Jx s B) →
    (∀ pre x W1, J pre W1 → pre.length < N → W.heap.size + d < W1.heap.size → YieldAt F (n - 1) P l (encs x) W1 fun e W' =>
      (e = .returned (.bool true) ∧ J (pre ++ [x]) W' ∧ Below n₀ W1 W' ∧ ∀ k, W.heap.size ≤ k → k ≤ W.heap.size + d → W'.heap[k]? = W1.heap[k]?) ∨ (e = .returned (.bool false) ∧ Jx (pre ++ [x]) W')) →
    J [] W →
    CallsIn F n P g (#[.func (.yield l) #[] #[]] ++ lb) W fun e W' => (∃ v, e = .returned v) ∧ ((∃ xs, S xs ∧ J xs W') ∨ (∃ pre, Sp pre ∧ Jx pre W'))
/-- The blocks that the loop and its iterator hold: the deferred calls', the record, the iterator's. -/
def Rng (B d k : Nat) : Prop := B ≤ k ∧ k ≤ B + 2 + d
/-- What a round may have touched. -/
def RdT (n₀ B d : Nat) (W W' : World) : Prop := Tch (fun k => n₀ ≤ k ∧ ¬ Rng B d k) W W'
theorem RdT.trans {n₀ B d : Nat} {a b c : World} (h : RdT n₀ B d a b) (k : RdT n₀ B d b c) : RdT n₀ B d a c := Tch.trans h k
theorem RdT.refl {n₀ B d : Nat} (a : World) : RdT n₀ B d a a := Tch.refl _ a
theorem RdT.below {n₀ B d : Nat} {W W' : World} (h : RdT n₀ B d W W') (hn : n₀ ≤ W.heap.size) : Below n₀ W W' := Tch.below h hn (fun i hi => hi.1)
theorem RdT.hold {n₀ B d k : Nat} {W W' : World} (h : RdT n₀ B d W W') (hk : Rng B d k) (hl : k < W.heap.size) : W'.heap[k]? = W.heap[k]? := h.block k hl (fun hp => hp.2 hk)
theorem Tch.put {P : Nat → Prop} (W : World) (l : Nat) (o : Obj) (h : P l) : Tch P W (W.putObj l o) := Tch.of_grown (grownBy_putObj' W l o) (fun i e => by cases e; exact h)
/-- How a round's body may be left. -/
def rowPost {α : Type} (T : World → World → Prop) (I : List α → World → Prop) (Ix : Code → List α → World → Prop) (xs : List α) (W : World) : Exit → Act → World → Prop
  | .normal, _, W' => T W W' ∧ I xs W'
  | .ret, _, W' => T W W' ∧ Ix .ret xs W'
  | .exit id, _, W' => T W W' ∧ Ix (.exit id) xs W'
  | .goto t, _, W' => T W W' ∧ Ix (.goto t) xs W'
  | .panic _, _, _ => False
  | .outgrown, _, _ => False
set_option maxHeartbeats 4000000 in
theorem wpIn_rangeFunc_row {F : Fence} {n : Nat} {P : Program} {α : Type} {g : Operand} {ps : Array Tmp} {assign body : Code} {Q : Exit → Act → World → Prop} {a : Act} {w : World}
    (hro : F.round = none) (h1 : 1 ≤ n) {gf : Nat} {lb : Array Value} (hg : a.eval g = .func (.func gf) #[] lb) (hFg : F.fn gf) (eg : ∀ args w, (callFunc gf args).run P w = .ok (.enter gf args) w)
    {encs : α → Array Value} {n₀ d : Nat} {S Sp : List α → Prop} {N : Nat} (hseq : SeqRow F (n - 1) P gf lb encs n₀ d S Sp N w) (hn₀ : n₀ ≤ w.heap.size) (hps : ∀ x, (encs x).size = ps.size)
    (I : List α → World → Prop) (Ix : Code → List α → World → Prop) (hI : ∀ s A B, I s A → Tch (Rng w.heap.size d) A B → I s B) (hIx : ∀ c s A B, Ix c s A → Tch (Rng w.heap.size d) A B → Ix c s B) (h0 : I [] w)
    (Ax : α → Act → World → Prop) (hAx : ∀ x a' A B, Ax x a' A → Tch (Rng w.heap.size d) A B → Ax x a' B)
    (hassign : ∀ (l : Nat) (pre : List α) (x : α) (W : World) (K : Act → World → Prop), I pre W → w.heap.size + 2 + d < W.heap.size → (∀ a' W', RdT n₀ w.heap.size d W W' → I pre W' → Ax x a' W' → K a' W') →
      assign.wpIn (F.inRound l) (n - 1 - 1) P (Exit.then K (fun _ _ _ => False)) { tmps := (ps.zip (encs x)).foldl (fun t (p, v) => t.setIfInBounds p v) a.tmps, defers := [] } W)
    (hbody : ∀ (l : Nat) (pre : List α) (x : α) (a' : Act) (W : World), I pre W → Ax x a' W → pre.length < N → w.heap.size + 2 + d < W.heap.size → body.wpIn (F.inRound l) (n - 1 - 1) P (rowPost (RdT n₀ w.heap.size d) I Ix (pre ++ [x]) W) a' W)
    (hdone : ∀ (D : Nat) (xs : List α) (W : World), w.heap.size ≤ D → S xs → I xs W → W.heap[D]? = some (.deferred (some [])) → Q .normal { a with defers := { target := .collected D, args := #[] } :: a.defers } W)
    (hstop : ∀ (D : Nat) (c : Code) (pre : List α) (W : World), w.heap.size ≤ D → Sp pre → Ix c pre W → W.heap[D]? = some (.deferred (some [])) → c.wpIn F n P Q { a with defers := { target := .collected D, args := #[] } :: a.defers } W) :
    (Code.rangeFunc g ps assign body).wpIn F n P Q a w := by
  refine wpIn_rangeFunc ?_
  intro fn hfn
  rw [hro]
  obtain ⟨B, hB⟩ : ∃ B, B = w.heap.size := ⟨_, rfl⟩
  obtain ⟨rc, hrc⟩ : ∃ rc : LoopState → Option Code → Loop, rc = fun st pe => { state := st, pending := pe, fn, tmps := a.tmps, params := ps, assign, body, defers := B } := ⟨_, rfl⟩
  obtain ⟨W1, hW1⟩ : ∃ W1, (w.alloc (.deferred (some []))).alloc (.loop (rc .ready none)) = W1 := ⟨_, rfl⟩
  have hL1 : W1.heap[B + 1]? = some (.loop (rc .ready none)) := by
    rw [← hW1, hB]
    have := World.alloc_heap_new (w.alloc (.deferred (some []))) (.loop (rc .ready none))
    rwa [World.size_alloc] at this
  have hK1 : W1.heap[B]? = some (.deferred (some [])) := by
    rw [← hW1, hB]; exact (Below.heap_alloc _ _ _ (by simp)).trans (World.alloc_heap_new w _)
  have hs1 : W1.heap.size = B + 2 := by rw [← hW1, hB]; simp
  have hb1 : Below w.heap.size w W1 := by rw [← hW1]; exact ((Below.refl _ w).alloc (Nat.le_refl _) _).alloc (by simp) _
  have hR0 : Rng B d B := ⟨Nat.le_refl _, by omega⟩
  have hR1 : Rng B d (B + 1) := ⟨by omega, by omega⟩
  have hR2 : Rng B d (B + 2 + d) := ⟨by omega, Nat.le_refl _⟩
  rw [← hB] at hI hIx hAx hassign hbody hdone hstop hn₀
  have hI1 : I [] W1 := hI _ _ _ h0 (Tch.of_below hb1)
  have hrun : (Instr.enterLoop fn a.tmps ps assign body none).run P w = .ok (B + 1, [{ target := .collected B, args := #[] }]) W1 := by
    rw [← hW1, hrc, hB]; exact run_enterLoop_outer _ _ _ _ _
  refine ⟨B + 1, [{ target := .collected B, args := #[] }], W1, { target := .fn (.func gf) lb, args := #[.func (.yield (B + 1)) #[] #[]] }, W1, gf,
    #[.func (.yield (B + 1)) #[] #[]] ++ lb, W1, hrun, ?_, ?_, ?_, fun _ => h1, ?_⟩
  · simp only [resolve, hg]
    simp [go_sem]
  · intro f' hf'; simp [Target.leads] at hf'; subst hf'; exact hFg
  · simp [invoke, go_sem, eg]
  have hm : W1.heap.size + d = B + 2 + d := by omega
  have tm : ∀ {A C : World}, Tch (fun k => W1.heap.size ≤ k ∧ k ≤ W1.heap.size + d) A C → Tch (Rng B d) A C := fun t => ⟨t.os, t.tape, t.output, t.size, fun i hi hp => t.block i hi (fun e => hp ⟨by omega, by omega⟩)⟩
  have keep : ∀ {A C : World} {k : Nat} {o : Obj}, Tch (fun k => W1.heap.size ≤ k ∧ k ≤ W1.heap.size + d) A C → A.heap[k]? = some o → k < B + 2 → C.heap[k]? = some o := fun t hk hl => (t.block _ (Array.getElem?_eq_some_iff.1 hk).1 (by omega)).trans hk
  refine (hseq (B + 1)
    (fun pre W => I pre W ∧ W.heap[B + 1]? = some (.loop (rc .ready none)) ∧ W.heap[B]? = some (.deferred (some [])))
    (fun pre W => ∃ c, Ix c pre W ∧ W.heap[B + 1]? = some (.loop (rc .done (some c))) ∧ W.heap[B]? = some (.deferred (some [])))
    W1 hb1
    (fun s A C hs t => ⟨hI _ _ _ hs.1 (tm t), keep t hs.2.1 (by omega), keep t hs.2.2 (by omega)⟩)
    (fun s A C hs t => by
      obtain ⟨c, hc, hl, hk⟩ := hs
      exact ⟨c, hIx _ _ _ _ hc (tm t), keep t hl (by omega), keep t hk (by omega)⟩)
    ?_ ⟨hI1, hL1, hK1⟩).mono ?_
  · -- one round
    rintro pre x W ⟨hi, hl, hk⟩ hlen hbig
    rw [hm] at hbig
    have hy := run_yield (P := P) (args := encs x) hl (by rw [hrc]; exact hps x)
    rw [hrc] at hy
    refine ⟨fn, _, assign, body, hy, roundIn_of_wpIn hfn (hassign _ pre x W _ hi hbig (fun a' W' hT hi' hx' => ?_))⟩
    have hl' : W'.heap[B + 1]? = some (.loop (rc .ready none)) := (hT.hold hR1 (by omega)).trans hl
    have hk' : W'.heap[B]? = some (.deferred (some [])) := (hT.hold hR0 (by omega)).trans hk
    have hsz' := hT.size
    refine ⟨_, run_beginRound hl' (by rw [hrc]), ?_⟩
    obtain ⟨W2, hW2⟩ : ∃ W2, W'.putObj (B + 1) (.loop { rc .ready none with state := .busy }) = W2 := ⟨_, rfl⟩
    have hl2 : W2.heap[B + 1]? = some (.loop { rc .ready none with state := .busy }) := by rw [← hW2]; exact World.putObj_heap_same (by omega)
    have hk2 : W2.heap[B]? = some (.deferred (some [])) := by rw [← hW2]; exact (World.putObj_heap_other (by omega)).trans hk'
    have hm2 : ∀ k, B + 2 ≤ k → W2.heap[k]? = W'.heap[k]? := fun k hk => by rw [← hW2]; exact World.putObj_heap_other (by omega)
    have t2 : Tch (Rng B d) W' W2 := by rw [← hW2]; exact Tch.put _ _ _ hR1
    have hz2 := t2.size
    have hbel2 : Below n₀ W W2 := (hT.below (by omega)).trans (t2.below (by omega) (fun i hi => Nat.le_trans hn₀ hi.1))
    rw [hW2]
    refine wpIn_mono (hbody _ pre x a' W2 (hI _ _ _ hi' t2) (hAx _ _ _ _ hx' t2) hlen (by omega)) ?_
    have fin : ∀ (jump : Option Code) (W3 : World), RdT n₀ B d W2 W3 →
        (Instr.endRound (B + 1) jump).run P W3 = .ok (.bool jump.isNone) (W3.putObj (B + 1) (.loop (rc (if jump.isNone then .ready else .done) jump))) ∧
        (W3.putObj (B + 1) (.loop (rc (if jump.isNone then .ready else .done) jump))).heap[B + 1]? = some (.loop (rc (if jump.isNone then .ready else .done) jump)) ∧
        (W3.putObj (B + 1) (.loop (rc (if jump.isNone then .ready else .done) jump))).heap[B]? = some (.deferred (some [])) ∧
        Tch (Rng B d) W3 (W3.putObj (B + 1) (.loop (rc (if jump.isNone then .ready else .done) jump))) := fun jump W3 h3 => by
      have hl3 : W3.heap[B + 1]? = some (.loop { rc .ready none with state := .busy }) := (h3.hold hR1 (by omega)).trans hl2
      have hk3 : W3.heap[B]? = some (.deferred (some [])) := (h3.hold hR0 (by omega)).trans hk2
      have he := run_endRound (P := P) jump hl3
      rw [hrc] at he ⊢
      exact ⟨he, World.putObj_heap_same (Array.getElem?_eq_some_iff.1 hl3).1, (World.putObj_heap_other (by omega)).trans hk3, Tch.put _ _ _ hR1⟩
    rintro e a3 W3 hp
    cases e with
    | normal =>
      obtain ⟨h3, hi3⟩ := hp
      obtain ⟨hr, hl4, hk4, t4⟩ := fin none W3 h3
      have hz3 := h3.size
      refine ⟨_, _, hr, .inl ⟨rfl, ⟨hI _ _ _ hi3 t4, hl4, hk4⟩, (hbel2.trans (h3.below (by omega))).trans (t4.below (by omega) (fun i hi => Nat.le_trans hn₀ hi.1)), ?_⟩⟩
      intro k hk1 hk2
      have hRk : Rng B d k := ⟨by omega, by omega⟩
      rw [World.putObj_heap_other (by omega), h3.hold hRk (by omega), hm2 k (by omega), hT.hold hRk (by omega)]
    | ret =>
      obtain ⟨h3, hi3⟩ := hp
      obtain ⟨hr, hl4, hk4, t4⟩ := fin (some .ret) W3 h3
      exact ⟨_, _, hr, .inr ⟨rfl, .ret, hIx _ _ _ _ hi3 t4, hl4, hk4⟩⟩
    | exit id =>
      obtain ⟨h3, hi3⟩ := hp
      obtain ⟨hr, hl4, hk4, t4⟩ := fin (some (.exit id)) W3 h3
      exact ⟨_, _, hr, .inr ⟨rfl, .exit id, hIx _ _ _ _ hi3 t4, hl4, hk4⟩⟩
    | goto t =>
      obtain ⟨h3, hi3⟩ := hp
      obtain ⟨hr, hl4, hk4, t4⟩ := fin (some (.goto t)) W3 h3
      exact ⟨_, _, hr, .inr ⟨rfl, .goto t, hIx _ _ _ _ hi3 t4, hl4, hk4⟩⟩
    | panic ch => exact hp.elim
    | outgrown => exact hp.elim
  · -- behind the iterator
    rintro e W2 ⟨⟨v, rfl⟩, (⟨xs, hS, hi, hl, hk⟩ | ⟨pre, hSp, c, hi, hl, hk⟩)⟩
    · have he := run_endLoop (P := P) hl (by rw [hrc]; simp)
      rw [hrc] at he
      exact ⟨none, _, he, hdone _ xs _ (Nat.le_refl _) hS (hI _ _ _ hi (Tch.put _ _ _ hR1)) ((World.putObj_heap_other (by omega)).trans hk)⟩
    · have he := run_endLoop (P := P) hl (by rw [hrc]; simp)
      rw [hrc] at he
      exact ⟨some c, _, he, hstop _ c pre _ (Nat.le_refl _) hSp (hIx _ _ _ _ hi (Tch.put _ _ _ hR1)) ((World.putObj_heap_other (by omega)).trans hk)⟩
theorem sort_head {q q' : List Pn} {x : Pn} (hd : Distinct q) (hp : q.Perm (x :: q')) (hm : ∀ y ∈ q', Pn.less x y) : sortPn q = x :: sortPn q' := by
  obtain ⟨h1, h2⟩ := sort_ok hd
  have hd2 : Distinct q' := (List.pairwise_cons.1 (hd.perm hp)).2
  obtain ⟨h3, h4⟩ := sort_ok hd2
  refine List.Perm.eq_of_pairwise (fun a b _ _ ha hb => absurd (less_trans ha hb) (fun h => less_irrefl h)) h1 (List.pairwise_cons.2 ⟨fun y hy => hm y (h4.mem_iff.1 hy), h3⟩) ?_
  exact (h2.trans hp).trans (h4.symm.cons x)
theorem mem_all {lf : List Sp} {y : Pn} : y ∈ allPn lf ↔ ∃ s ∈ lf, y ∈ s.l := by unfold allPn; exact List.mem_flatMap
theorem all_cut (lf : List Sp) (j : Nat) (h : j < lf.length) (s : Sp) : allPn lf = allPn (lf.take j) ++ ((lf.getD j sp0).l ++ allPn (lf.drop (j + 1))) ∧ allPn (lf.set j s) = allPn (lf.take j) ++ (s.l ++ allPn (lf.drop (j + 1))) := by
  have e1 : lf.set j s = lf.take j ++ s :: lf.drop (j + 1) := List.set_eq_take_append_cons_drop .. |>.trans (by rw [if_pos h])
  constructor
  · conv => lhs; rw [← List.take_append_drop j lf, drop_getD lf j sp0 h]
    unfold allPn; simp [List.flatMap_append, List.flatMap_cons]
  · rw [e1]; unfold allPn; simp [List.flatMap_append, List.flatMap_cons]
theorem best_end {lf : List Sp} (h : bestF lf lf.length < 0) : allPn lf = [] := by
  rcases bestF_ok lf lf.length with ⟨_, hall⟩ | ⟨b, e, _⟩
  · refine List.eq_nil_iff_forall_not_mem.2 fun y hy => ?_
    obtain ⟨s, hs, hy⟩ := mem_all.1 hy
    obtain ⟨i, hi, rfl⟩ := List.getElem_of_mem hs
    have := hall i hi
    rw [List.getD_eq_getElem?_getD, List.getElem?_eq_getElem hi] at this
    rw [Option.getD_some] at this
    rw [this] at hy; cases hy
  · omega
theorem best_step {lf : List Sp} {j : Nat} (hb : bestF lf lf.length = (j : Int)) (hd : Distinct (allPn lf)) (hs : ∀ s ∈ lf, s.l.Pairwise Pn.less) :
    j < lf.length ∧ ∃ x r, (lf.getD j sp0).l = x :: r ∧ ∀ a' c', sortPn (allPn lf) = x :: sortPn (allPn (lf.set j ⟨a', c', r⟩)) ∧ Distinct (allPn (lf.set j ⟨a', c', r⟩)) ∧ (∀ s ∈ lf.set j ⟨a', c', r⟩, s.l.Pairwise Pn.less) ∧ (allPn lf).length = (allPn (lf.set j ⟨a', c', r⟩)).length + 1 := by
  rcases bestF_ok lf lf.length with ⟨h, _⟩ | ⟨b, e, hjl, hpos, hall⟩
  · omega
  obtain rfl : b = j := by omega
  refine ⟨hjl, ?_⟩
  obtain ⟨x, r, hxr⟩ : ∃ x r, (lf.getD b sp0).l = x :: r := by
    cases h : (lf.getD b sp0).l with
    | nil => rw [h] at hpos; simp at hpos
    | cons x r => exact ⟨x, r, rfl⟩
  refine ⟨x, r, hxr, fun a' c' => ?_⟩
  obtain ⟨e1, e2⟩ := all_cut lf b hjl ⟨a', c', r⟩
  have hperm : (allPn lf).Perm (x :: allPn (lf.set b ⟨a', c', r⟩)) := by
    rw [e1, e2, hxr]; exact List.perm_middle
  have hd2 := hd.perm hperm
  have hx : hdP lf b = x := by unfold hdP; rw [hxr]; rfl
  have hxs := hs _ (getD_mem lf b sp0 hjl)
  rw [hxr] at hxs
  have hmin : ∀ y ∈ allPn (lf.set b ⟨a', c', r⟩), Pn.less x y := by
    intro y hy
    have hid : x.id ≠ y.id := (List.pairwise_cons.1 hd2).1 y hy
    have hy2 : y ∈ allPn lf := hperm.mem_iff.2 (List.mem_cons_of_mem _ hy)
    obtain ⟨s, hs1, hys⟩ := mem_all.1 hy2
    obtain ⟨i, hi, rfl⟩ := List.getElem_of_mem hs1
    have hsi := hs _ hs1
    have hg : lf.getD i sp0 = lf[i] := by rw [List.getD_eq_getElem?_getD, List.getElem?_eq_getElem hi, Option.getD_some]
    have hpi : 0 < (lf.getD i sp0).l.length := by rw [hg]; exact List.length_pos_of_mem hys
    have hno := hall i hi hpi
    rw [hx] at hno
    refine less_other (fun h => hno ?_) hid.symm
    have hhd : hdP lf i = y ∨ Pn.less (hdP lf i) y := by
      unfold hdP
      rw [hg]
      cases hq : lf[i].l with
      | nil => rw [hq] at hys; cases hys
      | cons z q =>
        rw [hq] at hys hsi
        rcases List.mem_cons.1 hys with rfl | h2
        · exact .inl rfl
        · exact .inr ((List.pairwise_cons.1 hsi).1 y h2)
    rcases hhd with h2 | h2
    · rw [h2]; exact h
    · exact less_trans h2 h
  refine ⟨sort_head hd hperm hmin, (List.pairwise_cons.1 hd2).2, fun s hs1 => ?_, by rw [hperm.length_eq, List.length_cons]⟩
  rcases List.mem_or_eq_of_mem_set hs1 with h | h
  · exact hs s h
  · subst h; exact (List.pairwise_cons.1 hxs).2
theorem own_same {w w' : World} {B e sz n : Nat} {v : Value} {cs : List Value} (h : w.ownsRow B e sz v n cs) (hk : ∀ g, v.ownBlock = some g → w'.heap[g]? = w.heap[g]?) : w'.ownsRow B e sz v n cs := by
  refine ⟨h.1, ?_⟩
  rcases h.2 with h2 | ⟨g, cap, cur, rfl, hb, hg, r⟩
  · exact .inl h2
  · exact .inr ⟨g, cap, cur, rfl, hb, (hk g rfl).trans hg, r⟩
def sliceLen : Value → Nat
  | .slice _ n _ => n
  | _ => 0
/-- How many pins the slices of a row hold together. -/
def leftS (w : World) (v : Value) : Nat := match v.ownBlock with
  | some g => match w.heap[g]? with
    | some (.cells cur _ _) => ((cur.toList.take (sliceLen v)).map sliceLen).sum
    | _ => 0
  | none => 0
theorem sum_spC (lf : List Sp) : ((lf.flatMap spC).map sliceLen).sum = (allPn lf).length := by
  induction lf with
  | nil => rfl
  | cons s lf ih => simp [allPn, spC, sliceLen] at ih ⊢; omega
theorem leftS_own {w : World} {B g c n : Nat} {lf : List Sp} (h : w.ownsRow B 29 1 (.slice (some ⟨g, 0, none⟩) n c) n (lf.flatMap spC)) : leftS w (.slice (some ⟨g, 0, none⟩) n c) = (allPn lf).length := by
  rcases h.2 with ⟨h2, _⟩ | ⟨g', cap, cur, e, _, hg, _, _, _, ht⟩
  · cases h2
  · injection e with e1 e2 e3
    injection e1 with e1; injection e1 with e1 _ _
    subst e1
    unfold leftS
    simp only [Value.ownBlock, hg, sliceLen]
    rw [Nat.mul_one] at ht
    rw [ht, sum_spC]
/-- A slice of pins that can be read below n₀. -/
structure SpR (n₀ : Nat) (w : World) (s : Sp) : Prop where
  row : Rws w n₀ s.a (s.l.flatMap pnC)
  cap : s.l.length ≤ s.c
  nil : s.a = none → s.c = 0
theorem SpR.below {n₀ : Nat} {w w' : World} {s : Sp} (h : SpR n₀ w s) (hb : Below n₀ w w') : SpR n₀ w' s := ⟨h.row.below hb, h.cap, h.nil⟩
set_option maxRecDepth 100000 in
theorem pinsIn_in (n : Nat) (A : Option Addr) (len c : Nat) (w : World) :
    CallsIn Fence.wide n Try.prog 48 #[.agg #[.slice A len c]] w fun e w' => e = .returned (.func (.func 79) #[] #[.pointer (some ⟨w.heap.size, 0, none⟩)]) ∧ w' = w.alloc (.cells #[.slice A len c] 26) := by
  have hro : Fence.wide.round = none := rfl
  have hg : Fence.wide.fn 48 := trivial
  refine callsIn_of_wp Try.func48 rfl hg ?_ hro
  simp only [Try.ntmps48, List.size_toArray, List.length_cons, List.length_nil, Nat.reduceAdd, Nat.reduceSub, Array.replicate_succ, Array.replicate_zero, List.push_toArray, List.append_toArray, List.nil_append, List.cons_append]
  gi_wp2
  go_ret
  exact ⟨rfl, rfl⟩
set_option maxRecDepth 100000 in
set_option maxHeartbeats 8000000 in
theorem inOrder_in (n : Nat) (hn : 1 ≤ n) (l Bs n₀ c : Nat) (A : Option Addr) (sp : List Sp) (h0 : 0 < sp.length) (hsz : sp.length ≤ 1048577) (hlz : (allPn sp).length ≤ 10) (hD : Distinct (allPn sp)) (hP : ∀ s ∈ sp, s.l.Pairwise Pn.less) (W : World) (J Jx : List Pn → World → Prop)
    (hJa : ∀ pre A B, J pre A → Tch (fun k => W.heap.size ≤ k ∧ k ≤ W.heap.size + 1) A B → J pre B)
    (hY : ∀ pre x W1, J pre W1 → pre.length < (allPn sp).length → W.heap.size + 1 < W1.heap.size → YieldAt Fence.wide (n - 1) Try.prog l #[pnA x] W1 fun e W' =>
      (e = .returned (.bool true) ∧ J (pre ++ [x]) W' ∧ Below n₀ W1 W' ∧ ∀ k, W.heap.size ≤ k → k ≤ W.heap.size + 1 → W'.heap[k]? = W1.heap[k]?) ∨ (e = .returned (.bool false) ∧ Jx (pre ++ [x]) W'))
    (hn₀ : n₀ ≤ W.heap.size) (hBs : W.cell? ⟨Bs, 0, none⟩ = some (.slice A sp.length c)) (hA : Rws W n₀ A (sp.flatMap spC)) (hR : ∀ s ∈ sp, SpR n₀ W s) (hJ0 : J [] W) :
    CallsIn Fence.wide n Try.prog 79 #[.func (.yield l) #[] #[], .pointer (some ⟨Bs, 0, none⟩)] W fun e W' => (∃ v, e = .returned v) ∧ (J (sortPn (allPn sp)) W' ∨ (∃ pre, pre <+: sortPn (allPn sp) ∧ Jx pre W')) := by
  have hro : Fence.wide.round = none := rfl
  have hg : Fence.wide.fn 79 := trivial
  have h1f : Fence.wide.fn 80 := trivial
  have h2f : Fence.wide.fn 81 := trivial
  obtain ⟨b, off, rfl, hbB, _⟩ := hA.sp h0
  refine callsIn_of_wp Try.func79 rfl hg ?_ hro
  simp only [Try.ntmps79, List.size_toArray, List.length_cons, List.length_nil, Nat.reduceAdd, Nat.reduceSub, Array.replicate_succ, Array.replicate_zero, List.push_toArray, List.append_toArray, List.nil_append, List.cons_append]
  have CC := Lib.hid (cloneS_im b off sp c W h0 hsz (hA.more hn₀))
  have HT : Hid (∃ T, sortPn (allPn sp) = T) := ⟨_, rfl⟩
  obtain ⟨T, hT⟩ := HT.out
  have HTT := Lib.hid hT
  rw [hT]
  clear HT
  have htl : T.length = (allPn sp).length := by rw [← hT, sort_len]
  clear hT
  gi_wp2_with fail
  gi_at_call 80
  refine (callsIn_wide.2 CC.out).mono ?_
  rintro e w1 ⟨c', rfl, o1, b1⟩
  have hs1 : W.heap.size + 1 < w1.heap.size := (World.ownsRow.lt o1 (W.heap.size + 1) rfl).2
  have HO := Lib.hid o1
  have HB1 : Hid (Below n₀ W w1) := b1.mono hn₀
  have hJ1 := Lib.hid (hJa [] W w1 hJ0 (Tch.of_below b1))
  clear CC o1 b1 hJ0
  gi_wp2
  gi_loopw [4] (fun _ wr => ∃ (pre : List Pn) (lf : List Sp), lf.length = sp.length ∧ Hid (pre ++ sortPn (allPn lf) = T) ∧ Hid (Distinct (allPn lf)) ∧ Hid (∀ s ∈ lf, s.l.Pairwise Pn.less) ∧ Hid (∀ s ∈ lf, SpR n₀ wr s) ∧
      Hid (wr.ownsRow W.heap.size 29 1 (.slice (some ⟨W.heap.size + 1, 0, none⟩) sp.length c') sp.length (lf.flatMap spC)) ∧ Hid (J pre wr) ∧ Hid (Below n₀ W wr) ∧ W.heap.size + 1 < wr.heap.size) (fun _ wr => leftS wr (.slice (some ⟨W.heap.size + 1, 0, none⟩) sp.length c'))
  case atStart => exact ⟨[], sp, rfl, by show _ = _; rw [List.nil_append]; exact HTT.out, hD, hP, (fun s hs => (hR s hs).below HB1.out), HO, hJ1, HB1, hs1⟩
  case round =>
    clear HO HB1 hJ1 hs1 HTT hBs hA hbB
    obtain ⟨pre, lf, hlen, hT, hd, hp, hr, ho, hJs, hB, hbig⟩ := hrel
    have hRw := Lib.hid (own_rws ho.out)
    have hnb := hB.out.size
    have hl9 : lf.length ≤ 1048577 := by omega
    have HLN := Lib.hid hlen
    have C := Lib.hid (earliest_im (some ⟨W.heap.size + 1, 0, none⟩) lf c' wr hl9 hRw.out (fun s hs => (hr.out s hs).row.more (by omega)))
    rw [show (Value.slice (some ⟨W.heap.size + 1, 0, none⟩) lf.length c') = .slice (some ⟨W.heap.size + 1, 0, none⟩) sp.length c' by rw [hlen]] at C
    clear hlen
    have HM : Hid (leftS wr (.slice (some ⟨W.heap.size + 1, 0, none⟩) sp.length c') = (allPn lf).length) := leftS_own ho.out
    by_cases hneg : bestF lf lf.length < 0
    · have he := best_end hneg
      have hfin : Hid (J T wr) := by
        have h2 := hT.out
        rw [he] at h2
        have : sortPn ([] : List Pn) = [] := rfl
        rw [this, List.append_nil] at h2
        rw [← h2]; exact hJs.out
      generalize bestF lf lf.length = z at *
      have hzd : decide (z < 0) = true := decide_eq_true hneg
      gi_wp2_with fail
      gi_at_call 81
      refine (callsIn_wide.2 C.out).mono ?_
      rintro e w2 ⟨rfl, b2⟩
      have hfin2 : Hid (J T w2) := hJa _ _ _ hfin.out (Tch.of_below b2)
      clear hfin
      gi_wp2
      refine ⟨fun _ h => (by cases h), ?_⟩
      gi_wp2
      refine bodyPost_ret (results_none rfl _ _ _) rfl ?_
      exact ⟨⟨_, rfl⟩, .inl hfin2.out⟩
    · obtain ⟨j, hj⟩ : ∃ j : Nat, bestF lf lf.length = (j : Int) := ⟨(bestF lf lf.length).toNat, by omega⟩
      obtain ⟨hjl, x, r, hxr, hstep⟩ := best_step hj hd.out hp.out
      obtain ⟨z, hz⟩ : ∃ z, bestF lf lf.length = z := ⟨_, rfl⟩
      rw [hz] at C hj
      clear hneg hz
      have hjz : z.toNat = j := by omega
      have hz0 : 0 ≤ z := by omega
      have hzn : z < sp.length := by have := HLN.out; omega
      clear hj
      subst hjz
      have hjj : decide (z < 0) = false := decide_eq_false (by omega)
      obtain ⟨b3, o3, e3, _, hc⟩ := hRw.out.sp hjl
      injection e3 with e3; injection e3 with e31 e32 _
      subst e31 e32
      have hrj := hr.out _ (getD_mem lf z.toNat sp0 hjl)
      obtain ⟨s, es⟩ : ∃ s, lf.getD z.toNat sp0 = s := ⟨_, rfl⟩
      rw [es] at hxr hc hrj
      have HES := Lib.hid es
      clear es
      obtain ⟨sa, sc, sl⟩ := s
      simp only at hxr
      subst hxr
      obtain ⟨hrow, hcap, hnil⟩ := hrj
      simp only at hrow hcap hnil hc
      obtain ⟨b4, o4, rfl, hb4, hx⟩ := hrow.pn (i := 0) (by simp)
      simp only [List.getD_cons_zero, Nat.zero_mul, Nat.add_zero] at hx
      have hpl : pre.length < (allPn sp).length := by
        have h2 := hT.out
        have h3 := (hstep none 0).2.2.2
        rw [← htl, ← h2, List.length_append, sort_len]; omega
      have HST := Lib.hid hstep
      clear hstep hrow
      gi_wp2_with fail
      gi_at_call 81
      refine (callsIn_wide.2 C.out).mono ?_
      rintro e w2 ⟨rfl, b2⟩
      have hc2 : w2.cell? ⟨W.heap.size + 1, z.toNat, none⟩ = some (.slice (some ⟨b4, o4, none⟩) (r.length + 1) sc) := by
        have := (b2.cell (p := ⟨W.heap.size + 1, 0 + z.toNat, none⟩) (by exact hbig)).trans hc
        simpa using this
      have hs2 := b2.size
      obtain ⟨x0, x1⟩ := hx.below b2 (Nat.lt_of_lt_of_le hb4 (by omega))
      have hJ2 := hJa _ _ _ hJs.out (Tch.of_below b2)
      have HO2 := Lib.hid (own_below ho.out b2)
      have HR2 : Hid (∀ s ∈ lf, SpR n₀ w2 s) := fun s hs => (hr.out s hs).below (b2.mono (by omega))
      have HB2 : Hid (Below n₀ W w2) := hB.out.trans (b2.mono (by omega))
      obtain ⟨fn, tmps, assign, body, hy, hY2⟩ := hY pre x w2 hJ2 hpl (by omega)
      clear b2 C hc hx hJs ho hr hB hRw
      unfold pnA at hy
      gi_wp2
      refine hY2.mono ?_
      rintro e W3 (⟨rfl, hJ3, hb3, hk3⟩ | ⟨rfl, hJx3⟩)
      · have O3 := own_same HO2.out (w' := W3) (fun g hg => by
          have : W.heap.size + 1 = g := by simpa [Value.ownBlock] using hg
          subst this; exact hk3 _ (by omega) (Nat.le_refl _))
        have hs3 := hb3.size
        have hc3 : W3.cell? ⟨W.heap.size + 1, z.toNat, none⟩ = some (.slice (some ⟨b4, o4, none⟩) (r.length + 1) sc) := (World.cell?_of_block (a := ⟨W.heap.size + 1, z.toNat, none⟩) (hk3 (W.heap.size + 1) (by omega) (Nat.le_refl _))).trans hc2
        have hf3 := O3.frozenAt z.toNat
        obtain ⟨NA, hNA⟩ : ∃ NA, fromA (some ⟨b4, o4, none⟩) sc 1 2 = NA := ⟨_, rfl⟩
        have S0 := O3.stored z.toNat (.slice NA r.length (sc - 1))
        rw [flat_set lf z.toNat ⟨NA, sc - 1, r⟩] at S0
        obtain ⟨st1, st2, st3, st4⟩ := HST.out NA (sc - 1)
        obtain ⟨lf2, el2⟩ : ∃ lf2, lf.set z.toNat ⟨NA, sc - 1, r⟩ = lf2 := ⟨_, rfl⟩
        have hlen2 : lf2.length = lf.length := by rw [← el2, List.length_set]
        rw [el2] at S0 st1 st2 st3 st4
        have HJ4 : Hid (J (pre ++ [x]) (W3.setCell ⟨W.heap.size + 1, z.toNat, none⟩ (.slice NA r.length (sc - 1)))) := hJa _ _ _ hJ3 (Tch.of_grown (Go.Lib.grownBy_setCell W3 (W.heap.size + 1) z.toNat _) (fun i e => by cases e; exact ⟨by omega, Nat.le_refl _⟩))
        have B4 : Hid (Below n₀ W (W3.setCell ⟨W.heap.size + 1, z.toNat, none⟩ (.slice NA r.length (sc - 1)))) := (HB2.out.trans hb3).setCell (p := ⟨W.heap.size + 1, z.toNat, none⟩) (by show n₀ ≤ W.heap.size + 1; omega) _
        have HRn : Hid (∀ s ∈ lf2, SpR n₀ (W3.setCell ⟨W.heap.size + 1, z.toNat, none⟩ (.slice NA r.length (sc - 1))) s) := by
          intro s hs
          have hb5 : Below n₀ W3 (W3.setCell ⟨W.heap.size + 1, z.toNat, none⟩ (.slice NA r.length (sc - 1))) := (Below.refl _ _).setCell (p := ⟨W.heap.size + 1, z.toNat, none⟩) (by show n₀ ≤ W.heap.size + 1; omega) _
          rw [← el2] at hs
          rcases List.mem_or_eq_of_mem_set hs with h | h
          · exact ((HR2.out s h).below hb3).below hb5
          · subst h
            have h1 := HR2.out _ (getD_mem lf z.toNat sp0 hjl)
            rw [HES.out] at h1
            have h2 : SpR n₀ w2 ⟨NA, sc - 1, r⟩ := by
              refine ⟨?_, by simp only; have := h1.cap; simp at this; omega, fun h => by rw [← hNA] at h; exact fromA_nil h1.nil h⟩
              have := h1.row.from_ (n := r.length + 1) (k := 1) (sz := 2) (c := sc) (by rw [flat_len pnC 2 pnC_len]; simp) (by omega) (by have := h1.cap; simpa using this)
              rw [hNA] at this
              simpa [pnC] using this
            exact (h2.below hb3).below hb5
        have HN : Hid (W.heap.size + 1 < (W3.setCell ⟨W.heap.size + 1, z.toNat, none⟩ (.slice NA r.length (sc - 1))).heap.size) := by show _ < _; simp; omega
        have HS := Lib.hid S0.1
        have HT2 : Hid ((pre ++ [x]) ++ sortPn (allPn lf2) = T) := by show _ = _; rw [← hT.out, st1]; simp
        have HM2 : Hid ((allPn lf).length = (allPn lf2).length + 1) := st4
        have HS2 := Lib.hid st2
        have HS3 := Lib.hid st3
        have HLL := Lib.hid hlen2
        have HNA := Lib.hid hNA
        have hcap' : r.length + 1 ≤ sc := by simpa using hcap
        clear st1 st2 st3 st4 hlen2 O3 HO2 HR2 HB2 hJ3 hb3 hk3 hY2 hy hc2 x0 x1 hnil hcap S0 hNA el2
        by_cases hs1 : sc = 1
        · subst hs1
          have hr0 : r = [] := List.eq_nil_of_length_eq_zero (by omega)
          subst hr0
          have e1 : NA = some ⟨b4, o4, none⟩ := by rw [← HNA.out]; simp [fromA]
          subst e1
          gi_wp2
          go_roundw
          case rel => exact ⟨pre ++ [x], lf2, by rw [HLL.out]; exact HLN.out, HT2, HS2, HS3, HRn, HS, HJ4, B4, HN.out⟩
          case measure => rw [HM.out, HM2.out]; exact Nat.lt_of_le_of_lt (Nat.le_of_eq (leftS_own HS.out)) (Nat.lt_succ_self _)
        · have e1 : NA = some ⟨b4, o4 + 2, none⟩ := by
            rw [← HNA.out]
            simp [fromA, hs1, Addr.add]
          subst e1
          gi_wp2
          go_roundw
          case rel => exact ⟨pre ++ [x], lf2, by rw [HLL.out]; exact HLN.out, HT2, HS2, HS3, HRn, HS, HJ4, B4, HN.out⟩
          case measure => rw [HM.out, HM2.out]; exact Nat.lt_of_le_of_lt (Nat.le_of_eq (leftS_own HS.out)) (Nat.lt_succ_self _)
      · gi_wp2
        refine bodyPost_ret (results_none rfl _ _ _) rfl ?_
        refine ⟨⟨_, rfl⟩, .inr ⟨_, ?_, hJx3⟩⟩
        obtain ⟨st1, _⟩ := HST.out none 0
        exact ⟨_, by rw [← hT.out, st1]; simp; rfl⟩
end Go.Proofs.Ytflomkebgiemaaa
