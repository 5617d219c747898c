/- Texts laid together: WiJ, WiK, WiM, WiN. -/
import Derived.Test.YtdjglbmcpfaofaaRows
import Derived.Test.YtdjglbmcpfaofaaWiA
import Derived.RangeFuncNested
import Derived.RangeFuncBox
import Derived.RangeFuncBound
import Derived.RangeFuncCalls
import Derived.RangeFuncLeaves
import Derived.Shelf.Abstract
import Derived.Shelf.RegionOpen
import Derived.OwnWalkIn
import Derived.TacticsInMore
import Derived.LoopNIn
import Derived.LoopIn
import Derived.Maps.AppendAt
namespace Go.Proofs.Ytdjglbmcpfaofaa
open Go.RowKit Go.Shelf
set_option linter.unusedSimpArgs false
set_option linter.unusedVariables false
attribute [local go_sem] Oper.semAt_some
/-- The contract of an iterator that has laid blocks of its own (the first d + 1 since its call) and writes into it between two rounds: the loop's invariants must not speak of these blocks, and a round must leave them alone. -/
def SeqRow {α : Type} (F : Fence) (n : Nat) (P : Program) (g : Nat) (lb : Array Value) (encs : α → Array Value) (n₀ d : Nat) (S Sp : List α → Prop) (N : Nat) (w : World) : Prop :=
  ∀ (l : Nat) (J Jx : List α → World → Prop) (W : World), Below w.heap.size w W →
    (∀ s A B, J s A → Tch (fun k => W.heap.size ≤ k ∧ k ≤ W.heap.size + d) A B → J s B) → (∀ s A B, Jx s A → Tch (fun k => W.heap.size ≤ k ∧ k ≤ W.heap.size + d) A B → Jx s B) →
    (∀ pre x W1, J pre W1 → pre.length < N → W.heap.size + d < W1.heap.size → YieldAt F (n - 1) P l (encs x) W1 fun e W' =>
      (e = .returned (.bool true) ∧ J (pre ++ [x]) W' ∧ Below n₀ W1 W' ∧ ∀ k, W.heap.size ≤ k → k ≤ W.heap.size + d → W'.heap[k]? = W1.heap[k]?) ∨ (e = .returned (.bool false) ∧ Jx (pre ++ [x]) W')) →
    J [] W →
    CallsIn F n P g (#[.func (.yield l) #[] #[]] ++ lb) W fun e W' => (∃ v, e = .returned v) ∧ ((∃ xs, S xs ∧ J xs W') ∨ (∃ pre, Sp pre ∧ Jx pre W'))
/-- The blocks that the loop and its iterator hold: the deferred calls', the record, the iterator's. -/
def Rng (B d k : Nat) : Prop := B ≤ k ∧ k ≤ B + 2 + d
/-- What a round may have touched. -/
def RdT (n₀ B d : Nat) (W W' : World) : Prop := Tch (fun k => n₀ ≤ k ∧ ¬ Rng B d k) W W'
theorem RdT.trans {n₀ B d : Nat} {a b c : World} (h : RdT n₀ B d a b) (k : RdT n₀ B d b c) : RdT n₀ B d a c := Tch.trans h k
theorem RdT.refl {n₀ B d : Nat} (a : World) : RdT n₀ B d a a := Tch.refl _ a
theorem RdT.below {n₀ B d : Nat} {W W' : World} (h : RdT n₀ B d W W') (hn : n₀ ≤ W.heap.size) : Below n₀ W W' := Tch.below h hn (fun i hi => hi.1)
theorem RdT.hold {n₀ B d k : Nat} {W W' : World} (h : RdT n₀ B d W W') (hk : Rng B d k) (hl : k < W.heap.size) : W'.heap[k]? = W.heap[k]? := h.block k hl (fun hp => hp.2 hk)
theorem Tch.put {P : Nat → Prop} (W : World) (l : Nat) (o : Obj) (h : P l) : Tch P W (W.putObj l o) := Tch.of_grown (grownBy_putObj' W l o) (fun i e => by cases e; exact h)
/-- How a round's body may be left. -/
def rowPost {α : Type} (T : World → World → Prop) (I : List α → World → Prop) (Ix : Code → List α → World → Prop) (xs : List α) (W : World) : Exit → Act → World → Prop
  | .normal, _, W' => T W W' ∧ I xs W'
  | .ret, _, W' => T W W' ∧ Ix .ret xs W'
  | .exit id, _, W' => T W W' ∧ Ix (.exit id) xs W'
  | .goto t, _, W' => T W W' ∧ Ix (.goto t) xs W'
  | .panic _, _, _ => False
  | .outgrown, _, _ => False
set_option maxHeartbeats 4000000 in
theorem wpIn_rangeFunc_row {F : Fence} {n : Nat} {P : Program} {α : Type} {g : Operand} {ps : Array Tmp} {assign body : Code} {Q : Exit → Act → World → Prop} {a : Act} {w : World}
    (hro : F.round = none) (h1 : 1 ≤ n) {gf : Nat} {lb : Array Value} (hg : a.eval g = .func (.func gf) #[] lb) (hFg : F.fn gf) (eg : ∀ args w, (callFunc gf args).run P w = .ok (.enter gf args) w)
    {encs : α → Array Value} {n₀ d : Nat} {S Sp : List α → Prop} {N : Nat} (hseq : SeqRow F (n - 1) P gf lb encs n₀ d S Sp N w) (hn₀ : n₀ ≤ w.heap.size) (hps : ∀ x, (encs x).size = ps.size)
    (I : List α → World → Prop) (Ix : Code → List α → World → Prop) (hI : ∀ s A B, I s A → Tch (Rng w.heap.size d) A B → I s B) (hIx : ∀ c s A B, Ix c s A → Tch (Rng w.heap.size d) A B → Ix c s B) (h0 : I [] w)
    (Ax : α → Act → World → Prop) (hAx : ∀ x a' A B, Ax x a' A → Tch (Rng w.heap.size d) A B → Ax x a' B)
    (hassign : ∀ (l : Nat) (pre : List α) (x : α) (W : World) (K : Act → World → Prop), I pre W → w.heap.size + 2 + d < W.heap.size → (∀ a' W', RdT n₀ w.heap.size d W W' → I pre W' → Ax x a' W' → K a' W') →
      assign.wpIn (F.inRound l) (n - 1 - 1) P (Exit.then K (fun _ _ _ => False)) { tmps := (ps.zip (encs x)).foldl (fun t (p, v) => t.setIfInBounds p v) a.tmps, defers := [] } W)
    (hbody : ∀ (l : Nat) (pre : List α) (x : α) (a' : Act) (W : World), I pre W → Ax x a' W → pre.length < N → w.heap.size + 2 + d < W.heap.size → body.wpIn (F.inRound l) (n - 1 - 1) P (rowPost (RdT n₀ w.heap.size d) I Ix (pre ++ [x]) W) a' W)
    (hdone : ∀ (D : Nat) (xs : List α) (W : World), w.heap.size ≤ D → S xs → I xs W → W.heap[D]? = some (.deferred (some [])) → Q .normal { a with defers := { target := .collected D, args := #[] } :: a.defers } W)
    (hstop : ∀ (D : Nat) (c : Code) (pre : List α) (W : World), w.heap.size ≤ D → Sp pre → Ix c pre W → W.heap[D]? = some (.deferred (some [])) → c.wpIn F n P Q { a with defers := { target := .collected D, args := #[] } :: a.defers } W) :
    (Code.rangeFunc g ps assign body).wpIn F n P Q a w := by
  refine wpIn_rangeFunc ?_
  intro fn hfn
  rw [hro]
  obtain ⟨B, hB⟩ : ∃ B, B = w.heap.size := ⟨_, rfl⟩
  obtain ⟨rc, hrc⟩ : ∃ rc : LoopState → Option Code → Loop, rc = fun st pe => { state := st, pending := pe, fn, tmps := a.tmps, params := ps, assign, body, defers := B } := ⟨_, rfl⟩
  obtain ⟨W1, hW1⟩ : ∃ W1, (w.alloc (.deferred (some []))).alloc (.loop (rc .ready none)) = W1 := ⟨_, rfl⟩
  have hL1 : W1.heap[B + 1]? = some (.loop (rc .ready none)) := by
    rw [← hW1, hB]
    have := World.alloc_heap_new (w.alloc (.deferred (some []))) (.loop (rc .ready none))
    rwa [World.size_alloc] at this
  have hK1 : W1.heap[B]? = some (.deferred (some [])) := by
    rw [← hW1, hB]; exact (Below.heap_alloc _ _ _ (by simp)).trans (World.alloc_heap_new w _)
  have hs1 : W1.heap.size = B + 2 := by rw [← hW1, hB]; simp
  have hb1 : Below w.heap.size w W1 := by rw [← hW1]; exact ((Below.refl _ w).alloc (Nat.le_refl _) _).alloc (by simp) _
  have hR0 : Rng B d B := ⟨Nat.le_refl _, by omega⟩
  have hR1 : Rng B d (B + 1) := ⟨by omega, by omega⟩
  have hR2 : Rng B d (B + 2 + d) := ⟨by omega, Nat.le_refl _⟩
  rw [← hB] at hI hIx hAx hassign hbody hdone hstop hn₀
  have hI1 : I [] W1 := hI _ _ _ h0 (Tch.of_below hb1)
  have hrun : (Instr.enterLoop fn a.tmps ps assign body none).run P w = .ok (B + 1, [{ target := .collected B, args := #[] }]) W1 := by
    rw [← hW1, hrc, hB]; exact run_enterLoop_outer _ _ _ _ _
  refine ⟨B + 1, [{ target := .collected B, args := #[] }], W1, { target := .fn (.func gf) lb, args := #[.func (.yield (B + 1)) #[] #[]] }, W1, gf,
    #[.func (.yield (B + 1)) #[] #[]] ++ lb, W1, hrun, ?_, ?_, ?_, fun _ => h1, ?_⟩
  · simp only [resolve, hg]
    simp [go_sem]
  · intro f' hf'; simp [Target.leads] at hf'; subst hf'; exact hFg
  · simp [invoke, go_sem, eg]
  have hm : W1.heap.size + d = B + 2 + d := by omega
  have tm : ∀ {A C : World}, Tch (fun k => W1.heap.size ≤ k ∧ k ≤ W1.heap.size + d) A C → Tch (Rng B d) A C := fun t => ⟨t.os, t.tape, t.output, t.size, fun i hi hp => t.block i hi (fun e => hp ⟨by omega, by omega⟩)⟩
  have keep : ∀ {A C : World} {k : Nat} {o : Obj}, Tch (fun k => W1.heap.size ≤ k ∧ k ≤ W1.heap.size + d) A C → A.heap[k]? = some o → k < B + 2 → C.heap[k]? = some o := fun t hk hl => (t.block _ (Array.getElem?_eq_some_iff.1 hk).1 (by omega)).trans hk
  refine (hseq (B + 1)
    (fun pre W => I pre W ∧ W.heap[B + 1]? = some (.loop (rc .ready none)) ∧ W.heap[B]? = some (.deferred (some [])))
    (fun pre W => ∃ c, Ix c pre W ∧ W.heap[B + 1]? = some (.loop (rc .done (some c))) ∧ W.heap[B]? = some (.deferred (some [])))
    W1 hb1
    (fun s A C hs t => ⟨hI _ _ _ hs.1 (tm t), keep t hs.2.1 (by omega), keep t hs.2.2 (by omega)⟩)
    (fun s A C hs t => by
      obtain ⟨c, hc, hl, hk⟩ := hs
      exact ⟨c, hIx _ _ _ _ hc (tm t), keep t hl (by omega), keep t hk (by omega)⟩)
    ?_ ⟨hI1, hL1, hK1⟩).mono ?_
  · -- one round
    rintro pre x W ⟨hi, hl, hk⟩ hlen hbig
    rw [hm] at hbig
    have hy := run_yield (P := P) (args := encs x) hl (by rw [hrc]; exact hps x)
    rw [hrc] at hy
    refine ⟨fn, _, assign, body, hy, roundIn_of_wpIn hfn (hassign _ pre x W _ hi hbig (fun a' W' hT hi' hx' => ?_))⟩
    have hl' : W'.heap[B + 1]? = some (.loop (rc .ready none)) := (hT.hold hR1 (by omega)).trans hl
    have hk' : W'.heap[B]? = some (.deferred (some [])) := (hT.hold hR0 (by omega)).trans hk
    have hsz' := hT.size
    refine ⟨_, run_beginRound hl' (by rw [hrc]), ?_⟩
    obtain ⟨W2, hW2⟩ : ∃ W2, W'.putObj (B + 1) (.loop { rc .ready none with state := .busy }) = W2 := ⟨_, rfl⟩
    have hl2 : W2.heap[B + 1]? = some (.loop { rc .ready none with state := .busy }) := by rw [← hW2]; exact World.putObj_heap_same (by omega)
    have hk2 : W2.heap[B]? = some (.deferred (some [])) := by rw [← hW2]; exact (World.putObj_heap_other (by omega)).trans hk'
    have hm2 : ∀ k, B + 2 ≤ k → W2.heap[k]? = W'.heap[k]? := fun k hk => by rw [← hW2]; exact World.putObj_heap_other (by omega)
    have t2 : Tch (Rng B d) W' W2 := by rw [← hW2]; exact Tch.put _ _ _ hR1
    have hz2 := t2.size
    have hbel2 : Below n₀ W W2 := (hT.below (by omega)).trans (t2.below (by omega) (fun i hi => Nat.le_trans hn₀ hi.1))
    rw [hW2]
    refine wpIn_mono (hbody _ pre x a' W2 (hI _ _ _ hi' t2) (hAx _ _ _ _ hx' t2) hlen (by omega)) ?_
    have fin : ∀ (jump : Option Code) (W3 : World), RdT n₀ B d W2 W3 →
        (Instr.endRound (B + 1) jump).run P W3 = .ok (.bool jump.isNone) (W3.putObj (B + 1) (.loop (rc (if jump.isNone then .ready else .done) jump))) ∧
        (W3.putObj (B + 1) (.loop (rc (if jump.isNone then .ready else .done) jump))).heap[B + 1]? = some (.loop (rc (if jump.isNone then .ready else .done) jump)) ∧
        (W3.putObj (B + 1) (.loop (rc (if jump.isNone then .ready else .done) jump))).heap[B]? = some (.deferred (some [])) ∧
        Tch (Rng B d) W3 (W3.putObj (B + 1) (.loop (rc (if jump.isNone then .ready else .done) jump))) := fun jump W3 h3 => by
      have hl3 : W3.heap[B + 1]? = some (.loop { rc .ready none with state := .busy }) := (h3.hold hR1 (by omega)).trans hl2
      have hk3 : W3.heap[B]? = some (.deferred (some [])) := (h3.hold hR0 (by omega)).trans hk2
      have he := run_endRound (P := P) jump hl3
      rw [hrc] at he ⊢
      exact ⟨he, World.putObj_heap_same (Array.getElem?_eq_some_iff.1 hl3).1, (World.putObj_heap_other (by omega)).trans hk3, Tch.put _ _ _ hR1⟩
    rintro e a3 W3 hp
    cases e with
    | normal =>
      obtain ⟨h3, hi3⟩ := hp
      obtain ⟨hr, hl4, hk4, t4⟩ := fin none W3 h3
      have hz3 := h3.size
      refine ⟨_, _, hr, .inl ⟨rfl, ⟨hI _ _ _ hi3 t4, hl4, hk4⟩, (hbel2.trans (h3.below (by omega))).trans (t4.below (by omega) (fun i hi => Nat.le_trans hn₀ hi.1)), ?_⟩⟩
      intro k hk1 hk2
      have hRk : Rng B d k := ⟨by omega, by omega⟩
      rw [World.putObj_heap_other (by omega), h3.hold hRk (by omega), hm2 k (by omega), hT.hold hRk (by omega)]
    | ret =>
      obtain ⟨h3, hi3⟩ := hp
      obtain ⟨hr, hl4, hk4, t4⟩ := fin (some .ret) W3 h3
      exact ⟨_, _, hr, .inr ⟨rfl, .ret, hIx _ _ _ _ hi3 t4, hl4, hk4⟩⟩
    | exit id =>
      obtain ⟨h3, hi3⟩ := hp
      obtain ⟨hr, hl4, hk4, t4⟩ := fin (some (.exit id)) W3 h3
      exact ⟨_, _, hr, .inr ⟨rfl, .exit id, hIx _ _ _ _ hi3 t4, hl4, hk4⟩⟩
    | goto t =>
      obtain ⟨h3, hi3⟩ := hp
      obtain ⟨hr, hl4, hk4, t4⟩ := fin (some (.goto t)) W3 h3
      exact ⟨_, _, hr, .inr ⟨rfl, .goto t, hIx _ _ _ _ hi3 t4, hl4, hk4⟩⟩
    | panic ch => exact hp.elim
    | outgrown => exact hp.elim
  · -- behind the iterator
    rintro e W2 ⟨⟨v, rfl⟩, (⟨xs, hS, hi, hl, hk⟩ | ⟨pre, hSp, c, hi, hl, hk⟩)⟩
    · have he := run_endLoop (P := P) hl (by rw [hrc]; simp)
      rw [hrc] at he
      exact ⟨none, _, he, hdone _ xs _ (Nat.le_refl _) hS (hI _ _ _ hi (Tch.put _ _ _ hR1)) ((World.putObj_heap_other (by omega)).trans hk)⟩
    · have he := run_endLoop (P := P) hl (by rw [hrc]; simp)
      rw [hrc] at he
      exact ⟨some c, _, he, hstop _ c pre _ (Nat.le_refl _) hSp (hIx _ _ _ _ hi (Tch.put _ _ _ hR1)) ((World.putObj_heap_other (by omega)).trans hk)⟩
theorem sort_head {q q' : List Pn} {x : Pn} (hd : Distinct q) (hp : q.Perm (x :: q')) (hm : ∀ y ∈ q', Pn.less x y) : sortPn q = x :: sortPn q' := by
  obtain ⟨h1, h2⟩ := sort_ok hd
  have hd2 : Distinct q' := (List.pairwise_cons.1 (hd.perm hp)).2
  obtain ⟨h3, h4⟩ := sort_ok hd2
  refine List.Perm.eq_of_pairwise (fun a b _ _ ha hb => absurd (less_trans ha hb) (fun h => less_irrefl h)) h1 (List.pairwise_cons.2 ⟨fun y hy => hm y (h4.mem_iff.1 hy), h3⟩) ?_
  exact (h2.trans hp).trans (h4.symm.cons x)
theorem mem_all {lf : List Sp} {y : Pn} : y ∈ allPn lf ↔ ∃ s ∈ lf, y ∈ s.l := by unfold allPn; exact List.mem_flatMap
theorem all_cut (lf : List Sp) (j : Nat) (h : j < lf.length) (s : Sp) : allPn lf = allPn (lf.take j) ++ ((lf.getD j sp0).l ++ allPn (lf.drop (j + 1))) ∧ allPn (lf.set j s) = allPn (lf.take j) ++ (s.l ++ allPn (lf.drop (j + 1))) := by
  have e1 : lf.set j s = lf.take j ++ s :: lf.drop (j + 1) := List.set_eq_take_append_cons_drop .. |>.trans (by rw [if_pos h])
  constructor
  · conv => lhs; rw [← List.take_append_drop j lf, drop_getD lf j sp0 h]
    unfold allPn; simp [List.flatMap_append, List.flatMap_cons]
  · rw [e1]; unfold allPn; simp [List.flatMap_append, List.flatMap_cons]
theorem best_end {lf : List Sp} (h : bestF lf lf.length < 0) : allPn lf = [] := by
  rcases bestF_ok lf lf.length with ⟨_, hall⟩ | ⟨b, e, _⟩
  · refine List.eq_nil_iff_forall_not_mem.2 fun y hy => ?_
    obtain ⟨s, hs, hy⟩ := mem_all.1 hy
    obtain ⟨i, hi, rfl⟩ := List.getElem_of_mem hs
    have := hall i hi
    rw [List.getD_eq_getElem?_getD, List.getElem?_eq_getElem hi] at this
    rw [Option.getD_some] at this
    rw [this] at hy; cases hy
  · omega
theorem best_step {lf : List Sp} {j : Nat} (hb : bestF lf lf.length = (j : Int)) (hd : Distinct (allPn lf)) (hs : ∀ s ∈ lf, s.l.Pairwise Pn.less) :
    j < lf.length ∧ ∃ x r, (lf.getD j sp0).l = x :: r ∧ ∀ a' c', sortPn (allPn lf) = x :: sortPn (allPn (lf.set j ⟨a', c', r⟩)) ∧ Distinct (allPn (lf.set j ⟨a', c', r⟩)) ∧ (∀ s ∈ lf.set j ⟨a', c', r⟩, s.l.Pairwise Pn.less) ∧ (allPn lf).length = (allPn (lf.set j ⟨a', c', r⟩)).length + 1 := by
  rcases bestF_ok lf lf.length with ⟨h, _⟩ | ⟨b, e, hjl, hpos, hall⟩
  · omega
  obtain rfl : b = j := by omega
  refine ⟨hjl, ?_⟩
  obtain ⟨x, r, hxr⟩ : ∃ x r, (lf.getD b sp0).l = x :: r := by
    cases h : (lf.getD b sp0).l with
    | nil => rw [h] at hpos; simp at hpos
    | cons x r => exact ⟨x, r, rfl⟩
  refine ⟨x, r, hxr, fun a' c' => ?_⟩
  obtain ⟨e1, e2⟩ := all_cut lf b hjl ⟨a', c', r⟩
  have hperm : (allPn lf).Perm (x :: allPn (lf.set b ⟨a', c', r⟩)) := by
    rw [e1, e2, hxr]; exact List.perm_middle
  have hd2 := hd.perm hperm
  have hx : hdP lf b = x := by unfold hdP; rw [hxr]; rfl
  have hxs := hs _ (getD_mem lf b sp0 hjl)
  rw [hxr] at hxs
  have hmin : ∀ y ∈ allPn (lf.set b ⟨a', c', r⟩), Pn.less x y := by
    intro y hy
    have hid : x.id ≠ y.id := (List.pairwise_cons.1 hd2).1 y hy
    have hy2 : y ∈ allPn lf := hperm.mem_iff.2 (List.mem_cons_of_mem _ hy)
    obtain ⟨s, hs1, hys⟩ := mem_all.1 hy2
    obtain ⟨i, hi, rfl⟩ := List.getElem_of_mem hs1
    have hsi := hs _ hs1
    have hg : lf.getD i sp0 = lf[i] := by rw [List.getD_eq_getElem?_getD, List.getElem?_eq_getElem hi, Option.getD_some]
    have hpi : 0 < (lf.getD i sp0).l.length := by rw [hg]; exact List.length_pos_of_mem hys
    have hno := hall i hi hpi
    rw [hx] at hno
    refine less_other (fun h => hno ?_) hid.symm
    have hhd : hdP lf i = y ∨ Pn.less (hdP lf i) y := by
      unfold hdP
      rw [hg]
      cases hq : lf[i].l with
      | nil => rw [hq] at hys; cases hys
      | cons z q =>
        rw [hq] at hys hsi
        rcases List.mem_cons.1 hys with rfl | h2
        · exact .inl rfl
        · exact .inr ((List.pairwise_cons.1 hsi).1 y h2)
    rcases hhd with h2 | h2
    · rw [h2]; exact h
    · exact less_trans h2 h
  refine ⟨sort_head hd hperm hmin, (List.pairwise_cons.1 hd2).2, fun s hs1 => ?_, by rw [hperm.length_eq, List.length_cons]⟩
  rcases List.mem_or_eq_of_mem_set hs1 with h | h
  · exact hs s h
  · subst h; exact (List.pairwise_cons.1 hxs).2
theorem own_same {w w' : World} {B e sz n : Nat} {v : Value} {cs : List Value} (h : w.ownsRow B e sz v n cs) (hk : ∀ g, v.ownBlock = some g → w'.heap[g]? = w.heap[g]?) : w'.ownsRow B e sz v n cs := by
  refine ⟨h.1, ?_⟩
  rcases h.2 with h2 | ⟨g, cap, cur, rfl, hb, hg, r⟩
  · exact .inl h2
  · exact .inr ⟨g, cap, cur, rfl, hb, (hk g rfl).trans hg, r⟩
def sliceLen : Value → Nat
  | .slice _ n _ => n
  | _ => 0
/-- How many pins the slices of a row hold together. -/
def leftS (w : World) (v : Value) : Nat := match v.ownBlock with
  | some g => match w.heap[g]? with
    | some (.cells cur _ _) => ((cur.toList.take (sliceLen v)).map sliceLen).sum
    | _ => 0
  | none => 0
theorem sum_spC (lf : List Sp) : ((lf.flatMap spC).map sliceLen).sum = (allPn lf).length := by
  induction lf with
  | nil => rfl
  | cons s lf ih => simp [allPn, spC, sliceLen] at ih ⊢; omega
theorem leftS_own {w : World} {B g c n : Nat} {lf : List Sp} (h : w.ownsRow B 29 1 (.slice (some ⟨g, 0, none⟩) n c) n (lf.flatMap spC)) : leftS w (.slice (some ⟨g, 0, none⟩) n c) = (allPn lf).length := by
  rcases h.2 with ⟨h2, _⟩ | ⟨g', cap, cur, e, _, hg, _, _, _, ht⟩
  · cases h2
  · injection e with e1 e2 e3
    injection e1 with e1; injection e1 with e1 _ _
    subst e1
    unfold leftS
    simp only [Value.ownBlock, hg, sliceLen]
    rw [Nat.mul_one] at ht
    rw [ht, sum_spC]
/-- A slice of pins that can be read below n₀. -/
structure SpR (n₀ : Nat) (w : World) (s : Sp) : Prop where
  row : Rws w n₀ s.a (s.l.flatMap pnC)
  cap : s.l.length ≤ s.c
  nil : s.a = none → s.c = 0
theorem SpR.below {n₀ : Nat} {w w' : World} {s : Sp} (h : SpR n₀ w s) (hb : Below n₀ w w') : SpR n₀ w' s := ⟨h.row.below hb, h.cap, h.nil⟩
set_option maxRecDepth 100000 in
theorem pinsIn_in (n : Nat) (A : Option Addr) (len c : Nat) (w : World) :
    CallsIn Fence.wide n Try.prog 150 #[.agg #[.slice A len c]] w fun e w' => e = .returned (.func (.func 155) #[] #[.pointer (some ⟨w.heap.size, 0, none⟩)]) ∧ w' = w.alloc (.cells #[.slice A len c] 36) := by
  have hro : Fence.wide.round = none := rfl
  have hg : Fence.wide.fn 150 := trivial
  refine callsIn_of_wp Try.func150 rfl hg ?_ hro
  simp only [Try.ntmps150, List.size_toArray, List.length_cons, List.length_nil, Nat.reduceAdd, Nat.reduceSub, Array.replicate_succ, Array.replicate_zero, List.push_toArray, List.append_toArray, List.nil_append, List.cons_append]
  gi_wp2
  go_ret
  exact ⟨rfl, rfl⟩
set_option maxRecDepth 100000 in
set_option maxHeartbeats 8000000 in
theorem inOrder_in (n : Nat) (hn : 1 ≤ n) (l Bs n₀ c : Nat) (A : Option Addr) (sp : List Sp) (h0 : 0 < sp.length) (hsz : sp.length ≤ 1048577) (hlz : (allPn sp).length ≤ 10) (hD : Distinct (allPn sp)) (hP : ∀ s ∈ sp, s.l.Pairwise Pn.less) (W : World) (J Jx : List Pn → World → Prop)
    (hJa : ∀ pre A B, J pre A → Tch (fun k => W.heap.size ≤ k ∧ k ≤ W.heap.size + 1) A B → J pre B)
    (hY : ∀ pre x W1, J pre W1 → pre.length < (allPn sp).length → W.heap.size + 1 < W1.heap.size → YieldAt Fence.wide (n - 1) Try.prog l #[pnA x] W1 fun e W' =>
      (e = .returned (.bool true) ∧ J (pre ++ [x]) W' ∧ Below n₀ W1 W' ∧ ∀ k, W.heap.size ≤ k → k ≤ W.heap.size + 1 → W'.heap[k]? = W1.heap[k]?) ∨ (e = .returned (.bool false) ∧ Jx (pre ++ [x]) W'))
    (hn₀ : n₀ ≤ W.heap.size) (hBs : W.cell? ⟨Bs, 0, none⟩ = some (.slice A sp.length c)) (hA : Rws W n₀ A (sp.flatMap spC)) (hR : ∀ s ∈ sp, SpR n₀ W s) (hJ0 : J [] W) :
    CallsIn Fence.wide n Try.prog 155 #[.func (.yield l) #[] #[], .pointer (some ⟨Bs, 0, none⟩)] W fun e W' => (∃ v, e = .returned v) ∧ (J (sortPn (allPn sp)) W' ∨ (∃ pre, pre <+: sortPn (allPn sp) ∧ Jx pre W')) := by
  have hro : Fence.wide.round = none := rfl
  have hg : Fence.wide.fn 155 := trivial
  have h1f : Fence.wide.fn 156 := trivial
  have h2f : Fence.wide.fn 157 := trivial
  obtain ⟨b, off, rfl, hbB, _⟩ := hA.sp h0
  refine callsIn_of_wp Try.func155 rfl hg ?_ hro
  simp only [Try.ntmps155, List.size_toArray, List.length_cons, List.length_nil, Nat.reduceAdd, Nat.reduceSub, Array.replicate_succ, Array.replicate_zero, List.push_toArray, List.append_toArray, List.nil_append, List.cons_append]
  have CC := Lib.hid (cloneS_im b off sp c W h0 hsz (hA.more hn₀))
  have HT : Hid (∃ T, sortPn (allPn sp) = T) := ⟨_, rfl⟩
  obtain ⟨T, hT⟩ := HT.out
  have HTT := Lib.hid hT
  rw [hT]
  clear HT
  have htl : T.length = (allPn sp).length := by rw [← hT, sort_len]
  clear hT
  gi_wp2_with fail
  gi_at_call 156
  refine (callsIn_wide.2 CC.out).mono ?_
  rintro e w1 ⟨c', rfl, o1, b1⟩
  have hs1 : W.heap.size + 1 < w1.heap.size := (World.ownsRow.lt o1 (W.heap.size + 1) rfl).2
  have HO := Lib.hid o1
  have HB1 : Hid (Below n₀ W w1) := b1.mono hn₀
  have hJ1 := Lib.hid (hJa [] W w1 hJ0 (Tch.of_below b1))
  clear CC o1 b1 hJ0
  gi_wp2
  gi_loopw [4] (fun _ wr => ∃ (pre : List Pn) (lf : List Sp), lf.length = sp.length ∧ Hid (pre ++ sortPn (allPn lf) = T) ∧ Hid (Distinct (allPn lf)) ∧ Hid (∀ s ∈ lf, s.l.Pairwise Pn.less) ∧ Hid (∀ s ∈ lf, SpR n₀ wr s) ∧
      Hid (wr.ownsRow W.heap.size 29 1 (.slice (some ⟨W.heap.size + 1, 0, none⟩) sp.length c') sp.length (lf.flatMap spC)) ∧ Hid (J pre wr) ∧ Hid (Below n₀ W wr) ∧ W.heap.size + 1 < wr.heap.size) (fun _ wr => leftS wr (.slice (some ⟨W.heap.size + 1, 0, none⟩) sp.length c'))
  case atStart => exact ⟨[], sp, rfl, by show _ = _; rw [List.nil_append]; exact HTT.out, hD, hP, (fun s hs => (hR s hs).below HB1.out), HO, hJ1, HB1, hs1⟩
  case round =>
    clear HO HB1 hJ1 hs1 HTT hBs hA hbB
    obtain ⟨pre, lf, hlen, hT, hd, hp, hr, ho, hJs, hB, hbig⟩ := hrel
    have hRw := Lib.hid (own_rws ho.out)
    have hnb := hB.out.size
    have hl9 : lf.length ≤ 1048577 := by omega
    have HLN := Lib.hid hlen
    have C := Lib.hid (earliest_im (some ⟨W.heap.size + 1, 0, none⟩) lf c' wr hl9 hRw.out (fun s hs => (hr.out s hs).row.more (by omega)))
    rw [show (Value.slice (some ⟨W.heap.size + 1, 0, none⟩) lf.length c') = .slice (some ⟨W.heap.size + 1, 0, none⟩) sp.length c' by rw [hlen]] at C
    clear hlen
    have HM : Hid (leftS wr (.slice (some ⟨W.heap.size + 1, 0, none⟩) sp.length c') = (allPn lf).length) := leftS_own ho.out
    by_cases hneg : bestF lf lf.length < 0
    · have he := best_end hneg
      have hfin : Hid (J T wr) := by
        have h2 := hT.out
        rw [he] at h2
        have : sortPn ([] : List Pn) = [] := rfl
        rw [this, List.append_nil] at h2
        rw [← h2]; exact hJs.out
      generalize bestF lf lf.length = z at *
      have hzd : decide (z < 0) = true := decide_eq_true hneg
      gi_wp2_with fail
      gi_at_call 157
      refine (callsIn_wide.2 C.out).mono ?_
      rintro e w2 ⟨rfl, b2⟩
      have hfin2 : Hid (J T w2) := hJa _ _ _ hfin.out (Tch.of_below b2)
      clear hfin
      gi_wp2
      refine ⟨fun _ h => (by cases h), ?_⟩
      gi_wp2
      refine bodyPost_ret (results_none rfl _ _ _) rfl ?_
      exact ⟨⟨_, rfl⟩, .inl hfin2.out⟩
    · obtain ⟨j, hj⟩ : ∃ j : Nat, bestF lf lf.length = (j : Int) := ⟨(bestF lf lf.length).toNat, by omega⟩
      obtain ⟨hjl, x, r, hxr, hstep⟩ := best_step hj hd.out hp.out
      obtain ⟨z, hz⟩ : ∃ z, bestF lf lf.length = z := ⟨_, rfl⟩
      rw [hz] at C hj
      clear hneg hz
      have hjz : z.toNat = j := by omega
      have hz0 : 0 ≤ z := by omega
      have hzn : z < sp.length := by have := HLN.out; omega
      clear hj
      subst hjz
      have hjj : decide (z < 0) = false := decide_eq_false (by omega)
      obtain ⟨b3, o3, e3, _, hc⟩ := hRw.out.sp hjl
      injection e3 with e3; injection e3 with e31 e32 _
      subst e31 e32
      have hrj := hr.out _ (getD_mem lf z.toNat sp0 hjl)
      obtain ⟨s, es⟩ : ∃ s, lf.getD z.toNat sp0 = s := ⟨_, rfl⟩
      rw [es] at hxr hc hrj
      have HES := Lib.hid es
      clear es
      obtain ⟨sa, sc, sl⟩ := s
      simp only at hxr
      subst hxr
      obtain ⟨hrow, hcap, hnil⟩ := hrj
      simp only at hrow hcap hnil hc
      obtain ⟨b4, o4, rfl, hb4, hx⟩ := hrow.pn (i := 0) (by simp)
      simp only [List.getD_cons_zero, Nat.zero_mul, Nat.add_zero] at hx
      have hpl : pre.length < (allPn sp).length := by
        have h2 := hT.out
        have h3 := (hstep none 0).2.2.2
        rw [← htl, ← h2, List.length_append, sort_len]; omega
      have HST := Lib.hid hstep
      clear hstep hrow
      gi_wp2_with fail
      gi_at_call 157
      refine (callsIn_wide.2 C.out).mono ?_
      rintro e w2 ⟨rfl, b2⟩
      have hc2 : w2.cell? ⟨W.heap.size + 1, z.toNat, none⟩ = some (.slice (some ⟨b4, o4, none⟩) (r.length + 1) sc) := by
        have := (b2.cell (p := ⟨W.heap.size + 1, 0 + z.toNat, none⟩) (by exact hbig)).trans hc
        simpa using this
      have hs2 := b2.size
      obtain ⟨x0, x1⟩ := hx.below b2 (Nat.lt_of_lt_of_le hb4 (by omega))
      have hJ2 := hJa _ _ _ hJs.out (Tch.of_below b2)
      have HO2 := Lib.hid (own_below ho.out b2)
      have HR2 : Hid (∀ s ∈ lf, SpR n₀ w2 s) := fun s hs => (hr.out s hs).below (b2.mono (by omega))
      have HB2 : Hid (Below n₀ W w2) := hB.out.trans (b2.mono (by omega))
      obtain ⟨fn, tmps, assign, body, hy, hY2⟩ := hY pre x w2 hJ2 hpl (by omega)
      clear b2 C hc hx hJs ho hr hB hRw
      unfold pnA at hy
      gi_wp2
      refine hY2.mono ?_
      rintro e W3 (⟨rfl, hJ3, hb3, hk3⟩ | ⟨rfl, hJx3⟩)
      · have O3 := own_same HO2.out (w' := W3) (fun g hg => by
          have : W.heap.size + 1 = g := by simpa [Value.ownBlock] using hg
          subst this; exact hk3 _ (by omega) (Nat.le_refl _))
        have hs3 := hb3.size
        have hc3 : W3.cell? ⟨W.heap.size + 1, z.toNat, none⟩ = some (.slice (some ⟨b4, o4, none⟩) (r.length + 1) sc) := (World.cell?_of_block (a := ⟨W.heap.size + 1, z.toNat, none⟩) (hk3 (W.heap.size + 1) (by omega) (Nat.le_refl _))).trans hc2
        have hf3 := O3.frozenAt z.toNat
        obtain ⟨NA, hNA⟩ : ∃ NA, fromA (some ⟨b4, o4, none⟩) sc 1 2 = NA := ⟨_, rfl⟩
        have S0 := O3.stored z.toNat (.slice NA r.length (sc - 1))
        rw [flat_set lf z.toNat ⟨NA, sc - 1, r⟩] at S0
        obtain ⟨st1, st2, st3, st4⟩ := HST.out NA (sc - 1)
        obtain ⟨lf2, el2⟩ : ∃ lf2, lf.set z.toNat ⟨NA, sc - 1, r⟩ = lf2 := ⟨_, rfl⟩
        have hlen2 : lf2.length = lf.length := by rw [← el2, List.length_set]
        rw [el2] at S0 st1 st2 st3 st4
        have HJ4 : Hid (J (pre ++ [x]) (W3.setCell ⟨W.heap.size + 1, z.toNat, none⟩ (.slice NA r.length (sc - 1)))) := hJa _ _ _ hJ3 (Tch.of_grown (Go.Lib.grownBy_setCell W3 (W.heap.size + 1) z.toNat _) (fun i e => by cases e; exact ⟨by omega, Nat.le_refl _⟩))
        have B4 : Hid (Below n₀ W (W3.setCell ⟨W.heap.size + 1, z.toNat, none⟩ (.slice NA r.length (sc - 1)))) := (HB2.out.trans hb3).setCell (p := ⟨W.heap.size + 1, z.toNat, none⟩) (by show n₀ ≤ W.heap.size + 1; omega) _
        have HRn : Hid (∀ s ∈ lf2, SpR n₀ (W3.setCell ⟨W.heap.size + 1, z.toNat, none⟩ (.slice NA r.length (sc - 1))) s) := by
          intro s hs
          have hb5 : Below n₀ W3 (W3.setCell ⟨W.heap.size + 1, z.toNat, none⟩ (.slice NA r.length (sc - 1))) := (Below.refl _ _).setCell (p := ⟨W.heap.size + 1, z.toNat, none⟩) (by show n₀ ≤ W.heap.size + 1; omega) _
          rw [← el2] at hs
          rcases List.mem_or_eq_of_mem_set hs with h | h
          · exact ((HR2.out s h).below hb3).below hb5
          · subst h
            have h1 := HR2.out _ (getD_mem lf z.toNat sp0 hjl)
            rw [HES.out] at h1
            have h2 : SpR n₀ w2 ⟨NA, sc - 1, r⟩ := by
              refine ⟨?_, by simp only; have := h1.cap; simp at this; omega, fun h => by rw [← hNA] at h; exact fromA_nil h1.nil h⟩
              have := h1.row.from_ (n := r.length + 1) (k := 1) (sz := 2) (c := sc) (by rw [flat_len pnC 2 pnC_len]; simp) (by omega) (by have := h1.cap; simpa using this)
              rw [hNA] at this
              simpa [pnC] using this
            exact (h2.below hb3).below hb5
        have HN : Hid (W.heap.size + 1 < (W3.setCell ⟨W.heap.size + 1, z.toNat, none⟩ (.slice NA r.length (sc - 1))).heap.size) := by show _ < _; simp; omega
        have HS := Lib.hid S0.1
        have HT2 : Hid ((pre ++ [x]) ++ sortPn (allPn lf2) = T) := by show _ = _; rw [← hT.out, st1]; simp
        have HM2 : Hid ((allPn lf).length = (allPn lf2).length + 1) := st4
        have HS2 := Lib.hid st2
        have HS3 := Lib.hid st3
        have HLL := Lib.hid hlen2
        have HNA := Lib.hid hNA
        have hcap' : r.length + 1 ≤ sc := by simpa using hcap
        clear st1 st2 st3 st4 hlen2 O3 HO2 HR2 HB2 hJ3 hb3 hk3 hY2 hy hc2 x0 x1 hnil hcap S0 hNA el2
        by_cases hs1 : sc = 1
        · subst hs1
          have hr0 : r = [] := List.eq_nil_of_length_eq_zero (by omega)
          subst hr0
          have e1 : NA = some ⟨b4, o4, none⟩ := by rw [← HNA.out]; simp [fromA]
          subst e1
          gi_wp2
          go_roundw
          case rel => exact ⟨pre ++ [x], lf2, by rw [HLL.out]; exact HLN.out, HT2, HS2, HS3, HRn, HS, HJ4, B4, HN.out⟩
          case measure => rw [HM.out, HM2.out]; exact Nat.lt_of_le_of_lt (Nat.le_of_eq (leftS_own HS.out)) (Nat.lt_succ_self _)
        · have e1 : NA = some ⟨b4, o4 + 2, none⟩ := by
            rw [← HNA.out]
            simp [fromA, hs1, Addr.add]
          subst e1
          gi_wp2
          go_roundw
          case rel => exact ⟨pre ++ [x], lf2, by rw [HLL.out]; exact HLN.out, HT2, HS2, HS3, HRn, HS, HJ4, B4, HN.out⟩
          case measure => rw [HM.out, HM2.out]; exact Nat.lt_of_le_of_lt (Nat.le_of_eq (leftS_own HS.out)) (Nat.lt_succ_self _)
      · gi_wp2
        refine bodyPost_ret (results_none rfl _ _ _) rfl ?_
        refine ⟨⟨_, rfl⟩, .inr ⟨_, ?_, hJx3⟩⟩
        obtain ⟨st1, _⟩ := HST.out none 0
        exact ⟨_, by rw [← hT.out, st1]; simp; rfl⟩
/-- The cells of a pin stand there. -/
def PnAt (W : World) (b : Nat) (x : Pn) : Prop := W.cell? ⟨b, 0, none⟩ = some (.int .i64 x.at_) ∧ W.cell? ⟨b, 1, none⟩ = some (.int .i64 x.id)
theorem PnAt.kept {W W' : World} {b : Nat} {x : Pn} {row : Option Nat} (h : PnAt W b x) (hg : W.grownBy W' row) (hr : ∀ r, row = some r → ∃ o : Obj, W.heap[r]? = some o ∧ o.isCells = false) : PnAt W' b x := ⟨cell_kept h.1 hg hr, cell_kept h.2 hg hr⟩
theorem PnAt.new (W : World) (x : Pn) (t : TypeId) : PnAt (W.alloc (.cells #[.int .i64 x.at_, .int .i64 x.id] t)) W.heap.size x := by
  refine ⟨?_, ?_⟩ <;> rw [World.cell?_alloc_at _ _ _ _ rfl] <;> rfl
theorem PnAt.alloc {W : World} {b : Nat} {x : Pn} (h : PnAt W b x) (o : Obj) : PnAt (W.alloc o) b x := h.kept (World.grownBy_alloc W o none) (fun r e => by cases e)
/-- What the iterator asks of a wheel. -/
structure Mrg (n₀ : Nat) (w : World) (A : Option Addr) (sp : List Sp) : Prop where
  pos : 0 < sp.length
  len : sp.length ≤ 1048577
  ten : (allPn sp).length ≤ 10
  dis : Distinct (allPn sp)
  srt : ∀ s ∈ sp, s.l.Pairwise Pn.less
  row : Rws w n₀ A (sp.flatMap spC)
  sps : ∀ s ∈ sp, SpR n₀ w s
theorem Mrg.below {n₀ : Nat} {w w' : World} {A : Option Addr} {sp : List Sp} (h : Mrg n₀ w A sp) (hb : Below n₀ w w') : Mrg n₀ w' A sp := ⟨h.pos, h.len, h.ten, h.dis, h.srt, h.row.below hb, fun s hs => (h.sps s hs).below hb⟩
set_option maxRecDepth 100000 in
theorem inOrder_row (n : Nat) (hn : 1 ≤ n) (Bs n₀ c : Nat) (A : Option Addr) (sp : List Sp) (w : World) (hM : Mrg n₀ w A sp) (hn₀ : n₀ ≤ w.heap.size) (hBs : Bs < w.heap.size) (hc : w.cell? ⟨Bs, 0, none⟩ = some (.slice A sp.length c)) :
    SeqRow Fence.wide n Try.prog 155 #[.pointer (some ⟨Bs, 0, none⟩)] (fun x : Pn => #[pnA x]) n₀ 1 (fun ys => ys = sortPn (allPn sp)) (fun pre => pre <+: sortPn (allPn sp)) (allPn sp).length w := fun l J Jx W hW hJ hJx hY h0 => by
  have hM' := hM.below (hW.mono hn₀)
  refine (inOrder_in n hn l Bs n₀ c A sp hM.pos hM.len hM.ten hM.dis hM.srt W J Jx hJ hY (Nat.le_trans hn₀ hW.size) ((hW.cell (p := ⟨Bs, 0, none⟩) hBs).trans hc) hM'.row hM'.sps h0).mono ?_
  rintro e W' ⟨he, hj | ⟨pre, hp, hj⟩⟩
  · exact ⟨he, .inl ⟨_, rfl, hj⟩⟩
  · exact ⟨he, .inr ⟨_, hp, hj⟩⟩
theorem Tch.boxed {P : Nat → Prop} {W W' : World} {b : Nat} {t : TypeId} {v : Value} (t' : Tch P W W') (h : Boxed W b t v) (hn : ¬ P b) : Boxed W' b t v := (t'.block b h.lt hn).trans h
theorem PnAt.tch {P : Nat → Prop} {W W' : World} {b : Nat} {x : Pn} (h : PnAt W b x) (t' : Tch P W W') (hn : ¬ P b) (hl : b < W.heap.size) : PnAt W' b x :=
  ⟨(World.cell?_of_block (a := ⟨b, 0, none⟩) (t'.block b hl hn)).trans h.1, (World.cell?_of_block (a := ⟨b, 1, none⟩) (t'.block b hl hn)).trans h.2⟩
theorem pn_one_new (W : World) (x : Pn) (t : TypeId) : ∀ j u, ([.int .i64 x.at_, .int .i64 x.id] : List Value)[j]? = some u → (W.alloc (.cells #[.int .i64 x.at_, .int .i64 x.id] t)).cell? ((⟨W.heap.size, 0, none⟩ : Addr).add j) = some u := by
  intro j u h
  match j, h with
  | 0, h => simp at h; subst h; exact (PnAt.new W x t).1
  | 1, h => simp at h; subst h; exact (PnAt.new W x t).2
  | j + 2, h => simp at h
/-- The loop's variable in its box, and what it has collected. -/
def Coll (w W : World) (b r : Nat) (q : List Pn) : Prop := ∃ v, Boxed W b 29 v ∧ W.ownsRow r 70 2 v q.length (q.flatMap pnC)
theorem Coll.tch {P : Nat → Prop} {w W W' : World} {b r : Nat} {q : List Pn} (h : Coll w W b r q) (t : Tch P W W') (hb : ¬ P b) (hr : ∀ g, r ≤ g → ¬ P g) : Coll w W' b r q := by
  obtain ⟨v, h1, h2⟩ := h
  exact ⟨v, t.boxed h1 hb, t.own h2 (fun g hg => hr g (World.ownsRow.lt h2 g hg).1)⟩
/-- What an append into the box leaves. -/
theorem Coll.app {w W w1 : World} {n₀ B b r : Nat} {q : List Pn} {x : Pn} {v v' : Value} {tmp : Obj} (hv : Boxed W b 29 v) (hrow : W.ownsRow r 70 2 v q.length (q.flatMap pnC)) (hn₀ : n₀ ≤ W.heap.size) (hnb : n₀ ≤ b) (hbB : b < B) (hrB : B + 3 < r) (hrW : r ≤ W.heap.size)
    (hown' : w1.ownsRow r 70 2 v' (q.length + 1) (q.flatMap pnC ++ [.int .i64 x.at_, .int .i64 x.id])) (hg : (W.alloc tmp).grownBy w1 v.ownBlock) :
    Boxed w1 b 29 v ∧ RdT n₀ B 1 W (w1.setCell ⟨b, 0, none⟩ v') ∧ Coll w (w1.setCell ⟨b, 0, none⟩ v') b r (q ++ [x]) ∧ Below n₀ W (w1.setCell ⟨b, 0, none⟩ v') := by
  have hv1 : Boxed w1 b 29 v := (hv.alloc tmp).kept hg (hv.not_row (by decide) hrow)
  have t1 : RdT n₀ B 1 W (W.alloc tmp) := Tch.of_below ((Below.refl _ _).alloc (Nat.le_refl _) _)
  have t2 : RdT n₀ B 1 (W.alloc tmp) w1 := Tch.of_grown hg (fun i hi => by
    have h9 := (World.ownsRow.lt hrow i hi).1
    exact ⟨by omega, fun h => by have := h.2; omega⟩)
  have t3 : RdT n₀ B 1 w1 (w1.setCell ⟨b, 0, none⟩ v') := Tch.of_grown (grownBy_setCell' w1 b v') (fun i e => by cases e; exact ⟨hnb, fun h => by have := h.1; omega⟩)
  have ta := (t1.trans t2).trans t3
  refine ⟨hv1, ta, ⟨v', hv1.set v', ?_⟩, ta.below hn₀⟩
  have h8 := hown'.kept (grownBy_setCell' w1 b v') (.inr (hv1.not_row (by decide) hown').symm)
  rw [List.length_append, List.flatMap_append]
  simpa [pnC] using h8
set_option maxRecDepth 100000 in
set_option maxHeartbeats 8000000 in
theorem appendSeq_in (n : Nat) (hn : 3 ≤ n) (Bs c : Nat) (A : Option Addr) (sp : List Sp) (w : World) (hM : Mrg w.heap.size w A sp) (hBs : Bs < w.heap.size) (hc : w.cell? ⟨Bs, 0, none⟩ = some (.slice A sp.length c)) :
    CallsIn Fence.wide n Try.prog 154 #[.slice none 0 0, .func (.func 155) #[] #[.pointer (some ⟨Bs, 0, none⟩)]] w fun e W' => ∃ v, e = .returned v ∧ W'.ownsRow w.heap.size 70 2 v (sortPn (allPn sp)).length ((sortPn (allPn sp)).flatMap pnC) ∧ Below w.heap.size w W' := by
  have hro : Fence.wide.round = none := rfl
  have h0f : Fence.wide.fn 154 := trivial
  have h1f : Fence.wide.fn 155 := trivial
  have h1 : 1 ≤ n := by omega
  obtain ⟨i0, hi, hz0, hz1, hz2⟩ := info_parts rowPin.inf
  obtain ⟨U, hU⟩ : ∃ U, w.alloc (.cells #[.slice none 0 0] 29) = U := ⟨_, rfl⟩
  have hUs : U.heap.size = w.heap.size + 1 := by rw [← hU]; simp
  have bO : Boxed U w.heap.size 29 (.slice none 0 0) := by rw [← hU]; exact Boxed.new _ _ _
  have hBU : Below w.heap.size w U := by rw [← hU]; exact (Below.refl _ w).alloc (Nat.le_refl _) _
  have hcU : U.cell? ⟨Bs, 0, none⟩ = some (.slice A sp.length c) := (hBU.cell (p := ⟨Bs, 0, none⟩) hBs).trans hc
  have hten := hM.ten
  refine callsIn_of_wp_marks Try.func154 rfl h0f ?_ hro
  simp only [Try.ntmps154, List.size_toArray, List.length_cons, List.length_nil, Nat.reduceAdd, Nat.reduceSub, Array.replicate_succ, Array.replicate_zero, List.push_toArray, List.append_toArray, List.nil_append, List.cons_append]
  gi_wp2
  try rw [hU]
  clear hU
  have hrow := inOrder_row (n - 1) (by omega) Bs w.heap.size c A sp U (hM.below hBU) (by omega) (by omega) hcU
  refine wpIn_rangeFunc_row hro h1 (gf := 155) (lb := #[.pointer (some ⟨Bs, 0, none⟩)]) rfl h1f (enters_of Try.func155 (by kernel_rfl) rfl) hrow (by omega) (fun _ => rfl)
    (fun pre W => Coll w W w.heap.size (w.heap.size + 5) pre ∧ Below w.heap.size w W) (fun _ _ _ => False) ?hI (fun _ _ _ _ h _ => h) ⟨⟨_, bO, World.ownsRow_nil _ _ _ _⟩, hBU⟩
    (fun x a' W => ∃ Bx, w.heap.size + 4 < Bx ∧ Bx < W.heap.size ∧ PnAt W Bx x ∧ a' = { tmps := #[.slice none 0 0, .func (.func 155) #[] #[.pointer (some ⟨Bs, 0, none⟩)], .pointer (some ⟨w.heap.size, 0, none⟩), undef, .slice none 0 0, .pointer (some ⟨Bx, 0, none⟩), .func (.func 155) #[] #[.pointer (some ⟨Bs, 0, none⟩)], pnA x, undef, undef, undef, undef, undef], defers := [] })
    ?hAx ?assign ?body ?done ?stop
  case hI =>
    rintro s X Y ⟨h2, h3⟩ t
    exact ⟨h2.tch t (fun h => by have := h.1; omega) (fun g hg h => by have := h.2; omega), h3.trans (t.below h3.size (fun i hi => by have := hi.1; omega))⟩
  case hAx =>
    rintro x a' X Y ⟨Bx, q1, q2, q3, q4⟩ t
    exact ⟨Bx, q1, Nat.lt_of_lt_of_le q2 t.size, q3.tch t (fun h => by have := h.2; omega) q2, q4⟩
  case assign =>
    rintro l pre x W K ⟨h2, h3⟩ hbig hK
    have hz : (Array.zip (α := Tmp) (β := Value) #[7] #[pnA x]) = #[(7, pnA x)] := by simp
    rw [hz]
    simp only [List.foldl_toArray, List.foldl_cons, List.foldl_nil, List.setIfInBounds_toArray, List.set_cons_succ, List.set_cons_zero]
    unfold pnA at hK ⊢
    have ba : Below W.heap.size W (W.alloc (.cells #[.int .i64 x.at_, .int .i64 x.id] 70)) := (Below.refl _ _).alloc (Nat.le_refl _) _
    have HK := Lib.hid (hK _ _ (Tch.of_below ba) ⟨h2.tch (P := fun _ => False) (Tch.of_below ba) (fun h => h) (fun _ _ h => h), h3.alloc h3.size _⟩ ⟨W.heap.size, by omega, by simp, PnAt.new W x _, rfl⟩)
    clear hK
    gi_wp2
    exact HK.out
  case body =>
    rintro l pre x a' W ⟨⟨v, hv, hrw⟩, hB1⟩ ⟨Bx, q1, q2, q3, rfl⟩ hlt hbig
    obtain ⟨x0, x1⟩ := id q3
    have hc := hv.cell
    unfold pnA
    clear q3
    gi_wp2_with (gi_at_builtin; refine wpListIn_append_own _ rfl _ _ 29 rfl (w.heap.size + 5) 70 i0 (.agg #[.int .i64 0, .int .i64 0]) 2 16 rowPin.ut hi hz0 hz1 hz2 rowPin.zc rowPin.pos _ _ _ rfl (hrw.alloc _) ⟨W.heap.size, 0, none⟩ 1 1 [.int .i64 x.at_, .int .i64 x.id] rfl rfl (pn_one_new _ _ _) (by simp [Value.oneCell']) (by unfold maxLen; omega) (by omega) (by simp; omega) ?_; intro v' w1 hown' hgrow _; obtain ⟨g', cap', rfl⟩ := ownsRow_succ hown'; obtain ⟨hv1, hT, hC, hB2⟩ := Coll.app (w := w) (n₀ := w.heap.size) (B := U.heap.size) hv hrw hB1.size (Nat.le_refl _) (by omega) (by omega) (by omega) hown' hgrow; have hc1 := hv1.cell; have hf1 := hv1.frozen)
    exact ⟨hT, hC, hB1.trans hB2⟩
  case done =>
    rintro D ys W hD rfl ⟨⟨v, hv, hrw⟩, hB1⟩ hK
    have hc := hv.cell
    have HR : Hid (∃ v', v = v' ∧ (W.putObj D (.deferred none)).ownsRow w.heap.size 70 2 v' (sortPn (allPn sp)).length ((sortPn (allPn sp)).flatMap pnC) ∧ Below w.heap.size w (W.putObj D (.deferred none))) :=
      ⟨v, rfl, ownsRow_putObj (own_weak hrw (by omega)) _ hK rfl, hB1.trans (belowK_b (w := w) (Nat.le_refl _) W D _ (.deferred none) (by omega) hK rfl rfl)⟩
    clear hrw
    gi_wp2
    refine ⟨by simp, .inl ⟨_, _, rfl, run_takeDeferred hK, ?_⟩⟩
    obtain ⟨v', rfl, r1, r2⟩ := HR.out
    refine ⟨v, ?_, v, rfl, r1, r2⟩
    simp [results, Try.f154, go_sem]
  case stop =>
    rintro D cd pre W _ _ h _
    exact h.elim
set_option maxRecDepth 100000 in
set_option maxHeartbeats 2000000 in
theorem collect_in (n : Nat) (hn : 4 ≤ n) (Bs c : Nat) (A : Option Addr) (sp : List Sp) (w : World) (hM : Mrg w.heap.size w A sp) (hBs : Bs < w.heap.size) (hc : w.cell? ⟨Bs, 0, none⟩ = some (.slice A sp.length c)) :
    Calls Try.prog 149 #[.func (.func 155) #[] #[.pointer (some ⟨Bs, 0, none⟩)]] w (NewR 70 2 w (sortPn (allPn sp)).length ((sortPn (allPn sp)).flatMap pnC)) := by
  have C := Lib.hid (callsIn_wide.1 (appendSeq_in 3 (Nat.le_refl _) Bs c A sp w hM hBs hc))
  generalize (sortPn (allPn sp)).flatMap pnC = cs at *
  generalize (sortPn (allPn sp)).length = m at *
  clear hM hc
  go_enter Try.func149, Try.ntmps149
  go_wp2_with fail
  refine C.out.mono ?_
  rintro e w1 ⟨v, rfl, o1, b1⟩
  have R := Lib.hid (NewR.of_own o1 b1)
  clear o1 b1 C
  go_wp2
  go_ret
  exact R.out
/-- A call of a function value that captures nothing is entered. -/
theorem exec_callv {P : Program} {a : Act} {o : Oper} {f : FuncId} {x : Operand} {xs : Array Operand} {ats : Array TypeId} {args : Array Value} {fn : Func} (hf : P.funcs[f]? = some fn) (hn : (fn.name == "runtime.NumGoroutine") = false) (hb : fn.body.isNone = false) (w : World)
    (ho : o.op = .call { callee := .value x, args := xs, argTypes := ats } := by rfl) (ef : a.eval x = .func (.func f) #[] #[] := by rfl) (ha : xs.map a.eval = args := by (simp only [List.map_toArray, List.map_cons, List.map_nil]; rfl)) : (execOp a.eval o).run P w = .ok (.enter f args) w := by
  subst ha
  have h1 : fn.name ≠ "runtime.NumGoroutine" := by simpa using hn
  unfold execOp
  obtain ⟨c, hc⟩ : ∃ c, fn.body = some c := by
    cases h : fn.body with
    | none => rw [h] at hb; cases hb
    | some c => exact ⟨c, rfl⟩
  simp [ho, resolve, Deferred.ofValue, invoke, ef, callFunc, hf, h1, hc]
/-- No pin stands behind a greater one. -/
def Srt (l : List Pn) : Prop := ∀ i, 0 < i → i < l.length → ¬ Pn.less (l.getD i pn0) (l.getD (i - 1) pn0)
/-- The call tells p. -/
def TellB (p : Prop) (e : Ending) : Prop := ∃ q, e = .returned (.bool q) ∧ (q = true ↔ p)
theorem TellB.yes {p : Prop} (h : p) : TellB p (.returned (.bool true)) := ⟨true, rfl, by simp [h]⟩
theorem TellB.no {p : Prop} (h : ¬ p) : TellB p (.returned (.bool false)) := ⟨false, rfl, by simp [h]⟩
theorem TellB.of {p : Prop} {q : Bool} (h : q = true ↔ p) : TellB p (.returned (.bool q)) := ⟨q, rfl, h⟩
/-- The call returns a place just where p. -/
def TellZ (p : Prop) (e : Ending) : Prop := ∃ z : Int, e = .returned (.int .i64 z) ∧ (0 ≤ z ↔ p)
theorem TellZ.of {p : Prop} {z : Int} (h : 0 ≤ z ↔ p) : TellZ p (.returned (.int .i64 z)) := ⟨z, rfl, h⟩
set_option maxRecDepth 100000 in
set_option maxHeartbeats 3200000 in
theorem isSorted_im (A : Option Addr) (l : List Pn) (c : Nat) (w : World) (hl : l.length ≤ 1048577) (hA : Rws w w.heap.size A (l.flatMap pnC)) :
    Calls Try.prog 148 #[.slice A l.length c, .func (.func 47) #[] #[]] w fun e w' => TellB (Srt l) e ∧ Below w.heap.size w w' := by
  have HA := Lib.hid hA
  have hw1 : IntKind.i64.wrap ((l.length : Int) - 1) = (l.length : Int) - 1 := by rw [IntKind.wrap_i64]; omega
  clear hA
  go_enter Try.func148, Try.ntmps148
  go_wp2
  go_loopw [5] (fun i wr => ∃ (k : Nat) (z : Int), k ≤ l.length ∧ z = (k : Int) - 1 ∧ i = .int .i64 z ∧ Hid (∀ j, k ≤ j → 0 < j → j < l.length → ¬ Pn.less (l.getD j pn0) (l.getD (j - 1) pn0)) ∧ Hid (Below w.heap.size w wr)) (fun i _ => (intOf i + 1).toNat)
  case atStart => exact ⟨l.length, _, Nat.le_refl _, rfl, by go_num, (fun j h1 _ h2 => by omega), Below.refl _ _⟩
  case round =>
    obtain ⟨k, z, hk, hz, rfl, hall, hb⟩ := hrel
    by_cases h2 : 2 ≤ k
    rotate_left
    · have hz0 : ¬ (0 < z) := by omega
      have HY : Hid (Srt l) := fun i h1 h3 => hall.out i (by omega) h1 h3
      clear hz hall
      go_wp2
      go_ret
      exact ⟨TellB.yes HY.out, hb.out⟩
    · obtain ⟨i, hi⟩ : ∃ i : Nat, i = k - 1 := ⟨_, rfl⟩
      have hz2 : z = (i : Int) := by omega
      subst hz2
      have hi1 : 0 < i := by omega
      have hil : i < l.length := by omega
      have HRr := Lib.hid (rws_below HA.out hb.out)
      obtain ⟨b, off, rfl, hbB, hx⟩ := HRr.out.pn hil
      obtain ⟨b', off', e', _, hy⟩ := HRr.out.pn (i := i - 1) (by omega)
      obtain ⟨rfl, rfl⟩ : b' = b ∧ off' = off := by injection e' with e'; injection e' with e1 e2; exact ⟨e1.symm, e2.symm⟩
      have hall2 : Hid (¬ Pn.less (l.getD i pn0) (l.getD (i - 1) pn0) → ∀ j, i ≤ j → 0 < j → j < l.length → ¬ Pn.less (l.getD j pn0) (l.getD (j - 1) pn0)) := fun h j h3 h4 h5 => by
        by_cases e : j = i
        · subst e; exact h
        · exact hall.out j (by omega) h4 h5
      have hno : Hid (Pn.less (l.getD i pn0) (l.getD (i - 1) pn0) → ¬ Srt l) := fun h hs => hs i hi1 hil h
      clear hall e'
      generalize l.getD i pn0 = x at *
      generalize l.getD (i - 1) pn0 = y at *
      have KX := Lib.hid (fun w' (h : Below wr.heap.size wr w') => hx.below h hbB)
      have KY := Lib.hid (fun w' (h : Below wr.heap.size wr w') => hy.below h hbB)
      have HL := Lib.hid (ordP_less x y)
      have hiz : (0 : Int) < (i : Int) := by omega
      clear hx hy hz hi h2
      by_cases hless : Pn.less x y
      · have HO : Hid (decide (ordP x y < 0) = true) := HL.out.trans (decide_eq_true hless)
        have HN := Lib.hid (hno.out hless)
        clear hall2 hno HL hless
        go_wp2_with fail
        refine wp_region_held_drew (S := fun w' => Hid (Below wr.heap.size wr w')) (by kernel_rfl) (below_drawn (Below.refl _ _) 1) (fun hHeld => ?_)
        refine held_take 0 13 (.func (.func 47) #[] #[]) rfl rfl (by kernel_rfl) (by kernel_rfl) (by kernel_rfl) (fun _ _ _ h => h) rfl hHeld (fun w _ => rfl) ?_
        refine held_take 1 14 (.slice (some ⟨b', off', none⟩) l.length c) rfl rfl (by kernel_rfl) (by kernel_rfl) (by kernel_rfl) (fun _ _ _ h => h) rfl hHeld (fun w _ => rfl) ?_
        refine held_take 2 15 (.int .i64 (i : Int)) rfl rfl (by kernel_rfl) (by kernel_rfl) (by kernel_rfl) (fun _ _ _ h => h) rfl hHeld (fun w _ => rfl) ?_
        simp only [Act.put, List.setIfInBounds_toArray, List.set_cons_zero, List.set_cons_succ]
        refine held_take 3 16 (.pointer (some ⟨b', off' + i * 2, none⟩)) rfl rfl (by kernel_rfl) (by kernel_rfl) (by kernel_rfl) (fun _ _ _ h => h) rfl hHeld (fun w _ => exec_idx_pn b' off' l.length c i w (by omega)) ?_
        refine held_take 4 17 (pnA x) rfl rfl (by kernel_rfl) (by kernel_rfl) (by kernel_rfl) (fun _ _ _ h => h) rfl hHeld (fun w h => exec_load_pn b' (off' + i * 2) x w (KX.out w h.out)) ?_
        refine held_take 5 18 (.slice (some ⟨b', off', none⟩) l.length c) rfl rfl (by kernel_rfl) (by kernel_rfl) (by kernel_rfl) (fun _ _ _ h => h) rfl hHeld (fun w _ => rfl) ?_
        simp only [Act.put, List.setIfInBounds_toArray, List.set_cons_zero, List.set_cons_succ]
        refine held_take 6 19 (.int .i64 (i : Int)) rfl rfl (by kernel_rfl) (by kernel_rfl) (by kernel_rfl) (fun _ _ _ h => h) rfl hHeld (fun w _ => rfl) ?_
        refine held_take 7 20 (.int .i64 ((i - 1 : Nat) : Int)) rfl rfl (by kernel_rfl) (by kernel_rfl) (by kernel_rfl) (fun _ _ _ h => h) rfl hHeld (fun w _ => exec_subI (i : Int) 1 _ w (by omega) (by omega) (by omega)) ?_
        refine held_take 8 21 (.pointer (some ⟨b', off' + (i - 1) * 2, none⟩)) rfl rfl (by kernel_rfl) (by kernel_rfl) (by kernel_rfl) (fun _ _ _ h => h) rfl hHeld (fun w _ => exec_idx_pn b' off' l.length c (i - 1) w (by omega)) ?_
        simp only [Act.put, List.setIfInBounds_toArray, List.set_cons_zero, List.set_cons_succ]
        refine held_take 9 22 (pnA y) rfl rfl (by kernel_rfl) (by kernel_rfl) (by kernel_rfl) (fun _ _ _ h => h) rfl hHeld (fun w h => exec_load_pn b' (off' + (i - 1) * 2) y w (KY.out w h.out)) ?_
        simp only [Act.put, List.setIfInBounds_toArray, List.set_cons_zero, List.set_cons_succ]
        refine held_call 10 23 47 #[pnA x, pnA y] rfl rfl (by kernel_rfl) rfl (exec_callv Try.func47 (by kernel_rfl) (by kernel_rfl) _) ?_
        refine (pinOrder_im x y _).mono ?_
        rintro e u1 ⟨rfl, x1⟩
        have hHeld : Hid (Below wr.heap.size wr u1) := hHeld.out.trans (x1.mono hHeld.out.size)
        refine ⟨_, rfl, hHeld, ?_⟩
        simp only [Act.put, List.setIfInBounds_toArray, List.set_cons_zero, List.set_cons_succ]
        refine held_take 11 24 (.bool true) rfl rfl (by kernel_rfl) (by kernel_rfl) (by kernel_rfl) (fun _ _ _ h => h) rfl hHeld (fun w _ => exec_lssI (ordP x y) 0 _ w HO.out) ?_
        simp only [Act.put, List.setIfInBounds_toArray, List.set_cons_zero, List.set_cons_succ]
        refine wpAnyH_done (by kernel_rfl) ?_ _
        have BF := Lib.hid (hb.out.trans (hHeld.out.mono hb.out.size))
        clear hHeld x1
        go_wp2
        go_ret
        exact ⟨TellB.no HN.out, BF.out⟩
      · have HO : Hid (decide (ordP x y < 0) = false) := HL.out.trans (decide_eq_false hless)
        have HN := Lib.hid (hall2.out hless)
        clear hall2 hno HL hless
        go_wp2_with fail
        refine wp_region_held_drew (S := fun w' => Hid (Below wr.heap.size wr w')) (by kernel_rfl) (below_drawn (Below.refl _ _) 1) (fun hHeld => ?_)
        refine held_take 0 13 (.func (.func 47) #[] #[]) rfl rfl (by kernel_rfl) (by kernel_rfl) (by kernel_rfl) (fun _ _ _ h => h) rfl hHeld (fun w _ => rfl) ?_
        refine held_take 1 14 (.slice (some ⟨b', off', none⟩) l.length c) rfl rfl (by kernel_rfl) (by kernel_rfl) (by kernel_rfl) (fun _ _ _ h => h) rfl hHeld (fun w _ => rfl) ?_
        refine held_take 2 15 (.int .i64 (i : Int)) rfl rfl (by kernel_rfl) (by kernel_rfl) (by kernel_rfl) (fun _ _ _ h => h) rfl hHeld (fun w _ => rfl) ?_
        simp only [Act.put, List.setIfInBounds_toArray, List.set_cons_zero, List.set_cons_succ]
        refine held_take 3 16 (.pointer (some ⟨b', off' + i * 2, none⟩)) rfl rfl (by kernel_rfl) (by kernel_rfl) (by kernel_rfl) (fun _ _ _ h => h) rfl hHeld (fun w _ => exec_idx_pn b' off' l.length c i w (by omega)) ?_
        refine held_take 4 17 (pnA x) rfl rfl (by kernel_rfl) (by kernel_rfl) (by kernel_rfl) (fun _ _ _ h => h) rfl hHeld (fun w h => exec_load_pn b' (off' + i * 2) x w (KX.out w h.out)) ?_
        refine held_take 5 18 (.slice (some ⟨b', off', none⟩) l.length c) rfl rfl (by kernel_rfl) (by kernel_rfl) (by kernel_rfl) (fun _ _ _ h => h) rfl hHeld (fun w _ => rfl) ?_
        simp only [Act.put, List.setIfInBounds_toArray, List.set_cons_zero, List.set_cons_succ]
        refine held_take 6 19 (.int .i64 (i : Int)) rfl rfl (by kernel_rfl) (by kernel_rfl) (by kernel_rfl) (fun _ _ _ h => h) rfl hHeld (fun w _ => rfl) ?_
        refine held_take 7 20 (.int .i64 ((i - 1 : Nat) : Int)) rfl rfl (by kernel_rfl) (by kernel_rfl) (by kernel_rfl) (fun _ _ _ h => h) rfl hHeld (fun w _ => exec_subI (i : Int) 1 _ w (by omega) (by omega) (by omega)) ?_
        refine held_take 8 21 (.pointer (some ⟨b', off' + (i - 1) * 2, none⟩)) rfl rfl (by kernel_rfl) (by kernel_rfl) (by kernel_rfl) (fun _ _ _ h => h) rfl hHeld (fun w _ => exec_idx_pn b' off' l.length c (i - 1) w (by omega)) ?_
        simp only [Act.put, List.setIfInBounds_toArray, List.set_cons_zero, List.set_cons_succ]
        refine held_take 9 22 (pnA y) rfl rfl (by kernel_rfl) (by kernel_rfl) (by kernel_rfl) (fun _ _ _ h => h) rfl hHeld (fun w h => exec_load_pn b' (off' + (i - 1) * 2) y w (KY.out w h.out)) ?_
        simp only [Act.put, List.setIfInBounds_toArray, List.set_cons_zero, List.set_cons_succ]
        refine held_call 10 23 47 #[pnA x, pnA y] rfl rfl (by kernel_rfl) rfl (exec_callv Try.func47 (by kernel_rfl) (by kernel_rfl) _) ?_
        refine (pinOrder_im x y _).mono ?_
        rintro e u1 ⟨rfl, x1⟩
        have hHeld : Hid (Below wr.heap.size wr u1) := hHeld.out.trans (x1.mono hHeld.out.size)
        refine ⟨_, rfl, hHeld, ?_⟩
        simp only [Act.put, List.setIfInBounds_toArray, List.set_cons_zero, List.set_cons_succ]
        refine held_take 11 24 (.bool false) rfl rfl (by kernel_rfl) (by kernel_rfl) (by kernel_rfl) (fun _ _ _ h => h) rfl hHeld (fun w _ => exec_lssI (ordP x y) 0 _ w HO.out) ?_
        simp only [Act.put, List.setIfInBounds_toArray, List.set_cons_zero, List.set_cons_succ]
        refine wpAnyH_done (by kernel_rfl) ?_ _
        have BF := Lib.hid (hb.out.trans (hHeld.out.mono hb.out.size))
        clear hHeld x1
        go_wp2
        go_roundw
        case rel => exact ⟨i, (i : Int) - 1, by omega, rfl, by go_num, HN, BF⟩
        case measure => simp [intOf] <;> omega
set_option maxRecDepth 100000 in
set_option maxHeartbeats 800000 in
theorem isUnsorted_im (A : Option Addr) (l : List Pn) (c : Nat) (w : World) (hl : l.length ≤ 1048577) (hA : Rws w w.heap.size A (l.flatMap pnC)) :
    Calls Try.prog 128 #[.slice A l.length c] w fun e w' => TellB (¬ Srt l) e ∧ Below w.heap.size w w' := by
  have C := Lib.hid (isSorted_im A l c w hl hA)
  clear hA
  go_enter Try.func128, Try.ntmps128
  go_wp2_with fail
  refine C.out.mono ?_
  rintro e w1 ⟨⟨q, rfl, hq⟩, b1⟩
  have B1 := Lib.hid b1
  have HQ := Lib.hid hq
  clear b1 C hq
  go_wp2
  go_ret
  refine ⟨TellB.of (q := !q) ?_, B1.out⟩
  have := HQ.out
  cases q
  · simp at this ⊢; exact this
  · simp at this ⊢; exact this
set_option maxRecDepth 100000 in
set_option maxHeartbeats 1600000 in
theorem indexFuncS_im (A : Option Addr) (sp : List Sp) (c : Nat) (w : World) (hn : sp.length ≤ 1048577) (hl : (allPn sp).length ≤ 1048577) (hA : Whl w A sp) :
    Calls Try.prog 147 #[.slice A sp.length c, .func (.func 128) #[] #[]] w fun e w' => TellZ (∃ s ∈ sp, ¬ Srt s.l) e ∧ Below w.heap.size w w' := by
  have HA := Lib.hid hA
  clear hA
  go_enter Try.func147, Try.ntmps147
  go_wp2
  go_loopw [8] (fun i wr => ∃ k : Nat, k ≤ sp.length ∧ i = .int .i64 k ∧ Hid (∀ j, j < k → Srt (sp.getD j sp0).l) ∧ Hid (Below w.heap.size w wr)) (fun i _ => sp.length - (intOf i).toNat)
  case atStart => exact ⟨0, by omega, rfl, (fun j hj => by omega), Below.refl _ _⟩
  case round =>
    obtain ⟨k, hk, rfl, hall, hb⟩ := hrel
    by_cases hlt : k < sp.length
    · have hW := HA.out.below hb.out
      have hs := (hW.at_ hlt).row
      obtain ⟨b, off, rfl, hbB, hc⟩ := hW.row.sp hlt
      have hsl := at_le_all sp hlt
      have HI : Hid (¬ Srt (sp.getD k sp0).l → ∃ s ∈ sp, ¬ Srt s.l) := fun h => ⟨_, getD_mem sp k sp0 hlt, h⟩
      have HN : Hid (Srt (sp.getD k sp0).l → ∀ j, j < k + 1 → Srt (sp.getD j sp0).l) := fun h j hj => by
        by_cases e : j = k
        · subst e; exact h
        · exact hall.out j (by omega)
      clear hall hW
      generalize sp.getD k sp0 = s at *
      have C := Lib.hid (isUnsorted_im s.a s.l s.c wr (by omega) hs)
      clear hs
      obtain ⟨sa, sc, sl⟩ := s
      simp only at C hc HI HN hsl
      go_wp2_with fail
      refine C.out.mono ?_
      rintro e w1 ⟨⟨q, rfl, hq⟩, b1⟩
      have B1 := Lib.hid (hb.out.trans (b1.mono hb.out.size))
      have HQ := Lib.hid hq
      clear b1 C hc hq
      cases q with
      | true =>
        have HY := Lib.hid (HI.out (HQ.out.1 rfl))
        clear HI HN HQ
        go_wp2
        go_ret
        exact ⟨TellZ.of (z := (k : Int)) ⟨fun _ => HY.out, fun _ => by omega⟩, B1.out⟩
      | false =>
        have HZ := Lib.hid (HN.out (Classical.not_not.1 (fun h => by have := HQ.out.2 h; cases this)))
        clear HI HN HQ
        go_wp2
        go_roundw
        case rel => exact ⟨k + 1, by omega, by go_num, HZ, B1⟩
        case measure => simp [intOf]; omega
    · obtain rfl : k = sp.length := by omega
      have HN : Hid (¬ ∃ s ∈ sp, ¬ Srt s.l) := by
        rintro ⟨s, hs, h⟩
        obtain ⟨j, hj, rfl⟩ := List.getElem_of_mem hs
        have := hall.out j hj
        rw [List.getD_eq_getElem?_getD, List.getElem?_eq_getElem hj] at this
        exact h this
      clear hall
      go_wp2
      go_ret
      exact ⟨TellZ.of (z := -1) ⟨fun h => absurd h (by omega), fun h => absurd h HN.out⟩, hb.out⟩
set_option maxRecDepth 100000 in
set_option maxHeartbeats 800000 in
theorem containsFuncS_im (A : Option Addr) (sp : List Sp) (c : Nat) (w : World) (hn : sp.length ≤ 1048577) (hl : (allPn sp).length ≤ 1048577) (hA : Whl w A sp) :
    Calls Try.prog 127 #[.slice A sp.length c, .func (.func 128) #[] #[]] w fun e w' => TellB (∃ s ∈ sp, ¬ Srt s.l) e ∧ Below w.heap.size w w' := by
  have C := Lib.hid (indexFuncS_im A sp c w hn hl hA)
  clear hA
  go_enter Try.func127, Try.ntmps127
  go_wp2_with fail
  refine C.out.mono ?_
  rintro e w1 ⟨⟨z, rfl, hz⟩, b1⟩
  have B1 := Lib.hid b1
  have HZ := Lib.hid hz
  clear b1 C hz
  go_wp2
  go_ret
  exact ⟨TellB.of (q := decide (0 ≤ z)) (by rw [decide_eq_true_iff]; exact HZ.out), B1.out⟩
/-- The pins of the first k spokes, each with its spoke's number. -/
def tagN (sp : List Sp) (k : Nat) : List (Nat × Pn) := (List.range k).flatMap fun i => (sp.getD i sp0).l.map fun p => (i, p)
theorem tagN_succ (sp : List Sp) (k : Nat) : tagN sp (k + 1) = tagN sp k ++ (sp.getD k sp0).l.map fun p => (k, p) := by
  unfold tagN; rw [List.range_succ, List.flatMap_append]; simp
theorem tagN_snd (sp : List Sp) : ∀ k, k ≤ sp.length → (tagN sp k).map (fun x => x.2) = allPn (sp.take k)
  | 0, _ => rfl
  | k + 1, h => by
    rw [tagN_succ, List.map_append, tagN_snd sp k (by omega), allPn_take sp k (by omega), List.map_map]
    congr 1
    exact List.map_id'' (fun _ => rfl) _
theorem tagN_len (sp : List Sp) (k : Nat) (h : k ≤ sp.length) : (tagN sp k).length = (allPn (sp.take k)).length := by rw [← tagN_snd sp k h, List.length_map]
theorem pn_take (l : List Pn) (j : Nat) (h : j < l.length) : l.take (j + 1) = l.take j ++ [l.getD j pn0] := take_succ_getD l j pn0 h
set_option maxRecDepth 100000 in
theorem byList_in (n : Nat) (A : Option Addr) (len c : Nat) (w : World) :
    CallsIn Fence.wide n Try.prog 123 #[.agg #[.slice A len c]] w fun e w' => e = .returned (.func (.func 145) #[] #[.pointer (some ⟨w.heap.size, 0, none⟩)]) ∧ w' = w.alloc (.cells #[.slice A len c] 36) := by
  have hro : Fence.wide.round = none := rfl
  have hg : Fence.wide.fn 123 := trivial
  refine callsIn_of_wp Try.func123 rfl hg ?_ hro
  simp only [Try.ntmps123, List.size_toArray, List.length_cons, List.length_nil, Nat.reduceAdd, Nat.reduceSub, Array.replicate_succ, Array.replicate_zero, List.push_toArray, List.append_toArray, List.nil_append, List.cons_append]
  gi_wp2
  go_ret
  exact ⟨rfl, rfl⟩
set_option maxRecDepth 100000 in
set_option maxHeartbeats 4000000 in
theorem byList1_in (n : Nat) (hn : 1 ≤ n) (l Bs n₀ c : Nat) (A : Option Addr) (sp : List Sp) (hsz : sp.length ≤ 2097152) (hlz : (allPn sp).length ≤ 2097152) (J Jx : List (Nat × Pn) → World → Prop)
    (hJa : ∀ pre W o, J pre W → n₀ ≤ W.heap.size → J pre (W.alloc o))
    (hY : ∀ pre (x : Nat × Pn) W, J pre W → pre.length < (tagN sp sp.length).length → YieldAt Fence.wide (n - 1) Try.prog l #[.int .i64 (x.1 : Int), pnA x.2] W fun e W' =>
      (e = .returned (.bool true) ∧ J (pre ++ [x]) W' ∧ Below n₀ W W') ∨ (e = .returned (.bool false) ∧ Jx (pre ++ [x]) W'))
    (W : World) (hn₀ : n₀ ≤ W.heap.size) (hBs : W.cell? ⟨Bs, 0, none⟩ = some (.slice A sp.length c)) (hRA : Rws W n₀ A (sp.flatMap spC)) (hRS : ∀ s ∈ sp, Rws W n₀ s.a (s.l.flatMap pnC)) (h0 : J [] W) :
    CallsIn Fence.wide n Try.prog 145 #[.func (.yield l) #[] #[], .pointer (some ⟨Bs, 0, none⟩)] W fun e W' => (∃ v, e = .returned v) ∧ (J (tagN sp sp.length) W' ∨ (∃ pre, pre <+: tagN sp sp.length ∧ Jx pre W')) := by
  have hro : Fence.wide.round = none := rfl
  have hg : Fence.wide.fn 145 := trivial
  refine callsIn_of_wp Try.func145 rfl hg ?_ hro
  simp only [Try.ntmps145, List.size_toArray, List.length_cons, List.length_nil, Nat.reduceAdd, Nat.reduceSub, Array.replicate_succ, Array.replicate_zero, List.push_toArray, List.append_toArray, List.nil_append, List.cons_append]
  have hpre : ∀ k, k ≤ sp.length → ∃ rest, tagN sp sp.length = tagN sp k ++ rest := fun k hk => by
    obtain ⟨m, hm⟩ : ∃ m, sp.length = k + m := ⟨sp.length - k, by omega⟩
    rw [hm]
    clear hm
    induction m with
    | zero => exact ⟨[], by simp⟩
    | succ m ih =>
      obtain ⟨r, hr⟩ := ih
      exact ⟨r ++ (sp.getD (k + m) sp0).l.map (fun p => (k + m, p)), by rw [← Nat.add_assoc, tagN_succ, hr, List.append_assoc]⟩
  have HPRE := Lib.hid hpre
  clear hpre
  gi_wp2
  gi_loopw [10] (fun i wr => ∃ k : Nat, k ≤ sp.length ∧ i = .int .i64 k ∧ J (tagN sp k) wr ∧ Below n₀ W wr) (fun i _ => sp.length - (intOf i).toNat)
  case atStart => exact ⟨0, Nat.zero_le _, rfl, h0, Below.refl _ _⟩
  case round =>
    obtain ⟨k, hk, rfl, hJs, hnx⟩ := hrel
    by_cases hlt : k < sp.length
    · have hRx := hRA.below hnx
      obtain ⟨b, off, rfl, hbB, hc⟩ := hRx.sp hlt
      have hsr := (hRS (sp.getD k sp0) (getD_mem sp k sp0 hlt)).below hnx
      have et := tagN_succ sp k
      obtain ⟨rest0, hrest0⟩ := HPRE.out (k + 1) hlt
      rw [et] at hrest0
      have HT := Lib.hid et
      have el : (tagN sp k).length + (sp.getD k sp0).l.length ≤ (tagN sp sp.length).length := by rw [hrest0]; simp <;> omega
      have hs8 := at_le_all sp hlt
      clear et hRx
      generalize sp.getD k sp0 = s at *
      have hsl : s.l.length ≤ 2097152 := by omega
      generalize tagN sp k = q at *
      have HX : Hid (∃ rest, tagN sp sp.length = (q ++ s.l.map fun p => (k, p)) ++ rest) := ⟨_, hrest0⟩
      have HEL := Lib.hid el
      clear hrest0 el
      obtain ⟨u, hu⟩ : ∃ u, u = wr := ⟨_, rfl⟩
      subst hu
      gi_wp2
      gi_loopw [17] (fun i wr' => ∃ j : Nat, j ≤ s.l.length ∧ i = .int .i64 j ∧ J (q ++ (s.l.take j).map fun p => (k, p)) wr' ∧ Below n₀ u wr') (fun i _ => s.l.length - (intOf i).toNat)
      case atStart => exact ⟨0, Nat.zero_le _, rfl, by simpa using hJs, Below.refl _ _⟩
      case round =>
        obtain ⟨j, hj, rfl, hJ2, hn2⟩ := hrel
        by_cases hl2 : j < s.l.length
        · obtain ⟨b2, off2, e2, hb2, c0, c1⟩ := (hsr.below hn2).pn hl2
          have HP := Lib.hid (pn_take s.l j hl2)
          have hlen : (q ++ (s.l.take j).map fun p => (k, p)).length < (tagN sp sp.length).length := by rw [List.length_append, List.length_map, List.length_take, Nat.min_eq_left hj]; have := HEL.out; omega
          generalize s.l.getD j pn0 = x at *
          have hna : n₀ ≤ wr.heap.size := by have := hnx.size; have := hn2.size; omega
          have HB2 := Lib.hid (hn2.alloc hna (.cells #[.int .i64 x.at_, .int .i64 x.id] 70))
          obtain ⟨fn, tmps, assign, body, hy, hY2⟩ := hY _ (k, x) (wr.alloc (.cells #[.int .i64 x.at_, .int .i64 x.id] 70)) (hJa _ _ _ hJ2 hna) hlen
          unfold pnA at hy
          dsimp only at hy
          obtain ⟨sa, sc, sl⟩ := s
          simp only at e2
          subst e2
          gi_wp2
          refine hY2.mono ?_
          rintro e W3 (⟨rfl, hJ3, hk3⟩ | ⟨rfl, hJx3⟩)
          · have B3 := Lib.hid (HB2.out.trans hk3)
            clear hk3
            gi_wp2
            go_roundw
            case rel => exact ⟨j + 1, by omega, by go_num, by rw [HP.out, List.map_append, ← List.append_assoc]; exact hJ3, B3.out⟩
            case measure => simp [intOf] <;> omega
          · gi_wp2
            refine bodyPost_ret (results_none rfl _ _ _) rfl ?_
            obtain ⟨rest, hrest⟩ := HX.out
            refine ⟨⟨_, rfl⟩, .inr ⟨_, ⟨(sl.drop (j + 1)).map (fun p => (k, p)) ++ rest, ?_⟩, hJx3⟩⟩
            have hP := HP.out
            have e9 : sl.map (fun p => (k, p)) = ((sl.take j).map (fun p => (k, p)) ++ [(k, x)]) ++ (sl.drop (j + 1)).map (fun p => (k, p)) := by
              have : sl = sl.take (j + 1) ++ sl.drop (j + 1) := (List.take_append_drop _ _).symm
              conv => lhs; rw [this, hP]
              simp
            rw [hrest]
            rw [e9]
            simp [List.append_assoc]
        · obtain rfl : j = s.l.length := by omega
          rw [List.take_length] at hJ2
          gi_wp2
          go_roundw
          case rel => exact ⟨k + 1, by omega, by go_num, by rw [HT.out]; exact hJ2, hnx.trans hn2⟩
          case measure => simp [intOf] <;> omega
    · obtain rfl : k = sp.length := by omega
      gi_wp2
      go_end0
      exact ⟨⟨_, rfl⟩, .inl hJs⟩
set_option maxRecDepth 100000 in
theorem byList_stops (n : Nat) (hn : 1 ≤ n) (Bs n₀ c : Nat) (A : Option Addr) (sp : List Sp) (hsz : sp.length ≤ 2097152) (hlz : (allPn sp).length ≤ 2097152) (w : World) (hBs : Bs < w.heap.size) (hn₀ : n₀ ≤ w.heap.size)
    (hc : w.cell? ⟨Bs, 0, none⟩ = some (.slice A sp.length c)) (hRA : Rws w n₀ A (sp.flatMap spC)) (hRS : ∀ s ∈ sp, Rws w n₀ s.a (s.l.flatMap pnC)) :
    SeqStopsK Fence.wide n Try.prog 145 #[.pointer (some ⟨Bs, 0, none⟩)] (fun x : Nat × Pn => #[.int .i64 (x.1 : Int), pnA x.2]) (Below n₀) (fun ys => ys = tagN sp sp.length) (fun pre => pre <+: tagN sp sp.length) (tagN sp sp.length).length w := fun l J Jx W hW hJ hJx hY h0 => by
  have hb := hW.mono hn₀
  refine (byList1_in n hn l Bs n₀ c A sp hsz hlz J Jx (fun pre X o h _ => hJ pre X _ none h (World.grownBy_alloc X o none) (fun r e => by cases e)) hY W (Nat.le_trans hn₀ hW.size) ((hW.cell (p := ⟨Bs, 0, none⟩) hBs).trans hc) (hRA.below hb) (fun s hs => (hRS s hs).below hb) h0).mono ?_
  rintro e W' ⟨he, hj | ⟨pre, hp, hj⟩⟩
  · exact ⟨he, .inl ⟨_, rfl, hj⟩⟩
  · exact ⟨he, .inr ⟨_, hp, hj⟩⟩
/-- What WheelOk has asked of the pins that it has seen. -/
def GoodT (l : List (Nat × Pn)) : Prop := l.length ≤ 10 ∧ (∀ x ∈ l, x.2.inn ∧ x.2.at_.tmod 9 = (x.1 : Int)) ∧ l.Pairwise (fun a b => a.2.id ≠ b.2.id)
theorem GoodT.snoc {l : List (Nat × Pn)} {x : Nat × Pn} : GoodT (l ++ [x]) ↔ GoodT l ∧ l.length + 1 ≤ 10 ∧ x.2.inn ∧ x.2.at_.tmod 9 = (x.1 : Int) ∧ x.2.id ∉ l.map (fun y => y.2.id) := by
  unfold GoodT
  rw [List.length_append, List.length_singleton, List.pairwise_append]
  constructor
  · rintro ⟨h1, h2, h3, _, h4⟩
    refine ⟨⟨by omega, fun y hy => h2 y (List.mem_append_left _ hy), h3⟩, h1, (h2 x (by simp)).1, (h2 x (by simp)).2, fun h => ?_⟩
    obtain ⟨y, hy, e⟩ := List.mem_map.1 h
    exact h4 y hy x (by simp) e
  · rintro ⟨⟨h1, h2, h3⟩, h4, h5, h6, h7⟩
    refine ⟨h4, fun y hy => ?_, h3, by simp, fun a ha b hb e => ?_⟩
    · rcases List.mem_append.1 hy with h | h
      · exact h2 y h
      · have : y = x := by simpa using h
        subst this; exact ⟨h5, h6⟩
    · have : b = x := by simpa using hb
      subst this
      exact h7 (List.mem_map.2 ⟨a, ha, e⟩)
theorem GoodT.part {l m : List (Nat × Pn)} (h : GoodT m) (p : l <+: m) : GoodT l := by
  obtain ⟨r, rfl⟩ := p
  obtain ⟨h1, h2, h3⟩ := h
  exact ⟨by rw [List.length_append] at h1; omega, fun x hx => h2 x (List.mem_append_left _ hx), (List.pairwise_append.1 h3).1⟩
theorem tagN_mem {sp : List Sp} {k i : Nat} {p : Pn} (hi : i < k) (hp : p ∈ (sp.getD i sp0).l) : (i, p) ∈ tagN sp k := by
  unfold tagN
  exact List.mem_flatMap.2 ⟨i, List.mem_range.2 hi, List.mem_map.2 ⟨p, hp, rfl⟩⟩
theorem tagN_of {sp : List Sp} {k : Nat} {x : Nat × Pn} (h : x ∈ tagN sp k) : x.1 < k ∧ x.2 ∈ (sp.getD x.1 sp0).l := by
  unfold tagN at h
  obtain ⟨i, hi, h⟩ := List.mem_flatMap.1 h
  obtain ⟨p, hp, rfl⟩ := List.mem_map.1 h
  exact ⟨List.mem_range.1 hi, hp⟩
theorem srt_pairwise {l : List Pn} (hd : Distinct l) : Srt l ↔ l.Pairwise Pn.less := by
  rw [← adj_pairwise]
  constructor
  · intro h k h0 hk
    refine less_other (h k h0 hk) ?_
    have := List.pairwise_iff_getElem.1 hd (k - 1) k (by omega) hk (by omega)
    simp only [List.getD_eq_getElem?_getD, List.getElem?_eq_getElem hk, List.getElem?_eq_getElem (show k - 1 < l.length by omega), Option.getD_some]
    exact Ne.symm this
  · intro h k h0 hk h2
    exact less_irrefl (less_trans (h k h0 hk) h2)
theorem wheelFine_iff (sp : List Sp) : wheelFine (sp.map (fun s => s.l)) ↔ sp.length = 9 ∧ GoodT (tagN sp sp.length) ∧ ∀ s ∈ sp, Srt s.l := by
  have hsnd := tagN_snd sp sp.length (Nat.le_refl _)
  rw [List.take_length] at hsnd
  have hlen := tagN_len sp sp.length (Nat.le_refl _)
  rw [List.take_length] at hlen
  have hdis : (tagN sp sp.length).Pairwise (fun a b => a.2.id ≠ b.2.id) ↔ Distinct (allPn sp) := by
    unfold Distinct
    rw [← hsnd, List.pairwise_map]
  have hsub : ∀ i, i < sp.length → Distinct (allPn sp) → Distinct (sp.getD i sp0).l := fun i hi hd => by
    obtain ⟨e1, _⟩ := all_cut sp i hi sp0
    rw [e1] at hd
    exact (List.pairwise_append.1 (List.pairwise_append.1 hd).2.1).1
  unfold wheelFine GoodT
  rw [ls_flat, pnsOk_iff, List.length_map, hlen]
  constructor
  · rintro ⟨h9, h10, ⟨hin, hd⟩, hsp⟩
    refine ⟨h9, ⟨h10, fun x hx => ?_, hdis.2 hd⟩, fun s hs => ?_⟩
    · obtain ⟨h1, h2⟩ := tagN_of hx
      have h3 := hsp x.1 h1
      rw [ls_at, spokeOk_iff] at h3
      exact ⟨hin _ (mem_all.2 ⟨_, getD_mem sp x.1 sp0 h1, h2⟩), h3.1 _ h2⟩
    · obtain ⟨i, hi, rfl⟩ := List.getElem_of_mem hs
      have hg : sp.getD i sp0 = sp[i] := by rw [List.getD_eq_getElem?_getD, List.getElem?_eq_getElem hi, Option.getD_some]
      have h3 := hsp i hi
      rw [ls_at, spokeOk_iff, hg] at h3
      have h4 := hsub i hi hd
      rw [hg] at h4
      exact (srt_pairwise h4).2 h3.2
  · rintro ⟨h9, ⟨h10, hx, hp⟩, hs⟩
    have hd := hdis.1 hp
    refine ⟨h9, h10, ⟨fun y hy => ?_, hd⟩, fun i hi => ?_⟩
    · obtain ⟨s, hs1, hys⟩ := mem_all.1 hy
      obtain ⟨i, hi, rfl⟩ := List.getElem_of_mem hs1
      have hg : sp.getD i sp0 = sp[i] := by rw [List.getD_eq_getElem?_getD, List.getElem?_eq_getElem hi, Option.getD_some]
      exact (hx (i, y) (tagN_mem hi (by rw [hg]; exact hys))).1
    · rw [ls_at, spokeOk_iff]
      exact ⟨fun y hy => (hx (i, y) (tagN_mem hi hy)).2, (srt_pairwise (hsub i hi hd)).1 (hs _ (getD_mem sp i sp0 hi))⟩
theorem boxed_below {W W' : World} {b : Nat} {t : TypeId} {v : Value} (h : Boxed W b t v) (hb : Below W.heap.size W W') : Boxed W' b t v := (hb.block b h.lt).trans h
theorem PnAt.below {W W' : World} {b : Nat} {x : Pn} (h : PnAt W b x) (hb : Below W.heap.size W W') (hl : b < W.heap.size) : PnAt W' b x := ⟨(hb.cell (p := ⟨b, 0, none⟩) hl).trans h.1, (hb.cell (p := ⟨b, 1, none⟩) hl).trans h.2⟩
theorem int_one_new (W : World) (z : Int) : ∀ j u, ([.int .i64 z] : List Value)[j]? = some u → (W.alloc (.cells #[.int .i64 z] 3)).cell? ((⟨W.heap.size, 0, none⟩ : Addr).add j) = some u := by
  intro j u h
  match j, h with
  | 0, h => simp at h; subst h; rw [add_at, World.cell?_alloc_at _ _ _ _ rfl]; rfl
  | j + 1, h => simp at h
set_option maxRecDepth 100000 in
theorem pinOk_yes (x : Pn) (w : World) (h : x.inn) : Calls Try.prog 124 #[pnA x] w fun e w' => e = .returned (.bool true) ∧ Below w.heap.size w w' :=
  (pinOk_im x w).mono fun e w' ⟨he, hw⟩ => ⟨by rw [he, decide_eq_true h], hw⟩
set_option maxRecDepth 100000 in
theorem pinOk_no (x : Pn) (w : World) (h : ¬ x.inn) : Calls Try.prog 124 #[pnA x] w fun e w' => e = .returned (.bool false) ∧ Below w.heap.size w w' :=
  (pinOk_im x w).mono fun e w' ⟨he, hw⟩ => ⟨by rw [he, decide_eq_false h], hw⟩
/-- What a call of WheelOk keeps while it looks at the pins. -/
structure OkV (w W : World) (q : List (Nat × Pn)) (z v : Value) : Prop where
  whl : Boxed W w.heap.size 36 z
  box : Boxed W (w.heap.size + 2) 99 v
  row : W.ownsRow w.heap.size 3 1 v q.length (ints (q.map fun x => x.2.id))
  res : Boxed W (w.heap.size + 1) 4 (.bool false)
  bel : Below w.heap.size w W
theorem OkV.below {w W W' : World} {q : List (Nat × Pn)} {z v : Value} (h : OkV w W q z v) (hb : Below W.heap.size W W') : OkV w W' q z v :=
  ⟨boxed_below h.whl hb, boxed_below h.box hb, own_below h.row hb, boxed_below h.res hb, h.bel.trans (hb.mono h.bel.size)⟩
set_option maxRecDepth 100000 in
set_option maxHeartbeats 16000000 in
theorem wheelOk_in (A : Option Addr) (sp : List Sp) (c : Nat) (w : World) (hsz : sp.length ≤ 1048577) (hlz : (allPn sp).length ≤ 1048577) (hA : Whl w A sp) :
    CallsIn Fence.wide 3 Try.prog 98 #[.agg #[.slice A sp.length c]] w fun e W' => TellB (wheelFine (sp.map (fun s => s.l))) e ∧ Below w.heap.size w W' := by
  have hro : Fence.wide.round = none := rfl
  have h0f : Fence.wide.fn 98 := trivial
  have h1f : Fence.wide.fn 145 := trivial
  have h2f : Fence.wide.fn 123 := trivial
  have h3f : Fence.wide.fn 127 := trivial
  have h4f : Fence.wide.fn 126 := trivial
  have h5f : Fence.wide.fn 124 := trivial
  have h6f : Fence.wide.fn 125 := trivial
  have h1 : 1 ≤ 3 := by omega
  obtain ⟨X, hX⟩ : ∃ X, (w.alloc (.cells #[.slice A sp.length c] 36)).alloc (.cells #[.bool false] 4) = X := ⟨_, rfl⟩
  have hXs : X.heap.size = w.heap.size + 2 := by rw [← hX]; simp
  have bR : Boxed X (w.heap.size + 1) 4 (.bool false) := by
    have := Boxed.new (w.alloc (.cells #[.slice A sp.length c] 36)) 4 (.bool false)
    rw [hX] at this; simpa using this
  have bW : Boxed X w.heap.size 36 (.slice A sp.length c) := by rw [← hX]; exact (Boxed.new w 36 (.slice A sp.length c)).alloc _
  have hBX : Below w.heap.size w X := by rw [← hX]; exact ((Below.refl _ w).alloc (Nat.le_refl _) _).alloc (by simp) _
  have HF := Lib.hid (wheelFine_iff sp)
  generalize wheelFine (sp.map (fun s => s.l)) = FINE at *
  refine callsIn_of_wp_marks Try.func98 rfl h0f ?_ hro
  simp only [Try.ntmps98, List.size_toArray, List.length_cons, List.length_nil, Nat.reduceAdd, Nat.reduceSub, Array.replicate_succ, Array.replicate_zero, List.push_toArray, List.append_toArray, List.nil_append, List.cons_append]
  have cW := bW.cell
  have cR := bR.cell
  have fR := bR.frozen
  by_cases h9 : sp.length = 9
  rotate_left
  · have e9 : ((sp.length : Int) != 9) = true := by simp; omega
    have HN : Hid (¬ FINE) := fun h => h9 (HF.out.1 h).1
    have HS := Lib.hid ((bR.set (.bool false)).cell)
    have HB := Lib.hid (hBX.setCell (p := ⟨w.heap.size + 1, 0, none⟩) (by show _ ≤ _ + 1; omega) (.bool false))
    clear bW bR hBX
    gi_wp2
    refine ⟨.bool false, ?_, TellB.no HN.out, HB.out⟩
    simp [results, Try.f98, go_sem, HS.out]
  have e9 : ((sp.length : Int) != 9) = false := by simp; omega
  have HH9 := Lib.hid h9
  clear h9
  obtain ⟨Y, hY⟩ : ∃ Y, X.alloc (.cells #[.slice none 0 0] 99) = Y := ⟨_, rfl⟩
  have hYs : Y.heap.size = w.heap.size + 3 := by rw [← hY]; simp; omega
  have bI : Boxed Y (w.heap.size + 2) 99 (.slice none 0 0) := by
    have := Boxed.new X 99 (.slice none 0 0)
    rw [hY, hXs] at this; exact this
  have bXY : Below X.heap.size X Y := by rw [← hY]; exact (Below.refl _ X).alloc (Nat.le_refl _) _
  have hBY := hBX.trans (bXY.mono hBX.size)
  have bR1 := boxed_below bR bXY
  have cW1 := (boxed_below bW bXY).cell
  obtain ⟨Z, hZ⟩ : ∃ Z, Y.alloc (.cells #[.slice A sp.length c] 36) = Z := ⟨_, rfl⟩
  have hZs : Z.heap.size = w.heap.size + 4 := by rw [← hZ]; simp; omega
  have bYZ : Below Y.heap.size Y Z := by rw [← hZ]; exact (Below.refl _ Y).alloc (Nat.le_refl _) _
  have bP : Boxed Z (w.heap.size + 3) 36 (.slice A sp.length c) := by
    have := Boxed.new Y 36 (.slice A sp.length c)
    rw [hZ, hYs] at this; exact this
  have hBZ := hBY.trans (bYZ.mono hBY.size)
  have bW1 := boxed_below (boxed_below bW bXY) bYZ
  have HS0 : Hid (OkV w Z [] (.slice A sp.length c) (.slice none 0 0)) := ⟨bW1, boxed_below bI bYZ, World.ownsRow_nil _ _ _ _, boxed_below bR1 bYZ, hBZ⟩
  have hstops := byList_stops 2 (by omega) (w.heap.size + 3) w.heap.size c A sp (by omega) (by omega) Z (by omega) (by omega) bP.cell (hA.row.below hBZ) (fun s hs => (hA.ok s hs).row.below hBZ)
  have HAW := Lib.hid (fun u (h : Below w.heap.size w u) => hA.below h)
  have hlen := tagN_len sp sp.length (Nat.le_refl _)
  rw [List.take_length] at hlen
  clear hA bW bR bI bXY hBX bR1 hBY bYZ
  have HXs := Lib.hid hXs
  have HYs := Lib.hid hYs
  have HZs := Lib.hid hZs
  clear hXs hYs hZs
  gi_wp2_with (gi_at_call 123; refine (byList_in _ _ _ _ _).mono ?_; rintro e w' ⟨rfl, rfl⟩)
  rw [HXs.out, HYs.out]
  clear hX hY hZ bW1 cW cR fR cW1 bP hBZ e9
  have hZs := HZs.out
  refine wpIn_rangeFunc_ownH hro h1 (gf := 145) (lb := #[.pointer (some ⟨w.heap.size + 3, 0, none⟩)]) rfl h1f (enters_of Try.func145 (by kernel_rfl) rfl)
    hstops belowK_t (belowK_b (by omega)) (Below.refl _ _) (fun _ => rfl)
    (fun pre W => GoodT pre ∧ ∃ v, OkV w W pre (.slice A sp.length c) v) (fun cd pre W => (cd = .ret ∧ ¬ GoodT pre) ∧ Boxed W (w.heap.size + 1) 4 (.bool false) ∧ Below w.heap.size w W)
    ?hI ?hIx ⟨⟨by simp, (fun _ h => by cases h), List.Pairwise.nil⟩, _, HS0.out⟩
    (fun x a' W => ∃ Bx, w.heap.size + 2 < Bx ∧ Bx < W.heap.size ∧ PnAt W Bx x.2 ∧ a' = { tmps := #[.agg #[.slice A sp.length c], .pointer (some ⟨w.heap.size, 0, none⟩), .pointer (some ⟨w.heap.size + 1, 0, none⟩), .pointer (some ⟨w.heap.size + 2, 0, none⟩), .int .i64 (x.1 : Int), .pointer (some ⟨Bx, 0, none⟩), .pointer (some ⟨w.heap.size, 0, none⟩), .slice A sp.length c, .int .i64 (sp.length : Int), .bool false, .agg #[.slice A sp.length c], .func (.func 145) #[] #[.pointer (some ⟨w.heap.size + 3, 0, none⟩)], .int .i64 (x.1 : Int), pnA x.2, undef, undef, undef, undef, undef, undef, undef, undef, undef, undef, undef, undef, undef, undef, undef, undef, undef, undef, undef, undef, undef, undef, undef, undef, undef, undef, undef, undef, undef], defers := [] })
    ?hAx ?assign ?body ?done ?stop
  case hI =>
    rintro s P Q row ⟨g1, ⟨v, k0, k1, k2, k3, k4⟩⟩ hg hr
    have hne : ∀ b, b < Z.heap.size → some b ≠ row := fun b hb e => by have := (hr b e.symm).1; omega
    refine ⟨g1, ⟨v, k0.kept hg (hne _ (by omega)), k1.kept hg (hne _ (by omega)), own_kept2 k2 hg (fun k hv e => ?_), k3.kept hg (hne _ (by omega)), k4.grown hg k4.size (fun k e => by have := (hr k e).1; omega)⟩⟩
    obtain ⟨_, o, ho, hc⟩ := hr k e
    obtain ⟨cur, hcur⟩ := own_typed2 k2 k hv
    rw [hcur] at ho; cases ho; cases hc
  case hIx =>
    rintro cd s P Q row ⟨g1, k3, k4⟩ hg hr
    exact ⟨g1, k3.kept hg (fun e => by have := (hr _ e.symm).1; omega), k4.grown hg k4.size (fun k e => by have := (hr k e).1; omega)⟩
  case hAx =>
    rintro x a' _ P Q row ⟨Bx, q1, q0, q2, q3⟩ hg hr
    exact ⟨Bx, q1, Nat.lt_of_lt_of_le q0 hg.size, q2.kept hg (fun r e => (hr r e).2), q3⟩
  case assign =>
    rintro l pre x W K ⟨g1, v, hs⟩ hK
    have hz : (Array.zip (α := Tmp) (β := Value) #[12, 13] #[.int .i64 (x.1 : Int), pnA x.2]) = #[(12, .int .i64 (x.1 : Int)), (13, pnA x.2)] := by simp
    rw [hz]
    simp only [List.foldl_toArray, List.foldl_cons, List.foldl_nil, List.setIfInBounds_toArray, List.set_cons_succ, List.set_cons_zero]
    unfold pnA at hK ⊢
    have ba : Below W.heap.size W (W.alloc (.cells #[.int .i64 x.2.at_, .int .i64 x.2.id] 70)) := (Below.refl _ _).alloc (Nat.le_refl _) _
    have hlt2 := hs.box.lt
    have HK := Lib.hid (hK _ _ ((KeepsOthers.alloc _ _).from _) ((Below.refl _ W).alloc hs.bel.size _) ⟨g1, v, hs.below ba⟩ ⟨W.heap.size, by omega, by simp, PnAt.new W x.2 _, rfl⟩)
    clear hK
    gi_wp2
    exact HK.out
  case body =>
    rintro l pre ⟨sn, p⟩ a' W hl ⟨r, hr⟩ ⟨hgood, v, hS⟩ ⟨Bx, hBx, hl0, X0, rfl⟩ hlt
    clear hZs hr
    simp only at X0 hlt
    have HGS := Lib.hid (GoodT.snoc (l := pre) (x := (sn, p)))
    obtain ⟨VA, vc, rfl, hvc, hvn, _⟩ := own_form hS.row
    have S0 := Lib.hid hS
    have B0 : Hid (Below W.heap.size W W) := Below.refl _ _
    have cI0 := hS.box.cell
    obtain ⟨p00, p10⟩ := id X0
    have hl10 := hgood.1
    have HGD := Lib.hid hgood
    have RT : Hid (∀ (W' : World) (vv : Value), OkV w W' pre (.slice A sp.length c) vv → Below W.heap.size W W' → ¬ GoodT (pre ++ [(sn, p)]) → (KeepsFrom Z.heap.size W (W'.setCell ⟨w.heap.size + 1, 0, none⟩ (.bool false)) ∧ ¬ GoodT (pre ++ [(sn, p)]) ∧ Boxed (W'.setCell ⟨w.heap.size + 1, 0, none⟩ (.bool false)) (w.heap.size + 1) 4 (.bool false) ∧ Below w.heap.size w (W'.setCell ⟨w.heap.size + 1, 0, none⟩ (.bool false)))) := fun W' vv hs' hb' hn =>
      ⟨((KeepsOthers.of_grownBy (row := none) ⟨hb'.os, hb'.tape, hb'.output, hb'.size, fun k hk _ => hb'.block k hk⟩ (fun j o e => by cases e)).trans (KeepsOthers.setCell _ _ _)).from _, hn, hs'.res.set _, hs'.bel.setCell (p := ⟨w.heap.size + 1, 0, none⟩) (by show _ ≤ _ + 1; omega) _⟩
    clear hS hgood
    unfold pnA
    by_cases h10 : pre.length = 10
    · have HR := Lib.hid (RT.out W _ S0.out B0.out (fun h => by have := (HGS.out.1 h).2.1; omega))
      have e10 : ((pre.length : Int) == 10) = true := by simp; omega
      clear RT h10
      have cR := S0.out.res.cell
      have fR := S0.out.res.frozen
      gi_wp2
      obtain ⟨r1, r2, r3, r4⟩ := HR.out
      exact ⟨r1, ⟨rfl, r2⟩, r3, r4⟩
    have e10 : ((pre.length : Int) == 10) = false := by simp; omega
    have h11 : pre.length + 1 ≤ 10 := by omega
    clear h10
    by_cases hin : p.inn
    rotate_left
    · have HC := Lib.hid (fun w' => pinOk_no p w' hin)
      have HNN : Hid (¬ GoodT (pre ++ [(sn, p)])) := fun h => hin (HGS.out.1 h).2.2.1
      unfold pnA at HC
      clear hin
      gi_wp2_with fail
      gi_at_call 124
      refine (CallsIn.inRound l (callsIn_wide.2 (HC.out _))).mono ?_
      rintro e u1 ⟨rfl, b1⟩
      have S1 := Lib.hid (S0.out.below b1)
      have X1 := X0.below b1 hl0
      have hl1 := Nat.lt_of_lt_of_le hl0 b1.size
      have B1 : Hid (Below W.heap.size W u1) := B0.out.trans (b1.mono B0.out.size)
      have cI1 := S1.out.box.cell
      obtain ⟨p01, p11⟩ := id X1
      clear b1 p00 p10 cI0
      have HR := Lib.hid (RT.out u1 _ S1.out B1.out HNN.out)
      have cR := S1.out.res.cell
      have fR := S1.out.res.frozen
      gi_wp2
      obtain ⟨r1, r2, r3, r4⟩ := HR.out
      exact ⟨r1, ⟨rfl, r2⟩, r3, r4⟩
    have HC := Lib.hid (fun w' => pinOk_yes p w' hin)
    have HC2 := Lib.hid (fun w' => spokeOf_im p w')
    unfold pnA at HC HC2
    have HIN := Lib.hid hin
    clear hin
    obtain ⟨tm, etm⟩ : ∃ tm, p.at_.tmod 9 = tm := ⟨_, rfl⟩
    rw [etm] at HC2
    have HTM := Lib.hid etm
    clear etm
    gi_wp2_with fail
    gi_at_call 124
    refine (CallsIn.inRound l (callsIn_wide.2 (HC.out _))).mono ?_
    rintro e u1 ⟨rfl, b1⟩
    have S1 := Lib.hid (S0.out.below b1)
    have X1 := X0.below b1 hl0
    have hl1 := Nat.lt_of_lt_of_le hl0 b1.size
    have B1 : Hid (Below W.heap.size W u1) := B0.out.trans (b1.mono B0.out.size)
    have cI1 := S1.out.box.cell
    obtain ⟨p01, p11⟩ := id X1
    clear b1 p00 p10 cI0
    gi_wp2_with fail
    gi_at_call 125
    refine (CallsIn.inRound l (callsIn_wide.2 (HC2.out _))).mono ?_
    rintro e u2 ⟨rfl, b2⟩
    have S2 := Lib.hid (S1.out.below b2)
    have X2 := X1.below b2 hl1
    have hl2 := Nat.lt_of_lt_of_le hl1 b2.size
    have B2 : Hid (Below W.heap.size W u2) := B1.out.trans (b2.mono B1.out.size)
    have cI2 := S2.out.box.cell
    obtain ⟨p02, p12⟩ := id X2
    clear b2 p01 p11 cI1
    clear HC HC2
    by_cases hsp : tm = (sn : Int)
    rotate_left
    · have esp : (tm != (sn : Int)) = true := by simp [hsp]
      have HR := Lib.hid (RT.out u2 _ S2.out B2.out (fun h => hsp (HTM.out.symm.trans (HGS.out.1 h).2.2.2.1)))
      clear hsp
      have cR := S2.out.res.cell
      have fR := S2.out.res.frozen
      gi_wp2
      obtain ⟨r1, r2, r3, r4⟩ := HR.out
      exact ⟨r1, ⟨rfl, r2⟩, r3, r4⟩
    have esp : (tm != (sn : Int)) = false := by simp [hsp]
    have HSP := Lib.hid hsp
    clear hsp
    have HCC := Lib.hid (contains_im VA (pre.map fun x => x.2.id) vc p.id u2 (by rw [List.length_map]; omega) (own_rws S2.out.row))
    rw [List.length_map] at HCC
    by_cases hmem : p.id ∈ pre.map (fun x => x.2.id)
    · rw [decide_eq_true hmem] at HCC
      have HR := Lib.hid (RT.out u2 _ S2.out B2.out (fun h => (HGS.out.1 h).2.2.2.2 hmem))
      clear hmem
      gi_wp2_with fail
      gi_at_call 126
      refine (CallsIn.inRound l (callsIn_wide.2 HCC.out)).mono ?_
      rintro e u3 ⟨rfl, rfl⟩
      have cR := S2.out.res.cell
      have fR := S2.out.res.frozen
      gi_wp2
      obtain ⟨r1, r2, r3, r4⟩ := HR.out
      exact ⟨r1, ⟨rfl, r2⟩, r3, r4⟩
    rw [decide_eq_false hmem] at HCC
    have HG2 : Hid (GoodT (pre ++ [(sn, p)])) := HGS.out.2 ⟨HGD.out, h11, HIN.out, HTM.out.trans HSP.out, hmem⟩
    clear hmem
    obtain ⟨j0, hj, hj0, hj1, hj2⟩ := info_parts rowInt.inf
    have hO := S2.out.row
    have kI := S2.out.box
    have hbs := S2.out.bel.size
    gi_wp2_with fail
    gi_at_call 126
    refine (CallsIn.inRound l (callsIn_wide.2 HCC.out)).mono ?_
    rintro e u3 ⟨rfl, rfl⟩
    gi_wp2_with (gi_at_builtin; refine wpListIn_append_own _ rfl _ _ 99 rfl w.heap.size 3 j0 (.int .i64 0) 1 8 rowInt.ut hj hj0 hj1 hj2 rowInt.zc rowInt.pos _ _ _ rfl (hO.alloc _) ⟨u2.heap.size, 0, none⟩ 1 1 [.int .i64 p.id] rfl rfl (int_one_new _ _) (by simp [Value.oneCell']) (by unfold maxLen; omega) (by omega) (by simp; omega) ?_; intro v' w1 hown' hgrow _; obtain ⟨g', cap', rfl⟩ := ownsRow_succ hown'; obtain ⟨hv1, hv2, hr2, hk2, hb2⟩ := kI.appended (by decide) hO hbs (by omega) hown' hgrow; have hc1 := hv1.cell; have hf1 := hv1.frozen)
    have kR2 := ((S2.out.res.alloc _).kept hgrow (S2.out.res.not_row (by decide) hO)).other (show w.heap.size + 1 ≠ w.heap.size + 2 by omega) (.slice (some ⟨g', 0, none⟩) (pre.length + 1) cap')
    have kW2 := ((S2.out.whl.alloc _).kept hgrow (S2.out.whl.not_row (by decide) hO)).other (show w.heap.size ≠ w.heap.size + 2 by omega) (.slice (some ⟨g', 0, none⟩) (pre.length + 1) cap')
    have hb0 := B2.out
    refine ⟨((KeepsOthers.of_grownBy (row := none) ⟨hb0.os, hb0.tape, hb0.output, hb0.size, fun k hk _ => hb0.block k hk⟩ (fun j o e => by cases e)).trans hk2).from _, (hb0.mono S0.out.bel.size).trans hb2, HG2.out, _, kW2, hv2, ?_, kR2, S2.out.bel.trans hb2⟩
    rw [List.length_append, List.map_append]
    have := hr2
    simpa [ints] using this
  case done =>
    rintro D ys W hD rfl ⟨hg, v, hS⟩ hK
    have cW := hS.whl.cell
    have HSS := Lib.hid hS
    have HG := Lib.hid hg
    have HC := Lib.hid (containsFuncS_im A sp c W hsz hlz (HAW.out W hS.bel))
    clear hS hg
    gi_wp2_with fail
    gi_at_call 127
    refine (callsIn_wide.2 HC.out).mono ?_
    rintro e u ⟨⟨q, rfl, hq⟩, b⟩
    have S1 := HSS.out.below b
    have hK1 : u.heap[D]? = some (.deferred (some [])) := (b.block D (Array.getElem?_eq_some_iff.1 hK).1).trans hK
    have cR := S1.res.cell
    have fR := S1.res.frozen
    have hK' := (KeepsOthers.setCell u ⟨w.heap.size + 1, 0, none⟩ (.bool !q)).same D _ hK1 rfl
    have hc5 := cell_kept (S1.res.set (.bool !q)).cell (grownBy_putObj' _ D (.deferred none)) (fun r e => by cases e; exact ⟨_, hK', rfl⟩)
    have HB := Lib.hid ((S1.bel.setCell (p := ⟨w.heap.size + 1, 0, none⟩) (by show _ ≤ _ + 1; omega) (.bool !q)).trans (belowK_b (w := w) (Nat.le_refl _) _ D _ (.deferred none) (by omega) hK' rfl rfl))
    have HCC := Lib.hid hc5
    have HT : Hid (TellB FINE (.returned (.bool !q))) := TellB.of (by
      rw [HF.out]
      constructor
      · intro h
        have hq2 : ¬ q = true := by cases q <;> simp at h ⊢
        exact ⟨HH9.out, HG.out, fun s hs => Classical.not_not.1 (fun hn => hq2 (hq.2 ⟨s, hs, hn⟩))⟩
      · rintro ⟨_, _, h3⟩
        cases q with
        | false => rfl
        | true => obtain ⟨s, hs, hn⟩ := hq.1 rfl; exact absurd (h3 s hs) hn)
    clear b S1 hq
    gi_wp2
    refine ⟨by simp, .inl ⟨_, _, rfl, run_takeDeferred hK', ?_⟩⟩
    refine ⟨.bool !q, ?_, HT.out, HB.out⟩
    simp [results, Try.f98, go_sem, HCC.out]
  case stop =>
    rintro D cd pre W hD hpre ⟨⟨rfl, hng⟩, bR1, hB1⟩ hK
    have hc5 := cell_kept bR1.cell (grownBy_putObj' _ D (.deferred none)) (fun r e => by cases e; exact ⟨_, hK, rfl⟩)
    have HB := Lib.hid (hB1.trans (belowK_b (w := w) (Nat.le_refl _) W D _ (.deferred none) (by omega) hK rfl rfl))
    have HC := Lib.hid hc5
    have HN : Hid (¬ FINE) := fun h => hng ((HF.out.1 h).2.1.part hpre)
    gi_wp2
    refine ⟨by simp, .inl ⟨_, _, rfl, run_takeDeferred hK, ?_⟩⟩
    refine ⟨.bool false, ?_, TellB.no HN.out, HB.out⟩
    simp [results, Try.f98, go_sem, HC.out]
set_option maxRecDepth 100000 in
theorem wheelOk_impl (A : Option Addr) (sp : List Sp) (c : Nat) (w : World) (ls : List (List Pn)) (hm : sp.map (fun s => s.l) = ls) (hs : SzW ls) (hf : FitL ls) (hA : Whl w A sp) :
    Calls Try.prog 98 #[.agg #[.slice A sp.length c]] w fun e w' => e = .returned (.bool (wheelB ls)) ∧ Below w.heap.size w w' := by
  obtain ⟨h1, h2⟩ := hs.of hm
  refine (callsIn_wide.1 (wheelOk_in A sp c w h1 (by omega) hA)).mono ?_
  rintro e w' ⟨⟨q, rfl, hq⟩, b⟩
  rw [hm] at hq
  refine ⟨?_, b⟩
  by_cases h : wheelFine ls
  · rw [wheelB_yes h, hq.2 h]
  · rw [wheelB_no h]
    cases q with
    | false => rfl
    | true => exact absurd (hq.1 rfl) h
theorem Mrg.of {w : World} {A : Option Addr} {sp : List Sp} {ls : List (List Pn)} (hm : sp.map (fun s => s.l) = ls) (hb : wheelB ls = true) (hA : Whl w A sp) : Mrg w.heap.size w A sp := by
  have hf := wheelB_iff hb
  rw [← hm] at hf
  have hg := (wheelFine_iff sp).1 hf
  obtain ⟨h9, h10, h11, h12⟩ := hf
  rw [ls_flat] at h10 h11
  have hd := ((pnsOk_iff _).1 h11).2
  refine ⟨by omega, by omega, h10, hd, fun s hs => ?_, hA.row, fun s hs => ⟨(hA.ok s hs).row, (hA.ok s hs).cap, (hA.ok s hs).nil⟩⟩
  obtain ⟨i, hi, rfl⟩ := List.getElem_of_mem hs
  have hge : sp.getD i sp0 = sp[i] := by rw [List.getD_eq_getElem?_getD, List.getElem?_eq_getElem hi, Option.getD_some]
  have h3 := h12 i (by simpa using hi)
  rw [ls_at, spokeOk_iff, hge] at h3
  exact h3.2
theorem pinsW_all {sp : List Sp} {ls : List (List Pn)} (hm : sp.map (fun s => s.l) = ls) (hb : wheelB ls = true) : pinsW ls = sortPn (allPn sp) := by
  unfold pinsW; rw [if_pos hb, ← hm, ls_flat]
set_option maxRecDepth 100000 in
set_option maxHeartbeats 1600000 in
theorem pinsOf_impl (A : Option Addr) (sp : List Sp) (c : Nat) (w : World) (ls : List (List Pn)) (hm : sp.map (fun s => s.l) = ls) (hs : SzW ls) (hf : FitL ls) (hA : Whl w A sp) :
    Calls Try.prog 131 #[.agg #[.slice A sp.length c]] w (NewR 70 2 w (pinsW ls).length ((pinsW ls).flatMap pnC)) := by
  have b0 : Below w.heap.size w (w.alloc (.cells #[.slice A sp.length c] 36)) := (Below.refl _ _).alloc (Nat.le_refl _) _
  obtain ⟨X, hX⟩ : ∃ X, w.alloc (.cells #[.slice A sp.length c] 36) = X := ⟨_, rfl⟩
  have hXs : X.heap.size = w.heap.size + 1 := by rw [← hX]; simp
  have g0 : X.heap[w.heap.size]? = some (.cells #[.slice A sp.length c] 36) := by rw [← hX]; exact heap_new _ _
  rw [hX] at b0
  have CO := Lib.hid (wheelOk_impl A sp c X ls hm hs hf (hA.below b0))
  have HA := Lib.hid (fun u (h : Below w.heap.size w u) => hA.below h)
  obtain ⟨q, eq⟩ : ∃ q, wheelB ls = q := ⟨_, rfl⟩
  rw [eq] at CO
  have HX := Lib.hid hX
  have HXs := Lib.hid hXs
  clear hX hXs hA
  go_enter Try.func131, Try.ntmps131
  go_wp2_with fail
  rw [HX.out]
  refine CO.out.mono ?_
  rintro e u ⟨rfl, b1⟩
  have B1 : Hid (Below w.heap.size w u) := b0.trans (b1.mono b0.size)
  have g1 := blk_call g0 b1
  have c1 := cell_of_one g1
  clear g0 b0 b1 CO
  cases q with
  | false =>
    have e0 : pinsW ls = [] := by unfold pinsW; rw [if_neg (by rw [eq]; simp)]
    have R : Hid (NewR 70 2 w (pinsW ls).length ((pinsW ls).flatMap pnC) (.returned (.slice none 0 0)) u) := by rw [e0]; exact ⟨none, 0, rfl, World.ownsRow_nil _ _ _ _, B1.out⟩
    clear eq e0
    go_wp2
    go_ret
    exact R.out
  | true =>
    have e0 := pinsW_all hm eq
    have HE := Lib.hid e0
    have HM := Mrg.of hm eq (HA.out u B1.out)
    obtain ⟨Y, hY⟩ : ∃ Y, u.alloc (.cells #[.slice A sp.length c] 36) = Y := ⟨_, rfl⟩
    have bY : Below u.heap.size u Y := by rw [← hY]; exact (Below.refl _ _).alloc (Nat.le_refl _) _
    have hYs : Y.heap.size = u.heap.size + 1 := by rw [← hY]; simp
    have cY : Y.cell? ⟨u.heap.size, 0, none⟩ = some (.slice A sp.length c) := by rw [← hY]; simp
    have C := Lib.hid (collect_in 4 (Nat.le_refl _) u.heap.size c A sp Y ⟨HM.pos, HM.len, HM.ten, HM.dis, HM.srt, (HM.row.below bY).more (by omega), fun s hs => ⟨((HM.sps s hs).below bY).row.more (by omega), (HM.sps s hs).cap, (HM.sps s hs).nil⟩⟩ (by omega) cY)
    have BY := Lib.hid (B1.out.trans (bY.mono B1.out.size))
    have HY := Lib.hid hY
    clear e0 eq HM bY cY hY hYs
    go_wp2_with fail
    refine (callsIn_wide.1 (pinsIn_in 3 A sp.length c u)).mono ?_
    rintro e w' ⟨rfl, rfl⟩
    go_wp2_with fail
    rw [HY.out]
    refine C.out.mono ?_
    rintro e w3 ⟨PA, pc, rfl, o3, b3⟩
    have R : Hid (NewR 70 2 w (pinsW ls).length ((pinsW ls).flatMap pnC) (.returned (.slice PA (sortPn (allPn sp)).length pc)) w3) := by rw [HE.out]; exact ⟨PA, pc, rfl, own_weak o3 BY.out.size, BY.out.trans (b3.mono BY.out.size)⟩
    clear o3 b3 C
    go_wp2
    go_ret
    exact R.out
theorem due_all {T : List Pn} {now : Int} (h : ∀ y ∈ T, y.at_ ≤ now) : T.filter (fun x => decide (x.at_ ≤ now)) = T := List.filter_eq_self.2 (fun y hy => decide_eq_true (h y hy))
theorem due_part {T q r : List Pn} {x : Pn} {now : Int} (hT : T = q ++ x :: r) (hs : T.Pairwise Pn.less) (hq : ∀ y ∈ q, y.at_ ≤ now) (hx : now < x.at_) : T.filter (fun x => decide (x.at_ ≤ now)) = q := by
  subst hT
  rw [List.filter_append, due_all hq]
  have : (x :: r).filter (fun x => decide (x.at_ ≤ now)) = [] := by
    refine List.filter_eq_nil_iff.2 fun y hy => ?_
    rcases List.mem_cons.1 hy with rfl | hy
    · simp; omega
    · have h1 := (List.pairwise_cons.1 (List.pairwise_append.1 hs).2.1).1 y hy
      have : x.at_ ≤ y.at_ := by unfold Pn.less at h1; omega
      simp; omega
  rw [this, List.append_nil]
end Go.Proofs.Ytdjglbmcpfaofaa
