/- Drawn regions that end in a store into what they read, again. -/
import Derived.Test.YtlflgflmlfileaaGreatRows
import Derived.Test.YtlflgflmlfileaaGreatG7
namespace Go.Proofs.YtlflgflmlfileaaGreat
open Go.RowKit
set_option linter.unusedSimpArgs false
set_option linter.unusedVariables false
/-- Whatever order is drawn from here on, S holding behind every operation, as long as number k is not done. -/
def wpAnyF (P : Program) (md : Region.Mode) (ops : Array Oper) (Q : Exit → Act → World → Prop) (k : Nat) (S : World → Prop) : Nat → Array Bool → Act → World → Prop
  | 0, L, a, w => Region.ready md ops L = [] ∧ Q .normal a w
  | n + 1, L, a, w => (Region.ready md ops L = [] → Q .normal a w) ∧ ∀ i ∈ Region.ready md ops L, wpOp P ops Q i (fun a' w' => (i ≠ k → L.getD k false = false → S w') ∧ wpAnyF P md ops Q k S n (L.setIfInBounds i true) a' w') a w
theorem wpAny_of_F {P : Program} {md : Region.Mode} {ops : Array Oper} {Q : Exit → Act → World → Prop} {k : Nat} {S : World → Prop} (n : Nat) : ∀ (L : Array Bool) (a : Act) (w : World), wpAnyF P md ops Q k S n L a w → wpAny P md ops Q n L a w := by
  induction n with
  | zero => exact fun _ _ _ h => h
  | succ n ih => exact fun L a w h => ⟨h.1, fun i hi => wpOp_mono (fun a' w' h' => ih _ a' w' h'.2) (h.2 i hi)⟩
theorem wp_region_F {P : Program} {ops : Array Oper} {Q : Exit → Act → World → Prop} {id : Nat} {a : Act} {w : World} (k : Nat) (S : World → Prop) (hm : P.follows .mixedOrders = true)
    (h : wpAnyF P .any ops Q k S ops.size (Array.replicate ops.size false) a w.drew) : (Code.region id ops true).wp P Q a w := wp_region_any hm (wpAny_of_F _ _ _ _ h)
/-- An operation that yields v in every world of S is taken first, where number k waits for it. -/
theorem f_first {P : Program} {md : Region.Mode} {ops : Array Oper} {Q : Exit → Act → World → Prop} {k : Nat} {S : World → Prop} {i : Nat} {oi : Oper} {v : Value} (hi : ops[i]? = some oi)
    (hsel : ∀ (j : Nat) (o : Oper) cs b, ops[j]? = some o → o.op ≠ .select cs b) (hQ : ∀ c a w, Q (.panic c) (a.put oi.dst v) w → Q (.panic c) a w)
    (hwait : ∃ ok, ops[k]? = some ok ∧ ∃ e ∈ ok.after, Region.binds md e = true ∧ e.on = i) (n : Nat) :
    ∀ (L : Array Bool) (a : Act) (w : World),
      (∀ j oj, ops[j]? = some oj → j ≠ i → L.getD j true = false → (∀ e ∈ oj.after, Region.binds md e = true → e.on ≠ i) → oi.apart ops oj = true) →
      i ∈ Region.ready md ops L → L.getD k false = false → YieldsIf P ops S oi v a → S w →
      wpAnyF P md ops Q k S n (L.setIfInBounds i true) (a.put oi.dst v) w → wpAnyF P md ops Q k S (n + 1) L a w := by
  induction n with
  | zero =>
    intro L a w _ hr hk hy hS hn
    refine ⟨fun h => absurd hr (by rw [h]; simp), fun j hj => ?_⟩
    by_cases hji : j = i
    · rw [hji]
      exact hy.wpOp hi hS ⟨fun _ _ => hS, hn⟩
    · have hmem := ready_mono hj hji
      rw [hn.1] at hmem
      simp at hmem
  | succ n ih =>
    intro L a w hfree hr hk hy hS hn
    refine ⟨fun h => absurd hr (by rw [h]; simp), fun j hj => ?_⟩
    by_cases hji : j = i
    · rw [hji]
      exact hy.wpOp hi hS ⟨fun _ _ => hS, hn⟩
    · obtain ⟨hun, oj, hoj, hall⟩ := mem_ready.1 hj
      have hiun := (mem_ready.1 hr).1
      have waits : ∀ e ∈ oj.after, Region.binds md e = true → e.on ≠ i := by
        intro e he hbd heq
        have hl := hall e he hbd
        rw [heq] at hl
        by_cases hlt : i < L.size
        · simp [hlt] at hl hiun
          rw [hl] at hiun
          cases hiun
        · simp [Array.getElem?_eq_none (Nat.le_of_not_lt hlt)] at hl
      have hjk : j ≠ k := by
        intro e
        obtain ⟨ok, hok, ed, hed, hbd, hon⟩ := hwait
        rw [e, hok] at hoj
        injection hoj with hoj
        rw [← hoj] at waits
        exact waits ed hed hbd hon
      have step := wpOp_putIf hoj (hfree j oj hoj hji hun waits) (fun cs b => hsel i oi cs b hi) (fun cs b => hsel j oj cs b hoj) hQ hy (hn.2 j (ready_mono hj hji))
      refine wpOp_mono (fun a' w' h3 => ?_) step
      obtain ⟨hy', hS', hrest⟩ := h3
      have hk2 : (L.setIfInBounds i true).getD k false = false := by
        by_cases hik : i = k
        · subst hik
          obtain ⟨ok, hok, ed, hed, hbd, hon⟩ := hwait
          have := (mem_ready.1 hr).2
          obtain ⟨oi2, hoi2, hal2⟩ := this
          rw [hok] at hoi2
          injection hoi2 with hoi2
          have h9 := hal2 ed (by rw [← hoi2]; exact hed) hbd
          rw [hon] at h9
          exact absurd h9 (by
            intro h8
            by_cases hlt : i < L.size
            · simp [hlt] at h8 hk; rw [h8] at hk; cases hk
            · simp [Array.getElem?_eq_none (Nat.le_of_not_lt hlt)] at h8)
        · rw [getD_set_ne false hik]; exact hk
      have hk3 : (L.setIfInBounds j true).getD k false = false := by rw [getD_set_ne false hjk]; exact hk
      refine ⟨fun h1 _ => hS' h1 hk2, ih (L.setIfInBounds j true) a' w' (fun m om hm hmi hmu hmw => ?_) (ready_mono hr (Ne.symm hji)) hk3 hy' (hS' hjk hk2) ?_⟩
      · refine hfree m om hm hmi ?_ hmw
        by_cases hjm : j = m
        · rw [← hjm]; exact hun
        · rw [getD_set_ne true hjm] at hmu; exact hmu
      · rw [Array.setIfInBounds_comm _ _ hji]
        exact hrest
/-- Does number k wait for number i? -/
def waitsF (md : Region.Mode) (ops : Array Oper) (k i : Nat) : Bool := match ops[k]? with
  | some ok => ok.after.any fun e => Region.binds md e && e.on == i
  | none => false
def waitsL (md : Region.Mode) (ops : Array Oper) (L : Array Bool) (k i : Nat) : Bool := waitsF md ops k i && !(L.getD k false)
theorem waitsF_spec {md : Region.Mode} {ops : Array Oper} {k i : Nat} (h : waitsF md ops k i = true) : ∃ ok, ops[k]? = some ok ∧ ∃ e ∈ ok.after, Region.binds md e = true ∧ e.on = i := by
  unfold waitsF at h
  split at h
  · rename_i ok hok
    rw [Array.any_eq_true'] at h
    obtain ⟨e, he, h2⟩ := h
    simp at h2
    exact ⟨ok, hok, e, he, h2.1, h2.2⟩
  · cases h
theorem f_take {P : Program} {md : Region.Mode} {ops : Array Oper} {Q : Exit → Act → World → Prop} {k : Nat} {S : World → Prop} {n : Nat} {L : Array Bool} {a : Act} {w : World} (i d : Nat) (v : Value) {oi : Oper}
    (hi : ops[i]? = some oi) (hd : oi.dst = some d) (hs : Region.noSelect ops = true) (hf : Region.free md ops L i = true) (hr : (Region.ready md ops L).contains i = true)
    (hwait : waitsL md ops L k i = true)
    (hQ : ∀ c a w, Q (.panic c) (a.put (some d) v) w → Q (.panic c) a w) (hw : Region.wanted oi (yielded ops a.tmps) = true) (hS : S w) (hy : ∀ w, S w → (execOp a.eval oi).run P w = .ok (.value v) w)
    (h : wpAnyF P md ops Q k S n (L.setIfInBounds i true) (a.put (some d) v) w) : wpAnyF P md ops Q k S (n + 1) L a w :=
  f_first hi (Region.noSelect_spec hs) (by rw [hd]; exact hQ) (waitsF_spec (by unfold waitsL at hwait; simp at hwait; exact hwait.1)) n L a w (Region.free_spec hi hf) (by simpa using hr) (by unfold waitsL at hwait; simp at hwait; simpa using hwait.2) (.inl ⟨hw, hy⟩) hS (by rw [hd]; exact h)
theorem f_ready {P : Program} {md : Region.Mode} {ops : Array Oper} {Q : Exit → Act → World → Prop} {k : Nat} {S : World → Prop} {n : Nat} {L : Array Bool} {a : Act} {w : World} (i : Nat) (hr : Region.ready md ops L = [i])
    (h : wpOp P ops Q i (fun a' w' => (i ≠ k → L.getD k false = false → S w') ∧ wpAnyF P md ops Q k S n (L.setIfInBounds i true) a' w') a w) : wpAnyF P md ops Q k S (n + 1) L a w :=
  ⟨(fun h0 => by rw [hr] at h0; cases h0), (fun j hj => by rw [hr] at hj; simp at hj; rw [hj]; exact h)⟩
theorem f_op {P : Program} {md : Region.Mode} {ops : Array Oper} {Q : Exit → Act → World → Prop} {k : Nat} {S : World → Prop} {n : Nat} {L : Array Bool} {a : Act} {w w' : World} (i d : Nat) (v : Value) {oi : Oper}
    (hi : ops[i]? = some oi) (hd : oi.dst = some d) (hr : Region.ready md ops L = [i]) (hw : Region.wanted oi (yielded ops a.tmps) = true)
    (he : (execOp a.eval oi).run P w = .ok (.value v) w') (hS : i ≠ k → L.getD k false = false → S w')
    (h : wpAnyF P md ops Q k S n (L.setIfInBounds i true) (a.put (some d) v) w') : wpAnyF P md ops Q k S (n + 1) L a w := by
  refine f_ready i hr (wpOp_step hi (fun K hK => ?_))
  rw [if_pos hw]
  unfold Oper.wp
  rw [he, Oper.upon_value, hd]
  exact hK _ _ ⟨hS, h⟩
theorem f_opx {P : Program} {md : Region.Mode} {ops : Array Oper} {Q : Exit → Act → World → Prop} {k : Nat} {S : World → Prop} {n : Nat} {L : Array Bool} {a : Act} {w : World} {R : Value → World → Prop} (i d : Nat) {oi : Oper}
    (hi : ops[i]? = some oi) (hd : oi.dst = some d) (hr : Region.ready md ops L = [i]) (hw : Region.wanted oi (yielded ops a.tmps) = true)
    (hex : ∃ v w', (execOp a.eval oi).run P w = .ok (.value v) w' ∧ R v w') (hS : ∀ v w', R v w' → i ≠ k → L.getD k false = false → S w')
    (h : ∀ v w', R v w' → wpAnyF P md ops Q k S n (L.setIfInBounds i true) (a.put (some d) v) w') : wpAnyF P md ops Q k S (n + 1) L a w := by
  obtain ⟨v, w', he, hR⟩ := hex
  exact f_op i d v hi hd hr hw he (hS v w' hR) (h v w' hR)
theorem f_call {P : Program} {md : Region.Mode} {ops : Array Oper} {Q : Exit → Act → World → Prop} {k : Nat} {S : World → Prop} {n : Nat} {L : Array Bool} {a : Act} {w : World} (i d : Nat) (f : FuncId) (args : Array Value) {oi : Oper}
    (hi : ops[i]? = some oi) (hd : oi.dst = some d) (hr : Region.ready md ops L = [i]) (hw : Region.wanted oi (yielded ops a.tmps) = true)
    (he : (execOp a.eval oi).run P w = .ok (.enter f args) w)
    (h : Calls P f args w fun e w' => ∃ v, e = .returned v ∧ (i ≠ k → L.getD k false = false → S w') ∧ wpAnyF P md ops Q k S n (L.setIfInBounds i true) (a.put (some d) v) w') : wpAnyF P md ops Q k S (n + 1) L a w := by
  refine f_ready i hr (wpOp_step hi (fun K hK => ?_))
  rw [if_pos hw]
  unfold Oper.wp
  rw [he, Oper.upon_enter]
  refine h.mono ?_
  rintro e w' ⟨v, rfl, hS, hh⟩
  rw [hd]
  exact hK _ _ ⟨hS, hh⟩
theorem f_store {P : Program} {md : Region.Mode} {ops : Array Oper} {Q : Exit → Act → World → Prop} {k : Nat} {S : World → Prop} {n : Nat} {L : Array Bool} {a : Act} {w w' : World} (i : Nat) {oi : Oper}
    (hi : ops[i]? = some oi) (hd : oi.dst = none) (hr : Region.ready md ops L = [i]) (hw : Region.wanted oi (yielded ops a.tmps) = true)
    (he : (execOp a.eval oi).run P w = .ok .skip w') (hS : i ≠ k → L.getD k false = false → S w')
    (h : wpAnyF P md ops Q k S n (L.setIfInBounds i true) a w') : wpAnyF P md ops Q k S (n + 1) L a w := by
  refine f_ready i hr (wpOp_step hi (fun K hK => ?_))
  rw [if_pos hw]
  unfold Oper.wp
  rw [he, Oper.upon_skip, hd]
  exact hK _ _ ⟨hS, h⟩
theorem f_ready2 {P : Program} {md : Region.Mode} {ops : Array Oper} {Q : Exit → Act → World → Prop} {k : Nat} {S : World → Prop} {n : Nat} {L : Array Bool} {a : Act} {w : World} (i j : Nat) (hr : Region.ready md ops L = [i, j])
    (h1 : wpOp P ops Q i (fun a' w' => (i ≠ k → L.getD k false = false → S w') ∧ wpAnyF P md ops Q k S n (L.setIfInBounds i true) a' w') a w)
    (h2 : wpOp P ops Q j (fun a' w' => (j ≠ k → L.getD k false = false → S w') ∧ wpAnyF P md ops Q k S n (L.setIfInBounds j true) a' w') a w) : wpAnyF P md ops Q k S (n + 1) L a w :=
  ⟨(fun h0 => by rw [hr] at h0; cases h0), (fun m hm => by rw [hr] at hm; simp at hm; rcases hm with rfl | rfl <;> assumption)⟩
theorem f_opw {P : Program} {ops : Array Oper} {Q : Exit → Act → World → Prop} {a : Act} {w w' : World} {K : Act → World → Prop} (i d : Nat) (v : Value) {oi : Oper}
    (hi : ops[i]? = some oi) (hd : oi.dst = some d) (hw : Region.wanted oi (yielded ops a.tmps) = true) (he : (execOp a.eval oi).run P w = .ok (.value v) w') (h : K (a.put (some d) v) w') : wpOp P ops Q i K a w := by
  refine wpOp_step hi (fun K hK => ?_)
  rw [if_pos hw]
  unfold Oper.wp
  rw [he, Oper.upon_value, hd]
  exact hK _ _ h
theorem f_storew {P : Program} {ops : Array Oper} {Q : Exit → Act → World → Prop} {a : Act} {w w' : World} {K : Act → World → Prop} (i : Nat) {oi : Oper}
    (hi : ops[i]? = some oi) (hd : oi.dst = none) (hw : Region.wanted oi (yielded ops a.tmps) = true) (he : (execOp a.eval oi).run P w = .ok .skip w') (h : K a w') : wpOp P ops Q i K a w := by
  refine wpOp_step hi (fun K hK => ?_)
  rw [if_pos hw]
  unfold Oper.wp
  rw [he, Oper.upon_skip, hd]
  exact hK _ _ h
theorem f_done {P : Program} {md : Region.Mode} {ops : Array Oper} {Q : Exit → Act → World → Prop} {k : Nat} {S : World → Prop} {L : Array Bool} {a : Act} {w : World} (hr : Region.ready md ops L = []) (h : Q .normal a w) (n : Nat) : wpAnyF P md ops Q k S n L a w := by
  cases n with
  | zero => exact ⟨hr, h⟩
  | succ n => exact ⟨(fun _ => h), (fun i hi => by rw [hr] at hi; cases hi)⟩
end Go.Proofs.YtlflgflmlfileaaGreat
