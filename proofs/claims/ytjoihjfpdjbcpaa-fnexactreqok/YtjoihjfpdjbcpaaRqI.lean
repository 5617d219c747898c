/- ReqOk of the program, and the walk of its law. -/
import Derived.Test.YtjoihjfpdjbcpaaRows
import Derived.Test.YtjoihjfpdjbcpaaRqS
namespace Go.Proofs.Ytjoihjfpdjbcpaa
open Go.RowKit
set_option linter.unusedSimpArgs false
set_option linter.unusedVariables false
set_option maxRecDepth 100000 in
theorem kindOk_any (x : Int) (w : World) : Calls Try.prog 9 #[.int .i64 x] w fun e w' => e = .returned (.bool (decide (1 ≤ x ∧ x ≤ 7))) ∧ w = w' := by
  by_cases h : 1 ≤ x ∧ x ≤ 7
  · go_enter Try.func9, Try.ntmps9
    go_wp2_with (go_at_call 11; (refine (within_yes _ _ _ _ (by omega)).mono ?_; rintro e w' ⟨rfl, rfl⟩))
    go_ret
    exact ⟨by simp [h], rfl⟩
  · go_enter Try.func9, Try.ntmps9
    go_wp2_with (go_at_call 11; (refine (within_no _ _ _ _ (by omega)).mono ?_; rintro e w' ⟨rfl, rfl⟩))
    go_ret
    exact ⟨by simp only [h, decide_false] <;> rfl, rfl⟩
instance decEqRq : DecidableEq Rq := fun a b => by
  cases a; cases b
  rename_i a1 a2 a3 a4 a5 a6 b1 b2 b3 b4 b5 b6
  by_cases h : a1 = b1 ∧ a2 = b2 ∧ a3 = b3 ∧ a4 = b4 ∧ a5 = b5 ∧ a6 = b6
  · exact isTrue (by rw [h.1, h.2.1, h.2.2.1, h.2.2.2.1, h.2.2.2.2.1, h.2.2.2.2.2])
  · exact isFalse (fun e => h (by injection e with e1 e2 e3 e4 e5 e6; exact ⟨e1, e2, e3, e4, e5, e6⟩))
set_option maxRecDepth 100000 in
/-- The comparison of two requests. -/
theorem exec_eqlRq {ρ : Operand → Value} {o : Oper} {x y : Operand} (X Y : Rq) (b : Bool) (w : World) (h : decide (X = Y) = b) (ho : o.op = .binOp .eql 25 x y 25 := by rfl) (hx : ρ x = rqA X := by rfl) (hy : ρ y = rqA Y := by rfl) :
    (execOp ρ o).run Try.prog w = .ok (.value (.bool b)) w := by
  subst h
  obtain ⟨x1, x2, x3, x4, x5, x6⟩ := X
  obtain ⟨y1, y2, y3, y4, y5, y6⟩ := Y
  unfold execOp
  rw [ho]
  simp [go_sem, hx, hy, rqA]
  by_cases h1 : x1 = y1 <;> by_cases h2 : x2 = y2 <;> by_cases h3 : x3 = y3 <;> by_cases h4 : x4 = y4 <;> by_cases h5 : x5 = y5 <;> by_cases h6 : x6 = y6 <;> simp [h1, h2, h3, h4, h5, h6]
set_option maxRecDepth 100000 in
theorem exec_fldRq {ρ : Operand → Value} {o : Oper} {x : Operand} (b off f : Nat) (w : World) (hf : f < 6) (ho : o.op = .fieldAddr 25 x f := by rfl) (hx : ρ x = .pointer (some ⟨b, off, none⟩) := by rfl) :
    (execOp ρ o).run Try.prog w = .ok (.value (.pointer (some ⟨b, off + f, none⟩))) w := by
  unfold execOp
  rw [ho]
  match f, hf with
  | 0, _ | 1, _ | 2, _ | 3, _ | 4, _ | 5, _ => simp [go_sem, hx]
/-- The request without the fields that its kind does not use. -/
def Rq.used (q : Rq) : Rq :=
  if q.kind = 1 then q else if q.kind = 3 then ⟨q.kind, 0, q.cabin, 0, q.size, 0⟩ else if q.kind = 6 then ⟨q.kind, 0, 0, 0, 0, 0⟩ else ⟨q.kind, q.id, 0, 0, 0, 0⟩
set_option maxHeartbeats 3200000 in
theorem right_iff (q : Rq) : q.right ↔ (1 ≤ q.kind ∧ q.kind ≤ 7) ∧ q = q.used ∧ (0 ≤ q.id ∧ q.id ≤ 9999) ∧ (0 ≤ q.cabin ∧ q.cabin ≤ 9999) ∧ (-1 ≤ q.from_ ∧ q.from_ ≤ 9999) ∧ (0 ≤ q.size ∧ q.size ≤ 9999) ∧ (0 ≤ q.tier ∧ q.tier ≤ 9999) := by
  obtain ⟨kind, id, cabin, from_, size, tier⟩ := q
  unfold Rq.used Rq.right
  simp only
  by_cases k1 : kind = 1
  · rw [if_pos k1]
    constructor
    · rintro (h | h | h | h) <;> first | (exfalso; omega) | (exact ⟨by omega, rfl, h.2⟩)
    · rintro ⟨_, _, h⟩; exact .inl ⟨k1, h⟩
  by_cases k3 : kind = 3
  · rw [if_neg k1, if_pos k3]
    constructor
    · rintro (h | h | h | h)
      · exfalso; omega
      · exfalso; omega
      · obtain ⟨_, h1, h2, rfl, rfl, rfl⟩ := h; exact ⟨by omega, rfl, by omega, h1, by omega, h2, by omega⟩
      · exfalso; omega
    · rintro ⟨_, e, h⟩; injection e with e0 e1 e2 e3 e4 e5; exact .inr (.inr (.inl ⟨k3, h.2.1, h.2.2.2.1, e1, e3, e5⟩))
  by_cases k6 : kind = 6
  · rw [if_neg k1, if_neg k3, if_pos k6]
    constructor
    · rintro (h | h | h | h)
      · exfalso; omega
      · exfalso; omega
      · exfalso; omega
      · obtain ⟨_, rfl, rfl, rfl, rfl, rfl⟩ := h; exact ⟨by omega, rfl, by omega, by omega, by omega, by omega, by omega⟩
    · rintro ⟨_, e, h⟩; injection e with e0 e1 e2 e3 e4 e5; exact .inr (.inr (.inr ⟨k6, e1, e2, e3, e4, e5⟩))
  rw [if_neg k1, if_neg k3, if_neg k6]
  constructor
  · rintro (h | h | h | h)
    · exfalso; omega
    · obtain ⟨_, h1, rfl, rfl, rfl, rfl⟩ := h; exact ⟨by omega, rfl, h1, by omega, by omega, by omega, by omega⟩
    · exfalso; omega
    · exfalso; omega
  · rintro ⟨hk, e, h⟩; injection e with e0 e1 e2 e3 e4 e5; exact .inr (.inl ⟨by omega, h.1, e2, e3, e4, e5⟩)
set_option maxRecDepth 100000 in
theorem usedOf_im (q : Rq) (w : World) : Calls Try.prog 10 #[rqA q] w fun e w' => e = .returned (rqA q.used) ∧ Below w.heap.size w w' := by
  obtain ⟨kind, id, cabin, from_, size, tier⟩ := q
  unfold rqA Rq.used
  simp only
  by_cases k1 : kind = 1
  · subst k1
    rw [if_pos rfl]
    simp only
    go_enter Try.func10, Try.ntmps10
    go_wp2
    simp [bodyPost, results, Try.results10, go_sem]
    exact ((Below.refl _ _).alloc (Nat.le_refl _) _).alloc (by simp) _
  have e1 : (kind == 1) = false := by simp [k1]
  rw [if_neg k1]
  by_cases k3 : kind = 3
  · subst k3
    rw [if_pos rfl]
    simp only
    clear e1 k1
    go_enter Try.func10, Try.ntmps10
    go_wp2
    simp [bodyPost, results, Try.results10, go_sem]
    exact ((Below.refl _ _).alloc (Nat.le_refl _) _).alloc (by simp) _
  have e3 : (kind == 3) = false := by simp [k3]
  rw [if_neg k3]
  by_cases k6 : kind = 6
  · subst k6
    rw [if_pos rfl]
    simp only
    clear e1 k1 e3 k3
    go_enter Try.func10, Try.ntmps10
    go_wp2
    simp [bodyPost, results, Try.results10, go_sem]
    exact ((Below.refl _ _).alloc (Nat.le_refl _) _).alloc (by simp) _
  have e6 : (kind == 6) = false := by simp [k6]
  rw [if_neg k6]
  simp only
  clear k1 k3 k6
  go_enter Try.func10, Try.ntmps10
  go_wp2
  simp [bodyPost, results, Try.results10, go_sem]
  exact ((Below.refl _ _).alloc (Nat.le_refl _) _).alloc (by simp) _
set_option maxRecDepth 100000 in
set_option maxHeartbeats 6400000 in
theorem reqOk_im (q : Rq) (w : World) : Calls Try.prog 6 #[rqA q] w fun e w' => e = .returned (.bool (decide q.right)) ∧ Below w.heap.size w w' := by
  have KX : Hid (∀ w', Below (w.alloc (.cells #[.int .i64 q.kind, .int .i64 q.id, .int .i64 q.cabin, .int .i64 q.from_, .int .i64 q.size, .int .i64 q.tier] 25)).heap.size (w.alloc (.cells #[.int .i64 q.kind, .int .i64 q.id, .int .i64 q.cabin, .int .i64 q.from_, .int .i64 q.size, .int .i64 q.tier] 25)) w' → Rq.here w' w.heap.size 0 q) := fun w' hb => Rq.here.below (Rq.here.box q _) hb (by simp)
  have b0 : Hid (Below w.heap.size w (w.alloc (.cells #[.int .i64 q.kind, .int .i64 q.id, .int .i64 q.cabin, .int .i64 q.from_, .int .i64 q.size, .int .i64 q.tier] 25))) := (Below.refl _ _).alloc (Nat.le_refl _) _
  have HI := Lib.hid (right_iff q)
  by_cases t0 : 1 ≤ q.kind ∧ q.kind ≤ 7
  rotate_left
  · skip
    have HF : Hid (decide q.right = false) := decide_eq_false (fun hr => t0 (have h := HI.out.1 hr; h.1))
    have h0 := decide_eq_false t0
    rw [HF.out]
    clear HF HI t0
    go_enter Try.func6, Try.ntmps6
    unfold rqA
    go_wp2
    try unfold rqA at KX
    refine wp_region_held_drew (S := fun w' => Hid (Below (w.alloc (.cells #[.int .i64 q.kind, .int .i64 q.id, .int .i64 q.cabin, .int .i64 q.from_, .int .i64 q.size, .int .i64 q.tier] 25)).heap.size (w.alloc (.cells #[.int .i64 q.kind, .int .i64 q.id, .int .i64 q.cabin, .int .i64 q.from_, .int .i64 q.size, .int .i64 q.tier] 25)) w')) (by kernel_rfl) (below_drawn (Below.refl _ _) 1) (fun hHeld => ?_)
    refine held_take 0 3 (.pointer (some ⟨w.heap.size, 0 + 0, none⟩)) rfl rfl (by kernel_rfl) (by kernel_rfl) (by kernel_rfl) (fun _ _ _ h => h) rfl hHeld (fun w _ => exec_fldRq _ 0 0 w (by omega)) ?_
    refine held_take 1 4 (.int .i64 q.kind) rfl rfl (by kernel_rfl) (by kernel_rfl) (by kernel_rfl) (fun _ _ _ h => h) rfl hHeld (fun u h => exec_load1 3 _ (0 + 0) _ u (.inl rfl) (KX.out u h.out).1) ?_
    simp only [Act.put, List.setIfInBounds_toArray, List.set_cons_zero, List.set_cons_succ]
    refine held_call 2 5 9 #[.int .i64 q.kind] rfl rfl (by kernel_rfl) rfl (exec_call Try.func9 (by kernel_rfl) (by kernel_rfl) _) ?_
    refine (kindOk_any q.kind _).mono ?_
    rintro e u ⟨he, hu⟩
    subst he hu
    rw [h0]
    refine ⟨_, rfl, (Lib.hid hHeld.out), ?_⟩
    simp only [Act.put, List.setIfInBounds_toArray, List.set_cons_zero, List.set_cons_succ]
    refine held_take 3 6 (.bool false) rfl rfl (by kernel_rfl) (by kernel_rfl) (by kernel_rfl) (fun _ _ _ h => h) rfl (Lib.hid hHeld.out) (fun w _ => rfl) ?_
    refine held_skip 4 7 rfl rfl (by kernel_rfl) (by kernel_rfl) (by kernel_rfl) (fun _ _ _ h => h) rfl (Lib.hid hHeld.out) ?_
    simp only [Act.put, List.setIfInBounds_toArray, List.set_cons_zero, List.set_cons_succ]
    refine held_skip 5 8 rfl rfl (by kernel_rfl) (by kernel_rfl) (by kernel_rfl) (fun _ _ _ h => h) rfl (Lib.hid hHeld.out) ?_
    refine held_skip 6 9 rfl rfl (by kernel_rfl) (by kernel_rfl) (by kernel_rfl) (fun _ _ _ h => h) rfl (Lib.hid hHeld.out) ?_
    simp only [Act.put, List.setIfInBounds_toArray, List.set_cons_zero, List.set_cons_succ]
    refine held_skip 7 10 rfl rfl (by kernel_rfl) (by kernel_rfl) (by kernel_rfl) (fun _ _ _ h => h) rfl (Lib.hid hHeld.out) ?_
    refine held_take 8 11 (.bool false) rfl rfl (by kernel_rfl) (by kernel_rfl) (by kernel_rfl) (fun _ _ _ h => h) rfl (Lib.hid hHeld.out) (fun w _ => exec_pickF _ w) ?_
    refine held_take 9 12 (.bool false) rfl rfl (by kernel_rfl) (by kernel_rfl) (by kernel_rfl) (fun _ _ _ h => h) rfl (Lib.hid hHeld.out) (fun w _ => rfl) ?_
    simp only [Act.put, List.setIfInBounds_toArray, List.set_cons_zero, List.set_cons_succ]
    refine held_skip 10 13 rfl rfl (by kernel_rfl) (by kernel_rfl) (by kernel_rfl) (fun _ _ _ h => h) rfl (Lib.hid hHeld.out) ?_
    refine held_skip 11 14 rfl rfl (by kernel_rfl) (by kernel_rfl) (by kernel_rfl) (fun _ _ _ h => h) rfl (Lib.hid hHeld.out) ?_
    simp only [Act.put, List.setIfInBounds_toArray, List.set_cons_zero, List.set_cons_succ]
    refine held_skip 12 15 rfl rfl (by kernel_rfl) (by kernel_rfl) (by kernel_rfl) (fun _ _ _ h => h) rfl (Lib.hid hHeld.out) ?_
    refine held_take 13 16 (.bool false) rfl rfl (by kernel_rfl) (by kernel_rfl) (by kernel_rfl) (fun _ _ _ h => h) rfl (Lib.hid hHeld.out) (fun w _ => exec_pickF _ w) ?_
    refine held_take 14 17 (.bool false) rfl rfl (by kernel_rfl) (by kernel_rfl) (by kernel_rfl) (fun _ _ _ h => h) rfl (Lib.hid hHeld.out) (fun w _ => rfl) ?_
    simp only [Act.put, List.setIfInBounds_toArray, List.set_cons_zero, List.set_cons_succ]
    refine held_skip 15 18 rfl rfl (by kernel_rfl) (by kernel_rfl) (by kernel_rfl) (fun _ _ _ h => h) rfl (Lib.hid hHeld.out) ?_
    refine held_skip 16 19 rfl rfl (by kernel_rfl) (by kernel_rfl) (by kernel_rfl) (fun _ _ _ h => h) rfl (Lib.hid hHeld.out) ?_
    simp only [Act.put, List.setIfInBounds_toArray, List.set_cons_zero, List.set_cons_succ]
    refine held_skip 17 20 rfl rfl (by kernel_rfl) (by kernel_rfl) (by kernel_rfl) (fun _ _ _ h => h) rfl (Lib.hid hHeld.out) ?_
    refine held_take 18 21 (.bool false) rfl rfl (by kernel_rfl) (by kernel_rfl) (by kernel_rfl) (fun _ _ _ h => h) rfl (Lib.hid hHeld.out) (fun w _ => exec_pickF _ w) ?_
    refine held_take 19 22 (.bool false) rfl rfl (by kernel_rfl) (by kernel_rfl) (by kernel_rfl) (fun _ _ _ h => h) rfl (Lib.hid hHeld.out) (fun w _ => rfl) ?_
    simp only [Act.put, List.setIfInBounds_toArray, List.set_cons_zero, List.set_cons_succ]
    refine held_skip 20 23 rfl rfl (by kernel_rfl) (by kernel_rfl) (by kernel_rfl) (fun _ _ _ h => h) rfl (Lib.hid hHeld.out) ?_
    refine held_skip 21 24 rfl rfl (by kernel_rfl) (by kernel_rfl) (by kernel_rfl) (fun _ _ _ h => h) rfl (Lib.hid hHeld.out) ?_
    simp only [Act.put, List.setIfInBounds_toArray, List.set_cons_zero, List.set_cons_succ]
    refine held_skip 22 25 rfl rfl (by kernel_rfl) (by kernel_rfl) (by kernel_rfl) (fun _ _ _ h => h) rfl (Lib.hid hHeld.out) ?_
    refine held_take 23 26 (.bool false) rfl rfl (by kernel_rfl) (by kernel_rfl) (by kernel_rfl) (fun _ _ _ h => h) rfl (Lib.hid hHeld.out) (fun w _ => exec_pickF _ w) ?_
    refine held_take 24 27 (.bool false) rfl rfl (by kernel_rfl) (by kernel_rfl) (by kernel_rfl) (fun _ _ _ h => h) rfl (Lib.hid hHeld.out) (fun w _ => rfl) ?_
    simp only [Act.put, List.setIfInBounds_toArray, List.set_cons_zero, List.set_cons_succ]
    refine held_skip 25 28 rfl rfl (by kernel_rfl) (by kernel_rfl) (by kernel_rfl) (fun _ _ _ h => h) rfl (Lib.hid hHeld.out) ?_
    refine held_skip 26 29 rfl rfl (by kernel_rfl) (by kernel_rfl) (by kernel_rfl) (fun _ _ _ h => h) rfl (Lib.hid hHeld.out) ?_
    simp only [Act.put, List.setIfInBounds_toArray, List.set_cons_zero, List.set_cons_succ]
    refine held_skip 27 30 rfl rfl (by kernel_rfl) (by kernel_rfl) (by kernel_rfl) (fun _ _ _ h => h) rfl (Lib.hid hHeld.out) ?_
    refine held_take 28 31 (.bool false) rfl rfl (by kernel_rfl) (by kernel_rfl) (by kernel_rfl) (fun _ _ _ h => h) rfl (Lib.hid hHeld.out) (fun w _ => exec_pickF _ w) ?_
    refine held_take 29 32 (.bool false) rfl rfl (by kernel_rfl) (by kernel_rfl) (by kernel_rfl) (fun _ _ _ h => h) rfl (Lib.hid hHeld.out) (fun w _ => rfl) ?_
    simp only [Act.put, List.setIfInBounds_toArray, List.set_cons_zero, List.set_cons_succ]
    refine held_skip 30 33 rfl rfl (by kernel_rfl) (by kernel_rfl) (by kernel_rfl) (fun _ _ _ h => h) rfl (Lib.hid hHeld.out) ?_
    refine held_skip 31 34 rfl rfl (by kernel_rfl) (by kernel_rfl) (by kernel_rfl) (fun _ _ _ h => h) rfl (Lib.hid hHeld.out) ?_
    simp only [Act.put, List.setIfInBounds_toArray, List.set_cons_zero, List.set_cons_succ]
    refine held_skip 32 35 rfl rfl (by kernel_rfl) (by kernel_rfl) (by kernel_rfl) (fun _ _ _ h => h) rfl (Lib.hid hHeld.out) ?_
    refine held_take 33 36 (.bool false) rfl rfl (by kernel_rfl) (by kernel_rfl) (by kernel_rfl) (fun _ _ _ h => h) rfl (Lib.hid hHeld.out) (fun w _ => exec_pickF _ w) ?_
    simp only [Act.put, List.setIfInBounds_toArray, List.set_cons_zero, List.set_cons_succ]
    refine held_op 34 2 (.bool false) rfl rfl (by kernel_rfl) rfl rfl (Lib.hid hHeld.out) ?_
    simp only [Act.put, List.setIfInBounds_toArray, List.set_cons_zero, List.set_cons_succ]
    refine wpAnyH_done (by kernel_rfl) ?_ _
    go_wp2
    go_ret
    exact ⟨rfl, b0.out.trans (hHeld.out.mono b0.out.size)⟩
  have h0 := decide_eq_true t0
  by_cases t1 : q = q.used
  rotate_left
  · skip
    have HF : Hid (decide q.right = false) := decide_eq_false (fun hr => t1 (have h := HI.out.1 hr; h.2.1))
    have h1 := decide_eq_false t1
    rw [HF.out]
    clear HF HI t0 t1
    go_enter Try.func6, Try.ntmps6
    unfold rqA
    go_wp2
    try unfold rqA at KX
    refine wp_region_held_drew (S := fun w' => Hid (Below (w.alloc (.cells #[.int .i64 q.kind, .int .i64 q.id, .int .i64 q.cabin, .int .i64 q.from_, .int .i64 q.size, .int .i64 q.tier] 25)).heap.size (w.alloc (.cells #[.int .i64 q.kind, .int .i64 q.id, .int .i64 q.cabin, .int .i64 q.from_, .int .i64 q.size, .int .i64 q.tier] 25)) w')) (by kernel_rfl) (below_drawn (Below.refl _ _) 1) (fun hHeld => ?_)
    refine held_take 0 3 (.pointer (some ⟨w.heap.size, 0 + 0, none⟩)) rfl rfl (by kernel_rfl) (by kernel_rfl) (by kernel_rfl) (fun _ _ _ h => h) rfl hHeld (fun w _ => exec_fldRq _ 0 0 w (by omega)) ?_
    refine held_take 1 4 (.int .i64 q.kind) rfl rfl (by kernel_rfl) (by kernel_rfl) (by kernel_rfl) (fun _ _ _ h => h) rfl hHeld (fun u h => exec_load1 3 _ (0 + 0) _ u (.inl rfl) (KX.out u h.out).1) ?_
    simp only [Act.put, List.setIfInBounds_toArray, List.set_cons_zero, List.set_cons_succ]
    refine held_call 2 5 9 #[.int .i64 q.kind] rfl rfl (by kernel_rfl) rfl (exec_call Try.func9 (by kernel_rfl) (by kernel_rfl) _) ?_
    refine (kindOk_any q.kind _).mono ?_
    rintro e u ⟨he, hu⟩
    subst he hu
    rw [h0]
    refine ⟨_, rfl, (Lib.hid hHeld.out), ?_⟩
    simp only [Act.put, List.setIfInBounds_toArray, List.set_cons_zero, List.set_cons_succ]
    refine held_take 3 6 (.bool true) rfl rfl (by kernel_rfl) (by kernel_rfl) (by kernel_rfl) (fun _ _ _ h => h) rfl (Lib.hid hHeld.out) (fun w _ => rfl) ?_
    refine held_take 4 7 (rqA q) rfl rfl (by kernel_rfl) (by kernel_rfl) (by kernel_rfl) (fun _ _ _ h => h) rfl (Lib.hid hHeld.out) (fun u h => exec_load_rq _ 0 q u (KX.out u h.out)) ?_
    refine held_take 5 8 (rqA q) rfl rfl (by kernel_rfl) (by kernel_rfl) (by kernel_rfl) (fun _ _ _ h => h) rfl (Lib.hid hHeld.out) (fun u h => exec_load_rq _ 0 q u (KX.out u h.out)) ?_
    simp only [Act.put, List.setIfInBounds_toArray, List.set_cons_zero, List.set_cons_succ]
    refine held_call 6 9 10 #[rqA q] rfl rfl (by kernel_rfl) rfl (exec_call Try.func10 (by kernel_rfl) (by kernel_rfl) _) ?_
    refine (usedOf_im q _).mono ?_
    rintro e u1 ⟨he, b1⟩
    subst he
    have k1 := hHeld.out.trans (b1.mono hHeld.out.size)
    refine ⟨_, rfl, (Lib.hid k1), ?_⟩
    simp only [Act.put, List.setIfInBounds_toArray, List.set_cons_zero, List.set_cons_succ]
    refine held_take 7 10 (.bool false) rfl rfl (by kernel_rfl) (by kernel_rfl) (by kernel_rfl) (fun _ _ _ h => h) rfl (Lib.hid k1) (fun u _ => exec_eqlRq q q.used false u h1) ?_
    refine held_take 8 11 (.bool false) rfl rfl (by kernel_rfl) (by kernel_rfl) (by kernel_rfl) (fun _ _ _ h => h) rfl (Lib.hid k1) (fun w _ => exec_pickT _ w) ?_
    refine held_take 9 12 (.bool false) rfl rfl (by kernel_rfl) (by kernel_rfl) (by kernel_rfl) (fun _ _ _ h => h) rfl (Lib.hid k1) (fun w _ => rfl) ?_
    simp only [Act.put, List.setIfInBounds_toArray, List.set_cons_zero, List.set_cons_succ]
    refine held_skip 10 13 rfl rfl (by kernel_rfl) (by kernel_rfl) (by kernel_rfl) (fun _ _ _ h => h) rfl (Lib.hid k1) ?_
    refine held_skip 11 14 rfl rfl (by kernel_rfl) (by kernel_rfl) (by kernel_rfl) (fun _ _ _ h => h) rfl (Lib.hid k1) ?_
    simp only [Act.put, List.setIfInBounds_toArray, List.set_cons_zero, List.set_cons_succ]
    refine held_skip 12 15 rfl rfl (by kernel_rfl) (by kernel_rfl) (by kernel_rfl) (fun _ _ _ h => h) rfl (Lib.hid k1) ?_
    refine held_take 13 16 (.bool false) rfl rfl (by kernel_rfl) (by kernel_rfl) (by kernel_rfl) (fun _ _ _ h => h) rfl (Lib.hid k1) (fun w _ => exec_pickF _ w) ?_
    refine held_take 14 17 (.bool false) rfl rfl (by kernel_rfl) (by kernel_rfl) (by kernel_rfl) (fun _ _ _ h => h) rfl (Lib.hid k1) (fun w _ => rfl) ?_
    simp only [Act.put, List.setIfInBounds_toArray, List.set_cons_zero, List.set_cons_succ]
    refine held_skip 15 18 rfl rfl (by kernel_rfl) (by kernel_rfl) (by kernel_rfl) (fun _ _ _ h => h) rfl (Lib.hid k1) ?_
    refine held_skip 16 19 rfl rfl (by kernel_rfl) (by kernel_rfl) (by kernel_rfl) (fun _ _ _ h => h) rfl (Lib.hid k1) ?_
    simp only [Act.put, List.setIfInBounds_toArray, List.set_cons_zero, List.set_cons_succ]
    refine held_skip 17 20 rfl rfl (by kernel_rfl) (by kernel_rfl) (by kernel_rfl) (fun _ _ _ h => h) rfl (Lib.hid k1) ?_
    refine held_take 18 21 (.bool false) rfl rfl (by kernel_rfl) (by kernel_rfl) (by kernel_rfl) (fun _ _ _ h => h) rfl (Lib.hid k1) (fun w _ => exec_pickF _ w) ?_
    refine held_take 19 22 (.bool false) rfl rfl (by kernel_rfl) (by kernel_rfl) (by kernel_rfl) (fun _ _ _ h => h) rfl (Lib.hid k1) (fun w _ => rfl) ?_
    simp only [Act.put, List.setIfInBounds_toArray, List.set_cons_zero, List.set_cons_succ]
    refine held_skip 20 23 rfl rfl (by kernel_rfl) (by kernel_rfl) (by kernel_rfl) (fun _ _ _ h => h) rfl (Lib.hid k1) ?_
    refine held_skip 21 24 rfl rfl (by kernel_rfl) (by kernel_rfl) (by kernel_rfl) (fun _ _ _ h => h) rfl (Lib.hid k1) ?_
    simp only [Act.put, List.setIfInBounds_toArray, List.set_cons_zero, List.set_cons_succ]
    refine held_skip 22 25 rfl rfl (by kernel_rfl) (by kernel_rfl) (by kernel_rfl) (fun _ _ _ h => h) rfl (Lib.hid k1) ?_
    refine held_take 23 26 (.bool false) rfl rfl (by kernel_rfl) (by kernel_rfl) (by kernel_rfl) (fun _ _ _ h => h) rfl (Lib.hid k1) (fun w _ => exec_pickF _ w) ?_
    refine held_take 24 27 (.bool false) rfl rfl (by kernel_rfl) (by kernel_rfl) (by kernel_rfl) (fun _ _ _ h => h) rfl (Lib.hid k1) (fun w _ => rfl) ?_
    simp only [Act.put, List.setIfInBounds_toArray, List.set_cons_zero, List.set_cons_succ]
    refine held_skip 25 28 rfl rfl (by kernel_rfl) (by kernel_rfl) (by kernel_rfl) (fun _ _ _ h => h) rfl (Lib.hid k1) ?_
    refine held_skip 26 29 rfl rfl (by kernel_rfl) (by kernel_rfl) (by kernel_rfl) (fun _ _ _ h => h) rfl (Lib.hid k1) ?_
    simp only [Act.put, List.setIfInBounds_toArray, List.set_cons_zero, List.set_cons_succ]
    refine held_skip 27 30 rfl rfl (by kernel_rfl) (by kernel_rfl) (by kernel_rfl) (fun _ _ _ h => h) rfl (Lib.hid k1) ?_
    refine held_take 28 31 (.bool false) rfl rfl (by kernel_rfl) (by kernel_rfl) (by kernel_rfl) (fun _ _ _ h => h) rfl (Lib.hid k1) (fun w _ => exec_pickF _ w) ?_
    refine held_take 29 32 (.bool false) rfl rfl (by kernel_rfl) (by kernel_rfl) (by kernel_rfl) (fun _ _ _ h => h) rfl (Lib.hid k1) (fun w _ => rfl) ?_
    simp only [Act.put, List.setIfInBounds_toArray, List.set_cons_zero, List.set_cons_succ]
    refine held_skip 30 33 rfl rfl (by kernel_rfl) (by kernel_rfl) (by kernel_rfl) (fun _ _ _ h => h) rfl (Lib.hid k1) ?_
    refine held_skip 31 34 rfl rfl (by kernel_rfl) (by kernel_rfl) (by kernel_rfl) (fun _ _ _ h => h) rfl (Lib.hid k1) ?_
    simp only [Act.put, List.setIfInBounds_toArray, List.set_cons_zero, List.set_cons_succ]
    refine held_skip 32 35 rfl rfl (by kernel_rfl) (by kernel_rfl) (by kernel_rfl) (fun _ _ _ h => h) rfl (Lib.hid k1) ?_
    refine held_take 33 36 (.bool false) rfl rfl (by kernel_rfl) (by kernel_rfl) (by kernel_rfl) (fun _ _ _ h => h) rfl (Lib.hid k1) (fun w _ => exec_pickF _ w) ?_
    simp only [Act.put, List.setIfInBounds_toArray, List.set_cons_zero, List.set_cons_succ]
    refine held_op 34 2 (.bool false) rfl rfl (by kernel_rfl) rfl rfl (Lib.hid k1) ?_
    simp only [Act.put, List.setIfInBounds_toArray, List.set_cons_zero, List.set_cons_succ]
    refine wpAnyH_done (by kernel_rfl) ?_ _
    go_wp2
    go_ret
    exact ⟨rfl, b0.out.trans (k1.mono b0.out.size)⟩
  have h1 := decide_eq_true t1
  by_cases t2 : 0 ≤ q.id ∧ q.id ≤ 9999
  rotate_left
  · skip
    have HF : Hid (decide q.right = false) := decide_eq_false (fun hr => t2 (have h := HI.out.1 hr; h.2.2.1))
    have h2 := decide_eq_false t2
    rw [HF.out]
    clear HF HI t0 t1 t2
    go_enter Try.func6, Try.ntmps6
    unfold rqA
    go_wp2
    try unfold rqA at KX
    refine wp_region_held_drew (S := fun w' => Hid (Below (w.alloc (.cells #[.int .i64 q.kind, .int .i64 q.id, .int .i64 q.cabin, .int .i64 q.from_, .int .i64 q.size, .int .i64 q.tier] 25)).heap.size (w.alloc (.cells #[.int .i64 q.kind, .int .i64 q.id, .int .i64 q.cabin, .int .i64 q.from_, .int .i64 q.size, .int .i64 q.tier] 25)) w')) (by kernel_rfl) (below_drawn (Below.refl _ _) 1) (fun hHeld => ?_)
    refine held_take 0 3 (.pointer (some ⟨w.heap.size, 0 + 0, none⟩)) rfl rfl (by kernel_rfl) (by kernel_rfl) (by kernel_rfl) (fun _ _ _ h => h) rfl hHeld (fun w _ => exec_fldRq _ 0 0 w (by omega)) ?_
    refine held_take 1 4 (.int .i64 q.kind) rfl rfl (by kernel_rfl) (by kernel_rfl) (by kernel_rfl) (fun _ _ _ h => h) rfl hHeld (fun u h => exec_load1 3 _ (0 + 0) _ u (.inl rfl) (KX.out u h.out).1) ?_
    simp only [Act.put, List.setIfInBounds_toArray, List.set_cons_zero, List.set_cons_succ]
    refine held_call 2 5 9 #[.int .i64 q.kind] rfl rfl (by kernel_rfl) rfl (exec_call Try.func9 (by kernel_rfl) (by kernel_rfl) _) ?_
    refine (kindOk_any q.kind _).mono ?_
    rintro e u ⟨he, hu⟩
    subst he hu
    rw [h0]
    refine ⟨_, rfl, (Lib.hid hHeld.out), ?_⟩
    simp only [Act.put, List.setIfInBounds_toArray, List.set_cons_zero, List.set_cons_succ]
    refine held_take 3 6 (.bool true) rfl rfl (by kernel_rfl) (by kernel_rfl) (by kernel_rfl) (fun _ _ _ h => h) rfl (Lib.hid hHeld.out) (fun w _ => rfl) ?_
    refine held_take 4 7 (rqA q) rfl rfl (by kernel_rfl) (by kernel_rfl) (by kernel_rfl) (fun _ _ _ h => h) rfl (Lib.hid hHeld.out) (fun u h => exec_load_rq _ 0 q u (KX.out u h.out)) ?_
    refine held_take 5 8 (rqA q) rfl rfl (by kernel_rfl) (by kernel_rfl) (by kernel_rfl) (fun _ _ _ h => h) rfl (Lib.hid hHeld.out) (fun u h => exec_load_rq _ 0 q u (KX.out u h.out)) ?_
    simp only [Act.put, List.setIfInBounds_toArray, List.set_cons_zero, List.set_cons_succ]
    refine held_call 6 9 10 #[rqA q] rfl rfl (by kernel_rfl) rfl (exec_call Try.func10 (by kernel_rfl) (by kernel_rfl) _) ?_
    refine (usedOf_im q _).mono ?_
    rintro e u1 ⟨he, b1⟩
    subst he
    have k1 := hHeld.out.trans (b1.mono hHeld.out.size)
    refine ⟨_, rfl, (Lib.hid k1), ?_⟩
    simp only [Act.put, List.setIfInBounds_toArray, List.set_cons_zero, List.set_cons_succ]
    refine held_take 7 10 (.bool true) rfl rfl (by kernel_rfl) (by kernel_rfl) (by kernel_rfl) (fun _ _ _ h => h) rfl (Lib.hid k1) (fun u _ => exec_eqlRq q q.used true u h1) ?_
    refine held_take 8 11 (.bool true) rfl rfl (by kernel_rfl) (by kernel_rfl) (by kernel_rfl) (fun _ _ _ h => h) rfl (Lib.hid k1) (fun w _ => exec_pickT _ w) ?_
    refine held_take 9 12 (.bool true) rfl rfl (by kernel_rfl) (by kernel_rfl) (by kernel_rfl) (fun _ _ _ h => h) rfl (Lib.hid k1) (fun w _ => rfl) ?_
    simp only [Act.put, List.setIfInBounds_toArray, List.set_cons_zero, List.set_cons_succ]
    refine held_take 10 13 (.pointer (some ⟨w.heap.size, 0 + 1, none⟩)) rfl rfl (by kernel_rfl) (by kernel_rfl) (by kernel_rfl) (fun _ _ _ h => h) rfl (Lib.hid k1) (fun w _ => exec_fldRq _ 0 1 w (by omega)) ?_
    refine held_take 11 14 (.int .i64 q.id) rfl rfl (by kernel_rfl) (by kernel_rfl) (by kernel_rfl) (fun _ _ _ h => h) rfl (Lib.hid k1) (fun u h => exec_load1 3 _ (0 + 1) _ u (.inl rfl) (KX.out u h.out).2.1) ?_
    simp only [Act.put, List.setIfInBounds_toArray, List.set_cons_zero, List.set_cons_succ]
    refine held_call 12 15 11 #[.int .i64 q.id, .int .i64 0, .int .i64 9999] rfl rfl (by kernel_rfl) rfl (exec_call Try.func11 (by kernel_rfl) (by kernel_rfl) _) ?_
    refine (within_any q.id 0 9999 _).mono ?_
    rintro e u2 ⟨he, hu⟩
    subst he hu
    rw [h2]
    refine ⟨_, rfl, (Lib.hid k1), ?_⟩
    simp only [Act.put, List.setIfInBounds_toArray, List.set_cons_zero, List.set_cons_succ]
    refine held_take 13 16 (.bool false) rfl rfl (by kernel_rfl) (by kernel_rfl) (by kernel_rfl) (fun _ _ _ h => h) rfl (Lib.hid k1) (fun w _ => exec_pickT _ w) ?_
    refine held_take 14 17 (.bool false) rfl rfl (by kernel_rfl) (by kernel_rfl) (by kernel_rfl) (fun _ _ _ h => h) rfl (Lib.hid k1) (fun w _ => rfl) ?_
    refine held_skip 15 18 rfl rfl (by kernel_rfl) (by kernel_rfl) (by kernel_rfl) (fun _ _ _ h => h) rfl (Lib.hid k1) ?_
    simp only [Act.put, List.setIfInBounds_toArray, List.set_cons_zero, List.set_cons_succ]
    refine held_skip 16 19 rfl rfl (by kernel_rfl) (by kernel_rfl) (by kernel_rfl) (fun _ _ _ h => h) rfl (Lib.hid k1) ?_
    refine held_skip 17 20 rfl rfl (by kernel_rfl) (by kernel_rfl) (by kernel_rfl) (fun _ _ _ h => h) rfl (Lib.hid k1) ?_
    simp only [Act.put, List.setIfInBounds_toArray, List.set_cons_zero, List.set_cons_succ]
    refine held_take 18 21 (.bool false) rfl rfl (by kernel_rfl) (by kernel_rfl) (by kernel_rfl) (fun _ _ _ h => h) rfl (Lib.hid k1) (fun w _ => exec_pickF _ w) ?_
    refine held_take 19 22 (.bool false) rfl rfl (by kernel_rfl) (by kernel_rfl) (by kernel_rfl) (fun _ _ _ h => h) rfl (Lib.hid k1) (fun w _ => rfl) ?_
    refine held_skip 20 23 rfl rfl (by kernel_rfl) (by kernel_rfl) (by kernel_rfl) (fun _ _ _ h => h) rfl (Lib.hid k1) ?_
    simp only [Act.put, List.setIfInBounds_toArray, List.set_cons_zero, List.set_cons_succ]
    refine held_skip 21 24 rfl rfl (by kernel_rfl) (by kernel_rfl) (by kernel_rfl) (fun _ _ _ h => h) rfl (Lib.hid k1) ?_
    refine held_skip 22 25 rfl rfl (by kernel_rfl) (by kernel_rfl) (by kernel_rfl) (fun _ _ _ h => h) rfl (Lib.hid k1) ?_
    simp only [Act.put, List.setIfInBounds_toArray, List.set_cons_zero, List.set_cons_succ]
    refine held_take 23 26 (.bool false) rfl rfl (by kernel_rfl) (by kernel_rfl) (by kernel_rfl) (fun _ _ _ h => h) rfl (Lib.hid k1) (fun w _ => exec_pickF _ w) ?_
    refine held_take 24 27 (.bool false) rfl rfl (by kernel_rfl) (by kernel_rfl) (by kernel_rfl) (fun _ _ _ h => h) rfl (Lib.hid k1) (fun w _ => rfl) ?_
    refine held_skip 25 28 rfl rfl (by kernel_rfl) (by kernel_rfl) (by kernel_rfl) (fun _ _ _ h => h) rfl (Lib.hid k1) ?_
    simp only [Act.put, List.setIfInBounds_toArray, List.set_cons_zero, List.set_cons_succ]
    refine held_skip 26 29 rfl rfl (by kernel_rfl) (by kernel_rfl) (by kernel_rfl) (fun _ _ _ h => h) rfl (Lib.hid k1) ?_
    refine held_skip 27 30 rfl rfl (by kernel_rfl) (by kernel_rfl) (by kernel_rfl) (fun _ _ _ h => h) rfl (Lib.hid k1) ?_
    simp only [Act.put, List.setIfInBounds_toArray, List.set_cons_zero, List.set_cons_succ]
    refine held_take 28 31 (.bool false) rfl rfl (by kernel_rfl) (by kernel_rfl) (by kernel_rfl) (fun _ _ _ h => h) rfl (Lib.hid k1) (fun w _ => exec_pickF _ w) ?_
    refine held_take 29 32 (.bool false) rfl rfl (by kernel_rfl) (by kernel_rfl) (by kernel_rfl) (fun _ _ _ h => h) rfl (Lib.hid k1) (fun w _ => rfl) ?_
    refine held_skip 30 33 rfl rfl (by kernel_rfl) (by kernel_rfl) (by kernel_rfl) (fun _ _ _ h => h) rfl (Lib.hid k1) ?_
    simp only [Act.put, List.setIfInBounds_toArray, List.set_cons_zero, List.set_cons_succ]
    refine held_skip 31 34 rfl rfl (by kernel_rfl) (by kernel_rfl) (by kernel_rfl) (fun _ _ _ h => h) rfl (Lib.hid k1) ?_
    refine held_skip 32 35 rfl rfl (by kernel_rfl) (by kernel_rfl) (by kernel_rfl) (fun _ _ _ h => h) rfl (Lib.hid k1) ?_
    simp only [Act.put, List.setIfInBounds_toArray, List.set_cons_zero, List.set_cons_succ]
    refine held_take 33 36 (.bool false) rfl rfl (by kernel_rfl) (by kernel_rfl) (by kernel_rfl) (fun _ _ _ h => h) rfl (Lib.hid k1) (fun w _ => exec_pickF _ w) ?_
    simp only [Act.put, List.setIfInBounds_toArray, List.set_cons_zero, List.set_cons_succ]
    refine held_op 34 2 (.bool false) rfl rfl (by kernel_rfl) rfl rfl (Lib.hid k1) ?_
    simp only [Act.put, List.setIfInBounds_toArray, List.set_cons_zero, List.set_cons_succ]
    refine wpAnyH_done (by kernel_rfl) ?_ _
    go_wp2
    go_ret
    exact ⟨rfl, b0.out.trans (k1.mono b0.out.size)⟩
  have h2 := decide_eq_true t2
  by_cases t3 : 0 ≤ q.cabin ∧ q.cabin ≤ 9999
  rotate_left
  · skip
    have HF : Hid (decide q.right = false) := decide_eq_false (fun hr => t3 (have h := HI.out.1 hr; h.2.2.2.1))
    have h3 := decide_eq_false t3
    rw [HF.out]
    clear HF HI t0 t1 t2 t3
    go_enter Try.func6, Try.ntmps6
    unfold rqA
    go_wp2
    try unfold rqA at KX
    refine wp_region_held_drew (S := fun w' => Hid (Below (w.alloc (.cells #[.int .i64 q.kind, .int .i64 q.id, .int .i64 q.cabin, .int .i64 q.from_, .int .i64 q.size, .int .i64 q.tier] 25)).heap.size (w.alloc (.cells #[.int .i64 q.kind, .int .i64 q.id, .int .i64 q.cabin, .int .i64 q.from_, .int .i64 q.size, .int .i64 q.tier] 25)) w')) (by kernel_rfl) (below_drawn (Below.refl _ _) 1) (fun hHeld => ?_)
    refine held_take 0 3 (.pointer (some ⟨w.heap.size, 0 + 0, none⟩)) rfl rfl (by kernel_rfl) (by kernel_rfl) (by kernel_rfl) (fun _ _ _ h => h) rfl hHeld (fun w _ => exec_fldRq _ 0 0 w (by omega)) ?_
    refine held_take 1 4 (.int .i64 q.kind) rfl rfl (by kernel_rfl) (by kernel_rfl) (by kernel_rfl) (fun _ _ _ h => h) rfl hHeld (fun u h => exec_load1 3 _ (0 + 0) _ u (.inl rfl) (KX.out u h.out).1) ?_
    simp only [Act.put, List.setIfInBounds_toArray, List.set_cons_zero, List.set_cons_succ]
    refine held_call 2 5 9 #[.int .i64 q.kind] rfl rfl (by kernel_rfl) rfl (exec_call Try.func9 (by kernel_rfl) (by kernel_rfl) _) ?_
    refine (kindOk_any q.kind _).mono ?_
    rintro e u ⟨he, hu⟩
    subst he hu
    rw [h0]
    refine ⟨_, rfl, (Lib.hid hHeld.out), ?_⟩
    simp only [Act.put, List.setIfInBounds_toArray, List.set_cons_zero, List.set_cons_succ]
    refine held_take 3 6 (.bool true) rfl rfl (by kernel_rfl) (by kernel_rfl) (by kernel_rfl) (fun _ _ _ h => h) rfl (Lib.hid hHeld.out) (fun w _ => rfl) ?_
    refine held_take 4 7 (rqA q) rfl rfl (by kernel_rfl) (by kernel_rfl) (by kernel_rfl) (fun _ _ _ h => h) rfl (Lib.hid hHeld.out) (fun u h => exec_load_rq _ 0 q u (KX.out u h.out)) ?_
    refine held_take 5 8 (rqA q) rfl rfl (by kernel_rfl) (by kernel_rfl) (by kernel_rfl) (fun _ _ _ h => h) rfl (Lib.hid hHeld.out) (fun u h => exec_load_rq _ 0 q u (KX.out u h.out)) ?_
    simp only [Act.put, List.setIfInBounds_toArray, List.set_cons_zero, List.set_cons_succ]
    refine held_call 6 9 10 #[rqA q] rfl rfl (by kernel_rfl) rfl (exec_call Try.func10 (by kernel_rfl) (by kernel_rfl) _) ?_
    refine (usedOf_im q _).mono ?_
    rintro e u1 ⟨he, b1⟩
    subst he
    have k1 := hHeld.out.trans (b1.mono hHeld.out.size)
    refine ⟨_, rfl, (Lib.hid k1), ?_⟩
    simp only [Act.put, List.setIfInBounds_toArray, List.set_cons_zero, List.set_cons_succ]
    refine held_take 7 10 (.bool true) rfl rfl (by kernel_rfl) (by kernel_rfl) (by kernel_rfl) (fun _ _ _ h => h) rfl (Lib.hid k1) (fun u _ => exec_eqlRq q q.used true u h1) ?_
    refine held_take 8 11 (.bool true) rfl rfl (by kernel_rfl) (by kernel_rfl) (by kernel_rfl) (fun _ _ _ h => h) rfl (Lib.hid k1) (fun w _ => exec_pickT _ w) ?_
    refine held_take 9 12 (.bool true) rfl rfl (by kernel_rfl) (by kernel_rfl) (by kernel_rfl) (fun _ _ _ h => h) rfl (Lib.hid k1) (fun w _ => rfl) ?_
    simp only [Act.put, List.setIfInBounds_toArray, List.set_cons_zero, List.set_cons_succ]
    refine held_take 10 13 (.pointer (some ⟨w.heap.size, 0 + 1, none⟩)) rfl rfl (by kernel_rfl) (by kernel_rfl) (by kernel_rfl) (fun _ _ _ h => h) rfl (Lib.hid k1) (fun w _ => exec_fldRq _ 0 1 w (by omega)) ?_
    refine held_take 11 14 (.int .i64 q.id) rfl rfl (by kernel_rfl) (by kernel_rfl) (by kernel_rfl) (fun _ _ _ h => h) rfl (Lib.hid k1) (fun u h => exec_load1 3 _ (0 + 1) _ u (.inl rfl) (KX.out u h.out).2.1) ?_
    simp only [Act.put, List.setIfInBounds_toArray, List.set_cons_zero, List.set_cons_succ]
    refine held_call 12 15 11 #[.int .i64 q.id, .int .i64 0, .int .i64 9999] rfl rfl (by kernel_rfl) rfl (exec_call Try.func11 (by kernel_rfl) (by kernel_rfl) _) ?_
    refine (within_any q.id 0 9999 _).mono ?_
    rintro e u2 ⟨he, hu⟩
    subst he hu
    rw [h2]
    refine ⟨_, rfl, (Lib.hid k1), ?_⟩
    simp only [Act.put, List.setIfInBounds_toArray, List.set_cons_zero, List.set_cons_succ]
    refine held_take 13 16 (.bool true) rfl rfl (by kernel_rfl) (by kernel_rfl) (by kernel_rfl) (fun _ _ _ h => h) rfl (Lib.hid k1) (fun w _ => exec_pickT _ w) ?_
    refine held_take 14 17 (.bool true) rfl rfl (by kernel_rfl) (by kernel_rfl) (by kernel_rfl) (fun _ _ _ h => h) rfl (Lib.hid k1) (fun w _ => rfl) ?_
    refine held_take 15 18 (.pointer (some ⟨w.heap.size, 0 + 2, none⟩)) rfl rfl (by kernel_rfl) (by kernel_rfl) (by kernel_rfl) (fun _ _ _ h => h) rfl (Lib.hid k1) (fun w _ => exec_fldRq _ 0 2 w (by omega)) ?_
    simp only [Act.put, List.setIfInBounds_toArray, List.set_cons_zero, List.set_cons_succ]
    refine held_take 16 19 (.int .i64 q.cabin) rfl rfl (by kernel_rfl) (by kernel_rfl) (by kernel_rfl) (fun _ _ _ h => h) rfl (Lib.hid k1) (fun u h => exec_load1 3 _ (0 + 2) _ u (.inl rfl) (KX.out u h.out).2.2.1) ?_
    simp only [Act.put, List.setIfInBounds_toArray, List.set_cons_zero, List.set_cons_succ]
    refine held_call 17 20 11 #[.int .i64 q.cabin, .int .i64 0, .int .i64 9999] rfl rfl (by kernel_rfl) rfl (exec_call Try.func11 (by kernel_rfl) (by kernel_rfl) _) ?_
    refine (within_any q.cabin 0 9999 _).mono ?_
    rintro e u2 ⟨he, hu⟩
    subst he hu
    rw [h3]
    refine ⟨_, rfl, (Lib.hid k1), ?_⟩
    simp only [Act.put, List.setIfInBounds_toArray, List.set_cons_zero, List.set_cons_succ]
    refine held_take 18 21 (.bool false) rfl rfl (by kernel_rfl) (by kernel_rfl) (by kernel_rfl) (fun _ _ _ h => h) rfl (Lib.hid k1) (fun w _ => exec_pickT _ w) ?_
    refine held_take 19 22 (.bool false) rfl rfl (by kernel_rfl) (by kernel_rfl) (by kernel_rfl) (fun _ _ _ h => h) rfl (Lib.hid k1) (fun w _ => rfl) ?_
    refine held_skip 20 23 rfl rfl (by kernel_rfl) (by kernel_rfl) (by kernel_rfl) (fun _ _ _ h => h) rfl (Lib.hid k1) ?_
    simp only [Act.put, List.setIfInBounds_toArray, List.set_cons_zero, List.set_cons_succ]
    refine held_skip 21 24 rfl rfl (by kernel_rfl) (by kernel_rfl) (by kernel_rfl) (fun _ _ _ h => h) rfl (Lib.hid k1) ?_
    refine held_skip 22 25 rfl rfl (by kernel_rfl) (by kernel_rfl) (by kernel_rfl) (fun _ _ _ h => h) rfl (Lib.hid k1) ?_
    simp only [Act.put, List.setIfInBounds_toArray, List.set_cons_zero, List.set_cons_succ]
    refine held_take 23 26 (.bool false) rfl rfl (by kernel_rfl) (by kernel_rfl) (by kernel_rfl) (fun _ _ _ h => h) rfl (Lib.hid k1) (fun w _ => exec_pickF _ w) ?_
    refine held_take 24 27 (.bool false) rfl rfl (by kernel_rfl) (by kernel_rfl) (by kernel_rfl) (fun _ _ _ h => h) rfl (Lib.hid k1) (fun w _ => rfl) ?_
    refine held_skip 25 28 rfl rfl (by kernel_rfl) (by kernel_rfl) (by kernel_rfl) (fun _ _ _ h => h) rfl (Lib.hid k1) ?_
    simp only [Act.put, List.setIfInBounds_toArray, List.set_cons_zero, List.set_cons_succ]
    refine held_skip 26 29 rfl rfl (by kernel_rfl) (by kernel_rfl) (by kernel_rfl) (fun _ _ _ h => h) rfl (Lib.hid k1) ?_
    refine held_skip 27 30 rfl rfl (by kernel_rfl) (by kernel_rfl) (by kernel_rfl) (fun _ _ _ h => h) rfl (Lib.hid k1) ?_
    simp only [Act.put, List.setIfInBounds_toArray, List.set_cons_zero, List.set_cons_succ]
    refine held_take 28 31 (.bool false) rfl rfl (by kernel_rfl) (by kernel_rfl) (by kernel_rfl) (fun _ _ _ h => h) rfl (Lib.hid k1) (fun w _ => exec_pickF _ w) ?_
    refine held_take 29 32 (.bool false) rfl rfl (by kernel_rfl) (by kernel_rfl) (by kernel_rfl) (fun _ _ _ h => h) rfl (Lib.hid k1) (fun w _ => rfl) ?_
    refine held_skip 30 33 rfl rfl (by kernel_rfl) (by kernel_rfl) (by kernel_rfl) (fun _ _ _ h => h) rfl (Lib.hid k1) ?_
    simp only [Act.put, List.setIfInBounds_toArray, List.set_cons_zero, List.set_cons_succ]
    refine held_skip 31 34 rfl rfl (by kernel_rfl) (by kernel_rfl) (by kernel_rfl) (fun _ _ _ h => h) rfl (Lib.hid k1) ?_
    refine held_skip 32 35 rfl rfl (by kernel_rfl) (by kernel_rfl) (by kernel_rfl) (fun _ _ _ h => h) rfl (Lib.hid k1) ?_
    simp only [Act.put, List.setIfInBounds_toArray, List.set_cons_zero, List.set_cons_succ]
    refine held_take 33 36 (.bool false) rfl rfl (by kernel_rfl) (by kernel_rfl) (by kernel_rfl) (fun _ _ _ h => h) rfl (Lib.hid k1) (fun w _ => exec_pickF _ w) ?_
    simp only [Act.put, List.setIfInBounds_toArray, List.set_cons_zero, List.set_cons_succ]
    refine held_op 34 2 (.bool false) rfl rfl (by kernel_rfl) rfl rfl (Lib.hid k1) ?_
    simp only [Act.put, List.setIfInBounds_toArray, List.set_cons_zero, List.set_cons_succ]
    refine wpAnyH_done (by kernel_rfl) ?_ _
    go_wp2
    go_ret
    exact ⟨rfl, b0.out.trans (k1.mono b0.out.size)⟩
  have h3 := decide_eq_true t3
  by_cases t4 : -1 ≤ q.from_ ∧ q.from_ ≤ 9999
  rotate_left
  · skip
    have HF : Hid (decide q.right = false) := decide_eq_false (fun hr => t4 (have h := HI.out.1 hr; h.2.2.2.2.1))
    have h4 := decide_eq_false t4
    rw [HF.out]
    clear HF HI t0 t1 t2 t3 t4
    go_enter Try.func6, Try.ntmps6
    unfold rqA
    go_wp2
    try unfold rqA at KX
    refine wp_region_held_drew (S := fun w' => Hid (Below (w.alloc (.cells #[.int .i64 q.kind, .int .i64 q.id, .int .i64 q.cabin, .int .i64 q.from_, .int .i64 q.size, .int .i64 q.tier] 25)).heap.size (w.alloc (.cells #[.int .i64 q.kind, .int .i64 q.id, .int .i64 q.cabin, .int .i64 q.from_, .int .i64 q.size, .int .i64 q.tier] 25)) w')) (by kernel_rfl) (below_drawn (Below.refl _ _) 1) (fun hHeld => ?_)
    refine held_take 0 3 (.pointer (some ⟨w.heap.size, 0 + 0, none⟩)) rfl rfl (by kernel_rfl) (by kernel_rfl) (by kernel_rfl) (fun _ _ _ h => h) rfl hHeld (fun w _ => exec_fldRq _ 0 0 w (by omega)) ?_
    refine held_take 1 4 (.int .i64 q.kind) rfl rfl (by kernel_rfl) (by kernel_rfl) (by kernel_rfl) (fun _ _ _ h => h) rfl hHeld (fun u h => exec_load1 3 _ (0 + 0) _ u (.inl rfl) (KX.out u h.out).1) ?_
    simp only [Act.put, List.setIfInBounds_toArray, List.set_cons_zero, List.set_cons_succ]
    refine held_call 2 5 9 #[.int .i64 q.kind] rfl rfl (by kernel_rfl) rfl (exec_call Try.func9 (by kernel_rfl) (by kernel_rfl) _) ?_
    refine (kindOk_any q.kind _).mono ?_
    rintro e u ⟨he, hu⟩
    subst he hu
    rw [h0]
    refine ⟨_, rfl, (Lib.hid hHeld.out), ?_⟩
    simp only [Act.put, List.setIfInBounds_toArray, List.set_cons_zero, List.set_cons_succ]
    refine held_take 3 6 (.bool true) rfl rfl (by kernel_rfl) (by kernel_rfl) (by kernel_rfl) (fun _ _ _ h => h) rfl (Lib.hid hHeld.out) (fun w _ => rfl) ?_
    refine held_take 4 7 (rqA q) rfl rfl (by kernel_rfl) (by kernel_rfl) (by kernel_rfl) (fun _ _ _ h => h) rfl (Lib.hid hHeld.out) (fun u h => exec_load_rq _ 0 q u (KX.out u h.out)) ?_
    refine held_take 5 8 (rqA q) rfl rfl (by kernel_rfl) (by kernel_rfl) (by kernel_rfl) (fun _ _ _ h => h) rfl (Lib.hid hHeld.out) (fun u h => exec_load_rq _ 0 q u (KX.out u h.out)) ?_
    simp only [Act.put, List.setIfInBounds_toArray, List.set_cons_zero, List.set_cons_succ]
    refine held_call 6 9 10 #[rqA q] rfl rfl (by kernel_rfl) rfl (exec_call Try.func10 (by kernel_rfl) (by kernel_rfl) _) ?_
    refine (usedOf_im q _).mono ?_
    rintro e u1 ⟨he, b1⟩
    subst he
    have k1 := hHeld.out.trans (b1.mono hHeld.out.size)
    refine ⟨_, rfl, (Lib.hid k1), ?_⟩
    simp only [Act.put, List.setIfInBounds_toArray, List.set_cons_zero, List.set_cons_succ]
    refine held_take 7 10 (.bool true) rfl rfl (by kernel_rfl) (by kernel_rfl) (by kernel_rfl) (fun _ _ _ h => h) rfl (Lib.hid k1) (fun u _ => exec_eqlRq q q.used true u h1) ?_
    refine held_take 8 11 (.bool true) rfl rfl (by kernel_rfl) (by kernel_rfl) (by kernel_rfl) (fun _ _ _ h => h) rfl (Lib.hid k1) (fun w _ => exec_pickT _ w) ?_
    refine held_take 9 12 (.bool true) rfl rfl (by kernel_rfl) (by kernel_rfl) (by kernel_rfl) (fun _ _ _ h => h) rfl (Lib.hid k1) (fun w _ => rfl) ?_
    simp only [Act.put, List.setIfInBounds_toArray, List.set_cons_zero, List.set_cons_succ]
    refine held_take 10 13 (.pointer (some ⟨w.heap.size, 0 + 1, none⟩)) rfl rfl (by kernel_rfl) (by kernel_rfl) (by kernel_rfl) (fun _ _ _ h => h) rfl (Lib.hid k1) (fun w _ => exec_fldRq _ 0 1 w (by omega)) ?_
    refine held_take 11 14 (.int .i64 q.id) rfl rfl (by kernel_rfl) (by kernel_rfl) (by kernel_rfl) (fun _ _ _ h => h) rfl (Lib.hid k1) (fun u h => exec_load1 3 _ (0 + 1) _ u (.inl rfl) (KX.out u h.out).2.1) ?_
    simp only [Act.put, List.setIfInBounds_toArray, List.set_cons_zero, List.set_cons_succ]
    refine held_call 12 15 11 #[.int .i64 q.id, .int .i64 0, .int .i64 9999] rfl rfl (by kernel_rfl) rfl (exec_call Try.func11 (by kernel_rfl) (by kernel_rfl) _) ?_
    refine (within_any q.id 0 9999 _).mono ?_
    rintro e u2 ⟨he, hu⟩
    subst he hu
    rw [h2]
    refine ⟨_, rfl, (Lib.hid k1), ?_⟩
    simp only [Act.put, List.setIfInBounds_toArray, List.set_cons_zero, List.set_cons_succ]
    refine held_take 13 16 (.bool true) rfl rfl (by kernel_rfl) (by kernel_rfl) (by kernel_rfl) (fun _ _ _ h => h) rfl (Lib.hid k1) (fun w _ => exec_pickT _ w) ?_
    refine held_take 14 17 (.bool true) rfl rfl (by kernel_rfl) (by kernel_rfl) (by kernel_rfl) (fun _ _ _ h => h) rfl (Lib.hid k1) (fun w _ => rfl) ?_
    refine held_take 15 18 (.pointer (some ⟨w.heap.size, 0 + 2, none⟩)) rfl rfl (by kernel_rfl) (by kernel_rfl) (by kernel_rfl) (fun _ _ _ h => h) rfl (Lib.hid k1) (fun w _ => exec_fldRq _ 0 2 w (by omega)) ?_
    simp only [Act.put, List.setIfInBounds_toArray, List.set_cons_zero, List.set_cons_succ]
    refine held_take 16 19 (.int .i64 q.cabin) rfl rfl (by kernel_rfl) (by kernel_rfl) (by kernel_rfl) (fun _ _ _ h => h) rfl (Lib.hid k1) (fun u h => exec_load1 3 _ (0 + 2) _ u (.inl rfl) (KX.out u h.out).2.2.1) ?_
    simp only [Act.put, List.setIfInBounds_toArray, List.set_cons_zero, List.set_cons_succ]
    refine held_call 17 20 11 #[.int .i64 q.cabin, .int .i64 0, .int .i64 9999] rfl rfl (by kernel_rfl) rfl (exec_call Try.func11 (by kernel_rfl) (by kernel_rfl) _) ?_
    refine (within_any q.cabin 0 9999 _).mono ?_
    rintro e u2 ⟨he, hu⟩
    subst he hu
    rw [h3]
    refine ⟨_, rfl, (Lib.hid k1), ?_⟩
    simp only [Act.put, List.setIfInBounds_toArray, List.set_cons_zero, List.set_cons_succ]
    refine held_take 18 21 (.bool true) rfl rfl (by kernel_rfl) (by kernel_rfl) (by kernel_rfl) (fun _ _ _ h => h) rfl (Lib.hid k1) (fun w _ => exec_pickT _ w) ?_
    refine held_take 19 22 (.bool true) rfl rfl (by kernel_rfl) (by kernel_rfl) (by kernel_rfl) (fun _ _ _ h => h) rfl (Lib.hid k1) (fun w _ => rfl) ?_
    refine held_take 20 23 (.pointer (some ⟨w.heap.size, 0 + 3, none⟩)) rfl rfl (by kernel_rfl) (by kernel_rfl) (by kernel_rfl) (fun _ _ _ h => h) rfl (Lib.hid k1) (fun w _ => exec_fldRq _ 0 3 w (by omega)) ?_
    simp only [Act.put, List.setIfInBounds_toArray, List.set_cons_zero, List.set_cons_succ]
    refine held_take 21 24 (.int .i64 q.from_) rfl rfl (by kernel_rfl) (by kernel_rfl) (by kernel_rfl) (fun _ _ _ h => h) rfl (Lib.hid k1) (fun u h => exec_load1 3 _ (0 + 3) _ u (.inl rfl) (KX.out u h.out).2.2.2.1) ?_
    simp only [Act.put, List.setIfInBounds_toArray, List.set_cons_zero, List.set_cons_succ]
    refine held_call 22 25 11 #[.int .i64 q.from_, .int .i64 (-1), .int .i64 9999] rfl rfl (by kernel_rfl) rfl (exec_call Try.func11 (by kernel_rfl) (by kernel_rfl) _) ?_
    refine (within_any q.from_ (-1) 9999 _).mono ?_
    rintro e u2 ⟨he, hu⟩
    subst he hu
    rw [h4]
    refine ⟨_, rfl, (Lib.hid k1), ?_⟩
    simp only [Act.put, List.setIfInBounds_toArray, List.set_cons_zero, List.set_cons_succ]
    refine held_take 23 26 (.bool false) rfl rfl (by kernel_rfl) (by kernel_rfl) (by kernel_rfl) (fun _ _ _ h => h) rfl (Lib.hid k1) (fun w _ => exec_pickT _ w) ?_
    refine held_take 24 27 (.bool false) rfl rfl (by kernel_rfl) (by kernel_rfl) (by kernel_rfl) (fun _ _ _ h => h) rfl (Lib.hid k1) (fun w _ => rfl) ?_
    refine held_skip 25 28 rfl rfl (by kernel_rfl) (by kernel_rfl) (by kernel_rfl) (fun _ _ _ h => h) rfl (Lib.hid k1) ?_
    simp only [Act.put, List.setIfInBounds_toArray, List.set_cons_zero, List.set_cons_succ]
    refine held_skip 26 29 rfl rfl (by kernel_rfl) (by kernel_rfl) (by kernel_rfl) (fun _ _ _ h => h) rfl (Lib.hid k1) ?_
    refine held_skip 27 30 rfl rfl (by kernel_rfl) (by kernel_rfl) (by kernel_rfl) (fun _ _ _ h => h) rfl (Lib.hid k1) ?_
    simp only [Act.put, List.setIfInBounds_toArray, List.set_cons_zero, List.set_cons_succ]
    refine held_take 28 31 (.bool false) rfl rfl (by kernel_rfl) (by kernel_rfl) (by kernel_rfl) (fun _ _ _ h => h) rfl (Lib.hid k1) (fun w _ => exec_pickF _ w) ?_
    refine held_take 29 32 (.bool false) rfl rfl (by kernel_rfl) (by kernel_rfl) (by kernel_rfl) (fun _ _ _ h => h) rfl (Lib.hid k1) (fun w _ => rfl) ?_
    refine held_skip 30 33 rfl rfl (by kernel_rfl) (by kernel_rfl) (by kernel_rfl) (fun _ _ _ h => h) rfl (Lib.hid k1) ?_
    simp only [Act.put, List.setIfInBounds_toArray, List.set_cons_zero, List.set_cons_succ]
    refine held_skip 31 34 rfl rfl (by kernel_rfl) (by kernel_rfl) (by kernel_rfl) (fun _ _ _ h => h) rfl (Lib.hid k1) ?_
    refine held_skip 32 35 rfl rfl (by kernel_rfl) (by kernel_rfl) (by kernel_rfl) (fun _ _ _ h => h) rfl (Lib.hid k1) ?_
    simp only [Act.put, List.setIfInBounds_toArray, List.set_cons_zero, List.set_cons_succ]
    refine held_take 33 36 (.bool false) rfl rfl (by kernel_rfl) (by kernel_rfl) (by kernel_rfl) (fun _ _ _ h => h) rfl (Lib.hid k1) (fun w _ => exec_pickF _ w) ?_
    simp only [Act.put, List.setIfInBounds_toArray, List.set_cons_zero, List.set_cons_succ]
    refine held_op 34 2 (.bool false) rfl rfl (by kernel_rfl) rfl rfl (Lib.hid k1) ?_
    simp only [Act.put, List.setIfInBounds_toArray, List.set_cons_zero, List.set_cons_succ]
    refine wpAnyH_done (by kernel_rfl) ?_ _
    go_wp2
    go_ret
    exact ⟨rfl, b0.out.trans (k1.mono b0.out.size)⟩
  have h4 := decide_eq_true t4
  by_cases t5 : 0 ≤ q.size ∧ q.size ≤ 9999
  rotate_left
  · skip
    have HF : Hid (decide q.right = false) := decide_eq_false (fun hr => t5 (have h := HI.out.1 hr; h.2.2.2.2.2.1))
    have h5 := decide_eq_false t5
    rw [HF.out]
    clear HF HI t0 t1 t2 t3 t4 t5
    go_enter Try.func6, Try.ntmps6
    unfold rqA
    go_wp2
    try unfold rqA at KX
    refine wp_region_held_drew (S := fun w' => Hid (Below (w.alloc (.cells #[.int .i64 q.kind, .int .i64 q.id, .int .i64 q.cabin, .int .i64 q.from_, .int .i64 q.size, .int .i64 q.tier] 25)).heap.size (w.alloc (.cells #[.int .i64 q.kind, .int .i64 q.id, .int .i64 q.cabin, .int .i64 q.from_, .int .i64 q.size, .int .i64 q.tier] 25)) w')) (by kernel_rfl) (below_drawn (Below.refl _ _) 1) (fun hHeld => ?_)
    refine held_take 0 3 (.pointer (some ⟨w.heap.size, 0 + 0, none⟩)) rfl rfl (by kernel_rfl) (by kernel_rfl) (by kernel_rfl) (fun _ _ _ h => h) rfl hHeld (fun w _ => exec_fldRq _ 0 0 w (by omega)) ?_
    refine held_take 1 4 (.int .i64 q.kind) rfl rfl (by kernel_rfl) (by kernel_rfl) (by kernel_rfl) (fun _ _ _ h => h) rfl hHeld (fun u h => exec_load1 3 _ (0 + 0) _ u (.inl rfl) (KX.out u h.out).1) ?_
    simp only [Act.put, List.setIfInBounds_toArray, List.set_cons_zero, List.set_cons_succ]
    refine held_call 2 5 9 #[.int .i64 q.kind] rfl rfl (by kernel_rfl) rfl (exec_call Try.func9 (by kernel_rfl) (by kernel_rfl) _) ?_
    refine (kindOk_any q.kind _).mono ?_
    rintro e u ⟨he, hu⟩
    subst he hu
    rw [h0]
    refine ⟨_, rfl, (Lib.hid hHeld.out), ?_⟩
    simp only [Act.put, List.setIfInBounds_toArray, List.set_cons_zero, List.set_cons_succ]
    refine held_take 3 6 (.bool true) rfl rfl (by kernel_rfl) (by kernel_rfl) (by kernel_rfl) (fun _ _ _ h => h) rfl (Lib.hid hHeld.out) (fun w _ => rfl) ?_
    refine held_take 4 7 (rqA q) rfl rfl (by kernel_rfl) (by kernel_rfl) (by kernel_rfl) (fun _ _ _ h => h) rfl (Lib.hid hHeld.out) (fun u h => exec_load_rq _ 0 q u (KX.out u h.out)) ?_
    refine held_take 5 8 (rqA q) rfl rfl (by kernel_rfl) (by kernel_rfl) (by kernel_rfl) (fun _ _ _ h => h) rfl (Lib.hid hHeld.out) (fun u h => exec_load_rq _ 0 q u (KX.out u h.out)) ?_
    simp only [Act.put, List.setIfInBounds_toArray, List.set_cons_zero, List.set_cons_succ]
    refine held_call 6 9 10 #[rqA q] rfl rfl (by kernel_rfl) rfl (exec_call Try.func10 (by kernel_rfl) (by kernel_rfl) _) ?_
    refine (usedOf_im q _).mono ?_
    rintro e u1 ⟨he, b1⟩
    subst he
    have k1 := hHeld.out.trans (b1.mono hHeld.out.size)
    refine ⟨_, rfl, (Lib.hid k1), ?_⟩
    simp only [Act.put, List.setIfInBounds_toArray, List.set_cons_zero, List.set_cons_succ]
    refine held_take 7 10 (.bool true) rfl rfl (by kernel_rfl) (by kernel_rfl) (by kernel_rfl) (fun _ _ _ h => h) rfl (Lib.hid k1) (fun u _ => exec_eqlRq q q.used true u h1) ?_
    refine held_take 8 11 (.bool true) rfl rfl (by kernel_rfl) (by kernel_rfl) (by kernel_rfl) (fun _ _ _ h => h) rfl (Lib.hid k1) (fun w _ => exec_pickT _ w) ?_
    refine held_take 9 12 (.bool true) rfl rfl (by kernel_rfl) (by kernel_rfl) (by kernel_rfl) (fun _ _ _ h => h) rfl (Lib.hid k1) (fun w _ => rfl) ?_
    simp only [Act.put, List.setIfInBounds_toArray, List.set_cons_zero, List.set_cons_succ]
    refine held_take 10 13 (.pointer (some ⟨w.heap.size, 0 + 1, none⟩)) rfl rfl (by kernel_rfl) (by kernel_rfl) (by kernel_rfl) (fun _ _ _ h => h) rfl (Lib.hid k1) (fun w _ => exec_fldRq _ 0 1 w (by omega)) ?_
    refine held_take 11 14 (.int .i64 q.id) rfl rfl (by kernel_rfl) (by kernel_rfl) (by kernel_rfl) (fun _ _ _ h => h) rfl (Lib.hid k1) (fun u h => exec_load1 3 _ (0 + 1) _ u (.inl rfl) (KX.out u h.out).2.1) ?_
    simp only [Act.put, List.setIfInBounds_toArray, List.set_cons_zero, List.set_cons_succ]
    refine held_call 12 15 11 #[.int .i64 q.id, .int .i64 0, .int .i64 9999] rfl rfl (by kernel_rfl) rfl (exec_call Try.func11 (by kernel_rfl) (by kernel_rfl) _) ?_
    refine (within_any q.id 0 9999 _).mono ?_
    rintro e u2 ⟨he, hu⟩
    subst he hu
    rw [h2]
    refine ⟨_, rfl, (Lib.hid k1), ?_⟩
    simp only [Act.put, List.setIfInBounds_toArray, List.set_cons_zero, List.set_cons_succ]
    refine held_take 13 16 (.bool true) rfl rfl (by kernel_rfl) (by kernel_rfl) (by kernel_rfl) (fun _ _ _ h => h) rfl (Lib.hid k1) (fun w _ => exec_pickT _ w) ?_
    refine held_take 14 17 (.bool true) rfl rfl (by kernel_rfl) (by kernel_rfl) (by kernel_rfl) (fun _ _ _ h => h) rfl (Lib.hid k1) (fun w _ => rfl) ?_
    refine held_take 15 18 (.pointer (some ⟨w.heap.size, 0 + 2, none⟩)) rfl rfl (by kernel_rfl) (by kernel_rfl) (by kernel_rfl) (fun _ _ _ h => h) rfl (Lib.hid k1) (fun w _ => exec_fldRq _ 0 2 w (by omega)) ?_
    simp only [Act.put, List.setIfInBounds_toArray, List.set_cons_zero, List.set_cons_succ]
    refine held_take 16 19 (.int .i64 q.cabin) rfl rfl (by kernel_rfl) (by kernel_rfl) (by kernel_rfl) (fun _ _ _ h => h) rfl (Lib.hid k1) (fun u h => exec_load1 3 _ (0 + 2) _ u (.inl rfl) (KX.out u h.out).2.2.1) ?_
    simp only [Act.put, List.setIfInBounds_toArray, List.set_cons_zero, List.set_cons_succ]
    refine held_call 17 20 11 #[.int .i64 q.cabin, .int .i64 0, .int .i64 9999] rfl rfl (by kernel_rfl) rfl (exec_call Try.func11 (by kernel_rfl) (by kernel_rfl) _) ?_
    refine (within_any q.cabin 0 9999 _).mono ?_
    rintro e u2 ⟨he, hu⟩
    subst he hu
    rw [h3]
    refine ⟨_, rfl, (Lib.hid k1), ?_⟩
    simp only [Act.put, List.setIfInBounds_toArray, List.set_cons_zero, List.set_cons_succ]
    refine held_take 18 21 (.bool true) rfl rfl (by kernel_rfl) (by kernel_rfl) (by kernel_rfl) (fun _ _ _ h => h) rfl (Lib.hid k1) (fun w _ => exec_pickT _ w) ?_
    refine held_take 19 22 (.bool true) rfl rfl (by kernel_rfl) (by kernel_rfl) (by kernel_rfl) (fun _ _ _ h => h) rfl (Lib.hid k1) (fun w _ => rfl) ?_
    refine held_take 20 23 (.pointer (some ⟨w.heap.size, 0 + 3, none⟩)) rfl rfl (by kernel_rfl) (by kernel_rfl) (by kernel_rfl) (fun _ _ _ h => h) rfl (Lib.hid k1) (fun w _ => exec_fldRq _ 0 3 w (by omega)) ?_
    simp only [Act.put, List.setIfInBounds_toArray, List.set_cons_zero, List.set_cons_succ]
    refine held_take 21 24 (.int .i64 q.from_) rfl rfl (by kernel_rfl) (by kernel_rfl) (by kernel_rfl) (fun _ _ _ h => h) rfl (Lib.hid k1) (fun u h => exec_load1 3 _ (0 + 3) _ u (.inl rfl) (KX.out u h.out).2.2.2.1) ?_
    simp only [Act.put, List.setIfInBounds_toArray, List.set_cons_zero, List.set_cons_succ]
    refine held_call 22 25 11 #[.int .i64 q.from_, .int .i64 (-1), .int .i64 9999] rfl rfl (by kernel_rfl) rfl (exec_call Try.func11 (by kernel_rfl) (by kernel_rfl) _) ?_
    refine (within_any q.from_ (-1) 9999 _).mono ?_
    rintro e u2 ⟨he, hu⟩
    subst he hu
    rw [h4]
    refine ⟨_, rfl, (Lib.hid k1), ?_⟩
    simp only [Act.put, List.setIfInBounds_toArray, List.set_cons_zero, List.set_cons_succ]
    refine held_take 23 26 (.bool true) rfl rfl (by kernel_rfl) (by kernel_rfl) (by kernel_rfl) (fun _ _ _ h => h) rfl (Lib.hid k1) (fun w _ => exec_pickT _ w) ?_
    refine held_take 24 27 (.bool true) rfl rfl (by kernel_rfl) (by kernel_rfl) (by kernel_rfl) (fun _ _ _ h => h) rfl (Lib.hid k1) (fun w _ => rfl) ?_
    refine held_take 25 28 (.pointer (some ⟨w.heap.size, 0 + 4, none⟩)) rfl rfl (by kernel_rfl) (by kernel_rfl) (by kernel_rfl) (fun _ _ _ h => h) rfl (Lib.hid k1) (fun w _ => exec_fldRq _ 0 4 w (by omega)) ?_
    simp only [Act.put, List.setIfInBounds_toArray, List.set_cons_zero, List.set_cons_succ]
    refine held_take 26 29 (.int .i64 q.size) rfl rfl (by kernel_rfl) (by kernel_rfl) (by kernel_rfl) (fun _ _ _ h => h) rfl (Lib.hid k1) (fun u h => exec_load1 3 _ (0 + 4) _ u (.inl rfl) (KX.out u h.out).2.2.2.2.1) ?_
    simp only [Act.put, List.setIfInBounds_toArray, List.set_cons_zero, List.set_cons_succ]
    refine held_call 27 30 11 #[.int .i64 q.size, .int .i64 0, .int .i64 9999] rfl rfl (by kernel_rfl) rfl (exec_call Try.func11 (by kernel_rfl) (by kernel_rfl) _) ?_
    refine (within_any q.size 0 9999 _).mono ?_
    rintro e u2 ⟨he, hu⟩
    subst he hu
    rw [h5]
    refine ⟨_, rfl, (Lib.hid k1), ?_⟩
    simp only [Act.put, List.setIfInBounds_toArray, List.set_cons_zero, List.set_cons_succ]
    refine held_take 28 31 (.bool false) rfl rfl (by kernel_rfl) (by kernel_rfl) (by kernel_rfl) (fun _ _ _ h => h) rfl (Lib.hid k1) (fun w _ => exec_pickT _ w) ?_
    refine held_take 29 32 (.bool false) rfl rfl (by kernel_rfl) (by kernel_rfl) (by kernel_rfl) (fun _ _ _ h => h) rfl (Lib.hid k1) (fun w _ => rfl) ?_
    refine held_skip 30 33 rfl rfl (by kernel_rfl) (by kernel_rfl) (by kernel_rfl) (fun _ _ _ h => h) rfl (Lib.hid k1) ?_
    simp only [Act.put, List.setIfInBounds_toArray, List.set_cons_zero, List.set_cons_succ]
    refine held_skip 31 34 rfl rfl (by kernel_rfl) (by kernel_rfl) (by kernel_rfl) (fun _ _ _ h => h) rfl (Lib.hid k1) ?_
    refine held_skip 32 35 rfl rfl (by kernel_rfl) (by kernel_rfl) (by kernel_rfl) (fun _ _ _ h => h) rfl (Lib.hid k1) ?_
    simp only [Act.put, List.setIfInBounds_toArray, List.set_cons_zero, List.set_cons_succ]
    refine held_take 33 36 (.bool false) rfl rfl (by kernel_rfl) (by kernel_rfl) (by kernel_rfl) (fun _ _ _ h => h) rfl (Lib.hid k1) (fun w _ => exec_pickF _ w) ?_
    simp only [Act.put, List.setIfInBounds_toArray, List.set_cons_zero, List.set_cons_succ]
    refine held_op 34 2 (.bool false) rfl rfl (by kernel_rfl) rfl rfl (Lib.hid k1) ?_
    simp only [Act.put, List.setIfInBounds_toArray, List.set_cons_zero, List.set_cons_succ]
    refine wpAnyH_done (by kernel_rfl) ?_ _
    go_wp2
    go_ret
    exact ⟨rfl, b0.out.trans (k1.mono b0.out.size)⟩
  have h5 := decide_eq_true t5
  by_cases t6 : 0 ≤ q.tier ∧ q.tier ≤ 9999
  rotate_left
  · skip
    have HF : Hid (decide q.right = false) := decide_eq_false (fun hr => t6 (have h := HI.out.1 hr; h.2.2.2.2.2.2))
    have h6 := decide_eq_false t6
    rw [HF.out]
    clear HF HI t0 t1 t2 t3 t4 t5 t6
    go_enter Try.func6, Try.ntmps6
    unfold rqA
    go_wp2
    try unfold rqA at KX
    refine wp_region_held_drew (S := fun w' => Hid (Below (w.alloc (.cells #[.int .i64 q.kind, .int .i64 q.id, .int .i64 q.cabin, .int .i64 q.from_, .int .i64 q.size, .int .i64 q.tier] 25)).heap.size (w.alloc (.cells #[.int .i64 q.kind, .int .i64 q.id, .int .i64 q.cabin, .int .i64 q.from_, .int .i64 q.size, .int .i64 q.tier] 25)) w')) (by kernel_rfl) (below_drawn (Below.refl _ _) 1) (fun hHeld => ?_)
    refine held_take 0 3 (.pointer (some ⟨w.heap.size, 0 + 0, none⟩)) rfl rfl (by kernel_rfl) (by kernel_rfl) (by kernel_rfl) (fun _ _ _ h => h) rfl hHeld (fun w _ => exec_fldRq _ 0 0 w (by omega)) ?_
    refine held_take 1 4 (.int .i64 q.kind) rfl rfl (by kernel_rfl) (by kernel_rfl) (by kernel_rfl) (fun _ _ _ h => h) rfl hHeld (fun u h => exec_load1 3 _ (0 + 0) _ u (.inl rfl) (KX.out u h.out).1) ?_
    simp only [Act.put, List.setIfInBounds_toArray, List.set_cons_zero, List.set_cons_succ]
    refine held_call 2 5 9 #[.int .i64 q.kind] rfl rfl (by kernel_rfl) rfl (exec_call Try.func9 (by kernel_rfl) (by kernel_rfl) _) ?_
    refine (kindOk_any q.kind _).mono ?_
    rintro e u ⟨he, hu⟩
    subst he hu
    rw [h0]
    refine ⟨_, rfl, (Lib.hid hHeld.out), ?_⟩
    simp only [Act.put, List.setIfInBounds_toArray, List.set_cons_zero, List.set_cons_succ]
    refine held_take 3 6 (.bool true) rfl rfl (by kernel_rfl) (by kernel_rfl) (by kernel_rfl) (fun _ _ _ h => h) rfl (Lib.hid hHeld.out) (fun w _ => rfl) ?_
    refine held_take 4 7 (rqA q) rfl rfl (by kernel_rfl) (by kernel_rfl) (by kernel_rfl) (fun _ _ _ h => h) rfl (Lib.hid hHeld.out) (fun u h => exec_load_rq _ 0 q u (KX.out u h.out)) ?_
    refine held_take 5 8 (rqA q) rfl rfl (by kernel_rfl) (by kernel_rfl) (by kernel_rfl) (fun _ _ _ h => h) rfl (Lib.hid hHeld.out) (fun u h => exec_load_rq _ 0 q u (KX.out u h.out)) ?_
    simp only [Act.put, List.setIfInBounds_toArray, List.set_cons_zero, List.set_cons_succ]
    refine held_call 6 9 10 #[rqA q] rfl rfl (by kernel_rfl) rfl (exec_call Try.func10 (by kernel_rfl) (by kernel_rfl) _) ?_
    refine (usedOf_im q _).mono ?_
    rintro e u1 ⟨he, b1⟩
    subst he
    have k1 := hHeld.out.trans (b1.mono hHeld.out.size)
    refine ⟨_, rfl, (Lib.hid k1), ?_⟩
    simp only [Act.put, List.setIfInBounds_toArray, List.set_cons_zero, List.set_cons_succ]
    refine held_take 7 10 (.bool true) rfl rfl (by kernel_rfl) (by kernel_rfl) (by kernel_rfl) (fun _ _ _ h => h) rfl (Lib.hid k1) (fun u _ => exec_eqlRq q q.used true u h1) ?_
    refine held_take 8 11 (.bool true) rfl rfl (by kernel_rfl) (by kernel_rfl) (by kernel_rfl) (fun _ _ _ h => h) rfl (Lib.hid k1) (fun w _ => exec_pickT _ w) ?_
    refine held_take 9 12 (.bool true) rfl rfl (by kernel_rfl) (by kernel_rfl) (by kernel_rfl) (fun _ _ _ h => h) rfl (Lib.hid k1) (fun w _ => rfl) ?_
    simp only [Act.put, List.setIfInBounds_toArray, List.set_cons_zero, List.set_cons_succ]
    refine held_take 10 13 (.pointer (some ⟨w.heap.size, 0 + 1, none⟩)) rfl rfl (by kernel_rfl) (by kernel_rfl) (by kernel_rfl) (fun _ _ _ h => h) rfl (Lib.hid k1) (fun w _ => exec_fldRq _ 0 1 w (by omega)) ?_
    refine held_take 11 14 (.int .i64 q.id) rfl rfl (by kernel_rfl) (by kernel_rfl) (by kernel_rfl) (fun _ _ _ h => h) rfl (Lib.hid k1) (fun u h => exec_load1 3 _ (0 + 1) _ u (.inl rfl) (KX.out u h.out).2.1) ?_
    simp only [Act.put, List.setIfInBounds_toArray, List.set_cons_zero, List.set_cons_succ]
    refine held_call 12 15 11 #[.int .i64 q.id, .int .i64 0, .int .i64 9999] rfl rfl (by kernel_rfl) rfl (exec_call Try.func11 (by kernel_rfl) (by kernel_rfl) _) ?_
    refine (within_any q.id 0 9999 _).mono ?_
    rintro e u2 ⟨he, hu⟩
    subst he hu
    rw [h2]
    refine ⟨_, rfl, (Lib.hid k1), ?_⟩
    simp only [Act.put, List.setIfInBounds_toArray, List.set_cons_zero, List.set_cons_succ]
    refine held_take 13 16 (.bool true) rfl rfl (by kernel_rfl) (by kernel_rfl) (by kernel_rfl) (fun _ _ _ h => h) rfl (Lib.hid k1) (fun w _ => exec_pickT _ w) ?_
    refine held_take 14 17 (.bool true) rfl rfl (by kernel_rfl) (by kernel_rfl) (by kernel_rfl) (fun _ _ _ h => h) rfl (Lib.hid k1) (fun w _ => rfl) ?_
    refine held_take 15 18 (.pointer (some ⟨w.heap.size, 0 + 2, none⟩)) rfl rfl (by kernel_rfl) (by kernel_rfl) (by kernel_rfl) (fun _ _ _ h => h) rfl (Lib.hid k1) (fun w _ => exec_fldRq _ 0 2 w (by omega)) ?_
    simp only [Act.put, List.setIfInBounds_toArray, List.set_cons_zero, List.set_cons_succ]
    refine held_take 16 19 (.int .i64 q.cabin) rfl rfl (by kernel_rfl) (by kernel_rfl) (by kernel_rfl) (fun _ _ _ h => h) rfl (Lib.hid k1) (fun u h => exec_load1 3 _ (0 + 2) _ u (.inl rfl) (KX.out u h.out).2.2.1) ?_
    simp only [Act.put, List.setIfInBounds_toArray, List.set_cons_zero, List.set_cons_succ]
    refine held_call 17 20 11 #[.int .i64 q.cabin, .int .i64 0, .int .i64 9999] rfl rfl (by kernel_rfl) rfl (exec_call Try.func11 (by kernel_rfl) (by kernel_rfl) _) ?_
    refine (within_any q.cabin 0 9999 _).mono ?_
    rintro e u2 ⟨he, hu⟩
    subst he hu
    rw [h3]
    refine ⟨_, rfl, (Lib.hid k1), ?_⟩
    simp only [Act.put, List.setIfInBounds_toArray, List.set_cons_zero, List.set_cons_succ]
    refine held_take 18 21 (.bool true) rfl rfl (by kernel_rfl) (by kernel_rfl) (by kernel_rfl) (fun _ _ _ h => h) rfl (Lib.hid k1) (fun w _ => exec_pickT _ w) ?_
    refine held_take 19 22 (.bool true) rfl rfl (by kernel_rfl) (by kernel_rfl) (by kernel_rfl) (fun _ _ _ h => h) rfl (Lib.hid k1) (fun w _ => rfl) ?_
    refine held_take 20 23 (.pointer (some ⟨w.heap.size, 0 + 3, none⟩)) rfl rfl (by kernel_rfl) (by kernel_rfl) (by kernel_rfl) (fun _ _ _ h => h) rfl (Lib.hid k1) (fun w _ => exec_fldRq _ 0 3 w (by omega)) ?_
    simp only [Act.put, List.setIfInBounds_toArray, List.set_cons_zero, List.set_cons_succ]
    refine held_take 21 24 (.int .i64 q.from_) rfl rfl (by kernel_rfl) (by kernel_rfl) (by kernel_rfl) (fun _ _ _ h => h) rfl (Lib.hid k1) (fun u h => exec_load1 3 _ (0 + 3) _ u (.inl rfl) (KX.out u h.out).2.2.2.1) ?_
    simp only [Act.put, List.setIfInBounds_toArray, List.set_cons_zero, List.set_cons_succ]
    refine held_call 22 25 11 #[.int .i64 q.from_, .int .i64 (-1), .int .i64 9999] rfl rfl (by kernel_rfl) rfl (exec_call Try.func11 (by kernel_rfl) (by kernel_rfl) _) ?_
    refine (within_any q.from_ (-1) 9999 _).mono ?_
    rintro e u2 ⟨he, hu⟩
    subst he hu
    rw [h4]
    refine ⟨_, rfl, (Lib.hid k1), ?_⟩
    simp only [Act.put, List.setIfInBounds_toArray, List.set_cons_zero, List.set_cons_succ]
    refine held_take 23 26 (.bool true) rfl rfl (by kernel_rfl) (by kernel_rfl) (by kernel_rfl) (fun _ _ _ h => h) rfl (Lib.hid k1) (fun w _ => exec_pickT _ w) ?_
    refine held_take 24 27 (.bool true) rfl rfl (by kernel_rfl) (by kernel_rfl) (by kernel_rfl) (fun _ _ _ h => h) rfl (Lib.hid k1) (fun w _ => rfl) ?_
    refine held_take 25 28 (.pointer (some ⟨w.heap.size, 0 + 4, none⟩)) rfl rfl (by kernel_rfl) (by kernel_rfl) (by kernel_rfl) (fun _ _ _ h => h) rfl (Lib.hid k1) (fun w _ => exec_fldRq _ 0 4 w (by omega)) ?_
    simp only [Act.put, List.setIfInBounds_toArray, List.set_cons_zero, List.set_cons_succ]
    refine held_take 26 29 (.int .i64 q.size) rfl rfl (by kernel_rfl) (by kernel_rfl) (by kernel_rfl) (fun _ _ _ h => h) rfl (Lib.hid k1) (fun u h => exec_load1 3 _ (0 + 4) _ u (.inl rfl) (KX.out u h.out).2.2.2.2.1) ?_
    simp only [Act.put, List.setIfInBounds_toArray, List.set_cons_zero, List.set_cons_succ]
    refine held_call 27 30 11 #[.int .i64 q.size, .int .i64 0, .int .i64 9999] rfl rfl (by kernel_rfl) rfl (exec_call Try.func11 (by kernel_rfl) (by kernel_rfl) _) ?_
    refine (within_any q.size 0 9999 _).mono ?_
    rintro e u2 ⟨he, hu⟩
    subst he hu
    rw [h5]
    refine ⟨_, rfl, (Lib.hid k1), ?_⟩
    simp only [Act.put, List.setIfInBounds_toArray, List.set_cons_zero, List.set_cons_succ]
    refine held_take 28 31 (.bool true) rfl rfl (by kernel_rfl) (by kernel_rfl) (by kernel_rfl) (fun _ _ _ h => h) rfl (Lib.hid k1) (fun w _ => exec_pickT _ w) ?_
    refine held_take 29 32 (.bool true) rfl rfl (by kernel_rfl) (by kernel_rfl) (by kernel_rfl) (fun _ _ _ h => h) rfl (Lib.hid k1) (fun w _ => rfl) ?_
    refine held_take 30 33 (.pointer (some ⟨w.heap.size, 0 + 5, none⟩)) rfl rfl (by kernel_rfl) (by kernel_rfl) (by kernel_rfl) (fun _ _ _ h => h) rfl (Lib.hid k1) (fun w _ => exec_fldRq _ 0 5 w (by omega)) ?_
    simp only [Act.put, List.setIfInBounds_toArray, List.set_cons_zero, List.set_cons_succ]
    refine held_take 31 34 (.int .i64 q.tier) rfl rfl (by kernel_rfl) (by kernel_rfl) (by kernel_rfl) (fun _ _ _ h => h) rfl (Lib.hid k1) (fun u h => exec_load1 3 _ (0 + 5) _ u (.inl rfl) (KX.out u h.out).2.2.2.2.2) ?_
    simp only [Act.put, List.setIfInBounds_toArray, List.set_cons_zero, List.set_cons_succ]
    refine held_call 32 35 11 #[.int .i64 q.tier, .int .i64 0, .int .i64 9999] rfl rfl (by kernel_rfl) rfl (exec_call Try.func11 (by kernel_rfl) (by kernel_rfl) _) ?_
    refine (within_any q.tier 0 9999 _).mono ?_
    rintro e u2 ⟨he, hu⟩
    subst he hu
    rw [h6]
    refine ⟨_, rfl, (Lib.hid k1), ?_⟩
    simp only [Act.put, List.setIfInBounds_toArray, List.set_cons_zero, List.set_cons_succ]
    refine held_take 33 36 (.bool false) rfl rfl (by kernel_rfl) (by kernel_rfl) (by kernel_rfl) (fun _ _ _ h => h) rfl (Lib.hid k1) (fun w _ => exec_pickT _ w) ?_
    simp only [Act.put, List.setIfInBounds_toArray, List.set_cons_zero, List.set_cons_succ]
    refine held_op 34 2 (.bool false) rfl rfl (by kernel_rfl) rfl rfl (Lib.hid k1) ?_
    simp only [Act.put, List.setIfInBounds_toArray, List.set_cons_zero, List.set_cons_succ]
    refine wpAnyH_done (by kernel_rfl) ?_ _
    go_wp2
    go_ret
    exact ⟨rfl, b0.out.trans (k1.mono b0.out.size)⟩
  have h6 := decide_eq_true t6
  have HF : Hid (decide q.right = true) := decide_eq_true (HI.out.2 ⟨t0, t1, t2, t3, t4, t5, t6⟩)
  rw [HF.out]
  clear HF HI t0 t1 t2 t3 t4 t5 t6
  go_enter Try.func6, Try.ntmps6
  unfold rqA
  go_wp2
  try unfold rqA at KX
  refine wp_region_held_drew (S := fun w' => Hid (Below (w.alloc (.cells #[.int .i64 q.kind, .int .i64 q.id, .int .i64 q.cabin, .int .i64 q.from_, .int .i64 q.size, .int .i64 q.tier] 25)).heap.size (w.alloc (.cells #[.int .i64 q.kind, .int .i64 q.id, .int .i64 q.cabin, .int .i64 q.from_, .int .i64 q.size, .int .i64 q.tier] 25)) w')) (by kernel_rfl) (below_drawn (Below.refl _ _) 1) (fun hHeld => ?_)
  refine held_take 0 3 (.pointer (some ⟨w.heap.size, 0 + 0, none⟩)) rfl rfl (by kernel_rfl) (by kernel_rfl) (by kernel_rfl) (fun _ _ _ h => h) rfl hHeld (fun w _ => exec_fldRq _ 0 0 w (by omega)) ?_
  refine held_take 1 4 (.int .i64 q.kind) rfl rfl (by kernel_rfl) (by kernel_rfl) (by kernel_rfl) (fun _ _ _ h => h) rfl hHeld (fun u h => exec_load1 3 _ (0 + 0) _ u (.inl rfl) (KX.out u h.out).1) ?_
  simp only [Act.put, List.setIfInBounds_toArray, List.set_cons_zero, List.set_cons_succ]
  refine held_call 2 5 9 #[.int .i64 q.kind] rfl rfl (by kernel_rfl) rfl (exec_call Try.func9 (by kernel_rfl) (by kernel_rfl) _) ?_
  refine (kindOk_any q.kind _).mono ?_
  rintro e u ⟨he, hu⟩
  subst he hu
  rw [h0]
  refine ⟨_, rfl, (Lib.hid hHeld.out), ?_⟩
  simp only [Act.put, List.setIfInBounds_toArray, List.set_cons_zero, List.set_cons_succ]
  refine held_take 3 6 (.bool true) rfl rfl (by kernel_rfl) (by kernel_rfl) (by kernel_rfl) (fun _ _ _ h => h) rfl (Lib.hid hHeld.out) (fun w _ => rfl) ?_
  refine held_take 4 7 (rqA q) rfl rfl (by kernel_rfl) (by kernel_rfl) (by kernel_rfl) (fun _ _ _ h => h) rfl (Lib.hid hHeld.out) (fun u h => exec_load_rq _ 0 q u (KX.out u h.out)) ?_
  refine held_take 5 8 (rqA q) rfl rfl (by kernel_rfl) (by kernel_rfl) (by kernel_rfl) (fun _ _ _ h => h) rfl (Lib.hid hHeld.out) (fun u h => exec_load_rq _ 0 q u (KX.out u h.out)) ?_
  simp only [Act.put, List.setIfInBounds_toArray, List.set_cons_zero, List.set_cons_succ]
  refine held_call 6 9 10 #[rqA q] rfl rfl (by kernel_rfl) rfl (exec_call Try.func10 (by kernel_rfl) (by kernel_rfl) _) ?_
  refine (usedOf_im q _).mono ?_
  rintro e u1 ⟨he, b1⟩
  subst he
  have k1 := hHeld.out.trans (b1.mono hHeld.out.size)
  refine ⟨_, rfl, (Lib.hid k1), ?_⟩
  simp only [Act.put, List.setIfInBounds_toArray, List.set_cons_zero, List.set_cons_succ]
  refine held_take 7 10 (.bool true) rfl rfl (by kernel_rfl) (by kernel_rfl) (by kernel_rfl) (fun _ _ _ h => h) rfl (Lib.hid k1) (fun u _ => exec_eqlRq q q.used true u h1) ?_
  refine held_take 8 11 (.bool true) rfl rfl (by kernel_rfl) (by kernel_rfl) (by kernel_rfl) (fun _ _ _ h => h) rfl (Lib.hid k1) (fun w _ => exec_pickT _ w) ?_
  refine held_take 9 12 (.bool true) rfl rfl (by kernel_rfl) (by kernel_rfl) (by kernel_rfl) (fun _ _ _ h => h) rfl (Lib.hid k1) (fun w _ => rfl) ?_
  simp only [Act.put, List.setIfInBounds_toArray, List.set_cons_zero, List.set_cons_succ]
  refine held_take 10 13 (.pointer (some ⟨w.heap.size, 0 + 1, none⟩)) rfl rfl (by kernel_rfl) (by kernel_rfl) (by kernel_rfl) (fun _ _ _ h => h) rfl (Lib.hid k1) (fun w _ => exec_fldRq _ 0 1 w (by omega)) ?_
  refine held_take 11 14 (.int .i64 q.id) rfl rfl (by kernel_rfl) (by kernel_rfl) (by kernel_rfl) (fun _ _ _ h => h) rfl (Lib.hid k1) (fun u h => exec_load1 3 _ (0 + 1) _ u (.inl rfl) (KX.out u h.out).2.1) ?_
  simp only [Act.put, List.setIfInBounds_toArray, List.set_cons_zero, List.set_cons_succ]
  refine held_call 12 15 11 #[.int .i64 q.id, .int .i64 0, .int .i64 9999] rfl rfl (by kernel_rfl) rfl (exec_call Try.func11 (by kernel_rfl) (by kernel_rfl) _) ?_
  refine (within_any q.id 0 9999 _).mono ?_
  rintro e u2 ⟨he, hu⟩
  subst he hu
  rw [h2]
  refine ⟨_, rfl, (Lib.hid k1), ?_⟩
  simp only [Act.put, List.setIfInBounds_toArray, List.set_cons_zero, List.set_cons_succ]
  refine held_take 13 16 (.bool true) rfl rfl (by kernel_rfl) (by kernel_rfl) (by kernel_rfl) (fun _ _ _ h => h) rfl (Lib.hid k1) (fun w _ => exec_pickT _ w) ?_
  refine held_take 14 17 (.bool true) rfl rfl (by kernel_rfl) (by kernel_rfl) (by kernel_rfl) (fun _ _ _ h => h) rfl (Lib.hid k1) (fun w _ => rfl) ?_
  refine held_take 15 18 (.pointer (some ⟨w.heap.size, 0 + 2, none⟩)) rfl rfl (by kernel_rfl) (by kernel_rfl) (by kernel_rfl) (fun _ _ _ h => h) rfl (Lib.hid k1) (fun w _ => exec_fldRq _ 0 2 w (by omega)) ?_
  simp only [Act.put, List.setIfInBounds_toArray, List.set_cons_zero, List.set_cons_succ]
  refine held_take 16 19 (.int .i64 q.cabin) rfl rfl (by kernel_rfl) (by kernel_rfl) (by kernel_rfl) (fun _ _ _ h => h) rfl (Lib.hid k1) (fun u h => exec_load1 3 _ (0 + 2) _ u (.inl rfl) (KX.out u h.out).2.2.1) ?_
  simp only [Act.put, List.setIfInBounds_toArray, List.set_cons_zero, List.set_cons_succ]
  refine held_call 17 20 11 #[.int .i64 q.cabin, .int .i64 0, .int .i64 9999] rfl rfl (by kernel_rfl) rfl (exec_call Try.func11 (by kernel_rfl) (by kernel_rfl) _) ?_
  refine (within_any q.cabin 0 9999 _).mono ?_
  rintro e u2 ⟨he, hu⟩
  subst he hu
  rw [h3]
  refine ⟨_, rfl, (Lib.hid k1), ?_⟩
  simp only [Act.put, List.setIfInBounds_toArray, List.set_cons_zero, List.set_cons_succ]
  refine held_take 18 21 (.bool true) rfl rfl (by kernel_rfl) (by kernel_rfl) (by kernel_rfl) (fun _ _ _ h => h) rfl (Lib.hid k1) (fun w _ => exec_pickT _ w) ?_
  refine held_take 19 22 (.bool true) rfl rfl (by kernel_rfl) (by kernel_rfl) (by kernel_rfl) (fun _ _ _ h => h) rfl (Lib.hid k1) (fun w _ => rfl) ?_
  refine held_take 20 23 (.pointer (some ⟨w.heap.size, 0 + 3, none⟩)) rfl rfl (by kernel_rfl) (by kernel_rfl) (by kernel_rfl) (fun _ _ _ h => h) rfl (Lib.hid k1) (fun w _ => exec_fldRq _ 0 3 w (by omega)) ?_
  simp only [Act.put, List.setIfInBounds_toArray, List.set_cons_zero, List.set_cons_succ]
  refine held_take 21 24 (.int .i64 q.from_) rfl rfl (by kernel_rfl) (by kernel_rfl) (by kernel_rfl) (fun _ _ _ h => h) rfl (Lib.hid k1) (fun u h => exec_load1 3 _ (0 + 3) _ u (.inl rfl) (KX.out u h.out).2.2.2.1) ?_
  simp only [Act.put, List.setIfInBounds_toArray, List.set_cons_zero, List.set_cons_succ]
  refine held_call 22 25 11 #[.int .i64 q.from_, .int .i64 (-1), .int .i64 9999] rfl rfl (by kernel_rfl) rfl (exec_call Try.func11 (by kernel_rfl) (by kernel_rfl) _) ?_
  refine (within_any q.from_ (-1) 9999 _).mono ?_
  rintro e u2 ⟨he, hu⟩
  subst he hu
  rw [h4]
  refine ⟨_, rfl, (Lib.hid k1), ?_⟩
  simp only [Act.put, List.setIfInBounds_toArray, List.set_cons_zero, List.set_cons_succ]
  refine held_take 23 26 (.bool true) rfl rfl (by kernel_rfl) (by kernel_rfl) (by kernel_rfl) (fun _ _ _ h => h) rfl (Lib.hid k1) (fun w _ => exec_pickT _ w) ?_
  refine held_take 24 27 (.bool true) rfl rfl (by kernel_rfl) (by kernel_rfl) (by kernel_rfl) (fun _ _ _ h => h) rfl (Lib.hid k1) (fun w _ => rfl) ?_
  refine held_take 25 28 (.pointer (some ⟨w.heap.size, 0 + 4, none⟩)) rfl rfl (by kernel_rfl) (by kernel_rfl) (by kernel_rfl) (fun _ _ _ h => h) rfl (Lib.hid k1) (fun w _ => exec_fldRq _ 0 4 w (by omega)) ?_
  simp only [Act.put, List.setIfInBounds_toArray, List.set_cons_zero, List.set_cons_succ]
  refine held_take 26 29 (.int .i64 q.size) rfl rfl (by kernel_rfl) (by kernel_rfl) (by kernel_rfl) (fun _ _ _ h => h) rfl (Lib.hid k1) (fun u h => exec_load1 3 _ (0 + 4) _ u (.inl rfl) (KX.out u h.out).2.2.2.2.1) ?_
  simp only [Act.put, List.setIfInBounds_toArray, List.set_cons_zero, List.set_cons_succ]
  refine held_call 27 30 11 #[.int .i64 q.size, .int .i64 0, .int .i64 9999] rfl rfl (by kernel_rfl) rfl (exec_call Try.func11 (by kernel_rfl) (by kernel_rfl) _) ?_
  refine (within_any q.size 0 9999 _).mono ?_
  rintro e u2 ⟨he, hu⟩
  subst he hu
  rw [h5]
  refine ⟨_, rfl, (Lib.hid k1), ?_⟩
  simp only [Act.put, List.setIfInBounds_toArray, List.set_cons_zero, List.set_cons_succ]
  refine held_take 28 31 (.bool true) rfl rfl (by kernel_rfl) (by kernel_rfl) (by kernel_rfl) (fun _ _ _ h => h) rfl (Lib.hid k1) (fun w _ => exec_pickT _ w) ?_
  refine held_take 29 32 (.bool true) rfl rfl (by kernel_rfl) (by kernel_rfl) (by kernel_rfl) (fun _ _ _ h => h) rfl (Lib.hid k1) (fun w _ => rfl) ?_
  refine held_take 30 33 (.pointer (some ⟨w.heap.size, 0 + 5, none⟩)) rfl rfl (by kernel_rfl) (by kernel_rfl) (by kernel_rfl) (fun _ _ _ h => h) rfl (Lib.hid k1) (fun w _ => exec_fldRq _ 0 5 w (by omega)) ?_
  simp only [Act.put, List.setIfInBounds_toArray, List.set_cons_zero, List.set_cons_succ]
  refine held_take 31 34 (.int .i64 q.tier) rfl rfl (by kernel_rfl) (by kernel_rfl) (by kernel_rfl) (fun _ _ _ h => h) rfl (Lib.hid k1) (fun u h => exec_load1 3 _ (0 + 5) _ u (.inl rfl) (KX.out u h.out).2.2.2.2.2) ?_
  simp only [Act.put, List.setIfInBounds_toArray, List.set_cons_zero, List.set_cons_succ]
  refine held_call 32 35 11 #[.int .i64 q.tier, .int .i64 0, .int .i64 9999] rfl rfl (by kernel_rfl) rfl (exec_call Try.func11 (by kernel_rfl) (by kernel_rfl) _) ?_
  refine (within_any q.tier 0 9999 _).mono ?_
  rintro e u2 ⟨he, hu⟩
  subst he hu
  rw [h6]
  refine ⟨_, rfl, (Lib.hid k1), ?_⟩
  simp only [Act.put, List.setIfInBounds_toArray, List.set_cons_zero, List.set_cons_succ]
  refine held_take 33 36 (.bool true) rfl rfl (by kernel_rfl) (by kernel_rfl) (by kernel_rfl) (fun _ _ _ h => h) rfl (Lib.hid k1) (fun w _ => exec_pickT _ w) ?_
  simp only [Act.put, List.setIfInBounds_toArray, List.set_cons_zero, List.set_cons_succ]
  refine held_op 34 2 (.bool true) rfl rfl (by kernel_rfl) rfl rfl (Lib.hid k1) ?_
  simp only [Act.put, List.setIfInBounds_toArray, List.set_cons_zero, List.set_cons_succ]
  refine wpAnyH_done (by kernel_rfl) ?_ _
  go_wp2
  go_ret
  exact ⟨rfl, b0.out.trans (k1.mono b0.out.size)⟩
set_option maxRecDepth 100000 in
theorem toReq_any (q : Rq) (w : World) : Calls Try.prog 5 #[rqA q] w fun e w' => e = .returned (rqA q) ∧ Below w.heap.size w w' := by
  obtain ⟨kind, id, cabin, from_, size, tier⟩ := q
  unfold rqA
  go_enter Try.func5, Try.ntmps5
  go_wp2
  simp [bodyPost, results, Try.results5, go_sem]
  exact (((Below.refl _ _).alloc (Nat.le_refl _) _).alloc (by simp) _).alloc (by simp; omega) _
set_option maxRecDepth 100000 in
theorem FnExactReqOk_walk (q : Rq) (w : World) : Calls Try.prog 3 #[rqA q] w fun e w' => e = .returned (.bool true) ∧ Below w.heap.size w w' := by
  have C1 := Lib.hid (fun u => toReq_any q u)
  have C2 := Lib.hid (fun u => reqOk_sp q u)
  have C3 := Lib.hid (fun u => reqOk_im q u)
  generalize decide q.right = d at C2 C3
  have BX := fun (w' : World) (hb : Below (w.alloc (.cells #[.int .i64 q.kind, .int .i64 q.id, .int .i64 q.cabin, .int .i64 q.from_, .int .i64 q.size, .int .i64 q.tier] 23)).heap.size (w.alloc (.cells #[.int .i64 q.kind, .int .i64 q.id, .int .i64 q.cabin, .int .i64 q.from_, .int .i64 q.size, .int .i64 q.tier] 23)) w') => Rq.here.below (Rq.here.box q _) hb (by simp)
  have BX := Lib.hid BX
  unfold rqA at C1 C2 C3 ⊢
  obtain ⟨kind, id, cabin, from_, size, tier⟩ := q
  go_enter Try.func3, Try.ntmps3
  go_wp2_with fail
  refine (C1.out _).mono ?_
  rintro e w1 ⟨rfl, b1⟩
  go_wp2_with fail
  refine (C2.out _).mono ?_
  rintro e w2 ⟨rfl, b2⟩
  have k2 := b1.trans (b2.mono b1.size)
  obtain ⟨c0, c1, c2, c3, c4, c5⟩ := BX.out w2 k2
  go_wp2_with fail
  refine (C1.out _).mono ?_
  rintro e w3 ⟨rfl, b3⟩
  go_wp2_with fail
  refine (C3.out _).mono ?_
  rintro e w4 ⟨rfl, b4⟩
  have k4 := (k2.trans (b3.mono k2.size)).trans (b4.mono (k2.trans (b3.mono k2.size)).size)
  have kk := Lib.hid (boxB w w4 _ k4)
  clear c0 c1 c2 c3 c4 c5 b1 b2 b3 b4 k2 k4
  cases d
  all_goals
    go_wp2
    go_ret
    exact ⟨rfl, kk.out⟩
end Go.Proofs.Ytjoihjfpdjbcpaa
