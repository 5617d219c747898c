/- ReqOk of the model. -/
import Derived.Test.YtjoihjfpdjbcpaaRows
import Derived.Test.YtjoihjfpdjbcpaaRqA
namespace Go.Proofs.Ytjoihjfpdjbcpaa
open Go.RowKit
set_option linter.unusedSimpArgs false
set_option linter.unusedVariables false
set_option maxRecDepth 100000 in
theorem f12_yes (x : Int) (w : World) (h : 0 ≤ x ∧ x ≤ 9999) : Calls Try.prog 7 #[.int .i64 x] w fun e w' => e = .returned (.bool true) ∧ w = w' := by
  go_enter Try.func7, Try.ntmps7
  go_wp2_with (go_at_call 8; (refine (l1In_yes _ _ _ _ (by omega)).mono ?_; rintro e w' ⟨rfl, rfl⟩))
  go_ret
  exact ⟨rfl, rfl⟩
set_option maxRecDepth 100000 in
theorem f12_no (x : Int) (w : World) (h : ¬ (0 ≤ x ∧ x ≤ 9999)) : Calls Try.prog 7 #[.int .i64 x] w fun e w' => e = .returned (.bool false) ∧ w = w' := by
  go_enter Try.func7, Try.ntmps7
  go_wp2_with (go_at_call 8; (refine (l1In_no _ _ _ _ (by omega)).mono ?_; rintro e w' ⟨rfl, rfl⟩))
  go_ret
  exact ⟨rfl, rfl⟩
/-- A request of a right form. -/
def Rq.right (q : Rq) : Prop :=
  (q.kind = 1 ∧ (0 ≤ q.id ∧ q.id ≤ 9999) ∧ (0 ≤ q.cabin ∧ q.cabin ≤ 9999) ∧ (-1 ≤ q.from_ ∧ q.from_ ≤ 9999) ∧ (0 ≤ q.size ∧ q.size ≤ 9999) ∧ (0 ≤ q.tier ∧ q.tier ≤ 9999)) ∨
  ((q.kind = 2 ∨ q.kind = 4 ∨ q.kind = 5 ∨ q.kind = 7) ∧ (0 ≤ q.id ∧ q.id ≤ 9999) ∧ q.cabin = 0 ∧ q.from_ = 0 ∧ q.size = 0 ∧ q.tier = 0) ∨
  (q.kind = 3 ∧ (0 ≤ q.cabin ∧ q.cabin ≤ 9999) ∧ (0 ≤ q.size ∧ q.size ≤ 9999) ∧ q.id = 0 ∧ q.from_ = 0 ∧ q.tier = 0) ∨
  (q.kind = 6 ∧ q.id = 0 ∧ q.cabin = 0 ∧ q.from_ = 0 ∧ q.size = 0 ∧ q.tier = 0)
instance (q : Rq) : Decidable q.right := by unfold Rq.right; infer_instance
set_option maxRecDepth 100000 in
set_option maxHeartbeats 6400000 in
theorem reqOk_sp (q : Rq) (w : World) : Calls Try.prog 4 #[rqA q] w fun e w' => e = .returned (.bool (decide q.right)) ∧ Below w.heap.size w w' := by
  obtain ⟨kind, id, cabin, from_, size, tier⟩ := q
  unfold rqA
  simp only
  have b0 : Hid (Below w.heap.size w (w.alloc (.cells #[.int .i64 kind, .int .i64 id, .int .i64 cabin, .int .i64 from_, .int .i64 size, .int .i64 tier] 25))) := (Below.refl _ _).alloc (Nat.le_refl _) _
  by_cases K : 1 ≤ kind ∧ kind ≤ 7
  rotate_left
  · skip
    have HF : Hid (decide (Rq.right ⟨kind, id, cabin, from_, size, tier⟩) = false) := decide_eq_false (by unfold Rq.right; simp only; omega)
    have e1 : (kind == 1) = false := by simp; omega
    have e2 : (kind == 2) = false := by simp; omega
    have e3 : (kind == 3) = false := by simp; omega
    have e4 : (kind == 4) = false := by simp; omega
    have e5 : (kind == 5) = false := by simp; omega
    have e6 : (kind == 6) = false := by simp; omega
    have e7 : (kind == 7) = false := by simp; omega
    go_enter Try.func4, Try.ntmps4
    go_wp2_with (first | (go_at_call 7; first | (refine (f12_yes _ _ (by omega)).mono ?_; rintro e w' ⟨rfl, rfl⟩) | (refine (f12_no _ _ (by omega)).mono ?_; rintro e w' ⟨rfl, rfl⟩)) | (go_at_call 8; first | (refine (l1In_yes _ _ _ _ (by omega)).mono ?_; rintro e w' ⟨rfl, rfl⟩) | (refine (l1In_no _ _ _ _ (by omega)).mono ?_; rintro e w' ⟨rfl, rfl⟩)))
    all_goals (go_ret; exact ⟨by rw [HF.out] <;> rfl, b0.out⟩)
  by_cases kjoin : kind = 1
  · subst kjoin
    by_cases hid : (0 ≤ id ∧ id ≤ 9999)
    rotate_left
    · skip
      have HF : Hid (decide (Rq.right ⟨1, id, cabin, from_, size, tier⟩) = false) := decide_eq_false (by unfold Rq.right; simp only; omega)
      go_enter Try.func4, Try.ntmps4
      go_wp2_with (first | (go_at_call 7; first | (refine (f12_yes _ _ (by omega)).mono ?_; rintro e w' ⟨rfl, rfl⟩) | (refine (f12_no _ _ (by omega)).mono ?_; rintro e w' ⟨rfl, rfl⟩)) | (go_at_call 8; first | (refine (l1In_yes _ _ _ _ (by omega)).mono ?_; rintro e w' ⟨rfl, rfl⟩) | (refine (l1In_no _ _ _ _ (by omega)).mono ?_; rintro e w' ⟨rfl, rfl⟩)))
      all_goals (go_ret; exact ⟨by rw [HF.out] <;> rfl, b0.out⟩)
    by_cases hcabin : (0 ≤ cabin ∧ cabin ≤ 9999)
    rotate_left
    · skip
      have HF : Hid (decide (Rq.right ⟨1, id, cabin, from_, size, tier⟩) = false) := decide_eq_false (by unfold Rq.right; simp only; omega)
      go_enter Try.func4, Try.ntmps4
      go_wp2_with (first | (go_at_call 7; first | (refine (f12_yes _ _ (by omega)).mono ?_; rintro e w' ⟨rfl, rfl⟩) | (refine (f12_no _ _ (by omega)).mono ?_; rintro e w' ⟨rfl, rfl⟩)) | (go_at_call 8; first | (refine (l1In_yes _ _ _ _ (by omega)).mono ?_; rintro e w' ⟨rfl, rfl⟩) | (refine (l1In_no _ _ _ _ (by omega)).mono ?_; rintro e w' ⟨rfl, rfl⟩)))
      all_goals (go_ret; exact ⟨by rw [HF.out] <;> rfl, b0.out⟩)
    by_cases hfrom_ : (-1 ≤ from_ ∧ from_ ≤ 9999)
    rotate_left
    · skip
      have HF : Hid (decide (Rq.right ⟨1, id, cabin, from_, size, tier⟩) = false) := decide_eq_false (by unfold Rq.right; simp only; omega)
      go_enter Try.func4, Try.ntmps4
      go_wp2_with (first | (go_at_call 7; first | (refine (f12_yes _ _ (by omega)).mono ?_; rintro e w' ⟨rfl, rfl⟩) | (refine (f12_no _ _ (by omega)).mono ?_; rintro e w' ⟨rfl, rfl⟩)) | (go_at_call 8; first | (refine (l1In_yes _ _ _ _ (by omega)).mono ?_; rintro e w' ⟨rfl, rfl⟩) | (refine (l1In_no _ _ _ _ (by omega)).mono ?_; rintro e w' ⟨rfl, rfl⟩)))
      all_goals (go_ret; exact ⟨by rw [HF.out] <;> rfl, b0.out⟩)
    by_cases hsize : (0 ≤ size ∧ size ≤ 9999)
    rotate_left
    · skip
      have HF : Hid (decide (Rq.right ⟨1, id, cabin, from_, size, tier⟩) = false) := decide_eq_false (by unfold Rq.right; simp only; omega)
      go_enter Try.func4, Try.ntmps4
      go_wp2_with (first | (go_at_call 7; first | (refine (f12_yes _ _ (by omega)).mono ?_; rintro e w' ⟨rfl, rfl⟩) | (refine (f12_no _ _ (by omega)).mono ?_; rintro e w' ⟨rfl, rfl⟩)) | (go_at_call 8; first | (refine (l1In_yes _ _ _ _ (by omega)).mono ?_; rintro e w' ⟨rfl, rfl⟩) | (refine (l1In_no _ _ _ _ (by omega)).mono ?_; rintro e w' ⟨rfl, rfl⟩)))
      all_goals (go_ret; exact ⟨by rw [HF.out] <;> rfl, b0.out⟩)
    by_cases htier : (0 ≤ tier ∧ tier ≤ 9999)
    rotate_left
    · skip
      have HF : Hid (decide (Rq.right ⟨1, id, cabin, from_, size, tier⟩) = false) := decide_eq_false (by unfold Rq.right; simp only; omega)
      go_enter Try.func4, Try.ntmps4
      go_wp2_with (first | (go_at_call 7; first | (refine (f12_yes _ _ (by omega)).mono ?_; rintro e w' ⟨rfl, rfl⟩) | (refine (f12_no _ _ (by omega)).mono ?_; rintro e w' ⟨rfl, rfl⟩)) | (go_at_call 8; first | (refine (l1In_yes _ _ _ _ (by omega)).mono ?_; rintro e w' ⟨rfl, rfl⟩) | (refine (l1In_no _ _ _ _ (by omega)).mono ?_; rintro e w' ⟨rfl, rfl⟩)))
      all_goals (go_ret; exact ⟨by rw [HF.out] <;> rfl, b0.out⟩)
    have HF : Hid (decide (Rq.right ⟨1, id, cabin, from_, size, tier⟩) = true) := decide_eq_true (by exact .inl ⟨rfl, hid, hcabin, hfrom_, hsize, htier⟩)
    go_enter Try.func4, Try.ntmps4
    go_wp2_with (first | (go_at_call 7; first | (refine (f12_yes _ _ (by omega)).mono ?_; rintro e w' ⟨rfl, rfl⟩) | (refine (f12_no _ _ (by omega)).mono ?_; rintro e w' ⟨rfl, rfl⟩)) | (go_at_call 8; first | (refine (l1In_yes _ _ _ _ (by omega)).mono ?_; rintro e w' ⟨rfl, rfl⟩) | (refine (l1In_no _ _ _ _ (by omega)).mono ?_; rintro e w' ⟨rfl, rfl⟩)))
    all_goals (go_ret; exact ⟨by rw [HF.out] <;> rfl, b0.out⟩)
  by_cases kfree : kind = 3
  · subst kfree
    by_cases hcabin : (0 ≤ cabin ∧ cabin ≤ 9999)
    rotate_left
    · skip
      have HF : Hid (decide (Rq.right ⟨3, id, cabin, from_, size, tier⟩) = false) := decide_eq_false (by unfold Rq.right; simp only; omega)
      go_enter Try.func4, Try.ntmps4
      go_wp2_with (first | (go_at_call 7; first | (refine (f12_yes _ _ (by omega)).mono ?_; rintro e w' ⟨rfl, rfl⟩) | (refine (f12_no _ _ (by omega)).mono ?_; rintro e w' ⟨rfl, rfl⟩)) | (go_at_call 8; first | (refine (l1In_yes _ _ _ _ (by omega)).mono ?_; rintro e w' ⟨rfl, rfl⟩) | (refine (l1In_no _ _ _ _ (by omega)).mono ?_; rintro e w' ⟨rfl, rfl⟩)))
      all_goals (go_ret; exact ⟨by rw [HF.out] <;> rfl, b0.out⟩)
    by_cases hsize : (0 ≤ size ∧ size ≤ 9999)
    rotate_left
    · skip
      have HF : Hid (decide (Rq.right ⟨3, id, cabin, from_, size, tier⟩) = false) := decide_eq_false (by unfold Rq.right; simp only; omega)
      go_enter Try.func4, Try.ntmps4
      go_wp2_with (first | (go_at_call 7; first | (refine (f12_yes _ _ (by omega)).mono ?_; rintro e w' ⟨rfl, rfl⟩) | (refine (f12_no _ _ (by omega)).mono ?_; rintro e w' ⟨rfl, rfl⟩)) | (go_at_call 8; first | (refine (l1In_yes _ _ _ _ (by omega)).mono ?_; rintro e w' ⟨rfl, rfl⟩) | (refine (l1In_no _ _ _ _ (by omega)).mono ?_; rintro e w' ⟨rfl, rfl⟩)))
      all_goals (go_ret; exact ⟨by rw [HF.out] <;> rfl, b0.out⟩)
    by_cases hid : id = 0
    rotate_left
    · skip
      have HF : Hid (decide (Rq.right ⟨3, id, cabin, from_, size, tier⟩) = false) := decide_eq_false (by unfold Rq.right; simp only; omega)
      have nid : (id == 0) = false := by simp [hid]
      go_enter Try.func4, Try.ntmps4
      go_wp2_with (first | (go_at_call 7; first | (refine (f12_yes _ _ (by omega)).mono ?_; rintro e w' ⟨rfl, rfl⟩) | (refine (f12_no _ _ (by omega)).mono ?_; rintro e w' ⟨rfl, rfl⟩)) | (go_at_call 8; first | (refine (l1In_yes _ _ _ _ (by omega)).mono ?_; rintro e w' ⟨rfl, rfl⟩) | (refine (l1In_no _ _ _ _ (by omega)).mono ?_; rintro e w' ⟨rfl, rfl⟩)))
      all_goals (go_ret; exact ⟨by rw [HF.out] <;> rfl, b0.out⟩)
    subst hid
    by_cases hfrom_ : from_ = 0
    rotate_left
    · skip
      have HF : Hid (decide (Rq.right ⟨3, 0, cabin, from_, size, tier⟩) = false) := decide_eq_false (by unfold Rq.right; simp only; omega)
      have nfrom_ : (from_ == 0) = false := by simp [hfrom_]
      go_enter Try.func4, Try.ntmps4
      go_wp2_with (first | (go_at_call 7; first | (refine (f12_yes _ _ (by omega)).mono ?_; rintro e w' ⟨rfl, rfl⟩) | (refine (f12_no _ _ (by omega)).mono ?_; rintro e w' ⟨rfl, rfl⟩)) | (go_at_call 8; first | (refine (l1In_yes _ _ _ _ (by omega)).mono ?_; rintro e w' ⟨rfl, rfl⟩) | (refine (l1In_no _ _ _ _ (by omega)).mono ?_; rintro e w' ⟨rfl, rfl⟩)))
      all_goals (go_ret; exact ⟨by rw [HF.out] <;> rfl, b0.out⟩)
    subst hfrom_
    by_cases htier : tier = 0
    rotate_left
    · skip
      have HF : Hid (decide (Rq.right ⟨3, 0, cabin, 0, size, tier⟩) = false) := decide_eq_false (by unfold Rq.right; simp only; omega)
      have ntier : (tier == 0) = false := by simp [htier]
      go_enter Try.func4, Try.ntmps4
      go_wp2_with (first | (go_at_call 7; first | (refine (f12_yes _ _ (by omega)).mono ?_; rintro e w' ⟨rfl, rfl⟩) | (refine (f12_no _ _ (by omega)).mono ?_; rintro e w' ⟨rfl, rfl⟩)) | (go_at_call 8; first | (refine (l1In_yes _ _ _ _ (by omega)).mono ?_; rintro e w' ⟨rfl, rfl⟩) | (refine (l1In_no _ _ _ _ (by omega)).mono ?_; rintro e w' ⟨rfl, rfl⟩)))
      all_goals (go_ret; exact ⟨by rw [HF.out] <;> rfl, b0.out⟩)
    subst htier
    have HF : Hid (decide (Rq.right ⟨3, 0, cabin, 0, size, 0⟩) = true) := decide_eq_true (by exact .inr (.inr (.inl ⟨rfl, hcabin, hsize, rfl, rfl, rfl⟩)))
    go_enter Try.func4, Try.ntmps4
    go_wp2_with (first | (go_at_call 7; first | (refine (f12_yes _ _ (by omega)).mono ?_; rintro e w' ⟨rfl, rfl⟩) | (refine (f12_no _ _ (by omega)).mono ?_; rintro e w' ⟨rfl, rfl⟩)) | (go_at_call 8; first | (refine (l1In_yes _ _ _ _ (by omega)).mono ?_; rintro e w' ⟨rfl, rfl⟩) | (refine (l1In_no _ _ _ _ (by omega)).mono ?_; rintro e w' ⟨rfl, rfl⟩)))
    all_goals (go_ret; exact ⟨by rw [HF.out] <;> rfl, b0.out⟩)
  by_cases ktick : kind = 6
  · subst ktick
    by_cases hid : id = 0
    rotate_left
    · skip
      have HF : Hid (decide (Rq.right ⟨6, id, cabin, from_, size, tier⟩) = false) := decide_eq_false (by unfold Rq.right; simp only; omega)
      have nid : (id == 0) = false := by simp [hid]
      go_enter Try.func4, Try.ntmps4
      go_wp2_with (first | (go_at_call 7; first | (refine (f12_yes _ _ (by omega)).mono ?_; rintro e w' ⟨rfl, rfl⟩) | (refine (f12_no _ _ (by omega)).mono ?_; rintro e w' ⟨rfl, rfl⟩)) | (go_at_call 8; first | (refine (l1In_yes _ _ _ _ (by omega)).mono ?_; rintro e w' ⟨rfl, rfl⟩) | (refine (l1In_no _ _ _ _ (by omega)).mono ?_; rintro e w' ⟨rfl, rfl⟩)))
      all_goals (go_ret; exact ⟨by rw [HF.out] <;> rfl, b0.out⟩)
    subst hid
    by_cases hcabin : cabin = 0
    rotate_left
    · skip
      have HF : Hid (decide (Rq.right ⟨6, 0, cabin, from_, size, tier⟩) = false) := decide_eq_false (by unfold Rq.right; simp only; omega)
      have ncabin : (cabin == 0) = false := by simp [hcabin]
      go_enter Try.func4, Try.ntmps4
      go_wp2_with (first | (go_at_call 7; first | (refine (f12_yes _ _ (by omega)).mono ?_; rintro e w' ⟨rfl, rfl⟩) | (refine (f12_no _ _ (by omega)).mono ?_; rintro e w' ⟨rfl, rfl⟩)) | (go_at_call 8; first | (refine (l1In_yes _ _ _ _ (by omega)).mono ?_; rintro e w' ⟨rfl, rfl⟩) | (refine (l1In_no _ _ _ _ (by omega)).mono ?_; rintro e w' ⟨rfl, rfl⟩)))
      all_goals (go_ret; exact ⟨by rw [HF.out] <;> rfl, b0.out⟩)
    subst hcabin
    by_cases hfrom_ : from_ = 0
    rotate_left
    · skip
      have HF : Hid (decide (Rq.right ⟨6, 0, 0, from_, size, tier⟩) = false) := decide_eq_false (by unfold Rq.right; simp only; omega)
      have nfrom_ : (from_ == 0) = false := by simp [hfrom_]
      go_enter Try.func4, Try.ntmps4
      go_wp2_with (first | (go_at_call 7; first | (refine (f12_yes _ _ (by omega)).mono ?_; rintro e w' ⟨rfl, rfl⟩) | (refine (f12_no _ _ (by omega)).mono ?_; rintro e w' ⟨rfl, rfl⟩)) | (go_at_call 8; first | (refine (l1In_yes _ _ _ _ (by omega)).mono ?_; rintro e w' ⟨rfl, rfl⟩) | (refine (l1In_no _ _ _ _ (by omega)).mono ?_; rintro e w' ⟨rfl, rfl⟩)))
      all_goals (go_ret; exact ⟨by rw [HF.out] <;> rfl, b0.out⟩)
    subst hfrom_
    by_cases hsize : size = 0
    rotate_left
    · skip
      have HF : Hid (decide (Rq.right ⟨6, 0, 0, 0, size, tier⟩) = false) := decide_eq_false (by unfold Rq.right; simp only; omega)
      have nsize : (size == 0) = false := by simp [hsize]
      go_enter Try.func4, Try.ntmps4
      go_wp2_with (first | (go_at_call 7; first | (refine (f12_yes _ _ (by omega)).mono ?_; rintro e w' ⟨rfl, rfl⟩) | (refine (f12_no _ _ (by omega)).mono ?_; rintro e w' ⟨rfl, rfl⟩)) | (go_at_call 8; first | (refine (l1In_yes _ _ _ _ (by omega)).mono ?_; rintro e w' ⟨rfl, rfl⟩) | (refine (l1In_no _ _ _ _ (by omega)).mono ?_; rintro e w' ⟨rfl, rfl⟩)))
      all_goals (go_ret; exact ⟨by rw [HF.out] <;> rfl, b0.out⟩)
    subst hsize
    by_cases htier : tier = 0
    rotate_left
    · skip
      have HF : Hid (decide (Rq.right ⟨6, 0, 0, 0, 0, tier⟩) = false) := decide_eq_false (by unfold Rq.right; simp only; omega)
      have ntier : (tier == 0) = false := by simp [htier]
      go_enter Try.func4, Try.ntmps4
      go_wp2_with (first | (go_at_call 7; first | (refine (f12_yes _ _ (by omega)).mono ?_; rintro e w' ⟨rfl, rfl⟩) | (refine (f12_no _ _ (by omega)).mono ?_; rintro e w' ⟨rfl, rfl⟩)) | (go_at_call 8; first | (refine (l1In_yes _ _ _ _ (by omega)).mono ?_; rintro e w' ⟨rfl, rfl⟩) | (refine (l1In_no _ _ _ _ (by omega)).mono ?_; rintro e w' ⟨rfl, rfl⟩)))
      all_goals (go_ret; exact ⟨by rw [HF.out] <;> rfl, b0.out⟩)
    subst htier
    have HF : Hid (decide (Rq.right ⟨6, 0, 0, 0, 0, 0⟩) = true) := decide_eq_true (by exact .inr (.inr (.inr ⟨rfl, rfl, rfl, rfl, rfl, rfl⟩)))
    go_enter Try.func4, Try.ntmps4
    go_wp2_with (first | (go_at_call 7; first | (refine (f12_yes _ _ (by omega)).mono ?_; rintro e w' ⟨rfl, rfl⟩) | (refine (f12_no _ _ (by omega)).mono ?_; rintro e w' ⟨rfl, rfl⟩)) | (go_at_call 8; first | (refine (l1In_yes _ _ _ _ (by omega)).mono ?_; rintro e w' ⟨rfl, rfl⟩) | (refine (l1In_no _ _ _ _ (by omega)).mono ?_; rintro e w' ⟨rfl, rfl⟩)))
    all_goals (go_ret; exact ⟨by rw [HF.out] <;> rfl, b0.out⟩)
  have e1 : (kind == 1) = false := by simp; omega
  have e3 : (kind == 3) = false := by simp; omega
  have e6 : (kind == 6) = false := by simp; omega
  by_cases k2 : kind = 2
  · subst k2
    by_cases hid : (0 ≤ id ∧ id ≤ 9999)
    rotate_left
    · skip
      have HF : Hid (decide (Rq.right ⟨2, id, cabin, from_, size, tier⟩) = false) := decide_eq_false (by unfold Rq.right; simp only; omega)
      go_enter Try.func4, Try.ntmps4
      go_wp2_with (first | (go_at_call 7; first | (refine (f12_yes _ _ (by omega)).mono ?_; rintro e w' ⟨rfl, rfl⟩) | (refine (f12_no _ _ (by omega)).mono ?_; rintro e w' ⟨rfl, rfl⟩)) | (go_at_call 8; first | (refine (l1In_yes _ _ _ _ (by omega)).mono ?_; rintro e w' ⟨rfl, rfl⟩) | (refine (l1In_no _ _ _ _ (by omega)).mono ?_; rintro e w' ⟨rfl, rfl⟩)))
      all_goals (go_ret; exact ⟨by rw [HF.out] <;> rfl, b0.out⟩)
    by_cases hcabin : cabin = 0
    rotate_left
    · skip
      have HF : Hid (decide (Rq.right ⟨2, id, cabin, from_, size, tier⟩) = false) := decide_eq_false (by unfold Rq.right; simp only; omega)
      have ncabin : (cabin == 0) = false := by simp [hcabin]
      go_enter Try.func4, Try.ntmps4
      go_wp2_with (first | (go_at_call 7; first | (refine (f12_yes _ _ (by omega)).mono ?_; rintro e w' ⟨rfl, rfl⟩) | (refine (f12_no _ _ (by omega)).mono ?_; rintro e w' ⟨rfl, rfl⟩)) | (go_at_call 8; first | (refine (l1In_yes _ _ _ _ (by omega)).mono ?_; rintro e w' ⟨rfl, rfl⟩) | (refine (l1In_no _ _ _ _ (by omega)).mono ?_; rintro e w' ⟨rfl, rfl⟩)))
      all_goals (go_ret; exact ⟨by rw [HF.out] <;> rfl, b0.out⟩)
    subst hcabin
    by_cases hfrom_ : from_ = 0
    rotate_left
    · skip
      have HF : Hid (decide (Rq.right ⟨2, id, 0, from_, size, tier⟩) = false) := decide_eq_false (by unfold Rq.right; simp only; omega)
      have nfrom_ : (from_ == 0) = false := by simp [hfrom_]
      go_enter Try.func4, Try.ntmps4
      go_wp2_with (first | (go_at_call 7; first | (refine (f12_yes _ _ (by omega)).mono ?_; rintro e w' ⟨rfl, rfl⟩) | (refine (f12_no _ _ (by omega)).mono ?_; rintro e w' ⟨rfl, rfl⟩)) | (go_at_call 8; first | (refine (l1In_yes _ _ _ _ (by omega)).mono ?_; rintro e w' ⟨rfl, rfl⟩) | (refine (l1In_no _ _ _ _ (by omega)).mono ?_; rintro e w' ⟨rfl, rfl⟩)))
      all_goals (go_ret; exact ⟨by rw [HF.out] <;> rfl, b0.out⟩)
    subst hfrom_
    by_cases hsize : size = 0
    rotate_left
    · skip
      have HF : Hid (decide (Rq.right ⟨2, id, 0, 0, size, tier⟩) = false) := decide_eq_false (by unfold Rq.right; simp only; omega)
      have nsize : (size == 0) = false := by simp [hsize]
      go_enter Try.func4, Try.ntmps4
      go_wp2_with (first | (go_at_call 7; first | (refine (f12_yes _ _ (by omega)).mono ?_; rintro e w' ⟨rfl, rfl⟩) | (refine (f12_no _ _ (by omega)).mono ?_; rintro e w' ⟨rfl, rfl⟩)) | (go_at_call 8; first | (refine (l1In_yes _ _ _ _ (by omega)).mono ?_; rintro e w' ⟨rfl, rfl⟩) | (refine (l1In_no _ _ _ _ (by omega)).mono ?_; rintro e w' ⟨rfl, rfl⟩)))
      all_goals (go_ret; exact ⟨by rw [HF.out] <;> rfl, b0.out⟩)
    subst hsize
    by_cases htier : tier = 0
    rotate_left
    · skip
      have HF : Hid (decide (Rq.right ⟨2, id, 0, 0, 0, tier⟩) = false) := decide_eq_false (by unfold Rq.right; simp only; omega)
      have ntier : (tier == 0) = false := by simp [htier]
      go_enter Try.func4, Try.ntmps4
      go_wp2_with (first | (go_at_call 7; first | (refine (f12_yes _ _ (by omega)).mono ?_; rintro e w' ⟨rfl, rfl⟩) | (refine (f12_no _ _ (by omega)).mono ?_; rintro e w' ⟨rfl, rfl⟩)) | (go_at_call 8; first | (refine (l1In_yes _ _ _ _ (by omega)).mono ?_; rintro e w' ⟨rfl, rfl⟩) | (refine (l1In_no _ _ _ _ (by omega)).mono ?_; rintro e w' ⟨rfl, rfl⟩)))
      all_goals (go_ret; exact ⟨by rw [HF.out] <;> rfl, b0.out⟩)
    subst htier
    have HF : Hid (decide (Rq.right ⟨2, id, 0, 0, 0, 0⟩) = true) := decide_eq_true (by exact .inr (.inl ⟨by simp, hid, rfl, rfl, rfl, rfl⟩))
    go_enter Try.func4, Try.ntmps4
    go_wp2_with (first | (go_at_call 7; first | (refine (f12_yes _ _ (by omega)).mono ?_; rintro e w' ⟨rfl, rfl⟩) | (refine (f12_no _ _ (by omega)).mono ?_; rintro e w' ⟨rfl, rfl⟩)) | (go_at_call 8; first | (refine (l1In_yes _ _ _ _ (by omega)).mono ?_; rintro e w' ⟨rfl, rfl⟩) | (refine (l1In_no _ _ _ _ (by omega)).mono ?_; rintro e w' ⟨rfl, rfl⟩)))
    all_goals (go_ret; exact ⟨by rw [HF.out] <;> rfl, b0.out⟩)
  have e2 : (kind == 2) = false := by simp [k2]
  by_cases k4 : kind = 4
  · subst k4
    by_cases hid : (0 ≤ id ∧ id ≤ 9999)
    rotate_left
    · skip
      have HF : Hid (decide (Rq.right ⟨4, id, cabin, from_, size, tier⟩) = false) := decide_eq_false (by unfold Rq.right; simp only; omega)
      go_enter Try.func4, Try.ntmps4
      go_wp2_with (first | (go_at_call 7; first | (refine (f12_yes _ _ (by omega)).mono ?_; rintro e w' ⟨rfl, rfl⟩) | (refine (f12_no _ _ (by omega)).mono ?_; rintro e w' ⟨rfl, rfl⟩)) | (go_at_call 8; first | (refine (l1In_yes _ _ _ _ (by omega)).mono ?_; rintro e w' ⟨rfl, rfl⟩) | (refine (l1In_no _ _ _ _ (by omega)).mono ?_; rintro e w' ⟨rfl, rfl⟩)))
      all_goals (go_ret; exact ⟨by rw [HF.out] <;> rfl, b0.out⟩)
    by_cases hcabin : cabin = 0
    rotate_left
    · skip
      have HF : Hid (decide (Rq.right ⟨4, id, cabin, from_, size, tier⟩) = false) := decide_eq_false (by unfold Rq.right; simp only; omega)
      have ncabin : (cabin == 0) = false := by simp [hcabin]
      go_enter Try.func4, Try.ntmps4
      go_wp2_with (first | (go_at_call 7; first | (refine (f12_yes _ _ (by omega)).mono ?_; rintro e w' ⟨rfl, rfl⟩) | (refine (f12_no _ _ (by omega)).mono ?_; rintro e w' ⟨rfl, rfl⟩)) | (go_at_call 8; first | (refine (l1In_yes _ _ _ _ (by omega)).mono ?_; rintro e w' ⟨rfl, rfl⟩) | (refine (l1In_no _ _ _ _ (by omega)).mono ?_; rintro e w' ⟨rfl, rfl⟩)))
      all_goals (go_ret; exact ⟨by rw [HF.out] <;> rfl, b0.out⟩)
    subst hcabin
    by_cases hfrom_ : from_ = 0
    rotate_left
    · skip
      have HF : Hid (decide (Rq.right ⟨4, id, 0, from_, size, tier⟩) = false) := decide_eq_false (by unfold Rq.right; simp only; omega)
      have nfrom_ : (from_ == 0) = false := by simp [hfrom_]
      go_enter Try.func4, Try.ntmps4
      go_wp2_with (first | (go_at_call 7; first | (refine (f12_yes _ _ (by omega)).mono ?_; rintro e w' ⟨rfl, rfl⟩) | (refine (f12_no _ _ (by omega)).mono ?_; rintro e w' ⟨rfl, rfl⟩)) | (go_at_call 8; first | (refine (l1In_yes _ _ _ _ (by omega)).mono ?_; rintro e w' ⟨rfl, rfl⟩) | (refine (l1In_no _ _ _ _ (by omega)).mono ?_; rintro e w' ⟨rfl, rfl⟩)))
      all_goals (go_ret; exact ⟨by rw [HF.out] <;> rfl, b0.out⟩)
    subst hfrom_
    by_cases hsize : size = 0
    rotate_left
    · skip
      have HF : Hid (decide (Rq.right ⟨4, id, 0, 0, size, tier⟩) = false) := decide_eq_false (by unfold Rq.right; simp only; omega)
      have nsize : (size == 0) = false := by simp [hsize]
      go_enter Try.func4, Try.ntmps4
      go_wp2_with (first | (go_at_call 7; first | (refine (f12_yes _ _ (by omega)).mono ?_; rintro e w' ⟨rfl, rfl⟩) | (refine (f12_no _ _ (by omega)).mono ?_; rintro e w' ⟨rfl, rfl⟩)) | (go_at_call 8; first | (refine (l1In_yes _ _ _ _ (by omega)).mono ?_; rintro e w' ⟨rfl, rfl⟩) | (refine (l1In_no _ _ _ _ (by omega)).mono ?_; rintro e w' ⟨rfl, rfl⟩)))
      all_goals (go_ret; exact ⟨by rw [HF.out] <;> rfl, b0.out⟩)
    subst hsize
    by_cases htier : tier = 0
    rotate_left
    · skip
      have HF : Hid (decide (Rq.right ⟨4, id, 0, 0, 0, tier⟩) = false) := decide_eq_false (by unfold Rq.right; simp only; omega)
      have ntier : (tier == 0) = false := by simp [htier]
      go_enter Try.func4, Try.ntmps4
      go_wp2_with (first | (go_at_call 7; first | (refine (f12_yes _ _ (by omega)).mono ?_; rintro e w' ⟨rfl, rfl⟩) | (refine (f12_no _ _ (by omega)).mono ?_; rintro e w' ⟨rfl, rfl⟩)) | (go_at_call 8; first | (refine (l1In_yes _ _ _ _ (by omega)).mono ?_; rintro e w' ⟨rfl, rfl⟩) | (refine (l1In_no _ _ _ _ (by omega)).mono ?_; rintro e w' ⟨rfl, rfl⟩)))
      all_goals (go_ret; exact ⟨by rw [HF.out] <;> rfl, b0.out⟩)
    subst htier
    have HF : Hid (decide (Rq.right ⟨4, id, 0, 0, 0, 0⟩) = true) := decide_eq_true (by exact .inr (.inl ⟨by simp, hid, rfl, rfl, rfl, rfl⟩))
    go_enter Try.func4, Try.ntmps4
    go_wp2_with (first | (go_at_call 7; first | (refine (f12_yes _ _ (by omega)).mono ?_; rintro e w' ⟨rfl, rfl⟩) | (refine (f12_no _ _ (by omega)).mono ?_; rintro e w' ⟨rfl, rfl⟩)) | (go_at_call 8; first | (refine (l1In_yes _ _ _ _ (by omega)).mono ?_; rintro e w' ⟨rfl, rfl⟩) | (refine (l1In_no _ _ _ _ (by omega)).mono ?_; rintro e w' ⟨rfl, rfl⟩)))
    all_goals (go_ret; exact ⟨by rw [HF.out] <;> rfl, b0.out⟩)
  have e4 : (kind == 4) = false := by simp [k4]
  by_cases k5 : kind = 5
  · subst k5
    by_cases hid : (0 ≤ id ∧ id ≤ 9999)
    rotate_left
    · skip
      have HF : Hid (decide (Rq.right ⟨5, id, cabin, from_, size, tier⟩) = false) := decide_eq_false (by unfold Rq.right; simp only; omega)
      go_enter Try.func4, Try.ntmps4
      go_wp2_with (first | (go_at_call 7; first | (refine (f12_yes _ _ (by omega)).mono ?_; rintro e w' ⟨rfl, rfl⟩) | (refine (f12_no _ _ (by omega)).mono ?_; rintro e w' ⟨rfl, rfl⟩)) | (go_at_call 8; first | (refine (l1In_yes _ _ _ _ (by omega)).mono ?_; rintro e w' ⟨rfl, rfl⟩) | (refine (l1In_no _ _ _ _ (by omega)).mono ?_; rintro e w' ⟨rfl, rfl⟩)))
      all_goals (go_ret; exact ⟨by rw [HF.out] <;> rfl, b0.out⟩)
    by_cases hcabin : cabin = 0
    rotate_left
    · skip
      have HF : Hid (decide (Rq.right ⟨5, id, cabin, from_, size, tier⟩) = false) := decide_eq_false (by unfold Rq.right; simp only; omega)
      have ncabin : (cabin == 0) = false := by simp [hcabin]
      go_enter Try.func4, Try.ntmps4
      go_wp2_with (first | (go_at_call 7; first | (refine (f12_yes _ _ (by omega)).mono ?_; rintro e w' ⟨rfl, rfl⟩) | (refine (f12_no _ _ (by omega)).mono ?_; rintro e w' ⟨rfl, rfl⟩)) | (go_at_call 8; first | (refine (l1In_yes _ _ _ _ (by omega)).mono ?_; rintro e w' ⟨rfl, rfl⟩) | (refine (l1In_no _ _ _ _ (by omega)).mono ?_; rintro e w' ⟨rfl, rfl⟩)))
      all_goals (go_ret; exact ⟨by rw [HF.out] <;> rfl, b0.out⟩)
    subst hcabin
    by_cases hfrom_ : from_ = 0
    rotate_left
    · skip
      have HF : Hid (decide (Rq.right ⟨5, id, 0, from_, size, tier⟩) = false) := decide_eq_false (by unfold Rq.right; simp only; omega)
      have nfrom_ : (from_ == 0) = false := by simp [hfrom_]
      go_enter Try.func4, Try.ntmps4
      go_wp2_with (first | (go_at_call 7; first | (refine (f12_yes _ _ (by omega)).mono ?_; rintro e w' ⟨rfl, rfl⟩) | (refine (f12_no _ _ (by omega)).mono ?_; rintro e w' ⟨rfl, rfl⟩)) | (go_at_call 8; first | (refine (l1In_yes _ _ _ _ (by omega)).mono ?_; rintro e w' ⟨rfl, rfl⟩) | (refine (l1In_no _ _ _ _ (by omega)).mono ?_; rintro e w' ⟨rfl, rfl⟩)))
      all_goals (go_ret; exact ⟨by rw [HF.out] <;> rfl, b0.out⟩)
    subst hfrom_
    by_cases hsize : size = 0
    rotate_left
    · skip
      have HF : Hid (decide (Rq.right ⟨5, id, 0, 0, size, tier⟩) = false) := decide_eq_false (by unfold Rq.right; simp only; omega)
      have nsize : (size == 0) = false := by simp [hsize]
      go_enter Try.func4, Try.ntmps4
      go_wp2_with (first | (go_at_call 7; first | (refine (f12_yes _ _ (by omega)).mono ?_; rintro e w' ⟨rfl, rfl⟩) | (refine (f12_no _ _ (by omega)).mono ?_; rintro e w' ⟨rfl, rfl⟩)) | (go_at_call 8; first | (refine (l1In_yes _ _ _ _ (by omega)).mono ?_; rintro e w' ⟨rfl, rfl⟩) | (refine (l1In_no _ _ _ _ (by omega)).mono ?_; rintro e w' ⟨rfl, rfl⟩)))
      all_goals (go_ret; exact ⟨by rw [HF.out] <;> rfl, b0.out⟩)
    subst hsize
    by_cases htier : tier = 0
    rotate_left
    · skip
      have HF : Hid (decide (Rq.right ⟨5, id, 0, 0, 0, tier⟩) = false) := decide_eq_false (by unfold Rq.right; simp only; omega)
      have ntier : (tier == 0) = false := by simp [htier]
      go_enter Try.func4, Try.ntmps4
      go_wp2_with (first | (go_at_call 7; first | (refine (f12_yes _ _ (by omega)).mono ?_; rintro e w' ⟨rfl, rfl⟩) | (refine (f12_no _ _ (by omega)).mono ?_; rintro e w' ⟨rfl, rfl⟩)) | (go_at_call 8; first | (refine (l1In_yes _ _ _ _ (by omega)).mono ?_; rintro e w' ⟨rfl, rfl⟩) | (refine (l1In_no _ _ _ _ (by omega)).mono ?_; rintro e w' ⟨rfl, rfl⟩)))
      all_goals (go_ret; exact ⟨by rw [HF.out] <;> rfl, b0.out⟩)
    subst htier
    have HF : Hid (decide (Rq.right ⟨5, id, 0, 0, 0, 0⟩) = true) := decide_eq_true (by exact .inr (.inl ⟨by simp, hid, rfl, rfl, rfl, rfl⟩))
    go_enter Try.func4, Try.ntmps4
    go_wp2_with (first | (go_at_call 7; first | (refine (f12_yes _ _ (by omega)).mono ?_; rintro e w' ⟨rfl, rfl⟩) | (refine (f12_no _ _ (by omega)).mono ?_; rintro e w' ⟨rfl, rfl⟩)) | (go_at_call 8; first | (refine (l1In_yes _ _ _ _ (by omega)).mono ?_; rintro e w' ⟨rfl, rfl⟩) | (refine (l1In_no _ _ _ _ (by omega)).mono ?_; rintro e w' ⟨rfl, rfl⟩)))
    all_goals (go_ret; exact ⟨by rw [HF.out] <;> rfl, b0.out⟩)
  have e5 : (kind == 5) = false := by simp [k5]
  obtain rfl : kind = 7 := by omega
  by_cases hid : (0 ≤ id ∧ id ≤ 9999)
  rotate_left
  · skip
    have HF : Hid (decide (Rq.right ⟨7, id, cabin, from_, size, tier⟩) = false) := decide_eq_false (by unfold Rq.right; simp only; omega)
    go_enter Try.func4, Try.ntmps4
    go_wp2_with (first | (go_at_call 7; first | (refine (f12_yes _ _ (by omega)).mono ?_; rintro e w' ⟨rfl, rfl⟩) | (refine (f12_no _ _ (by omega)).mono ?_; rintro e w' ⟨rfl, rfl⟩)) | (go_at_call 8; first | (refine (l1In_yes _ _ _ _ (by omega)).mono ?_; rintro e w' ⟨rfl, rfl⟩) | (refine (l1In_no _ _ _ _ (by omega)).mono ?_; rintro e w' ⟨rfl, rfl⟩)))
    all_goals (go_ret; exact ⟨by rw [HF.out] <;> rfl, b0.out⟩)
  by_cases hcabin : cabin = 0
  rotate_left
  · skip
    have HF : Hid (decide (Rq.right ⟨7, id, cabin, from_, size, tier⟩) = false) := decide_eq_false (by unfold Rq.right; simp only; omega)
    have ncabin : (cabin == 0) = false := by simp [hcabin]
    go_enter Try.func4, Try.ntmps4
    go_wp2_with (first | (go_at_call 7; first | (refine (f12_yes _ _ (by omega)).mono ?_; rintro e w' ⟨rfl, rfl⟩) | (refine (f12_no _ _ (by omega)).mono ?_; rintro e w' ⟨rfl, rfl⟩)) | (go_at_call 8; first | (refine (l1In_yes _ _ _ _ (by omega)).mono ?_; rintro e w' ⟨rfl, rfl⟩) | (refine (l1In_no _ _ _ _ (by omega)).mono ?_; rintro e w' ⟨rfl, rfl⟩)))
    all_goals (go_ret; exact ⟨by rw [HF.out] <;> rfl, b0.out⟩)
  subst hcabin
  by_cases hfrom_ : from_ = 0
  rotate_left
  · skip
    have HF : Hid (decide (Rq.right ⟨7, id, 0, from_, size, tier⟩) = false) := decide_eq_false (by unfold Rq.right; simp only; omega)
    have nfrom_ : (from_ == 0) = false := by simp [hfrom_]
    go_enter Try.func4, Try.ntmps4
    go_wp2_with (first | (go_at_call 7; first | (refine (f12_yes _ _ (by omega)).mono ?_; rintro e w' ⟨rfl, rfl⟩) | (refine (f12_no _ _ (by omega)).mono ?_; rintro e w' ⟨rfl, rfl⟩)) | (go_at_call 8; first | (refine (l1In_yes _ _ _ _ (by omega)).mono ?_; rintro e w' ⟨rfl, rfl⟩) | (refine (l1In_no _ _ _ _ (by omega)).mono ?_; rintro e w' ⟨rfl, rfl⟩)))
    all_goals (go_ret; exact ⟨by rw [HF.out] <;> rfl, b0.out⟩)
  subst hfrom_
  by_cases hsize : size = 0
  rotate_left
  · skip
    have HF : Hid (decide (Rq.right ⟨7, id, 0, 0, size, tier⟩) = false) := decide_eq_false (by unfold Rq.right; simp only; omega)
    have nsize : (size == 0) = false := by simp [hsize]
    go_enter Try.func4, Try.ntmps4
    go_wp2_with (first | (go_at_call 7; first | (refine (f12_yes _ _ (by omega)).mono ?_; rintro e w' ⟨rfl, rfl⟩) | (refine (f12_no _ _ (by omega)).mono ?_; rintro e w' ⟨rfl, rfl⟩)) | (go_at_call 8; first | (refine (l1In_yes _ _ _ _ (by omega)).mono ?_; rintro e w' ⟨rfl, rfl⟩) | (refine (l1In_no _ _ _ _ (by omega)).mono ?_; rintro e w' ⟨rfl, rfl⟩)))
    all_goals (go_ret; exact ⟨by rw [HF.out] <;> rfl, b0.out⟩)
  subst hsize
  by_cases htier : tier = 0
  rotate_left
  · skip
    have HF : Hid (decide (Rq.right ⟨7, id, 0, 0, 0, tier⟩) = false) := decide_eq_false (by unfold Rq.right; simp only; omega)
    have ntier : (tier == 0) = false := by simp [htier]
    go_enter Try.func4, Try.ntmps4
    go_wp2_with (first | (go_at_call 7; first | (refine (f12_yes _ _ (by omega)).mono ?_; rintro e w' ⟨rfl, rfl⟩) | (refine (f12_no _ _ (by omega)).mono ?_; rintro e w' ⟨rfl, rfl⟩)) | (go_at_call 8; first | (refine (l1In_yes _ _ _ _ (by omega)).mono ?_; rintro e w' ⟨rfl, rfl⟩) | (refine (l1In_no _ _ _ _ (by omega)).mono ?_; rintro e w' ⟨rfl, rfl⟩)))
    all_goals (go_ret; exact ⟨by rw [HF.out] <;> rfl, b0.out⟩)
  subst htier
  have HF : Hid (decide (Rq.right ⟨7, id, 0, 0, 0, 0⟩) = true) := decide_eq_true (by exact .inr (.inl ⟨by simp, hid, rfl, rfl, rfl, rfl⟩))
  go_enter Try.func4, Try.ntmps4
  go_wp2_with (first | (go_at_call 7; first | (refine (f12_yes _ _ (by omega)).mono ?_; rintro e w' ⟨rfl, rfl⟩) | (refine (f12_no _ _ (by omega)).mono ?_; rintro e w' ⟨rfl, rfl⟩)) | (go_at_call 8; first | (refine (l1In_yes _ _ _ _ (by omega)).mono ?_; rintro e w' ⟨rfl, rfl⟩) | (refine (l1In_no _ _ _ _ (by omega)).mono ?_; rintro e w' ⟨rfl, rfl⟩)))
  all_goals (go_ret; exact ⟨by rw [HF.out] <;> rfl, b0.out⟩)
end Go.Proofs.Ytjoihjfpdjbcpaa
