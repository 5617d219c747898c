/- ReqOk of the model. -/
import Derived.Test.YtohpegblbikbdaaRows
import Derived.Test.YtohpegblbikbdaaHs28
namespace Go.Proofs.Ytohpegblbikbdaa
open Go.RowKit
set_option linter.unusedSimpArgs false
set_option linter.unusedVariables false
set_option maxRecDepth 100000 in
theorem l12Field_yes (x : Int) (w : World) (h : 0 ≤ x ∧ x ≤ 9999) : Calls Try.prog 48 #[.int .i64 x] w fun e w' => e = .returned (.bool true) ∧ w = w' := by
  go_enter Try.func48, Try.ntmps48
  go_wp2_with (go_at_call 49; (refine (l1In_yes _ _ _ _ (by omega)).mono ?_; rintro e w' ⟨rfl, rfl⟩))
  go_ret
  exact ⟨rfl, rfl⟩
set_option maxRecDepth 100000 in
theorem l12Field_no (x : Int) (w : World) (h : ¬ (0 ≤ x ∧ x ≤ 9999)) : Calls Try.prog 48 #[.int .i64 x] w fun e w' => e = .returned (.bool false) ∧ w = w' := by
  go_enter Try.func48, Try.ntmps48
  go_wp2_with (go_at_call 49; (refine (l1In_no _ _ _ _ (by omega)).mono ?_; rintro e w' ⟨rfl, rfl⟩))
  go_ret
  exact ⟨rfl, rfl⟩
/-- What a request that is ReqOk keeps to. -/
def RqIn (q : Rq) : Prop := (q.kind = 1 ∧ (0 ≤ q.id ∧ q.id ≤ 9999) ∧ (0 ≤ q.cabin ∧ q.cabin ≤ 9999) ∧ (-1 ≤ q.from_ ∧ q.from_ ≤ 9999) ∧ (0 ≤ q.size ∧ q.size ≤ 9999) ∧ (0 ≤ q.tier ∧ q.tier ≤ 9999)) ∨ ((q.kind = 2 ∨ q.kind = 4 ∨ q.kind = 5 ∨ q.kind = 7) ∧ (0 ≤ q.id ∧ q.id ≤ 9999)) ∨ (q.kind = 3 ∧ (0 ≤ q.cabin ∧ q.cabin ≤ 9999) ∧ (0 ≤ q.size ∧ q.size ≤ 9999)) ∨ q.kind = 6
def GotOk (q : Rq) (w : World) (e : Ending) (w' : World) : Prop := (∃ b, e = .returned (.bool b) ∧ (b = true → RqIn q)) ∧ Below w.heap.size w w'
set_option maxRecDepth 100000 in
set_option maxHeartbeats 6400000 in
theorem reqOk_any (q : Rq) (w : World) : Calls Try.prog 26 #[rqA q] w (GotOk q w) := by
  obtain ⟨kind, id, cabin, from_, size, tier⟩ := q
  unfold rqA
  simp only
  by_cases k1 : kind = 1
  · subst k1
    by_cases h1 : (0 ≤ id ∧ id ≤ 9999)
    rotate_left
    · skip
      go_enter Try.func26, Try.ntmps26
      go_wp2_with (first | (go_at_call 48; first | (refine (l12Field_yes _ _ (by omega)).mono ?_; rintro e w' ⟨rfl, rfl⟩) | (refine (l12Field_no _ _ (by omega)).mono ?_; rintro e w' ⟨rfl, rfl⟩)) | (go_at_call 49; first | (refine (l1In_yes _ _ _ _ (by omega)).mono ?_; rintro e w' ⟨rfl, rfl⟩) | (refine (l1In_no _ _ _ _ (by omega)).mono ?_; rintro e w' ⟨rfl, rfl⟩)))
      all_goals (go_ret; exact ⟨⟨_, rfl, fun h => by first | (cases h) | (exact absurd h (by simp))⟩, (Below.refl _ _).alloc (Nat.le_refl _) _⟩)
    by_cases h2 : (0 ≤ cabin ∧ cabin ≤ 9999)
    rotate_left
    · skip
      go_enter Try.func26, Try.ntmps26
      go_wp2_with (first | (go_at_call 48; first | (refine (l12Field_yes _ _ (by omega)).mono ?_; rintro e w' ⟨rfl, rfl⟩) | (refine (l12Field_no _ _ (by omega)).mono ?_; rintro e w' ⟨rfl, rfl⟩)) | (go_at_call 49; first | (refine (l1In_yes _ _ _ _ (by omega)).mono ?_; rintro e w' ⟨rfl, rfl⟩) | (refine (l1In_no _ _ _ _ (by omega)).mono ?_; rintro e w' ⟨rfl, rfl⟩)))
      all_goals (go_ret; exact ⟨⟨_, rfl, fun h => by first | (cases h) | (exact absurd h (by simp))⟩, (Below.refl _ _).alloc (Nat.le_refl _) _⟩)
    by_cases h3 : (-1 ≤ from_ ∧ from_ ≤ 9999)
    rotate_left
    · skip
      go_enter Try.func26, Try.ntmps26
      go_wp2_with (first | (go_at_call 48; first | (refine (l12Field_yes _ _ (by omega)).mono ?_; rintro e w' ⟨rfl, rfl⟩) | (refine (l12Field_no _ _ (by omega)).mono ?_; rintro e w' ⟨rfl, rfl⟩)) | (go_at_call 49; first | (refine (l1In_yes _ _ _ _ (by omega)).mono ?_; rintro e w' ⟨rfl, rfl⟩) | (refine (l1In_no _ _ _ _ (by omega)).mono ?_; rintro e w' ⟨rfl, rfl⟩)))
      all_goals (go_ret; exact ⟨⟨_, rfl, fun h => by first | (cases h) | (exact absurd h (by simp))⟩, (Below.refl _ _).alloc (Nat.le_refl _) _⟩)
    by_cases h4 : (0 ≤ size ∧ size ≤ 9999)
    rotate_left
    · skip
      go_enter Try.func26, Try.ntmps26
      go_wp2_with (first | (go_at_call 48; first | (refine (l12Field_yes _ _ (by omega)).mono ?_; rintro e w' ⟨rfl, rfl⟩) | (refine (l12Field_no _ _ (by omega)).mono ?_; rintro e w' ⟨rfl, rfl⟩)) | (go_at_call 49; first | (refine (l1In_yes _ _ _ _ (by omega)).mono ?_; rintro e w' ⟨rfl, rfl⟩) | (refine (l1In_no _ _ _ _ (by omega)).mono ?_; rintro e w' ⟨rfl, rfl⟩)))
      all_goals (go_ret; exact ⟨⟨_, rfl, fun h => by first | (cases h) | (exact absurd h (by simp))⟩, (Below.refl _ _).alloc (Nat.le_refl _) _⟩)
    by_cases h5 : (0 ≤ tier ∧ tier ≤ 9999)
    rotate_left
    · skip
      go_enter Try.func26, Try.ntmps26
      go_wp2_with (first | (go_at_call 48; first | (refine (l12Field_yes _ _ (by omega)).mono ?_; rintro e w' ⟨rfl, rfl⟩) | (refine (l12Field_no _ _ (by omega)).mono ?_; rintro e w' ⟨rfl, rfl⟩)) | (go_at_call 49; first | (refine (l1In_yes _ _ _ _ (by omega)).mono ?_; rintro e w' ⟨rfl, rfl⟩) | (refine (l1In_no _ _ _ _ (by omega)).mono ?_; rintro e w' ⟨rfl, rfl⟩)))
      all_goals (go_ret; exact ⟨⟨_, rfl, fun h => by first | (cases h) | (exact absurd h (by simp))⟩, (Below.refl _ _).alloc (Nat.le_refl _) _⟩)
    go_enter Try.func26, Try.ntmps26
    go_wp2_with (first | (go_at_call 48; first | (refine (l12Field_yes _ _ (by omega)).mono ?_; rintro e w' ⟨rfl, rfl⟩) | (refine (l12Field_no _ _ (by omega)).mono ?_; rintro e w' ⟨rfl, rfl⟩)) | (go_at_call 49; first | (refine (l1In_yes _ _ _ _ (by omega)).mono ?_; rintro e w' ⟨rfl, rfl⟩) | (refine (l1In_no _ _ _ _ (by omega)).mono ?_; rintro e w' ⟨rfl, rfl⟩)))
    all_goals (go_ret; exact ⟨⟨_, rfl, fun _ => .inl ⟨rfl, h1, h2, h3, h4, h5⟩⟩, (Below.refl _ _).alloc (Nat.le_refl _) _⟩)
  have e1 : (kind == 1) = false := by simp [k1]
  by_cases k2 : kind = 2
  · subst k2
    by_cases h1 : (0 ≤ id ∧ id ≤ 9999)
    rotate_left
    · skip
      go_enter Try.func26, Try.ntmps26
      go_wp2_with (first | (go_at_call 48; first | (refine (l12Field_yes _ _ (by omega)).mono ?_; rintro e w' ⟨rfl, rfl⟩) | (refine (l12Field_no _ _ (by omega)).mono ?_; rintro e w' ⟨rfl, rfl⟩)) | (go_at_call 49; first | (refine (l1In_yes _ _ _ _ (by omega)).mono ?_; rintro e w' ⟨rfl, rfl⟩) | (refine (l1In_no _ _ _ _ (by omega)).mono ?_; rintro e w' ⟨rfl, rfl⟩)))
      all_goals (go_ret; exact ⟨⟨_, rfl, fun h => by first | (cases h) | (exact absurd h (by simp))⟩, (Below.refl _ _).alloc (Nat.le_refl _) _⟩)
    go_enter Try.func26, Try.ntmps26
    go_wp2_with (first | (go_at_call 48; first | (refine (l12Field_yes _ _ (by omega)).mono ?_; rintro e w' ⟨rfl, rfl⟩) | (refine (l12Field_no _ _ (by omega)).mono ?_; rintro e w' ⟨rfl, rfl⟩)) | (go_at_call 49; first | (refine (l1In_yes _ _ _ _ (by omega)).mono ?_; rintro e w' ⟨rfl, rfl⟩) | (refine (l1In_no _ _ _ _ (by omega)).mono ?_; rintro e w' ⟨rfl, rfl⟩)))
    all_goals (go_ret; exact ⟨⟨_, rfl, fun _ => .inr (.inl ⟨.inl rfl, h1⟩)⟩, (Below.refl _ _).alloc (Nat.le_refl _) _⟩)
  have e2 : (kind == 2) = false := by simp [k2]
  by_cases k4 : kind = 4
  · subst k4
    by_cases h1 : (0 ≤ id ∧ id ≤ 9999)
    rotate_left
    · skip
      go_enter Try.func26, Try.ntmps26
      go_wp2_with (first | (go_at_call 48; first | (refine (l12Field_yes _ _ (by omega)).mono ?_; rintro e w' ⟨rfl, rfl⟩) | (refine (l12Field_no _ _ (by omega)).mono ?_; rintro e w' ⟨rfl, rfl⟩)) | (go_at_call 49; first | (refine (l1In_yes _ _ _ _ (by omega)).mono ?_; rintro e w' ⟨rfl, rfl⟩) | (refine (l1In_no _ _ _ _ (by omega)).mono ?_; rintro e w' ⟨rfl, rfl⟩)))
      all_goals (go_ret; exact ⟨⟨_, rfl, fun h => by first | (cases h) | (exact absurd h (by simp))⟩, (Below.refl _ _).alloc (Nat.le_refl _) _⟩)
    go_enter Try.func26, Try.ntmps26
    go_wp2_with (first | (go_at_call 48; first | (refine (l12Field_yes _ _ (by omega)).mono ?_; rintro e w' ⟨rfl, rfl⟩) | (refine (l12Field_no _ _ (by omega)).mono ?_; rintro e w' ⟨rfl, rfl⟩)) | (go_at_call 49; first | (refine (l1In_yes _ _ _ _ (by omega)).mono ?_; rintro e w' ⟨rfl, rfl⟩) | (refine (l1In_no _ _ _ _ (by omega)).mono ?_; rintro e w' ⟨rfl, rfl⟩)))
    all_goals (go_ret; exact ⟨⟨_, rfl, fun _ => .inr (.inl ⟨.inr (.inl rfl), h1⟩)⟩, (Below.refl _ _).alloc (Nat.le_refl _) _⟩)
  have e4 : (kind == 4) = false := by simp [k4]
  by_cases k5 : kind = 5
  · subst k5
    by_cases h1 : (0 ≤ id ∧ id ≤ 9999)
    rotate_left
    · skip
      go_enter Try.func26, Try.ntmps26
      go_wp2_with (first | (go_at_call 48; first | (refine (l12Field_yes _ _ (by omega)).mono ?_; rintro e w' ⟨rfl, rfl⟩) | (refine (l12Field_no _ _ (by omega)).mono ?_; rintro e w' ⟨rfl, rfl⟩)) | (go_at_call 49; first | (refine (l1In_yes _ _ _ _ (by omega)).mono ?_; rintro e w' ⟨rfl, rfl⟩) | (refine (l1In_no _ _ _ _ (by omega)).mono ?_; rintro e w' ⟨rfl, rfl⟩)))
      all_goals (go_ret; exact ⟨⟨_, rfl, fun h => by first | (cases h) | (exact absurd h (by simp))⟩, (Below.refl _ _).alloc (Nat.le_refl _) _⟩)
    go_enter Try.func26, Try.ntmps26
    go_wp2_with (first | (go_at_call 48; first | (refine (l12Field_yes _ _ (by omega)).mono ?_; rintro e w' ⟨rfl, rfl⟩) | (refine (l12Field_no _ _ (by omega)).mono ?_; rintro e w' ⟨rfl, rfl⟩)) | (go_at_call 49; first | (refine (l1In_yes _ _ _ _ (by omega)).mono ?_; rintro e w' ⟨rfl, rfl⟩) | (refine (l1In_no _ _ _ _ (by omega)).mono ?_; rintro e w' ⟨rfl, rfl⟩)))
    all_goals (go_ret; exact ⟨⟨_, rfl, fun _ => .inr (.inl ⟨.inr (.inr (.inl rfl)), h1⟩)⟩, (Below.refl _ _).alloc (Nat.le_refl _) _⟩)
  have e5 : (kind == 5) = false := by simp [k5]
  by_cases k7 : kind = 7
  · subst k7
    by_cases h1 : (0 ≤ id ∧ id ≤ 9999)
    rotate_left
    · skip
      go_enter Try.func26, Try.ntmps26
      go_wp2_with (first | (go_at_call 48; first | (refine (l12Field_yes _ _ (by omega)).mono ?_; rintro e w' ⟨rfl, rfl⟩) | (refine (l12Field_no _ _ (by omega)).mono ?_; rintro e w' ⟨rfl, rfl⟩)) | (go_at_call 49; first | (refine (l1In_yes _ _ _ _ (by omega)).mono ?_; rintro e w' ⟨rfl, rfl⟩) | (refine (l1In_no _ _ _ _ (by omega)).mono ?_; rintro e w' ⟨rfl, rfl⟩)))
      all_goals (go_ret; exact ⟨⟨_, rfl, fun h => by first | (cases h) | (exact absurd h (by simp))⟩, (Below.refl _ _).alloc (Nat.le_refl _) _⟩)
    go_enter Try.func26, Try.ntmps26
    go_wp2_with (first | (go_at_call 48; first | (refine (l12Field_yes _ _ (by omega)).mono ?_; rintro e w' ⟨rfl, rfl⟩) | (refine (l12Field_no _ _ (by omega)).mono ?_; rintro e w' ⟨rfl, rfl⟩)) | (go_at_call 49; first | (refine (l1In_yes _ _ _ _ (by omega)).mono ?_; rintro e w' ⟨rfl, rfl⟩) | (refine (l1In_no _ _ _ _ (by omega)).mono ?_; rintro e w' ⟨rfl, rfl⟩)))
    all_goals (go_ret; exact ⟨⟨_, rfl, fun _ => .inr (.inl ⟨.inr (.inr (.inr rfl)), h1⟩)⟩, (Below.refl _ _).alloc (Nat.le_refl _) _⟩)
  have e7 : (kind == 7) = false := by simp [k7]
  by_cases k3 : kind = 3
  · subst k3
    by_cases h1 : (0 ≤ cabin ∧ cabin ≤ 9999)
    rotate_left
    · skip
      go_enter Try.func26, Try.ntmps26
      go_wp2_with (first | (go_at_call 48; first | (refine (l12Field_yes _ _ (by omega)).mono ?_; rintro e w' ⟨rfl, rfl⟩) | (refine (l12Field_no _ _ (by omega)).mono ?_; rintro e w' ⟨rfl, rfl⟩)) | (go_at_call 49; first | (refine (l1In_yes _ _ _ _ (by omega)).mono ?_; rintro e w' ⟨rfl, rfl⟩) | (refine (l1In_no _ _ _ _ (by omega)).mono ?_; rintro e w' ⟨rfl, rfl⟩)))
      all_goals (go_ret; exact ⟨⟨_, rfl, fun h => by first | (cases h) | (exact absurd h (by simp))⟩, (Below.refl _ _).alloc (Nat.le_refl _) _⟩)
    by_cases h2 : (0 ≤ size ∧ size ≤ 9999)
    rotate_left
    · skip
      go_enter Try.func26, Try.ntmps26
      go_wp2_with (first | (go_at_call 48; first | (refine (l12Field_yes _ _ (by omega)).mono ?_; rintro e w' ⟨rfl, rfl⟩) | (refine (l12Field_no _ _ (by omega)).mono ?_; rintro e w' ⟨rfl, rfl⟩)) | (go_at_call 49; first | (refine (l1In_yes _ _ _ _ (by omega)).mono ?_; rintro e w' ⟨rfl, rfl⟩) | (refine (l1In_no _ _ _ _ (by omega)).mono ?_; rintro e w' ⟨rfl, rfl⟩)))
      all_goals (go_ret; exact ⟨⟨_, rfl, fun h => by first | (cases h) | (exact absurd h (by simp))⟩, (Below.refl _ _).alloc (Nat.le_refl _) _⟩)
    go_enter Try.func26, Try.ntmps26
    go_wp2_with (first | (go_at_call 48; first | (refine (l12Field_yes _ _ (by omega)).mono ?_; rintro e w' ⟨rfl, rfl⟩) | (refine (l12Field_no _ _ (by omega)).mono ?_; rintro e w' ⟨rfl, rfl⟩)) | (go_at_call 49; first | (refine (l1In_yes _ _ _ _ (by omega)).mono ?_; rintro e w' ⟨rfl, rfl⟩) | (refine (l1In_no _ _ _ _ (by omega)).mono ?_; rintro e w' ⟨rfl, rfl⟩)))
    all_goals (go_ret; exact ⟨⟨_, rfl, fun _ => .inr (.inr (.inl ⟨rfl, h1, h2⟩))⟩, (Below.refl _ _).alloc (Nat.le_refl _) _⟩)
  have e3 : (kind == 3) = false := by simp [k3]
  by_cases k6 : kind = 6
  · subst k6
    go_enter Try.func26, Try.ntmps26
    go_wp2_with (first | (go_at_call 48; first | (refine (l12Field_yes _ _ (by omega)).mono ?_; rintro e w' ⟨rfl, rfl⟩) | (refine (l12Field_no _ _ (by omega)).mono ?_; rintro e w' ⟨rfl, rfl⟩)) | (go_at_call 49; first | (refine (l1In_yes _ _ _ _ (by omega)).mono ?_; rintro e w' ⟨rfl, rfl⟩) | (refine (l1In_no _ _ _ _ (by omega)).mono ?_; rintro e w' ⟨rfl, rfl⟩)))
    all_goals (go_ret; exact ⟨⟨_, rfl, fun _ => .inr (.inr (.inr rfl))⟩, (Below.refl _ _).alloc (Nat.le_refl _) _⟩)
  have e6 : (kind == 6) = false := by simp [k6]
  go_enter Try.func26, Try.ntmps26
  go_wp2_with (first | (go_at_call 48; first | (refine (l12Field_yes _ _ (by omega)).mono ?_; rintro e w' ⟨rfl, rfl⟩) | (refine (l12Field_no _ _ (by omega)).mono ?_; rintro e w' ⟨rfl, rfl⟩)) | (go_at_call 49; first | (refine (l1In_yes _ _ _ _ (by omega)).mono ?_; rintro e w' ⟨rfl, rfl⟩) | (refine (l1In_no _ _ _ _ (by omega)).mono ?_; rintro e w' ⟨rfl, rfl⟩)))
  all_goals (go_ret; exact ⟨⟨_, rfl, fun h => by first | (cases h) | (exact absurd h (by simp))⟩, (Below.refl _ _).alloc (Nat.le_refl _) _⟩)
end Go.Proofs.Ytohpegblbikbdaa
