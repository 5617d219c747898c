/- cmp.Compare, cmp.Or, within, slices.Index and Contains over ints of the program. -/
import Derived.Test.YtlflgflmlfileaaRows
import Derived.Test.YtlflgflmlfileaaRowX
import Derived.Test.YtlflgflmlfileaaHs6
import Derived.Test.YtlflgflmlfileaaSameI
namespace Go.Proofs.Ytlflgflmlfileaa
open Go.RowKit
set_option linter.unusedSimpArgs false
set_option linter.unusedVariables false
/-- What cmp.Compare returns. -/
def cmpV (a b : Int) : Int := if a < b then -1 else if b < a then 1 else 0
set_option maxRecDepth 100000 in
set_option maxHeartbeats 800000 in
theorem compare_im (a b : Int) (w : World) : Calls Try.prog 112 #[.int .i64 a, .int .i64 b] w fun e w' => e = .returned (.int .i64 (cmpV a b)) ∧ w = w' := by
  by_cases h1 : a < b
  · have H : Hid (cmpV a b = -1) := by show _ = _; unfold cmpV; rw [if_pos h1]
    go_enter Try.func112, Try.ntmps112
    go_wp2
    go_ret
    exact ⟨by rw [H.out] <;> rfl, rfl⟩
  by_cases h2 : b < a
  · have H : Hid (cmpV a b = 1) := by show _ = _; unfold cmpV; rw [if_neg h1, if_pos h2]
    go_enter Try.func112, Try.ntmps112
    go_wp2
    go_ret
    exact ⟨by rw [H.out] <;> rfl, rfl⟩
  · have H : Hid (cmpV a b = 0) := by show _ = _; unfold cmpV; rw [if_neg h1, if_neg h2]
    go_enter Try.func112, Try.ntmps112
    go_wp2
    go_ret
    exact ⟨by rw [H.out] <;> rfl, rfl⟩
/-- cmp.Or of two numbers. -/
def orV (a b : Int) : Int := if a = 0 then b else a
set_option maxRecDepth 100000 in
set_option maxHeartbeats 800000 in
theorem or_im (b off : Nat) (x y : Int) (w : World) (hx : w.cell? ⟨b, off, none⟩ = some (.int .i64 x)) (hy : w.cell? ⟨b, off + 1, none⟩ = some (.int .i64 y)) :
    Calls Try.prog 111 #[.slice (some ⟨b, off, none⟩) 2 2] w fun e w' => e = .returned (.int .i64 (orV x y)) ∧ w = w' := by
  by_cases h1 : x = 0
  · subst h1
    by_cases h2 : y = 0
    · subst h2
      go_enter Try.func111, Try.ntmps111
      go_wp2
      refine wp_loop_rounds 3 ?_
      iterate 3 (rw [rounds_succ]; go_wp2)
      go_ret
      exact ⟨rfl, rfl⟩
    · have H : Hid (orV 0 y = y) := if_pos rfl
      have h2' : (y == 0) = false := by simp [h2]
      go_enter Try.func111, Try.ntmps111
      go_wp2
      refine wp_loop_rounds 3 ?_
      iterate 2 (rw [rounds_succ]; go_wp2)
      go_ret
      exact ⟨by rw [H.out] <;> rfl, rfl⟩
  · have H : Hid (orV x y = x) := if_neg h1
    have h1' : (x == 0) = false := by simp [h1]
    go_enter Try.func111, Try.ntmps111
    go_wp2
    refine wp_loop_rounds 3 ?_
    rw [rounds_succ]; go_wp2
    go_ret
    exact ⟨by rw [H.out] <;> rfl, rfl⟩
set_option maxRecDepth 100000 in
theorem exec_two_int {ρ : Operand → Value} {o : Oper} {x y : Operand} (X Y : Int) (w : World) (ho : o.op = .buildSlice 32 2 #[(0, x), (1, y)] := by rfl) (hx : ρ x = .int .i64 X := by rfl) (hy : ρ y = .int .i64 Y := by rfl) :
    (execOp ρ o).run Try.prog w = .ok (.value (.slice (some ⟨w.heap.size, 0, none⟩) 2 2)) (w.alloc (.cells #[.int .i64 X, .int .i64 Y] 3)) := by
  unfold execOp
  rw [ho]
  simp [go_sem, hx, hy]
theorem cell_new2 (w : World) (x y : Value) (t : TypeId) (k : Nat) (hk : k < 2) : (w.alloc (.cells #[x, y] t)).cell? ⟨w.heap.size, 0 + k, none⟩ = some (#[x, y].getD k x) := by
  rcases (show k = 0 ∨ k = 1 by omega) with rfl | rfl <;> simp
set_option maxRecDepth 100000 in
theorem within_any (x a b : Int) (w : World) : Calls Try.prog 97 #[.int .i64 x, .int .i64 a, .int .i64 b] w fun e w' => e = .returned (.bool (decide (a ≤ x ∧ x ≤ b))) ∧ w = w' := by
  by_cases h1 : a ≤ x <;> by_cases h2 : x ≤ b
  all_goals
    go_enter Try.func97, Try.ntmps97
    go_wp2
    go_ret
    exact ⟨by simp [h1, h2], rfl⟩
set_option maxRecDepth 100000 in
theorem within_yes (x a b : Int) (w : World) (h : a ≤ x ∧ x ≤ b) : Calls Try.prog 97 #[.int .i64 x, .int .i64 a, .int .i64 b] w fun e w' => e = .returned (.bool true) ∧ w = w' :=
  (within_any x a b w).mono fun e w' ⟨he, hw⟩ => ⟨by rw [he]; simp [h], hw⟩
set_option maxRecDepth 100000 in
theorem within_no (x a b : Int) (w : World) (h : ¬ (a ≤ x ∧ x ≤ b)) : Calls Try.prog 97 #[.int .i64 x, .int .i64 a, .int .i64 b] w fun e w' => e = .returned (.bool false) ∧ w = w' :=
  (within_any x a b w).mono fun e w' ⟨he, hw⟩ => ⟨by rw [he]; simp only [h, decide_false], hw⟩
set_option maxRecDepth 100000 in
set_option maxHeartbeats 800000 in
theorem index_im (A : Option Addr) (l : List Int) (c : Nat) (z : Int) (w : World) (hl : l.length ≤ 2097152) (hA : Rws w w.heap.size A (ints l)) :
    Calls Try.prog 93 #[.slice A l.length c, .int .i64 z] w fun e w' => (∃ r : Int, e = .returned (.int .i64 r) ∧ decide (0 ≤ r) = decide (z ∈ l)) ∧ w = w' := by
  go_enter Try.func93, Try.ntmps93
  go_wp2
  go_loop [8] (fun i => ∃ k : Nat, k ≤ l.length ∧ i = .int .i64 k ∧ (∀ j, j < k → l.getD j 0 ≠ z)) (fun i => l.length - (intOf i).toNat)
  case atStart => exact ⟨0, by omega, rfl, (fun j hj => by omega)⟩
  case round =>
    obtain ⟨k, hk, rfl, hall⟩ := hrel
    by_cases hlt : k < l.length
    · obtain ⟨b, off, rfl, hbB, hc⟩ := hA.int hlt
      by_cases hx : l.getD k 0 = z
      · have HY : Hid (decide (z ∈ l) = true) := by
          show _ = _
          refine decide_eq_true ?_
          rw [← hx]; exact getD_mem l k 0 hlt
        clear hall
        generalize l.getD k 0 = x at *
        have e0 : (z == x) = true := by simp [hx]
        clear hx
        go_wp2
        go_ret
        exact ⟨⟨(k : Int), rfl, ⟨fun _ => of_decide_eq_true HY.out, fun _ => by omega⟩⟩, rfl⟩
      · have hall' : ∀ j, j < k + 1 → l.getD j 0 ≠ z := by
          intro j hj
          by_cases e : j = k
          · subst e; exact hx
          · exact hall j (by omega)
        have HA := Lib.hid hall'
        clear hall hall'
        generalize l.getD k 0 = x at *
        have e0 : (z == x) = false := by simp [Ne.symm hx]
        go_wp2
        go_round
        case rel => exact ⟨k + 1, by omega, by go_num, HA.out⟩
        case measure => simp [intOf]; omega
    · have HN : Hid (decide (z ∈ l) = false) := by
        show _ = _
        refine decide_eq_false (fun h => ?_)
        obtain ⟨j, hj, e⟩ := List.getElem_of_mem h
        have := hall j (by omega)
        rw [List.getD_eq_getElem?_getD, List.getElem?_eq_getElem hj] at this
        exact this e
      clear hall
      go_wp2
      go_ret
      exact ⟨⟨-1, rfl, ⟨fun h => absurd h (by omega), fun h => absurd h (of_decide_eq_false HN.out)⟩⟩, rfl⟩
set_option maxRecDepth 100000 in
set_option maxHeartbeats 800000 in
theorem contains_im (A : Option Addr) (l : List Int) (c : Nat) (z : Int) (w : World) (hl : l.length ≤ 2097152) (hA : Rws w w.heap.size A (ints l)) :
    Calls Try.prog 67 #[.slice A l.length c, .int .i64 z] w fun e w' => e = .returned (.bool (decide (z ∈ l))) ∧ w = w' := by
  have C := Lib.hid (index_im A l c z w hl hA)
  go_enter Try.func67, Try.ntmps67
  go_wp2_with fail
  refine C.out.mono ?_
  rintro e w1 ⟨⟨r, rfl, hr⟩, rfl⟩
  have HR := Lib.hid hr
  clear hr C
  go_wp2
  go_ret
  exact ⟨by rw [← HR.out] <;> rfl, rfl⟩
/-- Where a search ends: the first place, or the end. -/
def endV {α : Type} (p : α → Bool) (l : List α) : Nat := (l.findIdx? p).getD l.length
theorem endV_le {α : Type} (p : α → Bool) (l : List α) : endV p l ≤ l.length := by
  unfold endV
  cases h : l.findIdx? p with
  | none => simp
  | some k =>
    have := (List.findIdx?_eq_some_iff_getElem.1 h).1
    simp; omega
theorem endV_no {α : Type} (p : α → Bool) (l : List α) (h : idxV (l.findIdx? p) < 0) : (endV p l : Int) = (l.length : Int) := by
  unfold endV
  cases hf : l.findIdx? p with
  | none => simp
  | some k => rw [hf] at h; simp [idxV] at h; omega
theorem endV_yes {α : Type} (p : α → Bool) (l : List α) (h : ¬ idxV (l.findIdx? p) < 0) : idxV (l.findIdx? p) = (endV p l : Int) := by
  unfold endV
  cases hf : l.findIdx? p with
  | none => rw [hf] at h; simp [idxV] at h
  | some k => simp [idxV]
end Go.Proofs.Ytlflgflmlfileaa
