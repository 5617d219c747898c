/- The order of pins; slices.Clone, earliest; copiedWheel, WheelNew of the program. -/
import Derived.Test.YtflomkebgiemaaaRows
import Derived.Test.YtflomkebgiemaaaWhMa
import Derived.Lib.AppendZeros
import Derived.Lib.BufferMore
namespace Go.Proofs.Ytflomkebgiemaaa
open Go.RowKit
set_option linter.unusedSimpArgs false
set_option linter.unusedVariables false
/-- What cmp.Compare returns. -/
def cmpV (a b : Int) : Int := if a < b then -1 else if b < a then 1 else 0
set_option maxRecDepth 100000 in
set_option maxHeartbeats 800000 in
theorem compare_im (a b : Int) (w : World) : Calls Try.prog 85 #[.int .i64 a, .int .i64 b] w fun e w' => e = .returned (.int .i64 (cmpV a b)) ∧ w = w' := by
  by_cases h1 : a < b
  · have H : Hid (cmpV a b = -1) := by show _ = _; unfold cmpV; rw [if_pos h1]
    go_enter Try.func85, Try.ntmps85
    go_wp2
    go_ret
    exact ⟨by rw [H.out] <;> rfl, rfl⟩
  by_cases h2 : b < a
  · have H : Hid (cmpV a b = 1) := by show _ = _; unfold cmpV; rw [if_neg h1, if_pos h2]
    go_enter Try.func85, Try.ntmps85
    go_wp2
    go_ret
    exact ⟨by rw [H.out] <;> rfl, rfl⟩
  · have H : Hid (cmpV a b = 0) := by show _ = _; unfold cmpV; rw [if_neg h1, if_neg h2]
    go_enter Try.func85, Try.ntmps85
    go_wp2
    go_ret
    exact ⟨by rw [H.out] <;> rfl, rfl⟩
/-- cmp.Or of two numbers. -/
def orV (a b : Int) : Int := if a = 0 then b else a
set_option maxRecDepth 100000 in
set_option maxHeartbeats 800000 in
theorem or_im (b off : Nat) (x y : Int) (w : World) (hx : w.cell? ⟨b, off, none⟩ = some (.int .i64 x)) (hy : w.cell? ⟨b, off + 1, none⟩ = some (.int .i64 y)) :
    Calls Try.prog 84 #[.slice (some ⟨b, off, none⟩) 2 2] w fun e w' => e = .returned (.int .i64 (orV x y)) ∧ w = w' := by
  by_cases h1 : x = 0
  · subst h1
    by_cases h2 : y = 0
    · subst h2
      go_enter Try.func84, Try.ntmps84
      go_wp2
      refine wp_loop_rounds 3 ?_
      iterate 3 (rw [rounds_succ]; go_wp2)
      go_ret
      exact ⟨rfl, rfl⟩
    · have H : Hid (orV 0 y = y) := if_pos rfl
      have h2' : (y == 0) = false := by simp [h2]
      go_enter Try.func84, Try.ntmps84
      go_wp2
      refine wp_loop_rounds 3 ?_
      iterate 2 (rw [rounds_succ]; go_wp2)
      go_ret
      exact ⟨by rw [H.out] <;> rfl, rfl⟩
  · have H : Hid (orV x y = x) := if_neg h1
    have h1' : (x == 0) = false := by simp [h1]
    go_enter Try.func84, Try.ntmps84
    go_wp2
    refine wp_loop_rounds 3 ?_
    rw [rounds_succ]; go_wp2
    go_ret
    exact ⟨by rw [H.out] <;> rfl, rfl⟩
set_option maxRecDepth 100000 in
theorem exec_two_int {ρ : Operand → Value} {o : Oper} {x y : Operand} (X Y : Int) (w : World) (ho : o.op = .buildSlice 66 2 #[(0, x), (1, y)] := by rfl) (hx : ρ x = .int .i64 X := by rfl) (hy : ρ y = .int .i64 Y := by rfl) :
    (execOp ρ o).run Try.prog w = .ok (.value (.slice (some ⟨w.heap.size, 0, none⟩) 2 2)) (w.alloc (.cells #[.int .i64 X, .int .i64 Y] 3)) := by
  unfold execOp
  rw [ho]
  simp [go_sem, hx, hy]
theorem cell_new2 (w : World) (x y : Value) (t : TypeId) (k : Nat) (hk : k < 2) : (w.alloc (.cells #[x, y] t)).cell? ⟨w.heap.size, 0 + k, none⟩ = some (#[x, y].getD k x) := by
  rcases (show k = 0 ∨ k = 1 by omega) with rfl | rfl <;> simp
set_option maxRecDepth 100000 in
theorem within_any (x a b : Int) (w : World) : Calls Try.prog 83 #[.int .i64 x, .int .i64 a, .int .i64 b] w fun e w' => e = .returned (.bool (decide (a ≤ x ∧ x ≤ b))) ∧ w = w' := by
  by_cases h1 : a ≤ x <;> by_cases h2 : x ≤ b
  all_goals
    go_enter Try.func83, Try.ntmps83
    go_wp2
    go_ret
    exact ⟨by simp [h1, h2], rfl⟩
set_option maxRecDepth 100000 in
theorem within_yes (x a b : Int) (w : World) (h : a ≤ x ∧ x ≤ b) : Calls Try.prog 83 #[.int .i64 x, .int .i64 a, .int .i64 b] w fun e w' => e = .returned (.bool true) ∧ w = w' :=
  (within_any x a b w).mono fun e w' ⟨he, hw⟩ => ⟨by rw [he]; simp [h], hw⟩
set_option maxRecDepth 100000 in
theorem within_no (x a b : Int) (w : World) (h : ¬ (a ≤ x ∧ x ≤ b)) : Calls Try.prog 83 #[.int .i64 x, .int .i64 a, .int .i64 b] w fun e w' => e = .returned (.bool false) ∧ w = w' :=
  (within_any x a b w).mono fun e w' ⟨he, hw⟩ => ⟨by rw [he]; simp only [h, decide_false], hw⟩
set_option maxRecDepth 100000 in
theorem exec_fldPn {ρ : Operand → Value} {o : Oper} {x : Operand} (b off f : Nat) (w : World) (hf : f < 2) (ho : o.op = .fieldAddr 33 x f := by rfl) (hx : ρ x = .pointer (some ⟨b, off, none⟩) := by rfl) :
    (execOp ρ o).run Try.prog w = .ok (.value (.pointer (some ⟨b, off + f, none⟩))) w := by
  unfold execOp
  rw [ho]
  match f, hf with
  | 0, _ | 1, _ => simp [go_sem, hx]
instance (x : Pn) : Decidable x.inn := by unfold Pn.inn; infer_instance
/-- The order of pins as a number. -/
def ordP (a b : Pn) : Int := orV (cmpV a.at_ b.at_) (cmpV a.id b.id)
set_option maxRecDepth 100000 in
set_option maxHeartbeats 1600000 in
theorem pinOrder_im (a b : Pn) (w : World) : Calls Try.prog 56 #[pnA a, pnA b] w fun e w' => e = .returned (.int .i64 (ordP a b)) ∧ Below w.heap.size w w' := by
  obtain ⟨W, hW⟩ : ∃ W, (w.alloc (.cells #[.int .i64 a.at_, .int .i64 a.id] 33)).alloc (.cells #[.int .i64 b.at_, .int .i64 b.id] 33) = W := ⟨_, rfl⟩
  have b0 : Hid (Below w.heap.size w W) := by
    show Below _ _ _
    rw [← hW]; exact ((Below.refl _ _).alloc (Nat.le_refl _) _).alloc (by simp) _
  have hWs : W.heap.size = w.heap.size + 2 := by rw [← hW]; simp
  have g1 : W.heap[w.heap.size]? = some (.cells #[.int .i64 a.at_, .int .i64 a.id] 33) := by rw [← hW]; exact blk_alloc (heap_new _ _) _
  have g2 : W.heap[w.heap.size + 1]? = some (.cells #[.int .i64 b.at_, .int .i64 b.id] 33) := by
    rw [← hW]
    have := heap_new (w.alloc (.cells #[.int .i64 a.at_, .int .i64 a.id] 33)) (.cells #[.int .i64 b.at_, .int .i64 b.id] 33)
    simpa using this
  have HA := Lib.hid (fun w' (h : Below W.heap.size W w') => Pn.here.blk (blk_call g1 h))
  have HB := Lib.hid (fun w' (h : Below W.heap.size W w') => Pn.here.blk (blk_call g2 h))
  clear g1 g2
  unfold pnA
  go_enter Try.func56, Try.ntmps56
  go_wp2_with fail
  clear hW
  refine wp_region_held_drew (S := fun w' => Hid (Below W.heap.size W w')) (by kernel_rfl) (below_drawn (Below.refl _ _) 1) (fun hHeld => ?_)
  refine held_take 0 5 (.pointer (some ⟨w.heap.size, 0, none⟩)) rfl rfl (by kernel_rfl) (by kernel_rfl) (by kernel_rfl) (fun _ _ _ h => h) rfl hHeld (fun w _ => exec_fldPn _ 0 0 w (by omega)) ?_
  refine held_take 1 6 (.int .i64 a.at_) rfl rfl (by kernel_rfl) (by kernel_rfl) (by kernel_rfl) (fun _ _ _ h => h) rfl hHeld (fun w h => exec_load1 3 _ 0 _ w (.inl rfl) (HA.out w h.out).1) ?_
  simp only [Act.put, List.setIfInBounds_toArray, List.set_cons_zero, List.set_cons_succ]
  refine held_take 2 7 (.pointer (some ⟨w.heap.size + 1, 0, none⟩)) rfl rfl (by kernel_rfl) (by kernel_rfl) (by kernel_rfl) (fun _ _ _ h => h) rfl hHeld (fun w _ => exec_fldPn _ 0 0 w (by omega)) ?_
  refine held_take 3 8 (.int .i64 b.at_) rfl rfl (by kernel_rfl) (by kernel_rfl) (by kernel_rfl) (fun _ _ _ h => h) rfl hHeld (fun w h => exec_load1 3 _ 0 _ w (.inl rfl) (HB.out w h.out).1) ?_
  simp only [Act.put, List.setIfInBounds_toArray, List.set_cons_zero, List.set_cons_succ]
  refine held_take 5 10 (.pointer (some ⟨w.heap.size, 1, none⟩)) rfl rfl (by kernel_rfl) (by kernel_rfl) (by kernel_rfl) (fun _ _ _ h => h) rfl hHeld (fun w _ => exec_fldPn _ 0 1 w (by omega)) ?_
  refine held_take 6 11 (.int .i64 a.id) rfl rfl (by kernel_rfl) (by kernel_rfl) (by kernel_rfl) (fun _ _ _ h => h) rfl hHeld (fun w h => exec_load1 3 _ 1 _ w (.inl rfl) (HA.out w h.out).2) ?_
  simp only [Act.put, List.setIfInBounds_toArray, List.set_cons_zero, List.set_cons_succ]
  refine held_take 7 12 (.pointer (some ⟨w.heap.size + 1, 1, none⟩)) rfl rfl (by kernel_rfl) (by kernel_rfl) (by kernel_rfl) (fun _ _ _ h => h) rfl hHeld (fun w _ => exec_fldPn _ 0 1 w (by omega)) ?_
  refine held_take 8 13 (.int .i64 b.id) rfl rfl (by kernel_rfl) (by kernel_rfl) (by kernel_rfl) (fun _ _ _ h => h) rfl hHeld (fun w h => exec_load1 3 _ 1 _ w (.inl rfl) (HB.out w h.out).2) ?_
  simp only [Act.put, List.setIfInBounds_toArray, List.set_cons_zero, List.set_cons_succ]
  refine held_call 4 9 85 #[.int .i64 a.at_, .int .i64 b.at_] rfl rfl (by kernel_rfl) rfl (exec_call Try.func85 (by kernel_rfl) (by kernel_rfl) _) ?_
  refine (compare_im _ _ _).mono ?_
  rintro e u ⟨rfl, rfl⟩
  refine ⟨_, rfl, hHeld, ?_⟩
  simp only [Act.put, List.setIfInBounds_toArray, List.set_cons_zero, List.set_cons_succ]
  refine held_call 9 14 85 #[.int .i64 a.id, .int .i64 b.id] rfl rfl (by kernel_rfl) rfl (exec_call Try.func85 (by kernel_rfl) (by kernel_rfl) _) ?_
  refine (compare_im _ _ _).mono ?_
  rintro e u ⟨rfl, rfl⟩
  refine ⟨_, rfl, hHeld, ?_⟩
  have k1 := hHeld.out.alloc hHeld.out.size (.cells #[.int .i64 (cmpV a.at_ b.at_), .int .i64 (cmpV a.id b.id)] 3)
  simp only [Act.put, List.setIfInBounds_toArray, List.set_cons_zero, List.set_cons_succ]
  refine held_op 10 15 (.slice (some ⟨W.drew.heap.size, 0, none⟩) 2 2) rfl rfl (by kernel_rfl) rfl (exec_two_int _ _ _) (Lib.hid k1) ?_
  simp only [Act.put, List.setIfInBounds_toArray, List.set_cons_zero, List.set_cons_succ]
  refine held_call 11 16 84 #[.slice (some ⟨W.drew.heap.size, 0, none⟩) 2 2] rfl rfl (by kernel_rfl) rfl (exec_call Try.func84 (by kernel_rfl) (by kernel_rfl) _) ?_
  refine (or_im _ 0 _ _ _ (cell_new2 _ _ _ _ 0 (by omega)) (cell_new2 _ _ _ _ 1 (by omega))).mono ?_
  rintro e u ⟨rfl, rfl⟩
  refine ⟨_, rfl, Lib.hid k1, ?_⟩
  simp only [Act.put, List.setIfInBounds_toArray, List.set_cons_zero, List.set_cons_succ]
  refine held_op 12 4 (.int .i64 (orV (cmpV a.at_ b.at_) (cmpV a.id b.id))) rfl rfl (by kernel_rfl) rfl rfl (Lib.hid k1) ?_
  simp only [Act.put, List.setIfInBounds_toArray, List.set_cons_zero, List.set_cons_succ]
  refine wpAnyH_done (by kernel_rfl) ?_ _
  go_wp2
  go_ret
  exact ⟨rfl, b0.out.trans (k1.mono b0.out.size)⟩
theorem ordP_less (a b : Pn) : decide (ordP a b < 0) = decide (Pn.less a b) := by
  unfold ordP orV cmpV Pn.less
  by_cases h1 : a.at_ < b.at_
  · simp [h1]
  · by_cases h2 : b.at_ < a.at_
    · have h3 : ¬ a.at_ = b.at_ := by omega
      simp [h1, h2, h3]
    · have h3 : a.at_ = b.at_ := by omega
      by_cases h4 : a.id < b.id
      · simp [h3, h4]
      · by_cases h5 : b.id < a.id
        · simp [h3, h4, h5]
        · simp [h3, h4, h5]
set_option maxRecDepth 100000 in
set_option maxHeartbeats 800000 in
theorem pinOk_im (x : Pn) (w : World) : Calls Try.prog 53 #[pnA x] w fun e w' => e = .returned (.bool (decide x.inn)) ∧ Below w.heap.size w w' := by
  have b0 : Hid (Below w.heap.size w (w.alloc (.cells #[.int .i64 x.at_, .int .i64 x.id] 33))) := (Below.refl _ _).alloc (Nat.le_refl _) _
  unfold pnA
  by_cases h0 : 1 ≤ x.at_ ∧ x.at_ ≤ 1000008
  rotate_left
  · have HF : Hid (decide x.inn = false) := decide_eq_false (fun h => h0 h.1)
    go_enter Try.func53, Try.ntmps53
    go_wp2_with (go_at_call 83; first | (refine (within_yes _ _ _ _ (by omega)).mono ?_; rintro e w' ⟨rfl, rfl⟩) | (refine (within_no _ _ _ _ (by omega)).mono ?_; rintro e w' ⟨rfl, rfl⟩))
    go_ret
    exact ⟨by rw [HF.out] <;> rfl, b0.out⟩
  by_cases h1 : 1 ≤ x.id ∧ x.id ≤ 999
  rotate_left
  · have HF : Hid (decide x.inn = false) := decide_eq_false (fun h => h1 h.2)
    go_enter Try.func53, Try.ntmps53
    go_wp2_with (go_at_call 83; first | (refine (within_yes _ _ _ _ (by omega)).mono ?_; rintro e w' ⟨rfl, rfl⟩) | (refine (within_no _ _ _ _ (by omega)).mono ?_; rintro e w' ⟨rfl, rfl⟩))
    go_ret
    exact ⟨by rw [HF.out] <;> rfl, b0.out⟩
  · have HF : Hid (decide x.inn = true) := decide_eq_true ⟨h0, h1⟩
    go_enter Try.func53, Try.ntmps53
    go_wp2_with (go_at_call 83; first | (refine (within_yes _ _ _ _ (by omega)).mono ?_; rintro e w' ⟨rfl, rfl⟩) | (refine (within_no _ _ _ _ (by omega)).mono ?_; rintro e w' ⟨rfl, rfl⟩))
    go_ret
    exact ⟨by rw [HF.out] <;> rfl, b0.out⟩
set_option maxRecDepth 100000 in
set_option maxHeartbeats 800000 in
theorem spokeOf_im (x : Pn) (w : World) : Calls Try.prog 54 #[pnA x] w fun e w' => e = .returned (.int .i64 (x.at_.tmod 9)) ∧ Below w.heap.size w w' := by
  have b0 : Hid (Below w.heap.size w (w.alloc (.cells #[.int .i64 x.at_, .int .i64 x.id] 33))) := (Below.refl _ _).alloc (Nat.le_refl _) _
  have h1 : -9 < x.at_.tmod 9 ∧ x.at_.tmod 9 < 9 := ⟨Int.lt_tmod_of_pos _ (by omega), Int.tmod_lt_of_pos _ (by omega)⟩
  have h2 : IntKind.i64.wrap (x.at_.tmod 9) = x.at_.tmod 9 := by rw [IntKind.wrap_i64]; omega
  unfold pnA
  go_enter Try.func54, Try.ntmps54
  go_wp2
  go_ret
  refine ⟨?_, b0.out⟩
  first | rfl | (rw [h2]; rfl) | simp [h2]
set_option maxRecDepth 100000 in
set_option maxHeartbeats 800000 in
theorem growP_im (n : Nat) (w : World) (hn : n ≤ 1073741824) :
    Calls Try.prog 95 #[.slice none 0 0, .int .i64 (n : Int)] w (NewR 33 2 w 0 []) := by
  by_cases h0 : n = 0
  · subst h0
    have R : Hid (NewR 33 2 w 0 [] (.returned (.slice none 0 0)) w) := ⟨none, 0, rfl, World.ownsRow_nil _ _ _ _, Below.refl _ _⟩
    go_enter Try.func95, Try.ntmps95
    go_wp2
    go_ret
    exact R.out
  · obtain ⟨i0, hi, hz0, hz1, hz2⟩ := info_parts rowPin.inf
    have hpos : 0 < n := by omega
    have HR := Lib.hid (fun ty => Lib.run_append_nil_zeros (P := Try.prog) w 29 3 ty 33 i0 _ .i64 .i64 rowPin.ut Try.underlying3 hi hz0 n hpos (by rw [hz1]; omega) (by omega) (by rw [hz2]; omega))
    have hm : grownCap w n 0 33 ≤ maxLen := grownCap_le_maxLen _ _ _ _ (by unfold maxLen; omega)
    have hge := grownCap_ge w n 0 33
    have hO := World.ownsRow_made (base := w.heap.size) (e := 33) (size := 2) w.drew (Builtin.zeroCells (Value.agg #[.int .i64 0, .int .i64 0]).cells n ++ Builtin.zeroCells (Value.agg #[.int .i64 0, .int .i64 0]).cells (grownCap w n 0 33 - n)) (grownCap w n 0 33) (by simp) hm
      (by rw [Array.size_append, size_zeroCells, size_zeroCells]; show n * 2 + _ * 2 = _; omega)
    have hB : Below w.heap.size w (w.drew.alloc (.cells (Builtin.zeroCells (Value.agg #[.int .i64 0, .int .i64 0]).cells n ++ Builtin.zeroCells (Value.agg #[.int .i64 0, .int .i64 0]).cells (grownCap w n 0 33 - n)) 33)) := (Below.refl _ _).drew.alloc (by simp) _
    have R : Hid (NewR 33 2 w 0 [] (.returned (.slice (some ⟨w.heap.size, 0, none⟩) 0 (grownCap w n 0 33))) _) := ⟨_, _, rfl, hO, hB⟩
    clear hO hB hm
    generalize grownCap w n 0 33 = G at *
    generalize w.drew.alloc (.cells (Builtin.zeroCells (Value.agg #[.int .i64 0, .int .i64 0]).cells n ++ Builtin.zeroCells (Value.agg #[.int .i64 0, .int .i64 0]).cells (G - n)) 33) = W at *
    go_enter Try.func95, Try.ntmps95
    go_wp2_with (at_builtin; refine Lib.wpList_append_run _ rfl _ _ _ _ rfl _ _ rfl rfl _ _ (HR.out _) ?_)
    go_ret
    exact R.out
set_option maxRecDepth 100000 in
set_option maxHeartbeats 1600000 in
/-- slices.Concat of one slice of pins, which has just been laid in a row. -/
theorem concat1_im (s : Sp) (w : World) (hl : s.l.length ≤ 2097152) (hs : s.ok w) :
    Calls Try.prog 82 #[.slice (some ⟨w.heap.size, 0, none⟩) 1 1] (w.alloc (.cells #[.slice s.a s.l.length s.c] 29)) (NewR 33 2 w s.l.length (s.l.flatMap pnC)) := by
  have b0 : Below w.heap.size w (w.alloc (.cells #[.slice s.a s.l.length s.c] 29)) := (Below.refl _ _).alloc (Nat.le_refl _) _
  obtain ⟨W, hW⟩ : ∃ W, w.alloc (.cells #[.slice s.a s.l.length s.c] 29) = W := ⟨_, rfl⟩
  have hc : W.cell? ⟨w.heap.size, 0, none⟩ = some (.slice s.a s.l.length s.c) := by rw [← hW]; simp
  have hWs : W.heap.size = w.heap.size + 1 := by rw [← hW]; simp
  rw [hW] at b0 ⊢
  clear hW
  obtain ⟨sa, sc, sl⟩ := s
  obtain ⟨hp3, hcap, hp2⟩ := hs
  simp only at hl hp3 hcap hp2 hc
  have HB0 := Lib.hid b0
  have HWs := Lib.hid hWs
  have HR3 := Lib.hid hp3
  clear b0 hWs hp3
  go_enter Try.func82, Try.ntmps82
  go_wp2
  refine wp_loop_rounds 2 ?_
  iterate 2 (rw [rounds_succ]; go_wp2_with fail)
  have CG := Lib.hid (growP_im sl.length W (by omega))
  refine CG.out.mono ?_
  rintro e w1 ⟨GA, gc, rfl, o1, b1⟩
  have HO := Lib.hid o1
  have c1 := (b1.cell (p := ⟨w.heap.size, 0, none⟩) (by show w.heap.size < W.heap.size; rw [HWs.out]; omega)).trans hc
  have HB : Hid (Below w.heap.size w w1) := HB0.out.trans (b1.mono HB0.out.size)
  have HRR := Lib.hid (rws_below HR3.out HB.out)
  have hbs : W.heap.size ≤ w1.heap.size := b1.size
  clear CG o1 b1 hc
  go_wp2
  refine wp_loop_rounds 2 ?_
  rw [rounds_succ]
  go_wp2_with (at_builtin; refine wpList_appR rowPin _ rfl (.tmp 31) (.tmp 32) rfl W.heap.size _ 0 [] rfl HO.out _ sa sl.length sc (sl.flatMap pnC) rfl (flat_len pnC 2 pnC_len sl) HRR.out hp2 (pnC_one _) (by omega) hbs ?_)
  intro v2 w2 o2 g2
  have B2 : Hid (Below W.heap.size w1 w2) := (Below.refl _ _).grown g2 hbs (own_low HO.out)
  have c2 := (B2.out.cell (p := ⟨w.heap.size, 0, none⟩) (by show w.heap.size < W.heap.size; rw [HWs.out]; omega)).trans c1
  have R : Hid (NewR 33 2 w sl.length (sl.flatMap pnC) (.returned v2) w2) := by
    have h9 : w.heap.size ≤ W.heap.size := by rw [HWs.out]; omega
    refine NewR.of_own (own_weak ?_ h9) (HB.out.trans (B2.out.mono h9))
    have := o2; simpa using this
  clear o2 g2 HRR HO
  go_wp2
  rw [rounds_succ]
  go_wp2
  go_ret
  exact R.out
set_option maxRecDepth 100000 in
theorem exec_one_spk {ρ : Operand → Value} {o : Oper} {y : Operand} (s : Sp) (w : World) (ho : o.op = .buildSlice 24 1 #[(0, y)] := by rfl) (hy : ρ y = .slice s.a s.l.length s.c := by rfl) :
    (execOp ρ o).run Try.prog w = .ok (.value (.slice (some ⟨w.heap.size, 0, none⟩) 1 1)) (w.alloc (.cells #[.slice s.a s.l.length s.c] 29)) := by
  unfold execOp
  rw [ho]
  simp [go_sem, hy]
theorem made_one (v : Value) (hv : v.cells = #[v]) (n : Nat) : (madeCells v.cells n).toList = List.replicate n v := by
  rw [hv]
  refine List.ext_getElem (by simp [madeCells]) ?_
  intro i h1 h2
  simp [madeCells, Nat.mod_one]
set_option maxRecDepth 100000 in
set_option maxHeartbeats 1600000 in
theorem wheelNew_impl (w : World) : Calls Try.prog 30 #[] w (NewX w nineW) := by
  obtain ⟨i0, hi, hz0, hz1, hz2⟩ := info_parts rowSpk.inf
  have b0 : Below w.heap.size w (w.alloc (.cells #[.slice none 0 0] 26)) := (Below.refl _ _).alloc (Nat.le_refl _) _
  obtain ⟨u, hu⟩ : ∃ u, w.alloc (.cells #[.slice none 0 0] 26) = u := ⟨_, rfl⟩
  have g0 : u.heap[w.heap.size]? = some (.cells #[.slice none 0 0] 26) := by rw [← hu]; exact heap_new _ _
  have hus : u.heap.size = w.heap.size + 1 := by rw [← hu]; simp
  rw [hu] at b0
  have HU := Lib.hid hu
  clear hu
  obtain ⟨w1, hmk, o1, g1⟩ := run_make_full (P := Try.prog) u u.heap.size 24 29 i0 _ 1 Try.underlying24 hi hz0 hz1 .i64 .i64 9 (by rw [hz2]; omega) (by unfold maxLen; omega) (Nat.le_refl _)
  have b1 : Below u.heap.size u w1 := (Below.refl _ _).grown g1 (Nat.le_refl _) (fun k hk => by cases hk)
  have hcells : (madeCells (Value.cells (.slice none 0 0)) (9 * 1)).toList = (List.replicate 9 sp0).flatMap spC := by rw [made_one _ rfl]; rfl
  rw [hcells] at o1
  have gw := blk_call g0 b1
  have hc := cell_of_one gw
  have hz := free_of_one gw
  have hO : OwnW w1 u.heap.size (some ⟨u.heap.size, 0, none⟩) 9 (List.replicate 9 sp0) := ⟨o1, fun s hs => by have := List.eq_of_mem_replicate hs; subst this; exact World.ownsRow_nil _ _ _ _⟩
  have R : Hid (NewX w nineW (.returned (.agg #[.slice (some ⟨u.heap.size, 0, none⟩) 9 9])) (w1.setCell ⟨w.heap.size, 0, none⟩ (.slice (some ⟨u.heap.size, 0, none⟩) 9 9))) :=
    ⟨_, _, List.replicate 9 sp0, by simp, rfl, (hO.put gw (by decide) (by decide) 0 _).weak (by omega), (fun i j _ hj g h1 => by
      rw [List.length_replicate] at hj
      have : (List.replicate 9 sp0).getD i sp0 = sp0 := by simp only [List.getD_eq_getElem?_getD, List.getElem?_replicate]; split <;> rfl
      rw [this] at h1; cases h1), (b0.trans (b1.mono (by omega))).setCell (p := ⟨w.heap.size, 0, none⟩) (Nat.le_refl _) _⟩
  clear hi hz0 hz1 hz2 g1 hcells hO o1 gw g0 b0
  have hus2 := Lib.hid hus
  replace hmk : Sem.run Try.prog (Instr.makeSlice 24 (.int .i64 9) (.int .i64 9)) u = .ok (.slice (some ⟨u.heap.size, 0, none⟩) 9 9) w1 := hmk
  generalize u.heap.size = G at *
  clear hus
  go_enter Try.func30, Try.ntmps30
  go_wp2_with fail
  rw [HU.out]
  go_wp2
  rw [hmk]
  go_wp2
  have hq : (w1.setCell ⟨w.heap.size, 0, none⟩ (.slice (some ⟨G, 0, none⟩) 9 9)).cell? ⟨w.heap.size, 0, none⟩ = some (.slice (some ⟨G, 0, none⟩) 9 9) := World.cell?_setCell_same _ _ _ hc
  simp [bodyPost, results, Try.results30, go_sem, hq]
  exact R.out
set_option maxRecDepth 100000 in
set_option maxHeartbeats 3200000 in
theorem copied_im (A : Option Addr) (sp : List Sp) (c : Nat) (w : World) (hn : sp.length ≤ 1048577) (hl : (allPn sp).length ≤ 1048577) (hA : Whl w A sp) :
    Calls Try.prog 52 #[.agg #[.slice A sp.length c]] w (NewX w (sp.map (·.l))) := by
  obtain ⟨i0, hi, hz0, hz1, hz2⟩ := info_parts rowSpk.inf
  obtain ⟨W, hW⟩ : ∃ W, (w.alloc (.cells #[.slice A sp.length c] 26)).alloc (.cells #[.slice none 0 0] 26) = W := ⟨_, rfl⟩
  obtain ⟨t1, t2, bW⟩ : W.heap[w.heap.size]? = some (.cells #[.slice A sp.length c] 26) ∧ W.heap[w.heap.size + 1]? = some (.cells #[.slice none 0 0] 26) ∧ Below w.heap.size w W := by rw [← hW]; exact two_at w _ _ _ (Below.refl _ _)
  have hWs : W.heap.size = w.heap.size + 2 := by rw [← hW]; simp
  obtain ⟨w1, hmk, o1, g1⟩ := run_make_full (P := Try.prog) W W.heap.size 24 29 i0 _ 1 Try.underlying24 hi hz0 hz1 .i64 .i64 sp.length (by rw [hz2]; omega) (by unfold maxLen; omega) (Nat.le_refl _)
  have b1 : Below W.heap.size W w1 := (Below.refl _ _).grown g1 (Nat.le_refl _) (fun k hk => by cases hk)
  have hZ := o1.1
  generalize hZe : (madeCells (Value.cells (.slice none 0 0)) (sp.length * 1)).toList = Z at *
  clear hi hz0 hz1 hz2 g1 hZe
  rw [Nat.mul_one] at hZ
  have u1 := Lib.hid (blk_call t1 b1)
  have u2 := Lib.hid (blk_call t2 b1)
  have HBW : Hid (Below w.heap.size w w1) := bW.trans (b1.mono (by omega))
  have q0 := cell_of_one t1
  have hwx := Lib.hid hWs
  have HW := Lib.hid hW
  clear hW
  have hA1 := Lib.hid (fun u (h : Below w.heap.size w u) => hA.below h)
  clear hA
  have hR0 := (hA1.out _ HBW.out).row
  have x0 : w1.cell? ⟨w.heap.size, 0, none⟩ = some (.slice A sp.length c) := (b1.cell (p := ⟨w.heap.size, 0, none⟩) (by show w.heap.size < W.heap.size; omega)).trans q0
  clear hWs hR0 t1 t2 bW
  go_enter Try.func52, Try.ntmps52
  go_wp2_with fail
  rw [HW.out]
  clear HW
  go_wp2
  rw [hmk]
  go_wp2
  go_loopw [13] (fun i wr => ∃ (k : Nat) (sq : List Sp), k ≤ sp.length ∧ i = .int .i64 k ∧ sq.length = k ∧ Hid (sq.map (·.l) = (sp.take k).map (·.l)) ∧ Hid (wr.ownsRow W.heap.size 29 1 (.slice (some ⟨W.heap.size, 0, none⟩) sp.length sp.length) sp.length (halfS Z sq)) ∧ Hid (∀ s ∈ sq, s.own wr W.heap.size) ∧ Hid (ApartW sq) ∧ Hid (Below w.heap.size w wr) ∧ Hid (wr.heap[w.heap.size + 1]? = some (.cells #[.slice none 0 0] 26))) (fun i _ => sp.length - (intOf i).toNat)
  case atStart => exact ⟨0, [], by omega, rfl, rfl, rfl, (by show World.ownsRow _ _ _ _ _ _ _; simpa [halfS] using o1), (fun s hs => by cases hs), ApartW.nil, HBW, u2⟩
  case round =>
    clear hmk o1 b1 x0 u1 u2 HBW q0
    obtain ⟨k, sq, hk, rfl, hsk, hmap, hown, hin, hap, hb, hres⟩ := hrel
    by_cases hlt : k < sp.length
    · have hW := hA1.out _ hb.out
      have hs := hW.at_ hlt
      obtain ⟨b, off, rfl, hbB, hc⟩ := hW.row.sp hlt
      have hsl := at_le_all sp hlt
      have HM : Hid (∀ s : Sp, s.l = (sp.getD k sp0).l → (sq ++ [s]).map (·.l) = (sp.take (k + 1)).map (·.l)) := fun s h => by
        rw [take_succ_getD sp k sp0 hlt, List.map_append, List.map_append, hmap.out]
        simp [h]
      generalize sp.getD k sp0 = s at *
      have C := Lib.hid (concat1_im s wr (by omega) hs)
      clear hs hW hmap
      obtain ⟨u, hu⟩ : ∃ u, wr.alloc (.cells #[.slice s.a s.l.length s.c] 29) = u := ⟨_, rfl⟩
      have bu : Hid (Below wr.heap.size wr u) := by show Below _ _ _; rw [← hu]; exact (Below.refl _ _).alloc (Nat.le_refl _) _
      rw [hu] at C
      have HU := Lib.hid hu
      clear hu
      go_wp2_with fail
      rw [HU.out]
      refine C.out.mono ?_
      rintro e w2 ⟨D, d, rfl, o2, b2⟩
      have O2 := Lib.hid o2
      have B2 := Lib.hid b2
      have own1 := own_below hown.out b2
      have hlh := halfS_len Z sq (by omega)
      obtain ⟨u0, hu0⟩ : ∃ u, w2.cell? ⟨W.heap.size, k, none⟩ = some u := by rw [own1.cellAt _ (by omega)]; exact ⟨_, List.getElem?_eq_getElem (by omega)⟩
      have hf0 := own1.frozenAt k
      have S0 := own1.stored k (.slice D s.l.length d)
      have hwz : w.heap.size ≤ W.heap.size := by have := hwx.out; omega
      have B3 : Hid (Below w.heap.size w (w2.setCell ⟨W.heap.size, k, none⟩ (.slice D s.l.length d))) := (hb.out.trans (b2.mono hb.out.size)).setCell (p := ⟨W.heap.size, k, none⟩) hwz _
      have SN : Hid ((w2.setCell ⟨W.heap.size, k, none⟩ (.slice D s.l.length d)).ownsRow W.heap.size 29 1 (.slice (some ⟨W.heap.size, 0, none⟩) sp.length sp.length) sp.length (halfS Z (sq ++ [⟨D, d, s.l⟩]))) := by
        have h1 := S0.1
        rw [← hsk] at h1
        rw [halfS_set Z sq ⟨D, d, s.l⟩ (by omega), hsk] at h1
        exact h1
      have hty : ∃ cur, w2.heap[W.heap.size]? = some (.cells cur 29 (0, 0)) := own_typed2 own1 W.heap.size rfl
      have hrw := (World.ownsRow.lt hown.out W.heap.size rfl).2
      have HI : Hid (∀ x ∈ sq ++ [⟨D, d, s.l⟩], Sp.own (w2.setCell ⟨W.heap.size, k, none⟩ (.slice D s.l.length d)) W.heap.size x) := by
        intro x hx
        obtain ⟨cur, hcur⟩ := hty
        have hx2 : x.own w2 W.heap.size := by
          rcases List.mem_append.1 hx with h | h
          · exact own_below (hin.out x h) b2
          · have : x = ⟨D, d, s.l⟩ := by simpa using h
            subst this
            exact own_weak o2 (by omega)
        exact hx2.kept (Go.Lib.grownBy_setCell w2 W.heap.size k _) (.inr (own_ne_type hx2 hcur (by decide)))
      have HP : Hid (ApartW (sq ++ [⟨D, d, s.l⟩])) := ApartW.one hap.out (fun x hx g h1 h2 => by
        have l1 := (World.ownsRow.lt (hin.out x hx) g (by rw [ownBlock_eq]; exact h1)).2
        have l2 := (World.ownsRow.lt o2 g (by rw [ownBlock_eq]; exact h2)).1
        omega)
      have HM2 := Lib.hid (HM.out ⟨D, d, s.l⟩ rfl)
      have r2 : w2.heap[w.heap.size + 1]? = _ := blk_call hres.out b2
      have HRS : Hid ((w2.setCell ⟨W.heap.size, k, none⟩ (.slice D s.l.length d)).heap[w.heap.size + 1]? = some (.cells #[.slice none 0 0] 26)) := (heap_set_ne w2 _ k _ (by have := hwx.out; omega)).trans r2
      clear o2 b2 own1 S0 hty C hin hap hown HM O2 B2 hc hres r2
      go_wp2
      go_roundw
      case rel => exact ⟨k + 1, sq ++ [⟨D, d, s.l⟩], by omega, by go_num, by simp [hsk], HM2, SN, HI, HP, B3, HRS⟩
      case measure => simp [intOf]; omega
    · obtain rfl : k = sp.length := by omega
      have hO : OwnW wr W.heap.size (some ⟨W.heap.size, 0, none⟩) sp.length sq := by
        refine ⟨?_, hin.out⟩
        have h1 := hown.out
        unfold halfS at h1
        rw [List.drop_of_length_le (by omega), List.append_nil] at h1
        rw [hsk]; exact h1
      have hr := hres.out
      have hc := cell_of_one hr
      have hz := free_of_one hr
      have R : Hid (NewX w (sp.map (·.l)) (.returned (.agg #[.slice (some ⟨W.heap.size, 0, none⟩) sp.length sp.length])) (wr.setCell ⟨w.heap.size + 1, 0, none⟩ (.slice (some ⟨W.heap.size, 0, none⟩) sp.length sp.length))) := by
        refine ⟨_, _, sq, by rw [hsk], ?_, (hO.put hr (by decide) (by decide) 0 _).weak (by have := hwx.out; omega), hap.out, hb.out.setCell (p := ⟨w.heap.size + 1, 0, none⟩) (by show _ ≤ _ + 1; omega) _⟩
        have := hmap.out; rw [List.take_length] at this; exact this
      have hq : Hid ((wr.setCell ⟨w.heap.size + 1, 0, none⟩ (.slice (some ⟨W.heap.size, 0, none⟩) sp.length sp.length)).cell? ⟨w.heap.size + 1, 0, none⟩ = some (.slice (some ⟨W.heap.size, 0, none⟩) sp.length sp.length)) := World.cell?_setCell_same _ _ _ hc
      clear hin hown hap hb hmap hO hr
      go_wp2
      simp [bodyPost, results, Try.results52, go_sem, hq.out]
      exact R.out
set_option maxRecDepth 100000 in
set_option maxHeartbeats 1600000 in
theorem cloneS_im (b off : Nat) (sp : List Sp) (c : Nat) (w : World) (h0 : 0 < sp.length) (hn : sp.length ≤ 1048577) (hA : Rws w w.heap.size (some ⟨b, off, none⟩) (sp.flatMap spC)) :
    Calls Try.prog 80 #[.slice (some ⟨b, off, none⟩) sp.length c] w fun e w' => ∃ c', e = .returned (.slice (some ⟨w.heap.size + 1, 0, none⟩) sp.length c') ∧ w'.ownsRow w.heap.size 29 1 (.slice (some ⟨w.heap.size + 1, 0, none⟩) sp.length c') sp.length (sp.flatMap spC) ∧ Below w.heap.size w w' := by
  obtain ⟨i0, hi, hz0, hz1, hz2⟩ := info_parts rowSpk.inf
  obtain ⟨W, hW⟩ : ∃ W, w.alloc (.cells #[] 29) = W := ⟨_, rfl⟩
  have b0 : Below w.heap.size w W := by rw [← hW]; exact (Below.refl _ _).alloc (Nat.le_refl _) _
  have hWs : W.heap.size = w.heap.size + 1 := by rw [← hW]; simp
  have hlen : (sp.flatMap spC).length = sp.length := spC_flat_len sp
  have hcell : ∀ j v, (sp.flatMap spC)[j]? = some v → W.cell? ((⟨b, off, none⟩ : Addr).add j) = some v := fun j v hj => by
    have hjl : j < (sp.flatMap spC).length := by
      rcases Nat.lt_or_ge j (sp.flatMap spC).length with h | h
      · exact h
      · rw [List.getElem?_eq_none h] at hj; cases hj
    rcases hA.below b0 with h | ⟨b', off', e1, _, hc⟩
    · rw [h] at hj; simp at hj
    · injection e1 with e1; injection e1 with e1 e2; subst e1 e2
      rw [add_at, hc j hjl]; exact hj
  have hfit : Builtin.nextslicecap (0 + sp.length) 0 * i0.bytes ≤ 281474976710656 := growslice_fits (by omega) (by rw [hz2]; omega)
  have hr := fun ty => run_append_grow (P := Try.prog) W 24 ty 29 i0 _ rowSpk.ut hi hz0 ⟨w.heap.size, 0, none⟩ 0 0 [] (by simp) (fun j v h => by simp at h) ⟨b, off, none⟩ sp.length c (sp.flatMap spC) (by rw [hz1, hlen]; omega) hcell (by omega) (by omega) hfit
  simp only [Nat.zero_add] at hr
  have hge := grownCap_ge W sp.length 0 29
  have hm : grownCap W sp.length 0 29 ≤ maxLen := grownCap_le_maxLen _ _ _ _ (by unfold maxLen; omega)
  rw [hWs] at hr
  obtain ⟨CS, hCS⟩ : ∃ CS : Array Value, (([] : List Value).toArray ++ (sp.flatMap spC).toArray ++ Builtin.zeroCells (Value.slice none 0 0).cells (grownCap W sp.length 0 29 - sp.length)) = CS := ⟨_, rfl⟩
  rw [hCS] at hr
  obtain ⟨V, hV⟩ : ∃ V, (W.drew.alloc (.cells CS 29)) = V := ⟨_, rfl⟩
  have hB : Below w.heap.size w V := by rw [← hV]; exact b0.trans (((Below.refl _ W).drew.alloc (by simp; omega) _))
  have hO : V.ownsRow w.heap.size 29 1 (.slice (some ⟨w.heap.size + 1, 0, none⟩) sp.length (grownCap W sp.length 0 29)) sp.length (sp.flatMap spC) := by
    refine ⟨by rw [hlen]; omega, .inr ⟨w.heap.size + 1, _, CS, rfl, by omega, ?_, hge, hm, ?_, ?_⟩⟩
    · rw [← hV, ← hWs]; exact heap_alloc_new W.drew _
    · rw [← hCS]
      simp only [Array.size_append, List.size_toArray, size_zeroCells, hlen, List.length_nil]
      show 0 + sp.length + (grownCap W sp.length 0 29 - sp.length) * 1 = _
      omega
    · rw [← hCS]
      simp only [Array.toList_append, List.nil_append, Nat.mul_one]
      rw [← hlen]
      exact List.take_left
  rw [hV] at hr
  rw [← hW] at hO
  have R : Hid (∃ c', (Ending.returned (.slice (some ⟨w.heap.size + 1, 0, none⟩) sp.length (grownCap (w.alloc (.cells #[] 29)) sp.length 0 29))) = .returned (.slice (some ⟨w.heap.size + 1, 0, none⟩) sp.length c') ∧ V.ownsRow w.heap.size 29 1 (.slice (some ⟨w.heap.size + 1, 0, none⟩) sp.length c') sp.length (sp.flatMap spC) ∧ Below w.heap.size w V) := ⟨_, rfl, hO, hB⟩
  rw [← hW] at hr
  have HR := Lib.hid hr
  clear hr hO hB hV hCS hm hge hfit hcell hi hz0 hz1 hz2 b0 hW
  generalize grownCap (w.alloc (.cells #[] 29)) sp.length 0 29 = G at *
  have hnil : ∀ W, (binOp .eql 24 (.slice (some ⟨b, off, none⟩) sp.length c) (.slice none 0 0)).run Try.prog W = .ok (.bool false) W := fun W => Lib.run_eql_slice_some_nil W _ _ _ Try.underlying24
  go_enter Try.func80, Try.ntmps80
  go_wp2_with (at_builtin; refine Lib.wpList_append_run _ rfl _ _ _ _ rfl _ _ rfl rfl _ _ (HR.out _) ?_)
  go_ret
  exact R.out
/-- The head of a spoke. -/
def hdP (lf : List Sp) (k : Nat) : Pn := (lf.getD k sp0).l.getD 0 pn0
/-- Which spoke earliest names after k of them. -/
def bestF (lf : List Sp) : Nat → Int
  | 0 => -1
  | k + 1 => if 0 < (lf.getD k sp0).l.length ∧ (bestF lf k < 0 ∨ Pn.less (hdP lf k) (hdP lf (bestF lf k).toNat)) then (k : Int) else bestF lf k
theorem bestF_ok (lf : List Sp) : ∀ k, (bestF lf k = -1 ∧ ∀ j, j < k → (lf.getD j sp0).l = []) ∨
    (∃ b : Nat, bestF lf k = (b : Int) ∧ b < k ∧ 0 < (lf.getD b sp0).l.length ∧ ∀ j, j < k → 0 < (lf.getD j sp0).l.length → ¬ Pn.less (hdP lf j) (hdP lf b)) := by
  intro k
  induction k with
  | zero => exact .inl ⟨rfl, fun j hj => by omega⟩
  | succ k ih =>
    unfold bestF
    by_cases h0 : 0 < (lf.getD k sp0).l.length
    · rcases ih with ⟨e, hall⟩ | ⟨b, e, hb, hl, hall⟩
      · rw [if_pos ⟨h0, .inl (by rw [e]; omega)⟩]
        refine .inr ⟨k, rfl, by omega, h0, fun j hj hjl => ?_⟩
        by_cases hjk : j = k
        · subst hjk; exact fun h => less_irrefl h
        · have := hall j (by omega); rw [this] at hjl; simp at hjl
      · by_cases hl2 : Pn.less (hdP lf k) (hdP lf (bestF lf k).toNat)
        · rw [if_pos ⟨h0, .inr hl2⟩]
          rw [e, Int.toNat_natCast] at hl2
          refine .inr ⟨k, rfl, by omega, h0, fun j hj hjl => ?_⟩
          by_cases hjk : j = k
          · subst hjk; exact fun h => less_irrefl h
          · exact fun h => hall j (by omega) hjl (less_trans h hl2)
        · rw [if_neg (by rintro ⟨_, h | h⟩; · rw [e] at h; omega
                         · exact hl2 h)]
          rw [e, Int.toNat_natCast] at hl2
          refine .inr ⟨b, e, by omega, hl, fun j hj hjl => ?_⟩
          by_cases hjk : j = k
          · subst hjk; exact hl2
          · exact hall j (by omega) hjl
    · rw [if_neg (fun h => h0 h.1)]
      rcases ih with ⟨e, hall⟩ | ⟨b, e, hb, hl, hall⟩
      · refine .inl ⟨e, fun j hj => ?_⟩
        by_cases hjk : j = k
        · subst hjk; exact List.eq_nil_of_length_eq_zero (by omega)
        · exact hall j (by omega)
      · refine .inr ⟨b, e, by omega, hl, fun j hj hjl => ?_⟩
        by_cases hjk : j = k
        · subst hjk; omega
        · exact hall j (by omega) hjl
set_option maxRecDepth 100000 in
set_option maxHeartbeats 3200000 in
theorem earliest_im (A : Option Addr) (lf : List Sp) (c : Nat) (w : World) (hn : lf.length ≤ 1048577) (hR : Rws w w.heap.size A (lf.flatMap spC)) (hs : ∀ s ∈ lf, Rws w w.heap.size s.a (s.l.flatMap pnC)) :
    Calls Try.prog 81 #[.slice A lf.length c] w fun e w' => e = .returned (.int .i64 (bestF lf lf.length)) ∧ Below w.heap.size w w' := by
  have HR := Lib.hid hR
  have HS := Lib.hid hs
  clear hR hs
  go_enter Try.func81, Try.ntmps81
  go_wp2
  go_loopw [3, 8] (fun best i wr => ∃ k : Nat, k ≤ lf.length ∧ i = .int .i64 k ∧ best = .int .i64 (bestF lf k) ∧ Hid (Below w.heap.size w wr)) (fun _ i _ => lf.length - (intOf i).toNat)
  case atStart => exact ⟨0, by omega, rfl, rfl, Below.refl _ _⟩
  case round =>
    obtain ⟨k, hk, rfl, rfl, hb⟩ := hrel
    by_cases hlt : k < lf.length
    · have HRr := Lib.hid (rws_below HR.out hb.out)
      obtain ⟨b, off, rfl, hbB, hc⟩ := HRr.out.sp hlt
      have HB := Lib.hid (bestF_ok lf k)
      have HE : Hid (bestF lf (k + 1) = if 0 < (lf.getD k sp0).l.length ∧ (bestF lf k < 0 ∨ Pn.less (hdP lf k) (hdP lf (bestF lf k).toNat)) then (k : Int) else bestF lf k) := rfl
      have hrow := rws_below (HS.out _ (getD_mem lf k sp0 hlt)) hb.out
      have HX : Hid (hdP lf k = (lf.getD k sp0).l.getD 0 pn0) := rfl
      obtain ⟨s, es⟩ : ∃ s, lf.getD k sp0 = s := ⟨_, rfl⟩
      rw [es] at hc HE hrow HX
      clear es
      obtain ⟨sa, sc, sl⟩ := s
      simp only at hc HE hrow HX
      have hJ : -1 ≤ bestF lf k := by rcases HB.out with ⟨h, _⟩ | ⟨q, h, _⟩ <;> omega
      obtain ⟨J, eJ⟩ : ∃ J, bestF lf k = J := ⟨_, rfl⟩
      rw [eJ] at HE HB hJ
      by_cases h0 : 0 < sl.length
      rotate_left
      · have HV : Hid (bestF lf (k + 1) = J) := by show _ = _; rw [HE.out, if_neg (fun h => h0 h.1)]
        clear HE HB hrow HX
        go_wp2_with fail
        rw [eJ]
        refine wp_region_held_drew (S := fun w' => Hid (Below wr.heap.size wr w')) (by kernel_rfl) (below_drawn (Below.refl _ _) 1) (fun hHeld => ?_)
        refine held_take 0 13 (.slice sa sl.length sc) rfl rfl (by kernel_rfl) (by kernel_rfl) (by kernel_rfl) (fun _ _ _ h => h) rfl hHeld (fun w _ => rfl) ?_
        refine held_take 1 14 (.int .i64 (sl.length : Nat)) rfl rfl (by kernel_rfl) (by kernel_rfl) (by kernel_rfl) (fun _ _ _ h => h) rfl hHeld (fun w _ => exec_lenT rowPin _ _ _ w) ?_
        refine held_take 2 15 (.bool false) rfl rfl (by kernel_rfl) (by kernel_rfl) (by kernel_rfl) (fun _ _ _ h => h) rfl hHeld (fun w _ => exec_gtrI ((sl.length : Nat) : Int) 0 _ w (decide_eq_false (by omega))) ?_
        simp only [Act.put, List.setIfInBounds_toArray, List.set_cons_zero, List.set_cons_succ]
        refine held_take 3 16 (.bool false) rfl rfl (by kernel_rfl) (by kernel_rfl) (by kernel_rfl) (fun _ _ _ h => h) rfl hHeld (fun w _ => rfl) ?_
        refine held_skip 4 17 rfl rfl (by kernel_rfl) (by kernel_rfl) (by kernel_rfl) (fun _ _ _ h => h) rfl hHeld ?_
        simp only [Act.put, List.setIfInBounds_toArray, List.set_cons_zero, List.set_cons_succ]
        refine held_skip 5 18 rfl rfl (by kernel_rfl) (by kernel_rfl) (by kernel_rfl) (fun _ _ _ h => h) rfl hHeld ?_
        refine held_skip 6 19 rfl rfl (by kernel_rfl) (by kernel_rfl) (by kernel_rfl) (fun _ _ _ h => h) rfl hHeld ?_
        simp only [Act.put, List.setIfInBounds_toArray, List.set_cons_zero, List.set_cons_succ]
        refine held_skip 7 20 rfl rfl (by kernel_rfl) (by kernel_rfl) (by kernel_rfl) (fun _ _ _ h => h) rfl hHeld ?_
        refine held_skip 8 21 rfl rfl (by kernel_rfl) (by kernel_rfl) (by kernel_rfl) (fun _ _ _ h => h) rfl hHeld ?_
        simp only [Act.put, List.setIfInBounds_toArray, List.set_cons_zero, List.set_cons_succ]
        refine held_skip 9 22 rfl rfl (by kernel_rfl) (by kernel_rfl) (by kernel_rfl) (fun _ _ _ h => h) rfl hHeld ?_
        refine held_skip 10 23 rfl rfl (by kernel_rfl) (by kernel_rfl) (by kernel_rfl) (fun _ _ _ h => h) rfl hHeld ?_
        simp only [Act.put, List.setIfInBounds_toArray, List.set_cons_zero, List.set_cons_succ]
        refine held_skip 11 24 rfl rfl (by kernel_rfl) (by kernel_rfl) (by kernel_rfl) (fun _ _ _ h => h) rfl hHeld ?_
        refine held_skip 12 25 rfl rfl (by kernel_rfl) (by kernel_rfl) (by kernel_rfl) (fun _ _ _ h => h) rfl hHeld ?_
        simp only [Act.put, List.setIfInBounds_toArray, List.set_cons_zero, List.set_cons_succ]
        refine held_skip 13 26 rfl rfl (by kernel_rfl) (by kernel_rfl) (by kernel_rfl) (fun _ _ _ h => h) rfl hHeld ?_
        refine held_skip 14 27 rfl rfl (by kernel_rfl) (by kernel_rfl) (by kernel_rfl) (fun _ _ _ h => h) rfl hHeld ?_
        simp only [Act.put, List.setIfInBounds_toArray, List.set_cons_zero, List.set_cons_succ]
        refine held_skip 15 28 rfl rfl (by kernel_rfl) (by kernel_rfl) (by kernel_rfl) (fun _ _ _ h => h) rfl hHeld ?_
        refine held_skip 16 29 rfl rfl (by kernel_rfl) (by kernel_rfl) (by kernel_rfl) (fun _ _ _ h => h) rfl hHeld ?_
        simp only [Act.put, List.setIfInBounds_toArray, List.set_cons_zero, List.set_cons_succ]
        refine held_skip 17 30 rfl rfl (by kernel_rfl) (by kernel_rfl) (by kernel_rfl) (fun _ _ _ h => h) rfl hHeld ?_
        refine held_skip 18 31 rfl rfl (by kernel_rfl) (by kernel_rfl) (by kernel_rfl) (fun _ _ _ h => h) rfl hHeld ?_
        simp only [Act.put, List.setIfInBounds_toArray, List.set_cons_zero, List.set_cons_succ]
        refine held_take 19 32 (.bool false) rfl rfl (by kernel_rfl) (by kernel_rfl) (by kernel_rfl) (fun _ _ _ h => h) rfl hHeld (fun w _ => exec_pickF _ w) ?_
        refine wpAnyH_done (by kernel_rfl) ?_ _

        have BF := Lib.hid (hb.out.trans (hHeld.out.mono hb.out.size))
        clear hHeld
        go_wp2
        go_roundw
        case rel => exact ⟨k + 1, by omega, by go_num, by rw [HV.out], BF⟩
        case measure => simp [intOf]; omega

      by_cases hj0 : J < 0
      · have HV : Hid (bestF lf (k + 1) = k) := by show _ = _; rw [HE.out, if_pos ⟨h0, .inl hj0⟩]
        clear HE HB hrow HX
        go_wp2_with fail
        rw [eJ]
        refine wp_region_held_drew (S := fun w' => Hid (Below wr.heap.size wr w')) (by kernel_rfl) (below_drawn (Below.refl _ _) 1) (fun hHeld => ?_)
        refine held_take 0 13 (.slice sa sl.length sc) rfl rfl (by kernel_rfl) (by kernel_rfl) (by kernel_rfl) (fun _ _ _ h => h) rfl hHeld (fun w _ => rfl) ?_
        refine held_take 1 14 (.int .i64 (sl.length : Nat)) rfl rfl (by kernel_rfl) (by kernel_rfl) (by kernel_rfl) (fun _ _ _ h => h) rfl hHeld (fun w _ => exec_lenT rowPin _ _ _ w) ?_
        refine held_take 2 15 (.bool true) rfl rfl (by kernel_rfl) (by kernel_rfl) (by kernel_rfl) (fun _ _ _ h => h) rfl hHeld (fun w _ => exec_gtrI ((sl.length : Nat) : Int) 0 _ w (decide_eq_true (by omega))) ?_
        simp only [Act.put, List.setIfInBounds_toArray, List.set_cons_zero, List.set_cons_succ]
        refine held_take 3 16 (.bool true) rfl rfl (by kernel_rfl) (by kernel_rfl) (by kernel_rfl) (fun _ _ _ h => h) rfl hHeld (fun w _ => rfl) ?_
        refine held_take 4 17 (.int .i64 J) rfl rfl (by kernel_rfl) (by kernel_rfl) (by kernel_rfl) (fun _ _ _ h => h) rfl hHeld (fun w _ => rfl) ?_
        refine held_take 5 18 (.bool true) rfl rfl (by kernel_rfl) (by kernel_rfl) (by kernel_rfl) (fun _ _ _ h => h) rfl hHeld (fun w _ => exec_lssI J 0 _ w (decide_eq_true (by omega))) ?_
        simp only [Act.put, List.setIfInBounds_toArray, List.set_cons_zero, List.set_cons_succ]
        refine held_take 6 19 (.bool true) rfl rfl (by kernel_rfl) (by kernel_rfl) (by kernel_rfl) (fun _ _ _ h => h) rfl hHeld (fun w _ => rfl) ?_
        refine held_skip 7 20 rfl rfl (by kernel_rfl) (by kernel_rfl) (by kernel_rfl) (fun _ _ _ h => h) rfl hHeld ?_
        simp only [Act.put, List.setIfInBounds_toArray, List.set_cons_zero, List.set_cons_succ]
        refine held_skip 8 21 rfl rfl (by kernel_rfl) (by kernel_rfl) (by kernel_rfl) (fun _ _ _ h => h) rfl hHeld ?_
        refine held_skip 9 22 rfl rfl (by kernel_rfl) (by kernel_rfl) (by kernel_rfl) (fun _ _ _ h => h) rfl hHeld ?_
        simp only [Act.put, List.setIfInBounds_toArray, List.set_cons_zero, List.set_cons_succ]
        refine held_skip 10 23 rfl rfl (by kernel_rfl) (by kernel_rfl) (by kernel_rfl) (fun _ _ _ h => h) rfl hHeld ?_
        refine held_skip 11 24 rfl rfl (by kernel_rfl) (by kernel_rfl) (by kernel_rfl) (fun _ _ _ h => h) rfl hHeld ?_
        simp only [Act.put, List.setIfInBounds_toArray, List.set_cons_zero, List.set_cons_succ]
        refine held_skip 12 25 rfl rfl (by kernel_rfl) (by kernel_rfl) (by kernel_rfl) (fun _ _ _ h => h) rfl hHeld ?_
        refine held_skip 13 26 rfl rfl (by kernel_rfl) (by kernel_rfl) (by kernel_rfl) (fun _ _ _ h => h) rfl hHeld ?_
        simp only [Act.put, List.setIfInBounds_toArray, List.set_cons_zero, List.set_cons_succ]
        refine held_skip 14 27 rfl rfl (by kernel_rfl) (by kernel_rfl) (by kernel_rfl) (fun _ _ _ h => h) rfl hHeld ?_
        refine held_skip 15 28 rfl rfl (by kernel_rfl) (by kernel_rfl) (by kernel_rfl) (fun _ _ _ h => h) rfl hHeld ?_
        simp only [Act.put, List.setIfInBounds_toArray, List.set_cons_zero, List.set_cons_succ]
        refine held_skip 16 29 rfl rfl (by kernel_rfl) (by kernel_rfl) (by kernel_rfl) (fun _ _ _ h => h) rfl hHeld ?_
        refine held_skip 17 30 rfl rfl (by kernel_rfl) (by kernel_rfl) (by kernel_rfl) (fun _ _ _ h => h) rfl hHeld ?_
        simp only [Act.put, List.setIfInBounds_toArray, List.set_cons_zero, List.set_cons_succ]
        refine held_take 18 31 (.bool true) rfl rfl (by kernel_rfl) (by kernel_rfl) (by kernel_rfl) (fun _ _ _ h => h) rfl hHeld (fun w _ => exec_pickT _ w) ?_
        refine held_take 19 32 (.bool true) rfl rfl (by kernel_rfl) (by kernel_rfl) (by kernel_rfl) (fun _ _ _ h => h) rfl hHeld (fun w _ => exec_pickT _ w) ?_
        refine wpAnyH_done (by kernel_rfl) ?_ _

        have BF := Lib.hid (hb.out.trans (hHeld.out.mono hb.out.size))
        clear hHeld
        go_wp2
        go_roundw
        case rel => exact ⟨k + 1, by omega, by go_num, by rw [HV.out], BF⟩
        case measure => simp [intOf]; omega

      · obtain ⟨j, ej, hjk, hjl, _⟩ : ∃ q : Nat, J = (q : Int) ∧ q < k ∧ 0 < (lf.getD q sp0).l.length ∧ ∀ i, i < k → 0 < (lf.getD i sp0).l.length → ¬ Pn.less (hdP lf i) (hdP lf q) := by
          rcases HB.out with ⟨h, _⟩ | h
          · omega
          · exact h
        have ej2 := ej
        rw [ej2] at HE eJ
        clear ej2
        clear ej HB hJ hj0 J
        rw [Int.toNat_natCast] at HE
        obtain ⟨b', off', e', _, hc2⟩ := HRr.out.sp (i := j) (by omega)
        obtain ⟨rfl, rfl⟩ : b' = b ∧ off' = off := by injection e' with e'; injection e' with e1 e2; exact ⟨e1.symm, e2.symm⟩
        have hrow2 := rws_below (HS.out _ (getD_mem lf j sp0 (by omega))) hb.out
        have HY : Hid (hdP lf j = (lf.getD j sp0).l.getD 0 pn0) := rfl
        obtain ⟨t, et⟩ : ∃ t, lf.getD j sp0 = t := ⟨_, rfl⟩
        rw [et] at hc2 hjl hrow2 HY
        clear et e'
        obtain ⟨ta, tc, tl⟩ := t
        simp only at hc2 hjl hrow2 HY
        obtain ⟨b1, o1, rfl, hb1, hx⟩ := hrow.pn h0
        obtain ⟨b2, o2, rfl, hb2, hy⟩ := hrow2.pn hjl
        rw [HX.out, HY.out] at HE
        generalize sl.getD 0 pn0 = x at *
        generalize tl.getD 0 pn0 = y at *
        have KX := Lib.hid (fun w' (h : Below wr.heap.size wr w') => hx.below h hb1)
        have KY := Lib.hid (fun w' (h : Below wr.heap.size wr w') => hy.below h hb2)
        have KT := Lib.hid (fun w' (h : Below wr.heap.size wr w') => (h.cell (p := ⟨b', off' + j, none⟩) (by exact hbB)).trans hc2)
        clear hx hy hc2 hrow hrow2 HX HY
        have HL := Lib.hid (ordP_less x y)
        by_cases hless : Pn.less x y
        · have HO : Hid (decide (ordP x y < 0) = true) := HL.out.trans (decide_eq_true hless)
          have HV : Hid (bestF lf (k + 1) = k) := by show _ = _; rw [HE.out, if_pos ⟨h0, .inr hless⟩]
          clear HE HL hless
          go_wp2_with fail
          rw [eJ]
          refine wp_region_held_drew (S := fun w' => Hid (Below wr.heap.size wr w')) (by kernel_rfl) (below_drawn (Below.refl _ _) 1) (fun hHeld => ?_)
          refine held_take 0 13 (.slice (some ⟨b1, o1, none⟩) sl.length sc) rfl rfl (by kernel_rfl) (by kernel_rfl) (by kernel_rfl) (fun _ _ _ h => h) rfl hHeld (fun w _ => rfl) ?_
          refine held_take 1 14 (.int .i64 (sl.length : Nat)) rfl rfl (by kernel_rfl) (by kernel_rfl) (by kernel_rfl) (fun _ _ _ h => h) rfl hHeld (fun w _ => exec_lenT rowPin _ _ _ w) ?_
          refine held_take 2 15 (.bool true) rfl rfl (by kernel_rfl) (by kernel_rfl) (by kernel_rfl) (fun _ _ _ h => h) rfl hHeld (fun w _ => exec_gtrI ((sl.length : Nat) : Int) 0 _ w (decide_eq_true (by omega))) ?_
          simp only [Act.put, List.setIfInBounds_toArray, List.set_cons_zero, List.set_cons_succ]
          refine held_take 3 16 (.bool true) rfl rfl (by kernel_rfl) (by kernel_rfl) (by kernel_rfl) (fun _ _ _ h => h) rfl hHeld (fun w _ => rfl) ?_
          refine held_take 4 17 (.int .i64 (j : Int)) rfl rfl (by kernel_rfl) (by kernel_rfl) (by kernel_rfl) (fun _ _ _ h => h) rfl hHeld (fun w _ => rfl) ?_
          refine held_take 5 18 (.bool false) rfl rfl (by kernel_rfl) (by kernel_rfl) (by kernel_rfl) (fun _ _ _ h => h) rfl hHeld (fun w _ => exec_lssI (j : Int) 0 _ w (decide_eq_false (by omega))) ?_
          simp only [Act.put, List.setIfInBounds_toArray, List.set_cons_zero, List.set_cons_succ]
          refine held_take 6 19 (.bool false) rfl rfl (by kernel_rfl) (by kernel_rfl) (by kernel_rfl) (fun _ _ _ h => h) rfl hHeld (fun w _ => rfl) ?_
          refine held_take 7 20 (.slice (some ⟨b1, o1, none⟩) sl.length sc) rfl rfl (by kernel_rfl) (by kernel_rfl) (by kernel_rfl) (fun _ _ _ h => h) rfl hHeld (fun w _ => rfl) ?_
          refine held_take 8 21 (.pointer (some ⟨b1, o1 + 0 * 2, none⟩)) rfl rfl (by kernel_rfl) (by kernel_rfl) (by kernel_rfl) (fun _ _ _ h => h) rfl hHeld (fun w _ => exec_idx_pn b1 o1 sl.length sc 0 w (by omega)) ?_
          simp only [Act.put, List.setIfInBounds_toArray, List.set_cons_zero, List.set_cons_succ]
          refine held_take 9 22 (pnA x) rfl rfl (by kernel_rfl) (by kernel_rfl) (by kernel_rfl) (fun _ _ _ h => h) rfl hHeld (fun w h => exec_load_pn b1 (o1 + 0 * 2) x w (KX.out w h.out)) ?_
          refine held_take 10 23 (.slice (some ⟨b', off', none⟩) lf.length c) rfl rfl (by kernel_rfl) (by kernel_rfl) (by kernel_rfl) (fun _ _ _ h => h) rfl hHeld (fun w _ => rfl) ?_
          refine held_take 11 24 (.int .i64 (j : Int)) rfl rfl (by kernel_rfl) (by kernel_rfl) (by kernel_rfl) (fun _ _ _ h => h) rfl hHeld (fun w _ => rfl) ?_
          simp only [Act.put, List.setIfInBounds_toArray, List.set_cons_zero, List.set_cons_succ]
          refine held_take 12 25 (.pointer (some ⟨b', off' + j, none⟩)) rfl rfl (by kernel_rfl) (by kernel_rfl) (by kernel_rfl) (fun _ _ _ h => h) rfl hHeld (fun w _ => exec_idxSp b' off' lf.length c j w (by omega)) ?_
          refine held_take 13 26 (.slice (some ⟨b2, o2, none⟩) tl.length tc) rfl rfl (by kernel_rfl) (by kernel_rfl) (by kernel_rfl) (fun _ _ _ h => h) rfl hHeld (fun w h => exec_loadSp 29 b' (off' + j) (some ⟨b2, o2, none⟩) tl.length tc w (.inl rfl) (KT.out w h.out)) ?_
          refine held_take 14 27 (.pointer (some ⟨b2, o2 + 0 * 2, none⟩)) rfl rfl (by kernel_rfl) (by kernel_rfl) (by kernel_rfl) (fun _ _ _ h => h) rfl hHeld (fun w _ => exec_idx_pn b2 o2 tl.length tc 0 w (by omega)) ?_
          simp only [Act.put, List.setIfInBounds_toArray, List.set_cons_zero, List.set_cons_succ]
          refine held_take 15 28 (pnA y) rfl rfl (by kernel_rfl) (by kernel_rfl) (by kernel_rfl) (fun _ _ _ h => h) rfl hHeld (fun w h => exec_load_pn b2 (o2 + 0 * 2) y w (KY.out w h.out)) ?_
          simp only [Act.put, List.setIfInBounds_toArray, List.set_cons_zero, List.set_cons_succ]
          refine held_call 16 29 56 #[pnA x, pnA y] rfl rfl (by kernel_rfl) rfl (exec_call Try.func56 (by kernel_rfl) (by kernel_rfl) _) ?_
          refine (pinOrder_im x y _).mono ?_
          rintro e u1 ⟨rfl, x1⟩
          have hHeld : Hid (Below wr.heap.size wr u1) := hHeld.out.trans (x1.mono hHeld.out.size)
          refine ⟨_, rfl, hHeld, ?_⟩
          simp only [Act.put, List.setIfInBounds_toArray, List.set_cons_zero, List.set_cons_succ]
          refine held_take 17 30 (.bool true) rfl rfl (by kernel_rfl) (by kernel_rfl) (by kernel_rfl) (fun _ _ _ h => h) rfl hHeld (fun w _ => exec_lssI (ordP x y) 0 _ w HO.out) ?_
          refine held_take 18 31 (.bool true) rfl rfl (by kernel_rfl) (by kernel_rfl) (by kernel_rfl) (fun _ _ _ h => h) rfl hHeld (fun w _ => exec_pickF _ w) ?_
          refine held_take 19 32 (.bool true) rfl rfl (by kernel_rfl) (by kernel_rfl) (by kernel_rfl) (fun _ _ _ h => h) rfl hHeld (fun w _ => exec_pickT _ w) ?_
          simp only [Act.put, List.setIfInBounds_toArray, List.set_cons_zero, List.set_cons_succ]
          refine wpAnyH_done (by kernel_rfl) ?_ _

          have BF := Lib.hid (hb.out.trans (hHeld.out.mono hb.out.size))
          clear hHeld
          go_wp2
          go_roundw
          case rel => exact ⟨k + 1, by omega, by go_num, by rw [HV.out], BF⟩
          case measure => simp [intOf]; omega

        · have HO : Hid (decide (ordP x y < 0) = false) := HL.out.trans (decide_eq_false hless)
          have HV : Hid (bestF lf (k + 1) = j) := by
            show _ = _
            rw [HE.out, if_neg (by rintro ⟨_, h | h⟩; · omega
                                   · exact hless h)]
          clear HE HL hless
          go_wp2_with fail
          rw [eJ]
          refine wp_region_held_drew (S := fun w' => Hid (Below wr.heap.size wr w')) (by kernel_rfl) (below_drawn (Below.refl _ _) 1) (fun hHeld => ?_)
          refine held_take 0 13 (.slice (some ⟨b1, o1, none⟩) sl.length sc) rfl rfl (by kernel_rfl) (by kernel_rfl) (by kernel_rfl) (fun _ _ _ h => h) rfl hHeld (fun w _ => rfl) ?_
          refine held_take 1 14 (.int .i64 (sl.length : Nat)) rfl rfl (by kernel_rfl) (by kernel_rfl) (by kernel_rfl) (fun _ _ _ h => h) rfl hHeld (fun w _ => exec_lenT rowPin _ _ _ w) ?_
          refine held_take 2 15 (.bool true) rfl rfl (by kernel_rfl) (by kernel_rfl) (by kernel_rfl) (fun _ _ _ h => h) rfl hHeld (fun w _ => exec_gtrI ((sl.length : Nat) : Int) 0 _ w (decide_eq_true (by omega))) ?_
          simp only [Act.put, List.setIfInBounds_toArray, List.set_cons_zero, List.set_cons_succ]
          refine held_take 3 16 (.bool true) rfl rfl (by kernel_rfl) (by kernel_rfl) (by kernel_rfl) (fun _ _ _ h => h) rfl hHeld (fun w _ => rfl) ?_
          refine held_take 4 17 (.int .i64 (j : Int)) rfl rfl (by kernel_rfl) (by kernel_rfl) (by kernel_rfl) (fun _ _ _ h => h) rfl hHeld (fun w _ => rfl) ?_
          refine held_take 5 18 (.bool false) rfl rfl (by kernel_rfl) (by kernel_rfl) (by kernel_rfl) (fun _ _ _ h => h) rfl hHeld (fun w _ => exec_lssI (j : Int) 0 _ w (decide_eq_false (by omega))) ?_
          simp only [Act.put, List.setIfInBounds_toArray, List.set_cons_zero, List.set_cons_succ]
          refine held_take 6 19 (.bool false) rfl rfl (by kernel_rfl) (by kernel_rfl) (by kernel_rfl) (fun _ _ _ h => h) rfl hHeld (fun w _ => rfl) ?_
          refine held_take 7 20 (.slice (some ⟨b1, o1, none⟩) sl.length sc) rfl rfl (by kernel_rfl) (by kernel_rfl) (by kernel_rfl) (fun _ _ _ h => h) rfl hHeld (fun w _ => rfl) ?_
          refine held_take 8 21 (.pointer (some ⟨b1, o1 + 0 * 2, none⟩)) rfl rfl (by kernel_rfl) (by kernel_rfl) (by kernel_rfl) (fun _ _ _ h => h) rfl hHeld (fun w _ => exec_idx_pn b1 o1 sl.length sc 0 w (by omega)) ?_
          simp only [Act.put, List.setIfInBounds_toArray, List.set_cons_zero, List.set_cons_succ]
          refine held_take 9 22 (pnA x) rfl rfl (by kernel_rfl) (by kernel_rfl) (by kernel_rfl) (fun _ _ _ h => h) rfl hHeld (fun w h => exec_load_pn b1 (o1 + 0 * 2) x w (KX.out w h.out)) ?_
          refine held_take 10 23 (.slice (some ⟨b', off', none⟩) lf.length c) rfl rfl (by kernel_rfl) (by kernel_rfl) (by kernel_rfl) (fun _ _ _ h => h) rfl hHeld (fun w _ => rfl) ?_
          refine held_take 11 24 (.int .i64 (j : Int)) rfl rfl (by kernel_rfl) (by kernel_rfl) (by kernel_rfl) (fun _ _ _ h => h) rfl hHeld (fun w _ => rfl) ?_
          simp only [Act.put, List.setIfInBounds_toArray, List.set_cons_zero, List.set_cons_succ]
          refine held_take 12 25 (.pointer (some ⟨b', off' + j, none⟩)) rfl rfl (by kernel_rfl) (by kernel_rfl) (by kernel_rfl) (fun _ _ _ h => h) rfl hHeld (fun w _ => exec_idxSp b' off' lf.length c j w (by omega)) ?_
          refine held_take 13 26 (.slice (some ⟨b2, o2, none⟩) tl.length tc) rfl rfl (by kernel_rfl) (by kernel_rfl) (by kernel_rfl) (fun _ _ _ h => h) rfl hHeld (fun w h => exec_loadSp 29 b' (off' + j) (some ⟨b2, o2, none⟩) tl.length tc w (.inl rfl) (KT.out w h.out)) ?_
          refine held_take 14 27 (.pointer (some ⟨b2, o2 + 0 * 2, none⟩)) rfl rfl (by kernel_rfl) (by kernel_rfl) (by kernel_rfl) (fun _ _ _ h => h) rfl hHeld (fun w _ => exec_idx_pn b2 o2 tl.length tc 0 w (by omega)) ?_
          simp only [Act.put, List.setIfInBounds_toArray, List.set_cons_zero, List.set_cons_succ]
          refine held_take 15 28 (pnA y) rfl rfl (by kernel_rfl) (by kernel_rfl) (by kernel_rfl) (fun _ _ _ h => h) rfl hHeld (fun w h => exec_load_pn b2 (o2 + 0 * 2) y w (KY.out w h.out)) ?_
          simp only [Act.put, List.setIfInBounds_toArray, List.set_cons_zero, List.set_cons_succ]
          refine held_call 16 29 56 #[pnA x, pnA y] rfl rfl (by kernel_rfl) rfl (exec_call Try.func56 (by kernel_rfl) (by kernel_rfl) _) ?_
          refine (pinOrder_im x y _).mono ?_
          rintro e u1 ⟨rfl, x1⟩
          have hHeld : Hid (Below wr.heap.size wr u1) := hHeld.out.trans (x1.mono hHeld.out.size)
          refine ⟨_, rfl, hHeld, ?_⟩
          simp only [Act.put, List.setIfInBounds_toArray, List.set_cons_zero, List.set_cons_succ]
          refine held_take 17 30 (.bool false) rfl rfl (by kernel_rfl) (by kernel_rfl) (by kernel_rfl) (fun _ _ _ h => h) rfl hHeld (fun w _ => exec_lssI (ordP x y) 0 _ w HO.out) ?_
          refine held_take 18 31 (.bool false) rfl rfl (by kernel_rfl) (by kernel_rfl) (by kernel_rfl) (fun _ _ _ h => h) rfl hHeld (fun w _ => exec_pickF _ w) ?_
          refine held_take 19 32 (.bool false) rfl rfl (by kernel_rfl) (by kernel_rfl) (by kernel_rfl) (fun _ _ _ h => h) rfl hHeld (fun w _ => exec_pickT _ w) ?_
          simp only [Act.put, List.setIfInBounds_toArray, List.set_cons_zero, List.set_cons_succ]
          refine wpAnyH_done (by kernel_rfl) ?_ _

          have BF := Lib.hid (hb.out.trans (hHeld.out.mono hb.out.size))
          clear hHeld
          go_wp2
          go_roundw
          case rel => exact ⟨k + 1, by omega, by go_num, by rw [HV.out], BF⟩
          case measure => simp [intOf]; omega

    · obtain rfl : k = lf.length := by omega
      go_wp2
      go_ret
      exact ⟨rfl, hb.out⟩
end Go.Proofs.Ytflomkebgiemaaa
