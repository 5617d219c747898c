/- Trim of the model, Shed of both. -/
import Derived.Test.YthkfbgamkffjeaaRows
import Derived.Test.YthkfbgamkffjeaaArT
namespace Go.Proofs.Ythkfbgamkffjeaa
open Go.RowKit
set_option linter.unusedSimpArgs false
set_option linter.unusedVariables false
theorem min_if (x y : Int) : (if x < y then x else y) = min x y := by
  split <;> omega
set_option maxRecDepth 100000 in
theorem exec_subI {ρ : Operand → Value} {o : Oper} {x y : Operand} (X Y Z : Int) (w : World) (h : X - Y = Z) (h1 : -9223372036854775808 ≤ Z) (h2 : Z ≤ 9223372036854775807) (ho : o.op = .binOp .sub 3 x y 3 := by rfl) (hx : ρ x = .int .i64 X := by rfl) (hy : ρ y = .int .i64 Y := by rfl) :
    (execOp ρ o).run Try.prog w = .ok (.value (.int .i64 Z)) w := by
  have hw : IntKind.i64.wrap Z = Z := by rw [IntKind.wrap_i64]; omega
  unfold execOp
  rw [ho]
  simp [go_sem, hx, hy, h, hw]
set_option maxRecDepth 100000 in
theorem exec_lenS {ρ : Operand → Value} {o : Oper} {x : Operand} (X : ByteArray) (w : World) (ho : o.op = .call { callee := .builtin .len, args := #[x], argTypes := #[9] } := by rfl) (hx : ρ x = .string X := by rfl) :
    (execOp ρ o).run Try.prog w = .ok (.value (.int .i64 (X.size : Int))) w := by
  unfold execOp
  rw [ho]
  simp [go_sem, hx]
set_option maxRecDepth 100000 in
theorem exec_loadA {ρ : Operand → Value} {o : Oper} {x : Operand} (b : Nat) (a : Ar) (w : World) (h : w.cell? ⟨b, 0, none⟩ = some (.string a.data) ∧ w.cell? ⟨b, 1, none⟩ = some (.int .i64 a.safe)) (ho : o.op = .load 25 x := by rfl) (hx : ρ x = .pointer (some ⟨b, 0, none⟩) := by rfl) :
    (execOp ρ o).run Try.prog w = .ok (.value (arA a)) w := by
  unfold execOp
  rw [ho]
  simp [go_sem, hx, h.1, h.2, arA]
set_option maxRecDepth 100000 in
theorem exec_neqA {ρ : Operand → Value} {o : Oper} {x y : Operand} (s : ByteArray) (X Y : Int) (d : Bool) (w : World) (hd : (!decide (X = Y)) = d) (ho : o.op = .binOp .neq 25 x y 25 := by rfl) (hx : ρ x = .agg #[.string s, .int .i64 X] := by rfl) (hy : ρ y = .agg #[.string s, .int .i64 Y] := by rfl) :
    (execOp ρ o).run Try.prog w = .ok (.value (.bool d)) w := by
  subst hd
  unfold execOp
  rw [ho]
  simp [go_sem, hx, hy]
  split <;> simp_all
set_option maxRecDepth 100000 in
set_option maxHeartbeats 800000 in
theorem trim_spec (a : Ar) (n : Int) (w : World) (hg : a.go) : Calls Try.prog 34 #[arA a, .int .i64 n] w fun e w' => e = .returned (abV (trimA a n)) ∧ Below w.heap.size w w' := by
  have C := Lib.hid (fun w => areaOk_spec a w hg)
  unfold abV trimA
  unfold arA at *
  by_cases hf : a.fine
  · obtain ⟨hl, _, _⟩ := id hf
    by_cases h : 0 ≤ n ∧ n ≤ a.data.size
    · obtain ⟨h1, h2⟩ := id h
      simp only [hf, true_and, if_true, decide_true] at C ⊢
      obtain ⟨m, rfl⟩ : ∃ m : Nat, n = m := ⟨n.toNat, by omega⟩
      simp only [h, and_self, if_true, Int.toNat_natCast]
      go_enter Try.func34, Try.ntmps34
      go_wp2_with fail
      refine (C.out _).mono ?_
      rintro e w2 ⟨rfl, b2⟩
      obtain ⟨⟨q0, q1, r0, r1⟩, ⟨z0, z1, y0, y1⟩, bW⟩ := bx2 w w2 _ _ _ _ _ _ b2
      go_wp2_with fail
      refine (l1In_yes m 0 a.data.size _ h).mono ?_
      rintro e w3 ⟨rfl, rfl⟩
      go_wp2_with fail
      refine wp_region_held_drew (S := fun w' => Hid (w'.cell? ⟨w.heap.size, 0, none⟩ = some (.string a.data) ∧ w'.cell? ⟨w.heap.size, 1, none⟩ = some (.int .i64 a.safe))) (by kernel_rfl) ⟨q0, q1⟩ (fun hHeld => ?_)
      refine held_take 0 18 (.pointer (some ⟨w.heap.size, 0, none⟩)) rfl rfl (by kernel_rfl) (by kernel_rfl) (by kernel_rfl) (fun _ _ _ h => h) rfl hHeld (fun w _ => exec_fldA _ 0 w (by simp)) ?_
      refine held_take 1 19 (.string a.data) rfl rfl (by kernel_rfl) (by kernel_rfl) (by kernel_rfl) (fun _ _ _ h => h) rfl hHeld (fun w hS => exec_load1 9 _ _ _ w (by simp) hS.out.1) ?_
      refine held_take 2 20 (.int .i64 (m : Int)) rfl rfl (by kernel_rfl) (by kernel_rfl) (by kernel_rfl) (fun _ _ _ h => h) rfl hHeld (fun w _ => rfl) ?_
      simp only [Act.put, List.setIfInBounds_toArray, List.set_cons_zero, List.set_cons_succ]
      refine held_take 4 22 (.pointer (some ⟨w.heap.size, 1, none⟩)) rfl rfl (by kernel_rfl) (by kernel_rfl) (by kernel_rfl) (fun _ _ _ h => h) rfl hHeld (fun w _ => exec_fldA _ 1 w (by simp)) ?_
      refine held_take 5 23 (.int .i64 a.safe) rfl rfl (by kernel_rfl) (by kernel_rfl) (by kernel_rfl) (fun _ _ _ h => h) rfl hHeld (fun w hS => exec_load1 3 _ _ _ w (by simp) hS.out.2) ?_
      refine held_take 6 24 (.int .i64 (m : Int)) rfl rfl (by kernel_rfl) (by kernel_rfl) (by kernel_rfl) (fun _ _ _ h => h) rfl hHeld (fun w _ => rfl) ?_
      simp only [Act.put, List.setIfInBounds_toArray, List.set_cons_zero, List.set_cons_succ]
      refine held_take 3 21 (.string (a.data.extract 0 m)) rfl rfl (by kernel_rfl) (by kernel_rfl) (by kernel_rfl) (fun _ _ _ h => h) rfl hHeld (fun w _ => exec_toS _ m w (by omega)) ?_
      simp only [Act.put, List.setIfInBounds_toArray, List.set_cons_zero, List.set_cons_succ]
      refine held_call 7 25 54 #[.int .i64 a.safe, .int .i64 (m : Int)] rfl rfl (by kernel_rfl) rfl (exec_call Try.func54 (by kernel_rfl) (by kernel_rfl) _) ?_
      refine (l1Min_any _ _ _).mono ?_
      rintro e w4 ⟨rfl, rfl⟩
      rw [min_if]
      refine ⟨_, rfl, ⟨q0, q1⟩, ?_⟩
      simp only [Act.put, List.setIfInBounds_toArray, List.set_cons_zero, List.set_cons_succ]
      refine held_op 8 26 (.agg #[.string (a.data.extract 0 m), .int .i64 (min a.safe m)]) rfl rfl (by kernel_rfl) rfl (exec_build2 _ _ _) ⟨q0, q1⟩ ?_
      simp only [Act.put, List.setIfInBounds_toArray, List.set_cons_zero, List.set_cons_succ]
      refine held_store 9 rfl rfl (by kernel_rfl) rfl (exec_store2 _ _ _ _ _ _ r0 r1 y0 y1) (far2 (by omega) q0 q1) ?_
      refine held_op 10 5 (.bool true) rfl rfl (by kernel_rfl) rfl rfl (far2 (by omega) q0 q1) ?_
      simp only [Act.put, List.setIfInBounds_toArray, List.set_cons_zero, List.set_cons_succ]
      refine wpAnyH_done (by kernel_rfl) ?_ _
      clear b2
      obtain ⟨X, hX⟩ : ∃ X, a.data.extract 0 m = X := ⟨_, rfl⟩
      simp only [hX]
      have HX := Lib.hid hX
      clear hX
      go_wp2
      simp [bodyPost, results, Try.results34, go_sem, q0, q1, r0, r1]
      exact ⟨HX.out.symm, below_drawn ((bW.setCell (by simp) _).setCell (by simp) _) 1⟩
    · simp only [hf, h, and_false, if_false, decide_true] at C ⊢
      go_enter Try.func34, Try.ntmps34
      go_wp2_with fail
      refine (C.out _).mono ?_
      rintro e w2 ⟨rfl, b2⟩
      obtain ⟨⟨q0, q1, r0, r1⟩, ⟨z0, z1, y0, y1⟩, bW⟩ := bx2 w w2 _ _ _ _ _ _ b2
      go_wp2_with fail
      refine (l1In_no n 0 a.data.size _ h).mono ?_
      rintro e w3 ⟨rfl, rfl⟩
      clear b2
      go_wp2
      simp [bodyPost, results, Try.results34, go_sem, q0, q1, r0, r1]
      exact ((bW.setCell (by simp) _).setCell (by simp) _)
  · simp only [hf, false_and, if_false, decide_false] at C ⊢
    go_enter Try.func34, Try.ntmps34
    go_wp2_with fail
    refine (C.out _).mono ?_
    rintro e w2 ⟨rfl, b2⟩
    obtain ⟨⟨q0, q1, r0, r1⟩, ⟨z0, z1, y0, y1⟩, bW⟩ := bx2 w w2 _ _ _ _ _ _ b2
    clear b2
    go_wp2
    simp [bodyPost, results, Try.results34, go_sem, q0, q1, r0, r1]
    exact ((bW.setCell (by simp) _).setCell (by simp) _)
set_option maxRecDepth 100000 in
set_option maxHeartbeats 800000 in
theorem shed_spec (a : Ar) (n : Int) (w : World) (hg : a.go) : Calls Try.prog 33 #[arA a, .int .i64 n] w fun e w' => e = .returned (abV (shedA a n)) ∧ Below w.heap.size w w' := by
  have C := Lib.hid (fun w => areaOk_spec a w hg)
  unfold abV shedA
  unfold arA at *
  by_cases hf : a.fine
  · obtain ⟨hl, _, _⟩ := id hf
    by_cases h : 0 ≤ n ∧ n ≤ a.data.size
    · by_cases hs : a.safe = a.data.size
      · obtain ⟨h1, h2⟩ := id h
        have hs' : ¬ a.safe < a.data.size := by omega
        simp only [hf, hs, true_and, and_true, if_true, decide_true] at C ⊢
        rw [hs] at *
        obtain ⟨m, rfl⟩ : ∃ m : Nat, n = m := ⟨n.toNat, by omega⟩
        simp only [h, and_self, if_true, Int.toNat_natCast]
        go_enter Try.func33, Try.ntmps33
        go_wp2_with fail
        refine (C.out _).mono ?_
        rintro e w2 ⟨rfl, b2⟩
        obtain ⟨⟨q0, q1, r0, r1⟩, ⟨z0, z1, y0, y1⟩, bW⟩ := bx2 w w2 _ _ _ _ _ _ b2
        go_wp2_with fail
        refine (l1In_yes m 0 a.data.size _ h).mono ?_
        rintro e w3 ⟨rfl, rfl⟩
        go_wp2_with fail
        refine wp_region_held_drew (S := fun w' => Hid (w'.cell? ⟨w.heap.size, 0, none⟩ = some (.string a.data) ∧ w'.cell? ⟨w.heap.size, 1, none⟩ = some (.int .i64 (a.data.size : Int)))) (by kernel_rfl) ⟨q0, q1⟩ (fun hHeld => ?_)
        refine held_take 0 26 (.pointer (some ⟨w.heap.size, 0, none⟩)) rfl rfl (by kernel_rfl) (by kernel_rfl) (by kernel_rfl) (fun _ _ _ h => h) rfl hHeld (fun w _ => exec_fldA _ 0 w (by simp)) ?_
        refine held_take 1 27 (.string a.data) rfl rfl (by kernel_rfl) (by kernel_rfl) (by kernel_rfl) (fun _ _ _ h => h) rfl hHeld (fun w hS => exec_load1 9 _ _ _ w (by simp) hS.out.1) ?_
        refine held_take 2 28 (.int .i64 (m : Int)) rfl rfl (by kernel_rfl) (by kernel_rfl) (by kernel_rfl) (fun _ _ _ h => h) rfl hHeld (fun w _ => rfl) ?_
        simp only [Act.put, List.setIfInBounds_toArray, List.set_cons_zero, List.set_cons_succ]
        refine held_take 4 30 (.pointer (some ⟨w.heap.size, 0, none⟩)) rfl rfl (by kernel_rfl) (by kernel_rfl) (by kernel_rfl) (fun _ _ _ h => h) rfl hHeld (fun w _ => exec_fldA _ 0 w (by simp)) ?_
        refine held_take 5 31 (.string a.data) rfl rfl (by kernel_rfl) (by kernel_rfl) (by kernel_rfl) (fun _ _ _ h => h) rfl hHeld (fun w hS => exec_load1 9 _ _ _ w (by simp) hS.out.1) ?_
        refine held_take 7 33 (.int .i64 (m : Int)) rfl rfl (by kernel_rfl) (by kernel_rfl) (by kernel_rfl) (fun _ _ _ h => h) rfl hHeld (fun w _ => rfl) ?_
        simp only [Act.put, List.setIfInBounds_toArray, List.set_cons_zero, List.set_cons_succ]
        refine held_take 3 29 (.string (a.data.extract m a.data.size)) rfl rfl (by kernel_rfl) (by kernel_rfl) (by kernel_rfl) (fun _ _ _ h => h) rfl hHeld (fun w _ => exec_fromS _ m w (by omega)) ?_
        refine held_take 6 32 (.int .i64 (a.data.size : Int)) rfl rfl (by kernel_rfl) (by kernel_rfl) (by kernel_rfl) (fun _ _ _ h => h) rfl hHeld (fun w _ => exec_lenS _ w) ?_
        refine held_take 8 34 (.int .i64 ((a.data.size : Int) - m)) rfl rfl (by kernel_rfl) (by kernel_rfl) (by kernel_rfl) (fun _ _ _ h => h) rfl hHeld (fun w _ => exec_subI _ _ _ w rfl (by omega) (by omega)) ?_
        simp only [Act.put, List.setIfInBounds_toArray, List.set_cons_zero, List.set_cons_succ]
        refine held_take 9 35 (.agg #[.string (a.data.extract m a.data.size), .int .i64 ((a.data.size : Int) - m)]) rfl rfl (by kernel_rfl) (by kernel_rfl) (by kernel_rfl) (fun _ _ _ h => h) rfl hHeld (fun w _ => exec_build2 _ _ w) ?_
        simp only [Act.put, List.setIfInBounds_toArray, List.set_cons_zero, List.set_cons_succ]
        refine held_store 10 rfl rfl (by kernel_rfl) rfl (exec_store2 _ _ _ _ _ _ r0 r1 y0 y1) (far2 (by omega) q0 q1) ?_
        refine held_op 11 5 (.bool true) rfl rfl (by kernel_rfl) rfl rfl (far2 (by omega) q0 q1) ?_
        simp only [Act.put, List.setIfInBounds_toArray, List.set_cons_zero, List.set_cons_succ]
        refine wpAnyH_done (by kernel_rfl) ?_ _
        clear b2
        obtain ⟨X, hX⟩ : ∃ X, a.data.extract m a.data.size = X := ⟨_, rfl⟩
        simp only [hX]
        have HX := Lib.hid hX
        clear hX
        go_wp2
        simp [bodyPost, results, Try.results33, go_sem, q0, q1, r0, r1]
        exact ⟨HX.out.symm, below_drawn ((bW.setCell (by simp) _).setCell (by simp) _) 1⟩
      · have hs' : a.safe < a.data.size := by omega
        simp only [hf, hs, and_false, if_false, decide_true] at C ⊢
        go_enter Try.func33, Try.ntmps33
        go_wp2_with fail
        refine (C.out _).mono ?_
        rintro e w2 ⟨rfl, b2⟩
        obtain ⟨⟨q0, q1, r0, r1⟩, ⟨z0, z1, y0, y1⟩, bW⟩ := bx2 w w2 _ _ _ _ _ _ b2
        go_wp2_with fail
        refine (l1In_yes n 0 a.data.size _ h).mono ?_
        rintro e w3 ⟨rfl, rfl⟩
        clear b2
        go_wp2
        simp [bodyPost, results, Try.results33, go_sem, q0, q1, r0, r1]
        exact ((bW.setCell (by simp) _).setCell (by simp) _)
    · simp only [hf, h, and_false, false_and, if_false, decide_true] at C ⊢
      go_enter Try.func33, Try.ntmps33
      go_wp2_with fail
      refine (C.out _).mono ?_
      rintro e w2 ⟨rfl, b2⟩
      obtain ⟨⟨q0, q1, r0, r1⟩, ⟨z0, z1, y0, y1⟩, bW⟩ := bx2 w w2 _ _ _ _ _ _ b2
      go_wp2_with fail
      refine (l1In_no n 0 a.data.size _ h).mono ?_
      rintro e w3 ⟨rfl, rfl⟩
      clear b2
      go_wp2
      simp [bodyPost, results, Try.results33, go_sem, q0, q1, r0, r1]
      exact ((bW.setCell (by simp) _).setCell (by simp) _)
  · simp only [hf, false_and, if_false, decide_false] at C ⊢
    go_enter Try.func33, Try.ntmps33
    go_wp2_with fail
    refine (C.out _).mono ?_
    rintro e w2 ⟨rfl, b2⟩
    obtain ⟨⟨q0, q1, r0, r1⟩, ⟨z0, z1, y0, y1⟩, bW⟩ := bx2 w w2 _ _ _ _ _ _ b2
    clear b2
    go_wp2
    simp [bodyPost, results, Try.results33, go_sem, q0, q1, r0, r1]
    exact ((bW.setCell (by simp) _).setCell (by simp) _)
set_option maxRecDepth 100000 in
set_option maxHeartbeats 1600000 in
theorem shed_impl (a : Ar) (n : Int) (w : World) (hg : a.go) : Calls Try.prog 20 #[arA a, .int .i64 n] w fun e w' => e = .returned (abV (shedA a n)) ∧ Below w.heap.size w w' := by
  have C := Lib.hid (fun w => canDivide_any a n w hg)
  have CS := Lib.hid (fun w => sync_impl a w hg)
  by_cases hf : a.cut n
  · obtain ⟨hf1, h1, h2⟩ := id hf
    have hl := hf1.1
    simp only [hf, decide_true] at C
    simp only [syncA, hf1, if_true] at CS
    by_cases hs : a.safe = a.data.size
    · have HR : Hid (abV (shedA a n) = .tuple #[.agg #[.string (a.data.extract n.toNat a.data.size), .int .i64 (a.data.size - n)], .bool true]) := by
        show _ = _
        unfold abV shedA
        simp [hf1, h1, h2, hs, arA]
      have HD : Hid ((!decide ((a.data.size : Int) = a.safe)) = false) := by
        show _ = _
        simp [hs]
      clear hs
      generalize abV (shedA a n) = R at *
      obtain ⟨m, rfl⟩ : ∃ m : Nat, n = m := ⟨n.toNat, by omega⟩
      have D := Lib.hid (fun w => divided_any a.data m w (by omega) (by omega))
      have hxs : (a.data.extract m a.data.size).size = a.data.size - m := by rw [ByteArray.size_extract]; omega
      have E := Lib.hid (fun w => durable_any (a.data.extract m a.data.size) w)
      rw [hxs] at E
      unfold arA at E ⊢
      go_enter Try.func20, Try.ntmps20
      go_wp2_with fail
      have b1 := Below.refl ((w.alloc (.cells #[.string a.data, .int .i64 a.safe] 25)).alloc (.cells #[.string ⟨#[]⟩, .int .i64 0] 25)).heap.size ((w.alloc (.cells #[.string a.data, .int .i64 a.safe] 25)).alloc (.cells #[.string ⟨#[]⟩, .int .i64 0] 25))
      obtain ⟨⟨q0, q1, r0, r1⟩, ⟨z0, z1, y0, y1⟩, bW⟩ := bx2 w ((w.alloc (.cells #[.string a.data, .int .i64 a.safe] 25)).alloc (.cells #[.string ⟨#[]⟩, .int .i64 0] 25)) _ _ _ _ _ _ b1
      refine wp_region_held_drew (S := fun w' => Hid (w'.cell? ⟨w.heap.size, 0, none⟩ = some (.string a.data) ∧ w'.cell? ⟨w.heap.size, 1, none⟩ = some (.int .i64 a.safe))) (by kernel_rfl) ⟨q0, q1⟩ (fun hHeld => ?_)
      refine held_take 0 8 (arA a) rfl rfl (by kernel_rfl) (by kernel_rfl) (by kernel_rfl) (fun _ _ _ h => h) rfl hHeld (fun w hS => exec_loadA _ a w hS.out) ?_
      refine held_take 1 9 (.int .i64 (m : Int)) rfl rfl (by kernel_rfl) (by kernel_rfl) (by kernel_rfl) (fun _ _ _ h => h) rfl hHeld (fun w _ => rfl) ?_
      simp only [Act.put, List.setIfInBounds_toArray, List.set_cons_zero, List.set_cons_succ]
      refine held_call 2 10 47 #[arA a, .int .i64 (m : Int)] rfl rfl (by kernel_rfl) rfl (exec_call Try.func47 (by kernel_rfl) (by kernel_rfl) _) ?_
      refine (C.out _).mono ?_
      rintro e w2 ⟨rfl, b2⟩
      have b2 := (below_drawn b1 1).trans (b2.mono (by exact b1.size))
      clear q0 q1 r0 r1 z0 z1 y0 y1 bW
      obtain ⟨⟨q0, q1, r0, r1⟩, ⟨z0, z1, y0, y1⟩, bW⟩ := bx2 w w2 _ _ _ _ _ _ b2
      refine ⟨_, rfl, ⟨q0, q1⟩, ?_⟩
      simp only [Act.put, List.setIfInBounds_toArray, List.set_cons_zero, List.set_cons_succ]
      refine held_op 3 11 (.bool false) rfl rfl (by kernel_rfl) rfl rfl ⟨q0, q1⟩ ?_
      simp only [Act.put, List.setIfInBounds_toArray, List.set_cons_zero, List.set_cons_succ]
      refine held_op 4 12 (.bool false) rfl rfl (by kernel_rfl) rfl rfl ⟨q0, q1⟩ ?_
      simp only [Act.put, List.setIfInBounds_toArray, List.set_cons_zero, List.set_cons_succ]
      refine held_take 5 13 (arA a) rfl rfl (by kernel_rfl) (by kernel_rfl) (by kernel_rfl) (fun _ _ _ h => h) rfl ⟨q0, q1⟩ (fun w hS => exec_loadA _ a w hS.out) ?_
      refine held_take 7 15 (arA a) rfl rfl (by kernel_rfl) (by kernel_rfl) (by kernel_rfl) (fun _ _ _ h => h) rfl ⟨q0, q1⟩ (fun w hS => exec_loadA _ a w hS.out) ?_
      simp only [Act.put, List.setIfInBounds_toArray, List.set_cons_zero, List.set_cons_succ]
      refine held_call 6 14 19 #[arA a] rfl rfl (by kernel_rfl) rfl (exec_call Try.func19 (by kernel_rfl) (by kernel_rfl) _) ?_
      refine (CS.out _).mono ?_
      rintro e w3 ⟨rfl, b3⟩
      have b3 := b2.trans (b3.mono b2.size)
      clear q0 q1 r0 r1 z0 z1 y0 y1 bW
      obtain ⟨⟨q0, q1, r0, r1⟩, ⟨z0, z1, y0, y1⟩, bW⟩ := bx2 w w3 _ _ _ _ _ _ b3
      refine ⟨_, rfl, ⟨q0, q1⟩, ?_⟩
      simp only [Act.put, List.setIfInBounds_toArray, List.set_cons_zero, List.set_cons_succ]
      refine held_op 8 16 (.bool false) rfl rfl (by kernel_rfl) rfl (exec_neqA _ _ _ _ w3 HD.out) ⟨q0, q1⟩ ?_
      simp only [Act.put, List.setIfInBounds_toArray, List.set_cons_zero, List.set_cons_succ]
      refine held_op 9 17 (.bool false) rfl rfl (by kernel_rfl) rfl rfl ⟨q0, q1⟩ ?_
      simp only [Act.put, List.setIfInBounds_toArray, List.set_cons_zero, List.set_cons_succ]
      refine wpAnyH_done (by kernel_rfl) ?_ _
      clear b1 b2
      go_wp2_with fail
      refine (D.out _).mono ?_
      rintro e w4 ⟨A, B, x, y, c, d, rfl, k1, k2, b4⟩
      have b4 := b3.trans (b4.mono b3.size)
      clear k1 b3
      clear q0 q1 r0 r1 z0 z1 y0 y1 bW
      obtain ⟨⟨q0, q1, r0, r1⟩, ⟨z0, z1, y0, y1⟩, bW⟩ := bx2 w w4 _ _ _ _ _ _ b4
      obtain ⟨X, hX⟩ : ∃ X, a.data.extract m a.data.size = X := ⟨_, rfl⟩
      rw [Int.toNat_natCast, hX] at HR
      rw [hX] at E k2
      clear hX hxs
      go_wp2_with fail
      refine (E.out _).mono ?_
      rintro e w5 ⟨rfl, b5⟩
      have b5 := b4.trans (b5.mono b4.size)
      clear b4
      clear q0 q1 r0 r1 z0 z1 y0 y1 bW
      obtain ⟨⟨q0, q1, r0, r1⟩, ⟨z0, z1, y0, y1⟩, bW⟩ := bx2 w w5 _ _ _ _ _ _ b5
      clear b5
      go_wp2
      simp [bodyPost, results, Try.results20, go_sem, q0, q1, r0, r1]
      exact ⟨by rw [HR.out]; congr; omega, ((bW.setCell (by simp) _).setCell (by simp) _)⟩
    · have HR : Hid (abV (shedA a n) = .tuple #[.agg #[.string a.data, .int .i64 a.safe], .bool false]) := by
        show _ = _
        unfold abV shedA
        simp [hs, arA]
      have HD : Hid ((!decide ((a.data.size : Int) = a.safe)) = true) := by
        show _ = _
        simp; omega
      generalize abV (shedA a n) = R at *
      unfold arA
      go_enter Try.func20, Try.ntmps20
      go_wp2_with fail
      have b1 := Below.refl ((w.alloc (.cells #[.string a.data, .int .i64 a.safe] 25)).alloc (.cells #[.string ⟨#[]⟩, .int .i64 0] 25)).heap.size ((w.alloc (.cells #[.string a.data, .int .i64 a.safe] 25)).alloc (.cells #[.string ⟨#[]⟩, .int .i64 0] 25))
      obtain ⟨⟨q0, q1, r0, r1⟩, ⟨z0, z1, y0, y1⟩, bW⟩ := bx2 w ((w.alloc (.cells #[.string a.data, .int .i64 a.safe] 25)).alloc (.cells #[.string ⟨#[]⟩, .int .i64 0] 25)) _ _ _ _ _ _ b1
      refine wp_region_held_drew (S := fun w' => Hid (w'.cell? ⟨w.heap.size, 0, none⟩ = some (.string a.data) ∧ w'.cell? ⟨w.heap.size, 1, none⟩ = some (.int .i64 a.safe))) (by kernel_rfl) ⟨q0, q1⟩ (fun hHeld => ?_)
      refine held_take 0 8 (arA a) rfl rfl (by kernel_rfl) (by kernel_rfl) (by kernel_rfl) (fun _ _ _ h => h) rfl hHeld (fun w hS => exec_loadA _ a w hS.out) ?_
      refine held_take 1 9 (.int .i64 n) rfl rfl (by kernel_rfl) (by kernel_rfl) (by kernel_rfl) (fun _ _ _ h => h) rfl hHeld (fun w _ => rfl) ?_
      simp only [Act.put, List.setIfInBounds_toArray, List.set_cons_zero, List.set_cons_succ]
      refine held_call 2 10 47 #[arA a, .int .i64 n] rfl rfl (by kernel_rfl) rfl (exec_call Try.func47 (by kernel_rfl) (by kernel_rfl) _) ?_
      refine (C.out _).mono ?_
      rintro e w2 ⟨rfl, b2⟩
      have b2 := (below_drawn b1 1).trans (b2.mono (by exact b1.size))
      clear q0 q1 r0 r1 z0 z1 y0 y1 bW
      obtain ⟨⟨q0, q1, r0, r1⟩, ⟨z0, z1, y0, y1⟩, bW⟩ := bx2 w w2 _ _ _ _ _ _ b2
      refine ⟨_, rfl, ⟨q0, q1⟩, ?_⟩
      simp only [Act.put, List.setIfInBounds_toArray, List.set_cons_zero, List.set_cons_succ]
      refine held_op 3 11 (.bool false) rfl rfl (by kernel_rfl) rfl rfl ⟨q0, q1⟩ ?_
      simp only [Act.put, List.setIfInBounds_toArray, List.set_cons_zero, List.set_cons_succ]
      refine held_op 4 12 (.bool false) rfl rfl (by kernel_rfl) rfl rfl ⟨q0, q1⟩ ?_
      simp only [Act.put, List.setIfInBounds_toArray, List.set_cons_zero, List.set_cons_succ]
      refine held_take 5 13 (arA a) rfl rfl (by kernel_rfl) (by kernel_rfl) (by kernel_rfl) (fun _ _ _ h => h) rfl ⟨q0, q1⟩ (fun w hS => exec_loadA _ a w hS.out) ?_
      refine held_take 7 15 (arA a) rfl rfl (by kernel_rfl) (by kernel_rfl) (by kernel_rfl) (fun _ _ _ h => h) rfl ⟨q0, q1⟩ (fun w hS => exec_loadA _ a w hS.out) ?_
      simp only [Act.put, List.setIfInBounds_toArray, List.set_cons_zero, List.set_cons_succ]
      refine held_call 6 14 19 #[arA a] rfl rfl (by kernel_rfl) rfl (exec_call Try.func19 (by kernel_rfl) (by kernel_rfl) _) ?_
      refine (CS.out _).mono ?_
      rintro e w3 ⟨rfl, b3⟩
      have b3 := b2.trans (b3.mono b2.size)
      clear q0 q1 r0 r1 z0 z1 y0 y1 bW
      obtain ⟨⟨q0, q1, r0, r1⟩, ⟨z0, z1, y0, y1⟩, bW⟩ := bx2 w w3 _ _ _ _ _ _ b3
      refine ⟨_, rfl, ⟨q0, q1⟩, ?_⟩
      simp only [Act.put, List.setIfInBounds_toArray, List.set_cons_zero, List.set_cons_succ]
      refine held_op 8 16 (.bool true) rfl rfl (by kernel_rfl) rfl (exec_neqA _ _ _ _ w3 HD.out) ⟨q0, q1⟩ ?_
      simp only [Act.put, List.setIfInBounds_toArray, List.set_cons_zero, List.set_cons_succ]
      refine held_op 9 17 (.bool true) rfl rfl (by kernel_rfl) rfl rfl ⟨q0, q1⟩ ?_
      simp only [Act.put, List.setIfInBounds_toArray, List.set_cons_zero, List.set_cons_succ]
      refine wpAnyH_done (by kernel_rfl) ?_ _
      clear b1 b2 b3
      go_wp2
      simp [bodyPost, results, Try.results20, go_sem, q0, q1, r0, r1]
      exact ⟨by rw [HR.out], ((bW.setCell (by simp) _).setCell (by simp) _)⟩
  · have HR : Hid (abV (shedA a n) = .tuple #[.agg #[.string a.data, .int .i64 a.safe], .bool false]) := by
      show _ = _
      unfold abV shedA
      rw [if_neg (fun h => hf ⟨h.1, h.2.1⟩)]; rfl
    generalize abV (shedA a n) = R at *
    simp only [hf, decide_false] at C
    unfold arA
    go_enter Try.func20, Try.ntmps20
    go_wp2_with fail
    have b1 := Below.refl ((w.alloc (.cells #[.string a.data, .int .i64 a.safe] 25)).alloc (.cells #[.string ⟨#[]⟩, .int .i64 0] 25)).heap.size ((w.alloc (.cells #[.string a.data, .int .i64 a.safe] 25)).alloc (.cells #[.string ⟨#[]⟩, .int .i64 0] 25))
    obtain ⟨⟨q0, q1, r0, r1⟩, ⟨z0, z1, y0, y1⟩, bW⟩ := bx2 w ((w.alloc (.cells #[.string a.data, .int .i64 a.safe] 25)).alloc (.cells #[.string ⟨#[]⟩, .int .i64 0] 25)) _ _ _ _ _ _ b1
    refine wp_region_held_drew (S := fun w' => Hid (w'.cell? ⟨w.heap.size, 0, none⟩ = some (.string a.data) ∧ w'.cell? ⟨w.heap.size, 1, none⟩ = some (.int .i64 a.safe))) (by kernel_rfl) ⟨q0, q1⟩ (fun hHeld => ?_)
    refine held_take 0 8 (arA a) rfl rfl (by kernel_rfl) (by kernel_rfl) (by kernel_rfl) (fun _ _ _ h => h) rfl hHeld (fun w hS => exec_loadA _ a w hS.out) ?_
    refine held_take 1 9 (.int .i64 n) rfl rfl (by kernel_rfl) (by kernel_rfl) (by kernel_rfl) (fun _ _ _ h => h) rfl hHeld (fun w _ => rfl) ?_
    simp only [Act.put, List.setIfInBounds_toArray, List.set_cons_zero, List.set_cons_succ]
    refine held_call 2 10 47 #[arA a, .int .i64 n] rfl rfl (by kernel_rfl) rfl (exec_call Try.func47 (by kernel_rfl) (by kernel_rfl) _) ?_
    refine (C.out _).mono ?_
    rintro e w2 ⟨rfl, b2⟩
    have b2 := (below_drawn b1 1).trans (b2.mono (by exact b1.size))
    clear q0 q1 r0 r1 z0 z1 y0 y1 bW
    obtain ⟨⟨q0, q1, r0, r1⟩, ⟨z0, z1, y0, y1⟩, bW⟩ := bx2 w w2 _ _ _ _ _ _ b2
    refine ⟨_, rfl, ⟨q0, q1⟩, ?_⟩
    simp only [Act.put, List.setIfInBounds_toArray, List.set_cons_zero, List.set_cons_succ]
    refine held_op 3 11 (.bool true) rfl rfl (by kernel_rfl) rfl rfl ⟨q0, q1⟩ ?_
    simp only [Act.put, List.setIfInBounds_toArray, List.set_cons_zero, List.set_cons_succ]
    refine held_op 4 12 (.bool true) rfl rfl (by kernel_rfl) rfl rfl ⟨q0, q1⟩ ?_
    simp only [Act.put, List.setIfInBounds_toArray, List.set_cons_zero, List.set_cons_succ]
    refine held_skip 5 13 rfl rfl (by kernel_rfl) (by kernel_rfl) (by kernel_rfl) (fun _ _ _ h => h) rfl ⟨q0, q1⟩ ?_
    refine held_skip 7 15 rfl rfl (by kernel_rfl) (by kernel_rfl) (by kernel_rfl) (fun _ _ _ h => h) rfl ⟨q0, q1⟩ ?_
    refine held_skip 6 14 rfl rfl (by kernel_rfl) (by kernel_rfl) (by kernel_rfl) (fun _ _ _ h => h) rfl ⟨q0, q1⟩ ?_
    refine held_skip 8 16 rfl rfl (by kernel_rfl) (by kernel_rfl) (by kernel_rfl) (fun _ _ _ h => h) rfl ⟨q0, q1⟩ ?_
    simp only [Act.put, List.setIfInBounds_toArray, List.set_cons_zero, List.set_cons_succ]
    refine held_op 9 17 (.bool true) rfl rfl (by kernel_rfl) rfl rfl ⟨q0, q1⟩ ?_
    simp only [Act.put, List.setIfInBounds_toArray, List.set_cons_zero, List.set_cons_succ]
    refine wpAnyH_done (by kernel_rfl) ?_ _
    clear b1 b2
    go_wp2
    simp [bodyPost, results, Try.results20, go_sem, q0, q1, r0, r1]
    exact ⟨by rw [HR.out], ((bW.setCell (by simp) _).setCell (by simp) _)⟩
end Go.Proofs.Ythkfbgamkffjeaa
