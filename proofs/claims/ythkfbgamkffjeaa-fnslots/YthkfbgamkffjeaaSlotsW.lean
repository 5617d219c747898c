/- The walk of the law FnSlots. -/
import Derived.Test.YthkfbgamkffjeaaRows
import Derived.Test.YthkfbgamkffjeaaAreasW
namespace Go.Proofs.Ythkfbgamkffjeaa
open Go.RowKit
set_option linter.unusedSimpArgs false
set_option linter.unusedVariables false
theorem slot_same (s : St) (n : Int) (a : Ar) : slotS (putS s n a) n = a := by
  unfold slotS putS
  by_cases h : n.tmod 2 = 0
  · simp [h]
  · simp [h]
theorem slot_even (s : St) (n : Int) (a : Ar) (h : n.tmod 2 = 0) : slotS (putS s n a) 1 = slotS s 1 := by
  unfold slotS putS
  simp [h]
theorem slot_odd (s : St) (n : Int) (a : Ar) (h : ¬ n.tmod 2 = 0) : slotS (putS s n a) 0 = slotS s 0 := by
  unfold slotS putS
  simp [h]
theorem put_log (s : St) (n : Int) (a : Ar) : (putS s n a).log = s.log := by
  unfold putS
  split <;> rfl
theorem put_len (s : St) (n : Int) (a : Ar) : ((s.log.data.size + s.even.data.size + s.odd.data.size : Nat) : Int) - (slotS s n).data.size + a.data.size = (((putS s n a).log.data.size + (putS s n a).even.data.size + (putS s n a).odd.data.size : Nat) : Int) := by
  unfold putS slotS
  split
  · simp only []; omega
  · simp only []; omega
theorem put_fits (s : St) (n : Int) (a : Ar) (h1 : s.log.data.size ≤ 20000) (h2 : s.even.data.size ≤ 20000) (h3 : s.odd.data.size ≤ 20000) (h4 : a.data.size ≤ 20000) : (putS s n a).log.data.size + (putS s n a).even.data.size + (putS s n a).odd.data.size ≤ 60000 := by
  unfold putS
  split
  · simp only []; omega
  · simp only []; omega
theorem slot_fits (s : St) (n : Int) (h2 : s.even.data.size ≤ 20000) (h3 : s.odd.data.size ≤ 20000) : (slotS s n).data.size ≤ 20000 := by
  unfold slotS
  split <;> omega
set_option maxRecDepth 100000 in
theorem exec_loadI {ρ : Operand → Value} {o : Oper} {x : Operand} (b : Nat) (s : St) (w : World) (h : w.heap[b]? = some (.cells #[.string s.log.data, .int .i64 s.log.safe, .string s.even.data, .int .i64 s.even.safe, .string s.odd.data, .int .i64 s.odd.safe] 33 (0, 0))) (ho : o.op = .load 33 x := by rfl) (hx : ρ x = .pointer (some ⟨b, 0, none⟩) := by rfl) :
    (execOp ρ o).run Try.prog w = .ok (.value (stA s)) w := by
  have c0 := cell_of_row _ _ 0 _ _ _ h
  have c1 := cell_of_row _ _ 1 _ _ _ h
  have c2 := cell_of_row _ _ 2 _ _ _ h
  have c3 := cell_of_row _ _ 3 _ _ _ h
  have c4 := cell_of_row _ _ 4 _ _ _ h
  have c5 := cell_of_row _ _ 5 _ _ _ h
  simp at c0 c1 c2 c3 c4 c5
  unfold execOp
  rw [ho]
  simp [go_sem, hx, c0, c1, c2, c3, c4, c5, stA]
set_option maxRecDepth 100000 in
theorem exec_fldS {ρ : Operand → Value} {o : Oper} {x : Operand} (b : Nat) (w : World) (ho : o.op = .fieldAddr 33 x 0 := by rfl) (hx : ρ x = .pointer (some ⟨b, 0, none⟩) := by rfl) :
    (execOp ρ o).run Try.prog w = .ok (.value (.pointer (some ⟨b, 0, none⟩))) w := by
  unfold execOp
  rw [ho]
  simp [go_sem, hx]
set_option maxRecDepth 100000 in
theorem exec_eqA {ρ : Operand → Value} {o : Oper} {x y : Operand} (a : Ar) (w : World) (ho : o.op = .binOp .eql 25 x y 25 := by rfl) (hx : ρ x = arA a := by rfl) (hy : ρ y = arA a := by rfl) :
    (execOp ρ o).run Try.prog w = .ok (.value (.bool true)) w := by
  unfold execOp
  rw [ho]
  unfold arA at hx hy
  simp [go_sem, hx, hy]
set_option maxRecDepth 100000 in
theorem exec_eqI {ρ : Operand → Value} {o : Oper} {x y : Operand} (X : Int) (w : World) (ho : o.op = .binOp .eql 3 x y 3 := by rfl) (hx : ρ x = .int .i64 X := by rfl) (hy : ρ y = .int .i64 X := by rfl) :
    (execOp ρ o).run Try.prog w = .ok (.value (.bool true)) w := by
  unfold execOp
  rw [ho]
  simp [go_sem, hx, hy]
set_option maxRecDepth 100000 in
theorem exec_datA {ρ : Operand → Value} {o : Oper} {x : Operand} (a : Ar) (w : World) (ho : o.op = .field 25 x 0 := by rfl) (hx : ρ x = arA a := by rfl) :
    (execOp ρ o).run Try.prog w = .ok (.value (.string a.data)) w := by
  unfold execOp
  rw [ho]
  unfold arA at hx
  simp [go_sem, hx, Instr.field, asAgg]
set_option maxRecDepth 100000 in
theorem exec_pickT {ρ : Operand → Value} {o : Oper} {x y z : Operand} (v : Value) (w : World) (ho : o.op = .pick x y z := by rfl) (hx : ρ x = .bool true := by rfl) (hy : ρ y = v := by rfl) :
    (execOp ρ o).run Try.prog w = .ok (.value v) w := by
  unfold execOp
  rw [ho]
  simp [go_sem, hx, hy]
theorem st_cells {w : World} {b : Nat} {s : St} {t : TypeId} (h : w.heap[b]? = some (.cells #[.string s.log.data, .int .i64 s.log.safe, .string s.even.data, .int .i64 s.even.safe, .string s.odd.data, .int .i64 s.odd.safe] t (0, 0))) : w.cell? ⟨b, 0, none⟩ = some (.string s.log.data) ∧ w.cell? ⟨b, 1, none⟩ = some (.int .i64 s.log.safe) :=
  ⟨cell_of_row _ _ 0 _ _ _ h, cell_of_row _ _ 1 _ _ _ h⟩
set_option maxRecDepth 100000 in
set_option maxHeartbeats 3200000 in
theorem FnSlots_walk (A : Option Addr) (l : List Nat) (cap : Nat) (w : World) (hA : Bts w w.heap.size A l) (hb : AllB l) (hm : l.length ≤ maxLen) :
    Calls Try.prog 4 #[.slice A l.length cap] w fun e w' => e = .returned (.bool true) ∧ Below w.heap.size w w' := by
  unfold maxLen at hm
  by_cases hbig : 1048576 < l.length
  · go_enter Try.func4, Try.ntmps4
    go_wp2_with (go_at_call 14; refine (big_yes _ _ _ _ hbig).mono ?_; rintro e w' ⟨rfl, rfl⟩)
    go_ret
    exact ⟨rfl, Below.refl _ _⟩
  have hle : l.length ≤ 1048576 := by omega
  go_enter Try.func4, Try.ntmps4
  go_wp2_with (go_at_call 14; refine (big_no _ _ _ _ hle).mono ?_; rintro e w' ⟨rfl, rfl⟩)
  refine (drawPutSlot_any A l cap w (by omega) hA hb).mono ?_
  rintro e w1 ⟨s, n, a, ⟨hsg, hs1, hs2, hs3⟩, hn, ⟨hag, has⟩, rfl, b1⟩
  have C0 := Lib.hid (fun w => putSlot_impl s n a w)
  have C1 := Lib.hid (fun w => slotOf_impl (putS s n a) n w)
  rw [slot_same] at C1
  have C4 := Lib.hid (fun w => storeLen_impl (putS s n a) w (by have := put_fits s n a hs1 hs2 hs3 has; omega))
  have C5 := Lib.hid (fun w => storeLen_spec s w (by omega))
  have C6 := Lib.hid (fun w => slotOf_spec s n w)
  have HN := Lib.hid (put_len s n a)
  have HL := Lib.hid (put_log s n a)
  have ho2 := slot_fits s n hs2 hs3
  have hL2 : ((s.log.data.size + s.even.data.size + s.odd.data.size : Nat) : Int) ≤ 60000 := by omega
  have hL2' : 0 ≤ ((s.log.data.size + s.even.data.size + s.odd.data.size : Nat) : Int) := by omega
  have C2 : Hid (∀ w, n.tmod 2 = 0 → Calls Try.prog 23 #[stA (putS s n a), .int .i64 1] w fun e w' => e = .returned (arA (slotS s 1)) ∧ Below w.heap.size w w') := fun w h => by rw [← slot_even s n a h]; exact slotOf_impl (putS s n a) 1 w
  have C2' : Hid (∀ w, ¬ n.tmod 2 = 0 → Calls Try.prog 23 #[stA (putS s n a), .int .i64 0] w fun e w' => e = .returned (arA (slotS s 0)) ∧ Below w.heap.size w w') := fun w h => by rw [← slot_odd s n a h]; exact slotOf_impl (putS s n a) 0 w
  have C3 := Lib.hid (fun w => slotOf_spec s 1 w)
  have C3' := Lib.hid (fun w => slotOf_spec s 0 w)
  generalize putS s n a = T at *
  generalize slotS s n = o2 at *
  generalize ((s.log.data.size + s.even.data.size + s.odd.data.size : Nat) : Int) = L2 at *
  obtain ⟨L1, hL1⟩ : ∃ L1, ((T.log.data.size + T.even.data.size + T.odd.data.size : Nat) : Int) = L1 := ⟨_, rfl⟩
  rw [hL1] at C4 HN
  have hr1 : -9223372036854775808 ≤ L1 := by have := HN.out; omega
  have hr2 : L1 ≤ 9223372036854775807 := by have := HN.out; omega
  clear hA hb hbig hle hm hs1 hs2 hs3 hsg hag hL1
  have h3 := heap_new w1 (.cells #[.string s.log.data, .int .i64 s.log.safe, .string s.even.data, .int .i64 s.even.safe, .string s.odd.data, .int .i64 s.odd.safe] 33)
  have h5 := heap_new (w1.alloc (.cells #[.string s.log.data, .int .i64 s.log.safe, .string s.even.data, .int .i64 s.even.safe, .string s.odd.data, .int .i64 s.odd.safe] 33)) (.cells #[.string a.data, .int .i64 a.safe] 25)
  rw [World.size_alloc] at h5
  have h3 := blk_alloc h3 (.cells #[.string a.data, .int .i64 a.safe] 25)
  have b2 := (b1.alloc b1.size (.cells #[.string s.log.data, .int .i64 s.log.safe, .string s.even.data, .int .i64 s.even.safe, .string s.odd.data, .int .i64 s.odd.safe] 33)).alloc (by have := b1.size; simp; omega) (.cells #[.string a.data, .int .i64 a.safe] 25)
  unfold stA arA at C0
  unfold stA arA
  go_wp2_with fail
  refine (C0.out _).mono ?_
  rintro e w2 ⟨rfl, x2⟩
  have h3 := blk_alloc (blk_call h3 x2) (.cells #[.string T.log.data, .int .i64 T.log.safe, .string T.even.data, .int .i64 T.even.safe, .string T.odd.data, .int .i64 T.odd.safe] 33)
  have h5 := blk_alloc (blk_call h5 x2) (.cells #[.string T.log.data, .int .i64 T.log.safe, .string T.even.data, .int .i64 T.even.safe, .string T.odd.data, .int .i64 T.odd.safe] 33)
  have h6 := heap_new w2 (.cells #[.string T.log.data, .int .i64 T.log.safe, .string T.even.data, .int .i64 T.even.safe, .string T.odd.data, .int .i64 T.odd.safe] 33)
  have b2 := b2.trans (x2.mono b2.size)
  have b2 := b2.alloc b2.size (.cells #[.string T.log.data, .int .i64 T.log.safe, .string T.even.data, .int .i64 T.even.safe, .string T.odd.data, .int .i64 T.odd.safe] 33)
  clear x2 b1
  obtain ⟨U, hU⟩ : ∃ U, w2.alloc (.cells #[.string T.log.data, .int .i64 T.log.safe, .string T.even.data, .int .i64 T.even.safe, .string T.odd.data, .int .i64 T.odd.safe] 33) = U := ⟨_, rfl⟩
  obtain ⟨t3, ht3⟩ : ∃ t3, w1.heap.size = t3 := ⟨_, rfl⟩
  obtain ⟨t6, ht6⟩ : ∃ t6, w2.heap.size = t6 := ⟨_, rfl⟩
  rw [hU] at h3 h5 h6 b2
  have KS : Hid (∀ w', Below U.heap.size U w' → w'.heap[w1.heap.size]? = some (.cells #[.string s.log.data, .int .i64 s.log.safe, .string s.even.data, .int .i64 s.even.safe, .string s.odd.data, .int .i64 s.odd.safe] 33 (0, 0))) := fun w' h => blk_call h3 h
  have KA : Hid (∀ w', Below U.heap.size U w' → w'.heap[w1.heap.size + 1]? = some (.cells #[.string a.data, .int .i64 a.safe] 25 (0, 0))) := fun w' h => blk_call h5 h
  have KT : Hid (∀ w', Below U.heap.size U w' → w'.heap[w2.heap.size]? = some (.cells #[.string T.log.data, .int .i64 T.log.safe, .string T.even.data, .int .i64 T.even.safe, .string T.odd.data, .int .i64 T.odd.safe] 33 (0, 0))) := fun w' h => blk_call h6 h
  rw [ht3] at KS
  rw [ht3] at KA
  rw [ht6] at KT
  have BW := Lib.hid b2
  clear h3 h5 h6 b2 C0
  by_cases hp : n.tmod 2 = 0
  · have C2 : Hid (∀ w, Calls Try.prog 23 #[stA T, .int .i64 1] w fun e w' => e = .returned (arA (slotS s 1)) ∧ Below w.heap.size w w') := fun w => C2.out w hp
    generalize slotS s 1 = o1 at *
    have hp1 : (n.tmod 2 != 0) = false := by simp [hp]
    clear C2' C3'
    go_wp2_with fail
    clear hU ht3 ht6
    refine wp_region_held_drew (S := fun w' => Hid (Below U.heap.size U w')) (by kernel_rfl) (below_drawn (Below.refl _ _) 1) (fun hHeld => ?_)
    refine held_take 0 23 (stA T) rfl rfl (by kernel_rfl) (by kernel_rfl) (by kernel_rfl) (fun _ _ _ h => h) rfl hHeld (fun w hS => exec_loadI _ T w (KT.out w hS.out)) ?_
    refine held_take 1 24 (.int .i64 n) rfl rfl (by kernel_rfl) (by kernel_rfl) (by kernel_rfl) (fun _ _ _ h => h) rfl hHeld (fun w _ => rfl) ?_
    refine held_take 3 26 (arA a) rfl rfl (by kernel_rfl) (by kernel_rfl) (by kernel_rfl) (fun _ _ _ h => h) rfl hHeld (fun w hS => exec_loadA _ a w (blk2 (KA.out w hS.out))) ?_
    simp only [Act.put, List.setIfInBounds_toArray, List.set_cons_zero, List.set_cons_succ]
    refine held_call 2 25 23 #[stA T, .int .i64 n] rfl rfl (by kernel_rfl) rfl (exec_call Try.func23 (by kernel_rfl) (by kernel_rfl) _) ?_
    refine (C1.out _).mono ?_
    rintro e u1 ⟨rfl, x1⟩
    have k1 := hHeld.out.trans (x1.mono hHeld.out.size)
    clear x1
    refine ⟨_, rfl, k1, ?_⟩
    simp only [Act.put, List.setIfInBounds_toArray, List.set_cons_zero, List.set_cons_succ]
    refine held_take 4 27 (.bool true) rfl rfl (by kernel_rfl) (by kernel_rfl) (by kernel_rfl) (fun _ _ _ h => h) rfl k1 (fun w _ => exec_eqA a w) ?_
    refine held_take 5 28 (.bool true) rfl rfl (by kernel_rfl) (by kernel_rfl) (by kernel_rfl) (fun _ _ _ h => h) rfl k1 (fun w _ => rfl) ?_
    refine held_take 6 29 (stA T) rfl rfl (by kernel_rfl) (by kernel_rfl) (by kernel_rfl) (fun _ _ _ h => h) rfl k1 (fun w hS => exec_loadI _ T w (KT.out w hS.out)) ?_
    simp only [Act.put, List.setIfInBounds_toArray, List.set_cons_zero, List.set_cons_succ]
    refine held_take 7 30 (.int .i64 1) rfl rfl (by kernel_rfl) (by kernel_rfl) (by kernel_rfl) (fun _ _ _ h => h) rfl k1 (fun w _ => rfl) ?_
    refine held_take 9 32 (stA s) rfl rfl (by kernel_rfl) (by kernel_rfl) (by kernel_rfl) (fun _ _ _ h => h) rfl k1 (fun w hS => exec_loadI _ s w (KS.out w hS.out)) ?_
    refine held_take 10 33 (.int .i64 1) rfl rfl (by kernel_rfl) (by kernel_rfl) (by kernel_rfl) (fun _ _ _ h => h) rfl k1 (fun w _ => rfl) ?_
    simp only [Act.put, List.setIfInBounds_toArray, List.set_cons_zero, List.set_cons_succ]
    refine held_call 8 31 23 #[stA T, .int .i64 1] rfl rfl (by kernel_rfl) rfl (exec_call Try.func23 (by kernel_rfl) (by kernel_rfl) _) ?_
    refine (C2.out _).mono ?_
    rintro e u2 ⟨rfl, x2⟩
    have k2 := k1.trans (x2.mono k1.size)
    clear x2
    refine ⟨_, rfl, k2, ?_⟩
    simp only [Act.put, List.setIfInBounds_toArray, List.set_cons_zero, List.set_cons_succ]
    refine held_call 11 34 24 #[stA s, .int .i64 1] rfl rfl (by kernel_rfl) rfl (exec_call Try.func24 (by kernel_rfl) (by kernel_rfl) _) ?_
    refine (C3.out _).mono ?_
    rintro e u3 ⟨rfl, x3⟩
    have k3 := k2.trans (x3.mono k2.size)
    clear x3
    refine ⟨_, rfl, k3, ?_⟩
    simp only [Act.put, List.setIfInBounds_toArray, List.set_cons_zero, List.set_cons_succ]
    refine held_take 12 35 (.bool true) rfl rfl (by kernel_rfl) (by kernel_rfl) (by kernel_rfl) (fun _ _ _ h => h) rfl k3 (fun w _ => exec_eqA o1 w) ?_
    refine held_take 13 36 (.bool true) rfl rfl (by kernel_rfl) (by kernel_rfl) (by kernel_rfl) (fun _ _ _ h => h) rfl k3 (fun w _ => exec_pickT _ w) ?_
    refine held_take 14 37 (.bool true) rfl rfl (by kernel_rfl) (by kernel_rfl) (by kernel_rfl) (fun _ _ _ h => h) rfl k3 (fun w _ => rfl) ?_
    simp only [Act.put, List.setIfInBounds_toArray, List.set_cons_zero, List.set_cons_succ]
    refine held_take 15 38 (.pointer (some ⟨t6, 0, none⟩)) rfl rfl (by kernel_rfl) (by kernel_rfl) (by kernel_rfl) (fun _ _ _ h => h) rfl k3 (fun w _ => exec_fldS _ w) ?_
    refine held_take 17 40 (.pointer (some ⟨t3, 0, none⟩)) rfl rfl (by kernel_rfl) (by kernel_rfl) (by kernel_rfl) (fun _ _ _ h => h) rfl k3 (fun w _ => exec_fldS _ w) ?_
    refine held_take 16 39 (arA s.log) rfl rfl (by kernel_rfl) (by kernel_rfl) (by kernel_rfl) (fun _ _ _ h => h) rfl k3 (fun w hS => exec_loadA _ s.log w (by have := st_cells (KT.out w hS.out); rwa [HL.out] at this)) ?_
    simp only [Act.put, List.setIfInBounds_toArray, List.set_cons_zero, List.set_cons_succ]
    refine held_take 18 41 (arA s.log) rfl rfl (by kernel_rfl) (by kernel_rfl) (by kernel_rfl) (fun _ _ _ h => h) rfl k3 (fun w hS => exec_loadA _ s.log w (st_cells (KS.out w hS.out))) ?_
    refine held_take 19 42 (.bool true) rfl rfl (by kernel_rfl) (by kernel_rfl) (by kernel_rfl) (fun _ _ _ h => h) rfl k3 (fun w _ => exec_eqA s.log w) ?_
    refine held_take 20 43 (.bool true) rfl rfl (by kernel_rfl) (by kernel_rfl) (by kernel_rfl) (fun _ _ _ h => h) rfl k3 (fun w _ => exec_pickT _ w) ?_
    simp only [Act.put, List.setIfInBounds_toArray, List.set_cons_zero, List.set_cons_succ]
    refine held_take 21 44 (.bool true) rfl rfl (by kernel_rfl) (by kernel_rfl) (by kernel_rfl) (fun _ _ _ h => h) rfl k3 (fun w _ => rfl) ?_
    refine held_take 22 45 (stA T) rfl rfl (by kernel_rfl) (by kernel_rfl) (by kernel_rfl) (fun _ _ _ h => h) rfl k3 (fun w hS => exec_loadI _ T w (KT.out w hS.out)) ?_
    refine held_take 24 47 (stA s) rfl rfl (by kernel_rfl) (by kernel_rfl) (by kernel_rfl) (fun _ _ _ h => h) rfl k3 (fun w hS => exec_loadI _ s w (KS.out w hS.out)) ?_
    simp only [Act.put, List.setIfInBounds_toArray, List.set_cons_zero, List.set_cons_succ]
    refine held_take 26 49 (stA s) rfl rfl (by kernel_rfl) (by kernel_rfl) (by kernel_rfl) (fun _ _ _ h => h) rfl k3 (fun w hS => exec_loadI _ s w (KS.out w hS.out)) ?_
    refine held_take 27 50 (.int .i64 n) rfl rfl (by kernel_rfl) (by kernel_rfl) (by kernel_rfl) (fun _ _ _ h => h) rfl k3 (fun w _ => rfl) ?_
    refine held_take 32 55 (.pointer (some ⟨t3 + 1, 0, none⟩)) rfl rfl (by kernel_rfl) (by kernel_rfl) (by kernel_rfl) (fun _ _ _ h => h) rfl k3 (fun w _ => exec_fldA _ 0 w (by simp)) ?_
    simp only [Act.put, List.setIfInBounds_toArray, List.set_cons_zero, List.set_cons_succ]
    refine held_take 33 56 (.string a.data) rfl rfl (by kernel_rfl) (by kernel_rfl) (by kernel_rfl) (fun _ _ _ h => h) rfl k3 (fun w hS => exec_load1 9 _ _ _ w (by simp) (blk2 (KA.out w hS.out)).1) ?_
    refine held_take 34 57 (.int .i64 (a.data.size : Int)) rfl rfl (by kernel_rfl) (by kernel_rfl) (by kernel_rfl) (fun _ _ _ h => h) rfl k3 (fun w _ => exec_lenS _ w) ?_
    simp only [Act.put, List.setIfInBounds_toArray, List.set_cons_zero, List.set_cons_succ]
    refine held_call 23 46 25 #[stA T] rfl rfl (by kernel_rfl) rfl (exec_call Try.func25 (by kernel_rfl) (by kernel_rfl) _) ?_
    refine (C4.out _).mono ?_
    rintro e u4 ⟨rfl, x4⟩
    have k4 := k3.trans (x4.mono k3.size)
    clear x4
    refine ⟨_, rfl, k4, ?_⟩
    simp only [Act.put, List.setIfInBounds_toArray, List.set_cons_zero, List.set_cons_succ]
    refine held_call 25 48 26 #[stA s] rfl rfl (by kernel_rfl) rfl (exec_call Try.func26 (by kernel_rfl) (by kernel_rfl) _) ?_
    refine (C5.out _).mono ?_
    rintro e u5 ⟨rfl, x5⟩
    have k5 := k4.trans (x5.mono k4.size)
    clear x5
    refine ⟨_, rfl, k5, ?_⟩
    simp only [Act.put, List.setIfInBounds_toArray, List.set_cons_zero, List.set_cons_succ]
    refine held_call 28 51 24 #[stA s, .int .i64 n] rfl rfl (by kernel_rfl) rfl (exec_call Try.func24 (by kernel_rfl) (by kernel_rfl) _) ?_
    refine (C6.out _).mono ?_
    rintro e u6 ⟨rfl, x6⟩
    have k6 := k5.trans (x6.mono k5.size)
    clear x6
    refine ⟨_, rfl, k6, ?_⟩
    simp only [Act.put, List.setIfInBounds_toArray, List.set_cons_zero, List.set_cons_succ]
    refine held_take 29 52 (.string o2.data) rfl rfl (by kernel_rfl) (by kernel_rfl) (by kernel_rfl) (fun _ _ _ h => h) rfl k6 (fun w _ => exec_datA o2 w) ?_
    refine held_take 30 53 (.int .i64 (o2.data.size : Int)) rfl rfl (by kernel_rfl) (by kernel_rfl) (by kernel_rfl) (fun _ _ _ h => h) rfl k6 (fun w _ => exec_lenS _ w) ?_
    refine held_take 31 54 (.int .i64 (L2 - o2.data.size)) rfl rfl (by kernel_rfl) (by kernel_rfl) (by kernel_rfl) (fun _ _ _ h => h) rfl k6 (fun w _ => exec_subI _ _ _ w rfl (by omega) (by omega)) ?_
    simp only [Act.put, List.setIfInBounds_toArray, List.set_cons_zero, List.set_cons_succ]
    refine held_take 35 58 (.int .i64 L1) rfl rfl (by kernel_rfl) (by kernel_rfl) (by kernel_rfl) (fun _ _ _ h => h) rfl k6 (fun w _ => exec_addI _ _ _ w HN.out (by omega) (by omega)) ?_
    refine held_take 36 59 (.bool true) rfl rfl (by kernel_rfl) (by kernel_rfl) (by kernel_rfl) (fun _ _ _ h => h) rfl k6 (fun w _ => exec_eqI _ w) ?_
    refine held_take 37 60 (.bool true) rfl rfl (by kernel_rfl) (by kernel_rfl) (by kernel_rfl) (fun _ _ _ h => h) rfl k6 (fun w _ => exec_pickT _ w) ?_
    simp only [Act.put, List.setIfInBounds_toArray, List.set_cons_zero, List.set_cons_succ]
    refine held_op 38 2 (.bool true) rfl rfl (by kernel_rfl) rfl rfl k6 ?_
    simp only [Act.put, List.setIfInBounds_toArray, List.set_cons_zero, List.set_cons_succ]
    refine wpAnyH_done (by kernel_rfl) ?_ _
    go_wp2
    go_ret
    exact ⟨rfl, BW.out.trans (k6.mono BW.out.size)⟩
  · have C2 : Hid (∀ w, Calls Try.prog 23 #[stA T, .int .i64 0] w fun e w' => e = .returned (arA (slotS s 0)) ∧ Below w.heap.size w w') := fun w => C2'.out w hp
    have C3 := C3'
    generalize slotS s 0 = o1 at *
    have hp1 : (n.tmod 2 != 0) = true := by simp [hp]
    clear C2' C3'
    go_wp2_with fail
    clear hU ht3 ht6
    refine wp_region_held_drew (S := fun w' => Hid (Below U.heap.size U w')) (by kernel_rfl) (below_drawn (Below.refl _ _) 1) (fun hHeld => ?_)
    refine held_take 0 23 (stA T) rfl rfl (by kernel_rfl) (by kernel_rfl) (by kernel_rfl) (fun _ _ _ h => h) rfl hHeld (fun w hS => exec_loadI _ T w (KT.out w hS.out)) ?_
    refine held_take 1 24 (.int .i64 n) rfl rfl (by kernel_rfl) (by kernel_rfl) (by kernel_rfl) (fun _ _ _ h => h) rfl hHeld (fun w _ => rfl) ?_
    refine held_take 3 26 (arA a) rfl rfl (by kernel_rfl) (by kernel_rfl) (by kernel_rfl) (fun _ _ _ h => h) rfl hHeld (fun w hS => exec_loadA _ a w (blk2 (KA.out w hS.out))) ?_
    simp only [Act.put, List.setIfInBounds_toArray, List.set_cons_zero, List.set_cons_succ]
    refine held_call 2 25 23 #[stA T, .int .i64 n] rfl rfl (by kernel_rfl) rfl (exec_call Try.func23 (by kernel_rfl) (by kernel_rfl) _) ?_
    refine (C1.out _).mono ?_
    rintro e u1 ⟨rfl, x1⟩
    have k1 := hHeld.out.trans (x1.mono hHeld.out.size)
    clear x1
    refine ⟨_, rfl, k1, ?_⟩
    simp only [Act.put, List.setIfInBounds_toArray, List.set_cons_zero, List.set_cons_succ]
    refine held_take 4 27 (.bool true) rfl rfl (by kernel_rfl) (by kernel_rfl) (by kernel_rfl) (fun _ _ _ h => h) rfl k1 (fun w _ => exec_eqA a w) ?_
    refine held_take 5 28 (.bool true) rfl rfl (by kernel_rfl) (by kernel_rfl) (by kernel_rfl) (fun _ _ _ h => h) rfl k1 (fun w _ => rfl) ?_
    refine held_take 6 29 (stA T) rfl rfl (by kernel_rfl) (by kernel_rfl) (by kernel_rfl) (fun _ _ _ h => h) rfl k1 (fun w hS => exec_loadI _ T w (KT.out w hS.out)) ?_
    simp only [Act.put, List.setIfInBounds_toArray, List.set_cons_zero, List.set_cons_succ]
    refine held_take 7 30 (.int .i64 0) rfl rfl (by kernel_rfl) (by kernel_rfl) (by kernel_rfl) (fun _ _ _ h => h) rfl k1 (fun w _ => rfl) ?_
    refine held_take 9 32 (stA s) rfl rfl (by kernel_rfl) (by kernel_rfl) (by kernel_rfl) (fun _ _ _ h => h) rfl k1 (fun w hS => exec_loadI _ s w (KS.out w hS.out)) ?_
    refine held_take 10 33 (.int .i64 0) rfl rfl (by kernel_rfl) (by kernel_rfl) (by kernel_rfl) (fun _ _ _ h => h) rfl k1 (fun w _ => rfl) ?_
    simp only [Act.put, List.setIfInBounds_toArray, List.set_cons_zero, List.set_cons_succ]
    refine held_call 8 31 23 #[stA T, .int .i64 0] rfl rfl (by kernel_rfl) rfl (exec_call Try.func23 (by kernel_rfl) (by kernel_rfl) _) ?_
    refine (C2.out _).mono ?_
    rintro e u2 ⟨rfl, x2⟩
    have k2 := k1.trans (x2.mono k1.size)
    clear x2
    refine ⟨_, rfl, k2, ?_⟩
    simp only [Act.put, List.setIfInBounds_toArray, List.set_cons_zero, List.set_cons_succ]
    refine held_call 11 34 24 #[stA s, .int .i64 0] rfl rfl (by kernel_rfl) rfl (exec_call Try.func24 (by kernel_rfl) (by kernel_rfl) _) ?_
    refine (C3.out _).mono ?_
    rintro e u3 ⟨rfl, x3⟩
    have k3 := k2.trans (x3.mono k2.size)
    clear x3
    refine ⟨_, rfl, k3, ?_⟩
    simp only [Act.put, List.setIfInBounds_toArray, List.set_cons_zero, List.set_cons_succ]
    refine held_take 12 35 (.bool true) rfl rfl (by kernel_rfl) (by kernel_rfl) (by kernel_rfl) (fun _ _ _ h => h) rfl k3 (fun w _ => exec_eqA o1 w) ?_
    refine held_take 13 36 (.bool true) rfl rfl (by kernel_rfl) (by kernel_rfl) (by kernel_rfl) (fun _ _ _ h => h) rfl k3 (fun w _ => exec_pickT _ w) ?_
    refine held_take 14 37 (.bool true) rfl rfl (by kernel_rfl) (by kernel_rfl) (by kernel_rfl) (fun _ _ _ h => h) rfl k3 (fun w _ => rfl) ?_
    simp only [Act.put, List.setIfInBounds_toArray, List.set_cons_zero, List.set_cons_succ]
    refine held_take 15 38 (.pointer (some ⟨t6, 0, none⟩)) rfl rfl (by kernel_rfl) (by kernel_rfl) (by kernel_rfl) (fun _ _ _ h => h) rfl k3 (fun w _ => exec_fldS _ w) ?_
    refine held_take 17 40 (.pointer (some ⟨t3, 0, none⟩)) rfl rfl (by kernel_rfl) (by kernel_rfl) (by kernel_rfl) (fun _ _ _ h => h) rfl k3 (fun w _ => exec_fldS _ w) ?_
    refine held_take 16 39 (arA s.log) rfl rfl (by kernel_rfl) (by kernel_rfl) (by kernel_rfl) (fun _ _ _ h => h) rfl k3 (fun w hS => exec_loadA _ s.log w (by have := st_cells (KT.out w hS.out); rwa [HL.out] at this)) ?_
    simp only [Act.put, List.setIfInBounds_toArray, List.set_cons_zero, List.set_cons_succ]
    refine held_take 18 41 (arA s.log) rfl rfl (by kernel_rfl) (by kernel_rfl) (by kernel_rfl) (fun _ _ _ h => h) rfl k3 (fun w hS => exec_loadA _ s.log w (st_cells (KS.out w hS.out))) ?_
    refine held_take 19 42 (.bool true) rfl rfl (by kernel_rfl) (by kernel_rfl) (by kernel_rfl) (fun _ _ _ h => h) rfl k3 (fun w _ => exec_eqA s.log w) ?_
    refine held_take 20 43 (.bool true) rfl rfl (by kernel_rfl) (by kernel_rfl) (by kernel_rfl) (fun _ _ _ h => h) rfl k3 (fun w _ => exec_pickT _ w) ?_
    simp only [Act.put, List.setIfInBounds_toArray, List.set_cons_zero, List.set_cons_succ]
    refine held_take 21 44 (.bool true) rfl rfl (by kernel_rfl) (by kernel_rfl) (by kernel_rfl) (fun _ _ _ h => h) rfl k3 (fun w _ => rfl) ?_
    refine held_take 22 45 (stA T) rfl rfl (by kernel_rfl) (by kernel_rfl) (by kernel_rfl) (fun _ _ _ h => h) rfl k3 (fun w hS => exec_loadI _ T w (KT.out w hS.out)) ?_
    refine held_take 24 47 (stA s) rfl rfl (by kernel_rfl) (by kernel_rfl) (by kernel_rfl) (fun _ _ _ h => h) rfl k3 (fun w hS => exec_loadI _ s w (KS.out w hS.out)) ?_
    simp only [Act.put, List.setIfInBounds_toArray, List.set_cons_zero, List.set_cons_succ]
    refine held_take 26 49 (stA s) rfl rfl (by kernel_rfl) (by kernel_rfl) (by kernel_rfl) (fun _ _ _ h => h) rfl k3 (fun w hS => exec_loadI _ s w (KS.out w hS.out)) ?_
    refine held_take 27 50 (.int .i64 n) rfl rfl (by kernel_rfl) (by kernel_rfl) (by kernel_rfl) (fun _ _ _ h => h) rfl k3 (fun w _ => rfl) ?_
    refine held_take 32 55 (.pointer (some ⟨t3 + 1, 0, none⟩)) rfl rfl (by kernel_rfl) (by kernel_rfl) (by kernel_rfl) (fun _ _ _ h => h) rfl k3 (fun w _ => exec_fldA _ 0 w (by simp)) ?_
    simp only [Act.put, List.setIfInBounds_toArray, List.set_cons_zero, List.set_cons_succ]
    refine held_take 33 56 (.string a.data) rfl rfl (by kernel_rfl) (by kernel_rfl) (by kernel_rfl) (fun _ _ _ h => h) rfl k3 (fun w hS => exec_load1 9 _ _ _ w (by simp) (blk2 (KA.out w hS.out)).1) ?_
    refine held_take 34 57 (.int .i64 (a.data.size : Int)) rfl rfl (by kernel_rfl) (by kernel_rfl) (by kernel_rfl) (fun _ _ _ h => h) rfl k3 (fun w _ => exec_lenS _ w) ?_
    simp only [Act.put, List.setIfInBounds_toArray, List.set_cons_zero, List.set_cons_succ]
    refine held_call 23 46 25 #[stA T] rfl rfl (by kernel_rfl) rfl (exec_call Try.func25 (by kernel_rfl) (by kernel_rfl) _) ?_
    refine (C4.out _).mono ?_
    rintro e u4 ⟨rfl, x4⟩
    have k4 := k3.trans (x4.mono k3.size)
    clear x4
    refine ⟨_, rfl, k4, ?_⟩
    simp only [Act.put, List.setIfInBounds_toArray, List.set_cons_zero, List.set_cons_succ]
    refine held_call 25 48 26 #[stA s] rfl rfl (by kernel_rfl) rfl (exec_call Try.func26 (by kernel_rfl) (by kernel_rfl) _) ?_
    refine (C5.out _).mono ?_
    rintro e u5 ⟨rfl, x5⟩
    have k5 := k4.trans (x5.mono k4.size)
    clear x5
    refine ⟨_, rfl, k5, ?_⟩
    simp only [Act.put, List.setIfInBounds_toArray, List.set_cons_zero, List.set_cons_succ]
    refine held_call 28 51 24 #[stA s, .int .i64 n] rfl rfl (by kernel_rfl) rfl (exec_call Try.func24 (by kernel_rfl) (by kernel_rfl) _) ?_
    refine (C6.out _).mono ?_
    rintro e u6 ⟨rfl, x6⟩
    have k6 := k5.trans (x6.mono k5.size)
    clear x6
    refine ⟨_, rfl, k6, ?_⟩
    simp only [Act.put, List.setIfInBounds_toArray, List.set_cons_zero, List.set_cons_succ]
    refine held_take 29 52 (.string o2.data) rfl rfl (by kernel_rfl) (by kernel_rfl) (by kernel_rfl) (fun _ _ _ h => h) rfl k6 (fun w _ => exec_datA o2 w) ?_
    refine held_take 30 53 (.int .i64 (o2.data.size : Int)) rfl rfl (by kernel_rfl) (by kernel_rfl) (by kernel_rfl) (fun _ _ _ h => h) rfl k6 (fun w _ => exec_lenS _ w) ?_
    refine held_take 31 54 (.int .i64 (L2 - o2.data.size)) rfl rfl (by kernel_rfl) (by kernel_rfl) (by kernel_rfl) (fun _ _ _ h => h) rfl k6 (fun w _ => exec_subI _ _ _ w rfl (by omega) (by omega)) ?_
    simp only [Act.put, List.setIfInBounds_toArray, List.set_cons_zero, List.set_cons_succ]
    refine held_take 35 58 (.int .i64 L1) rfl rfl (by kernel_rfl) (by kernel_rfl) (by kernel_rfl) (fun _ _ _ h => h) rfl k6 (fun w _ => exec_addI _ _ _ w HN.out (by omega) (by omega)) ?_
    refine held_take 36 59 (.bool true) rfl rfl (by kernel_rfl) (by kernel_rfl) (by kernel_rfl) (fun _ _ _ h => h) rfl k6 (fun w _ => exec_eqI _ w) ?_
    refine held_take 37 60 (.bool true) rfl rfl (by kernel_rfl) (by kernel_rfl) (by kernel_rfl) (fun _ _ _ h => h) rfl k6 (fun w _ => exec_pickT _ w) ?_
    simp only [Act.put, List.setIfInBounds_toArray, List.set_cons_zero, List.set_cons_succ]
    refine held_op 38 2 (.bool true) rfl rfl (by kernel_rfl) rfl rfl k6 ?_
    simp only [Act.put, List.setIfInBounds_toArray, List.set_cons_zero, List.set_cons_succ]
    refine wpAnyH_done (by kernel_rfl) ?_ _
    go_wp2
    go_ret
    exact ⟨rfl, BW.out.trans (k6.mono BW.out.size)⟩
end Go.Proofs.Ythkfbgamkffjeaa
