/- Crashes: the model. -/
import Derived.Test.YtcapioiigfldoaaRows
import Derived.Test.YtcapioiigfldoaaSlotsW
import Derived.Test.YtcapioiigfldoaaHs1
namespace Go.Proofs.Ytcapioiigfldoaa
open Go.RowKit
set_option linter.unusedSimpArgs false
set_option linter.unusedVariables false
/-- How many bytes a crash leaves. -/
def leftN (a : Ar) (k : Int) : Int := a.safe + max 0 (min k (a.data.size - a.safe))
/-- What Left returns. -/
def leftA (a : Ar) (k : Int) : Ar := if a.fine then ⟨a.data.extract 0 (leftN a k).toNat, leftN a k⟩ else a
theorem leftN_in {a : Ar} (h : a.fine) (k : Int) : 0 ≤ leftN a k ∧ leftN a k ≤ a.data.size := by
  obtain ⟨h1, h2, h3⟩ := h
  unfold leftN
  omega
theorem leftA_go {a : Ar} (h : a.go) (k : Int) : (leftA a k).go := by
  unfold leftA
  split
  · rename_i hf
    have := leftN_in hf k
    have := hf.1
    refine ⟨?_, ?_, ?_⟩
    · show (a.data.extract 0 _).size ≤ _
      rw [ByteArray.size_extract]; omega
    · show _ ≤ leftN a k; omega
    · show leftN a k ≤ _; omega
  · exact h
theorem leftA_size (a : Ar) (k : Int) : (leftA a k).data.size ≤ a.data.size := by
  unfold leftA
  split
  · show (a.data.extract 0 _).size ≤ _
    rw [ByteArray.size_extract]; omega
  · exact Nat.le_refl _
theorem max_if (x y : Int) : (if y < x then x else y) = max x y := by
  split <;> omega
set_option maxRecDepth 100000 in
set_option maxHeartbeats 800000 in
theorem left_spec (a : Ar) (k : Int) (w : World) (hg : a.go) : Calls Try.prog 24 #[arA a, .int .i64 k] w fun e w' => e = .returned (arA (leftA a k)) ∧ Below w.heap.size w w' := by
  have C := Lib.hid (fun w => areaOk_spec a w hg)
  by_cases hf : a.fine
  · obtain ⟨hl, hf2, hf3⟩ := id hf
    obtain ⟨hm1, hm2⟩ := leftN_in hf k
    obtain ⟨m, hm⟩ : ∃ m : Nat, leftN a k = m := ⟨(leftN a k).toNat, by omega⟩
    have HN : Hid (a.safe + max 0 (min k ((a.data.size : Int) - a.safe)) = (m : Int)) := by show _ = _; rw [← hm]; rfl
    have HR : Hid (arA (leftA a k) = .agg #[.string (a.data.extract 0 m), .int .i64 (m : Int)]) := by
      show _ = _
      unfold leftA
      rw [if_pos hf, hm, Int.toNat_natCast]; rfl
    rw [hm] at hm1 hm2
    generalize arA (leftA a k) = R at *
    simp only [hf, decide_true] at C
    unfold arA at *
    clear hm hf
    go_enter Try.func24, Try.ntmps24
    go_wp2_with fail
    refine (C.out _).mono ?_
    rintro e w2 ⟨rfl, b2⟩
    obtain ⟨⟨q0, q1, r0, r1⟩, ⟨z0, z1, y0, y1⟩, bW⟩ := bx2 w w2 _ _ _ _ _ _ b2
    clear b2
    go_wp2_with fail
    refine wp_region_held_drew (S := fun w' => Hid (w'.cell? ⟨w.heap.size, 0, none⟩ = some (.string a.data) ∧ w'.cell? ⟨w.heap.size, 1, none⟩ = some (.int .i64 a.safe))) (by kernel_rfl) ⟨q0, q1⟩ (fun hHeld => ?_)
    refine held_take 0 10 (.pointer (some ⟨w.heap.size, 1, none⟩)) rfl rfl (by kernel_rfl) (by kernel_rfl) (by kernel_rfl) (fun _ _ _ h => h) rfl hHeld (fun w _ => exec_fldA _ 1 w (by simp)) ?_
    refine held_take 1 11 (.int .i64 a.safe) rfl rfl (by kernel_rfl) (by kernel_rfl) (by kernel_rfl) (fun _ _ _ h => h) rfl hHeld (fun w hS => exec_load1 3 _ _ _ w (by simp) hS.out.2) ?_
    refine held_take 2 12 (.int .i64 k) rfl rfl (by kernel_rfl) (by kernel_rfl) (by kernel_rfl) (fun _ _ _ h => h) rfl hHeld (fun w _ => rfl) ?_
    simp only [Act.put, List.setIfInBounds_toArray, List.set_cons_zero, List.set_cons_succ]
    refine held_take 3 13 (.pointer (some ⟨w.heap.size, 0, none⟩)) rfl rfl (by kernel_rfl) (by kernel_rfl) (by kernel_rfl) (fun _ _ _ h => h) rfl hHeld (fun w _ => exec_fldA _ 0 w (by simp)) ?_
    refine held_take 4 14 (.string a.data) rfl rfl (by kernel_rfl) (by kernel_rfl) (by kernel_rfl) (fun _ _ _ h => h) rfl hHeld (fun w hS => exec_load1 9 _ _ _ w (by simp) hS.out.1) ?_
    refine held_take 5 15 (.int .i64 (a.data.size : Int)) rfl rfl (by kernel_rfl) (by kernel_rfl) (by kernel_rfl) (fun _ _ _ h => h) rfl hHeld (fun w _ => exec_lenS _ w) ?_
    simp only [Act.put, List.setIfInBounds_toArray, List.set_cons_zero, List.set_cons_succ]
    refine held_take 6 16 (.pointer (some ⟨w.heap.size, 1, none⟩)) rfl rfl (by kernel_rfl) (by kernel_rfl) (by kernel_rfl) (fun _ _ _ h => h) rfl hHeld (fun w _ => exec_fldA _ 1 w (by simp)) ?_
    refine held_take 7 17 (.int .i64 a.safe) rfl rfl (by kernel_rfl) (by kernel_rfl) (by kernel_rfl) (fun _ _ _ h => h) rfl hHeld (fun w hS => exec_load1 3 _ _ _ w (by simp) hS.out.2) ?_
    refine held_take 8 18 (.int .i64 ((a.data.size : Int) - a.safe)) rfl rfl (by kernel_rfl) (by kernel_rfl) (by kernel_rfl) (fun _ _ _ h => h) rfl hHeld (fun w _ => exec_subI _ _ _ w rfl (by omega) (by omega)) ?_
    simp only [Act.put, List.setIfInBounds_toArray, List.set_cons_zero, List.set_cons_succ]
    refine held_call 9 19 50 #[.int .i64 k, .int .i64 ((a.data.size : Int) - a.safe)] rfl rfl (by kernel_rfl) rfl (exec_call Try.func50 (by kernel_rfl) (by kernel_rfl) _) ?_
    refine (l1Min_any _ _ _).mono ?_
    rintro e w3 ⟨rfl, rfl⟩
    rw [min_if]
    refine ⟨_, rfl, ⟨q0, q1⟩, ?_⟩
    simp only [Act.put, List.setIfInBounds_toArray, List.set_cons_zero, List.set_cons_succ]
    refine held_call 10 20 49 #[.int .i64 0, .int .i64 (min k ((a.data.size : Int) - a.safe))] rfl rfl (by kernel_rfl) rfl (exec_call Try.func49 (by kernel_rfl) (by kernel_rfl) _) ?_
    refine (l1Max_any _ _ _).mono ?_
    rintro e w4 ⟨rfl, rfl⟩
    rw [max_if]
    refine ⟨_, rfl, ⟨q0, q1⟩, ?_⟩
    simp only [Act.put, List.setIfInBounds_toArray, List.set_cons_zero, List.set_cons_succ]
    refine held_op 11 21 (.int .i64 (m : Int)) rfl rfl (by kernel_rfl) rfl (exec_addI _ _ _ _ HN.out (by omega) (by omega)) ⟨q0, q1⟩ ?_
    simp only [Act.put, List.setIfInBounds_toArray, List.set_cons_zero, List.set_cons_succ]
    refine held_op 12 5 (.int .i64 (m : Int)) rfl rfl (by kernel_rfl) rfl rfl ⟨q0, q1⟩ ?_
    simp only [Act.put, List.setIfInBounds_toArray, List.set_cons_zero, List.set_cons_succ]
    refine wpAnyH_done (by kernel_rfl) ?_ _
    obtain ⟨X, hX⟩ : ∃ X, a.data.extract 0 m = X := ⟨_, rfl⟩
    rw [hX] at HR
    go_wp2
    simp [bodyPost, results, Try.results24, go_sem, q0, q1, r0, r1]
    exact ⟨HR.out.symm, below_drawn ((bW.setCell (by simp) _).setCell (by simp) _) 1⟩
  · have HR : Hid (arA (leftA a k) = .agg #[.string a.data, .int .i64 a.safe]) := by
      show _ = _
      unfold leftA
      rw [if_neg hf]; rfl
    generalize arA (leftA a k) = R at *
    simp only [hf, decide_false] at C
    unfold arA at *
    go_enter Try.func24, Try.ntmps24
    go_wp2_with fail
    refine (C.out _).mono ?_
    rintro e w2 ⟨rfl, b2⟩
    obtain ⟨⟨q0, q1, r0, r1⟩, ⟨z0, z1, y0, y1⟩, bW⟩ := bx2 w w2 _ _ _ _ _ _ b2
    clear b2
    go_wp2
    simp [bodyPost, results, Try.results24, go_sem, q0, q1, r0, r1]
    exact ⟨HR.out.symm, (bW.setCell (by simp) _).setCell (by simp) _⟩
set_option maxRecDepth 100000 in
theorem keep_spec (A : Option Addr) (l : List Int) (c i : Nat) (w : World) (hl : l.length ≤ 9223372036854775807) (hi : i ≤ 2) (hA : Rws w w.heap.size A (ints l)) :
    Calls Try.prog 40 #[.slice A l.length c, .int .i64 i] w fun e w' => e = .returned (.int .i64 (l.getD i 0)) ∧ w = w' := by
  by_cases h : i < l.length
  · obtain ⟨b, off, rfl, _, hc⟩ := hA.int h
    generalize l.getD i 0 = x at *
    go_enter Try.func40, Try.ntmps40
    go_wp2
    go_ret
    exact ⟨rfl, rfl⟩
  · have e : l.getD i 0 = 0 := by rw [List.getD_eq_getElem?_getD, List.getElem?_eq_none (by omega)]; rfl
    rw [e]
    go_enter Try.func40, Try.ntmps40
    go_wp2
    go_ret
    exact ⟨rfl, rfl⟩
/-- What Fallen returns. -/
def fallS (s : St) (l : List Int) : St := ⟨leftA s.log (l.getD 0 0), leftA s.even (l.getD 1 0), leftA s.odd (l.getD 2 0)⟩
set_option maxRecDepth 100000 in
theorem exec_fldSt {ρ : Operand → Value} {o : Oper} {x : Operand} (b k : Nat) (w : World) (hk : k = 0 ∨ k = 1 ∨ k = 2) (ho : o.op = .fieldAddr 27 x k := by rfl) (hx : ρ x = .pointer (some ⟨b, 0, none⟩) := by rfl) :
    (execOp ρ o).run Try.prog w = .ok (.value (.pointer (some ⟨b, 2 * k, none⟩))) w := by
  unfold execOp
  rw [ho]
  rcases hk with rfl | rfl | rfl <;> simp [go_sem, hx]
set_option maxRecDepth 100000 in
theorem exec_loadAt {ρ : Operand → Value} {o : Oper} {x : Operand} (b off : Nat) (a : Ar) (w : World) (h0 : w.cell? ⟨b, off, none⟩ = some (.string a.data)) (h1 : w.cell? ⟨b, off + 1, none⟩ = some (.int .i64 a.safe)) (ho : o.op = .load 25 x := by rfl) (hx : ρ x = .pointer (some ⟨b, off, none⟩) := by rfl) :
    (execOp ρ o).run Try.prog w = .ok (.value (arA a)) w := by
  unfold execOp
  rw [ho]
  simp [go_sem, hx, h0, h1, arA]
set_option maxRecDepth 100000 in
theorem exec_build6 {ρ : Operand → Value} {o : Oper} {x y z : Operand} (a b c : Ar) (w : World) (ho : o.op = .build 27 #[(0, x), (1, y), (2, z)] := by rfl) (hx : ρ x = arA a := by rfl) (hy : ρ y = arA b := by rfl) (hz : ρ z = arA c := by rfl) :
    (execOp ρ o).run Try.prog w = .ok (.value (stA ⟨a, b, c⟩)) w := by
  unfold execOp
  rw [ho]
  unfold arA at hx hy hz
  simp [go_sem, hx, hy, hz, stA]
/-- Two blocks made just before. -/
theorem two_at (w w2 : World) (A B : Obj) (b : Below ((w.alloc A).alloc B).heap.size ((w.alloc A).alloc B) w2) : w2.heap[w.heap.size]? = some A ∧ w2.heap[w.heap.size + 1]? = some B ∧ Below w.heap.size w w2 := by
  have e0 : (w.alloc A).heap.size = w.heap.size + 1 := by simp
  refine ⟨(b.block _ (by simp; omega)).trans ?_, (b.block _ (by simp)).trans ?_, boxB _ _ _ (boxB _ _ _ b)⟩
  · rw [Go.heap_alloc_old _ _ (by omega), heap_new]
  · rw [← e0, heap_new]
theorem boxS_call {w u u' : World} {r : Nat} {o : Obj} (h : u.heap[r]? = some o ∧ Below w.heap.size w u) (x : Below u.heap.size u u') : u'.heap[r]? = some o ∧ Below w.heap.size w u' := ⟨blk_call h.1 x, h.2.trans (x.mono h.2.size)⟩
theorem put6_other {w : World} {g r : Nat} {s : St} (h : r ≠ g) : (put6 w g s).heap[r]? = w.heap[r]? := by
  unfold put6
  repeat rw [Below.heap_setCell _ _ _ _ (by simpa using h)]
set_option maxRecDepth 100000 in
set_option maxHeartbeats 1600000 in
theorem fallen_spec (s : St) (A : Option Addr) (l : List Int) (c : Nat) (w : World) (hg : s.go) (hl : l.length ≤ 9223372036854775807) (hA : Rws w w.heap.size A (ints l)) :
    Calls Try.prog 13 #[stA s, .slice A l.length c] w fun e w' => e = .returned (stA (fallS s l)) ∧ Below w.heap.size w w' := by
  obtain ⟨hg0, hg1, hg2⟩ := hg
  have T0 := two_at w ((w.alloc (.cells #[.string s.log.data, .int .i64 s.log.safe, .string s.even.data, .int .i64 s.even.safe, .string s.odd.data, .int .i64 s.odd.safe] 27)).alloc (.cells #[.string ⟨#[]⟩, .int .i64 0, .string ⟨#[]⟩, .int .i64 0, .string ⟨#[]⟩, .int .i64 0] 27)) _ _ (Below.refl _ _)
  have s0 : ((w.alloc (.cells #[.string s.log.data, .int .i64 s.log.safe, .string s.even.data, .int .i64 s.even.safe, .string s.odd.data, .int .i64 s.odd.safe] 27)).alloc (.cells #[.string ⟨#[]⟩, .int .i64 0, .string ⟨#[]⟩, .int .i64 0, .string ⟨#[]⟩, .int .i64 0] 27)).heap[w.heap.size]? = some (.cells #[.string s.log.data, .int .i64 s.log.safe, .string s.even.data, .int .i64 s.even.safe, .string s.odd.data, .int .i64 s.odd.safe] 27 (0, 0)) ∧ Below w.heap.size w ((w.alloc (.cells #[.string s.log.data, .int .i64 s.log.safe, .string s.even.data, .int .i64 s.even.safe, .string s.odd.data, .int .i64 s.odd.safe] 27)).alloc (.cells #[.string ⟨#[]⟩, .int .i64 0, .string ⟨#[]⟩, .int .i64 0, .string ⟨#[]⟩, .int .i64 0] 27)) := ⟨T0.1, T0.2.2⟩
  have r0 : ((w.alloc (.cells #[.string s.log.data, .int .i64 s.log.safe, .string s.even.data, .int .i64 s.even.safe, .string s.odd.data, .int .i64 s.odd.safe] 27)).alloc (.cells #[.string ⟨#[]⟩, .int .i64 0, .string ⟨#[]⟩, .int .i64 0, .string ⟨#[]⟩, .int .i64 0] 27)).drew.heap[w.heap.size + 1]? = some (.cells #[.string ⟨#[]⟩, .int .i64 0, .string ⟨#[]⟩, .int .i64 0, .string ⟨#[]⟩, .int .i64 0] 27 (0, 0)) := T0.2.1
  clear T0
  unfold stA
  go_enter Try.func13, Try.ntmps13
  go_wp2_with fail
  refine wp_region_held_drew (S := fun w' => Hid (w'.heap[w.heap.size]? = some (.cells #[.string s.log.data, .int .i64 s.log.safe, .string s.even.data, .int .i64 s.even.safe, .string s.odd.data, .int .i64 s.odd.safe] 27 (0, 0)) ∧ Below w.heap.size w w')) (by kernel_rfl) ⟨s0.1, below_drawn s0.2 1⟩ (fun hHeld => ?_)
  refine held_take 0 5 (.pointer (some ⟨w.heap.size, 0, none⟩)) rfl rfl (by kernel_rfl) (by kernel_rfl) (by kernel_rfl) (fun _ _ _ h => h) rfl hHeld (fun w _ => exec_fldSt _ 0 w (by simp)) ?_
  refine held_take 1 6 (arA s.log) rfl rfl (by kernel_rfl) (by kernel_rfl) (by kernel_rfl) (fun _ _ _ h => h) rfl hHeld (fun w hS => exec_loadAt _ _ s.log w (cell_of_row _ _ 0 _ _ _ hS.out.1) (cell_of_row _ _ 1 _ _ _ hS.out.1)) ?_
  refine held_take 2 7 (.slice A l.length c) rfl rfl (by kernel_rfl) (by kernel_rfl) (by kernel_rfl) (fun _ _ _ h => h) rfl hHeld (fun w _ => rfl) ?_
  simp only [Act.put, List.setIfInBounds_toArray, List.set_cons_zero, List.set_cons_succ]
  refine held_take 5 10 (.pointer (some ⟨w.heap.size, 2, none⟩)) rfl rfl (by kernel_rfl) (by kernel_rfl) (by kernel_rfl) (fun _ _ _ h => h) rfl hHeld (fun w _ => exec_fldSt _ 1 w (by simp)) ?_
  refine held_take 6 11 (arA s.even) rfl rfl (by kernel_rfl) (by kernel_rfl) (by kernel_rfl) (fun _ _ _ h => h) rfl hHeld (fun w hS => exec_loadAt _ _ s.even w (cell_of_row _ _ 2 _ _ _ hS.out.1) (cell_of_row _ _ 3 _ _ _ hS.out.1)) ?_
  refine held_take 7 12 (.slice A l.length c) rfl rfl (by kernel_rfl) (by kernel_rfl) (by kernel_rfl) (fun _ _ _ h => h) rfl hHeld (fun w _ => rfl) ?_
  simp only [Act.put, List.setIfInBounds_toArray, List.set_cons_zero, List.set_cons_succ]
  refine held_take 10 15 (.pointer (some ⟨w.heap.size, 4, none⟩)) rfl rfl (by kernel_rfl) (by kernel_rfl) (by kernel_rfl) (fun _ _ _ h => h) rfl hHeld (fun w _ => exec_fldSt _ 2 w (by simp)) ?_
  refine held_take 11 16 (arA s.odd) rfl rfl (by kernel_rfl) (by kernel_rfl) (by kernel_rfl) (fun _ _ _ h => h) rfl hHeld (fun w hS => exec_loadAt _ _ s.odd w (cell_of_row _ _ 4 _ _ _ hS.out.1) (cell_of_row _ _ 5 _ _ _ hS.out.1)) ?_
  refine held_take 12 17 (.slice A l.length c) rfl rfl (by kernel_rfl) (by kernel_rfl) (by kernel_rfl) (fun _ _ _ h => h) rfl hHeld (fun w _ => rfl) ?_
  simp only [Act.put, List.setIfInBounds_toArray, List.set_cons_zero, List.set_cons_succ]
  refine held_call 3 8 40 #[.slice A l.length c, .int .i64 0] rfl rfl (by kernel_rfl) rfl (exec_call Try.func40 (by kernel_rfl) (by kernel_rfl) _) ?_
  refine (keep_spec A l c 0 _ hl (by omega) ((hA.below (hHeld.out).2).more (hHeld.out).2.size)).mono ?_
  rintro e u1 ⟨rfl, rfl⟩
  refine ⟨_, rfl, hHeld.out, ?_⟩
  simp only [Act.put, List.setIfInBounds_toArray, List.set_cons_zero, List.set_cons_succ]
  refine held_call 4 9 24 #[arA s.log, .int .i64 (l.getD 0 0)] rfl rfl (by kernel_rfl) rfl (exec_call Try.func24 (by kernel_rfl) (by kernel_rfl) _) ?_
  refine (left_spec s.log (l.getD 0 0) _ hg0).mono ?_
  rintro e u2 ⟨rfl, x2⟩
  have k2 := boxS_call (hHeld.out) x2
  have r2 := blk_call r0 x2
  clear x2
  refine ⟨_, rfl, k2, ?_⟩
  simp only [Act.put, List.setIfInBounds_toArray, List.set_cons_zero, List.set_cons_succ]
  refine held_call 8 13 40 #[.slice A l.length c, .int .i64 1] rfl rfl (by kernel_rfl) rfl (exec_call Try.func40 (by kernel_rfl) (by kernel_rfl) _) ?_
  refine (keep_spec A l c 1 _ hl (by omega) ((hA.below (k2).2).more (k2).2.size)).mono ?_
  rintro e u3 ⟨rfl, rfl⟩
  refine ⟨_, rfl, k2, ?_⟩
  simp only [Act.put, List.setIfInBounds_toArray, List.set_cons_zero, List.set_cons_succ]
  refine held_call 9 14 24 #[arA s.even, .int .i64 (l.getD 1 0)] rfl rfl (by kernel_rfl) rfl (exec_call Try.func24 (by kernel_rfl) (by kernel_rfl) _) ?_
  refine (left_spec s.even (l.getD 1 0) _ hg1).mono ?_
  rintro e u4 ⟨rfl, x4⟩
  have k4 := boxS_call (k2) x4
  have r4 := blk_call r2 x4
  clear x4
  refine ⟨_, rfl, k4, ?_⟩
  simp only [Act.put, List.setIfInBounds_toArray, List.set_cons_zero, List.set_cons_succ]
  refine held_call 13 18 40 #[.slice A l.length c, .int .i64 2] rfl rfl (by kernel_rfl) rfl (exec_call Try.func40 (by kernel_rfl) (by kernel_rfl) _) ?_
  refine (keep_spec A l c 2 _ hl (by omega) ((hA.below (k4).2).more (k4).2.size)).mono ?_
  rintro e u5 ⟨rfl, rfl⟩
  refine ⟨_, rfl, k4, ?_⟩
  simp only [Act.put, List.setIfInBounds_toArray, List.set_cons_zero, List.set_cons_succ]
  refine held_call 14 19 24 #[arA s.odd, .int .i64 (l.getD 2 0)] rfl rfl (by kernel_rfl) rfl (exec_call Try.func24 (by kernel_rfl) (by kernel_rfl) _) ?_
  refine (left_spec s.odd (l.getD 2 0) _ hg2).mono ?_
  rintro e u6 ⟨rfl, x6⟩
  have k6 := boxS_call (k4) x6
  have r6 := blk_call r4 x6
  clear x6
  refine ⟨_, rfl, k6, ?_⟩
  simp only [Act.put, List.setIfInBounds_toArray, List.set_cons_zero, List.set_cons_succ]
  refine held_op 15 20 (stA (fallS s l)) rfl rfl (by kernel_rfl) rfl (exec_build6 _ _ _ u6) k6 ?_
  simp only [Act.put, List.setIfInBounds_toArray, List.set_cons_zero, List.set_cons_succ]
  refine held_store 16 rfl rfl (by kernel_rfl) rfl (exec_store6 _ (fallS s l) u6 r6) ⟨(put6_other (by omega)).trans k6.1, put6_below k6.2 (by omega)⟩ ?_
  refine wpAnyH_done (by kernel_rfl) ?_ _
  have R : Hid (Below w.heap.size w (put6 u6 (w.heap.size + 1) (fallS s l))) := put6_below k6.2 (by omega)
  have p6 := put6_heap (s := fallS s l) r6
  have c0 := cell_of_row _ _ 0 _ _ _ p6
  have c1 := cell_of_row _ _ 1 _ _ _ p6
  have c2 := cell_of_row _ _ 2 _ _ _ p6
  have c3 := cell_of_row _ _ 3 _ _ _ p6
  have c4 := cell_of_row _ _ 4 _ _ _ p6
  have c5 := cell_of_row _ _ 5 _ _ _ p6
  simp at c0 c1 c2 c3 c4 c5
  generalize put6 u6 (w.heap.size + 1) (fallS s l) = V at *
  generalize hX : fallS s l = X at *
  have HX := Lib.hid hX
  clear hX
  clear s0 r0 p6 hHeld
  go_wp2
  simp [bodyPost, results, Try.results13, go_sem, c0, c1, c2, c3, c4, c5]
  rw [HX.out]
  exact ⟨⟨rfl, rfl, rfl, rfl, rfl, rfl⟩, R.out⟩
theorem ar_ext {a b : Ar} (h1 : a.data = b.data) (h2 : a.safe = b.safe) : a = b := by cases a; cases b; simp_all
instance (a b : Ar) : Decidable (a = b) := decidable_of_iff (a.data = b.data ∧ a.safe = b.safe) ⟨fun h => ar_ext h.1 h.2, fun h => h ▸ ⟨rfl, rfl⟩⟩
/-- What l4Could tells. -/
def couldA (a b : Ar) : Prop := b = leftA a (IntKind.i64.wrap (b.data.size - a.safe))
instance (a b : Ar) : Decidable (couldA a b) := by unfold couldA; infer_instance
set_option maxRecDepth 100000 in
theorem exec_subW {ρ : Operand → Value} {o : Oper} {x y : Operand} (X Y : Int) (w : World) (ho : o.op = .binOp .sub 3 x y 3 := by rfl) (hx : ρ x = .int .i64 X := by rfl) (hy : ρ y = .int .i64 Y := by rfl) :
    (execOp ρ o).run Try.prog w = .ok (.value (.int .i64 (IntKind.i64.wrap (X - Y)))) w := by
  unfold execOp
  rw [ho]
  simp [go_sem, hx, hy]
set_option maxRecDepth 100000 in
theorem exec_eqA2 {ρ : Operand → Value} {o : Oper} {x y : Operand} (a b : Ar) (w : World) (ho : o.op = .binOp .eql 25 x y 25 := by rfl) (hx : ρ x = arA a := by rfl) (hy : ρ y = arA b := by rfl) :
    (execOp ρ o).run Try.prog w = .ok (.value (.bool (decide (a = b)))) w := by
  unfold execOp
  rw [ho]
  unfold arA at hx hy
  have e : (a = b) ↔ (a.data = b.data ∧ a.safe = b.safe) := ⟨fun h => h ▸ ⟨rfl, rfl⟩, fun h => ar_ext h.1 h.2⟩
  by_cases h1 : a.data = b.data
  · by_cases h2 : a.safe = b.safe
    · simp [go_sem, hx, hy, h1, h2, e]
    · simp [go_sem, hx, hy, h1, h2, e]
  · have h3 := str_ne h1
    simp [go_sem, hx, hy, h1, h3, e]
set_option maxRecDepth 100000 in
set_option maxHeartbeats 800000 in
theorem could1_spec (a b : Ar) (w : World) (hg : a.go) : Calls Try.prog 51 #[arA a, arA b] w fun e w' => e = .returned (.bool (decide (couldA a b))) ∧ Below w.heap.size w w' := by
  unfold arA
  go_enter Try.func51, Try.ntmps51
  go_wp2_with fail
  have b1 := Below.refl ((w.alloc (.cells #[.string a.data, .int .i64 a.safe] 25)).alloc (.cells #[.string b.data, .int .i64 b.safe] 25)).heap.size ((w.alloc (.cells #[.string a.data, .int .i64 a.safe] 25)).alloc (.cells #[.string b.data, .int .i64 b.safe] 25))
  obtain ⟨⟨q0, q1, r0, r1⟩, ⟨z0, z1, y0, y1⟩, bW⟩ := bx2 w ((w.alloc (.cells #[.string a.data, .int .i64 a.safe] 25)).alloc (.cells #[.string b.data, .int .i64 b.safe] 25)) _ _ _ _ _ _ b1
  refine wp_region_held_drew (S := fun w' => Hid ((w'.cell? ⟨w.heap.size, 0, none⟩ = some (.string a.data) ∧ w'.cell? ⟨w.heap.size, 1, none⟩ = some (.int .i64 a.safe)) ∧ w'.cell? ⟨w.heap.size + 1, 0, none⟩ = some (.string b.data) ∧ w'.cell? ⟨w.heap.size + 1, 1, none⟩ = some (.int .i64 b.safe))) (by kernel_rfl) ⟨⟨q0, q1⟩, r0, r1⟩ (fun hHeld => ?_)
  refine held_take 0 5 (arA b) rfl rfl (by kernel_rfl) (by kernel_rfl) (by kernel_rfl) (fun _ _ _ h => h) rfl hHeld (fun w hS => exec_loadA _ b w hS.out.2) ?_
  refine held_take 1 6 (arA a) rfl rfl (by kernel_rfl) (by kernel_rfl) (by kernel_rfl) (fun _ _ _ h => h) rfl hHeld (fun w hS => exec_loadA _ a w hS.out.1) ?_
  refine held_take 2 7 (.pointer (some ⟨w.heap.size + 1, 0, none⟩)) rfl rfl (by kernel_rfl) (by kernel_rfl) (by kernel_rfl) (fun _ _ _ h => h) rfl hHeld (fun w _ => exec_fldA _ 0 w (by simp)) ?_
  simp only [Act.put, List.setIfInBounds_toArray, List.set_cons_zero, List.set_cons_succ]
  refine held_take 3 8 (.string b.data) rfl rfl (by kernel_rfl) (by kernel_rfl) (by kernel_rfl) (fun _ _ _ h => h) rfl hHeld (fun w hS => exec_load1 9 _ _ _ w (by simp) hS.out.2.1) ?_
  refine held_take 4 9 (.int .i64 (b.data.size : Int)) rfl rfl (by kernel_rfl) (by kernel_rfl) (by kernel_rfl) (fun _ _ _ h => h) rfl hHeld (fun w _ => exec_lenS _ w) ?_
  refine held_take 5 10 (.pointer (some ⟨w.heap.size, 1, none⟩)) rfl rfl (by kernel_rfl) (by kernel_rfl) (by kernel_rfl) (fun _ _ _ h => h) rfl hHeld (fun w _ => exec_fldA _ 1 w (by simp)) ?_
  simp only [Act.put, List.setIfInBounds_toArray, List.set_cons_zero, List.set_cons_succ]
  refine held_take 6 11 (.int .i64 a.safe) rfl rfl (by kernel_rfl) (by kernel_rfl) (by kernel_rfl) (fun _ _ _ h => h) rfl hHeld (fun w hS => exec_load1 3 _ _ _ w (by simp) hS.out.1.2) ?_
  refine held_take 7 12 (.int .i64 (IntKind.i64.wrap (b.data.size - a.safe))) rfl rfl (by kernel_rfl) (by kernel_rfl) (by kernel_rfl) (fun _ _ _ h => h) rfl hHeld (fun w _ => exec_subW _ _ w) ?_
  simp only [Act.put, List.setIfInBounds_toArray, List.set_cons_zero, List.set_cons_succ]
  refine held_call 8 13 24 #[arA a, .int .i64 (IntKind.i64.wrap (b.data.size - a.safe))] rfl rfl (by kernel_rfl) rfl (exec_call Try.func24 (by kernel_rfl) (by kernel_rfl) _) ?_
  refine (left_spec a _ _ hg).mono ?_
  rintro e w3 ⟨rfl, b3⟩
  have b3 := (below_drawn b1 1).trans (b3.mono (by exact b1.size))
  clear q0 q1 r0 r1 z0 z1 y0 y1 bW
  obtain ⟨⟨q0, q1, r0, r1⟩, ⟨z0, z1, y0, y1⟩, bW⟩ := bx2 w w3 _ _ _ _ _ _ b3
  refine ⟨_, rfl, ⟨⟨q0, q1⟩, r0, r1⟩, ?_⟩
  simp only [Act.put, List.setIfInBounds_toArray, List.set_cons_zero, List.set_cons_succ]
  refine held_op 9 14 (.bool (decide (couldA a b))) rfl rfl (by kernel_rfl) rfl (exec_eqA2 _ _ w3) ⟨⟨q0, q1⟩, r0, r1⟩ ?_
  simp only [Act.put, List.setIfInBounds_toArray, List.set_cons_zero, List.set_cons_succ]
  refine held_op 10 4 (.bool (decide (couldA a b))) rfl rfl (by kernel_rfl) rfl rfl ⟨⟨q0, q1⟩, r0, r1⟩ ?_
  simp only [Act.put, List.setIfInBounds_toArray, List.set_cons_zero, List.set_cons_succ]
  refine wpAnyH_done (by kernel_rfl) ?_ _
  go_wp2
  go_ret
  exact ⟨rfl, bW⟩
set_option maxRecDepth 100000 in
theorem calm1_spec (a : Ar) (w : World) : Calls Try.prog 52 #[arA a] w fun e w' => e = .returned (.bool (decide (a.safe = a.data.size))) ∧ Below w.heap.size w w' := by
  unfold arA
  go_enter Try.func52, Try.ntmps52
  go_wp2
  go_ret
  exact ⟨rfl, (Below.refl _ _).alloc (Nat.le_refl _) _⟩
end Go.Proofs.Ytcapioiigfldoaa
