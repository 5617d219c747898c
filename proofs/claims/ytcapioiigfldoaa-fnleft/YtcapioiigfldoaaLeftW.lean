/- The walk of the law FnLeft. -/
import Derived.Test.YtcapioiigfldoaaRows
import Derived.Test.YtcapioiigfldoaaFallJ
namespace Go.Proofs.Ytcapioiigfldoaa
open Go.RowKit
set_option linter.unusedSimpArgs false
set_option linter.unusedVariables false
set_option maxRecDepth 100000 in
theorem exec_eqST {ρ : Operand → Value} {o : Oper} {x y : Operand} (X : ByteArray) (w : World) (ho : o.op = .binOp .eql 9 x y 9 := by rfl) (hx : ρ x = .string X := by rfl) (hy : ρ y = .string X := by rfl) :
    (execOp ρ o).run Try.prog w = .ok (.value (.bool true)) w := by
  have h := exec_eqS X X w ho hx hy
  simpa using h
set_option maxRecDepth 100000 in
theorem exec_toSR {ρ : Operand → Value} {o : Oper} {x l : Operand} (X Z : ByteArray) (a : Nat) (w : World) (h : a ≤ X.size) (hZ : X.extract 0 a = Z) (ho : o.op = .slice 9 x none (some l) none := by rfl) (hx : ρ x = .string X := by rfl) (hl : ρ l = .int .i64 (a : Int) := by rfl) :
    (execOp ρ o).run Try.prog w = .ok (.value (.string Z)) w := hZ ▸ exec_toS X a w h ho hx hl
set_option maxRecDepth 100000 in
theorem exec_lenR {ρ : Operand → Value} {o : Oper} {x : Operand} (X : ByteArray) (z : Int) (w : World) (hz : (X.size : Int) = z) (ho : o.op = .call { callee := .builtin .len, args := #[x], argTypes := #[9] } := by rfl) (hx : ρ x = .string X := by rfl) :
    (execOp ρ o).run Try.prog w = .ok (.value (.int .i64 z)) w := hz ▸ exec_lenS X w ho hx
theorem leftN_step {a : Ar} (h : a.fine) (k : Int) : leftN a k ≤ leftN a (k + 1) ∧ leftN a (k + 1) ≤ leftN a k + 1 ∧ a.safe ≤ leftN a k := by
  obtain ⟨h1, h2, h3⟩ := h
  unfold leftN
  omega
theorem leftA_all {a : Ar} (h : a.fine) {k : Int} (hk : 1000000 < k) : leftA a k = ⟨a.data, (a.data.size : Int)⟩ := by
  obtain ⟨h1, h2, h3⟩ := id h
  have e : leftN a k = a.data.size := by unfold leftN; omega
  unfold leftA
  rw [if_pos h, e, Int.toNat_natCast]
  congr
  rw [← strB_strN (a.data.extract 0 a.data.size), strN_extract, List.drop_zero, List.take_of_length_le (by rw [strN_length]; omega), strB_strN]
set_option maxRecDepth 100000 in
set_option maxHeartbeats 3200000 in
theorem FnLeft_walk (A : Option Addr) (l : List Nat) (cap : Nat) (w : World) (hA : Bts w w.heap.size A l) (hb : AllB l) (hm : l.length ≤ maxLen) :
    Calls Try.prog 4 #[.slice A l.length cap] w fun e w' => e = .returned (.bool true) ∧ Below w.heap.size w w' := by
  unfold maxLen at hm
  by_cases hbig : 1048576 < l.length
  · go_enter Try.func4, Try.ntmps4
    go_wp2_with (go_at_call 10; refine (big_yes _ _ _ _ hbig).mono ?_; rintro e w' ⟨rfl, rfl⟩)
    go_ret
    exact ⟨rfl, Below.refl _ _⟩
  have hle : l.length ≤ 1048576 := by omega
  go_enter Try.func4, Try.ntmps4
  go_wp2_with (go_at_call 10; refine (big_no _ _ _ _ hle).mono ?_; rintro e w' ⟨rfl, rfl⟩)
  refine (drawLeft_any A l cap w (by omega) hA hb).mono ?_
  rintro e w1 ⟨a, k, ⟨hag, hsz⟩, hk, rfl, b1⟩
  have hk2 := id hk
  unfold inI at hk2
  have C0 := Lib.hid (fun w => left_impl a k w hag hk)
  have CA := Lib.hid (fun w => areaOk_spec a w hag)
  have CL := Lib.hid (fun w (h : inI (k + 1)) => left_impl a (k + 1) w hag h)
  clear hA hb hbig hle hm
  have hl1 : (a.data.toList == a.data.toList) = true := by simp
  have hl3 : (a.safe == a.safe) = true := by simp
  by_cases hf : a.fine
  · simp only [hf, decide_true] at CA
    by_cases hbk : 1000000 < k
    · rw [leftA_all hf hbk] at C0
      simp only [arA] at C0 CA ⊢
      have hl2 : ((a.data.size : Int) == (a.data.size : Int)) = true := by simp
      have ha := heap_new w1 (.cells #[.string a.data, .int .i64 a.safe] 25)
      go_wp2_with fail
      refine (C0.out _).mono ?_
      rintro e w2 ⟨rfl, x2⟩
      have ha := blk_call ha x2
      have b2 := (b1.alloc b1.size (.cells #[.string a.data, .int .i64 a.safe] 25)).trans (x2.mono (by have := b1.size; simp; omega))
      obtain ⟨ca0, ca1⟩ := blk2 ha
      have la := blk_lt ha
      clear x2
      have hq := heap_new w2 (.cells #[.string a.data, .int .i64 (a.data.size : Int)] 25)
      go_wp2_with fail
      refine (CA.out _).mono ?_
      rintro e w3 ⟨rfl, x3⟩
      have ha := blk_call (blk_alloc ha _) x3
      have hq := blk_call hq x3
      have b3 := (b2.alloc b2.size (.cells #[.string a.data, .int .i64 (a.data.size : Int)] 25)).trans (x3.mono (by have := b2.size; simp; omega))
      clear ca0 ca1 x3 la
      obtain ⟨ca0, ca1⟩ := blk2 ha
      obtain ⟨cq0, cq1⟩ := blk2 hq
      have la := blk_lt ha
      have lq := blk_lt hq
      clear ha hq CL C0 CA
      go_wp2
      go_ret
      exact ⟨rfl, b3⟩
    have hk1 : inI (k + 1) := by unfold inI; omega
    obtain ⟨hs1, hs2, hs3⟩ := leftN_step hf k
    have hn1 := leftN_in hf k
    have hn2 := leftN_in hf (k + 1)
    obtain ⟨n, hn⟩ : ∃ n : Nat, leftN a k = n := ⟨(leftN a k).toNat, by omega⟩
    obtain ⟨m, hm⟩ : ∃ m : Nat, leftN a (k + 1) = m := ⟨(leftN a (k + 1)).toNat, by omega⟩
    have e0 : leftA a k = ⟨a.data.extract 0 n, (n : Int)⟩ := by unfold leftA; rw [if_pos hf, hn, Int.toNat_natCast]
    have e1 : leftA a (k + 1) = ⟨a.data.extract 0 m, (m : Int)⟩ := by unfold leftA; rw [if_pos hf, hm, Int.toNat_natCast]
    rw [hn, hm] at hs1 hs2
    rw [hn] at hs3 hn1
    rw [hm] at hn2
    rw [e0] at C0
    rw [e1] at CL
    have hXs : (a.data.extract 0 n).size = n := by rw [ByteArray.size_extract]; omega
    have hYs : (a.data.extract 0 m).size = m := by rw [ByteArray.size_extract]; omega
    have hXY : (a.data.extract 0 m).extract 0 (a.data.extract 0 n).size = a.data.extract 0 n := by
      rw [hXs, ← strB_strN ((a.data.extract 0 m).extract 0 n), strN_extract, strN_extract, List.drop_zero, List.drop_zero, Nat.sub_zero, Nat.sub_zero, List.take_take, Nat.min_eq_left (by omega), ← strB_strN (a.data.extract 0 n), strN_extract, List.drop_zero, Nat.sub_zero]
    generalize a.data.extract 0 n = X at *
    generalize a.data.extract 0 m = Y at *
    have HXY := Lib.hid hXY
    have HXn : Hid ((X.size : Int) = (n : Int)) := by show _ = _; rw [hXs]
    clear hXY e0 e1 hn hm
    simp only [arA] at C0 CA CL ⊢
    have h3 := heap_new w1 (.cells #[.string a.data, .int .i64 a.safe] 25)
    go_wp2_with fail
    refine (C0.out _).mono ?_
    rintro e w2 ⟨rfl, x2⟩
    have h3 := blk_call h3 x2
    have b2 := (b1.alloc b1.size (.cells #[.string a.data, .int .i64 a.safe] 25)).trans (x2.mono (by have := b1.size; simp; omega))
    obtain ⟨ca0, ca1⟩ := blk2 h3
    have la := blk_lt h3
    clear x2 b1
    have h5 := heap_new w2 (.cells #[.string X, .int .i64 (n : Int)] 25)
    go_wp2_with fail
    refine (CA.out _).mono ?_
    rintro e w3 ⟨rfl, x3⟩
    have h3 := blk_call (blk_alloc h3 _) x3
    have h5 := blk_call h5 x3
    have b3 := (b2.alloc b2.size (.cells #[.string X, .int .i64 (n : Int)] 25)).trans (x3.mono (by have := b2.size; simp; omega))
    clear ca0 ca1 x3 la b2
    obtain ⟨ca0, ca1⟩ := blk2 h3
    have hk3 : (k : Int) + 1 ≤ 9223372036854775807 := by omega
    go_wp2_with fail
    refine (CL.out _ hk1).mono ?_
    rintro e w4 ⟨rfl, x4⟩
    have b4 := b3.trans (x4.mono b3.size)
    have b4 := b4.alloc b4.size (.cells #[.string Y, .int .i64 (m : Int)] 25)
    have h3 := blk_alloc (blk_call h3 x4) (.cells #[.string Y, .int .i64 (m : Int)] 25)
    have h5 := blk_alloc (blk_call h5 x4) (.cells #[.string Y, .int .i64 (m : Int)] 25)
    have h6 := heap_new w4 (.cells #[.string Y, .int .i64 (m : Int)] 25)
    clear ca0 ca1 x4 b3 C0 CA CL
    obtain ⟨U, hU⟩ : ∃ U, w4.alloc (.cells #[.string Y, .int .i64 (m : Int)] 25) = U := ⟨_, rfl⟩
    obtain ⟨t3, ht3⟩ : ∃ t3, w1.heap.size = t3 := ⟨_, rfl⟩
    obtain ⟨t5, ht5⟩ : ∃ t5, w2.heap.size = t5 := ⟨_, rfl⟩
    obtain ⟨t6, ht6⟩ : ∃ t6, w4.heap.size = t6 := ⟨_, rfl⟩
    rw [hU] at h3 h5 h6 b4
    rw [ht3] at h3
    rw [ht5] at h5
    rw [ht6] at h6
    have bW := Lib.hid b4
    clear b4
    go_wp2_with fail
    clear hU ht3 ht5 ht6
    refine wp_region_held_drew (S := fun w' => Hid (w'.heap[t3]? = some (.cells #[.string a.data, .int .i64 a.safe] 25) ∧ w'.heap[t5]? = some (.cells #[.string X, .int .i64 (n : Int)] 25) ∧ w'.heap[t6]? = some (.cells #[.string Y, .int .i64 (m : Int)] 25))) (by kernel_rfl) ⟨h3, h5, h6⟩ (fun hHeld => ?_)
    refine held_take 0 37 (.pointer (some ⟨t5, 0, none⟩)) rfl rfl (by kernel_rfl) (by kernel_rfl) (by kernel_rfl) (fun _ _ _ h => h) rfl hHeld (fun w _ => exec_fldA _ 0 w (by simp)) ?_
    refine held_take 1 38 (.string X) rfl rfl (by kernel_rfl) (by kernel_rfl) (by kernel_rfl) (fun _ _ _ h => h) rfl hHeld (fun w hS => exec_load1 9 _ _ _ w (by simp) (blk2 hS.out.2.1).1) ?_
    refine held_take 2 39 (.int .i64 (X.size : Int)) rfl rfl (by kernel_rfl) (by kernel_rfl) (by kernel_rfl) (fun _ _ _ h => h) rfl hHeld (fun w _ => exec_lenS _ w) ?_
    simp only [Act.put, List.setIfInBounds_toArray, List.set_cons_zero, List.set_cons_succ]
    refine held_take 3 40 (.pointer (some ⟨t3, 1, none⟩)) rfl rfl (by kernel_rfl) (by kernel_rfl) (by kernel_rfl) (fun _ _ _ h => h) rfl hHeld (fun w _ => exec_fldA _ 1 w (by simp)) ?_
    refine held_take 4 41 (.int .i64 a.safe) rfl rfl (by kernel_rfl) (by kernel_rfl) (by kernel_rfl) (fun _ _ _ h => h) rfl hHeld (fun w hS => exec_load1 3 _ _ _ w (by simp) (blk2 hS.out.1).2) ?_
    refine held_take 5 42 (.bool true) rfl rfl (by kernel_rfl) (by kernel_rfl) (by kernel_rfl) (fun _ _ _ h => h) rfl hHeld (fun w _ => exec_geqT (X.size : Int) a.safe w (by omega)) ?_
    simp only [Act.put, List.setIfInBounds_toArray, List.set_cons_zero, List.set_cons_succ]
    refine held_take 6 43 (.bool true) rfl rfl (by kernel_rfl) (by kernel_rfl) (by kernel_rfl) (fun _ _ _ h => h) rfl hHeld (fun w _ => rfl) ?_
    refine held_take 7 44 (.pointer (some ⟨t6, 0, none⟩)) rfl rfl (by kernel_rfl) (by kernel_rfl) (by kernel_rfl) (fun _ _ _ h => h) rfl hHeld (fun w _ => exec_fldA _ 0 w (by simp)) ?_
    refine held_take 8 45 (.string Y) rfl rfl (by kernel_rfl) (by kernel_rfl) (by kernel_rfl) (fun _ _ _ h => h) rfl hHeld (fun w hS => exec_load1 9 _ _ _ w (by simp) (blk2 hS.out.2.2).1) ?_
    simp only [Act.put, List.setIfInBounds_toArray, List.set_cons_zero, List.set_cons_succ]
    refine held_take 9 46 (.int .i64 (Y.size : Int)) rfl rfl (by kernel_rfl) (by kernel_rfl) (by kernel_rfl) (fun _ _ _ h => h) rfl hHeld (fun w _ => exec_lenS _ w) ?_
    refine held_take 10 47 (.pointer (some ⟨t5, 0, none⟩)) rfl rfl (by kernel_rfl) (by kernel_rfl) (by kernel_rfl) (fun _ _ _ h => h) rfl hHeld (fun w _ => exec_fldA _ 0 w (by simp)) ?_
    refine held_take 11 48 (.string X) rfl rfl (by kernel_rfl) (by kernel_rfl) (by kernel_rfl) (fun _ _ _ h => h) rfl hHeld (fun w hS => exec_load1 9 _ _ _ w (by simp) (blk2 hS.out.2.1).1) ?_
    simp only [Act.put, List.setIfInBounds_toArray, List.set_cons_zero, List.set_cons_succ]
    refine held_take 12 49 (.int .i64 (X.size : Int)) rfl rfl (by kernel_rfl) (by kernel_rfl) (by kernel_rfl) (fun _ _ _ h => h) rfl hHeld (fun w _ => exec_lenS _ w) ?_
    refine held_take 13 50 (.bool true) rfl rfl (by kernel_rfl) (by kernel_rfl) (by kernel_rfl) (fun _ _ _ h => h) rfl hHeld (fun w _ => exec_geqT (Y.size : Int) (X.size : Int) w (by omega)) ?_
    refine held_take 14 51 (.bool true) rfl rfl (by kernel_rfl) (by kernel_rfl) (by kernel_rfl) (fun _ _ _ h => h) rfl hHeld (fun w _ => exec_pickT _ w) ?_
    simp only [Act.put, List.setIfInBounds_toArray, List.set_cons_zero, List.set_cons_succ]
    refine held_take 15 52 (.bool true) rfl rfl (by kernel_rfl) (by kernel_rfl) (by kernel_rfl) (fun _ _ _ h => h) rfl hHeld (fun w _ => rfl) ?_
    refine held_take 16 53 (.pointer (some ⟨t6, 0, none⟩)) rfl rfl (by kernel_rfl) (by kernel_rfl) (by kernel_rfl) (fun _ _ _ h => h) rfl hHeld (fun w _ => exec_fldA _ 0 w (by simp)) ?_
    refine held_take 17 54 (.string Y) rfl rfl (by kernel_rfl) (by kernel_rfl) (by kernel_rfl) (fun _ _ _ h => h) rfl hHeld (fun w hS => exec_load1 9 _ _ _ w (by simp) (blk2 hS.out.2.2).1) ?_
    simp only [Act.put, List.setIfInBounds_toArray, List.set_cons_zero, List.set_cons_succ]
    refine held_take 18 55 (.int .i64 (Y.size : Int)) rfl rfl (by kernel_rfl) (by kernel_rfl) (by kernel_rfl) (fun _ _ _ h => h) rfl hHeld (fun w _ => exec_lenS _ w) ?_
    refine held_take 19 56 (.pointer (some ⟨t5, 0, none⟩)) rfl rfl (by kernel_rfl) (by kernel_rfl) (by kernel_rfl) (fun _ _ _ h => h) rfl hHeld (fun w _ => exec_fldA _ 0 w (by simp)) ?_
    refine held_take 20 57 (.string X) rfl rfl (by kernel_rfl) (by kernel_rfl) (by kernel_rfl) (fun _ _ _ h => h) rfl hHeld (fun w hS => exec_load1 9 _ _ _ w (by simp) (blk2 hS.out.2.1).1) ?_
    simp only [Act.put, List.setIfInBounds_toArray, List.set_cons_zero, List.set_cons_succ]
    refine held_take 21 58 (.int .i64 (X.size : Int)) rfl rfl (by kernel_rfl) (by kernel_rfl) (by kernel_rfl) (fun _ _ _ h => h) rfl hHeld (fun w _ => exec_lenS _ w) ?_
    refine held_take 22 59 (.int .i64 ((X.size : Int) + 1)) rfl rfl (by kernel_rfl) (by kernel_rfl) (by kernel_rfl) (fun _ _ _ h => h) rfl hHeld (fun w _ => exec_addI (X.size : Int) 1 _ w rfl (by omega) (by omega)) ?_
    refine held_take 23 60 (.bool true) rfl rfl (by kernel_rfl) (by kernel_rfl) (by kernel_rfl) (fun _ _ _ h => h) rfl hHeld (fun w _ => exec_leqT (Y.size : Int) ((X.size : Int) + 1) w (by omega)) ?_
    simp only [Act.put, List.setIfInBounds_toArray, List.set_cons_zero, List.set_cons_succ]
    refine held_take 24 61 (.bool true) rfl rfl (by kernel_rfl) (by kernel_rfl) (by kernel_rfl) (fun _ _ _ h => h) rfl hHeld (fun w _ => exec_pickT _ w) ?_
    refine held_take 25 62 (.bool true) rfl rfl (by kernel_rfl) (by kernel_rfl) (by kernel_rfl) (fun _ _ _ h => h) rfl hHeld (fun w _ => rfl) ?_
    refine held_take 26 63 (.pointer (some ⟨t6, 0, none⟩)) rfl rfl (by kernel_rfl) (by kernel_rfl) (by kernel_rfl) (fun _ _ _ h => h) rfl hHeld (fun w _ => exec_fldA _ 0 w (by simp)) ?_
    simp only [Act.put, List.setIfInBounds_toArray, List.set_cons_zero, List.set_cons_succ]
    refine held_take 27 64 (.string Y) rfl rfl (by kernel_rfl) (by kernel_rfl) (by kernel_rfl) (fun _ _ _ h => h) rfl hHeld (fun w hS => exec_load1 9 _ _ _ w (by simp) (blk2 hS.out.2.2).1) ?_
    refine held_take 28 65 (.pointer (some ⟨t5, 0, none⟩)) rfl rfl (by kernel_rfl) (by kernel_rfl) (by kernel_rfl) (fun _ _ _ h => h) rfl hHeld (fun w _ => exec_fldA _ 0 w (by simp)) ?_
    refine held_take 29 66 (.string X) rfl rfl (by kernel_rfl) (by kernel_rfl) (by kernel_rfl) (fun _ _ _ h => h) rfl hHeld (fun w hS => exec_load1 9 _ _ _ w (by simp) (blk2 hS.out.2.1).1) ?_
    simp only [Act.put, List.setIfInBounds_toArray, List.set_cons_zero, List.set_cons_succ]
    refine held_take 30 67 (.int .i64 (X.size : Int)) rfl rfl (by kernel_rfl) (by kernel_rfl) (by kernel_rfl) (fun _ _ _ h => h) rfl hHeld (fun w _ => exec_lenS _ w) ?_
    refine held_take 31 68 (.string X) rfl rfl (by kernel_rfl) (by kernel_rfl) (by kernel_rfl) (fun _ _ _ h => h) rfl hHeld (fun w _ => exec_toSR Y X X.size w (by omega) HXY.out) ?_
    refine held_take 32 69 (.pointer (some ⟨t5, 0, none⟩)) rfl rfl (by kernel_rfl) (by kernel_rfl) (by kernel_rfl) (fun _ _ _ h => h) rfl hHeld (fun w _ => exec_fldA _ 0 w (by simp)) ?_
    simp only [Act.put, List.setIfInBounds_toArray, List.set_cons_zero, List.set_cons_succ]
    refine held_take 33 70 (.string X) rfl rfl (by kernel_rfl) (by kernel_rfl) (by kernel_rfl) (fun _ _ _ h => h) rfl hHeld (fun w hS => exec_load1 9 _ _ _ w (by simp) (blk2 hS.out.2.1).1) ?_
    refine held_take 34 71 (.bool true) rfl rfl (by kernel_rfl) (by kernel_rfl) (by kernel_rfl) (fun _ _ _ h => h) rfl hHeld (fun w _ => exec_eqST _ w) ?_
    refine held_take 35 72 (.bool true) rfl rfl (by kernel_rfl) (by kernel_rfl) (by kernel_rfl) (fun _ _ _ h => h) rfl hHeld (fun w _ => exec_pickT _ w) ?_
    simp only [Act.put, List.setIfInBounds_toArray, List.set_cons_zero, List.set_cons_succ]
    refine held_take 36 73 (.bool true) rfl rfl (by kernel_rfl) (by kernel_rfl) (by kernel_rfl) (fun _ _ _ h => h) rfl hHeld (fun w _ => rfl) ?_
    refine held_take 37 74 (.pointer (some ⟨t5, 1, none⟩)) rfl rfl (by kernel_rfl) (by kernel_rfl) (by kernel_rfl) (fun _ _ _ h => h) rfl hHeld (fun w _ => exec_fldA _ 1 w (by simp)) ?_
    refine held_take 38 75 (.int .i64 (n : Int)) rfl rfl (by kernel_rfl) (by kernel_rfl) (by kernel_rfl) (fun _ _ _ h => h) rfl hHeld (fun w hS => exec_load1 3 _ _ _ w (by simp) (blk2 hS.out.2.1).2) ?_
    simp only [Act.put, List.setIfInBounds_toArray, List.set_cons_zero, List.set_cons_succ]
    refine held_take 39 76 (.pointer (some ⟨t5, 0, none⟩)) rfl rfl (by kernel_rfl) (by kernel_rfl) (by kernel_rfl) (fun _ _ _ h => h) rfl hHeld (fun w _ => exec_fldA _ 0 w (by simp)) ?_
    refine held_take 40 77 (.string X) rfl rfl (by kernel_rfl) (by kernel_rfl) (by kernel_rfl) (fun _ _ _ h => h) rfl hHeld (fun w hS => exec_load1 9 _ _ _ w (by simp) (blk2 hS.out.2.1).1) ?_
    refine held_take 41 78 (.int .i64 (n : Int)) rfl rfl (by kernel_rfl) (by kernel_rfl) (by kernel_rfl) (fun _ _ _ h => h) rfl hHeld (fun w _ => exec_lenR X (n : Int) w HXn.out) ?_
    simp only [Act.put, List.setIfInBounds_toArray, List.set_cons_zero, List.set_cons_succ]
    refine held_take 42 79 (.bool true) rfl rfl (by kernel_rfl) (by kernel_rfl) (by kernel_rfl) (fun _ _ _ h => h) rfl hHeld (fun w _ => exec_eqI _ w) ?_
    refine held_take 43 80 (.bool true) rfl rfl (by kernel_rfl) (by kernel_rfl) (by kernel_rfl) (fun _ _ _ h => h) rfl hHeld (fun w _ => exec_pickT _ w) ?_
    simp only [Act.put, List.setIfInBounds_toArray, List.set_cons_zero, List.set_cons_succ]
    refine held_op 44 2 (.bool true) rfl rfl (by kernel_rfl) rfl rfl ⟨h3, h5, h6⟩ ?_
    simp only [Act.put, List.setIfInBounds_toArray, List.set_cons_zero, List.set_cons_succ]
    refine wpAnyH_done (by kernel_rfl) ?_ _
    go_wp2
    go_ret
    exact ⟨rfl, below_drawn bW.out 1⟩
  · have e0 : leftA a k = a := by unfold leftA; rw [if_neg hf]
    rw [e0] at C0
    simp only [hf, decide_false] at CA
    simp only [arA] at C0 CA ⊢
    have ha := heap_new w1 (.cells #[.string a.data, .int .i64 a.safe] 25)
    go_wp2_with fail
    refine (C0.out _).mono ?_
    rintro e w2 ⟨rfl, x2⟩
    have ha := blk_call ha x2
    have b2 := (b1.alloc b1.size (.cells #[.string a.data, .int .i64 a.safe] 25)).trans (x2.mono (by have := b1.size; simp; omega))
    obtain ⟨ca0, ca1⟩ := blk2 ha
    have la := blk_lt ha
    clear x2
    have hq := heap_new w2 (.cells #[.string a.data, .int .i64 a.safe] 25)
    go_wp2_with fail
    refine (CA.out _).mono ?_
    rintro e w3 ⟨rfl, x3⟩
    have ha := blk_call (blk_alloc ha _) x3
    have hq := blk_call hq x3
    have b3 := (b2.alloc b2.size (.cells #[.string a.data, .int .i64 a.safe] 25)).trans (x3.mono (by have := b2.size; simp; omega))
    clear ca0 ca1 x3 la
    obtain ⟨ca0, ca1⟩ := blk2 ha
    obtain ⟨cq0, cq1⟩ := blk2 hq
    have la := blk_lt ha
    have lq := blk_lt hq
    clear ha hq CL C0 CA
    go_wp2
    go_ret
    exact ⟨rfl, b3⟩
end Go.Proofs.Ytcapioiigfldoaa
