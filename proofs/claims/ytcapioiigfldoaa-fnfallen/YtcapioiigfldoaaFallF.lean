/- The walk of the law FnFallen. -/
import Derived.Test.YtcapioiigfldoaaRows
import Derived.Test.YtcapioiigfldoaaFallW
namespace Go.Proofs.Ytcapioiigfldoaa
open Go.RowKit
set_option linter.unusedSimpArgs false
set_option linter.unusedVariables false
theorem could_left {a : Ar} (h : a.go) (k : Int) : couldA a (leftA a k) := by
  unfold couldA
  by_cases hf : a.fine
  · obtain ⟨h1, h2, h3⟩ := id hf
    have hn := leftN_in hf k
    have e : leftA a k = ⟨a.data.extract 0 (leftN a k).toNat, leftN a k⟩ := by unfold leftA; rw [if_pos hf]
    have es : (leftA a k).data.size = (leftN a k).toNat := by rw [e]; show (a.data.extract 0 _).size = _; rw [ByteArray.size_extract]; omega
    have hge : a.safe ≤ leftN a k := by unfold leftN; omega
    have ew : IntKind.i64.wrap (((leftA a k).data.size : Int) - a.safe) = leftN a k - a.safe := by
      rw [es, IntKind.wrap_i64]; omega
    rw [ew]
    have en : leftN a (leftN a k - a.safe) = leftN a k := by
      have : leftN a (leftN a k - a.safe) = a.safe + max 0 (min (leftN a k - a.safe) (a.data.size - a.safe)) := rfl
      omega
    rw [e]
    unfold leftA
    rw [if_pos hf, en]
  · unfold leftA
    rw [if_neg hf, if_neg hf]
theorem could_fall {s : St} (h : s.go) (l : List Int) : couldS s (fallS s l) := ⟨could_left h.1 _, could_left h.2.1 _, could_left h.2.2 _⟩
theorem left_calm {a : Ar} (h : a.fine) (k : Int) : calmA (leftA a k) ∧ (leftA a k).fine := by
  obtain ⟨h1, h2, h3⟩ := id h
  have hn := leftN_in h k
  have e : leftA a k = ⟨a.data.extract 0 (leftN a k).toNat, leftN a k⟩ := by unfold leftA; rw [if_pos h]
  have es : (leftA a k).data.size = (leftN a k).toNat := by rw [e]; show (a.data.extract 0 _).size = _; rw [ByteArray.size_extract]; omega
  have ez : (leftA a k).safe = leftN a k := by rw [e]
  refine ⟨?_, ?_, ?_, ?_⟩
  · unfold calmA; omega
  · omega
  · omega
  · omega
theorem left_again {a : Ar} (h : calmA a) (hf : a.fine) (k : Int) : leftA a k = a := by
  unfold calmA at h
  have e : leftN a k = a.data.size := by unfold leftN; omega
  unfold leftA
  rw [if_pos hf, e, Int.toNat_natCast]
  refine ar_ext ?_ h.symm
  show a.data.extract 0 a.data.size = a.data
  rw [← strB_strN (a.data.extract 0 a.data.size), strN_extract, List.drop_zero, List.take_of_length_le (by rw [strN_length]; omega), strB_strN]
theorem fall_calm {s : St} (h : s.fine) (l : List Int) : calmS (fallS s l) := ⟨(left_calm h.1 _).1, (left_calm h.2.1 _).1, (left_calm h.2.2 _).1⟩
theorem fall_again {s : St} (h : s.fine) (l q : List Int) : fallS (fallS s l) q = fallS s l := by
  have h1 := left_calm h.1 (l.getD 0 0)
  have h2 := left_calm h.2.1 (l.getD 1 0)
  have h3 := left_calm h.2.2 (l.getD 2 0)
  unfold fallS
  simp only [left_again h1.1 h1.2, left_again h2.1 h2.2, left_again h3.1 h3.2]
theorem fall_go {s : St} (h : s.go) (l : List Int) : (fallS s l).go := ⟨leftA_go h.1 _, leftA_go h.2.1 _, leftA_go h.2.2 _⟩
theorem fall_len (s : St) (l : List Int) : lenS (fallS s l) ≤ lenS s := by
  have h1 := leftA_size s.log (l.getD 0 0)
  have h2 := leftA_size s.even (l.getD 1 0)
  have h3 := leftA_size s.odd (l.getD 2 0)
  unfold lenS
  show (leftA s.log _).data.size + (leftA s.even _).data.size + (leftA s.odd _).data.size ≤ _
  omega
set_option maxRecDepth 100000 in
theorem at0_in (A : Option Addr) (l : List Nat) (c i : Nat) (w : World) (hl : l.length ≤ 1048576) (hb : AllB l) (hi : i ≤ 8) (hA : Bts w w.heap.size A l) :
    Calls Try.prog 19 #[.slice A l.length c, .int .i64 i] w fun e w' => (∃ z : Int, inI z ∧ e = .returned (.int .i64 z)) ∧ w = w' := by
  by_cases h : i < l.length
  · obtain ⟨b, off, rfl, _, hc⟩ := hA.at_ h
    have hx := hb.getD i
    generalize l.getD i 0 = x at *
    go_enter Try.func19, Try.ntmps19
    go_wp2
    go_ret
    exact ⟨⟨_, (by unfold inI; omega), rfl⟩, rfl⟩
  · go_enter Try.func19, Try.ntmps19
    go_wp2
    go_ret
    refine ⟨⟨_, ?_, rfl⟩, rfl⟩
    have h1 := Int.tmod_lt_of_pos ((i : Int) * 7 + l.length) (b := 256) (by omega)
    have h2 := Int.tmod_nonneg (a := (i : Int) * 7 + l.length) 256 (by omega)
    unfold inI
    omega
set_option maxRecDepth 100000 in
theorem exec_eqSt {ρ : Operand → Value} {o : Oper} {x y : Operand} (s : St) (w : World) (ho : o.op = .binOp .eql 27 x y 27 := by rfl) (hx : ρ x = stA s := by rfl) (hy : ρ y = stA s := by rfl) :
    (execOp ρ o).run Try.prog w = .ok (.value (.bool true)) w := by
  unfold execOp
  rw [ho]
  unfold stA at hx hy
  simp [go_sem, hx, hy]
set_option maxRecDepth 100000 in
theorem exec_neSt {ρ : Operand → Value} {o : Oper} {x y : Operand} (s : St) (w : World) (ho : o.op = .binOp .neq 27 x y 27 := by rfl) (hx : ρ x = stA s := by rfl) (hy : ρ y = stA s := by rfl) :
    (execOp ρ o).run Try.prog w = .ok (.value (.bool false)) w := by
  unfold execOp
  rw [ho]
  unfold stA at hx hy
  simp [go_sem, hx, hy]
set_option maxRecDepth 100000 in
theorem exec_neI {ρ : Operand → Value} {o : Oper} {x y : Operand} (X : Int) (w : World) (ho : o.op = .binOp .neq 3 x y 3 := by rfl) (hx : ρ x = .int .i64 X := by rfl) (hy : ρ y = .int .i64 X := by rfl) :
    (execOp ρ o).run Try.prog w = .ok (.value (.bool false)) w := by
  unfold execOp
  rw [ho]
  simp [go_sem, hx, hy]
set_option maxRecDepth 100000 in
theorem exec_pickF {ρ : Operand → Value} {o : Oper} {x y z : Operand} (v : Value) (w : World) (ho : o.op = .pick x y z := by rfl) (hx : ρ x = .bool false := by rfl) (hz : ρ z = v := by rfl) :
    (execOp ρ o).run Try.prog w = .ok (.value v) w := by
  unfold execOp
  rw [ho]
  simp [go_sem, hx, hz]
set_option maxRecDepth 100000 in
theorem exec_notT {ρ : Operand → Value} {o : Oper} {x : Operand} (w : World) (ho : o.op = .unOp .not 4 x := by rfl) (hx : ρ x = .bool true := by rfl) :
    (execOp ρ o).run Try.prog w = .ok (.value (.bool false)) w := by
  unfold execOp
  rw [ho]
  simp [go_sem, hx]
set_option maxRecDepth 100000 in
theorem exec_ints3 {ρ : Operand → Value} {o : Oper} {x y z : Operand} (X Y Z : Int) (w : World) (ho : o.op = .buildSlice 28 3 #[(0, x), (1, y), (2, z)] := by rfl) (hx : ρ x = .int .i64 X := by rfl) (hy : ρ y = .int .i64 Y := by rfl) (hz : ρ z = .int .i64 Z := by rfl) :
    (execOp ρ o).run Try.prog w = .ok (.value (.slice (some ⟨w.heap.size, 0, none⟩) 3 3)) (w.alloc (.cells (ints [X, Y, Z]).toArray 3)) := by
  unfold execOp
  rw [ho]
  simp [go_sem, hx, hy, hz, ints]
set_option maxRecDepth 100000 in
set_option maxHeartbeats 3200000 in
theorem FnFallen_walk (A : Option Addr) (l : List Nat) (cap : Nat) (w : World) (hA : Bts w w.heap.size A l) (hb : AllB l) (hm : l.length ≤ maxLen) :
    Calls Try.prog 3 #[.slice A l.length cap] w fun e w' => e = .returned (.bool true) ∧ Below w.heap.size w w' := by
  unfold maxLen at hm
  by_cases hbig : 1048576 < l.length
  · go_enter Try.func3, Try.ntmps3
    go_wp2_with (go_at_call 10; refine (big_yes _ _ _ _ hbig).mono ?_; rintro e w' ⟨rfl, rfl⟩)
    go_ret
    exact ⟨rfl, Below.refl _ _⟩
  have hle : l.length ≤ 1048576 := by omega
  go_enter Try.func3, Try.ntmps3
  go_wp2_with (go_at_call 10; refine (big_no _ _ _ _ hle).mono ?_; rintro e w' ⟨rfl, rfl⟩)
  refine (drawFallen_any A l cap w (by omega) hA hb).mono ?_
  rintro e w1 ⟨s, p, B, cb, ⟨hsg, hsl⟩, hp4, hpi, rfl, hB, b1⟩
  have hTl := fall_len s p
  have hTg := fall_go hsg p
  have C0 := Lib.hid (fun w h => fallen_impl s B p cb w hsg (by omega) hpi h)
  have C1 := Lib.hid (fun w h => fallen_spec s B p cb w hsg (by omega) h)
  have C2 := Lib.hid (fun w => could_impl s (fallS s p) w hsg hTg)
  rw [decide_eq_true (could_fall hsg p)] at C2
  have C3 := Lib.hid (fun w => lost_impl s (fallS s p) w hsg hTg (by omega) (by omega))
  have C4 : Hid (∀ w, Calls Try.prog 16 #[stA s] w fun e w' => e = .returned (.int .i64 (lenS s : Int)) ∧ Below w.heap.size w w') := fun w => storeLen_spec s w (by unfold lenS at hsl; omega)
  have C5 : Hid (∀ w, Calls Try.prog 16 #[stA (fallS s p)] w fun e w' => e = .returned (.int .i64 (lenS (fallS s p) : Int)) ∧ Below w.heap.size w w') := fun w => storeLen_spec (fallS s p) w (by unfold lenS at hTl hsl; omega)
  have HL : Hid ((lenS s : Int) - lenS (fallS s p) = lostS s (fallS s p)) := by show _ = _; unfold lostS; rw [if_pos (could_fall hsg p)]
  have CO := Lib.hid (fun w => storeOk_spec s w hsg)
  have C6 : Hid (s.fine → ∀ w, Calls Try.prog 18 #[stA (fallS s p)] w fun e w' => e = .returned (.bool true) ∧ Below w.heap.size w w') := fun hf w => by
    have := calm_impl (fallS s p) w hTg
    rwa [decide_eq_true (fall_calm hf p)] at this
  have C7 : Hid (s.fine → ∀ A q c w, q.length ≤ 2097152 → (∀ z ∈ q, inI z) → Rws w w.heap.size A (ints q) → Calls Try.prog 12 #[stA (fallS s p), .slice A q.length c] w fun e w' => e = .returned (stA (fallS s p)) ∧ Below w.heap.size w w') := fun hf A q c w h1 h2 h3 => by
    have := fallen_impl (fallS s p) A q c w hTg h1 h2 h3
    rwa [fall_again hf p q] at this
  generalize lostS s (fallS s p) = L at *
  generalize fallS s p = T at *
  have hL1 : -9223372036854775808 ≤ L := by have := HL.out; omega
  have hL2 : L ≤ 9223372036854775807 := by have := HL.out; omega
  clear hbig hm hp4 hpi
  have h3 := heap_new w1 (.cells #[.string s.log.data, .int .i64 s.log.safe, .string s.even.data, .int .i64 s.even.safe, .string s.odd.data, .int .i64 s.odd.safe] 27)
  have b1' := b1.alloc b1.size (.cells #[.string s.log.data, .int .i64 s.log.safe, .string s.even.data, .int .i64 s.even.safe, .string s.odd.data, .int .i64 s.odd.safe] 27)
  have x1 : Below w1.heap.size w1 (w1.alloc (.cells #[.string s.log.data, .int .i64 s.log.safe, .string s.even.data, .int .i64 s.even.safe, .string s.odd.data, .int .i64 s.odd.safe] 27)) := (Below.refl _ _).alloc (Nat.le_refl _) _
  have hB1 := hB.below' x1
  have CZ := C0
  unfold stA at CZ
  unfold stA
  go_wp2_with fail
  refine (CZ.out _ hB1).mono ?_
  rintro e w2 ⟨rfl, x2⟩
  have h3 := blk_alloc (blk_call h3 x2) (.cells #[.string T.log.data, .int .i64 T.log.safe, .string T.even.data, .int .i64 T.even.safe, .string T.odd.data, .int .i64 T.odd.safe] 27)
  have h5 := heap_new w2 (.cells #[.string T.log.data, .int .i64 T.log.safe, .string T.even.data, .int .i64 T.even.safe, .string T.odd.data, .int .i64 T.odd.safe] 27)
  have hB2 := hB1.below' x2
  have b2 := b1'.trans (x2.mono b1'.size)
  have b2 := b2.alloc b2.size (.cells #[.string T.log.data, .int .i64 T.log.safe, .string T.even.data, .int .i64 T.even.safe, .string T.odd.data, .int .i64 T.odd.safe] 27)
  have hB2 := hB2.below' ((Below.refl _ _).alloc (Nat.le_refl _) (.cells #[.string T.log.data, .int .i64 T.log.safe, .string T.even.data, .int .i64 T.even.safe, .string T.odd.data, .int .i64 T.odd.safe] 27))
  clear x1 x2 b1 b1' hB hB1 CZ
  obtain ⟨U, hU⟩ : ∃ U, w2.alloc (.cells #[.string T.log.data, .int .i64 T.log.safe, .string T.even.data, .int .i64 T.even.safe, .string T.odd.data, .int .i64 T.odd.safe] 27) = U := ⟨_, rfl⟩
  obtain ⟨t3, ht3⟩ : ∃ t3, w1.heap.size = t3 := ⟨_, rfl⟩
  obtain ⟨t5, ht5⟩ : ∃ t5, w2.heap.size = t5 := ⟨_, rfl⟩
  rw [hU] at h3 h5 b2 hB2
  have KS : Hid (∀ w', Below U.heap.size U w' → w'.heap[w1.heap.size]? = some (.cells #[.string s.log.data, .int .i64 s.log.safe, .string s.even.data, .int .i64 s.even.safe, .string s.odd.data, .int .i64 s.odd.safe] 27 (0, 0))) := fun w' h => blk_call h3 h
  have KT : Hid (∀ w', Below U.heap.size U w' → w'.heap[w2.heap.size]? = some (.cells #[.string T.log.data, .int .i64 T.log.safe, .string T.even.data, .int .i64 T.even.safe, .string T.odd.data, .int .i64 T.odd.safe] 27 (0, 0))) := fun w' h => blk_call h5 h
  rw [ht3] at KS
  rw [ht5] at KT
  have HB := Lib.hid (fun w' (h : Below U.heap.size U w') => hB2.below' h)
  have bW := Lib.hid b2
  clear h3 h5 b2 hB2
  go_wp2_with fail
  clear hU ht3 ht5
  refine wp_region_held_drew (S := fun w' => Hid (Below U.heap.size U w')) (by kernel_rfl) (below_drawn (Below.refl _ _) 1) (fun hHeld => ?_)
  refine held_take 0 16 (stA T) rfl rfl (by kernel_rfl) (by kernel_rfl) (by kernel_rfl) (fun _ _ _ h => h) rfl hHeld (fun w hS => exec_loadI _ T w (KT.out w hS.out)) ?_
  refine held_take 1 17 (stA s) rfl rfl (by kernel_rfl) (by kernel_rfl) (by kernel_rfl) (fun _ _ _ h => h) rfl hHeld (fun w hS => exec_loadI _ s w (KS.out w hS.out)) ?_
  refine held_take 2 18 (.slice B p.length cb) rfl rfl (by kernel_rfl) (by kernel_rfl) (by kernel_rfl) (fun _ _ _ h => h) rfl hHeld (fun w _ => rfl) ?_
  simp only [Act.put, List.setIfInBounds_toArray, List.set_cons_zero, List.set_cons_succ]
  refine held_call 3 19 13 #[stA s, .slice B p.length cb] rfl rfl (by kernel_rfl) rfl (exec_call Try.func13 (by kernel_rfl) (by kernel_rfl) _) ?_
  refine (C1.out _ (HB.out _ hHeld.out)).mono ?_
  rintro e u1 ⟨rfl, xu1⟩
  have ku1 := hHeld.out.trans (xu1.mono hHeld.out.size)
  clear xu1
  refine ⟨_, rfl, ku1, ?_⟩
  simp only [Act.put, List.setIfInBounds_toArray, List.set_cons_zero, List.set_cons_succ]
  refine held_take 4 20 (.bool false) rfl rfl (by kernel_rfl) (by kernel_rfl) (by kernel_rfl) (fun _ _ _ h => h) rfl ku1 (fun w _ => exec_neSt T w) ?_
  refine held_take 5 21 (.bool false) rfl rfl (by kernel_rfl) (by kernel_rfl) (by kernel_rfl) (fun _ _ _ h => h) rfl ku1 (fun w _ => rfl) ?_
  refine held_take 6 22 (stA s) rfl rfl (by kernel_rfl) (by kernel_rfl) (by kernel_rfl) (fun _ _ _ h => h) rfl ku1 (fun w hS => exec_loadI _ s w (KS.out w hS.out)) ?_
  simp only [Act.put, List.setIfInBounds_toArray, List.set_cons_zero, List.set_cons_succ]
  refine held_take 7 23 (stA T) rfl rfl (by kernel_rfl) (by kernel_rfl) (by kernel_rfl) (fun _ _ _ h => h) rfl ku1 (fun w hS => exec_loadI _ T w (KT.out w hS.out)) ?_
  simp only [Act.put, List.setIfInBounds_toArray, List.set_cons_zero, List.set_cons_succ]
  refine held_call 8 24 14 #[stA s, stA T] rfl rfl (by kernel_rfl) rfl (exec_call Try.func14 (by kernel_rfl) (by kernel_rfl) _) ?_
  refine (C2.out _).mono ?_
  rintro e u2 ⟨rfl, xu2⟩
  have ku2 := ku1.trans (xu2.mono ku1.size)
  clear xu2
  refine ⟨_, rfl, ku2, ?_⟩
  simp only [Act.put, List.setIfInBounds_toArray, List.set_cons_zero, List.set_cons_succ]
  refine held_take 9 25 (.bool false) rfl rfl (by kernel_rfl) (by kernel_rfl) (by kernel_rfl) (fun _ _ _ h => h) rfl ku2 (fun w _ => exec_notT w) ?_
  refine held_take 10 26 (.bool false) rfl rfl (by kernel_rfl) (by kernel_rfl) (by kernel_rfl) (fun _ _ _ h => h) rfl ku2 (fun w _ => exec_pickF _ w) ?_
  refine held_take 11 27 (.bool false) rfl rfl (by kernel_rfl) (by kernel_rfl) (by kernel_rfl) (fun _ _ _ h => h) rfl ku2 (fun w _ => rfl) ?_
  simp only [Act.put, List.setIfInBounds_toArray, List.set_cons_zero, List.set_cons_succ]
  refine held_take 12 28 (stA s) rfl rfl (by kernel_rfl) (by kernel_rfl) (by kernel_rfl) (fun _ _ _ h => h) rfl ku2 (fun w hS => exec_loadI _ s w (KS.out w hS.out)) ?_
  refine held_take 13 29 (stA T) rfl rfl (by kernel_rfl) (by kernel_rfl) (by kernel_rfl) (fun _ _ _ h => h) rfl ku2 (fun w hS => exec_loadI _ T w (KT.out w hS.out)) ?_
  refine held_take 15 31 (stA s) rfl rfl (by kernel_rfl) (by kernel_rfl) (by kernel_rfl) (fun _ _ _ h => h) rfl ku2 (fun w hS => exec_loadI _ s w (KS.out w hS.out)) ?_
  simp only [Act.put, List.setIfInBounds_toArray, List.set_cons_zero, List.set_cons_succ]
  refine held_take 17 33 (stA T) rfl rfl (by kernel_rfl) (by kernel_rfl) (by kernel_rfl) (fun _ _ _ h => h) rfl ku2 (fun w hS => exec_loadI _ T w (KT.out w hS.out)) ?_
  simp only [Act.put, List.setIfInBounds_toArray, List.set_cons_zero, List.set_cons_succ]
  refine held_call 14 30 15 #[stA s, stA T] rfl rfl (by kernel_rfl) rfl (exec_call Try.func15 (by kernel_rfl) (by kernel_rfl) _) ?_
  refine (C3.out _).mono ?_
  rintro e u3 ⟨rfl, xu3⟩
  have ku3 := ku2.trans (xu3.mono ku2.size)
  clear xu3
  refine ⟨_, rfl, ku3, ?_⟩
  simp only [Act.put, List.setIfInBounds_toArray, List.set_cons_zero, List.set_cons_succ]
  refine held_call 16 32 16 #[stA s] rfl rfl (by kernel_rfl) rfl (exec_call Try.func16 (by kernel_rfl) (by kernel_rfl) _) ?_
  refine (C4.out _).mono ?_
  rintro e u4 ⟨rfl, xu4⟩
  have ku4 := ku3.trans (xu4.mono ku3.size)
  clear xu4
  refine ⟨_, rfl, ku4, ?_⟩
  simp only [Act.put, List.setIfInBounds_toArray, List.set_cons_zero, List.set_cons_succ]
  refine held_call 18 34 16 #[stA T] rfl rfl (by kernel_rfl) rfl (exec_call Try.func16 (by kernel_rfl) (by kernel_rfl) _) ?_
  refine (C5.out _).mono ?_
  rintro e u5 ⟨rfl, xu5⟩
  have ku5 := ku4.trans (xu5.mono ku4.size)
  clear xu5
  refine ⟨_, rfl, ku5, ?_⟩
  simp only [Act.put, List.setIfInBounds_toArray, List.set_cons_zero, List.set_cons_succ]
  refine held_take 19 35 (.int .i64 L) rfl rfl (by kernel_rfl) (by kernel_rfl) (by kernel_rfl) (fun _ _ _ h => h) rfl ku5 (fun w _ => exec_subI _ _ _ w HL.out (by omega) (by omega)) ?_
  refine held_take 20 36 (.bool false) rfl rfl (by kernel_rfl) (by kernel_rfl) (by kernel_rfl) (fun _ _ _ h => h) rfl ku5 (fun w _ => exec_neI _ w) ?_
  simp only [Act.put, List.setIfInBounds_toArray, List.set_cons_zero, List.set_cons_succ]
  refine held_op 21 37 (.bool false) rfl rfl (by kernel_rfl) rfl (exec_pickF _ _) ku5 ?_
  simp only [Act.put, List.setIfInBounds_toArray, List.set_cons_zero, List.set_cons_succ]
  refine wpAnyH_done (by kernel_rfl) ?_ _
  have KS : Hid (∀ w', Below u5.heap.size u5 w' → w'.heap[t3]? = some (.cells #[.string s.log.data, .int .i64 s.log.safe, .string s.even.data, .int .i64 s.even.safe, .string s.odd.data, .int .i64 s.odd.safe] 27 (0, 0))) := fun w' h => KS.out w' (ku5.trans (h.mono ku5.size))
  have KT : Hid (∀ w', Below u5.heap.size u5 w' → w'.heap[t5]? = some (.cells #[.string T.log.data, .int .i64 T.log.safe, .string T.even.data, .int .i64 T.even.safe, .string T.odd.data, .int .i64 T.odd.safe] 27 (0, 0))) := fun w' h => KT.out w' (ku5.trans (h.mono ku5.size))
  have bW := Lib.hid (bW.out.trans (ku5.mono bW.out.size))
  have hS0 := KS.out _ (Below.refl _ _)
  have c0 := cell_of_row _ _ 0 _ _ _ hS0
  have c1 := cell_of_row _ _ 1 _ _ _ hS0
  have c2 := cell_of_row _ _ 2 _ _ _ hS0
  have c3 := cell_of_row _ _ 3 _ _ _ hS0
  have c4 := cell_of_row _ _ 4 _ _ _ hS0
  have c5 := cell_of_row _ _ 5 _ _ _ hS0
  simp at c0 c1 c2 c3 c4 c5
  unfold stA at CO
  by_cases hf : s.fine
  · simp only [hf, decide_true] at CO
    have C6 := Lib.hid (C6.out hf)
    have C7 := Lib.hid (C7.out hf)
    go_wp2_with fail
    refine (CO.out _).mono ?_
    rintro e V ⟨rfl, xV⟩
    have KT : Hid (∀ w', Below V.heap.size V w' → w'.heap[t5]? = some (.cells #[.string T.log.data, .int .i64 T.log.safe, .string T.even.data, .int .i64 T.even.safe, .string T.odd.data, .int .i64 T.odd.safe] 27 (0, 0))) := fun w' h => KT.out w' (xV.trans (h.mono xV.size))
    have bW := Lib.hid (bW.out.trans (xV.mono bW.out.size))
    have HA := Lib.hid (fun w' (h : Below V.heap.size V w') => ((hA.below (bW.out.trans (h.mono bW.out.size))).more (bW.out.trans (h.mono bW.out.size)).size))
    clear c0 c1 c2 c3 c4 c5 hS0 CO xV
    go_wp2_with fail
    refine wp_region_held_drew (S := fun w' => Hid (Below V.heap.size V w')) (by kernel_rfl) (below_drawn (Below.refl _ _) 1) (fun hHeld => ?_)
    refine held_take 0 41 (stA T) rfl rfl (by kernel_rfl) (by kernel_rfl) (by kernel_rfl) (fun _ _ _ h => h) rfl hHeld (fun w hS => exec_loadI _ T w (KT.out w hS.out)) ?_
    simp only [Act.put, List.setIfInBounds_toArray, List.set_cons_zero, List.set_cons_succ]
    refine held_call 1 42 18 #[stA T] rfl rfl (by kernel_rfl) rfl (exec_call Try.func18 (by kernel_rfl) (by kernel_rfl) _) ?_
    refine (C6.out _).mono ?_
    rintro e v1 ⟨rfl, xv1⟩
    have kv1 := hHeld.out.trans (xv1.mono hHeld.out.size)
    clear xv1
    refine ⟨_, rfl, kv1, ?_⟩
    simp only [Act.put, List.setIfInBounds_toArray, List.set_cons_zero, List.set_cons_succ]
    refine held_take 2 43 (.bool true) rfl rfl (by kernel_rfl) (by kernel_rfl) (by kernel_rfl) (fun _ _ _ h => h) rfl kv1 (fun w _ => rfl) ?_
    refine held_take 3 44 (stA T) rfl rfl (by kernel_rfl) (by kernel_rfl) (by kernel_rfl) (fun _ _ _ h => h) rfl kv1 (fun w hS => exec_loadI _ T w (KT.out w hS.out)) ?_
    refine held_take 4 45 (.slice A l.length cap) rfl rfl (by kernel_rfl) (by kernel_rfl) (by kernel_rfl) (fun _ _ _ h => h) rfl kv1 (fun w _ => rfl) ?_
    simp only [Act.put, List.setIfInBounds_toArray, List.set_cons_zero, List.set_cons_succ]
    refine held_take 6 47 (.slice A l.length cap) rfl rfl (by kernel_rfl) (by kernel_rfl) (by kernel_rfl) (fun _ _ _ h => h) rfl kv1 (fun w _ => rfl) ?_
    refine held_take 8 49 (.slice A l.length cap) rfl rfl (by kernel_rfl) (by kernel_rfl) (by kernel_rfl) (fun _ _ _ h => h) rfl kv1 (fun w _ => rfl) ?_
    refine held_take 12 53 (stA T) rfl rfl (by kernel_rfl) (by kernel_rfl) (by kernel_rfl) (fun _ _ _ h => h) rfl kv1 (fun w hS => exec_loadI _ T w (KT.out w hS.out)) ?_
    simp only [Act.put, List.setIfInBounds_toArray, List.set_cons_zero, List.set_cons_succ]
    refine held_call 5 46 19 #[.slice A l.length cap, .int .i64 1] rfl rfl (by kernel_rfl) rfl (exec_call Try.func19 (by kernel_rfl) (by kernel_rfl) _) ?_
    refine (at0_in A l cap 1 _ hle hb (by omega) (HA.out _ kv1)).mono ?_
    rintro e v2 ⟨⟨z0, hz0, rfl⟩, rfl⟩
    refine ⟨_, rfl, kv1, ?_⟩
    simp only [Act.put, List.setIfInBounds_toArray, List.set_cons_zero, List.set_cons_succ]
    refine held_call 7 48 19 #[.slice A l.length cap, .int .i64 2] rfl rfl (by kernel_rfl) rfl (exec_call Try.func19 (by kernel_rfl) (by kernel_rfl) _) ?_
    refine (at0_in A l cap 2 _ hle hb (by omega) (HA.out _ kv1)).mono ?_
    rintro e v3 ⟨⟨z1, hz1, rfl⟩, rfl⟩
    refine ⟨_, rfl, kv1, ?_⟩
    simp only [Act.put, List.setIfInBounds_toArray, List.set_cons_zero, List.set_cons_succ]
    refine held_call 9 50 19 #[.slice A l.length cap, .int .i64 3] rfl rfl (by kernel_rfl) rfl (exec_call Try.func19 (by kernel_rfl) (by kernel_rfl) _) ?_
    refine (at0_in A l cap 3 _ hle hb (by omega) (HA.out _ kv1)).mono ?_
    rintro e v4 ⟨⟨z2, hz2, rfl⟩, rfl⟩
    refine ⟨_, rfl, kv1, ?_⟩
    simp only [Act.put, List.setIfInBounds_toArray, List.set_cons_zero, List.set_cons_succ]
    refine held_op 10 51 (.slice (some ⟨v1.heap.size, 0, none⟩) 3 3) rfl rfl (by kernel_rfl) rfl (exec_ints3 z0 z1 z2 _) (kv1.alloc kv1.size _) ?_
    simp only [Act.put, List.setIfInBounds_toArray, List.set_cons_zero, List.set_cons_succ]
    have kA := kv1.alloc kv1.size (.cells (ints [z0, z1, z2]).toArray 3)
    have hR : Rws (v1.alloc (.cells (ints [z0, z1, z2]).toArray 3)) (v1.alloc (.cells (ints [z0, z1, z2]).toArray 3)).heap.size (some ⟨v1.heap.size, 0, none⟩) (ints [z0, z1, z2]) := by rw [World.size_alloc]; exact Rws.new v1 (ints [z0, z1, z2]) 3
    refine held_call 11 52 12 #[stA T, .slice (some ⟨v1.heap.size, 0, none⟩) 3 3] rfl rfl (by kernel_rfl) rfl (exec_call Try.func12 (by kernel_rfl) (by kernel_rfl) _) ?_
    refine (C7.out (some ⟨v1.heap.size, 0, none⟩) [z0, z1, z2] 3 _ (by simp) (by intro z hz; simp at hz; rcases hz with rfl | rfl | rfl <;> assumption) hR).mono ?_
    rintro e v5 ⟨rfl, xv5⟩
    have kv5 := kA.trans (xv5.mono kA.size)
    clear xv5
    refine ⟨_, rfl, kv5, ?_⟩
    simp only [Act.put, List.setIfInBounds_toArray, List.set_cons_zero, List.set_cons_succ]
    refine held_take 13 54 (.bool true) rfl rfl (by kernel_rfl) (by kernel_rfl) (by kernel_rfl) (fun _ _ _ h => h) rfl kv5 (fun w _ => exec_eqSt T w) ?_
    refine held_take 14 55 (.bool true) rfl rfl (by kernel_rfl) (by kernel_rfl) (by kernel_rfl) (fun _ _ _ h => h) rfl kv5 (fun w _ => exec_pickT _ w) ?_
    simp only [Act.put, List.setIfInBounds_toArray, List.set_cons_zero, List.set_cons_succ]
    refine held_op 15 2 (.bool true) rfl rfl (by kernel_rfl) rfl rfl kv5 ?_
    simp only [Act.put, List.setIfInBounds_toArray, List.set_cons_zero, List.set_cons_succ]
    refine wpAnyH_done (by kernel_rfl) ?_ _
    go_wp2
    go_ret
    exact ⟨rfl, bW.out.trans (kv5.mono bW.out.size)⟩
  · simp only [hf, decide_false] at CO
    go_wp2_with fail
    refine (CO.out _).mono ?_
    rintro e V ⟨rfl, xV⟩
    go_wp2
    go_ret
    exact ⟨rfl, bW.out.trans (xV.mono bW.out.size)⟩
end Go.Proofs.Ytcapioiigfldoaa
