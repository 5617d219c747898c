/- Crashes: Fallen, Could, Calm, Lost of the program. -/
import Derived.Test.YtcapioiigfldoaaRows
import Derived.Test.YtcapioiigfldoaaFallI
import Derived.Test.YtcapioiigfldoaaLate
import Derived.Deep.DeepCutAuto
namespace Go.Proofs.Ytcapioiigfldoaa
open Go.RowKit
set_option linter.unusedSimpArgs false
set_option linter.unusedVariables false
/-- An area laid into the i-th place of a block of three areas. -/
def put3 (w : World) (g i : Nat) (a : Ar) : World := (w.setCell ⟨g, 2 * i, none⟩ (.string a.data)).setCell ⟨g, 2 * i + 1, none⟩ (.int .i64 a.safe)
theorem put3_below {B : Nat} {w0 w : World} {g i : Nat} {a : Ar} (h : Below B w0 w) (hg : B ≤ g) : Below B w0 (put3 w g i a) := (h.setCell hg _).setCell hg _
theorem put3_other {w : World} {g r i : Nat} {a : Ar} (h : r ≠ g) : (put3 w g i a).heap[r]? = w.heap[r]? := by
  unfold put3
  repeat rw [Below.heap_setCell _ _ _ _ (by simpa using h)]
theorem put3_heap {w : World} {g i : Nat} {s : St} {l : List Int} {t : TypeId} (hi : i < 3) (h : w.heap[g]? = some (.cells #[.string (fallI s l i).log.data, .int .i64 (fallI s l i).log.safe, .string (fallI s l i).even.data, .int .i64 (fallI s l i).even.safe, .string (fallI s l i).odd.data, .int .i64 (fallI s l i).odd.safe] t (0, 0))) : (put3 w g i (leftA (stAt s i) (l.getD i 0))).heap[g]? = some (.cells #[.string (fallI s l (i + 1)).log.data, .int .i64 (fallI s l (i + 1)).log.safe, .string (fallI s l (i + 1)).even.data, .int .i64 (fallI s l (i + 1)).even.safe, .string (fallI s l (i + 1)).odd.data, .int .i64 (fallI s l (i + 1)).odd.safe] t (0, 0)) := by
  unfold put3
  rw [← fallI_set s l i hi]
  exact Go.heap_setCell_same _ _ _ _ _ _ (Go.heap_setCell_same _ _ _ _ _ _ h)
set_option maxRecDepth 100000 in
theorem exec_store3 {ρ : Operand → Value} {o : Oper} {x y : Operand} (g i : Nat) (a : Ar) (w : World) (s : St) {t : TypeId} (hi : i < 3) (h : w.heap[g]? = some (.cells #[.string s.log.data, .int .i64 s.log.safe, .string s.even.data, .int .i64 s.even.safe, .string s.odd.data, .int .i64 s.odd.safe] t (0, 0))) (ho : o.op = .store 25 x y := by rfl) (hx : ρ x = .pointer (some ⟨g, 2 * i, none⟩) := by rfl) (hy : ρ y = arA a := by rfl) :
    (execOp ρ o).run Try.prog w = .ok .skip (put3 w g i a) := by
  have z0 := frozen_of_row _ _ (2 * i) _ _ h
  have z1 := frozen_of_row _ _ (2 * i + 1) _ _ h
  obtain ⟨u0, c0⟩ : ∃ u, w.cell? ⟨g, 2 * i, none⟩ = some u := by
    rcases three hi with rfl | rfl | rfl <;> exact ⟨_, cell_of_row _ _ _ _ _ _ h⟩
  obtain ⟨u1, c1⟩ : ∃ u, w.cell? ⟨g, 2 * i + 1, none⟩ = some u := by
    rcases three hi with rfl | rfl | rfl <;> exact ⟨_, cell_of_row _ _ _ _ _ _ h⟩
  unfold execOp
  rw [ho]
  simp [go_sem, hx, hy, arA, c0, c1, z0, z1, put3]
/-- The world at the i-th visit of Fallen. -/
def FallAt (w : World) (s : St) (l : List Int) (G i : Nat) (wr : World) : Prop := Below w.heap.size w wr ∧ wr.heap[w.heap.size + 1]? = some (.cells #[.string ⟨#[]⟩, .int .i64 0, .string ⟨#[]⟩, .int .i64 0, .string ⟨#[]⟩, .int .i64 0] 27 (0, 0)) ∧ wr.heap[G]? = some (.cells #[.string (fallI s l i).log.data, .int .i64 (fallI s l i).log.safe, .string (fallI s l i).even.data, .int .i64 (fallI s l i).even.safe, .string (fallI s l i).odd.data, .int .i64 (fallI s l i).odd.safe] 59 (0, 0))
set_option maxRecDepth 100000 in
set_option maxHeartbeats 1600000 in
theorem fallen_impl (s : St) (A : Option Addr) (l : List Int) (c : Nat) (w : World) (hg : s.go) (hl : l.length ≤ 2097152) (hi : ∀ z ∈ l, inI z) (hA : Rws w w.heap.size A (ints l)) :
    Calls Try.prog 12 #[stA s, .slice A l.length c] w fun e w' => e = .returned (stA (fallS s l)) ∧ Below w.heap.size w w' := by
  have CA := Lib.hid (fun w => areasOf_any s w)
  have CK := Lib.hid (fun i w => keepOf_any A l c i w (by omega))
  have CL := Lib.hid (fun i w => left_impl (stAt s i) (l.getD i 0) w (stAt_go hg i) (by
    rw [List.getD_eq_getElem?_getD]
    by_cases h : i < l.length
    · rw [List.getElem?_eq_getElem h]; exact hi _ (List.getElem_mem h)
    · rw [List.getElem?_eq_none (by omega)]; exact ⟨by simp, by simp⟩))
  clear hg hi
  unfold stA at CA ⊢
  go_enter Try.func12, Try.ntmps12
  go_wp2_with fail
  refine (CA.out _).mono ?_
  rintro e w2 ⟨rfl, b2⟩
  obtain ⟨-, r0, bW⟩ := two_at w w2 _ _ b2
  clear b2 CA
  have P : FallAt w s l w2.heap.size 0 (w2.alloc (.cells #[.string s.log.data, .int .i64 s.log.safe, .string s.even.data, .int .i64 s.even.safe, .string s.odd.data, .int .i64 s.odd.safe] 59)) := ⟨bW.alloc bW.size _, blk_alloc r0 _, heap_new _ _⟩
  have hGB := bW.size
  have hne : w.heap.size + 1 ≠ w2.heap.size := Nat.ne_of_lt (Array.getElem?_eq_some_iff.1 r0).1
  go_wp2_with fail
  generalize hU : w2.alloc (.cells #[.string s.log.data, .int .i64 s.log.safe, .string s.even.data, .int .i64 s.even.safe, .string s.odd.data, .int .i64 s.odd.safe] 59) = U at *
  clear hU bW r0
  generalize w2.heap.size = G at *
  go_loopw [9] (fun vi wr => ∃ i : Nat, i ≤ 3 ∧ vi = .int .i64 i ∧ FallAt w s l G i wr) (fun vi _ => 3 - (intOf vi).toNat)
  case atStart => exact ⟨0, by omega, rfl, P⟩
  case round =>
    obtain ⟨i, hi3, rfl, hB, hR, hG⟩ := hrel
    by_cases hlt : i < 3
    · have cD := cell_of_row _ _ _ _ _ _ hG |>.trans (fallI_at s l i hlt).1
      have cS := cell_of_row _ _ _ _ _ _ hG |>.trans (fallI_at s l i hlt).2
      clear P
      go_wp2_with fail
      refine wp_region_held_drew (S := fun w' => Hid (Below w.heap.size w w')) (by kernel_rfl) (below_drawn hB 1) (fun hHeld => ?_)
      refine held_take 0 12 (.int .i64 (i : Int)) rfl rfl (by kernel_rfl) (by kernel_rfl) (by kernel_rfl) (fun _ _ _ h => h) rfl hHeld (fun w _ => rfl) ?_
      refine held_take 1 13 (.int .i64 (i : Int)) rfl rfl (by kernel_rfl) (by kernel_rfl) (by kernel_rfl) (fun _ _ _ h => h) rfl hHeld (fun w _ => rfl) ?_
      refine held_take 2 14 (.pointer (some ⟨G, 2 * i, none⟩)) rfl rfl (by kernel_rfl) (by kernel_rfl) (by kernel_rfl) (fun _ _ _ h => h) rfl hHeld (fun w _ => exec_idx3 _ _ w hlt) ?_
      simp only [Act.put, List.setIfInBounds_toArray, List.set_cons_zero, List.set_cons_succ]
      refine held_take 4 16 (.slice A l.length c) rfl rfl (by kernel_rfl) (by kernel_rfl) (by kernel_rfl) (fun _ _ _ h => h) rfl hHeld (fun w _ => rfl) ?_
      refine held_take 5 17 (.int .i64 (i : Int)) rfl rfl (by kernel_rfl) (by kernel_rfl) (by kernel_rfl) (fun _ _ _ h => h) rfl hHeld (fun w _ => rfl) ?_
      simp only [Act.put, List.setIfInBounds_toArray, List.set_cons_zero, List.set_cons_succ]
      have b0 := hHeld.out
      refine wpAnyH_ready (rs := [3, 6]) (by kernel_rfl) (by simp) (ready_op 3 15 (arA (stAt s i)) rfl rfl rfl (exec_loadAt _ _ (stAt s i) _ cD cS) b0 ?_ (ready_call 6 18 39 #[.slice A l.length c, .int .i64 (i : Int)] rfl rfl rfl (exec_call Try.func39 (by kernel_rfl) (by kernel_rfl) _) ?_ AllReadyH.nil))
      · skip
        simp only [Act.put, List.setIfInBounds_toArray, List.set_cons_zero, List.set_cons_succ]
        refine held_call 6 18 39 #[.slice A l.length c, .int .i64 (i : Int)] rfl rfl (by kernel_rfl) rfl (exec_call Try.func39 (by kernel_rfl) (by kernel_rfl) _) ?_
        refine (CK.out i _ (by omega) ((hA.below b0).more b0.size)).mono ?_
        rintro e u ⟨rfl, rfl⟩
        refine ⟨_, rfl, b0, ?_⟩
        simp only [Act.put, List.setIfInBounds_toArray, List.set_cons_zero, List.set_cons_succ]
        refine held_call 7 19 21 #[arA (stAt s i), .int .i64 (l.getD i 0)] rfl rfl (by kernel_rfl) rfl (exec_call Try.func21 (by kernel_rfl) (by kernel_rfl) _) ?_
        refine (CL.out i _).mono ?_
        rintro e u ⟨rfl, x⟩
        have b1 := b0.trans (x.mono b0.size)
        have g1 := blk_call (w := wr.drew) hG x
        have r1 := blk_call (w := wr.drew) hR x
        clear x
        refine ⟨_, rfl, b1, ?_⟩
        simp only [Act.put, List.setIfInBounds_toArray, List.set_cons_zero, List.set_cons_succ]
        refine held_op 8 20 (.pointer (some ⟨G, 2 * i, none⟩)) rfl rfl (by kernel_rfl) rfl (exec_idx3 _ _ _ hlt) b1 ?_
        simp only [Act.put, List.setIfInBounds_toArray, List.set_cons_zero, List.set_cons_succ]
        refine held_store 9 rfl rfl (by kernel_rfl) rfl (exec_store3 G i (leftA (stAt s i) (l.getD i 0)) _ (fallI s l i) hlt g1) (put3_below b1 hGB) ?_
        refine wpAnyH_done (by kernel_rfl) ?_ _
        have P : FallAt w s l G (i + 1) _ := ⟨put3_below b1 hGB, (put3_other hne).trans r1, put3_heap hlt g1⟩
        clear hHeld b0 b1 g1 r1 hB hR hG cD cS CL CK hA
        generalize put3 u G i (leftA (stAt s i) (l.getD i 0)) = V at *
        go_wp2
        go_roundw
        case rel => exact ⟨i + 1, by omega, by go_num, P⟩
        case measure => simp [intOf]; omega
      · skip
        refine (CK.out i _ (by omega) ((hA.below b0).more b0.size)).mono ?_
        rintro e u ⟨rfl, rfl⟩
        refine ⟨_, rfl, b0, ?_⟩
        simp only [Act.put, List.setIfInBounds_toArray, List.set_cons_zero, List.set_cons_succ]
        refine held_op 3 15 (arA (stAt s i)) rfl rfl (by kernel_rfl) rfl (exec_loadAt _ _ (stAt s i) _ cD cS) b0 ?_
        simp only [Act.put, List.setIfInBounds_toArray, List.set_cons_zero, List.set_cons_succ]
        refine held_call 7 19 21 #[arA (stAt s i), .int .i64 (l.getD i 0)] rfl rfl (by kernel_rfl) rfl (exec_call Try.func21 (by kernel_rfl) (by kernel_rfl) _) ?_
        refine (CL.out i _).mono ?_
        rintro e u ⟨rfl, x⟩
        have b1 := b0.trans (x.mono b0.size)
        have g1 := blk_call (w := wr.drew) hG x
        have r1 := blk_call (w := wr.drew) hR x
        clear x
        refine ⟨_, rfl, b1, ?_⟩
        simp only [Act.put, List.setIfInBounds_toArray, List.set_cons_zero, List.set_cons_succ]
        refine held_op 8 20 (.pointer (some ⟨G, 2 * i, none⟩)) rfl rfl (by kernel_rfl) rfl (exec_idx3 _ _ _ hlt) b1 ?_
        simp only [Act.put, List.setIfInBounds_toArray, List.set_cons_zero, List.set_cons_succ]
        refine held_store 9 rfl rfl (by kernel_rfl) rfl (exec_store3 G i (leftA (stAt s i) (l.getD i 0)) _ (fallI s l i) hlt g1) (put3_below b1 hGB) ?_
        refine wpAnyH_done (by kernel_rfl) ?_ _
        have P : FallAt w s l G (i + 1) _ := ⟨put3_below b1 hGB, (put3_other hne).trans r1, put3_heap hlt g1⟩
        clear hHeld b0 b1 g1 r1 hB hR hG cD cS CL CK hA
        generalize put3 u G i (leftA (stAt s i) (l.getD i 0)) = V at *
        go_wp2
        go_roundw
        case rel => exact ⟨i + 1, by omega, by go_num, P⟩
        case measure => simp [intOf]; omega
    · obtain rfl : i = 3 := by omega
      rw [fallI_all] at hG
      clear P CK CL
      generalize hX : fallS s l = X at *
      have c0 := cell_of_row _ _ 0 _ _ _ hG
      have d0 := cell_of_row _ _ 0 _ _ _ hR
      have z0 := frozen_of_row _ _ 0 _ _ hR
      have c1 := cell_of_row _ _ 1 _ _ _ hG
      have d1 := cell_of_row _ _ 1 _ _ _ hR
      have z1 := frozen_of_row _ _ 1 _ _ hR
      have c2 := cell_of_row _ _ 2 _ _ _ hG
      have d2 := cell_of_row _ _ 2 _ _ _ hR
      have z2 := frozen_of_row _ _ 2 _ _ hR
      have c3 := cell_of_row _ _ 3 _ _ _ hG
      have d3 := cell_of_row _ _ 3 _ _ _ hR
      have z3 := frozen_of_row _ _ 3 _ _ hR
      have c4 := cell_of_row _ _ 4 _ _ _ hG
      have d4 := cell_of_row _ _ 4 _ _ _ hR
      have z4 := frozen_of_row _ _ 4 _ _ hR
      have c5 := cell_of_row _ _ 5 _ _ _ hG
      have d5 := cell_of_row _ _ 5 _ _ _ hR
      have z5 := frozen_of_row _ _ 5 _ _ hR
      simp at c0 c1 c2 c3 c4 c5 d0 d1 d2 d3 d4 d5
      have HB := Lib.hid hB
      clear hG hR hB
      go_wp2
      simp [bodyPost, results, Try.results12, go_sem, d0, d1, d2, d3, d4, d5]
      rw [hX]
      refine ⟨⟨rfl, rfl, rfl, rfl, rfl, rfl⟩, ?_⟩
      repeat refine Below.setCell ?_ (by simp) _
      exact HB.out
set_option maxRecDepth 100000 in
theorem exec_fldAo {ρ : Operand → Value} {o : Oper} {x : Operand} (b off k : Nat) (w : World) (hk : k = 0 ∨ k = 1) (ho : o.op = .fieldAddr 25 x k := by rfl) (hx : ρ x = .pointer (some ⟨b, off, none⟩) := by rfl) :
    (execOp ρ o).run Try.prog w = .ok (.value (.pointer (some ⟨b, off + k, none⟩))) w := by
  unfold execOp
  rw [ho]
  rcases hk with rfl | rfl <;> simp [go_sem, hx]
set_option maxRecDepth 100000 in
theorem exec_neqD {ρ : Operand → Value} {o : Oper} {x y : Operand} (X Y : Int) (d : Bool) (w : World) (hd : decide (X ≠ Y) = d) (ho : o.op = .binOp .neq 3 x y 3 := by rfl) (hx : ρ x = .int .i64 X := by rfl) (hy : ρ y = .int .i64 Y := by rfl) :
    (execOp ρ o).run Try.prog w = .ok (.value (.bool d)) w := by
  subst hd
  unfold execOp
  rw [ho]
  by_cases h : X = Y
  · simp [go_sem, hx, hy, h]
  · simp [go_sem, hx, hy, h]
theorem st_at (s : St) (i : Nat) (h : i < 3) : (#[.string s.log.data, .int .i64 s.log.safe, .string s.even.data, .int .i64 s.even.safe, .string s.odd.data, .int .i64 s.odd.safe] : Array Value)[2 * i]? = some (.string (stAt s i).data) ∧ (#[.string s.log.data, .int .i64 s.log.safe, .string s.even.data, .int .i64 s.even.safe, .string s.odd.data, .int .i64 s.odd.safe] : Array Value)[2 * i + 1]? = some (.int .i64 (stAt s i).safe) := by
  rcases three h with rfl | rfl | rfl <;> exact ⟨rfl, rfl⟩
set_option maxRecDepth 100000 in
set_option maxHeartbeats 1600000 in
theorem calm_impl (s : St) (w : World) (hg : s.go) : Calls Try.prog 18 #[stA s] w fun e w' => e = .returned (.bool (decide (calmS s))) ∧ Below w.heap.size w w' := by
  have CA := Lib.hid (fun w => areasOf_any s w)
  unfold stA at CA ⊢
  go_enter Try.func18, Try.ntmps18
  go_wp2_with fail
  refine (CA.out _).mono ?_
  rintro e w2 ⟨rfl, b2⟩
  have bW := boxB w w2 _ b2
  clear b2 CA
  have P : Below w.heap.size w (w2.alloc (.cells #[.string s.log.data, .int .i64 s.log.safe, .string s.even.data, .int .i64 s.even.safe, .string s.odd.data, .int .i64 s.odd.safe] 59)) ∧ (w2.alloc (.cells #[.string s.log.data, .int .i64 s.log.safe, .string s.even.data, .int .i64 s.even.safe, .string s.odd.data, .int .i64 s.odd.safe] 59)).heap[w2.heap.size]? = some (.cells #[.string s.log.data, .int .i64 s.log.safe, .string s.even.data, .int .i64 s.even.safe, .string s.odd.data, .int .i64 s.odd.safe] 59 (0, 0)) := ⟨bW.alloc bW.size _, heap_new _ _⟩
  go_wp2_with fail
  generalize hU : w2.alloc (.cells #[.string s.log.data, .int .i64 s.log.safe, .string s.even.data, .int .i64 s.even.safe, .string s.odd.data, .int .i64 s.odd.safe] 59) = U at *
  clear hU bW
  generalize w2.heap.size = G at *
  go_loopw [7] (fun vi wr => ∃ i : Nat, i ≤ 3 ∧ vi = .int .i64 i ∧ (∀ j, j < i → calmA (stAt s j)) ∧ Below w.heap.size w wr ∧ wr.heap[G]? = some (.cells #[.string s.log.data, .int .i64 s.log.safe, .string s.even.data, .int .i64 s.even.safe, .string s.odd.data, .int .i64 s.odd.safe] 59 (0, 0))) (fun vi _ => 3 - (intOf vi).toNat)
  case atStart => exact ⟨0, by omega, rfl, (fun j hj => by omega), P⟩
  case round =>
    obtain ⟨i, hi3, rfl, hall, hB, hG⟩ := hrel
    clear P
    by_cases hlt : i < 3
    · have KG : Hid (∀ w' : World, w'.heap[G]? = some (.cells #[.string s.log.data, .int .i64 s.log.safe, .string s.even.data, .int .i64 s.even.safe, .string s.odd.data, .int .i64 s.odd.safe] 59 (0, 0)) → w'.cell? ⟨G, 2 * i, none⟩ = some (.string (stAt s i).data) ∧ w'.cell? ⟨G, 2 * i + 1, none⟩ = some (.int .i64 (stAt s i).safe)) := fun w' h => ⟨(cell_of_row _ _ _ _ _ _ h).trans (st_at s i hlt).1, (cell_of_row _ _ _ _ _ _ h).trans (st_at s i hlt).2⟩
      obtain ⟨d, hd⟩ : ∃ d, decide ((stAt s i).safe ≠ ((stAt s i).data.size : Int)) = d := ⟨_, rfl⟩
      have HB := Lib.hid hB
      have HD := Lib.hid hd
      have HA := Lib.hid hall
      clear hd hall
      go_wp2_with fail
      refine wp_region_held_drew (S := fun w' => Hid (w'.heap[G]? = some (.cells #[.string s.log.data, .int .i64 s.log.safe, .string s.even.data, .int .i64 s.even.safe, .string s.odd.data, .int .i64 s.odd.safe] 59 (0, 0)))) (by kernel_rfl) hG (fun hHeld => ?_)
      refine held_take 0 10 (.int .i64 (i : Int)) rfl rfl (by kernel_rfl) (by kernel_rfl) (by kernel_rfl) (fun _ _ _ h => h) rfl hHeld (fun w _ => rfl) ?_
      refine held_take 1 11 (.pointer (some ⟨G, 2 * i, none⟩)) rfl rfl (by kernel_rfl) (by kernel_rfl) (by kernel_rfl) (fun _ _ _ h => h) rfl hHeld (fun w _ => exec_idx3 _ _ w hlt) ?_
      refine held_take 2 12 (.pointer (some ⟨G, 2 * i + 1, none⟩)) rfl rfl (by kernel_rfl) (by kernel_rfl) (by kernel_rfl) (fun _ _ _ h => h) rfl hHeld (fun w _ => exec_fldAo _ _ 1 w (by simp)) ?_
      simp only [Act.put, List.setIfInBounds_toArray, List.set_cons_zero, List.set_cons_succ]
      refine held_take 3 13 (.int .i64 (stAt s i).safe) rfl rfl (by kernel_rfl) (by kernel_rfl) (by kernel_rfl) (fun _ _ _ h => h) rfl hHeld (fun w hS => exec_load1 3 _ _ _ w (by simp) (KG.out w hS.out).2) ?_
      refine held_take 4 14 (.int .i64 (i : Int)) rfl rfl (by kernel_rfl) (by kernel_rfl) (by kernel_rfl) (fun _ _ _ h => h) rfl hHeld (fun w _ => rfl) ?_
      refine held_take 5 15 (.pointer (some ⟨G, 2 * i, none⟩)) rfl rfl (by kernel_rfl) (by kernel_rfl) (by kernel_rfl) (fun _ _ _ h => h) rfl hHeld (fun w _ => exec_idx3 _ _ w hlt) ?_
      simp only [Act.put, List.setIfInBounds_toArray, List.set_cons_zero, List.set_cons_succ]
      refine held_take 6 16 (.pointer (some ⟨G, 2 * i + 0, none⟩)) rfl rfl (by kernel_rfl) (by kernel_rfl) (by kernel_rfl) (fun _ _ _ h => h) rfl hHeld (fun w _ => exec_fldAo _ _ 0 w (by simp)) ?_
      refine held_take 7 17 (.string (stAt s i).data) rfl rfl (by kernel_rfl) (by kernel_rfl) (by kernel_rfl) (fun _ _ _ h => h) rfl hHeld (fun w hS => exec_load1 9 _ _ _ w (by simp) (KG.out w hS.out).1) ?_
      refine held_take 8 18 (.int .i64 ((stAt s i).data.size : Int)) rfl rfl (by kernel_rfl) (by kernel_rfl) (by kernel_rfl) (fun _ _ _ h => h) rfl hHeld (fun w _ => exec_lenS _ w) ?_
      simp only [Act.put, List.setIfInBounds_toArray, List.set_cons_zero, List.set_cons_succ]
      refine held_take 9 19 (.bool d) rfl rfl (by kernel_rfl) (by kernel_rfl) (by kernel_rfl) (fun _ _ _ h => h) rfl hHeld (fun w _ => exec_neqD _ _ _ w HD.out) ?_
      simp only [Act.put, List.setIfInBounds_toArray, List.set_cons_zero, List.set_cons_succ]
      refine wpAnyH_done (by kernel_rfl) ?_ _
      have HG := Lib.hid hG
      clear KG hB hG hHeld
      cases d with
      | true =>
        go_wp2
        go_ret
        refine ⟨?_, below_drawn HB.out 1⟩
        have hn : ¬ calmS s := by
          intro h
          have h2 := HD.out
          simp only [ne_eq, decide_eq_true_eq] at h2
          refine h2 ?_
          rcases three hlt with rfl | rfl | rfl
          · exact h.1
          · exact h.2.1
          · exact h.2.2
        simp only [hn, decide_false]
        rfl
      | false =>
        have hs : calmA (stAt s i) := by
          have h2 := HD.out
          simp only [ne_eq, decide_eq_false_iff_not, Decidable.not_not] at h2
          exact h2
        have HA2 : Hid (∀ j, j < i + 1 → calmA (stAt s j)) := by
          intro j hj
          by_cases e : j = i
          · subst e; exact hs
          · exact HA.out j (by omega)
        clear hs HA
        generalize (stAt s i).data = Y1 at *
        generalize (stAt s i).safe = Y2 at *
        go_wp2
        go_roundw
        case rel => exact ⟨i + 1, by omega, by go_num, HA2.out, below_drawn HB.out 1, HG.out⟩
        case measure => simp [intOf]; omega
    · obtain rfl : i = 3 := by omega
      have hc : calmS s := ⟨hall 0 (by omega), hall 1 (by omega), hall 2 (by omega)⟩
      have HC := Lib.hid hc
      have HB := Lib.hid hB
      clear hall hc hB hG
      go_wp2
      go_ret
      exact ⟨by simp only [HC.out, decide_true] <;> rfl, HB.out⟩
/-- What Could keeps of the j-th area, once i areas have been visited. -/
def keptI (s t : St) (i j : Nat) : Int := if j < i then IntKind.i64.wrap ((stAt t j).data.size - (stAt s j).safe) else 0
theorem kept_set (s t : St) (i : Nat) (h : i < 3) : (#[.int .i64 (keptI s t i 0), .int .i64 (keptI s t i 1), .int .i64 (keptI s t i 2)] : Array Value).setIfInBounds i (.int .i64 (IntKind.i64.wrap ((stAt t i).data.size - (stAt s i).safe))) = #[.int .i64 (keptI s t (i + 1) 0), .int .i64 (keptI s t (i + 1) 1), .int .i64 (keptI s t (i + 1) 2)] := by
  rcases three h with rfl | rfl | rfl <;> rfl
theorem kept_could (s t : St) : fallS s [keptI s t 3 0, keptI s t 3 1, keptI s t 3 2] = t ↔ couldS s t := by
  unfold couldS couldA fallS
  constructor
  · intro h
    refine ⟨?_, ?_, ?_⟩
    · exact (congrArg St.log h).symm
    · exact (congrArg St.even h).symm
    · exact (congrArg St.odd h).symm
  · rintro ⟨h1, h2, h3⟩
    cases t
    exact (St.mk.injEq .. ▸ ⟨h1.symm, h2.symm, h3.symm⟩)
set_option maxRecDepth 100000 in
theorem exec_alloc3 {ρ : Operand → Value} {o : Oper} (w : World) (ho : o.op = .alloc 59 := by rfl) :
    (execOp ρ o).run Try.prog w = .ok (.value (.pointer (some ⟨w.heap.size, 0, none⟩))) (w.alloc (.cells #[.string ⟨#[]⟩, .int .i64 0, .string ⟨#[]⟩, .int .i64 0, .string ⟨#[]⟩, .int .i64 0] 59)) := by
  unfold execOp
  rw [ho]
  simp [go_sem]
set_option maxRecDepth 100000 in
theorem exec_store63 {ρ : Operand → Value} {o : Oper} {x y : Operand} (g : Nat) (s : St) (w : World) (h : w.heap[g]? = some (.cells #[.string ⟨#[]⟩, .int .i64 0, .string ⟨#[]⟩, .int .i64 0, .string ⟨#[]⟩, .int .i64 0] 59 (0, 0))) (ho : o.op = .store 59 x y := by rfl) (hx : ρ x = .pointer (some ⟨g, 0, none⟩) := by rfl) (hy : ρ y = stA s := by rfl) :
    (execOp ρ o).run Try.prog w = .ok .skip (put6 w g s) := by
  have c0 := cell_of_row _ _ 0 _ _ _ h
  have z0 := frozen_of_row _ _ 0 _ _ h
  have c1 := cell_of_row _ _ 1 _ _ _ h
  have z1 := frozen_of_row _ _ 1 _ _ h
  have c2 := cell_of_row _ _ 2 _ _ _ h
  have z2 := frozen_of_row _ _ 2 _ _ h
  have c3 := cell_of_row _ _ 3 _ _ _ h
  have z3 := frozen_of_row _ _ 3 _ _ h
  have c4 := cell_of_row _ _ 4 _ _ _ h
  have z4 := frozen_of_row _ _ 4 _ _ h
  have c5 := cell_of_row _ _ 5 _ _ _ h
  have z5 := frozen_of_row _ _ 5 _ _ h
  simp at c0 c1 c2 c3 c4 c5
  unfold execOp
  rw [ho]
  simp [go_sem, hx, hy, stA, c0, c1, c2, c3, c4, c5, z0, z1, z2, z3, z4, z5, put6]
set_option maxRecDepth 100000 in
theorem exec_loadI2 {ρ : Operand → Value} {o : Oper} {x : Operand} (b : Nat) (s : St) (w : World) (h : w.heap[b]? = some (.cells #[.string s.log.data, .int .i64 s.log.safe, .string s.even.data, .int .i64 s.even.safe, .string s.odd.data, .int .i64 s.odd.safe] 27 (0, 0))) (ho : o.op = .load 27 x := by rfl) (hx : ρ x = .pointer (some ⟨b, 0, none⟩) := by rfl) :
    (execOp ρ o).run Try.prog w = .ok (.value (stA s)) w := by
  have c0 := cell_of_row _ _ 0 _ _ _ h
  have c1 := cell_of_row _ _ 1 _ _ _ h
  have c2 := cell_of_row _ _ 2 _ _ _ h
  have c3 := cell_of_row _ _ 3 _ _ _ h
  have c4 := cell_of_row _ _ 4 _ _ _ h
  have c5 := cell_of_row _ _ 5 _ _ _ h
  simp at c0 c1 c2 c3 c4 c5
  unfold execOp
  rw [ho]
  simp [go_sem, hx, c0, c1, c2, c3, c4, c5, stA]
set_option maxRecDepth 100000 in
theorem exec_idx3I {ρ : Operand → Value} {o : Oper} {x y : Operand} (g i : Nat) (w : World) (h : i < 3) (ho : o.op = .indexAddr 62 x y := by rfl) (hx : ρ x = .pointer (some ⟨g, 0, none⟩) := by rfl) (hy : ρ y = .int .i64 (i : Int) := by rfl) :
    (execOp ρ o).run Try.prog w = .ok (.value (.pointer (some ⟨g, i, none⟩))) w := by
  unfold execOp
  rw [ho]
  have h1 : ¬ ((i : Int) < 0) := by omega
  have h2 : (i : Int) < 3 := by omega
  simp [go_sem, hx, hy, h1, h2]
set_option maxRecDepth 100000 in
theorem exec_slice3 {ρ : Operand → Value} {o : Oper} {x : Operand} (g : Nat) (w : World) (ho : o.op = .slice 62 x none none none := by rfl) (hx : ρ x = .pointer (some ⟨g, 0, none⟩) := by rfl) :
    (execOp ρ o).run Try.prog w = .ok (.value (.slice (some ⟨g, 0, none⟩) 3 3)) w := by
  unfold execOp
  rw [ho]
  simp [go_sem, hx]
set_option maxRecDepth 100000 in
theorem exec_eqSS {ρ : Operand → Value} {o : Oper} {x y : Operand} (s t : St) (d : Bool) (w : World) (hd : d = true ↔ s = t) (ho : o.op = .binOp .eql 27 x y 27 := by rfl) (hx : ρ x = stA s := by rfl) (hy : ρ y = stA t := by rfl) :
    (execOp ρ o).run Try.prog w = .ok (.value (.bool d)) w := by
  unfold execOp
  rw [ho]
  unfold stA at hx hy
  have e : (s = t) ↔ ((s.log.data = t.log.data ∧ s.log.safe = t.log.safe) ∧ (s.even.data = t.even.data ∧ s.even.safe = t.even.safe) ∧ (s.odd.data = t.odd.data ∧ s.odd.safe = t.odd.safe)) := by
    constructor
    · rintro rfl; exact ⟨⟨rfl, rfl⟩, ⟨rfl, rfl⟩, ⟨rfl, rfl⟩⟩
    · rintro ⟨⟨h1, h2⟩, ⟨h3, h4⟩, ⟨h5, h6⟩⟩
      cases s; cases t
      exact (St.mk.injEq .. ▸ ⟨ar_ext h1 h2, ar_ext h3 h4, ar_ext h5 h6⟩)
  have e2 : d = decide ((s.log.data = t.log.data ∧ s.log.safe = t.log.safe) ∧ (s.even.data = t.even.data ∧ s.even.safe = t.even.safe) ∧ (s.odd.data = t.odd.data ∧ s.odd.safe = t.odd.safe)) := by
    rw [Bool.eq_iff_iff, hd, e, decide_eq_true_eq]
  subst e2
  clear hd e
  by_cases h1 : s.log.data = t.log.data
  rotate_left
  · have := str_ne h1
    simp [go_sem, hx, hy, h1, this]
  by_cases h2 : s.log.safe = t.log.safe
  rotate_left
  · simp [go_sem, hx, hy, h1, h2]
  by_cases h3 : s.even.data = t.even.data
  rotate_left
  · have := str_ne h3
    simp [go_sem, hx, hy, h1, h2, h3, this]
  by_cases h4 : s.even.safe = t.even.safe
  rotate_left
  · simp [go_sem, hx, hy, h1, h2, h3, h4]
  by_cases h5 : s.odd.data = t.odd.data
  rotate_left
  · have := str_ne h5
    simp [go_sem, hx, hy, h1, h2, h3, h4, h5, this]
  by_cases h6 : s.odd.safe = t.odd.safe
  · simp [go_sem, hx, hy, h1, h2, h3, h4, h5, h6]
  · simp [go_sem, hx, hy, h1, h2, h3, h4, h5, h6]
/-- Two stores lie in blocks made since. -/
def TwoAt (u : World) (s t : St) (g h : Nat) (w : World) : Prop := Below u.heap.size u w ∧ u.heap.size ≤ g ∧ u.heap.size ≤ h ∧ w.heap[g]? = some (.cells #[.string s.log.data, .int .i64 s.log.safe, .string s.even.data, .int .i64 s.even.safe, .string s.odd.data, .int .i64 s.odd.safe] 59 (0, 0)) ∧ w.heap[h]? = some (.cells #[.string t.log.data, .int .i64 t.log.safe, .string t.even.data, .int .i64 t.even.safe, .string t.odd.data, .int .i64 t.odd.safe] 59 (0, 0))
/-- The world at the i-th visit of Could. -/
def CouldAt (u : World) (s t : St) (g h k i : Nat) (w : World) : Prop := Below u.heap.size u w ∧ w.heap[g]? = some (.cells #[.string s.log.data, .int .i64 s.log.safe, .string s.even.data, .int .i64 s.even.safe, .string s.odd.data, .int .i64 s.odd.safe] 59 (0, 0)) ∧ w.heap[h]? = some (.cells #[.string t.log.data, .int .i64 t.log.safe, .string t.even.data, .int .i64 t.even.safe, .string t.odd.data, .int .i64 t.odd.safe] 59 (0, 0)) ∧ w.heap[k]? = some (.cells #[.int .i64 (keptI s t i 0), .int .i64 (keptI s t i 1), .int .i64 (keptI s t i 2)] 62 (0, 0))
theorem could_boxes (w : World) (s t : St) : ∃ U, Hid ((w.alloc (.cells #[.string s.log.data, .int .i64 s.log.safe, .string s.even.data, .int .i64 s.even.safe, .string s.odd.data, .int .i64 s.odd.safe] 27)).alloc (.cells #[.string t.log.data, .int .i64 t.log.safe, .string t.even.data, .int .i64 t.even.safe, .string t.odd.data, .int .i64 t.odd.safe] 27) = U) ∧ Below w.heap.size w U ∧ (∀ w', Below U.heap.size U w' → w'.heap[w.heap.size]? = some (.cells #[.string s.log.data, .int .i64 s.log.safe, .string s.even.data, .int .i64 s.even.safe, .string s.odd.data, .int .i64 s.odd.safe] 27 (0, 0))) ∧ (∀ w', Below U.heap.size U w' → w'.heap[w.heap.size + 1]? = some (.cells #[.string t.log.data, .int .i64 t.log.safe, .string t.even.data, .int .i64 t.even.safe, .string t.odd.data, .int .i64 t.odd.safe] 27 (0, 0))) :=
  ⟨_, rfl, (two_at w _ _ _ (Below.refl _ _)).2.2, fun w' h => (two_at w w' _ _ h).1, fun w' h => (two_at w w' _ _ h).2.1⟩
set_option maxRecDepth 100000 in
set_option maxHeartbeats 3200000 in
theorem could_impl (s t : St) (w : World) (hg : s.go) (ht : t.go) : Calls Try.prog 14 #[stA s, stA t] w fun e w' => e = .returned (.bool (decide (couldS s t))) ∧ Below w.heap.size w w' := by
  have CS := Lib.hid (fun w => areasOf_any s w)
  have CT := Lib.hid (fun w => areasOf_any t w)
  have CF := Lib.hid (fun A w hi hA => fallen_impl s A [keptI s t 3 0, keptI s t 3 1, keptI s t 3 2] 3 w hg (by simp) hi hA)
  have KI : Hid (∀ z ∈ [keptI s t 3 0, keptI s t 3 1, keptI s t 3 2], inI z) := by
    intro z hz
    have q : ∀ x : Int, inI (IntKind.i64.wrap x) := fun x => by rw [IntKind.wrap_i64]; unfold inI; omega
    simp at hz
    rcases hz with rfl | rfl | rfl <;> exact q _
  have KK := Lib.hid (kept_could s t)
  obtain ⟨U, HU, bU, hS, hT⟩ := could_boxes w s t
  have KS := Lib.hid hS
  have KT := Lib.hid hT
  clear hS hT hg ht
  have es : Hid (stA s = .agg #[.string s.log.data, .int .i64 s.log.safe, .string s.even.data, .int .i64 s.even.safe, .string s.odd.data, .int .i64 s.odd.safe]) := rfl
  have et : Hid (stA t = .agg #[.string t.log.data, .int .i64 t.log.safe, .string t.even.data, .int .i64 t.even.safe, .string t.odd.data, .int .i64 t.odd.safe]) := rfl
  rw [es.out, et.out]
  go_enter Try.func14, Try.ntmps14
  go_wp2_with fail
  rw [HU.out]
  have HB := Lib.hid bU
  clear HU bU es et
  go_cut [5, 6] (fun s5 s6 wx => ∃ g h, s5 = .pointer (some ⟨g, 0, none⟩) ∧ s6 = .pointer (some ⟨h, 0, none⟩) ∧ TwoAt U s t g h wx)
  case first =>
    refine wp_region_held_drew (S := fun w' => Hid (Below U.heap.size U w')) (by kernel_rfl) (below_drawn (Below.refl _ _) 1) (fun hHeld => ?_)
    have b0 := hHeld.out
    refine held_take 0 9 (stA s) rfl rfl (by kernel_rfl) (by kernel_rfl) (by kernel_rfl) (fun _ _ _ h => h) rfl b0 (fun w hS => exec_loadI2 _ s w (KS.out w hS.out)) ?_
    refine held_take 2 11 (stA t) rfl rfl (by kernel_rfl) (by kernel_rfl) (by kernel_rfl) (fun _ _ _ h => h) rfl b0 (fun w hS => exec_loadI2 _ t w (KT.out w hS.out)) ?_
    simp only [Act.put, List.setIfInBounds_toArray, List.set_cons_zero, List.set_cons_succ]
    refine wpAnyH_ready (rs := [1, 4, 5]) (by kernel_rfl) (by simp) (ready_call 1 10 38 #[stA s] rfl rfl rfl (exec_call Try.func38 (by kernel_rfl) (by kernel_rfl) _) ?_ (ready_op 4 5 (.pointer (some ⟨U.drew.heap.size, 0, none⟩)) rfl rfl rfl (exec_alloc3 _) (b0.alloc b0.size _) ?_ (ready_op 5 6 (.pointer (some ⟨U.drew.heap.size, 0, none⟩)) rfl rfl rfl (exec_alloc3 _) (b0.alloc b0.size _) ?_ AllReadyH.nil)))
    · skip
      refine (CS.out _).mono ?_
      rintro e u1 ⟨rfl, x1⟩
      have b1 := b0.trans (x1.mono b0.size)
      refine ⟨_, rfl, b1, ?_⟩
      simp only [Act.put, List.setIfInBounds_toArray, List.set_cons_zero, List.set_cons_succ]
      refine wpAnyH_ready (rs := [3, 4, 5]) (by kernel_rfl) (by simp) (ready_call 3 12 38 #[stA t] rfl rfl rfl (exec_call Try.func38 (by kernel_rfl) (by kernel_rfl) _) ?_ (ready_op 4 5 (.pointer (some ⟨u1.heap.size, 0, none⟩)) rfl rfl rfl (exec_alloc3 _) (b1.alloc b1.size _) ?_ (ready_op 5 6 (.pointer (some ⟨u1.heap.size, 0, none⟩)) rfl rfl rfl (exec_alloc3 _) (b1.alloc b1.size _) ?_ AllReadyH.nil)))
      · skip
        refine (CT.out _).mono ?_
        rintro e u2 ⟨rfl, x2⟩
        have b2 := b1.trans (x2.mono b1.size)
        refine ⟨_, rfl, b2, ?_⟩
        simp only [Act.put, List.setIfInBounds_toArray, List.set_cons_zero, List.set_cons_succ]
        refine wpAnyH_ready (rs := [4, 5]) (by kernel_rfl) (by simp) (ready_op 4 5 (.pointer (some ⟨u2.heap.size, 0, none⟩)) rfl rfl rfl (exec_alloc3 _) (b2.alloc b2.size _) ?_ (ready_op 5 6 (.pointer (some ⟨u2.heap.size, 0, none⟩)) rfl rfl rfl (exec_alloc3 _) (b2.alloc b2.size _) ?_ AllReadyH.nil))
        · skip
          simp only [Act.put, List.setIfInBounds_toArray, List.set_cons_zero, List.set_cons_succ]
          have b3 := b2.alloc b2.size (.cells #[.string ⟨#[]⟩, .int .i64 0, .string ⟨#[]⟩, .int .i64 0, .string ⟨#[]⟩, .int .i64 0] 59)
          have l3 := b2.size
          have g3 := heap_new u2 (.cells #[.string ⟨#[]⟩, .int .i64 0, .string ⟨#[]⟩, .int .i64 0, .string ⟨#[]⟩, .int .i64 0] 59)
          refine held_op 5 6 (.pointer (some ⟨(u2.alloc (.cells #[.string ⟨#[]⟩, .int .i64 0, .string ⟨#[]⟩, .int .i64 0, .string ⟨#[]⟩, .int .i64 0] 59)).heap.size, 0, none⟩)) rfl rfl (by kernel_rfl) rfl (exec_alloc3 _) (b3.alloc b3.size _) ?_
          simp only [Act.put, List.setIfInBounds_toArray, List.set_cons_zero, List.set_cons_succ]
          have b4 := b3.alloc b3.size (.cells #[.string ⟨#[]⟩, .int .i64 0, .string ⟨#[]⟩, .int .i64 0, .string ⟨#[]⟩, .int .i64 0] 59)
          have l4 := b3.size
          have n4_0 := Nat.ne_of_lt (Array.getElem?_eq_some_iff.1 g3).1
          have g4_0 := blk_alloc g3 (.cells #[.string ⟨#[]⟩, .int .i64 0, .string ⟨#[]⟩, .int .i64 0, .string ⟨#[]⟩, .int .i64 0] 59)
          have g4 := heap_new (u2.alloc (.cells #[.string ⟨#[]⟩, .int .i64 0, .string ⟨#[]⟩, .int .i64 0, .string ⟨#[]⟩, .int .i64 0] 59)) (.cells #[.string ⟨#[]⟩, .int .i64 0, .string ⟨#[]⟩, .int .i64 0, .string ⟨#[]⟩, .int .i64 0] 59)
          refine held_store 6 rfl rfl (by kernel_rfl) rfl (exec_store63 _ s _ g4_0) (put6_below (s := s) b4 l3) ?_
          have b5 := put6_below (s := s) b4 l3
          have g5_0 := put6_heap (s := s) g4_0
          have g5_1 := (put6_other (s := s) n4_0.symm).trans g4
          refine held_store 7 rfl rfl (by kernel_rfl) rfl (exec_store63 _ t _ g5_1) (put6_below (s := t) b5 l4) ?_
          have b6 := put6_below (s := t) b5 l4
          have g6_0 := (put6_other (s := t) n4_0).trans g5_0
          have g6_1 := put6_heap (s := t) g5_1
          refine wpAnyH_done (by kernel_rfl) ?_ _
          have P : TwoAt U s t _ _ _ := ⟨b6, l3, l4, g6_0, g6_1⟩
          go_wp2_with fail
          go_meet
          exact ⟨_, _, rfl, rfl, P⟩
        · skip
          simp only [Act.put, List.setIfInBounds_toArray, List.set_cons_zero, List.set_cons_succ]
          have b7 := b2.alloc b2.size (.cells #[.string ⟨#[]⟩, .int .i64 0, .string ⟨#[]⟩, .int .i64 0, .string ⟨#[]⟩, .int .i64 0] 59)
          have l7 := b2.size
          have g7 := heap_new u2 (.cells #[.string ⟨#[]⟩, .int .i64 0, .string ⟨#[]⟩, .int .i64 0, .string ⟨#[]⟩, .int .i64 0] 59)
          refine held_op 4 5 (.pointer (some ⟨(u2.alloc (.cells #[.string ⟨#[]⟩, .int .i64 0, .string ⟨#[]⟩, .int .i64 0, .string ⟨#[]⟩, .int .i64 0] 59)).heap.size, 0, none⟩)) rfl rfl (by kernel_rfl) rfl (exec_alloc3 _) (b7.alloc b7.size _) ?_
          simp only [Act.put, List.setIfInBounds_toArray, List.set_cons_zero, List.set_cons_succ]
          have b8 := b7.alloc b7.size (.cells #[.string ⟨#[]⟩, .int .i64 0, .string ⟨#[]⟩, .int .i64 0, .string ⟨#[]⟩, .int .i64 0] 59)
          have l8 := b7.size
          have n8_0 := Nat.ne_of_lt (Array.getElem?_eq_some_iff.1 g7).1
          have g8_0 := blk_alloc g7 (.cells #[.string ⟨#[]⟩, .int .i64 0, .string ⟨#[]⟩, .int .i64 0, .string ⟨#[]⟩, .int .i64 0] 59)
          have g8 := heap_new (u2.alloc (.cells #[.string ⟨#[]⟩, .int .i64 0, .string ⟨#[]⟩, .int .i64 0, .string ⟨#[]⟩, .int .i64 0] 59)) (.cells #[.string ⟨#[]⟩, .int .i64 0, .string ⟨#[]⟩, .int .i64 0, .string ⟨#[]⟩, .int .i64 0] 59)
          refine held_store 6 rfl rfl (by kernel_rfl) rfl (exec_store63 _ s _ g8) (put6_below (s := s) b8 l8) ?_
          have b9 := put6_below (s := s) b8 l8
          have g9_0 := (put6_other (s := s) n8_0).trans g8_0
          have g9_1 := put6_heap (s := s) g8
          refine held_store 7 rfl rfl (by kernel_rfl) rfl (exec_store63 _ t _ g9_0) (put6_below (s := t) b9 l7) ?_
          have b10 := put6_below (s := t) b9 l7
          have g10_0 := put6_heap (s := t) g9_0
          have g10_1 := (put6_other (s := t) n8_0.symm).trans g9_1
          refine wpAnyH_done (by kernel_rfl) ?_ _
          have P : TwoAt U s t _ _ _ := ⟨b10, l8, l7, g10_1, g10_0⟩
          go_wp2_with fail
          go_meet
          exact ⟨_, _, rfl, rfl, P⟩
      · skip
        simp only [Act.put, List.setIfInBounds_toArray, List.set_cons_zero, List.set_cons_succ]
        have b11 := b1.alloc b1.size (.cells #[.string ⟨#[]⟩, .int .i64 0, .string ⟨#[]⟩, .int .i64 0, .string ⟨#[]⟩, .int .i64 0] 59)
        have l11 := b1.size
        have g11 := heap_new u1 (.cells #[.string ⟨#[]⟩, .int .i64 0, .string ⟨#[]⟩, .int .i64 0, .string ⟨#[]⟩, .int .i64 0] 59)
        refine wpAnyH_ready (rs := [3, 5]) (by kernel_rfl) (by simp) (ready_call 3 12 38 #[stA t] rfl rfl rfl (exec_call Try.func38 (by kernel_rfl) (by kernel_rfl) _) ?_ (ready_op 5 6 (.pointer (some ⟨(u1.alloc (.cells #[.string ⟨#[]⟩, .int .i64 0, .string ⟨#[]⟩, .int .i64 0, .string ⟨#[]⟩, .int .i64 0] 59)).heap.size, 0, none⟩)) rfl rfl rfl (exec_alloc3 _) (b11.alloc b11.size _) ?_ AllReadyH.nil))
        · skip
          refine (CT.out _).mono ?_
          rintro e u12 ⟨rfl, x12⟩
          have b12 := b11.trans (x12.mono b11.size)
          have g12_0 := blk_call g11 x12
          refine ⟨_, rfl, b12, ?_⟩
          simp only [Act.put, List.setIfInBounds_toArray, List.set_cons_zero, List.set_cons_succ]
          refine held_op 5 6 (.pointer (some ⟨u12.heap.size, 0, none⟩)) rfl rfl (by kernel_rfl) rfl (exec_alloc3 _) (b12.alloc b12.size _) ?_
          simp only [Act.put, List.setIfInBounds_toArray, List.set_cons_zero, List.set_cons_succ]
          have b13 := b12.alloc b12.size (.cells #[.string ⟨#[]⟩, .int .i64 0, .string ⟨#[]⟩, .int .i64 0, .string ⟨#[]⟩, .int .i64 0] 59)
          have l13 := b12.size
          have n13_0 := Nat.ne_of_lt (Array.getElem?_eq_some_iff.1 g12_0).1
          have g13_0 := blk_alloc g12_0 (.cells #[.string ⟨#[]⟩, .int .i64 0, .string ⟨#[]⟩, .int .i64 0, .string ⟨#[]⟩, .int .i64 0] 59)
          have g13 := heap_new u12 (.cells #[.string ⟨#[]⟩, .int .i64 0, .string ⟨#[]⟩, .int .i64 0, .string ⟨#[]⟩, .int .i64 0] 59)
          refine held_store 6 rfl rfl (by kernel_rfl) rfl (exec_store63 _ s _ g13_0) (put6_below (s := s) b13 l11) ?_
          have b14 := put6_below (s := s) b13 l11
          have g14_0 := put6_heap (s := s) g13_0
          have g14_1 := (put6_other (s := s) n13_0.symm).trans g13
          refine held_store 7 rfl rfl (by kernel_rfl) rfl (exec_store63 _ t _ g14_1) (put6_below (s := t) b14 l13) ?_
          have b15 := put6_below (s := t) b14 l13
          have g15_0 := (put6_other (s := t) n13_0).trans g14_0
          have g15_1 := put6_heap (s := t) g14_1
          refine wpAnyH_done (by kernel_rfl) ?_ _
          have P : TwoAt U s t _ _ _ := ⟨b15, l11, l13, g15_0, g15_1⟩
          go_wp2_with fail
          go_meet
          exact ⟨_, _, rfl, rfl, P⟩
        · skip
          simp only [Act.put, List.setIfInBounds_toArray, List.set_cons_zero, List.set_cons_succ]
          have b16 := b11.alloc b11.size (.cells #[.string ⟨#[]⟩, .int .i64 0, .string ⟨#[]⟩, .int .i64 0, .string ⟨#[]⟩, .int .i64 0] 59)
          have l16 := b11.size
          have n16_0 := Nat.ne_of_lt (Array.getElem?_eq_some_iff.1 g11).1
          have g16_0 := blk_alloc g11 (.cells #[.string ⟨#[]⟩, .int .i64 0, .string ⟨#[]⟩, .int .i64 0, .string ⟨#[]⟩, .int .i64 0] 59)
          have g16 := heap_new (u1.alloc (.cells #[.string ⟨#[]⟩, .int .i64 0, .string ⟨#[]⟩, .int .i64 0, .string ⟨#[]⟩, .int .i64 0] 59)) (.cells #[.string ⟨#[]⟩, .int .i64 0, .string ⟨#[]⟩, .int .i64 0, .string ⟨#[]⟩, .int .i64 0] 59)
          refine held_call 3 12 38 #[stA t] rfl rfl (by kernel_rfl) rfl (exec_call Try.func38 (by kernel_rfl) (by kernel_rfl) _) ?_
          refine (CT.out _).mono ?_
          rintro e u17 ⟨rfl, x17⟩
          have b17 := b16.trans (x17.mono b16.size)
          have g17_0 := blk_call g16_0 x17
          have g17_1 := blk_call g16 x17
          refine ⟨_, rfl, b17, ?_⟩
          simp only [Act.put, List.setIfInBounds_toArray, List.set_cons_zero, List.set_cons_succ]
          refine held_store 6 rfl rfl (by kernel_rfl) rfl (exec_store63 _ s _ g17_0) (put6_below (s := s) b17 l11) ?_
          have b18 := put6_below (s := s) b17 l11
          have g18_0 := put6_heap (s := s) g17_0
          have g18_1 := (put6_other (s := s) n16_0.symm).trans g17_1
          refine held_store 7 rfl rfl (by kernel_rfl) rfl (exec_store63 _ t _ g18_1) (put6_below (s := t) b18 l16) ?_
          have b19 := put6_below (s := t) b18 l16
          have g19_0 := (put6_other (s := t) n16_0).trans g18_0
          have g19_1 := put6_heap (s := t) g18_1
          refine wpAnyH_done (by kernel_rfl) ?_ _
          have P : TwoAt U s t _ _ _ := ⟨b19, l11, l16, g19_0, g19_1⟩
          go_wp2_with fail
          go_meet
          exact ⟨_, _, rfl, rfl, P⟩
      · skip
        simp only [Act.put, List.setIfInBounds_toArray, List.set_cons_zero, List.set_cons_succ]
        have b20 := b1.alloc b1.size (.cells #[.string ⟨#[]⟩, .int .i64 0, .string ⟨#[]⟩, .int .i64 0, .string ⟨#[]⟩, .int .i64 0] 59)
        have l20 := b1.size
        have g20 := heap_new u1 (.cells #[.string ⟨#[]⟩, .int .i64 0, .string ⟨#[]⟩, .int .i64 0, .string ⟨#[]⟩, .int .i64 0] 59)
        refine wpAnyH_ready (rs := [3, 4]) (by kernel_rfl) (by simp) (ready_call 3 12 38 #[stA t] rfl rfl rfl (exec_call Try.func38 (by kernel_rfl) (by kernel_rfl) _) ?_ (ready_op 4 5 (.pointer (some ⟨(u1.alloc (.cells #[.string ⟨#[]⟩, .int .i64 0, .string ⟨#[]⟩, .int .i64 0, .string ⟨#[]⟩, .int .i64 0] 59)).heap.size, 0, none⟩)) rfl rfl rfl (exec_alloc3 _) (b20.alloc b20.size _) ?_ AllReadyH.nil))
        · skip
          refine (CT.out _).mono ?_
          rintro e u21 ⟨rfl, x21⟩
          have b21 := b20.trans (x21.mono b20.size)
          have g21_0 := blk_call g20 x21
          refine ⟨_, rfl, b21, ?_⟩
          simp only [Act.put, List.setIfInBounds_toArray, List.set_cons_zero, List.set_cons_succ]
          refine held_op 4 5 (.pointer (some ⟨u21.heap.size, 0, none⟩)) rfl rfl (by kernel_rfl) rfl (exec_alloc3 _) (b21.alloc b21.size _) ?_
          simp only [Act.put, List.setIfInBounds_toArray, List.set_cons_zero, List.set_cons_succ]
          have b22 := b21.alloc b21.size (.cells #[.string ⟨#[]⟩, .int .i64 0, .string ⟨#[]⟩, .int .i64 0, .string ⟨#[]⟩, .int .i64 0] 59)
          have l22 := b21.size
          have n22_0 := Nat.ne_of_lt (Array.getElem?_eq_some_iff.1 g21_0).1
          have g22_0 := blk_alloc g21_0 (.cells #[.string ⟨#[]⟩, .int .i64 0, .string ⟨#[]⟩, .int .i64 0, .string ⟨#[]⟩, .int .i64 0] 59)
          have g22 := heap_new u21 (.cells #[.string ⟨#[]⟩, .int .i64 0, .string ⟨#[]⟩, .int .i64 0, .string ⟨#[]⟩, .int .i64 0] 59)
          refine held_store 6 rfl rfl (by kernel_rfl) rfl (exec_store63 _ s _ g22) (put6_below (s := s) b22 l22) ?_
          have b23 := put6_below (s := s) b22 l22
          have g23_0 := (put6_other (s := s) n22_0).trans g22_0
          have g23_1 := put6_heap (s := s) g22
          refine held_store 7 rfl rfl (by kernel_rfl) rfl (exec_store63 _ t _ g23_0) (put6_below (s := t) b23 l20) ?_
          have b24 := put6_below (s := t) b23 l20
          have g24_0 := put6_heap (s := t) g23_0
          have g24_1 := (put6_other (s := t) n22_0.symm).trans g23_1
          refine wpAnyH_done (by kernel_rfl) ?_ _
          have P : TwoAt U s t _ _ _ := ⟨b24, l22, l20, g24_1, g24_0⟩
          go_wp2_with fail
          go_meet
          exact ⟨_, _, rfl, rfl, P⟩
        · skip
          simp only [Act.put, List.setIfInBounds_toArray, List.set_cons_zero, List.set_cons_succ]
          have b25 := b20.alloc b20.size (.cells #[.string ⟨#[]⟩, .int .i64 0, .string ⟨#[]⟩, .int .i64 0, .string ⟨#[]⟩, .int .i64 0] 59)
          have l25 := b20.size
          have n25_0 := Nat.ne_of_lt (Array.getElem?_eq_some_iff.1 g20).1
          have g25_0 := blk_alloc g20 (.cells #[.string ⟨#[]⟩, .int .i64 0, .string ⟨#[]⟩, .int .i64 0, .string ⟨#[]⟩, .int .i64 0] 59)
          have g25 := heap_new (u1.alloc (.cells #[.string ⟨#[]⟩, .int .i64 0, .string ⟨#[]⟩, .int .i64 0, .string ⟨#[]⟩, .int .i64 0] 59)) (.cells #[.string ⟨#[]⟩, .int .i64 0, .string ⟨#[]⟩, .int .i64 0, .string ⟨#[]⟩, .int .i64 0] 59)
          refine held_call 3 12 38 #[stA t] rfl rfl (by kernel_rfl) rfl (exec_call Try.func38 (by kernel_rfl) (by kernel_rfl) _) ?_
          refine (CT.out _).mono ?_
          rintro e u26 ⟨rfl, x26⟩
          have b26 := b25.trans (x26.mono b25.size)
          have g26_0 := blk_call g25_0 x26
          have g26_1 := blk_call g25 x26
          refine ⟨_, rfl, b26, ?_⟩
          simp only [Act.put, List.setIfInBounds_toArray, List.set_cons_zero, List.set_cons_succ]
          refine held_store 6 rfl rfl (by kernel_rfl) rfl (exec_store63 _ s _ g26_1) (put6_below (s := s) b26 l25) ?_
          have b27 := put6_below (s := s) b26 l25
          have g27_0 := (put6_other (s := s) n25_0).trans g26_0
          have g27_1 := put6_heap (s := s) g26_1
          refine held_store 7 rfl rfl (by kernel_rfl) rfl (exec_store63 _ t _ g27_0) (put6_below (s := t) b27 l20) ?_
          have b28 := put6_below (s := t) b27 l20
          have g28_0 := put6_heap (s := t) g27_0
          have g28_1 := (put6_other (s := t) n25_0.symm).trans g27_1
          refine wpAnyH_done (by kernel_rfl) ?_ _
          have P : TwoAt U s t _ _ _ := ⟨b28, l25, l20, g28_1, g28_0⟩
          go_wp2_with fail
          go_meet
          exact ⟨_, _, rfl, rfl, P⟩
    · skip
      simp only [Act.put, List.setIfInBounds_toArray, List.set_cons_zero, List.set_cons_succ]
      have b29 := b0.alloc b0.size (.cells #[.string ⟨#[]⟩, .int .i64 0, .string ⟨#[]⟩, .int .i64 0, .string ⟨#[]⟩, .int .i64 0] 59)
      have l29 := b0.size
      have g29 := heap_new U.drew (.cells #[.string ⟨#[]⟩, .int .i64 0, .string ⟨#[]⟩, .int .i64 0, .string ⟨#[]⟩, .int .i64 0] 59)
      refine wpAnyH_ready (rs := [1, 5]) (by kernel_rfl) (by simp) (ready_call 1 10 38 #[stA s] rfl rfl rfl (exec_call Try.func38 (by kernel_rfl) (by kernel_rfl) _) ?_ (ready_op 5 6 (.pointer (some ⟨(U.drew.alloc (.cells #[.string ⟨#[]⟩, .int .i64 0, .string ⟨#[]⟩, .int .i64 0, .string ⟨#[]⟩, .int .i64 0] 59)).heap.size, 0, none⟩)) rfl rfl rfl (exec_alloc3 _) (b29.alloc b29.size _) ?_ AllReadyH.nil))
      · skip
        refine (CS.out _).mono ?_
        rintro e u30 ⟨rfl, x30⟩
        have b30 := b29.trans (x30.mono b29.size)
        have g30_0 := blk_call g29 x30
        refine ⟨_, rfl, b30, ?_⟩
        simp only [Act.put, List.setIfInBounds_toArray, List.set_cons_zero, List.set_cons_succ]
        refine wpAnyH_ready (rs := [3, 5]) (by kernel_rfl) (by simp) (ready_call 3 12 38 #[stA t] rfl rfl rfl (exec_call Try.func38 (by kernel_rfl) (by kernel_rfl) _) ?_ (ready_op 5 6 (.pointer (some ⟨u30.heap.size, 0, none⟩)) rfl rfl rfl (exec_alloc3 _) (b30.alloc b30.size _) ?_ AllReadyH.nil))
        · skip
          refine (CT.out _).mono ?_
          rintro e u31 ⟨rfl, x31⟩
          have b31 := b30.trans (x31.mono b30.size)
          have g31_0 := blk_call g30_0 x31
          refine ⟨_, rfl, b31, ?_⟩
          simp only [Act.put, List.setIfInBounds_toArray, List.set_cons_zero, List.set_cons_succ]
          refine held_op 5 6 (.pointer (some ⟨u31.heap.size, 0, none⟩)) rfl rfl (by kernel_rfl) rfl (exec_alloc3 _) (b31.alloc b31.size _) ?_
          simp only [Act.put, List.setIfInBounds_toArray, List.set_cons_zero, List.set_cons_succ]
          have b32 := b31.alloc b31.size (.cells #[.string ⟨#[]⟩, .int .i64 0, .string ⟨#[]⟩, .int .i64 0, .string ⟨#[]⟩, .int .i64 0] 59)
          have l32 := b31.size
          have n32_0 := Nat.ne_of_lt (Array.getElem?_eq_some_iff.1 g31_0).1
          have g32_0 := blk_alloc g31_0 (.cells #[.string ⟨#[]⟩, .int .i64 0, .string ⟨#[]⟩, .int .i64 0, .string ⟨#[]⟩, .int .i64 0] 59)
          have g32 := heap_new u31 (.cells #[.string ⟨#[]⟩, .int .i64 0, .string ⟨#[]⟩, .int .i64 0, .string ⟨#[]⟩, .int .i64 0] 59)
          refine held_store 6 rfl rfl (by kernel_rfl) rfl (exec_store63 _ s _ g32_0) (put6_below (s := s) b32 l29) ?_
          have b33 := put6_below (s := s) b32 l29
          have g33_0 := put6_heap (s := s) g32_0
          have g33_1 := (put6_other (s := s) n32_0.symm).trans g32
          refine held_store 7 rfl rfl (by kernel_rfl) rfl (exec_store63 _ t _ g33_1) (put6_below (s := t) b33 l32) ?_
          have b34 := put6_below (s := t) b33 l32
          have g34_0 := (put6_other (s := t) n32_0).trans g33_0
          have g34_1 := put6_heap (s := t) g33_1
          refine wpAnyH_done (by kernel_rfl) ?_ _
          have P : TwoAt U s t _ _ _ := ⟨b34, l29, l32, g34_0, g34_1⟩
          go_wp2_with fail
          go_meet
          exact ⟨_, _, rfl, rfl, P⟩
        · skip
          simp only [Act.put, List.setIfInBounds_toArray, List.set_cons_zero, List.set_cons_succ]
          have b35 := b30.alloc b30.size (.cells #[.string ⟨#[]⟩, .int .i64 0, .string ⟨#[]⟩, .int .i64 0, .string ⟨#[]⟩, .int .i64 0] 59)
          have l35 := b30.size
          have n35_0 := Nat.ne_of_lt (Array.getElem?_eq_some_iff.1 g30_0).1
          have g35_0 := blk_alloc g30_0 (.cells #[.string ⟨#[]⟩, .int .i64 0, .string ⟨#[]⟩, .int .i64 0, .string ⟨#[]⟩, .int .i64 0] 59)
          have g35 := heap_new u30 (.cells #[.string ⟨#[]⟩, .int .i64 0, .string ⟨#[]⟩, .int .i64 0, .string ⟨#[]⟩, .int .i64 0] 59)
          refine held_call 3 12 38 #[stA t] rfl rfl (by kernel_rfl) rfl (exec_call Try.func38 (by kernel_rfl) (by kernel_rfl) _) ?_
          refine (CT.out _).mono ?_
          rintro e u36 ⟨rfl, x36⟩
          have b36 := b35.trans (x36.mono b35.size)
          have g36_0 := blk_call g35_0 x36
          have g36_1 := blk_call g35 x36
          refine ⟨_, rfl, b36, ?_⟩
          simp only [Act.put, List.setIfInBounds_toArray, List.set_cons_zero, List.set_cons_succ]
          refine held_store 6 rfl rfl (by kernel_rfl) rfl (exec_store63 _ s _ g36_0) (put6_below (s := s) b36 l29) ?_
          have b37 := put6_below (s := s) b36 l29
          have g37_0 := put6_heap (s := s) g36_0
          have g37_1 := (put6_other (s := s) n35_0.symm).trans g36_1
          refine held_store 7 rfl rfl (by kernel_rfl) rfl (exec_store63 _ t _ g37_1) (put6_below (s := t) b37 l35) ?_
          have b38 := put6_below (s := t) b37 l35
          have g38_0 := (put6_other (s := t) n35_0).trans g37_0
          have g38_1 := put6_heap (s := t) g37_1
          refine wpAnyH_done (by kernel_rfl) ?_ _
          have P : TwoAt U s t _ _ _ := ⟨b38, l29, l35, g38_0, g38_1⟩
          go_wp2_with fail
          go_meet
          exact ⟨_, _, rfl, rfl, P⟩
      · skip
        simp only [Act.put, List.setIfInBounds_toArray, List.set_cons_zero, List.set_cons_succ]
        have b39 := b29.alloc b29.size (.cells #[.string ⟨#[]⟩, .int .i64 0, .string ⟨#[]⟩, .int .i64 0, .string ⟨#[]⟩, .int .i64 0] 59)
        have l39 := b29.size
        have n39_0 := Nat.ne_of_lt (Array.getElem?_eq_some_iff.1 g29).1
        have g39_0 := blk_alloc g29 (.cells #[.string ⟨#[]⟩, .int .i64 0, .string ⟨#[]⟩, .int .i64 0, .string ⟨#[]⟩, .int .i64 0] 59)
        have g39 := heap_new (U.drew.alloc (.cells #[.string ⟨#[]⟩, .int .i64 0, .string ⟨#[]⟩, .int .i64 0, .string ⟨#[]⟩, .int .i64 0] 59)) (.cells #[.string ⟨#[]⟩, .int .i64 0, .string ⟨#[]⟩, .int .i64 0, .string ⟨#[]⟩, .int .i64 0] 59)
        refine held_call 1 10 38 #[stA s] rfl rfl (by kernel_rfl) rfl (exec_call Try.func38 (by kernel_rfl) (by kernel_rfl) _) ?_
        refine (CS.out _).mono ?_
        rintro e u40 ⟨rfl, x40⟩
        have b40 := b39.trans (x40.mono b39.size)
        have g40_0 := blk_call g39_0 x40
        have g40_1 := blk_call g39 x40
        refine ⟨_, rfl, b40, ?_⟩
        simp only [Act.put, List.setIfInBounds_toArray, List.set_cons_zero, List.set_cons_succ]
        refine held_call 3 12 38 #[stA t] rfl rfl (by kernel_rfl) rfl (exec_call Try.func38 (by kernel_rfl) (by kernel_rfl) _) ?_
        refine (CT.out _).mono ?_
        rintro e u41 ⟨rfl, x41⟩
        have b41 := b40.trans (x41.mono b40.size)
        have g41_0 := blk_call g40_0 x41
        have g41_1 := blk_call g40_1 x41
        refine ⟨_, rfl, b41, ?_⟩
        simp only [Act.put, List.setIfInBounds_toArray, List.set_cons_zero, List.set_cons_succ]
        refine held_store 6 rfl rfl (by kernel_rfl) rfl (exec_store63 _ s _ g41_0) (put6_below (s := s) b41 l29) ?_
        have b42 := put6_below (s := s) b41 l29
        have g42_0 := put6_heap (s := s) g41_0
        have g42_1 := (put6_other (s := s) n39_0.symm).trans g41_1
        refine held_store 7 rfl rfl (by kernel_rfl) rfl (exec_store63 _ t _ g42_1) (put6_below (s := t) b42 l39) ?_
        have b43 := put6_below (s := t) b42 l39
        have g43_0 := (put6_other (s := t) n39_0).trans g42_0
        have g43_1 := put6_heap (s := t) g42_1
        refine wpAnyH_done (by kernel_rfl) ?_ _
        have P : TwoAt U s t _ _ _ := ⟨b43, l29, l39, g43_0, g43_1⟩
        go_wp2_with fail
        go_meet
        exact ⟨_, _, rfl, rfl, P⟩
    · skip
      simp only [Act.put, List.setIfInBounds_toArray, List.set_cons_zero, List.set_cons_succ]
      have b44 := b0.alloc b0.size (.cells #[.string ⟨#[]⟩, .int .i64 0, .string ⟨#[]⟩, .int .i64 0, .string ⟨#[]⟩, .int .i64 0] 59)
      have l44 := b0.size
      have g44 := heap_new U.drew (.cells #[.string ⟨#[]⟩, .int .i64 0, .string ⟨#[]⟩, .int .i64 0, .string ⟨#[]⟩, .int .i64 0] 59)
      refine wpAnyH_ready (rs := [1, 4]) (by kernel_rfl) (by simp) (ready_call 1 10 38 #[stA s] rfl rfl rfl (exec_call Try.func38 (by kernel_rfl) (by kernel_rfl) _) ?_ (ready_op 4 5 (.pointer (some ⟨(U.drew.alloc (.cells #[.string ⟨#[]⟩, .int .i64 0, .string ⟨#[]⟩, .int .i64 0, .string ⟨#[]⟩, .int .i64 0] 59)).heap.size, 0, none⟩)) rfl rfl rfl (exec_alloc3 _) (b44.alloc b44.size _) ?_ AllReadyH.nil))
      · skip
        refine (CS.out _).mono ?_
        rintro e u45 ⟨rfl, x45⟩
        have b45 := b44.trans (x45.mono b44.size)
        have g45_0 := blk_call g44 x45
        refine ⟨_, rfl, b45, ?_⟩
        simp only [Act.put, List.setIfInBounds_toArray, List.set_cons_zero, List.set_cons_succ]
        refine wpAnyH_ready (rs := [3, 4]) (by kernel_rfl) (by simp) (ready_call 3 12 38 #[stA t] rfl rfl rfl (exec_call Try.func38 (by kernel_rfl) (by kernel_rfl) _) ?_ (ready_op 4 5 (.pointer (some ⟨u45.heap.size, 0, none⟩)) rfl rfl rfl (exec_alloc3 _) (b45.alloc b45.size _) ?_ AllReadyH.nil))
        · skip
          refine (CT.out _).mono ?_
          rintro e u46 ⟨rfl, x46⟩
          have b46 := b45.trans (x46.mono b45.size)
          have g46_0 := blk_call g45_0 x46
          refine ⟨_, rfl, b46, ?_⟩
          simp only [Act.put, List.setIfInBounds_toArray, List.set_cons_zero, List.set_cons_succ]
          refine held_op 4 5 (.pointer (some ⟨u46.heap.size, 0, none⟩)) rfl rfl (by kernel_rfl) rfl (exec_alloc3 _) (b46.alloc b46.size _) ?_
          simp only [Act.put, List.setIfInBounds_toArray, List.set_cons_zero, List.set_cons_succ]
          have b47 := b46.alloc b46.size (.cells #[.string ⟨#[]⟩, .int .i64 0, .string ⟨#[]⟩, .int .i64 0, .string ⟨#[]⟩, .int .i64 0] 59)
          have l47 := b46.size
          have n47_0 := Nat.ne_of_lt (Array.getElem?_eq_some_iff.1 g46_0).1
          have g47_0 := blk_alloc g46_0 (.cells #[.string ⟨#[]⟩, .int .i64 0, .string ⟨#[]⟩, .int .i64 0, .string ⟨#[]⟩, .int .i64 0] 59)
          have g47 := heap_new u46 (.cells #[.string ⟨#[]⟩, .int .i64 0, .string ⟨#[]⟩, .int .i64 0, .string ⟨#[]⟩, .int .i64 0] 59)
          refine held_store 6 rfl rfl (by kernel_rfl) rfl (exec_store63 _ s _ g47) (put6_below (s := s) b47 l47) ?_
          have b48 := put6_below (s := s) b47 l47
          have g48_0 := (put6_other (s := s) n47_0).trans g47_0
          have g48_1 := put6_heap (s := s) g47
          refine held_store 7 rfl rfl (by kernel_rfl) rfl (exec_store63 _ t _ g48_0) (put6_below (s := t) b48 l44) ?_
          have b49 := put6_below (s := t) b48 l44
          have g49_0 := put6_heap (s := t) g48_0
          have g49_1 := (put6_other (s := t) n47_0.symm).trans g48_1
          refine wpAnyH_done (by kernel_rfl) ?_ _
          have P : TwoAt U s t _ _ _ := ⟨b49, l47, l44, g49_1, g49_0⟩
          go_wp2_with fail
          go_meet
          exact ⟨_, _, rfl, rfl, P⟩
        · skip
          simp only [Act.put, List.setIfInBounds_toArray, List.set_cons_zero, List.set_cons_succ]
          have b50 := b45.alloc b45.size (.cells #[.string ⟨#[]⟩, .int .i64 0, .string ⟨#[]⟩, .int .i64 0, .string ⟨#[]⟩, .int .i64 0] 59)
          have l50 := b45.size
          have n50_0 := Nat.ne_of_lt (Array.getElem?_eq_some_iff.1 g45_0).1
          have g50_0 := blk_alloc g45_0 (.cells #[.string ⟨#[]⟩, .int .i64 0, .string ⟨#[]⟩, .int .i64 0, .string ⟨#[]⟩, .int .i64 0] 59)
          have g50 := heap_new u45 (.cells #[.string ⟨#[]⟩, .int .i64 0, .string ⟨#[]⟩, .int .i64 0, .string ⟨#[]⟩, .int .i64 0] 59)
          refine held_call 3 12 38 #[stA t] rfl rfl (by kernel_rfl) rfl (exec_call Try.func38 (by kernel_rfl) (by kernel_rfl) _) ?_
          refine (CT.out _).mono ?_
          rintro e u51 ⟨rfl, x51⟩
          have b51 := b50.trans (x51.mono b50.size)
          have g51_0 := blk_call g50_0 x51
          have g51_1 := blk_call g50 x51
          refine ⟨_, rfl, b51, ?_⟩
          simp only [Act.put, List.setIfInBounds_toArray, List.set_cons_zero, List.set_cons_succ]
          refine held_store 6 rfl rfl (by kernel_rfl) rfl (exec_store63 _ s _ g51_1) (put6_below (s := s) b51 l50) ?_
          have b52 := put6_below (s := s) b51 l50
          have g52_0 := (put6_other (s := s) n50_0).trans g51_0
          have g52_1 := put6_heap (s := s) g51_1
          refine held_store 7 rfl rfl (by kernel_rfl) rfl (exec_store63 _ t _ g52_0) (put6_below (s := t) b52 l44) ?_
          have b53 := put6_below (s := t) b52 l44
          have g53_0 := put6_heap (s := t) g52_0
          have g53_1 := (put6_other (s := t) n50_0.symm).trans g52_1
          refine wpAnyH_done (by kernel_rfl) ?_ _
          have P : TwoAt U s t _ _ _ := ⟨b53, l50, l44, g53_1, g53_0⟩
          go_wp2_with fail
          go_meet
          exact ⟨_, _, rfl, rfl, P⟩
      · skip
        simp only [Act.put, List.setIfInBounds_toArray, List.set_cons_zero, List.set_cons_succ]
        have b54 := b44.alloc b44.size (.cells #[.string ⟨#[]⟩, .int .i64 0, .string ⟨#[]⟩, .int .i64 0, .string ⟨#[]⟩, .int .i64 0] 59)
        have l54 := b44.size
        have n54_0 := Nat.ne_of_lt (Array.getElem?_eq_some_iff.1 g44).1
        have g54_0 := blk_alloc g44 (.cells #[.string ⟨#[]⟩, .int .i64 0, .string ⟨#[]⟩, .int .i64 0, .string ⟨#[]⟩, .int .i64 0] 59)
        have g54 := heap_new (U.drew.alloc (.cells #[.string ⟨#[]⟩, .int .i64 0, .string ⟨#[]⟩, .int .i64 0, .string ⟨#[]⟩, .int .i64 0] 59)) (.cells #[.string ⟨#[]⟩, .int .i64 0, .string ⟨#[]⟩, .int .i64 0, .string ⟨#[]⟩, .int .i64 0] 59)
        refine held_call 1 10 38 #[stA s] rfl rfl (by kernel_rfl) rfl (exec_call Try.func38 (by kernel_rfl) (by kernel_rfl) _) ?_
        refine (CS.out _).mono ?_
        rintro e u55 ⟨rfl, x55⟩
        have b55 := b54.trans (x55.mono b54.size)
        have g55_0 := blk_call g54_0 x55
        have g55_1 := blk_call g54 x55
        refine ⟨_, rfl, b55, ?_⟩
        simp only [Act.put, List.setIfInBounds_toArray, List.set_cons_zero, List.set_cons_succ]
        refine held_call 3 12 38 #[stA t] rfl rfl (by kernel_rfl) rfl (exec_call Try.func38 (by kernel_rfl) (by kernel_rfl) _) ?_
        refine (CT.out _).mono ?_
        rintro e u56 ⟨rfl, x56⟩
        have b56 := b55.trans (x56.mono b55.size)
        have g56_0 := blk_call g55_0 x56
        have g56_1 := blk_call g55_1 x56
        refine ⟨_, rfl, b56, ?_⟩
        simp only [Act.put, List.setIfInBounds_toArray, List.set_cons_zero, List.set_cons_succ]
        refine held_store 6 rfl rfl (by kernel_rfl) rfl (exec_store63 _ s _ g56_1) (put6_below (s := s) b56 l54) ?_
        have b57 := put6_below (s := s) b56 l54
        have g57_0 := (put6_other (s := s) n54_0).trans g56_0
        have g57_1 := put6_heap (s := s) g56_1
        refine held_store 7 rfl rfl (by kernel_rfl) rfl (exec_store63 _ t _ g57_0) (put6_below (s := t) b57 l44) ?_
        have b58 := put6_below (s := t) b57 l44
        have g58_0 := put6_heap (s := t) g57_0
        have g58_1 := (put6_other (s := t) n54_0.symm).trans g57_1
        refine wpAnyH_done (by kernel_rfl) ?_ _
        have P : TwoAt U s t _ _ _ := ⟨b58, l54, l44, g58_1, g58_0⟩
        go_wp2_with fail
        go_meet
        exact ⟨_, _, rfl, rfl, P⟩
  case rest =>
    obtain ⟨g, h, rfl, rfl, hB, hg, hh, hGs, hHt⟩ := hcut
    have hg2 := (Array.getElem?_eq_some_iff.1 hGs).1
    have hh2 := (Array.getElem?_eq_some_iff.1 hHt).1
    have P : CouldAt U s t g h wc.heap.size 0 (wc.alloc (.cells #[.int .i64 0, .int .i64 0, .int .i64 0] 62)) := ⟨hB.alloc hB.size _, blk_alloc hGs _, blk_alloc hHt _, heap_new _ _⟩
    have hK := hB.size
    clear CS CT hB hGs hHt
    go_wp2_with fail
    generalize hV : wc.alloc (.cells #[.int .i64 0, .int .i64 0, .int .i64 0] 62) = V at *
    clear hV
    generalize wc.heap.size = K at *
    go_loopw [13] (fun vi wr => ∃ i : Nat, i ≤ 3 ∧ vi = .int .i64 i ∧ CouldAt U s t g h K i wr) (fun vi _ => 3 - (intOf vi).toNat)
    case atStart => exact ⟨0, by omega, rfl, P⟩
    case round =>
      obtain ⟨i, hi3, rfl, hB, hGs, hHt, hKk⟩ := hrel
      clear P
      by_cases hlt : i < 3
      · have KG : Hid (∀ w' : World, w'.heap[g]? = some (.cells #[.string s.log.data, .int .i64 s.log.safe, .string s.even.data, .int .i64 s.even.safe, .string s.odd.data, .int .i64 s.odd.safe] 59 (0, 0)) → w'.cell? ⟨g, 2 * i + 1, none⟩ = some (.int .i64 (stAt s i).safe)) := fun w' h => (cell_of_row _ _ _ _ _ _ h).trans (st_at s i hlt).2
        have KH : Hid (∀ w' : World, w'.heap[h]? = some (.cells #[.string t.log.data, .int .i64 t.log.safe, .string t.even.data, .int .i64 t.even.safe, .string t.odd.data, .int .i64 t.odd.safe] 59 (0, 0)) → w'.cell? ⟨h, 2 * i + 0, none⟩ = some (.string (stAt t i).data)) := fun w' h => (cell_of_row _ _ _ _ _ _ h).trans (st_at t i hlt).1
        obtain ⟨u, hu⟩ : ∃ u, wr.cell? ⟨K, i, none⟩ = some u := by
          rcases three hlt with rfl | rfl | rfl <;> exact ⟨_, cell_of_row _ _ _ _ _ _ hKk⟩
        have hz := frozen_of_row _ _ i _ _ hKk
        have HKi := Lib.hid hKk
        clear hKk
        have hne1 : g ≠ K := by omega
        have hne2 : h ≠ K := by omega
        go_wp2_with fail
        refine wp_region_held_drew (S := fun w' => Hid (Below U.heap.size U w' ∧ w'.heap[g]? = some (.cells #[.string s.log.data, .int .i64 s.log.safe, .string s.even.data, .int .i64 s.even.safe, .string s.odd.data, .int .i64 s.odd.safe] 59 (0, 0)) ∧ w'.heap[h]? = some (.cells #[.string t.log.data, .int .i64 t.log.safe, .string t.even.data, .int .i64 t.even.safe, .string t.odd.data, .int .i64 t.odd.safe] 59 (0, 0)))) (by kernel_rfl) ⟨below_drawn hB 1, hGs, hHt⟩ (fun hHeld => ?_)
        refine held_take 0 16 (.int .i64 (i : Int)) rfl rfl (by kernel_rfl) (by kernel_rfl) (by kernel_rfl) (fun _ _ _ h => h) rfl hHeld (fun w _ => rfl) ?_
        refine held_take 1 17 (.int .i64 (i : Int)) rfl rfl (by kernel_rfl) (by kernel_rfl) (by kernel_rfl) (fun _ _ _ h => h) rfl hHeld (fun w _ => rfl) ?_
        refine held_take 2 18 (.pointer (some ⟨h, 2 * i, none⟩)) rfl rfl (by kernel_rfl) (by kernel_rfl) (by kernel_rfl) (fun _ _ _ h => h) rfl hHeld (fun w _ => exec_idx3 _ _ w hlt) ?_
        simp only [Act.put, List.setIfInBounds_toArray, List.set_cons_zero, List.set_cons_succ]
        refine held_take 3 19 (.pointer (some ⟨h, 2 * i + 0, none⟩)) rfl rfl (by kernel_rfl) (by kernel_rfl) (by kernel_rfl) (fun _ _ _ h => h) rfl hHeld (fun w _ => exec_fldAo _ _ 0 w (by simp)) ?_
        refine held_take 4 20 (.string (stAt t i).data) rfl rfl (by kernel_rfl) (by kernel_rfl) (by kernel_rfl) (fun _ _ _ h => h) rfl hHeld (fun w hS => exec_load1 9 _ _ _ w (by simp) (KH.out w hS.out.2.2)) ?_
        refine held_take 5 21 (.int .i64 ((stAt t i).data.size : Int)) rfl rfl (by kernel_rfl) (by kernel_rfl) (by kernel_rfl) (fun _ _ _ h => h) rfl hHeld (fun w _ => exec_lenS _ w) ?_
        simp only [Act.put, List.setIfInBounds_toArray, List.set_cons_zero, List.set_cons_succ]
        refine held_take 6 22 (.int .i64 (i : Int)) rfl rfl (by kernel_rfl) (by kernel_rfl) (by kernel_rfl) (fun _ _ _ h => h) rfl hHeld (fun w _ => rfl) ?_
        refine held_take 7 23 (.pointer (some ⟨g, 2 * i, none⟩)) rfl rfl (by kernel_rfl) (by kernel_rfl) (by kernel_rfl) (fun _ _ _ h => h) rfl hHeld (fun w _ => exec_idx3 _ _ w hlt) ?_
        refine held_take 8 24 (.pointer (some ⟨g, 2 * i + 1, none⟩)) rfl rfl (by kernel_rfl) (by kernel_rfl) (by kernel_rfl) (fun _ _ _ h => h) rfl hHeld (fun w _ => exec_fldAo _ _ 1 w (by simp)) ?_
        simp only [Act.put, List.setIfInBounds_toArray, List.set_cons_zero, List.set_cons_succ]
        refine held_take 9 25 (.int .i64 (stAt s i).safe) rfl rfl (by kernel_rfl) (by kernel_rfl) (by kernel_rfl) (fun _ _ _ h => h) rfl hHeld (fun w hS => exec_load1 3 _ _ _ w (by simp) (KG.out w hS.out.2.1)) ?_
        refine held_take 10 26 (.int .i64 (IntKind.i64.wrap ((stAt t i).data.size - (stAt s i).safe))) rfl rfl (by kernel_rfl) (by kernel_rfl) (by kernel_rfl) (fun _ _ _ h => h) rfl hHeld (fun w _ => exec_subW _ _ w) ?_
        simp only [Act.put, List.setIfInBounds_toArray, List.set_cons_zero, List.set_cons_succ]
        refine held_op 11 27 (.pointer (some ⟨K, i, none⟩)) rfl rfl (by kernel_rfl) rfl (exec_idx3I _ _ _ hlt) hHeld.out ?_
        simp only [Act.put, List.setIfInBounds_toArray, List.set_cons_zero, List.set_cons_succ]
        have b1 : Below U.heap.size U (wr.drew.setCell ⟨K, i, none⟩ (.int .i64 (IntKind.i64.wrap ((stAt t i).data.size - (stAt s i).safe)))) := hHeld.out.1.setCell hK _
        have g1 : (wr.drew.setCell ⟨K, i, none⟩ (.int .i64 (IntKind.i64.wrap ((stAt t i).data.size - (stAt s i).safe)))).heap[g]? = some (.cells #[.string s.log.data, .int .i64 s.log.safe, .string s.even.data, .int .i64 s.even.safe, .string s.odd.data, .int .i64 s.odd.safe] 59 (0, 0)) := (Below.heap_setCell _ _ _ _ (by simpa using hne1)).trans hGs
        have h1 : (wr.drew.setCell ⟨K, i, none⟩ (.int .i64 (IntKind.i64.wrap ((stAt t i).data.size - (stAt s i).safe)))).heap[h]? = some (.cells #[.string t.log.data, .int .i64 t.log.safe, .string t.even.data, .int .i64 t.even.safe, .string t.odd.data, .int .i64 t.odd.safe] 59 (0, 0)) := (Below.heap_setCell _ _ _ _ (by simpa using hne2)).trans hHt
        have k1 : (wr.drew.setCell ⟨K, i, none⟩ (.int .i64 (IntKind.i64.wrap ((stAt t i).data.size - (stAt s i).safe)))).heap[K]? = some (.cells #[.int .i64 (keptI s t (i + 1) 0), .int .i64 (keptI s t (i + 1) 1), .int .i64 (keptI s t (i + 1) 2)] 62 (0, 0)) := by
          rw [← kept_set s t i hlt]
          exact Go.heap_setCell_same _ _ _ _ _ _ HKi.out
        refine held_store 12 rfl rfl (by kernel_rfl) rfl (exec_storeI 3 K i .i64 (IntKind.i64.wrap ((stAt t i).data.size - (stAt s i).safe)) u _ (.inl rfl) hu hz) ⟨b1, g1, h1⟩ ?_
        refine wpAnyH_done (by kernel_rfl) ?_ _
        have P : CouldAt U s t g h K (i + 1) _ := ⟨b1, g1, h1, k1⟩
        clear hHeld b1 g1 h1 k1 KG KH HKi hB hGs hHt hu hz CF KI KK
        generalize wr.drew.setCell ⟨K, i, none⟩ (.int .i64 (IntKind.i64.wrap ((stAt t i).data.size - (stAt s i).safe))) = V2 at *
        generalize IntKind.i64.wrap ((stAt t i).data.size - (stAt s i).safe) = z at *
        generalize (stAt s i).safe = z1 at *
        generalize (stAt t i).data = z2 at *
        go_wp2
        go_roundw
        case rel => exact ⟨i + 1, by omega, by go_num, P⟩
        case measure => simp [intOf]; omega
      · obtain rfl : i = 3 := by omega
        have hR : Rws wr.drew wr.drew.heap.size (some ⟨K, 0, none⟩) (ints [keptI s t 3 0, keptI s t 3 1, keptI s t 3 2]) := by
          refine .inr ⟨K, 0, rfl, (Array.getElem?_eq_some_iff.1 hKk).1, fun k hk => ?_⟩
          have hk : k < 3 := hk
          rcases three hk with rfl | rfl | rfl <;> exact cell_of_row _ _ _ _ _ _ hKk
        have HR := Lib.hid hR
        clear hR
        go_wp2_with fail
        refine wp_region_held_drew (S := fun w' => Hid (Below U.heap.size U w')) (by kernel_rfl) (below_drawn hB 1) (fun hHeld => ?_)
        refine held_take 0 29 (stA s) rfl rfl (by kernel_rfl) (by kernel_rfl) (by kernel_rfl) (fun _ _ _ h => h) rfl hHeld (fun w hS => exec_loadI2 _ s w (KS.out w hS.out)) ?_
        refine held_take 1 30 (.slice (some ⟨K, 0, none⟩) 3 3) rfl rfl (by kernel_rfl) (by kernel_rfl) (by kernel_rfl) (fun _ _ _ h => h) rfl hHeld (fun w _ => exec_slice3 _ w) ?_
        refine held_take 3 32 (stA t) rfl rfl (by kernel_rfl) (by kernel_rfl) (by kernel_rfl) (fun _ _ _ h => h) rfl hHeld (fun w hS => exec_loadI2 _ t w (KT.out w hS.out)) ?_
        simp only [Act.put, List.setIfInBounds_toArray, List.set_cons_zero, List.set_cons_succ]
        refine held_call 2 31 12 #[stA s, .slice (some ⟨K, 0, none⟩) 3 3] rfl rfl (by kernel_rfl) rfl (exec_call Try.func12 (by kernel_rfl) (by kernel_rfl) _) ?_
        refine (CF.out _ _ KI.out HR.out).mono ?_
        rintro e w9 ⟨rfl, x⟩
        have b9 := hHeld.out.trans (x.mono hHeld.out.size)
        refine ⟨_, rfl, b9, ?_⟩
        simp only [Act.put, List.setIfInBounds_toArray, List.set_cons_zero, List.set_cons_succ]
        obtain ⟨d, hd⟩ : ∃ d, decide (couldS s t) = d := ⟨_, rfl⟩
        have hd2 : d = true ↔ fallS s [keptI s t 3 0, keptI s t 3 1, keptI s t 3 2] = t := by rw [KK.out, ← hd, decide_eq_true_eq]
        have HD2 := Lib.hid hd2
        have HD := Lib.hid hd
        clear hd hd2
        refine held_op 4 33 (.bool d) rfl rfl (by kernel_rfl) rfl (exec_eqSS _ _ _ _ HD2.out) b9 ?_
        simp only [Act.put, List.setIfInBounds_toArray, List.set_cons_zero, List.set_cons_succ]
        refine held_op 5 4 (.bool d) rfl rfl (by kernel_rfl) rfl rfl b9 ?_
        simp only [Act.put, List.setIfInBounds_toArray, List.set_cons_zero, List.set_cons_succ]
        refine wpAnyH_done (by kernel_rfl) ?_ _
        have H9 := Lib.hid (HB.out.trans (b9.mono HB.out.size))
        clear b9 x hHeld hB hGs hHt hKk HR KI KK CF HD2 KS KT
        generalize fallS s [keptI s t 3 0, keptI s t 3 1, keptI s t 3 2] = Y at *
        unfold stA
        go_wp2
        go_ret
        exact ⟨by rw [HD.out] <;> rfl, H9.out⟩
set_option maxRecDepth 100000 in
set_option maxHeartbeats 1600000 in
theorem lost_impl (s t : St) (w : World) (hg : s.go) (hg2 : t.go) (hs : lenS s ≤ 2097152) (ht : lenS t ≤ 2097152) : Calls Try.prog 15 #[stA s, stA t] w fun e w' => e = .returned (.int .i64 (lostS s t)) ∧ Below w.heap.size w w' := by
  have CC := Lib.hid (fun w => could_impl s t w hg hg2)
  have CS : Hid (∀ w, Calls Try.prog 41 #[stA s] w fun e w' => e = .returned (.int .i64 (lenS s : Int)) ∧ Below w.heap.size w w') := fun w => storeLen_impl s w (by unfold lenS at hs; omega)
  have CT : Hid (∀ w, Calls Try.prog 41 #[stA t] w fun e w' => e = .returned (.int .i64 (lenS t : Int)) ∧ Below w.heap.size w w') := fun w => storeLen_impl t w (by unfold lenS at ht; omega)
  obtain ⟨U, HU, bU, hS, hT⟩ := could_boxes w s t
  have cs0 := hS U (Below.refl _ _)
  have ct0 := hT U (Below.refl _ _)
  have c0 := cell_of_row _ _ 0 _ _ _ cs0
  have d0 := cell_of_row _ _ 0 _ _ _ ct0
  have c1 := cell_of_row _ _ 1 _ _ _ cs0
  have d1 := cell_of_row _ _ 1 _ _ _ ct0
  have c2 := cell_of_row _ _ 2 _ _ _ cs0
  have d2 := cell_of_row _ _ 2 _ _ _ ct0
  have c3 := cell_of_row _ _ 3 _ _ _ cs0
  have d3 := cell_of_row _ _ 3 _ _ _ ct0
  have c4 := cell_of_row _ _ 4 _ _ _ cs0
  have d4 := cell_of_row _ _ 4 _ _ _ ct0
  have c5 := cell_of_row _ _ 5 _ _ _ cs0
  have d5 := cell_of_row _ _ 5 _ _ _ ct0
  simp at c0 c1 c2 c3 c4 c5 d0 d1 d2 d3 d4 d5
  have KS := Lib.hid hS
  have KT := Lib.hid hT
  clear hS hT hg hg2 cs0 ct0
  have es : Hid (stA s = .agg #[.string s.log.data, .int .i64 s.log.safe, .string s.even.data, .int .i64 s.even.safe, .string s.odd.data, .int .i64 s.odd.safe]) := rfl
  have et : Hid (stA t = .agg #[.string t.log.data, .int .i64 t.log.safe, .string t.even.data, .int .i64 t.even.safe, .string t.odd.data, .int .i64 t.odd.safe]) := rfl
  rw [es.out, et.out] at CC ⊢
  have HB := Lib.hid bU
  clear bU es et
  by_cases h : couldS s t
  · have HX : Hid (lostS s t = (lenS s : Int) - lenS t) := by show _ = _; unfold lostS; rw [if_pos h]
    simp only [h, decide_true] at CC
    generalize lostS s t = X at *
    clear h
    go_enter Try.func15, Try.ntmps15
    go_wp2_with fail
    rw [HU.out]
    clear HU
    refine (CC.out _).mono ?_
    rintro e w2 ⟨rfl, bV⟩
    clear CC c0 c1 c2 c3 c4 c5 d0 d1 d2 d3 d4 d5
    go_wp2_with fail
    refine wp_region_held_drew (S := fun w' => Hid (Below U.heap.size U w')) (by kernel_rfl) (below_drawn bV 1) (fun hHeld => ?_)
    refine held_take 0 9 (stA s) rfl rfl (by kernel_rfl) (by kernel_rfl) (by kernel_rfl) (fun _ _ _ h => h) rfl hHeld (fun w hS => exec_loadI2 _ s w (KS.out w hS.out)) ?_
    refine held_take 2 11 (stA t) rfl rfl (by kernel_rfl) (by kernel_rfl) (by kernel_rfl) (fun _ _ _ h => h) rfl hHeld (fun w hS => exec_loadI2 _ t w (KT.out w hS.out)) ?_
    simp only [Act.put, List.setIfInBounds_toArray, List.set_cons_zero, List.set_cons_succ]
    refine held_call 1 10 41 #[stA s] rfl rfl (by kernel_rfl) rfl (exec_call Try.func41 (by kernel_rfl) (by kernel_rfl) _) ?_
    refine (CS.out _).mono ?_
    rintro e w3 ⟨rfl, x3⟩
    have b3 := hHeld.out.trans (x3.mono hHeld.out.size)
    refine ⟨_, rfl, b3, ?_⟩
    simp only [Act.put, List.setIfInBounds_toArray, List.set_cons_zero, List.set_cons_succ]
    refine held_call 3 12 41 #[stA t] rfl rfl (by kernel_rfl) rfl (exec_call Try.func41 (by kernel_rfl) (by kernel_rfl) _) ?_
    refine (CT.out _).mono ?_
    rintro e w4 ⟨rfl, x4⟩
    have b4 := b3.trans (x4.mono b3.size)
    refine ⟨_, rfl, b4, ?_⟩
    simp only [Act.put, List.setIfInBounds_toArray, List.set_cons_zero, List.set_cons_succ]
    refine held_op 4 13 (.int .i64 ((lenS s : Int) - lenS t)) rfl rfl (by kernel_rfl) rfl (exec_subI _ _ _ _ rfl (by omega) (by omega)) b4 ?_
    simp only [Act.put, List.setIfInBounds_toArray, List.set_cons_zero, List.set_cons_succ]
    refine held_op 5 4 (.int .i64 ((lenS s : Int) - lenS t)) rfl rfl (by kernel_rfl) rfl rfl b4 ?_
    simp only [Act.put, List.setIfInBounds_toArray, List.set_cons_zero, List.set_cons_succ]
    refine wpAnyH_done (by kernel_rfl) ?_ _
    have H9 := Lib.hid (HB.out.trans (b4.mono HB.out.size))
    clear b4 b3 x3 x4 hHeld bV HB KS KT CS CT
    unfold stA
    generalize (lenS s : Int) = z1 at *
    generalize (lenS t : Int) = z2 at *
    go_wp2
    go_ret
    exact ⟨by rw [HX.out] <;> rfl, H9.out⟩
  · have HX : Hid (lostS s t = 0) := by show _ = _; unfold lostS; rw [if_neg h]
    simp only [h, decide_false] at CC
    generalize lostS s t = X at *
    clear h
    go_enter Try.func15, Try.ntmps15
    go_wp2_with fail
    rw [HU.out]
    clear HU
    refine (CC.out _).mono ?_
    rintro e w2 ⟨rfl, bV⟩
    clear CC c0 c1 c2 c3 c4 c5 d0 d1 d2 d3 d4 d5 KS KT CS CT
    have H9 := Lib.hid (HB.out.trans (bV.mono HB.out.size))
    go_wp2
    go_ret
    exact ⟨by rw [HX.out] <;> rfl, H9.out⟩
end Go.Proofs.Ytcapioiigfldoaa
