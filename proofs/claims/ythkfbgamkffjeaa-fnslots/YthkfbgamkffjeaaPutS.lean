/- The walk of the law FnExactPutSlot. -/
import Derived.Test.YthkfbgamkffjeaaRows
import Derived.Test.YthkfbgamkffjeaaStL
import Derived.Deep.DeepCutAuto
namespace Go.Proofs.Ythkfbgamkffjeaa
open Go.RowKit
set_option linter.unusedSimpArgs false
set_option linter.unusedVariables false
set_option maxRecDepth 100000 in
theorem exec_loadSt {ρ : Operand → Value} {o : Oper} {x : Operand} (b : Nat) (s : St) (w : World) (h : ∀ k v, (#[.string s.log.data, .int .i64 s.log.safe, .string s.even.data, .int .i64 s.even.safe, .string s.odd.data, .int .i64 s.odd.safe] : Array Value)[k]? = some v → w.cell? ⟨b, k, none⟩ = some v) (ho : o.op = .load 48 x := by rfl) (hx : ρ x = .pointer (some ⟨b, 0, none⟩) := by rfl) :
    (execOp ρ o).run Try.prog w = .ok (.value (stA s)) w := by
  have h0 := h 0 _ rfl
  have h1 := h 1 _ rfl
  have h2 := h 2 _ rfl
  have h3 := h 3 _ rfl
  have h4 := h 4 _ rfl
  have h5 := h 5 _ rfl
  unfold execOp
  rw [ho]
  simp [go_sem, hx, h0, h1, h2, h3, h4, h5, stA]
set_option maxRecDepth 100000 in
theorem exec_loadL {ρ : Operand → Value} {o : Oper} {x : Operand} (b : Nat) (a : Ar) (w : World) (h : ∀ k v, (#[.string a.data, .int .i64 a.safe] : Array Value)[k]? = some v → w.cell? ⟨b, k, none⟩ = some v) (ho : o.op = .load 39 x := by rfl) (hx : ρ x = .pointer (some ⟨b, 0, none⟩) := by rfl) :
    (execOp ρ o).run Try.prog w = .ok (.value (arA a)) w := by
  have h0 := h 0 _ rfl
  have h1 := h 1 _ rfl
  unfold execOp
  rw [ho]
  simp [go_sem, hx, h0, h1, arA]
set_option maxRecDepth 100000 in
theorem exec_allocS {ρ : Operand → Value} {o : Oper} (w : World) (ho : o.op = .alloc 33 := by rfl) :
    (execOp ρ o).run Try.prog w = .ok (.value (.pointer (some ⟨w.heap.size, 0, none⟩))) (w.alloc (.cells #[.string ⟨#[]⟩, .int .i64 0, .string ⟨#[]⟩, .int .i64 0, .string ⟨#[]⟩, .int .i64 0] 33)) := by
  unfold execOp
  rw [ho]
  simp [go_sem]
/-- A store laid into a block of six cells. -/
def put6 (w : World) (g : Nat) (s : St) : World :=
  (((((w.setCell ⟨g, 0, none⟩ (.string s.log.data)).setCell ⟨g, 1, none⟩ (.int .i64 s.log.safe)).setCell ⟨g, 2, none⟩ (.string s.even.data)).setCell ⟨g, 3, none⟩ (.int .i64 s.even.safe)).setCell ⟨g, 4, none⟩ (.string s.odd.data)).setCell ⟨g, 5, none⟩ (.int .i64 s.odd.safe)
theorem put6_heap {w : World} {g : Nat} {s : St} {t : TypeId} (h : w.heap[g]? = some (.cells #[.string ⟨#[]⟩, .int .i64 0, .string ⟨#[]⟩, .int .i64 0, .string ⟨#[]⟩, .int .i64 0] t (0, 0))) : (put6 w g s).heap[g]? = some (.cells #[.string s.log.data, .int .i64 s.log.safe, .string s.even.data, .int .i64 s.even.safe, .string s.odd.data, .int .i64 s.odd.safe] t (0, 0)) := by
  unfold put6
  exact Go.heap_setCell_same _ _ _ _ _ _ (Go.heap_setCell_same _ _ _ _ _ _ (Go.heap_setCell_same _ _ _ _ _ _ (Go.heap_setCell_same _ _ _ _ _ _ (Go.heap_setCell_same _ _ _ _ _ _ (Go.heap_setCell_same _ _ _ _ _ _ h)))))
theorem put6_below {B : Nat} {w0 w : World} {g : Nat} {s : St} (h : Below B w0 w) (hg : B ≤ g) : Below B w0 (put6 w g s) := by
  unfold put6
  repeat refine Below.setCell ?_ hg _
  exact h
set_option maxRecDepth 100000 in
theorem exec_store6 {ρ : Operand → Value} {o : Oper} {x y : Operand} (g : Nat) (s : St) (w : World) (h : w.heap[g]? = some (.cells #[.string ⟨#[]⟩, .int .i64 0, .string ⟨#[]⟩, .int .i64 0, .string ⟨#[]⟩, .int .i64 0] 33 (0, 0))) (ho : o.op = .store 33 x y := by rfl) (hx : ρ x = .pointer (some ⟨g, 0, none⟩) := by rfl) (hy : ρ y = stA s := by rfl) :
    (execOp ρ o).run Try.prog w = .ok .skip (put6 w g s) := by
  have c0 := cell_of_row _ _ 0 _ _ _ h
  have z0 := frozen_of_row _ _ 0 _ _ h
  have c1 := cell_of_row _ _ 1 _ _ _ h
  have z1 := frozen_of_row _ _ 1 _ _ h
  have c2 := cell_of_row _ _ 2 _ _ _ h
  have z2 := frozen_of_row _ _ 2 _ _ h
  have c3 := cell_of_row _ _ 3 _ _ _ h
  have z3 := frozen_of_row _ _ 3 _ _ h
  have c4 := cell_of_row _ _ 4 _ _ _ h
  have z4 := frozen_of_row _ _ 4 _ _ h
  have c5 := cell_of_row _ _ 5 _ _ _ h
  have z5 := frozen_of_row _ _ 5 _ _ h
  simp at c0 c1 c2 c3 c4 c5
  unfold execOp
  rw [ho]
  simp [go_sem, hx, hy, stA, c0, c1, c2, c3, c4, c5, z0, z1, z2, z3, z4, z5, put6]
/-- A store lies in a block made since. -/
def PutAt (u : World) (s : St) (g : Nat) (w : World) : Prop := Below u.heap.size u w ∧ u.heap.size ≤ g ∧ w.heap[g]? = some (.cells #[.string s.log.data, .int .i64 s.log.safe, .string s.even.data, .int .i64 s.even.safe, .string s.odd.data, .int .i64 s.odd.safe] 33 (0, 0))
set_option maxRecDepth 100000 in
set_option maxHeartbeats 3200000 in
theorem FnExactPutSlot_walk (s : St) (n : Int) (a : Ar) (w : World) (hg : s.go) (ha : a.go) : Calls Try.prog 12 #[stA s, .int .i64 n, arA a] w fun e w' => e = .returned (.bool true) ∧ Below w.heap.size w w' := by
  have CS := Lib.hid (fun w => szStore_any s 1048576 w hg (by omega) (by omega))
  have CA := Lib.hid (fun w q => szArea_any a q w ha)
  have CT := Lib.hid (fun w => toStore_any s w)
  have CU := Lib.hid (fun w => toArea_any a w)
  have C1 := Lib.hid (fun w => putSlot_spec s n a w)
  have C2 := Lib.hid (fun w => putSlot_impl s n a w)
  clear hg ha
  generalize putS s n a = R at C1 C2
  have CE := Lib.hid (fun w => eqStore_same R w)
  unfold stA at CS CE ⊢
  unfold arA at CA ⊢
  go_enter Try.func12, Try.ntmps12
  go_wp2_with fail
  refine (CS.out _).mono ?_
  rintro e w1 ⟨⟨r, rfl, hr⟩, b1⟩
  by_cases hr0 : r < 0
  · go_wp2
    go_ret
    exact ⟨rfl, boxB _ _ _ (boxB _ _ _ b1)⟩
  have hr1 : r ≤ 1048576 := by have := hr (by omega); omega
  clear hr
  have p0 := boxk _ w1 _ _ b1 0 _ rfl
  have p1 := boxk _ w1 _ _ b1 1 _ rfl
  simp only [World.size_alloc] at p0 p1
  go_wp2_with fail
  refine (CA.out _ _ (by omega) (by omega)).mono ?_
  rintro e w2 ⟨⟨r2, rfl, hr2⟩, b2⟩
  clear hr2
  have b2 := b1.trans (b2.mono b1.size)
  clear b1 p0 p1
  by_cases hr2 : r2 < 0
  · go_wp2
    go_ret
    exact ⟨rfl, boxB _ _ _ (boxB _ _ _ b2)⟩
  have KS : Hid (∀ w', Below w2.heap.size w2 w' → ∀ k v, (#[.string s.log.data, .int .i64 s.log.safe, .string s.even.data, .int .i64 s.even.safe, .string s.odd.data, .int .i64 s.odd.safe] : Array Value)[k]? = some v → w'.cell? ⟨w.heap.size, k, none⟩ = some v) := fun w' h k v hk =>
    boxk w w' _ _ (boxB _ w' _ (b2.trans (h.mono b2.size))) k v hk
  have KA : Hid (∀ w', Below w2.heap.size w2 w' → ∀ k v, (#[.string a.data, .int .i64 a.safe] : Array Value)[k]? = some v → w'.cell? ⟨w.heap.size + 1, k, none⟩ = some v) := fun w' h k v hk => by
    have := boxk _ w' _ _ (b2.trans (h.mono b2.size)) k v hk
    rwa [World.size_alloc] at this
  have bW := Lib.hid (boxB _ _ _ (boxB _ _ _ b2))
  clear b2
  go_wp2_with fail
  go_cut [8] (fun s8 wx => ∃ g, s8 = .pointer (some ⟨g, 0, none⟩) ∧ PutAt w2 R g wx)
  case first =>
    refine wp_region_held_drew (S := fun w' => Hid (Below w2.heap.size w2 w')) (by kernel_rfl) (below_drawn (Below.refl _ _) 1) (fun hHeld => ?_)
    refine held_take 0 20 (stA s) rfl rfl (by kernel_rfl) (by kernel_rfl) (by kernel_rfl) (fun _ _ _ h => h) rfl hHeld (fun w hS => exec_loadSt _ s w (KS.out w hS.out)) ?_
    refine held_take 2 22 (.int .i64 n) rfl rfl (by kernel_rfl) (by kernel_rfl) (by kernel_rfl) (fun _ _ _ h => h) rfl hHeld (fun w _ => rfl) ?_
    refine held_take 3 23 (arA a) rfl rfl (by kernel_rfl) (by kernel_rfl) (by kernel_rfl) (fun _ _ _ h => h) rfl hHeld (fun w hS => exec_loadL _ a w (KA.out w hS.out)) ?_
    simp only [Act.put, List.setIfInBounds_toArray, List.set_cons_zero, List.set_cons_succ]
    have b0 := hHeld.out
    refine wpAnyH_ready (rs := [1, 6]) (by kernel_rfl) (by simp) (ready_call 1 21 37 #[stA s] rfl rfl rfl (exec_call Try.func37 (by kernel_rfl) (by kernel_rfl) _) ?_ (ready_op 6 8 (.pointer (some ⟨w2.drew.heap.size, 0, none⟩)) rfl rfl rfl (exec_allocS _) (b0.alloc b0.size _) ?_ AllReadyH.nil))
    · skip
      refine (CT.out _).mono ?_
      rintro e u1 ⟨rfl, x1⟩
      have b1 := b0.trans (x1.mono b0.size)
      refine ⟨_, rfl, b1, ?_⟩
      simp only [Act.put, List.setIfInBounds_toArray, List.set_cons_zero, List.set_cons_succ]
      refine wpAnyH_ready (rs := [4, 6]) (by kernel_rfl) (by simp) (ready_call 4 24 29 #[arA a] rfl rfl rfl (exec_call Try.func29 (by kernel_rfl) (by kernel_rfl) _) ?_ (ready_op 6 8 (.pointer (some ⟨u1.heap.size, 0, none⟩)) rfl rfl rfl (exec_allocS _) (b1.alloc b1.size _) ?_ AllReadyH.nil))
      · skip
        refine (CU.out _).mono ?_
        rintro e u2 ⟨rfl, x2⟩
        have b2 := b1.trans (x2.mono b1.size)
        refine ⟨_, rfl, b2, ?_⟩
        simp only [Act.put, List.setIfInBounds_toArray, List.set_cons_zero, List.set_cons_succ]
        refine wpAnyH_ready (rs := [5, 6]) (by kernel_rfl) (by simp) (ready_call 5 25 39 #[stA s, .int .i64 n, arA a] rfl rfl rfl (exec_call Try.func39 (by kernel_rfl) (by kernel_rfl) _) ?_ (ready_op 6 8 (.pointer (some ⟨u2.heap.size, 0, none⟩)) rfl rfl rfl (exec_allocS _) (b2.alloc b2.size _) ?_ AllReadyH.nil))
        · skip
          refine (C1.out _).mono ?_
          rintro e u3 ⟨rfl, x3⟩
          have b3 := b2.trans (x3.mono b2.size)
          refine ⟨_, rfl, b3, ?_⟩
          simp only [Act.put, List.setIfInBounds_toArray, List.set_cons_zero, List.set_cons_succ]
          refine held_op 6 8 (.pointer (some ⟨u3.heap.size, 0, none⟩)) rfl rfl (by kernel_rfl) rfl (exec_allocS _) (b3.alloc b3.size _) ?_
          simp only [Act.put, List.setIfInBounds_toArray, List.set_cons_zero, List.set_cons_succ]
          have b4 := b3.alloc b3.size (.cells #[.string ⟨#[]⟩, .int .i64 0, .string ⟨#[]⟩, .int .i64 0, .string ⟨#[]⟩, .int .i64 0] 33)
          have g4 := heap_new u3 (.cells #[.string ⟨#[]⟩, .int .i64 0, .string ⟨#[]⟩, .int .i64 0, .string ⟨#[]⟩, .int .i64 0] 33)
          have l4 := b3.size
          refine held_store 7 rfl rfl (by kernel_rfl) rfl (exec_store6 _ R _ g4) (put6_below b4 l4) ?_
          refine wpAnyH_done (by kernel_rfl) ?_ _
          have P : PutAt w2 R _ _ := ⟨put6_below b4 l4, l4, put6_heap g4⟩
          clear b4
          go_wp2_with fail
          go_meet
          exact ⟨_, rfl, P⟩
        · skip
          simp only [Act.put, List.setIfInBounds_toArray, List.set_cons_zero, List.set_cons_succ]
          have b5 := b2.alloc b2.size (.cells #[.string ⟨#[]⟩, .int .i64 0, .string ⟨#[]⟩, .int .i64 0, .string ⟨#[]⟩, .int .i64 0] 33)
          have g5 := heap_new u2 (.cells #[.string ⟨#[]⟩, .int .i64 0, .string ⟨#[]⟩, .int .i64 0, .string ⟨#[]⟩, .int .i64 0] 33)
          have l5 := b2.size
          refine held_call 5 25 39 #[stA s, .int .i64 n, arA a] rfl rfl (by kernel_rfl) rfl (exec_call Try.func39 (by kernel_rfl) (by kernel_rfl) _) ?_
          refine (C1.out _).mono ?_
          rintro e u6 ⟨rfl, x6⟩
          have b6 := b5.trans (x6.mono b5.size)
          have g6 := (x6.block _ (by first | exact (Array.getElem?_eq_some_iff.1 g5).1)).trans g5
          refine ⟨_, rfl, b6, ?_⟩
          simp only [Act.put, List.setIfInBounds_toArray, List.set_cons_zero, List.set_cons_succ]
          refine held_store 7 rfl rfl (by kernel_rfl) rfl (exec_store6 _ R _ g6) (put6_below b6 l5) ?_
          refine wpAnyH_done (by kernel_rfl) ?_ _
          have P : PutAt w2 R _ _ := ⟨put6_below b6 l5, l5, put6_heap g6⟩
          clear b6
          go_wp2_with fail
          go_meet
          exact ⟨_, rfl, P⟩
      · skip
        simp only [Act.put, List.setIfInBounds_toArray, List.set_cons_zero, List.set_cons_succ]
        have b7 := b1.alloc b1.size (.cells #[.string ⟨#[]⟩, .int .i64 0, .string ⟨#[]⟩, .int .i64 0, .string ⟨#[]⟩, .int .i64 0] 33)
        have g7 := heap_new u1 (.cells #[.string ⟨#[]⟩, .int .i64 0, .string ⟨#[]⟩, .int .i64 0, .string ⟨#[]⟩, .int .i64 0] 33)
        have l7 := b1.size
        refine held_call 4 24 29 #[arA a] rfl rfl (by kernel_rfl) rfl (exec_call Try.func29 (by kernel_rfl) (by kernel_rfl) _) ?_
        refine (CU.out _).mono ?_
        rintro e u8 ⟨rfl, x8⟩
        have b8 := b7.trans (x8.mono b7.size)
        have g8 := (x8.block _ (by first | exact (Array.getElem?_eq_some_iff.1 g7).1)).trans g7
        refine ⟨_, rfl, b8, ?_⟩
        simp only [Act.put, List.setIfInBounds_toArray, List.set_cons_zero, List.set_cons_succ]
        refine held_call 5 25 39 #[stA s, .int .i64 n, arA a] rfl rfl (by kernel_rfl) rfl (exec_call Try.func39 (by kernel_rfl) (by kernel_rfl) _) ?_
        refine (C1.out _).mono ?_
        rintro e u9 ⟨rfl, x9⟩
        have b9 := b8.trans (x9.mono b8.size)
        have g9 := (x9.block _ (by first | exact (Array.getElem?_eq_some_iff.1 g8).1)).trans g8
        refine ⟨_, rfl, b9, ?_⟩
        simp only [Act.put, List.setIfInBounds_toArray, List.set_cons_zero, List.set_cons_succ]
        refine held_store 7 rfl rfl (by kernel_rfl) rfl (exec_store6 _ R _ g9) (put6_below b9 l7) ?_
        refine wpAnyH_done (by kernel_rfl) ?_ _
        have P : PutAt w2 R _ _ := ⟨put6_below b9 l7, l7, put6_heap g9⟩
        clear b9
        go_wp2_with fail
        go_meet
        exact ⟨_, rfl, P⟩
    · skip
      simp only [Act.put, List.setIfInBounds_toArray, List.set_cons_zero, List.set_cons_succ]
      have b10 := b0.alloc b0.size (.cells #[.string ⟨#[]⟩, .int .i64 0, .string ⟨#[]⟩, .int .i64 0, .string ⟨#[]⟩, .int .i64 0] 33)
      have g10 := heap_new w2.drew (.cells #[.string ⟨#[]⟩, .int .i64 0, .string ⟨#[]⟩, .int .i64 0, .string ⟨#[]⟩, .int .i64 0] 33)
      have l10 := b0.size
      refine held_call 1 21 37 #[stA s] rfl rfl (by kernel_rfl) rfl (exec_call Try.func37 (by kernel_rfl) (by kernel_rfl) _) ?_
      refine (CT.out _).mono ?_
      rintro e u11 ⟨rfl, x11⟩
      have b11 := b10.trans (x11.mono b10.size)
      have g11 := (x11.block _ (by first | exact (Array.getElem?_eq_some_iff.1 g10).1)).trans g10
      refine ⟨_, rfl, b11, ?_⟩
      simp only [Act.put, List.setIfInBounds_toArray, List.set_cons_zero, List.set_cons_succ]
      refine held_call 4 24 29 #[arA a] rfl rfl (by kernel_rfl) rfl (exec_call Try.func29 (by kernel_rfl) (by kernel_rfl) _) ?_
      refine (CU.out _).mono ?_
      rintro e u12 ⟨rfl, x12⟩
      have b12 := b11.trans (x12.mono b11.size)
      have g12 := (x12.block _ (by first | exact (Array.getElem?_eq_some_iff.1 g11).1)).trans g11
      refine ⟨_, rfl, b12, ?_⟩
      simp only [Act.put, List.setIfInBounds_toArray, List.set_cons_zero, List.set_cons_succ]
      refine held_call 5 25 39 #[stA s, .int .i64 n, arA a] rfl rfl (by kernel_rfl) rfl (exec_call Try.func39 (by kernel_rfl) (by kernel_rfl) _) ?_
      refine (C1.out _).mono ?_
      rintro e u13 ⟨rfl, x13⟩
      have b13 := b12.trans (x13.mono b12.size)
      have g13 := (x13.block _ (by first | exact (Array.getElem?_eq_some_iff.1 g12).1)).trans g12
      refine ⟨_, rfl, b13, ?_⟩
      simp only [Act.put, List.setIfInBounds_toArray, List.set_cons_zero, List.set_cons_succ]
      refine held_store 7 rfl rfl (by kernel_rfl) rfl (exec_store6 _ R _ g13) (put6_below b13 l10) ?_
      refine wpAnyH_done (by kernel_rfl) ?_ _
      have P : PutAt w2 R _ _ := ⟨put6_below b13 l10, l10, put6_heap g13⟩
      clear b13
      go_wp2_with fail
      go_meet
      exact ⟨_, rfl, P⟩
  case rest =>
    obtain ⟨g, rfl, hP⟩ := hcut
    have KS : Hid (∀ w', Below wc.heap.size wc w' → ∀ k v, (#[.string s.log.data, .int .i64 s.log.safe, .string s.even.data, .int .i64 s.even.safe, .string s.odd.data, .int .i64 s.odd.safe] : Array Value)[k]? = some v → w'.cell? ⟨w.heap.size, k, none⟩ = some v) := fun w' h k v hk => KS.out w' (hP.1.trans (h.mono hP.1.size)) k v hk
    have KA : Hid (∀ w', Below wc.heap.size wc w' → ∀ k v, (#[.string a.data, .int .i64 a.safe] : Array Value)[k]? = some v → w'.cell? ⟨w.heap.size + 1, k, none⟩ = some v) := fun w' h k v hk => KA.out w' (hP.1.trans (h.mono hP.1.size)) k v hk
    have HP := Lib.hid hP
    clear hP
    go_wp2_with fail
    go_cut [9] (fun s9 wx => ∃ g, s9 = .pointer (some ⟨g, 0, none⟩) ∧ PutAt wc R g wx)
    case first =>
      refine wp_region_held_drew (S := fun w' => Hid (Below wc.heap.size wc w')) (by kernel_rfl) (below_drawn (Below.refl _ _) 1) (fun hHeld => ?_)
      refine held_take 0 26 (stA s) rfl rfl (by kernel_rfl) (by kernel_rfl) (by kernel_rfl) (fun _ _ _ h => h) rfl hHeld (fun w hS => exec_loadSt _ s w (KS.out w hS.out)) ?_
      refine held_take 2 28 (.int .i64 n) rfl rfl (by kernel_rfl) (by kernel_rfl) (by kernel_rfl) (fun _ _ _ h => h) rfl hHeld (fun w _ => rfl) ?_
      refine held_take 3 29 (arA a) rfl rfl (by kernel_rfl) (by kernel_rfl) (by kernel_rfl) (fun _ _ _ h => h) rfl hHeld (fun w hS => exec_loadL _ a w (KA.out w hS.out)) ?_
      simp only [Act.put, List.setIfInBounds_toArray, List.set_cons_zero, List.set_cons_succ]
      have b0 := hHeld.out
      refine wpAnyH_ready (rs := [1, 6]) (by kernel_rfl) (by simp) (ready_call 1 27 37 #[stA s] rfl rfl rfl (exec_call Try.func37 (by kernel_rfl) (by kernel_rfl) _) ?_ (ready_op 6 9 (.pointer (some ⟨wc.drew.heap.size, 0, none⟩)) rfl rfl rfl (exec_allocS _) (b0.alloc b0.size _) ?_ AllReadyH.nil))
      · skip
        refine (CT.out _).mono ?_
        rintro e u1 ⟨rfl, x1⟩
        have b1 := b0.trans (x1.mono b0.size)
        refine ⟨_, rfl, b1, ?_⟩
        simp only [Act.put, List.setIfInBounds_toArray, List.set_cons_zero, List.set_cons_succ]
        refine wpAnyH_ready (rs := [4, 6]) (by kernel_rfl) (by simp) (ready_call 4 30 29 #[arA a] rfl rfl rfl (exec_call Try.func29 (by kernel_rfl) (by kernel_rfl) _) ?_ (ready_op 6 9 (.pointer (some ⟨u1.heap.size, 0, none⟩)) rfl rfl rfl (exec_allocS _) (b1.alloc b1.size _) ?_ AllReadyH.nil))
        · skip
          refine (CU.out _).mono ?_
          rintro e u2 ⟨rfl, x2⟩
          have b2 := b1.trans (x2.mono b1.size)
          refine ⟨_, rfl, b2, ?_⟩
          simp only [Act.put, List.setIfInBounds_toArray, List.set_cons_zero, List.set_cons_succ]
          refine wpAnyH_ready (rs := [5, 6]) (by kernel_rfl) (by simp) (ready_call 5 31 22 #[stA s, .int .i64 n, arA a] rfl rfl rfl (exec_call Try.func22 (by kernel_rfl) (by kernel_rfl) _) ?_ (ready_op 6 9 (.pointer (some ⟨u2.heap.size, 0, none⟩)) rfl rfl rfl (exec_allocS _) (b2.alloc b2.size _) ?_ AllReadyH.nil))
          · skip
            refine (C2.out _).mono ?_
            rintro e u3 ⟨rfl, x3⟩
            have b3 := b2.trans (x3.mono b2.size)
            refine ⟨_, rfl, b3, ?_⟩
            simp only [Act.put, List.setIfInBounds_toArray, List.set_cons_zero, List.set_cons_succ]
            refine held_op 6 9 (.pointer (some ⟨u3.heap.size, 0, none⟩)) rfl rfl (by kernel_rfl) rfl (exec_allocS _) (b3.alloc b3.size _) ?_
            simp only [Act.put, List.setIfInBounds_toArray, List.set_cons_zero, List.set_cons_succ]
            have b4 := b3.alloc b3.size (.cells #[.string ⟨#[]⟩, .int .i64 0, .string ⟨#[]⟩, .int .i64 0, .string ⟨#[]⟩, .int .i64 0] 33)
            have g4 := heap_new u3 (.cells #[.string ⟨#[]⟩, .int .i64 0, .string ⟨#[]⟩, .int .i64 0, .string ⟨#[]⟩, .int .i64 0] 33)
            have l4 := b3.size
            refine held_store 7 rfl rfl (by kernel_rfl) rfl (exec_store6 _ R _ g4) (put6_below b4 l4) ?_
            refine wpAnyH_done (by kernel_rfl) ?_ _
            have P : PutAt wc R _ _ := ⟨put6_below b4 l4, l4, put6_heap g4⟩
            clear b4
            go_wp2_with fail
            go_meet
            exact ⟨_, rfl, P⟩
          · skip
            simp only [Act.put, List.setIfInBounds_toArray, List.set_cons_zero, List.set_cons_succ]
            have b5 := b2.alloc b2.size (.cells #[.string ⟨#[]⟩, .int .i64 0, .string ⟨#[]⟩, .int .i64 0, .string ⟨#[]⟩, .int .i64 0] 33)
            have g5 := heap_new u2 (.cells #[.string ⟨#[]⟩, .int .i64 0, .string ⟨#[]⟩, .int .i64 0, .string ⟨#[]⟩, .int .i64 0] 33)
            have l5 := b2.size
            refine held_call 5 31 22 #[stA s, .int .i64 n, arA a] rfl rfl (by kernel_rfl) rfl (exec_call Try.func22 (by kernel_rfl) (by kernel_rfl) _) ?_
            refine (C2.out _).mono ?_
            rintro e u6 ⟨rfl, x6⟩
            have b6 := b5.trans (x6.mono b5.size)
            have g6 := (x6.block _ (by first | exact (Array.getElem?_eq_some_iff.1 g5).1)).trans g5
            refine ⟨_, rfl, b6, ?_⟩
            simp only [Act.put, List.setIfInBounds_toArray, List.set_cons_zero, List.set_cons_succ]
            refine held_store 7 rfl rfl (by kernel_rfl) rfl (exec_store6 _ R _ g6) (put6_below b6 l5) ?_
            refine wpAnyH_done (by kernel_rfl) ?_ _
            have P : PutAt wc R _ _ := ⟨put6_below b6 l5, l5, put6_heap g6⟩
            clear b6
            go_wp2_with fail
            go_meet
            exact ⟨_, rfl, P⟩
        · skip
          simp only [Act.put, List.setIfInBounds_toArray, List.set_cons_zero, List.set_cons_succ]
          have b7 := b1.alloc b1.size (.cells #[.string ⟨#[]⟩, .int .i64 0, .string ⟨#[]⟩, .int .i64 0, .string ⟨#[]⟩, .int .i64 0] 33)
          have g7 := heap_new u1 (.cells #[.string ⟨#[]⟩, .int .i64 0, .string ⟨#[]⟩, .int .i64 0, .string ⟨#[]⟩, .int .i64 0] 33)
          have l7 := b1.size
          refine held_call 4 30 29 #[arA a] rfl rfl (by kernel_rfl) rfl (exec_call Try.func29 (by kernel_rfl) (by kernel_rfl) _) ?_
          refine (CU.out _).mono ?_
          rintro e u8 ⟨rfl, x8⟩
          have b8 := b7.trans (x8.mono b7.size)
          have g8 := (x8.block _ (by first | exact (Array.getElem?_eq_some_iff.1 g7).1)).trans g7
          refine ⟨_, rfl, b8, ?_⟩
          simp only [Act.put, List.setIfInBounds_toArray, List.set_cons_zero, List.set_cons_succ]
          refine held_call 5 31 22 #[stA s, .int .i64 n, arA a] rfl rfl (by kernel_rfl) rfl (exec_call Try.func22 (by kernel_rfl) (by kernel_rfl) _) ?_
          refine (C2.out _).mono ?_
          rintro e u9 ⟨rfl, x9⟩
          have b9 := b8.trans (x9.mono b8.size)
          have g9 := (x9.block _ (by first | exact (Array.getElem?_eq_some_iff.1 g8).1)).trans g8
          refine ⟨_, rfl, b9, ?_⟩
          simp only [Act.put, List.setIfInBounds_toArray, List.set_cons_zero, List.set_cons_succ]
          refine held_store 7 rfl rfl (by kernel_rfl) rfl (exec_store6 _ R _ g9) (put6_below b9 l7) ?_
          refine wpAnyH_done (by kernel_rfl) ?_ _
          have P : PutAt wc R _ _ := ⟨put6_below b9 l7, l7, put6_heap g9⟩
          clear b9
          go_wp2_with fail
          go_meet
          exact ⟨_, rfl, P⟩
      · skip
        simp only [Act.put, List.setIfInBounds_toArray, List.set_cons_zero, List.set_cons_succ]
        have b10 := b0.alloc b0.size (.cells #[.string ⟨#[]⟩, .int .i64 0, .string ⟨#[]⟩, .int .i64 0, .string ⟨#[]⟩, .int .i64 0] 33)
        have g10 := heap_new wc.drew (.cells #[.string ⟨#[]⟩, .int .i64 0, .string ⟨#[]⟩, .int .i64 0, .string ⟨#[]⟩, .int .i64 0] 33)
        have l10 := b0.size
        refine held_call 1 27 37 #[stA s] rfl rfl (by kernel_rfl) rfl (exec_call Try.func37 (by kernel_rfl) (by kernel_rfl) _) ?_
        refine (CT.out _).mono ?_
        rintro e u11 ⟨rfl, x11⟩
        have b11 := b10.trans (x11.mono b10.size)
        have g11 := (x11.block _ (by first | exact (Array.getElem?_eq_some_iff.1 g10).1)).trans g10
        refine ⟨_, rfl, b11, ?_⟩
        simp only [Act.put, List.setIfInBounds_toArray, List.set_cons_zero, List.set_cons_succ]
        refine held_call 4 30 29 #[arA a] rfl rfl (by kernel_rfl) rfl (exec_call Try.func29 (by kernel_rfl) (by kernel_rfl) _) ?_
        refine (CU.out _).mono ?_
        rintro e u12 ⟨rfl, x12⟩
        have b12 := b11.trans (x12.mono b11.size)
        have g12 := (x12.block _ (by first | exact (Array.getElem?_eq_some_iff.1 g11).1)).trans g11
        refine ⟨_, rfl, b12, ?_⟩
        simp only [Act.put, List.setIfInBounds_toArray, List.set_cons_zero, List.set_cons_succ]
        refine held_call 5 31 22 #[stA s, .int .i64 n, arA a] rfl rfl (by kernel_rfl) rfl (exec_call Try.func22 (by kernel_rfl) (by kernel_rfl) _) ?_
        refine (C2.out _).mono ?_
        rintro e u13 ⟨rfl, x13⟩
        have b13 := b12.trans (x13.mono b12.size)
        have g13 := (x13.block _ (by first | exact (Array.getElem?_eq_some_iff.1 g12).1)).trans g12
        refine ⟨_, rfl, b13, ?_⟩
        simp only [Act.put, List.setIfInBounds_toArray, List.set_cons_zero, List.set_cons_succ]
        refine held_store 7 rfl rfl (by kernel_rfl) rfl (exec_store6 _ R _ g13) (put6_below b13 l10) ?_
        refine wpAnyH_done (by kernel_rfl) ?_ _
        have P : PutAt wc R _ _ := ⟨put6_below b13 l10, l10, put6_heap g13⟩
        clear b13
        go_wp2_with fail
        go_meet
        exact ⟨_, rfl, P⟩
    case rest =>
      obtain ⟨g2, rfl, hQ⟩ := hcut
      rename_i wd
      have hlt := (Array.getElem?_eq_some_iff.1 HP.out.2.2).1
      have hg1 := (hQ.1.block g hlt).trans HP.out.2.2
      have hg2 := hQ.2.2
      have bW := Lib.hid (bW.out.trans ((HP.out.1.trans (hQ.1.mono HP.out.1.size)).mono bW.out.size))
      clear HP hQ KS KA hlt
      have c0 := cell_of_row _ _ 0 _ _ _ hg1
      have d0 := cell_of_row _ _ 0 _ _ _ hg2
      have c1 := cell_of_row _ _ 1 _ _ _ hg1
      have d1 := cell_of_row _ _ 1 _ _ _ hg2
      have c2 := cell_of_row _ _ 2 _ _ _ hg1
      have d2 := cell_of_row _ _ 2 _ _ _ hg2
      have c3 := cell_of_row _ _ 3 _ _ _ hg1
      have d3 := cell_of_row _ _ 3 _ _ _ hg2
      have c4 := cell_of_row _ _ 4 _ _ _ hg1
      have d4 := cell_of_row _ _ 4 _ _ _ hg2
      have c5 := cell_of_row _ _ 5 _ _ _ hg1
      have d5 := cell_of_row _ _ 5 _ _ _ hg2
      clear hg1 hg2
      simp at c0 c1 c2 c3 c4 c5 d0 d1 d2 d3 d4 d5
      go_wp2_with fail
      refine (CE.out _).mono ?_
      rintro e w9 ⟨rfl, b9⟩
      go_wp2
      go_ret
      exact ⟨rfl, bW.out.trans (b9.mono bW.out.size)⟩
end Go.Proofs.Ythkfbgamkffjeaa
