/- Crashes: Left of the program. -/
import Derived.Test.YtcapioiigfldoaaRows
import Derived.Test.YtcapioiigfldoaaFall3
namespace Go.Proofs.Ytcapioiigfldoaa
open Go.RowKit
set_option linter.unusedSimpArgs false
set_option linter.unusedVariables false
set_option maxRecDepth 100000 in
theorem limited_any (n lo hi : Int) (w : World) (h1 : inI n) (h2 : inI lo) (h3 : inI hi) : Calls Try.prog 46 #[.int .i64 n, .int .i64 lo, .int .i64 hi] w fun e w' => e = .returned (.int .i64 (min (max n lo) hi)) ∧ w = w' := by
  go_enter Try.func46, Try.ntmps46
  go_wp2
  all_goals
    go_ret
    refine ⟨?_, rfl⟩
    show Ending.returned (Value.int .i64 _) = Ending.returned (Value.int .i64 _)
    congr 2
    first | omega | (split at * <;> omega)
set_option maxRecDepth 100000 in
theorem keepOf_any (A : Option Addr) (l : List Int) (c i : Nat) (w : World) (hl : l.length ≤ 9223372036854775807) (hi : i ≤ 2) (hA : Rws w w.heap.size A (ints l)) :
    Calls Try.prog 39 #[.slice A l.length c, .int .i64 i] w fun e w' => e = .returned (.int .i64 (l.getD i 0)) ∧ w = w' := by
  by_cases h : i < l.length
  · obtain ⟨b, off, rfl, _, hc⟩ := hA.int h
    generalize l.getD i 0 = x at *
    go_enter Try.func39, Try.ntmps39
    go_wp2
    go_ret
    exact ⟨rfl, rfl⟩
  · have e : l.getD i 0 = 0 := by rw [List.getD_eq_getElem?_getD, List.getElem?_eq_none (by omega)]; rfl
    rw [e]
    go_enter Try.func39, Try.ntmps39
    go_wp2
    go_ret
    exact ⟨rfl, rfl⟩
set_option maxRecDepth 100000 in
theorem areasOf_any (s : St) (w : World) : Calls Try.prog 38 #[stA s] w fun e w' => e = .returned (stA s) ∧ Below w.heap.size w w' := by
  unfold stA
  go_enter Try.func38, Try.ntmps38
  go_wp2
  simp [bodyPost, results, Try.results38, go_sem]
  exact ((Below.refl _ _).alloc (Nat.le_refl _) _).alloc (by simp) _
theorem left_two (a : Ar) (k : Int) (m : Nat) (hf : a.fine) (hm : a.safe + min (max k 0) ((a.data.size : Int) - a.safe) = (m : Int)) : trimA a m = (⟨a.data.extract 0 m, a.safe⟩, true) ∧ syncA ⟨a.data.extract 0 m, a.safe⟩ = leftA a k ∧ (⟨a.data.extract 0 m, a.safe⟩ : Ar).go := by
  obtain ⟨h1, h2, h3⟩ := id hf
  have e : leftN a k = m := by rw [← hm]; unfold leftN; omega
  have hs : (a.data.extract 0 m).size = m := by rw [ByteArray.size_extract]; omega
  refine ⟨?_, ?_, ?_⟩
  · unfold trimA
    rw [if_pos ⟨hf, by omega, by omega⟩, Int.toNat_natCast, show min a.safe (m : Int) = a.safe from by omega]
  · unfold syncA leftA
    rw [if_pos hf, if_pos ⟨by show (a.data.extract 0 m).size ≤ _; omega, h2, by show a.safe ≤ ((a.data.extract 0 m).size : Int); omega⟩, e, Int.toNat_natCast]
    show (⟨a.data.extract 0 m, ((a.data.extract 0 m).size : Int)⟩ : Ar) = _
    rw [hs]
  · exact ⟨by show (a.data.extract 0 m).size ≤ _; omega, by show _ ≤ a.safe; omega, by show a.safe ≤ _; omega⟩
/-- One of those that may come up stores. -/
theorem ready_store {P : Program} {md : Region.Mode} {ops : Array Oper} {Q : Exit → Act → World → Prop} {S : World → Prop} {fuel : Nat} {listed : Array Bool} {a : Act} {w w' : World} (i : Nat) {oi : Oper} {rs : List Nat}
    (hi : ops[i]? = some oi) (hd : oi.dst = none) (hw : Region.wanted oi (yielded ops a.tmps) = true)
    (he : (execOp a.eval oi).run P w = .ok .skip w') (hS : S w')
    (h : wpAnyH P md ops Q S fuel (listed.setIfInBounds i true) a w') (hrs : AllReadyH P md ops Q S fuel listed a w rs) : AllReadyH P md ops Q S fuel listed a w (i :: rs) := by
  refine AllReadyH.cons hi (fun K hK => ?_) hrs
  rw [if_pos hw]
  unfold Oper.wp
  rw [he, Oper.upon_skip, hd]
  exact hK.out _ _ hS (fun _ => h)
set_option maxRecDepth 100000 in
theorem exec_allocA {ρ : Operand → Value} {o : Oper} (w : World) (ho : o.op = .alloc 25 := by rfl) :
    (execOp ρ o).run Try.prog w = .ok (.value (.pointer (some ⟨w.heap.size, 0, none⟩))) (w.alloc (.cells #[.string ⟨#[]⟩, .int .i64 0] 25)) := by
  unfold execOp
  rw [ho]
  simp [go_sem]
/-- An area laid into a block of two cells. -/
def put2 (w : World) (g : Nat) (a : Ar) : World := (w.setCell ⟨g, 0, none⟩ (.string a.data)).setCell ⟨g, 1, none⟩ (.int .i64 a.safe)
theorem put2_heap {w : World} {g : Nat} {a : Ar} {t : TypeId} (h : w.heap[g]? = some (.cells #[.string ⟨#[]⟩, .int .i64 0] t (0, 0))) : (put2 w g a).heap[g]? = some (.cells #[.string a.data, .int .i64 a.safe] t (0, 0)) := by
  unfold put2
  exact Go.heap_setCell_same _ _ _ _ _ _ (Go.heap_setCell_same _ _ _ _ _ _ h)
theorem put2_below {B : Nat} {w0 w : World} {g : Nat} {a : Ar} (h : Below B w0 w) (hg : B ≤ g) : Below B w0 (put2 w g a) := (h.setCell hg _).setCell hg _
set_option maxRecDepth 100000 in
theorem exec_storeA {ρ : Operand → Value} {o : Oper} {x y : Operand} (g : Nat) (a : Ar) (w : World) (h : w.heap[g]? = some (.cells #[.string ⟨#[]⟩, .int .i64 0] 25 (0, 0))) (ho : o.op = .store 25 x y := by rfl) (hx : ρ x = .pointer (some ⟨g, 0, none⟩) := by rfl) (hy : ρ y = arA a := by rfl) :
    (execOp ρ o).run Try.prog w = .ok .skip (put2 w g a) := by
  have c0 := cell_of_row _ _ 0 _ _ _ h
  have z0 := frozen_of_row _ _ 0 _ _ h
  have c1 := cell_of_row _ _ 1 _ _ _ h
  have z1 := frozen_of_row _ _ 1 _ _ h
  simp at c0 c1
  unfold execOp
  rw [ho]
  simp [go_sem, hx, hy, arA, c0, c1, z0, z1, put2]
/-- An area lies in a block made since. -/
def PutAr (u : World) (a : Ar) (g : Nat) (w : World) : Prop := Below u.heap.size u w ∧ u.heap.size ≤ g ∧ w.heap[g]? = some (.cells #[.string a.data, .int .i64 a.safe] 25 (0, 0))
set_option maxRecDepth 100000 in
set_option maxHeartbeats 1600000 in
theorem left_impl (a : Ar) (k : Int) (w : World) (hg : a.go) (hk : inI k) : Calls Try.prog 21 #[arA a, .int .i64 k] w fun e w' => e = .returned (arA (leftA a k)) ∧ Below w.heap.size w w' := by
  have C := Lib.hid (fun w => areaOk_impl a w hg)
  by_cases hf : a.fine
  · obtain ⟨hl, hf2, hf3⟩ := id hf
    obtain ⟨m, hm⟩ : ∃ m : Nat, a.safe + min (max k 0) ((a.data.size : Int) - a.safe) = m := ⟨(a.safe + min (max k 0) ((a.data.size : Int) - a.safe)).toNat, by omega⟩
    have hm2 : m ≤ a.data.size := by omega
    obtain ⟨ht, hy, hX⟩ := left_two a k m hf hm
    have CL := Lib.hid (fun w => limited_any k 0 ((a.data.size : Int) - a.safe) w hk ⟨by omega, by omega⟩ ⟨by omega, by omega⟩)
    have CT := Lib.hid (fun w => trim_impl a m w hg)
    rw [ht] at CT
    generalize (⟨a.data.extract 0 m, a.safe⟩ : Ar) = X at *
    have CY := Lib.hid (fun w => sync_impl X w hX)
    rw [hy] at CY
    generalize leftA a k = R at *
    have HN := Lib.hid hm
    generalize min (max k 0) ((a.data.size : Int) - a.safe) = q at *
    simp only [hf, decide_true] at C
    have E : Hid (arA a = .agg #[.string a.data, .int .i64 a.safe]) := rfl
    clear hm hf ht hy hX hg
    rw [E.out] at C ⊢
    go_enter Try.func21, Try.ntmps21
    go_wp2_with fail
    refine (C.out _).mono ?_
    rintro e w2 ⟨rfl, b2⟩
    have KA : Hid (∀ w', Below w2.heap.size w2 w' → w'.cell? ⟨w.heap.size, 0, none⟩ = some (.string a.data) ∧ w'.cell? ⟨w.heap.size, 1, none⟩ = some (.int .i64 a.safe)) := fun w' h =>
      have x := (bx2 w w' _ _ _ _ _ _ (b2.trans (h.mono b2.size))).1
      ⟨x.1, x.2.1⟩
    have KB := Lib.hid (fun (w' : World) (h : Below w2.heap.size w2 w') => bx2 w w' _ _ _ _ _ _ (b2.trans (h.mono b2.size)))
    clear b2
    go_wp2_with fail
    go_cut [5] (fun s5 wx => ∃ g, s5 = .pointer (some ⟨g, 0, none⟩) ∧ PutAr w2 X g wx)
    case first =>
      refine wp_region_held_drew (S := fun w' => Hid (Below w2.heap.size w2 w')) (by kernel_rfl) (below_drawn (Below.refl _ _) 1) (fun hHeld => ?_)
      have b0 := hHeld.out
      refine held_take 0 12 (arA a) rfl rfl (by kernel_rfl) (by kernel_rfl) (by kernel_rfl) (fun _ _ _ h => h) rfl b0 (fun w hS => exec_loadAt _ 0 a w (KA.out w hS.out).1 (KA.out w hS.out).2) ?_
      refine held_take 1 13 (.pointer (some ⟨w.heap.size, 1, none⟩)) rfl rfl (by kernel_rfl) (by kernel_rfl) (by kernel_rfl) (fun _ _ _ h => h) rfl b0 (fun w _ => exec_fldA _ 1 w (by simp)) ?_
      refine held_take 2 14 (.int .i64 a.safe) rfl rfl (by kernel_rfl) (by kernel_rfl) (by kernel_rfl) (fun _ _ _ h => h) rfl b0 (fun w hS => exec_load1 3 _ _ _ w (by simp) (KA.out w hS.out).2) ?_
      simp only [Act.put, List.setIfInBounds_toArray, List.set_cons_zero, List.set_cons_succ]
      refine held_take 3 15 (.int .i64 k) rfl rfl (by kernel_rfl) (by kernel_rfl) (by kernel_rfl) (fun _ _ _ h => h) rfl b0 (fun w _ => rfl) ?_
      refine held_take 4 16 (.pointer (some ⟨w.heap.size, 0, none⟩)) rfl rfl (by kernel_rfl) (by kernel_rfl) (by kernel_rfl) (fun _ _ _ h => h) rfl b0 (fun w _ => exec_fldA _ 0 w (by simp)) ?_
      refine held_take 5 17 (.string a.data) rfl rfl (by kernel_rfl) (by kernel_rfl) (by kernel_rfl) (fun _ _ _ h => h) rfl b0 (fun w hS => exec_load1 9 _ _ _ w (by simp) (KA.out w hS.out).1) ?_
      simp only [Act.put, List.setIfInBounds_toArray, List.set_cons_zero, List.set_cons_succ]
      refine held_take 6 18 (.int .i64 (a.data.size : Int)) rfl rfl (by kernel_rfl) (by kernel_rfl) (by kernel_rfl) (fun _ _ _ h => h) rfl b0 (fun w _ => exec_lenS _ w) ?_
      refine held_take 7 19 (.pointer (some ⟨w.heap.size, 1, none⟩)) rfl rfl (by kernel_rfl) (by kernel_rfl) (by kernel_rfl) (fun _ _ _ h => h) rfl b0 (fun w _ => exec_fldA _ 1 w (by simp)) ?_
      refine held_take 8 20 (.int .i64 a.safe) rfl rfl (by kernel_rfl) (by kernel_rfl) (by kernel_rfl) (fun _ _ _ h => h) rfl b0 (fun w hS => exec_load1 3 _ _ _ w (by simp) (KA.out w hS.out).2) ?_
      simp only [Act.put, List.setIfInBounds_toArray, List.set_cons_zero, List.set_cons_succ]
      refine held_take 9 21 (.int .i64 ((a.data.size : Int) - a.safe)) rfl rfl (by kernel_rfl) (by kernel_rfl) (by kernel_rfl) (fun _ _ _ h => h) rfl b0 (fun w _ => exec_subI _ _ _ w rfl (by omega) (by omega)) ?_
      simp only [Act.put, List.setIfInBounds_toArray, List.set_cons_zero, List.set_cons_succ]
      refine wpAnyH_ready (rs := [10, 16]) (by kernel_rfl) (by simp) (ready_call 10 22 46 #[.int .i64 k, .int .i64 0, .int .i64 ((a.data.size : Int) - a.safe)] rfl rfl rfl (exec_call Try.func46 (by kernel_rfl) (by kernel_rfl) _) ?_ (ready_op 16 5 (.pointer (some ⟨w2.drew.heap.size, 0, none⟩)) rfl rfl rfl (exec_allocA _) (b0.alloc b0.size _) ?_ AllReadyH.nil))
      · skip
        refine (CL.out _).mono ?_
        rintro e u1 ⟨rfl, x1⟩
        subst x1
        refine ⟨_, rfl, b0, ?_⟩
        simp only [Act.put, List.setIfInBounds_toArray, List.set_cons_zero, List.set_cons_succ]
        refine held_take 11 23 (.int .i64 (m : Int)) rfl rfl (by kernel_rfl) (by kernel_rfl) (by kernel_rfl) (fun _ _ _ h => h) rfl b0 (fun w _ => exec_addI _ _ _ w HN.out (by omega) (by omega)) ?_
        simp only [Act.put, List.setIfInBounds_toArray, List.set_cons_zero, List.set_cons_succ]
        refine wpAnyH_ready (rs := [12, 16]) (by kernel_rfl) (by simp) (ready_call 12 24 45 #[arA a, .int .i64 (m : Int)] rfl rfl rfl (exec_call Try.func45 (by kernel_rfl) (by kernel_rfl) _) ?_ (ready_op 16 5 (.pointer (some ⟨w2.drew.heap.size, 0, none⟩)) rfl rfl rfl (exec_allocA _) (b0.alloc b0.size _) ?_ AllReadyH.nil))
        · skip
          refine (CT.out _).mono ?_
          rintro e u2 ⟨rfl, x2⟩
          have b2 := b0.trans (x2.mono b0.size)
          refine ⟨_, rfl, b2, ?_⟩
          simp only [Act.put, List.setIfInBounds_toArray, List.set_cons_zero, List.set_cons_succ]
          refine held_take 13 11 (abV (X, true)) rfl rfl (by kernel_rfl) (by kernel_rfl) (by kernel_rfl) (fun _ _ _ h => h) rfl b2 (fun w _ => rfl) ?_
          refine held_take 14 25 (arA X) rfl rfl (by kernel_rfl) (by kernel_rfl) (by kernel_rfl) (fun _ _ _ h => h) rfl b2 (fun w _ => rfl) ?_
          refine held_take 15 26 (.bool true) rfl rfl (by kernel_rfl) (by kernel_rfl) (by kernel_rfl) (fun _ _ _ h => h) rfl b2 (fun w _ => rfl) ?_
          simp only [Act.put, List.setIfInBounds_toArray, List.set_cons_zero, List.set_cons_succ]
          refine held_op 16 5 (.pointer (some ⟨u2.heap.size, 0, none⟩)) rfl rfl (by kernel_rfl) rfl (exec_allocA _) (b2.alloc b2.size _) ?_
          simp only [Act.put, List.setIfInBounds_toArray, List.set_cons_zero, List.set_cons_succ]
          have b3 := b2.alloc b2.size (.cells #[.string ⟨#[]⟩, .int .i64 0] 25)
          have l3 := b2.size
          have g3 := heap_new u2 (.cells #[.string ⟨#[]⟩, .int .i64 0] 25)
          refine held_store 17 rfl rfl (by kernel_rfl) rfl (exec_storeA _ X _ g3) (put2_below (a := X) b3 l3) ?_
          have b4 := put2_below (a := X) b3 l3
          have g4_0 := put2_heap (a := X) g3
          refine held_op 18 6 (.bool true) rfl rfl (by kernel_rfl) rfl rfl b4 ?_
          simp only [Act.put, List.setIfInBounds_toArray, List.set_cons_zero, List.set_cons_succ]
          refine wpAnyH_done (by kernel_rfl) ?_ _
          have P : PutAr w2 X _ _ := ⟨b4, l3, g4_0⟩
          clear b4
          go_wp2_with fail
          go_meet
          exact ⟨_, rfl, P⟩
        · skip
          simp only [Act.put, List.setIfInBounds_toArray, List.set_cons_zero, List.set_cons_succ]
          have b5 := b0.alloc b0.size (.cells #[.string ⟨#[]⟩, .int .i64 0] 25)
          have l5 := b0.size
          have g5 := heap_new w2.drew (.cells #[.string ⟨#[]⟩, .int .i64 0] 25)
          refine held_call 12 24 45 #[arA a, .int .i64 (m : Int)] rfl rfl (by kernel_rfl) rfl (exec_call Try.func45 (by kernel_rfl) (by kernel_rfl) _) ?_
          refine (CT.out _).mono ?_
          rintro e u6 ⟨rfl, x6⟩
          have b6 := b5.trans (x6.mono b5.size)
          have g6_0 := blk_call g5 x6
          refine ⟨_, rfl, b6, ?_⟩
          simp only [Act.put, List.setIfInBounds_toArray, List.set_cons_zero, List.set_cons_succ]
          refine held_take 13 11 (abV (X, true)) rfl rfl (by kernel_rfl) (by kernel_rfl) (by kernel_rfl) (fun _ _ _ h => h) rfl b6 (fun w _ => rfl) ?_
          refine held_take 14 25 (arA X) rfl rfl (by kernel_rfl) (by kernel_rfl) (by kernel_rfl) (fun _ _ _ h => h) rfl b6 (fun w _ => rfl) ?_
          refine held_take 15 26 (.bool true) rfl rfl (by kernel_rfl) (by kernel_rfl) (by kernel_rfl) (fun _ _ _ h => h) rfl b6 (fun w _ => rfl) ?_
          simp only [Act.put, List.setIfInBounds_toArray, List.set_cons_zero, List.set_cons_succ]
          refine held_store 17 rfl rfl (by kernel_rfl) rfl (exec_storeA _ X _ g6_0) (put2_below (a := X) b6 l5) ?_
          have b7 := put2_below (a := X) b6 l5
          have g7_0 := put2_heap (a := X) g6_0
          refine held_op 18 6 (.bool true) rfl rfl (by kernel_rfl) rfl rfl b7 ?_
          simp only [Act.put, List.setIfInBounds_toArray, List.set_cons_zero, List.set_cons_succ]
          refine wpAnyH_done (by kernel_rfl) ?_ _
          have P : PutAr w2 X _ _ := ⟨b7, l5, g7_0⟩
          clear b7
          go_wp2_with fail
          go_meet
          exact ⟨_, rfl, P⟩
      · skip
        simp only [Act.put, List.setIfInBounds_toArray, List.set_cons_zero, List.set_cons_succ]
        have b8 := b0.alloc b0.size (.cells #[.string ⟨#[]⟩, .int .i64 0] 25)
        have l8 := b0.size
        have g8 := heap_new w2.drew (.cells #[.string ⟨#[]⟩, .int .i64 0] 25)
        refine held_call 10 22 46 #[.int .i64 k, .int .i64 0, .int .i64 ((a.data.size : Int) - a.safe)] rfl rfl (by kernel_rfl) rfl (exec_call Try.func46 (by kernel_rfl) (by kernel_rfl) _) ?_
        refine (CL.out _).mono ?_
        rintro e u9 ⟨rfl, x9⟩
        subst x9
        refine ⟨_, rfl, b8, ?_⟩
        simp only [Act.put, List.setIfInBounds_toArray, List.set_cons_zero, List.set_cons_succ]
        refine held_take 11 23 (.int .i64 (m : Int)) rfl rfl (by kernel_rfl) (by kernel_rfl) (by kernel_rfl) (fun _ _ _ h => h) rfl b8 (fun w _ => exec_addI _ _ _ w HN.out (by omega) (by omega)) ?_
        simp only [Act.put, List.setIfInBounds_toArray, List.set_cons_zero, List.set_cons_succ]
        refine held_call 12 24 45 #[arA a, .int .i64 (m : Int)] rfl rfl (by kernel_rfl) rfl (exec_call Try.func45 (by kernel_rfl) (by kernel_rfl) _) ?_
        refine (CT.out _).mono ?_
        rintro e u10 ⟨rfl, x10⟩
        have b10 := b8.trans (x10.mono b8.size)
        have g10_0 := blk_call g8 x10
        refine ⟨_, rfl, b10, ?_⟩
        simp only [Act.put, List.setIfInBounds_toArray, List.set_cons_zero, List.set_cons_succ]
        refine held_take 13 11 (abV (X, true)) rfl rfl (by kernel_rfl) (by kernel_rfl) (by kernel_rfl) (fun _ _ _ h => h) rfl b10 (fun w _ => rfl) ?_
        refine held_take 14 25 (arA X) rfl rfl (by kernel_rfl) (by kernel_rfl) (by kernel_rfl) (fun _ _ _ h => h) rfl b10 (fun w _ => rfl) ?_
        refine held_take 15 26 (.bool true) rfl rfl (by kernel_rfl) (by kernel_rfl) (by kernel_rfl) (fun _ _ _ h => h) rfl b10 (fun w _ => rfl) ?_
        simp only [Act.put, List.setIfInBounds_toArray, List.set_cons_zero, List.set_cons_succ]
        refine held_store 17 rfl rfl (by kernel_rfl) rfl (exec_storeA _ X _ g10_0) (put2_below (a := X) b10 l8) ?_
        have b11 := put2_below (a := X) b10 l8
        have g11_0 := put2_heap (a := X) g10_0
        refine held_op 18 6 (.bool true) rfl rfl (by kernel_rfl) rfl rfl b11 ?_
        simp only [Act.put, List.setIfInBounds_toArray, List.set_cons_zero, List.set_cons_succ]
        refine wpAnyH_done (by kernel_rfl) ?_ _
        have P : PutAr w2 X _ _ := ⟨b11, l8, g11_0⟩
        clear b11
        go_wp2_with fail
        go_meet
        exact ⟨_, rfl, P⟩
    case rest =>
      obtain ⟨g, rfl, hP⟩ := hcut
      have c0 := cell_of_row _ _ 0 _ _ _ hP.2.2
      have c1 := cell_of_row _ _ 1 _ _ _ hP.2.2
      simp at c0 c1
      have HP := Lib.hid hP
      clear hP
      go_wp2_with fail
      refine (CY.out _).mono ?_
      rintro e w5 ⟨rfl, b5⟩
      obtain ⟨⟨-, -, r0, r1⟩, ⟨-, -, y0, y1⟩, bW⟩ := KB.out w5 (HP.out.1.trans (b5.mono HP.out.1.size))
      unfold arA
      go_wp2
      simp [bodyPost, results, Try.results21, go_sem, r0, r1]
      exact ⟨rfl, (bW.setCell (by simp) _).setCell (by simp) _⟩
  · have HR : Hid (arA (leftA a k) = .agg #[.string a.data, .int .i64 a.safe]) := by
      show _ = _
      unfold leftA
      rw [if_neg hf]; rfl
    generalize arA (leftA a k) = R at *
    simp only [hf, decide_false] at C
    unfold arA at *
    go_enter Try.func21, Try.ntmps21
    go_wp2_with fail
    refine (C.out _).mono ?_
    rintro e w2 ⟨rfl, b2⟩
    obtain ⟨⟨q0, q1, r0, r1⟩, ⟨z0, z1, y0, y1⟩, bW⟩ := bx2 w w2 _ _ _ _ _ _ b2
    clear b2
    go_wp2
    simp [bodyPost, results, Try.results21, go_sem, q0, q1, r0, r1]
    exact ⟨HR.out.symm, (bW.setCell (by simp) _).setCell (by simp) _⟩
/-- The area that is visited at i. -/
def stAt (s : St) (i : Nat) : Ar := if i = 0 then s.log else if i = 1 then s.even else s.odd
/-- A store whose first i areas have crashed. -/
def fallI (s : St) (l : List Int) (i : Nat) : St := ⟨if 0 < i then leftA s.log (l.getD 0 0) else s.log, if 1 < i then leftA s.even (l.getD 1 0) else s.even, if 2 < i then leftA s.odd (l.getD 2 0) else s.odd⟩
theorem fallI_all (s : St) (l : List Int) : fallI s l 3 = fallS s l := rfl
theorem three {i : Nat} (h : i < 3) : i = 0 ∨ i = 1 ∨ i = 2 := by omega
theorem fallI_at (s : St) (l : List Int) (i : Nat) (h : i < 3) : (#[.string (fallI s l i).log.data, .int .i64 (fallI s l i).log.safe, .string (fallI s l i).even.data, .int .i64 (fallI s l i).even.safe, .string (fallI s l i).odd.data, .int .i64 (fallI s l i).odd.safe] : Array Value)[2 * i]? = some (.string (stAt s i).data) ∧ (#[.string (fallI s l i).log.data, .int .i64 (fallI s l i).log.safe, .string (fallI s l i).even.data, .int .i64 (fallI s l i).even.safe, .string (fallI s l i).odd.data, .int .i64 (fallI s l i).odd.safe] : Array Value)[2 * i + 1]? = some (.int .i64 (stAt s i).safe) := by
  rcases three h with rfl | rfl | rfl <;> exact ⟨rfl, rfl⟩
theorem fallI_set (s : St) (l : List Int) (i : Nat) (h : i < 3) : ((#[.string (fallI s l i).log.data, .int .i64 (fallI s l i).log.safe, .string (fallI s l i).even.data, .int .i64 (fallI s l i).even.safe, .string (fallI s l i).odd.data, .int .i64 (fallI s l i).odd.safe] : Array Value).setIfInBounds (2 * i) (.string (leftA (stAt s i) (l.getD i 0)).data)).setIfInBounds (2 * i + 1) (.int .i64 (leftA (stAt s i) (l.getD i 0)).safe) = #[.string (fallI s l (i + 1)).log.data, .int .i64 (fallI s l (i + 1)).log.safe, .string (fallI s l (i + 1)).even.data, .int .i64 (fallI s l (i + 1)).even.safe, .string (fallI s l (i + 1)).odd.data, .int .i64 (fallI s l (i + 1)).odd.safe] := by
  rcases three h with rfl | rfl | rfl <;> rfl
theorem stAt_go {s : St} (h : s.go) (i : Nat) : (stAt s i).go := by
  unfold stAt
  split
  · exact h.1
  · split
    · exact h.2.1
    · exact h.2.2
set_option maxRecDepth 100000 in
theorem exec_idx3 {ρ : Operand → Value} {o : Oper} {x y : Operand} (g i : Nat) (w : World) (h : i < 3) (ho : o.op = .indexAddr 59 x y := by rfl) (hx : ρ x = .pointer (some ⟨g, 0, none⟩) := by rfl) (hy : ρ y = .int .i64 (i : Int) := by rfl) :
    (execOp ρ o).run Try.prog w = .ok (.value (.pointer (some ⟨g, 2 * i, none⟩))) w := by
  unfold execOp
  rw [ho]
  have h1 : ¬ ((i : Int) < 0) := by omega
  have h2 : (i : Int) < 3 := by omega
  simp [go_sem, hx, hy, h1, h2]
end Go.Proofs.Ytcapioiigfldoaa
