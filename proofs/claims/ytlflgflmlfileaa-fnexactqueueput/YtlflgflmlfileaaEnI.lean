/- Chapter 7 of the program. -/
import Derived.Test.YtlflgflmlfileaaRows
import Derived.Test.YtlflgflmlfileaaEn4
import Derived.Test.YtlflgflmlfileaaSameI
import Derived.Test.YtlflgflmlfileaaCmpI
import Derived.Lib.AppendZeros
namespace Go.Proofs.Ytlflgflmlfileaa
open Go.RowKit
set_option linter.unusedSimpArgs false
set_option linter.unusedVariables false
/-- The order of entries as a number. -/
def ordV (a b : En) : Int := orV (cmpV a.lev b.lev) (cmpV a.turn b.turn)
set_option maxRecDepth 100000 in
set_option maxHeartbeats 1600000 in
theorem entryOrder_im (a b : En) (w : World) : Calls Try.prog 98 #[enA a, enA b] w fun e w' => e = .returned (.int .i64 (ordV a b)) ∧ Below w.heap.size w w' := by
  obtain ⟨W, hW⟩ : ∃ W, (w.alloc (.cells #[.int .i64 a.lev, .int .i64 a.turn, .int .i64 a.id, .int .i64 a.size] 26)).alloc (.cells #[.int .i64 b.lev, .int .i64 b.turn, .int .i64 b.id, .int .i64 b.size] 26) = W := ⟨_, rfl⟩
  have b0 : Hid (Below w.heap.size w W) := by
    show Below _ _ _
    rw [← hW]; exact ((Below.refl _ _).alloc (Nat.le_refl _) _).alloc (by simp) _
  have hWs : W.heap.size = w.heap.size + 2 := by rw [← hW]; simp
  have g1 : W.heap[w.heap.size]? = some (.cells #[.int .i64 a.lev, .int .i64 a.turn, .int .i64 a.id, .int .i64 a.size] 26) := by rw [← hW]; exact blk_alloc (heap_new _ _) _
  have g2 : W.heap[w.heap.size + 1]? = some (.cells #[.int .i64 b.lev, .int .i64 b.turn, .int .i64 b.id, .int .i64 b.size] 26) := by
    rw [← hW]
    have := heap_new (w.alloc (.cells #[.int .i64 a.lev, .int .i64 a.turn, .int .i64 a.id, .int .i64 a.size] 26)) (.cells #[.int .i64 b.lev, .int .i64 b.turn, .int .i64 b.id, .int .i64 b.size] 26)
    simpa using this
  have HA := Lib.hid (fun w' (h : Below W.heap.size W w') => En.here.blk (blk_call g1 h))
  have HB := Lib.hid (fun w' (h : Below W.heap.size W w') => En.here.blk (blk_call g2 h))
  clear g1 g2
  unfold enA
  go_enter Try.func98, Try.ntmps98
  go_wp2_with fail
  clear hW
  refine wp_region_held_drew (S := fun w' => Hid (Below W.heap.size W w')) (by kernel_rfl) (below_drawn (Below.refl _ _) 1) (fun hHeld => ?_)
  refine held_take 0 5 (.pointer (some ⟨w.heap.size, 0, none⟩)) rfl rfl (by kernel_rfl) (by kernel_rfl) (by kernel_rfl) (fun _ _ _ h => h) rfl hHeld (fun w _ => exec_fldEn _ 0 0 w (by omega)) ?_
  refine held_take 1 6 (.int .i64 a.lev) rfl rfl (by kernel_rfl) (by kernel_rfl) (by kernel_rfl) (fun _ _ _ h => h) rfl hHeld (fun w h => exec_load1 3 _ 0 _ w (.inl rfl) (HA.out w h.out).1) ?_
  simp only [Act.put, List.setIfInBounds_toArray, List.set_cons_zero, List.set_cons_succ]
  refine held_take 2 7 (.pointer (some ⟨w.heap.size + 1, 0, none⟩)) rfl rfl (by kernel_rfl) (by kernel_rfl) (by kernel_rfl) (fun _ _ _ h => h) rfl hHeld (fun w _ => exec_fldEn _ 0 0 w (by omega)) ?_
  refine held_take 3 8 (.int .i64 b.lev) rfl rfl (by kernel_rfl) (by kernel_rfl) (by kernel_rfl) (fun _ _ _ h => h) rfl hHeld (fun w h => exec_load1 3 _ 0 _ w (.inl rfl) (HB.out w h.out).1) ?_
  simp only [Act.put, List.setIfInBounds_toArray, List.set_cons_zero, List.set_cons_succ]
  refine held_take 5 10 (.pointer (some ⟨w.heap.size, 1, none⟩)) rfl rfl (by kernel_rfl) (by kernel_rfl) (by kernel_rfl) (fun _ _ _ h => h) rfl hHeld (fun w _ => exec_fldEn _ 0 1 w (by omega)) ?_
  refine held_take 6 11 (.int .i64 a.turn) rfl rfl (by kernel_rfl) (by kernel_rfl) (by kernel_rfl) (fun _ _ _ h => h) rfl hHeld (fun w h => exec_load1 3 _ 1 _ w (.inl rfl) (HA.out w h.out).2.1) ?_
  simp only [Act.put, List.setIfInBounds_toArray, List.set_cons_zero, List.set_cons_succ]
  refine held_take 7 12 (.pointer (some ⟨w.heap.size + 1, 1, none⟩)) rfl rfl (by kernel_rfl) (by kernel_rfl) (by kernel_rfl) (fun _ _ _ h => h) rfl hHeld (fun w _ => exec_fldEn _ 0 1 w (by omega)) ?_
  refine held_take 8 13 (.int .i64 b.turn) rfl rfl (by kernel_rfl) (by kernel_rfl) (by kernel_rfl) (fun _ _ _ h => h) rfl hHeld (fun w h => exec_load1 3 _ 1 _ w (.inl rfl) (HB.out w h.out).2.1) ?_
  simp only [Act.put, List.setIfInBounds_toArray, List.set_cons_zero, List.set_cons_succ]
  refine held_call 4 9 112 #[.int .i64 a.lev, .int .i64 b.lev] rfl rfl (by kernel_rfl) rfl (exec_call Try.func112 (by kernel_rfl) (by kernel_rfl) _) ?_
  refine (compare_im _ _ _).mono ?_
  rintro e u ⟨rfl, rfl⟩
  refine ⟨_, rfl, hHeld, ?_⟩
  simp only [Act.put, List.setIfInBounds_toArray, List.set_cons_zero, List.set_cons_succ]
  refine held_call 9 14 112 #[.int .i64 a.turn, .int .i64 b.turn] rfl rfl (by kernel_rfl) rfl (exec_call Try.func112 (by kernel_rfl) (by kernel_rfl) _) ?_
  refine (compare_im _ _ _).mono ?_
  rintro e u ⟨rfl, rfl⟩
  refine ⟨_, rfl, hHeld, ?_⟩
  have k1 := hHeld.out.alloc hHeld.out.size (.cells #[.int .i64 (cmpV a.lev b.lev), .int .i64 (cmpV a.turn b.turn)] 3)
  simp only [Act.put, List.setIfInBounds_toArray, List.set_cons_zero, List.set_cons_succ]
  refine held_op 10 15 (.slice (some ⟨W.drew.heap.size, 0, none⟩) 2 2) rfl rfl (by kernel_rfl) rfl (exec_two_int _ _ _) (Lib.hid k1) ?_
  simp only [Act.put, List.setIfInBounds_toArray, List.set_cons_zero, List.set_cons_succ]
  refine held_call 11 16 111 #[.slice (some ⟨W.drew.heap.size, 0, none⟩) 2 2] rfl rfl (by kernel_rfl) rfl (exec_call Try.func111 (by kernel_rfl) (by kernel_rfl) _) ?_
  refine (or_im _ 0 _ _ _ (cell_new2 _ _ _ _ 0 (by omega)) (cell_new2 _ _ _ _ 1 (by omega))).mono ?_
  rintro e u ⟨rfl, rfl⟩
  refine ⟨_, rfl, Lib.hid k1, ?_⟩
  simp only [Act.put, List.setIfInBounds_toArray, List.set_cons_zero, List.set_cons_succ]
  refine held_op 12 4 (.int .i64 (orV (cmpV a.lev b.lev) (cmpV a.turn b.turn))) rfl rfl (by kernel_rfl) rfl rfl (Lib.hid k1) ?_
  simp only [Act.put, List.setIfInBounds_toArray, List.set_cons_zero, List.set_cons_succ]
  refine wpAnyH_done (by kernel_rfl) ?_ _
  go_wp2
  go_ret
  exact ⟨rfl, b0.out.trans (k1.mono b0.out.size)⟩
theorem ord_less (a b : En) : decide (ordV a b < 0) = decide (En.less a b) := by
  unfold ordV orV cmpV En.less
  by_cases h1 : a.lev < b.lev
  · simp [h1]
  · by_cases h2 : b.lev < a.lev
    · have h3 : ¬ a.lev = b.lev := by omega
      simp [h1, h2, h3]
    · have h3 : a.lev = b.lev := by omega
      by_cases h4 : a.turn < b.turn
      · simp [h3, h4]
      · by_cases h5 : b.turn < a.turn
        · simp [h3, h4, h5]
        · simp [h3, h4, h5]
set_option maxRecDepth 100000 in
set_option maxHeartbeats 800000 in
theorem entryLess_impl (a b : En) (w : World) : Calls Try.prog 74 #[enA a, enA b] w fun e w' => e = .returned (.bool (decide (En.less a b))) ∧ Below w.heap.size w w' := by
  have b0 : Hid (Below w.heap.size w ((w.alloc (.cells #[.int .i64 a.lev, .int .i64 a.turn, .int .i64 a.id, .int .i64 a.size] 26)).alloc (.cells #[.int .i64 b.lev, .int .i64 b.turn, .int .i64 b.id, .int .i64 b.size] 26))) := ((Below.refl _ _).alloc (Nat.le_refl _) _).alloc (by simp) _
  have C := Lib.hid (fun w => entryOrder_im a b w)
  have HD := Lib.hid (ord_less a b)
  generalize ordV a b = z at *
  unfold enA at C
  unfold enA
  go_enter Try.func74, Try.ntmps74
  go_wp2_with fail
  refine (C.out _).mono ?_
  rintro e w1 ⟨rfl, b1⟩
  have B1 := Lib.hid (b0.out.trans (b1.mono b0.out.size))
  clear b1
  go_wp2
  go_ret
  exact ⟨by rw [← HD.out] <;> rfl, B1.out⟩
set_option maxRecDepth 100000 in
set_option maxHeartbeats 1600000 in
theorem indexFunc_at (p : En → Bool) (g : Nat) (A : Option Addr) (l : List En) (c : Nat) (w : World) (hl : l.length ≤ 2097152) (hA : Rws w w.heap.size A (l.flatMap enC))
    (hp : ∀ x w', Below w.heap.size w w' → Calls Try.prog 82 #[enA x, .pointer (some ⟨g, 0, none⟩)] w' fun e w'' => e = .returned (.bool (p x)) ∧ Below w'.heap.size w' w'') :
    Calls Try.prog 100 #[.slice A l.length c, .func (.func 82) #[] #[.pointer (some ⟨g, 0, none⟩)]] w fun e w' => e = .returned (.int .i64 (idxV (l.findIdx? p))) ∧ Below w.heap.size w w' := by
  have HP := Lib.hid hp
  clear hp
  go_enter Try.func100, Try.ntmps100
  go_wp2
  go_loopw [8] (fun i wr => ∃ k : Nat, k ≤ l.length ∧ i = .int .i64 k ∧ Hid (∀ j, j < k → p (l.getD j en0) = false) ∧ Hid (Below w.heap.size w wr)) (fun i _ => l.length - (intOf i).toNat)
  case atStart => exact ⟨0, by omega, rfl, (fun j hj => by omega), Below.refl _ _⟩
  case round =>
    obtain ⟨k, hk, rfl, hall, hb⟩ := hrel
    by_cases hlt : k < l.length
    · have hR := rws_below hA hb.out
      obtain ⟨b, off, rfl, hbB, hx⟩ := hR.en hlt
      clear hR
      have C := Lib.hid (HP.out (l.getD k en0) wr hb.out)
      have HI : Hid (p (l.getD k en0) = true → idxV (l.findIdx? p) = (k : Int)) := fun h => by rw [findIdx_at _ l en0 k hlt hall.out h]; rfl
      have HN : Hid (p (l.getD k en0) = false → ∀ j, j < k + 1 → p (l.getD j en0) = false) := fun h j hj => by
        by_cases e : j = k
        · subst e; exact h
        · exact hall.out j (by omega)
      clear hall
      generalize l.getD k en0 = x at *
      obtain ⟨c0, c1, c2, c3⟩ := hx
      unfold enA at C
      obtain ⟨q, hq⟩ : ∃ q, p x = q := ⟨_, rfl⟩
      rw [hq] at C HI HN
      clear hq
      go_wp2_with fail
      refine C.out.mono ?_
      rintro e w1 ⟨rfl, b1⟩
      have B1 := Lib.hid (hb.out.trans (b1.mono hb.out.size))
      clear b1 C c0 c1 c2 c3
      cases q with
      | true =>
        have HY := Lib.hid (HI.out rfl)
        clear HI HN
        go_wp2
        go_ret
        exact ⟨by rw [HY.out] <;> rfl, B1.out⟩
      | false =>
        have HA := Lib.hid (HN.out rfl)
        clear HI HN
        go_wp2
        go_roundw
        case rel => exact ⟨k + 1, by omega, by go_num, HA, B1⟩
        case measure => simp [intOf]; omega
    · obtain rfl : k = l.length := by omega
      have HN : Hid (idxV (l.findIdx? p) = -1) := by
        show _ = _
        rw [findIdx_no _ l en0 hall.out]; rfl
      clear hall
      go_wp2
      go_ret
      exact ⟨by rw [HN.out] <;> rfl, hb.out⟩
set_option maxRecDepth 100000 in
set_option maxHeartbeats 800000 in
theorem first_at (p : En → Bool) (g : Nat) (A : Option Addr) (l : List En) (c : Nat) (w : World) (hl : l.length ≤ 2097152) (hA : Rws w w.heap.size A (l.flatMap enC))
    (hp : ∀ x w', Below w.heap.size w w' → Calls Try.prog 82 #[enA x, .pointer (some ⟨g, 0, none⟩)] w' fun e w'' => e = .returned (.bool (p x)) ∧ Below w'.heap.size w' w'') :
    Calls Try.prog 81 #[.slice A l.length c, .func (.func 82) #[] #[.pointer (some ⟨g, 0, none⟩)]] w fun e w' => e = .returned (.int .i64 (idxV (l.findIdx? p))) ∧ Below w.heap.size w w' := by
  have C := Lib.hid (indexFunc_at p g A l c w hl hA hp)
  clear hp
  generalize idxV (l.findIdx? p) = z at *
  go_enter Try.func81, Try.ntmps81
  go_wp2_with fail
  refine C.out.mono ?_
  rintro e w1 ⟨rfl, b1⟩
  have B1 := Lib.hid b1
  clear b1 C
  go_wp2
  go_ret
  exact ⟨rfl, B1.out⟩
set_option maxRecDepth 100000 in
set_option maxHeartbeats 1600000 in
theorem indexFunc_place (p : En → Bool) (g : Nat) (A : Option Addr) (l : List En) (c : Nat) (w : World) (hl : l.length ≤ 2097152) (hA : Rws w w.heap.size A (l.flatMap enC))
    (hp : ∀ x w', Below w.heap.size w w' → Calls Try.prog 77 #[enA x, .pointer (some ⟨g, 0, none⟩)] w' fun e w'' => e = .returned (.bool (p x)) ∧ Below w'.heap.size w' w'') :
    Calls Try.prog 100 #[.slice A l.length c, .func (.func 77) #[] #[.pointer (some ⟨g, 0, none⟩)]] w fun e w' => e = .returned (.int .i64 (idxV (l.findIdx? p))) ∧ Below w.heap.size w w' := by
  have HP := Lib.hid hp
  clear hp
  go_enter Try.func100, Try.ntmps100
  go_wp2
  go_loopw [8] (fun i wr => ∃ k : Nat, k ≤ l.length ∧ i = .int .i64 k ∧ Hid (∀ j, j < k → p (l.getD j en0) = false) ∧ Hid (Below w.heap.size w wr)) (fun i _ => l.length - (intOf i).toNat)
  case atStart => exact ⟨0, by omega, rfl, (fun j hj => by omega), Below.refl _ _⟩
  case round =>
    obtain ⟨k, hk, rfl, hall, hb⟩ := hrel
    by_cases hlt : k < l.length
    · have hR := rws_below hA hb.out
      obtain ⟨b, off, rfl, hbB, hx⟩ := hR.en hlt
      clear hR
      have C := Lib.hid (HP.out (l.getD k en0) wr hb.out)
      have HI : Hid (p (l.getD k en0) = true → idxV (l.findIdx? p) = (k : Int)) := fun h => by rw [findIdx_at _ l en0 k hlt hall.out h]; rfl
      have HN : Hid (p (l.getD k en0) = false → ∀ j, j < k + 1 → p (l.getD j en0) = false) := fun h j hj => by
        by_cases e : j = k
        · subst e; exact h
        · exact hall.out j (by omega)
      clear hall
      generalize l.getD k en0 = x at *
      obtain ⟨c0, c1, c2, c3⟩ := hx
      unfold enA at C
      obtain ⟨q, hq⟩ : ∃ q, p x = q := ⟨_, rfl⟩
      rw [hq] at C HI HN
      clear hq
      go_wp2_with fail
      refine C.out.mono ?_
      rintro e w1 ⟨rfl, b1⟩
      have B1 := Lib.hid (hb.out.trans (b1.mono hb.out.size))
      clear b1 C c0 c1 c2 c3
      cases q with
      | true =>
        have HY := Lib.hid (HI.out rfl)
        clear HI HN
        go_wp2
        go_ret
        exact ⟨by rw [HY.out] <;> rfl, B1.out⟩
      | false =>
        have HA := Lib.hid (HN.out rfl)
        clear HI HN
        go_wp2
        go_roundw
        case rel => exact ⟨k + 1, by omega, by go_num, HA, B1⟩
        case measure => simp [intOf]; omega
    · obtain rfl : k = l.length := by omega
      have HN : Hid (idxV (l.findIdx? p) = -1) := by
        show _ = _
        rw [findIdx_no _ l en0 hall.out]; rfl
      clear hall
      go_wp2
      go_ret
      exact ⟨by rw [HN.out] <;> rfl, hb.out⟩
set_option maxRecDepth 100000 in
set_option maxHeartbeats 800000 in
theorem first_place (p : En → Bool) (g : Nat) (A : Option Addr) (l : List En) (c : Nat) (w : World) (hl : l.length ≤ 2097152) (hA : Rws w w.heap.size A (l.flatMap enC))
    (hp : ∀ x w', Below w.heap.size w w' → Calls Try.prog 77 #[enA x, .pointer (some ⟨g, 0, none⟩)] w' fun e w'' => e = .returned (.bool (p x)) ∧ Below w'.heap.size w' w'') :
    Calls Try.prog 81 #[.slice A l.length c, .func (.func 77) #[] #[.pointer (some ⟨g, 0, none⟩)]] w fun e w' => e = .returned (.int .i64 (idxV (l.findIdx? p))) ∧ Below w.heap.size w w' := by
  have C := Lib.hid (indexFunc_place p g A l c w hl hA hp)
  clear hp
  generalize idxV (l.findIdx? p) = z at *
  go_enter Try.func81, Try.ntmps81
  go_wp2_with fail
  refine C.out.mono ?_
  rintro e w1 ⟨rfl, b1⟩
  have B1 := Lib.hid b1
  clear b1 C
  go_wp2
  go_ret
  exact ⟨rfl, B1.out⟩
set_option maxRecDepth 100000 in
set_option maxHeartbeats 800000 in
theorem firstOrEnd_place (p : En → Bool) (g : Nat) (A : Option Addr) (l : List En) (c : Nat) (w : World) (hl : l.length ≤ 2097152) (hA : Rws w w.heap.size A (l.flatMap enC))
    (hp : ∀ x w', Below w.heap.size w w' → Calls Try.prog 77 #[enA x, .pointer (some ⟨g, 0, none⟩)] w' fun e w'' => e = .returned (.bool (p x)) ∧ Below w'.heap.size w' w'') :
    Calls Try.prog 76 #[.slice A l.length c, .func (.func 77) #[] #[.pointer (some ⟨g, 0, none⟩)]] w fun e w' => e = .returned (.int .i64 (endV p l : Nat)) ∧ Below w.heap.size w w' := by
  have C := Lib.hid (first_place p g A l c w hl hA hp)
  clear hp
  by_cases h : idxV (l.findIdx? p) < 0
  · have HE : Hid ((l.length : Int) = (endV p l : Int)) := (endV_no p l h).symm
    generalize endV p l = n at *
    generalize idxV (l.findIdx? p) = z at *
    have HV := True.intro
    clear HV
    go_enter Try.func76, Try.ntmps76
    go_wp2_with fail
    refine C.out.mono ?_
    rintro e w1 ⟨rfl, b1⟩
    have B1 := Lib.hid b1
    clear b1 C
    go_wp2
    go_ret
    exact ⟨by rw [← HE.out] <;> rfl, B1.out⟩
  · have HE := endV_yes p l h
    generalize endV p l = n at *
    generalize idxV (l.findIdx? p) = z at *
    subst HE
    have HV := True.intro
    clear HV
    go_enter Try.func76, Try.ntmps76
    go_wp2_with fail
    refine C.out.mono ?_
    rintro e w1 ⟨rfl, b1⟩
    have B1 := Lib.hid b1
    clear b1 C
    go_wp2
    go_ret
    exact ⟨rfl, B1.out⟩
theorem cell_lt {w : World} {g o : Nat} {v : Value} (h : w.cell? ⟨g, o, none⟩ = some v) : g < w.heap.size := by
  rcases Nat.lt_or_ge g w.heap.size with h1 | h1
  · exact h1
  · have : w.heap[g]? = none := Array.getElem?_eq_none h1
    simp [World.cell?, this] at h
set_option maxRecDepth 100000 in
set_option maxHeartbeats 800000 in
theorem at_test (x : En) (id : Int) (g : Nat) (w : World) (hg : w.cell? ⟨g, 0, none⟩ = some (.int .i64 id)) :
    Calls Try.prog 82 #[enA x, .pointer (some ⟨g, 0, none⟩)] w fun e w' => e = .returned (.bool (x.id == id)) ∧ Below w.heap.size w w' := by
  have b0 : Hid (Below w.heap.size w (w.alloc (.cells #[.int .i64 x.lev, .int .i64 x.turn, .int .i64 x.id, .int .i64 x.size] 26))) := (Below.refl _ _).alloc (Nat.le_refl _) _
  have hg' : (w.alloc (.cells #[.int .i64 x.lev, .int .i64 x.turn, .int .i64 x.id, .int .i64 x.size] 26)).cell? ⟨g, 0, none⟩ = some (.int .i64 id) := (b0.out.cell (cell_lt hg)).trans hg
  unfold enA
  go_enter Try.func82, Try.ntmps82
  go_wp2
  go_ret
  exact ⟨rfl, b0.out⟩
set_option maxRecDepth 100000 in
set_option maxHeartbeats 800000 in
theorem queueAt_impl (A : Option Addr) (l : List En) (c : Nat) (id : Int) (w : World) (hl : l.length ≤ 2097152) (hA : Rws w w.heap.size A (l.flatMap enC)) (hf : ∀ f ∈ l, f.fits) :
    Calls Try.prog 51 #[.slice A l.length c, .int .i64 id] w fun e w' => e = .returned (.int .i64 (enAt l id)) ∧ Below w.heap.size w w' := by
  have hmf : ∀ (fn : Fn) (first cap : Array Value) (w : World), (Instr.makeFunc fn first cap).run Try.prog w = .ok (.func fn first cap) w := fun _ _ _ _ => rfl
  have b0 : Hid (Below w.heap.size w (w.alloc (.cells #[.int .i64 id] 3))) := (Below.refl _ _).alloc (Nat.le_refl _) _
  have g0 : (w.alloc (.cells #[.int .i64 id] 3)).cell? ⟨w.heap.size, 0, none⟩ = some (.int .i64 id) := by simp
  have C := Lib.hid (first_at (fun x => x.id == id) w.heap.size A l c (w.alloc (.cells #[.int .i64 id] 3)) hl (rws_below hA b0.out) (fun x w' h => at_test x id w.heap.size w' ((h.cell (by simp)).trans g0)))
  have HE : Hid (idxV (l.findIdx? fun x => x.id == id) = enAt l id) := rfl
  rw [HE.out] at C
  clear HE g0
  generalize enAt l id = z at *
  go_enter Try.func51, Try.ntmps51
  go_wp2_with fail
  refine C.out.mono ?_
  rintro e w1 ⟨rfl, b1⟩
  have B1 := Lib.hid (b0.out.trans (b1.mono b0.out.size))
  clear b1 C
  go_wp2
  go_ret
  exact ⟨rfl, B1.out⟩
set_option maxRecDepth 100000 in
set_option maxHeartbeats 800000 in
theorem place_test (x y : En) (g : Nat) (w : World) (hg : En.here w g 0 y) :
    Calls Try.prog 77 #[enA x, .pointer (some ⟨g, 0, none⟩)] w fun e w' => e = .returned (.bool (!decide (En.less x y))) ∧ Below w.heap.size w w' := by
  have b0 : Hid (Below w.heap.size w (w.alloc (.cells #[.int .i64 x.lev, .int .i64 x.turn, .int .i64 x.id, .int .i64 x.size] 26))) := (Below.refl _ _).alloc (Nat.le_refl _) _
  obtain ⟨c0, c1, c2, c3⟩ := hg.below b0.out (cell_lt hg.1)
  clear hg
  have C := Lib.hid (fun w => entryLess_impl x y w)
  generalize decide (En.less x y) = q at *
  unfold enA at C
  unfold enA
  go_enter Try.func77, Try.ntmps77
  go_wp2_with fail
  refine (C.out _).mono ?_
  rintro e w1 ⟨rfl, b1⟩
  have B1 := Lib.hid (b0.out.trans (b1.mono b0.out.size))
  clear b1 C c0 c1 c2 c3
  go_wp2
  go_ret
  exact ⟨rfl, B1.out⟩
/-- Where an entry belongs. -/
def placeV (l : List En) (x : En) : Nat := ((l.findIdx? fun y => !decide (En.less y x))).getD l.length
theorem placeV_of (l : List En) (x : En) : (if idxV (l.findIdx? fun y => !decide (En.less y x)) < 0 then (l.length : Int) else idxV (l.findIdx? fun y => !decide (En.less y x))) = (placeV l x : Int) := by
  unfold placeV
  cases l.findIdx? fun y => !decide (En.less y x) with
  | none => simp [idxV]
  | some k =>
    have : ¬ ((k : Int) < 0) := by omega
    simp [idxV, this]
theorem placeV_le (l : List En) (x : En) : placeV l x ≤ l.length := by
  unfold placeV
  cases h : l.findIdx? fun y => !decide (En.less y x) with
  | none => simp
  | some k =>
    have := (List.findIdx?_eq_some_iff_getElem.1 h).1
    simp; omega
theorem enPut_place (l : List En) (x : En) : enPut l x = l.take (placeV l x) ++ [x] ++ l.drop (placeV l x) := by
  unfold enPut
  refine insP_at _ l x en0 _ (placeV_le l x) ?_ ?_
  · intro j hj
    unfold placeV at hj
    cases h : l.findIdx? fun y => !decide (En.less y x) with
    | none =>
      rw [h] at hj
      have := List.findIdx?_eq_none_iff.1 h (l.getD j en0) (by simp at hj; simp [List.getD_eq_getElem?_getD, hj])
      simpa using this
    | some k =>
      rw [h] at hj
      obtain ⟨hk, _, h2⟩ := List.findIdx?_eq_some_iff_getElem.1 h
      have hj' : j < k := by simpa using hj
      have := h2 j hj'
      simpa [List.getD_eq_getElem?_getD, (show j < l.length by omega)] using this
  · intro hlt
    unfold placeV at hlt ⊢
    cases h : l.findIdx? fun y => !decide (En.less y x) with
    | none => rw [h] at hlt; simp at hlt
    | some k =>
      obtain ⟨hk, h1, _⟩ := List.findIdx?_eq_some_iff_getElem.1 h
      simpa [List.getD_eq_getElem?_getD, hk] using h1
set_option maxRecDepth 100000 in
set_option maxHeartbeats 800000 in
theorem placeOf_im (A : Option Addr) (l : List En) (c : Nat) (x : En) (w : World) (hl : l.length ≤ 2097152) (hA : Rws w w.heap.size A (l.flatMap enC)) :
    Calls Try.prog 47 #[.slice A l.length c, enA x] w fun e w' => e = .returned (.int .i64 (placeV l x : Nat)) ∧ Below w.heap.size w w' := by
  have hmf : ∀ (fn : Fn) (first cap : Array Value) (w : World), (Instr.makeFunc fn first cap).run Try.prog w = .ok (.func fn first cap) w := fun _ _ _ _ => rfl
  have b0 : Hid (Below w.heap.size w (w.alloc (.cells #[.int .i64 x.lev, .int .i64 x.turn, .int .i64 x.id, .int .i64 x.size] 26))) := (Below.refl _ _).alloc (Nat.le_refl _) _
  have g0 := En.here.box (w := w) x 26
  have C := Lib.hid (firstOrEnd_place (fun y => !decide (En.less y x)) w.heap.size A l c (w.alloc (.cells #[.int .i64 x.lev, .int .i64 x.turn, .int .i64 x.id, .int .i64 x.size] 26)) hl (rws_below hA b0.out) (fun y w' h => place_test y x w.heap.size w' (g0.below h (by simp))))
  have HE : Hid (endV (fun y => !decide (En.less y x)) l = placeV l x) := rfl
  rw [HE.out] at C
  clear HE g0
  generalize placeV l x = n at *
  unfold enA
  go_enter Try.func47, Try.ntmps47
  go_wp2_with fail
  refine C.out.mono ?_
  rintro e w1 ⟨rfl, b1⟩
  have B1 := Lib.hid (b0.out.trans (b1.mono b0.out.size))
  clear b1 C
  go_wp2
  go_ret
  exact ⟨rfl, B1.out⟩
set_option maxRecDepth 100000 in
set_option maxHeartbeats 1600000 in
theorem entryOk_im (x : En) (w : World) : Calls Try.prog 73 #[enA x] w fun e w' => e = .returned (.bool (decide x.inn)) ∧ Below w.heap.size w w' := by
  have b0 : Hid (Below w.heap.size w (w.alloc (.cells #[.int .i64 x.lev, .int .i64 x.turn, .int .i64 x.id, .int .i64 x.size] 26))) := (Below.refl _ _).alloc (Nat.le_refl _) _
  unfold enA
  by_cases h0 : 0 ≤ x.lev ∧ x.lev ≤ 4
  rotate_left
  · have HF : Hid (decide x.inn = false) := decide_eq_false (fun h => h0 h.1)
    go_enter Try.func73, Try.ntmps73
    go_wp2_with (go_at_call 97; first | (refine (within_yes _ _ _ _ (by omega)).mono ?_; rintro e w' ⟨rfl, rfl⟩) | (refine (within_no _ _ _ _ (by omega)).mono ?_; rintro e w' ⟨rfl, rfl⟩))
    go_ret
    exact ⟨by rw [HF.out] <;> rfl, b0.out⟩
  by_cases h1 : 1 ≤ x.turn ∧ x.turn ≤ 1000000
  rotate_left
  · have HF : Hid (decide x.inn = false) := decide_eq_false (fun h => h1 h.2.1)
    go_enter Try.func73, Try.ntmps73
    go_wp2_with (go_at_call 97; first | (refine (within_yes _ _ _ _ (by omega)).mono ?_; rintro e w' ⟨rfl, rfl⟩) | (refine (within_no _ _ _ _ (by omega)).mono ?_; rintro e w' ⟨rfl, rfl⟩))
    go_ret
    exact ⟨by rw [HF.out] <;> rfl, b0.out⟩
  by_cases h2 : 1 ≤ x.id ∧ x.id ≤ 999
  rotate_left
  · have HF : Hid (decide x.inn = false) := decide_eq_false (fun h => h2 h.2.2.1)
    go_enter Try.func73, Try.ntmps73
    go_wp2_with (go_at_call 97; first | (refine (within_yes _ _ _ _ (by omega)).mono ?_; rintro e w' ⟨rfl, rfl⟩) | (refine (within_no _ _ _ _ (by omega)).mono ?_; rintro e w' ⟨rfl, rfl⟩))
    go_ret
    exact ⟨by rw [HF.out] <;> rfl, b0.out⟩
  by_cases h3 : 1 ≤ x.size ∧ x.size ≤ 6
  rotate_left
  · have HF : Hid (decide x.inn = false) := decide_eq_false (fun h => h3 h.2.2.2)
    go_enter Try.func73, Try.ntmps73
    go_wp2_with (go_at_call 97; first | (refine (within_yes _ _ _ _ (by omega)).mono ?_; rintro e w' ⟨rfl, rfl⟩) | (refine (within_no _ _ _ _ (by omega)).mono ?_; rintro e w' ⟨rfl, rfl⟩))
    go_ret
    exact ⟨by rw [HF.out] <;> rfl, b0.out⟩
  · have HF : Hid (decide x.inn = true) := decide_eq_true ⟨h0, h1, h2, h3⟩
    go_enter Try.func73, Try.ntmps73
    go_wp2_with (go_at_call 97; first | (refine (within_yes _ _ _ _ (by omega)).mono ?_; rintro e w' ⟨rfl, rfl⟩) | (refine (within_no _ _ _ _ (by omega)).mono ?_; rintro e w' ⟨rfl, rfl⟩))
    go_ret
    exact ⟨by rw [HF.out] <;> rfl, b0.out⟩
set_option maxRecDepth 100000 in
set_option maxHeartbeats 1600000 in
theorem queueOk_impl (A : Option Addr) (l : List En) (c : Nat) (w : World) (hl : l.length ≤ 2097153) (hA : Rws w w.heap.size A (l.flatMap enC)) (hf : ∀ f ∈ l, f.fits) :
    Calls Try.prog 44 #[.slice A l.length c] w fun e w' => e = .returned (.bool (quB l)) ∧ Below w.heap.size w w' := by
  by_cases h10 : l.length ≤ 10
  rotate_left
  · have HF := Lib.hid (quB_big h10)
    go_enter Try.func44, Try.ntmps44
    go_wp2
    go_ret
    exact ⟨by rw [HF.out] <;> rfl, Below.refl _ _⟩
  go_enter Try.func44, Try.ntmps44
  go_wp2
  go_loopw [10] (fun i wr => ∃ k : Nat, k ≤ l.length ∧ i = .int .i64 k ∧ Hid (∀ j, j < k → enOk l j) ∧ Below w.heap.size w wr) (fun i _ => l.length - (intOf i).toNat)
  case atStart => exact ⟨0, by omega, rfl, (fun j hj => by omega), Below.refl _ _⟩
  case round =>
    obtain ⟨k, hk, rfl, hall, hb⟩ := hrel
    by_cases hlt : k < l.length
    rotate_left
    · obtain rfl : k = l.length := by omega
      have HY := Lib.hid (quB_yes h10 hall.out)
      clear hall
      go_wp2
      go_ret
      exact ⟨by rw [HY.out] <;> rfl, hb⟩
    have hR := rws_below hA hb
    obtain ⟨b, off, rfl, hbB, hx⟩ := hR.en hlt
    have HR := Lib.hid hR
    clear hR
    generalize hxe : l.getD k en0 = x at *
    obtain ⟨c0, c1, c2, c3⟩ := hx
    have hsz := hb.size
    have bu : Below w.heap.size w (wr.alloc (.cells #[.int .i64 x.lev, .int .i64 x.turn, .int .i64 x.id, .int .i64 x.size] 26)) := hb.alloc hb.size _
    obtain ⟨u, hu⟩ : ∃ u, wr.alloc (.cells #[.int .i64 x.lev, .int .i64 x.turn, .int .i64 x.id, .int .i64 x.size] 26) = u := ⟨_, rfl⟩
    rw [hu] at bu
    have gx : u.heap[wr.heap.size]? = some (.cells #[.int .i64 x.lev, .int .i64 x.turn, .int .i64 x.id, .int .i64 x.size] 26) := by rw [← hu]; exact heap_new _ _
    have BF := Lib.hid bu
    have bru : Hid (Below wr.heap.size wr u) := by show Below _ _ _; rw [← hu]; exact (Below.refl _ _).alloc (Nat.le_refl _) _
    have HU := Lib.hid hu
    clear bu hb hu
    have CO := Lib.hid (entryOk_im x u)
    unfold enA at CO
    by_cases hin : x.inn
    rotate_left
    · have HF := Lib.hid (quB_no hlt (by unfold enOk; rw [hxe]; rintro ⟨r, _⟩; exact hin r))
      rw [decide_eq_false hin] at CO
      clear hxe hall hin
      go_wp2_with fail
      rw [HU.out]
      refine CO.out.mono ?_
      rintro e u1 ⟨rfl, b1⟩
      have BF := Lib.hid (BF.out.trans (b1.mono BF.out.size))
      clear b1 CO gx bru
      go_wp2
      go_ret
      exact ⟨by rw [HF.out] <;> rfl, BF.out⟩
    rw [decide_eq_true hin] at CO
    have CA : Hid (∀ w', Below u.heap.size u w' → Calls Try.prog 51 #[.slice (some ⟨b, off, none⟩) l.length c, .int .i64 x.id] w' fun e w'' => e = .returned (.int .i64 (enAt l x.id)) ∧ Below w'.heap.size w' w'') := fun w' h => queueAt_impl _ l c x.id w' (by omega) (rws_below (rws_below HR.out bru.out) h) hf
    have HOK : Hid (enOk l k ↔ ((0 < k → En.less (l.getD (k - 1) en0) x) ∧ enAt l x.id = (k : Int))) := by
      show _ ↔ _
      unfold enOk
      rw [hxe]
      simp [hin]
    have hall2 : Hid (enOk l k → ∀ j, j < k + 1 → enOk l j) := fun h j hj => by
      by_cases e : j = k
      · subst e; exact h
      · exact hall.out j (by omega)
    clear hall hxe hin
    generalize enAt l x.id = AT at *
    go_wp2_with fail
    rw [HU.out]
    clear HU
    refine CO.out.mono ?_
    rintro e u1 ⟨rfl, b1⟩
    have g1 := blk_call gx b1
    have CA := Lib.hid (CA.out u1 b1)
    obtain ⟨k0, k1, k2, k3⟩ := En.here.blk g1
    have BU := Lib.hid b1
    have BF := Lib.hid (BF.out.trans (b1.mono BF.out.size))
    clear CO b1
    go_wp2_with fail
    refine CA.out.mono ?_
    rintro e u2 ⟨rfl, b2⟩
    have g2 := blk_call g1 b2
    have BU : Hid (Below u.heap.size u u2) := BU.out.trans (b2.mono BU.out.size)
    have BF := Lib.hid (BF.out.trans (b2.mono BF.out.size))
    have KX := Lib.hid (fun w' (h : Below u2.heap.size u2 w') => En.here.blk (blk_call g2 h))
    clear CA b2 k0 k1 k2 k3 g1 gx g2
    by_cases hD : AT = (k : Int)
    rotate_left
    · have hD' : (AT != (k : Int)) = true := by simp [hD]
      have HF := Lib.hid (quB_no hlt (fun h => hD (HOK.out.1 h).2))
      clear HOK hall2
      go_wp2
      go_ret
      exact ⟨by rw [HF.out] <;> rfl, BF.out⟩
    have hD' : (AT != (k : Int)) = false := by simp [hD]
    have HOK : Hid (enOk l k ↔ (0 < k → En.less (l.getD (k - 1) en0) x)) := by
      show _ ↔ _
      rw [HOK.out]; simp [hD]
    clear hD
    by_cases hk0 : k = 0
    · subst hk0
      have HA := Lib.hid (hall2.out (HOK.out.2 (fun h => absurd h (by omega))))
      clear HOK hall2
      go_wp2_with fail
      refine wp_region_held_drew (S := fun w' => Hid (Below u2.heap.size u2 w')) (by kernel_rfl) (below_drawn (Below.refl _ _) 1) (fun hHeld => ?_)
      refine held_take 0 26 (.int .i64 ((0 : Nat) : Int)) rfl rfl (by kernel_rfl) (by kernel_rfl) (by kernel_rfl) (fun _ _ _ h => h) rfl hHeld (fun w _ => rfl) ?_
      refine held_take 1 27 (.bool false) rfl rfl (by kernel_rfl) (by kernel_rfl) (by kernel_rfl) (fun _ _ _ h => h) rfl hHeld (fun w _ => exec_gtrI ((0 : Nat) : Int) 0 _ w (by simp)) ?_
      refine held_take 2 28 (.bool false) rfl rfl (by kernel_rfl) (by kernel_rfl) (by kernel_rfl) (fun _ _ _ h => h) rfl hHeld (fun w _ => rfl) ?_
      simp only [Act.put, List.setIfInBounds_toArray, List.set_cons_zero, List.set_cons_succ]
      refine held_skip 3 29 rfl rfl (by kernel_rfl) (by kernel_rfl) (by kernel_rfl) (fun _ _ _ h => h) rfl hHeld ?_
      refine held_skip 4 30 rfl rfl (by kernel_rfl) (by kernel_rfl) (by kernel_rfl) (fun _ _ _ h => h) rfl hHeld ?_
      refine held_skip 5 31 rfl rfl (by kernel_rfl) (by kernel_rfl) (by kernel_rfl) (fun _ _ _ h => h) rfl hHeld ?_
      simp only [Act.put, List.setIfInBounds_toArray, List.set_cons_zero, List.set_cons_succ]
      refine held_skip 6 32 rfl rfl (by kernel_rfl) (by kernel_rfl) (by kernel_rfl) (fun _ _ _ h => h) rfl hHeld ?_
      refine held_skip 7 33 rfl rfl (by kernel_rfl) (by kernel_rfl) (by kernel_rfl) (fun _ _ _ h => h) rfl hHeld ?_
      refine held_skip 8 34 rfl rfl (by kernel_rfl) (by kernel_rfl) (by kernel_rfl) (fun _ _ _ h => h) rfl hHeld ?_
      simp only [Act.put, List.setIfInBounds_toArray, List.set_cons_zero, List.set_cons_succ]
      refine held_skip 9 35 rfl rfl (by kernel_rfl) (by kernel_rfl) (by kernel_rfl) (fun _ _ _ h => h) rfl hHeld ?_
      refine held_skip 10 36 rfl rfl (by kernel_rfl) (by kernel_rfl) (by kernel_rfl) (fun _ _ _ h => h) rfl hHeld ?_
      simp only [Act.put, List.setIfInBounds_toArray, List.set_cons_zero, List.set_cons_succ]
      refine held_take 11 37 (.bool false) rfl rfl (by kernel_rfl) (by kernel_rfl) (by kernel_rfl) (fun _ _ _ h => h) rfl hHeld (fun w _ => exec_pickF _ w) ?_
      simp only [Act.put, List.setIfInBounds_toArray, List.set_cons_zero, List.set_cons_succ]
      refine wpAnyH_done (by kernel_rfl) ?_ _
      have BF := Lib.hid (BF.out.trans (hHeld.out.mono BF.out.size))
      clear hHeld
      go_wp2
      go_roundw
      case rel => exact ⟨0 + 1, by omega, by go_num, HA, BF.out⟩
      case measure => simp [intOf]; omega
    have hkp : 0 < k := by omega
    obtain ⟨b', off', e', _, hy⟩ := HR.out.en (i := k - 1) (by omega)
    obtain ⟨rfl, rfl⟩ : b' = b ∧ off' = off := by injection e' with e'; injection e' with e1 e2; exact ⟨e1.symm, e2.symm⟩
    have KY : Hid (∀ w', Below u2.heap.size u2 w' → En.here w' b' (off' + (k - 1) * 4) (l.getD (k - 1) en0)) := fun w' h => ((hy.below bru.out hbB).below BU.out (by have := bru.out.size; omega)).below h (by have := bru.out.size; have := BU.out.size; omega)
    clear hy e'
    generalize l.getD (k - 1) en0 = y at *
    have CL := Lib.hid (fun w => entryLess_impl y x w)
    by_cases hle : En.less y x
    · rw [decide_eq_true hle] at CL
      have HA := Lib.hid (hall2.out (HOK.out.2 (fun _ => hle)))
      clear HOK hall2 hle
      go_wp2_with fail
      refine wp_region_held_drew (S := fun w' => Hid (Below u2.heap.size u2 w')) (by kernel_rfl) (below_drawn (Below.refl _ _) 1) (fun hHeld => ?_)
      refine held_take 0 26 (.int .i64 (k : Int)) rfl rfl (by kernel_rfl) (by kernel_rfl) (by kernel_rfl) (fun _ _ _ h => h) rfl hHeld (fun w _ => rfl) ?_
      refine held_take 1 27 (.bool true) rfl rfl (by kernel_rfl) (by kernel_rfl) (by kernel_rfl) (fun _ _ _ h => h) rfl hHeld (fun w _ => exec_gtrI (k : Int) 0 _ w (by simp; omega)) ?_
      refine held_take 2 28 (.bool true) rfl rfl (by kernel_rfl) (by kernel_rfl) (by kernel_rfl) (fun _ _ _ h => h) rfl hHeld (fun w _ => rfl) ?_
      simp only [Act.put, List.setIfInBounds_toArray, List.set_cons_zero, List.set_cons_succ]
      refine held_take 3 29 (.slice (some ⟨b', off', none⟩) l.length c) rfl rfl (by kernel_rfl) (by kernel_rfl) (by kernel_rfl) (fun _ _ _ h => h) rfl hHeld (fun w _ => rfl) ?_
      refine held_take 4 30 (.int .i64 (k : Int)) rfl rfl (by kernel_rfl) (by kernel_rfl) (by kernel_rfl) (fun _ _ _ h => h) rfl hHeld (fun w _ => rfl) ?_
      refine held_take 5 31 (.int .i64 ((k - 1 : Nat) : Int)) rfl rfl (by kernel_rfl) (by kernel_rfl) (by kernel_rfl) (fun _ _ _ h => h) rfl hHeld (fun w _ => exec_subI (k : Int) 1 _ w (by omega) (by omega) (by omega)) ?_
      simp only [Act.put, List.setIfInBounds_toArray, List.set_cons_zero, List.set_cons_succ]
      refine held_take 6 32 (.pointer (some ⟨b', off' + (k - 1) * 4, none⟩)) rfl rfl (by kernel_rfl) (by kernel_rfl) (by kernel_rfl) (fun _ _ _ h => h) rfl hHeld (fun w _ => exec_idx_en b' off' l.length c (k - 1) w (by omega)) ?_
      refine held_take 7 33 (enA y) rfl rfl (by kernel_rfl) (by kernel_rfl) (by kernel_rfl) (fun _ _ _ h => h) rfl hHeld (fun w h => exec_load_en b' (off' + (k - 1) * 4) y w (KY.out w h.out)) ?_
      refine held_take 8 34 (enA x) rfl rfl (by kernel_rfl) (by kernel_rfl) (by kernel_rfl) (fun _ _ _ h => h) rfl hHeld (fun w h => exec_load_en wr.heap.size 0 x w (KX.out w h.out)) ?_
      simp only [Act.put, List.setIfInBounds_toArray, List.set_cons_zero, List.set_cons_succ]
      refine held_call 9 35 74 #[enA y, enA x] rfl rfl (by kernel_rfl) rfl (exec_call Try.func74 (by kernel_rfl) (by kernel_rfl) _) ?_
      refine (CL.out _).mono ?_
      rintro e u3 ⟨rfl, x3⟩
      have hHeld : Hid (Below u2.heap.size u2 u3) := hHeld.out.trans (x3.mono hHeld.out.size)
      refine ⟨_, rfl, hHeld, ?_⟩
      simp only [Act.put, List.setIfInBounds_toArray, List.set_cons_zero, List.set_cons_succ]
      refine held_take 10 36 (.bool false) rfl rfl (by kernel_rfl) (by kernel_rfl) (by kernel_rfl) (fun _ _ _ h => h) rfl hHeld (fun w _ => rfl) ?_
      refine held_take 11 37 (.bool false) rfl rfl (by kernel_rfl) (by kernel_rfl) (by kernel_rfl) (fun _ _ _ h => h) rfl hHeld (fun w _ => exec_pickT _ w) ?_
      simp only [Act.put, List.setIfInBounds_toArray, List.set_cons_zero, List.set_cons_succ]
      refine wpAnyH_done (by kernel_rfl) ?_ _
      have BF := Lib.hid (BF.out.trans (hHeld.out.mono BF.out.size))
      clear hHeld x3
      go_wp2
      go_roundw
      case rel => exact ⟨k + 1, by omega, by go_num, HA, BF.out⟩
      case measure => simp [intOf]; omega
    · rw [decide_eq_false hle] at CL
      have HF := Lib.hid (quB_no hlt (fun h => hle (HOK.out.1 h hkp)))
      clear HOK hall2 hle
      go_wp2_with fail
      refine wp_region_held_drew (S := fun w' => Hid (Below u2.heap.size u2 w')) (by kernel_rfl) (below_drawn (Below.refl _ _) 1) (fun hHeld => ?_)
      refine held_take 0 26 (.int .i64 (k : Int)) rfl rfl (by kernel_rfl) (by kernel_rfl) (by kernel_rfl) (fun _ _ _ h => h) rfl hHeld (fun w _ => rfl) ?_
      refine held_take 1 27 (.bool true) rfl rfl (by kernel_rfl) (by kernel_rfl) (by kernel_rfl) (fun _ _ _ h => h) rfl hHeld (fun w _ => exec_gtrI (k : Int) 0 _ w (by simp; omega)) ?_
      refine held_take 2 28 (.bool true) rfl rfl (by kernel_rfl) (by kernel_rfl) (by kernel_rfl) (fun _ _ _ h => h) rfl hHeld (fun w _ => rfl) ?_
      simp only [Act.put, List.setIfInBounds_toArray, List.set_cons_zero, List.set_cons_succ]
      refine held_take 3 29 (.slice (some ⟨b', off', none⟩) l.length c) rfl rfl (by kernel_rfl) (by kernel_rfl) (by kernel_rfl) (fun _ _ _ h => h) rfl hHeld (fun w _ => rfl) ?_
      refine held_take 4 30 (.int .i64 (k : Int)) rfl rfl (by kernel_rfl) (by kernel_rfl) (by kernel_rfl) (fun _ _ _ h => h) rfl hHeld (fun w _ => rfl) ?_
      refine held_take 5 31 (.int .i64 ((k - 1 : Nat) : Int)) rfl rfl (by kernel_rfl) (by kernel_rfl) (by kernel_rfl) (fun _ _ _ h => h) rfl hHeld (fun w _ => exec_subI (k : Int) 1 _ w (by omega) (by omega) (by omega)) ?_
      simp only [Act.put, List.setIfInBounds_toArray, List.set_cons_zero, List.set_cons_succ]
      refine held_take 6 32 (.pointer (some ⟨b', off' + (k - 1) * 4, none⟩)) rfl rfl (by kernel_rfl) (by kernel_rfl) (by kernel_rfl) (fun _ _ _ h => h) rfl hHeld (fun w _ => exec_idx_en b' off' l.length c (k - 1) w (by omega)) ?_
      refine held_take 7 33 (enA y) rfl rfl (by kernel_rfl) (by kernel_rfl) (by kernel_rfl) (fun _ _ _ h => h) rfl hHeld (fun w h => exec_load_en b' (off' + (k - 1) * 4) y w (KY.out w h.out)) ?_
      refine held_take 8 34 (enA x) rfl rfl (by kernel_rfl) (by kernel_rfl) (by kernel_rfl) (fun _ _ _ h => h) rfl hHeld (fun w h => exec_load_en wr.heap.size 0 x w (KX.out w h.out)) ?_
      simp only [Act.put, List.setIfInBounds_toArray, List.set_cons_zero, List.set_cons_succ]
      refine held_call 9 35 74 #[enA y, enA x] rfl rfl (by kernel_rfl) rfl (exec_call Try.func74 (by kernel_rfl) (by kernel_rfl) _) ?_
      refine (CL.out _).mono ?_
      rintro e u3 ⟨rfl, x3⟩
      have hHeld : Hid (Below u2.heap.size u2 u3) := hHeld.out.trans (x3.mono hHeld.out.size)
      refine ⟨_, rfl, hHeld, ?_⟩
      simp only [Act.put, List.setIfInBounds_toArray, List.set_cons_zero, List.set_cons_succ]
      refine held_take 10 36 (.bool true) rfl rfl (by kernel_rfl) (by kernel_rfl) (by kernel_rfl) (fun _ _ _ h => h) rfl hHeld (fun w _ => rfl) ?_
      refine held_take 11 37 (.bool true) rfl rfl (by kernel_rfl) (by kernel_rfl) (by kernel_rfl) (fun _ _ _ h => h) rfl hHeld (fun w _ => exec_pickT _ w) ?_
      simp only [Act.put, List.setIfInBounds_toArray, List.set_cons_zero, List.set_cons_succ]
      refine wpAnyH_done (by kernel_rfl) ?_ _
      have BF := Lib.hid (BF.out.trans (hHeld.out.mono BF.out.size))
      clear hHeld x3
      go_wp2
      go_ret
      exact ⟨by rw [HF.out] <;> rfl, BF.out⟩
set_option maxRecDepth 100000 in
theorem rowQue : RowT 78 26 4 32 (.agg #[.int .i64 0, .int .i64 0, .int .i64 0, .int .i64 0]) := ⟨Try.underlying78, by kernel_rfl, rfl, by omega, by omega⟩
set_option maxRecDepth 100000 in
set_option maxHeartbeats 800000 in
theorem grow_im (n : Nat) (w : World) (hn : n ≤ 1073741824) :
    Calls Try.prog 99 #[.slice none 0 0, .int .i64 (n : Int)] w (NewR 26 4 w 0 []) := by
  by_cases h0 : n = 0
  · subst h0
    have R : Hid (NewR 26 4 w 0 [] (.returned (.slice none 0 0)) w) := ⟨none, 0, rfl, World.ownsRow_nil _ _ _ _, Below.refl _ _⟩
    go_enter Try.func99, Try.ntmps99
    go_wp2
    go_ret
    exact R.out
  · obtain ⟨i0, hi, hz0, hz1, hz2⟩ := info_parts rowQue.inf
    have hpos : 0 < n := by omega
    have HR := Lib.hid (fun ty => Lib.run_append_nil_zeros (P := Try.prog) w 78 3 ty 26 i0 _ .i64 .i64 rowQue.ut Try.underlying3 hi hz0 n hpos (by rw [hz1]; omega) (by omega) (by rw [hz2]; omega))
    have hm : grownCap w n 0 26 ≤ maxLen := grownCap_le_maxLen _ _ _ _ (by unfold maxLen; omega)
    have hge := grownCap_ge w n 0 26
    have hO := World.ownsRow_made (base := w.heap.size) (e := 26) (size := 4) w.drew (Builtin.zeroCells (Value.agg #[.int .i64 0, .int .i64 0, .int .i64 0, .int .i64 0]).cells n ++ Builtin.zeroCells (Value.agg #[.int .i64 0, .int .i64 0, .int .i64 0, .int .i64 0]).cells (grownCap w n 0 26 - n)) (grownCap w n 0 26) (by simp) hm
      (by rw [Array.size_append, size_zeroCells, size_zeroCells]; show n * 4 + _ * 4 = _; omega)
    have hB : Below w.heap.size w (w.drew.alloc (.cells (Builtin.zeroCells (Value.agg #[.int .i64 0, .int .i64 0, .int .i64 0, .int .i64 0]).cells n ++ Builtin.zeroCells (Value.agg #[.int .i64 0, .int .i64 0, .int .i64 0, .int .i64 0]).cells (grownCap w n 0 26 - n)) 26)) := (Below.refl _ _).drew.alloc (by simp) _
    have R : Hid (NewR 26 4 w 0 [] (.returned (.slice (some ⟨w.heap.size, 0, none⟩) 0 (grownCap w n 0 26))) _) := ⟨_, _, rfl, hO, hB⟩
    clear hO hB hm
    generalize grownCap w n 0 26 = G at *
    generalize w.drew.alloc (.cells (Builtin.zeroCells (Value.agg #[.int .i64 0, .int .i64 0, .int .i64 0, .int .i64 0]).cells n ++ Builtin.zeroCells (Value.agg #[.int .i64 0, .int .i64 0, .int .i64 0, .int .i64 0]).cells (G - n)) 26) = W at *
    go_enter Try.func99, Try.ntmps99
    go_wp2_with (at_builtin; refine Lib.wpList_append_run _ rfl _ _ _ _ rfl _ _ rfl rfl _ _ (HR.out _) ?_)
    go_ret
    exact R.out
/-- A slice of entries. -/
structure Pq where
  A : Option Addr
  c : Nat
  l : List En
def Pq.v (p : Pq) : Value := .slice p.A p.l.length p.c
def pq0 : Pq := ⟨none, 0, []⟩
def Pq.ok (w : World) (p : Pq) : Prop := p.l.length ≤ 2097153 ∧ (p.A = none → p.c = 0) ∧ Rws w w.heap.size p.A (p.l.flatMap enC)
def catQ (L : List Pq) (k : Nat) : List En := (L.take k).flatMap (·.l)
theorem catQ_succ (L : List Pq) (k : Nat) (hk : k < L.length) : catQ L (k + 1) = catQ L k ++ (L.getD k pq0).l := by
  unfold catQ
  rw [List.take_add_one, List.flatMap_append, List.getD_eq_getElem?_getD, List.getElem?_eq_getElem hk]
  simp
theorem catQ_le (L : List Pq) (h : ∀ i, i < L.length → (L.getD i pq0).l.length ≤ 2097153) : ∀ k, k ≤ L.length → (catQ L k).length ≤ k * 2097153
  | 0, _ => by simp [catQ]
  | k + 1, hk => by
    rw [catQ_succ L k (by omega), List.length_append]
    have h1 := catQ_le L h k (by omega)
    have h2 := h k (by omega)
    omega
set_option maxRecDepth 100000 in
set_option maxHeartbeats 1600000 in
theorem concat_im (L : List Pq) (g off : Nat) (w : World) (hL : L.length ≤ 3) (hgl : g < w.heap.size) (hc : ∀ i, i < L.length → w.cell? ⟨g, off + i, none⟩ = some (L.getD i pq0).v) (hp : ∀ i, i < L.length → (L.getD i pq0).ok w) :
    Calls Try.prog 75 #[.slice (some ⟨g, off, none⟩) L.length L.length] w (NewR 26 4 w (catQ L L.length).length ((catQ L L.length).flatMap enC)) := by
  have HL := Lib.hid (fun k hk => catQ_le L (fun i hi => (hp i hi).1) k hk)
  have HC := Lib.hid hc
  have HP := Lib.hid hp
  clear hc hp
  go_enter Try.func75, Try.ntmps75
  go_wp2
  go_loop [3, 11] (fun z i => ∃ k : Nat, k ≤ L.length ∧ i = .int .i64 k ∧ z = .int .i64 ((catQ L k).length : Nat)) (fun _ i => L.length - (intOf i).toNat)
  case atStart => exact ⟨0, by omega, rfl, rfl⟩
  case round =>
    obtain ⟨k, hk, rfl, rfl⟩ := hrel
    by_cases hlt : k < L.length
    · have hc := HC.out k hlt
      unfold Pq.v at hc
      have hl1 := HL.out k hk
      have hl2 := HL.out (k + 1) hlt
      have HE := Lib.hid (catQ_succ L k hlt)
      have hl3 : (catQ L (k + 1)).length = (catQ L k).length + (L.getD k pq0).l.length := by rw [HE.out, List.length_append]
      rw [hl3] at hl2
      have H3 := Lib.hid hl3
      clear hl3 HE
      generalize L.getD k pq0 = p at *
      generalize (catQ L k).length = n at *
      go_wp2
      go_round
      case rel => exact ⟨k + 1, by omega, by go_num, by rw [H3.out]; go_num⟩
      case measure => simp [intOf]; omega
    · obtain rfl : k = L.length := by omega
      have hl1 := HL.out L.length (Nat.le_refl _)
      have CG := Lib.hid (grow_im (catQ L L.length).length w (by omega))
      go_wp2_with fail
      refine CG.out.mono ?_
      rintro e w1 ⟨GA, gc, rfl, o1, b1⟩
      have HO := Lib.hid o1
      have HB := Lib.hid b1
      clear CG o1 b1
      go_wp2
      go_loopw [6, 27] (fun v i wr => ∃ k : Nat, k ≤ L.length ∧ i = .int .i64 k ∧ Hid (wr.ownsRow w.heap.size 26 4 v (catQ L k).length ((catQ L k).flatMap enC)) ∧ Hid (Below w.heap.size w wr)) (fun _ i _ => L.length - (intOf i).toNat)
      case atStart => exact ⟨0, by omega, rfl, HO, HB⟩
      case round =>
        obtain ⟨k, hk, rfl, ho, hb⟩ := hrel
        by_cases hlt : k < L.length
        · have hc := (hb.out.cell (by exact hgl)).trans (HC.out k hlt)
          unfold Pq.v at hc
          obtain ⟨hp1, hp2, hp3⟩ := HP.out k hlt
          have hl1 := HL.out k hk
          have HE := Lib.hid (catQ_succ L k hlt)
          have HR := Lib.hid (rws_below hp3 hb.out)
          clear hp3
          generalize L.getD k pq0 = p at *
          go_wp2_with (at_builtin; refine wpList_appR rowQue _ rfl (.tmp 31) (.tmp 32) rfl w.heap.size _ (catQ L k).length ((catQ L k).flatMap enC) rfl ho.out _ p.A p.l.length p.c (p.l.flatMap enC) rfl (flat_len enC 4 enC_len p.l) HR.out hp2 (enC_one _) (by omega) hb.out.size ?_)
          intro v2 w2 o2 g2
          have B2 := Lib.hid (hb.out.grown g2 hb.out.size (own_low ho.out))
          have O2 : Hid (w2.ownsRow w.heap.size 26 4 v2 (catQ L (k + 1)).length ((catQ L (k + 1)).flatMap enC)) := by
            show w2.ownsRow _ _ _ _ _ _
            rw [HE.out, List.length_append, List.flatMap_append]; exact o2
          clear o2 g2 HR HE ho hb hc
          go_wp2
          go_roundw
          case rel => exact ⟨k + 1, by omega, by go_num, O2, B2⟩
          case measure => simp [intOf]; omega
        · obtain rfl : k = L.length := by omega
          have R := Lib.hid (NewR.of_own ho.out hb.out)
          clear ho hb
          go_wp2
          go_ret
          exact R.out
set_option maxRecDepth 100000 in
theorem exec_one_que {ρ : Operand → Value} {o : Oper} {y : Operand} (x : En) (w : World) (ho : o.op = .buildSlice 78 1 #[(0, y)] := by rfl) (hy : ρ y = enA x := by rfl) :
    (execOp ρ o).run Try.prog w = .ok (.value (.slice (some ⟨w.heap.size, 0, none⟩) 1 1)) (w.alloc (.cells (enC x).toArray 26)) := by
  unfold execOp
  rw [ho]
  simp [go_sem, hy, enA, enC]
set_option maxRecDepth 100000 in
theorem exec_two_que {ρ : Operand → Value} {o : Oper} {x y : Operand} (A B : Option Addr) (n m c d : Nat) (w : World) (ho : o.op = .buildSlice 135 2 #[(0, x), (1, y)] := by rfl) (hx : ρ x = .slice A n c := by rfl) (hy : ρ y = .slice B m d := by rfl) :
    (execOp ρ o).run Try.prog w = .ok (.value (.slice (some ⟨w.heap.size, 0, none⟩) 2 2)) (w.alloc (.cells #[.slice A n c, .slice B m d] 78)) := by
  unfold execOp
  rw [ho]
  simp [go_sem, hx, hy]
set_option maxRecDepth 100000 in
theorem exec_three_que {ρ : Operand → Value} {o : Oper} {x y z : Operand} (A B C : Option Addr) (n m k c d e : Nat) (w : World) (ho : o.op = .buildSlice 135 3 #[(0, x), (1, y), (2, z)] := by rfl) (hx : ρ x = .slice A n c := by rfl) (hy : ρ y = .slice B m d := by rfl) (hz : ρ z = .slice C k e := by rfl) :
    (execOp ρ o).run Try.prog w = .ok (.value (.slice (some ⟨w.heap.size, 0, none⟩) 3 3)) (w.alloc (.cells #[.slice A n c, .slice B m d, .slice C k e] 78)) := by
  unfold execOp
  rw [ho]
  simp [go_sem, hx, hy, hz]
set_option maxRecDepth 100000 in
/-- slices.Concat of slices that have just been laid in a row. -/
theorem concat_new (L : List Pq) (w : World) (hL : L.length ≤ 3) (hp : ∀ p ∈ L, p.ok w) (t : TypeId) :
    Calls Try.prog 75 #[.slice (some ⟨w.heap.size, 0, none⟩) L.length L.length] (w.alloc (.cells (L.map Pq.v).toArray t)) fun e w' => NewR 26 4 w (L.flatMap (·.l)).length ((L.flatMap (·.l)).flatMap enC) e w' := by
  have b0 : Below w.heap.size w (w.alloc (.cells (L.map Pq.v).toArray t)) := (Below.refl _ _).alloc (Nat.le_refl _) _
  have hc := Rws.new w (L.map Pq.v) t
  have h := concat_im L w.heap.size 0 (w.alloc (.cells (L.map Pq.v).toArray t)) hL (by simp) (fun i hi => by
      rcases hc with hc | ⟨b, off, e, _, hc⟩
      · simp at hc; subst hc; simp at hi
      · injection e with e; injection e with e1 e2; subst e1 e2
        rw [hc i (by simpa using hi)]
        simp [List.getD_eq_getElem?_getD, hi]) (fun i hi => by
      have hm : L.getD i pq0 ∈ L := by simp [List.getD_eq_getElem?_getD, hi]
      obtain ⟨h1, h2, h3⟩ := hp _ hm
      exact ⟨h1, h2, rws_below h3 b0⟩)
  have hcat : catQ L L.length = L.flatMap (·.l) := by unfold catQ; rw [List.take_length]
  rw [hcat] at h
  refine h.mono ?_
  rintro e w' ⟨B, d, rfl, o, bb⟩
  exact ⟨B, d, rfl, own_weak o b0.size, b0.trans (bb.mono b0.size)⟩
set_option maxRecDepth 100000 in
set_option maxHeartbeats 800000 in
theorem copied_im (A : Option Addr) (l : List En) (c : Nat) (w : World) (hl : l.length ≤ 2097152) (hn : A = none → c = 0) (hA : Rws w w.heap.size A (l.flatMap enC)) :
    Calls Try.prog 45 #[.slice A l.length c] w (NewR 26 4 w l.length (l.flatMap enC)) := by
  have C := Lib.hid (concat_new [⟨A, c, l⟩] w (by simp) (fun p hp => by
    have : p = ⟨A, c, l⟩ := by simpa using hp
    subst this
    exact ⟨by show l.length ≤ _; omega, hn, hA⟩) 78)
  simp only [List.map_cons, List.map_nil, Pq.v, List.flatMap_cons, List.flatMap_nil, List.append_nil, List.length_cons, List.length_nil, Nat.zero_add] at C
  go_enter Try.func45, Try.ntmps45
  go_wp2_with fail
  refine C.out.mono ?_
  rintro e w1 ⟨B, d, rfl, o, bb⟩
  have R : Hid (NewR 26 4 w l.length (l.flatMap enC) (.returned (.slice B l.length d)) w1) := ⟨B, d, rfl, o, bb⟩
  clear C o bb
  go_wp2
  go_ret
  exact R.out
set_option maxRecDepth 100000 in
set_option maxHeartbeats 1600000 in
theorem without_im (A : Option Addr) (l : List En) (c k : Nat) (w : World) (hl : l.length ≤ 2097152) (hkl : k < l.length) (hc : l.length ≤ c) (hn : A = none → c = 0) (hA : Rws w w.heap.size A (l.flatMap enC)) :
    Calls Try.prog 52 #[.slice A l.length c, .int .i64 (k : Int)] w (NewR 26 4 w (l.take k ++ l.drop (k + 1)).length ((l.take k ++ l.drop (k + 1)).flatMap enC)) := by
  have htl : (l.take k).length = k := by rw [List.length_take]; omega
  have hdl : (l.drop (k + 1)).length = l.length - (k + 1) := by rw [List.length_drop]
  have C : Hid (∀ w', Below w.heap.size w w' → Calls Try.prog 75 #[.slice (some ⟨w'.heap.size, 0, none⟩) 2 2] (w'.alloc (.cells #[.slice A k c, .slice (fromA A c (k + 1) 4) (l.length - (k + 1)) (c - (k + 1))] 78)) fun e u => NewR 26 4 w (l.take k ++ l.drop (k + 1)).length ((l.take k ++ l.drop (k + 1)).flatMap enC) e u) := fun w' hb => by
    have h1 := (rws_below hA hb).to_ (k * 4)
    rw [← flat_take enC 4 enC_len] at h1
    have h2 := (rws_below hA hb).from_ (n := l.length) (c := c) (k := k + 1) (sz := 4) (flat_len enC 4 enC_len l) (by omega) hc
    rw [← flat_drop enC 4 enC_len] at h2
    have := concat_new [⟨A, c, l.take k⟩, ⟨fromA A c (k + 1) 4, c - (k + 1), l.drop (k + 1)⟩] w' (by simp) (fun p hp => by
      rcases (show p = ⟨A, c, l.take k⟩ ∨ p = ⟨fromA A c (k + 1) 4, c - (k + 1), l.drop (k + 1)⟩ by simpa using hp) with rfl | rfl
      · exact ⟨by show (l.take k).length ≤ _; omega, hn, h1⟩
      · exact ⟨by show (l.drop (k + 1)).length ≤ _; omega, fromA_nil hn, h2⟩) 78
    simp only [List.map_cons, List.map_nil, Pq.v, List.flatMap_cons, List.flatMap_nil, List.append_nil, List.length_cons, List.length_nil, Nat.zero_add, Nat.reduceAdd, htl, hdl] at this
    refine this.mono ?_
    rintro e u ⟨B, d, rfl, o, bb⟩
    exact ⟨B, d, rfl, own_weak o hb.size, hb.trans (bb.mono hb.size)⟩
  clear htl hdl
  go_enter Try.func52, Try.ntmps52
  go_wp2_with fail
  refine wp_region_held_drew (S := fun w' => Hid (Below w.heap.size w w')) (by kernel_rfl) (below_drawn (Below.refl _ _) 1) (fun hHeld => ?_)
  refine held_take 0 5 (.slice A l.length c) rfl rfl (by kernel_rfl) (by kernel_rfl) (by kernel_rfl) (fun _ _ _ h => h) rfl hHeld (fun w _ => rfl) ?_
  refine held_take 1 6 (.int .i64 (k : Int)) rfl rfl (by kernel_rfl) (by kernel_rfl) (by kernel_rfl) (fun _ _ _ h => h) rfl hHeld (fun w _ => rfl) ?_
  refine held_take 2 7 (.slice A k c) rfl rfl (by kernel_rfl) (by kernel_rfl) (by kernel_rfl) (fun _ _ _ h => h) rfl hHeld (fun w _ => exec_sliceTo rowQue A l.length c k w (by omega) hc hn) ?_
  simp only [Act.put, List.setIfInBounds_toArray, List.set_cons_zero, List.set_cons_succ]
  refine held_take 3 8 (.slice A l.length c) rfl rfl (by kernel_rfl) (by kernel_rfl) (by kernel_rfl) (fun _ _ _ h => h) rfl hHeld (fun w _ => rfl) ?_
  refine held_take 4 9 (.int .i64 (k : Int)) rfl rfl (by kernel_rfl) (by kernel_rfl) (by kernel_rfl) (fun _ _ _ h => h) rfl hHeld (fun w _ => rfl) ?_
  refine held_take 5 10 (.int .i64 ((k + 1 : Nat) : Int)) rfl rfl (by kernel_rfl) (by kernel_rfl) (by kernel_rfl) (fun _ _ _ h => h) rfl hHeld (fun w _ => exec_addI (k : Int) 1 _ w (by omega) (by omega) (by omega)) ?_
  simp only [Act.put, List.setIfInBounds_toArray, List.set_cons_zero, List.set_cons_succ]
  refine held_take 6 11 (.slice (fromA A c (k + 1) 4) (l.length - (k + 1)) (c - (k + 1))) rfl rfl (by kernel_rfl) (by kernel_rfl) (by kernel_rfl) (fun _ _ _ h => h) rfl hHeld (fun w _ => exec_sliceFrom rowQue A l.length c (k + 1) w (by omega) hc hn) ?_
  simp only [Act.put, List.setIfInBounds_toArray, List.set_cons_zero, List.set_cons_succ]
  refine held_op 7 12 (.slice (some ⟨w.drew.heap.size, 0, none⟩) 2 2) rfl rfl (by kernel_rfl) rfl (exec_two_que _ _ _ _ _ _ _) (Lib.hid (hHeld.out.alloc hHeld.out.size _)) ?_
  simp only [Act.put, List.setIfInBounds_toArray, List.set_cons_zero, List.set_cons_succ]
  refine held_call 8 13 75 #[.slice (some ⟨w.drew.heap.size, 0, none⟩) 2 2] rfl rfl (by kernel_rfl) rfl (exec_call Try.func75 (by kernel_rfl) (by kernel_rfl) _) ?_
  refine (C.out _ hHeld.out).mono ?_
  rintro e w1 ⟨B, d, rfl, o, bb⟩
  have R : Hid (NewR 26 4 w _ _ (.returned (.slice B _ d)) w1) := ⟨B, d, rfl, o, bb⟩
  refine ⟨_, rfl, Lib.hid bb, ?_⟩
  simp only [Act.put, List.setIfInBounds_toArray, List.set_cons_zero, List.set_cons_succ]
  refine held_op 9 4 (.slice B _ d) rfl rfl (by kernel_rfl) rfl rfl (Lib.hid bb) ?_
  simp only [Act.put, List.setIfInBounds_toArray, List.set_cons_zero, List.set_cons_succ]
  refine wpAnyH_done (by kernel_rfl) ?_ _
  clear C o bb hHeld
  go_wp2
  go_ret
  exact R.out
set_option maxRecDepth 100000 in
set_option maxHeartbeats 1600000 in
theorem with_im (A : Option Addr) (l : List En) (c k : Nat) (x : En) (w : World) (hl : l.length ≤ 2097152) (hkl : k ≤ l.length) (hc : l.length ≤ c) (hn : A = none → c = 0) (hA : Rws w w.heap.size A (l.flatMap enC)) :
    Calls Try.prog 46 #[.slice A l.length c, .int .i64 (k : Int), enA x] w (NewR 26 4 w (l.take k ++ [x] ++ l.drop k).length ((l.take k ++ [x] ++ l.drop k).flatMap enC)) := by
  have htl : (l.take k).length = k := by rw [List.length_take]; omega
  have hdl : (l.drop k).length = l.length - k := by rw [List.length_drop]
  obtain ⟨W, hW⟩ : ∃ W, w.alloc (.cells #[.int .i64 x.lev, .int .i64 x.turn, .int .i64 x.id, .int .i64 x.size] 26) = W := ⟨_, rfl⟩
  have bW : Hid (Below w.heap.size w W) := by show Below _ _ _; rw [← hW]; exact (Below.refl _ _).alloc (Nat.le_refl _) _
  have gW : W.heap[w.heap.size]? = some (.cells #[.int .i64 x.lev, .int .i64 x.turn, .int .i64 x.id, .int .i64 x.size] 26) := by rw [← hW]; exact heap_new _ _
  have KX := Lib.hid (fun w' (h : Below W.heap.size W w') => En.here.blk (blk_call gW h))
  have C : Hid (∀ w', Below W.heap.size W w' → Calls Try.prog 75 #[.slice (some ⟨w'.heap.size + 1, 0, none⟩) 3 3] ((w'.alloc (.cells (enC x).toArray 26)).alloc (.cells #[.slice A k c, .slice (some ⟨w'.heap.size, 0, none⟩) 1 1, .slice (fromA A c k 4) (l.length - k) (c - k)] 78)) fun e u => NewR 26 4 w (l.take k ++ [x] ++ l.drop k).length ((l.take k ++ [x] ++ l.drop k).flatMap enC) e u ∧ Below W.heap.size W u) := fun w' hb' => by
    have hb : Below w.heap.size w w' := bW.out.trans (hb'.mono bW.out.size)
    have hb2 : Below w.heap.size w (w'.alloc (.cells (enC x).toArray 26)) := hb.alloc hb.size _
    have h1 := (rws_below hA hb2).to_ (k * 4)
    rw [← flat_take enC 4 enC_len] at h1
    have h2 := (rws_below hA hb2).from_ (n := l.length) (c := c) (k := k) (sz := 4) (flat_len enC 4 enC_len l) (by omega) hc
    rw [← flat_drop enC 4 enC_len] at h2
    have h3 := (Rws.new w' (enC x) 26)
    have := concat_new [⟨A, c, l.take k⟩, ⟨some ⟨w'.heap.size, 0, none⟩, 1, [x]⟩, ⟨fromA A c k 4, c - k, l.drop k⟩] (w'.alloc (.cells (enC x).toArray 26)) (by simp) (fun p hp => by
      rcases (show p = ⟨A, c, l.take k⟩ ∨ p = ⟨some ⟨w'.heap.size, 0, none⟩, 1, [x]⟩ ∨ p = ⟨fromA A c k 4, c - k, l.drop k⟩ by simpa using hp) with rfl | rfl | rfl
      · exact ⟨by show (l.take k).length ≤ _; omega, hn, h1⟩
      · refine ⟨by show [x].length ≤ _; simp, (fun h => by cases h), ?_⟩
        show Rws _ _ _ ([x].flatMap enC)
        rw [show [x].flatMap enC = enC x by simp]
        exact h3.more (by simp)
      · exact ⟨by show (l.drop k).length ≤ _; omega, fromA_nil hn, h2⟩) 78
    have hsz : (w'.alloc (.cells (enC x).toArray 26)).heap.size = w'.heap.size + 1 := by simp
    have hcat : [({ A := A, c := c, l := l.take k } : Pq), ⟨some ⟨w'.heap.size, 0, none⟩, 1, [x]⟩, ⟨fromA A c k 4, c - k, l.drop k⟩].flatMap (·.l) = l.take k ++ [x] ++ l.drop k := by simp
    rw [hcat, hsz] at this
    simp only [List.map_cons, List.map_nil, Pq.v, List.length_cons, List.length_nil, Nat.zero_add, Nat.reduceAdd, htl, hdl] at this
    refine this.mono ?_
    rintro e u ⟨B, d, rfl, o, bb⟩
    have hb3 : Below W.heap.size W (w'.alloc (.cells (enC x).toArray 26)) := hb'.alloc hb'.size _
    exact ⟨⟨B, d, rfl, own_weak o hb2.size, hb2.trans (bb.mono hb2.size)⟩, hb3.trans (bb.mono hb3.size)⟩
  clear htl hdl gW
  have eA : enA x = .agg #[.int .i64 x.lev, .int .i64 x.turn, .int .i64 x.id, .int .i64 x.size] := rfl
  rw [eA]
  go_enter Try.func46, Try.ntmps46
  go_wp2_with fail
  clear hW eA
  refine wp_region_held_drew (S := fun w' => Hid (Below W.heap.size W w')) (by kernel_rfl) (below_drawn (Below.refl _ _) 1) (fun hHeld => ?_)
  refine held_take 0 7 (.slice A l.length c) rfl rfl (by kernel_rfl) (by kernel_rfl) (by kernel_rfl) (fun _ _ _ h => h) rfl hHeld (fun w _ => rfl) ?_
  refine held_take 1 8 (.int .i64 (k : Int)) rfl rfl (by kernel_rfl) (by kernel_rfl) (by kernel_rfl) (fun _ _ _ h => h) rfl hHeld (fun w _ => rfl) ?_
  refine held_take 2 9 (.slice A k c) rfl rfl (by kernel_rfl) (by kernel_rfl) (by kernel_rfl) (fun _ _ _ h => h) rfl hHeld (fun w _ => exec_sliceTo rowQue A l.length c k w (by omega) hc hn) ?_
  simp only [Act.put, List.setIfInBounds_toArray, List.set_cons_zero, List.set_cons_succ]
  refine held_take 3 10 (enA x) rfl rfl (by kernel_rfl) (by kernel_rfl) (by kernel_rfl) (fun _ _ _ h => h) rfl hHeld (fun w h => exec_load_en _ 0 x w (KX.out w h.out)) ?_
  refine held_take 5 12 (.slice A l.length c) rfl rfl (by kernel_rfl) (by kernel_rfl) (by kernel_rfl) (fun _ _ _ h => h) rfl hHeld (fun w _ => rfl) ?_
  refine held_take 6 13 (.int .i64 (k : Int)) rfl rfl (by kernel_rfl) (by kernel_rfl) (by kernel_rfl) (fun _ _ _ h => h) rfl hHeld (fun w _ => rfl) ?_
  simp only [Act.put, List.setIfInBounds_toArray, List.set_cons_zero, List.set_cons_succ]
  refine held_take 7 14 (.slice (fromA A c k 4) (l.length - k) (c - k)) rfl rfl (by kernel_rfl) (by kernel_rfl) (by kernel_rfl) (fun _ _ _ h => h) rfl hHeld (fun w _ => exec_sliceFrom rowQue A l.length c k w (by omega) hc hn) ?_
  simp only [Act.put, List.setIfInBounds_toArray, List.set_cons_zero, List.set_cons_succ]
  have k1 := hHeld.out.alloc hHeld.out.size (.cells (enC x).toArray 26)
  have k2 := k1.alloc k1.size (.cells #[.slice A k c, .slice (some ⟨W.drew.heap.size, 0, none⟩) 1 1, .slice (fromA A c k 4) (l.length - k) (c - k)] 78)
  have hs1 : (W.drew.alloc (.cells (enC x).toArray 26)).heap.size = W.drew.heap.size + 1 := by simp
  refine held_op 4 11 (.slice (some ⟨W.drew.heap.size, 0, none⟩) 1 1) rfl rfl (by kernel_rfl) rfl (exec_one_que x _) (Lib.hid k1) ?_
  simp only [Act.put, List.setIfInBounds_toArray, List.set_cons_zero, List.set_cons_succ]
  refine held_op 8 15 (.slice (some ⟨(W.drew.alloc (.cells (enC x).toArray 26)).heap.size, 0, none⟩) 3 3) rfl rfl (by kernel_rfl) rfl (exec_three_que _ _ _ _ _ _ _ _ _ _) (Lib.hid k2) ?_
  simp only [Act.put, List.setIfInBounds_toArray, List.set_cons_zero, List.set_cons_succ]
  refine held_call 9 16 75 #[.slice (some ⟨(W.drew.alloc (.cells (enC x).toArray 26)).heap.size, 0, none⟩) 3 3] rfl rfl (by kernel_rfl) rfl (exec_call Try.func75 (by kernel_rfl) (by kernel_rfl) _) ?_
  rw [hs1]
  refine (C.out _ hHeld.out).mono ?_
  rintro e w1 ⟨⟨B, d, rfl, o, bb⟩, bbW⟩
  have R : Hid (NewR 26 4 w _ _ (.returned (.slice B _ d)) w1) := ⟨B, d, rfl, o, bb⟩
  refine ⟨_, rfl, Lib.hid bbW, ?_⟩
  simp only [Act.put, List.setIfInBounds_toArray, List.set_cons_zero, List.set_cons_succ]
  refine held_op 10 6 (.slice B _ d) rfl rfl (by kernel_rfl) rfl rfl (Lib.hid bbW) ?_
  simp only [Act.put, List.setIfInBounds_toArray, List.set_cons_zero, List.set_cons_succ]
  refine wpAnyH_done (by kernel_rfl) ?_ _
  clear C o bb hHeld bbW k1 k2 hs1 KX
  go_wp2
  go_ret
  exact R.out
set_option maxRecDepth 100000 in
set_option maxHeartbeats 1600000 in
theorem queueCut_impl (A : Option Addr) (l : List En) (c : Nat) (id : Int) (w : World) (hl : l.length ≤ 2097152) (hc : l.length ≤ c) (hn : A = none → c = 0) (hA : Rws w w.heap.size A (l.flatMap enC)) (hf : ∀ f ∈ l, f.fits) :
    Calls Try.prog 13 #[.slice A l.length c, .int .i64 id] w (GotQ w (quCutV l id)) := by
  have CA := Lib.hid (queueAt_impl A l c id w hl hA hf)
  have hin : -1 ≤ enAt l id ∧ enAt l id < l.length := idxV_in _ l
  obtain ⟨z, hz⟩ : ∃ z, enAt l id = z := ⟨_, rfl⟩
  rw [hz] at CA hin
  by_cases h0 : z < 0
  · have HV : Hid (quCutV l id = (l, false)) := by show _ = _; unfold quCutV; rw [hz, if_pos h0]
    have CC := Lib.hid (fun w' (h : Below w.heap.size w w') => copied_im A l c w' hl hn (rws_below hA h))
    clear hz
    go_enter Try.func13, Try.ntmps13
    go_wp2_with fail
    refine CA.out.mono ?_
    rintro e w1 ⟨rfl, b1⟩
    have CC := Lib.hid (CC.out w1 b1)
    have B1 := Lib.hid b1
    clear CA b1
    go_wp2_with fail
    refine CC.out.mono ?_
    rintro e w3 ⟨CB, cc, rfl, o3, b3⟩
    have R : Hid (GotQ w (l, false) (.returned (.tuple #[.slice CB l.length cc, .bool false])) w3) := ⟨CB, cc, rfl, own_weak o3 B1.out.size, B1.out.trans (b3.mono B1.out.size)⟩
    clear CC o3 b3
    go_wp2
    simp [bodyPost, results, Try.results13, go_sem]
    rw [HV.out]
    exact R.out
  · obtain ⟨k, hk⟩ : ∃ k : Nat, z = (k : Int) := ⟨z.toNat, by omega⟩
    subst hk
    have hkl : k < l.length := by omega
    have HV : Hid (quCutV l id = (l.take k ++ l.drop (k + 1), true)) := by show _ = _; unfold quCutV; rw [hz, if_neg h0, Int.toNat_natCast]
    have CC := Lib.hid (fun w' (h : Below w.heap.size w w') => without_im A l c k w' hl hkl hc hn (rws_below hA h))
    clear hz h0 hin
    have hk9 : ¬ ((k : Int) < 0) := by omega
    go_enter Try.func13, Try.ntmps13
    go_wp2_with fail
    refine CA.out.mono ?_
    rintro e w1 ⟨rfl, b1⟩
    have CC := Lib.hid (CC.out w1 b1)
    have B1 := Lib.hid b1
    clear CA b1
    generalize l.take k ++ l.drop (k + 1) = P at *
    go_wp2_with fail
    refine CC.out.mono ?_
    rintro e w3 ⟨CB, cc, rfl, o3, b3⟩
    have R : Hid (GotQ w (P, true) (.returned (.tuple #[.slice CB P.length cc, .bool true])) w3) := ⟨CB, cc, rfl, own_weak o3 B1.out.size, B1.out.trans (b3.mono B1.out.size)⟩
    clear CC o3 b3
    go_wp2
    simp [bodyPost, results, Try.results13, go_sem]
    rw [HV.out]
    exact R.out
theorem enPut_fits (l : List En) (x : En) (hf : ∀ f ∈ l, f.fits) (hx : x.fits) : ∀ f ∈ enPut l x, f.fits := by
  intro f h
  rw [enPut_place] at h
  rcases List.mem_append.1 h with h | h
  · rcases List.mem_append.1 h with h | h
    · exact hf f (List.mem_of_mem_take h)
    · have : f = x := by simpa using h
      subst this; exact hx
  · exact hf f (List.mem_of_mem_drop h)
set_option maxRecDepth 100000 in
set_option maxHeartbeats 3200000 in
theorem queuePut_impl (A : Option Addr) (l : List En) (c : Nat) (x : En) (w : World) (hl : l.length ≤ 2097152) (hc : l.length ≤ c) (hn : A = none → c = 0) (hA : Rws w w.heap.size A (l.flatMap enC)) (hf : ∀ f ∈ l, f.fits) (hx : x.fits) :
    Calls Try.prog 11 #[.slice A l.length c, enA x] w (GotQ w (quPutV l x)) := by
  obtain ⟨W, hW⟩ : ∃ W, w.alloc (.cells #[.int .i64 x.lev, .int .i64 x.turn, .int .i64 x.id, .int .i64 x.size] 26) = W := ⟨_, rfl⟩
  have bW : Hid (Below w.heap.size w W) := by show Below _ _ _; rw [← hW]; exact (Below.refl _ _).alloc (Nat.le_refl _) _
  have gW : Hid (W.heap[w.heap.size]? = some (.cells #[.int .i64 x.lev, .int .i64 x.turn, .int .i64 x.id, .int .i64 x.size] 26)) := by show _ = _; rw [← hW]; exact heap_new _ _
  have CQ := Lib.hid (queueOk_impl A l c W (by omega) (rws_below hA bW.out) hf)
  obtain ⟨q1, eq1⟩ : ∃ q, quB l = q := ⟨_, rfl⟩
  rw [eq1] at CQ
  have CC := Lib.hid (fun w' (h : Below w.heap.size w w') => copied_im A l c w' hl hn (rws_below hA h))
  have eA : enA x = .agg #[.int .i64 x.lev, .int .i64 x.turn, .int .i64 x.id, .int .i64 x.size] := rfl
  cases q1 with
  | false =>
    have HV := Lib.hid (quPutV_no (l := l) (x := x) (fun h => by rw [eq1] at h; cases h.1))
    clear eq1
    rw [eA]
    go_enter Try.func11, Try.ntmps11
    go_wp2_with fail
    refine CQ.out.mono ?_
    rintro e w1 ⟨rfl, b1⟩
    have B1 : Hid (Below w.heap.size w w1) := bW.out.trans (b1.mono bW.out.size)
    have CC := Lib.hid (CC.out w1 B1.out)
    clear CQ b1
    go_wp2_with fail
    refine CC.out.mono ?_
    rintro e w3 ⟨CB, cc, rfl, o3, b3⟩
    have R : Hid (GotQ w (l, false) (.returned (.tuple #[.slice CB l.length cc, .bool false])) w3) := ⟨CB, cc, rfl, own_weak o3 B1.out.size, B1.out.trans (b3.mono B1.out.size)⟩
    clear CC o3 b3
    go_wp2
    simp [bodyPost, results, Try.results11, go_sem]
    rw [HV.out]
    exact R.out
  | true =>
    have HE := Lib.hid eq1
    clear eq1
    have CP := Lib.hid (fun w' (h : Below w.heap.size w w') => placeOf_im A l c x w' hl (rws_below hA h))
    have CI := Lib.hid (fun w' (h : Below w.heap.size w w') => with_im A l c (placeV l x) x w' hl (placeV_le l x) hc hn (rws_below hA h))
    rw [← enPut_place] at CI
    have HL := Lib.hid (enPut_len l x)
    have HF := Lib.hid (enPut_fits l x hf hx)
    generalize placeV l x = n at *
    generalize hP : enPut l x = P at *
    have HP := Lib.hid hP
    clear hP
    rw [eA]
    go_enter Try.func11, Try.ntmps11
    go_wp2_with fail
    refine CQ.out.mono ?_
    rintro e w1 ⟨rfl, b1⟩
    have B1 : Hid (Below w.heap.size w w1) := bW.out.trans (b1.mono bW.out.size)
    have KX := Lib.hid (fun w' (h : Below w1.heap.size w1 w') => En.here.blk (blk_call (blk_call gW.out b1) h))
    clear CQ b1
    go_wp2_with fail
    refine wp_region_held_drew (S := fun w' => Hid (Below w1.heap.size w1 w')) (by kernel_rfl) (below_drawn (Below.refl _ _) 1) (fun hHeld => ?_)
    refine held_take 0 14 (.slice A l.length c) rfl rfl (by kernel_rfl) (by kernel_rfl) (by kernel_rfl) (fun _ _ _ h => h) rfl hHeld (fun w _ => rfl) ?_
    refine held_take 1 15 (.slice A l.length c) rfl rfl (by kernel_rfl) (by kernel_rfl) (by kernel_rfl) (fun _ _ _ h => h) rfl hHeld (fun w _ => rfl) ?_
    simp only [Act.put, List.setIfInBounds_toArray, List.set_cons_zero, List.set_cons_succ]
    refine held_take 2 16 (enA x) rfl rfl (by kernel_rfl) (by kernel_rfl) (by kernel_rfl) (fun _ _ _ h => h) rfl hHeld (fun w h => exec_load_en _ 0 x w (KX.out w h.out)) ?_
    refine held_take 4 18 (enA x) rfl rfl (by kernel_rfl) (by kernel_rfl) (by kernel_rfl) (fun _ _ _ h => h) rfl hHeld (fun w h => exec_load_en _ 0 x w (KX.out w h.out)) ?_
    simp only [Act.put, List.setIfInBounds_toArray, List.set_cons_zero, List.set_cons_succ]
    refine held_call 3 17 47 #[.slice A l.length c, enA x] rfl rfl (by kernel_rfl) rfl (exec_call Try.func47 (by kernel_rfl) (by kernel_rfl) _) ?_
    refine (CP.out _ (B1.out.trans (hHeld.out.mono B1.out.size))).mono ?_
    rintro e w2 ⟨rfl, b2⟩
    have hHeld : Hid (Below w1.heap.size w1 w2) := hHeld.out.trans (b2.mono hHeld.out.size)
    refine ⟨_, rfl, hHeld, ?_⟩
    simp only [Act.put, List.setIfInBounds_toArray, List.set_cons_zero, List.set_cons_succ]
    refine held_call 5 19 46 #[.slice A l.length c, .int .i64 (n : Int), enA x] rfl rfl (by kernel_rfl) rfl (exec_call Try.func46 (by kernel_rfl) (by kernel_rfl) _) ?_
    refine (CI.out _ (B1.out.trans (hHeld.out.mono B1.out.size))).mono ?_
    rintro e w3 ⟨PA, pc, rfl, o3, b3⟩
    have B2 := B1.out.trans (hHeld.out.mono B1.out.size)
    have B3 : Hid (Below w.heap.size w w3) := B2.trans (b3.mono B2.size)
    have HO3 := Lib.hid (own_weak o3 B2.size)
    have hHeld : Hid (Below w1.heap.size w1 w3) := hHeld.out.trans (b3.mono hHeld.out.size)
    refine ⟨_, rfl, hHeld, ?_⟩
    simp only [Act.put, List.setIfInBounds_toArray, List.set_cons_zero, List.set_cons_succ]
    refine held_op 6 7 (.slice PA P.length pc) rfl rfl (by kernel_rfl) rfl rfl hHeld ?_
    simp only [Act.put, List.setIfInBounds_toArray, List.set_cons_zero, List.set_cons_succ]
    refine wpAnyH_done (by kernel_rfl) ?_ _
    clear hHeld o3 b3 b2 B2 CP CI KX B1
    have CQ := Lib.hid (queueOk_impl PA P pc w3 (by have := HL.out; omega) (own_rws HO3.out) HF.out)
    obtain ⟨q2, eq2⟩ : ∃ q, quB P = q := ⟨_, rfl⟩
    rw [eq2] at CQ
    have HQ := Lib.hid eq2
    clear eq2
    go_wp2_with fail
    refine CQ.out.mono ?_
    rintro e w4 ⟨rfl, b4⟩
    have B4 : Hid (Below w.heap.size w w4) := B3.out.trans (b4.mono B3.out.size)
    have HO4 := Lib.hid (own_below HO3.out b4)
    clear HO3 b4 CQ
    cases q2 with
    | false =>
      have HV := Lib.hid (quPutV_no (l := l) (x := x) (fun h => by rw [HP.out, HQ.out] at h; cases h.2))
      have CC := Lib.hid (CC.out w4 B4.out)
      go_wp2_with fail
      refine CC.out.mono ?_
      rintro e w5 ⟨CB, cc, rfl, o3, b3⟩
      have R : Hid (GotQ w (l, false) (.returned (.tuple #[.slice CB l.length cc, .bool false])) w5) := ⟨CB, cc, rfl, own_weak o3 B4.out.size, B4.out.trans (b3.mono B4.out.size)⟩
      clear CC o3 b3
      go_wp2
      simp [bodyPost, results, Try.results11, go_sem]
      rw [HV.out]
      exact R.out
    | true =>
      have HV := Lib.hid (quPutV_yes (l := l) (x := x) HE.out (by rw [HP.out]; exact HQ.out))
      rw [HP.out] at HV
      have R : Hid (GotQ w (P, true) (.returned (.tuple #[.slice PA P.length pc, .bool true])) w4) := ⟨PA, pc, rfl, HO4.out, B4.out⟩
      go_wp2
      simp [bodyPost, results, Try.results11, go_sem]
      rw [HV.out]
      exact R.out
end Go.Proofs.Ytlflgflmlfileaa
