/- Chapter 7 of the program. -/
import Derived.Test.YtdjglbmcpfaofaaRows
import Derived.Test.YtdjglbmcpfaofaaEn4
import Derived.Test.YtdjglbmcpfaofaaSameI
import Derived.Test.YtdjglbmcpfaofaaCmpI
import Derived.Lib.AppendZeros
namespace Go.Proofs.Ytdjglbmcpfaofaa
open Go.RowKit
set_option linter.unusedSimpArgs false
set_option linter.unusedVariables false
/-- The order of entries as a number. -/
def ordV (a b : En) : Int := orV (cmpV a.lev b.lev) (cmpV a.turn b.turn)
set_option maxRecDepth 100000 in
set_option maxHeartbeats 1600000 in
theorem entryOrder_im (a b : En) (w : World) : Calls Try.prog 144 #[enA a, enA b] w fun e w' => e = .returned (.int .i64 (ordV a b)) ∧ Below w.heap.size w w' := by
  obtain ⟨W, hW⟩ : ∃ W, (w.alloc (.cells #[.int .i64 a.lev, .int .i64 a.turn, .int .i64 a.id, .int .i64 a.size] 115)).alloc (.cells #[.int .i64 b.lev, .int .i64 b.turn, .int .i64 b.id, .int .i64 b.size] 115) = W := ⟨_, rfl⟩
  have b0 : Hid (Below w.heap.size w W) := by
    show Below _ _ _
    rw [← hW]; exact ((Below.refl _ _).alloc (Nat.le_refl _) _).alloc (by simp) _
  have hWs : W.heap.size = w.heap.size + 2 := by rw [← hW]; simp
  have g1 : W.heap[w.heap.size]? = some (.cells #[.int .i64 a.lev, .int .i64 a.turn, .int .i64 a.id, .int .i64 a.size] 115) := by rw [← hW]; exact blk_alloc (heap_new _ _) _
  have g2 : W.heap[w.heap.size + 1]? = some (.cells #[.int .i64 b.lev, .int .i64 b.turn, .int .i64 b.id, .int .i64 b.size] 115) := by
    rw [← hW]
    have := heap_new (w.alloc (.cells #[.int .i64 a.lev, .int .i64 a.turn, .int .i64 a.id, .int .i64 a.size] 115)) (.cells #[.int .i64 b.lev, .int .i64 b.turn, .int .i64 b.id, .int .i64 b.size] 115)
    simpa using this
  have HA := Lib.hid (fun w' (h : Below W.heap.size W w') => En.here.blk (blk_call g1 h))
  have HB := Lib.hid (fun w' (h : Below W.heap.size W w') => En.here.blk (blk_call g2 h))
  clear g1 g2
  unfold enA
  go_enter Try.func144, Try.ntmps144
  go_wp2_with fail
  clear hW
  refine wp_region_held_drew (S := fun w' => Hid (Below W.heap.size W w')) (by kernel_rfl) (below_drawn (Below.refl _ _) 1) (fun hHeld => ?_)
  refine held_take 0 5 (.pointer (some ⟨w.heap.size, 0, none⟩)) rfl rfl (by kernel_rfl) (by kernel_rfl) (by kernel_rfl) (fun _ _ _ h => h) rfl hHeld (fun w _ => exec_fldEn _ 0 0 w (by omega)) ?_
  refine held_take 1 6 (.int .i64 a.lev) rfl rfl (by kernel_rfl) (by kernel_rfl) (by kernel_rfl) (fun _ _ _ h => h) rfl hHeld (fun w h => exec_load1 3 _ 0 _ w (.inl rfl) (HA.out w h.out).1) ?_
  simp only [Act.put, List.setIfInBounds_toArray, List.set_cons_zero, List.set_cons_succ]
  refine held_take 2 7 (.pointer (some ⟨w.heap.size + 1, 0, none⟩)) rfl rfl (by kernel_rfl) (by kernel_rfl) (by kernel_rfl) (fun _ _ _ h => h) rfl hHeld (fun w _ => exec_fldEn _ 0 0 w (by omega)) ?_
  refine held_take 3 8 (.int .i64 b.lev) rfl rfl (by kernel_rfl) (by kernel_rfl) (by kernel_rfl) (fun _ _ _ h => h) rfl hHeld (fun w h => exec_load1 3 _ 0 _ w (.inl rfl) (HB.out w h.out).1) ?_
  simp only [Act.put, List.setIfInBounds_toArray, List.set_cons_zero, List.set_cons_succ]
  refine held_take 5 10 (.pointer (some ⟨w.heap.size, 1, none⟩)) rfl rfl (by kernel_rfl) (by kernel_rfl) (by kernel_rfl) (fun _ _ _ h => h) rfl hHeld (fun w _ => exec_fldEn _ 0 1 w (by omega)) ?_
  refine held_take 6 11 (.int .i64 a.turn) rfl rfl (by kernel_rfl) (by kernel_rfl) (by kernel_rfl) (fun _ _ _ h => h) rfl hHeld (fun w h => exec_load1 3 _ 1 _ w (.inl rfl) (HA.out w h.out).2.1) ?_
  simp only [Act.put, List.setIfInBounds_toArray, List.set_cons_zero, List.set_cons_succ]
  refine held_take 7 12 (.pointer (some ⟨w.heap.size + 1, 1, none⟩)) rfl rfl (by kernel_rfl) (by kernel_rfl) (by kernel_rfl) (fun _ _ _ h => h) rfl hHeld (fun w _ => exec_fldEn _ 0 1 w (by omega)) ?_
  refine held_take 8 13 (.int .i64 b.turn) rfl rfl (by kernel_rfl) (by kernel_rfl) (by kernel_rfl) (fun _ _ _ h => h) rfl hHeld (fun w h => exec_load1 3 _ 1 _ w (.inl rfl) (HB.out w h.out).2.1) ?_
  simp only [Act.put, List.setIfInBounds_toArray, List.set_cons_zero, List.set_cons_succ]
  refine held_call 4 9 83 #[.int .i64 a.lev, .int .i64 b.lev] rfl rfl (by kernel_rfl) rfl (exec_call Try.func83 (by kernel_rfl) (by kernel_rfl) _) ?_
  refine (compare_im _ _ _).mono ?_
  rintro e u ⟨rfl, rfl⟩
  refine ⟨_, rfl, hHeld, ?_⟩
  simp only [Act.put, List.setIfInBounds_toArray, List.set_cons_zero, List.set_cons_succ]
  refine held_call 9 14 83 #[.int .i64 a.turn, .int .i64 b.turn] rfl rfl (by kernel_rfl) rfl (exec_call Try.func83 (by kernel_rfl) (by kernel_rfl) _) ?_
  refine (compare_im _ _ _).mono ?_
  rintro e u ⟨rfl, rfl⟩
  refine ⟨_, rfl, hHeld, ?_⟩
  have k1 := hHeld.out.alloc hHeld.out.size (.cells #[.int .i64 (cmpV a.lev b.lev), .int .i64 (cmpV a.turn b.turn)] 3)
  simp only [Act.put, List.setIfInBounds_toArray, List.set_cons_zero, List.set_cons_succ]
  refine held_op 10 15 (.slice (some ⟨W.drew.heap.size, 0, none⟩) 2 2) rfl rfl (by kernel_rfl) rfl (exec_two_int _ _ _) (Lib.hid k1) ?_
  simp only [Act.put, List.setIfInBounds_toArray, List.set_cons_zero, List.set_cons_succ]
  refine held_call 11 16 82 #[.slice (some ⟨W.drew.heap.size, 0, none⟩) 2 2] rfl rfl (by kernel_rfl) rfl (exec_call Try.func82 (by kernel_rfl) (by kernel_rfl) _) ?_
  refine (or_im _ 0 _ _ _ (cell_new2 _ _ _ _ 0 (by omega)) (cell_new2 _ _ _ _ 1 (by omega))).mono ?_
  rintro e u ⟨rfl, rfl⟩
  refine ⟨_, rfl, Lib.hid k1, ?_⟩
  simp only [Act.put, List.setIfInBounds_toArray, List.set_cons_zero, List.set_cons_succ]
  refine held_op 12 4 (.int .i64 (orV (cmpV a.lev b.lev) (cmpV a.turn b.turn))) rfl rfl (by kernel_rfl) rfl rfl (Lib.hid k1) ?_
  simp only [Act.put, List.setIfInBounds_toArray, List.set_cons_zero, List.set_cons_succ]
  refine wpAnyH_done (by kernel_rfl) ?_ _
  go_wp2
  go_ret
  exact ⟨rfl, b0.out.trans (k1.mono b0.out.size)⟩
theorem ord_less (a b : En) : decide (ordV a b < 0) = decide (En.less a b) := by
  unfold ordV orV cmpV En.less
  by_cases h1 : a.lev < b.lev
  · simp [h1]
  · by_cases h2 : b.lev < a.lev
    · have h3 : ¬ a.lev = b.lev := by omega
      simp [h1, h2, h3]
    · have h3 : a.lev = b.lev := by omega
      by_cases h4 : a.turn < b.turn
      · simp [h3, h4]
      · by_cases h5 : b.turn < a.turn
        · simp [h3, h4, h5]
        · simp [h3, h4, h5]
set_option maxRecDepth 100000 in
set_option maxHeartbeats 800000 in
theorem entryLess_impl (a b : En) (w : World) : Calls Try.prog 122 #[enA a, enA b] w fun e w' => e = .returned (.bool (decide (En.less a b))) ∧ Below w.heap.size w w' := by
  have b0 : Hid (Below w.heap.size w ((w.alloc (.cells #[.int .i64 a.lev, .int .i64 a.turn, .int .i64 a.id, .int .i64 a.size] 115)).alloc (.cells #[.int .i64 b.lev, .int .i64 b.turn, .int .i64 b.id, .int .i64 b.size] 115))) := ((Below.refl _ _).alloc (Nat.le_refl _) _).alloc (by simp) _
  have C := Lib.hid (fun w => entryOrder_im a b w)
  have HD := Lib.hid (ord_less a b)
  generalize ordV a b = z at *
  unfold enA at C
  unfold enA
  go_enter Try.func122, Try.ntmps122
  go_wp2_with fail
  refine (C.out _).mono ?_
  rintro e w1 ⟨rfl, b1⟩
  have B1 := Lib.hid (b0.out.trans (b1.mono b0.out.size))
  clear b1
  go_wp2
  go_ret
  exact ⟨by rw [← HD.out] <;> rfl, B1.out⟩
set_option maxRecDepth 100000 in
set_option maxHeartbeats 1600000 in
theorem indexFunc_at (p : En → Bool) (g : Nat) (A : Option Addr) (l : List En) (c : Nat) (w : World) (hl : l.length ≤ 2097152) (hA : Rws w w.heap.size A (l.flatMap enC))
    (hp : ∀ x w', Below w.heap.size w w' → Calls Try.prog 143 #[enA x, .pointer (some ⟨g, 0, none⟩)] w' fun e w'' => e = .returned (.bool (p x)) ∧ Below w'.heap.size w' w'') :
    Calls Try.prog 153 #[.slice A l.length c, .func (.func 143) #[] #[.pointer (some ⟨g, 0, none⟩)]] w fun e w' => e = .returned (.int .i64 (idxV (l.findIdx? p))) ∧ Below w.heap.size w w' := by
  have HP := Lib.hid hp
  clear hp
  go_enter Try.func153, Try.ntmps153
  go_wp2
  go_loopw [8] (fun i wr => ∃ k : Nat, k ≤ l.length ∧ i = .int .i64 k ∧ Hid (∀ j, j < k → p (l.getD j en0) = false) ∧ Hid (Below w.heap.size w wr)) (fun i _ => l.length - (intOf i).toNat)
  case atStart => exact ⟨0, by omega, rfl, (fun j hj => by omega), Below.refl _ _⟩
  case round =>
    obtain ⟨k, hk, rfl, hall, hb⟩ := hrel
    by_cases hlt : k < l.length
    · have hR := rws_below hA hb.out
      obtain ⟨b, off, rfl, hbB, hx⟩ := hR.en hlt
      clear hR
      have C := Lib.hid (HP.out (l.getD k en0) wr hb.out)
      have HI : Hid (p (l.getD k en0) = true → idxV (l.findIdx? p) = (k : Int)) := fun h => by rw [findIdx_at _ l en0 k hlt hall.out h]; rfl
      have HN : Hid (p (l.getD k en0) = false → ∀ j, j < k + 1 → p (l.getD j en0) = false) := fun h j hj => by
        by_cases e : j = k
        · subst e; exact h
        · exact hall.out j (by omega)
      clear hall
      generalize l.getD k en0 = x at *
      obtain ⟨c0, c1, c2, c3⟩ := hx
      unfold enA at C
      obtain ⟨q, hq⟩ : ∃ q, p x = q := ⟨_, rfl⟩
      rw [hq] at C HI HN
      clear hq
      go_wp2_with fail
      refine C.out.mono ?_
      rintro e w1 ⟨rfl, b1⟩
      have B1 := Lib.hid (hb.out.trans (b1.mono hb.out.size))
      clear b1 C c0 c1 c2 c3
      cases q with
      | true =>
        have HY := Lib.hid (HI.out rfl)
        clear HI HN
        go_wp2
        go_ret
        exact ⟨by rw [HY.out] <;> rfl, B1.out⟩
      | false =>
        have HA := Lib.hid (HN.out rfl)
        clear HI HN
        go_wp2
        go_roundw
        case rel => exact ⟨k + 1, by omega, by go_num, HA, B1⟩
        case measure => simp [intOf]; omega
    · obtain rfl : k = l.length := by omega
      have HN : Hid (idxV (l.findIdx? p) = -1) := by
        show _ = _
        rw [findIdx_no _ l en0 hall.out]; rfl
      clear hall
      go_wp2
      go_ret
      exact ⟨by rw [HN.out] <;> rfl, hb.out⟩
set_option maxRecDepth 100000 in
set_option maxHeartbeats 800000 in
theorem first_at (p : En → Bool) (g : Nat) (A : Option Addr) (l : List En) (c : Nat) (w : World) (hl : l.length ≤ 2097152) (hA : Rws w w.heap.size A (l.flatMap enC))
    (hp : ∀ x w', Below w.heap.size w w' → Calls Try.prog 143 #[enA x, .pointer (some ⟨g, 0, none⟩)] w' fun e w'' => e = .returned (.bool (p x)) ∧ Below w'.heap.size w' w'') :
    Calls Try.prog 142 #[.slice A l.length c, .func (.func 143) #[] #[.pointer (some ⟨g, 0, none⟩)]] w fun e w' => e = .returned (.int .i64 (idxV (l.findIdx? p))) ∧ Below w.heap.size w w' := by
  have C := Lib.hid (indexFunc_at p g A l c w hl hA hp)
  clear hp
  generalize idxV (l.findIdx? p) = z at *
  go_enter Try.func142, Try.ntmps142
  go_wp2_with fail
  refine C.out.mono ?_
  rintro e w1 ⟨rfl, b1⟩
  have B1 := Lib.hid b1
  clear b1 C
  go_wp2
  go_ret
  exact ⟨rfl, B1.out⟩
theorem cell_lt {w : World} {g o : Nat} {v : Value} (h : w.cell? ⟨g, o, none⟩ = some v) : g < w.heap.size := by
  rcases Nat.lt_or_ge g w.heap.size with h1 | h1
  · exact h1
  · have : w.heap[g]? = none := Array.getElem?_eq_none h1
    simp [World.cell?, this] at h
set_option maxRecDepth 100000 in
set_option maxHeartbeats 800000 in
theorem at_test (x : En) (id : Int) (g : Nat) (w : World) (hg : w.cell? ⟨g, 0, none⟩ = some (.int .i64 id)) :
    Calls Try.prog 143 #[enA x, .pointer (some ⟨g, 0, none⟩)] w fun e w' => e = .returned (.bool (x.id == id)) ∧ Below w.heap.size w w' := by
  have b0 : Hid (Below w.heap.size w (w.alloc (.cells #[.int .i64 x.lev, .int .i64 x.turn, .int .i64 x.id, .int .i64 x.size] 115))) := (Below.refl _ _).alloc (Nat.le_refl _) _
  have hg' : (w.alloc (.cells #[.int .i64 x.lev, .int .i64 x.turn, .int .i64 x.id, .int .i64 x.size] 115)).cell? ⟨g, 0, none⟩ = some (.int .i64 id) := (b0.out.cell (cell_lt hg)).trans hg
  unfold enA
  go_enter Try.func143, Try.ntmps143
  go_wp2
  go_ret
  exact ⟨rfl, b0.out⟩
set_option maxRecDepth 100000 in
set_option maxHeartbeats 800000 in
theorem queueAt_impl (A : Option Addr) (l : List En) (c : Nat) (id : Int) (w : World) (hl : l.length ≤ 2097152) (hA : Rws w w.heap.size A (l.flatMap enC)) (hf : ∀ f ∈ l, f.fits) :
    Calls Try.prog 121 #[.slice A l.length c, .int .i64 id] w fun e w' => e = .returned (.int .i64 (enAt l id)) ∧ Below w.heap.size w w' := by
  have hmf : ∀ (fn : Fn) (first cap : Array Value) (w : World), (Instr.makeFunc fn first cap).run Try.prog w = .ok (.func fn first cap) w := fun _ _ _ _ => rfl
  have b0 : Hid (Below w.heap.size w (w.alloc (.cells #[.int .i64 id] 3))) := (Below.refl _ _).alloc (Nat.le_refl _) _
  have g0 : (w.alloc (.cells #[.int .i64 id] 3)).cell? ⟨w.heap.size, 0, none⟩ = some (.int .i64 id) := by simp
  have C := Lib.hid (first_at (fun x => x.id == id) w.heap.size A l c (w.alloc (.cells #[.int .i64 id] 3)) hl (rws_below hA b0.out) (fun x w' h => at_test x id w.heap.size w' ((h.cell (by simp)).trans g0)))
  have HE : Hid (idxV (l.findIdx? fun x => x.id == id) = enAt l id) := rfl
  rw [HE.out] at C
  clear HE g0
  generalize enAt l id = z at *
  go_enter Try.func121, Try.ntmps121
  go_wp2_with fail
  refine C.out.mono ?_
  rintro e w1 ⟨rfl, b1⟩
  have B1 := Lib.hid (b0.out.trans (b1.mono b0.out.size))
  clear b1 C
  go_wp2
  go_ret
  exact ⟨rfl, B1.out⟩
/-- Where an entry belongs. -/
def placeV (l : List En) (x : En) : Nat := ((l.findIdx? fun y => !decide (En.less y x))).getD l.length
theorem placeV_of (l : List En) (x : En) : (if idxV (l.findIdx? fun y => !decide (En.less y x)) < 0 then (l.length : Int) else idxV (l.findIdx? fun y => !decide (En.less y x))) = (placeV l x : Int) := by
  unfold placeV
  cases l.findIdx? fun y => !decide (En.less y x) with
  | none => simp [idxV]
  | some k =>
    have : ¬ ((k : Int) < 0) := by omega
    simp [idxV, this]
theorem placeV_le (l : List En) (x : En) : placeV l x ≤ l.length := by
  unfold placeV
  cases h : l.findIdx? fun y => !decide (En.less y x) with
  | none => simp
  | some k =>
    have := (List.findIdx?_eq_some_iff_getElem.1 h).1
    simp; omega
theorem enPut_place (l : List En) (x : En) : enPut l x = l.take (placeV l x) ++ [x] ++ l.drop (placeV l x) := by
  unfold enPut
  refine insP_at _ l x en0 _ (placeV_le l x) ?_ ?_
  · intro j hj
    unfold placeV at hj
    cases h : l.findIdx? fun y => !decide (En.less y x) with
    | none =>
      rw [h] at hj
      have := List.findIdx?_eq_none_iff.1 h (l.getD j en0) (by simp at hj; simp [List.getD_eq_getElem?_getD, hj])
      simpa using this
    | some k =>
      rw [h] at hj
      obtain ⟨hk, _, h2⟩ := List.findIdx?_eq_some_iff_getElem.1 h
      have hj' : j < k := by simpa using hj
      have := h2 j hj'
      simpa [List.getD_eq_getElem?_getD, (show j < l.length by omega)] using this
  · intro hlt
    unfold placeV at hlt ⊢
    cases h : l.findIdx? fun y => !decide (En.less y x) with
    | none => rw [h] at hlt; simp at hlt
    | some k =>
      obtain ⟨hk, h1, _⟩ := List.findIdx?_eq_some_iff_getElem.1 h
      simpa [List.getD_eq_getElem?_getD, hk] using h1
set_option maxRecDepth 100000 in
set_option maxHeartbeats 1600000 in
theorem entryOk_im (x : En) (w : World) : Calls Try.prog 120 #[enA x] w fun e w' => e = .returned (.bool (decide x.inn)) ∧ Below w.heap.size w w' := by
  have b0 : Hid (Below w.heap.size w (w.alloc (.cells #[.int .i64 x.lev, .int .i64 x.turn, .int .i64 x.id, .int .i64 x.size] 115))) := (Below.refl _ _).alloc (Nat.le_refl _) _
  unfold enA
  by_cases h0 : 0 ≤ x.lev ∧ x.lev ≤ 4
  rotate_left
  · have HF : Hid (decide x.inn = false) := decide_eq_false (fun h => h0 h.1)
    go_enter Try.func120, Try.ntmps120
    go_wp2_with (go_at_call 79; first | (refine (within_yes _ _ _ _ (by omega)).mono ?_; rintro e w' ⟨rfl, rfl⟩) | (refine (within_no _ _ _ _ (by omega)).mono ?_; rintro e w' ⟨rfl, rfl⟩))
    go_ret
    exact ⟨by rw [HF.out] <;> rfl, b0.out⟩
  by_cases h1 : 1 ≤ x.turn ∧ x.turn ≤ 1000000
  rotate_left
  · have HF : Hid (decide x.inn = false) := decide_eq_false (fun h => h1 h.2.1)
    go_enter Try.func120, Try.ntmps120
    go_wp2_with (go_at_call 79; first | (refine (within_yes _ _ _ _ (by omega)).mono ?_; rintro e w' ⟨rfl, rfl⟩) | (refine (within_no _ _ _ _ (by omega)).mono ?_; rintro e w' ⟨rfl, rfl⟩))
    go_ret
    exact ⟨by rw [HF.out] <;> rfl, b0.out⟩
  by_cases h2 : 1 ≤ x.id ∧ x.id ≤ 999
  rotate_left
  · have HF : Hid (decide x.inn = false) := decide_eq_false (fun h => h2 h.2.2.1)
    go_enter Try.func120, Try.ntmps120
    go_wp2_with (go_at_call 79; first | (refine (within_yes _ _ _ _ (by omega)).mono ?_; rintro e w' ⟨rfl, rfl⟩) | (refine (within_no _ _ _ _ (by omega)).mono ?_; rintro e w' ⟨rfl, rfl⟩))
    go_ret
    exact ⟨by rw [HF.out] <;> rfl, b0.out⟩
  by_cases h3 : 1 ≤ x.size ∧ x.size ≤ 6
  rotate_left
  · have HF : Hid (decide x.inn = false) := decide_eq_false (fun h => h3 h.2.2.2)
    go_enter Try.func120, Try.ntmps120
    go_wp2_with (go_at_call 79; first | (refine (within_yes _ _ _ _ (by omega)).mono ?_; rintro e w' ⟨rfl, rfl⟩) | (refine (within_no _ _ _ _ (by omega)).mono ?_; rintro e w' ⟨rfl, rfl⟩))
    go_ret
    exact ⟨by rw [HF.out] <;> rfl, b0.out⟩
  · have HF : Hid (decide x.inn = true) := decide_eq_true ⟨h0, h1, h2, h3⟩
    go_enter Try.func120, Try.ntmps120
    go_wp2_with (go_at_call 79; first | (refine (within_yes _ _ _ _ (by omega)).mono ?_; rintro e w' ⟨rfl, rfl⟩) | (refine (within_no _ _ _ _ (by omega)).mono ?_; rintro e w' ⟨rfl, rfl⟩))
    go_ret
    exact ⟨by rw [HF.out] <;> rfl, b0.out⟩
set_option maxRecDepth 100000 in
set_option maxHeartbeats 1600000 in
theorem queueOk_impl (A : Option Addr) (l : List En) (c : Nat) (w : World) (hl : l.length ≤ 2097153) (hA : Rws w w.heap.size A (l.flatMap enC)) (hf : ∀ f ∈ l, f.fits) :
    Calls Try.prog 97 #[.slice A l.length c] w fun e w' => e = .returned (.bool (quB l)) ∧ Below w.heap.size w w' := by
  by_cases h10 : l.length ≤ 10
  rotate_left
  · have HF := Lib.hid (quB_big h10)
    go_enter Try.func97, Try.ntmps97
    go_wp2
    go_ret
    exact ⟨by rw [HF.out] <;> rfl, Below.refl _ _⟩
  go_enter Try.func97, Try.ntmps97
  go_wp2
  go_loopw [10] (fun i wr => ∃ k : Nat, k ≤ l.length ∧ i = .int .i64 k ∧ Hid (∀ j, j < k → enOk l j) ∧ Below w.heap.size w wr) (fun i _ => l.length - (intOf i).toNat)
  case atStart => exact ⟨0, by omega, rfl, (fun j hj => by omega), Below.refl _ _⟩
  case round =>
    obtain ⟨k, hk, rfl, hall, hb⟩ := hrel
    by_cases hlt : k < l.length
    rotate_left
    · obtain rfl : k = l.length := by omega
      have HY := Lib.hid (quB_yes h10 hall.out)
      clear hall
      go_wp2
      go_ret
      exact ⟨by rw [HY.out] <;> rfl, hb⟩
    have hR := rws_below hA hb
    obtain ⟨b, off, rfl, hbB, hx⟩ := hR.en hlt
    have HR := Lib.hid hR
    clear hR
    generalize hxe : l.getD k en0 = x at *
    obtain ⟨c0, c1, c2, c3⟩ := hx
    have hsz := hb.size
    have bu : Below w.heap.size w (wr.alloc (.cells #[.int .i64 x.lev, .int .i64 x.turn, .int .i64 x.id, .int .i64 x.size] 115)) := hb.alloc hb.size _
    obtain ⟨u, hu⟩ : ∃ u, wr.alloc (.cells #[.int .i64 x.lev, .int .i64 x.turn, .int .i64 x.id, .int .i64 x.size] 115) = u := ⟨_, rfl⟩
    rw [hu] at bu
    have gx : u.heap[wr.heap.size]? = some (.cells #[.int .i64 x.lev, .int .i64 x.turn, .int .i64 x.id, .int .i64 x.size] 115) := by rw [← hu]; exact heap_new _ _
    have BF := Lib.hid bu
    have bru : Hid (Below wr.heap.size wr u) := by show Below _ _ _; rw [← hu]; exact (Below.refl _ _).alloc (Nat.le_refl _) _
    have HU := Lib.hid hu
    clear bu hb hu
    have CO := Lib.hid (entryOk_im x u)
    unfold enA at CO
    by_cases hin : x.inn
    rotate_left
    · have HF := Lib.hid (quB_no hlt (by unfold enOk; rw [hxe]; rintro ⟨r, _⟩; exact hin r))
      rw [decide_eq_false hin] at CO
      clear hxe hall hin
      go_wp2_with fail
      rw [HU.out]
      refine CO.out.mono ?_
      rintro e u1 ⟨rfl, b1⟩
      have BF := Lib.hid (BF.out.trans (b1.mono BF.out.size))
      clear b1 CO gx bru
      go_wp2
      go_ret
      exact ⟨by rw [HF.out] <;> rfl, BF.out⟩
    rw [decide_eq_true hin] at CO
    have CA : Hid (∀ w', Below u.heap.size u w' → Calls Try.prog 121 #[.slice (some ⟨b, off, none⟩) l.length c, .int .i64 x.id] w' fun e w'' => e = .returned (.int .i64 (enAt l x.id)) ∧ Below w'.heap.size w' w'') := fun w' h => queueAt_impl _ l c x.id w' (by omega) (rws_below (rws_below HR.out bru.out) h) hf
    have HOK : Hid (enOk l k ↔ ((0 < k → En.less (l.getD (k - 1) en0) x) ∧ enAt l x.id = (k : Int))) := by
      show _ ↔ _
      unfold enOk
      rw [hxe]
      simp [hin]
    have hall2 : Hid (enOk l k → ∀ j, j < k + 1 → enOk l j) := fun h j hj => by
      by_cases e : j = k
      · subst e; exact h
      · exact hall.out j (by omega)
    clear hall hxe hin
    generalize enAt l x.id = AT at *
    go_wp2_with fail
    rw [HU.out]
    clear HU
    refine CO.out.mono ?_
    rintro e u1 ⟨rfl, b1⟩
    have g1 := blk_call gx b1
    have CA := Lib.hid (CA.out u1 b1)
    obtain ⟨k0, k1, k2, k3⟩ := En.here.blk g1
    have BU := Lib.hid b1
    have BF := Lib.hid (BF.out.trans (b1.mono BF.out.size))
    clear CO b1
    go_wp2_with fail
    refine CA.out.mono ?_
    rintro e u2 ⟨rfl, b2⟩
    have g2 := blk_call g1 b2
    have BU : Hid (Below u.heap.size u u2) := BU.out.trans (b2.mono BU.out.size)
    have BF := Lib.hid (BF.out.trans (b2.mono BF.out.size))
    have KX := Lib.hid (fun w' (h : Below u2.heap.size u2 w') => En.here.blk (blk_call g2 h))
    clear CA b2 k0 k1 k2 k3 g1 gx g2
    by_cases hD : AT = (k : Int)
    rotate_left
    · have hD' : (AT != (k : Int)) = true := by simp [hD]
      have HF := Lib.hid (quB_no hlt (fun h => hD (HOK.out.1 h).2))
      clear HOK hall2
      go_wp2
      go_ret
      exact ⟨by rw [HF.out] <;> rfl, BF.out⟩
    have hD' : (AT != (k : Int)) = false := by simp [hD]
    have HOK : Hid (enOk l k ↔ (0 < k → En.less (l.getD (k - 1) en0) x)) := by
      show _ ↔ _
      rw [HOK.out]; simp [hD]
    clear hD
    by_cases hk0 : k = 0
    · subst hk0
      have HA := Lib.hid (hall2.out (HOK.out.2 (fun h => absurd h (by omega))))
      clear HOK hall2
      go_wp2_with fail
      refine wp_region_held_drew (S := fun w' => Hid (Below u2.heap.size u2 w')) (by kernel_rfl) (below_drawn (Below.refl _ _) 1) (fun hHeld => ?_)
      refine held_take 0 26 (.int .i64 ((0 : Nat) : Int)) rfl rfl (by kernel_rfl) (by kernel_rfl) (by kernel_rfl) (fun _ _ _ h => h) rfl hHeld (fun w _ => rfl) ?_
      refine held_take 1 27 (.bool false) rfl rfl (by kernel_rfl) (by kernel_rfl) (by kernel_rfl) (fun _ _ _ h => h) rfl hHeld (fun w _ => exec_gtrI ((0 : Nat) : Int) 0 _ w (by simp)) ?_
      refine held_take 2 28 (.bool false) rfl rfl (by kernel_rfl) (by kernel_rfl) (by kernel_rfl) (fun _ _ _ h => h) rfl hHeld (fun w _ => rfl) ?_
      simp only [Act.put, List.setIfInBounds_toArray, List.set_cons_zero, List.set_cons_succ]
      refine held_skip 3 29 rfl rfl (by kernel_rfl) (by kernel_rfl) (by kernel_rfl) (fun _ _ _ h => h) rfl hHeld ?_
      refine held_skip 4 30 rfl rfl (by kernel_rfl) (by kernel_rfl) (by kernel_rfl) (fun _ _ _ h => h) rfl hHeld ?_
      refine held_skip 5 31 rfl rfl (by kernel_rfl) (by kernel_rfl) (by kernel_rfl) (fun _ _ _ h => h) rfl hHeld ?_
      simp only [Act.put, List.setIfInBounds_toArray, List.set_cons_zero, List.set_cons_succ]
      refine held_skip 6 32 rfl rfl (by kernel_rfl) (by kernel_rfl) (by kernel_rfl) (fun _ _ _ h => h) rfl hHeld ?_
      refine held_skip 7 33 rfl rfl (by kernel_rfl) (by kernel_rfl) (by kernel_rfl) (fun _ _ _ h => h) rfl hHeld ?_
      refine held_skip 8 34 rfl rfl (by kernel_rfl) (by kernel_rfl) (by kernel_rfl) (fun _ _ _ h => h) rfl hHeld ?_
      simp only [Act.put, List.setIfInBounds_toArray, List.set_cons_zero, List.set_cons_succ]
      refine held_skip 9 35 rfl rfl (by kernel_rfl) (by kernel_rfl) (by kernel_rfl) (fun _ _ _ h => h) rfl hHeld ?_
      refine held_skip 10 36 rfl rfl (by kernel_rfl) (by kernel_rfl) (by kernel_rfl) (fun _ _ _ h => h) rfl hHeld ?_
      simp only [Act.put, List.setIfInBounds_toArray, List.set_cons_zero, List.set_cons_succ]
      refine held_take 11 37 (.bool false) rfl rfl (by kernel_rfl) (by kernel_rfl) (by kernel_rfl) (fun _ _ _ h => h) rfl hHeld (fun w _ => exec_pickF _ w) ?_
      simp only [Act.put, List.setIfInBounds_toArray, List.set_cons_zero, List.set_cons_succ]
      refine wpAnyH_done (by kernel_rfl) ?_ _
      have BF := Lib.hid (BF.out.trans (hHeld.out.mono BF.out.size))
      clear hHeld
      go_wp2
      go_roundw
      case rel => exact ⟨0 + 1, by omega, by go_num, HA, BF.out⟩
      case measure => simp [intOf]; omega
    have hkp : 0 < k := by omega
    obtain ⟨b', off', e', _, hy⟩ := HR.out.en (i := k - 1) (by omega)
    obtain ⟨rfl, rfl⟩ : b' = b ∧ off' = off := by injection e' with e'; injection e' with e1 e2; exact ⟨e1.symm, e2.symm⟩
    have KY : Hid (∀ w', Below u2.heap.size u2 w' → En.here w' b' (off' + (k - 1) * 4) (l.getD (k - 1) en0)) := fun w' h => ((hy.below bru.out hbB).below BU.out (by have := bru.out.size; omega)).below h (by have := bru.out.size; have := BU.out.size; omega)
    clear hy e'
    generalize l.getD (k - 1) en0 = y at *
    have CL := Lib.hid (fun w => entryLess_impl y x w)
    by_cases hle : En.less y x
    · rw [decide_eq_true hle] at CL
      have HA := Lib.hid (hall2.out (HOK.out.2 (fun _ => hle)))
      clear HOK hall2 hle
      go_wp2_with fail
      refine wp_region_held_drew (S := fun w' => Hid (Below u2.heap.size u2 w')) (by kernel_rfl) (below_drawn (Below.refl _ _) 1) (fun hHeld => ?_)
      refine held_take 0 26 (.int .i64 (k : Int)) rfl rfl (by kernel_rfl) (by kernel_rfl) (by kernel_rfl) (fun _ _ _ h => h) rfl hHeld (fun w _ => rfl) ?_
      refine held_take 1 27 (.bool true) rfl rfl (by kernel_rfl) (by kernel_rfl) (by kernel_rfl) (fun _ _ _ h => h) rfl hHeld (fun w _ => exec_gtrI (k : Int) 0 _ w (by simp; omega)) ?_
      refine held_take 2 28 (.bool true) rfl rfl (by kernel_rfl) (by kernel_rfl) (by kernel_rfl) (fun _ _ _ h => h) rfl hHeld (fun w _ => rfl) ?_
      simp only [Act.put, List.setIfInBounds_toArray, List.set_cons_zero, List.set_cons_succ]
      refine held_take 3 29 (.slice (some ⟨b', off', none⟩) l.length c) rfl rfl (by kernel_rfl) (by kernel_rfl) (by kernel_rfl) (fun _ _ _ h => h) rfl hHeld (fun w _ => rfl) ?_
      refine held_take 4 30 (.int .i64 (k : Int)) rfl rfl (by kernel_rfl) (by kernel_rfl) (by kernel_rfl) (fun _ _ _ h => h) rfl hHeld (fun w _ => rfl) ?_
      refine held_take 5 31 (.int .i64 ((k - 1 : Nat) : Int)) rfl rfl (by kernel_rfl) (by kernel_rfl) (by kernel_rfl) (fun _ _ _ h => h) rfl hHeld (fun w _ => exec_subI (k : Int) 1 _ w (by omega) (by omega) (by omega)) ?_
      simp only [Act.put, List.setIfInBounds_toArray, List.set_cons_zero, List.set_cons_succ]
      refine held_take 6 32 (.pointer (some ⟨b', off' + (k - 1) * 4, none⟩)) rfl rfl (by kernel_rfl) (by kernel_rfl) (by kernel_rfl) (fun _ _ _ h => h) rfl hHeld (fun w _ => exec_idx_en b' off' l.length c (k - 1) w (by omega)) ?_
      refine held_take 7 33 (enA y) rfl rfl (by kernel_rfl) (by kernel_rfl) (by kernel_rfl) (fun _ _ _ h => h) rfl hHeld (fun w h => exec_load_en b' (off' + (k - 1) * 4) y w (KY.out w h.out)) ?_
      refine held_take 8 34 (enA x) rfl rfl (by kernel_rfl) (by kernel_rfl) (by kernel_rfl) (fun _ _ _ h => h) rfl hHeld (fun w h => exec_load_en wr.heap.size 0 x w (KX.out w h.out)) ?_
      simp only [Act.put, List.setIfInBounds_toArray, List.set_cons_zero, List.set_cons_succ]
      refine held_call 9 35 122 #[enA y, enA x] rfl rfl (by kernel_rfl) rfl (exec_call Try.func122 (by kernel_rfl) (by kernel_rfl) _) ?_
      refine (CL.out _).mono ?_
      rintro e u3 ⟨rfl, x3⟩
      have hHeld : Hid (Below u2.heap.size u2 u3) := hHeld.out.trans (x3.mono hHeld.out.size)
      refine ⟨_, rfl, hHeld, ?_⟩
      simp only [Act.put, List.setIfInBounds_toArray, List.set_cons_zero, List.set_cons_succ]
      refine held_take 10 36 (.bool false) rfl rfl (by kernel_rfl) (by kernel_rfl) (by kernel_rfl) (fun _ _ _ h => h) rfl hHeld (fun w _ => rfl) ?_
      refine held_take 11 37 (.bool false) rfl rfl (by kernel_rfl) (by kernel_rfl) (by kernel_rfl) (fun _ _ _ h => h) rfl hHeld (fun w _ => exec_pickT _ w) ?_
      simp only [Act.put, List.setIfInBounds_toArray, List.set_cons_zero, List.set_cons_succ]
      refine wpAnyH_done (by kernel_rfl) ?_ _
      have BF := Lib.hid (BF.out.trans (hHeld.out.mono BF.out.size))
      clear hHeld x3
      go_wp2
      go_roundw
      case rel => exact ⟨k + 1, by omega, by go_num, HA, BF.out⟩
      case measure => simp [intOf]; omega
    · rw [decide_eq_false hle] at CL
      have HF := Lib.hid (quB_no hlt (fun h => hle (HOK.out.1 h hkp)))
      clear HOK hall2 hle
      go_wp2_with fail
      refine wp_region_held_drew (S := fun w' => Hid (Below u2.heap.size u2 w')) (by kernel_rfl) (below_drawn (Below.refl _ _) 1) (fun hHeld => ?_)
      refine held_take 0 26 (.int .i64 (k : Int)) rfl rfl (by kernel_rfl) (by kernel_rfl) (by kernel_rfl) (fun _ _ _ h => h) rfl hHeld (fun w _ => rfl) ?_
      refine held_take 1 27 (.bool true) rfl rfl (by kernel_rfl) (by kernel_rfl) (by kernel_rfl) (fun _ _ _ h => h) rfl hHeld (fun w _ => exec_gtrI (k : Int) 0 _ w (by simp; omega)) ?_
      refine held_take 2 28 (.bool true) rfl rfl (by kernel_rfl) (by kernel_rfl) (by kernel_rfl) (fun _ _ _ h => h) rfl hHeld (fun w _ => rfl) ?_
      simp only [Act.put, List.setIfInBounds_toArray, List.set_cons_zero, List.set_cons_succ]
      refine held_take 3 29 (.slice (some ⟨b', off', none⟩) l.length c) rfl rfl (by kernel_rfl) (by kernel_rfl) (by kernel_rfl) (fun _ _ _ h => h) rfl hHeld (fun w _ => rfl) ?_
      refine held_take 4 30 (.int .i64 (k : Int)) rfl rfl (by kernel_rfl) (by kernel_rfl) (by kernel_rfl) (fun _ _ _ h => h) rfl hHeld (fun w _ => rfl) ?_
      refine held_take 5 31 (.int .i64 ((k - 1 : Nat) : Int)) rfl rfl (by kernel_rfl) (by kernel_rfl) (by kernel_rfl) (fun _ _ _ h => h) rfl hHeld (fun w _ => exec_subI (k : Int) 1 _ w (by omega) (by omega) (by omega)) ?_
      simp only [Act.put, List.setIfInBounds_toArray, List.set_cons_zero, List.set_cons_succ]
      refine held_take 6 32 (.pointer (some ⟨b', off' + (k - 1) * 4, none⟩)) rfl rfl (by kernel_rfl) (by kernel_rfl) (by kernel_rfl) (fun _ _ _ h => h) rfl hHeld (fun w _ => exec_idx_en b' off' l.length c (k - 1) w (by omega)) ?_
      refine held_take 7 33 (enA y) rfl rfl (by kernel_rfl) (by kernel_rfl) (by kernel_rfl) (fun _ _ _ h => h) rfl hHeld (fun w h => exec_load_en b' (off' + (k - 1) * 4) y w (KY.out w h.out)) ?_
      refine held_take 8 34 (enA x) rfl rfl (by kernel_rfl) (by kernel_rfl) (by kernel_rfl) (fun _ _ _ h => h) rfl hHeld (fun w h => exec_load_en wr.heap.size 0 x w (KX.out w h.out)) ?_
      simp only [Act.put, List.setIfInBounds_toArray, List.set_cons_zero, List.set_cons_succ]
      refine held_call 9 35 122 #[enA y, enA x] rfl rfl (by kernel_rfl) rfl (exec_call Try.func122 (by kernel_rfl) (by kernel_rfl) _) ?_
      refine (CL.out _).mono ?_
      rintro e u3 ⟨rfl, x3⟩
      have hHeld : Hid (Below u2.heap.size u2 u3) := hHeld.out.trans (x3.mono hHeld.out.size)
      refine ⟨_, rfl, hHeld, ?_⟩
      simp only [Act.put, List.setIfInBounds_toArray, List.set_cons_zero, List.set_cons_succ]
      refine held_take 10 36 (.bool true) rfl rfl (by kernel_rfl) (by kernel_rfl) (by kernel_rfl) (fun _ _ _ h => h) rfl hHeld (fun w _ => rfl) ?_
      refine held_take 11 37 (.bool true) rfl rfl (by kernel_rfl) (by kernel_rfl) (by kernel_rfl) (fun _ _ _ h => h) rfl hHeld (fun w _ => exec_pickT _ w) ?_
      simp only [Act.put, List.setIfInBounds_toArray, List.set_cons_zero, List.set_cons_succ]
      refine wpAnyH_done (by kernel_rfl) ?_ _
      have BF := Lib.hid (BF.out.trans (hHeld.out.mono BF.out.size))
      clear hHeld x3
      go_wp2
      go_ret
      exact ⟨by rw [HF.out] <;> rfl, BF.out⟩
set_option maxRecDepth 100000 in
theorem rowQue : RowT 164 115 4 32 (.agg #[.int .i64 0, .int .i64 0, .int .i64 0, .int .i64 0]) := ⟨Try.underlying164, by kernel_rfl, rfl, by omega, by omega⟩
/-- A slice of entries. -/
structure Pq where
  A : Option Addr
  c : Nat
  l : List En
def Pq.v (p : Pq) : Value := .slice p.A p.l.length p.c
def pq0 : Pq := ⟨none, 0, []⟩
def Pq.ok (w : World) (p : Pq) : Prop := p.l.length ≤ 2097153 ∧ (p.A = none → p.c = 0) ∧ Rws w w.heap.size p.A (p.l.flatMap enC)
def catQ (L : List Pq) (k : Nat) : List En := (L.take k).flatMap (·.l)
theorem catQ_succ (L : List Pq) (k : Nat) (hk : k < L.length) : catQ L (k + 1) = catQ L k ++ (L.getD k pq0).l := by
  unfold catQ
  rw [List.take_add_one, List.flatMap_append, List.getD_eq_getElem?_getD, List.getElem?_eq_getElem hk]
  simp
theorem catQ_le (L : List Pq) (h : ∀ i, i < L.length → (L.getD i pq0).l.length ≤ 2097153) : ∀ k, k ≤ L.length → (catQ L k).length ≤ k * 2097153
  | 0, _ => by simp [catQ]
  | k + 1, hk => by
    rw [catQ_succ L k (by omega), List.length_append]
    have h1 := catQ_le L h k (by omega)
    have h2 := h k (by omega)
    omega
set_option maxRecDepth 100000 in
theorem exec_one_que {ρ : Operand → Value} {o : Oper} {y : Operand} (x : En) (w : World) (ho : o.op = .buildSlice 164 1 #[(0, y)] := by rfl) (hy : ρ y = enA x := by rfl) :
    (execOp ρ o).run Try.prog w = .ok (.value (.slice (some ⟨w.heap.size, 0, none⟩) 1 1)) (w.alloc (.cells (enC x).toArray 115)) := by
  unfold execOp
  rw [ho]
  simp [go_sem, hy, enA, enC]
theorem enPut_fits (l : List En) (x : En) (hf : ∀ f ∈ l, f.fits) (hx : x.fits) : ∀ f ∈ enPut l x, f.fits := by
  intro f h
  rw [enPut_place] at h
  rcases List.mem_append.1 h with h | h
  · rcases List.mem_append.1 h with h | h
    · exact hf f (List.mem_of_mem_take h)
    · have : f = x := by simpa using h
      subst this; exact hx
  · exact hf f (List.mem_of_mem_drop h)
end Go.Proofs.Ytdjglbmcpfaofaa
