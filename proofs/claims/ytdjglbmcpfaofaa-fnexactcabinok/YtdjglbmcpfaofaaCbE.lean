/- Rows of entries compared: the model and the program. -/
import Derived.Test.YtdjglbmcpfaofaaRows
import Derived.Test.YtdjglbmcpfaofaaEnL
import Derived.Test.YtdjglbmcpfaofaaHs4
import Derived.Test.YtdjglbmcpfaofaaHs6
namespace Go.Proofs.Ytdjglbmcpfaofaa
open Go.RowKit
set_option linter.unusedSimpArgs false
set_option linter.unusedVariables false
theorem liste_ne_at {l m : List En} {k : Nat} (hk : k < l.length) (h : ¬ l.getD k en0 = m.getD k en0) : ¬ l = m := fun e => h (by rw [e])
instance : DecidableEq En := fun a b => by
  cases a; cases b
  rename_i a1 a2 a3 a4 b1 b2 b3 b4
  by_cases h : a1 = b1 ∧ a2 = b2 ∧ a3 = b3 ∧ a4 = b4
  · exact isTrue (by rw [h.1, h.2.1, h.2.2.1, h.2.2.2])
  · exact isFalse (fun e => h (by injection e with e1 e2 e3 e4; exact ⟨e1, e2, e3, e4⟩))
set_option maxRecDepth 100000 in
theorem exec_neqE2 {ρ : Operand → Value} {o : Oper} {x y : Operand} (X Y : En) (w : World) (ho : o.op = .binOp .neq 115 x y 115 := by rfl) (hx : ρ x = enA X := by rfl) (hy : ρ y = enA Y := by rfl) :
    (execOp ρ o).run Try.prog w = .ok (.value (.bool (!decide (X = Y)))) w := by
  unfold execOp
  rw [ho]
  obtain ⟨x1, x2, x3, x4⟩ := X
  obtain ⟨y1, y2, y3, y4⟩ := Y
  simp [go_sem, hx, hy, enA]
  by_cases h1 : x1 = y1 <;> by_cases h2 : x2 = y2 <;> by_cases h3 : x3 = y3 <;> by_cases h4 : x4 = y4 <;> simp [h1, h2, h3, h4]
instance decEqLe : DecidableEq Le := fun a b => by
  cases a; cases b
  rename_i a1 a2 a3 a4 a5 b1 b2 b3 b4 b5
  by_cases h : a1 = b1 ∧ a2 = b2 ∧ a3 = b3 ∧ a4 = b4 ∧ a5 = b5
  · exact isTrue (by rw [h.1, h.2.1, h.2.2.1, h.2.2.2.1, h.2.2.2.2])
  · exact isFalse (fun e => h (by injection e with e1 e2 e3 e4 e5; exact ⟨e1, e2, e3, e4, e5⟩))
set_option maxRecDepth 100000 in
theorem exec_eqlLe {ρ : Operand → Value} {o : Oper} {x y : Operand} (X Y : Le) (w : World) (ho : o.op = .binOp .eql 32 x y 32 := by rfl) (hx : ρ x = leA X := by rfl) (hy : ρ y = leA Y := by rfl) :
    (execOp ρ o).run Try.prog w = .ok (.value (.bool (decide (X = Y)))) w := by
  unfold execOp
  rw [ho]
  obtain ⟨x1, x2, x3, x4, x5⟩ := X
  obtain ⟨y1, y2, y3, y4, y5⟩ := Y
  simp [go_sem, hx, hy, leA]
  by_cases h1 : x1 = y1 <;> by_cases h2 : x2 = y2 <;> by_cases h3 : x3 = y3 <;> by_cases h4 : x4 = y4 <;> by_cases h5 : x5 = y5 <;> simp [h1, h2, h3, h4, h5]
theorem liste_eq_all {l m : List En} (hl : l.length = m.length) (h : ∀ k, k < l.length → l.getD k en0 = m.getD k en0) : l = m := by
  apply List.ext_getElem hl
  intro i h1 h2
  have := h i h1
  simpa [List.getD_eq_getElem?_getD, h1, h2] using this
set_option maxRecDepth 100000 in
set_option maxHeartbeats 1600000 in
theorem sameRow_spec (A A' : Option Addr) (l m : List En) (c c' : Nat) (w : World) (hl : l.length ≤ 2097152) (hm : m.length ≤ 2097152) (hA : Rws w w.heap.size A (l.flatMap enC)) (hA' : Rws w w.heap.size A' (m.flatMap enC)) :
    Calls Try.prog 72 #[.slice A l.length c, .slice A' m.length c'] w fun e w' => e = .returned (.bool (decide (l = m))) ∧ Below w.heap.size w w' := by
  by_cases hle : l.length = m.length
  rotate_left
  · have HV : Hid (decide (l = m) = false) := decide_eq_false (fun e => hle (by rw [e]))
    have hne : ((l.length : Int) != (m.length : Int)) = true := by simp; omega
    go_enter Try.func72, Try.ntmps72
    go_wp2
    go_ret
    exact ⟨by rw [HV.out] <;> rfl, Below.refl _ _⟩
  rw [← hle]
  have HLE := Lib.hid hle
  rw [← hle] at hm
  clear hle
  have hne : ((l.length : Int) != (l.length : Int)) = false := by simp
  go_enter Try.func72, Try.ntmps72
  go_wp2
  go_loopw [5] (fun i wr => ∃ k : Nat, k ≤ l.length ∧ i = .int .i64 k ∧ Hid (∀ j, j < k → l.getD j en0 = m.getD j en0) ∧ Below w.heap.size w wr) (fun i _ => l.length - (intOf i).toNat)
  case atStart => exact ⟨0, by omega, rfl, (fun j hj => by omega), Below.refl _ _⟩
  case round =>
    obtain ⟨k, hk, rfl, hall, hb⟩ := hrel
    by_cases hlt : k < l.length
    · obtain ⟨b, off, rfl, hbB, c0⟩ := (hA.below hb).en hlt
      obtain ⟨b', off', rfl, hbB', d0⟩ := (hA'.below hb).en (i := k) (by have := HLE.out; omega)
      have HNE := Lib.hid (fun h => liste_ne_at (m := m) hlt h)
      have HAL : Hid (l.getD k en0 = m.getD k en0 → ∀ j, j < k + 1 → l.getD j en0 = m.getD j en0) := fun h j hj => by
        by_cases e : j = k
        · subst e; exact h
        · exact hall.out j (by omega)
      have hbs := hb.size
      generalize l.getD k en0 = x at *
      generalize m.getD k en0 = y at *
      have K1 := Lib.hid (fun w' (h : Below wr.heap.size wr w') => En.here.below c0 h (by omega))
      have K2 := Lib.hid (fun w' (h : Below wr.heap.size wr w') => En.here.below d0 h (by omega))
      clear c0 d0
      go_wp2
      refine wp_region_held_drew (S := fun w' => Hid (Below wr.heap.size wr w')) (by kernel_rfl) (below_drawn (Below.refl _ _) 1) (fun hHeld => ?_)
      refine held_take 0 17 (.slice (some ⟨b, off, none⟩) l.length c) rfl rfl (by kernel_rfl) (by kernel_rfl) (by kernel_rfl) (fun _ _ _ h => h) rfl hHeld (fun w _ => rfl) ?_
      refine held_take 1 18 (.int .i64 (k : Int)) rfl rfl (by kernel_rfl) (by kernel_rfl) (by kernel_rfl) (fun _ _ _ h => h) rfl hHeld (fun w _ => rfl) ?_
      refine held_take 2 19 (.pointer (some ⟨b, off + k * 4, none⟩)) rfl rfl (by kernel_rfl) (by kernel_rfl) (by kernel_rfl) (fun _ _ _ h => h) rfl hHeld (fun w _ => exec_idx_en b off l.length c k w hlt) ?_
      simp only [Act.put, List.setIfInBounds_toArray, List.set_cons_zero, List.set_cons_succ]
      refine held_take 3 20 (enA x) rfl rfl (by kernel_rfl) (by kernel_rfl) (by kernel_rfl) (fun _ _ _ h => h) rfl hHeld (fun w h => exec_load_en b (off + k * 4) x w (K1.out w h.out)) ?_
      refine held_take 4 21 (.slice (some ⟨b', off', none⟩) l.length c') rfl rfl (by kernel_rfl) (by kernel_rfl) (by kernel_rfl) (fun _ _ _ h => h) rfl hHeld (fun w _ => rfl) ?_
      refine held_take 5 22 (.int .i64 (k : Int)) rfl rfl (by kernel_rfl) (by kernel_rfl) (by kernel_rfl) (fun _ _ _ h => h) rfl hHeld (fun w _ => rfl) ?_
      simp only [Act.put, List.setIfInBounds_toArray, List.set_cons_zero, List.set_cons_succ]
      refine held_take 6 23 (.pointer (some ⟨b', off' + k * 4, none⟩)) rfl rfl (by kernel_rfl) (by kernel_rfl) (by kernel_rfl) (fun _ _ _ h => h) rfl hHeld (fun w _ => exec_idx_en b' off' l.length c' k w hlt) ?_
      refine held_take 7 24 (enA y) rfl rfl (by kernel_rfl) (by kernel_rfl) (by kernel_rfl) (fun _ _ _ h => h) rfl hHeld (fun w h => exec_load_en b' (off' + k * 4) y w (K2.out w h.out)) ?_
      simp only [Act.put, List.setIfInBounds_toArray, List.set_cons_zero, List.set_cons_succ]
      refine held_take 8 25 (.bool (!decide (x = y))) rfl rfl (by kernel_rfl) (by kernel_rfl) (by kernel_rfl) (fun _ _ _ h => h) rfl hHeld (fun w _ => exec_neqE2 x y w) ?_
      simp only [Act.put, List.setIfInBounds_toArray, List.set_cons_zero, List.set_cons_succ]
      refine wpAnyH_done (by kernel_rfl) ?_ _
      have b2 : Hid (Below w.heap.size w wr.drew) := hb.trans (hHeld.out.mono hbs)
      clear hHeld hb K1 K2
      by_cases hxy : x = y
      · have hd : (!decide (x = y)) = false := by simp [hxy]
        have HA := Lib.hid (HAL.out hxy)
        rw [hd]
        clear hd HAL HNE hxy hall
        go_wp2
        go_roundw
        case rel => exact ⟨k + 1, by omega, by go_num, HA, b2.out⟩
        case measure => simp [intOf]; omega
      · have hd : (!decide (x = y)) = true := by simp [hxy]
        have HV : Hid (decide (l = m) = false) := decide_eq_false (HNE.out hxy)
        rw [hd]
        clear hd HAL HNE hxy hall
        go_wp2
        go_ret
        exact ⟨by rw [HV.out] <;> rfl, b2.out⟩
    · obtain rfl : k = l.length := by omega
      have HV : Hid (decide (l = m) = true) := decide_eq_true (liste_eq_all HLE.out hall.out)
      clear hall
      go_wp2
      go_ret
      exact ⟨by rw [HV.out] <;> rfl, hb⟩
set_option maxRecDepth 100000 in
set_option maxHeartbeats 1600000 in
theorem equalE_im (A A' : Option Addr) (la lb : List En) (c d : Nat) (w : World) (hl : la.length ≤ 2097152) (hl' : lb.length ≤ 2097152) (hA : Rws w w.heap.size A (la.flatMap enC)) (hB : Rws w w.heap.size A' (lb.flatMap enC)) :
    Calls Try.prog 129 #[.slice A la.length c, .slice A' lb.length d] w fun e w' => e = .returned (.bool (decide (la = lb))) ∧ Below w.heap.size w w' := by
  by_cases hn : la.length = lb.length
  rotate_left
  · have HF : Hid (decide (la = lb) = false) := decide_eq_false (fun h => hn (by rw [h]))
    have hq : ((la.length : Int) != (lb.length : Int)) = true := by simp; omega
    clear hn
    go_enter Try.func129, Try.ntmps129
    go_wp2
    go_ret
    exact ⟨by rw [HF.out] <;> rfl, Below.refl _ _⟩
  have HA := Lib.hid hA
  have HB := Lib.hid hB
  have HN := Lib.hid hn
  rw [← hn]
  have hq : ((la.length : Int) != (la.length : Int)) = false := by simp
  clear hA hB hn
  go_enter Try.func129, Try.ntmps129
  go_wp2
  go_loopw [13] (fun i wr => ∃ k : Nat, k ≤ la.length ∧ i = .int .i64 k ∧ Hid (∀ j, j < k → la.getD j en0 = lb.getD j en0) ∧ Hid (Below w.heap.size w wr)) (fun i _ => la.length - (intOf i).toNat)
  case atStart => exact ⟨0, by omega, rfl, (fun j hj => by omega), Below.refl _ _⟩
  case round =>
    obtain ⟨k, hk, rfl, hall, hb⟩ := hrel
    by_cases hlt : k < la.length
    · obtain ⟨b, off, rfl, hbB, hx⟩ := (rws_below HA.out hb.out).en hlt
      obtain ⟨b2, off2, rfl, hbB2, hy⟩ := (rws_below HB.out hb.out).en (i := k) (by have := HN.out; omega)
      have HI : Hid (la.getD k en0 ≠ lb.getD k en0 → la ≠ lb) := fun h e => h (by rw [e])
      have HY : Hid (la.getD k en0 = lb.getD k en0 → ∀ j, j < k + 1 → la.getD j en0 = lb.getD j en0) := fun h j hj => by
        by_cases e : j = k
        · subst e; exact h
        · exact hall.out j (by omega)
      clear hall
      generalize la.getD k en0 = x at *
      generalize lb.getD k en0 = y at *
      have KX := Lib.hid (fun w' (h : Below wr.heap.size wr w') => hx.below h hbB)
      have KY := Lib.hid (fun w' (h : Below wr.heap.size wr w') => hy.below h hbB2)
      clear hx hy
      by_cases hxy : x = y
      · have HD : Hid (decide (x = y) = true) := decide_eq_true hxy
        have HZ := Lib.hid (HY.out hxy)
        clear hxy HI HY
        go_wp2_with fail
        refine wp_region_held_drew (S := fun w' => Hid (Below wr.heap.size wr w')) (by kernel_rfl) (below_drawn (Below.refl _ _) 1) (fun hHeld => ?_)
        refine held_take 0 16 (.slice (some ⟨b, off, none⟩) la.length c) rfl rfl (by kernel_rfl) (by kernel_rfl) (by kernel_rfl) (fun _ _ _ h => h) rfl hHeld (fun w _ => rfl) ?_
        refine held_take 1 17 (.int .i64 (k : Int)) rfl rfl (by kernel_rfl) (by kernel_rfl) (by kernel_rfl) (fun _ _ _ h => h) rfl hHeld (fun w _ => rfl) ?_
        simp only [Act.put, List.setIfInBounds_toArray, List.set_cons_zero, List.set_cons_succ]
        refine held_take 2 18 (.pointer (some ⟨b, off + k * 4, none⟩)) rfl rfl (by kernel_rfl) (by kernel_rfl) (by kernel_rfl) (fun _ _ _ h => h) rfl hHeld (fun w _ => exec_idx_en b off la.length c k w hlt) ?_
        refine held_take 3 19 (enA x) rfl rfl (by kernel_rfl) (by kernel_rfl) (by kernel_rfl) (fun _ _ _ h => h) rfl hHeld (fun w h => exec_load_en b (off + k * 4) x w (KX.out w h.out)) ?_
        simp only [Act.put, List.setIfInBounds_toArray, List.set_cons_zero, List.set_cons_succ]
        refine held_take 4 20 (.slice (some ⟨b2, off2, none⟩) la.length d) rfl rfl (by kernel_rfl) (by kernel_rfl) (by kernel_rfl) (fun _ _ _ h => h) rfl hHeld (fun w _ => rfl) ?_
        refine held_take 5 21 (.int .i64 (k : Int)) rfl rfl (by kernel_rfl) (by kernel_rfl) (by kernel_rfl) (fun _ _ _ h => h) rfl hHeld (fun w _ => rfl) ?_
        simp only [Act.put, List.setIfInBounds_toArray, List.set_cons_zero, List.set_cons_succ]
        refine held_take 6 22 (.pointer (some ⟨b2, off2 + k * 4, none⟩)) rfl rfl (by kernel_rfl) (by kernel_rfl) (by kernel_rfl) (fun _ _ _ h => h) rfl hHeld (fun w _ => exec_idx_en b2 off2 la.length d k w hlt) ?_
        refine held_take 7 23 (enA y) rfl rfl (by kernel_rfl) (by kernel_rfl) (by kernel_rfl) (fun _ _ _ h => h) rfl hHeld (fun w h => exec_load_en b2 (off2 + k * 4) y w (KY.out w h.out)) ?_
        simp only [Act.put, List.setIfInBounds_toArray, List.set_cons_zero, List.set_cons_succ]
        refine held_take 8 24 (.bool false) rfl rfl (by kernel_rfl) (by kernel_rfl) (by kernel_rfl) (fun _ _ _ h => h) rfl hHeld (fun w _ => (exec_neqE2 x y w).trans (by rw [HD.out]; rfl)) ?_
        simp only [Act.put, List.setIfInBounds_toArray, List.set_cons_zero, List.set_cons_succ]
        refine wpAnyH_done (by kernel_rfl) ?_ _
        have BF := Lib.hid (hb.out.trans (hHeld.out.mono hb.out.size))
        clear hHeld

        go_wp2
        go_roundw
        case rel => exact ⟨k + 1, by omega, by go_num, HZ, BF⟩
        case measure => simp [intOf]; omega
      · have HD : Hid (decide (x = y) = false) := decide_eq_false hxy
        have HZ : Hid (decide (la = lb) = false) := decide_eq_false (HI.out hxy)
        clear hxy HI HY
        go_wp2_with fail
        refine wp_region_held_drew (S := fun w' => Hid (Below wr.heap.size wr w')) (by kernel_rfl) (below_drawn (Below.refl _ _) 1) (fun hHeld => ?_)
        refine held_take 0 16 (.slice (some ⟨b, off, none⟩) la.length c) rfl rfl (by kernel_rfl) (by kernel_rfl) (by kernel_rfl) (fun _ _ _ h => h) rfl hHeld (fun w _ => rfl) ?_
        refine held_take 1 17 (.int .i64 (k : Int)) rfl rfl (by kernel_rfl) (by kernel_rfl) (by kernel_rfl) (fun _ _ _ h => h) rfl hHeld (fun w _ => rfl) ?_
        simp only [Act.put, List.setIfInBounds_toArray, List.set_cons_zero, List.set_cons_succ]
        refine held_take 2 18 (.pointer (some ⟨b, off + k * 4, none⟩)) rfl rfl (by kernel_rfl) (by kernel_rfl) (by kernel_rfl) (fun _ _ _ h => h) rfl hHeld (fun w _ => exec_idx_en b off la.length c k w hlt) ?_
        refine held_take 3 19 (enA x) rfl rfl (by kernel_rfl) (by kernel_rfl) (by kernel_rfl) (fun _ _ _ h => h) rfl hHeld (fun w h => exec_load_en b (off + k * 4) x w (KX.out w h.out)) ?_
        simp only [Act.put, List.setIfInBounds_toArray, List.set_cons_zero, List.set_cons_succ]
        refine held_take 4 20 (.slice (some ⟨b2, off2, none⟩) la.length d) rfl rfl (by kernel_rfl) (by kernel_rfl) (by kernel_rfl) (fun _ _ _ h => h) rfl hHeld (fun w _ => rfl) ?_
        refine held_take 5 21 (.int .i64 (k : Int)) rfl rfl (by kernel_rfl) (by kernel_rfl) (by kernel_rfl) (fun _ _ _ h => h) rfl hHeld (fun w _ => rfl) ?_
        simp only [Act.put, List.setIfInBounds_toArray, List.set_cons_zero, List.set_cons_succ]
        refine held_take 6 22 (.pointer (some ⟨b2, off2 + k * 4, none⟩)) rfl rfl (by kernel_rfl) (by kernel_rfl) (by kernel_rfl) (fun _ _ _ h => h) rfl hHeld (fun w _ => exec_idx_en b2 off2 la.length d k w hlt) ?_
        refine held_take 7 23 (enA y) rfl rfl (by kernel_rfl) (by kernel_rfl) (by kernel_rfl) (fun _ _ _ h => h) rfl hHeld (fun w h => exec_load_en b2 (off2 + k * 4) y w (KY.out w h.out)) ?_
        simp only [Act.put, List.setIfInBounds_toArray, List.set_cons_zero, List.set_cons_succ]
        refine held_take 8 24 (.bool true) rfl rfl (by kernel_rfl) (by kernel_rfl) (by kernel_rfl) (fun _ _ _ h => h) rfl hHeld (fun w _ => (exec_neqE2 x y w).trans (by rw [HD.out]; rfl)) ?_
        simp only [Act.put, List.setIfInBounds_toArray, List.set_cons_zero, List.set_cons_succ]
        refine wpAnyH_done (by kernel_rfl) ?_ _
        have BF := Lib.hid (hb.out.trans (hHeld.out.mono hb.out.size))
        clear hHeld

        go_wp2
        go_ret
        exact ⟨by rw [HZ.out] <;> rfl, BF.out⟩
    · obtain rfl : k = la.length := by omega
      have HZ : Hid (decide (la = lb) = true) := decide_eq_true (liste_eq_all HN.out hall.out)
      clear hall
      go_wp2
      go_ret
      exact ⟨by rw [HZ.out] <;> rfl, hb.out⟩
end Go.Proofs.Ytdjglbmcpfaofaa
