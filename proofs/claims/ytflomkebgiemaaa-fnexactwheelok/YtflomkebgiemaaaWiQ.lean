/- slices.Index, slices.Equal, slices.BinarySearchFunc of the program at pins. -/
import Derived.Test.YtflomkebgiemaaaRows
import Derived.Test.YtflomkebgiemaaaWiK
import Derived.Test.YtflomkebgiemaaaWiP
namespace Go.Proofs.Ytflomkebgiemaaa
open Go.RowKit
set_option linter.unusedSimpArgs false
set_option linter.unusedVariables false
set_option maxRecDepth 100000 in
set_option maxHeartbeats 1600000 in
theorem equalP_im (A A' : Option Addr) (la lb : List Pn) (c d : Nat) (w : World) (hl : la.length ≤ 1048577) (hl' : lb.length ≤ 1048577) (hA : Rws w w.heap.size A (la.flatMap pnC)) (hB : Rws w w.heap.size A' (lb.flatMap pnC)) :
    Calls Try.prog 61 #[.slice A la.length c, .slice A' lb.length d] w fun e w' => e = .returned (.bool (decide (la = lb))) ∧ Below w.heap.size w w' := by
  by_cases hn : la.length = lb.length
  rotate_left
  · have HF : Hid (decide (la = lb) = false) := decide_eq_false (fun h => hn (by rw [h]))
    have hq : ((la.length : Int) != (lb.length : Int)) = true := by simp; omega
    clear hn
    go_enter Try.func61, Try.ntmps61
    go_wp2
    go_ret
    exact ⟨by rw [HF.out] <;> rfl, Below.refl _ _⟩
  have HA := Lib.hid hA
  have HB := Lib.hid hB
  have HN := Lib.hid hn
  rw [← hn]
  have hq : ((la.length : Int) != (la.length : Int)) = false := by simp
  clear hA hB hn
  go_enter Try.func61, Try.ntmps61
  go_wp2
  go_loopw [13] (fun i wr => ∃ k : Nat, k ≤ la.length ∧ i = .int .i64 k ∧ Hid (∀ j, j < k → la.getD j pn0 = lb.getD j pn0) ∧ Hid (Below w.heap.size w wr)) (fun i _ => la.length - (intOf i).toNat)
  case atStart => exact ⟨0, by omega, rfl, (fun j hj => by omega), Below.refl _ _⟩
  case round =>
    obtain ⟨k, hk, rfl, hall, hb⟩ := hrel
    by_cases hlt : k < la.length
    · obtain ⟨b, off, rfl, hbB, hx⟩ := (rws_below HA.out hb.out).pn hlt
      obtain ⟨b2, off2, rfl, hbB2, hy⟩ := (rws_below HB.out hb.out).pn (i := k) (by have := HN.out; omega)
      have HI : Hid (la.getD k pn0 ≠ lb.getD k pn0 → la ≠ lb) := fun h e => h (by rw [e])
      have HY : Hid (la.getD k pn0 = lb.getD k pn0 → ∀ j, j < k + 1 → la.getD j pn0 = lb.getD j pn0) := fun h j hj => by
        by_cases e : j = k
        · subst e; exact h
        · exact hall.out j (by omega)
      clear hall
      generalize la.getD k pn0 = x at *
      generalize lb.getD k pn0 = y at *
      have KX := Lib.hid (fun w' (h : Below wr.heap.size wr w') => hx.below h hbB)
      have KY := Lib.hid (fun w' (h : Below wr.heap.size wr w') => hy.below h hbB2)
      clear hx hy
      by_cases hxy : x = y
      · have HD : Hid (decide (x = y) = true) := decide_eq_true hxy
        have HZ := Lib.hid (HY.out hxy)
        clear hxy HI HY
        go_wp2_with fail
        refine wp_region_held_drew (S := fun w' => Hid (Below wr.heap.size wr w')) (by kernel_rfl) (below_drawn (Below.refl _ _) 1) (fun hHeld => ?_)
        refine held_take 0 16 (.slice (some ⟨b, off, none⟩) la.length c) rfl rfl (by kernel_rfl) (by kernel_rfl) (by kernel_rfl) (fun _ _ _ h => h) rfl hHeld (fun w _ => rfl) ?_
        refine held_take 1 17 (.int .i64 (k : Int)) rfl rfl (by kernel_rfl) (by kernel_rfl) (by kernel_rfl) (fun _ _ _ h => h) rfl hHeld (fun w _ => rfl) ?_
        simp only [Act.put, List.setIfInBounds_toArray, List.set_cons_zero, List.set_cons_succ]
        refine held_take 2 18 (.pointer (some ⟨b, off + k * 2, none⟩)) rfl rfl (by kernel_rfl) (by kernel_rfl) (by kernel_rfl) (fun _ _ _ h => h) rfl hHeld (fun w _ => exec_idx_pn b off la.length c k w hlt) ?_
        refine held_take 3 19 (pnA x) rfl rfl (by kernel_rfl) (by kernel_rfl) (by kernel_rfl) (fun _ _ _ h => h) rfl hHeld (fun w h => exec_load_pn b (off + k * 2) x w (KX.out w h.out)) ?_
        simp only [Act.put, List.setIfInBounds_toArray, List.set_cons_zero, List.set_cons_succ]
        refine held_take 4 20 (.slice (some ⟨b2, off2, none⟩) la.length d) rfl rfl (by kernel_rfl) (by kernel_rfl) (by kernel_rfl) (fun _ _ _ h => h) rfl hHeld (fun w _ => rfl) ?_
        refine held_take 5 21 (.int .i64 (k : Int)) rfl rfl (by kernel_rfl) (by kernel_rfl) (by kernel_rfl) (fun _ _ _ h => h) rfl hHeld (fun w _ => rfl) ?_
        simp only [Act.put, List.setIfInBounds_toArray, List.set_cons_zero, List.set_cons_succ]
        refine held_take 6 22 (.pointer (some ⟨b2, off2 + k * 2, none⟩)) rfl rfl (by kernel_rfl) (by kernel_rfl) (by kernel_rfl) (fun _ _ _ h => h) rfl hHeld (fun w _ => exec_idx_pn b2 off2 la.length d k w hlt) ?_
        refine held_take 7 23 (pnA y) rfl rfl (by kernel_rfl) (by kernel_rfl) (by kernel_rfl) (fun _ _ _ h => h) rfl hHeld (fun w h => exec_load_pn b2 (off2 + k * 2) y w (KY.out w h.out)) ?_
        simp only [Act.put, List.setIfInBounds_toArray, List.set_cons_zero, List.set_cons_succ]
        refine held_take 8 24 (.bool false) rfl rfl (by kernel_rfl) (by kernel_rfl) (by kernel_rfl) (fun _ _ _ h => h) rfl hHeld (fun w _ => (exec_neqPn x y w).trans (by rw [HD.out]; rfl)) ?_
        simp only [Act.put, List.setIfInBounds_toArray, List.set_cons_zero, List.set_cons_succ]
        refine wpAnyH_done (by kernel_rfl) ?_ _
        have BF := Lib.hid (hb.out.trans (hHeld.out.mono hb.out.size))
        clear hHeld

        go_wp2
        go_roundw
        case rel => exact ⟨k + 1, by omega, by go_num, HZ, BF⟩
        case measure => simp [intOf]; omega
      · have HD : Hid (decide (x = y) = false) := decide_eq_false hxy
        have HZ : Hid (decide (la = lb) = false) := decide_eq_false (HI.out hxy)
        clear hxy HI HY
        go_wp2_with fail
        refine wp_region_held_drew (S := fun w' => Hid (Below wr.heap.size wr w')) (by kernel_rfl) (below_drawn (Below.refl _ _) 1) (fun hHeld => ?_)
        refine held_take 0 16 (.slice (some ⟨b, off, none⟩) la.length c) rfl rfl (by kernel_rfl) (by kernel_rfl) (by kernel_rfl) (fun _ _ _ h => h) rfl hHeld (fun w _ => rfl) ?_
        refine held_take 1 17 (.int .i64 (k : Int)) rfl rfl (by kernel_rfl) (by kernel_rfl) (by kernel_rfl) (fun _ _ _ h => h) rfl hHeld (fun w _ => rfl) ?_
        simp only [Act.put, List.setIfInBounds_toArray, List.set_cons_zero, List.set_cons_succ]
        refine held_take 2 18 (.pointer (some ⟨b, off + k * 2, none⟩)) rfl rfl (by kernel_rfl) (by kernel_rfl) (by kernel_rfl) (fun _ _ _ h => h) rfl hHeld (fun w _ => exec_idx_pn b off la.length c k w hlt) ?_
        refine held_take 3 19 (pnA x) rfl rfl (by kernel_rfl) (by kernel_rfl) (by kernel_rfl) (fun _ _ _ h => h) rfl hHeld (fun w h => exec_load_pn b (off + k * 2) x w (KX.out w h.out)) ?_
        simp only [Act.put, List.setIfInBounds_toArray, List.set_cons_zero, List.set_cons_succ]
        refine held_take 4 20 (.slice (some ⟨b2, off2, none⟩) la.length d) rfl rfl (by kernel_rfl) (by kernel_rfl) (by kernel_rfl) (fun _ _ _ h => h) rfl hHeld (fun w _ => rfl) ?_
        refine held_take 5 21 (.int .i64 (k : Int)) rfl rfl (by kernel_rfl) (by kernel_rfl) (by kernel_rfl) (fun _ _ _ h => h) rfl hHeld (fun w _ => rfl) ?_
        simp only [Act.put, List.setIfInBounds_toArray, List.set_cons_zero, List.set_cons_succ]
        refine held_take 6 22 (.pointer (some ⟨b2, off2 + k * 2, none⟩)) rfl rfl (by kernel_rfl) (by kernel_rfl) (by kernel_rfl) (fun _ _ _ h => h) rfl hHeld (fun w _ => exec_idx_pn b2 off2 la.length d k w hlt) ?_
        refine held_take 7 23 (pnA y) rfl rfl (by kernel_rfl) (by kernel_rfl) (by kernel_rfl) (fun _ _ _ h => h) rfl hHeld (fun w h => exec_load_pn b2 (off2 + k * 2) y w (KY.out w h.out)) ?_
        simp only [Act.put, List.setIfInBounds_toArray, List.set_cons_zero, List.set_cons_succ]
        refine held_take 8 24 (.bool true) rfl rfl (by kernel_rfl) (by kernel_rfl) (by kernel_rfl) (fun _ _ _ h => h) rfl hHeld (fun w _ => (exec_neqPn x y w).trans (by rw [HD.out]; rfl)) ?_
        simp only [Act.put, List.setIfInBounds_toArray, List.set_cons_zero, List.set_cons_succ]
        refine wpAnyH_done (by kernel_rfl) ?_ _
        have BF := Lib.hid (hb.out.trans (hHeld.out.mono hb.out.size))
        clear hHeld

        go_wp2
        go_ret
        exact ⟨by rw [HZ.out] <;> rfl, BF.out⟩
    · obtain rfl : k = la.length := by omega
      have HZ : Hid (decide (la = lb) = true) := decide_eq_true (list_eq_all HN.out hall.out)
      clear hall
      go_wp2
      go_ret
      exact ⟨by rw [HZ.out] <;> rfl, hb.out⟩
set_option maxRecDepth 100000 in
set_option maxHeartbeats 1600000 in
theorem indexP_im (A : Option Addr) (l : List Pn) (c : Nat) (p : Pn) (w : World) (hl : l.length ≤ 1048577) (hA : Rws w w.heap.size A (l.flatMap pnC)) :
    Calls Try.prog 59 #[.slice A l.length c, pnA p] w fun e w' => e = .returned (.int .i64 (idxV (l.findIdx? fun x => decide (x = p)))) ∧ Below w.heap.size w w' := by
  obtain ⟨W, hW⟩ : ∃ W, w.alloc (.cells #[.int .i64 p.at_, .int .i64 p.id] 33) = W := ⟨_, rfl⟩
  have bW : Below w.heap.size w W := by rw [← hW]; exact (Below.refl _ _).alloc (Nat.le_refl _) _
  have gW : W.heap[w.heap.size]? = some (.cells #[.int .i64 p.at_, .int .i64 p.id] 33) := by rw [← hW]; exact heap_new _ _
  obtain ⟨g, hg⟩ : ∃ g, w.heap.size = g := ⟨_, rfl⟩
  have HA := Lib.hid (rws_below hA bW)
  rw [hg] at gW
  have HG := Lib.hid gW
  have HBW := Lib.hid bW
  have HW := Lib.hid hW
  have HGE := Lib.hid hg
  have hgl := blk_lt gW
  clear hA gW bW hW
  unfold pnA
  go_enter Try.func59, Try.ntmps59
  go_wp2_with fail
  rw [HW.out]
  go_wp2
  go_loopw [8] (fun i wr => ∃ k : Nat, k ≤ l.length ∧ i = .int .i64 k ∧ Hid (∀ j, j < k → decide (l.getD j pn0 = p) = false) ∧ Hid (Below W.heap.size W wr)) (fun i _ => l.length - (intOf i).toNat)
  case atStart => exact ⟨0, by omega, rfl, (fun j hj => by omega), Below.refl _ _⟩
  case round =>
    obtain ⟨k, hk, rfl, hall, hb⟩ := hrel
    by_cases hlt : k < l.length
    · obtain ⟨b, off, rfl, hbB, hx⟩ := (rws_below HA.out hb.out).pn hlt
      have hp := Pn.here.blk (blk_call HG.out hb.out)
      have hgl2 := Nat.lt_of_lt_of_le hgl hb.out.size
      have HI : Hid (decide (l.getD k pn0 = p) = true → idxV (l.findIdx? fun x => decide (x = p)) = (k : Int)) := fun h => by rw [findIdx_at _ l pn0 k hlt hall.out h]; rfl
      have HY : Hid (decide (l.getD k pn0 = p) = false → ∀ j, j < k + 1 → decide (l.getD j pn0 = p) = false) := fun h j hj => by
        by_cases e : j = k
        · subst e; exact h
        · exact hall.out j (by omega)
      clear hall
      generalize l.getD k pn0 = x at *
      have KX := Lib.hid (fun w' (h : Below wr.heap.size wr w') => hx.below h hbB)
      have KP := Lib.hid (fun w' (h : Below wr.heap.size wr w') => hp.below h hgl2)
      clear hx hp
      by_cases hxy : p = x
      · have HD : Hid (decide (p = x) = true) := decide_eq_true hxy
        have HZ := Lib.hid (HI.out (decide_eq_true hxy.symm))
        clear hxy HI HY
        go_wp2_with fail
        refine wp_region_held_drew (S := fun w' => Hid (Below wr.heap.size wr w')) (by kernel_rfl) (below_drawn (Below.refl _ _) 1) (fun hHeld => ?_)
        refine held_take 0 11 (pnA p) rfl rfl (by kernel_rfl) (by kernel_rfl) (by kernel_rfl) (fun _ _ _ h => h) rfl hHeld (fun w h => exec_load_pn g 0 p w (KP.out w h.out)) ?_
        refine held_take 1 12 (.slice (some ⟨b, off, none⟩) l.length c) rfl rfl (by kernel_rfl) (by kernel_rfl) (by kernel_rfl) (fun _ _ _ h => h) rfl hHeld (fun w _ => rfl) ?_
        simp only [Act.put, List.setIfInBounds_toArray, List.set_cons_zero, List.set_cons_succ]
        refine held_take 2 13 (.int .i64 (k : Int)) rfl rfl (by kernel_rfl) (by kernel_rfl) (by kernel_rfl) (fun _ _ _ h => h) rfl hHeld (fun w _ => rfl) ?_
        refine held_take 3 14 (.pointer (some ⟨b, off + k * 2, none⟩)) rfl rfl (by kernel_rfl) (by kernel_rfl) (by kernel_rfl) (fun _ _ _ h => h) rfl hHeld (fun w _ => exec_idx_pn b off l.length c k w hlt) ?_
        simp only [Act.put, List.setIfInBounds_toArray, List.set_cons_zero, List.set_cons_succ]
        refine held_take 4 15 (pnA x) rfl rfl (by kernel_rfl) (by kernel_rfl) (by kernel_rfl) (fun _ _ _ h => h) rfl hHeld (fun w h => exec_load_pn b (off + k * 2) x w (KX.out w h.out)) ?_
        refine held_take 5 16 (.bool true) rfl rfl (by kernel_rfl) (by kernel_rfl) (by kernel_rfl) (fun _ _ _ h => h) rfl hHeld (fun w _ => (exec_eqlPn p x w).trans (by rw [HD.out])) ?_
        simp only [Act.put, List.setIfInBounds_toArray, List.set_cons_zero, List.set_cons_succ]
        refine wpAnyH_done (by kernel_rfl) ?_ _
        have BF := Lib.hid (hb.out.trans (hHeld.out.mono hb.out.size))
        clear hHeld

        go_wp2
        go_ret
        exact ⟨by rw [HZ.out] <;> rfl, HBW.out.trans (BF.out.mono HBW.out.size)⟩
      · have HD : Hid (decide (p = x) = false) := decide_eq_false hxy
        have HZ := Lib.hid (HY.out (decide_eq_false (fun h => hxy h.symm)))
        clear hxy HI HY
        go_wp2_with fail
        refine wp_region_held_drew (S := fun w' => Hid (Below wr.heap.size wr w')) (by kernel_rfl) (below_drawn (Below.refl _ _) 1) (fun hHeld => ?_)
        refine held_take 0 11 (pnA p) rfl rfl (by kernel_rfl) (by kernel_rfl) (by kernel_rfl) (fun _ _ _ h => h) rfl hHeld (fun w h => exec_load_pn g 0 p w (KP.out w h.out)) ?_
        refine held_take 1 12 (.slice (some ⟨b, off, none⟩) l.length c) rfl rfl (by kernel_rfl) (by kernel_rfl) (by kernel_rfl) (fun _ _ _ h => h) rfl hHeld (fun w _ => rfl) ?_
        simp only [Act.put, List.setIfInBounds_toArray, List.set_cons_zero, List.set_cons_succ]
        refine held_take 2 13 (.int .i64 (k : Int)) rfl rfl (by kernel_rfl) (by kernel_rfl) (by kernel_rfl) (fun _ _ _ h => h) rfl hHeld (fun w _ => rfl) ?_
        refine held_take 3 14 (.pointer (some ⟨b, off + k * 2, none⟩)) rfl rfl (by kernel_rfl) (by kernel_rfl) (by kernel_rfl) (fun _ _ _ h => h) rfl hHeld (fun w _ => exec_idx_pn b off l.length c k w hlt) ?_
        simp only [Act.put, List.setIfInBounds_toArray, List.set_cons_zero, List.set_cons_succ]
        refine held_take 4 15 (pnA x) rfl rfl (by kernel_rfl) (by kernel_rfl) (by kernel_rfl) (fun _ _ _ h => h) rfl hHeld (fun w h => exec_load_pn b (off + k * 2) x w (KX.out w h.out)) ?_
        refine held_take 5 16 (.bool false) rfl rfl (by kernel_rfl) (by kernel_rfl) (by kernel_rfl) (fun _ _ _ h => h) rfl hHeld (fun w _ => (exec_eqlPn p x w).trans (by rw [HD.out])) ?_
        simp only [Act.put, List.setIfInBounds_toArray, List.set_cons_zero, List.set_cons_succ]
        refine wpAnyH_done (by kernel_rfl) ?_ _
        have BF := Lib.hid (hb.out.trans (hHeld.out.mono hb.out.size))
        clear hHeld

        go_wp2
        go_roundw
        case rel => exact ⟨k + 1, by omega, by go_num, HZ, BF⟩
        case measure => simp [intOf]; omega
    · obtain rfl : k = l.length := by omega
      have HZ : Hid (idxV (l.findIdx? fun x => decide (x = p)) = -1) := by show _ = _; rw [findIdx_no _ l pn0 hall.out]; rfl
      clear hall
      go_wp2
      go_ret
      exact ⟨by rw [HZ.out] <;> rfl, HBW.out.trans (hb.out.mono HBW.out.size)⟩
/-- Where a pin belongs in a sorted list. -/
def placeP (l : List Pn) (p : Pn) : Nat := (l.takeWhile fun y => decide (Pn.less y p)).length
theorem placeP_le (l : List Pn) (p : Pn) : placeP l p ≤ l.length := by unfold placeP; exact (List.takeWhile_prefix _).length_le
theorem pnPut_place (l : List Pn) (p : Pn) : pnPut l p = insL l (placeP l p) p := by
  unfold pnPut insP insL placeP
  generalize hq : (fun y => decide (Pn.less y p)) = q
  have h := List.takeWhile_append_dropWhile (p := q) (l := l)
  generalize l.takeWhile q = a at *
  generalize l.dropWhile q = b at *
  subst h
  rw [List.take_left' rfl, List.drop_left' rfl]
set_option maxRecDepth 100000 in
theorem exec_eqlB {ρ : Operand → Value} {o : Oper} {x y : Operand} (X Y : Int) (w : World) (ho : o.op = .binOp .eql 3 x y 3 := by rfl) (hx : ρ x = .int .i64 X := by rfl) (hy : ρ y = .int .i64 Y := by rfl) :
    (execOp ρ o).run Try.prog w = .ok (.value (.bool (X == Y))) w := by
  unfold execOp
  rw [ho]
  simp [go_sem, hx, hy]
theorem placeP_is {l : List Pn} {p : Pn} {i : Nat} (hi : i ≤ l.length) (h1 : ∀ m, m < i → Pn.less (l.getD m pn0) p) (h2 : ∀ m, i ≤ m → m < l.length → ¬ Pn.less (l.getD m pn0) p) : placeP l p = i := by
  obtain ⟨e, _⟩ := while_at (fun y => decide (Pn.less y p)) l pn0 i hi (fun j hj => decide_eq_true (h1 j hj)) (fun h => decide_eq_false (h2 i (Nat.le_refl _) h))
  unfold placeP
  rw [e, List.length_take, Nat.min_eq_left hi]
/-- A place is returned, and a bool. -/
def GotBsr (w : World) (k : Nat) (e : Ending) (w' : World) : Prop := (∃ q, e = .returned (.tuple #[.int .i64 (k : Int), .bool q])) ∧ Below w.heap.size w w'
set_option maxRecDepth 100000 in
set_option maxHeartbeats 3200000 in
theorem bsearch_im (A : Option Addr) (l : List Pn) (c : Nat) (p : Pn) (w : World) (hl : l.length ≤ 1048577) (hs : l.Pairwise Pn.less) (hA : Rws w w.heap.size A (l.flatMap pnC)) :
    Calls Try.prog 55 #[.slice A l.length c, pnA p, .func (.func 56) #[] #[]] w (GotBsr w (placeP l p)) := by
  obtain ⟨W, hW⟩ : ∃ W, w.alloc (.cells #[.int .i64 p.at_, .int .i64 p.id] 33) = W := ⟨_, rfl⟩
  have bW : Below w.heap.size w W := by rw [← hW]; exact (Below.refl _ _).alloc (Nat.le_refl _) _
  have gW : W.heap[w.heap.size]? = some (.cells #[.int .i64 p.at_, .int .i64 p.id] 33) := by rw [← hW]; exact heap_new _ _
  obtain ⟨g, hg⟩ : ∃ g, w.heap.size = g := ⟨_, rfl⟩
  have HA := Lib.hid (rws_below hA bW)
  rw [hg] at gW
  have HG := Lib.hid gW
  have HBW := Lib.hid bW
  have HW := Lib.hid hW
  have hgl := blk_lt gW
  have HS : Hid (∀ i j, i < j → j < l.length → Pn.less (l.getD i pn0) (l.getD j pn0)) := fun i j hij hj => by
    have := List.pairwise_iff_getElem.1 hs i j (by omega) hj hij
    simp only [List.getD_eq_getElem?_getD, List.getElem?_eq_getElem hj, List.getElem?_eq_getElem (show i < l.length by omega), Option.getD_some]
    exact this
  clear hA gW bW hW hs
  unfold pnA
  go_enter Try.func55, Try.ntmps55
  go_wp2_with fail
  rw [HW.out]
  go_wp2
  go_loopw [9, 10] (fun vi vj wr => ∃ i j : Nat, i ≤ j ∧ j ≤ l.length ∧ vi = .int .i64 i ∧ vj = .int .i64 j ∧ Hid (∀ m, m < i → Pn.less (l.getD m pn0) p) ∧ Hid (∀ m, j ≤ m → m < l.length → ¬ Pn.less (l.getD m pn0) p) ∧ Hid (Below W.heap.size W wr)) (fun vi vj _ => (intOf vj).toNat - (intOf vi).toNat)
  case atStart => exact ⟨0, l.length, by omega, Nat.le_refl _, rfl, rfl, (fun j hj => by omega), (fun m h1 h2 => by omega), Below.refl _ _⟩
  case round =>
    obtain ⟨i, j, hij, hjl, rfl, rfl, hlo, hhi, hb⟩ := hrel
    by_cases hlt : i < j
    · obtain ⟨h, eh⟩ : ∃ h, (i + j) / 2 = h := ⟨_, rfl⟩
      have hih : i ≤ h := by omega
      have hhj : h < j := by omega
      obtain ⟨b, off, rfl, hbB, hx⟩ := (rws_below HA.out hb.out).pn (i := h) (by omega)
      have hp := Pn.here.blk (blk_call HG.out hb.out)
      have hgl2 := Nat.lt_of_lt_of_le hgl hb.out.size
      have HI : Hid (Pn.less (l.getD h pn0) p → ∀ m, m < h + 1 → Pn.less (l.getD m pn0) p) := fun q m hm => by
        by_cases e : m = h
        · subst e; exact q
        · exact less_trans (HS.out m h (by omega) (by omega)) q
      have HY : Hid (¬ Pn.less (l.getD h pn0) p → ∀ m, h ≤ m → m < l.length → ¬ Pn.less (l.getD m pn0) p) := fun q m hm hml e => by
        by_cases e2 : m = h
        · subst e2; exact q e
        · exact q (less_trans (HS.out h m (by omega) hml) e)
      generalize l.getD h pn0 = x at *
      have KX := Lib.hid (fun w' (h : Below wr.heap.size wr w') => hx.below h hbB)
      have KP := Lib.hid (fun w' (h : Below wr.heap.size wr w') => hp.below h hgl2)
      have HL := Lib.hid (ordP_less x p)
      clear hx hp
      have HEH := Lib.hid eh
      clear eh
      go_wp2
      rw [show ((i : Int) + (j : Int)) / 2 = (h : Int) by have := HEH.out; omega]
      by_cases hless : Pn.less x p
      · have HO : Hid (decide (ordP x p < 0) = true) := HL.out.trans (decide_eq_true hless)
        have HZ := Lib.hid (HI.out hless)
        clear HL HI HY hless
        refine wp_region_held_drew (S := fun w' => Hid (Below wr.heap.size wr w')) (by kernel_rfl) (below_drawn (Below.refl _ _) 1) (fun hHeld => ?_)
        refine held_take 0 24 (.func (.func 56) #[] #[]) rfl rfl (by kernel_rfl) (by kernel_rfl) (by kernel_rfl) (fun _ _ _ h => h) rfl hHeld (fun w _ => rfl) ?_
        refine held_take 1 25 (.slice (some ⟨b, off, none⟩) l.length c) rfl rfl (by kernel_rfl) (by kernel_rfl) (by kernel_rfl) (fun _ _ _ h => h) rfl hHeld (fun w _ => rfl) ?_
        simp only [Act.put, List.setIfInBounds_toArray, List.set_cons_zero, List.set_cons_succ]
        refine held_take 2 26 (.int .i64 (h : Int)) rfl rfl (by kernel_rfl) (by kernel_rfl) (by kernel_rfl) (fun _ _ _ h => h) rfl hHeld (fun w _ => rfl) ?_
        refine held_take 3 27 (.pointer (some ⟨b, off + h * 2, none⟩)) rfl rfl (by kernel_rfl) (by kernel_rfl) (by kernel_rfl) (fun _ _ _ h => h) rfl hHeld (fun w _ => exec_idx_pn b off l.length c h w (by omega)) ?_
        simp only [Act.put, List.setIfInBounds_toArray, List.set_cons_zero, List.set_cons_succ]
        refine held_take 4 28 (pnA x) rfl rfl (by kernel_rfl) (by kernel_rfl) (by kernel_rfl) (fun _ _ _ h => h) rfl hHeld (fun w q => exec_load_pn b (off + h * 2) x w (KX.out w q.out)) ?_
        refine held_take 5 29 (pnA p) rfl rfl (by kernel_rfl) (by kernel_rfl) (by kernel_rfl) (fun _ _ _ h => h) rfl hHeld (fun w q => exec_load_pn g 0 p w (KP.out w q.out)) ?_
        simp only [Act.put, List.setIfInBounds_toArray, List.set_cons_zero, List.set_cons_succ]
        refine held_call 6 30 56 #[pnA x, pnA p] rfl rfl (by kernel_rfl) rfl (exec_callv Try.func56 (by kernel_rfl) (by kernel_rfl) _) ?_
        refine (pinOrder_im x p _).mono ?_
        rintro e u1 ⟨rfl, x1⟩
        have hHeld : Hid (Below wr.heap.size wr u1) := hHeld.out.trans (x1.mono hHeld.out.size)
        refine ⟨_, rfl, hHeld, ?_⟩
        simp only [Act.put, List.setIfInBounds_toArray, List.set_cons_zero, List.set_cons_succ]
        refine held_take 7 31 (.bool true) rfl rfl (by kernel_rfl) (by kernel_rfl) (by kernel_rfl) (fun _ _ _ h => h) rfl hHeld (fun w _ => exec_lssI (ordP x p) 0 _ w HO.out) ?_
        simp only [Act.put, List.setIfInBounds_toArray, List.set_cons_zero, List.set_cons_succ]
        refine wpAnyH_done (by kernel_rfl) ?_ _
        have BF := Lib.hid (hb.out.trans (hHeld.out.mono hb.out.size))
        clear hHeld x1

        go_wp2
        go_roundw
        case rel => exact ⟨h + 1, j, by omega, hjl, by go_num, rfl, HZ, hhi, BF⟩
        case measure => simp [intOf]; omega
      · have HO : Hid (decide (ordP x p < 0) = false) := HL.out.trans (decide_eq_false hless)
        have HZ := Lib.hid (HY.out hless)
        clear HL HI HY hless
        refine wp_region_held_drew (S := fun w' => Hid (Below wr.heap.size wr w')) (by kernel_rfl) (below_drawn (Below.refl _ _) 1) (fun hHeld => ?_)
        refine held_take 0 24 (.func (.func 56) #[] #[]) rfl rfl (by kernel_rfl) (by kernel_rfl) (by kernel_rfl) (fun _ _ _ h => h) rfl hHeld (fun w _ => rfl) ?_
        refine held_take 1 25 (.slice (some ⟨b, off, none⟩) l.length c) rfl rfl (by kernel_rfl) (by kernel_rfl) (by kernel_rfl) (fun _ _ _ h => h) rfl hHeld (fun w _ => rfl) ?_
        simp only [Act.put, List.setIfInBounds_toArray, List.set_cons_zero, List.set_cons_succ]
        refine held_take 2 26 (.int .i64 (h : Int)) rfl rfl (by kernel_rfl) (by kernel_rfl) (by kernel_rfl) (fun _ _ _ h => h) rfl hHeld (fun w _ => rfl) ?_
        refine held_take 3 27 (.pointer (some ⟨b, off + h * 2, none⟩)) rfl rfl (by kernel_rfl) (by kernel_rfl) (by kernel_rfl) (fun _ _ _ h => h) rfl hHeld (fun w _ => exec_idx_pn b off l.length c h w (by omega)) ?_
        simp only [Act.put, List.setIfInBounds_toArray, List.set_cons_zero, List.set_cons_succ]
        refine held_take 4 28 (pnA x) rfl rfl (by kernel_rfl) (by kernel_rfl) (by kernel_rfl) (fun _ _ _ h => h) rfl hHeld (fun w q => exec_load_pn b (off + h * 2) x w (KX.out w q.out)) ?_
        refine held_take 5 29 (pnA p) rfl rfl (by kernel_rfl) (by kernel_rfl) (by kernel_rfl) (fun _ _ _ h => h) rfl hHeld (fun w q => exec_load_pn g 0 p w (KP.out w q.out)) ?_
        simp only [Act.put, List.setIfInBounds_toArray, List.set_cons_zero, List.set_cons_succ]
        refine held_call 6 30 56 #[pnA x, pnA p] rfl rfl (by kernel_rfl) rfl (exec_callv Try.func56 (by kernel_rfl) (by kernel_rfl) _) ?_
        refine (pinOrder_im x p _).mono ?_
        rintro e u1 ⟨rfl, x1⟩
        have hHeld : Hid (Below wr.heap.size wr u1) := hHeld.out.trans (x1.mono hHeld.out.size)
        refine ⟨_, rfl, hHeld, ?_⟩
        simp only [Act.put, List.setIfInBounds_toArray, List.set_cons_zero, List.set_cons_succ]
        refine held_take 7 31 (.bool false) rfl rfl (by kernel_rfl) (by kernel_rfl) (by kernel_rfl) (fun _ _ _ h => h) rfl hHeld (fun w _ => exec_lssI (ordP x p) 0 _ w HO.out) ?_
        simp only [Act.put, List.setIfInBounds_toArray, List.set_cons_zero, List.set_cons_succ]
        refine wpAnyH_done (by kernel_rfl) ?_ _
        have BF := Lib.hid (hb.out.trans (hHeld.out.mono hb.out.size))
        clear hHeld x1

        go_wp2
        go_roundw
        case rel => exact ⟨i, h, hih, by omega, rfl, rfl, hlo, HZ, BF⟩
        case measure => simp [intOf]; omega
    · obtain rfl : i = j := by omega
      have HP := Lib.hid (placeP_is hjl hlo.out hhi.out)
      by_cases hin : i < l.length
      · obtain ⟨b, off, rfl, hbB, hx⟩ := (rws_below HA.out hb.out).pn hin
        have hp := Pn.here.blk (blk_call HG.out hb.out)
        have hgl2 := Nat.lt_of_lt_of_le hgl hb.out.size
        generalize l.getD i pn0 = x at *
        have KX := Lib.hid (fun w' (h : Below wr.heap.size wr w') => hx.below h hbB)
        have KP := Lib.hid (fun w' (h : Below wr.heap.size wr w') => hp.below h hgl2)
        clear hx hp hlo hhi
        go_wp2_with fail
        refine wp_region_held_drew (S := fun w' => Hid (Below wr.heap.size wr w')) (by kernel_rfl) (below_drawn (Below.refl _ _) 1) (fun hHeld => ?_)
        refine held_take 0 35 (.int .i64 (i : Int)) rfl rfl (by kernel_rfl) (by kernel_rfl) (by kernel_rfl) (fun _ _ _ h => h) rfl hHeld (fun w _ => rfl) ?_
        refine held_take 1 36 (.int .i64 (i : Int)) rfl rfl (by kernel_rfl) (by kernel_rfl) (by kernel_rfl) (fun _ _ _ h => h) rfl hHeld (fun w _ => rfl) ?_
        simp only [Act.put, List.setIfInBounds_toArray, List.set_cons_zero, List.set_cons_succ]
        refine held_take 2 37 (.int .i64 (l.length : Int)) rfl rfl (by kernel_rfl) (by kernel_rfl) (by kernel_rfl) (fun _ _ _ h => h) rfl hHeld (fun w _ => rfl) ?_
        refine held_take 3 38 (.bool true) rfl rfl (by kernel_rfl) (by kernel_rfl) (by kernel_rfl) (fun _ _ _ h => h) rfl hHeld (fun w _ => exec_lssI (i : Int) (l.length : Int) _ w (decide_eq_true (by omega))) ?_
        simp only [Act.put, List.setIfInBounds_toArray, List.set_cons_zero, List.set_cons_succ]
        refine held_take 4 39 (.bool true) rfl rfl (by kernel_rfl) (by kernel_rfl) (by kernel_rfl) (fun _ _ _ h => h) rfl hHeld (fun w _ => rfl) ?_
        refine held_take 5 40 (.func (.func 56) #[] #[]) rfl rfl (by kernel_rfl) (by kernel_rfl) (by kernel_rfl) (fun _ _ _ h => h) rfl hHeld (fun w _ => rfl) ?_
        simp only [Act.put, List.setIfInBounds_toArray, List.set_cons_zero, List.set_cons_succ]
        refine held_take 6 41 (.slice (some ⟨b, off, none⟩) l.length c) rfl rfl (by kernel_rfl) (by kernel_rfl) (by kernel_rfl) (fun _ _ _ h => h) rfl hHeld (fun w _ => rfl) ?_
        refine held_take 7 42 (.int .i64 (i : Int)) rfl rfl (by kernel_rfl) (by kernel_rfl) (by kernel_rfl) (fun _ _ _ h => h) rfl hHeld (fun w _ => rfl) ?_
        simp only [Act.put, List.setIfInBounds_toArray, List.set_cons_zero, List.set_cons_succ]
        refine held_take 8 43 (.pointer (some ⟨b, off + i * 2, none⟩)) rfl rfl (by kernel_rfl) (by kernel_rfl) (by kernel_rfl) (fun _ _ _ h => h) rfl hHeld (fun w _ => exec_idx_pn b off l.length c i w (by omega)) ?_
        refine held_take 9 44 (pnA x) rfl rfl (by kernel_rfl) (by kernel_rfl) (by kernel_rfl) (fun _ _ _ h => h) rfl hHeld (fun w q => exec_load_pn b (off + i * 2) x w (KX.out w q.out)) ?_
        simp only [Act.put, List.setIfInBounds_toArray, List.set_cons_zero, List.set_cons_succ]
        refine held_take 10 45 (pnA p) rfl rfl (by kernel_rfl) (by kernel_rfl) (by kernel_rfl) (fun _ _ _ h => h) rfl hHeld (fun w q => exec_load_pn g 0 p w (KP.out w q.out)) ?_
        simp only [Act.put, List.setIfInBounds_toArray, List.set_cons_zero, List.set_cons_succ]
        refine held_call 11 46 56 #[pnA x, pnA p] rfl rfl (by kernel_rfl) rfl (exec_callv Try.func56 (by kernel_rfl) (by kernel_rfl) _) ?_
        refine (pinOrder_im x p _).mono ?_
        rintro e u1 ⟨rfl, x1⟩
        have hHeld : Hid (Below wr.heap.size wr u1) := hHeld.out.trans (x1.mono hHeld.out.size)
        refine ⟨_, rfl, hHeld, ?_⟩
        simp only [Act.put, List.setIfInBounds_toArray, List.set_cons_zero, List.set_cons_succ]
        refine held_take 12 47 (.bool (ordP x p == 0)) rfl rfl (by kernel_rfl) (by kernel_rfl) (by kernel_rfl) (fun _ _ _ h => h) rfl hHeld (fun w _ => exec_eqlB (ordP x p) 0 w) ?_
        refine held_take 13 48 (.bool (ordP x p == 0)) rfl rfl (by kernel_rfl) (by kernel_rfl) (by kernel_rfl) (fun _ _ _ h => h) rfl hHeld (fun w _ => exec_pickT _ w) ?_
        simp only [Act.put, List.setIfInBounds_toArray, List.set_cons_zero, List.set_cons_succ]
        refine held_op 14 6 (.int .i64 (i : Int)) rfl rfl (by kernel_rfl) rfl rfl hHeld ?_
        simp only [Act.put, List.setIfInBounds_toArray, List.set_cons_zero, List.set_cons_succ]
        refine held_op 15 7 (.bool (ordP x p == 0)) rfl rfl (by kernel_rfl) rfl rfl hHeld ?_
        simp only [Act.put, List.setIfInBounds_toArray, List.set_cons_zero, List.set_cons_succ]
        refine wpAnyH_done (by kernel_rfl) ?_ _
        have BF := Lib.hid (HBW.out.trans ((hb.out.trans (hHeld.out.mono hb.out.size)).mono HBW.out.size))
        generalize (ordP x p == 0) = q at *
        have R : Hid (GotBsr w (placeP l p) (.returned (.tuple #[.int .i64 (i : Int), .bool q])) u1) := ⟨⟨q, by rw [HP.out]⟩, BF.out⟩
        clear hHeld x1
        go_wp2
        simp [bodyPost, results, Try.results55, go_sem]
        exact R.out
      · have hd : Hid (decide ((i : Int) < (l.length : Int)) = false) := decide_eq_false (by omega)
        have R : ∀ u, Below wr.heap.size wr u → Hid (GotBsr w (placeP l p) (.returned (.tuple #[.int .i64 (i : Int), .bool false])) u) := fun u h => ⟨⟨false, by rw [HP.out]⟩, HBW.out.trans ((hb.out.trans (h.mono hb.out.size)).mono HBW.out.size)⟩
        have HRR := Lib.hid R
        clear R hlo hhi
        go_wp2_with fail
        refine wp_region_held_drew (S := fun w' => Hid (Below wr.heap.size wr w')) (by kernel_rfl) (below_drawn (Below.refl _ _) 1) (fun hHeld => ?_)
        refine held_take 0 35 (.int .i64 (i : Int)) rfl rfl (by kernel_rfl) (by kernel_rfl) (by kernel_rfl) (fun _ _ _ h => h) rfl hHeld (fun w _ => rfl) ?_
        refine held_take 1 36 (.int .i64 (i : Int)) rfl rfl (by kernel_rfl) (by kernel_rfl) (by kernel_rfl) (fun _ _ _ h => h) rfl hHeld (fun w _ => rfl) ?_
        simp only [Act.put, List.setIfInBounds_toArray, List.set_cons_zero, List.set_cons_succ]
        refine held_take 2 37 (.int .i64 (l.length : Int)) rfl rfl (by kernel_rfl) (by kernel_rfl) (by kernel_rfl) (fun _ _ _ h => h) rfl hHeld (fun w _ => rfl) ?_
        refine held_take 3 38 (.bool false) rfl rfl (by kernel_rfl) (by kernel_rfl) (by kernel_rfl) (fun _ _ _ h => h) rfl hHeld (fun w _ => exec_lssI (i : Int) (l.length : Int) _ w hd.out) ?_
        simp only [Act.put, List.setIfInBounds_toArray, List.set_cons_zero, List.set_cons_succ]
        refine held_take 4 39 (.bool false) rfl rfl (by kernel_rfl) (by kernel_rfl) (by kernel_rfl) (fun _ _ _ h => h) rfl hHeld (fun w _ => rfl) ?_
        refine held_skip 5 40 rfl rfl (by kernel_rfl) (by kernel_rfl) (by kernel_rfl) (fun _ _ _ h => h) rfl hHeld ?_
        simp only [Act.put, List.setIfInBounds_toArray, List.set_cons_zero, List.set_cons_succ]
        refine held_skip 6 41 rfl rfl (by kernel_rfl) (by kernel_rfl) (by kernel_rfl) (fun _ _ _ h => h) rfl hHeld ?_
        refine held_skip 7 42 rfl rfl (by kernel_rfl) (by kernel_rfl) (by kernel_rfl) (fun _ _ _ h => h) rfl hHeld ?_
        simp only [Act.put, List.setIfInBounds_toArray, List.set_cons_zero, List.set_cons_succ]
        refine held_skip 8 43 rfl rfl (by kernel_rfl) (by kernel_rfl) (by kernel_rfl) (fun _ _ _ h => h) rfl hHeld ?_
        refine held_skip 9 44 rfl rfl (by kernel_rfl) (by kernel_rfl) (by kernel_rfl) (fun _ _ _ h => h) rfl hHeld ?_
        simp only [Act.put, List.setIfInBounds_toArray, List.set_cons_zero, List.set_cons_succ]
        refine held_skip 10 45 rfl rfl (by kernel_rfl) (by kernel_rfl) (by kernel_rfl) (fun _ _ _ h => h) rfl hHeld ?_
        refine held_skip 11 46 rfl rfl (by kernel_rfl) (by kernel_rfl) (by kernel_rfl) (fun _ _ _ h => h) rfl hHeld ?_
        simp only [Act.put, List.setIfInBounds_toArray, List.set_cons_zero, List.set_cons_succ]
        refine held_skip 12 47 rfl rfl (by kernel_rfl) (by kernel_rfl) (by kernel_rfl) (fun _ _ _ h => h) rfl hHeld ?_
        refine held_take 13 48 (.bool false) rfl rfl (by kernel_rfl) (by kernel_rfl) (by kernel_rfl) (fun _ _ _ h => h) rfl hHeld (fun w _ => exec_pickF _ w) ?_
        simp only [Act.put, List.setIfInBounds_toArray, List.set_cons_zero, List.set_cons_succ]
        refine held_op 14 6 (.int .i64 (i : Int)) rfl rfl (by kernel_rfl) rfl rfl hHeld ?_
        simp only [Act.put, List.setIfInBounds_toArray, List.set_cons_zero, List.set_cons_succ]
        refine held_op 15 7 (.bool false) rfl rfl (by kernel_rfl) rfl rfl hHeld ?_
        simp only [Act.put, List.setIfInBounds_toArray, List.set_cons_zero, List.set_cons_succ]
        refine wpAnyH_done (by kernel_rfl) ?_ _
        have R := HRR.out _ hHeld.out
        clear hHeld HRR
        go_wp2
        simp [bodyPost, results, Try.results55, go_sem]
        exact R.out
end Go.Proofs.Ytflomkebgiemaaa
