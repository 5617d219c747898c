/- The walk of the law FnWheelDue. -/
import Derived.Test.YtflomkebgiemaaaRows
import Derived.Test.YtflomkebgiemaaaWiS
import Derived.Test.YtflomkebgiemaaaWh9
namespace Go.Proofs.Ytflomkebgiemaaa
open Go.RowKit
set_option linter.unusedSimpArgs false
set_option linter.unusedVariables false
set_option maxRecDepth 100000 in
theorem exec_geqI {ρ : Operand → Value} {o : Oper} {x y : Operand} (X Y : Int) (d : Bool) (w : World) (hd : decide (Y ≤ X) = d) (ho : o.op = .binOp .geq 3 x y 3 := by rfl) (hx : ρ x = .int .i64 X := by rfl) (hy : ρ y = .int .i64 Y := by rfl) :
    (execOp ρ o).run Try.prog w = .ok (.value (.bool d)) w := by
  unfold execOp
  rw [ho]
  simp [go_sem, hx, hy, ← hd]
set_option maxRecDepth 100000 in
theorem exec_neqPn0 {ρ : Operand → Value} {o : Oper} {x y : Operand} (X : Pn) (w : World) (ho : o.op = .binOp .neq 33 x y 33 := by rfl) (hx : ρ x = pnA X := by rfl) (hy : ρ y = pnA X := by rfl) :
    (execOp ρ o).run Try.prog w = .ok (.value (.bool false)) w := by
  have := exec_neqPn X X w ho hx hy
  simpa using this
theorem due_at (p : Pn → Bool) (q : List Pn) (k : Nat) (hk : k < q.length) (hp : p (q.getD k pn0) = true) : ((q.take k).filter p).length < (q.filter p).length ∧ (q.filter p).getD ((q.take k).filter p).length pn0 = q.getD k pn0 := by
  have e : q.filter p = (q.take k).filter p ++ q.getD k pn0 :: (q.drop (k + 1)).filter p := by
    conv => lhs; rw [← List.take_append_drop k q, drop_getD q k pn0 hk]
    rw [List.filter_append, List.filter_cons, if_pos hp]
  rw [e]
  refine ⟨by rw [List.length_append, List.length_cons]; omega, ?_⟩
  rw [List.getD_eq_getElem?_getD, List.getElem?_append_right (Nat.le_refl _), Nat.sub_self]
  rfl
set_option maxRecDepth 100000 in
set_option maxHeartbeats 3200000 in
theorem FnWheelDue_walk (A : Option Addr) (l : List Nat) (cap : Nat) (w : World) (hA : Bts w w.heap.size A l) (hb : AllB l) (hm : l.length ≤ maxLen) :
    Calls Try.prog 3 #[.slice A l.length cap] w fun e w' => e = .returned (.bool true) ∧ Below w.heap.size w w' := by
  by_cases hbig : 1048576 < l.length
  · go_enter Try.func3, Try.ntmps3
    go_wp2_with fail
    refine (big_yes _ _ _ _ hbig).mono ?_
    rintro e w' ⟨rfl, rfl⟩
    go_wp2
    go_ret
    exact ⟨rfl, Below.refl _ _⟩
  have hl : l.length ≤ 1048576 := by omega
  clear hbig hm
  have CD := Lib.hid (drawPinsDue_any A l cap w (by omega) hA hb)
  go_enter Try.func3, Try.ntmps3
  go_wp2_with fail
  refine (big_no _ _ _ _ hl).mono ?_
  rintro e w' ⟨rfl, rfl⟩
  go_wp2_with fail
  refine CD.out.mono ?_
  rintro e w2 ⟨B, d, sq, now, rfl, hn, h30, hF, hni, hW, b2⟩
  obtain ⟨U, hU⟩ : ∃ U, w2.alloc (.cells #[.slice B sq.length d] 26) = U := ⟨_, rfl⟩
  have bU : Below w2.heap.size w2 U := by rw [← hU]; exact (Below.refl _ _).alloc (Nat.le_refl _) _
  have hH : U.heap[w2.heap.size]? = some (.cells #[.slice B sq.length d] 26) := by rw [← hU]; exact heap_new _ _
  have hsz : SzW (sq.map (fun s => s.l)) := ⟨by simp; omega, by rw [ls_flat]; omega⟩
  have HW := Lib.hid (hW.below bU)
  have HH := Lib.hid hH
  have HB : Hid (Below w.heap.size w U) := b2.trans (bU.mono b2.size)
  have HU := Lib.hid hU
  have C1 := Lib.hid (pinsDue_impl B sq d now U _ rfl hsz hF (hW.below bU))
  have C2 := Lib.hid (fun w' (h : Below U.heap.size U w') => pinsOf_spec B sq d w' (by omega) (by omega) ((hW.below bU).below h))
  obtain ⟨q, eq1⟩ : ∃ q, pinsW (sq.map (fun s => s.l)) = q := ⟨_, rfl⟩
  have hq10 : q.length ≤ 10 := by rw [← eq1]; exact pinsW_len _
  obtain ⟨due, eq2⟩ : ∃ due, dueV (sq.map (fun s => s.l)) now = due := ⟨_, rfl⟩
  have HD : Hid (due = q.filter (fun x => decide (x.at_ ≤ now))) := by show _ = _; rw [← eq2, ← eq1]; rfl
  rw [eq1] at C2
  rw [eq2] at C1
  have hd10 : due.length ≤ 10 := by rw [HD.out]; exact Nat.le_trans (List.length_filter_le _ _) hq10
  clear CD hW bU hH hU b2 eq1 eq2 hsz hF
  have q3 := cell_of_one HH.out
  go_wp2_with fail
  rw [HU.out]
  refine C1.out.mono ?_
  rintro e w3 ⟨DA, dc, rfl, o3, x3⟩
  have HH := Lib.hid (blk_call HH.out x3)
  have C2 := Lib.hid (C2.out w3 x3)
  have HB := Lib.hid (HB.out.trans (x3.mono HB.out.size))
  have O3 := Lib.hid o3
  clear o3 x3 C1 q3 HU
  have q3 := cell_of_one HH.out
  go_wp2_with fail
  refine C2.out.mono ?_
  rintro e w4 ⟨QA, ac, rfl, o4, x4⟩
  have RD := Lib.hid (own_rws (own_below O3.out x4))
  have RQ := Lib.hid (own_rws o4)
  have HB := Lib.hid (HB.out.trans (x4.mono HB.out.size))
  clear o4 x4 C2 q3 O3 HW HH
  go_wp2
  go_loopw [7, 8] (fun a i wr => ∃ k : Nat, k ≤ q.length ∧ i = .int .i64 k ∧ a = .int .i64 (((q.take k).filter (fun x => decide (x.at_ ≤ now))).length : Nat) ∧ Hid (Below w4.heap.size w4 wr)) (fun _ i _ => q.length - (intOf i).toNat)
  case atStart => exact ⟨0, by omega, rfl, rfl, Below.refl _ _⟩
  case round =>
    obtain ⟨k, hk, rfl, rfl, hb4⟩ := hrel
    by_cases hlt : k < q.length
    rotate_left
    · obtain rfl : k = q.length := by omega
      rw [List.take_length, ← HD.out]
      have HBF := Lib.hid (HB.out.trans (hb4.out.mono HB.out.size))
      have e9 : ((due.length : Int) == (due.length : Int)) = true := by simp
      go_wp2
      go_ret
      exact ⟨rfl, HBF.out⟩
    obtain ⟨ab, aof, rfl, habB, hc⟩ := (rws_below RQ.out hb4.out).pn hlt
    have HF := Lib.hid (filter_take (fun x => decide (x.at_ ≤ now)) q k hlt)
    have HA2 := Lib.hid (fun h => due_at (fun x => decide (x.at_ ≤ now)) q k hlt h)
    have hnle : ((q.take k).filter (fun x => decide (x.at_ ≤ now))).length ≤ 10 := by
      have := List.length_filter_le (fun x => decide (x.at_ ≤ now)) (q.take k)
      rw [List.length_take] at this; omega
    obtain ⟨n, en⟩ : ∃ n, ((q.take k).filter (fun x => decide (x.at_ ≤ now))).length = n := ⟨_, rfl⟩
    rw [en] at HA2 hnle ⊢
    have EN := Lib.hid en
    clear en
    rw [← HD.out] at HA2
    obtain ⟨x, ex⟩ : ∃ x, q.getD k pn0 = x := ⟨_, rfl⟩
    rw [ex] at hc HF HA2
    by_cases hx : x.at_ ≤ now
    · obtain ⟨hnd, hde⟩ := HA2.out (by simpa using hx)
      have HN : Hid (((q.take (k + 1)).filter (fun x => decide (x.at_ ≤ now))).length = n + 1) := by
        show _ = _
        rw [HF.out, if_pos (by simpa using hx), List.length_append, EN.out]; rfl
      obtain ⟨db, dof, rfl, hdbB, hdc⟩ := (rws_below RD.out hb4.out).pn hnd
      rw [hde] at hdc
      have KD := Lib.hid (fun w' (h : Below wr.heap.size wr w') => Pn.here.below hdc h hdbB)
      have KQ := Lib.hid (fun w' (h : Below wr.heap.size wr w') => Pn.here.below hc h habB)
      obtain ⟨c0, c1⟩ := hc
      clear hdc HA2 HF ex hde
      go_wp2_with fail
      refine wp_region_held_drew (S := fun w' => Hid (Below wr.heap.size wr w')) (by kernel_rfl) (below_drawn (Below.refl _ _) 1) (fun hHeld => ?_)
      refine held_take 0 34 (.int .i64 (n : Int)) rfl rfl (by kernel_rfl) (by kernel_rfl) (by kernel_rfl) (fun _ _ _ h => h) rfl hHeld (fun w _ => rfl) ?_
      refine held_take 1 35 (.slice (some ⟨db, dof, none⟩) due.length dc) rfl rfl (by kernel_rfl) (by kernel_rfl) (by kernel_rfl) (fun _ _ _ h => h) rfl hHeld (fun w _ => rfl) ?_
      simp only [Act.put, List.setIfInBounds_toArray, List.set_cons_zero, List.set_cons_succ]
      refine held_take 2 36 (.int .i64 (due.length : Nat)) rfl rfl (by kernel_rfl) (by kernel_rfl) (by kernel_rfl) (fun _ _ _ h => h) rfl hHeld (fun w _ => exec_lenT rowPin _ _ _ w) ?_
      refine held_take 3 37 (.bool false) rfl rfl (by kernel_rfl) (by kernel_rfl) (by kernel_rfl) (fun _ _ _ h => h) rfl hHeld (fun w _ => exec_geqI (n : Int) (due.length : Int) false w (by simp; omega)) ?_
      simp only [Act.put, List.setIfInBounds_toArray, List.set_cons_zero, List.set_cons_succ]
      refine held_take 4 38 (.bool false) rfl rfl (by kernel_rfl) (by kernel_rfl) (by kernel_rfl) (fun _ _ _ h => h) rfl hHeld (fun w _ => rfl) ?_
      refine held_take 5 39 (.slice (some ⟨db, dof, none⟩) due.length dc) rfl rfl (by kernel_rfl) (by kernel_rfl) (by kernel_rfl) (fun _ _ _ h => h) rfl hHeld (fun w _ => rfl) ?_
      simp only [Act.put, List.setIfInBounds_toArray, List.set_cons_zero, List.set_cons_succ]
      refine held_take 6 40 (.int .i64 (n : Int)) rfl rfl (by kernel_rfl) (by kernel_rfl) (by kernel_rfl) (fun _ _ _ h => h) rfl hHeld (fun w _ => rfl) ?_
      refine held_take 7 41 (.pointer (some ⟨db, dof + n * 2, none⟩)) rfl rfl (by kernel_rfl) (by kernel_rfl) (by kernel_rfl) (fun _ _ _ h => h) rfl hHeld (fun w _ => exec_idx_pn db dof due.length dc n w hnd) ?_
      simp only [Act.put, List.setIfInBounds_toArray, List.set_cons_zero, List.set_cons_succ]
      refine held_take 8 42 (pnA x) rfl rfl (by kernel_rfl) (by kernel_rfl) (by kernel_rfl) (fun _ _ _ h => h) rfl hHeld (fun w h => exec_load_pn db (dof + n * 2) x w (KD.out w h.out)) ?_
      refine held_take 9 43 (.slice (some ⟨ab, aof, none⟩) q.length ac) rfl rfl (by kernel_rfl) (by kernel_rfl) (by kernel_rfl) (fun _ _ _ h => h) rfl hHeld (fun w _ => rfl) ?_
      simp only [Act.put, List.setIfInBounds_toArray, List.set_cons_zero, List.set_cons_succ]
      refine held_take 10 44 (.int .i64 (k : Int)) rfl rfl (by kernel_rfl) (by kernel_rfl) (by kernel_rfl) (fun _ _ _ h => h) rfl hHeld (fun w _ => rfl) ?_
      refine held_take 11 45 (.pointer (some ⟨ab, aof + k * 2, none⟩)) rfl rfl (by kernel_rfl) (by kernel_rfl) (by kernel_rfl) (fun _ _ _ h => h) rfl hHeld (fun w _ => exec_idx_pn ab aof q.length ac k w hlt) ?_
      simp only [Act.put, List.setIfInBounds_toArray, List.set_cons_zero, List.set_cons_succ]
      refine held_take 12 46 (pnA x) rfl rfl (by kernel_rfl) (by kernel_rfl) (by kernel_rfl) (fun _ _ _ h => h) rfl hHeld (fun w h => exec_load_pn ab (aof + k * 2) x w (KQ.out w h.out)) ?_
      refine held_take 13 47 (.bool false) rfl rfl (by kernel_rfl) (by kernel_rfl) (by kernel_rfl) (fun _ _ _ h => h) rfl hHeld (fun w _ => exec_neqPn0 x w) ?_
      simp only [Act.put, List.setIfInBounds_toArray, List.set_cons_zero, List.set_cons_succ]
      refine held_take 14 48 (.bool false) rfl rfl (by kernel_rfl) (by kernel_rfl) (by kernel_rfl) (fun _ _ _ h => h) rfl hHeld (fun w _ => exec_pickF _ w) ?_
      simp only [Act.put, List.setIfInBounds_toArray, List.set_cons_zero, List.set_cons_succ]
      refine wpAnyH_done (by kernel_rfl) ?_ _
      have B5 : Hid (Below w4.heap.size w4 wr.drew) := hb4.out.trans (hHeld.out.mono hb4.out.size)
      clear hHeld KD KQ c0 c1 hb4
      go_wp2
      go_roundw
      case rel => exact ⟨k + 1, by omega, by go_num, by rw [HN.out]; go_num, B5⟩
      case measure => simp [intOf]; omega
    · have HN : Hid (((q.take (k + 1)).filter (fun x => decide (x.at_ ≤ now))).length = n) := by
        show _ = _
        rw [HF.out, if_neg (by simpa using hx), List.append_nil, EN.out]
      have hx' : decide (x.at_ ≤ now) = false := decide_eq_false hx
      obtain ⟨c0, c1⟩ := hc
      clear HA2 HF ex
      go_wp2
      go_roundw
      case rel => exact ⟨k + 1, by omega, by go_num, by rw [HN.out], hb4⟩
      case measure => simp [intOf]; omega
end Go.Proofs.Ytflomkebgiemaaa
