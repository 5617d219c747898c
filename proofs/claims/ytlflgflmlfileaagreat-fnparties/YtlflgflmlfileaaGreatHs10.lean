/- PinsIn of the model. -/
import Derived.Test.YtlflgflmlfileaaGreatRows
import Derived.Test.YtlflgflmlfileaaGreatHs8
namespace Go.Proofs.YtlflgflmlfileaaGreat
open Go.RowKit
set_option linter.unusedSimpArgs false
set_option linter.unusedVariables false
set_option maxRecDepth 100000 in
theorem exec_fldPt {ρ : Operand → Value} {o : Oper} {x : Operand} (b off f : Nat) (w : World) (hf : f < 10) (ho : o.op = .fieldAddr 26 x f := by rfl) (hx : ρ x = .pointer (some ⟨b, off, none⟩) := by rfl) :
    (execOp ρ o).run Tryz.prog w = .ok (.value (.pointer (some ⟨b, off + f, none⟩))) w := by
  unfold execOp
  rw [ho]
  match f, hf with
  | 0, _ | 1, _ | 2, _ | 3, _ | 4, _ | 5, _ | 6, _ | 7, _ | 8, _ | 9, _ => simp [go_sem, hx]
set_option maxRecDepth 100000 in
theorem exec_build_pn {ρ : Operand → Value} {o : Oper} {x y : Operand} (X Y : Int) (w : World) (ho : o.op = .build 95 #[(0, x), (1, y)] := by rfl) (hx : ρ x = .int .i64 X := by rfl) (hy : ρ y = .int .i64 Y := by rfl) :
    (execOp ρ o).run Tryz.prog w = .ok (.value (pnA ⟨X, Y⟩)) w := by
  unfold execOp
  rw [ho]
  simp [go_sem, hx, hy, pnA]
/-- What PinsIn returns. -/
def pinsV (l : List Pt) (cabin : Int) : List Pn := l.foldl (fun acc x => if x.state = 2 ∧ x.cabin = cabin then pnPut acc ⟨x.until_, x.id⟩ else acc) []
set_option maxRecDepth 100000 in
set_option maxHeartbeats 3200000 in
theorem pinsIn_spec (A : Option Addr) (l : List Pt) (c : Nat) (cabin : Int) (w : World) (hl : l.length ≤ 2097152) (hA : Rws w w.heap.size A (l.flatMap ptC)) :
    Calls Tryz.prog 56 #[.slice A l.length c, .int .i64 cabin] w (NewR 95 2 w (pinsV l cabin).length ((pinsV l cabin).flatMap pnC)) := by
  have O0 := Lib.hid (own_empty w w.heap.size 95 2 (Nat.le_refl _))
  have B0 : Hid (Below w.heap.size w (w.alloc (.cells #[] 95))) := (Below.refl _ _).alloc (Nat.le_refl _) _
  go_enter Tryz.func56, Tryz.ntmps56
  go_wp2_with fail
  go_loopw [5, 6] (fun v i wr => ∃ (k : Nat) (q : List Pn), k ≤ l.length ∧ i = .int .i64 k ∧ pinsV (l.take k) cabin = q ∧ q.length ≤ k ∧ wr.ownsRow w.heap.size 95 2 v q.length (q.flatMap pnC) ∧ Below w.heap.size w wr) (fun _ i _ => l.length - (intOf i).toNat)
  case atStart => exact ⟨0, [], by omega, rfl, rfl, by simp, O0.out, B0.out⟩
  case round =>
    clear O0 B0
    obtain ⟨k, q, hk, rfl, hq, hql, hown, hb⟩ := hrel
    by_cases hlt : k < l.length
    · obtain ⟨b, off, rfl, hbB, hc⟩ := (hA.below hb).pt hlt
      have hs : pinsV (l.take (k + 1)) cabin = (let x := l.getD k pt0; if x.state = 2 ∧ x.cabin = cabin then pnPut q ⟨x.until_, x.id⟩ else q) := by
        rw [← hq]; unfold pinsV; rw [take_succ_getD l k pt0 hlt, List.foldl_append]; rfl
      generalize l.getD k pt0 = x at *
      simp only [] at hs
      have hbs := hb.size
      by_cases g0 : x.state = 2
      rotate_left
      · have e0 : (x.state == 2) = false := by simp [g0]
        obtain ⟨c0, c1, c2, c3, c4, c5, c6, c7, c8, c9⟩ := hc
        have HO := Lib.hid hown
        have HB := Lib.hid hb
        have HS : Hid (pinsV (l.take (k + 1)) cabin = q) := by show _ = _; rw [hs, if_neg (fun h => g0 h.1)]
        clear hown hb hs hq
        go_wp2
        go_roundw
        case rel => exact ⟨k + 1, q, by omega, by go_num, HS.out, by omega, HO.out, HB.out⟩
        case measure => simp [intOf]; omega
      have e0 : (x.state == 2) = true := by simp [g0]
      by_cases g1 : x.cabin = cabin
      rotate_left
      · have e1 : (x.cabin == cabin) = false := by simp [g1]
        obtain ⟨c0, c1, c2, c3, c4, c5, c6, c7, c8, c9⟩ := hc
        have HO := Lib.hid hown
        have HB := Lib.hid hb
        have HS : Hid (pinsV (l.take (k + 1)) cabin = q) := by show _ = _; rw [hs, if_neg (fun h => g1 h.2)]
        clear hown hb hs hq
        go_wp2
        go_roundw
        case rel => exact ⟨k + 1, q, by omega, by go_num, HS.out, by omega, HO.out, HB.out⟩
        case measure => simp [intOf]; omega
      have e1 : (x.cabin == cabin) = true := by simp [g1]
      have HS : Hid (pinsV (l.take (k + 1)) cabin = pnPut q ⟨x.until_, x.id⟩) := by show _ = _; rw [hs, if_pos ⟨g0, g1⟩]
      have KX := Lib.hid (fun w' (h : Below wr.heap.size wr w') => Pt.here.below hc h (by omega))
      obtain ⟨c0, c1, c2, c3, c4, c5, c6, c7, c8, c9⟩ := hc
      obtain ⟨P, cp, rfl, hqc, hqn, _⟩ := own_form hown
      have HO := Lib.hid hown
      have HB := Lib.hid hb
      clear hs hq g0 g1 hown hb
      go_wp2_with fail
      have hown := HO.out
      have hb := HB.out
      refine wp_region_held_drew (S := fun w' => Hid (Below wr.heap.size wr w')) (by kernel_rfl) (below_drawn (Below.refl _ _) 1) (fun hHeld => ?_)
      refine held_take 0 29 (.slice P q.length cp) rfl rfl (by kernel_rfl) (by kernel_rfl) (by kernel_rfl) (fun _ _ _ h => h) rfl hHeld (fun w _ => rfl) ?_
      refine held_take 1 30 (.slice (some ⟨b, off, none⟩) l.length c) rfl rfl (by kernel_rfl) (by kernel_rfl) (by kernel_rfl) (fun _ _ _ h => h) rfl hHeld (fun w _ => rfl) ?_
      refine held_take 2 31 (.int .i64 (k : Int)) rfl rfl (by kernel_rfl) (by kernel_rfl) (by kernel_rfl) (fun _ _ _ h => h) rfl hHeld (fun w _ => rfl) ?_
      simp only [Act.put, List.setIfInBounds_toArray, List.set_cons_zero, List.set_cons_succ]
      refine held_take 3 32 (.pointer (some ⟨b, off + k * 10, none⟩)) rfl rfl (by kernel_rfl) (by kernel_rfl) (by kernel_rfl) (fun _ _ _ h => h) rfl hHeld (fun w _ => exec_idx_pt b off l.length c k w hlt) ?_
      refine held_take 4 33 (.pointer (some ⟨b, off + k * 10 + 8, none⟩)) rfl rfl (by kernel_rfl) (by kernel_rfl) (by kernel_rfl) (fun _ _ _ h => h) rfl hHeld (fun w _ => exec_fldPt b (off + k * 10) 8 w (by decide)) ?_
      refine held_take 5 34 (.int .i64 x.until_) rfl rfl (by kernel_rfl) (by kernel_rfl) (by kernel_rfl) (fun _ _ _ h => h) rfl hHeld (fun w hS => exec_load1 3 b (off + k * 10 + 8) _ w (.inl rfl) (KX.out w hS.out).2.2.2.2.2.2.2.2.1) ?_
      simp only [Act.put, List.setIfInBounds_toArray, List.set_cons_zero, List.set_cons_succ]
      refine held_take 6 35 (.slice (some ⟨b, off, none⟩) l.length c) rfl rfl (by kernel_rfl) (by kernel_rfl) (by kernel_rfl) (fun _ _ _ h => h) rfl hHeld (fun w _ => rfl) ?_
      refine held_take 7 36 (.int .i64 (k : Int)) rfl rfl (by kernel_rfl) (by kernel_rfl) (by kernel_rfl) (fun _ _ _ h => h) rfl hHeld (fun w _ => rfl) ?_
      refine held_take 8 37 (.pointer (some ⟨b, off + k * 10, none⟩)) rfl rfl (by kernel_rfl) (by kernel_rfl) (by kernel_rfl) (fun _ _ _ h => h) rfl hHeld (fun w _ => exec_idx_pt b off l.length c k w hlt) ?_
      simp only [Act.put, List.setIfInBounds_toArray, List.set_cons_zero, List.set_cons_succ]
      refine held_take 9 38 (.pointer (some ⟨b, off + k * 10 + 0, none⟩)) rfl rfl (by kernel_rfl) (by kernel_rfl) (by kernel_rfl) (fun _ _ _ h => h) rfl hHeld (fun w _ => exec_fldPt b (off + k * 10) 0 w (by decide)) ?_
      refine held_take 10 39 (.int .i64 x.id) rfl rfl (by kernel_rfl) (by kernel_rfl) (by kernel_rfl) (fun _ _ _ h => h) rfl hHeld (fun w hS => exec_load1 3 b (off + k * 10 + 0) _ w (.inl rfl) (KX.out w hS.out).1) ?_
      refine held_take 11 40 (pnA ⟨x.until_, x.id⟩) rfl rfl (by kernel_rfl) (by kernel_rfl) (by kernel_rfl) (fun _ _ _ h => h) rfl hHeld (fun w _ => exec_build_pn _ _ w) ?_
      simp only [Act.put, List.setIfInBounds_toArray, List.set_cons_zero, List.set_cons_succ]
      refine held_call 12 41 71 #[.slice P q.length cp, pnA ⟨x.until_, x.id⟩] rfl rfl (by kernel_rfl) rfl (exec_call Tryz.func71 (by kernel_rfl) (by kernel_rfl) _) ?_
      refine (l9Put_spec P q cp ⟨x.until_, x.id⟩ _ (by omega) hqc hqn (rws_below (own_rws hown) hHeld.out)).mono ?_
      rintro e u1 ⟨P2, cp2, rfl, o1, x1⟩
      have k1 := hHeld.out.trans (x1.mono hHeld.out.size)
      refine ⟨_, rfl, k1, ?_⟩
      simp only [Act.put, List.setIfInBounds_toArray, List.set_cons_zero, List.set_cons_succ]
      refine held_op 13 5 (.slice P2 (pnPut q ⟨x.until_, x.id⟩).length cp2) rfl rfl (by kernel_rfl) rfl rfl k1 ?_
      simp only [Act.put, List.setIfInBounds_toArray, List.set_cons_zero, List.set_cons_succ]
      refine wpAnyH_done (by kernel_rfl) ?_ _
      have HL : Hid ((pnPut q ⟨x.until_, x.id⟩).length ≤ k + 1) := by show _ ≤ _; rw [pnPut_len]; omega
      have O1 := Lib.hid (own_weak o1 (Nat.le_trans hbs hHeld.out.size))
      have B1 := Lib.hid (hb.trans (k1.mono hb.size))
      clear o1 x1 k1 hHeld hown hb HO HB KX c0 c1 c2 c3 c4 c5 c6 c7 c8 c9
      generalize pnPut q ⟨x.until_, x.id⟩ = q2 at *
      go_wp2
      go_roundw
      case rel => exact ⟨k + 1, q2, by omega, by go_num, HS.out, HL.out, O1.out, B1.out⟩
      case measure => simp [intOf]; omega
    · obtain rfl : k = l.length := by omega
      rw [List.take_length] at hq
      have HN := Lib.hid (NewR.of_own hown hb)
      rw [← hq] at HN
      clear hown hb hq
      go_wp2
      go_ret
      exact HN.out
end Go.Proofs.YtlflgflmlfileaaGreat
