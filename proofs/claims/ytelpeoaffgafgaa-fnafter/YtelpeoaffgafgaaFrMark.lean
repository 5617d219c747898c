/- Marks in a row of frames. -/
import Derived.Test.YtelpeoaffgafgaaRows
import Derived.Test.YtelpeoaffgafgaaRw
namespace Go.Proofs.Ytelpeoaffgafgaa
open Go.RowKit
theorem grown_of_below {a w : World} (h : Below a.heap.size a w) (row : Option Nat) : a.grownBy w row := ⟨h.os, h.tape, h.output, h.size, fun i hi _ => h.block i hi⟩
/-- The frame of the marks from q on. -/
def markF (q : Nat) : Fr := ⟨(q : Int), markT (q + 1), ((q + 2 : Nat) : Int)⟩
def marksF (k n : Nat) : List Fr := (List.range n).map fun i => markF (k + i * 3)
theorem marksF_length (k n : Nat) : (marksF k n).length = n := by simp [marksF]
theorem marksF_getD (k n i : Nat) (h : i < n) : (marksF k n).getD i fr0 = markF (k + i * 3) := by simp [marksF, h]
theorem marksF_succ (k j : Nat) : marksF k (j + 1) = marksF k j ++ [markF (k + j * 3)] := by simp [marksF, List.range_succ]
def markedF (l : List Fr) (k j : Nat) : List Value := (marksF k j).flatMap frC ++ (l.flatMap frC).drop (j * 3)
theorem markedF_zero (l : List Fr) (k : Nat) : markedF l k 0 = l.flatMap frC := by simp [markedF, marksF]
theorem markedF_all (l : List Fr) (k : Nat) : markedF l k l.length = (marksF k l.length).flatMap frC := by
  unfold markedF; rw [List.drop_of_length_le (by rw [flat_len frC 3 frC_len]; omega), List.append_nil]
theorem markedF_len (l : List Fr) (k j : Nat) (hj : j ≤ l.length) : (markedF l k j).length = l.length * 3 := by
  unfold markedF
  rw [List.length_append, flat_len frC 3 frC_len, marksF_length, List.length_drop, flat_len frC 3 frC_len]; omega
theorem markedF_set (l : List Fr) (k j : Nat) (hj : j < l.length) :
    (((markedF l k j).set (j * 3) (.int .i64 ((k + j * 3 : Nat) : Int))).set (j * 3 + 1) (.string (markT (k + j * 3 + 1)))).set (j * 3 + 2) (.int .i64 ((k + j * 3 + 2 : Nat) : Int)) = markedF l k (j + 1) := by
  have hlen : ((marksF k j).flatMap frC).length = j * 3 := by rw [flat_len frC 3 frC_len, marksF_length]
  have hl : (l.flatMap frC).length = l.length * 3 := flat_len frC 3 frC_len l
  obtain ⟨x0, x1, x2, r, hd⟩ : ∃ x0 x1 x2 r, (l.flatMap frC).drop (j * 3) = x0 :: x1 :: x2 :: r := by
    have : 3 ≤ ((l.flatMap frC).drop (j * 3)).length := by rw [List.length_drop, hl]; omega
    match h : (l.flatMap frC).drop (j * 3), this with
    | x0 :: x1 :: x2 :: r, _ => exact ⟨x0, x1, x2, r, rfl⟩
  have hd3 : (l.flatMap frC).drop ((j + 1) * 3) = r := by
    rw [show (j + 1) * 3 = 3 + j * 3 by omega, Nat.add_comm, ← List.drop_drop, hd]; rfl
  unfold markedF
  rw [hd, hd3, marksF_succ, List.flatMap_append, List.append_assoc]
  rw [List.set_append_right _ _ (by omega), hlen, Nat.sub_self, List.set_cons_zero]
  rw [List.set_append_right _ _ (by omega), hlen, show j * 3 + 1 - j * 3 = 1 by omega]
  rw [List.set_append_right _ _ (by omega), hlen, show j * 3 + 2 - j * 3 = 2 by omega]
  rfl
set_option maxRecDepth 100000 in
set_option maxHeartbeats 800000 in
/-- markFrameS on a row of the call's own. -/
theorem markFrS_any (A : Option Addr) (l : List Fr) (k c base : Nat) (w : World) (hl : l.length ≤ 2097152) (hk : k ≤ 2097152) (hA : w.ownsRow base 38 3 (.slice A l.length c) l.length (l.flatMap frC)) :
    Calls Try.prog 27 #[.slice A l.length c, .int .i64 k] w fun e w' => e = .returned (.int .i64 ((k + l.length * 3 : Nat) : Int)) ∧
      w'.ownsRow base 38 3 (.slice A l.length c) l.length ((marksF k l.length).flatMap frC) ∧ w.grownBy w' (Value.ownBlock (.slice A l.length c)) := by
  go_enter Try.func27, Try.ntmps27
  go_wp2
  go_loopw [1, 5] (fun q i wr => ∃ j : Nat, j ≤ l.length ∧ i = .int .i64 j ∧ q = .int .i64 ((k + j * 3 : Nat) : Int) ∧
      wr.ownsRow base 38 3 (.slice A l.length c) l.length (markedF l k j) ∧ w.grownBy wr (Value.ownBlock (.slice A l.length c))) (fun _ i _ => l.length - (intOf i).toNat)
  case atStart => exact ⟨0, by omega, rfl, by simp, by rw [markedF_zero]; exact hA, World.grownBy.refl _ _⟩
  case round =>
    obtain ⟨j, hj, rfl, rfl, hown, hgr⟩ := hrel
    by_cases hlt : j < l.length
    · obtain ⟨A', c', he, _, _, hp⟩ := own_form hA
      obtain ⟨g, rfl, hg⟩ := hp (by omega)
      obtain ⟨rfl, rfl⟩ : A = some ⟨g, 0, none⟩ ∧ c' = c := by injection he with h1 h2 h3; exact ⟨h1, h3.symm⟩
      have HS := Lib.hid (markedF_set l k j hlt)
      have hln := markedF_len l k j hj
      obtain ⟨q, hq⟩ : ∃ q, q = k + j * 3 := ⟨_, rfl⟩
      rw [← hq] at HS
      rw [← hq]
      have hql : q ≤ 8400000 := by omega
      have HQ := Lib.hid hq
      generalize hn : l.length = n at *
      generalize markedF l k j = cs at *
      have hcell : ∀ i, i < n * 3 → ∃ u, wr.cell? ⟨g, i, none⟩ = some u := fun i hi => by
        rw [hown.cellAt i hi]; exact ⟨_, List.getElem?_eq_getElem (by omega)⟩
      obtain ⟨u0, hu0⟩ := hcell (j * 3) (by omega)
      have hfz := hown.frozenAt (j * 3)
      have S1 := Lib.hid (hown.stored (j * 3) (.int .i64 (q : Int)))
      have HG := Lib.hid hgr
      have CM : Hid (∀ w, Calls Try.prog 56 #[.int .i64 ((q : Int) + 1)] w (Marked w (markT (q + 1)))) := fun w => markText_any (q + 1) w (by omega)
      generalize markT (q + 1) = mk at *
      clear hq hown hgr he hA hp hcell
      go_wp2_with fail
      refine (CM.out _).mono ?_
      rintro e w1 ⟨rfl, b1⟩
      have own1 := own_below S1.out.1 b1
      have hln1 : (cs.set (j * 3) (.int .i64 (q : Int))).length = n * 3 := by rw [List.length_set]; exact hln
      obtain ⟨u1, hu1⟩ : ∃ u, w1.cell? ⟨g, j * 3 + 1, none⟩ = some u := by rw [own1.cellAt _ (by omega)]; exact ⟨_, List.getElem?_eq_getElem (by omega)⟩
      obtain ⟨u2, hu2⟩ : ∃ u, w1.cell? ⟨g, j * 3 + 2, none⟩ = some u := by rw [own1.cellAt _ (by omega)]; exact ⟨_, List.getElem?_eq_getElem (by omega)⟩
      have hf1 := own1.frozenAt (j * 3 + 1)
      have hf2 := own1.frozenAt (j * 3 + 2)
      have S2 := own1.stored (j * 3 + 1) (.string mk)
      have S3 := Lib.hid (S2.1.stored (j * 3 + 2) (.int .i64 ((q : Int) + 2)))
      have G : Hid (w.grownBy ((w1.setCell ⟨g, j * 3 + 1, none⟩ (.string mk)).setCell ⟨g, j * 3 + 2, none⟩ (.int .i64 ((q : Int) + 2))) (some g)) :=
        (((HG.out.trans S1.out.2).trans (grown_of_below b1 _)).trans S2.2).trans S3.out.2
      clear S2 own1 b1 hln1
      go_wp2
      go_roundw
      case rel => exact ⟨j + 1, by omega, by go_num, by have := HQ.out; go_num, by rw [← HS.out]; exact S3.out.1, G.out⟩
      case measure => simp [intOf]; omega
    · obtain rfl : j = l.length := by omega
      rw [markedF_all] at hown
      go_wp2
      go_ret
      exact ⟨rfl, hown, hgr⟩
set_option maxRecDepth 100000 in
theorem exec_fldFr {ρ : Operand → Value} {o : Oper} {x : Operand} (b off : Nat) (w : World) (ho : o.op = .fieldAddr 38 x 1 := by rfl) (hx : ρ x = .pointer (some ⟨b, off, none⟩) := by rfl) :
    (execOp ρ o).run Try.prog w = .ok (.value (.pointer (some ⟨b, off + 1, none⟩))) w := by
  unfold execOp
  rw [ho]
  simp [go_sem, hx]
set_option maxRecDepth 100000 in
theorem exec_loadS {ρ : Operand → Value} {o : Oper} {x : Operand} (b off : Nat) (s : ByteArray) (w : World) (h : w.cell? ⟨b, off, none⟩ = some (.string s)) (ho : o.op = .load 9 x := by rfl) (hx : ρ x = .pointer (some ⟨b, off, none⟩) := by rfl) :
    (execOp ρ o).run Try.prog w = .ok (.value (.string s)) w := by
  unfold execOp
  rw [ho]
  simp [go_sem, hx, h]
set_option maxRecDepth 100000 in
set_option maxHeartbeats 800000 in
/-- heldFrameS on a row of marks. -/
theorem heldFrS_any (A : Option Addr) (k n c : Nat) (w : World) (hn : n ≤ 2097152) (hk : k ≤ 2097152) (hA : Rws w w.heap.size A ((marksF k n).flatMap frC)) :
    Calls Try.prog 28 #[.slice A n c, .int .i64 k] w fun e w' => e = .returned (.int .i64 ((k + n * 3 : Nat) : Int)) ∧ Below w.heap.size w w' := by
  go_enter Try.func28, Try.ntmps28
  go_wp2
  go_loopw [1, 5] (fun q i wr => ∃ j : Nat, j ≤ n ∧ i = .int .i64 j ∧ q = .int .i64 ((k + j * 3 : Nat) : Int) ∧ Below w.heap.size w wr) (fun _ i _ => n - (intOf i).toNat)
  case atStart => exact ⟨0, by omega, rfl, by simp, Below.refl _ _⟩
  case round =>
    obtain ⟨j, hj, rfl, rfl, hb⟩ := hrel
    by_cases hlt : j < n
    · obtain ⟨b, off, rfl, hbB, c0', c1', c2'⟩ := (hA.below hb).fr (i := j) (by rw [marksF_length]; exact hlt)
      rw [marksF_getD k n j hlt] at c0' c1' c2'
      obtain ⟨q, hq⟩ : ∃ q, q = k + j * 3 := ⟨_, rfl⟩
      rw [← hq] at c0' c1' c2'
      rw [← hq]
      have c0 : wr.cell? ⟨b, off + j * 3, none⟩ = some (.int .i64 (q : Int)) := c0'
      have c1 : wr.cell? ⟨b, off + j * 3 + 1, none⟩ = some (.string (markT (q + 1))) := c1'
      have c2 : wr.cell? ⟨b, off + j * 3 + 2, none⟩ = some (.int .i64 ((q : Int) + 2)) := c2'
      clear c0' c1' c2'
      have hql : q ≤ 8400000 := by omega
      have HQ := Lib.hid hq
      have hbs := hb.size
      have hbl : b < wr.heap.size := by omega
      have CM : Hid (∀ w, Calls Try.prog 56 #[.int .i64 ((q : Int) + 1)] w (Marked w (markT (q + 1)))) := fun w => markText_any (q + 1) w (by omega)
      generalize markT (q + 1) = mk at *
      have n1 : ((q : Int) != (q : Int)) = false := by simp
      have n2 : (((q : Int) + 1 + 1) != ((q : Int) + 2)) = false := by simp; omega
      have n3 : (((q : Int) + 2) != ((q : Int) + 1 + 1)) = false := by simp; omega
      have n4 : (((q : Int) + 2) != ((q : Int) + 2)) = false := by simp
      clear hq
      go_wp2
      refine wp_region_held_drew (S := fun w' => w'.cell? ⟨b, off + j * 3 + 1, none⟩ = some (.string mk)) (by kernel_rfl) c1 (fun hHeld => ?_)
      refine held_take 0 21 (.slice (some ⟨b, off, none⟩) n c) rfl rfl (by kernel_rfl) (by kernel_rfl) (by kernel_rfl) (fun _ _ _ h => h) rfl hHeld (fun w _ => rfl) ?_
      refine held_take 1 22 (.int .i64 (j : Int)) rfl rfl (by kernel_rfl) (by kernel_rfl) (by kernel_rfl) (fun _ _ _ h => h) rfl hHeld (fun w _ => rfl) ?_
      refine held_take 2 23 (.pointer (some ⟨b, off + j * 3, none⟩)) rfl rfl (by kernel_rfl) (by kernel_rfl) (by kernel_rfl) (fun _ _ _ h => h) rfl hHeld (fun w _ => exec_idxFr b off n c j w hlt) ?_
      simp only [Act.put, List.setIfInBounds_toArray, List.set_cons_zero, List.set_cons_succ]
      refine held_take 3 24 (.pointer (some ⟨b, off + j * 3 + 1, none⟩)) rfl rfl (by kernel_rfl) (by kernel_rfl) (by kernel_rfl) (fun _ _ _ h => h) rfl hHeld (fun w _ => exec_fldFr b (off + j * 3) w) ?_
      refine held_take 4 25 (.string mk) rfl rfl (by kernel_rfl) (by kernel_rfl) (by kernel_rfl) (fun _ _ _ h => h) rfl hHeld (fun w hS => exec_loadS b (off + j * 3 + 1) mk w hS) ?_
      refine held_take 5 26 (.int .i64 ((q : Int) + 1)) rfl rfl (by kernel_rfl) (by kernel_rfl) (by kernel_rfl) (fun _ _ _ h => h) rfl hHeld (fun w _ => rfl) ?_
      simp only [Act.put, List.setIfInBounds_toArray, List.set_cons_zero, List.set_cons_succ]
      refine held_call 6 27 56 #[.int .i64 ((q : Int) + 1)] rfl rfl (by kernel_rfl) rfl (exec_call Try.func56 (by kernel_rfl) (by kernel_rfl) _) ?_
      refine (CM.out _).mono ?_
      rintro e w1 ⟨rfl, b1'⟩
      have b1 : Below wr.heap.size wr w1 := (below_drawn (Below.refl wr.heap.size wr) 1).trans b1'
      have hS := (b1.cell (p := ⟨b, off + j * 3 + 1, none⟩) (by exact hbl)).trans c1
      refine ⟨_, rfl, hS, ?_⟩
      simp only [Act.put, List.setIfInBounds_toArray, List.set_cons_zero, List.set_cons_succ]
      refine held_op 7 28 (.bool false) rfl rfl (by kernel_rfl) rfl (exec_neqS_no mk w1) hS ?_
      simp only [Act.put, List.setIfInBounds_toArray, List.set_cons_zero, List.set_cons_succ]
      refine wpAnyH_done (by kernel_rfl) ?_ _
      have d2 := (b1.cell (p := ⟨b, off + j * 3 + 2, none⟩) (by exact hbl)).trans c2
      have b2 : Hid (Below w.heap.size w w1) := hb.trans (b1.mono hbs)
      clear b1 b1' hS c0 c1 c2 hb
      go_wp2
      go_roundw
      case rel => exact ⟨j + 1, by omega, by go_num, by have := HQ.out; go_num, b2.out⟩
      case measure => simp [intOf]; omega
    · obtain rfl : j = n := by omega
      go_wp2
      go_ret
      exact ⟨rfl, hb⟩
end Go.Proofs.Ytelpeoaffgafgaa
