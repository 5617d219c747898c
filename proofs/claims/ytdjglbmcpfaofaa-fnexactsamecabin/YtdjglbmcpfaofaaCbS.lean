/- SameCabin of the model and of the program. -/
import Derived.Test.YtdjglbmcpfaofaaRows
import Derived.Test.YtdjglbmcpfaofaaCbI
namespace Go.Proofs.Ytdjglbmcpfaofaa
open Go.RowKit
set_option linter.unusedSimpArgs false
set_option linter.unusedVariables false
/-- What the comparison of two good cabins tells. -/
noncomputable def sameB (a b : Le) (p q : List En) (la lb : List (List Pn)) : Bool := decide (a = b) && decide (p = q) && sameW la lb
/-- What SameCabin tells. -/
noncomputable def sameC (a b : Le) (p q : List En) (la lb : List (List Pn)) : Bool := cabB a p la && cabB b q lb && sameB a b p q la lb
set_option maxRecDepth 100000 in
theorem run_eqlLe (X Y : Le) (w : World) : Sem.run Try.prog (Go.binOp .eql 32 (leA X) (leA Y)) w = .ok (.bool (decide (X = Y))) w := by
  obtain ⟨x1, x2, x3, x4, x5⟩ := X
  obtain ⟨y1, y2, y3, y4, y5⟩ := Y
  simp [go_sem, leA]
  by_cases h1 : x1 = y1 <;> by_cases h2 : x2 = y2 <;> by_cases h3 : x3 = y3 <;> by_cases h4 : x4 = y4 <;> by_cases h5 : x5 = y5 <;> simp [h1, h2, h3, h4, h5]
set_option maxRecDepth 100000 in
theorem exec_nilP {ρ : Operand → Value} {o : Oper} {x : Operand} (p : Addr) (w : World) (ho : o.op = .nilCheck x := by rfl) (hx : ρ x = .pointer (some p) := by rfl) :
    (execOp ρ o).run Try.prog w = .ok (.value (.pointer (some p))) w := by
  unfold execOp
  rw [ho]
  simp [go_sem, hx]
set_option maxRecDepth 100000 in
theorem exec_fldCb0 {ρ : Operand → Value} {o : Oper} {x : Operand} (b : Nat) (w : World) (ho : o.op = .fieldAddr 38 x 0 := by rfl) (hx : ρ x = .pointer (some ⟨b, 0, none⟩) := by rfl) :
    (execOp ρ o).run Try.prog w = .ok (.value (.pointer (some ⟨b, 0, none⟩))) w := by
  unfold execOp
  rw [ho]
  simp [go_sem, hx]
set_option maxRecDepth 100000 in
theorem exec_fldCb1 {ρ : Operand → Value} {o : Oper} {x : Operand} (b : Nat) (w : World) (ho : o.op = .fieldAddr 38 x 1 := by rfl) (hx : ρ x = .pointer (some ⟨b, 0, none⟩) := by rfl) :
    (execOp ρ o).run Try.prog w = .ok (.value (.pointer (some ⟨b, 5, none⟩))) w := by
  unfold execOp
  rw [ho]
  simp [go_sem, hx]
set_option maxRecDepth 100000 in
theorem exec_fldCb2 {ρ : Operand → Value} {o : Oper} {x : Operand} (b : Nat) (w : World) (ho : o.op = .fieldAddr 38 x 2 := by rfl) (hx : ρ x = .pointer (some ⟨b, 0, none⟩) := by rfl) :
    (execOp ρ o).run Try.prog w = .ok (.value (.pointer (some ⟨b, 6, none⟩))) w := by
  unfold execOp
  rw [ho]
  simp [go_sem, hx]
set_option maxRecDepth 100000 in
theorem exec_load_cbL {ρ : Operand → Value} {o : Oper} {x : Operand} (v : Cv) (g : Nat) (w : World) (h : w.heap[g]? = some (.cells #[.int .i64 v.le.total, .int .i64 v.le.free, .int .i64 v.le.held, .int .i64 v.le.sold, .int .i64 v.le.tied, .slice v.Q v.q.length v.qc, .slice v.A v.sp.length v.c] 38)) (ho : o.op = .load 32 x := by rfl) (hx : ρ x = .pointer (some ⟨g, 0, none⟩) := by rfl) :
    (execOp ρ o).run Try.prog w = .ok (.value (leA v.le)) w := by
  have a0 := cell_of_row _ _ 0 _ _ _ h
  have a1 := cell_of_row _ _ 1 _ _ _ h
  have a2 := cell_of_row _ _ 2 _ _ _ h
  have a3 := cell_of_row _ _ 3 _ _ _ h
  have a4 := cell_of_row _ _ 4 _ _ _ h
  simp at a0 a1 a2 a3 a4
  unfold execOp
  rw [ho]
  simp [go_sem, hx, a0, a1, a2, a3, a4, leA]
set_option maxRecDepth 100000 in
theorem exec_load_cbQ {ρ : Operand → Value} {o : Oper} {x : Operand} (v : Cv) (g : Nat) (w : World) (h : w.heap[g]? = some (.cells #[.int .i64 v.le.total, .int .i64 v.le.free, .int .i64 v.le.held, .int .i64 v.le.sold, .int .i64 v.le.tied, .slice v.Q v.q.length v.qc, .slice v.A v.sp.length v.c] 38)) (ho : o.op = .load 33 x := by rfl) (hx : ρ x = .pointer (some ⟨g, 5, none⟩) := by rfl) :
    (execOp ρ o).run Try.prog w = .ok (.value (.slice v.Q v.q.length v.qc)) w := by
  have a5 := cell_of_row _ _ 5 _ _ _ h
  simp at a5
  unfold execOp
  rw [ho]
  simp [go_sem, hx, a5, leA]
set_option maxRecDepth 100000 in
theorem exec_load_cbW {ρ : Operand → Value} {o : Oper} {x : Operand} (v : Cv) (g : Nat) (w : World) (h : w.heap[g]? = some (.cells #[.int .i64 v.le.total, .int .i64 v.le.free, .int .i64 v.le.held, .int .i64 v.le.sold, .int .i64 v.le.tied, .slice v.Q v.q.length v.qc, .slice v.A v.sp.length v.c] 38)) (ho : o.op = .load 36 x := by rfl) (hx : ρ x = .pointer (some ⟨g, 6, none⟩) := by rfl) :
    (execOp ρ o).run Try.prog w = .ok (.value (.agg #[.slice v.A v.sp.length v.c])) w := by
  have a6 := cell_of_row _ _ 6 _ _ _ h
  simp at a6
  unfold execOp
  rw [ho]
  simp [go_sem, hx, a6, leA]
set_option maxRecDepth 100000 in
set_option maxHeartbeats 3200000 in
theorem same_im (v u : Cv) (g g2 : Nat) (W : World) (hs : v.small) (hs2 : u.small) (hv : v.fits) (hv2 : u.fits) (hr : v.reads W) (hr2 : u.reads W) (g0 : W.heap[g]? = some (.cells #[.int .i64 v.le.total, .int .i64 v.le.free, .int .i64 v.le.held, .int .i64 v.le.sold, .int .i64 v.le.tied, .slice v.Q v.q.length v.qc, .slice v.A v.sp.length v.c] 38)) (g1 : W.heap[g2]? = some (.cells #[.int .i64 u.le.total, .int .i64 u.le.free, .int .i64 u.le.held, .int .i64 u.le.sold, .int .i64 u.le.tied, .slice u.Q u.q.length u.qc, .slice u.A u.sp.length u.c] 38)) :
    Calls Try.prog 74 #[.pointer (some ⟨g, 0, none⟩), .pointer (some ⟨g2, 0, none⟩)] W fun e w' => e = .returned (.bool (sameB v.le u.le v.q u.q v.ls u.ls)) ∧ Below W.heap.size W w' := by
  have CR : Hid (∀ w', Below W.heap.size W w' → Calls Try.prog 101 #[.pointer (some ⟨g, 0, none⟩), .slice u.Q u.q.length u.qc] w' fun e w'' => e = .returned (.bool (decide (v.q = u.q))) ∧ Below w'.heap.size w' w'') := fun w' h => hasRow_im v g u.Q u.q u.qc w' (by have := hs.q; omega) (by have := hs2.q; omega) (hr.below h).row (hr2.below h).row (blk_call g0 h)
  have CS : Hid (∀ w', Below W.heap.size W w' → Calls Try.prog 102 #[.agg #[.slice v.A v.sp.length v.c], .agg #[.slice u.A u.sp.length u.c]] w' fun e w'' => e = .returned (.bool (sameW v.ls u.ls)) ∧ Below w'.heap.size w' w'') := fun w' h => sameWheel_impl v.A u.A v.sp u.sp v.c u.c w' v.ls u.ls rfl rfl hs.s hs2.s hv.sf hv2.sf (hr.below h).whl (hr2.below h).whl
  obtain ⟨q1, e1⟩ : ∃ q, decide (v.le = u.le) = q := ⟨_, rfl⟩
  obtain ⟨q2, e2⟩ : ∃ q, decide (v.q = u.q) = q := ⟨_, rfl⟩
  obtain ⟨q3, e3⟩ : ∃ q, sameW v.ls u.ls = q := ⟨_, rfl⟩
  have HV : Hid (sameB v.le u.le v.q u.q v.ls u.ls = (q1 && q2 && q3)) := by show _ = _; unfold sameB; rw [e1, e2, e3]
  rw [e2] at CR
  rw [e3] at CS
  have HD := Lib.hid e1
  clear e1 e2 e3
  have KA := Lib.hid (fun w' (h : Below W.heap.size W w') => blk_call g0 h)
  have KB := Lib.hid (fun w' (h : Below W.heap.size W w') => blk_call g1 h)
  clear g0 g1
  go_enter Try.func74, Try.ntmps74
  go_wp2_with fail
  cases q1 with
  | false =>
    refine wp_region_held_drew (S := fun w' => Hid (Below W.heap.size W w')) (by kernel_rfl) (below_drawn (Below.refl _ _) 1) (fun hHeld => ?_)
    refine held_take 0 5 (.pointer (some ⟨g, 0, none⟩)) rfl rfl (by kernel_rfl) (by kernel_rfl) (by kernel_rfl) (fun _ _ _ h => h) rfl hHeld (fun w _ => rfl) ?_
    refine held_take 1 6 (.pointer (some ⟨g, 0, none⟩)) rfl rfl (by kernel_rfl) (by kernel_rfl) (by kernel_rfl) (fun _ _ _ h => h) rfl hHeld (fun w _ => exec_nilP _ w) ?_
    refine held_take 2 7 (.pointer (some ⟨g, 0, none⟩)) rfl rfl (by kernel_rfl) (by kernel_rfl) (by kernel_rfl) (fun _ _ _ h => h) rfl hHeld (fun w _ => exec_fldCb0 g w) ?_
    simp only [Act.put, List.setIfInBounds_toArray, List.set_cons_zero, List.set_cons_succ]
    refine held_take 3 8 (leA v.le) rfl rfl (by kernel_rfl) (by kernel_rfl) (by kernel_rfl) (fun _ _ _ h => h) rfl hHeld (fun w h => exec_load_cbL v g w (KA.out w h.out)) ?_
    refine held_take 4 9 (.pointer (some ⟨g2, 0, none⟩)) rfl rfl (by kernel_rfl) (by kernel_rfl) (by kernel_rfl) (fun _ _ _ h => h) rfl hHeld (fun w _ => rfl) ?_
    refine held_take 5 10 (.pointer (some ⟨g2, 0, none⟩)) rfl rfl (by kernel_rfl) (by kernel_rfl) (by kernel_rfl) (fun _ _ _ h => h) rfl hHeld (fun w _ => exec_nilP _ w) ?_
    simp only [Act.put, List.setIfInBounds_toArray, List.set_cons_zero, List.set_cons_succ]
    refine held_take 6 11 (.pointer (some ⟨g2, 0, none⟩)) rfl rfl (by kernel_rfl) (by kernel_rfl) (by kernel_rfl) (fun _ _ _ h => h) rfl hHeld (fun w _ => exec_fldCb0 g2 w) ?_
    refine held_take 7 12 (leA u.le) rfl rfl (by kernel_rfl) (by kernel_rfl) (by kernel_rfl) (fun _ _ _ h => h) rfl hHeld (fun w h => exec_load_cbL u g2 w (KB.out w h.out)) ?_
    refine held_take 8 13 (.bool false) rfl rfl (by kernel_rfl) (by kernel_rfl) (by kernel_rfl) (fun _ _ _ h => h) rfl hHeld (fun w _ => (exec_eqlLe v.le u.le w).trans (by rw [HD.out])) ?_
    simp only [Act.put, List.setIfInBounds_toArray, List.set_cons_zero, List.set_cons_succ]
    refine held_take 9 14 (.bool false) rfl rfl (by kernel_rfl) (by kernel_rfl) (by kernel_rfl) (fun _ _ _ h => h) rfl hHeld (fun w _ => rfl) ?_
    refine held_skip 10 15 rfl rfl (by kernel_rfl) (by kernel_rfl) (by kernel_rfl) (fun _ _ _ h => h) rfl hHeld ?_
    simp only [Act.put, List.setIfInBounds_toArray, List.set_cons_zero, List.set_cons_succ]
    refine held_skip 11 16 rfl rfl (by kernel_rfl) (by kernel_rfl) (by kernel_rfl) (fun _ _ _ h => h) rfl hHeld ?_
    refine held_skip 12 17 rfl rfl (by kernel_rfl) (by kernel_rfl) (by kernel_rfl) (fun _ _ _ h => h) rfl hHeld ?_
    simp only [Act.put, List.setIfInBounds_toArray, List.set_cons_zero, List.set_cons_succ]
    refine held_skip 13 18 rfl rfl (by kernel_rfl) (by kernel_rfl) (by kernel_rfl) (fun _ _ _ h => h) rfl hHeld ?_
    refine held_skip 14 19 rfl rfl (by kernel_rfl) (by kernel_rfl) (by kernel_rfl) (fun _ _ _ h => h) rfl hHeld ?_
    simp only [Act.put, List.setIfInBounds_toArray, List.set_cons_zero, List.set_cons_succ]
    refine held_skip 15 20 rfl rfl (by kernel_rfl) (by kernel_rfl) (by kernel_rfl) (fun _ _ _ h => h) rfl hHeld ?_
    refine held_take 16 21 (.bool false) rfl rfl (by kernel_rfl) (by kernel_rfl) (by kernel_rfl) (fun _ _ _ h => h) rfl hHeld (fun w _ => exec_pickF _ w) ?_
    refine held_take 17 22 (.bool false) rfl rfl (by kernel_rfl) (by kernel_rfl) (by kernel_rfl) (fun _ _ _ h => h) rfl hHeld (fun w _ => rfl) ?_
    simp only [Act.put, List.setIfInBounds_toArray, List.set_cons_zero, List.set_cons_succ]
    refine held_skip 18 23 rfl rfl (by kernel_rfl) (by kernel_rfl) (by kernel_rfl) (fun _ _ _ h => h) rfl hHeld ?_
    refine held_skip 19 24 rfl rfl (by kernel_rfl) (by kernel_rfl) (by kernel_rfl) (fun _ _ _ h => h) rfl hHeld ?_
    simp only [Act.put, List.setIfInBounds_toArray, List.set_cons_zero, List.set_cons_succ]
    refine held_skip 20 25 rfl rfl (by kernel_rfl) (by kernel_rfl) (by kernel_rfl) (fun _ _ _ h => h) rfl hHeld ?_
    refine held_skip 21 26 rfl rfl (by kernel_rfl) (by kernel_rfl) (by kernel_rfl) (fun _ _ _ h => h) rfl hHeld ?_
    simp only [Act.put, List.setIfInBounds_toArray, List.set_cons_zero, List.set_cons_succ]
    refine held_skip 22 27 rfl rfl (by kernel_rfl) (by kernel_rfl) (by kernel_rfl) (fun _ _ _ h => h) rfl hHeld ?_
    refine held_skip 23 28 rfl rfl (by kernel_rfl) (by kernel_rfl) (by kernel_rfl) (fun _ _ _ h => h) rfl hHeld ?_
    simp only [Act.put, List.setIfInBounds_toArray, List.set_cons_zero, List.set_cons_succ]
    refine held_skip 24 29 rfl rfl (by kernel_rfl) (by kernel_rfl) (by kernel_rfl) (fun _ _ _ h => h) rfl hHeld ?_
    refine held_skip 25 30 rfl rfl (by kernel_rfl) (by kernel_rfl) (by kernel_rfl) (fun _ _ _ h => h) rfl hHeld ?_
    simp only [Act.put, List.setIfInBounds_toArray, List.set_cons_zero, List.set_cons_succ]
    refine held_skip 26 31 rfl rfl (by kernel_rfl) (by kernel_rfl) (by kernel_rfl) (fun _ _ _ h => h) rfl hHeld ?_
    refine held_take 27 32 (.bool false) rfl rfl (by kernel_rfl) (by kernel_rfl) (by kernel_rfl) (fun _ _ _ h => h) rfl hHeld (fun w _ => exec_pickF _ w) ?_
    simp only [Act.put, List.setIfInBounds_toArray, List.set_cons_zero, List.set_cons_succ]
    refine held_op 28 4 (.bool false) rfl rfl (by kernel_rfl) rfl rfl hHeld ?_
    simp only [Act.put, List.setIfInBounds_toArray, List.set_cons_zero, List.set_cons_succ]
    refine wpAnyH_done (by kernel_rfl) ?_ _
    have B9 := Lib.hid hHeld.out
    clear hHeld
    go_wp2
    go_ret
    exact ⟨by rw [HV.out] <;> rfl, B9.out⟩
  | true =>
    cases q2 with
    | false =>
      refine wp_region_held_drew (S := fun w' => Hid (Below W.heap.size W w')) (by kernel_rfl) (below_drawn (Below.refl _ _) 1) (fun hHeld => ?_)
      refine held_take 0 5 (.pointer (some ⟨g, 0, none⟩)) rfl rfl (by kernel_rfl) (by kernel_rfl) (by kernel_rfl) (fun _ _ _ h => h) rfl hHeld (fun w _ => rfl) ?_
      refine held_take 1 6 (.pointer (some ⟨g, 0, none⟩)) rfl rfl (by kernel_rfl) (by kernel_rfl) (by kernel_rfl) (fun _ _ _ h => h) rfl hHeld (fun w _ => exec_nilP _ w) ?_
      refine held_take 2 7 (.pointer (some ⟨g, 0, none⟩)) rfl rfl (by kernel_rfl) (by kernel_rfl) (by kernel_rfl) (fun _ _ _ h => h) rfl hHeld (fun w _ => exec_fldCb0 g w) ?_
      simp only [Act.put, List.setIfInBounds_toArray, List.set_cons_zero, List.set_cons_succ]
      refine held_take 3 8 (leA v.le) rfl rfl (by kernel_rfl) (by kernel_rfl) (by kernel_rfl) (fun _ _ _ h => h) rfl hHeld (fun w h => exec_load_cbL v g w (KA.out w h.out)) ?_
      refine held_take 4 9 (.pointer (some ⟨g2, 0, none⟩)) rfl rfl (by kernel_rfl) (by kernel_rfl) (by kernel_rfl) (fun _ _ _ h => h) rfl hHeld (fun w _ => rfl) ?_
      refine held_take 5 10 (.pointer (some ⟨g2, 0, none⟩)) rfl rfl (by kernel_rfl) (by kernel_rfl) (by kernel_rfl) (fun _ _ _ h => h) rfl hHeld (fun w _ => exec_nilP _ w) ?_
      simp only [Act.put, List.setIfInBounds_toArray, List.set_cons_zero, List.set_cons_succ]
      refine held_take 6 11 (.pointer (some ⟨g2, 0, none⟩)) rfl rfl (by kernel_rfl) (by kernel_rfl) (by kernel_rfl) (fun _ _ _ h => h) rfl hHeld (fun w _ => exec_fldCb0 g2 w) ?_
      refine held_take 7 12 (leA u.le) rfl rfl (by kernel_rfl) (by kernel_rfl) (by kernel_rfl) (fun _ _ _ h => h) rfl hHeld (fun w h => exec_load_cbL u g2 w (KB.out w h.out)) ?_
      refine held_take 8 13 (.bool true) rfl rfl (by kernel_rfl) (by kernel_rfl) (by kernel_rfl) (fun _ _ _ h => h) rfl hHeld (fun w _ => (exec_eqlLe v.le u.le w).trans (by rw [HD.out])) ?_
      simp only [Act.put, List.setIfInBounds_toArray, List.set_cons_zero, List.set_cons_succ]
      refine held_take 9 14 (.bool true) rfl rfl (by kernel_rfl) (by kernel_rfl) (by kernel_rfl) (fun _ _ _ h => h) rfl hHeld (fun w _ => rfl) ?_
      refine held_take 10 15 (.pointer (some ⟨g, 0, none⟩)) rfl rfl (by kernel_rfl) (by kernel_rfl) (by kernel_rfl) (fun _ _ _ h => h) rfl hHeld (fun w _ => rfl) ?_
      refine held_take 11 16 (.pointer (some ⟨g2, 0, none⟩)) rfl rfl (by kernel_rfl) (by kernel_rfl) (by kernel_rfl) (fun _ _ _ h => h) rfl hHeld (fun w _ => rfl) ?_
      simp only [Act.put, List.setIfInBounds_toArray, List.set_cons_zero, List.set_cons_succ]
      refine held_take 12 17 (.pointer (some ⟨g2, 0, none⟩)) rfl rfl (by kernel_rfl) (by kernel_rfl) (by kernel_rfl) (fun _ _ _ h => h) rfl hHeld (fun w _ => exec_nilP _ w) ?_
      refine held_take 13 18 (.pointer (some ⟨g2, 5, none⟩)) rfl rfl (by kernel_rfl) (by kernel_rfl) (by kernel_rfl) (fun _ _ _ h => h) rfl hHeld (fun w _ => exec_fldCb1 g2 w) ?_
      refine held_take 14 19 (.slice u.Q u.q.length u.qc) rfl rfl (by kernel_rfl) (by kernel_rfl) (by kernel_rfl) (fun _ _ _ h => h) rfl hHeld (fun w h => exec_load_cbQ u g2 w (KB.out w h.out)) ?_
      simp only [Act.put, List.setIfInBounds_toArray, List.set_cons_zero, List.set_cons_succ]
      refine held_call 15 20 101 #[.pointer (some ⟨g, 0, none⟩), .slice u.Q u.q.length u.qc] rfl rfl (by kernel_rfl) rfl (exec_call Try.func101 (by kernel_rfl) (by kernel_rfl) _) ?_
      refine (CR.out _ hHeld.out).mono ?_
      rintro e v1 ⟨rfl, x1⟩
      have b1 : Hid (Below W.heap.size W v1) := hHeld.out.trans (x1.mono hHeld.out.size)
      refine ⟨_, rfl, b1, ?_⟩
      simp only [Act.put, List.setIfInBounds_toArray, List.set_cons_zero, List.set_cons_succ]
      refine held_take 16 21 (.bool false) rfl rfl (by kernel_rfl) (by kernel_rfl) (by kernel_rfl) (fun _ _ _ h => h) rfl b1 (fun w _ => exec_pickT _ w) ?_
      refine held_take 17 22 (.bool false) rfl rfl (by kernel_rfl) (by kernel_rfl) (by kernel_rfl) (fun _ _ _ h => h) rfl b1 (fun w _ => rfl) ?_
      refine held_skip 18 23 rfl rfl (by kernel_rfl) (by kernel_rfl) (by kernel_rfl) (fun _ _ _ h => h) rfl b1 ?_
      simp only [Act.put, List.setIfInBounds_toArray, List.set_cons_zero, List.set_cons_succ]
      refine held_skip 19 24 rfl rfl (by kernel_rfl) (by kernel_rfl) (by kernel_rfl) (fun _ _ _ h => h) rfl b1 ?_
      refine held_skip 20 25 rfl rfl (by kernel_rfl) (by kernel_rfl) (by kernel_rfl) (fun _ _ _ h => h) rfl b1 ?_
      simp only [Act.put, List.setIfInBounds_toArray, List.set_cons_zero, List.set_cons_succ]
      refine held_skip 21 26 rfl rfl (by kernel_rfl) (by kernel_rfl) (by kernel_rfl) (fun _ _ _ h => h) rfl b1 ?_
      refine held_skip 22 27 rfl rfl (by kernel_rfl) (by kernel_rfl) (by kernel_rfl) (fun _ _ _ h => h) rfl b1 ?_
      simp only [Act.put, List.setIfInBounds_toArray, List.set_cons_zero, List.set_cons_succ]
      refine held_skip 23 28 rfl rfl (by kernel_rfl) (by kernel_rfl) (by kernel_rfl) (fun _ _ _ h => h) rfl b1 ?_
      refine held_skip 24 29 rfl rfl (by kernel_rfl) (by kernel_rfl) (by kernel_rfl) (fun _ _ _ h => h) rfl b1 ?_
      simp only [Act.put, List.setIfInBounds_toArray, List.set_cons_zero, List.set_cons_succ]
      refine held_skip 25 30 rfl rfl (by kernel_rfl) (by kernel_rfl) (by kernel_rfl) (fun _ _ _ h => h) rfl b1 ?_
      refine held_skip 26 31 rfl rfl (by kernel_rfl) (by kernel_rfl) (by kernel_rfl) (fun _ _ _ h => h) rfl b1 ?_
      simp only [Act.put, List.setIfInBounds_toArray, List.set_cons_zero, List.set_cons_succ]
      refine held_take 27 32 (.bool false) rfl rfl (by kernel_rfl) (by kernel_rfl) (by kernel_rfl) (fun _ _ _ h => h) rfl b1 (fun w _ => exec_pickF _ w) ?_
      simp only [Act.put, List.setIfInBounds_toArray, List.set_cons_zero, List.set_cons_succ]
      refine held_op 28 4 (.bool false) rfl rfl (by kernel_rfl) rfl rfl b1 ?_
      simp only [Act.put, List.setIfInBounds_toArray, List.set_cons_zero, List.set_cons_succ]
      refine wpAnyH_done (by kernel_rfl) ?_ _
      have B9 := Lib.hid b1.out
      clear b1 x1 hHeld
      go_wp2
      go_ret
      exact ⟨by rw [HV.out] <;> rfl, B9.out⟩
    | true =>
      refine wp_region_held_drew (S := fun w' => Hid (Below W.heap.size W w')) (by kernel_rfl) (below_drawn (Below.refl _ _) 1) (fun hHeld => ?_)
      refine held_take 0 5 (.pointer (some ⟨g, 0, none⟩)) rfl rfl (by kernel_rfl) (by kernel_rfl) (by kernel_rfl) (fun _ _ _ h => h) rfl hHeld (fun w _ => rfl) ?_
      refine held_take 1 6 (.pointer (some ⟨g, 0, none⟩)) rfl rfl (by kernel_rfl) (by kernel_rfl) (by kernel_rfl) (fun _ _ _ h => h) rfl hHeld (fun w _ => exec_nilP _ w) ?_
      refine held_take 2 7 (.pointer (some ⟨g, 0, none⟩)) rfl rfl (by kernel_rfl) (by kernel_rfl) (by kernel_rfl) (fun _ _ _ h => h) rfl hHeld (fun w _ => exec_fldCb0 g w) ?_
      simp only [Act.put, List.setIfInBounds_toArray, List.set_cons_zero, List.set_cons_succ]
      refine held_take 3 8 (leA v.le) rfl rfl (by kernel_rfl) (by kernel_rfl) (by kernel_rfl) (fun _ _ _ h => h) rfl hHeld (fun w h => exec_load_cbL v g w (KA.out w h.out)) ?_
      refine held_take 4 9 (.pointer (some ⟨g2, 0, none⟩)) rfl rfl (by kernel_rfl) (by kernel_rfl) (by kernel_rfl) (fun _ _ _ h => h) rfl hHeld (fun w _ => rfl) ?_
      refine held_take 5 10 (.pointer (some ⟨g2, 0, none⟩)) rfl rfl (by kernel_rfl) (by kernel_rfl) (by kernel_rfl) (fun _ _ _ h => h) rfl hHeld (fun w _ => exec_nilP _ w) ?_
      simp only [Act.put, List.setIfInBounds_toArray, List.set_cons_zero, List.set_cons_succ]
      refine held_take 6 11 (.pointer (some ⟨g2, 0, none⟩)) rfl rfl (by kernel_rfl) (by kernel_rfl) (by kernel_rfl) (fun _ _ _ h => h) rfl hHeld (fun w _ => exec_fldCb0 g2 w) ?_
      refine held_take 7 12 (leA u.le) rfl rfl (by kernel_rfl) (by kernel_rfl) (by kernel_rfl) (fun _ _ _ h => h) rfl hHeld (fun w h => exec_load_cbL u g2 w (KB.out w h.out)) ?_
      refine held_take 8 13 (.bool true) rfl rfl (by kernel_rfl) (by kernel_rfl) (by kernel_rfl) (fun _ _ _ h => h) rfl hHeld (fun w _ => (exec_eqlLe v.le u.le w).trans (by rw [HD.out])) ?_
      simp only [Act.put, List.setIfInBounds_toArray, List.set_cons_zero, List.set_cons_succ]
      refine held_take 9 14 (.bool true) rfl rfl (by kernel_rfl) (by kernel_rfl) (by kernel_rfl) (fun _ _ _ h => h) rfl hHeld (fun w _ => rfl) ?_
      refine held_take 10 15 (.pointer (some ⟨g, 0, none⟩)) rfl rfl (by kernel_rfl) (by kernel_rfl) (by kernel_rfl) (fun _ _ _ h => h) rfl hHeld (fun w _ => rfl) ?_
      refine held_take 11 16 (.pointer (some ⟨g2, 0, none⟩)) rfl rfl (by kernel_rfl) (by kernel_rfl) (by kernel_rfl) (fun _ _ _ h => h) rfl hHeld (fun w _ => rfl) ?_
      simp only [Act.put, List.setIfInBounds_toArray, List.set_cons_zero, List.set_cons_succ]
      refine held_take 12 17 (.pointer (some ⟨g2, 0, none⟩)) rfl rfl (by kernel_rfl) (by kernel_rfl) (by kernel_rfl) (fun _ _ _ h => h) rfl hHeld (fun w _ => exec_nilP _ w) ?_
      refine held_take 13 18 (.pointer (some ⟨g2, 5, none⟩)) rfl rfl (by kernel_rfl) (by kernel_rfl) (by kernel_rfl) (fun _ _ _ h => h) rfl hHeld (fun w _ => exec_fldCb1 g2 w) ?_
      refine held_take 14 19 (.slice u.Q u.q.length u.qc) rfl rfl (by kernel_rfl) (by kernel_rfl) (by kernel_rfl) (fun _ _ _ h => h) rfl hHeld (fun w h => exec_load_cbQ u g2 w (KB.out w h.out)) ?_
      simp only [Act.put, List.setIfInBounds_toArray, List.set_cons_zero, List.set_cons_succ]
      refine held_call 15 20 101 #[.pointer (some ⟨g, 0, none⟩), .slice u.Q u.q.length u.qc] rfl rfl (by kernel_rfl) rfl (exec_call Try.func101 (by kernel_rfl) (by kernel_rfl) _) ?_
      refine (CR.out _ hHeld.out).mono ?_
      rintro e v1 ⟨rfl, x1⟩
      have b1 : Hid (Below W.heap.size W v1) := hHeld.out.trans (x1.mono hHeld.out.size)
      refine ⟨_, rfl, b1, ?_⟩
      simp only [Act.put, List.setIfInBounds_toArray, List.set_cons_zero, List.set_cons_succ]
      refine held_take 16 21 (.bool true) rfl rfl (by kernel_rfl) (by kernel_rfl) (by kernel_rfl) (fun _ _ _ h => h) rfl b1 (fun w _ => exec_pickT _ w) ?_
      refine held_take 17 22 (.bool true) rfl rfl (by kernel_rfl) (by kernel_rfl) (by kernel_rfl) (fun _ _ _ h => h) rfl b1 (fun w _ => rfl) ?_
      refine held_take 18 23 (.pointer (some ⟨g, 0, none⟩)) rfl rfl (by kernel_rfl) (by kernel_rfl) (by kernel_rfl) (fun _ _ _ h => h) rfl b1 (fun w _ => rfl) ?_
      simp only [Act.put, List.setIfInBounds_toArray, List.set_cons_zero, List.set_cons_succ]
      refine held_take 19 24 (.pointer (some ⟨g, 0, none⟩)) rfl rfl (by kernel_rfl) (by kernel_rfl) (by kernel_rfl) (fun _ _ _ h => h) rfl b1 (fun w _ => exec_nilP _ w) ?_
      refine held_take 20 25 (.pointer (some ⟨g, 6, none⟩)) rfl rfl (by kernel_rfl) (by kernel_rfl) (by kernel_rfl) (fun _ _ _ h => h) rfl b1 (fun w _ => exec_fldCb2 g w) ?_
      refine held_take 21 26 (.agg #[.slice v.A v.sp.length v.c]) rfl rfl (by kernel_rfl) (by kernel_rfl) (by kernel_rfl) (fun _ _ _ h => h) rfl b1 (fun w h => exec_load_cbW v g w (KA.out w h.out)) ?_
      simp only [Act.put, List.setIfInBounds_toArray, List.set_cons_zero, List.set_cons_succ]
      refine held_take 22 27 (.pointer (some ⟨g2, 0, none⟩)) rfl rfl (by kernel_rfl) (by kernel_rfl) (by kernel_rfl) (fun _ _ _ h => h) rfl b1 (fun w _ => rfl) ?_
      refine held_take 23 28 (.pointer (some ⟨g2, 0, none⟩)) rfl rfl (by kernel_rfl) (by kernel_rfl) (by kernel_rfl) (fun _ _ _ h => h) rfl b1 (fun w _ => exec_nilP _ w) ?_
      refine held_take 24 29 (.pointer (some ⟨g2, 6, none⟩)) rfl rfl (by kernel_rfl) (by kernel_rfl) (by kernel_rfl) (fun _ _ _ h => h) rfl b1 (fun w _ => exec_fldCb2 g2 w) ?_
      simp only [Act.put, List.setIfInBounds_toArray, List.set_cons_zero, List.set_cons_succ]
      refine held_take 25 30 (.agg #[.slice u.A u.sp.length u.c]) rfl rfl (by kernel_rfl) (by kernel_rfl) (by kernel_rfl) (fun _ _ _ h => h) rfl b1 (fun w h => exec_load_cbW u g2 w (KB.out w h.out)) ?_
      simp only [Act.put, List.setIfInBounds_toArray, List.set_cons_zero, List.set_cons_succ]
      refine held_call 26 31 102 #[.agg #[.slice v.A v.sp.length v.c], .agg #[.slice u.A u.sp.length u.c]] rfl rfl (by kernel_rfl) rfl (exec_call Try.func102 (by kernel_rfl) (by kernel_rfl) _) ?_
      refine (CS.out _ b1.out).mono ?_
      rintro e v2 ⟨rfl, x2⟩
      have b2 : Hid (Below W.heap.size W v2) := b1.out.trans (x2.mono b1.out.size)
      refine ⟨_, rfl, b2, ?_⟩
      simp only [Act.put, List.setIfInBounds_toArray, List.set_cons_zero, List.set_cons_succ]
      refine held_take 27 32 (.bool q3) rfl rfl (by kernel_rfl) (by kernel_rfl) (by kernel_rfl) (fun _ _ _ h => h) rfl b2 (fun w _ => exec_pickT _ w) ?_
      simp only [Act.put, List.setIfInBounds_toArray, List.set_cons_zero, List.set_cons_succ]
      refine held_op 28 4 (.bool q3) rfl rfl (by kernel_rfl) rfl rfl b2 ?_
      simp only [Act.put, List.setIfInBounds_toArray, List.set_cons_zero, List.set_cons_succ]
      refine wpAnyH_done (by kernel_rfl) ?_ _
      have B9 := Lib.hid b2.out
      clear b2 x2 b1 x1 hHeld
      go_wp2
      go_ret
      exact ⟨by rw [HV.out] <;> rfl, B9.out⟩
set_option maxRecDepth 100000 in
set_option maxHeartbeats 1600000 in
theorem sameCabin_impl (v u : Cv) (w : World) (hs : v.small) (hs2 : u.small) (hv : v.fits) (hv2 : u.fits) (hr : v.reads w) (hr2 : u.reads w) :
    Calls Try.prog 39 #[cvA v, cvA u] w fun e w' => e = .returned (.bool (sameC v.le u.le v.q u.q v.ls u.ls)) ∧ Below w.heap.size w w' := by
  obtain ⟨W, hW⟩ : ∃ W, (w.alloc (.cells #[.int .i64 v.le.total, .int .i64 v.le.free, .int .i64 v.le.held, .int .i64 v.le.sold, .int .i64 v.le.tied, .slice v.Q v.q.length v.qc, .slice v.A v.sp.length v.c] 38)).alloc (.cells #[.int .i64 u.le.total, .int .i64 u.le.free, .int .i64 u.le.held, .int .i64 u.le.sold, .int .i64 u.le.tied, .slice u.Q u.q.length u.qc, .slice u.A u.sp.length u.c] 38) = W := ⟨_, rfl⟩
  have b0 : Below w.heap.size w W := by rw [← hW]; exact ((Below.refl _ _).alloc (Nat.le_refl _) _).alloc (by simp) _
  have g0 : W.heap[w.heap.size]? = some (.cells #[.int .i64 v.le.total, .int .i64 v.le.free, .int .i64 v.le.held, .int .i64 v.le.sold, .int .i64 v.le.tied, .slice v.Q v.q.length v.qc, .slice v.A v.sp.length v.c] 38) := by rw [← hW]; exact blk_alloc (heap_new _ _) _
  have g1 : W.heap[w.heap.size + 1]? = some (.cells #[.int .i64 u.le.total, .int .i64 u.le.free, .int .i64 u.le.held, .int .i64 u.le.sold, .int .i64 u.le.tied, .slice u.Q u.q.length u.qc, .slice u.A u.sp.length u.c] 38) := by
    rw [← hW]
    have := heap_new (w.alloc (.cells #[.int .i64 v.le.total, .int .i64 v.le.free, .int .i64 v.le.held, .int .i64 v.le.sold, .int .i64 v.le.tied, .slice v.Q v.q.length v.qc, .slice v.A v.sp.length v.c] 38)) (.cells #[.int .i64 u.le.total, .int .i64 u.le.free, .int .i64 u.le.held, .int .i64 u.le.sold, .int .i64 u.le.tied, .slice u.Q u.q.length u.qc, .slice u.A u.sp.length u.c] 38)
    simpa using this
  have C1 := Lib.hid (valid_im v w.heap.size W hs hv (hr.below b0) g0)
  have C2 := Lib.hid (fun w' (h : Below W.heap.size W w') => valid_im u (w.heap.size + 1) w' hs2 hv2 ((hr2.below b0).below h) (blk_call g1 h))
  have C3 := Lib.hid (fun w' (h : Below W.heap.size W w') => same_im v u w.heap.size (w.heap.size + 1) w' hs hs2 hv hv2 ((hr.below b0).below h) ((hr2.below b0).below h) (blk_call g0 h) (blk_call g1 h))
  obtain ⟨q1, e1⟩ : ∃ q, cabB v.le v.q v.ls = q := ⟨_, rfl⟩
  obtain ⟨q2, e2⟩ : ∃ q, cabB u.le u.q u.ls = q := ⟨_, rfl⟩
  obtain ⟨q3, e3⟩ : ∃ q, sameB v.le u.le v.q u.q v.ls u.ls = q := ⟨_, rfl⟩
  have HV : Hid (sameC v.le u.le v.q u.q v.ls u.ls = (q1 && q2 && q3)) := by show _ = _; unfold sameC; rw [e1, e2, e3]
  rw [e1] at C1
  rw [e2] at C2
  rw [e3] at C3
  clear e1 e2 e3
  have HB := Lib.hid b0
  have HW := Lib.hid hW
  clear b0 g0 g1 hW
  unfold cvA
  go_enter Try.func39, Try.ntmps39
  go_wp2_with fail
  rw [HW.out]
  refine C1.out.mono ?_
  rintro e w1 ⟨rfl, b1⟩
  have B1 := Lib.hid (HB.out.trans (b1.mono HB.out.size))
  cases q1 with
  | false =>
    clear C1 C2 C3 b1
    go_wp2
    go_ret
    exact ⟨by rw [HV.out] <;> rfl, B1.out⟩
  | true =>
  have C2' := Lib.hid (C2.out w1 b1)
  have K1 := Lib.hid b1
  clear C1 C2 b1 HW
  go_wp2_with fail
  refine C2'.out.mono ?_
  rintro e w2 ⟨rfl, b2⟩
  have b2' := K1.out.trans (b2.mono K1.out.size)
  have B2 := Lib.hid (HB.out.trans (b2'.mono HB.out.size))
  cases q2 with
  | false =>
    clear C2' C3 b2 b2'
    go_wp2
    go_ret
    exact ⟨by rw [HV.out] <;> rfl, B2.out⟩
  | true =>
  have C3' := Lib.hid (C3.out w2 b2')
  have K2 := Lib.hid b2'
  clear C2' C3 b2 b2'
  go_wp2_with fail
  refine C3'.out.mono ?_
  rintro e w3 ⟨rfl, b3⟩
  have b3' := K2.out.trans (b3.mono K2.out.size)
  have B3 := Lib.hid (HB.out.trans (b3'.mono HB.out.size))
  clear C3' b3 b3'
  go_wp2
  go_ret
  exact ⟨by rw [HV.out] <;> rfl, B3.out⟩
set_option maxRecDepth 100000 in
set_option maxHeartbeats 3200000 in
theorem sameCabin_spec (v u : Cv) (w : World) (hs : v.small) (hs2 : u.small) (hr : v.reads w) (hr2 : u.reads w) :
    Calls Try.prog 38 #[cvA v, cvA u] w fun e w' => e = .returned (.bool (sameC v.le u.le v.q u.q v.ls u.ls)) ∧ Below w.heap.size w w' := by
  obtain ⟨W, hW⟩ : ∃ W, (w.alloc (.cells #[.int .i64 v.le.total, .int .i64 v.le.free, .int .i64 v.le.held, .int .i64 v.le.sold, .int .i64 v.le.tied, .slice v.Q v.q.length v.qc, .slice v.A v.sp.length v.c] 38)).alloc (.cells #[.int .i64 u.le.total, .int .i64 u.le.free, .int .i64 u.le.held, .int .i64 u.le.sold, .int .i64 u.le.tied, .slice u.Q u.q.length u.qc, .slice u.A u.sp.length u.c] 38) = W := ⟨_, rfl⟩
  have b0 : Below w.heap.size w W := by rw [← hW]; exact ((Below.refl _ _).alloc (Nat.le_refl _) _).alloc (by simp) _
  have g0 : W.heap[w.heap.size]? = some (.cells #[.int .i64 v.le.total, .int .i64 v.le.free, .int .i64 v.le.held, .int .i64 v.le.sold, .int .i64 v.le.tied, .slice v.Q v.q.length v.qc, .slice v.A v.sp.length v.c] 38) := by rw [← hW]; exact blk_alloc (heap_new _ _) _
  have g1 : W.heap[w.heap.size + 1]? = some (.cells #[.int .i64 u.le.total, .int .i64 u.le.free, .int .i64 u.le.held, .int .i64 u.le.sold, .int .i64 u.le.tied, .slice u.Q u.q.length u.qc, .slice u.A u.sp.length u.c] 38) := by
    rw [← hW]
    have := heap_new (w.alloc (.cells #[.int .i64 v.le.total, .int .i64 v.le.free, .int .i64 v.le.held, .int .i64 v.le.sold, .int .i64 v.le.tied, .slice v.Q v.q.length v.qc, .slice v.A v.sp.length v.c] 38)) (.cells #[.int .i64 u.le.total, .int .i64 u.le.free, .int .i64 u.le.held, .int .i64 u.le.sold, .int .i64 u.le.tied, .slice u.Q u.q.length u.qc, .slice u.A u.sp.length u.c] 38)
    simpa using this
  have C1 := Lib.hid (cabinOk_spec v W hs (hr.below b0))
  have C2 := Lib.hid (fun w' (h : Below W.heap.size W w') => cabinOk_spec u w' hs2 ((hr2.below b0).below h))
  have C3 : Hid (∀ w', Below W.heap.size W w' → Calls Try.prog 72 #[.slice v.Q v.q.length v.qc, .slice u.Q u.q.length u.qc] w' fun e w'' => e = .returned (.bool (decide (v.q = u.q))) ∧ Below w'.heap.size w' w'') := fun w' h => sameRow_spec v.Q u.Q v.q u.q v.qc u.qc w' (by have := hs.q; omega) (by have := hs2.q; omega) ((hr.below b0).below h).row ((hr2.below b0).below h).row
  have C4 : Hid (∀ w', Below W.heap.size W w' → Calls Try.prog 73 #[.agg #[.slice v.A v.sp.length v.c], .agg #[.slice u.A u.sp.length u.c]] w' fun e w'' => e = .returned (.bool (sameW v.ls u.ls)) ∧ Below w'.heap.size w' w'') := fun w' h => by
    obtain ⟨a1, a2⟩ := SzW.of hs.s (sp := v.sp) rfl
    obtain ⟨a3, a4⟩ := SzW.of hs2.s (sp := u.sp) rfl
    exact sameWheel_spec v.A u.A v.sp u.sp v.c u.c w' (by omega) (by omega) (by omega) (by omega) ((hr.below b0).below h).whl ((hr2.below b0).below h).whl
  obtain ⟨q1, e1⟩ : ∃ q, cabB v.le v.q v.ls = q := ⟨_, rfl⟩
  obtain ⟨q2, e2⟩ : ∃ q, cabB u.le u.q u.ls = q := ⟨_, rfl⟩
  obtain ⟨q3, e3⟩ : ∃ q, decide (v.le = u.le) = q := ⟨_, rfl⟩
  obtain ⟨q4, e4⟩ : ∃ q, decide (v.q = u.q) = q := ⟨_, rfl⟩
  obtain ⟨q5, e5⟩ : ∃ q, sameW v.ls u.ls = q := ⟨_, rfl⟩
  have HV : Hid (sameC v.le u.le v.q u.q v.ls u.ls = (q1 && q2 && (q3 && q4 && q5))) := by show _ = _; unfold sameC sameB; rw [e1, e2, e3, e4, e5]
  rw [e1] at C1
  rw [e2] at C2
  rw [e4] at C3
  rw [e5] at C4
  have HD := Lib.hid e3
  clear e1 e2 e3 e4 e5
  have KA := Lib.hid (fun w' (h : Below W.heap.size W w') => blk_call g0 h)
  have KB := Lib.hid (fun w' (h : Below W.heap.size W w') => blk_call g1 h)
  have HB := Lib.hid b0
  have HW := Lib.hid hW
  clear b0 g0 g1 hW
  unfold cvA at *
  go_enter Try.func38, Try.ntmps38
  go_wp2_with fail
  rw [HW.out]
  refine C1.out.mono ?_
  rintro e w1 ⟨rfl, b1⟩
  have B1 := Lib.hid (HB.out.trans (b1.mono HB.out.size))
  cases q1 with
  | false =>
    clear C1 C2 C3 C4 b1
    go_wp2
    go_ret
    exact ⟨by rw [HV.out] <;> rfl, B1.out⟩
  | true =>
  have C2' := Lib.hid (C2.out w1 b1)
  have K1 := Lib.hid b1
  have c0 := cell_of_row _ _ 0 _ _ _ (KB.out w1 b1)
  have c1 := cell_of_row _ _ 1 _ _ _ (KB.out w1 b1)
  have c2 := cell_of_row _ _ 2 _ _ _ (KB.out w1 b1)
  have c3 := cell_of_row _ _ 3 _ _ _ (KB.out w1 b1)
  have c4 := cell_of_row _ _ 4 _ _ _ (KB.out w1 b1)
  have c5 := cell_of_row _ _ 5 _ _ _ (KB.out w1 b1)
  have c6 := cell_of_row _ _ 6 _ _ _ (KB.out w1 b1)
  simp at c0 c1 c2 c3 c4 c5 c6
  clear C1 C2 b1 HW
  go_wp2_with fail
  refine C2'.out.mono ?_
  rintro e w2 ⟨rfl, b2⟩
  clear c0 c1 c2 c3 c4 c5 c6
  have b2' := K1.out.trans (b2.mono K1.out.size)
  have B2 := Lib.hid (HB.out.trans (b2'.mono HB.out.size))
  cases q2 with
  | false =>
    clear C2' C3 C4 b2 b2'
    go_wp2
    go_ret
    exact ⟨by rw [HV.out] <;> rfl, B2.out⟩
  | true =>
  have C3' := Lib.hid (C3.out w2 b2')
  have K2 := Lib.hid b2'
  have c0 := cell_of_row _ _ 0 _ _ _ (KB.out w2 b2')
  have c1 := cell_of_row _ _ 1 _ _ _ (KB.out w2 b2')
  have c2 := cell_of_row _ _ 2 _ _ _ (KB.out w2 b2')
  have c3 := cell_of_row _ _ 3 _ _ _ (KB.out w2 b2')
  have c4 := cell_of_row _ _ 4 _ _ _ (KB.out w2 b2')
  have c5 := cell_of_row _ _ 5 _ _ _ (KB.out w2 b2')
  simp at c0 c1 c2 c3 c4 c5
  have d0 := cell_of_row _ _ 0 _ _ _ (KA.out w2 b2')
  have d1 := cell_of_row _ _ 1 _ _ _ (KA.out w2 b2')
  have d2 := cell_of_row _ _ 2 _ _ _ (KA.out w2 b2')
  have d3 := cell_of_row _ _ 3 _ _ _ (KA.out w2 b2')
  have d4 := cell_of_row _ _ 4 _ _ _ (KA.out w2 b2')
  have d5 := cell_of_row _ _ 5 _ _ _ (KA.out w2 b2')
  simp at d0 d1 d2 d3 d4 d5
  have HE : ∀ w, Sem.run Try.prog (Go.binOp .eql 32 (.agg #[.int .i64 v.le.total, .int .i64 v.le.free, .int .i64 v.le.held, .int .i64 v.le.sold, .int .i64 v.le.tied]) (.agg #[.int .i64 u.le.total, .int .i64 u.le.free, .int .i64 u.le.held, .int .i64 u.le.sold, .int .i64 u.le.tied])) w = .ok (.bool q3) w := by
    intro w
    have := run_eqlLe v.le u.le w
    unfold leA at this
    rw [HD.out] at this
    exact this
  clear C2' C3 b2 b2' HD
  cases q3 with
  | false =>
    go_wp2
    go_ret
    exact ⟨by rw [HV.out] <;> rfl, B2.out⟩
  | true =>
  go_wp2_with fail
  refine C3'.out.mono ?_
  rintro e w3 ⟨rfl, b3⟩
  clear c0 c1 c2 c3 c4 c5 d0 d1 d2 d3 d4 d5 HE
  have b3' := K2.out.trans (b3.mono K2.out.size)
  have B3 := Lib.hid (HB.out.trans (b3'.mono HB.out.size))
  cases q4 with
  | false =>
    clear C3' C4 b3 b3'
    go_wp2
    go_ret
    exact ⟨by rw [HV.out] <;> rfl, B3.out⟩
  | true =>
  have C4' := Lib.hid (C4.out w3 b3')
  have K3 := Lib.hid b3'
  have c6 := cell_of_row _ _ 6 _ _ _ (KB.out w3 b3')
  simp at c6
  have d6 := cell_of_row _ _ 6 _ _ _ (KA.out w3 b3')
  simp at d6
  clear C3' C4 b3 b3'
  go_wp2_with fail
  refine C4'.out.mono ?_
  rintro e w4 ⟨rfl, b4⟩
  have b4' := K3.out.trans (b4.mono K3.out.size)
  have B4 := Lib.hid (HB.out.trans (b4'.mono HB.out.size))
  clear C4' b4 b4' c6 d6
  go_wp2
  go_ret
  exact ⟨by rw [HV.out] <;> rfl, B4.out⟩
end Go.Proofs.Ytdjglbmcpfaofaa
