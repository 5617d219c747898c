/- CabinOk of the program. -/
import Derived.Test.YtdjglbmcpfaofaaRows
import Derived.Test.YtdjglbmcpfaofaaCbK
import Derived.Test.YtdjglbmcpfaofaaEnI
import Derived.Test.YtdjglbmcpfaofaaG12
import Derived.Test.YtdjglbmcpfaofaaLeP
namespace Go.Proofs.Ytdjglbmcpfaofaa
open Go.RowKit
set_option linter.unusedSimpArgs false
set_option linter.unusedVariables false
set_option maxRecDepth 100000 in
set_option maxHeartbeats 1600000 in
theorem valid_im (v : Cv) (g : Nat) (W : World) (hs : v.small) (hv : v.fits) (hr : v.reads W) (g0 : W.heap[g]? = some (.cells #[.int .i64 v.le.total, .int .i64 v.le.free, .int .i64 v.le.held, .int .i64 v.le.sold, .int .i64 v.le.tied, .slice v.Q v.q.length v.qc, .slice v.A v.sp.length v.c] 38)) : Calls Try.prog 68 #[.pointer (some ⟨g, 0, none⟩)] W fun e w' => e = .returned (.bool (cabB v.le v.q v.ls)) ∧ Below W.heap.size W w' := by
  have C1 := Lib.hid (ledgerOk_impl v.le W hv.le)
  have C2 : Hid (∀ w', Below W.heap.size W w' → Calls Try.prog 97 #[.slice v.Q v.q.length v.qc] w' fun e w'' => e = .returned (.bool (quB v.q)) ∧ Below w'.heap.size w' w'') := fun w' h => queueOk_impl v.Q v.q v.qc w' (by have := hs.q; omega) ((hr.below h).row) hv.qf
  have C3 : Hid (∀ w', Below W.heap.size W w' → Calls Try.prog 98 #[.agg #[.slice v.A v.sp.length v.c]] w' fun e w'' => e = .returned (.bool (wheelB v.ls)) ∧ Below w'.heap.size w' w'') := fun w' h => wheelOk_impl v.A v.sp v.c w' v.ls rfl hs.s hv.sf ((hr.below h).whl)
  obtain ⟨q1, e1⟩ : ∃ q, decide v.le.fine = q := ⟨_, rfl⟩
  obtain ⟨q2, e2⟩ : ∃ q, quB v.q = q := ⟨_, rfl⟩
  obtain ⟨q3, e3⟩ : ∃ q, wheelB v.ls = q := ⟨_, rfl⟩
  have HV : Hid (cabB v.le v.q v.ls = (q1 && q2 && q3)) := by show _ = _; unfold cabB; rw [e1, e2, e3]
  rw [e1] at C1
  rw [e2] at C2
  rw [e3] at C3
  clear e1 e2 e3
  have KA := Lib.hid (fun w' (h : Below W.heap.size W w') => blk_call g0 h)
  have HB : Hid (Below W.heap.size W W) := Below.refl _ _
  have a0 := cell_of_row _ _ 0 _ _ _ g0
  have a1 := cell_of_row _ _ 1 _ _ _ g0
  have a2 := cell_of_row _ _ 2 _ _ _ g0
  have a3 := cell_of_row _ _ 3 _ _ _ g0
  have a4 := cell_of_row _ _ 4 _ _ _ g0
  simp at a0 a1 a2 a3 a4
  clear g0
  unfold leA at C1
  go_enter Try.func68, Try.ntmps68
  go_wp2_with fail
  clear a0 a1 a2 a3 a4
  refine C1.out.mono ?_
  rintro e w1 ⟨rfl, b1⟩
  have B1 := Lib.hid (HB.out.trans (b1.mono HB.out.size))
  cases q1 with
  | false =>
    clear C1 C2 C3 KA b1
    go_wp2
    go_ret
    exact ⟨by rw [HV.out] <;> rfl, B1.out⟩
  | true =>
  have a5 := cell_of_row _ _ 5 _ _ _ (KA.out w1 b1)
  simp at a5
  have C2' := Lib.hid (C2.out w1 b1)
  have K1 := Lib.hid b1
  clear C1 C2 b1
  go_wp2_with fail
  refine C2'.out.mono ?_
  rintro e w2 ⟨rfl, b2⟩
  have b2' := K1.out.trans (b2.mono K1.out.size)
  have B2 := Lib.hid (HB.out.trans (b2'.mono HB.out.size))
  cases q2 with
  | false =>
    clear C2' C3 KA b2 b2' a5
    go_wp2
    go_ret
    exact ⟨by rw [HV.out] <;> rfl, B2.out⟩
  | true =>
  have a6 := cell_of_row _ _ 6 _ _ _ (KA.out w2 b2')
  simp at a6
  have C3' := Lib.hid (C3.out w2 b2')
  have K2 := Lib.hid b2'
  clear C2' C3 KA b2 b2' a5
  go_wp2_with fail
  refine C3'.out.mono ?_
  rintro e w3 ⟨rfl, b3⟩
  have b3' := K2.out.trans (b3.mono K2.out.size)
  have B3 := Lib.hid (HB.out.trans (b3'.mono HB.out.size))
  clear C3' b3 b3' a6
  go_wp2
  go_ret
  exact ⟨by rw [HV.out] <;> rfl, B3.out⟩
set_option maxRecDepth 100000 in
set_option maxHeartbeats 800000 in
theorem cabinOk_impl (v : Cv) (w : World) (hs : v.small) (hv : v.fits) (hr : v.reads w) : Calls Try.prog 29 #[cvA v] w fun e w' => e = .returned (.bool (cabB v.le v.q v.ls)) ∧ Below w.heap.size w w' := by
  obtain ⟨W, hW⟩ : ∃ W, w.alloc (.cells #[.int .i64 v.le.total, .int .i64 v.le.free, .int .i64 v.le.held, .int .i64 v.le.sold, .int .i64 v.le.tied, .slice v.Q v.q.length v.qc, .slice v.A v.sp.length v.c] 38) = W := ⟨_, rfl⟩
  have b0 : Below w.heap.size w W := by rw [← hW]; exact (Below.refl _ _).alloc (Nat.le_refl _) _
  have g0 : W.heap[w.heap.size]? = some (.cells #[.int .i64 v.le.total, .int .i64 v.le.free, .int .i64 v.le.held, .int .i64 v.le.sold, .int .i64 v.le.tied, .slice v.Q v.q.length v.qc, .slice v.A v.sp.length v.c] 38) := by rw [← hW]; exact heap_new _ _
  have C := Lib.hid (valid_im v w.heap.size W hs hv (hr.below b0) g0)
  generalize cabB v.le v.q v.ls = q at *
  have HB := Lib.hid b0
  have HW := Lib.hid hW
  clear b0 g0 hW
  unfold cvA
  go_enter Try.func29, Try.ntmps29
  go_wp2_with fail
  rw [HW.out]
  refine C.out.mono ?_
  rintro e w1 ⟨rfl, b1⟩
  have B1 := Lib.hid (HB.out.trans (b1.mono HB.out.size))
  clear b1 C HB HW
  go_wp2
  go_ret
  exact ⟨rfl, B1.out⟩
set_option maxRecDepth 100000 in
set_option maxHeartbeats 800000 in
theorem hasRow_im (v : Cv) (g : Nat) (B : Option Addr) (m : List En) (d : Nat) (W : World) (hq : v.q.length ≤ 2097152) (hm : m.length ≤ 2097152) (hr : Rws W W.heap.size v.Q (v.q.flatMap enC)) (hB : Rws W W.heap.size B (m.flatMap enC)) (g0 : W.heap[g]? = some (.cells #[.int .i64 v.le.total, .int .i64 v.le.free, .int .i64 v.le.held, .int .i64 v.le.sold, .int .i64 v.le.tied, .slice v.Q v.q.length v.qc, .slice v.A v.sp.length v.c] 38)) :
    Calls Try.prog 101 #[.pointer (some ⟨g, 0, none⟩), .slice B m.length d] W fun e w' => e = .returned (.bool (decide (v.q = m))) ∧ Below W.heap.size W w' := by
  have C := Lib.hid (equalE_im v.Q B v.q m v.qc d W hq hm hr hB)
  generalize decide (v.q = m) = q at *
  have a5 := cell_of_row _ _ 5 _ _ _ g0
  simp at a5
  clear g0
  go_enter Try.func101, Try.ntmps101
  go_wp2_with fail
  refine C.out.mono ?_
  rintro e w1 ⟨rfl, b1⟩
  have B1 := Lib.hid b1
  clear b1 C a5
  go_wp2
  go_ret
  exact ⟨rfl, B1.out⟩
end Go.Proofs.Ytdjglbmcpfaofaa
