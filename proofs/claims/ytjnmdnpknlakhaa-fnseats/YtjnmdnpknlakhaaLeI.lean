/- Chapter 8 of the program. -/
import Derived.Test.YtjnmdnpknlakhaaRows
import Derived.Test.YtjnmdnpknlakhaaLeP
import Derived.Deep.DeepCutAuto
namespace Go.Proofs.Ytjnmdnpknlakhaa
open Go.RowKit
set_option linter.unusedSimpArgs false
set_option linter.unusedVariables false
theorem putLe_blk {w : World} {g : Nat} {q : Le} {a0 a1 a2 a3 a4 : Value} {t : TypeId} (h : w.heap[g]? = some (.cells #[a0, a1, a2, a3, a4] t (0, 0))) : (putLe w g q).heap[g]? = some (.cells #[.int .i64 q.total, .int .i64 q.free, .int .i64 q.held, .int .i64 q.sold, .int .i64 q.tied] t (0, 0)) := by
  unfold putLe
  exact Go.heap_setCell_same _ _ _ _ _ _ (Go.heap_setCell_same _ _ _ _ _ _ (Go.heap_setCell_same _ _ _ _ _ _ (Go.heap_setCell_same _ _ _ _ _ _ (Go.heap_setCell_same _ _ _ _ _ _ h))))
set_option maxRecDepth 100000 in
theorem exec_alloc_leI {ρ : Operand → Value} {o : Oper} (w : World) (ho : o.op = .alloc 25 := by rfl) :
    (execOp ρ o).run Try.prog w = .ok (.value (.pointer (some ⟨w.heap.size, 0, none⟩))) (w.alloc (.cells #[.int .i64 0, .int .i64 0, .int .i64 0, .int .i64 0, .int .i64 0] 25)) := by
  unfold execOp
  rw [ho]
  simp [go_sem]
set_option maxRecDepth 100000 in
theorem exec_store_leI {ρ : Operand → Value} {o : Oper} {x y : Operand} (g : Nat) (q : Le) (w : World) (h : w.heap[g]? = some (.cells #[.int .i64 0, .int .i64 0, .int .i64 0, .int .i64 0, .int .i64 0] 25 (0, 0))) (ho : o.op = .store 25 x y := by rfl) (hx : ρ x = .pointer (some ⟨g, 0, none⟩) := by rfl) (hy : ρ y = leA q := by rfl) :
    (execOp ρ o).run Try.prog w = .ok .skip (putLe w g q) := by
  have c0 := cell_of_row _ _ 0 _ _ _ h
  have z0 := frozen_of_row _ _ 0 _ _ h
  have c1 := cell_of_row _ _ 1 _ _ _ h
  have z1 := frozen_of_row _ _ 1 _ _ h
  have c2 := cell_of_row _ _ 2 _ _ _ h
  have z2 := frozen_of_row _ _ 2 _ _ h
  have c3 := cell_of_row _ _ 3 _ _ _ h
  have z3 := frozen_of_row _ _ 3 _ _ h
  have c4 := cell_of_row _ _ 4 _ _ _ h
  have z4 := frozen_of_row _ _ 4 _ _ h
  simp at c0 c1 c2 c3 c4
  unfold execOp
  rw [ho]
  simp [go_sem, hx, hy, leA, c0, c1, c2, c3, c4, z0, z1, z2, z3, z4, putLe]
set_option maxRecDepth 100000 in
theorem exec_load_leI {ρ : Operand → Value} {o : Oper} {x : Operand} (g : Nat) (l : Le) (w : World) (h : w.heap[g]? = some (.cells #[.int .i64 l.total, .int .i64 l.free, .int .i64 l.held, .int .i64 l.sold, .int .i64 l.tied] 25 (0, 0))) (ho : o.op = .load 25 x := by rfl) (hx : ρ x = .pointer (some ⟨g, 0, none⟩) := by rfl) :
    (execOp ρ o).run Try.prog w = .ok (.value (leA l)) w := by
  have c0 := cell_of_row _ _ 0 _ _ _ h
  have c1 := cell_of_row _ _ 1 _ _ _ h
  have c2 := cell_of_row _ _ 2 _ _ _ h
  have c3 := cell_of_row _ _ 3 _ _ _ h
  have c4 := cell_of_row _ _ 4 _ _ _ h
  simp at c0 c1 c2 c3 c4
  unfold execOp
  rw [ho]
  simp [go_sem, hx, c0, c1, c2, c3, c4, leA]
/-- What moved returns. -/
def movedV (l q : Le) (n : Int) : Le × Bool := if l.fine ∧ 0 ≤ n ∧ q.fine then (q, true) else (l, false)
/-- The blocks of moved lie there. -/
def KM (w : World) (l : Le) (s0 s1 s2 s3 : Int) (u : World) : Prop := Below w.heap.size w u ∧ u.heap[w.heap.size]? = some (.cells #[.int .i64 l.total, .int .i64 l.free, .int .i64 l.held, .int .i64 l.sold, .int .i64 l.tied] 25 (0, 0)) ∧ u.heap[w.heap.size + 1]? = some (.cells #[.int .i64 s0, .int .i64 s1, .int .i64 s2, .int .i64 s3] 40 (0, 0)) ∧ u.heap[w.heap.size + 2]? = some (.cells #[.int .i64 0, .int .i64 0, .int .i64 0, .int .i64 0, .int .i64 0] 25 (0, 0))
theorem KM.call {w u u' : World} {l : Le} {s0 s1 s2 s3 : Int} (h : KM w l s0 s1 s2 s3 u) (b : Below u.heap.size u u') : KM w l s0 s1 s2 s3 u' := ⟨h.1.trans (b.mono h.1.size), blk_call h.2.1 b, blk_call h.2.2.1 b, blk_call h.2.2.2 b⟩
theorem KM.start (w : World) (l : Le) (s0 s1 s2 s3 : Int) : KM w l s0 s1 s2 s3 (((w.alloc (.cells #[.int .i64 l.total, .int .i64 l.free, .int .i64 l.held, .int .i64 l.sold, .int .i64 l.tied] 25)).alloc (.cells #[.int .i64 s0, .int .i64 s1, .int .i64 s2, .int .i64 s3] 40)).alloc (.cells #[.int .i64 0, .int .i64 0, .int .i64 0, .int .i64 0, .int .i64 0] 25)) := by
  refine ⟨(((Below.refl _ _).alloc (Nat.le_refl _) _).alloc (by simp) _).alloc (by simp; omega) _, blk_alloc (blk_alloc (heap_new _ _) _) _, blk_alloc ?_ _, ?_⟩
  · have := heap_new (w.alloc (.cells #[.int .i64 l.total, .int .i64 l.free, .int .i64 l.held, .int .i64 l.sold, .int .i64 l.tied] 25)) (.cells #[.int .i64 s0, .int .i64 s1, .int .i64 s2, .int .i64 s3] 40 (0, 0)); simpa using this
  · have := heap_new ((w.alloc (.cells #[.int .i64 l.total, .int .i64 l.free, .int .i64 l.held, .int .i64 l.sold, .int .i64 l.tied] 25)).alloc (.cells #[.int .i64 s0, .int .i64 s1, .int .i64 s2, .int .i64 s3] 40)) (.cells #[.int .i64 0, .int .i64 0, .int .i64 0, .int .i64 0, .int .i64 0] 25 (0, 0)); simpa using this
/-- The moved ledger lies in a block made since. -/
def PutQ (u : World) (q : Le) (g : Nat) (w : World) : Prop := Below u.heap.size u w ∧ u.heap.size ≤ g ∧ w.heap[g]? = some (.cells #[.int .i64 q.total, .int .i64 q.free, .int .i64 q.held, .int .i64 q.sold, .int .i64 q.tied] 25 (0, 0))
set_option maxRecDepth 100000 in
set_option maxHeartbeats 6400000 in
theorem moved_any (l : Le) (n s0 s1 s2 s3 p0 p1 p2 p3 q0 q1 q2 q3 : Int) (w : World) (hf : l.fits) (hp0 : n * s0 = p0) (hp1 : n * s1 = p1) (hp2 : n * s2 = p2) (hp3 : n * s3 = p3) (hi : 0 ≤ n → inI p0 ∧ inI p1 ∧ inI p2 ∧ inI p3) (hq0 : IntKind.i64.wrap (l.free + p0) = q0) (hq1 : IntKind.i64.wrap (l.held + p1) = q1) (hq2 : IntKind.i64.wrap (l.sold + p2) = q2) (hq3 : IntKind.i64.wrap (l.tied + p3) = q3) :
    Calls Try.prog 35 #[leA l, .int .i64 n, cnA s0 s1 s2 s3] w fun e w' => e = .returned (.tuple #[leA (movedV l ⟨l.total, q0, q1, q2, q3⟩ n).1, .bool (movedV l ⟨l.total, q0, q1, q2, q3⟩ n).2]) ∧ Below w.heap.size w w' := by
  have CO := Lib.hid (fun w => ledgerOk_impl l w hf)
  have CC := Lib.hid (fun w => countsOf_any l w)
  have CG := Lib.hid (fun w => ledger_any l.total q0 q1 q2 q3 w)
  have CP := Lib.hid (fun (h : 0 ≤ n) w => plus_any l.free l.held l.sold l.tied n s0 s1 s2 s3 p0 p1 p2 p3 q0 q1 q2 q3 w hp0 hp1 hp2 hp3 (hi h).1 (hi h).2.1 (hi h).2.2.1 (hi h).2.2.2 hq0 hq1 hq2 hq3)
  have fq : Le.fits ⟨l.total, q0, q1, q2, q3⟩ := by
    rw [IntKind.wrap_i64] at hq0 hq1 hq2 hq3
    exact ⟨hf.1, by constructor <;> simp <;> omega, by constructor <;> simp <;> omega, by constructor <;> simp <;> omega, by constructor <;> simp <;> omega⟩
  have CQ := Lib.hid (fun w => ledgerOk_impl ⟨l.total, q0, q1, q2, q3⟩ w fq)
  clear hp0 hp1 hp2 hp3 hi hq0 hq1 hq2 hq3 fq hf
  obtain ⟨Ok, hOk⟩ : ∃ Ok, decide l.fine = Ok := ⟨_, rfl⟩
  rw [hOk] at CO
  obtain ⟨Qk, hQk⟩ : ∃ Qk, decide (Le.fine ⟨l.total, q0, q1, q2, q3⟩) = Qk := ⟨_, rfl⟩
  rw [hQk] at CQ
  have HO := Lib.hid hOk
  have HQ := Lib.hid hQk
  clear hOk hQk
  have K0 := KM.start w l s0 s1 s2 s3
  obtain ⟨U0, hU0⟩ : ∃ U0, ((w.alloc (.cells #[.int .i64 l.total, .int .i64 l.free, .int .i64 l.held, .int .i64 l.sold, .int .i64 l.tied] 25)).alloc (.cells #[.int .i64 s0, .int .i64 s1, .int .i64 s2, .int .i64 s3] 40)).alloc (.cells #[.int .i64 0, .int .i64 0, .int .i64 0, .int .i64 0, .int .i64 0] 25) = U0 := ⟨_, rfl⟩
  have HU := Lib.hid hU0
  rw [hU0] at K0
  have HK := Lib.hid K0
  clear hU0 K0
  have CO0 := Lib.hid (CO.out U0)
  obtain ⟨R, hR⟩ : ∃ R : Value, .tuple #[leA (movedV l ⟨l.total, q0, q1, q2, q3⟩ n).1, .bool (movedV l ⟨l.total, q0, q1, q2, q3⟩ n).2] = R := ⟨_, rfl⟩
  rw [hR]
  have HR := Lib.hid hR
  clear hR
  have E1 : Hid (leA l = .agg #[.int .i64 l.total, .int .i64 l.free, .int .i64 l.held, .int .i64 l.sold, .int .i64 l.tied]) := rfl
  have E2 : Hid (cnA s0 s1 s2 s3 = .agg #[.int .i64 s0, .int .i64 s1, .int .i64 s2, .int .i64 s3]) := rfl
  rw [E1.out] at CO0
  rw [E1.out, E2.out]
  cases Ok with
  | false =>
    have HV : Hid (R = .tuple #[leA l, .bool false]) := by
      show _ = _
      rw [← HR.out]; unfold movedV; rw [if_neg (fun h => of_decide_eq_false HO.out h.1)]
    clear HR HQ CQ CG CP CC CO
    go_enter Try.func35, Try.ntmps35
    go_wp2_with fail
    rw [HU.out]
    refine CO0.out.mono ?_
    rintro e w1 ⟨rfl, b1⟩
    have K := HK.out.call b1
    clear b1 HU HK CO0
    have c0 := cell_of_row _ _ 0 _ _ _ K.2.1
    have e0 := cell_of_row _ _ 0 _ _ _ K.2.2.2
    have f0 := frozen_of_row _ _ 0 _ _ K.2.2.2
    have c1 := cell_of_row _ _ 1 _ _ _ K.2.1
    have e1 := cell_of_row _ _ 1 _ _ _ K.2.2.2
    have f1 := frozen_of_row _ _ 1 _ _ K.2.2.2
    have c2 := cell_of_row _ _ 2 _ _ _ K.2.1
    have e2 := cell_of_row _ _ 2 _ _ _ K.2.2.2
    have f2 := frozen_of_row _ _ 2 _ _ K.2.2.2
    have c3 := cell_of_row _ _ 3 _ _ _ K.2.1
    have e3 := cell_of_row _ _ 3 _ _ _ K.2.2.2
    have f3 := frozen_of_row _ _ 3 _ _ K.2.2.2
    have c4 := cell_of_row _ _ 4 _ _ _ K.2.1
    have e4 := cell_of_row _ _ 4 _ _ _ K.2.2.2
    have f4 := frozen_of_row _ _ 4 _ _ K.2.2.2
    simp at c0 c1 c2 c3 c4 e0 e1 e2 e3 e4
    have HN : Hid (Below w.heap.size w (putLe w1 (w.heap.size + 2) l)) := putLe_below K.1 (by omega)
    unfold putLe at HN
    clear K
    go_wp2
    simp [bodyPost, results, Try.results35, go_sem, e0, e1, e2, e3, e4]
    exact ⟨by rw [HV.out] <;> rfl, HN.out⟩
  | true =>
  by_cases hn : 0 ≤ n
  rotate_left
  · have HV : Hid (R = .tuple #[leA l, .bool false]) := by
      show _ = _
      rw [← HR.out]; unfold movedV; rw [if_neg (fun h => hn h.2.1)]
    clear HR HQ CQ CG CP CC CO
    go_enter Try.func35, Try.ntmps35
    go_wp2_with fail
    rw [HU.out]
    refine CO0.out.mono ?_
    rintro e w1 ⟨rfl, b1⟩
    have K := HK.out.call b1
    clear b1 HU HK CO0
    have c0 := cell_of_row _ _ 0 _ _ _ K.2.1
    have e0 := cell_of_row _ _ 0 _ _ _ K.2.2.2
    have f0 := frozen_of_row _ _ 0 _ _ K.2.2.2
    have c1 := cell_of_row _ _ 1 _ _ _ K.2.1
    have e1 := cell_of_row _ _ 1 _ _ _ K.2.2.2
    have f1 := frozen_of_row _ _ 1 _ _ K.2.2.2
    have c2 := cell_of_row _ _ 2 _ _ _ K.2.1
    have e2 := cell_of_row _ _ 2 _ _ _ K.2.2.2
    have f2 := frozen_of_row _ _ 2 _ _ K.2.2.2
    have c3 := cell_of_row _ _ 3 _ _ _ K.2.1
    have e3 := cell_of_row _ _ 3 _ _ _ K.2.2.2
    have f3 := frozen_of_row _ _ 3 _ _ K.2.2.2
    have c4 := cell_of_row _ _ 4 _ _ _ K.2.1
    have e4 := cell_of_row _ _ 4 _ _ _ K.2.2.2
    have f4 := frozen_of_row _ _ 4 _ _ K.2.2.2
    simp at c0 c1 c2 c3 c4 e0 e1 e2 e3 e4
    have HN : Hid (Below w.heap.size w (putLe w1 (w.heap.size + 2) l)) := putLe_below K.1 (by omega)
    unfold putLe at HN
    clear K
    go_wp2
    simp [bodyPost, results, Try.results35, go_sem, e0, e1, e2, e3, e4]
    exact ⟨by rw [HV.out] <;> rfl, HN.out⟩
  have CP := Lib.hid (CP.out hn)
  have HE := Lib.hid hn
  go_enter Try.func35, Try.ntmps35
  go_wp2_with fail
  rw [HU.out]
  refine CO0.out.mono ?_
  rintro e U ⟨rfl, b1⟩
  have K := HK.out.call b1
  clear b1 HU HK CO0
  have KU : Hid (∀ u, Below U.heap.size U u → KM w l s0 s1 s2 s3 u) := fun u h => K.call h
  clear K
  go_wp2_with fail
  go_cut [8] (fun s8 wx => ∃ g, s8 = .pointer (some ⟨g, 0, none⟩) ∧ PutQ U ⟨l.total, q0, q1, q2, q3⟩ g wx)
  case first =>
      refine wp_region_held_drew (S := fun w' => Hid (Below U.heap.size U w')) (by kernel_rfl) (below_drawn (Below.refl _ _) 1) (fun hHeld => ?_)
      have b0 := hHeld.out
      refine held_take 0 17 (leA l) rfl rfl (by kernel_rfl) (by kernel_rfl) (by kernel_rfl) (fun _ _ _ h => h) rfl b0 (fun u h => exec_load_leI _ l u (KU.out u h.out).2.1) ?_
      refine held_take 2 19 (.int .i64 n) rfl rfl (by kernel_rfl) (by kernel_rfl) (by kernel_rfl) (fun _ _ _ h => h) rfl b0 (fun w _ => rfl) ?_
      refine held_take 3 20 (cnA s0 s1 s2 s3) rfl rfl (by kernel_rfl) (by kernel_rfl) (by kernel_rfl) (fun _ _ _ h => h) rfl b0 (fun u h => exec_loadCn _ _ _ _ _ u (KU.out u h.out).2.2.1) ?_
      simp only [Act.put, List.setIfInBounds_toArray, List.set_cons_zero, List.set_cons_succ]
      refine held_take 5 22 (.pointer (some ⟨w.heap.size, 0, none⟩)) rfl rfl (by kernel_rfl) (by kernel_rfl) (by kernel_rfl) (fun _ _ _ h => h) rfl b0 (fun u _ => exec_fldLe _ 0 0 u (by omega)) ?_
      refine held_take 6 23 (.int .i64 l.total) rfl rfl (by kernel_rfl) (by kernel_rfl) (by kernel_rfl) (fun _ _ _ h => h) rfl b0 (fun u h => exec_load1 3 _ _ _ u (by simp) (cell_of_row _ _ 0 _ _ _ (KU.out u h.out).2.1)) ?_
      simp only [Act.put, List.setIfInBounds_toArray, List.set_cons_zero, List.set_cons_succ]
      refine wpAnyH_ready (rs := [1, 8]) (by kernel_rfl) (by simp) (ready_call 1 18 37 #[leA l] rfl rfl rfl (exec_call Try.func37 (by kernel_rfl) (by kernel_rfl) _) ?_ (ready_op 8 8 (.pointer (some ⟨U.drew.heap.size, 0, none⟩)) rfl rfl rfl (exec_alloc_leI _) (b0.alloc b0.size _) ?_ AllReadyH.nil))
      · skip
        refine (CC.out _).mono ?_
        rintro e u1 ⟨rfl, x1⟩
        have b1 := b0.trans (x1.mono b0.size)
        refine ⟨_, rfl, b1, ?_⟩
        simp only [Act.put, List.setIfInBounds_toArray, List.set_cons_zero, List.set_cons_succ]
        refine wpAnyH_ready (rs := [4, 8]) (by kernel_rfl) (by simp) (ready_call 4 21 42 #[cnA l.free l.held l.sold l.tied, .int .i64 n, cnA s0 s1 s2 s3] rfl rfl rfl (exec_call Try.func42 (by kernel_rfl) (by kernel_rfl) _) ?_ (ready_op 8 8 (.pointer (some ⟨u1.heap.size, 0, none⟩)) rfl rfl rfl (exec_alloc_leI _) (b1.alloc b1.size _) ?_ AllReadyH.nil))
        · skip
          refine (CP.out _).mono ?_
          rintro e u2 ⟨rfl, x2⟩
          have b2 := b1.trans (x2.mono b1.size)
          refine ⟨_, rfl, b2, ?_⟩
          simp only [Act.put, List.setIfInBounds_toArray, List.set_cons_zero, List.set_cons_succ]
          refine wpAnyH_ready (rs := [7, 8]) (by kernel_rfl) (by simp) (ready_call 7 24 34 #[cnA q0 q1 q2 q3, .int .i64 l.total] rfl rfl rfl (exec_call Try.func34 (by kernel_rfl) (by kernel_rfl) _) ?_ (ready_op 8 8 (.pointer (some ⟨u2.heap.size, 0, none⟩)) rfl rfl rfl (exec_alloc_leI _) (b2.alloc b2.size _) ?_ AllReadyH.nil))
          · skip
            refine (CG.out _).mono ?_
            rintro e u3 ⟨rfl, x3⟩
            have b3 := b2.trans (x3.mono b2.size)
            refine ⟨_, rfl, b3, ?_⟩
            simp only [Act.put, List.setIfInBounds_toArray, List.set_cons_zero, List.set_cons_succ]
            refine held_op 8 8 (.pointer (some ⟨u3.heap.size, 0, none⟩)) rfl rfl (by kernel_rfl) rfl (exec_alloc_leI _) (b3.alloc b3.size _) ?_
            simp only [Act.put, List.setIfInBounds_toArray, List.set_cons_zero, List.set_cons_succ]
            have b4 := b3.alloc b3.size (.cells #[.int .i64 0, .int .i64 0, .int .i64 0, .int .i64 0, .int .i64 0] 25)
            have l4 := b3.size
            have g4 := heap_new u3 (.cells #[.int .i64 0, .int .i64 0, .int .i64 0, .int .i64 0, .int .i64 0] 25)
            refine held_store 9 rfl rfl (by kernel_rfl) rfl (exec_store_leI _ ⟨l.total, q0, q1, q2, q3⟩ _ g4) (putLe_below (q := ⟨l.total, q0, q1, q2, q3⟩) b4 l4) ?_
            have b5 := putLe_below (q := ⟨l.total, q0, q1, q2, q3⟩) b4 l4
            have g5_0 := putLe_blk (q := ⟨l.total, q0, q1, q2, q3⟩) g4
            refine wpAnyH_done (by kernel_rfl) ?_ _
            have P : PutQ U ⟨l.total, q0, q1, q2, q3⟩ _ _ := ⟨b5, l4, g5_0⟩
            clear hHeld CC CP CG KU HE
            go_wp2_with fail
            go_meet
            exact ⟨_, rfl, P⟩
          · skip
            simp only [Act.put, List.setIfInBounds_toArray, List.set_cons_zero, List.set_cons_succ]
            have b6 := b2.alloc b2.size (.cells #[.int .i64 0, .int .i64 0, .int .i64 0, .int .i64 0, .int .i64 0] 25)
            have l6 := b2.size
            have g6 := heap_new u2 (.cells #[.int .i64 0, .int .i64 0, .int .i64 0, .int .i64 0, .int .i64 0] 25)
            refine held_call 7 24 34 #[cnA q0 q1 q2 q3, .int .i64 l.total] rfl rfl (by kernel_rfl) rfl (exec_call Try.func34 (by kernel_rfl) (by kernel_rfl) _) ?_
            refine (CG.out _).mono ?_
            rintro e u7 ⟨rfl, x7⟩
            have b7 := b6.trans (x7.mono b6.size)
            have g7_0 := blk_call g6 x7
            refine ⟨_, rfl, b7, ?_⟩
            simp only [Act.put, List.setIfInBounds_toArray, List.set_cons_zero, List.set_cons_succ]
            refine held_store 9 rfl rfl (by kernel_rfl) rfl (exec_store_leI _ ⟨l.total, q0, q1, q2, q3⟩ _ g7_0) (putLe_below (q := ⟨l.total, q0, q1, q2, q3⟩) b7 l6) ?_
            have b8 := putLe_below (q := ⟨l.total, q0, q1, q2, q3⟩) b7 l6
            have g8_0 := putLe_blk (q := ⟨l.total, q0, q1, q2, q3⟩) g7_0
            refine wpAnyH_done (by kernel_rfl) ?_ _
            have P : PutQ U ⟨l.total, q0, q1, q2, q3⟩ _ _ := ⟨b8, l6, g8_0⟩
            clear hHeld CC CP CG KU HE
            go_wp2_with fail
            go_meet
            exact ⟨_, rfl, P⟩
        · skip
          simp only [Act.put, List.setIfInBounds_toArray, List.set_cons_zero, List.set_cons_succ]
          have b9 := b1.alloc b1.size (.cells #[.int .i64 0, .int .i64 0, .int .i64 0, .int .i64 0, .int .i64 0] 25)
          have l9 := b1.size
          have g9 := heap_new u1 (.cells #[.int .i64 0, .int .i64 0, .int .i64 0, .int .i64 0, .int .i64 0] 25)
          refine held_call 4 21 42 #[cnA l.free l.held l.sold l.tied, .int .i64 n, cnA s0 s1 s2 s3] rfl rfl (by kernel_rfl) rfl (exec_call Try.func42 (by kernel_rfl) (by kernel_rfl) _) ?_
          refine (CP.out _).mono ?_
          rintro e u10 ⟨rfl, x10⟩
          have b10 := b9.trans (x10.mono b9.size)
          have g10_0 := blk_call g9 x10
          refine ⟨_, rfl, b10, ?_⟩
          simp only [Act.put, List.setIfInBounds_toArray, List.set_cons_zero, List.set_cons_succ]
          refine held_call 7 24 34 #[cnA q0 q1 q2 q3, .int .i64 l.total] rfl rfl (by kernel_rfl) rfl (exec_call Try.func34 (by kernel_rfl) (by kernel_rfl) _) ?_
          refine (CG.out _).mono ?_
          rintro e u11 ⟨rfl, x11⟩
          have b11 := b10.trans (x11.mono b10.size)
          have g11_0 := blk_call g10_0 x11
          refine ⟨_, rfl, b11, ?_⟩
          simp only [Act.put, List.setIfInBounds_toArray, List.set_cons_zero, List.set_cons_succ]
          refine held_store 9 rfl rfl (by kernel_rfl) rfl (exec_store_leI _ ⟨l.total, q0, q1, q2, q3⟩ _ g11_0) (putLe_below (q := ⟨l.total, q0, q1, q2, q3⟩) b11 l9) ?_
          have b12 := putLe_below (q := ⟨l.total, q0, q1, q2, q3⟩) b11 l9
          have g12_0 := putLe_blk (q := ⟨l.total, q0, q1, q2, q3⟩) g11_0
          refine wpAnyH_done (by kernel_rfl) ?_ _
          have P : PutQ U ⟨l.total, q0, q1, q2, q3⟩ _ _ := ⟨b12, l9, g12_0⟩
          clear hHeld CC CP CG KU HE
          go_wp2_with fail
          go_meet
          exact ⟨_, rfl, P⟩
      · skip
        simp only [Act.put, List.setIfInBounds_toArray, List.set_cons_zero, List.set_cons_succ]
        have b13 := b0.alloc b0.size (.cells #[.int .i64 0, .int .i64 0, .int .i64 0, .int .i64 0, .int .i64 0] 25)
        have l13 := b0.size
        have g13 := heap_new U.drew (.cells #[.int .i64 0, .int .i64 0, .int .i64 0, .int .i64 0, .int .i64 0] 25)
        refine held_call 1 18 37 #[leA l] rfl rfl (by kernel_rfl) rfl (exec_call Try.func37 (by kernel_rfl) (by kernel_rfl) _) ?_
        refine (CC.out _).mono ?_
        rintro e u14 ⟨rfl, x14⟩
        have b14 := b13.trans (x14.mono b13.size)
        have g14_0 := blk_call g13 x14
        refine ⟨_, rfl, b14, ?_⟩
        simp only [Act.put, List.setIfInBounds_toArray, List.set_cons_zero, List.set_cons_succ]
        refine held_call 4 21 42 #[cnA l.free l.held l.sold l.tied, .int .i64 n, cnA s0 s1 s2 s3] rfl rfl (by kernel_rfl) rfl (exec_call Try.func42 (by kernel_rfl) (by kernel_rfl) _) ?_
        refine (CP.out _).mono ?_
        rintro e u15 ⟨rfl, x15⟩
        have b15 := b14.trans (x15.mono b14.size)
        have g15_0 := blk_call g14_0 x15
        refine ⟨_, rfl, b15, ?_⟩
        simp only [Act.put, List.setIfInBounds_toArray, List.set_cons_zero, List.set_cons_succ]
        refine held_call 7 24 34 #[cnA q0 q1 q2 q3, .int .i64 l.total] rfl rfl (by kernel_rfl) rfl (exec_call Try.func34 (by kernel_rfl) (by kernel_rfl) _) ?_
        refine (CG.out _).mono ?_
        rintro e u16 ⟨rfl, x16⟩
        have b16 := b15.trans (x16.mono b15.size)
        have g16_0 := blk_call g15_0 x16
        refine ⟨_, rfl, b16, ?_⟩
        simp only [Act.put, List.setIfInBounds_toArray, List.set_cons_zero, List.set_cons_succ]
        refine held_store 9 rfl rfl (by kernel_rfl) rfl (exec_store_leI _ ⟨l.total, q0, q1, q2, q3⟩ _ g16_0) (putLe_below (q := ⟨l.total, q0, q1, q2, q3⟩) b16 l13) ?_
        have b17 := putLe_below (q := ⟨l.total, q0, q1, q2, q3⟩) b16 l13
        have g17_0 := putLe_blk (q := ⟨l.total, q0, q1, q2, q3⟩) g16_0
        refine wpAnyH_done (by kernel_rfl) ?_ _
        have P : PutQ U ⟨l.total, q0, q1, q2, q3⟩ _ _ := ⟨b17, l13, g17_0⟩
        clear hHeld CC CP CG KU HE
        go_wp2_with fail
        go_meet
        exact ⟨_, rfl, P⟩
  case rest =>
    obtain ⟨g, rfl, hP⟩ := hcut
    have d0 := cell_of_row _ _ 0 _ _ _ hP.2.2
    have d1 := cell_of_row _ _ 1 _ _ _ hP.2.2
    have d2 := cell_of_row _ _ 2 _ _ _ hP.2.2
    have d3 := cell_of_row _ _ 3 _ _ _ hP.2.2
    have d4 := cell_of_row _ _ 4 _ _ _ hP.2.2
    simp at d0 d1 d2 d3 d4
    have HP := Lib.hid hP
    clear hP
    have CQ1 := Lib.hid (fun w => CQ.out w)
    unfold leA at CQ1
    go_wp2_with fail
    refine (CQ1.out _).mono ?_
    rintro e w5 ⟨rfl, b5⟩
    have hg := blk_call HP.out.2.2 b5
    have K := KU.out w5 (HP.out.1.trans (b5.mono HP.out.1.size))
    clear b5 d0 d1 d2 d3 d4 CQ1 CQ HP
    cases Qk with
    | false =>
      have HV : Hid (R = .tuple #[leA l, .bool false]) := by
        show _ = _
        rw [← HR.out]; unfold movedV; rw [if_neg (fun h => of_decide_eq_false HQ.out h.2.2)]
      have c0 := cell_of_row _ _ 0 _ _ _ K.2.1
      have e0 := cell_of_row _ _ 0 _ _ _ K.2.2.2
      have f0 := frozen_of_row _ _ 0 _ _ K.2.2.2
      have c1 := cell_of_row _ _ 1 _ _ _ K.2.1
      have e1 := cell_of_row _ _ 1 _ _ _ K.2.2.2
      have f1 := frozen_of_row _ _ 1 _ _ K.2.2.2
      have c2 := cell_of_row _ _ 2 _ _ _ K.2.1
      have e2 := cell_of_row _ _ 2 _ _ _ K.2.2.2
      have f2 := frozen_of_row _ _ 2 _ _ K.2.2.2
      have c3 := cell_of_row _ _ 3 _ _ _ K.2.1
      have e3 := cell_of_row _ _ 3 _ _ _ K.2.2.2
      have f3 := frozen_of_row _ _ 3 _ _ K.2.2.2
      have c4 := cell_of_row _ _ 4 _ _ _ K.2.1
      have e4 := cell_of_row _ _ 4 _ _ _ K.2.2.2
      have f4 := frozen_of_row _ _ 4 _ _ K.2.2.2
      simp at c0 c1 c2 c3 c4 e0 e1 e2 e3 e4
      have HN : Hid (Below w.heap.size w (putLe w5 (w.heap.size + 2) l)) := putLe_below K.1 (by omega)
      unfold putLe at HN
      clear K hg HR
      go_wp2
      simp [bodyPost, results, Try.results35, go_sem, e0, e1, e2, e3, e4]
      exact ⟨by rw [HV.out] <;> rfl, HN.out⟩
    | true =>
      have HV : Hid (R = .tuple #[leA ⟨l.total, q0, q1, q2, q3⟩, .bool true]) := by
        show _ = _
        rw [← HR.out]; unfold movedV; rw [if_pos ⟨of_decide_eq_true HO.out, HE.out, of_decide_eq_true HQ.out⟩]
      have c0 := cell_of_row _ _ 0 _ _ _ K.2.1
      have e0 := cell_of_row _ _ 0 _ _ _ K.2.2.2
      have f0 := frozen_of_row _ _ 0 _ _ K.2.2.2
      have c1 := cell_of_row _ _ 1 _ _ _ K.2.1
      have e1 := cell_of_row _ _ 1 _ _ _ K.2.2.2
      have f1 := frozen_of_row _ _ 1 _ _ K.2.2.2
      have c2 := cell_of_row _ _ 2 _ _ _ K.2.1
      have e2 := cell_of_row _ _ 2 _ _ _ K.2.2.2
      have f2 := frozen_of_row _ _ 2 _ _ K.2.2.2
      have c3 := cell_of_row _ _ 3 _ _ _ K.2.1
      have e3 := cell_of_row _ _ 3 _ _ _ K.2.2.2
      have f3 := frozen_of_row _ _ 3 _ _ K.2.2.2
      have c4 := cell_of_row _ _ 4 _ _ _ K.2.1
      have e4 := cell_of_row _ _ 4 _ _ _ K.2.2.2
      have f4 := frozen_of_row _ _ 4 _ _ K.2.2.2
      simp at e0 e1 e2 e3 e4
      have d0 := cell_of_row _ _ 0 _ _ _ hg
      have d1 := cell_of_row _ _ 1 _ _ _ hg
      have d2 := cell_of_row _ _ 2 _ _ _ hg
      have d3 := cell_of_row _ _ 3 _ _ _ hg
      have d4 := cell_of_row _ _ 4 _ _ _ hg
      simp at d0 d1 d2 d3 d4
      clear c0 c1 c2 c3 c4
      have HN : Hid (Below w.heap.size w (putLe w5 (w.heap.size + 2) ⟨l.total, q0, q1, q2, q3⟩)) := putLe_below K.1 (by omega)
      unfold putLe at HN
      clear K hg HR
      go_wp2
      simp [bodyPost, results, Try.results35, go_sem, e0, e1, e2, e3, e4]
      exact ⟨by rw [HV.out] <;> rfl, HN.out⟩
set_option maxRecDepth 100000 in
set_option maxHeartbeats 3200000 in
theorem ledgerNew_impl (t : Int) (w : World) (ht : inI t) : Calls Try.prog 14 #[.int .i64 t] w fun e w' => e = .returned (.tuple #[leA (ledgerNewV t).1, .bool (ledgerNewV t).2]) ∧ Below w.heap.size w w' := by
  have CG := Lib.hid (fun w => ledger_any t 0 0 t 0 w)
  have CR := Lib.hid (fun w => ledgerOk_impl ⟨t, 0, 0, t, 0⟩ w ⟨ht, by constructor <;> simp, by constructor <;> simp, ht, by constructor <;> simp⟩)
  obtain ⟨R, hR⟩ : ∃ R : Value, .tuple #[leA (ledgerNewV t).1, .bool (ledgerNewV t).2] = R := ⟨_, rfl⟩
  rw [hR]
  unfold ledgerNewV at hR
  unfold leA at CR CG
  unfold cnA at CG
  by_cases h : 1 ≤ t ∧ t ≤ 60
  · have HV : Hid (R = .tuple #[leA ⟨t, 0, 0, t, 0⟩, .bool true]) := by show _ = _; rw [← hR, if_pos h]
    rw [decide_eq_true ((ledgerNew_fine t).2 h)] at CR
    clear hR ht
    go_enter Try.func14, Try.ntmps14
    go_wp2_with fail
    refine (CG.out _).mono ?_
    rintro e w1 ⟨rfl, b1⟩
    have hz := blk_call (heap_new w (.cells #[.int .i64 0, .int .i64 0, .int .i64 0, .int .i64 0, .int .i64 0] 25)) b1
    have B1 := boxB _ _ _ b1
    have hz := blk_alloc hz (.cells #[.int .i64 t, .int .i64 0, .int .i64 0, .int .i64 t, .int .i64 0] 25)
    have hq := heap_new w1 (.cells #[.int .i64 t, .int .i64 0, .int .i64 0, .int .i64 t, .int .i64 0] 25)
    have B1 := B1.alloc B1.size (.cells #[.int .i64 t, .int .i64 0, .int .i64 0, .int .i64 t, .int .i64 0] 25)
    clear b1 CG
    go_wp2_with fail
    refine (CR.out _).mono ?_
    rintro e w2 ⟨rfl, b2⟩
    have hz := blk_call hz b2
    have hq := blk_call hq b2
    have B2 := B1.trans (b2.mono B1.size)
    clear b2 B1 CR
    have c0 := cell_of_row _ _ 0 _ _ _ hq
    have e0 := cell_of_row _ _ 0 _ _ _ hz
    have f0 := frozen_of_row _ _ 0 _ _ hz
    have c1 := cell_of_row _ _ 1 _ _ _ hq
    have e1 := cell_of_row _ _ 1 _ _ _ hz
    have f1 := frozen_of_row _ _ 1 _ _ hz
    have c2 := cell_of_row _ _ 2 _ _ _ hq
    have e2 := cell_of_row _ _ 2 _ _ _ hz
    have f2 := frozen_of_row _ _ 2 _ _ hz
    have c3 := cell_of_row _ _ 3 _ _ _ hq
    have e3 := cell_of_row _ _ 3 _ _ _ hz
    have f3 := frozen_of_row _ _ 3 _ _ hz
    have c4 := cell_of_row _ _ 4 _ _ _ hq
    have e4 := cell_of_row _ _ 4 _ _ _ hz
    have f4 := frozen_of_row _ _ 4 _ _ hz
    simp at c0 c1 c2 c3 c4 e0 e1 e2 e3 e4
    have BW := Lib.hid B2
    clear hz hq B2
    go_wp2
    simp [bodyPost, results, Try.results14, go_sem, e0, e1, e2, e3, e4]
    refine ⟨by rw [HV.out] <;> rfl, ?_⟩
    repeat refine Below.setCell ?_ (by simp) _
    exact BW.out
  · have HV : Hid (R = .tuple #[leA le0, .bool false]) := by show _ = _; rw [← hR, if_neg h]
    rw [decide_eq_false (fun x => h ((ledgerNew_fine t).1 x))] at CR
    clear hR ht
    go_enter Try.func14, Try.ntmps14
    go_wp2_with fail
    refine (CG.out _).mono ?_
    rintro e w1 ⟨rfl, b1⟩
    have hz := blk_call (heap_new w (.cells #[.int .i64 0, .int .i64 0, .int .i64 0, .int .i64 0, .int .i64 0] 25)) b1
    have B1 := boxB _ _ _ b1
    have hz := blk_alloc hz (.cells #[.int .i64 t, .int .i64 0, .int .i64 0, .int .i64 t, .int .i64 0] 25)
    have hq := heap_new w1 (.cells #[.int .i64 t, .int .i64 0, .int .i64 0, .int .i64 t, .int .i64 0] 25)
    have B1 := B1.alloc B1.size (.cells #[.int .i64 t, .int .i64 0, .int .i64 0, .int .i64 t, .int .i64 0] 25)
    clear b1 CG
    go_wp2_with fail
    refine (CR.out _).mono ?_
    rintro e w2 ⟨rfl, b2⟩
    have hz := blk_call hz b2
    have hq := blk_call hq b2
    have B2 := B1.trans (b2.mono B1.size)
    clear b2 B1 CR
    have c0 := cell_of_row _ _ 0 _ _ _ hq
    have e0 := cell_of_row _ _ 0 _ _ _ hz
    have f0 := frozen_of_row _ _ 0 _ _ hz
    have c1 := cell_of_row _ _ 1 _ _ _ hq
    have e1 := cell_of_row _ _ 1 _ _ _ hz
    have f1 := frozen_of_row _ _ 1 _ _ hz
    have c2 := cell_of_row _ _ 2 _ _ _ hq
    have e2 := cell_of_row _ _ 2 _ _ _ hz
    have f2 := frozen_of_row _ _ 2 _ _ hz
    have c3 := cell_of_row _ _ 3 _ _ _ hq
    have e3 := cell_of_row _ _ 3 _ _ _ hz
    have f3 := frozen_of_row _ _ 3 _ _ hz
    have c4 := cell_of_row _ _ 4 _ _ _ hq
    have e4 := cell_of_row _ _ 4 _ _ _ hz
    have f4 := frozen_of_row _ _ 4 _ _ hz
    simp at c0 c1 c2 c3 c4 e0 e1 e2 e3 e4
    have BW := Lib.hid B2
    clear hz hq B2
    go_wp2
    simp [bodyPost, results, Try.results14, go_sem, e0, e1, e2, e3, e4]
    refine ⟨by rw [HV.out] <;> rfl, ?_⟩
    repeat refine Below.setCell ?_ (by simp) _
    exact BW.out
theorem seatsHold_turn (l : Le) (n : Int) (hn : inI n) : movedV l ⟨l.total, (IntKind.i64.wrap (l.free + (-n))), (IntKind.i64.wrap (l.held + n)), (IntKind.i64.wrap (l.sold + 0)), (IntKind.i64.wrap (l.tied + 0))⟩ n = turnV l n (-n) n 0 0 := by
  unfold movedV turnV
  obtain ⟨n1, n2⟩ := hn
  by_cases h1 : l.fine
  · obtain ⟨t1, t2, t3, t4, t5, t6⟩ := id h1
    by_cases h2 : 0 ≤ n
    · by_cases h3 : n ≤ 60
      · have hw : ∀ x : Int, -1000 ≤ x → x ≤ 1000 → IntKind.i64.wrap x = x := fun x a b => by rw [IntKind.wrap_i64]; omega
        rw [hw (l.free + (-n)) (by omega) (by omega), hw (l.held + n) (by omega) (by omega), hw (l.sold + 0) (by omega) (by omega), hw (l.tied + 0) (by omega) (by omega)]
        simp only [h1, h2, h3, true_and]
      · rw [if_neg (fun h => ?_), if_neg (fun h => h3 h.2.1.2)]
        obtain ⟨-, -, k1, k2, k3, k4, k5, k6⟩ := h
        simp only [IntKind.wrap_i64] at k1 k2 k3 k4 k5 k6
        omega
    · rw [if_neg (fun h => h2 h.2.1), if_neg (fun h => h2 h.2.1.1)]
  · rw [if_neg (fun h => h1 h.1), if_neg (fun h => h1 h.1)]
set_option maxRecDepth 100000 in
set_option maxHeartbeats 1600000 in
theorem seatsHold_impl (l : Le) (n : Int) (w : World) (hf : l.fits) (hn : inI n) : Calls Try.prog 17 #[leA l, .int .i64 n] w fun e w' => e = .returned (.tuple #[leA (turnV l n (-n) n 0 0).1, .bool (turnV l n (-n) n 0 0).2]) ∧ Below w.heap.size w w' := by
  have T0 := Lib.hid (two_at w ((w.alloc (.cells #[.int .i64 l.total, .int .i64 l.free, .int .i64 l.held, .int .i64 l.sold, .int .i64 l.tied] 25)).alloc (.cells #[.int .i64 0, .int .i64 0, .int .i64 0, .int .i64 0, .int .i64 0] 25)) _ _ (Below.refl _ _))
  have C := Lib.hid (moved_any l n (-1) 1 0 0 (-n) n 0 0 (IntKind.i64.wrap (l.free + (-n))) (IntKind.i64.wrap (l.held + n)) (IntKind.i64.wrap (l.sold + 0)) (IntKind.i64.wrap (l.tied + 0)) ((w.alloc (.cells #[.int .i64 l.total, .int .i64 l.free, .int .i64 l.held, .int .i64 l.sold, .int .i64 l.tied] 25)).alloc (.cells #[.int .i64 0, .int .i64 0, .int .i64 0, .int .i64 0, .int .i64 0] 25)) hf (by omega) (by omega) (by omega) (by omega) (fun h => ⟨⟨by have := hn.1; have := hn.2; omega, by have := hn.1; have := hn.2; omega⟩, ⟨by have := hn.1; have := hn.2; omega, by have := hn.1; have := hn.2; omega⟩, ⟨by have := hn.1; have := hn.2; omega, by have := hn.1; have := hn.2; omega⟩, ⟨by have := hn.1; have := hn.2; omega, by have := hn.1; have := hn.2; omega⟩⟩) rfl rfl rfl rfl)
  rw [seatsHold_turn l n hn] at C
  generalize turnV l n (-n) n 0 0 = r at *
  unfold leA cnA at C
  unfold leA
  clear hf hn
  go_enter Try.func17, Try.ntmps17
  go_wp2_with fail
  refine C.out.mono ?_
  rintro e w1 ⟨rfl, b1⟩
  have hz := blk_call T0.out.2.1 b1
  have B1 := T0.out.2.2.trans (b1.mono T0.out.2.2.size)
  clear C T0 b1
  have e0 := cell_of_row _ _ 0 _ _ _ hz
  have f0 := frozen_of_row _ _ 0 _ _ hz
  have e1 := cell_of_row _ _ 1 _ _ _ hz
  have f1 := frozen_of_row _ _ 1 _ _ hz
  have e2 := cell_of_row _ _ 2 _ _ _ hz
  have f2 := frozen_of_row _ _ 2 _ _ hz
  have e3 := cell_of_row _ _ 3 _ _ _ hz
  have f3 := frozen_of_row _ _ 3 _ _ hz
  have e4 := cell_of_row _ _ 4 _ _ _ hz
  have f4 := frozen_of_row _ _ 4 _ _ hz
  simp at e0 e1 e2 e3 e4
  have HN : Hid (Below w.heap.size w (putLe w1 (w.heap.size + 1) r.1)) := putLe_below B1 (by omega)
  unfold putLe at HN
  go_wp2
  simp [bodyPost, results, Try.results17, go_sem, e0, e1, e2, e3, e4]
  exact HN.out
theorem seatsDrop_turn (l : Le) (n : Int) (hn : inI n) : movedV l ⟨l.total, (IntKind.i64.wrap (l.free + n)), (IntKind.i64.wrap (l.held + (-n))), (IntKind.i64.wrap (l.sold + 0)), (IntKind.i64.wrap (l.tied + 0))⟩ n = turnV l n n (-n) 0 0 := by
  unfold movedV turnV
  obtain ⟨n1, n2⟩ := hn
  by_cases h1 : l.fine
  · obtain ⟨t1, t2, t3, t4, t5, t6⟩ := id h1
    by_cases h2 : 0 ≤ n
    · by_cases h3 : n ≤ 60
      · have hw : ∀ x : Int, -1000 ≤ x → x ≤ 1000 → IntKind.i64.wrap x = x := fun x a b => by rw [IntKind.wrap_i64]; omega
        rw [hw (l.free + n) (by omega) (by omega), hw (l.held + (-n)) (by omega) (by omega), hw (l.sold + 0) (by omega) (by omega), hw (l.tied + 0) (by omega) (by omega)]
        simp only [h1, h2, h3, true_and]
      · rw [if_neg (fun h => ?_), if_neg (fun h => h3 h.2.1.2)]
        obtain ⟨-, -, k1, k2, k3, k4, k5, k6⟩ := h
        simp only [IntKind.wrap_i64] at k1 k2 k3 k4 k5 k6
        omega
    · rw [if_neg (fun h => h2 h.2.1), if_neg (fun h => h2 h.2.1.1)]
  · rw [if_neg (fun h => h1 h.1), if_neg (fun h => h1 h.1)]
set_option maxRecDepth 100000 in
set_option maxHeartbeats 1600000 in
theorem seatsDrop_impl (l : Le) (n : Int) (w : World) (hf : l.fits) (hn : inI n) : Calls Try.prog 18 #[leA l, .int .i64 n] w fun e w' => e = .returned (.tuple #[leA (turnV l n n (-n) 0 0).1, .bool (turnV l n n (-n) 0 0).2]) ∧ Below w.heap.size w w' := by
  have T0 := Lib.hid (two_at w ((w.alloc (.cells #[.int .i64 l.total, .int .i64 l.free, .int .i64 l.held, .int .i64 l.sold, .int .i64 l.tied] 25)).alloc (.cells #[.int .i64 0, .int .i64 0, .int .i64 0, .int .i64 0, .int .i64 0] 25)) _ _ (Below.refl _ _))
  have C := Lib.hid (moved_any l n 1 (-1) 0 0 n (-n) 0 0 (IntKind.i64.wrap (l.free + n)) (IntKind.i64.wrap (l.held + (-n))) (IntKind.i64.wrap (l.sold + 0)) (IntKind.i64.wrap (l.tied + 0)) ((w.alloc (.cells #[.int .i64 l.total, .int .i64 l.free, .int .i64 l.held, .int .i64 l.sold, .int .i64 l.tied] 25)).alloc (.cells #[.int .i64 0, .int .i64 0, .int .i64 0, .int .i64 0, .int .i64 0] 25)) hf (by omega) (by omega) (by omega) (by omega) (fun h => ⟨⟨by have := hn.1; have := hn.2; omega, by have := hn.1; have := hn.2; omega⟩, ⟨by have := hn.1; have := hn.2; omega, by have := hn.1; have := hn.2; omega⟩, ⟨by have := hn.1; have := hn.2; omega, by have := hn.1; have := hn.2; omega⟩, ⟨by have := hn.1; have := hn.2; omega, by have := hn.1; have := hn.2; omega⟩⟩) rfl rfl rfl rfl)
  rw [seatsDrop_turn l n hn] at C
  generalize turnV l n n (-n) 0 0 = r at *
  unfold leA cnA at C
  unfold leA
  clear hf hn
  go_enter Try.func18, Try.ntmps18
  go_wp2_with fail
  refine C.out.mono ?_
  rintro e w1 ⟨rfl, b1⟩
  have hz := blk_call T0.out.2.1 b1
  have B1 := T0.out.2.2.trans (b1.mono T0.out.2.2.size)
  clear C T0 b1
  have e0 := cell_of_row _ _ 0 _ _ _ hz
  have f0 := frozen_of_row _ _ 0 _ _ hz
  have e1 := cell_of_row _ _ 1 _ _ _ hz
  have f1 := frozen_of_row _ _ 1 _ _ hz
  have e2 := cell_of_row _ _ 2 _ _ _ hz
  have f2 := frozen_of_row _ _ 2 _ _ hz
  have e3 := cell_of_row _ _ 3 _ _ _ hz
  have f3 := frozen_of_row _ _ 3 _ _ hz
  have e4 := cell_of_row _ _ 4 _ _ _ hz
  have f4 := frozen_of_row _ _ 4 _ _ hz
  simp at e0 e1 e2 e3 e4
  have HN : Hid (Below w.heap.size w (putLe w1 (w.heap.size + 1) r.1)) := putLe_below B1 (by omega)
  unfold putLe at HN
  go_wp2
  simp [bodyPost, results, Try.results18, go_sem, e0, e1, e2, e3, e4]
  exact HN.out
theorem seatsSell_turn (l : Le) (n : Int) (hn : inI n) : movedV l ⟨l.total, (IntKind.i64.wrap (l.free + 0)), (IntKind.i64.wrap (l.held + (-n))), (IntKind.i64.wrap (l.sold + n)), (IntKind.i64.wrap (l.tied + 0))⟩ n = turnV l n 0 (-n) n 0 := by
  unfold movedV turnV
  obtain ⟨n1, n2⟩ := hn
  by_cases h1 : l.fine
  · obtain ⟨t1, t2, t3, t4, t5, t6⟩ := id h1
    by_cases h2 : 0 ≤ n
    · by_cases h3 : n ≤ 60
      · have hw : ∀ x : Int, -1000 ≤ x → x ≤ 1000 → IntKind.i64.wrap x = x := fun x a b => by rw [IntKind.wrap_i64]; omega
        rw [hw (l.free + 0) (by omega) (by omega), hw (l.held + (-n)) (by omega) (by omega), hw (l.sold + n) (by omega) (by omega), hw (l.tied + 0) (by omega) (by omega)]
        simp only [h1, h2, h3, true_and]
      · rw [if_neg (fun h => ?_), if_neg (fun h => h3 h.2.1.2)]
        obtain ⟨-, -, k1, k2, k3, k4, k5, k6⟩ := h
        simp only [IntKind.wrap_i64] at k1 k2 k3 k4 k5 k6
        omega
    · rw [if_neg (fun h => h2 h.2.1), if_neg (fun h => h2 h.2.1.1)]
  · rw [if_neg (fun h => h1 h.1), if_neg (fun h => h1 h.1)]
set_option maxRecDepth 100000 in
set_option maxHeartbeats 1600000 in
theorem seatsSell_impl (l : Le) (n : Int) (w : World) (hf : l.fits) (hn : inI n) : Calls Try.prog 19 #[leA l, .int .i64 n] w fun e w' => e = .returned (.tuple #[leA (turnV l n 0 (-n) n 0).1, .bool (turnV l n 0 (-n) n 0).2]) ∧ Below w.heap.size w w' := by
  have T0 := Lib.hid (two_at w ((w.alloc (.cells #[.int .i64 l.total, .int .i64 l.free, .int .i64 l.held, .int .i64 l.sold, .int .i64 l.tied] 25)).alloc (.cells #[.int .i64 0, .int .i64 0, .int .i64 0, .int .i64 0, .int .i64 0] 25)) _ _ (Below.refl _ _))
  have C := Lib.hid (moved_any l n 0 (-1) 1 0 0 (-n) n 0 (IntKind.i64.wrap (l.free + 0)) (IntKind.i64.wrap (l.held + (-n))) (IntKind.i64.wrap (l.sold + n)) (IntKind.i64.wrap (l.tied + 0)) ((w.alloc (.cells #[.int .i64 l.total, .int .i64 l.free, .int .i64 l.held, .int .i64 l.sold, .int .i64 l.tied] 25)).alloc (.cells #[.int .i64 0, .int .i64 0, .int .i64 0, .int .i64 0, .int .i64 0] 25)) hf (by omega) (by omega) (by omega) (by omega) (fun h => ⟨⟨by have := hn.1; have := hn.2; omega, by have := hn.1; have := hn.2; omega⟩, ⟨by have := hn.1; have := hn.2; omega, by have := hn.1; have := hn.2; omega⟩, ⟨by have := hn.1; have := hn.2; omega, by have := hn.1; have := hn.2; omega⟩, ⟨by have := hn.1; have := hn.2; omega, by have := hn.1; have := hn.2; omega⟩⟩) rfl rfl rfl rfl)
  rw [seatsSell_turn l n hn] at C
  generalize turnV l n 0 (-n) n 0 = r at *
  unfold leA cnA at C
  unfold leA
  clear hf hn
  go_enter Try.func19, Try.ntmps19
  go_wp2_with fail
  refine C.out.mono ?_
  rintro e w1 ⟨rfl, b1⟩
  have hz := blk_call T0.out.2.1 b1
  have B1 := T0.out.2.2.trans (b1.mono T0.out.2.2.size)
  clear C T0 b1
  have e0 := cell_of_row _ _ 0 _ _ _ hz
  have f0 := frozen_of_row _ _ 0 _ _ hz
  have e1 := cell_of_row _ _ 1 _ _ _ hz
  have f1 := frozen_of_row _ _ 1 _ _ hz
  have e2 := cell_of_row _ _ 2 _ _ _ hz
  have f2 := frozen_of_row _ _ 2 _ _ hz
  have e3 := cell_of_row _ _ 3 _ _ _ hz
  have f3 := frozen_of_row _ _ 3 _ _ hz
  have e4 := cell_of_row _ _ 4 _ _ _ hz
  have f4 := frozen_of_row _ _ 4 _ _ hz
  simp at e0 e1 e2 e3 e4
  have HN : Hid (Below w.heap.size w (putLe w1 (w.heap.size + 1) r.1)) := putLe_below B1 (by omega)
  unfold putLe at HN
  go_wp2
  simp [bodyPost, results, Try.results19, go_sem, e0, e1, e2, e3, e4]
  exact HN.out
theorem seatsFree_turn (l : Le) (n : Int) (hn : inI n) : movedV l ⟨l.total, (IntKind.i64.wrap (l.free + n)), (IntKind.i64.wrap (l.held + 0)), (IntKind.i64.wrap (l.sold + (-n))), (IntKind.i64.wrap (l.tied + 0))⟩ n = turnV l n n 0 (-n) 0 := by
  unfold movedV turnV
  obtain ⟨n1, n2⟩ := hn
  by_cases h1 : l.fine
  · obtain ⟨t1, t2, t3, t4, t5, t6⟩ := id h1
    by_cases h2 : 0 ≤ n
    · by_cases h3 : n ≤ 60
      · have hw : ∀ x : Int, -1000 ≤ x → x ≤ 1000 → IntKind.i64.wrap x = x := fun x a b => by rw [IntKind.wrap_i64]; omega
        rw [hw (l.free + n) (by omega) (by omega), hw (l.held + 0) (by omega) (by omega), hw (l.sold + (-n)) (by omega) (by omega), hw (l.tied + 0) (by omega) (by omega)]
        simp only [h1, h2, h3, true_and]
      · rw [if_neg (fun h => ?_), if_neg (fun h => h3 h.2.1.2)]
        obtain ⟨-, -, k1, k2, k3, k4, k5, k6⟩ := h
        simp only [IntKind.wrap_i64] at k1 k2 k3 k4 k5 k6
        omega
    · rw [if_neg (fun h => h2 h.2.1), if_neg (fun h => h2 h.2.1.1)]
  · rw [if_neg (fun h => h1 h.1), if_neg (fun h => h1 h.1)]
set_option maxRecDepth 100000 in
set_option maxHeartbeats 1600000 in
theorem seatsFree_impl (l : Le) (n : Int) (w : World) (hf : l.fits) (hn : inI n) : Calls Try.prog 16 #[leA l, .int .i64 n] w fun e w' => e = .returned (.tuple #[leA (turnV l n n 0 (-n) 0).1, .bool (turnV l n n 0 (-n) 0).2]) ∧ Below w.heap.size w w' := by
  have T0 := Lib.hid (two_at w ((w.alloc (.cells #[.int .i64 l.total, .int .i64 l.free, .int .i64 l.held, .int .i64 l.sold, .int .i64 l.tied] 25)).alloc (.cells #[.int .i64 0, .int .i64 0, .int .i64 0, .int .i64 0, .int .i64 0] 25)) _ _ (Below.refl _ _))
  have C := Lib.hid (moved_any l n 1 0 (-1) 0 n 0 (-n) 0 (IntKind.i64.wrap (l.free + n)) (IntKind.i64.wrap (l.held + 0)) (IntKind.i64.wrap (l.sold + (-n))) (IntKind.i64.wrap (l.tied + 0)) ((w.alloc (.cells #[.int .i64 l.total, .int .i64 l.free, .int .i64 l.held, .int .i64 l.sold, .int .i64 l.tied] 25)).alloc (.cells #[.int .i64 0, .int .i64 0, .int .i64 0, .int .i64 0, .int .i64 0] 25)) hf (by omega) (by omega) (by omega) (by omega) (fun h => ⟨⟨by have := hn.1; have := hn.2; omega, by have := hn.1; have := hn.2; omega⟩, ⟨by have := hn.1; have := hn.2; omega, by have := hn.1; have := hn.2; omega⟩, ⟨by have := hn.1; have := hn.2; omega, by have := hn.1; have := hn.2; omega⟩, ⟨by have := hn.1; have := hn.2; omega, by have := hn.1; have := hn.2; omega⟩⟩) rfl rfl rfl rfl)
  rw [seatsFree_turn l n hn] at C
  generalize turnV l n n 0 (-n) 0 = r at *
  unfold leA cnA at C
  unfold leA
  clear hf hn
  go_enter Try.func16, Try.ntmps16
  go_wp2_with fail
  refine C.out.mono ?_
  rintro e w1 ⟨rfl, b1⟩
  have hz := blk_call T0.out.2.1 b1
  have B1 := T0.out.2.2.trans (b1.mono T0.out.2.2.size)
  clear C T0 b1
  have e0 := cell_of_row _ _ 0 _ _ _ hz
  have f0 := frozen_of_row _ _ 0 _ _ hz
  have e1 := cell_of_row _ _ 1 _ _ _ hz
  have f1 := frozen_of_row _ _ 1 _ _ hz
  have e2 := cell_of_row _ _ 2 _ _ _ hz
  have f2 := frozen_of_row _ _ 2 _ _ hz
  have e3 := cell_of_row _ _ 3 _ _ _ hz
  have f3 := frozen_of_row _ _ 3 _ _ hz
  have e4 := cell_of_row _ _ 4 _ _ _ hz
  have f4 := frozen_of_row _ _ 4 _ _ hz
  simp at e0 e1 e2 e3 e4
  have HN : Hid (Below w.heap.size w (putLe w1 (w.heap.size + 1) r.1)) := putLe_below B1 (by omega)
  unfold putLe at HN
  go_wp2
  simp [bodyPost, results, Try.results16, go_sem, e0, e1, e2, e3, e4]
  exact HN.out
theorem seatsTie_turn (l : Le) (n : Int) (hn : inI n) : movedV l ⟨l.total, (IntKind.i64.wrap (l.free + 0)), (IntKind.i64.wrap (l.held + 0)), (IntKind.i64.wrap (l.sold + 0)), (IntKind.i64.wrap (l.tied + n))⟩ n = turnV l n 0 0 0 n := by
  unfold movedV turnV
  obtain ⟨n1, n2⟩ := hn
  by_cases h1 : l.fine
  · obtain ⟨t1, t2, t3, t4, t5, t6⟩ := id h1
    by_cases h2 : 0 ≤ n
    · by_cases h3 : n ≤ 60
      · have hw : ∀ x : Int, -1000 ≤ x → x ≤ 1000 → IntKind.i64.wrap x = x := fun x a b => by rw [IntKind.wrap_i64]; omega
        rw [hw (l.free + 0) (by omega) (by omega), hw (l.held + 0) (by omega) (by omega), hw (l.sold + 0) (by omega) (by omega), hw (l.tied + n) (by omega) (by omega)]
        simp only [h1, h2, h3, true_and]
      · rw [if_neg (fun h => ?_), if_neg (fun h => h3 h.2.1.2)]
        obtain ⟨-, -, k1, k2, k3, k4, k5, k6⟩ := h
        simp only [IntKind.wrap_i64] at k1 k2 k3 k4 k5 k6
        omega
    · rw [if_neg (fun h => h2 h.2.1), if_neg (fun h => h2 h.2.1.1)]
  · rw [if_neg (fun h => h1 h.1), if_neg (fun h => h1 h.1)]
set_option maxRecDepth 100000 in
set_option maxHeartbeats 1600000 in
theorem seatsTie_impl (l : Le) (n : Int) (w : World) (hf : l.fits) (hn : inI n) : Calls Try.prog 20 #[leA l, .int .i64 n] w fun e w' => e = .returned (.tuple #[leA (turnV l n 0 0 0 n).1, .bool (turnV l n 0 0 0 n).2]) ∧ Below w.heap.size w w' := by
  have T0 := Lib.hid (two_at w ((w.alloc (.cells #[.int .i64 l.total, .int .i64 l.free, .int .i64 l.held, .int .i64 l.sold, .int .i64 l.tied] 25)).alloc (.cells #[.int .i64 0, .int .i64 0, .int .i64 0, .int .i64 0, .int .i64 0] 25)) _ _ (Below.refl _ _))
  have C := Lib.hid (moved_any l n 0 0 0 1 0 0 0 n (IntKind.i64.wrap (l.free + 0)) (IntKind.i64.wrap (l.held + 0)) (IntKind.i64.wrap (l.sold + 0)) (IntKind.i64.wrap (l.tied + n)) ((w.alloc (.cells #[.int .i64 l.total, .int .i64 l.free, .int .i64 l.held, .int .i64 l.sold, .int .i64 l.tied] 25)).alloc (.cells #[.int .i64 0, .int .i64 0, .int .i64 0, .int .i64 0, .int .i64 0] 25)) hf (by omega) (by omega) (by omega) (by omega) (fun h => ⟨⟨by have := hn.1; have := hn.2; omega, by have := hn.1; have := hn.2; omega⟩, ⟨by have := hn.1; have := hn.2; omega, by have := hn.1; have := hn.2; omega⟩, ⟨by have := hn.1; have := hn.2; omega, by have := hn.1; have := hn.2; omega⟩, ⟨by have := hn.1; have := hn.2; omega, by have := hn.1; have := hn.2; omega⟩⟩) rfl rfl rfl rfl)
  rw [seatsTie_turn l n hn] at C
  generalize turnV l n 0 0 0 n = r at *
  unfold leA cnA at C
  unfold leA
  clear hf hn
  go_enter Try.func20, Try.ntmps20
  go_wp2_with fail
  refine C.out.mono ?_
  rintro e w1 ⟨rfl, b1⟩
  have hz := blk_call T0.out.2.1 b1
  have B1 := T0.out.2.2.trans (b1.mono T0.out.2.2.size)
  clear C T0 b1
  have e0 := cell_of_row _ _ 0 _ _ _ hz
  have f0 := frozen_of_row _ _ 0 _ _ hz
  have e1 := cell_of_row _ _ 1 _ _ _ hz
  have f1 := frozen_of_row _ _ 1 _ _ hz
  have e2 := cell_of_row _ _ 2 _ _ _ hz
  have f2 := frozen_of_row _ _ 2 _ _ hz
  have e3 := cell_of_row _ _ 3 _ _ _ hz
  have f3 := frozen_of_row _ _ 3 _ _ hz
  have e4 := cell_of_row _ _ 4 _ _ _ hz
  have f4 := frozen_of_row _ _ 4 _ _ hz
  simp at e0 e1 e2 e3 e4
  have HN : Hid (Below w.heap.size w (putLe w1 (w.heap.size + 1) r.1)) := putLe_below B1 (by omega)
  unfold putLe at HN
  go_wp2
  simp [bodyPost, results, Try.results20, go_sem, e0, e1, e2, e3, e4]
  exact HN.out
theorem seatsUntie_turn (l : Le) (n : Int) (hn : inI n) : movedV l ⟨l.total, (IntKind.i64.wrap (l.free + 0)), (IntKind.i64.wrap (l.held + 0)), (IntKind.i64.wrap (l.sold + 0)), (IntKind.i64.wrap (l.tied + (-n)))⟩ n = turnV l n 0 0 0 (-n) := by
  unfold movedV turnV
  obtain ⟨n1, n2⟩ := hn
  by_cases h1 : l.fine
  · obtain ⟨t1, t2, t3, t4, t5, t6⟩ := id h1
    by_cases h2 : 0 ≤ n
    · by_cases h3 : n ≤ 60
      · have hw : ∀ x : Int, -1000 ≤ x → x ≤ 1000 → IntKind.i64.wrap x = x := fun x a b => by rw [IntKind.wrap_i64]; omega
        rw [hw (l.free + 0) (by omega) (by omega), hw (l.held + 0) (by omega) (by omega), hw (l.sold + 0) (by omega) (by omega), hw (l.tied + (-n)) (by omega) (by omega)]
        simp only [h1, h2, h3, true_and]
      · rw [if_neg (fun h => ?_), if_neg (fun h => h3 h.2.1.2)]
        obtain ⟨-, -, k1, k2, k3, k4, k5, k6⟩ := h
        simp only [IntKind.wrap_i64] at k1 k2 k3 k4 k5 k6
        omega
    · rw [if_neg (fun h => h2 h.2.1), if_neg (fun h => h2 h.2.1.1)]
  · rw [if_neg (fun h => h1 h.1), if_neg (fun h => h1 h.1)]
set_option maxRecDepth 100000 in
set_option maxHeartbeats 1600000 in
theorem seatsUntie_impl (l : Le) (n : Int) (w : World) (hf : l.fits) (hn : inI n) : Calls Try.prog 27 #[leA l, .int .i64 n] w fun e w' => e = .returned (.tuple #[leA (turnV l n 0 0 0 (-n)).1, .bool (turnV l n 0 0 0 (-n)).2]) ∧ Below w.heap.size w w' := by
  have T0 := Lib.hid (two_at w ((w.alloc (.cells #[.int .i64 l.total, .int .i64 l.free, .int .i64 l.held, .int .i64 l.sold, .int .i64 l.tied] 25)).alloc (.cells #[.int .i64 0, .int .i64 0, .int .i64 0, .int .i64 0, .int .i64 0] 25)) _ _ (Below.refl _ _))
  have C := Lib.hid (moved_any l n 0 0 0 (-1) 0 0 0 (-n) (IntKind.i64.wrap (l.free + 0)) (IntKind.i64.wrap (l.held + 0)) (IntKind.i64.wrap (l.sold + 0)) (IntKind.i64.wrap (l.tied + (-n))) ((w.alloc (.cells #[.int .i64 l.total, .int .i64 l.free, .int .i64 l.held, .int .i64 l.sold, .int .i64 l.tied] 25)).alloc (.cells #[.int .i64 0, .int .i64 0, .int .i64 0, .int .i64 0, .int .i64 0] 25)) hf (by omega) (by omega) (by omega) (by omega) (fun h => ⟨⟨by have := hn.1; have := hn.2; omega, by have := hn.1; have := hn.2; omega⟩, ⟨by have := hn.1; have := hn.2; omega, by have := hn.1; have := hn.2; omega⟩, ⟨by have := hn.1; have := hn.2; omega, by have := hn.1; have := hn.2; omega⟩, ⟨by have := hn.1; have := hn.2; omega, by have := hn.1; have := hn.2; omega⟩⟩) rfl rfl rfl rfl)
  rw [seatsUntie_turn l n hn] at C
  generalize turnV l n 0 0 0 (-n) = r at *
  unfold leA cnA at C
  unfold leA
  clear hf hn
  go_enter Try.func27, Try.ntmps27
  go_wp2_with fail
  refine C.out.mono ?_
  rintro e w1 ⟨rfl, b1⟩
  have hz := blk_call T0.out.2.1 b1
  have B1 := T0.out.2.2.trans (b1.mono T0.out.2.2.size)
  clear C T0 b1
  have e0 := cell_of_row _ _ 0 _ _ _ hz
  have f0 := frozen_of_row _ _ 0 _ _ hz
  have e1 := cell_of_row _ _ 1 _ _ _ hz
  have f1 := frozen_of_row _ _ 1 _ _ hz
  have e2 := cell_of_row _ _ 2 _ _ _ hz
  have f2 := frozen_of_row _ _ 2 _ _ hz
  have e3 := cell_of_row _ _ 3 _ _ _ hz
  have f3 := frozen_of_row _ _ 3 _ _ hz
  have e4 := cell_of_row _ _ 4 _ _ _ hz
  have f4 := frozen_of_row _ _ 4 _ _ hz
  simp at e0 e1 e2 e3 e4
  have HN : Hid (Below w.heap.size w (putLe w1 (w.heap.size + 1) r.1)) := putLe_below B1 (by omega)
  unfold putLe at HN
  go_wp2
  simp [bodyPost, results, Try.results27, go_sem, e0, e1, e2, e3, e4]
  exact HN.out
end Go.Proofs.Ytjnmdnpknlakhaa
