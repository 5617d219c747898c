/- Chapter 8 of the program. -/
import Derived.Test.YtdjglbmcpfaofaaRows
import Derived.Test.YtdjglbmcpfaofaaLeP
import Derived.Deep.DeepCutAuto
namespace Go.Proofs.Ytdjglbmcpfaofaa
open Go.RowKit
set_option linter.unusedSimpArgs false
set_option linter.unusedVariables false
theorem putLe_blk {w : World} {g : Nat} {q : Le} {a0 a1 a2 a3 a4 : Value} {t : TypeId} (h : w.heap[g]? = some (.cells #[a0, a1, a2, a3, a4] t (0, 0))) : (putLe w g q).heap[g]? = some (.cells #[.int .i64 q.total, .int .i64 q.free, .int .i64 q.held, .int .i64 q.sold, .int .i64 q.tied] t (0, 0)) := by
  unfold putLe
  exact Go.heap_setCell_same _ _ _ _ _ _ (Go.heap_setCell_same _ _ _ _ _ _ (Go.heap_setCell_same _ _ _ _ _ _ (Go.heap_setCell_same _ _ _ _ _ _ (Go.heap_setCell_same _ _ _ _ _ _ h))))
set_option maxRecDepth 100000 in
theorem exec_alloc_leI {ρ : Operand → Value} {o : Oper} (w : World) (ho : o.op = .alloc 32 := by rfl) :
    (execOp ρ o).run Try.prog w = .ok (.value (.pointer (some ⟨w.heap.size, 0, none⟩))) (w.alloc (.cells #[.int .i64 0, .int .i64 0, .int .i64 0, .int .i64 0, .int .i64 0] 32)) := by
  unfold execOp
  rw [ho]
  simp [go_sem]
set_option maxRecDepth 100000 in
theorem exec_store_leI {ρ : Operand → Value} {o : Oper} {x y : Operand} (g : Nat) (q : Le) (w : World) (h : w.heap[g]? = some (.cells #[.int .i64 0, .int .i64 0, .int .i64 0, .int .i64 0, .int .i64 0] 32 (0, 0))) (ho : o.op = .store 32 x y := by rfl) (hx : ρ x = .pointer (some ⟨g, 0, none⟩) := by rfl) (hy : ρ y = leA q := by rfl) :
    (execOp ρ o).run Try.prog w = .ok .skip (putLe w g q) := by
  have c0 := cell_of_row _ _ 0 _ _ _ h
  have z0 := frozen_of_row _ _ 0 _ _ h
  have c1 := cell_of_row _ _ 1 _ _ _ h
  have z1 := frozen_of_row _ _ 1 _ _ h
  have c2 := cell_of_row _ _ 2 _ _ _ h
  have z2 := frozen_of_row _ _ 2 _ _ h
  have c3 := cell_of_row _ _ 3 _ _ _ h
  have z3 := frozen_of_row _ _ 3 _ _ h
  have c4 := cell_of_row _ _ 4 _ _ _ h
  have z4 := frozen_of_row _ _ 4 _ _ h
  simp at c0 c1 c2 c3 c4
  unfold execOp
  rw [ho]
  simp [go_sem, hx, hy, leA, c0, c1, c2, c3, c4, z0, z1, z2, z3, z4, putLe]
set_option maxRecDepth 100000 in
theorem exec_load_leI {ρ : Operand → Value} {o : Oper} {x : Operand} (g : Nat) (l : Le) (w : World) (h : w.heap[g]? = some (.cells #[.int .i64 l.total, .int .i64 l.free, .int .i64 l.held, .int .i64 l.sold, .int .i64 l.tied] 32 (0, 0))) (ho : o.op = .load 32 x := by rfl) (hx : ρ x = .pointer (some ⟨g, 0, none⟩) := by rfl) :
    (execOp ρ o).run Try.prog w = .ok (.value (leA l)) w := by
  have c0 := cell_of_row _ _ 0 _ _ _ h
  have c1 := cell_of_row _ _ 1 _ _ _ h
  have c2 := cell_of_row _ _ 2 _ _ _ h
  have c3 := cell_of_row _ _ 3 _ _ _ h
  have c4 := cell_of_row _ _ 4 _ _ _ h
  simp at c0 c1 c2 c3 c4
  unfold execOp
  rw [ho]
  simp [go_sem, hx, c0, c1, c2, c3, c4, leA]
/-- What moved returns. -/
def movedV (l q : Le) (n : Int) : Le × Bool := if l.fine ∧ 0 ≤ n ∧ q.fine then (q, true) else (l, false)
/-- The blocks of moved lie there. -/
def KM (w : World) (l : Le) (s0 s1 s2 s3 : Int) (u : World) : Prop := Below w.heap.size w u ∧ u.heap[w.heap.size]? = some (.cells #[.int .i64 l.total, .int .i64 l.free, .int .i64 l.held, .int .i64 l.sold, .int .i64 l.tied] 32 (0, 0)) ∧ u.heap[w.heap.size + 1]? = some (.cells #[.int .i64 s0, .int .i64 s1, .int .i64 s2, .int .i64 s3] 111 (0, 0)) ∧ u.heap[w.heap.size + 2]? = some (.cells #[.int .i64 0, .int .i64 0, .int .i64 0, .int .i64 0, .int .i64 0] 32 (0, 0))
theorem KM.call {w u u' : World} {l : Le} {s0 s1 s2 s3 : Int} (h : KM w l s0 s1 s2 s3 u) (b : Below u.heap.size u u') : KM w l s0 s1 s2 s3 u' := ⟨h.1.trans (b.mono h.1.size), blk_call h.2.1 b, blk_call h.2.2.1 b, blk_call h.2.2.2 b⟩
theorem KM.start (w : World) (l : Le) (s0 s1 s2 s3 : Int) : KM w l s0 s1 s2 s3 (((w.alloc (.cells #[.int .i64 l.total, .int .i64 l.free, .int .i64 l.held, .int .i64 l.sold, .int .i64 l.tied] 32)).alloc (.cells #[.int .i64 s0, .int .i64 s1, .int .i64 s2, .int .i64 s3] 111)).alloc (.cells #[.int .i64 0, .int .i64 0, .int .i64 0, .int .i64 0, .int .i64 0] 32)) := by
  refine ⟨(((Below.refl _ _).alloc (Nat.le_refl _) _).alloc (by simp) _).alloc (by simp; omega) _, blk_alloc (blk_alloc (heap_new _ _) _) _, blk_alloc ?_ _, ?_⟩
  · have := heap_new (w.alloc (.cells #[.int .i64 l.total, .int .i64 l.free, .int .i64 l.held, .int .i64 l.sold, .int .i64 l.tied] 32)) (.cells #[.int .i64 s0, .int .i64 s1, .int .i64 s2, .int .i64 s3] 111 (0, 0)); simpa using this
  · have := heap_new ((w.alloc (.cells #[.int .i64 l.total, .int .i64 l.free, .int .i64 l.held, .int .i64 l.sold, .int .i64 l.tied] 32)).alloc (.cells #[.int .i64 s0, .int .i64 s1, .int .i64 s2, .int .i64 s3] 111)) (.cells #[.int .i64 0, .int .i64 0, .int .i64 0, .int .i64 0, .int .i64 0] 32 (0, 0)); simpa using this
/-- The moved ledger lies in a block made since. -/
def PutQ (u : World) (q : Le) (g : Nat) (w : World) : Prop := Below u.heap.size u w ∧ u.heap.size ≤ g ∧ w.heap[g]? = some (.cells #[.int .i64 q.total, .int .i64 q.free, .int .i64 q.held, .int .i64 q.sold, .int .i64 q.tied] 32 (0, 0))
set_option maxRecDepth 100000 in
set_option maxHeartbeats 3200000 in
theorem ledgerNew_impl (t : Int) (w : World) (ht : inI t) : Calls Try.prog 51 #[.int .i64 t] w fun e w' => e = .returned (.tuple #[leA (ledgerNewV t).1, .bool (ledgerNewV t).2]) ∧ Below w.heap.size w w' := by
  have CG := Lib.hid (fun w => ledger_any t 0 0 t 0 w)
  have CR := Lib.hid (fun w => ledgerOk_impl ⟨t, 0, 0, t, 0⟩ w ⟨ht, by constructor <;> simp, by constructor <;> simp, ht, by constructor <;> simp⟩)
  obtain ⟨R, hR⟩ : ∃ R : Value, .tuple #[leA (ledgerNewV t).1, .bool (ledgerNewV t).2] = R := ⟨_, rfl⟩
  rw [hR]
  unfold ledgerNewV at hR
  unfold leA at CR CG
  unfold cnA at CG
  by_cases h : 1 ≤ t ∧ t ≤ 60
  · have HV : Hid (R = .tuple #[leA ⟨t, 0, 0, t, 0⟩, .bool true]) := by show _ = _; rw [← hR, if_pos h]
    rw [decide_eq_true ((ledgerNew_fine t).2 h)] at CR
    clear hR ht
    go_enter Try.func51, Try.ntmps51
    go_wp2_with fail
    refine (CG.out _).mono ?_
    rintro e w1 ⟨rfl, b1⟩
    have hz := blk_call (heap_new w (.cells #[.int .i64 0, .int .i64 0, .int .i64 0, .int .i64 0, .int .i64 0] 32)) b1
    have B1 := boxB _ _ _ b1
    have hz := blk_alloc hz (.cells #[.int .i64 t, .int .i64 0, .int .i64 0, .int .i64 t, .int .i64 0] 32)
    have hq := heap_new w1 (.cells #[.int .i64 t, .int .i64 0, .int .i64 0, .int .i64 t, .int .i64 0] 32)
    have B1 := B1.alloc B1.size (.cells #[.int .i64 t, .int .i64 0, .int .i64 0, .int .i64 t, .int .i64 0] 32)
    clear b1 CG
    go_wp2_with fail
    refine (CR.out _).mono ?_
    rintro e w2 ⟨rfl, b2⟩
    have hz := blk_call hz b2
    have hq := blk_call hq b2
    have B2 := B1.trans (b2.mono B1.size)
    clear b2 B1 CR
    have c0 := cell_of_row _ _ 0 _ _ _ hq
    have e0 := cell_of_row _ _ 0 _ _ _ hz
    have f0 := frozen_of_row _ _ 0 _ _ hz
    have c1 := cell_of_row _ _ 1 _ _ _ hq
    have e1 := cell_of_row _ _ 1 _ _ _ hz
    have f1 := frozen_of_row _ _ 1 _ _ hz
    have c2 := cell_of_row _ _ 2 _ _ _ hq
    have e2 := cell_of_row _ _ 2 _ _ _ hz
    have f2 := frozen_of_row _ _ 2 _ _ hz
    have c3 := cell_of_row _ _ 3 _ _ _ hq
    have e3 := cell_of_row _ _ 3 _ _ _ hz
    have f3 := frozen_of_row _ _ 3 _ _ hz
    have c4 := cell_of_row _ _ 4 _ _ _ hq
    have e4 := cell_of_row _ _ 4 _ _ _ hz
    have f4 := frozen_of_row _ _ 4 _ _ hz
    simp at c0 c1 c2 c3 c4 e0 e1 e2 e3 e4
    have BW := Lib.hid B2
    clear hz hq B2
    go_wp2
    simp [bodyPost, results, Try.results51, go_sem, e0, e1, e2, e3, e4]
    refine ⟨by rw [HV.out] <;> rfl, ?_⟩
    repeat refine Below.setCell ?_ (by simp) _
    exact BW.out
  · have HV : Hid (R = .tuple #[leA le0, .bool false]) := by show _ = _; rw [← hR, if_neg h]
    rw [decide_eq_false (fun x => h ((ledgerNew_fine t).1 x))] at CR
    clear hR ht
    go_enter Try.func51, Try.ntmps51
    go_wp2_with fail
    refine (CG.out _).mono ?_
    rintro e w1 ⟨rfl, b1⟩
    have hz := blk_call (heap_new w (.cells #[.int .i64 0, .int .i64 0, .int .i64 0, .int .i64 0, .int .i64 0] 32)) b1
    have B1 := boxB _ _ _ b1
    have hz := blk_alloc hz (.cells #[.int .i64 t, .int .i64 0, .int .i64 0, .int .i64 t, .int .i64 0] 32)
    have hq := heap_new w1 (.cells #[.int .i64 t, .int .i64 0, .int .i64 0, .int .i64 t, .int .i64 0] 32)
    have B1 := B1.alloc B1.size (.cells #[.int .i64 t, .int .i64 0, .int .i64 0, .int .i64 t, .int .i64 0] 32)
    clear b1 CG
    go_wp2_with fail
    refine (CR.out _).mono ?_
    rintro e w2 ⟨rfl, b2⟩
    have hz := blk_call hz b2
    have hq := blk_call hq b2
    have B2 := B1.trans (b2.mono B1.size)
    clear b2 B1 CR
    have c0 := cell_of_row _ _ 0 _ _ _ hq
    have e0 := cell_of_row _ _ 0 _ _ _ hz
    have f0 := frozen_of_row _ _ 0 _ _ hz
    have c1 := cell_of_row _ _ 1 _ _ _ hq
    have e1 := cell_of_row _ _ 1 _ _ _ hz
    have f1 := frozen_of_row _ _ 1 _ _ hz
    have c2 := cell_of_row _ _ 2 _ _ _ hq
    have e2 := cell_of_row _ _ 2 _ _ _ hz
    have f2 := frozen_of_row _ _ 2 _ _ hz
    have c3 := cell_of_row _ _ 3 _ _ _ hq
    have e3 := cell_of_row _ _ 3 _ _ _ hz
    have f3 := frozen_of_row _ _ 3 _ _ hz
    have c4 := cell_of_row _ _ 4 _ _ _ hq
    have e4 := cell_of_row _ _ 4 _ _ _ hz
    have f4 := frozen_of_row _ _ 4 _ _ hz
    simp at c0 c1 c2 c3 c4 e0 e1 e2 e3 e4
    have BW := Lib.hid B2
    clear hz hq B2
    go_wp2
    simp [bodyPost, results, Try.results51, go_sem, e0, e1, e2, e3, e4]
    refine ⟨by rw [HV.out] <;> rfl, ?_⟩
    repeat refine Below.setCell ?_ (by simp) _
    exact BW.out
theorem seatsHold_turn (l : Le) (n : Int) (hn : inI n) : movedV l ⟨l.total, (IntKind.i64.wrap (l.free + (-n))), (IntKind.i64.wrap (l.held + n)), (IntKind.i64.wrap (l.sold + 0)), (IntKind.i64.wrap (l.tied + 0))⟩ n = turnV l n (-n) n 0 0 := by
  unfold movedV turnV
  obtain ⟨n1, n2⟩ := hn
  by_cases h1 : l.fine
  · obtain ⟨t1, t2, t3, t4, t5, t6⟩ := id h1
    by_cases h2 : 0 ≤ n
    · by_cases h3 : n ≤ 60
      · have hw : ∀ x : Int, -1000 ≤ x → x ≤ 1000 → IntKind.i64.wrap x = x := fun x a b => by rw [IntKind.wrap_i64]; omega
        rw [hw (l.free + (-n)) (by omega) (by omega), hw (l.held + n) (by omega) (by omega), hw (l.sold + 0) (by omega) (by omega), hw (l.tied + 0) (by omega) (by omega)]
        simp only [h1, h2, h3, true_and]
      · rw [if_neg (fun h => ?_), if_neg (fun h => h3 h.2.1.2)]
        obtain ⟨-, -, k1, k2, k3, k4, k5, k6⟩ := h
        simp only [IntKind.wrap_i64] at k1 k2 k3 k4 k5 k6
        omega
    · rw [if_neg (fun h => h2 h.2.1), if_neg (fun h => h2 h.2.1.1)]
  · rw [if_neg (fun h => h1 h.1), if_neg (fun h => h1 h.1)]
theorem seatsDrop_turn (l : Le) (n : Int) (hn : inI n) : movedV l ⟨l.total, (IntKind.i64.wrap (l.free + n)), (IntKind.i64.wrap (l.held + (-n))), (IntKind.i64.wrap (l.sold + 0)), (IntKind.i64.wrap (l.tied + 0))⟩ n = turnV l n n (-n) 0 0 := by
  unfold movedV turnV
  obtain ⟨n1, n2⟩ := hn
  by_cases h1 : l.fine
  · obtain ⟨t1, t2, t3, t4, t5, t6⟩ := id h1
    by_cases h2 : 0 ≤ n
    · by_cases h3 : n ≤ 60
      · have hw : ∀ x : Int, -1000 ≤ x → x ≤ 1000 → IntKind.i64.wrap x = x := fun x a b => by rw [IntKind.wrap_i64]; omega
        rw [hw (l.free + n) (by omega) (by omega), hw (l.held + (-n)) (by omega) (by omega), hw (l.sold + 0) (by omega) (by omega), hw (l.tied + 0) (by omega) (by omega)]
        simp only [h1, h2, h3, true_and]
      · rw [if_neg (fun h => ?_), if_neg (fun h => h3 h.2.1.2)]
        obtain ⟨-, -, k1, k2, k3, k4, k5, k6⟩ := h
        simp only [IntKind.wrap_i64] at k1 k2 k3 k4 k5 k6
        omega
    · rw [if_neg (fun h => h2 h.2.1), if_neg (fun h => h2 h.2.1.1)]
  · rw [if_neg (fun h => h1 h.1), if_neg (fun h => h1 h.1)]
theorem seatsSell_turn (l : Le) (n : Int) (hn : inI n) : movedV l ⟨l.total, (IntKind.i64.wrap (l.free + 0)), (IntKind.i64.wrap (l.held + (-n))), (IntKind.i64.wrap (l.sold + n)), (IntKind.i64.wrap (l.tied + 0))⟩ n = turnV l n 0 (-n) n 0 := by
  unfold movedV turnV
  obtain ⟨n1, n2⟩ := hn
  by_cases h1 : l.fine
  · obtain ⟨t1, t2, t3, t4, t5, t6⟩ := id h1
    by_cases h2 : 0 ≤ n
    · by_cases h3 : n ≤ 60
      · have hw : ∀ x : Int, -1000 ≤ x → x ≤ 1000 → IntKind.i64.wrap x = x := fun x a b => by rw [IntKind.wrap_i64]; omega
        rw [hw (l.free + 0) (by omega) (by omega), hw (l.held + (-n)) (by omega) (by omega), hw (l.sold + n) (by omega) (by omega), hw (l.tied + 0) (by omega) (by omega)]
        simp only [h1, h2, h3, true_and]
      · rw [if_neg (fun h => ?_), if_neg (fun h => h3 h.2.1.2)]
        obtain ⟨-, -, k1, k2, k3, k4, k5, k6⟩ := h
        simp only [IntKind.wrap_i64] at k1 k2 k3 k4 k5 k6
        omega
    · rw [if_neg (fun h => h2 h.2.1), if_neg (fun h => h2 h.2.1.1)]
  · rw [if_neg (fun h => h1 h.1), if_neg (fun h => h1 h.1)]
theorem seatsFree_turn (l : Le) (n : Int) (hn : inI n) : movedV l ⟨l.total, (IntKind.i64.wrap (l.free + n)), (IntKind.i64.wrap (l.held + 0)), (IntKind.i64.wrap (l.sold + (-n))), (IntKind.i64.wrap (l.tied + 0))⟩ n = turnV l n n 0 (-n) 0 := by
  unfold movedV turnV
  obtain ⟨n1, n2⟩ := hn
  by_cases h1 : l.fine
  · obtain ⟨t1, t2, t3, t4, t5, t6⟩ := id h1
    by_cases h2 : 0 ≤ n
    · by_cases h3 : n ≤ 60
      · have hw : ∀ x : Int, -1000 ≤ x → x ≤ 1000 → IntKind.i64.wrap x = x := fun x a b => by rw [IntKind.wrap_i64]; omega
        rw [hw (l.free + n) (by omega) (by omega), hw (l.held + 0) (by omega) (by omega), hw (l.sold + (-n)) (by omega) (by omega), hw (l.tied + 0) (by omega) (by omega)]
        simp only [h1, h2, h3, true_and]
      · rw [if_neg (fun h => ?_), if_neg (fun h => h3 h.2.1.2)]
        obtain ⟨-, -, k1, k2, k3, k4, k5, k6⟩ := h
        simp only [IntKind.wrap_i64] at k1 k2 k3 k4 k5 k6
        omega
    · rw [if_neg (fun h => h2 h.2.1), if_neg (fun h => h2 h.2.1.1)]
  · rw [if_neg (fun h => h1 h.1), if_neg (fun h => h1 h.1)]
theorem seatsTie_turn (l : Le) (n : Int) (hn : inI n) : movedV l ⟨l.total, (IntKind.i64.wrap (l.free + 0)), (IntKind.i64.wrap (l.held + 0)), (IntKind.i64.wrap (l.sold + 0)), (IntKind.i64.wrap (l.tied + n))⟩ n = turnV l n 0 0 0 n := by
  unfold movedV turnV
  obtain ⟨n1, n2⟩ := hn
  by_cases h1 : l.fine
  · obtain ⟨t1, t2, t3, t4, t5, t6⟩ := id h1
    by_cases h2 : 0 ≤ n
    · by_cases h3 : n ≤ 60
      · have hw : ∀ x : Int, -1000 ≤ x → x ≤ 1000 → IntKind.i64.wrap x = x := fun x a b => by rw [IntKind.wrap_i64]; omega
        rw [hw (l.free + 0) (by omega) (by omega), hw (l.held + 0) (by omega) (by omega), hw (l.sold + 0) (by omega) (by omega), hw (l.tied + n) (by omega) (by omega)]
        simp only [h1, h2, h3, true_and]
      · rw [if_neg (fun h => ?_), if_neg (fun h => h3 h.2.1.2)]
        obtain ⟨-, -, k1, k2, k3, k4, k5, k6⟩ := h
        simp only [IntKind.wrap_i64] at k1 k2 k3 k4 k5 k6
        omega
    · rw [if_neg (fun h => h2 h.2.1), if_neg (fun h => h2 h.2.1.1)]
  · rw [if_neg (fun h => h1 h.1), if_neg (fun h => h1 h.1)]
theorem seatsUntie_turn (l : Le) (n : Int) (hn : inI n) : movedV l ⟨l.total, (IntKind.i64.wrap (l.free + 0)), (IntKind.i64.wrap (l.held + 0)), (IntKind.i64.wrap (l.sold + 0)), (IntKind.i64.wrap (l.tied + (-n)))⟩ n = turnV l n 0 0 0 (-n) := by
  unfold movedV turnV
  obtain ⟨n1, n2⟩ := hn
  by_cases h1 : l.fine
  · obtain ⟨t1, t2, t3, t4, t5, t6⟩ := id h1
    by_cases h2 : 0 ≤ n
    · by_cases h3 : n ≤ 60
      · have hw : ∀ x : Int, -1000 ≤ x → x ≤ 1000 → IntKind.i64.wrap x = x := fun x a b => by rw [IntKind.wrap_i64]; omega
        rw [hw (l.free + 0) (by omega) (by omega), hw (l.held + 0) (by omega) (by omega), hw (l.sold + 0) (by omega) (by omega), hw (l.tied + (-n)) (by omega) (by omega)]
        simp only [h1, h2, h3, true_and]
      · rw [if_neg (fun h => ?_), if_neg (fun h => h3 h.2.1.2)]
        obtain ⟨-, -, k1, k2, k3, k4, k5, k6⟩ := h
        simp only [IntKind.wrap_i64] at k1 k2 k3 k4 k5 k6
        omega
    · rw [if_neg (fun h => h2 h.2.1), if_neg (fun h => h2 h.2.1.1)]
  · rw [if_neg (fun h => h1 h.1), if_neg (fun h => h1 h.1)]
end Go.Proofs.Ytdjglbmcpfaofaa
