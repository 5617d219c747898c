/- Counts of the program; LedgerOk of the program. -/
import Derived.Test.YtdjglbmcpfaofaaRows
import Derived.Test.YtdjglbmcpfaofaaLe3
import Derived.Test.YtdjglbmcpfaofaaG5
import Derived.ChangeKeysEq
namespace Go.Proofs.Ytdjglbmcpfaofaa
open Go.RowKit
set_option linter.unusedSimpArgs false
set_option linter.unusedVariables false
/-- Four counts as a value. -/
def cnA (a b c d : Int) : Value := .agg #[.int .i64 a, .int .i64 b, .int .i64 c, .int .i64 d]
set_option maxRecDepth 100000 in
theorem countsOf_any (l : Le) (w : World) : Calls Try.prog 116 #[leA l] w fun e w' => e = .returned (cnA l.free l.held l.sold l.tied) ∧ Below w.heap.size w w' := by
  unfold leA cnA
  go_enter Try.func116, Try.ntmps116
  go_wp2
  simp [bodyPost, results, Try.results116, go_sem]
  exact ((Below.refl _ _).alloc (Nat.le_refl _) _).alloc (by simp) _
set_option maxRecDepth 100000 in
theorem ledger_any (t a b c d : Int) (w : World) : Calls Try.prog 85 #[cnA a b c d, .int .i64 t] w fun e w' => e = .returned (leA ⟨t, a, b, c, d⟩) ∧ Below w.heap.size w w' := by
  unfold leA cnA
  go_enter Try.func85, Try.ntmps85
  go_wp2
  simp [bodyPost, results, Try.results85, go_sem]
  exact ((Below.refl _ _).alloc (Nat.le_refl _) _).alloc (by simp) _
set_option maxRecDepth 100000 in
theorem limit_any (n lo hi : Int) (w : World) (h1 : inI n) (h2 : inI lo) (h3 : inI hi) : Calls Try.prog 140 #[.int .i64 n, .int .i64 lo, .int .i64 hi] w fun e w' => e = .returned (.int .i64 (min (max n lo) hi)) ∧ w = w' := by
  go_enter Try.func140, Try.ntmps140
  go_wp2
  all_goals
    go_ret
    refine ⟨?_, rfl⟩
    show Ending.returned (Value.int .i64 _) = Ending.returned (Value.int .i64 _)
    congr 2
    first | omega | (split at * <;> omega)
/-- A count in its limits. -/
def lim (x t : Int) : Int := min (max x 0) t
/-- A count at the i-th visit. -/
def limI (i j : Nat) (x t : Int) : Int := if j < i then lim x t else x
theorem fourI {i : Nat} (h : i < 4) : i = 0 ∨ i = 1 ∨ i = 2 ∨ i = 3 := by omega
set_option maxRecDepth 100000 in
theorem idx4_0 (a b c d : Int) (w : World) : Sem.run Try.prog (Instr.index 111 (.agg #[.int .i64 a, .int .i64 b, .int .i64 c, .int .i64 d]) (.int .i64 0)) w = .ok (.int .i64 a) w := by kernel_rfl
set_option maxRecDepth 100000 in
theorem idx4_1 (a b c d : Int) (w : World) : Sem.run Try.prog (Instr.index 111 (.agg #[.int .i64 a, .int .i64 b, .int .i64 c, .int .i64 d]) (.int .i64 1)) w = .ok (.int .i64 b) w := by kernel_rfl
set_option maxRecDepth 100000 in
theorem idx4_2 (a b c d : Int) (w : World) : Sem.run Try.prog (Instr.index 111 (.agg #[.int .i64 a, .int .i64 b, .int .i64 c, .int .i64 d]) (.int .i64 2)) w = .ok (.int .i64 c) w := by kernel_rfl
set_option maxRecDepth 100000 in
theorem idx4_3 (a b c d : Int) (w : World) : Sem.run Try.prog (Instr.index 111 (.agg #[.int .i64 a, .int .i64 b, .int .i64 c, .int .i64 d]) (.int .i64 3)) w = .ok (.int .i64 d) w := by kernel_rfl
set_option maxRecDepth 100000 in
set_option maxHeartbeats 1600000 in
theorem limitedTo_any (a b c d t : Int) (w : World) (ha : inI a) (hb : inI b) (hc : inI c) (hd : inI d) (ht : inI t) :
    Calls Try.prog 117 #[cnA a b c d, .int .i64 t] w fun e w' => e = .returned (cnA (lim a t) (lim b t) (lim c t) (lim d t)) ∧ Below w.heap.size w w' := by
  have CL := Lib.hid (fun (x : Int) (hx : inI x) w => limit_any x 0 t w hx ⟨by omega, by omega⟩ ht)
  have P : Below w.heap.size w ((w.alloc (.cells #[.int .i64 a, .int .i64 b, .int .i64 c, .int .i64 d] 111)).alloc (.cells #[.int .i64 0, .int .i64 0, .int .i64 0, .int .i64 0] 111)) ∧ ((w.alloc (.cells #[.int .i64 a, .int .i64 b, .int .i64 c, .int .i64 d] 111)).alloc (.cells #[.int .i64 0, .int .i64 0, .int .i64 0, .int .i64 0] 111)).heap[w.heap.size]? = some (.cells #[.int .i64 (limI 0 0 a t), .int .i64 (limI 0 1 b t), .int .i64 (limI 0 2 c t), .int .i64 (limI 0 3 d t)] 111 (0, 0)) ∧ ((w.alloc (.cells #[.int .i64 a, .int .i64 b, .int .i64 c, .int .i64 d] 111)).alloc (.cells #[.int .i64 0, .int .i64 0, .int .i64 0, .int .i64 0] 111)).heap[w.heap.size + 1]? = some (.cells #[.int .i64 0, .int .i64 0, .int .i64 0, .int .i64 0] 111 (0, 0)) :=
    ⟨((Below.refl _ _).alloc (Nat.le_refl _) _).alloc (by simp) _, blk_alloc (heap_new _ _) _, by have := heap_new (w.alloc (.cells #[.int .i64 a, .int .i64 b, .int .i64 c, .int .i64 d] 111)) (.cells #[.int .i64 0, .int .i64 0, .int .i64 0, .int .i64 0] 111 (0, 0)); simpa using this⟩
  have HP := Lib.hid P
  clear P
  unfold cnA
  go_enter Try.func117, Try.ntmps117
  go_wp2
  go_loopw [8] (fun vi wr => ∃ i : Nat, i ≤ 4 ∧ vi = .int .i64 i ∧ Below w.heap.size w wr ∧ wr.heap[w.heap.size]? = some (.cells #[.int .i64 (limI i 0 a t), .int .i64 (limI i 1 b t), .int .i64 (limI i 2 c t), .int .i64 (limI i 3 d t)] 111 (0, 0)) ∧ wr.heap[w.heap.size + 1]? = some (.cells #[.int .i64 0, .int .i64 0, .int .i64 0, .int .i64 0] 111 (0, 0))) (fun vi _ => 4 - (intOf vi).toNat)
  case atStart => exact ⟨0, by omega, rfl, HP.out⟩
  case round =>
    obtain ⟨i, hi4, rfl, hB, hR, hG⟩ := hrel
    clear HP
    by_cases hlt : i < 4
    · rcases fourI hlt with rfl | rfl | rfl | rfl
      · have c0 := cell_of_row _ _ 0 _ _ _ hR
        have z0 := frozen_of_row _ _ 0 _ _ hR
        simp [limI] at c0
        have C := Lib.hid (CL.out a ha wr)
        have P : Below w.heap.size w (wr.setCell ⟨w.heap.size, 0, none⟩ (.int .i64 (lim a t))) ∧ (wr.setCell ⟨w.heap.size, 0, none⟩ (.int .i64 (lim a t))).heap[w.heap.size]? = some (.cells #[.int .i64 (limI 1 0 a t), .int .i64 (limI 1 1 b t), .int .i64 (limI 1 2 c t), .int .i64 (limI 1 3 d t)] 111 (0, 0)) ∧ (wr.setCell ⟨w.heap.size, 0, none⟩ (.int .i64 (lim a t))).heap[w.heap.size + 1]? = some (.cells #[.int .i64 0, .int .i64 0, .int .i64 0, .int .i64 0] 111 (0, 0)) :=
          ⟨hB.setCell (by simp) _, Go.heap_setCell_same _ _ _ _ _ _ hR, by rw [Below.heap_setCell _ _ _ _ (by simp)]; exact hG⟩
        have HP := Lib.hid P
        clear P hR hG hB ha hb hc hd ht CL
        unfold lim at HP
        go_wp2_with fail
        rw [idx4_0]
        go_wp2_with fail
        refine C.out.mono ?_
        rintro e w2 ⟨rfl, rfl⟩
        go_wp2
        go_roundw
        case rel => exact ⟨1, by omega, by go_num, HP.out⟩
        case measure => simp [intOf] <;> omega
      · have c1 := cell_of_row _ _ 1 _ _ _ hR
        have z1 := frozen_of_row _ _ 1 _ _ hR
        simp [limI] at c1
        have C := Lib.hid (CL.out b hb wr)
        have P : Below w.heap.size w (wr.setCell ⟨w.heap.size, 1, none⟩ (.int .i64 (lim b t))) ∧ (wr.setCell ⟨w.heap.size, 1, none⟩ (.int .i64 (lim b t))).heap[w.heap.size]? = some (.cells #[.int .i64 (limI 2 0 a t), .int .i64 (limI 2 1 b t), .int .i64 (limI 2 2 c t), .int .i64 (limI 2 3 d t)] 111 (0, 0)) ∧ (wr.setCell ⟨w.heap.size, 1, none⟩ (.int .i64 (lim b t))).heap[w.heap.size + 1]? = some (.cells #[.int .i64 0, .int .i64 0, .int .i64 0, .int .i64 0] 111 (0, 0)) :=
          ⟨hB.setCell (by simp) _, Go.heap_setCell_same _ _ _ _ _ _ hR, by rw [Below.heap_setCell _ _ _ _ (by simp)]; exact hG⟩
        have HP := Lib.hid P
        clear P hR hG hB ha hb hc hd ht CL
        unfold lim at HP
        go_wp2_with fail
        rw [idx4_1]
        go_wp2_with fail
        refine C.out.mono ?_
        rintro e w2 ⟨rfl, rfl⟩
        go_wp2
        go_roundw
        case rel => exact ⟨2, by omega, by go_num, HP.out⟩
        case measure => simp [intOf] <;> omega
      · have c2 := cell_of_row _ _ 2 _ _ _ hR
        have z2 := frozen_of_row _ _ 2 _ _ hR
        simp [limI] at c2
        have C := Lib.hid (CL.out c hc wr)
        have P : Below w.heap.size w (wr.setCell ⟨w.heap.size, 2, none⟩ (.int .i64 (lim c t))) ∧ (wr.setCell ⟨w.heap.size, 2, none⟩ (.int .i64 (lim c t))).heap[w.heap.size]? = some (.cells #[.int .i64 (limI 3 0 a t), .int .i64 (limI 3 1 b t), .int .i64 (limI 3 2 c t), .int .i64 (limI 3 3 d t)] 111 (0, 0)) ∧ (wr.setCell ⟨w.heap.size, 2, none⟩ (.int .i64 (lim c t))).heap[w.heap.size + 1]? = some (.cells #[.int .i64 0, .int .i64 0, .int .i64 0, .int .i64 0] 111 (0, 0)) :=
          ⟨hB.setCell (by simp) _, Go.heap_setCell_same _ _ _ _ _ _ hR, by rw [Below.heap_setCell _ _ _ _ (by simp)]; exact hG⟩
        have HP := Lib.hid P
        clear P hR hG hB ha hb hc hd ht CL
        unfold lim at HP
        go_wp2_with fail
        rw [idx4_2]
        go_wp2_with fail
        refine C.out.mono ?_
        rintro e w2 ⟨rfl, rfl⟩
        go_wp2
        go_roundw
        case rel => exact ⟨3, by omega, by go_num, HP.out⟩
        case measure => simp [intOf] <;> omega
      · have c3 := cell_of_row _ _ 3 _ _ _ hR
        have z3 := frozen_of_row _ _ 3 _ _ hR
        simp [limI] at c3
        have C := Lib.hid (CL.out d hd wr)
        have P : Below w.heap.size w (wr.setCell ⟨w.heap.size, 3, none⟩ (.int .i64 (lim d t))) ∧ (wr.setCell ⟨w.heap.size, 3, none⟩ (.int .i64 (lim d t))).heap[w.heap.size]? = some (.cells #[.int .i64 (limI 4 0 a t), .int .i64 (limI 4 1 b t), .int .i64 (limI 4 2 c t), .int .i64 (limI 4 3 d t)] 111 (0, 0)) ∧ (wr.setCell ⟨w.heap.size, 3, none⟩ (.int .i64 (lim d t))).heap[w.heap.size + 1]? = some (.cells #[.int .i64 0, .int .i64 0, .int .i64 0, .int .i64 0] 111 (0, 0)) :=
          ⟨hB.setCell (by simp) _, Go.heap_setCell_same _ _ _ _ _ _ hR, by rw [Below.heap_setCell _ _ _ _ (by simp)]; exact hG⟩
        have HP := Lib.hid P
        clear P hR hG hB ha hb hc hd ht CL
        unfold lim at HP
        go_wp2_with fail
        rw [idx4_3]
        go_wp2_with fail
        refine C.out.mono ?_
        rintro e w2 ⟨rfl, rfl⟩
        go_wp2
        go_roundw
        case rel => exact ⟨4, by omega, by go_num, HP.out⟩
        case measure => simp [intOf] <;> omega
    · obtain rfl : i = 4 := by omega
      have HB := Lib.hid hB
      have c0 := cell_of_row _ _ 0 _ _ _ hR
      have d0 := cell_of_row _ _ 0 _ _ _ hG
      have z0 := frozen_of_row _ _ 0 _ _ hG
      have c1 := cell_of_row _ _ 1 _ _ _ hR
      have d1 := cell_of_row _ _ 1 _ _ _ hG
      have z1 := frozen_of_row _ _ 1 _ _ hG
      have c2 := cell_of_row _ _ 2 _ _ _ hR
      have d2 := cell_of_row _ _ 2 _ _ _ hG
      have z2 := frozen_of_row _ _ 2 _ _ hG
      have c3 := cell_of_row _ _ 3 _ _ _ hR
      have d3 := cell_of_row _ _ 3 _ _ _ hG
      have z3 := frozen_of_row _ _ 3 _ _ hG
      simp [limI] at c0 c1 c2 c3 d0 d1 d2 d3
      clear hR hG hB
      go_wp2
      simp [bodyPost, results, Try.results117, go_sem, d0, d1, d2, d3]
      repeat refine Below.setCell ?_ (by simp) _
      exact HB.out
set_option maxRecDepth 100000 in
theorem exec_mulI {ρ : Operand → Value} {o : Oper} {x y : Operand} (X Y Z : Int) (w : World) (h : X * Y = Z) (h1 : -9223372036854775808 ≤ Z) (h2 : Z ≤ 9223372036854775807) (ho : o.op = .binOp .mul 3 x y 3 := by rfl) (hx : ρ x = .int .i64 X := by rfl) (hy : ρ y = .int .i64 Y := by rfl) :
    (execOp ρ o).run Try.prog w = .ok (.value (.int .i64 Z)) w := by
  have hw : IntKind.i64.wrap Z = Z := by rw [IntKind.wrap_i64]; omega
  unfold execOp
  rw [ho]
  simp [go_sem, hx, hy, h, hw]
set_option maxRecDepth 100000 in
theorem exec_addQ {ρ : Operand → Value} {o : Oper} {x y : Operand} (X Y Z : Int) (w : World) (h : IntKind.i64.wrap (X + Y) = Z) (ho : o.op = .binOp .add 3 x y 3 := by rfl) (hx : ρ x = .int .i64 X := by rfl) (hy : ρ y = .int .i64 Y := by rfl) :
    (execOp ρ o).run Try.prog w = .ok (.value (.int .i64 Z)) w := by
  unfold execOp
  rw [ho]
  simp [go_sem, hx, hy, h]
set_option maxRecDepth 100000 in
theorem exec_idx4 {ρ : Operand → Value} {o : Oper} {x y : Operand} (g i : Nat) (w : World) (h : i < 4) (ho : o.op = .indexAddr 111 x y := by rfl) (hx : ρ x = .pointer (some ⟨g, 0, none⟩) := by rfl) (hy : ρ y = .int .i64 (i : Int) := by rfl) :
    (execOp ρ o).run Try.prog w = .ok (.value (.pointer (some ⟨g, i, none⟩))) w := by
  unfold execOp
  rw [ho]
  rcases fourI h with rfl | rfl | rfl | rfl <;> simp [go_sem, hx, hy]
/-- A count at the i-th visit of plus. -/
def plI (i j : Nat) (x q : Int) : Int := if j < i then q else x
/-- The world at the i-th visit of plus. -/
def PlAt (w : World) (a b c d s0 s1 s2 s3 q0 q1 q2 q3 : Int) (i : Nat) (wr : World) : Prop := Below w.heap.size w wr ∧ wr.heap[w.heap.size]? = some (.cells #[.int .i64 (plI i 0 a q0), .int .i64 (plI i 1 b q1), .int .i64 (plI i 2 c q2), .int .i64 (plI i 3 d q3)] 111 (0, 0)) ∧ wr.heap[w.heap.size + 1]? = some (.cells #[.int .i64 s0, .int .i64 s1, .int .i64 s2, .int .i64 s3] 111 (0, 0)) ∧ wr.heap[w.heap.size + 2]? = some (.cells #[.int .i64 0, .int .i64 0, .int .i64 0, .int .i64 0] 111 (0, 0))
theorem plAt_zero (w : World) (a b c d s0 s1 s2 s3 q0 q1 q2 q3 : Int) : PlAt w a b c d s0 s1 s2 s3 q0 q1 q2 q3 0 (((w.alloc (.cells #[.int .i64 a, .int .i64 b, .int .i64 c, .int .i64 d] 111)).alloc (.cells #[.int .i64 s0, .int .i64 s1, .int .i64 s2, .int .i64 s3] 111)).alloc (.cells #[.int .i64 0, .int .i64 0, .int .i64 0, .int .i64 0] 111)) := by
  refine ⟨(((Below.refl _ _).alloc (Nat.le_refl _) _).alloc (by simp) _).alloc (by simp; omega) _, blk_alloc (blk_alloc (heap_new _ _) _) _, blk_alloc ?_ _, ?_⟩
  · have := heap_new (w.alloc (.cells #[.int .i64 a, .int .i64 b, .int .i64 c, .int .i64 d] 111)) (.cells #[.int .i64 s0, .int .i64 s1, .int .i64 s2, .int .i64 s3] 111 (0, 0)); simpa using this
  · have := heap_new ((w.alloc (.cells #[.int .i64 a, .int .i64 b, .int .i64 c, .int .i64 d] 111)).alloc (.cells #[.int .i64 s0, .int .i64 s1, .int .i64 s2, .int .i64 s3] 111)) (.cells #[.int .i64 0, .int .i64 0, .int .i64 0, .int .i64 0] 111 (0, 0)); simpa using this
set_option maxRecDepth 100000 in
theorem inSpan_any (x a b : Int) (w : World) : Calls Try.prog 79 #[.int .i64 x, .int .i64 a, .int .i64 b] w fun e w' => e = .returned (.bool (decide (a ≤ x ∧ x ≤ b))) ∧ w = w' := by
  by_cases h1 : a ≤ x <;> by_cases h2 : x ≤ b
  all_goals
    go_enter Try.func79, Try.ntmps79
    go_wp2
    go_ret
    exact ⟨by simp [h1, h2], rfl⟩
set_option maxRecDepth 100000 in
theorem inSpan_yes (x a b : Int) (w : World) (h : a ≤ x ∧ x ≤ b) : Calls Try.prog 79 #[.int .i64 x, .int .i64 a, .int .i64 b] w fun e w' => e = .returned (.bool true) ∧ w = w' :=
  (inSpan_any x a b w).mono fun e w' ⟨he, hw⟩ => ⟨by rw [he]; simp [h], hw⟩
set_option maxRecDepth 100000 in
theorem inSpan_no (x a b : Int) (w : World) (h : ¬ (a ≤ x ∧ x ≤ b)) : Calls Try.prog 79 #[.int .i64 x, .int .i64 a, .int .i64 b] w fun e w' => e = .returned (.bool false) ∧ w = w' :=
  (inSpan_any x a b w).mono fun e w' ⟨he, hw⟩ => ⟨by rw [he]; simp only [h, decide_false], hw⟩
/-- The ledger's block and that of its counts lie there. -/
def KL (w : World) (G : Nat) (l : Le) (u : World) : Prop := Below w.heap.size w u ∧ u.heap[w.heap.size]? = some (.cells #[.int .i64 l.total, .int .i64 l.free, .int .i64 l.held, .int .i64 l.sold, .int .i64 l.tied] 32 (0, 0)) ∧ u.heap[G]? = some (.cells #[.int .i64 l.free, .int .i64 l.held, .int .i64 l.sold, .int .i64 l.tied] 111 (0, 0))
theorem KL.call {w u u' : World} {G : Nat} {l : Le} (h : KL w G l u) (b : Below u.heap.size u u') : KL w G l u' := ⟨h.1.trans (b.mono h.1.size), blk_call h.2.1 b, blk_call h.2.2 b⟩
theorem KL.drew {w u : World} {G : Nat} {l : Le} (h : KL w G l u) : KL w G l u.drew := ⟨below_drawn h.1 1, h.2.1, h.2.2⟩
set_option maxRecDepth 100000 in
theorem exec_fldLe {ρ : Operand → Value} {o : Oper} {x : Operand} (b off f : Nat) (w : World) (hf : f < 5) (ho : o.op = .fieldAddr 32 x f := by rfl) (hx : ρ x = .pointer (some ⟨b, off, none⟩) := by rfl) :
    (execOp ρ o).run Try.prog w = .ok (.value (.pointer (some ⟨b, off + f, none⟩))) w := by
  unfold execOp
  rw [ho]
  rcases (show f = 0 ∨ f = 1 ∨ f = 2 ∨ f = 3 ∨ f = 4 by omega) with rfl | rfl | rfl | rfl | rfl <;> simp [go_sem, hx]
set_option maxRecDepth 100000 in
theorem exec_idx4c {ρ : Operand → Value} {o : Oper} {x : Operand} (g i : Nat) (w : World) (h : i < 4) (ho : o.op = .indexAddr 111 x (.const (.int .i64 i)) := by rfl) (hx : ρ x = .pointer (some ⟨g, 0, none⟩) := by rfl) (hc : ρ (.const (.int .i64 i)) = .int .i64 i := by rfl) :
    (execOp ρ o).run Try.prog w = .ok (.value (.pointer (some ⟨g, i, none⟩))) w := by
  unfold execOp
  rw [ho]
  rcases fourI h with rfl | rfl | rfl | rfl <;> simp [go_sem, hx, hc] <;> simp at hc <;> simp [hc, go_sem]
set_option maxRecDepth 100000 in
theorem exec_loadCn {ρ : Operand → Value} {o : Oper} {x : Operand} (g : Nat) (a b c d : Int) (w : World) (h : w.heap[g]? = some (.cells #[.int .i64 a, .int .i64 b, .int .i64 c, .int .i64 d] 111 (0, 0))) (ho : o.op = .load 111 x := by rfl) (hx : ρ x = .pointer (some ⟨g, 0, none⟩) := by rfl) :
    (execOp ρ o).run Try.prog w = .ok (.value (cnA a b c d)) w := by
  have c0 := cell_of_row _ _ 0 _ _ _ h
  have c1 := cell_of_row _ _ 1 _ _ _ h
  have c2 := cell_of_row _ _ 2 _ _ _ h
  have c3 := cell_of_row _ _ 3 _ _ _ h
  simp at c0 c1 c2 c3
  unfold execOp
  rw [ho]
  simp [go_sem, hx, c0, c1, c2, c3, cnA]
set_option maxRecDepth 100000 in
theorem run_eqlCn (a b c d a' b' c' d' : Int) (w : World) : (Op.equalIn 10000 111 (.agg #[.int .i64 a, .int .i64 b, .int .i64 c, .int .i64 d]) (.agg #[.int .i64 a', .int .i64 b', .int .i64 c', .int .i64 d'])).run Try.prog w = .ok (decide (a = a' ∧ b = b' ∧ c = c' ∧ d = d')) w := by
  obtain ⟨i, hi⟩ : ∃ i, Try.prog.info? 3 = some i := Option.isSome_iff_exists.1 (by kernel_rfl)
  rw [Go.run_equalIn_array w 9999 _ _ Try.underlying111 hi]
  have hc3 : Try.prog.cellsOf 3 = 1 := by kernel_rfl
  by_cases h1 : a = a' <;> by_cases h2 : b = b' <;> by_cases h3 : c = c' <;> by_cases h4 : d = d' <;>
  simp [Op.eqItems, go_sem, List.range_succ, h1, h2, h3, h4, hc3]
set_option maxRecDepth 100000 in
theorem exec_eqlCn {ρ : Operand → Value} {o : Oper} {x y : Operand} (a b c d a' b' c' d' : Int) (v : Bool) (w : World) (hv : decide (a = a' ∧ b = b' ∧ c = c' ∧ d = d') = v) (ho : o.op = .binOp .eql 111 x y 111 := by rfl) (hx : ρ x = cnA a b c d := by rfl) (hy : ρ y = cnA a' b' c' d' := by rfl) :
    (execOp ρ o).run Try.prog w = .ok (.value (.bool v)) w := by
  rw [← hv]
  unfold execOp
  rw [ho]
  simp only [hx, hy, cnA]
  simp [go_sem, run_eqlCn]
set_option maxRecDepth 100000 in
theorem exec_eqlD {ρ : Operand → Value} {o : Oper} {x y : Operand} (X Y : Int) (d : Bool) (w : World) (hd : decide (X = Y) = d) (ho : o.op = .binOp .eql 3 x y 3 := by rfl) (hx : ρ x = .int .i64 X := by rfl) (hy : ρ y = .int .i64 Y := by rfl) :
    (execOp ρ o).run Try.prog w = .ok (.value (.bool d)) w := by
  subst hd
  unfold execOp
  rw [ho]
  by_cases h : X = Y
  · simp [go_sem, hx, hy, h]
  · simp [go_sem, hx, hy, h]
set_option maxRecDepth 100000 in
theorem exec_pickN {ρ : Operand → Value} {o : Oper} {x y z : Operand} (v : Value) (w : World) (ho : o.op = .pick x y z := by rfl) (hx : ρ x = .bool false := by rfl) (hz : ρ z = v := by rfl) :
    (execOp ρ o).run Try.prog w = .ok (.value v) w := by
  unfold execOp
  rw [ho]
  simp [go_sem, hx, hz]
set_option maxRecDepth 100000 in
theorem exec_pickY {ρ : Operand → Value} {o : Oper} {x y z : Operand} (v : Value) (w : World) (ho : o.op = .pick x y z := by rfl) (hx : ρ x = .bool true := by rfl) (hy : ρ y = v := by rfl) :
    (execOp ρ o).run Try.prog w = .ok (.value v) w := by
  unfold execOp
  rw [ho]
  simp [go_sem, hx, hy]
set_option maxRecDepth 100000 in
theorem exec_leqD {ρ : Operand → Value} {o : Oper} {x y : Operand} (X Y : Int) (d : Bool) (w : World) (hd : decide (X ≤ Y) = d) (ho : o.op = .binOp .leq 3 x y 3 := by rfl) (hx : ρ x = .int .i64 X := by rfl) (hy : ρ y = .int .i64 Y := by rfl) :
    (execOp ρ o).run Try.prog w = .ok (.value (.bool d)) w := by
  subst hd
  unfold execOp
  rw [ho]
  simp [go_sem, hx, hy]
theorem lim_iff (x t : Int) (ht : 0 ≤ t) : x = lim x t ↔ 0 ≤ x ∧ x ≤ t := by unfold lim; omega
set_option maxRecDepth 100000 in
set_option maxHeartbeats 3200000 in
theorem ledgerOk_impl (l : Le) (w : World) (hf : l.fits) : Calls Try.prog 86 #[leA l] w fun e w' => e = .returned (.bool (decide l.fine)) ∧ Below w.heap.size w w' := by
  obtain ⟨f0, f1, f2, f3, f4⟩ := hf
  have CC := Lib.hid (fun w => countsOf_any l w)
  have CLT := Lib.hid (fun w => limitedTo_any l.free l.held l.sold l.tied l.total w f1 f2 f3 f4 f0)
  obtain ⟨B, hB⟩ : ∃ B, decide l.fine = B := ⟨_, rfl⟩
  rw [hB]
  have HV := Lib.hid hB
  clear hB
  unfold leA at CC ⊢
  unfold cnA at CC
  go_enter Try.func86, Try.ntmps86
  go_wp2_with fail
  refine (CC.out _).mono ?_
  rintro e w1 ⟨rfl, b1⟩
  have hx := blk_call (heap_new w (.cells #[.int .i64 l.total, .int .i64 l.free, .int .i64 l.held, .int .i64 l.sold, .int .i64 l.tied] 32)) b1
  have B1 := boxB _ _ _ b1
  have K : KL w w1.heap.size l (w1.alloc (.cells #[.int .i64 l.free, .int .i64 l.held, .int .i64 l.sold, .int .i64 l.tied] 111)) := ⟨B1.alloc B1.size _, blk_alloc hx _, heap_new _ _⟩
  clear b1 B1 hx CC
  go_wp2_with fail
  generalize w1.alloc (.cells #[.int .i64 l.free, .int .i64 l.held, .int .i64 l.sold, .int .i64 l.tied] 111) = U at *
  generalize w1.heap.size = G at *
  have KD := K.drew
  clear K
  by_cases h1 : 1 ≤ l.total ∧ l.total ≤ 60
  rotate_left
  · have HF : B = false := by rw [← HV.out]; exact decide_eq_false (fun h => h1 h.1)
    subst HF
    refine wp_region_held_drew (S := KL w G l) (by kernel_rfl) KD (fun hHeld => ?_)
    refine held_take 0 6 (.pointer (some ⟨w.heap.size, 0, none⟩)) rfl rfl (by kernel_rfl) (by kernel_rfl) (by kernel_rfl) (fun _ _ _ h => h) rfl hHeld (fun u _ => exec_fldLe _ 0 0 u (by omega)) ?_
    refine held_take 1 7 (.int .i64 l.total) rfl rfl (by kernel_rfl) (by kernel_rfl) (by kernel_rfl) (fun _ _ _ h => h) rfl hHeld (fun u h => exec_load1 3 _ _ _ u (by simp) (cell_of_row _ _ 0 _ _ _ h.2.1)) ?_
    simp only [Act.put, List.setIfInBounds_toArray, List.set_cons_zero, List.set_cons_succ]
    refine held_call 2 8 79 #[(.int .i64 l.total), (.int .i64 1), (.int .i64 60)] rfl rfl (by kernel_rfl) rfl (exec_call Try.func79 (by kernel_rfl) (by kernel_rfl) _) ?_
    refine (inSpan_no l.total 1 60 _ h1).mono ?_
    rintro e u1 ⟨rfl, rfl⟩
    refine ⟨_, rfl, hHeld, ?_⟩
    simp only [Act.put, List.setIfInBounds_toArray, List.set_cons_zero, List.set_cons_succ]
    refine held_take 3 9 (.bool false) rfl rfl (by kernel_rfl) (by kernel_rfl) (by kernel_rfl) (fun _ _ _ h => h) rfl hHeld (fun w _ => rfl) ?_
    refine held_skip 4 10 rfl rfl (by kernel_rfl) (by kernel_rfl) (by kernel_rfl) (fun _ _ _ h => h) rfl hHeld ?_
    simp only [Act.put, List.setIfInBounds_toArray, List.set_cons_zero, List.set_cons_succ]
    refine held_skip 5 11 rfl rfl (by kernel_rfl) (by kernel_rfl) (by kernel_rfl) (fun _ _ _ h => h) rfl hHeld ?_
    refine held_skip 6 12 rfl rfl (by kernel_rfl) (by kernel_rfl) (by kernel_rfl) (fun _ _ _ h => h) rfl hHeld ?_
    simp only [Act.put, List.setIfInBounds_toArray, List.set_cons_zero, List.set_cons_succ]
    refine held_skip 7 13 rfl rfl (by kernel_rfl) (by kernel_rfl) (by kernel_rfl) (fun _ _ _ h => h) rfl hHeld ?_
    refine held_skip 8 14 rfl rfl (by kernel_rfl) (by kernel_rfl) (by kernel_rfl) (fun _ _ _ h => h) rfl hHeld ?_
    simp only [Act.put, List.setIfInBounds_toArray, List.set_cons_zero, List.set_cons_succ]
    refine held_skip 9 15 rfl rfl (by kernel_rfl) (by kernel_rfl) (by kernel_rfl) (fun _ _ _ h => h) rfl hHeld ?_
    refine held_take 10 16 (.bool false) rfl rfl (by kernel_rfl) (by kernel_rfl) (by kernel_rfl) (fun _ _ _ h => h) rfl hHeld (fun w _ => exec_pickN _ w) ?_
    refine held_take 11 17 (.bool false) rfl rfl (by kernel_rfl) (by kernel_rfl) (by kernel_rfl) (fun _ _ _ h => h) rfl hHeld (fun w _ => rfl) ?_
    simp only [Act.put, List.setIfInBounds_toArray, List.set_cons_zero, List.set_cons_succ]
    refine held_skip 12 18 rfl rfl (by kernel_rfl) (by kernel_rfl) (by kernel_rfl) (fun _ _ _ h => h) rfl hHeld ?_
    refine held_skip 13 19 rfl rfl (by kernel_rfl) (by kernel_rfl) (by kernel_rfl) (fun _ _ _ h => h) rfl hHeld ?_
    simp only [Act.put, List.setIfInBounds_toArray, List.set_cons_zero, List.set_cons_succ]
    refine held_skip 14 20 rfl rfl (by kernel_rfl) (by kernel_rfl) (by kernel_rfl) (fun _ _ _ h => h) rfl hHeld ?_
    refine held_skip 15 21 rfl rfl (by kernel_rfl) (by kernel_rfl) (by kernel_rfl) (fun _ _ _ h => h) rfl hHeld ?_
    simp only [Act.put, List.setIfInBounds_toArray, List.set_cons_zero, List.set_cons_succ]
    refine held_skip 16 22 rfl rfl (by kernel_rfl) (by kernel_rfl) (by kernel_rfl) (fun _ _ _ h => h) rfl hHeld ?_
    refine held_skip 17 23 rfl rfl (by kernel_rfl) (by kernel_rfl) (by kernel_rfl) (fun _ _ _ h => h) rfl hHeld ?_
    simp only [Act.put, List.setIfInBounds_toArray, List.set_cons_zero, List.set_cons_succ]
    refine held_skip 18 24 rfl rfl (by kernel_rfl) (by kernel_rfl) (by kernel_rfl) (fun _ _ _ h => h) rfl hHeld ?_
    refine held_skip 19 25 rfl rfl (by kernel_rfl) (by kernel_rfl) (by kernel_rfl) (fun _ _ _ h => h) rfl hHeld ?_
    simp only [Act.put, List.setIfInBounds_toArray, List.set_cons_zero, List.set_cons_succ]
    refine held_skip 20 26 rfl rfl (by kernel_rfl) (by kernel_rfl) (by kernel_rfl) (fun _ _ _ h => h) rfl hHeld ?_
    refine held_skip 21 27 rfl rfl (by kernel_rfl) (by kernel_rfl) (by kernel_rfl) (fun _ _ _ h => h) rfl hHeld ?_
    simp only [Act.put, List.setIfInBounds_toArray, List.set_cons_zero, List.set_cons_succ]
    refine held_skip 22 28 rfl rfl (by kernel_rfl) (by kernel_rfl) (by kernel_rfl) (fun _ _ _ h => h) rfl hHeld ?_
    refine held_take 23 29 (.bool false) rfl rfl (by kernel_rfl) (by kernel_rfl) (by kernel_rfl) (fun _ _ _ h => h) rfl hHeld (fun w _ => exec_pickN _ w) ?_
    refine held_take 24 30 (.bool false) rfl rfl (by kernel_rfl) (by kernel_rfl) (by kernel_rfl) (fun _ _ _ h => h) rfl hHeld (fun w _ => rfl) ?_
    simp only [Act.put, List.setIfInBounds_toArray, List.set_cons_zero, List.set_cons_succ]
    refine held_skip 25 31 rfl rfl (by kernel_rfl) (by kernel_rfl) (by kernel_rfl) (fun _ _ _ h => h) rfl hHeld ?_
    refine held_skip 26 32 rfl rfl (by kernel_rfl) (by kernel_rfl) (by kernel_rfl) (fun _ _ _ h => h) rfl hHeld ?_
    simp only [Act.put, List.setIfInBounds_toArray, List.set_cons_zero, List.set_cons_succ]
    refine held_skip 27 33 rfl rfl (by kernel_rfl) (by kernel_rfl) (by kernel_rfl) (fun _ _ _ h => h) rfl hHeld ?_
    refine held_skip 28 34 rfl rfl (by kernel_rfl) (by kernel_rfl) (by kernel_rfl) (fun _ _ _ h => h) rfl hHeld ?_
    simp only [Act.put, List.setIfInBounds_toArray, List.set_cons_zero, List.set_cons_succ]
    refine held_skip 29 35 rfl rfl (by kernel_rfl) (by kernel_rfl) (by kernel_rfl) (fun _ _ _ h => h) rfl hHeld ?_
    refine held_take 30 36 (.bool false) rfl rfl (by kernel_rfl) (by kernel_rfl) (by kernel_rfl) (fun _ _ _ h => h) rfl hHeld (fun w _ => exec_pickN _ w) ?_
    simp only [Act.put, List.setIfInBounds_toArray, List.set_cons_zero, List.set_cons_succ]
    refine held_op 31 2 (.bool false) rfl rfl (by kernel_rfl) rfl rfl hHeld ?_
    simp only [Act.put, List.setIfInBounds_toArray, List.set_cons_zero, List.set_cons_succ]
    refine wpAnyH_done (by kernel_rfl) ?_ _
    have BF := Lib.hid hHeld.1
    clear hHeld KD CLT
    go_wp2
    go_ret
    exact ⟨rfl, BF.out⟩
  cases hb : decide (l.free = lim l.free l.total ∧ l.held = lim l.held l.total ∧ l.sold = lim l.sold l.total ∧ l.tied = lim l.tied l.total) with
  | false =>
    have HB := hb
    have hn := of_decide_eq_false hb
    have HF : B = false := by
      rw [← HV.out]
      refine decide_eq_false (fun h => hn ?_)
      rw [lim_iff _ _ (by omega), lim_iff _ _ (by omega), lim_iff _ _ (by omega), lim_iff _ _ (by omega)]
      exact ⟨h.2.1, h.2.2.1, h.2.2.2.1, h.2.2.2.2.2.1, by have := h.2.2.2.2.2.2; have := h.2.2.2.1.2; omega⟩
    subst HF
    refine wp_region_held_drew (S := KL w G l) (by kernel_rfl) KD (fun hHeld => ?_)
    refine held_take 0 6 (.pointer (some ⟨w.heap.size, 0, none⟩)) rfl rfl (by kernel_rfl) (by kernel_rfl) (by kernel_rfl) (fun _ _ _ h => h) rfl hHeld (fun u _ => exec_fldLe _ 0 0 u (by omega)) ?_
    refine held_take 1 7 (.int .i64 l.total) rfl rfl (by kernel_rfl) (by kernel_rfl) (by kernel_rfl) (fun _ _ _ h => h) rfl hHeld (fun u h => exec_load1 3 _ _ _ u (by simp) (cell_of_row _ _ 0 _ _ _ h.2.1)) ?_
    simp only [Act.put, List.setIfInBounds_toArray, List.set_cons_zero, List.set_cons_succ]
    refine held_call 2 8 79 #[(.int .i64 l.total), (.int .i64 1), (.int .i64 60)] rfl rfl (by kernel_rfl) rfl (exec_call Try.func79 (by kernel_rfl) (by kernel_rfl) _) ?_
    refine (inSpan_yes l.total 1 60 _ h1).mono ?_
    rintro e u1 ⟨rfl, rfl⟩
    refine ⟨_, rfl, hHeld, ?_⟩
    simp only [Act.put, List.setIfInBounds_toArray, List.set_cons_zero, List.set_cons_succ]
    refine held_take 3 9 (.bool true) rfl rfl (by kernel_rfl) (by kernel_rfl) (by kernel_rfl) (fun _ _ _ h => h) rfl hHeld (fun w _ => rfl) ?_
    refine held_take 4 10 (cnA l.free l.held l.sold l.tied) rfl rfl (by kernel_rfl) (by kernel_rfl) (by kernel_rfl) (fun _ _ _ h => h) rfl hHeld (fun u h => exec_loadCn _ _ _ _ _ u h.2.2) ?_
    refine held_take 5 11 (cnA l.free l.held l.sold l.tied) rfl rfl (by kernel_rfl) (by kernel_rfl) (by kernel_rfl) (fun _ _ _ h => h) rfl hHeld (fun u h => exec_loadCn _ _ _ _ _ u h.2.2) ?_
    simp only [Act.put, List.setIfInBounds_toArray, List.set_cons_zero, List.set_cons_succ]
    refine held_take 6 12 (.pointer (some ⟨w.heap.size, 0, none⟩)) rfl rfl (by kernel_rfl) (by kernel_rfl) (by kernel_rfl) (fun _ _ _ h => h) rfl hHeld (fun u _ => exec_fldLe _ 0 0 u (by omega)) ?_
    refine held_take 7 13 (.int .i64 l.total) rfl rfl (by kernel_rfl) (by kernel_rfl) (by kernel_rfl) (fun _ _ _ h => h) rfl hHeld (fun u h => exec_load1 3 _ _ _ u (by simp) (cell_of_row _ _ 0 _ _ _ h.2.1)) ?_
    simp only [Act.put, List.setIfInBounds_toArray, List.set_cons_zero, List.set_cons_succ]
    refine held_call 8 14 117 #[(cnA l.free l.held l.sold l.tied), (.int .i64 l.total)] rfl rfl (by kernel_rfl) rfl (exec_call Try.func117 (by kernel_rfl) (by kernel_rfl) _) ?_
    refine (CLT.out _).mono ?_
    rintro e u2 ⟨rfl, x2⟩
    have hHeld := hHeld.call x2
    refine ⟨_, rfl, hHeld, ?_⟩
    simp only [Act.put, List.setIfInBounds_toArray, List.set_cons_zero, List.set_cons_succ]
    refine held_take 9 15 (.bool false) rfl rfl (by kernel_rfl) (by kernel_rfl) (by kernel_rfl) (fun _ _ _ h => h) rfl hHeld (fun u _ => exec_eqlCn _ _ _ _ _ _ _ _ false u HB) ?_
    refine held_take 10 16 (.bool false) rfl rfl (by kernel_rfl) (by kernel_rfl) (by kernel_rfl) (fun _ _ _ h => h) rfl hHeld (fun w _ => exec_pickY _ w) ?_
    refine held_take 11 17 (.bool false) rfl rfl (by kernel_rfl) (by kernel_rfl) (by kernel_rfl) (fun _ _ _ h => h) rfl hHeld (fun w _ => rfl) ?_
    simp only [Act.put, List.setIfInBounds_toArray, List.set_cons_zero, List.set_cons_succ]
    refine held_skip 12 18 rfl rfl (by kernel_rfl) (by kernel_rfl) (by kernel_rfl) (fun _ _ _ h => h) rfl hHeld ?_
    refine held_skip 13 19 rfl rfl (by kernel_rfl) (by kernel_rfl) (by kernel_rfl) (fun _ _ _ h => h) rfl hHeld ?_
    simp only [Act.put, List.setIfInBounds_toArray, List.set_cons_zero, List.set_cons_succ]
    refine held_skip 14 20 rfl rfl (by kernel_rfl) (by kernel_rfl) (by kernel_rfl) (fun _ _ _ h => h) rfl hHeld ?_
    refine held_skip 15 21 rfl rfl (by kernel_rfl) (by kernel_rfl) (by kernel_rfl) (fun _ _ _ h => h) rfl hHeld ?_
    simp only [Act.put, List.setIfInBounds_toArray, List.set_cons_zero, List.set_cons_succ]
    refine held_skip 16 22 rfl rfl (by kernel_rfl) (by kernel_rfl) (by kernel_rfl) (fun _ _ _ h => h) rfl hHeld ?_
    refine held_skip 17 23 rfl rfl (by kernel_rfl) (by kernel_rfl) (by kernel_rfl) (fun _ _ _ h => h) rfl hHeld ?_
    simp only [Act.put, List.setIfInBounds_toArray, List.set_cons_zero, List.set_cons_succ]
    refine held_skip 18 24 rfl rfl (by kernel_rfl) (by kernel_rfl) (by kernel_rfl) (fun _ _ _ h => h) rfl hHeld ?_
    refine held_skip 19 25 rfl rfl (by kernel_rfl) (by kernel_rfl) (by kernel_rfl) (fun _ _ _ h => h) rfl hHeld ?_
    simp only [Act.put, List.setIfInBounds_toArray, List.set_cons_zero, List.set_cons_succ]
    refine held_skip 20 26 rfl rfl (by kernel_rfl) (by kernel_rfl) (by kernel_rfl) (fun _ _ _ h => h) rfl hHeld ?_
    refine held_skip 21 27 rfl rfl (by kernel_rfl) (by kernel_rfl) (by kernel_rfl) (fun _ _ _ h => h) rfl hHeld ?_
    simp only [Act.put, List.setIfInBounds_toArray, List.set_cons_zero, List.set_cons_succ]
    refine held_skip 22 28 rfl rfl (by kernel_rfl) (by kernel_rfl) (by kernel_rfl) (fun _ _ _ h => h) rfl hHeld ?_
    refine held_take 23 29 (.bool false) rfl rfl (by kernel_rfl) (by kernel_rfl) (by kernel_rfl) (fun _ _ _ h => h) rfl hHeld (fun w _ => exec_pickN _ w) ?_
    refine held_take 24 30 (.bool false) rfl rfl (by kernel_rfl) (by kernel_rfl) (by kernel_rfl) (fun _ _ _ h => h) rfl hHeld (fun w _ => rfl) ?_
    simp only [Act.put, List.setIfInBounds_toArray, List.set_cons_zero, List.set_cons_succ]
    refine held_skip 25 31 rfl rfl (by kernel_rfl) (by kernel_rfl) (by kernel_rfl) (fun _ _ _ h => h) rfl hHeld ?_
    refine held_skip 26 32 rfl rfl (by kernel_rfl) (by kernel_rfl) (by kernel_rfl) (fun _ _ _ h => h) rfl hHeld ?_
    simp only [Act.put, List.setIfInBounds_toArray, List.set_cons_zero, List.set_cons_succ]
    refine held_skip 27 33 rfl rfl (by kernel_rfl) (by kernel_rfl) (by kernel_rfl) (fun _ _ _ h => h) rfl hHeld ?_
    refine held_skip 28 34 rfl rfl (by kernel_rfl) (by kernel_rfl) (by kernel_rfl) (fun _ _ _ h => h) rfl hHeld ?_
    simp only [Act.put, List.setIfInBounds_toArray, List.set_cons_zero, List.set_cons_succ]
    refine held_skip 29 35 rfl rfl (by kernel_rfl) (by kernel_rfl) (by kernel_rfl) (fun _ _ _ h => h) rfl hHeld ?_
    refine held_take 30 36 (.bool false) rfl rfl (by kernel_rfl) (by kernel_rfl) (by kernel_rfl) (fun _ _ _ h => h) rfl hHeld (fun w _ => exec_pickN _ w) ?_
    simp only [Act.put, List.setIfInBounds_toArray, List.set_cons_zero, List.set_cons_succ]
    refine held_op 31 2 (.bool false) rfl rfl (by kernel_rfl) rfl rfl hHeld ?_
    simp only [Act.put, List.setIfInBounds_toArray, List.set_cons_zero, List.set_cons_succ]
    refine wpAnyH_done (by kernel_rfl) ?_ _
    have BF := Lib.hid hHeld.1
    clear hHeld KD CLT
    go_wp2
    go_ret
    exact ⟨rfl, BF.out⟩
  | true =>
    have HB := hb
    have hn := of_decide_eq_true hb
    rw [lim_iff _ _ (by omega), lim_iff _ _ (by omega), lim_iff _ _ (by omega), lim_iff _ _ (by omega)] at hn
    obtain ⟨n1, n2, n3, n4⟩ := hn
    cases hc : decide (l.free + l.held + l.sold = l.total) with
    | false =>
      have HC := hc
      have hm := of_decide_eq_false hc
      have HF : B = false := by rw [← HV.out]; exact decide_eq_false (fun h => hm h.2.2.2.2.1)
      subst HF
      refine wp_region_held_drew (S := KL w G l) (by kernel_rfl) KD (fun hHeld => ?_)
      refine held_take 0 6 (.pointer (some ⟨w.heap.size, 0, none⟩)) rfl rfl (by kernel_rfl) (by kernel_rfl) (by kernel_rfl) (fun _ _ _ h => h) rfl hHeld (fun u _ => exec_fldLe _ 0 0 u (by omega)) ?_
      refine held_take 1 7 (.int .i64 l.total) rfl rfl (by kernel_rfl) (by kernel_rfl) (by kernel_rfl) (fun _ _ _ h => h) rfl hHeld (fun u h => exec_load1 3 _ _ _ u (by simp) (cell_of_row _ _ 0 _ _ _ h.2.1)) ?_
      simp only [Act.put, List.setIfInBounds_toArray, List.set_cons_zero, List.set_cons_succ]
      refine held_call 2 8 79 #[(.int .i64 l.total), (.int .i64 1), (.int .i64 60)] rfl rfl (by kernel_rfl) rfl (exec_call Try.func79 (by kernel_rfl) (by kernel_rfl) _) ?_
      refine (inSpan_yes l.total 1 60 _ h1).mono ?_
      rintro e u1 ⟨rfl, rfl⟩
      refine ⟨_, rfl, hHeld, ?_⟩
      simp only [Act.put, List.setIfInBounds_toArray, List.set_cons_zero, List.set_cons_succ]
      refine held_take 3 9 (.bool true) rfl rfl (by kernel_rfl) (by kernel_rfl) (by kernel_rfl) (fun _ _ _ h => h) rfl hHeld (fun w _ => rfl) ?_
      refine held_take 4 10 (cnA l.free l.held l.sold l.tied) rfl rfl (by kernel_rfl) (by kernel_rfl) (by kernel_rfl) (fun _ _ _ h => h) rfl hHeld (fun u h => exec_loadCn _ _ _ _ _ u h.2.2) ?_
      refine held_take 5 11 (cnA l.free l.held l.sold l.tied) rfl rfl (by kernel_rfl) (by kernel_rfl) (by kernel_rfl) (fun _ _ _ h => h) rfl hHeld (fun u h => exec_loadCn _ _ _ _ _ u h.2.2) ?_
      simp only [Act.put, List.setIfInBounds_toArray, List.set_cons_zero, List.set_cons_succ]
      refine held_take 6 12 (.pointer (some ⟨w.heap.size, 0, none⟩)) rfl rfl (by kernel_rfl) (by kernel_rfl) (by kernel_rfl) (fun _ _ _ h => h) rfl hHeld (fun u _ => exec_fldLe _ 0 0 u (by omega)) ?_
      refine held_take 7 13 (.int .i64 l.total) rfl rfl (by kernel_rfl) (by kernel_rfl) (by kernel_rfl) (fun _ _ _ h => h) rfl hHeld (fun u h => exec_load1 3 _ _ _ u (by simp) (cell_of_row _ _ 0 _ _ _ h.2.1)) ?_
      simp only [Act.put, List.setIfInBounds_toArray, List.set_cons_zero, List.set_cons_succ]
      refine held_call 8 14 117 #[(cnA l.free l.held l.sold l.tied), (.int .i64 l.total)] rfl rfl (by kernel_rfl) rfl (exec_call Try.func117 (by kernel_rfl) (by kernel_rfl) _) ?_
      refine (CLT.out _).mono ?_
      rintro e u2 ⟨rfl, x2⟩
      have hHeld := hHeld.call x2
      refine ⟨_, rfl, hHeld, ?_⟩
      simp only [Act.put, List.setIfInBounds_toArray, List.set_cons_zero, List.set_cons_succ]
      refine held_take 9 15 (.bool true) rfl rfl (by kernel_rfl) (by kernel_rfl) (by kernel_rfl) (fun _ _ _ h => h) rfl hHeld (fun u _ => exec_eqlCn _ _ _ _ _ _ _ _ true u HB) ?_
      refine held_take 10 16 (.bool true) rfl rfl (by kernel_rfl) (by kernel_rfl) (by kernel_rfl) (fun _ _ _ h => h) rfl hHeld (fun w _ => exec_pickY _ w) ?_
      refine held_take 11 17 (.bool true) rfl rfl (by kernel_rfl) (by kernel_rfl) (by kernel_rfl) (fun _ _ _ h => h) rfl hHeld (fun w _ => rfl) ?_
      simp only [Act.put, List.setIfInBounds_toArray, List.set_cons_zero, List.set_cons_succ]
      refine held_take 12 18 (.pointer (some ⟨G, 0, none⟩)) rfl rfl (by kernel_rfl) (by kernel_rfl) (by kernel_rfl) (fun _ _ _ h => h) rfl hHeld (fun u _ => exec_idx4c _ 0 u (by omega)) ?_
      refine held_take 13 19 (.int .i64 l.free) rfl rfl (by kernel_rfl) (by kernel_rfl) (by kernel_rfl) (fun _ _ _ h => h) rfl hHeld (fun u h => exec_load1 3 _ _ _ u (by simp) (cell_of_row _ _ 0 _ _ _ h.2.2)) ?_
      refine held_take 14 20 (.pointer (some ⟨G, 1, none⟩)) rfl rfl (by kernel_rfl) (by kernel_rfl) (by kernel_rfl) (fun _ _ _ h => h) rfl hHeld (fun u _ => exec_idx4c _ 1 u (by omega)) ?_
      simp only [Act.put, List.setIfInBounds_toArray, List.set_cons_zero, List.set_cons_succ]
      refine held_take 15 21 (.int .i64 l.held) rfl rfl (by kernel_rfl) (by kernel_rfl) (by kernel_rfl) (fun _ _ _ h => h) rfl hHeld (fun u h => exec_load1 3 _ _ _ u (by simp) (cell_of_row _ _ 1 _ _ _ h.2.2)) ?_
      refine held_take 16 22 (.int .i64 (l.free + l.held)) rfl rfl (by kernel_rfl) (by kernel_rfl) (by kernel_rfl) (fun _ _ _ h => h) rfl hHeld (fun u _ => exec_addI _ _ _ u rfl (by omega) (by omega)) ?_
      refine held_take 17 23 (.pointer (some ⟨G, 2, none⟩)) rfl rfl (by kernel_rfl) (by kernel_rfl) (by kernel_rfl) (fun _ _ _ h => h) rfl hHeld (fun u _ => exec_idx4c _ 2 u (by omega)) ?_
      simp only [Act.put, List.setIfInBounds_toArray, List.set_cons_zero, List.set_cons_succ]
      refine held_take 18 24 (.int .i64 l.sold) rfl rfl (by kernel_rfl) (by kernel_rfl) (by kernel_rfl) (fun _ _ _ h => h) rfl hHeld (fun u h => exec_load1 3 _ _ _ u (by simp) (cell_of_row _ _ 2 _ _ _ h.2.2)) ?_
      refine held_take 19 25 (.int .i64 (l.free + l.held + l.sold)) rfl rfl (by kernel_rfl) (by kernel_rfl) (by kernel_rfl) (fun _ _ _ h => h) rfl hHeld (fun u _ => exec_addI _ _ _ u rfl (by omega) (by omega)) ?_
      refine held_take 20 26 (.pointer (some ⟨w.heap.size, 0, none⟩)) rfl rfl (by kernel_rfl) (by kernel_rfl) (by kernel_rfl) (fun _ _ _ h => h) rfl hHeld (fun u _ => exec_fldLe _ 0 0 u (by omega)) ?_
      simp only [Act.put, List.setIfInBounds_toArray, List.set_cons_zero, List.set_cons_succ]
      refine held_take 21 27 (.int .i64 l.total) rfl rfl (by kernel_rfl) (by kernel_rfl) (by kernel_rfl) (fun _ _ _ h => h) rfl hHeld (fun u h => exec_load1 3 _ _ _ u (by simp) (cell_of_row _ _ 0 _ _ _ h.2.1)) ?_
      refine held_take 22 28 (.bool false) rfl rfl (by kernel_rfl) (by kernel_rfl) (by kernel_rfl) (fun _ _ _ h => h) rfl hHeld (fun u _ => exec_eqlD _ _ false u HC) ?_
      refine held_take 23 29 (.bool false) rfl rfl (by kernel_rfl) (by kernel_rfl) (by kernel_rfl) (fun _ _ _ h => h) rfl hHeld (fun w _ => exec_pickY _ w) ?_
      simp only [Act.put, List.setIfInBounds_toArray, List.set_cons_zero, List.set_cons_succ]
      refine held_take 24 30 (.bool false) rfl rfl (by kernel_rfl) (by kernel_rfl) (by kernel_rfl) (fun _ _ _ h => h) rfl hHeld (fun w _ => rfl) ?_
      refine held_skip 25 31 rfl rfl (by kernel_rfl) (by kernel_rfl) (by kernel_rfl) (fun _ _ _ h => h) rfl hHeld ?_
      simp only [Act.put, List.setIfInBounds_toArray, List.set_cons_zero, List.set_cons_succ]
      refine held_skip 26 32 rfl rfl (by kernel_rfl) (by kernel_rfl) (by kernel_rfl) (fun _ _ _ h => h) rfl hHeld ?_
      refine held_skip 27 33 rfl rfl (by kernel_rfl) (by kernel_rfl) (by kernel_rfl) (fun _ _ _ h => h) rfl hHeld ?_
      simp only [Act.put, List.setIfInBounds_toArray, List.set_cons_zero, List.set_cons_succ]
      refine held_skip 28 34 rfl rfl (by kernel_rfl) (by kernel_rfl) (by kernel_rfl) (fun _ _ _ h => h) rfl hHeld ?_
      refine held_skip 29 35 rfl rfl (by kernel_rfl) (by kernel_rfl) (by kernel_rfl) (fun _ _ _ h => h) rfl hHeld ?_
      simp only [Act.put, List.setIfInBounds_toArray, List.set_cons_zero, List.set_cons_succ]
      refine held_take 30 36 (.bool false) rfl rfl (by kernel_rfl) (by kernel_rfl) (by kernel_rfl) (fun _ _ _ h => h) rfl hHeld (fun w _ => exec_pickN _ w) ?_
      simp only [Act.put, List.setIfInBounds_toArray, List.set_cons_zero, List.set_cons_succ]
      refine held_op 31 2 (.bool false) rfl rfl (by kernel_rfl) rfl rfl hHeld ?_
      simp only [Act.put, List.setIfInBounds_toArray, List.set_cons_zero, List.set_cons_succ]
      refine wpAnyH_done (by kernel_rfl) ?_ _
      have BF := Lib.hid hHeld.1
      clear hHeld KD CLT
      go_wp2
      go_ret
      exact ⟨rfl, BF.out⟩
    | true =>
      have HC := hc
      have hm := of_decide_eq_true hc
      cases hd : decide (l.tied ≤ l.sold) with
      | false =>
        have HD := hd
        have hk := of_decide_eq_false hd
        have HF : B = false := by rw [← HV.out]; exact decide_eq_false (fun h => hk h.2.2.2.2.2.2)
        subst HF
        refine wp_region_held_drew (S := KL w G l) (by kernel_rfl) KD (fun hHeld => ?_)
        refine held_take 0 6 (.pointer (some ⟨w.heap.size, 0, none⟩)) rfl rfl (by kernel_rfl) (by kernel_rfl) (by kernel_rfl) (fun _ _ _ h => h) rfl hHeld (fun u _ => exec_fldLe _ 0 0 u (by omega)) ?_
        refine held_take 1 7 (.int .i64 l.total) rfl rfl (by kernel_rfl) (by kernel_rfl) (by kernel_rfl) (fun _ _ _ h => h) rfl hHeld (fun u h => exec_load1 3 _ _ _ u (by simp) (cell_of_row _ _ 0 _ _ _ h.2.1)) ?_
        simp only [Act.put, List.setIfInBounds_toArray, List.set_cons_zero, List.set_cons_succ]
        refine held_call 2 8 79 #[(.int .i64 l.total), (.int .i64 1), (.int .i64 60)] rfl rfl (by kernel_rfl) rfl (exec_call Try.func79 (by kernel_rfl) (by kernel_rfl) _) ?_
        refine (inSpan_yes l.total 1 60 _ h1).mono ?_
        rintro e u1 ⟨rfl, rfl⟩
        refine ⟨_, rfl, hHeld, ?_⟩
        simp only [Act.put, List.setIfInBounds_toArray, List.set_cons_zero, List.set_cons_succ]
        refine held_take 3 9 (.bool true) rfl rfl (by kernel_rfl) (by kernel_rfl) (by kernel_rfl) (fun _ _ _ h => h) rfl hHeld (fun w _ => rfl) ?_
        refine held_take 4 10 (cnA l.free l.held l.sold l.tied) rfl rfl (by kernel_rfl) (by kernel_rfl) (by kernel_rfl) (fun _ _ _ h => h) rfl hHeld (fun u h => exec_loadCn _ _ _ _ _ u h.2.2) ?_
        refine held_take 5 11 (cnA l.free l.held l.sold l.tied) rfl rfl (by kernel_rfl) (by kernel_rfl) (by kernel_rfl) (fun _ _ _ h => h) rfl hHeld (fun u h => exec_loadCn _ _ _ _ _ u h.2.2) ?_
        simp only [Act.put, List.setIfInBounds_toArray, List.set_cons_zero, List.set_cons_succ]
        refine held_take 6 12 (.pointer (some ⟨w.heap.size, 0, none⟩)) rfl rfl (by kernel_rfl) (by kernel_rfl) (by kernel_rfl) (fun _ _ _ h => h) rfl hHeld (fun u _ => exec_fldLe _ 0 0 u (by omega)) ?_
        refine held_take 7 13 (.int .i64 l.total) rfl rfl (by kernel_rfl) (by kernel_rfl) (by kernel_rfl) (fun _ _ _ h => h) rfl hHeld (fun u h => exec_load1 3 _ _ _ u (by simp) (cell_of_row _ _ 0 _ _ _ h.2.1)) ?_
        simp only [Act.put, List.setIfInBounds_toArray, List.set_cons_zero, List.set_cons_succ]
        refine held_call 8 14 117 #[(cnA l.free l.held l.sold l.tied), (.int .i64 l.total)] rfl rfl (by kernel_rfl) rfl (exec_call Try.func117 (by kernel_rfl) (by kernel_rfl) _) ?_
        refine (CLT.out _).mono ?_
        rintro e u2 ⟨rfl, x2⟩
        have hHeld := hHeld.call x2
        refine ⟨_, rfl, hHeld, ?_⟩
        simp only [Act.put, List.setIfInBounds_toArray, List.set_cons_zero, List.set_cons_succ]
        refine held_take 9 15 (.bool true) rfl rfl (by kernel_rfl) (by kernel_rfl) (by kernel_rfl) (fun _ _ _ h => h) rfl hHeld (fun u _ => exec_eqlCn _ _ _ _ _ _ _ _ true u HB) ?_
        refine held_take 10 16 (.bool true) rfl rfl (by kernel_rfl) (by kernel_rfl) (by kernel_rfl) (fun _ _ _ h => h) rfl hHeld (fun w _ => exec_pickY _ w) ?_
        refine held_take 11 17 (.bool true) rfl rfl (by kernel_rfl) (by kernel_rfl) (by kernel_rfl) (fun _ _ _ h => h) rfl hHeld (fun w _ => rfl) ?_
        simp only [Act.put, List.setIfInBounds_toArray, List.set_cons_zero, List.set_cons_succ]
        refine held_take 12 18 (.pointer (some ⟨G, 0, none⟩)) rfl rfl (by kernel_rfl) (by kernel_rfl) (by kernel_rfl) (fun _ _ _ h => h) rfl hHeld (fun u _ => exec_idx4c _ 0 u (by omega)) ?_
        refine held_take 13 19 (.int .i64 l.free) rfl rfl (by kernel_rfl) (by kernel_rfl) (by kernel_rfl) (fun _ _ _ h => h) rfl hHeld (fun u h => exec_load1 3 _ _ _ u (by simp) (cell_of_row _ _ 0 _ _ _ h.2.2)) ?_
        refine held_take 14 20 (.pointer (some ⟨G, 1, none⟩)) rfl rfl (by kernel_rfl) (by kernel_rfl) (by kernel_rfl) (fun _ _ _ h => h) rfl hHeld (fun u _ => exec_idx4c _ 1 u (by omega)) ?_
        simp only [Act.put, List.setIfInBounds_toArray, List.set_cons_zero, List.set_cons_succ]
        refine held_take 15 21 (.int .i64 l.held) rfl rfl (by kernel_rfl) (by kernel_rfl) (by kernel_rfl) (fun _ _ _ h => h) rfl hHeld (fun u h => exec_load1 3 _ _ _ u (by simp) (cell_of_row _ _ 1 _ _ _ h.2.2)) ?_
        refine held_take 16 22 (.int .i64 (l.free + l.held)) rfl rfl (by kernel_rfl) (by kernel_rfl) (by kernel_rfl) (fun _ _ _ h => h) rfl hHeld (fun u _ => exec_addI _ _ _ u rfl (by omega) (by omega)) ?_
        refine held_take 17 23 (.pointer (some ⟨G, 2, none⟩)) rfl rfl (by kernel_rfl) (by kernel_rfl) (by kernel_rfl) (fun _ _ _ h => h) rfl hHeld (fun u _ => exec_idx4c _ 2 u (by omega)) ?_
        simp only [Act.put, List.setIfInBounds_toArray, List.set_cons_zero, List.set_cons_succ]
        refine held_take 18 24 (.int .i64 l.sold) rfl rfl (by kernel_rfl) (by kernel_rfl) (by kernel_rfl) (fun _ _ _ h => h) rfl hHeld (fun u h => exec_load1 3 _ _ _ u (by simp) (cell_of_row _ _ 2 _ _ _ h.2.2)) ?_
        refine held_take 19 25 (.int .i64 (l.free + l.held + l.sold)) rfl rfl (by kernel_rfl) (by kernel_rfl) (by kernel_rfl) (fun _ _ _ h => h) rfl hHeld (fun u _ => exec_addI _ _ _ u rfl (by omega) (by omega)) ?_
        refine held_take 20 26 (.pointer (some ⟨w.heap.size, 0, none⟩)) rfl rfl (by kernel_rfl) (by kernel_rfl) (by kernel_rfl) (fun _ _ _ h => h) rfl hHeld (fun u _ => exec_fldLe _ 0 0 u (by omega)) ?_
        simp only [Act.put, List.setIfInBounds_toArray, List.set_cons_zero, List.set_cons_succ]
        refine held_take 21 27 (.int .i64 l.total) rfl rfl (by kernel_rfl) (by kernel_rfl) (by kernel_rfl) (fun _ _ _ h => h) rfl hHeld (fun u h => exec_load1 3 _ _ _ u (by simp) (cell_of_row _ _ 0 _ _ _ h.2.1)) ?_
        refine held_take 22 28 (.bool true) rfl rfl (by kernel_rfl) (by kernel_rfl) (by kernel_rfl) (fun _ _ _ h => h) rfl hHeld (fun u _ => exec_eqlD _ _ true u HC) ?_
        refine held_take 23 29 (.bool true) rfl rfl (by kernel_rfl) (by kernel_rfl) (by kernel_rfl) (fun _ _ _ h => h) rfl hHeld (fun w _ => exec_pickY _ w) ?_
        simp only [Act.put, List.setIfInBounds_toArray, List.set_cons_zero, List.set_cons_succ]
        refine held_take 24 30 (.bool true) rfl rfl (by kernel_rfl) (by kernel_rfl) (by kernel_rfl) (fun _ _ _ h => h) rfl hHeld (fun w _ => rfl) ?_
        refine held_take 25 31 (.pointer (some ⟨G, 3, none⟩)) rfl rfl (by kernel_rfl) (by kernel_rfl) (by kernel_rfl) (fun _ _ _ h => h) rfl hHeld (fun u _ => exec_idx4c _ 3 u (by omega)) ?_
        refine held_take 26 32 (.int .i64 l.tied) rfl rfl (by kernel_rfl) (by kernel_rfl) (by kernel_rfl) (fun _ _ _ h => h) rfl hHeld (fun u h => exec_load1 3 _ _ _ u (by simp) (cell_of_row _ _ 3 _ _ _ h.2.2)) ?_
        simp only [Act.put, List.setIfInBounds_toArray, List.set_cons_zero, List.set_cons_succ]
        refine held_take 27 33 (.pointer (some ⟨G, 2, none⟩)) rfl rfl (by kernel_rfl) (by kernel_rfl) (by kernel_rfl) (fun _ _ _ h => h) rfl hHeld (fun u _ => exec_idx4c _ 2 u (by omega)) ?_
        refine held_take 28 34 (.int .i64 l.sold) rfl rfl (by kernel_rfl) (by kernel_rfl) (by kernel_rfl) (fun _ _ _ h => h) rfl hHeld (fun u h => exec_load1 3 _ _ _ u (by simp) (cell_of_row _ _ 2 _ _ _ h.2.2)) ?_
        refine held_take 29 35 (.bool false) rfl rfl (by kernel_rfl) (by kernel_rfl) (by kernel_rfl) (fun _ _ _ h => h) rfl hHeld (fun u _ => exec_leqD _ _ false u HD) ?_
        simp only [Act.put, List.setIfInBounds_toArray, List.set_cons_zero, List.set_cons_succ]
        refine held_take 30 36 (.bool false) rfl rfl (by kernel_rfl) (by kernel_rfl) (by kernel_rfl) (fun _ _ _ h => h) rfl hHeld (fun w _ => exec_pickY _ w) ?_
        simp only [Act.put, List.setIfInBounds_toArray, List.set_cons_zero, List.set_cons_succ]
        refine held_op 31 2 (.bool false) rfl rfl (by kernel_rfl) rfl rfl hHeld ?_
        simp only [Act.put, List.setIfInBounds_toArray, List.set_cons_zero, List.set_cons_succ]
        refine wpAnyH_done (by kernel_rfl) ?_ _
        have BF := Lib.hid hHeld.1
        clear hHeld KD CLT
        go_wp2
        go_ret
        exact ⟨rfl, BF.out⟩
      | true =>
        have HD := hd
        have hk := of_decide_eq_true hd
        have HF : B = true := by rw [← HV.out]; exact decide_eq_true ⟨h1, n1, n2, n3, hm, n4.1, hk⟩
        subst HF
        refine wp_region_held_drew (S := KL w G l) (by kernel_rfl) KD (fun hHeld => ?_)
        refine held_take 0 6 (.pointer (some ⟨w.heap.size, 0, none⟩)) rfl rfl (by kernel_rfl) (by kernel_rfl) (by kernel_rfl) (fun _ _ _ h => h) rfl hHeld (fun u _ => exec_fldLe _ 0 0 u (by omega)) ?_
        refine held_take 1 7 (.int .i64 l.total) rfl rfl (by kernel_rfl) (by kernel_rfl) (by kernel_rfl) (fun _ _ _ h => h) rfl hHeld (fun u h => exec_load1 3 _ _ _ u (by simp) (cell_of_row _ _ 0 _ _ _ h.2.1)) ?_
        simp only [Act.put, List.setIfInBounds_toArray, List.set_cons_zero, List.set_cons_succ]
        refine held_call 2 8 79 #[(.int .i64 l.total), (.int .i64 1), (.int .i64 60)] rfl rfl (by kernel_rfl) rfl (exec_call Try.func79 (by kernel_rfl) (by kernel_rfl) _) ?_
        refine (inSpan_yes l.total 1 60 _ h1).mono ?_
        rintro e u1 ⟨rfl, rfl⟩
        refine ⟨_, rfl, hHeld, ?_⟩
        simp only [Act.put, List.setIfInBounds_toArray, List.set_cons_zero, List.set_cons_succ]
        refine held_take 3 9 (.bool true) rfl rfl (by kernel_rfl) (by kernel_rfl) (by kernel_rfl) (fun _ _ _ h => h) rfl hHeld (fun w _ => rfl) ?_
        refine held_take 4 10 (cnA l.free l.held l.sold l.tied) rfl rfl (by kernel_rfl) (by kernel_rfl) (by kernel_rfl) (fun _ _ _ h => h) rfl hHeld (fun u h => exec_loadCn _ _ _ _ _ u h.2.2) ?_
        refine held_take 5 11 (cnA l.free l.held l.sold l.tied) rfl rfl (by kernel_rfl) (by kernel_rfl) (by kernel_rfl) (fun _ _ _ h => h) rfl hHeld (fun u h => exec_loadCn _ _ _ _ _ u h.2.2) ?_
        simp only [Act.put, List.setIfInBounds_toArray, List.set_cons_zero, List.set_cons_succ]
        refine held_take 6 12 (.pointer (some ⟨w.heap.size, 0, none⟩)) rfl rfl (by kernel_rfl) (by kernel_rfl) (by kernel_rfl) (fun _ _ _ h => h) rfl hHeld (fun u _ => exec_fldLe _ 0 0 u (by omega)) ?_
        refine held_take 7 13 (.int .i64 l.total) rfl rfl (by kernel_rfl) (by kernel_rfl) (by kernel_rfl) (fun _ _ _ h => h) rfl hHeld (fun u h => exec_load1 3 _ _ _ u (by simp) (cell_of_row _ _ 0 _ _ _ h.2.1)) ?_
        simp only [Act.put, List.setIfInBounds_toArray, List.set_cons_zero, List.set_cons_succ]
        refine held_call 8 14 117 #[(cnA l.free l.held l.sold l.tied), (.int .i64 l.total)] rfl rfl (by kernel_rfl) rfl (exec_call Try.func117 (by kernel_rfl) (by kernel_rfl) _) ?_
        refine (CLT.out _).mono ?_
        rintro e u2 ⟨rfl, x2⟩
        have hHeld := hHeld.call x2
        refine ⟨_, rfl, hHeld, ?_⟩
        simp only [Act.put, List.setIfInBounds_toArray, List.set_cons_zero, List.set_cons_succ]
        refine held_take 9 15 (.bool true) rfl rfl (by kernel_rfl) (by kernel_rfl) (by kernel_rfl) (fun _ _ _ h => h) rfl hHeld (fun u _ => exec_eqlCn _ _ _ _ _ _ _ _ true u HB) ?_
        refine held_take 10 16 (.bool true) rfl rfl (by kernel_rfl) (by kernel_rfl) (by kernel_rfl) (fun _ _ _ h => h) rfl hHeld (fun w _ => exec_pickY _ w) ?_
        refine held_take 11 17 (.bool true) rfl rfl (by kernel_rfl) (by kernel_rfl) (by kernel_rfl) (fun _ _ _ h => h) rfl hHeld (fun w _ => rfl) ?_
        simp only [Act.put, List.setIfInBounds_toArray, List.set_cons_zero, List.set_cons_succ]
        refine held_take 12 18 (.pointer (some ⟨G, 0, none⟩)) rfl rfl (by kernel_rfl) (by kernel_rfl) (by kernel_rfl) (fun _ _ _ h => h) rfl hHeld (fun u _ => exec_idx4c _ 0 u (by omega)) ?_
        refine held_take 13 19 (.int .i64 l.free) rfl rfl (by kernel_rfl) (by kernel_rfl) (by kernel_rfl) (fun _ _ _ h => h) rfl hHeld (fun u h => exec_load1 3 _ _ _ u (by simp) (cell_of_row _ _ 0 _ _ _ h.2.2)) ?_
        refine held_take 14 20 (.pointer (some ⟨G, 1, none⟩)) rfl rfl (by kernel_rfl) (by kernel_rfl) (by kernel_rfl) (fun _ _ _ h => h) rfl hHeld (fun u _ => exec_idx4c _ 1 u (by omega)) ?_
        simp only [Act.put, List.setIfInBounds_toArray, List.set_cons_zero, List.set_cons_succ]
        refine held_take 15 21 (.int .i64 l.held) rfl rfl (by kernel_rfl) (by kernel_rfl) (by kernel_rfl) (fun _ _ _ h => h) rfl hHeld (fun u h => exec_load1 3 _ _ _ u (by simp) (cell_of_row _ _ 1 _ _ _ h.2.2)) ?_
        refine held_take 16 22 (.int .i64 (l.free + l.held)) rfl rfl (by kernel_rfl) (by kernel_rfl) (by kernel_rfl) (fun _ _ _ h => h) rfl hHeld (fun u _ => exec_addI _ _ _ u rfl (by omega) (by omega)) ?_
        refine held_take 17 23 (.pointer (some ⟨G, 2, none⟩)) rfl rfl (by kernel_rfl) (by kernel_rfl) (by kernel_rfl) (fun _ _ _ h => h) rfl hHeld (fun u _ => exec_idx4c _ 2 u (by omega)) ?_
        simp only [Act.put, List.setIfInBounds_toArray, List.set_cons_zero, List.set_cons_succ]
        refine held_take 18 24 (.int .i64 l.sold) rfl rfl (by kernel_rfl) (by kernel_rfl) (by kernel_rfl) (fun _ _ _ h => h) rfl hHeld (fun u h => exec_load1 3 _ _ _ u (by simp) (cell_of_row _ _ 2 _ _ _ h.2.2)) ?_
        refine held_take 19 25 (.int .i64 (l.free + l.held + l.sold)) rfl rfl (by kernel_rfl) (by kernel_rfl) (by kernel_rfl) (fun _ _ _ h => h) rfl hHeld (fun u _ => exec_addI _ _ _ u rfl (by omega) (by omega)) ?_
        refine held_take 20 26 (.pointer (some ⟨w.heap.size, 0, none⟩)) rfl rfl (by kernel_rfl) (by kernel_rfl) (by kernel_rfl) (fun _ _ _ h => h) rfl hHeld (fun u _ => exec_fldLe _ 0 0 u (by omega)) ?_
        simp only [Act.put, List.setIfInBounds_toArray, List.set_cons_zero, List.set_cons_succ]
        refine held_take 21 27 (.int .i64 l.total) rfl rfl (by kernel_rfl) (by kernel_rfl) (by kernel_rfl) (fun _ _ _ h => h) rfl hHeld (fun u h => exec_load1 3 _ _ _ u (by simp) (cell_of_row _ _ 0 _ _ _ h.2.1)) ?_
        refine held_take 22 28 (.bool true) rfl rfl (by kernel_rfl) (by kernel_rfl) (by kernel_rfl) (fun _ _ _ h => h) rfl hHeld (fun u _ => exec_eqlD _ _ true u HC) ?_
        refine held_take 23 29 (.bool true) rfl rfl (by kernel_rfl) (by kernel_rfl) (by kernel_rfl) (fun _ _ _ h => h) rfl hHeld (fun w _ => exec_pickY _ w) ?_
        simp only [Act.put, List.setIfInBounds_toArray, List.set_cons_zero, List.set_cons_succ]
        refine held_take 24 30 (.bool true) rfl rfl (by kernel_rfl) (by kernel_rfl) (by kernel_rfl) (fun _ _ _ h => h) rfl hHeld (fun w _ => rfl) ?_
        refine held_take 25 31 (.pointer (some ⟨G, 3, none⟩)) rfl rfl (by kernel_rfl) (by kernel_rfl) (by kernel_rfl) (fun _ _ _ h => h) rfl hHeld (fun u _ => exec_idx4c _ 3 u (by omega)) ?_
        refine held_take 26 32 (.int .i64 l.tied) rfl rfl (by kernel_rfl) (by kernel_rfl) (by kernel_rfl) (fun _ _ _ h => h) rfl hHeld (fun u h => exec_load1 3 _ _ _ u (by simp) (cell_of_row _ _ 3 _ _ _ h.2.2)) ?_
        simp only [Act.put, List.setIfInBounds_toArray, List.set_cons_zero, List.set_cons_succ]
        refine held_take 27 33 (.pointer (some ⟨G, 2, none⟩)) rfl rfl (by kernel_rfl) (by kernel_rfl) (by kernel_rfl) (fun _ _ _ h => h) rfl hHeld (fun u _ => exec_idx4c _ 2 u (by omega)) ?_
        refine held_take 28 34 (.int .i64 l.sold) rfl rfl (by kernel_rfl) (by kernel_rfl) (by kernel_rfl) (fun _ _ _ h => h) rfl hHeld (fun u h => exec_load1 3 _ _ _ u (by simp) (cell_of_row _ _ 2 _ _ _ h.2.2)) ?_
        refine held_take 29 35 (.bool true) rfl rfl (by kernel_rfl) (by kernel_rfl) (by kernel_rfl) (fun _ _ _ h => h) rfl hHeld (fun u _ => exec_leqD _ _ true u HD) ?_
        simp only [Act.put, List.setIfInBounds_toArray, List.set_cons_zero, List.set_cons_succ]
        refine held_take 30 36 (.bool true) rfl rfl (by kernel_rfl) (by kernel_rfl) (by kernel_rfl) (fun _ _ _ h => h) rfl hHeld (fun w _ => exec_pickY _ w) ?_
        simp only [Act.put, List.setIfInBounds_toArray, List.set_cons_zero, List.set_cons_succ]
        refine held_op 31 2 (.bool true) rfl rfl (by kernel_rfl) rfl rfl hHeld ?_
        simp only [Act.put, List.setIfInBounds_toArray, List.set_cons_zero, List.set_cons_succ]
        refine wpAnyH_done (by kernel_rfl) ?_ _
        have BF := Lib.hid hHeld.1
        clear hHeld KD CLT
        go_wp2
        go_ret
        exact ⟨rfl, BF.out⟩
end Go.Proofs.Ytdjglbmcpfaofaa
