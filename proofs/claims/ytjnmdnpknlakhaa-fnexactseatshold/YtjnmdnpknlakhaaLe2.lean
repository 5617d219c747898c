/- l8Turn of the model. -/
import Derived.Test.YtjnmdnpknlakhaaRows
import Derived.Test.YtjnmdnpknlakhaaLeL
import Derived.Test.YtjnmdnpknlakhaaHs7
namespace Go.Proofs.Ytjnmdnpknlakhaa
open Go.RowKit
set_option linter.unusedSimpArgs false
set_option linter.unusedVariables false
def putLe (w : World) (b : Nat) (q : Le) : World := (((((w.setCell ⟨b, 0, none⟩ (.int .i64 q.total)).setCell ⟨b, 1, none⟩ (.int .i64 q.free)).setCell ⟨b, 2, none⟩ (.int .i64 q.held)).setCell ⟨b, 3, none⟩ (.int .i64 q.sold)).setCell ⟨b, 4, none⟩ (.int .i64 q.tied))
theorem putLe_below {B : Nat} {w0 w : World} {b : Nat} {q : Le} (h : Below B w0 w) (hb : B ≤ b) : Below B w0 (putLe w b q) := by
  unfold putLe
  exact (((((h.setCell hb _).setCell hb _).setCell hb _).setCell hb _).setCell hb _)
/-- What moving seats returns. -/
def turnV (l : Le) (n F H S T : Int) : Le × Bool := if l.fine ∧ (0 ≤ n ∧ n ≤ 60) ∧ Le.fine (⟨l.total, l.free + F, l.held + H, l.sold + S, l.tied + T⟩ : Le) then ((⟨l.total, l.free + F, l.held + H, l.sold + S, l.tied + T⟩ : Le), true) else (l, false)
set_option maxRecDepth 100000 in
set_option maxHeartbeats 3200000 in
theorem l8Turn_spec (l : Le) (n f h s t F H S T : Int) (w : World) (hF : f * n = F) (hH : h * n = H) (hS : s * n = S) (hT : t * n = T) (hb : 0 ≤ n ∧ n ≤ 60 → (-60 ≤ F ∧ F ≤ 60) ∧ (-60 ≤ H ∧ H ≤ 60) ∧ (-60 ≤ S ∧ S ≤ 60) ∧ (-60 ≤ T ∧ T ≤ 60)) :
    Calls Try.prog 41 #[leA l, .int .i64 n, .int .i64 f, .int .i64 h, .int .i64 s, .int .i64 t] w fun e w' => e = .returned (.tuple #[leA (turnV l n F H S T).1, .bool (turnV l n F H S T).2]) ∧ Below w.heap.size w w' := by
  have CO : Hid (∀ a b c d e w, Calls Try.prog 21 #[.agg #[.int .i64 a, .int .i64 b, .int .i64 c, .int .i64 d, .int .i64 e]] w fun x w' => x = .returned (.bool (decide (Le.fine ⟨a, b, c, d, e⟩))) ∧ Below w.heap.size w w') := fun a b c d e w => ledgerOk_spec ⟨a, b, c, d, e⟩ w
  have T0 := two_at w ((w.alloc (.cells #[.int .i64 l.total, .int .i64 l.free, .int .i64 l.held, .int .i64 l.sold, .int .i64 l.tied] 25)).alloc (.cells #[.int .i64 0, .int .i64 0, .int .i64 0, .int .i64 0, .int .i64 0] 25)) _ _ (Below.refl _ _)
  have HT0 := Lib.hid T0
  clear T0
  by_cases h1 : l.fine
  rotate_left
  · have HV : Hid (turnV l n F H S T = (l, false)) := if_neg (fun h => h1 h.1)
    have C1 := Lib.hid (CO.out l.total l.free l.held l.sold l.tied ((w.alloc (.cells #[.int .i64 l.total, .int .i64 l.free, .int .i64 l.held, .int .i64 l.sold, .int .i64 l.tied] 25)).alloc (.cells #[.int .i64 0, .int .i64 0, .int .i64 0, .int .i64 0, .int .i64 0] 25)))
    rw [decide_eq_false h1] at C1
    rw [HV.out]
    unfold leA
    clear h1 hb
    go_enter Try.func41, Try.ntmps41
    go_wp2_with fail
    refine C1.out.mono ?_
    rintro e w1 ⟨rfl, b1⟩
    have hx := blk_call HT0.out.1 b1
    have hz := blk_call HT0.out.2.1 b1
    have B1 := HT0.out.2.2.trans (b1.mono HT0.out.2.2.size)
    have c0 := cell_of_row _ _ 0 _ _ _ hx
    have c1 := cell_of_row _ _ 1 _ _ _ hx
    have c2 := cell_of_row _ _ 2 _ _ _ hx
    have c3 := cell_of_row _ _ 3 _ _ _ hx
    have c4 := cell_of_row _ _ 4 _ _ _ hx
    simp at c0 c1 c2 c3 c4
    have e0 := cell_of_row _ _ 0 _ _ _ hz
    have e1 := cell_of_row _ _ 1 _ _ _ hz
    have e2 := cell_of_row _ _ 2 _ _ _ hz
    have e3 := cell_of_row _ _ 3 _ _ _ hz
    have e4 := cell_of_row _ _ 4 _ _ _ hz
    simp at e0 e1 e2 e3 e4
    have f0 := frozen_of_row _ _ 0 _ _ hz
    have f1 := frozen_of_row _ _ 1 _ _ hz
    have f2 := frozen_of_row _ _ 2 _ _ hz
    have f3 := frozen_of_row _ _ 3 _ _ hz
    have f4 := frozen_of_row _ _ 4 _ _ hz
    have HN : Hid (Below w.heap.size w (putLe w1 (w.heap.size + 1) l)) := putLe_below B1 (by omega)
    unfold putLe at HN
    go_wp2
    simp [bodyPost, results, Try.results41, go_sem, e0, e1, e2, e3, e4]
    exact HN.out
  by_cases h2 : 0 ≤ n ∧ n ≤ 60
  rotate_left
  · have HV : Hid (turnV l n F H S T = (l, false)) := if_neg (fun h => h2 h.2.1)
    have C1 := Lib.hid (CO.out l.total l.free l.held l.sold l.tied ((w.alloc (.cells #[.int .i64 l.total, .int .i64 l.free, .int .i64 l.held, .int .i64 l.sold, .int .i64 l.tied] 25)).alloc (.cells #[.int .i64 0, .int .i64 0, .int .i64 0, .int .i64 0, .int .i64 0] 25)))
    rw [decide_eq_true h1] at C1
    rw [HV.out]
    unfold leA
    clear h1 hb
    go_enter Try.func41, Try.ntmps41
    go_wp2_with fail
    refine C1.out.mono ?_
    rintro e w1 ⟨rfl, b1⟩
    have hx := blk_call HT0.out.1 b1
    have hz := blk_call HT0.out.2.1 b1
    have B1 := HT0.out.2.2.trans (b1.mono HT0.out.2.2.size)
    have c0 := cell_of_row _ _ 0 _ _ _ hx
    have c1 := cell_of_row _ _ 1 _ _ _ hx
    have c2 := cell_of_row _ _ 2 _ _ _ hx
    have c3 := cell_of_row _ _ 3 _ _ _ hx
    have c4 := cell_of_row _ _ 4 _ _ _ hx
    simp at c0 c1 c2 c3 c4
    go_wp2_with fail
    refine (l1In_no _ _ _ _ (by omega)).mono ?_
    rintro e w' ⟨rfl, rfl⟩
    have e0 := cell_of_row _ _ 0 _ _ _ hz
    have e1 := cell_of_row _ _ 1 _ _ _ hz
    have e2 := cell_of_row _ _ 2 _ _ _ hz
    have e3 := cell_of_row _ _ 3 _ _ _ hz
    have e4 := cell_of_row _ _ 4 _ _ _ hz
    simp at e0 e1 e2 e3 e4
    have f0 := frozen_of_row _ _ 0 _ _ hz
    have f1 := frozen_of_row _ _ 1 _ _ hz
    have f2 := frozen_of_row _ _ 2 _ _ hz
    have f3 := frozen_of_row _ _ 3 _ _ hz
    have f4 := frozen_of_row _ _ 4 _ _ hz
    have HN : Hid (Below w.heap.size w (putLe w1 (w.heap.size + 1) l)) := putLe_below B1 (by omega)
    unfold putLe at HN
    go_wp2
    simp [bodyPost, results, Try.results41, go_sem, e0, e1, e2, e3, e4]
    exact HN.out
  obtain ⟨bF, bH, bS, bT⟩ := hb h2
  have C1 := Lib.hid (CO.out l.total l.free l.held l.sold l.tied ((w.alloc (.cells #[.int .i64 l.total, .int .i64 l.free, .int .i64 l.held, .int .i64 l.sold, .int .i64 l.tied] 25)).alloc (.cells #[.int .i64 0, .int .i64 0, .int .i64 0, .int .i64 0, .int .i64 0] 25)))
  rw [decide_eq_true h1] at C1
  have C2 := Lib.hid (fun w => CO.out l.total (l.free + F) (l.held + H) (l.sold + S) (l.tied + T) w)
  have hf := h1
  obtain ⟨t1, t2, t3, t4, t5, t6⟩ := h1
  by_cases h3 : Le.fine (⟨l.total, l.free + F, l.held + H, l.sold + S, l.tied + T⟩ : Le)
  rotate_left
  · have HV : Hid (turnV l n F H S T = (l, false)) := if_neg (fun h => h3 h.2.2)
    rw [decide_eq_false h3] at C2
    rw [HV.out]
    unfold leA
    clear h3 hf t5
    go_enter Try.func41, Try.ntmps41
    go_wp2_with fail
    refine C1.out.mono ?_
    rintro e w1 ⟨rfl, b1⟩
    have hx := blk_call HT0.out.1 b1
    have hz := blk_call HT0.out.2.1 b1
    have B1 := HT0.out.2.2.trans (b1.mono HT0.out.2.2.size)
    have c0 := cell_of_row _ _ 0 _ _ _ hx
    have c1 := cell_of_row _ _ 1 _ _ _ hx
    have c2 := cell_of_row _ _ 2 _ _ _ hx
    have c3 := cell_of_row _ _ 3 _ _ _ hx
    have c4 := cell_of_row _ _ 4 _ _ _ hx
    simp at c0 c1 c2 c3 c4
    go_wp2_with fail
    refine (l1In_yes _ _ _ _ (by omega)).mono ?_
    rintro e w' ⟨rfl, rfl⟩
    go_wp2_with fail
    refine (C2.out _).mono ?_
    rintro e w2 ⟨rfl, b2⟩
    have y : Below w1.heap.size w1 (w1.alloc (.cells #[.int .i64 l.total, .int .i64 (l.free + F), .int .i64 (l.held + H), .int .i64 (l.sold + S), .int .i64 (l.tied + T)] 25)) := (Below.refl _ _).alloc (Nat.le_refl _) _
    have b2 := y.trans (b2.mono y.size)
    have hx := blk_call hx b2
    have hz := blk_call hz b2
    have B1 := B1.trans (b2.mono B1.size)
    clear c0 c1 c2 c3 c4 y b2 b1
    have c0 := cell_of_row _ _ 0 _ _ _ hx
    have c1 := cell_of_row _ _ 1 _ _ _ hx
    have c2 := cell_of_row _ _ 2 _ _ _ hx
    have c3 := cell_of_row _ _ 3 _ _ _ hx
    have c4 := cell_of_row _ _ 4 _ _ _ hx
    simp at c0 c1 c2 c3 c4
    have e0 := cell_of_row _ _ 0 _ _ _ hz
    have e1 := cell_of_row _ _ 1 _ _ _ hz
    have e2 := cell_of_row _ _ 2 _ _ _ hz
    have e3 := cell_of_row _ _ 3 _ _ _ hz
    have e4 := cell_of_row _ _ 4 _ _ _ hz
    simp at e0 e1 e2 e3 e4
    have f0 := frozen_of_row _ _ 0 _ _ hz
    have f1 := frozen_of_row _ _ 1 _ _ hz
    have f2 := frozen_of_row _ _ 2 _ _ hz
    have f3 := frozen_of_row _ _ 3 _ _ hz
    have f4 := frozen_of_row _ _ 4 _ _ hz
    have HN : Hid (Below w.heap.size w (putLe w2 (w.heap.size + 1) l)) := putLe_below B1 (by omega)
    unfold putLe at HN
    go_wp2
    simp [bodyPost, results, Try.results41, go_sem, e0, e1, e2, e3, e4]
    exact HN.out
  · have HV : Hid (turnV l n F H S T = ((⟨l.total, l.free + F, l.held + H, l.sold + S, l.tied + T⟩ : Le), true)) := if_pos ⟨hf, h2, h3⟩
    rw [decide_eq_true h3] at C2
    rw [HV.out]
    unfold leA
    clear h3 hf t5
    go_enter Try.func41, Try.ntmps41
    go_wp2_with fail
    refine C1.out.mono ?_
    rintro e w1 ⟨rfl, b1⟩
    have hx := blk_call HT0.out.1 b1
    have hz := blk_call HT0.out.2.1 b1
    have B1 := HT0.out.2.2.trans (b1.mono HT0.out.2.2.size)
    have c0 := cell_of_row _ _ 0 _ _ _ hx
    have c1 := cell_of_row _ _ 1 _ _ _ hx
    have c2 := cell_of_row _ _ 2 _ _ _ hx
    have c3 := cell_of_row _ _ 3 _ _ _ hx
    have c4 := cell_of_row _ _ 4 _ _ _ hx
    simp at c0 c1 c2 c3 c4
    go_wp2_with fail
    refine (l1In_yes _ _ _ _ (by omega)).mono ?_
    rintro e w' ⟨rfl, rfl⟩
    go_wp2_with fail
    refine (C2.out _).mono ?_
    rintro e w2 ⟨rfl, b2⟩
    have hy := blk_call (heap_new w1 (.cells #[.int .i64 l.total, .int .i64 (l.free + F), .int .i64 (l.held + H), .int .i64 (l.sold + S), .int .i64 (l.tied + T)] 25)) b2
    have y : Below w1.heap.size w1 (w1.alloc (.cells #[.int .i64 l.total, .int .i64 (l.free + F), .int .i64 (l.held + H), .int .i64 (l.sold + S), .int .i64 (l.tied + T)] 25)) := (Below.refl _ _).alloc (Nat.le_refl _) _
    have b2 := y.trans (b2.mono y.size)
    have hz := blk_call hz b2
    have B1 := B1.trans (b2.mono B1.size)
    clear c0 c1 c2 c3 c4 y b2 b1 hx
    have c0 := cell_of_row _ _ 0 _ _ _ hy
    have c1 := cell_of_row _ _ 1 _ _ _ hy
    have c2 := cell_of_row _ _ 2 _ _ _ hy
    have c3 := cell_of_row _ _ 3 _ _ _ hy
    have c4 := cell_of_row _ _ 4 _ _ _ hy
    simp at c0 c1 c2 c3 c4
    have e0 := cell_of_row _ _ 0 _ _ _ hz
    have e1 := cell_of_row _ _ 1 _ _ _ hz
    have e2 := cell_of_row _ _ 2 _ _ _ hz
    have e3 := cell_of_row _ _ 3 _ _ _ hz
    have e4 := cell_of_row _ _ 4 _ _ _ hz
    simp at e0 e1 e2 e3 e4
    have f0 := frozen_of_row _ _ 0 _ _ hz
    have f1 := frozen_of_row _ _ 1 _ _ hz
    have f2 := frozen_of_row _ _ 2 _ _ hz
    have f3 := frozen_of_row _ _ 3 _ _ hz
    have f4 := frozen_of_row _ _ 4 _ _ hz
    have HN : Hid (Below w.heap.size w (putLe w2 (w.heap.size + 1) (⟨l.total, l.free + F, l.held + H, l.sold + S, l.tied + T⟩ : Le))) := putLe_below B1 (by omega)
    unfold putLe at HN
    go_wp2
    simp [bodyPost, results, Try.results41, go_sem, e0, e1, e2, e3, e4]
    exact HN.out
end Go.Proofs.Ytjnmdnpknlakhaa
