/- l10Right, l10Draw of the model. -/
import Derived.Test.YtlflgflmlfileaaGreatRows
import Derived.Test.YtlflgflmlfileaaGreatJ8
import Derived.Test.YtlflgflmlfileaaGreatEn6
import Derived.Test.YtlflgflmlfileaaGreatG10
import Derived.Test.YtlflgflmlfileaaGreatJ2
namespace Go.Proofs.YtlflgflmlfileaaGreat
open Go.RowKit
set_option linter.unusedSimpArgs false
set_option linter.unusedVariables false
def GotCd (w : World) (g : Nat) (A : Option Addr) (l : List Nat) (c : Nat) (e : Ending) (w' : World) : Prop := ∃ y : Cb, e = .returned (cbA y) ∧ Cur w' g A l c ∧ w.grownBy w' (some g)
theorem got_cd {w w1 : World} {g : Nat} {A : Option Addr} {l : List Nat} {c : Nat} (y : Cb) (hc : Cur w1 g A l c) (gr : w.grownBy w1 (some g)) (hlt : g < w.heap.size) : GotCd w g A l c (.returned (cbA y)) (putCb w1 w.heap.size y) :=
  ⟨y, rfl, by unfold putCb; exact cur_set (cur_set (cur_set (cur_set (cur_set (cur_set (cur_set hc hlt _) hlt _) hlt _) hlt _) hlt _) hlt _) hlt _, by unfold putCb; exact grown_set (grown_set (grown_set (grown_set (grown_set (grown_set (grown_set gr (Nat.le_refl _) _) (Nat.le_refl _) _) (Nat.le_refl _) _) (Nat.le_refl _) _) (Nat.le_refl _) _) (Nat.le_refl _) _) (Nat.le_refl _) _⟩
set_option maxRecDepth 100000 in
set_option maxHeartbeats 3200000 in
theorem l10Right_any (A : Option Addr) (l : List Nat) (c g : Nat) (w : World) (hl : l.length ≤ 2097152) (hb : AllB l) (hcw : Cur w g A l c) :
    Calls Tryz.prog 45 #[.pointer (some ⟨g, 0, none⟩)] w (GotCd w g A l c) := by
  have hlt := hcw.lt
  have hz0 := heap_new w (.cells #[.int .i64 0, .int .i64 0, .int .i64 0, .int .i64 0, .int .i64 0, .slice none 0 0, .slice none 0 0] 59)
  have hc0 := hcw.alloc (.cells #[.int .i64 0, .int .i64 0, .int .i64 0, .int .i64 0, .int .i64 0, .slice none 0 0, .slice none 0 0] 59)
  have g0 := grown_made w (.cells #[.int .i64 0, .int .i64 0, .int .i64 0, .int .i64 0, .int .i64 0, .slice none 0 0, .slice none 0 0] 59) g
  go_enter Tryz.func45, Tryz.ntmps45
  go_wp2_with fail
  refine (l8Right_any A l c g _ hl hb hc0).mono ?_
  rintro e w1 ⟨x, _, rfl, hc1, gr1⟩
  have hz1 := grown_keep gr1 hz0 (by omega)
  have G1 := g0.trans gr1
  clear gr1
  unfold leA
  go_wp2_with fail
  refine (l7Right_any A l c g _ hl hb hc1).mono ?_
  rintro e w2 ⟨el, v, _, _, rfl, oE, hc2, gr2⟩
  obtain ⟨Q, qc, rfl, _⟩ := own_form oE
  have hz2 := grown_keep gr2 hz1 (by omega)
  have G2 := G1.trans gr2
  clear gr2 hz1 G1 hc1 oE
  go_wp2_with fail
  refine (l9Right_any A l c g _ hl hb hc2).mono ?_
  rintro e w3 ⟨B, d, sq, rfl, -, -, -, -, -, hc3, gr3⟩
  have hz3 := grown_keep gr3 hz2 (by omega)
  have G3 := G2.trans gr3
  clear gr3 hz2 G2 hc2
  have e0 := cell_of_row _ _ 0 _ _ _ hz3
  have f0 := frozen_of_row _ _ 0 _ _ hz3
  have e1 := cell_of_row _ _ 1 _ _ _ hz3
  have f1 := frozen_of_row _ _ 1 _ _ hz3
  have e2 := cell_of_row _ _ 2 _ _ _ hz3
  have f2 := frozen_of_row _ _ 2 _ _ hz3
  have e3 := cell_of_row _ _ 3 _ _ _ hz3
  have f3 := frozen_of_row _ _ 3 _ _ hz3
  have e4 := cell_of_row _ _ 4 _ _ _ hz3
  have f4 := frozen_of_row _ _ 4 _ _ hz3
  have e5 := cell_of_row _ _ 5 _ _ _ hz3
  have f5 := frozen_of_row _ _ 5 _ _ hz3
  have e6 := cell_of_row _ _ 6 _ _ _ hz3
  have f6 := frozen_of_row _ _ 6 _ _ hz3
  simp at e0 e1 e2 e3 e4 e5 e6
  have R : Hid (GotCd w g A l c (.returned (cbA ⟨x, Q, el.length, qc, B, sq.length, d⟩)) (putCb w3 w.heap.size ⟨x, Q, el.length, qc, B, sq.length, d⟩)) := got_cd _ hc3 G3 hlt
  unfold cbA putCb at R
  clear hz3 hc3 G3
  go_wp2
  simp [bodyPost, results, Tryz.results45, go_sem, e0, e1, e2, e3, e4, e5, e6]
  exact R.out
set_option maxRecDepth 100000 in
set_option maxHeartbeats 6400000 in
theorem l10Draw_any (A : Option Addr) (l : List Nat) (c g : Nat) (w : World) (hl : l.length ≤ 2097152) (hb : AllB l) (hcw : Cur w g A l c) :
    Calls Tryz.prog 23 #[.pointer (some ⟨g, 0, none⟩)] w (GotCd w g A l c) := by
  have hlt := hcw.lt
  have hz0 := heap_new w (.cells #[.int .i64 0, .int .i64 0, .int .i64 0, .int .i64 0, .int .i64 0, .slice none 0 0, .slice none 0 0] 59)
  have hc0 := hcw.alloc (.cells #[.int .i64 0, .int .i64 0, .int .i64 0, .int .i64 0, .int .i64 0, .slice none 0 0, .slice none 0 0] 59)
  have g0 := grown_made w (.cells #[.int .i64 0, .int .i64 0, .int .i64 0, .int .i64 0, .int .i64 0, .slice none 0 0, .slice none 0 0] 59) g
  go_enter Tryz.func23, Tryz.ntmps23
  go_wp2_with fail
  refine (l1Once_any A l c g 4 _ hl hb (by omega) (by omega) hc0).mono ?_
  rintro e w0 ⟨bb, rfl, hc, gr⟩
  have hz := grown_keep gr hz0 (by omega)
  have G0 := g0.trans gr
  clear hz0 hc0 g0 gr
  cases bb with
  | true =>
    go_wp2_with fail
    refine (l8Draw_any A l c g _ hl hb hc).mono ?_
    rintro e w1 ⟨x, _, rfl, hc1, gr1⟩
    have hz1 := grown_keep gr1 hz (by omega)
    have G1 := G0.trans gr1
    clear gr1
    unfold leA
    go_wp2_with fail
    refine (l7Draw_any A l c g _ hl hb hc1).mono ?_
    rintro e w2 ⟨el, v, _, _, rfl, oE, hc2, gr2⟩
    obtain ⟨Q, qc, rfl, _⟩ := own_form oE
    have hz2 := grown_keep gr2 hz1 (by omega)
    have G2 := G1.trans gr2
    clear gr2 hz1 G1 hc1 oE
    go_wp2_with fail
    refine (l9Draw_any A l c g _ hl hb hc2).mono ?_
    rintro e w3 ⟨B, d, sq, rfl, -, -, -, -, hc3, gr3⟩
    have hz3 := grown_keep gr3 hz2 (by omega)
    have G3 := G2.trans gr3
    clear gr3 hz2 G2 hc2
    have e0 := cell_of_row _ _ 0 _ _ _ hz3
    have f0 := frozen_of_row _ _ 0 _ _ hz3
    have e1 := cell_of_row _ _ 1 _ _ _ hz3
    have f1 := frozen_of_row _ _ 1 _ _ hz3
    have e2 := cell_of_row _ _ 2 _ _ _ hz3
    have f2 := frozen_of_row _ _ 2 _ _ hz3
    have e3 := cell_of_row _ _ 3 _ _ _ hz3
    have f3 := frozen_of_row _ _ 3 _ _ hz3
    have e4 := cell_of_row _ _ 4 _ _ _ hz3
    have f4 := frozen_of_row _ _ 4 _ _ hz3
    have e5 := cell_of_row _ _ 5 _ _ _ hz3
    have f5 := frozen_of_row _ _ 5 _ _ hz3
    have e6 := cell_of_row _ _ 6 _ _ _ hz3
    have f6 := frozen_of_row _ _ 6 _ _ hz3
    simp at e0 e1 e2 e3 e4 e5 e6
    have R : Hid (GotCd w g A l c (.returned (cbA ⟨x, Q, el.length, qc, B, sq.length, d⟩)) (putCb w3 w.heap.size ⟨x, Q, el.length, qc, B, sq.length, d⟩)) := got_cd _ hc3 G3 hlt
    unfold cbA putCb at R
    clear hz3 hc3 G3
    go_wp2
    simp [bodyPost, results, Tryz.results23, go_sem, e0, e1, e2, e3, e4, e5, e6]
    exact R.out
  | false =>
    go_wp2_with fail
    refine (l10Right_any A l c g _ hl hb hc).mono ?_
    rintro e w1 ⟨y, rfl, hc1, gr1⟩
    have hz1 := blk_alloc (grown_keep gr1 hz (by omega)) (.cells #[.int .i64 y.le.total, .int .i64 y.le.free, .int .i64 y.le.held, .int .i64 y.le.sold, .int .i64 y.le.tied, .slice y.q y.qn y.qc, .slice y.p y.pn y.pc] 59)
    have hy1 := heap_new w1 (.cells #[.int .i64 y.le.total, .int .i64 y.le.free, .int .i64 y.le.held, .int .i64 y.le.sold, .int .i64 y.le.tied, .slice y.q y.qn y.qc, .slice y.p y.pn y.pc] 59)
    have G1 := grown_step (G0.trans gr1) (World.grownBy_alloc w1 (.cells #[.int .i64 y.le.total, .int .i64 y.le.free, .int .i64 y.le.held, .int .i64 y.le.sold, .int .i64 y.le.tied, .slice y.q y.qn y.qc, .slice y.p y.pn y.pc] 59) none) (fun j h => by cases h)
    have hc2 := hc1.alloc (.cells #[.int .i64 y.le.total, .int .i64 y.le.free, .int .i64 y.le.held, .int .i64 y.le.sold, .int .i64 y.le.tied, .slice y.q y.qn y.qc, .slice y.p y.pn y.pc] 59)
    have hlt1 : w.heap.size < w1.heap.size := blk_lt (grown_keep gr1 hz (by omega))
    have hne : ¬ w.heap.size = w1.heap.size := by omega
    have hne' : ¬ w1.heap.size = w.heap.size := by omega
    unfold cbA
    have HH := Lib.hid (And.intro hz1 (And.intro hy1 (And.intro G1 hc2)))
    clear hz hc gr1 G0 hc1 hz1 hy1 G1 hc2
    go_upto_region 4 with fail
    obtain ⟨hz1, hy1, G1, hc2⟩ := HH.out
    clear HH
    generalize w1.alloc (.cells #[.int .i64 y.le.total, .int .i64 y.le.free, .int .i64 y.le.held, .int .i64 y.le.sold, .int .i64 y.le.tied, .slice y.q y.qn y.qc, .slice y.p y.pn y.pc] 59) = U at *
    generalize w1.heap.size = gy at *
    have e0 := cell_of_row _ _ 0 _ _ _ hz1
    have f0 := frozen_of_row _ _ 0 _ _ hz1
    have e1 := cell_of_row _ _ 1 _ _ _ hz1
    have f1 := frozen_of_row _ _ 1 _ _ hz1
    have e2 := cell_of_row _ _ 2 _ _ _ hz1
    have f2 := frozen_of_row _ _ 2 _ _ hz1
    have e3 := cell_of_row _ _ 3 _ _ _ hz1
    have f3 := frozen_of_row _ _ 3 _ _ hz1
    have e4 := cell_of_row _ _ 4 _ _ _ hz1
    have f4 := frozen_of_row _ _ 4 _ _ hz1
    have e5 := cell_of_row _ _ 5 _ _ _ hz1
    have f5 := frozen_of_row _ _ 5 _ _ hz1
    have e6 := cell_of_row _ _ 6 _ _ _ hz1
    have f6 := frozen_of_row _ _ 6 _ _ hz1
    simp at e0 e1 e2 e3 e4 e5 e6

    have c0 := cell_of_row _ _ 0 _ _ _ hy1
    have d0 := frozen_of_row _ _ 0 _ _ hy1
    have c1 := cell_of_row _ _ 1 _ _ _ hy1
    have d1 := frozen_of_row _ _ 1 _ _ hy1
    have c2 := cell_of_row _ _ 2 _ _ _ hy1
    have d2 := frozen_of_row _ _ 2 _ _ hy1
    have c3 := cell_of_row _ _ 3 _ _ _ hy1
    have d3 := frozen_of_row _ _ 3 _ _ hy1
    have c4 := cell_of_row _ _ 4 _ _ _ hy1
    have d4 := frozen_of_row _ _ 4 _ _ hy1
    have c5 := cell_of_row _ _ 5 _ _ _ hy1
    have d5 := frozen_of_row _ _ 5 _ _ hy1
    have c6 := cell_of_row _ _ 6 _ _ _ hy1
    have d6 := frozen_of_row _ _ 6 _ _ hy1
    simp at c0 c1 c2 c3 c4 c5 c6

    by_cases h0 : y.le.total = 0
    · have q0 : (y.le.total == 0) = true := by simp [h0]
      have R : Hid (GotCd w g A l c (.returned (cbA ⟨⟨3, 1, 0, 2, 0⟩, y.q, y.qn, y.qc, y.p, y.pn, y.pc⟩)) (putCb (((((U.setCell ⟨gy, 0, none⟩ (.int .i64 3)).setCell ⟨gy, 1, none⟩ (.int .i64 1)).setCell ⟨gy, 2, none⟩ (.int .i64 0)).setCell ⟨gy, 3, none⟩ (.int .i64 2)).setCell ⟨gy, 4, none⟩ (.int .i64 0)) w.heap.size ⟨⟨3, 1, 0, 2, 0⟩, y.q, y.qn, y.qc, y.p, y.pn, y.pc⟩)) :=
        got_cd _ (cur_set (cur_set (cur_set (cur_set (cur_set hc2 (by omega) _) (by omega) _) (by omega) _) (by omega) _) (by omega) _) (grown_set (grown_set (grown_set (grown_set (grown_set G1 (by omega) _) (by omega) _) (by omega) _) (by omega) _) (by omega) _) hlt
      unfold cbA putCb at R
      clear hz1 hy1 G1 hc2 h0
      go_wp2
      simp [bodyPost, results, Tryz.results23, go_sem, e0, e1, e2, e3, e4, e5, e6, c0, c1, c2, c3, c4, c5, c6, hne, hne']
      exact R.out
    · have q0 : (y.le.total == 0) = false := by simp [h0]
      have R : Hid (GotCd w g A l c (.returned (cbA y)) (putCb U w.heap.size y)) := got_cd _ hc2 G1 hlt
      unfold cbA putCb at R
      clear hz1 hy1 G1 hc2 h0
      go_wp2
      simp [bodyPost, results, Tryz.results23, go_sem, e0, e1, e2, e3, e4, e5, e6, c0, c1, c2, c3, c4, c5, c6, hne, hne']
      exact R.out
end Go.Proofs.YtlflgflmlfileaaGreat
