/- Texts laid together: Le2, Le3, Le4. -/
import Derived.Test.YtlflgflmlfileaaGreatRows
import Derived.Test.YtlflgflmlfileaaGreatLeL
import Derived.Test.YtlflgflmlfileaaGreatHs7
import Derived.Test.YtlflgflmlfileaaGreatG7
import Derived.Deep.DeepCutAuto
namespace Go.Proofs.YtlflgflmlfileaaGreat
open Go.RowKit
set_option linter.unusedSimpArgs false
set_option linter.unusedVariables false
def putLe (w : World) (b : Nat) (q : Le) : World := (((((w.setCell ⟨b, 0, none⟩ (.int .i64 q.total)).setCell ⟨b, 1, none⟩ (.int .i64 q.free)).setCell ⟨b, 2, none⟩ (.int .i64 q.held)).setCell ⟨b, 3, none⟩ (.int .i64 q.sold)).setCell ⟨b, 4, none⟩ (.int .i64 q.tied))
theorem putLe_below {B : Nat} {w0 w : World} {b : Nat} {q : Le} (h : Below B w0 w) (hb : B ≤ b) : Below B w0 (putLe w b q) := by
  unfold putLe
  exact (((((h.setCell hb _).setCell hb _).setCell hb _).setCell hb _).setCell hb _)
/-- What moving seats returns. -/
def turnV (l : Le) (n F H S T : Int) : Le × Bool := if l.fine ∧ (0 ≤ n ∧ n ≤ 60) ∧ Le.fine (⟨l.total, l.free + F, l.held + H, l.sold + S, l.tied + T⟩ : Le) then ((⟨l.total, l.free + F, l.held + H, l.sold + S, l.tied + T⟩ : Le), true) else (l, false)
def GotLe (w : World) (g : Nat) (A : Option Addr) (l : List Nat) (c : Nat) (e : Ending) (w' : World) : Prop := ∃ x : Le, x.fits ∧ e = .returned (leA x) ∧ Cur w' g A l c ∧ w.grownBy w' (some g)
theorem putLe_cur {w : World} {g : Nat} {A : Option Addr} {l : List Nat} {c b : Nat} {q : Le} (h : Cur w g A l c) (hb : g < b) : Cur (putLe w b q) g A l c := by
  unfold putLe
  exact Cur.setCell (Cur.setCell (Cur.setCell (Cur.setCell (Cur.setCell (h) b 0 _ hb) b 1 _ hb) b 2 _ hb) b 3 _ hb) b 4 _ hb
theorem putLe_grown {a w : World} {g b : Nat} {q : Le} (h : a.grownBy w (some g)) (hb : a.heap.size ≤ b) : a.grownBy (putLe w b q) (some g) := by
  unfold putLe
  exact grown_setD (grown_setD (grown_setD (grown_setD (grown_setD (h) b 0 _ hb) b 1 _ hb) b 2 _ hb) b 3 _ hb) b 4 _ hb
set_option maxRecDepth 100000 in
set_option maxHeartbeats 3200000 in
theorem l8Right_any (A : Option Addr) (l : List Nat) (c g : Nat) (w : World) (hl : l.length ≤ 2097152) (hb : AllB l) (hcw : Cur w g A l c) :
    Calls Tryz.prog 61 #[.pointer (some ⟨g, 0, none⟩)] w (GotLe w g A l c) := by
  have hgw := hcw.lt
  have hz0 := heap_new w (.cells #[.int .i64 0, .int .i64 0, .int .i64 0, .int .i64 0, .int .i64 0] 53)
  have gr0 := grown_made w (.cells #[.int .i64 0, .int .i64 0, .int .i64 0, .int .i64 0, .int .i64 0] 53) g
  have hcw0 := hcw.alloc (.cells #[.int .i64 0, .int .i64 0, .int .i64 0, .int .i64 0, .int .i64 0] 53)
  have KZ := Lib.hid (fun w' (h : (w.alloc (.cells #[.int .i64 0, .int .i64 0, .int .i64 0, .int .i64 0, .int .i64 0] 53)).grownBy w' (some g)) => (h.block _ (blk_lt hz0) (fun e => by injection e with e; omega)).trans hz0)
  have GZ := Lib.hid gr0
  have gr0 := World.grownBy.refl (w.alloc (.cells #[.int .i64 0, .int .i64 0, .int .i64 0, .int .i64 0, .int .i64 0] 53)) (some g)
  clear hz0 hcw
  go_enter Tryz.func61, Tryz.ntmps61
  go_wp2_with fail
  refine (l1Below_any A l c g 6 _ hl hb (by omega) (by omega) hcw0).mono ?_
  rintro e v0 ⟨y0, hy0, rfl, hc0, gs0⟩
  have gr1 := gr0.trans gs0
  clear gs0 gr0 hcw0
  go_wp2_with fail
  refine (l1Below_any A l c g 6 _ hl hb (by omega) (by omega) hc0).mono ?_
  rintro e v1 ⟨y1, hy1, rfl, hc1, gs1⟩
  have gr2 := gr1.trans gs1
  clear gs1 gr1 hc0
  go_wp2_with fail
  refine (l1Below_any A l c g 8 _ hl hb (by omega) (by omega) hc1).mono ?_
  rintro e v2 ⟨y2, hy2, rfl, hc2, gs2⟩
  have gr3 := gr2.trans gs2
  clear gs2 gr2 hc1
  have hz := KZ.out _ gr3
  have gr := GZ.out.trans gr3
  have ltz := blk_lt hz
  have lt4 := gr3.size
  rw [World.size_alloc] at lt4
  have lt5 := hc2.lt
  clear KZ GZ gr3
  have hq := heap_new v2 (.cells #[.int .i64 ((y0 : Int) + (y1 : Int) + (y2 : Int)), .int .i64 (y0 : Int), .int .i64 (y1 : Int), .int .i64 (y2 : Int), .int .i64 0] 53)
  have hz := blk_alloc hz (.cells #[.int .i64 ((y0 : Int) + (y1 : Int) + (y2 : Int)), .int .i64 (y0 : Int), .int .i64 (y1 : Int), .int .i64 (y2 : Int), .int .i64 0] 53)
  have hc := hc2.alloc (.cells #[.int .i64 ((y0 : Int) + (y1 : Int) + (y2 : Int)), .int .i64 (y0 : Int), .int .i64 (y1 : Int), .int .i64 (y2 : Int), .int .i64 0] 53)
  have gr := gr.trans (grown_made v2 (.cells #[.int .i64 ((y0 : Int) + (y1 : Int) + (y2 : Int)), .int .i64 (y0 : Int), .int .i64 (y1 : Int), .int .i64 (y2 : Int), .int .i64 0] 53) g)
  clear hc2
  obtain ⟨U, eU⟩ : ∃ U, v2.alloc (.cells #[.int .i64 ((y0 : Int) + (y1 : Int) + (y2 : Int)), .int .i64 (y0 : Int), .int .i64 (y1 : Int), .int .i64 (y2 : Int), .int .i64 0] 53) = U := ⟨_, rfl⟩
  rw [eU] at hq hz hc gr
  have EU := Lib.hid eU
  have HF : Hid (_ ∧ _ ∧ _ ∧ _) := ⟨hq, hz, hc, gr⟩
  clear hq hz hc gr eU
  go_upto_region 3 with fail
  rw [EU.out]
  generalize v2.heap.size = b at *
  obtain ⟨hq, hz, hc, gr⟩ := HF.out
  have a0 := cell_of_row _ _ 0 _ _ _ hq
  have a1 := cell_of_row _ _ 1 _ _ _ hq
  have a2 := cell_of_row _ _ 2 _ _ _ hq
  have a3 := cell_of_row _ _ 3 _ _ _ hq
  have a4 := cell_of_row _ _ 4 _ _ _ hq
  simp at a0 a1 a2 a3 a4
  have CB : Hid (Calls Tryz.prog 21 #[.pointer (some ⟨g, 0, none⟩), .int .i64 ((y2 : Int) + 1)] U _) := l1Below_any A l c g (y2 + 1) U hl hb (by omega) (by omega) hc
  go_wp2_with fail
  refine CB.out.mono ?_
  rintro e w5 ⟨y4, hy4, rfl, hc5, gr5⟩
  have hq5 := (gr5.block _ (blk_lt hq) (fun e => by injection e with e; omega)).trans hq
  have hz5 := (gr5.block _ (blk_lt hz) (fun e => by injection e with e; omega)).trans hz
  have gr6 := gr.trans gr5
  clear a0 a1 a2 a3 a4 CB hq hz hc gr gr5
  have s0 := cell_of_row _ _ 4 _ _ _ hq5
  have s1 := frozen_of_row _ _ 4 _ _ hq5
  simp at s0
  have hq : (w5.setCell ⟨b, 4, none⟩ (.int .i64 (y4 : Int))).heap[b]? = some (.cells #[.int .i64 ((y0 : Int) + (y1 : Int) + (y2 : Int)), .int .i64 (y0 : Int), .int .i64 (y1 : Int), .int .i64 (y2 : Int), .int .i64 (y4 : Int)] 53) := Go.heap_setCell_same _ b 4 _ _ (.int .i64 (y4 : Int)) hq5
  have hz := (heap_set_ne w5 b 4 (.int .i64 (y4 : Int)) (show w.heap.size ≠ b by omega)).trans hz5
  have hc := hc5.setCell b 4 (.int .i64 (y4 : Int)) (by omega)
  have gr := grown_setD gr6 b 4 (.int .i64 (y4 : Int)) (by omega)
  obtain ⟨V, eV⟩ : ∃ V, w5.setCell ⟨b, 4, none⟩ (.int .i64 (y4 : Int)) = V := ⟨_, rfl⟩
  rw [eV] at hq hz hc gr
  clear hq5 hz5 hc5 gr6
  have hqf : (⟨((y0 : Int) + (y1 : Int) + (y2 : Int)), (y0 : Int), (y1 : Int), (y2 : Int), (y4 : Int)⟩ : Le).fits := by unfold Le.fits inI; simp; omega
  have a0 := cell_of_row _ _ 0 _ _ _ hq
  have a1 := cell_of_row _ _ 1 _ _ _ hq
  have a2 := cell_of_row _ _ 2 _ _ _ hq
  have a3 := cell_of_row _ _ 3 _ _ _ hq
  have a4 := cell_of_row _ _ 4 _ _ _ hq
  simp at a0 a1 a2 a3 a4
  have e0 := cell_of_row _ _ 0 _ _ _ hz
  have e1 := cell_of_row _ _ 1 _ _ _ hz
  have e2 := cell_of_row _ _ 2 _ _ _ hz
  have e3 := cell_of_row _ _ 3 _ _ _ hz
  have e4 := cell_of_row _ _ 4 _ _ _ hz
  simp at e0 e1 e2 e3 e4
  have f0 := frozen_of_row _ _ 0 _ _ hz
  have f1 := frozen_of_row _ _ 1 _ _ hz
  have f2 := frozen_of_row _ _ 2 _ _ hz
  have f3 := frozen_of_row _ _ 3 _ _ hz
  have f4 := frozen_of_row _ _ 4 _ _ hz
  have HN : Hid (GotLe w g A l c (.returned (leA (⟨((y0 : Int) + (y1 : Int) + (y2 : Int)), (y0 : Int), (y1 : Int), (y2 : Int), (y4 : Int)⟩ : Le))) (putLe V w.heap.size (⟨((y0 : Int) + (y1 : Int) + (y2 : Int)), (y0 : Int), (y1 : Int), (y2 : Int), (y4 : Int)⟩ : Le))) := ⟨(⟨((y0 : Int) + (y1 : Int) + (y2 : Int)), (y0 : Int), (y1 : Int), (y2 : Int), (y4 : Int)⟩ : Le), hqf, rfl, putLe_cur hc (by omega), putLe_grown gr (by omega)⟩
  clear hq hz hc gr
  unfold leA putLe at HN
  go_wp2
  simp [bodyPost, results, Tryz.results61, go_sem, e0, e1, e2, e3, e4]
  exact HN.out
set_option maxRecDepth 100000 in
set_option maxHeartbeats 6400000 in
theorem l8Draw_any (A : Option Addr) (l : List Nat) (c g : Nat) (w : World) (hl : l.length ≤ 2097152) (hb : AllB l) (hcw : Cur w g A l c) :
    Calls Tryz.prog 42 #[.pointer (some ⟨g, 0, none⟩)] w (GotLe w g A l c) := by
  have hgw := hcw.lt
  have hz0 := heap_new w (.cells #[.int .i64 0, .int .i64 0, .int .i64 0, .int .i64 0, .int .i64 0] 53)
  have gr0 := grown_made w (.cells #[.int .i64 0, .int .i64 0, .int .i64 0, .int .i64 0, .int .i64 0] 53) g
  have hcw0 := hcw.alloc (.cells #[.int .i64 0, .int .i64 0, .int .i64 0, .int .i64 0, .int .i64 0] 53)
  have F0 : Hid (_ ∧ _) := ⟨hz0, gr0⟩
  clear hz0 gr0 hcw
  go_enter Tryz.func42, Tryz.ntmps42
  go_wp2_with fail
  refine (l8Right_any A l c g _ hl hb hcw0).mono ?_
  rintro e w1 ⟨q, hqf, rfl, hc1, gr1⟩
  have F := F0.out
  have hz1 := (gr1.block _ (blk_lt F.1) (fun e => by injection e with e; omega)).trans F.1
  have gw1 := F.2.trans gr1
  have ltz := blk_lt hz1
  have lt1 := hc1.lt
  have hq2 := heap_new w1 (.cells #[.int .i64 q.total, .int .i64 q.free, .int .i64 q.held, .int .i64 q.sold, .int .i64 q.tied] 53)
  have hz2 := blk_alloc hz1 (.cells #[.int .i64 q.total, .int .i64 q.free, .int .i64 q.held, .int .i64 q.sold, .int .i64 q.tied] 53)
  have hq3 := blk_alloc hq2 (.cells (([-1, 0, 60, 61, 9223372036854775807, -9223372036854775808] : List Int).map (Value.int .i64)).toArray 3)
  have hz3 := blk_alloc hz2 (.cells (([-1, 0, 60, 61, 9223372036854775807, -9223372036854775808] : List Int).map (Value.int .i64)).toArray 3)
  have gw3 := grown_step (grown_step gw1 (World.grownBy_alloc w1 (.cells #[.int .i64 q.total, .int .i64 q.free, .int .i64 q.held, .int .i64 q.sold, .int .i64 q.tied] 53) none) (fun j h => by cases h)) (World.grownBy_alloc _ (.cells (([-1, 0, 60, 61, 9223372036854775807, -9223372036854775808] : List Int).map (Value.int .i64)).toArray 3) none) (fun j h => by cases h)
  have hc3 := (hc1.alloc (.cells #[.int .i64 q.total, .int .i64 q.free, .int .i64 q.held, .int .i64 q.sold, .int .i64 q.tied] 53)).alloc (.cells (([-1, 0, 60, 61, 9223372036854775807, -9223372036854775808] : List Int).map (Value.int .i64)).toArray 3)
  have hx := ints_new (w1.alloc (.cells #[.int .i64 q.total, .int .i64 q.free, .int .i64 q.held, .int .i64 q.sold, .int .i64 q.tied] 53)) [-1, 0, 60, 61, 9223372036854775807, -9223372036854775808]
  rw [World.size_alloc] at hx
  have CP := Lib.hid (l1PickInt_any A l c g [-1, 0, 60, 61, 9223372036854775807, -9223372036854775808] (w1.heap.size + 1) 6 6 _ hl hb hc3 rfl (by simp) (by simp) (by omega) hx)
  have F3 : Hid (_ ∧ _ ∧ _) := ⟨hq3, hz3, gw3⟩
  clear F F0 hz1 gw1 hq2 hz2 hq3 hz3 gw3 hc3 hx hc1 gr1
  unfold leA
  go_wp2_with fail
  refine CP.out.mono ?_
  rintro e w3 ⟨z, hzm, rfl, hc4, gr4⟩
  have hz0 : inI z := by simp at hzm; unfold inI; omega
  clear hzm CP
  have F := F3.out
  have HQ := Lib.hid ((gr4.block _ (blk_lt F.1) (fun e => by injection e with e; omega)).trans F.1)
  have HZ := Lib.hid ((gr4.block _ (blk_lt F.2.1) (fun e => by injection e with e; omega)).trans F.2.1)
  have HG := Lib.hid (F.2.2.trans gr4)
  clear F F3 gr4
  go_wp2_with fail
  refine (l1Below_any A l c g 16 _ hl hb (by omega) (by omega) hc4).mono ?_
  rintro e w4 ⟨k, hk, rfl, hc, gr5⟩
  have hq := (gr5.block _ (blk_lt HQ.out) (fun e => by injection e with e; omega)).trans HQ.out
  have hz := (gr5.block _ (blk_lt HZ.out) (fun e => by injection e with e; omega)).trans HZ.out
  have gr := HG.out.trans gr5
  generalize w1.heap.size = b at *
  clear HQ HZ HG gr5 hc4
  have hks : k = 0 ∨ k = 1 ∨ k = 2 ∨ k = 3 ∨ k = 4 ∨ 5 ≤ k := by omega
  rcases hks with rfl | rfl | rfl | rfl | rfl | hk6
  · have s0 := cell_of_row _ _ 0 _ _ _ hq
    have s1 := frozen_of_row _ _ 0 _ _ hq
    simp at s0
    have hq2 : (w4.setCell ⟨b, 0, none⟩ (.int .i64 z)).heap[b]? = some (.cells #[.int .i64 z, .int .i64 q.free, .int .i64 q.held, .int .i64 q.sold, .int .i64 q.tied] 53) := Go.heap_setCell_same _ b 0 _ _ (.int .i64 z) hq
    have hz2 := (heap_set_ne w4 b 0 (.int .i64 z) (show w.heap.size ≠ b by omega)).trans hz
    have hc2 := hc.setCell b 0 (.int .i64 z) (by omega)
    have gr2 := grown_setD gr b 0 (.int .i64 z) (by omega)
    obtain ⟨U, eU⟩ : ∃ U, w4.setCell ⟨b, 0, none⟩ (.int .i64 z) = U := ⟨_, rfl⟩
    rw [eU] at hq2 hz2 hc2 gr2
    clear hq hz hc gr
    have hq := hq2
    have hz := hz2
    have hc := hc2
    have gr := gr2
    clear hq2 hz2 hc2 gr2
    have a0 := cell_of_row _ _ 0 _ _ _ hq
    have a1 := cell_of_row _ _ 1 _ _ _ hq
    have a2 := cell_of_row _ _ 2 _ _ _ hq
    have a3 := cell_of_row _ _ 3 _ _ _ hq
    have a4 := cell_of_row _ _ 4 _ _ _ hq
    simp at a0 a1 a2 a3 a4
    have e0 := cell_of_row _ _ 0 _ _ _ hz
    have e1 := cell_of_row _ _ 1 _ _ _ hz
    have e2 := cell_of_row _ _ 2 _ _ _ hz
    have e3 := cell_of_row _ _ 3 _ _ _ hz
    have e4 := cell_of_row _ _ 4 _ _ _ hz
    simp at e0 e1 e2 e3 e4
    have f0 := frozen_of_row _ _ 0 _ _ hz
    have f1 := frozen_of_row _ _ 1 _ _ hz
    have f2 := frozen_of_row _ _ 2 _ _ hz
    have f3 := frozen_of_row _ _ 3 _ _ hz
    have f4 := frozen_of_row _ _ 4 _ _ hz
    have HN : Hid (GotLe w g A l c (.returned (leA (⟨z, q.free, q.held, q.sold, q.tied⟩ : Le))) (putLe U w.heap.size (⟨z, q.free, q.held, q.sold, q.tied⟩ : Le))) := ⟨(⟨z, q.free, q.held, q.sold, q.tied⟩ : Le), ⟨hz0, hqf.2.1, hqf.2.2.1, hqf.2.2.2.1, hqf.2.2.2.2⟩, rfl, putLe_cur hc (by omega), putLe_grown gr (by omega)⟩
    clear hq hz hc gr
    unfold leA putLe at HN
    go_wp2
    simp [bodyPost, results, Tryz.results42, go_sem, e0, e1, e2, e3, e4]
    exact HN.out
  · have s0 := cell_of_row _ _ 1 _ _ _ hq
    have s1 := frozen_of_row _ _ 1 _ _ hq
    simp at s0
    have hq2 : (w4.setCell ⟨b, 1, none⟩ (.int .i64 z)).heap[b]? = some (.cells #[.int .i64 q.total, .int .i64 z, .int .i64 q.held, .int .i64 q.sold, .int .i64 q.tied] 53) := Go.heap_setCell_same _ b 1 _ _ (.int .i64 z) hq
    have hz2 := (heap_set_ne w4 b 1 (.int .i64 z) (show w.heap.size ≠ b by omega)).trans hz
    have hc2 := hc.setCell b 1 (.int .i64 z) (by omega)
    have gr2 := grown_setD gr b 1 (.int .i64 z) (by omega)
    obtain ⟨U, eU⟩ : ∃ U, w4.setCell ⟨b, 1, none⟩ (.int .i64 z) = U := ⟨_, rfl⟩
    rw [eU] at hq2 hz2 hc2 gr2
    clear hq hz hc gr
    have hq := hq2
    have hz := hz2
    have hc := hc2
    have gr := gr2
    clear hq2 hz2 hc2 gr2
    have a0 := cell_of_row _ _ 0 _ _ _ hq
    have a1 := cell_of_row _ _ 1 _ _ _ hq
    have a2 := cell_of_row _ _ 2 _ _ _ hq
    have a3 := cell_of_row _ _ 3 _ _ _ hq
    have a4 := cell_of_row _ _ 4 _ _ _ hq
    simp at a0 a1 a2 a3 a4
    have e0 := cell_of_row _ _ 0 _ _ _ hz
    have e1 := cell_of_row _ _ 1 _ _ _ hz
    have e2 := cell_of_row _ _ 2 _ _ _ hz
    have e3 := cell_of_row _ _ 3 _ _ _ hz
    have e4 := cell_of_row _ _ 4 _ _ _ hz
    simp at e0 e1 e2 e3 e4
    have f0 := frozen_of_row _ _ 0 _ _ hz
    have f1 := frozen_of_row _ _ 1 _ _ hz
    have f2 := frozen_of_row _ _ 2 _ _ hz
    have f3 := frozen_of_row _ _ 3 _ _ hz
    have f4 := frozen_of_row _ _ 4 _ _ hz
    have HN : Hid (GotLe w g A l c (.returned (leA (⟨q.total, z, q.held, q.sold, q.tied⟩ : Le))) (putLe U w.heap.size (⟨q.total, z, q.held, q.sold, q.tied⟩ : Le))) := ⟨(⟨q.total, z, q.held, q.sold, q.tied⟩ : Le), ⟨hqf.1, hz0, hqf.2.2.1, hqf.2.2.2.1, hqf.2.2.2.2⟩, rfl, putLe_cur hc (by omega), putLe_grown gr (by omega)⟩
    clear hq hz hc gr
    unfold leA putLe at HN
    go_wp2
    simp [bodyPost, results, Tryz.results42, go_sem, e0, e1, e2, e3, e4]
    exact HN.out
  · have s0 := cell_of_row _ _ 2 _ _ _ hq
    have s1 := frozen_of_row _ _ 2 _ _ hq
    simp at s0
    have hq2 : (w4.setCell ⟨b, 2, none⟩ (.int .i64 z)).heap[b]? = some (.cells #[.int .i64 q.total, .int .i64 q.free, .int .i64 z, .int .i64 q.sold, .int .i64 q.tied] 53) := Go.heap_setCell_same _ b 2 _ _ (.int .i64 z) hq
    have hz2 := (heap_set_ne w4 b 2 (.int .i64 z) (show w.heap.size ≠ b by omega)).trans hz
    have hc2 := hc.setCell b 2 (.int .i64 z) (by omega)
    have gr2 := grown_setD gr b 2 (.int .i64 z) (by omega)
    obtain ⟨U, eU⟩ : ∃ U, w4.setCell ⟨b, 2, none⟩ (.int .i64 z) = U := ⟨_, rfl⟩
    rw [eU] at hq2 hz2 hc2 gr2
    clear hq hz hc gr
    have hq := hq2
    have hz := hz2
    have hc := hc2
    have gr := gr2
    clear hq2 hz2 hc2 gr2
    have a0 := cell_of_row _ _ 0 _ _ _ hq
    have a1 := cell_of_row _ _ 1 _ _ _ hq
    have a2 := cell_of_row _ _ 2 _ _ _ hq
    have a3 := cell_of_row _ _ 3 _ _ _ hq
    have a4 := cell_of_row _ _ 4 _ _ _ hq
    simp at a0 a1 a2 a3 a4
    have e0 := cell_of_row _ _ 0 _ _ _ hz
    have e1 := cell_of_row _ _ 1 _ _ _ hz
    have e2 := cell_of_row _ _ 2 _ _ _ hz
    have e3 := cell_of_row _ _ 3 _ _ _ hz
    have e4 := cell_of_row _ _ 4 _ _ _ hz
    simp at e0 e1 e2 e3 e4
    have f0 := frozen_of_row _ _ 0 _ _ hz
    have f1 := frozen_of_row _ _ 1 _ _ hz
    have f2 := frozen_of_row _ _ 2 _ _ hz
    have f3 := frozen_of_row _ _ 3 _ _ hz
    have f4 := frozen_of_row _ _ 4 _ _ hz
    have HN : Hid (GotLe w g A l c (.returned (leA (⟨q.total, q.free, z, q.sold, q.tied⟩ : Le))) (putLe U w.heap.size (⟨q.total, q.free, z, q.sold, q.tied⟩ : Le))) := ⟨(⟨q.total, q.free, z, q.sold, q.tied⟩ : Le), ⟨hqf.1, hqf.2.1, hz0, hqf.2.2.2.1, hqf.2.2.2.2⟩, rfl, putLe_cur hc (by omega), putLe_grown gr (by omega)⟩
    clear hq hz hc gr
    unfold leA putLe at HN
    go_wp2
    simp [bodyPost, results, Tryz.results42, go_sem, e0, e1, e2, e3, e4]
    exact HN.out
  · have s0 := cell_of_row _ _ 3 _ _ _ hq
    have s1 := frozen_of_row _ _ 3 _ _ hq
    simp at s0
    have hq2 : (w4.setCell ⟨b, 3, none⟩ (.int .i64 z)).heap[b]? = some (.cells #[.int .i64 q.total, .int .i64 q.free, .int .i64 q.held, .int .i64 z, .int .i64 q.tied] 53) := Go.heap_setCell_same _ b 3 _ _ (.int .i64 z) hq
    have hz2 := (heap_set_ne w4 b 3 (.int .i64 z) (show w.heap.size ≠ b by omega)).trans hz
    have hc2 := hc.setCell b 3 (.int .i64 z) (by omega)
    have gr2 := grown_setD gr b 3 (.int .i64 z) (by omega)
    obtain ⟨U, eU⟩ : ∃ U, w4.setCell ⟨b, 3, none⟩ (.int .i64 z) = U := ⟨_, rfl⟩
    rw [eU] at hq2 hz2 hc2 gr2
    clear hq hz hc gr
    have hq := hq2
    have hz := hz2
    have hc := hc2
    have gr := gr2
    clear hq2 hz2 hc2 gr2
    have a0 := cell_of_row _ _ 0 _ _ _ hq
    have a1 := cell_of_row _ _ 1 _ _ _ hq
    have a2 := cell_of_row _ _ 2 _ _ _ hq
    have a3 := cell_of_row _ _ 3 _ _ _ hq
    have a4 := cell_of_row _ _ 4 _ _ _ hq
    simp at a0 a1 a2 a3 a4
    have e0 := cell_of_row _ _ 0 _ _ _ hz
    have e1 := cell_of_row _ _ 1 _ _ _ hz
    have e2 := cell_of_row _ _ 2 _ _ _ hz
    have e3 := cell_of_row _ _ 3 _ _ _ hz
    have e4 := cell_of_row _ _ 4 _ _ _ hz
    simp at e0 e1 e2 e3 e4
    have f0 := frozen_of_row _ _ 0 _ _ hz
    have f1 := frozen_of_row _ _ 1 _ _ hz
    have f2 := frozen_of_row _ _ 2 _ _ hz
    have f3 := frozen_of_row _ _ 3 _ _ hz
    have f4 := frozen_of_row _ _ 4 _ _ hz
    have HN : Hid (GotLe w g A l c (.returned (leA (⟨q.total, q.free, q.held, z, q.tied⟩ : Le))) (putLe U w.heap.size (⟨q.total, q.free, q.held, z, q.tied⟩ : Le))) := ⟨(⟨q.total, q.free, q.held, z, q.tied⟩ : Le), ⟨hqf.1, hqf.2.1, hqf.2.2.1, hz0, hqf.2.2.2.2⟩, rfl, putLe_cur hc (by omega), putLe_grown gr (by omega)⟩
    clear hq hz hc gr
    unfold leA putLe at HN
    go_wp2
    simp [bodyPost, results, Tryz.results42, go_sem, e0, e1, e2, e3, e4]
    exact HN.out
  · have s0 := cell_of_row _ _ 4 _ _ _ hq
    have s1 := frozen_of_row _ _ 4 _ _ hq
    simp at s0
    have hq2 : (w4.setCell ⟨b, 4, none⟩ (.int .i64 z)).heap[b]? = some (.cells #[.int .i64 q.total, .int .i64 q.free, .int .i64 q.held, .int .i64 q.sold, .int .i64 z] 53) := Go.heap_setCell_same _ b 4 _ _ (.int .i64 z) hq
    have hz2 := (heap_set_ne w4 b 4 (.int .i64 z) (show w.heap.size ≠ b by omega)).trans hz
    have hc2 := hc.setCell b 4 (.int .i64 z) (by omega)
    have gr2 := grown_setD gr b 4 (.int .i64 z) (by omega)
    obtain ⟨U, eU⟩ : ∃ U, w4.setCell ⟨b, 4, none⟩ (.int .i64 z) = U := ⟨_, rfl⟩
    rw [eU] at hq2 hz2 hc2 gr2
    clear hq hz hc gr
    have hq := hq2
    have hz := hz2
    have hc := hc2
    have gr := gr2
    clear hq2 hz2 hc2 gr2
    have a0 := cell_of_row _ _ 0 _ _ _ hq
    have a1 := cell_of_row _ _ 1 _ _ _ hq
    have a2 := cell_of_row _ _ 2 _ _ _ hq
    have a3 := cell_of_row _ _ 3 _ _ _ hq
    have a4 := cell_of_row _ _ 4 _ _ _ hq
    simp at a0 a1 a2 a3 a4
    have e0 := cell_of_row _ _ 0 _ _ _ hz
    have e1 := cell_of_row _ _ 1 _ _ _ hz
    have e2 := cell_of_row _ _ 2 _ _ _ hz
    have e3 := cell_of_row _ _ 3 _ _ _ hz
    have e4 := cell_of_row _ _ 4 _ _ _ hz
    simp at e0 e1 e2 e3 e4
    have f0 := frozen_of_row _ _ 0 _ _ hz
    have f1 := frozen_of_row _ _ 1 _ _ hz
    have f2 := frozen_of_row _ _ 2 _ _ hz
    have f3 := frozen_of_row _ _ 3 _ _ hz
    have f4 := frozen_of_row _ _ 4 _ _ hz
    have HN : Hid (GotLe w g A l c (.returned (leA (⟨q.total, q.free, q.held, q.sold, z⟩ : Le))) (putLe U w.heap.size (⟨q.total, q.free, q.held, q.sold, z⟩ : Le))) := ⟨(⟨q.total, q.free, q.held, q.sold, z⟩ : Le), ⟨hqf.1, hqf.2.1, hqf.2.2.1, hqf.2.2.2.1, hz0⟩, rfl, putLe_cur hc (by omega), putLe_grown gr (by omega)⟩
    clear hq hz hc gr
    unfold leA putLe at HN
    go_wp2
    simp [bodyPost, results, Tryz.results42, go_sem, e0, e1, e2, e3, e4]
    exact HN.out
  · have n0 : ((k : Int) == 0) = false := by simp; omega
    have n1 : ((k : Int) == 1) = false := by simp; omega
    have n2 : ((k : Int) == 2) = false := by simp; omega
    have n3 : ((k : Int) == 3) = false := by simp; omega
    have n4 : ((k : Int) == 4) = false := by simp; omega
    have a0 := cell_of_row _ _ 0 _ _ _ hq
    have a1 := cell_of_row _ _ 1 _ _ _ hq
    have a2 := cell_of_row _ _ 2 _ _ _ hq
    have a3 := cell_of_row _ _ 3 _ _ _ hq
    have a4 := cell_of_row _ _ 4 _ _ _ hq
    simp at a0 a1 a2 a3 a4
    have e0 := cell_of_row _ _ 0 _ _ _ hz
    have e1 := cell_of_row _ _ 1 _ _ _ hz
    have e2 := cell_of_row _ _ 2 _ _ _ hz
    have e3 := cell_of_row _ _ 3 _ _ _ hz
    have e4 := cell_of_row _ _ 4 _ _ _ hz
    simp at e0 e1 e2 e3 e4
    have f0 := frozen_of_row _ _ 0 _ _ hz
    have f1 := frozen_of_row _ _ 1 _ _ hz
    have f2 := frozen_of_row _ _ 2 _ _ hz
    have f3 := frozen_of_row _ _ 3 _ _ hz
    have f4 := frozen_of_row _ _ 4 _ _ hz
    have HN : Hid (GotLe w g A l c (.returned (leA q)) (putLe w4 w.heap.size q)) := ⟨q, hqf, rfl, putLe_cur hc (by omega), putLe_grown gr (by omega)⟩
    clear hq hz hc gr
    unfold leA putLe at HN
    go_wp2
    simp [bodyPost, results, Tryz.results42, go_sem, e0, e1, e2, e3, e4]
    exact HN.out
/-- What DrawSeatsHold hands out. -/
def GotLN (w : World) (e : Ending) (w' : World) : Prop := ∃ (q : Le) (n : Int), q.fits ∧ inI n ∧ e = .returned (.tuple #[leA q, .int .i64 n]) ∧ Below w.heap.size w w'
end Go.Proofs.YtlflgflmlfileaaGreat
