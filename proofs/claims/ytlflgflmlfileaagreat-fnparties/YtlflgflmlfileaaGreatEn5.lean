/- l7Entry of the model. -/
import Derived.Test.YtlflgflmlfileaaGreatRows
import Derived.Test.YtlflgflmlfileaaGreatEn4
import Derived.Test.YtlflgflmlfileaaGreatSameI
import Derived.Test.YtlflgflmlfileaaGreatG7
import Derived.Test.YtlflgflmlfileaaGreatHs11
namespace Go.Proofs.YtlflgflmlfileaaGreat
open Go.RowKit
set_option linter.unusedSimpArgs false
set_option linter.unusedVariables false
/-- An entry that was drawn. -/
def GotEn (w : World) (g : Nat) (A : Option Addr) (l : List Nat) (c : Nat) (e : Ending) (w' : World) : Prop := ∃ x : En, x.fits ∧ e = .returned (enA x) ∧ Cur w' g A l c ∧ w.grownBy w' (some g)
theorem putEn_cur {w : World} {g : Nat} {A : Option Addr} {l : List Nat} {c b : Nat} {q : En} (h : Cur w g A l c) (hb : g < b) : Cur (putEn w b q) g A l c := by
  unfold putEn
  exact Cur.setCell (Cur.setCell (Cur.setCell (Cur.setCell (h) b 0 _ hb) b 1 _ hb) b 2 _ hb) b 3 _ hb
theorem putEn_grown {a w : World} {g b : Nat} {q : En} (h : a.grownBy w (some g)) (hb : a.heap.size ≤ b) : a.grownBy (putEn w b q) (some g) := by
  unfold putEn
  exact grown_setD (grown_setD (grown_setD (grown_setD (h) b 0 _ hb) b 1 _ hb) b 2 _ hb) b 3 _ hb
set_option maxRecDepth 100000 in
set_option maxHeartbeats 6400000 in
theorem l7Entry_any (A : Option Addr) (l : List Nat) (c g : Nat) (w : World) (hl : l.length ≤ 2097152) (hb : AllB l) (hcw : Cur w g A l c) :
    Calls Tryz.prog 63 #[.pointer (some ⟨g, 0, none⟩)] w (GotEn w g A l c) := by
  have hgw := hcw.lt
  have hz0 := heap_new w (.cells #[.int .i64 0, .int .i64 0, .int .i64 0, .int .i64 0] 100)
  have gr0 := grown_made w (.cells #[.int .i64 0, .int .i64 0, .int .i64 0, .int .i64 0] 100) g
  have hcw0 := hcw.alloc (.cells #[.int .i64 0, .int .i64 0, .int .i64 0, .int .i64 0] 100)
  have KZ := Lib.hid (fun w' (h : (w.alloc (.cells #[.int .i64 0, .int .i64 0, .int .i64 0, .int .i64 0] 100)).grownBy w' (some g)) => (h.block _ (blk_lt hz0) (fun e => by injection e with e; omega)).trans hz0)
  have GZ := Lib.hid gr0
  have gr0 := World.grownBy.refl (w.alloc (.cells #[.int .i64 0, .int .i64 0, .int .i64 0, .int .i64 0] 100)) (some g)
  clear hz0 hcw
  go_enter Tryz.func63, Tryz.ntmps63
  go_wp2_with fail
  refine (l1Below_any A l c g 4 _ hl hb (by omega) (by omega) hcw0).mono ?_
  rintro e v0 ⟨y0, hy0, rfl, hc0, gs0⟩
  have gr1 := gr0.trans gs0
  clear gs0 gr0 hcw0
  go_wp2_with fail
  refine (l1Below_any A l c g 20 _ hl hb (by omega) (by omega) hc0).mono ?_
  rintro e v1 ⟨y1, hy1, rfl, hc1, gs1⟩
  have gr2 := gr1.trans gs1
  clear gs1 gr1 hc0
  go_wp2_with fail
  refine (l1Below_any A l c g 12 _ hl hb (by omega) (by omega) hc1).mono ?_
  rintro e v2 ⟨y2, hy2, rfl, hc2, gs2⟩
  have gr3 := gr2.trans gs2
  clear gs2 gr2 hc1
  go_wp2_with fail
  refine (l1Below_any A l c g 6 _ hl hb (by omega) (by omega) hc2).mono ?_
  rintro e v3 ⟨y3, hy3, rfl, hc3, gs3⟩
  have gr4 := gr3.trans gs3
  clear gs3 gr3 hc2
  have hz1 := KZ.out _ gr4
  have gw1 := GZ.out.trans gr4
  have ltz := blk_lt hz1
  have lt4 := gr4.size
  rw [World.size_alloc] at lt4
  clear KZ GZ gr4
  have hqf : (⟨(y0 : Int), 1 + (y1 : Int), 1 + (y2 : Int), 1 + (y3 : Int)⟩ : En).fits := by unfold En.fits inI; simp; omega
  have hq2 := heap_new v3 (.cells #[.int .i64 (y0 : Int), .int .i64 (1 + (y1 : Int)), .int .i64 (1 + (y2 : Int)), .int .i64 (1 + (y3 : Int))] 100)
  have hz2 := blk_alloc hz1 (.cells #[.int .i64 (y0 : Int), .int .i64 (1 + (y1 : Int)), .int .i64 (1 + (y2 : Int)), .int .i64 (1 + (y3 : Int))] 100)
  have hq3 := blk_alloc hq2 (.cells (([-1, 0, 5, 7, 1000, 1000001, 9223372036854775807, -9223372036854775808] : List Int).map (Value.int .i64)).toArray 3)
  have hz3 := blk_alloc hz2 (.cells (([-1, 0, 5, 7, 1000, 1000001, 9223372036854775807, -9223372036854775808] : List Int).map (Value.int .i64)).toArray 3)
  have gw3 := grown_step (grown_step gw1 (World.grownBy_alloc v3 (.cells #[.int .i64 (y0 : Int), .int .i64 (1 + (y1 : Int)), .int .i64 (1 + (y2 : Int)), .int .i64 (1 + (y3 : Int))] 100) none) (fun j h => by cases h)) (World.grownBy_alloc _ (.cells (([-1, 0, 5, 7, 1000, 1000001, 9223372036854775807, -9223372036854775808] : List Int).map (Value.int .i64)).toArray 3) none) (fun j h => by cases h)
  have hc5 := (hc3.alloc (.cells #[.int .i64 (y0 : Int), .int .i64 (1 + (y1 : Int)), .int .i64 (1 + (y2 : Int)), .int .i64 (1 + (y3 : Int))] 100)).alloc (.cells (([-1, 0, 5, 7, 1000, 1000001, 9223372036854775807, -9223372036854775808] : List Int).map (Value.int .i64)).toArray 3)
  have lt3 := hc3.lt
  have hx := ints_new (v3.alloc (.cells #[.int .i64 (y0 : Int), .int .i64 (1 + (y1 : Int)), .int .i64 (1 + (y2 : Int)), .int .i64 (1 + (y3 : Int))] 100)) [-1, 0, 5, 7, 1000, 1000001, 9223372036854775807, -9223372036854775808]
  rw [World.size_alloc] at hx
  have CP := Lib.hid (l1PickInt_any A l c g [-1, 0, 5, 7, 1000, 1000001, 9223372036854775807, -9223372036854775808] (v3.heap.size + 1) 8 8 _ hl hb hc5 rfl (by simp) (by simp) (by omega) hx)
  have F3 : Hid (_ ∧ _ ∧ _) := ⟨hq3, hz3, gw3⟩
  clear hz1 gw1 hq2 hz2 hq3 hz3 gw3 hc5 hx hc3
  go_wp2_with fail
  refine CP.out.mono ?_
  rintro e w3 ⟨z, hzm, rfl, hc4, gr4⟩
  have hz0 : inI z := by
    simp at hzm
    unfold inI
    omega
  clear hzm CP
  have F := F3.out
  have hq := (gr4.block _ (blk_lt F.1) (fun e => by injection e with e; omega)).trans F.1
  have hz := (gr4.block _ (blk_lt F.2.1) (fun e => by injection e with e; omega)).trans F.2.1
  have gr := F.2.2.trans gr4
  have HQ := Lib.hid hq
  have HZ := Lib.hid hz
  have HG := Lib.hid gr
  clear F F3 gr4 hq hz gr
  go_wp2_with fail
  refine (l1Below_any A l c g 30 _ hl hb (by omega) (by omega) hc4).mono ?_
  rintro e w4 ⟨k, hk, rfl, hc, gr5⟩
  have hq := (gr5.block _ (blk_lt HQ.out) (fun e => by injection e with e; omega)).trans HQ.out
  have hz := (gr5.block _ (blk_lt HZ.out) (fun e => by injection e with e; omega)).trans HZ.out
  have gr := HG.out.trans gr5
  generalize v3.heap.size = b at *
  clear HQ HZ HG gr5 hc4
  obtain ⟨q, hqe⟩ : ∃ q : En, q = ⟨(y0 : Int), 1 + (y1 : Int), 1 + (y2 : Int), 1 + (y3 : Int)⟩ := ⟨_, rfl⟩
  have hq : w4.heap[b]? = some (.cells #[.int .i64 q.lev, .int .i64 q.turn, .int .i64 q.id, .int .i64 q.size] 100) := by rw [hqe]; exact hq
  rw [← hqe] at hqf
  clear hqe
  have hks : k = 0 ∨ k = 1 ∨ k = 2 ∨ k = 3 ∨ 4 ≤ k := by omega
  rcases hks with rfl | rfl | rfl | rfl | hk6
  · have s0 := cell_of_row _ _ 0 _ _ _ hq
    have s1 := frozen_of_row _ _ 0 _ _ hq
    simp at s0
    have hq2 : (w4.setCell ⟨b, 0, none⟩ (.int .i64 z)).heap[b]? = some (.cells #[.int .i64 z, .int .i64 q.turn, .int .i64 q.id, .int .i64 q.size] 100) := Go.heap_setCell_same _ b 0 _ _ (.int .i64 z) hq
    have hz2 := (heap_set_ne w4 b 0 (.int .i64 z) (show w.heap.size ≠ b by omega)).trans hz
    have hc2 := hc.setCell b 0 (.int .i64 z) (by omega)
    have gr2 := grown_setD gr b 0 (.int .i64 z) (by omega)
    obtain ⟨U, eU⟩ : ∃ U, w4.setCell ⟨b, 0, none⟩ (.int .i64 z) = U := ⟨_, rfl⟩
    rw [eU] at hq2 hz2 hc2 gr2
    clear hq hz hc gr
    have hq := hq2
    have hz := hz2
    have hc := hc2
    have gr := gr2
    clear hq2 hz2 hc2 gr2
    have a0 := cell_of_row _ _ 0 _ _ _ hq
    have a1 := cell_of_row _ _ 1 _ _ _ hq
    have a2 := cell_of_row _ _ 2 _ _ _ hq
    have a3 := cell_of_row _ _ 3 _ _ _ hq
    have e0 := cell_of_row _ _ 0 _ _ _ hz
    have f0 := frozen_of_row _ _ 0 _ _ hz
    have e1 := cell_of_row _ _ 1 _ _ _ hz
    have f1 := frozen_of_row _ _ 1 _ _ hz
    have e2 := cell_of_row _ _ 2 _ _ _ hz
    have f2 := frozen_of_row _ _ 2 _ _ hz
    have e3 := cell_of_row _ _ 3 _ _ _ hz
    have f3 := frozen_of_row _ _ 3 _ _ hz
    simp at a0 a1 a2 a3 e0 e1 e2 e3
    have HN : Hid (GotEn w g A l c (.returned (enA (⟨z, q.turn, q.id, q.size⟩ : En))) (putEn U w.heap.size (⟨z, q.turn, q.id, q.size⟩ : En))) := ⟨(⟨z, q.turn, q.id, q.size⟩ : En), ⟨hz0, hqf.2.1, hqf.2.2.1, hqf.2.2.2⟩, rfl, putEn_cur hc (by omega), putEn_grown gr (by omega)⟩
    clear hq hz hc gr
    unfold enA putEn at HN
    go_wp2
    simp [bodyPost, results, Tryz.results63, go_sem, e0, e1, e2, e3]
    exact HN.out
  · have s0 := cell_of_row _ _ 1 _ _ _ hq
    have s1 := frozen_of_row _ _ 1 _ _ hq
    simp at s0
    have hq2 : (w4.setCell ⟨b, 1, none⟩ (.int .i64 z)).heap[b]? = some (.cells #[.int .i64 q.lev, .int .i64 z, .int .i64 q.id, .int .i64 q.size] 100) := Go.heap_setCell_same _ b 1 _ _ (.int .i64 z) hq
    have hz2 := (heap_set_ne w4 b 1 (.int .i64 z) (show w.heap.size ≠ b by omega)).trans hz
    have hc2 := hc.setCell b 1 (.int .i64 z) (by omega)
    have gr2 := grown_setD gr b 1 (.int .i64 z) (by omega)
    obtain ⟨U, eU⟩ : ∃ U, w4.setCell ⟨b, 1, none⟩ (.int .i64 z) = U := ⟨_, rfl⟩
    rw [eU] at hq2 hz2 hc2 gr2
    clear hq hz hc gr
    have hq := hq2
    have hz := hz2
    have hc := hc2
    have gr := gr2
    clear hq2 hz2 hc2 gr2
    have a0 := cell_of_row _ _ 0 _ _ _ hq
    have a1 := cell_of_row _ _ 1 _ _ _ hq
    have a2 := cell_of_row _ _ 2 _ _ _ hq
    have a3 := cell_of_row _ _ 3 _ _ _ hq
    have e0 := cell_of_row _ _ 0 _ _ _ hz
    have f0 := frozen_of_row _ _ 0 _ _ hz
    have e1 := cell_of_row _ _ 1 _ _ _ hz
    have f1 := frozen_of_row _ _ 1 _ _ hz
    have e2 := cell_of_row _ _ 2 _ _ _ hz
    have f2 := frozen_of_row _ _ 2 _ _ hz
    have e3 := cell_of_row _ _ 3 _ _ _ hz
    have f3 := frozen_of_row _ _ 3 _ _ hz
    simp at a0 a1 a2 a3 e0 e1 e2 e3
    have HN : Hid (GotEn w g A l c (.returned (enA (⟨q.lev, z, q.id, q.size⟩ : En))) (putEn U w.heap.size (⟨q.lev, z, q.id, q.size⟩ : En))) := ⟨(⟨q.lev, z, q.id, q.size⟩ : En), ⟨hqf.1, hz0, hqf.2.2.1, hqf.2.2.2⟩, rfl, putEn_cur hc (by omega), putEn_grown gr (by omega)⟩
    clear hq hz hc gr
    unfold enA putEn at HN
    go_wp2
    simp [bodyPost, results, Tryz.results63, go_sem, e0, e1, e2, e3]
    exact HN.out
  · have s0 := cell_of_row _ _ 2 _ _ _ hq
    have s1 := frozen_of_row _ _ 2 _ _ hq
    simp at s0
    have hq2 : (w4.setCell ⟨b, 2, none⟩ (.int .i64 z)).heap[b]? = some (.cells #[.int .i64 q.lev, .int .i64 q.turn, .int .i64 z, .int .i64 q.size] 100) := Go.heap_setCell_same _ b 2 _ _ (.int .i64 z) hq
    have hz2 := (heap_set_ne w4 b 2 (.int .i64 z) (show w.heap.size ≠ b by omega)).trans hz
    have hc2 := hc.setCell b 2 (.int .i64 z) (by omega)
    have gr2 := grown_setD gr b 2 (.int .i64 z) (by omega)
    obtain ⟨U, eU⟩ : ∃ U, w4.setCell ⟨b, 2, none⟩ (.int .i64 z) = U := ⟨_, rfl⟩
    rw [eU] at hq2 hz2 hc2 gr2
    clear hq hz hc gr
    have hq := hq2
    have hz := hz2
    have hc := hc2
    have gr := gr2
    clear hq2 hz2 hc2 gr2
    have a0 := cell_of_row _ _ 0 _ _ _ hq
    have a1 := cell_of_row _ _ 1 _ _ _ hq
    have a2 := cell_of_row _ _ 2 _ _ _ hq
    have a3 := cell_of_row _ _ 3 _ _ _ hq
    have e0 := cell_of_row _ _ 0 _ _ _ hz
    have f0 := frozen_of_row _ _ 0 _ _ hz
    have e1 := cell_of_row _ _ 1 _ _ _ hz
    have f1 := frozen_of_row _ _ 1 _ _ hz
    have e2 := cell_of_row _ _ 2 _ _ _ hz
    have f2 := frozen_of_row _ _ 2 _ _ hz
    have e3 := cell_of_row _ _ 3 _ _ _ hz
    have f3 := frozen_of_row _ _ 3 _ _ hz
    simp at a0 a1 a2 a3 e0 e1 e2 e3
    have HN : Hid (GotEn w g A l c (.returned (enA (⟨q.lev, q.turn, z, q.size⟩ : En))) (putEn U w.heap.size (⟨q.lev, q.turn, z, q.size⟩ : En))) := ⟨(⟨q.lev, q.turn, z, q.size⟩ : En), ⟨hqf.1, hqf.2.1, hz0, hqf.2.2.2⟩, rfl, putEn_cur hc (by omega), putEn_grown gr (by omega)⟩
    clear hq hz hc gr
    unfold enA putEn at HN
    go_wp2
    simp [bodyPost, results, Tryz.results63, go_sem, e0, e1, e2, e3]
    exact HN.out
  · have s0 := cell_of_row _ _ 3 _ _ _ hq
    have s1 := frozen_of_row _ _ 3 _ _ hq
    simp at s0
    have hq2 : (w4.setCell ⟨b, 3, none⟩ (.int .i64 z)).heap[b]? = some (.cells #[.int .i64 q.lev, .int .i64 q.turn, .int .i64 q.id, .int .i64 z] 100) := Go.heap_setCell_same _ b 3 _ _ (.int .i64 z) hq
    have hz2 := (heap_set_ne w4 b 3 (.int .i64 z) (show w.heap.size ≠ b by omega)).trans hz
    have hc2 := hc.setCell b 3 (.int .i64 z) (by omega)
    have gr2 := grown_setD gr b 3 (.int .i64 z) (by omega)
    obtain ⟨U, eU⟩ : ∃ U, w4.setCell ⟨b, 3, none⟩ (.int .i64 z) = U := ⟨_, rfl⟩
    rw [eU] at hq2 hz2 hc2 gr2
    clear hq hz hc gr
    have hq := hq2
    have hz := hz2
    have hc := hc2
    have gr := gr2
    clear hq2 hz2 hc2 gr2
    have a0 := cell_of_row _ _ 0 _ _ _ hq
    have a1 := cell_of_row _ _ 1 _ _ _ hq
    have a2 := cell_of_row _ _ 2 _ _ _ hq
    have a3 := cell_of_row _ _ 3 _ _ _ hq
    have e0 := cell_of_row _ _ 0 _ _ _ hz
    have f0 := frozen_of_row _ _ 0 _ _ hz
    have e1 := cell_of_row _ _ 1 _ _ _ hz
    have f1 := frozen_of_row _ _ 1 _ _ hz
    have e2 := cell_of_row _ _ 2 _ _ _ hz
    have f2 := frozen_of_row _ _ 2 _ _ hz
    have e3 := cell_of_row _ _ 3 _ _ _ hz
    have f3 := frozen_of_row _ _ 3 _ _ hz
    simp at a0 a1 a2 a3 e0 e1 e2 e3
    have HN : Hid (GotEn w g A l c (.returned (enA (⟨q.lev, q.turn, q.id, z⟩ : En))) (putEn U w.heap.size (⟨q.lev, q.turn, q.id, z⟩ : En))) := ⟨(⟨q.lev, q.turn, q.id, z⟩ : En), ⟨hqf.1, hqf.2.1, hqf.2.2.1, hz0⟩, rfl, putEn_cur hc (by omega), putEn_grown gr (by omega)⟩
    clear hq hz hc gr
    unfold enA putEn at HN
    go_wp2
    simp [bodyPost, results, Tryz.results63, go_sem, e0, e1, e2, e3]
    exact HN.out
  · have n0 : ((k : Int) == 0) = false := by simp; omega
    have n1 : ((k : Int) == 1) = false := by simp; omega
    have n2 : ((k : Int) == 2) = false := by simp; omega
    have n3 : ((k : Int) == 3) = false := by simp; omega
    have a0 := cell_of_row _ _ 0 _ _ _ hq
    have a1 := cell_of_row _ _ 1 _ _ _ hq
    have a2 := cell_of_row _ _ 2 _ _ _ hq
    have a3 := cell_of_row _ _ 3 _ _ _ hq
    have e0 := cell_of_row _ _ 0 _ _ _ hz
    have f0 := frozen_of_row _ _ 0 _ _ hz
    have e1 := cell_of_row _ _ 1 _ _ _ hz
    have f1 := frozen_of_row _ _ 1 _ _ hz
    have e2 := cell_of_row _ _ 2 _ _ _ hz
    have f2 := frozen_of_row _ _ 2 _ _ hz
    have e3 := cell_of_row _ _ 3 _ _ _ hz
    have f3 := frozen_of_row _ _ 3 _ _ hz
    simp at a0 a1 a2 a3 e0 e1 e2 e3
    have HN : Hid (GotEn w g A l c (.returned (enA q)) (putEn w4 w.heap.size q)) := ⟨q, hqf, rfl, putEn_cur hc (by omega), putEn_grown gr (by omega)⟩
    clear hq hz hc gr
    unfold enA putEn at HN
    go_wp2
    simp [bodyPost, results, Tryz.results63, go_sem, e0, e1, e2, e3]
    exact HN.out
end Go.Proofs.YtlflgflmlfileaaGreat
