/- l12Bent of the model, given l12Right. -/
import Derived.Test.YtohpegblbikbdaaRows
import Derived.Test.YtohpegblbikbdaaHs27
namespace Go.Proofs.Ytohpegblbikbdaa
open Go.RowKit
set_option linter.unusedSimpArgs false
set_option linter.unusedVariables false
/-- A request that was drawn. -/
def GotRq (w : World) (g : Nat) (A : Option Addr) (l : List Nat) (c : Nat) (e : Ending) (w' : World) : Prop := ∃ q : Rq, e = .returned (rqA q) ∧ Cur w' g A l c ∧ w.grownBy w' (some g)
/-- What l12Right is to do. -/
def L12 : Prop := ∀ (A : Option Addr) (l : List Nat) (c g : Nat) (x : Ho) (pl : List Pt) (w : World), l.length ≤ 2097152 → AllB l → Cur w g A l c → RuOk x.r → x.pn = pl.length → pl.length ≤ 8 → Rws w w.heap.size x.p (pl.flatMap ptC) → Calls Try.prog 22 #[.pointer (some ⟨g, 0, none⟩), hoA x] w (GotRq w g A l c)
def putRq (w : World) (b : Nat) (q : Rq) : World := ((((((w.setCell ⟨b, 0, none⟩ (.int .i64 q.kind)).setCell ⟨b, 1, none⟩ (.int .i64 q.id)).setCell ⟨b, 2, none⟩ (.int .i64 q.cabin)).setCell ⟨b, 3, none⟩ (.int .i64 q.from_)).setCell ⟨b, 4, none⟩ (.int .i64 q.size)).setCell ⟨b, 5, none⟩ (.int .i64 q.tier))
theorem putRq_cur {w : World} {g : Nat} {A : Option Addr} {l : List Nat} {c b : Nat} {q : Rq} (h : Cur w g A l c) (hb : g < b) : Cur (putRq w b q) g A l c := by
  unfold putRq
  exact Cur.setCell (Cur.setCell (Cur.setCell (Cur.setCell (Cur.setCell (Cur.setCell (h) b 0 _ hb) b 1 _ hb) b 2 _ hb) b 3 _ hb) b 4 _ hb) b 5 _ hb
theorem putRq_grown {a w : World} {g b : Nat} {q : Rq} (h : a.grownBy w (some g)) (hb : a.heap.size ≤ b) : a.grownBy (putRq w b q) (some g) := by
  unfold putRq
  exact grown_setD (grown_setD (grown_setD (grown_setD (grown_setD (grown_setD (h) b 0 _ hb) b 1 _ hb) b 2 _ hb) b 3 _ hb) b 4 _ hb) b 5 _ hb
set_option maxRecDepth 100000 in
set_option maxHeartbeats 6400000 in
theorem l12Bent_any (H12 : L12) (A : Option Addr) (l : List Nat) (c g : Nat) (x : Ho) (pl : List Pt) (w : World) (hl : l.length ≤ 2097152) (hb : AllB l) (hcw : Cur w g A l c) (hr : RuOk x.r) (hpn : x.pn = pl.length) (hpl : pl.length ≤ 8) (hA : Rws w w.heap.size x.p (pl.flatMap ptC)) :
    Calls Try.prog 24 #[.pointer (some ⟨g, 0, none⟩), hoA x] w (GotRq w g A l c) := by
  have T0 := two_at w ((w.alloc (.cells #[.slice x.ra x.r.seats.length x.rc, .int .i64 x.r.tiers, .int .i64 x.r.room, .int .i64 x.r.size, .int .i64 x.r.period, .int .i64 x.r.window, .int .i64 x.r.rest, .int .i64 x.r.tries, .int .i64 x.r.crew, .int .i64 x.now, .int .i64 x.turn, .slice x.p x.pn x.pc, .slice x.c x.cn x.cc, .slice x.t x.tn x.tc, .slice x.j x.jn x.jc] 52)).alloc (.cells #[.int .i64 0, .int .i64 0, .int .i64 0, .int .i64 0, .int .i64 0, .int .i64 0] 30)) _ _ (Below.refl _ _)
  have hgw := hcw.lt
  have gr0 : w.grownBy ((w.alloc (.cells #[.slice x.ra x.r.seats.length x.rc, .int .i64 x.r.tiers, .int .i64 x.r.room, .int .i64 x.r.size, .int .i64 x.r.period, .int .i64 x.r.window, .int .i64 x.r.rest, .int .i64 x.r.tries, .int .i64 x.r.crew, .int .i64 x.now, .int .i64 x.turn, .slice x.p x.pn x.pc, .slice x.c x.cn x.cc, .slice x.t x.tn x.tc, .slice x.j x.jn x.jc] 52)).alloc (.cells #[.int .i64 0, .int .i64 0, .int .i64 0, .int .i64 0, .int .i64 0, .int .i64 0] 30)) (some g) := grown_step (World.grownBy_alloc _ _ _) (World.grownBy_alloc _ _ none) (fun j h => by cases h)
  have CL := Lib.hid (H12 A l c g x pl ((w.alloc (.cells #[.slice x.ra x.r.seats.length x.rc, .int .i64 x.r.tiers, .int .i64 x.r.room, .int .i64 x.r.size, .int .i64 x.r.period, .int .i64 x.r.window, .int .i64 x.r.rest, .int .i64 x.r.tries, .int .i64 x.r.crew, .int .i64 x.now, .int .i64 x.turn, .slice x.p x.pn x.pc, .slice x.c x.cn x.cc, .slice x.t x.tn x.tc, .slice x.j x.jn x.jc] 52)).alloc (.cells #[.int .i64 0, .int .i64 0, .int .i64 0, .int .i64 0, .int .i64 0, .int .i64 0] 30)) hl hb ((hcw.alloc _).alloc _) hr hpn hpl (rws_below hA T0.2.2))
  have F0 : Hid (_ ∧ _ ∧ _) := ⟨T0.1, T0.2.1, gr0⟩
  clear T0 gr0 hA hpn
  unfold hoA at CL
  unfold hoA
  go_enter Try.func24, Try.ntmps24
  go_wp2_with fail
  refine CL.out.mono ?_
  rintro e w1 ⟨q, rfl, hc1, gr1⟩
  have F := F0.out
  have hz1 := (gr1.block _ (blk_lt F.2.1) (fun e => by injection e with e; omega)).trans F.2.1
  have gw1 := F.2.2.trans gr1
  have ltz := blk_lt hz1
  have hq2 := heap_new w1 (.cells #[.int .i64 q.kind, .int .i64 q.id, .int .i64 q.cabin, .int .i64 q.from_, .int .i64 q.size, .int .i64 q.tier] 30)
  have hz2 := blk_alloc hz1 (.cells #[.int .i64 q.kind, .int .i64 q.id, .int .i64 q.cabin, .int .i64 q.from_, .int .i64 q.size, .int .i64 q.tier] 30)
  have hq3 := blk_alloc hq2 (.cells (([-1, 0, 1, 4, 7, 61, 1000, 9999, 10000, 9223372036854775807, -9223372036854775808] : List Int).map (Value.int .i64)).toArray 3)
  have hz3 := blk_alloc hz2 (.cells (([-1, 0, 1, 4, 7, 61, 1000, 9999, 10000, 9223372036854775807, -9223372036854775808] : List Int).map (Value.int .i64)).toArray 3)
  have gw3 := grown_step (grown_step gw1 (World.grownBy_alloc w1 (.cells #[.int .i64 q.kind, .int .i64 q.id, .int .i64 q.cabin, .int .i64 q.from_, .int .i64 q.size, .int .i64 q.tier] 30) none) (fun j h => by cases h)) (World.grownBy_alloc _ (.cells (([-1, 0, 1, 4, 7, 61, 1000, 9999, 10000, 9223372036854775807, -9223372036854775808] : List Int).map (Value.int .i64)).toArray 3) none) (fun j h => by cases h)
  have hc3 := (hc1.alloc (.cells #[.int .i64 q.kind, .int .i64 q.id, .int .i64 q.cabin, .int .i64 q.from_, .int .i64 q.size, .int .i64 q.tier] 30)).alloc (.cells (([-1, 0, 1, 4, 7, 61, 1000, 9999, 10000, 9223372036854775807, -9223372036854775808] : List Int).map (Value.int .i64)).toArray 3)
  have hx := ints_new (w1.alloc (.cells #[.int .i64 q.kind, .int .i64 q.id, .int .i64 q.cabin, .int .i64 q.from_, .int .i64 q.size, .int .i64 q.tier] 30)) [-1, 0, 1, 4, 7, 61, 1000, 9999, 10000, 9223372036854775807, -9223372036854775808]
  rw [World.size_alloc] at hx
  have CP := Lib.hid (l1PickInt_any A l c g [-1, 0, 1, 4, 7, 61, 1000, 9999, 10000, 9223372036854775807, -9223372036854775808] (w1.heap.size + 1) 11 11 _ hl hb hc3 rfl (by simp) (by simp) (by omega) hx)
  have F3 : Hid (_ ∧ _ ∧ _) := ⟨hq3, hz3, gw3⟩
  clear F F0 CL hz1 gw1 hq2 hz2 hq3 hz3 gw3 hc3 hx hc1 gr1
  unfold rqA
  go_wp2_with fail
  refine CP.out.mono ?_
  rintro e w3 ⟨z, hz, rfl, hc4, gr4⟩
  clear hz CP
  have F := F3.out
  have hq := (gr4.block _ (blk_lt F.1) (fun e => by injection e with e; omega)).trans F.1
  have hz := (gr4.block _ (blk_lt F.2.1) (fun e => by injection e with e; omega)).trans F.2.1
  have gr := F.2.2.trans gr4
  have HQ := Lib.hid hq
  have HZ := Lib.hid hz
  have HG := Lib.hid gr
  clear F F3 gr4 hq hz gr
  go_wp2_with fail
  refine (l1Below_any A l c g 20 _ hl hb (by omega) (by omega) hc4).mono ?_
  rintro e w4 ⟨k, hk, rfl, hc, gr5⟩
  have hq := (gr5.block _ (blk_lt HQ.out) (fun e => by injection e with e; omega)).trans HQ.out
  have hz := (gr5.block _ (blk_lt HZ.out) (fun e => by injection e with e; omega)).trans HZ.out
  have gr := HG.out.trans gr5
  generalize w1.heap.size = b at *
  clear HQ HZ HG gr5 hc4
  have hks : k = 0 ∨ k = 1 ∨ k = 2 ∨ k = 3 ∨ k = 4 ∨ k = 5 ∨ 6 ≤ k := by omega
  rcases hks with rfl | rfl | rfl | rfl | rfl | rfl | hk6
  · have s0 := cell_of_row _ _ 0 _ _ _ hq
    have s1 := frozen_of_row _ _ 0 _ _ hq
    simp at s0
    have hq2 : (w4.setCell ⟨b, 0, none⟩ (.int .i64 z)).heap[b]? = some (.cells #[.int .i64 z, .int .i64 q.id, .int .i64 q.cabin, .int .i64 q.from_, .int .i64 q.size, .int .i64 q.tier] 30) := Go.heap_setCell_same _ b 0 _ _ (.int .i64 z) hq
    have hz2 := (heap_set_ne w4 b 0 (.int .i64 z) (show w.heap.size + 1 ≠ b by omega)).trans hz
    have hc2 := hc.setCell b 0 (.int .i64 z) (by omega)
    have gr2 := grown_setD gr b 0 (.int .i64 z) (by omega)
    obtain ⟨U, eU⟩ : ∃ U, w4.setCell ⟨b, 0, none⟩ (.int .i64 z) = U := ⟨_, rfl⟩
    rw [eU] at hq2 hz2 hc2 gr2
    clear hq hz hc gr
    have hq := hq2
    have hz := hz2
    have hc := hc2
    have gr := gr2
    clear hq2 hz2 hc2 gr2
    have a0 := cell_of_row _ _ 0 _ _ _ hq
    have a1 := cell_of_row _ _ 1 _ _ _ hq
    have a2 := cell_of_row _ _ 2 _ _ _ hq
    have a3 := cell_of_row _ _ 3 _ _ _ hq
    have a4 := cell_of_row _ _ 4 _ _ _ hq
    have a5 := cell_of_row _ _ 5 _ _ _ hq
    have e0 := cell_of_row _ _ 0 _ _ _ hz
    have f0 := frozen_of_row _ _ 0 _ _ hz
    have e1 := cell_of_row _ _ 1 _ _ _ hz
    have f1 := frozen_of_row _ _ 1 _ _ hz
    have e2 := cell_of_row _ _ 2 _ _ _ hz
    have f2 := frozen_of_row _ _ 2 _ _ hz
    have e3 := cell_of_row _ _ 3 _ _ _ hz
    have f3 := frozen_of_row _ _ 3 _ _ hz
    have e4 := cell_of_row _ _ 4 _ _ _ hz
    have f4 := frozen_of_row _ _ 4 _ _ hz
    have e5 := cell_of_row _ _ 5 _ _ _ hz
    have f5 := frozen_of_row _ _ 5 _ _ hz
    simp at a0 a1 a2 a3 a4 a5 e0 e1 e2 e3 e4 e5
    have HN : Hid (GotRq w g A l c (.returned (rqA (⟨z, q.id, q.cabin, q.from_, q.size, q.tier⟩ : Rq))) (putRq U (w.heap.size + 1) (⟨z, q.id, q.cabin, q.from_, q.size, q.tier⟩ : Rq))) := ⟨_, rfl, putRq_cur hc (by omega), putRq_grown gr (by omega)⟩
    clear hq hz hc gr
    unfold rqA putRq at HN
    go_wp2
    simp [bodyPost, results, Try.results24, go_sem, e0, e1, e2, e3, e4, e5]
    exact HN.out
  · have s0 := cell_of_row _ _ 1 _ _ _ hq
    have s1 := frozen_of_row _ _ 1 _ _ hq
    simp at s0
    have hq2 : (w4.setCell ⟨b, 1, none⟩ (.int .i64 z)).heap[b]? = some (.cells #[.int .i64 q.kind, .int .i64 z, .int .i64 q.cabin, .int .i64 q.from_, .int .i64 q.size, .int .i64 q.tier] 30) := Go.heap_setCell_same _ b 1 _ _ (.int .i64 z) hq
    have hz2 := (heap_set_ne w4 b 1 (.int .i64 z) (show w.heap.size + 1 ≠ b by omega)).trans hz
    have hc2 := hc.setCell b 1 (.int .i64 z) (by omega)
    have gr2 := grown_setD gr b 1 (.int .i64 z) (by omega)
    obtain ⟨U, eU⟩ : ∃ U, w4.setCell ⟨b, 1, none⟩ (.int .i64 z) = U := ⟨_, rfl⟩
    rw [eU] at hq2 hz2 hc2 gr2
    clear hq hz hc gr
    have hq := hq2
    have hz := hz2
    have hc := hc2
    have gr := gr2
    clear hq2 hz2 hc2 gr2
    have a0 := cell_of_row _ _ 0 _ _ _ hq
    have a1 := cell_of_row _ _ 1 _ _ _ hq
    have a2 := cell_of_row _ _ 2 _ _ _ hq
    have a3 := cell_of_row _ _ 3 _ _ _ hq
    have a4 := cell_of_row _ _ 4 _ _ _ hq
    have a5 := cell_of_row _ _ 5 _ _ _ hq
    have e0 := cell_of_row _ _ 0 _ _ _ hz
    have f0 := frozen_of_row _ _ 0 _ _ hz
    have e1 := cell_of_row _ _ 1 _ _ _ hz
    have f1 := frozen_of_row _ _ 1 _ _ hz
    have e2 := cell_of_row _ _ 2 _ _ _ hz
    have f2 := frozen_of_row _ _ 2 _ _ hz
    have e3 := cell_of_row _ _ 3 _ _ _ hz
    have f3 := frozen_of_row _ _ 3 _ _ hz
    have e4 := cell_of_row _ _ 4 _ _ _ hz
    have f4 := frozen_of_row _ _ 4 _ _ hz
    have e5 := cell_of_row _ _ 5 _ _ _ hz
    have f5 := frozen_of_row _ _ 5 _ _ hz
    simp at a0 a1 a2 a3 a4 a5 e0 e1 e2 e3 e4 e5
    have HN : Hid (GotRq w g A l c (.returned (rqA (⟨q.kind, z, q.cabin, q.from_, q.size, q.tier⟩ : Rq))) (putRq U (w.heap.size + 1) (⟨q.kind, z, q.cabin, q.from_, q.size, q.tier⟩ : Rq))) := ⟨_, rfl, putRq_cur hc (by omega), putRq_grown gr (by omega)⟩
    clear hq hz hc gr
    unfold rqA putRq at HN
    go_wp2
    simp [bodyPost, results, Try.results24, go_sem, e0, e1, e2, e3, e4, e5]
    exact HN.out
  · have s0 := cell_of_row _ _ 2 _ _ _ hq
    have s1 := frozen_of_row _ _ 2 _ _ hq
    simp at s0
    have hq2 : (w4.setCell ⟨b, 2, none⟩ (.int .i64 z)).heap[b]? = some (.cells #[.int .i64 q.kind, .int .i64 q.id, .int .i64 z, .int .i64 q.from_, .int .i64 q.size, .int .i64 q.tier] 30) := Go.heap_setCell_same _ b 2 _ _ (.int .i64 z) hq
    have hz2 := (heap_set_ne w4 b 2 (.int .i64 z) (show w.heap.size + 1 ≠ b by omega)).trans hz
    have hc2 := hc.setCell b 2 (.int .i64 z) (by omega)
    have gr2 := grown_setD gr b 2 (.int .i64 z) (by omega)
    obtain ⟨U, eU⟩ : ∃ U, w4.setCell ⟨b, 2, none⟩ (.int .i64 z) = U := ⟨_, rfl⟩
    rw [eU] at hq2 hz2 hc2 gr2
    clear hq hz hc gr
    have hq := hq2
    have hz := hz2
    have hc := hc2
    have gr := gr2
    clear hq2 hz2 hc2 gr2
    have a0 := cell_of_row _ _ 0 _ _ _ hq
    have a1 := cell_of_row _ _ 1 _ _ _ hq
    have a2 := cell_of_row _ _ 2 _ _ _ hq
    have a3 := cell_of_row _ _ 3 _ _ _ hq
    have a4 := cell_of_row _ _ 4 _ _ _ hq
    have a5 := cell_of_row _ _ 5 _ _ _ hq
    have e0 := cell_of_row _ _ 0 _ _ _ hz
    have f0 := frozen_of_row _ _ 0 _ _ hz
    have e1 := cell_of_row _ _ 1 _ _ _ hz
    have f1 := frozen_of_row _ _ 1 _ _ hz
    have e2 := cell_of_row _ _ 2 _ _ _ hz
    have f2 := frozen_of_row _ _ 2 _ _ hz
    have e3 := cell_of_row _ _ 3 _ _ _ hz
    have f3 := frozen_of_row _ _ 3 _ _ hz
    have e4 := cell_of_row _ _ 4 _ _ _ hz
    have f4 := frozen_of_row _ _ 4 _ _ hz
    have e5 := cell_of_row _ _ 5 _ _ _ hz
    have f5 := frozen_of_row _ _ 5 _ _ hz
    simp at a0 a1 a2 a3 a4 a5 e0 e1 e2 e3 e4 e5
    have HN : Hid (GotRq w g A l c (.returned (rqA (⟨q.kind, q.id, z, q.from_, q.size, q.tier⟩ : Rq))) (putRq U (w.heap.size + 1) (⟨q.kind, q.id, z, q.from_, q.size, q.tier⟩ : Rq))) := ⟨_, rfl, putRq_cur hc (by omega), putRq_grown gr (by omega)⟩
    clear hq hz hc gr
    unfold rqA putRq at HN
    go_wp2
    simp [bodyPost, results, Try.results24, go_sem, e0, e1, e2, e3, e4, e5]
    exact HN.out
  · have s0 := cell_of_row _ _ 3 _ _ _ hq
    have s1 := frozen_of_row _ _ 3 _ _ hq
    simp at s0
    have hq2 : (w4.setCell ⟨b, 3, none⟩ (.int .i64 z)).heap[b]? = some (.cells #[.int .i64 q.kind, .int .i64 q.id, .int .i64 q.cabin, .int .i64 z, .int .i64 q.size, .int .i64 q.tier] 30) := Go.heap_setCell_same _ b 3 _ _ (.int .i64 z) hq
    have hz2 := (heap_set_ne w4 b 3 (.int .i64 z) (show w.heap.size + 1 ≠ b by omega)).trans hz
    have hc2 := hc.setCell b 3 (.int .i64 z) (by omega)
    have gr2 := grown_setD gr b 3 (.int .i64 z) (by omega)
    obtain ⟨U, eU⟩ : ∃ U, w4.setCell ⟨b, 3, none⟩ (.int .i64 z) = U := ⟨_, rfl⟩
    rw [eU] at hq2 hz2 hc2 gr2
    clear hq hz hc gr
    have hq := hq2
    have hz := hz2
    have hc := hc2
    have gr := gr2
    clear hq2 hz2 hc2 gr2
    have a0 := cell_of_row _ _ 0 _ _ _ hq
    have a1 := cell_of_row _ _ 1 _ _ _ hq
    have a2 := cell_of_row _ _ 2 _ _ _ hq
    have a3 := cell_of_row _ _ 3 _ _ _ hq
    have a4 := cell_of_row _ _ 4 _ _ _ hq
    have a5 := cell_of_row _ _ 5 _ _ _ hq
    have e0 := cell_of_row _ _ 0 _ _ _ hz
    have f0 := frozen_of_row _ _ 0 _ _ hz
    have e1 := cell_of_row _ _ 1 _ _ _ hz
    have f1 := frozen_of_row _ _ 1 _ _ hz
    have e2 := cell_of_row _ _ 2 _ _ _ hz
    have f2 := frozen_of_row _ _ 2 _ _ hz
    have e3 := cell_of_row _ _ 3 _ _ _ hz
    have f3 := frozen_of_row _ _ 3 _ _ hz
    have e4 := cell_of_row _ _ 4 _ _ _ hz
    have f4 := frozen_of_row _ _ 4 _ _ hz
    have e5 := cell_of_row _ _ 5 _ _ _ hz
    have f5 := frozen_of_row _ _ 5 _ _ hz
    simp at a0 a1 a2 a3 a4 a5 e0 e1 e2 e3 e4 e5
    have HN : Hid (GotRq w g A l c (.returned (rqA (⟨q.kind, q.id, q.cabin, z, q.size, q.tier⟩ : Rq))) (putRq U (w.heap.size + 1) (⟨q.kind, q.id, q.cabin, z, q.size, q.tier⟩ : Rq))) := ⟨_, rfl, putRq_cur hc (by omega), putRq_grown gr (by omega)⟩
    clear hq hz hc gr
    unfold rqA putRq at HN
    go_wp2
    simp [bodyPost, results, Try.results24, go_sem, e0, e1, e2, e3, e4, e5]
    exact HN.out
  · have s0 := cell_of_row _ _ 4 _ _ _ hq
    have s1 := frozen_of_row _ _ 4 _ _ hq
    simp at s0
    have hq2 : (w4.setCell ⟨b, 4, none⟩ (.int .i64 z)).heap[b]? = some (.cells #[.int .i64 q.kind, .int .i64 q.id, .int .i64 q.cabin, .int .i64 q.from_, .int .i64 z, .int .i64 q.tier] 30) := Go.heap_setCell_same _ b 4 _ _ (.int .i64 z) hq
    have hz2 := (heap_set_ne w4 b 4 (.int .i64 z) (show w.heap.size + 1 ≠ b by omega)).trans hz
    have hc2 := hc.setCell b 4 (.int .i64 z) (by omega)
    have gr2 := grown_setD gr b 4 (.int .i64 z) (by omega)
    obtain ⟨U, eU⟩ : ∃ U, w4.setCell ⟨b, 4, none⟩ (.int .i64 z) = U := ⟨_, rfl⟩
    rw [eU] at hq2 hz2 hc2 gr2
    clear hq hz hc gr
    have hq := hq2
    have hz := hz2
    have hc := hc2
    have gr := gr2
    clear hq2 hz2 hc2 gr2
    have a0 := cell_of_row _ _ 0 _ _ _ hq
    have a1 := cell_of_row _ _ 1 _ _ _ hq
    have a2 := cell_of_row _ _ 2 _ _ _ hq
    have a3 := cell_of_row _ _ 3 _ _ _ hq
    have a4 := cell_of_row _ _ 4 _ _ _ hq
    have a5 := cell_of_row _ _ 5 _ _ _ hq
    have e0 := cell_of_row _ _ 0 _ _ _ hz
    have f0 := frozen_of_row _ _ 0 _ _ hz
    have e1 := cell_of_row _ _ 1 _ _ _ hz
    have f1 := frozen_of_row _ _ 1 _ _ hz
    have e2 := cell_of_row _ _ 2 _ _ _ hz
    have f2 := frozen_of_row _ _ 2 _ _ hz
    have e3 := cell_of_row _ _ 3 _ _ _ hz
    have f3 := frozen_of_row _ _ 3 _ _ hz
    have e4 := cell_of_row _ _ 4 _ _ _ hz
    have f4 := frozen_of_row _ _ 4 _ _ hz
    have e5 := cell_of_row _ _ 5 _ _ _ hz
    have f5 := frozen_of_row _ _ 5 _ _ hz
    simp at a0 a1 a2 a3 a4 a5 e0 e1 e2 e3 e4 e5
    have HN : Hid (GotRq w g A l c (.returned (rqA (⟨q.kind, q.id, q.cabin, q.from_, z, q.tier⟩ : Rq))) (putRq U (w.heap.size + 1) (⟨q.kind, q.id, q.cabin, q.from_, z, q.tier⟩ : Rq))) := ⟨_, rfl, putRq_cur hc (by omega), putRq_grown gr (by omega)⟩
    clear hq hz hc gr
    unfold rqA putRq at HN
    go_wp2
    simp [bodyPost, results, Try.results24, go_sem, e0, e1, e2, e3, e4, e5]
    exact HN.out
  · have s0 := cell_of_row _ _ 5 _ _ _ hq
    have s1 := frozen_of_row _ _ 5 _ _ hq
    simp at s0
    have hq2 : (w4.setCell ⟨b, 5, none⟩ (.int .i64 z)).heap[b]? = some (.cells #[.int .i64 q.kind, .int .i64 q.id, .int .i64 q.cabin, .int .i64 q.from_, .int .i64 q.size, .int .i64 z] 30) := Go.heap_setCell_same _ b 5 _ _ (.int .i64 z) hq
    have hz2 := (heap_set_ne w4 b 5 (.int .i64 z) (show w.heap.size + 1 ≠ b by omega)).trans hz
    have hc2 := hc.setCell b 5 (.int .i64 z) (by omega)
    have gr2 := grown_setD gr b 5 (.int .i64 z) (by omega)
    obtain ⟨U, eU⟩ : ∃ U, w4.setCell ⟨b, 5, none⟩ (.int .i64 z) = U := ⟨_, rfl⟩
    rw [eU] at hq2 hz2 hc2 gr2
    clear hq hz hc gr
    have hq := hq2
    have hz := hz2
    have hc := hc2
    have gr := gr2
    clear hq2 hz2 hc2 gr2
    have a0 := cell_of_row _ _ 0 _ _ _ hq
    have a1 := cell_of_row _ _ 1 _ _ _ hq
    have a2 := cell_of_row _ _ 2 _ _ _ hq
    have a3 := cell_of_row _ _ 3 _ _ _ hq
    have a4 := cell_of_row _ _ 4 _ _ _ hq
    have a5 := cell_of_row _ _ 5 _ _ _ hq
    have e0 := cell_of_row _ _ 0 _ _ _ hz
    have f0 := frozen_of_row _ _ 0 _ _ hz
    have e1 := cell_of_row _ _ 1 _ _ _ hz
    have f1 := frozen_of_row _ _ 1 _ _ hz
    have e2 := cell_of_row _ _ 2 _ _ _ hz
    have f2 := frozen_of_row _ _ 2 _ _ hz
    have e3 := cell_of_row _ _ 3 _ _ _ hz
    have f3 := frozen_of_row _ _ 3 _ _ hz
    have e4 := cell_of_row _ _ 4 _ _ _ hz
    have f4 := frozen_of_row _ _ 4 _ _ hz
    have e5 := cell_of_row _ _ 5 _ _ _ hz
    have f5 := frozen_of_row _ _ 5 _ _ hz
    simp at a0 a1 a2 a3 a4 a5 e0 e1 e2 e3 e4 e5
    have HN : Hid (GotRq w g A l c (.returned (rqA (⟨q.kind, q.id, q.cabin, q.from_, q.size, z⟩ : Rq))) (putRq U (w.heap.size + 1) (⟨q.kind, q.id, q.cabin, q.from_, q.size, z⟩ : Rq))) := ⟨_, rfl, putRq_cur hc (by omega), putRq_grown gr (by omega)⟩
    clear hq hz hc gr
    unfold rqA putRq at HN
    go_wp2
    simp [bodyPost, results, Try.results24, go_sem, e0, e1, e2, e3, e4, e5]
    exact HN.out
  · have e0 : ((k : Int) == 0) = false := by simp; omega
    have e1 : ((k : Int) == 1) = false := by simp; omega
    have e2 : ((k : Int) == 2) = false := by simp; omega
    have e3 : ((k : Int) == 3) = false := by simp; omega
    have e4 : ((k : Int) == 4) = false := by simp; omega
    have e5 : ((k : Int) == 5) = false := by simp; omega
    have a0 := cell_of_row _ _ 0 _ _ _ hq
    have a1 := cell_of_row _ _ 1 _ _ _ hq
    have a2 := cell_of_row _ _ 2 _ _ _ hq
    have a3 := cell_of_row _ _ 3 _ _ _ hq
    have a4 := cell_of_row _ _ 4 _ _ _ hq
    have a5 := cell_of_row _ _ 5 _ _ _ hq
    have ee0 := cell_of_row _ _ 0 _ _ _ hz
    have f0 := frozen_of_row _ _ 0 _ _ hz
    have ee1 := cell_of_row _ _ 1 _ _ _ hz
    have f1 := frozen_of_row _ _ 1 _ _ hz
    have ee2 := cell_of_row _ _ 2 _ _ _ hz
    have f2 := frozen_of_row _ _ 2 _ _ hz
    have ee3 := cell_of_row _ _ 3 _ _ _ hz
    have f3 := frozen_of_row _ _ 3 _ _ hz
    have ee4 := cell_of_row _ _ 4 _ _ _ hz
    have f4 := frozen_of_row _ _ 4 _ _ hz
    have ee5 := cell_of_row _ _ 5 _ _ _ hz
    have f5 := frozen_of_row _ _ 5 _ _ hz
    simp at a0 a1 a2 a3 a4 a5 ee0 ee1 ee2 ee3 ee4 ee5
    have HN : Hid (GotRq w g A l c (.returned (rqA q)) (putRq w4 (w.heap.size + 1) q)) := ⟨_, rfl, putRq_cur hc (by omega), putRq_grown gr (by omega)⟩
    clear hq hz hc gr
    unfold rqA putRq at HN
    go_wp2
    simp [bodyPost, results, Try.results24, go_sem, ee0, ee1, ee2, ee3, ee4, ee5]
    exact HN.out
end Go.Proofs.Ytohpegblbikbdaa
