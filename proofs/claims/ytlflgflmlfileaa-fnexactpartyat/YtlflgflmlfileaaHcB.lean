/- The laws' helpers over states. -/
import Derived.Test.YtlflgflmlfileaaRows
import Derived.Test.YtlflgflmlfileaaHcA
import Derived.Test.YtlflgflmlfileaaG6
import Derived.Test.YtlflgflmlfileaaPtyL
namespace Go.Proofs.Ytlflgflmlfileaa
open Go.RowKit
set_option linter.unusedSimpArgs false
set_option linter.unusedVariables false
set_option maxRecDepth 100000 in
set_option maxHeartbeats 3200000 in
theorem szHouse_any (h : Hv) (w : World) (hv : h.came) (hr : h.reads w) :
    Calls Try.prog 14 #[hvA h, .int .i64 1048576] w fun e w' => (∃ r : Int, e = .returned (.int .i64 r) ∧ (0 ≤ r → h.small)) ∧ Below w.heap.size w w' := by
  obtain ⟨W, hW⟩ : ∃ W, w.alloc (.cells #[.slice h.RA h.r.seats.length h.rc, .int .i64 h.r.tiers, .int .i64 h.r.room, .int .i64 h.r.size, .int .i64 h.r.period, .int .i64 h.r.window, .int .i64 h.r.rest, .int .i64 h.r.tries, .int .i64 h.r.crew, .int .i64 h.now, .int .i64 h.turn, .slice h.PA h.pl.length h.pc, .slice h.CA h.vs.length h.cc, .slice h.TA h.tl.length h.tc, .slice h.JA h.jl.length h.jc] 38) = W := ⟨_, rfl⟩
  have b0 : Below w.heap.size w W := by rw [← hW]; exact (Below.refl _ _).alloc (Nat.le_refl _) _
  have g0 : W.heap[w.heap.size]? = some (.cells #[.slice h.RA h.r.seats.length h.rc, .int .i64 h.r.tiers, .int .i64 h.r.room, .int .i64 h.r.size, .int .i64 h.r.period, .int .i64 h.r.window, .int .i64 h.r.rest, .int .i64 h.r.tries, .int .i64 h.r.crew, .int .i64 h.now, .int .i64 h.turn, .slice h.PA h.pl.length h.pc, .slice h.CA h.vs.length h.cc, .slice h.TA h.tl.length h.tc, .slice h.JA h.jl.length h.jc] 38) := by rw [← hW]; exact heap_new _ _
  have C0 := Lib.hid (szRules_any h.RA h.rc h.r 1048576 W hv.r (by omega))
  have C1 := Lib.hid (fun w' q (h0 : 0 ≤ q) (h1 : q ≤ 1048576) => szPartyS_any h.PA h.pl.length h.pc q w' hv.p h0 h1)
  have C2 := Lib.hid (fun w' (k : Below W.heap.size W w') q (h0 : 0 ≤ q) (h1 : q ≤ 1048576) => szCabinS_any h.CA h.vs h.cc q w' hv.c hv.v (((hr.below b0).below k).c) h0 h1)
  have C3 := Lib.hid (fun w' q (hq : 0 ≤ q ∧ q ≤ 1048576) => szInt_any h.TA h.tl.length h.tc q w' hv.t hq)
  have C4 := Lib.hid (fun w' q (hq : 0 ≤ q ∧ q ≤ 1048576) => szInt_any h.JA h.jl.length h.jc q w' hv.j hq)
  have HB := Lib.hid b0
  have HW := Lib.hid hW
  have HG := Lib.hid g0
  unfold ruV at C0
  clear b0 hW g0 hr hv
  unfold hvA
  go_enter Try.func14, Try.ntmps14
  go_wp2_with fail
  rw [HW.out]
  refine C0.out.mono ?_
  rintro e w1 ⟨⟨z0, rfl, hz0⟩, b1⟩
  have B1 := Lib.hid b1
  have HR : Hid (0 ≤ z0 → h.r.seats.length ≤ 1048576 ∧ z0 ≤ 1048576) := fun k => by have := hz0 k; omega
  clear C0 b1 hz0
  by_cases n0 : z0 < 0
  · go_wp2
    go_ret
    exact ⟨⟨_, rfl, fun k => by omega⟩, HB.out.trans (B1.out.mono HB.out.size)⟩
  have a1 := cell_of_row _ _ 11 _ _ _ (blk_call HG.out B1.out)
  simp at a1
  have C1 := Lib.hid (C1.out w1 z0 (by omega) (HR.out (by omega)).2)
  go_wp2_with fail
  refine C1.out.mono ?_
  rintro e w2 ⟨⟨z1, rfl, p1, p2, p3⟩, b2⟩
  have B2 := Lib.hid (B1.out.trans (b2.mono B1.out.size))
  have HP := Lib.hid p3
  clear C1 b2 a1 p3
  by_cases n1 : z1 < 0
  · go_wp2
    go_ret
    exact ⟨⟨_, rfl, fun k => by omega⟩, HB.out.trans (B2.out.mono HB.out.size)⟩
  have a2 := cell_of_row _ _ 12 _ _ _ (blk_call HG.out B2.out)
  simp at a2
  have C2 := Lib.hid (C2.out w2 B2.out z1 (by omega) p1)
  go_wp2_with fail
  refine C2.out.mono ?_
  rintro e w3 ⟨⟨z2, rfl, q1, q2, q3⟩, b3⟩
  have B3 := Lib.hid (B2.out.trans (b3.mono B2.out.size))
  have HC := Lib.hid q3
  clear C2 b3 a2 q3
  by_cases n2 : z2 < 0
  · go_wp2
    go_ret
    exact ⟨⟨_, rfl, fun k => by omega⟩, HB.out.trans (B3.out.mono HB.out.size)⟩
  have a3 := cell_of_row _ _ 13 _ _ _ (blk_call HG.out B3.out)
  simp at a3
  have C3 := Lib.hid (C3.out w3 z2 ⟨by omega, q1⟩)
  go_wp2_with fail
  refine C3.out.mono ?_
  rintro e w4 ⟨⟨z3, rfl, r3⟩, b4⟩
  have B4 := Lib.hid (B3.out.trans (b4.mono B3.out.size))
  have HT : Hid (0 ≤ z3 → h.tl.length ≤ 1048576 ∧ z3 ≤ 1048576) := fun k => by have := r3 k; omega
  clear C3 b4 a3 r3
  by_cases n3 : z3 < 0
  · go_wp2
    go_ret
    exact ⟨⟨_, rfl, fun k => by omega⟩, HB.out.trans (B4.out.mono HB.out.size)⟩
  have a4 := cell_of_row _ _ 14 _ _ _ (blk_call HG.out B4.out)
  simp at a4
  have C4 := Lib.hid (C4.out w4 z3 ⟨by omega, (HT.out (by omega)).2⟩)
  go_wp2_with fail
  refine C4.out.mono ?_
  rintro e w5 ⟨⟨z4, rfl, s3⟩, b5⟩
  have B5 := Lib.hid (B4.out.trans (b5.mono B4.out.size))
  have HJ : Hid (0 ≤ z4 → h.jl.length ≤ 1048576) := fun k => by have := s3 k; have := (HT.out (by omega)).2; omega
  clear C4 b5 a4 s3
  by_cases n4 : z4 < 0
  · go_wp2
    go_ret
    exact ⟨⟨_, rfl, fun k => by omega⟩, HB.out.trans (B5.out.mono HB.out.size)⟩
  · go_wp2
    go_ret
    exact ⟨⟨_, rfl, fun k => ⟨(HR.out (by omega)).1, HP.out (by omega), HC.out (by omega), (HT.out (by omega)).1, HJ.out k⟩⟩, HB.out.trans (B5.out.mono HB.out.size)⟩
/-- A state in new memory that reads as h. -/
def NewHv (w : World) (h : Hv) (e : Ending) (w' : World) : Prop := ∃ y : Hv, e = .returned (hvA y) ∧ y.like h ∧ y.reads w' ∧ Below w.heap.size w w'
set_option maxRecDepth 100000 in
set_option maxHeartbeats 6400000 in
theorem toHouse_any (h : Hv) (w : World) (hs : h.small) (hr : h.reads w) :
    Calls Try.prog 16 #[hvA h] w (NewHv w h) := by
  have C0 := Lib.hid (fun w' (k : h.reads w') => toRules_any h.RA h.rc h.r w' (by have := hs.r; omega) k.r)
  have C1 := Lib.hid (fun w' (k : h.reads w') => toPartyS_any h.PA h.pl h.pc w' (by have := hs.p; omega) k.p)
  have C2 := Lib.hid (fun w' (k : h.reads w') => toCabinS_any h.CA h.vs h.cc w' hs.c k.c)
  have C3 := Lib.hid (fun w' (k : h.reads w') => toInt_new h.TA h.tl h.tc _ w' (by have := hs.t; omega) k.t (Nat.le_refl _))
  have C4 := Lib.hid (fun w' (k : h.reads w') => toInt_new h.JA h.jl h.jc _ w' (by have := hs.j; omega) k.j (Nat.le_refl _))
  have HR := Lib.hid hr
  clear hr hs
  unfold ruV at C0
  unfold hvA
  go_enter Try.func16, Try.ntmps16
  go_wp2_with fail
  have T0 := Three.make w (.cells #[.slice h.RA h.r.seats.length h.rc, .int .i64 h.r.tiers, .int .i64 h.r.room, .int .i64 h.r.size, .int .i64 h.r.period, .int .i64 h.r.window, .int .i64 h.r.rest, .int .i64 h.r.tries, .int .i64 h.r.crew, .int .i64 h.now, .int .i64 h.turn, .slice h.PA h.pl.length h.pc, .slice h.CA h.vs.length h.cc, .slice h.TA h.tl.length h.tc, .slice h.JA h.jl.length h.jc] 38) (.cells #[.slice none 0 0, .int .i64 0, .int .i64 0, .int .i64 0, .int .i64 0, .int .i64 0, .int .i64 0, .int .i64 0, .int .i64 0, .int .i64 0, .int .i64 0, .slice none 0 0, .slice none 0 0, .slice none 0 0, .slice none 0 0] 45) (.cells #[.slice none 0 0, .int .i64 0, .int .i64 0, .int .i64 0, .int .i64 0, .int .i64 0, .int .i64 0, .int .i64 0, .int .i64 0, .int .i64 0, .int .i64 0, .slice none 0 0, .slice none 0 0, .slice none 0 0, .slice none 0 0] 45)
  refine (C0.out _ (HR.out.below T0.2.2.2)).mono ?_
  rintro e w1 ⟨RB, rb, rfl, oR, b1⟩
  unfold ruV
  have T1 := Three.call T0 b1
  have Z1 := T0.2.2.2.size
  have OR : Hid (w1.ownsRow (w.heap.size + 3) 3 1 (.slice RB h.r.seats.length rb) h.r.seats.length (ints h.r.seats)) := own_weak oR (by have := blk_lt T0.2.2.1; omega)
  clear b1 oR Z1 T0 C0
  have a9 := cell_of_row _ _ 9 _ _ _ T1.1
  have a10 := cell_of_row _ _ 10 _ _ _ T1.1
  have a11 := cell_of_row _ _ 11 _ _ _ T1.1
  have c0 := cell_of_row _ _ 0 _ _ _ T1.2.2.1
  have d0 := frozen_of_row _ _ 0 _ _ T1.2.2.1
  have c1 := cell_of_row _ _ 1 _ _ _ T1.2.2.1
  have d1 := frozen_of_row _ _ 1 _ _ T1.2.2.1
  have c2 := cell_of_row _ _ 2 _ _ _ T1.2.2.1
  have d2 := frozen_of_row _ _ 2 _ _ T1.2.2.1
  have c3 := cell_of_row _ _ 3 _ _ _ T1.2.2.1
  have d3 := frozen_of_row _ _ 3 _ _ T1.2.2.1
  have c4 := cell_of_row _ _ 4 _ _ _ T1.2.2.1
  have d4 := frozen_of_row _ _ 4 _ _ T1.2.2.1
  have c5 := cell_of_row _ _ 5 _ _ _ T1.2.2.1
  have d5 := frozen_of_row _ _ 5 _ _ T1.2.2.1
  have c6 := cell_of_row _ _ 6 _ _ _ T1.2.2.1
  have d6 := frozen_of_row _ _ 6 _ _ T1.2.2.1
  have c7 := cell_of_row _ _ 7 _ _ _ T1.2.2.1
  have d7 := frozen_of_row _ _ 7 _ _ T1.2.2.1
  have c8 := cell_of_row _ _ 8 _ _ _ T1.2.2.1
  have d8 := frozen_of_row _ _ 8 _ _ T1.2.2.1
  have c9 := cell_of_row _ _ 9 _ _ _ T1.2.2.1
  have d9 := frozen_of_row _ _ 9 _ _ T1.2.2.1
  have c10 := cell_of_row _ _ 10 _ _ _ T1.2.2.1
  have d10 := frozen_of_row _ _ 10 _ _ T1.2.2.1
  have T1 := (Three.put1 (Three.put1 (Three.put1 (Three.put1 (Three.put1 (Three.put1 (Three.put1 (Three.put1 (Three.put1 (Three.put1 (Three.put1 T1 0 (.slice RB h.r.seats.length rb)) 1 (.int .i64 h.r.tiers)) 2 (.int .i64 h.r.room)) 3 (.int .i64 h.r.size)) 4 (.int .i64 h.r.period)) 5 (.int .i64 h.r.window)) 6 (.int .i64 h.r.rest)) 7 (.int .i64 h.r.tries)) 8 (.int .i64 h.r.crew)) 9 (.int .i64 h.now)) 10 (.int .i64 h.turn))
  have HT1 := Lib.hid T1
  clear T1
  simp at a9 a10 a11 c0 c1 c2 c3 c4 c5 c6 c7 c8 c9 c10
  have OR := Lib.hid (own_set (i := 10) (u := .int .i64 h.turn) (own_set (i := 9) (u := .int .i64 h.now) (own_set (i := 8) (u := .int .i64 h.r.crew) (own_set (i := 7) (u := .int .i64 h.r.tries) (own_set (i := 6) (u := .int .i64 h.r.rest) (own_set (i := 5) (u := .int .i64 h.r.window) (own_set (i := 4) (u := .int .i64 h.r.period) (own_set (i := 3) (u := .int .i64 h.r.size) (own_set (i := 2) (u := .int .i64 h.r.room) (own_set (i := 1) (u := .int .i64 h.r.tiers) (own_set (i := 0) (u := .slice RB h.r.seats.length rb) OR.out (show w.heap.size + 2 < w.heap.size + 3 by omega)) (show w.heap.size + 2 < w.heap.size + 3 by omega)) (show w.heap.size + 2 < w.heap.size + 3 by omega)) (show w.heap.size + 2 < w.heap.size + 3 by omega)) (show w.heap.size + 2 < w.heap.size + 3 by omega)) (show w.heap.size + 2 < w.heap.size + 3 by omega)) (show w.heap.size + 2 < w.heap.size + 3 by omega)) (show w.heap.size + 2 < w.heap.size + 3 by omega)) (show w.heap.size + 2 < w.heap.size + 3 by omega)) (show w.heap.size + 2 < w.heap.size + 3 by omega)) (show w.heap.size + 2 < w.heap.size + 3 by omega))
  go_wp2_with fail
  have T1 := HT1.out
  clear a9 a10 a11 c0 c1 c2 c3 c4 c5 c6 c7 c8 c9 c10 d0 d1 d2 d3 d4 d5 d6 d7 d8 d9 d10
  refine (C1.out _ (HR.out.below T1.2.2.2)).mono ?_
  rintro e w2 ⟨P, pcc, rfl, oP, b2⟩
  have T2 := Three.call T1 b2
  have OR := Lib.hid (own_below OR.out b2)
  have OP := Lib.hid (own_weak oP (show w.heap.size + 3 ≤ _ by have := blk_lt T1.2.2.1; omega))
  clear b2 T1 HT1 C1
  have a12 := cell_of_row _ _ 12 _ _ _ T2.1
  have c11 := cell_of_row _ _ 11 _ _ _ T2.2.2.1
  have d11 := frozen_of_row _ _ 11 _ _ T2.2.2.1
  have T2 := (Three.put1 T2 11 (.slice P h.pl.length pcc))
  have HT2 := Lib.hid T2
  clear T2
  simp at a12 c11
  have OR := Lib.hid (own_set (i := 11) (u := .slice P h.pl.length pcc) OR.out (show w.heap.size + 2 < w.heap.size + 3 by omega))
  have OP := Lib.hid (own_set (i := 11) (u := .slice P h.pl.length pcc) OP.out (show w.heap.size + 2 < w.heap.size + 3 by omega))
  go_wp2_with fail
  have T2 := HT2.out
  clear a12 c11 d11
  refine (C2.out _ (HR.out.below T2.2.2.2)).mono ?_
  rintro e w3 ⟨CA, mc, m, rfl, hlk, oC, b3⟩
  have T3 := Three.call T2 b3
  have OR := Lib.hid (own_below OR.out b3)
  have OP := Lib.hid (own_below OP.out b3)
  have OC := Lib.hid (CsO.weak oC (show w.heap.size + 3 ≤ _ by have := blk_lt T2.2.2.1; omega))
  clear b3 T2 HT2 C2
  have HLK := Lib.hid hlk
  clear hlk
  have a13 := cell_of_row _ _ 13 _ _ _ T3.1
  have c12 := cell_of_row _ _ 12 _ _ _ T3.2.2.1
  have d12 := frozen_of_row _ _ 12 _ _ T3.2.2.1
  have T3 := (Three.put1 T3 12 (.slice CA m.length mc))
  have HT3 := Lib.hid T3
  clear T3
  simp at a13 c12
  have OR := Lib.hid (own_set (i := 12) (u := .slice CA m.length mc) OR.out (show w.heap.size + 2 < w.heap.size + 3 by omega))
  have OP := Lib.hid (own_set (i := 12) (u := .slice CA m.length mc) OP.out (show w.heap.size + 2 < w.heap.size + 3 by omega))
  have OC := Lib.hid (CsO.set (i := 12) (u := .slice CA m.length mc) OC.out (show w.heap.size + 2 < w.heap.size + 3 by omega))
  go_wp2_with fail
  have T3 := HT3.out
  clear a13 c12 d12
  refine (C3.out _ (HR.out.below T3.2.2.2)).mono ?_
  rintro e w4 ⟨TA, tcc, rfl, oT, b4⟩
  have T4 := Three.call T3 b4
  have OR := Lib.hid (own_below OR.out b4)
  have OP := Lib.hid (own_below OP.out b4)
  have OC := Lib.hid (OC.out.below b4)
  have OT := Lib.hid (own_weak oT (show w.heap.size + 3 ≤ _ by have := blk_lt T3.2.2.1; omega))
  clear b4 T3 HT3 C3
  have a14 := cell_of_row _ _ 14 _ _ _ T4.1
  have c13 := cell_of_row _ _ 13 _ _ _ T4.2.2.1
  have d13 := frozen_of_row _ _ 13 _ _ T4.2.2.1
  have T4 := (Three.put1 T4 13 (.slice TA h.tl.length tcc))
  have HT4 := Lib.hid T4
  clear T4
  simp at a14 c13
  have OR := Lib.hid (own_set (i := 13) (u := .slice TA h.tl.length tcc) OR.out (show w.heap.size + 2 < w.heap.size + 3 by omega))
  have OP := Lib.hid (own_set (i := 13) (u := .slice TA h.tl.length tcc) OP.out (show w.heap.size + 2 < w.heap.size + 3 by omega))
  have OC := Lib.hid (CsO.set (i := 13) (u := .slice TA h.tl.length tcc) OC.out (show w.heap.size + 2 < w.heap.size + 3 by omega))
  have OT := Lib.hid (own_set (i := 13) (u := .slice TA h.tl.length tcc) OT.out (show w.heap.size + 2 < w.heap.size + 3 by omega))
  go_wp2_with fail
  have T4 := HT4.out
  clear a14 c13 d13
  refine (C4.out _ (HR.out.below T4.2.2.2)).mono ?_
  rintro e w5 ⟨JA, jcc, rfl, oJ, b5⟩
  have T5 := Three.call T4 b5
  have OR := Lib.hid (own_below OR.out b5)
  have OP := Lib.hid (own_below OP.out b5)
  have OC := Lib.hid (OC.out.below b5)
  have OT := Lib.hid (own_below OT.out b5)
  have OJ := Lib.hid (own_weak oJ (show w.heap.size + 3 ≤ _ by have := blk_lt T4.2.2.1; omega))
  clear b5 T4 HT4 C4
  clear oP oC oT oJ
  have c0 := cell_of_row _ _ 0 _ _ _ T5.2.2.1
  have d0 := frozen_of_row _ _ 0 _ _ T5.2.2.1
  have r0 := cell_of_row _ _ 0 _ _ _ T5.2.1
  have z0 := frozen_of_row _ _ 0 _ _ T5.2.1
  have c1 := cell_of_row _ _ 1 _ _ _ T5.2.2.1
  have d1 := frozen_of_row _ _ 1 _ _ T5.2.2.1
  have r1 := cell_of_row _ _ 1 _ _ _ T5.2.1
  have z1 := frozen_of_row _ _ 1 _ _ T5.2.1
  have c2 := cell_of_row _ _ 2 _ _ _ T5.2.2.1
  have d2 := frozen_of_row _ _ 2 _ _ T5.2.2.1
  have r2 := cell_of_row _ _ 2 _ _ _ T5.2.1
  have z2 := frozen_of_row _ _ 2 _ _ T5.2.1
  have c3 := cell_of_row _ _ 3 _ _ _ T5.2.2.1
  have d3 := frozen_of_row _ _ 3 _ _ T5.2.2.1
  have r3 := cell_of_row _ _ 3 _ _ _ T5.2.1
  have z3 := frozen_of_row _ _ 3 _ _ T5.2.1
  have c4 := cell_of_row _ _ 4 _ _ _ T5.2.2.1
  have d4 := frozen_of_row _ _ 4 _ _ T5.2.2.1
  have r4 := cell_of_row _ _ 4 _ _ _ T5.2.1
  have z4 := frozen_of_row _ _ 4 _ _ T5.2.1
  have c5 := cell_of_row _ _ 5 _ _ _ T5.2.2.1
  have d5 := frozen_of_row _ _ 5 _ _ T5.2.2.1
  have r5 := cell_of_row _ _ 5 _ _ _ T5.2.1
  have z5 := frozen_of_row _ _ 5 _ _ T5.2.1
  have c6 := cell_of_row _ _ 6 _ _ _ T5.2.2.1
  have d6 := frozen_of_row _ _ 6 _ _ T5.2.2.1
  have r6 := cell_of_row _ _ 6 _ _ _ T5.2.1
  have z6 := frozen_of_row _ _ 6 _ _ T5.2.1
  have c7 := cell_of_row _ _ 7 _ _ _ T5.2.2.1
  have d7 := frozen_of_row _ _ 7 _ _ T5.2.2.1
  have r7 := cell_of_row _ _ 7 _ _ _ T5.2.1
  have z7 := frozen_of_row _ _ 7 _ _ T5.2.1
  have c8 := cell_of_row _ _ 8 _ _ _ T5.2.2.1
  have d8 := frozen_of_row _ _ 8 _ _ T5.2.2.1
  have r8 := cell_of_row _ _ 8 _ _ _ T5.2.1
  have z8 := frozen_of_row _ _ 8 _ _ T5.2.1
  have c9 := cell_of_row _ _ 9 _ _ _ T5.2.2.1
  have d9 := frozen_of_row _ _ 9 _ _ T5.2.2.1
  have r9 := cell_of_row _ _ 9 _ _ _ T5.2.1
  have z9 := frozen_of_row _ _ 9 _ _ T5.2.1
  have c10 := cell_of_row _ _ 10 _ _ _ T5.2.2.1
  have d10 := frozen_of_row _ _ 10 _ _ T5.2.2.1
  have r10 := cell_of_row _ _ 10 _ _ _ T5.2.1
  have z10 := frozen_of_row _ _ 10 _ _ T5.2.1
  have c11 := cell_of_row _ _ 11 _ _ _ T5.2.2.1
  have d11 := frozen_of_row _ _ 11 _ _ T5.2.2.1
  have r11 := cell_of_row _ _ 11 _ _ _ T5.2.1
  have z11 := frozen_of_row _ _ 11 _ _ T5.2.1
  have c12 := cell_of_row _ _ 12 _ _ _ T5.2.2.1
  have d12 := frozen_of_row _ _ 12 _ _ T5.2.2.1
  have r12 := cell_of_row _ _ 12 _ _ _ T5.2.1
  have z12 := frozen_of_row _ _ 12 _ _ T5.2.1
  have c13 := cell_of_row _ _ 13 _ _ _ T5.2.2.1
  have d13 := frozen_of_row _ _ 13 _ _ T5.2.2.1
  have r13 := cell_of_row _ _ 13 _ _ _ T5.2.1
  have z13 := frozen_of_row _ _ 13 _ _ T5.2.1
  have c14 := cell_of_row _ _ 14 _ _ _ T5.2.2.1
  have d14 := frozen_of_row _ _ 14 _ _ T5.2.2.1
  have r14 := cell_of_row _ _ 14 _ _ _ T5.2.1
  have z14 := frozen_of_row _ _ 14 _ _ T5.2.1
  have bW := Lib.hid T5.2.2.2
  clear T5 HR
  simp at c0 c1 c2 c3 c4 c5 c6 c7 c8 c9 c10 c11 c12 c13 c14 r0 r1 r2 r3 r4 r5 r6 r7 r8 r9 r10 r11 r12 r13 r14
  go_wp2
  simp [bodyPost, results, Try.results16, go_sem, c0, c1, c2, c3, c4, c5, c6, c7, c8, c9, c10, c11, c12, c13, c14, r0, r1, r2, r3, r4, r5, r6, r7, r8, r9, r10, r11, r12, r13, r14]
  refine ⟨⟨RB, rb, h.r, h.now, h.turn, P, pcc, h.pl, CA, mc, m, TA, tcc, h.tl, JA, jcc, h.jl⟩, rfl, ⟨rfl, rfl, rfl, rfl, HLK.out, rfl, rfl⟩, ⟨?_, ?_, ?_, ?_, ?_⟩, ?_⟩
  · refine own_rws (show World.ownsRow _ (w.heap.size + 3) 3 1 (.slice RB h.r.seats.length rb) h.r.seats.length (ints h.r.seats) from ?_)
    repeat refine own_set ?_ (by omega)
    exact OR.out
  · refine own_rws (show World.ownsRow _ (w.heap.size + 3) 54 10 (.slice P h.pl.length pcc) h.pl.length (h.pl.flatMap ptC) from ?_)
    repeat refine own_set ?_ (by omega)
    exact OP.out
  · refine CsO.reads (show CsO _ (w.heap.size + 3) CA mc m from ?_)
    repeat refine CsO.set ?_ (by omega)
    exact OC.out
  · refine own_rws (show World.ownsRow _ (w.heap.size + 3) 3 1 (.slice TA h.tl.length tcc) h.tl.length (ints h.tl) from ?_)
    repeat refine own_set ?_ (by omega)
    exact OT.out
  · refine own_rws (show World.ownsRow _ (w.heap.size + 3) 3 1 (.slice JA h.jl.length jcc) h.jl.length (ints h.jl) from ?_)
    repeat refine own_set ?_ (by omega)
    exact OJ.out
  · iterate 16 refine Below.setCell ?_ (by dsimp only; omega) _
    exact bW.out
set_option maxRecDepth 100000 in
set_option maxHeartbeats 6400000 in
theorem eqHouse_same (h k : Hv) (w : World) (hs : h.small) (hk : h.like k) (hh : h.reads w) (hkr : k.reads w) :
    Calls Try.prog 18 #[hvA h, hvA k] w fun e w' => e = .returned (.bool true) ∧ Below w.heap.size w w' := by
  obtain ⟨W, hW⟩ : ∃ W, (w.alloc (.cells #[.slice h.RA h.r.seats.length h.rc, .int .i64 h.r.tiers, .int .i64 h.r.room, .int .i64 h.r.size, .int .i64 h.r.period, .int .i64 h.r.window, .int .i64 h.r.rest, .int .i64 h.r.tries, .int .i64 h.r.crew, .int .i64 h.now, .int .i64 h.turn, .slice h.PA h.pl.length h.pc, .slice h.CA h.vs.length h.cc, .slice h.TA h.tl.length h.tc, .slice h.JA h.jl.length h.jc] 45)).alloc (.cells #[.slice k.RA k.r.seats.length k.rc, .int .i64 k.r.tiers, .int .i64 k.r.room, .int .i64 k.r.size, .int .i64 k.r.period, .int .i64 k.r.window, .int .i64 k.r.rest, .int .i64 k.r.tries, .int .i64 k.r.crew, .int .i64 k.now, .int .i64 k.turn, .slice k.PA k.pl.length k.pc, .slice k.CA k.vs.length k.cc, .slice k.TA k.tl.length k.tc, .slice k.JA k.jl.length k.jc] 45) = W := ⟨_, rfl⟩
  have T0 : W.heap[w.heap.size]? = some (.cells #[.slice h.RA h.r.seats.length h.rc, .int .i64 h.r.tiers, .int .i64 h.r.room, .int .i64 h.r.size, .int .i64 h.r.period, .int .i64 h.r.window, .int .i64 h.r.rest, .int .i64 h.r.tries, .int .i64 h.r.crew, .int .i64 h.now, .int .i64 h.turn, .slice h.PA h.pl.length h.pc, .slice h.CA h.vs.length h.cc, .slice h.TA h.tl.length h.tc, .slice h.JA h.jl.length h.jc] 45) ∧ W.heap[w.heap.size + 1]? = some (.cells #[.slice k.RA k.r.seats.length k.rc, .int .i64 k.r.tiers, .int .i64 k.r.room, .int .i64 k.r.size, .int .i64 k.r.period, .int .i64 k.r.window, .int .i64 k.r.rest, .int .i64 k.r.tries, .int .i64 k.r.crew, .int .i64 k.now, .int .i64 k.turn, .slice k.PA k.pl.length k.pc, .slice k.CA k.vs.length k.cc, .slice k.TA k.tl.length k.tc, .slice k.JA k.jl.length k.jc] 45) ∧ Below w.heap.size w W := by rw [← hW]; exact two_at w _ _ _ (Below.refl _ _)
  have e1 := hk.r
  have e2 := hk.now
  have e3 := hk.turn
  have e4 := hk.p
  have e5 := hk.t
  have e6 := hk.j
  have hlk := hk.c
  have R1 := hh.below T0.2.2
  have R2 := hkr.below T0.2.2
  obtain ⟨RA', rc', r', now', turn', PA', pc', pl', CA', cc', vs', TA', tc', tl', JA', jc', jl'⟩ := k
  simp only at e1 e2 e3 e4 e5 e6 hlk T0 hW ⊢
  subst e1 e2 e3 e4 e5 e6
  have C0 := Lib.hid (eqRules_same h.RA RA' h.rc rc' h.r W (by have := hs.r; omega) R1.r R2.r)
  have C1 := Lib.hid (fun w' (x : Below W.heap.size W w') => eqPartyS_same h.PA PA' h.pl h.pc pc' w' (by have := hs.p; omega) (rws_below R1.p x) (rws_below R2.p x))
  have C2 := Lib.hid (fun w' (x : Below W.heap.size W w') => eqCabinS_same h.CA CA' h.vs vs' h.cc cc' w' hs.c hlk (R1.c.below x) (R2.c.below x))
  have C3 := Lib.hid (fun w' (x : Below W.heap.size W w') => eqInt_same h.TA TA' h.tl h.tc tc' _ _ w' (by have := hs.t; omega) (rws_below R1.t x) (rws_below R2.t x))
  have C4 := Lib.hid (fun w' (x : Below W.heap.size W w') => eqInt_same h.JA JA' h.jl h.jc jc' _ _ w' (by have := hs.j; omega) (rws_below R1.j x) (rws_below R2.j x))
  unfold ruV at C0
  have n1 : (h.now != h.now) = false := by simp
  have n2 : (h.turn != h.turn) = false := by simp
  have KA := Lib.hid T0.1
  have KB := Lib.hid T0.2.1
  have BW := Lib.hid T0.2.2
  clear R1 R2 hh hkr hs hk hlk
  have HW := Lib.hid hW
  clear hW T0
  unfold hvA
  go_enter Try.func18, Try.ntmps18
  go_wp2_with fail
  rw [HW.out]
  refine C0.out.mono ?_
  rintro e w1 ⟨rfl, b1⟩
  have B1 := Lib.hid b1
  clear C0 b1 HW
  have a0 := cell_of_row _ _ 9 _ _ _ (blk_call KA.out B1.out)
  have a1 := cell_of_row _ _ 10 _ _ _ (blk_call KA.out B1.out)
  have a2 := cell_of_row _ _ 11 _ _ _ (blk_call KA.out B1.out)
  have c0 := cell_of_row _ _ 9 _ _ _ (blk_call KB.out B1.out)
  have c1 := cell_of_row _ _ 10 _ _ _ (blk_call KB.out B1.out)
  have c2 := cell_of_row _ _ 11 _ _ _ (blk_call KB.out B1.out)
  simp at a0 a1 a2 c0 c1 c2
  have C1 := Lib.hid (C1.out w1 B1.out)
  go_wp2_with fail
  refine C1.out.mono ?_
  rintro e w2 ⟨rfl, b2⟩
  have B2 := Lib.hid (B1.out.trans (b2.mono B1.out.size))
  clear C1 b2 a0 a1 a2 c0 c1 c2
  have a2 := cell_of_row _ _ 12 _ _ _ (blk_call KA.out B2.out)
  have c2 := cell_of_row _ _ 12 _ _ _ (blk_call KB.out B2.out)
  simp at a2 c2
  have C2 := Lib.hid (C2.out w2 B2.out)
  go_wp2_with fail
  refine C2.out.mono ?_
  rintro e w3 ⟨rfl, b3⟩
  have B3 := Lib.hid (B2.out.trans (b3.mono B2.out.size))
  clear C2 b3 a2 c2
  have a2 := cell_of_row _ _ 13 _ _ _ (blk_call KA.out B3.out)
  have c2 := cell_of_row _ _ 13 _ _ _ (blk_call KB.out B3.out)
  simp at a2 c2
  have C3 := Lib.hid (C3.out w3 B3.out)
  go_wp2_with fail
  refine C3.out.mono ?_
  rintro e w4 ⟨rfl, b4⟩
  have B4 := Lib.hid (B3.out.trans (b4.mono B3.out.size))
  clear C3 b4 a2 c2
  have a2 := cell_of_row _ _ 14 _ _ _ (blk_call KA.out B4.out)
  have c2 := cell_of_row _ _ 14 _ _ _ (blk_call KB.out B4.out)
  simp at a2 c2
  have C4 := Lib.hid (C4.out w4 B4.out)
  go_wp2_with fail
  refine C4.out.mono ?_
  rintro e w5 ⟨rfl, b5⟩
  have B5 := Lib.hid (BW.out.trans ((B4.out.trans (b5.mono B4.out.size)).mono BW.out.size))
  clear C4 b5 a2 c2
  go_wp2
  go_ret
  exact ⟨rfl, B5.out⟩
end Go.Proofs.Ytlflgflmlfileaa
