/- l6Bent of the model. -/
import Derived.Test.YtdjglbmcpfaofaaRows
import Derived.Test.YtdjglbmcpfaofaaCbA
namespace Go.Proofs.Ytdjglbmcpfaofaa
open Go.RowKit
set_option linter.unusedSimpArgs false
set_option linter.unusedVariables false
theorem putPt_heapG {w : World} {b : Nat} {p : Pt} {t : TypeId} {v0 v1 v2 v3 v4 v5 v6 v7 v8 v9 : Value} (h : w.heap[b]? = some (.cells #[v0, v1, v2, v3, v4, v5, v6, v7, v8, v9] t (0, 0))) : (putPt w b p).heap[b]? = some (.cells #[.int .i64 p.id, .int .i64 p.cabin, .int .i64 p.from_, .int .i64 p.size, .int .i64 p.tier, .int .i64 p.since, .int .i64 p.turn, .int .i64 p.state, .int .i64 p.until_, .int .i64 p.asked] t (0, 0)) := by
  unfold putPt
  have h := Go.heap_setCell_same _ b 0 _ t (.int .i64 p.id) h
  have h := Go.heap_setCell_same _ b 1 _ t (.int .i64 p.cabin) h
  have h := Go.heap_setCell_same _ b 2 _ t (.int .i64 p.from_) h
  have h := Go.heap_setCell_same _ b 3 _ t (.int .i64 p.size) h
  have h := Go.heap_setCell_same _ b 4 _ t (.int .i64 p.tier) h
  have h := Go.heap_setCell_same _ b 5 _ t (.int .i64 p.since) h
  have h := Go.heap_setCell_same _ b 6 _ t (.int .i64 p.turn) h
  have h := Go.heap_setCell_same _ b 7 _ t (.int .i64 p.state) h
  have h := Go.heap_setCell_same _ b 8 _ t (.int .i64 p.until_) h
  have h := Go.heap_setCell_same _ b 9 _ t (.int .i64 p.asked) h
  simpa using h
theorem putPt_other (w : World) {b k : Nat} (p : Pt) (h : k ≠ b) : (putPt w b p).heap[k]? = w.heap[k]? := by
  unfold putPt
  rw [heap_set_ne _ _ _ _ h, heap_set_ne _ _ _ _ h, heap_set_ne _ _ _ _ h, heap_set_ne _ _ _ _ h, heap_set_ne _ _ _ _ h, heap_set_ne _ _ _ _ h, heap_set_ne _ _ _ _ h, heap_set_ne _ _ _ _ h, heap_set_ne _ _ _ _ h, heap_set_ne _ _ _ _ h]
theorem putPt_size (w : World) (b : Nat) (p : Pt) : (putPt w b p).heap.size = w.heap.size := by unfold putPt; simp
theorem got_pf {w w5 : World} {g : Nat} {A : Option Addr} {l : List Nat} {c : Nat} {p : Pt} (hp : p.fits) (hc : Cur w5 g A l c) (gr : w.grownBy w5 (some g)) (hlt : g < w.heap.size) :
    GotPf w g A l c (.returned (ptA p)) (putPt w5 (w.heap.size + 1) p) :=
  ⟨p, rfl, hp, putPt_cur hc (by omega), putPt_grown gr (by omega)⟩
set_option maxRecDepth 100000 in
set_option maxHeartbeats 12800000 in
theorem l6Bent_any (A RA : Option Addr) (l : List Nat) (c g rc base : Nat) (r : Ru) (now : Int) (w : World) (hl : l.length ≤ 2097152) (hb : AllB l) (hcw : Cur w g A l c) (hr : RuOk r) (hnow : 0 ≤ now ∧ now ≤ 1000) (hRA : w.ownsRow base 3 1 (.slice RA r.seats.length rc) r.seats.length (ints r.seats)) (hgb : g < base) :
    Calls Try.prog 103 #[.pointer (some ⟨g, 0, none⟩), ruV RA rc r, .int .i64 now] w (GotPf w g A l c) := by
  have hlt := hcw.lt
  obtain ⟨W0, hW0⟩ : ∃ W0, (w.alloc (.cells #[.slice RA r.seats.length rc, .int .i64 r.tiers, .int .i64 r.room, .int .i64 r.size, .int .i64 r.period, .int .i64 r.window, .int .i64 r.rest, .int .i64 r.tries, .int .i64 r.crew] 101)).alloc (.cells #[.int .i64 0, .int .i64 0, .int .i64 0, .int .i64 0, .int .i64 0, .int .i64 0, .int .i64 0, .int .i64 0, .int .i64 0, .int .i64 0] 65) = W0 := ⟨_, rfl⟩
  have hW0s : W0.heap.size = w.heap.size + 2 := by rw [← hW0]; simp
  obtain ⟨W, hW⟩ : ∃ W, W0.alloc (.cells #[.int .i64 3, .int .i64 0, .int .i64 (-1), .int .i64 1, .int .i64 0, .int .i64 0, .int .i64 1, .int .i64 1, .int .i64 0, .int .i64 0] 65) = W := ⟨_, rfl⟩
  have hWs : W.heap.size = w.heap.size + 3 := by rw [← hW]; simp; omega
  have T0 : W.heap[w.heap.size]? = some (.cells #[.slice RA r.seats.length rc, .int .i64 r.tiers, .int .i64 r.room, .int .i64 r.size, .int .i64 r.period, .int .i64 r.window, .int .i64 r.rest, .int .i64 r.tries, .int .i64 r.crew] 101) := by rw [← hW, ← hW0]; exact blk_alloc (blk_alloc (heap_new w _) _) _
  have T1 : W.heap[w.heap.size + 1]? = some (.cells #[.int .i64 0, .int .i64 0, .int .i64 0, .int .i64 0, .int .i64 0, .int .i64 0, .int .i64 0, .int .i64 0, .int .i64 0, .int .i64 0] 65) := by rw [← hW, ← hW0]; exact blk_alloc (by have := heap_new (w.alloc (.cells #[.slice RA r.seats.length rc, .int .i64 r.tiers, .int .i64 r.room, .int .i64 r.size, .int .i64 r.period, .int .i64 r.window, .int .i64 r.rest, .int .i64 r.tries, .int .i64 r.crew] 101)) (.cells #[.int .i64 0, .int .i64 0, .int .i64 0, .int .i64 0, .int .i64 0, .int .i64 0, .int .i64 0, .int .i64 0, .int .i64 0, .int .i64 0] 65); rwa [World.size_alloc] at this) _
  have T2 : W.heap[w.heap.size + 2]? = some (.cells #[.int .i64 3, .int .i64 0, .int .i64 (-1), .int .i64 1, .int .i64 0, .int .i64 0, .int .i64 1, .int .i64 1, .int .i64 0, .int .i64 0] 65) := by rw [← hW, ← hW0s]; exact heap_new _ _
  have g0 : w.grownBy W (some g) := by rw [← hW, ← hW0]; exact grown_step (grown_step (grown_made w _ g) (World.grownBy_alloc _ _ none) (fun j h => by cases h)) (World.grownBy_alloc _ _ none) (fun j h => by cases h)
  have hcW : Cur W g A l c := by rw [← hW, ← hW0]; exact ((hcw.alloc _).alloc _).alloc _
  have oW : W.ownsRow base 3 1 (.slice RA r.seats.length rc) r.seats.length (ints r.seats) := own_cur hRA g0 hgb
  have C1 := Lib.hid (rulesOk_yes RA rc r W hr (own_rws oW))
  have HN := Lib.hid hnow
  clear hRA hcw hnow
  have HR := Lib.hid hr
  have k00 := cell_of_row _ _ 0 _ _ _ T0
  have k01 := cell_of_row _ _ 1 _ _ _ T0
  have k02 := cell_of_row _ _ 2 _ _ _ T0
  have k03 := cell_of_row _ _ 3 _ _ _ T0
  have k04 := cell_of_row _ _ 4 _ _ _ T0
  have k05 := cell_of_row _ _ 5 _ _ _ T0
  have k06 := cell_of_row _ _ 6 _ _ _ T0
  have k07 := cell_of_row _ _ 7 _ _ _ T0
  have k08 := cell_of_row _ _ 8 _ _ _ T0
  simp at k00 k01 k02 k03 k04 k05 k06 k07 k08
  have HH := Lib.hid (And.intro T0 (And.intro T1 (And.intro T2 (And.intro g0 (And.intro hcW oW)))))
  have HS := Lib.hid hWs
  rw [← hW] at k00 k01 k02 k03 k04 k05 k06 k07 k08
  have HW := Lib.hid hW
  clear T0 T1 T2 g0 hcW oW hWs hr hW
  unfold ruV at C1 ⊢
  go_enter Try.func103, Try.ntmps103
  go_wp2_with fail
  rw [HW.out]
  refine C1.out.mono ?_
  rintro e W2 ⟨rfl, b2⟩
  obtain ⟨T0, T1, T2, g0, hcW, oW⟩ := HH.out
  have hWs := HS.out
  clear hW0s k00 k01 k02 k03 k04 k05 k06 k07 k08 HH HS C1 HW
  have gW2 : W.grownBy W2 (some g) := grown_of_below b2 _
  have T0 := grown_keep gW2 T0 (by omega)
  have T1 := grown_keep gW2 T1 (by omega)
  have T2 := grown_keep gW2 T2 (by omega)
  have hc2 := hcW.mem b2
  have o2 := own_cur oW gW2 hgb
  have g2 := g0.trans gW2
  have hs2 := b2.size
  have C2 := Lib.hid (l6Right_fits A RA l c g rc r now W2 hl hb hc2 HR.out HN.out)
  have k00 := cell_of_row _ _ 0 _ _ _ T0
  have k01 := cell_of_row _ _ 1 _ _ _ T0
  have k02 := cell_of_row _ _ 2 _ _ _ T0
  have k03 := cell_of_row _ _ 3 _ _ _ T0
  have k04 := cell_of_row _ _ 4 _ _ _ T0
  have k05 := cell_of_row _ _ 5 _ _ _ T0
  have k06 := cell_of_row _ _ 6 _ _ _ T0
  have k07 := cell_of_row _ _ 7 _ _ _ T0
  have k08 := cell_of_row _ _ 8 _ _ _ T0
  simp at k00 k01 k02 k03 k04 k05 k06 k07 k08
  have HH := Lib.hid (And.intro T1 (And.intro T2 (And.intro g2 o2)))
  have HS : Hid (w.heap.size + 3 ≤ W2.heap.size) := by show _ ≤ _; omega
  clear T0 T1 T2 g2 g0 hcW oW hWs o2 gW2 hc2 hs2 b2
  unfold ruV at C2
  go_wp2_with fail
  refine C2.out.mono ?_
  rintro e u3 ⟨p, rfl, hpf, hc3, gr3⟩
  obtain ⟨T1, T2, g2, o2⟩ := HH.out
  have hs2 := HS.out
  clear k00 k01 k02 k03 k04 k05 k06 k07 k08 HH HS C2
  have T1 := grown_keep gr3 T1 (by omega)
  have T2 := grown_keep gr3 T2 (by omega)
  have g3 := g2.trans gr3
  have hs3 := gr3.size
  obtain ⟨W3, hW3⟩ : ∃ W3, putPt u3 (w.heap.size + 2) p = W3 := ⟨_, rfl⟩
  have hW3s : W3.heap.size = u3.heap.size := by rw [← hW3]; exact putPt_size _ _ _
  have z0 := frozen_of_row _ _ 0 _ _ T2
  have q0 := cell_of_row _ _ 0 _ _ _ T2
  have z1 := frozen_of_row _ _ 1 _ _ T2
  have q1 := cell_of_row _ _ 1 _ _ _ T2
  have z2 := frozen_of_row _ _ 2 _ _ T2
  have q2 := cell_of_row _ _ 2 _ _ _ T2
  have z3 := frozen_of_row _ _ 3 _ _ T2
  have q3 := cell_of_row _ _ 3 _ _ _ T2
  have z4 := frozen_of_row _ _ 4 _ _ T2
  have q4 := cell_of_row _ _ 4 _ _ _ T2
  have z5 := frozen_of_row _ _ 5 _ _ T2
  have q5 := cell_of_row _ _ 5 _ _ _ T2
  have z6 := frozen_of_row _ _ 6 _ _ T2
  have q6 := cell_of_row _ _ 6 _ _ _ T2
  have z7 := frozen_of_row _ _ 7 _ _ T2
  have q7 := cell_of_row _ _ 7 _ _ _ T2
  have z8 := frozen_of_row _ _ 8 _ _ T2
  have q8 := cell_of_row _ _ 8 _ _ _ T2
  have z9 := frozen_of_row _ _ 9 _ _ T2
  have q9 := cell_of_row _ _ 9 _ _ _ T2
  simp at q0 q1 q2 q3 q4 q5 q6 q7 q8 q9
  have V2 : W3.heap[w.heap.size + 2]? = some (.cells #[.int .i64 p.id, .int .i64 p.cabin, .int .i64 p.from_, .int .i64 p.size, .int .i64 p.tier, .int .i64 p.since, .int .i64 p.turn, .int .i64 p.state, .int .i64 p.until_, .int .i64 p.asked] 65) := by rw [← hW3]; exact putPt_heapG T2
  have V1 : W3.heap[w.heap.size + 1]? = _ := (by rw [← hW3]; exact putPt_other u3 p (by omega) : W3.heap[w.heap.size + 1]? = u3.heap[w.heap.size + 1]?).trans T1
  have c3 : Cur W3 g A l c := by rw [← hW3]; exact putPt_cur hc3 (by omega)
  have g3 : w.grownBy W3 (some g) := by rw [← hW3]; exact putPt_grown g3 (by omega)
  have hu : u3.heap.size = W3.heap.size := hW3s.symm
  have hx := ints_new W3 [-1, 0, 2, 5, 7, 1000000, 1000001, 9223372036854775807, -9223372036854775808]
  have PE := Lib.hid (And.intro V1 (And.intro V2 (And.intro c3 g3)))
  have HS : Hid (w.heap.size + 3 ≤ W3.heap.size) := by show _ ≤ _; omega
  have CP := Lib.hid (l1PickInt_any A l c g [-1, 0, 2, 5, 7, 1000000, 1000001, 9223372036854775807, -9223372036854775808] W3.heap.size 9 9 _ hl hb (c3.alloc _) rfl (by simp) (by simp) (by have := c3.lt; omega) hx)
  clear T1 T2 V1 V2 c3 g3 g2 o2 gr3 hc3 hs2 hs3 hW3s hu hx
  unfold putPt at hW3
  unfold ptA
  go_wp2_with fail
  refine CP.out.mono ?_
  rintro e w3 ⟨x, hxm, rfl, hc3, gr3⟩
  have hxi : inI x := by simp at hxm; unfold inI; omega
  obtain ⟨V1, V2, c3, g3⟩ := PE.out
  have hs3 := HS.out
  have gr3 := (grown_made W3 _ g).trans gr3
  have V1 := grown_keep gr3 V1 (by omega)
  have V2 := grown_keep gr3 V2 (by omega)
  have g3 := g3.trans gr3
  clear z0 z1 z2 z3 z4 z5 z6 z7 z8 z9 q0 q1 q2 q3 q4 q5 q6 q7 q8 q9 PE HS CP hxm hW3 c3
  go_wp2_with fail
  refine (l1Below_any A l c g 24 _ hl hb (by omega) (by omega) hc3).mono ?_
  rintro e w4 ⟨k, hk, rfl, hc4, gr4⟩
  have hr := grown_keep gr4 V1 (by omega)
  have hq := grown_keep gr4 V2 (by omega)
  have gr5 := g3.trans gr4
  have hs4 : w.heap.size + 3 ≤ w4.heap.size := by have := gr3.size; have := gr4.size; omega
  clear V1 V2 g3 gr3 gr4 hc3 hs3
  have hne : ¬ w.heap.size + 1 = w.heap.size + 2 := by omega
  have hne' : ¬ w.heap.size + 2 = w.heap.size + 1 := by omega
  have c0 := cell_of_row _ _ 0 _ _ _ hq
  have y0 := frozen_of_row _ _ 0 _ _ hq
  have z0 := cell_of_row _ _ 0 _ _ _ hr
  have f0 := frozen_of_row _ _ 0 _ _ hr
  have c1 := cell_of_row _ _ 1 _ _ _ hq
  have y1 := frozen_of_row _ _ 1 _ _ hq
  have z1 := cell_of_row _ _ 1 _ _ _ hr
  have f1 := frozen_of_row _ _ 1 _ _ hr
  have c2 := cell_of_row _ _ 2 _ _ _ hq
  have y2 := frozen_of_row _ _ 2 _ _ hq
  have z2 := cell_of_row _ _ 2 _ _ _ hr
  have f2 := frozen_of_row _ _ 2 _ _ hr
  have c3 := cell_of_row _ _ 3 _ _ _ hq
  have y3 := frozen_of_row _ _ 3 _ _ hq
  have z3 := cell_of_row _ _ 3 _ _ _ hr
  have f3 := frozen_of_row _ _ 3 _ _ hr
  have c4 := cell_of_row _ _ 4 _ _ _ hq
  have y4 := frozen_of_row _ _ 4 _ _ hq
  have z4 := cell_of_row _ _ 4 _ _ _ hr
  have f4 := frozen_of_row _ _ 4 _ _ hr
  have c5 := cell_of_row _ _ 5 _ _ _ hq
  have y5 := frozen_of_row _ _ 5 _ _ hq
  have z5 := cell_of_row _ _ 5 _ _ _ hr
  have f5 := frozen_of_row _ _ 5 _ _ hr
  have c6 := cell_of_row _ _ 6 _ _ _ hq
  have y6 := frozen_of_row _ _ 6 _ _ hq
  have z6 := cell_of_row _ _ 6 _ _ _ hr
  have f6 := frozen_of_row _ _ 6 _ _ hr
  have c7 := cell_of_row _ _ 7 _ _ _ hq
  have y7 := frozen_of_row _ _ 7 _ _ hq
  have z7 := cell_of_row _ _ 7 _ _ _ hr
  have f7 := frozen_of_row _ _ 7 _ _ hr
  have c8 := cell_of_row _ _ 8 _ _ _ hq
  have y8 := frozen_of_row _ _ 8 _ _ hq
  have z8 := cell_of_row _ _ 8 _ _ _ hr
  have f8 := frozen_of_row _ _ 8 _ _ hr
  have c9 := cell_of_row _ _ 9 _ _ _ hq
  have y9 := frozen_of_row _ _ 9 _ _ hq
  have z9 := cell_of_row _ _ 9 _ _ _ hr
  have f9 := frozen_of_row _ _ 9 _ _ hr
  simp at c0 z0 c1 z1 c2 z2 c3 z3 c4 z4 c5 z5 c6 z6 c7 z7 c8 z8 c9 z9
  by_cases k1 : k = 1
  · subst k1
    have R : Hid (GotPf w g A l c (.returned (ptA { p with cabin := x })) (putPt (w4.setCell ⟨w.heap.size + 2, 1, none⟩ (.int .i64 x)) (w.heap.size + 1) { p with cabin := x })) :=
      got_pf (by have h := hpf; simp only [Pt.fits] at h ⊢; simp [hxi, h]) (cur_set hc4 (by omega) _) (grown_set gr5 (by omega) _) hlt
    unfold ptA putPt at R
    clear hq hr hc4 gr5
    go_wp2
    simp [bodyPost, results, Try.results103, go_sem, c0, z0, c1, z1, c2, z2, c3, z3, c4, z4, c5, z5, c6, z6, c7, z7, c8, z8, c9, z9, hne, hne']
    exact R.out
  have e1 : ((k : Int) == 1) = false := by simp; omega
  by_cases k2 : k = 2
  · subst k2
    have R : Hid (GotPf w g A l c (.returned (ptA { p with from_ := x })) (putPt (w4.setCell ⟨w.heap.size + 2, 2, none⟩ (.int .i64 x)) (w.heap.size + 1) { p with from_ := x })) :=
      got_pf (by have h := hpf; simp only [Pt.fits] at h ⊢; simp [hxi, h]) (cur_set hc4 (by omega) _) (grown_set gr5 (by omega) _) hlt
    unfold ptA putPt at R
    clear hq hr hc4 gr5
    go_wp2
    simp [bodyPost, results, Try.results103, go_sem, c0, z0, c1, z1, c2, z2, c3, z3, c4, z4, c5, z5, c6, z6, c7, z7, c8, z8, c9, z9, hne, hne']
    exact R.out
  have e2 : ((k : Int) == 2) = false := by simp; omega
  by_cases k3 : k = 3
  · subst k3
    have R : Hid (GotPf w g A l c (.returned (ptA { p with size := x })) (putPt (w4.setCell ⟨w.heap.size + 2, 3, none⟩ (.int .i64 x)) (w.heap.size + 1) { p with size := x })) :=
      got_pf (by have h := hpf; simp only [Pt.fits] at h ⊢; simp [hxi, h]) (cur_set hc4 (by omega) _) (grown_set gr5 (by omega) _) hlt
    unfold ptA putPt at R
    clear hq hr hc4 gr5
    go_wp2
    simp [bodyPost, results, Try.results103, go_sem, c0, z0, c1, z1, c2, z2, c3, z3, c4, z4, c5, z5, c6, z6, c7, z7, c8, z8, c9, z9, hne, hne']
    exact R.out
  have e3 : ((k : Int) == 3) = false := by simp; omega
  by_cases k4 : k = 4
  · subst k4
    have R : Hid (GotPf w g A l c (.returned (ptA { p with tier := x })) (putPt (w4.setCell ⟨w.heap.size + 2, 4, none⟩ (.int .i64 x)) (w.heap.size + 1) { p with tier := x })) :=
      got_pf (by have h := hpf; simp only [Pt.fits] at h ⊢; simp [hxi, h]) (cur_set hc4 (by omega) _) (grown_set gr5 (by omega) _) hlt
    unfold ptA putPt at R
    clear hq hr hc4 gr5
    go_wp2
    simp [bodyPost, results, Try.results103, go_sem, c0, z0, c1, z1, c2, z2, c3, z3, c4, z4, c5, z5, c6, z6, c7, z7, c8, z8, c9, z9, hne, hne']
    exact R.out
  have e4 : ((k : Int) == 4) = false := by simp; omega
  by_cases k5 : k = 5
  · subst k5
    have R : Hid (GotPf w g A l c (.returned (ptA { p with since := x })) (putPt (w4.setCell ⟨w.heap.size + 2, 5, none⟩ (.int .i64 x)) (w.heap.size + 1) { p with since := x })) :=
      got_pf (by have h := hpf; simp only [Pt.fits] at h ⊢; simp [hxi, h]) (cur_set hc4 (by omega) _) (grown_set gr5 (by omega) _) hlt
    unfold ptA putPt at R
    clear hq hr hc4 gr5
    go_wp2
    simp [bodyPost, results, Try.results103, go_sem, c0, z0, c1, z1, c2, z2, c3, z3, c4, z4, c5, z5, c6, z6, c7, z7, c8, z8, c9, z9, hne, hne']
    exact R.out
  have e5 : ((k : Int) == 5) = false := by simp; omega
  by_cases k6 : k = 6
  · subst k6
    have R : Hid (GotPf w g A l c (.returned (ptA { p with turn := x })) (putPt (w4.setCell ⟨w.heap.size + 2, 6, none⟩ (.int .i64 x)) (w.heap.size + 1) { p with turn := x })) :=
      got_pf (by have h := hpf; simp only [Pt.fits] at h ⊢; simp [hxi, h]) (cur_set hc4 (by omega) _) (grown_set gr5 (by omega) _) hlt
    unfold ptA putPt at R
    clear hq hr hc4 gr5
    go_wp2
    simp [bodyPost, results, Try.results103, go_sem, c0, z0, c1, z1, c2, z2, c3, z3, c4, z4, c5, z5, c6, z6, c7, z7, c8, z8, c9, z9, hne, hne']
    exact R.out
  have e6 : ((k : Int) == 6) = false := by simp; omega
  by_cases k7 : k = 7
  · subst k7
    have R : Hid (GotPf w g A l c (.returned (ptA { p with state := x })) (putPt (w4.setCell ⟨w.heap.size + 2, 7, none⟩ (.int .i64 x)) (w.heap.size + 1) { p with state := x })) :=
      got_pf (by have h := hpf; simp only [Pt.fits] at h ⊢; simp [hxi, h]) (cur_set hc4 (by omega) _) (grown_set gr5 (by omega) _) hlt
    unfold ptA putPt at R
    clear hq hr hc4 gr5
    go_wp2
    simp [bodyPost, results, Try.results103, go_sem, c0, z0, c1, z1, c2, z2, c3, z3, c4, z4, c5, z5, c6, z6, c7, z7, c8, z8, c9, z9, hne, hne']
    exact R.out
  have e7 : ((k : Int) == 7) = false := by simp; omega
  by_cases k8 : k = 8
  · subst k8
    have R : Hid (GotPf w g A l c (.returned (ptA { p with until_ := x })) (putPt (w4.setCell ⟨w.heap.size + 2, 8, none⟩ (.int .i64 x)) (w.heap.size + 1) { p with until_ := x })) :=
      got_pf (by have h := hpf; simp only [Pt.fits] at h ⊢; simp [hxi, h]) (cur_set hc4 (by omega) _) (grown_set gr5 (by omega) _) hlt
    unfold ptA putPt at R
    clear hq hr hc4 gr5
    go_wp2
    simp [bodyPost, results, Try.results103, go_sem, c0, z0, c1, z1, c2, z2, c3, z3, c4, z4, c5, z5, c6, z6, c7, z7, c8, z8, c9, z9, hne, hne']
    exact R.out
  have e8 : ((k : Int) == 8) = false := by simp; omega
  by_cases k9 : k = 9
  · subst k9
    have R : Hid (GotPf w g A l c (.returned (ptA { p with asked := x })) (putPt (w4.setCell ⟨w.heap.size + 2, 9, none⟩ (.int .i64 x)) (w.heap.size + 1) { p with asked := x })) :=
      got_pf (by have h := hpf; simp only [Pt.fits] at h ⊢; simp [hxi, h]) (cur_set hc4 (by omega) _) (grown_set gr5 (by omega) _) hlt
    unfold ptA putPt at R
    clear hq hr hc4 gr5
    go_wp2
    simp [bodyPost, results, Try.results103, go_sem, c0, z0, c1, z1, c2, z2, c3, z3, c4, z4, c5, z5, c6, z6, c7, z7, c8, z8, c9, z9, hne, hne']
    exact R.out
  have e9 : ((k : Int) == 9) = false := by simp; omega
  by_cases k0 : k = 0
  · subst k0
    have gr6 := grown_made w4 (.cells ([0, 999, 1000, -1].map (Value.int .i64)).toArray 3) g
    have hq5 := blk_alloc hq (.cells ([0, 999, 1000, -1].map (Value.int .i64)).toArray 3)
    have hr5 := blk_alloc hr (.cells ([0, 999, 1000, -1].map (Value.int .i64)).toArray 3)
    have hx := ints_new w4 [0, 999, 1000, -1]
    clear c0 z0 y0 f0 c1 z1 y1 f1 c2 z2 y2 f2 c3 z3 y3 f3 c4 z4 y4 f4 c5 z5 y5 f5 c6 z6 y6 f6 c7 z7 y7 f7 c8 z8 y8 f8 c9 z9 y9 f9
    go_wp2_with fail
    refine (l1PickInt_any A l c g [0, 999, 1000, -1] w4.heap.size 4 4 _ hl hb (hc4.alloc _) rfl (by simp) (by simp) (by omega) hx).mono ?_
    rintro e w6 ⟨y, hym, rfl, hc6, gr6'⟩
    have hyi : inI y := by simp at hym; unfold inI; omega
    have hq6 := grown_keep gr6' hq5 (by omega)
    have hr6 := grown_keep gr6' hr5 (by omega)
    have gr6 := gr5.trans (gr6.trans gr6')
    have R : Hid (GotPf w g A l c (.returned (ptA { p with id := y })) (putPt (w6.setCell ⟨w.heap.size + 2, 0, none⟩ (.int .i64 y)) (w.heap.size + 1) { p with id := y })) :=
      got_pf (by have h := hpf; simp only [Pt.fits] at h ⊢; simp [hyi, h]) (cur_set hc6 (by omega) _) (grown_set gr6 (by omega) _) hlt
    unfold ptA putPt at R
    have c0 := cell_of_row _ _ 0 _ _ _ hq6
    have y0 := frozen_of_row _ _ 0 _ _ hq6
    have z0 := cell_of_row _ _ 0 _ _ _ hr6
    have f0 := frozen_of_row _ _ 0 _ _ hr6
    have c1 := cell_of_row _ _ 1 _ _ _ hq6
    have y1 := frozen_of_row _ _ 1 _ _ hq6
    have z1 := cell_of_row _ _ 1 _ _ _ hr6
    have f1 := frozen_of_row _ _ 1 _ _ hr6
    have c2 := cell_of_row _ _ 2 _ _ _ hq6
    have y2 := frozen_of_row _ _ 2 _ _ hq6
    have z2 := cell_of_row _ _ 2 _ _ _ hr6
    have f2 := frozen_of_row _ _ 2 _ _ hr6
    have c3 := cell_of_row _ _ 3 _ _ _ hq6
    have y3 := frozen_of_row _ _ 3 _ _ hq6
    have z3 := cell_of_row _ _ 3 _ _ _ hr6
    have f3 := frozen_of_row _ _ 3 _ _ hr6
    have c4 := cell_of_row _ _ 4 _ _ _ hq6
    have y4 := frozen_of_row _ _ 4 _ _ hq6
    have z4 := cell_of_row _ _ 4 _ _ _ hr6
    have f4 := frozen_of_row _ _ 4 _ _ hr6
    have c5 := cell_of_row _ _ 5 _ _ _ hq6
    have y5 := frozen_of_row _ _ 5 _ _ hq6
    have z5 := cell_of_row _ _ 5 _ _ _ hr6
    have f5 := frozen_of_row _ _ 5 _ _ hr6
    have c6 := cell_of_row _ _ 6 _ _ _ hq6
    have y6 := frozen_of_row _ _ 6 _ _ hq6
    have z6 := cell_of_row _ _ 6 _ _ _ hr6
    have f6 := frozen_of_row _ _ 6 _ _ hr6
    have c7 := cell_of_row _ _ 7 _ _ _ hq6
    have y7 := frozen_of_row _ _ 7 _ _ hq6
    have z7 := cell_of_row _ _ 7 _ _ _ hr6
    have f7 := frozen_of_row _ _ 7 _ _ hr6
    have c8 := cell_of_row _ _ 8 _ _ _ hq6
    have y8 := frozen_of_row _ _ 8 _ _ hq6
    have z8 := cell_of_row _ _ 8 _ _ _ hr6
    have f8 := frozen_of_row _ _ 8 _ _ hr6
    have c9 := cell_of_row _ _ 9 _ _ _ hq6
    have y9 := frozen_of_row _ _ 9 _ _ hq6
    have z9 := cell_of_row _ _ 9 _ _ _ hr6
    have f9 := frozen_of_row _ _ 9 _ _ hr6
    simp at c0 z0 c1 z1 c2 z2 c3 z3 c4 z4 c5 z5 c6 z6 c7 z7 c8 z8 c9 z9
    clear hq hr hc4 gr5 hq5 hr5 hq6 hr6 gr6 gr6' hc6 hx hym
    go_wp2
    simp [bodyPost, results, Try.results103, go_sem, c0, z0, c1, z1, c2, z2, c3, z3, c4, z4, c5, z5, c6, z6, c7, z7, c8, z8, c9, z9, hne, hne']
    exact R.out
  have e0 : ((k : Int) == 0) = false := by simp; omega
  have R : Hid (GotPf w g A l c (.returned (ptA p)) (putPt w4 (w.heap.size + 1) p)) := got_pf hpf hc4 gr5 hlt
  unfold ptA putPt at R
  clear hq hr hc4 gr5
  go_wp2
  simp [bodyPost, results, Try.results103, go_sem, c0, z0, c1, z1, c2, z2, c3, z3, c4, z4, c5, z5, c6, z6, c7, z7, c8, z8, c9, z9, hne, hne']
  exact R.out
end Go.Proofs.Ytdjglbmcpfaofaa
