/- The laws' helpers over cabins. -/
import Derived.Test.YtlflgflmlfileaaRows
import Derived.Test.YtlflgflmlfileaaCvA
namespace Go.Proofs.Ytlflgflmlfileaa
open Go.RowKit
set_option linter.unusedSimpArgs false
set_option linter.unusedVariables false
theorem OwnW.set {w : World} {B : Nat} {A : Option Addr} {c : Nat} {sp : List Sp} (h : OwnW w B A c sp) {q i : Nat} {u : Value} (hq : q < B) : OwnW (w.setCell ⟨q, i, none⟩ u) B A c sp := ⟨own_set h.row hq, fun s hs => own_set (h.sp s hs) hq⟩
theorem Three.put1 {w w1 : World} {A B : Obj} {cs : Array Value} {t : TypeId} (h : Three w w1 A B (.cells cs t (0, 0))) (k : Nat) (u : Value) :
    Three w (w1.setCell ⟨w.heap.size + 2, k, none⟩ u) A B (.cells (cs.setIfInBounds k u) t (0, 0)) := by
  obtain ⟨h0, h1, h2, hb⟩ := h
  refine ⟨?_, ?_, ?_, hb.setCell (by simp) _⟩
  · rw [(Go.Lib.grownBy_setCell w1 (w.heap.size + 2) k u).block _ (Array.getElem?_eq_some_iff.1 h0).1 (by simp)]; exact h0
  · rw [(Go.Lib.grownBy_setCell w1 (w.heap.size + 2) k u).block _ (Array.getElem?_eq_some_iff.1 h1).1 (by simp)]; exact h1
  · exact Go.heap_setCell_same _ _ k _ _ u h2
set_option maxRecDepth 100000 in
set_option maxHeartbeats 1600000 in
theorem szCabin_any (v : Cv) (left : Int) (w : World) (hv : v.came) (hr : v.reads w) (h0 : 0 ≤ left) (h1 : left ≤ 1048576) :
    Calls Try.prog 83 #[cvA v, .int .i64 left] w fun e w' => (∃ r : Int, e = .returned (.int .i64 r) ∧ r ≤ 1048576 ∧ -1 ≤ r ∧ (0 ≤ r → v.small)) ∧ Below w.heap.size w w' := by
  obtain ⟨W, hW⟩ : ∃ W, w.alloc (.cells #[.int .i64 v.le.total, .int .i64 v.le.free, .int .i64 v.le.held, .int .i64 v.le.sold, .int .i64 v.le.tied, .slice v.Q v.q.length v.qc, .slice v.A v.sp.length v.c] 114) = W := ⟨_, rfl⟩
  have b0 : Below w.heap.size w W := by rw [← hW]; exact (Below.refl _ _).alloc (Nat.le_refl _) _
  have g0 : W.heap[w.heap.size]? = some (.cells #[.int .i64 v.le.total, .int .i64 v.le.free, .int .i64 v.le.held, .int .i64 v.le.sold, .int .i64 v.le.tied, .slice v.Q v.q.length v.qc, .slice v.A v.sp.length v.c] 114) := by rw [← hW]; exact heap_new _ _
  have C1 := Lib.hid (szEntryS_any v.Q v.q.length v.qc left W hv.ql h0 h1)
  have C2 := Lib.hid (fun r w' (h : Below W.heap.size W w') (h2 : 0 ≤ r) (h3 : r ≤ 1048576) => szWheel_val v.A v.sp v.c r w' hv.sn hv.sl ((hr.whl.below b0).below h).row h2 h3)
  have KC := Lib.hid (fun w' (h : Below W.heap.size W w') => cell_of_row _ _ 6 _ _ _ (blk_call g0 h))
  simp at KC
  have HB := Lib.hid b0
  have HW := Lib.hid hW
  clear b0 g0 hW
  unfold cvA
  go_enter Try.func83, Try.ntmps83
  go_wp2_with fail
  rw [HW.out]
  refine C1.out.mono ?_
  rintro e w1 ⟨⟨r, rfl, hr1, hr2, hr3⟩, b1⟩
  have B1 := Lib.hid (HB.out.trans (b1.mono HB.out.size))
  by_cases hn : r < 0
  · clear hr3 C1 C2
    go_wp2
    go_ret
    exact ⟨⟨-1, rfl, by omega, by omega, fun h => by omega⟩, B1.out⟩
  have C3 := Lib.hid (C2.out r w1 b1 (by omega) hr1)
  have k6 := KC.out w1 b1
  have HQ : Hid (v.q.length ≤ 1048576) := hr3 (by omega)
  have HZ : Hid (0 ≤ szV r v.sp → SzW v.ls) := fun h => szV_okq hr1 h
  have HV : Hid (szV r v.sp ≤ r) := szV_le (by omega)
  have HN : Hid (szV r v.sp < 0 → szV r v.sp = -1) := fun h => by
    unfold szV at h ⊢
    split
    · rfl
    · rename_i h2; rw [if_neg h2] at h; exact absurd h h2
  generalize szV r v.sp = z at *
  clear C1 C2 KC hr3 HW b1
  go_wp2_with fail
  refine C3.out.mono ?_
  rintro e w2 ⟨rfl, b2⟩
  have B2 := Lib.hid (B1.out.trans (b2.mono B1.out.size))
  clear b2 C3 k6
  by_cases hz : z < 0
  · go_wp2
    go_ret
    exact ⟨⟨-1, rfl, by omega, by omega, fun h => by omega⟩, B2.out⟩
  · go_wp2
    go_ret
    exact ⟨⟨z, rfl, by have := HV.out; omega, by omega, fun h => ⟨HQ.out, HZ.out h⟩⟩, B2.out⟩
set_option maxRecDepth 100000 in
set_option maxHeartbeats 1600000 in
theorem eqCabin_same (v u : Cv) (w : World) (hs : v.small) (hk : v.like u) (hv : v.reads w) (hu : u.reads w) :
    Calls Try.prog 87 #[cvA v, cvA u] w fun e w' => e = .returned (.bool true) ∧ Below w.heap.size w w' := by
  obtain ⟨W, hW⟩ : ∃ W, (w.alloc (.cells #[.int .i64 v.le.total, .int .i64 v.le.free, .int .i64 v.le.held, .int .i64 v.le.sold, .int .i64 v.le.tied, .slice v.Q v.q.length v.qc, .slice v.A v.sp.length v.c] 120)).alloc (.cells #[.int .i64 u.le.total, .int .i64 u.le.free, .int .i64 u.le.held, .int .i64 u.le.sold, .int .i64 u.le.tied, .slice u.Q u.q.length u.qc, .slice u.A u.sp.length u.c] 120) = W := ⟨_, rfl⟩
  have b0 : Below w.heap.size w W := by rw [← hW]; exact ((Below.refl _ _).alloc (Nat.le_refl _) _).alloc (by simp) _
  have g0 : W.heap[w.heap.size]? = some (.cells #[.int .i64 v.le.total, .int .i64 v.le.free, .int .i64 v.le.held, .int .i64 v.le.sold, .int .i64 v.le.tied, .slice v.Q v.q.length v.qc, .slice v.A v.sp.length v.c] 120) := by rw [← hW]; exact blk_alloc (heap_new _ _) _
  have g1 : W.heap[w.heap.size + 1]? = some (.cells #[.int .i64 u.le.total, .int .i64 u.le.free, .int .i64 u.le.held, .int .i64 u.le.sold, .int .i64 u.le.tied, .slice u.Q u.q.length u.qc, .slice u.A u.sp.length u.c] 120) := by
    rw [← hW]
    have := heap_new (w.alloc (.cells #[.int .i64 v.le.total, .int .i64 v.le.free, .int .i64 v.le.held, .int .i64 v.le.sold, .int .i64 v.le.tied, .slice v.Q v.q.length v.qc, .slice v.A v.sp.length v.c] 120)) (.cells #[.int .i64 u.le.total, .int .i64 u.le.free, .int .i64 u.le.held, .int .i64 u.le.sold, .int .i64 u.le.tied, .slice u.Q u.q.length u.qc, .slice u.A u.sp.length u.c] 120)
    simpa using this
  have C0 := Lib.hid (eqLedger_same v.le W)
  have C1 : Hid (∀ w', Below W.heap.size W w' → Calls Try.prog 38 #[.slice v.Q v.q.length v.qc, .slice u.Q u.q.length u.qc] w' fun e w'' => e = .returned (.bool true) ∧ Below w'.heap.size w' w'') := fun w' h => by
    have := eqEntryS_same v.Q u.Q v.q v.qc u.qc w' (by have := hs.q; omega) (((hv.below b0).below h).row) (by rw [hk.q]; exact ((hu.below b0).below h).row)
    rw [← hk.q]; exact this
  have C2 : Hid (∀ w', Below W.heap.size W w' → Calls Try.prog 106 #[.agg #[.slice v.A v.sp.length v.c], .agg #[.slice u.A u.sp.length u.c]] w' fun e w'' => e = .returned (.bool true) ∧ Below w'.heap.size w' w'') := fun w' h => by
    obtain ⟨a1, a2⟩ := SzW.of hs.s (sp := v.sp) rfl
    exact eqWheel_same v.A u.A v.sp u.sp v.c u.c w' (by omega) (by omega) (((hv.below b0).below h).whl) (((hu.below b0).below h).whl) hk.ls
  have KA := Lib.hid (fun w' (h : Below W.heap.size W w') => blk_call g0 h)
  have KB := Lib.hid (fun w' (h : Below W.heap.size W w') => blk_call g1 h)
  obtain ⟨e0, e1, e2, e3, e4⟩ : u.le.total = v.le.total ∧ u.le.free = v.le.free ∧ u.le.held = v.le.held ∧ u.le.sold = v.le.sold ∧ u.le.tied = v.le.tied := by rw [hk.le]; exact ⟨rfl, rfl, rfl, rfl, rfl⟩
  rw [e0, e1, e2, e3, e4] at KB hW
  have HB := Lib.hid b0
  have HW := Lib.hid hW
  clear b0 g0 g1 hW hk
  unfold cvA
  rw [e0, e1, e2, e3, e4]
  clear e0 e1 e2 e3 e4
  unfold leA at C0
  go_enter Try.func87, Try.ntmps87
  go_wp2_with fail
  rw [HW.out]
  refine C0.out.mono ?_
  rintro e w1 ⟨rfl, b1⟩
  have a5 := cell_of_row _ _ 5 _ _ _ (KA.out w1 b1)
  have c5 := cell_of_row _ _ 5 _ _ _ (KB.out w1 b1)
  simp at a5 c5
  have C1' := Lib.hid (C1.out w1 b1)
  have B1 := Lib.hid b1
  clear C0 C1 HW b1
  go_wp2_with fail
  refine C1'.out.mono ?_
  rintro e w2 ⟨rfl, b2⟩
  have b2' := B1.out.trans (b2.mono B1.out.size)
  have a6 := cell_of_row _ _ 6 _ _ _ (KA.out w2 b2')
  have c6 := cell_of_row _ _ 6 _ _ _ (KB.out w2 b2')
  simp at a6 c6
  have C2' := Lib.hid (C2.out w2 b2')
  have B2 := Lib.hid b2'
  clear C2 C1' KA KB b2 b2' a5 c5 B1
  go_wp2_with fail
  refine C2'.out.mono ?_
  rintro e w3 ⟨rfl, b3⟩
  have b3' := B2.out.trans (b3.mono B2.out.size)
  have B3 := Lib.hid (HB.out.trans (b3'.mono HB.out.size))
  clear C2' b3 b3' B2 HB a6 c6
  go_wp2
  go_ret
  exact ⟨rfl, B3.out⟩
set_option maxRecDepth 100000 in
set_option maxHeartbeats 3200000 in
theorem toCabin_any (v : Cv) (w : World) (hs : v.small) (hr : v.reads w) :
    Calls Try.prog 84 #[cvA v] w (NewCv w v) := by
  have C0 := Lib.hid (fun w => toLedger_any v.le w)
  have C1 := Lib.hid (fun w' (h : Rws w' w'.heap.size v.Q (v.q.flatMap enC)) => toEntryS_any v.Q v.q v.qc w' (by have := hs.q; omega) h)
  have C2 : Hid (∀ w', Whl w' v.A v.sp → Calls Try.prog 103 #[.agg #[.slice v.A v.sp.length v.c]] w' (NewX w' v.ls)) := fun w' h => by
    obtain ⟨a1, a2⟩ := SzW.of hs.s (sp := v.sp) rfl
    exact toWheel_any v.A v.sp v.c w' (by omega) (by omega) h
  have HR := Lib.hid hr
  clear hr hs
  unfold leA at C0
  unfold cvA
  go_enter Try.func84, Try.ntmps84
  go_wp2_with fail
  have T0 := Three.make w (.cells #[.int .i64 v.le.total, .int .i64 v.le.free, .int .i64 v.le.held, .int .i64 v.le.sold, .int .i64 v.le.tied, .slice v.Q v.q.length v.qc, .slice v.A v.sp.length v.c] 114) (.cells #[.int .i64 0, .int .i64 0, .int .i64 0, .int .i64 0, .int .i64 0, .slice none 0 0, .slice none 0 0] 120) (.cells #[.int .i64 0, .int .i64 0, .int .i64 0, .int .i64 0, .int .i64 0, .slice none 0 0, .slice none 0 0] 120)
  refine (C0.out _).mono ?_
  rintro e w1 ⟨rfl, b1⟩
  have T1 := Three.call T0 b1
  clear b1
  have a5 := cell_of_row _ _ 5 _ _ _ T1.1
  have c0 := cell_of_row _ _ 0 _ _ _ T1.2.2.1
  have c1 := cell_of_row _ _ 1 _ _ _ T1.2.2.1
  have c2 := cell_of_row _ _ 2 _ _ _ T1.2.2.1
  have c3 := cell_of_row _ _ 3 _ _ _ T1.2.2.1
  have c4 := cell_of_row _ _ 4 _ _ _ T1.2.2.1
  have d0 := frozen_of_row _ _ 0 _ _ T1.2.2.1
  have d1 := frozen_of_row _ _ 1 _ _ T1.2.2.1
  have d2 := frozen_of_row _ _ 2 _ _ T1.2.2.1
  have d3 := frozen_of_row _ _ 3 _ _ T1.2.2.1
  have d4 := frozen_of_row _ _ 4 _ _ T1.2.2.1
  have T1 := Three.put1 (Three.put1 (Three.put1 (Three.put1 (Three.put1 T1 0 (.int .i64 v.le.total)) 1 (.int .i64 v.le.free)) 2 (.int .i64 v.le.held)) 3 (.int .i64 v.le.sold)) 4 (.int .i64 v.le.tied)
  have HT1 := Lib.hid T1
  clear T0 T1
  simp at a5 c0 c1 c2 c3 c4
  go_wp2_with fail
  have T1 := HT1.out
  clear a5 c0 c1 c2 c3 c4 d0 d1 d2 d3 d4
  refine (C1.out _ ((HR.out.below T1.2.2.2).row)).mono ?_
  rintro e w2 ⟨Q, qc, rfl, oQ, b2⟩
  have T2 := Three.call T1 b2
  have Z2 := T1.2.2.2.size
  clear b2
  have OQ : Hid (w2.ownsRow (w.heap.size + 3) 26 4 (.slice Q v.q.length qc) v.q.length (v.q.flatMap enC)) := own_weak oQ (by have := blk_lt T1.2.2.1; omega)
  clear oQ Z2
  have a6 := cell_of_row _ _ 6 _ _ _ T2.1
  have c5 := cell_of_row _ _ 5 _ _ _ T2.2.2.1
  have d5 := frozen_of_row _ _ 5 _ _ T2.2.2.1
  have T2 := Three.put1 T2 5 (.slice Q v.q.length qc)
  have HT2 := Lib.hid T2
  clear T1 T2 HT1
  simp at a6 c5
  go_wp2_with fail
  have T2 := HT2.out
  clear a6 c5 d5
  have OQ2 := Lib.hid (own_set (i := 5) (u := .slice Q v.q.length qc) OQ.out (show w.heap.size + 2 < w.heap.size + 3 by omega))
  refine (C2.out _ ((HR.out.below T2.2.2.2).whl)).mono ?_
  rintro e w3 ⟨A, c, sp, rfl, hmap, hO, hap, b3⟩
  have T3 := Three.call T2 b3
  have OQ3 := Lib.hid (own_below OQ2.out b3)
  have OW3 : Hid (OwnW w3 (w.heap.size + 3) A c sp) := hO.weak (by have := blk_lt T2.2.2.1; omega)
  clear b3 hO hap OQ OQ2
  have c0 := cell_of_row _ _ 0 _ _ _ T3.2.2.1
  have c1 := cell_of_row _ _ 1 _ _ _ T3.2.2.1
  have c2 := cell_of_row _ _ 2 _ _ _ T3.2.2.1
  have c3 := cell_of_row _ _ 3 _ _ _ T3.2.2.1
  have c4 := cell_of_row _ _ 4 _ _ _ T3.2.2.1
  have c5 := cell_of_row _ _ 5 _ _ _ T3.2.2.1
  have c6 := cell_of_row _ _ 6 _ _ _ T3.2.2.1
  have d0 := frozen_of_row _ _ 0 _ _ T3.2.2.1
  have d1 := frozen_of_row _ _ 1 _ _ T3.2.2.1
  have d2 := frozen_of_row _ _ 2 _ _ T3.2.2.1
  have d3 := frozen_of_row _ _ 3 _ _ T3.2.2.1
  have d4 := frozen_of_row _ _ 4 _ _ T3.2.2.1
  have d5 := frozen_of_row _ _ 5 _ _ T3.2.2.1
  have d6 := frozen_of_row _ _ 6 _ _ T3.2.2.1
  have r0 := cell_of_row _ _ 0 _ _ _ T3.2.1
  have r1 := cell_of_row _ _ 1 _ _ _ T3.2.1
  have r2 := cell_of_row _ _ 2 _ _ _ T3.2.1
  have r3 := cell_of_row _ _ 3 _ _ _ T3.2.1
  have r4 := cell_of_row _ _ 4 _ _ _ T3.2.1
  have r5 := cell_of_row _ _ 5 _ _ _ T3.2.1
  have r6 := cell_of_row _ _ 6 _ _ _ T3.2.1
  have z0 := frozen_of_row _ _ 0 _ _ T3.2.1
  have z1 := frozen_of_row _ _ 1 _ _ T3.2.1
  have z2 := frozen_of_row _ _ 2 _ _ T3.2.1
  have z3 := frozen_of_row _ _ 3 _ _ T3.2.1
  have z4 := frozen_of_row _ _ 4 _ _ T3.2.1
  have z5 := frozen_of_row _ _ 5 _ _ T3.2.1
  have z6 := frozen_of_row _ _ 6 _ _ T3.2.1
  have bW := Lib.hid T3.2.2.2
  have HM := Lib.hid hmap
  clear T2 T3 HT2 C0 C1 C2 HR hmap
  simp at c0 c1 c2 c3 c4 c5 c6 r0 r1 r2 r3 r4 r5 r6
  go_wp2
  simp [bodyPost, results, Try.results84, go_sem, c0, c1, c2, c3, c4, c5, c6, r0, r1, r2, r3, r4, r5, r6]
  refine ⟨⟨v.le, Q, qc, v.q, A, c, sp⟩, rfl, ⟨rfl, rfl, HM.out⟩, ⟨?_, ?_⟩, ?_⟩
  · refine own_rws (show World.ownsRow _ (w.heap.size + 3) 26 4 (.slice Q v.q.length qc) v.q.length (v.q.flatMap enC) from ?_)
    repeat refine own_set ?_ (by omega)
    exact OQ3.out
  · refine OwnW.whl (show OwnW _ (w.heap.size + 3) A c sp from ?_)
    repeat refine OwnW.set ?_ (by omega)
    exact OW3.out
  · iterate 8 refine Below.setCell ?_ (by dsimp only; omega) _
    exact bW.out
end Go.Proofs.Ytlflgflmlfileaa
