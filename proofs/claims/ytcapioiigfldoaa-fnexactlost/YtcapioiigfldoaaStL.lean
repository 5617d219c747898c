/- The helpers of the laws over stores. -/
import Derived.Test.YtcapioiigfldoaaRows
import Derived.Test.YtcapioiigfldoaaSt
namespace Go.Proofs.Ytcapioiigfldoaa
open Go.RowKit
set_option linter.unusedSimpArgs false
set_option linter.unusedVariables false
/-- Three blocks that the call made first hold these. -/
def Three (w w1 : World) (A B C : Obj) : Prop := w1.heap[w.heap.size]? = some A ∧ w1.heap[w.heap.size + 1]? = some B ∧ w1.heap[w.heap.size + 2]? = some C ∧ Below w.heap.size w w1
theorem Three.make (w : World) (A B C : Obj) : Three w (((w.alloc A).alloc B).alloc C) A B C := by
  have e0 : (w.alloc A).heap.size = w.heap.size + 1 := by simp
  have e1 : ((w.alloc A).alloc B).heap.size = w.heap.size + 2 := by simp
  refine ⟨?_, ?_, ?_, (((Below.refl _ _).alloc (Nat.le_refl _) _).alloc (by simp) _).alloc (by simp; omega) _⟩
  · rw [Go.heap_alloc_old _ _ (by omega), Go.heap_alloc_old _ _ (by omega), heap_new]
  · rw [Go.heap_alloc_old _ _ (by omega), ← e0, heap_new]
  · rw [← e1, heap_new]
theorem Three.call {w w1 w2 : World} {A B C : Obj} (h : Three w w1 A B C) (b : Below w1.heap.size w1 w2) : Three w w2 A B C := by
  obtain ⟨h0, h1, h2, hb⟩ := h
  exact ⟨(b.block _ (Array.getElem?_eq_some_iff.1 h0).1).trans h0, (b.block _ (Array.getElem?_eq_some_iff.1 h1).1).trans h1, (b.block _ (Array.getElem?_eq_some_iff.1 h2).1).trans h2, hb.trans (b.mono hb.size)⟩
theorem Three.put2 {w w1 : World} {A B : Obj} {cs : Array Value} {t : TypeId} (h : Three w w1 A B (.cells cs t (0, 0))) (k : Nat) (u v : Value) :
    Three w ((w1.setCell ⟨w.heap.size + 2, k, none⟩ u).setCell ⟨w.heap.size + 2, k + 1, none⟩ v) A B (.cells ((cs.setIfInBounds k u).setIfInBounds (k + 1) v) t (0, 0)) := by
  obtain ⟨h0, h1, h2, hb⟩ := h
  refine ⟨?_, ?_, ?_, (hb.setCell (by simp) _).setCell (by simp) _⟩
  · rw [Below.heap_setCell _ _ _ _ (by simp), Below.heap_setCell _ _ _ _ (by simp), h0]
  · rw [Below.heap_setCell _ _ _ _ (by simp), Below.heap_setCell _ _ _ _ (by simp), h1]
  · exact Go.heap_setCell_same _ _ _ _ _ _ (Go.heap_setCell_same _ _ _ _ _ _ h2)
set_option maxRecDepth 100000 in
set_option maxHeartbeats 1600000 in
theorem toStore_any (s : St) (w : World) : Calls Try.prog 28 #[stA s] w fun e w' => e = .returned (stA s) ∧ Below w.heap.size w w' := by
  have C0 := Lib.hid (fun w => toArea_any s.log w)
  have C1 := Lib.hid (fun w => toArea_any s.even w)
  have C2 := Lib.hid (fun w => toArea_any s.odd w)
  unfold arA at C0 C1 C2
  unfold stA
  go_enter Try.func28, Try.ntmps28
  go_wp2_with fail
  have T0 := Three.make w (.cells #[.string s.log.data, .int .i64 s.log.safe, .string s.even.data, .int .i64 s.even.safe, .string s.odd.data, .int .i64 s.odd.safe] 47) (.cells #[.string ⟨#[]⟩, .int .i64 0, .string ⟨#[]⟩, .int .i64 0, .string ⟨#[]⟩, .int .i64 0] 27) (.cells #[.string ⟨#[]⟩, .int .i64 0, .string ⟨#[]⟩, .int .i64 0, .string ⟨#[]⟩, .int .i64 0] 27)
  refine (C0.out _).mono ?_
  rintro e w1 ⟨rfl, b1⟩
  have T1 := Three.call T0 b1
  clear b1
  have a0 := cell_of_row _ _ 2 _ _ _ T1.1
  have a1 := cell_of_row _ _ 3 _ _ _ T1.1
  have c0 := cell_of_row _ _ 0 _ _ _ T1.2.2.1
  have c1 := cell_of_row _ _ 1 _ _ _ T1.2.2.1
  have d0 := frozen_of_row _ _ 0 _ _ T1.2.2.1
  have d1 := frozen_of_row _ _ 1 _ _ T1.2.2.1
  have T1 := Three.put2 T1 0 (.string s.log.data) (.int .i64 s.log.safe)
  have HT1 := Lib.hid T1
  clear T0 T1
  simp at a0 a1 c0 c1
  go_wp2_with fail
  have T1 := HT1.out
  clear a0 a1 c0 c1 d0 d1
  refine (C1.out _).mono ?_
  rintro e w2 ⟨rfl, b2⟩
  have T2 := Three.call T1 b2
  clear b2
  have a0 := cell_of_row _ _ 4 _ _ _ T2.1
  have a1 := cell_of_row _ _ 5 _ _ _ T2.1
  have c0 := cell_of_row _ _ 2 _ _ _ T2.2.2.1
  have c1 := cell_of_row _ _ 3 _ _ _ T2.2.2.1
  have d0 := frozen_of_row _ _ 2 _ _ T2.2.2.1
  have d1 := frozen_of_row _ _ 3 _ _ T2.2.2.1
  have T2 := Three.put2 T2 2 (.string s.even.data) (.int .i64 s.even.safe)
  have HT2 := Lib.hid T2
  clear T1 T2
  simp at a0 a1 c0 c1
  go_wp2_with fail
  have T2 := HT2.out
  clear a0 a1 c0 c1 d0 d1
  refine (C2.out _).mono ?_
  rintro e w3 ⟨rfl, b3⟩
  have T3 := Three.call T2 b3
  clear b3
  have c0 := cell_of_row _ _ 0 _ _ _ T3.2.2.1
  have r0 := cell_of_row _ _ 0 _ _ _ T3.2.1
  have z0 := frozen_of_row _ _ 0 _ _ T3.2.1
  have c1 := cell_of_row _ _ 1 _ _ _ T3.2.2.1
  have r1 := cell_of_row _ _ 1 _ _ _ T3.2.1
  have z1 := frozen_of_row _ _ 1 _ _ T3.2.1
  have c2 := cell_of_row _ _ 2 _ _ _ T3.2.2.1
  have r2 := cell_of_row _ _ 2 _ _ _ T3.2.1
  have z2 := frozen_of_row _ _ 2 _ _ T3.2.1
  have c3 := cell_of_row _ _ 3 _ _ _ T3.2.2.1
  have r3 := cell_of_row _ _ 3 _ _ _ T3.2.1
  have z3 := frozen_of_row _ _ 3 _ _ T3.2.1
  have c4 := cell_of_row _ _ 4 _ _ _ T3.2.2.1
  have r4 := cell_of_row _ _ 4 _ _ _ T3.2.1
  have z4 := frozen_of_row _ _ 4 _ _ T3.2.1
  have c5 := cell_of_row _ _ 5 _ _ _ T3.2.2.1
  have r5 := cell_of_row _ _ 5 _ _ _ T3.2.1
  have z5 := frozen_of_row _ _ 5 _ _ T3.2.1
  have d4 := frozen_of_row _ _ 4 _ _ T3.2.2.1
  have d5 := frozen_of_row _ _ 5 _ _ T3.2.2.1
  have bW := Lib.hid T3.2.2.2
  clear T2 T3 HT1 HT2 C0 C1 C2
  simp at c0 c1 c2 c3 c4 c5 r0 r1 r2 r3 r4 r5
  go_wp2
  simp [bodyPost, results, Try.results28, go_sem, c0, c1, c2, c3, c4, c5, r0, r1, r2, r3, r4, r5]
  repeat refine Below.setCell ?_ (by simp <;> omega) _
  exact bW.out
set_option maxRecDepth 100000 in
set_option maxHeartbeats 400000 in
theorem eqStore_same (s : St) (w : World) : Calls Try.prog 30 #[stA s, stA s] w fun e w' => e = .returned (.bool true) ∧ Below w.heap.size w w' := by
  have C0 := Lib.hid (fun w => eqArea_same s.log w)
  have C1 := Lib.hid (fun w => eqArea_same s.even w)
  have C2 := Lib.hid (fun w => eqArea_same s.odd w)
  unfold arA at C0 C1 C2
  unfold stA
  go_enter Try.func30, Try.ntmps30
  go_wp2_with fail
  refine (C0.out _).mono ?_
  rintro e w1 ⟨rfl, b1⟩
  have q2 := boxk _ w1 _ _ b1 2 _ rfl
  have p2 := boxk w w1 _ _ (boxB _ w1 _ b1) 2 _ rfl
  simp only [World.size_alloc] at q2
  have q3 := boxk _ w1 _ _ b1 3 _ rfl
  have p3 := boxk w w1 _ _ (boxB _ w1 _ b1) 3 _ rfl
  simp only [World.size_alloc] at q3
  go_wp2_with fail
  refine (C1.out _).mono ?_
  rintro e w2 ⟨rfl, b2⟩
  have b2 := b1.trans (b2.mono b1.size)
  have q4 := boxk _ w2 _ _ b2 4 _ rfl
  have p4 := boxk w w2 _ _ (boxB _ w2 _ b2) 4 _ rfl
  simp only [World.size_alloc] at q4
  have q5 := boxk _ w2 _ _ b2 5 _ rfl
  have p5 := boxk w w2 _ _ (boxB _ w2 _ b2) 5 _ rfl
  simp only [World.size_alloc] at q5
  go_wp2_with fail
  refine (C2.out _).mono ?_
  rintro e w3 ⟨rfl, b3⟩
  have b3 := b2.trans (b3.mono b2.size)
  have bW := boxB w w3 _ (boxB _ w3 _ b3)
  clear b1 b2 b3
  go_wp2
  go_ret
  exact ⟨rfl, bW⟩
set_option maxRecDepth 100000 in
set_option maxHeartbeats 400000 in
theorem szStore_any (s : St) (q : Int) (w : World) (hg : s.go) (hq : 0 ≤ q) (hq2 : q ≤ 1048576) :
    Calls Try.prog 27 #[stA s, .int .i64 q] w fun e w' => (∃ r : Int, e = .returned (.int .i64 r) ∧ (0 ≤ r → r = q - s.log.data.size - s.even.data.size - s.odd.data.size)) ∧ Below w.heap.size w w' := by
  obtain ⟨g0, g1, g2⟩ := hg
  have C0 := Lib.hid (fun w q => szArea_any s.log q w g0)
  have C1 := Lib.hid (fun w q => szArea_any s.even q w g1)
  have C2 := Lib.hid (fun w q => szArea_any s.odd q w g2)
  unfold arA at C0 C1 C2
  unfold stA
  clear g0 g1 g2
  go_enter Try.func27, Try.ntmps27
  go_wp2_with fail
  refine (C0.out _ q (by omega) (by omega)).mono ?_
  rintro e w1 ⟨⟨r1, rfl, hr1⟩, b1⟩
  by_cases n1 : r1 < 0
  · go_wp2
    go_ret
    exact ⟨⟨_, rfl, fun h => by omega⟩, boxB _ _ _ b1⟩
  have u1 : r1 ≤ 1048576 := by have := hr1 (by omega); omega
  have H1 := Lib.hid (hr1 (by omega))
  clear hr1
  have q2 := boxk w w1 _ _ b1 2 _ rfl
  have q3 := boxk w w1 _ _ b1 3 _ rfl
  go_wp2_with fail
  refine (C1.out _ r1 (by omega) (by omega)).mono ?_
  rintro e w2 ⟨⟨r2, rfl, hr2⟩, b2⟩
  have b2 := b1.trans (b2.mono b1.size)
  clear b1
  by_cases n2 : r2 < 0
  · go_wp2
    go_ret
    exact ⟨⟨_, rfl, fun h => by omega⟩, boxB _ _ _ b2⟩
  have u2 : r2 ≤ 1048576 := by have := hr2 (by omega); omega
  have H2 := Lib.hid (hr2 (by omega))
  clear hr2
  have q4 := boxk w w2 _ _ b2 4 _ rfl
  have q5 := boxk w w2 _ _ b2 5 _ rfl
  go_wp2_with fail
  refine (C2.out _ r2 (by omega) (by omega)).mono ?_
  rintro e w3 ⟨⟨r3, rfl, hr3⟩, b3⟩
  have b3 := b2.trans (b3.mono b2.size)
  clear b2
  by_cases n3 : r3 < 0
  · go_wp2
    go_ret
    exact ⟨⟨_, rfl, fun h => by omega⟩, boxB _ _ _ b3⟩
  have u3 : r3 ≤ 1048576 := by have := hr3 (by omega); omega
  have H3 := Lib.hid (hr3 (by omega))
  clear hr3
  go_wp2
  go_ret
  exact ⟨⟨_, rfl, fun h => by have e1 := H1.out; have e2 := H2.out; have e3 := H3.out; omega⟩, boxB _ _ _ b3⟩
end Go.Proofs.Ytcapioiigfldoaa
