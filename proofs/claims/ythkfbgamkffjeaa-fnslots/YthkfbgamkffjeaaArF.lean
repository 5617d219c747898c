/- DrawAppend, DrawPutSlot. -/
import Derived.Test.YthkfbgamkffjeaaRows
import Derived.Test.YthkfbgamkffjeaaArE
namespace Go.Proofs.Ythkfbgamkffjeaa
open Go.RowKit
set_option linter.unusedSimpArgs false
set_option linter.unusedVariables false
def moreTexts : List ByteArray := [⟨#[]⟩, ⟨#[120]⟩, ⟨#[109, 111, 114, 101, 32, 111, 102, 32, 105, 116]⟩]
set_option maxRecDepth 100000 in
theorem exec_texts {ρ : Operand → Value} {o : Oper} (w : World) (ho : o.op = .buildSlice 62 3 #[(0, .const (.string ⟨#[]⟩)), (1, .const (.string ⟨#[120]⟩)), (2, .const (.string ⟨#[109, 111, 114, 101, 32, 111, 102, 32, 105, 116]⟩))] := by rfl) (hc : ∀ v, ρ (.const v) = v := by intro v; rfl) :
    (execOp ρ o).run Try.prog w = .ok (.value (.slice (some ⟨w.heap.size, 0, none⟩) 3 3)) (w.alloc (.cells (moreTexts.map Value.string).toArray 9)) := by
  unfold execOp
  rw [ho]
  simp [go_sem, hc, moreTexts]
theorem grown_keep {w w2 : World} {g r : Nat} {o : Obj} (h : w.grownBy w2 (some g)) (hr : w.heap[r]? = some o) (hne : r ≠ g) : w2.heap[r]? = some o := by
  rw [h.block r (Array.getElem?_eq_some_iff.1 hr).1 (by simpa using hne), hr]
/-- What DrawAppend hands out. -/
def GotApp (w : World) (e : Ending) (w' : World) : Prop :=
  ∃ (a : Ar) (s : ByteArray), (a.go ∧ a.data.size ≤ 20000 ∧ s.size ≤ 10) ∧ e = .returned (.tuple #[arA a, .string s]) ∧ Below w.heap.size w w'
theorem got_app {w w2 : World} {r : Nat} {u v : Value} {d s : ByteArray} {z : Int} (hd : d.size ≤ 20000) (hz : -9223372036854775808 ≤ z ∧ z ≤ 9223372036854775807) (hs : s.size ≤ 10) (hb : Below w.heap.size w w2) (hr : w.heap.size ≤ r) :
    GotApp w (.returned (.tuple #[.agg #[.string d, .int .i64 z], .string s])) ((w2.setCell ⟨r, 0, none⟩ u).setCell ⟨r, 1, none⟩ v) :=
  ⟨⟨d, z⟩, s, ⟨⟨by show d.size ≤ _; omega, hz⟩, hd, hs⟩, rfl, (hb.setCell hr _).setCell hr _⟩
set_option maxRecDepth 100000 in
set_option maxHeartbeats 1600000 in
theorem drawAppend_any (A : Option Addr) (l : List Nat) (c : Nat) (w : World) (hl : l.length ≤ 2097152) (hA : Bts w w.heap.size A l) (hb : AllB l) :
    Calls Try.prog 15 #[.slice A l.length c] w (GotApp w) := by
  have b0 : Below w.heap.size w (w.alloc (.cells #[.string ⟨#[]⟩, .int .i64 0] 25)) := (Below.refl _ _).alloc (Nat.le_refl _) _
  have C0 := Lib.hid (l1New_any A l c (w.alloc (.cells #[.string ⟨#[]⟩, .int .i64 0] 25)) hl ((hA.below b0).more b0.size) hb)
  unfold NewCur at C0
  simp only [World.size_alloc] at C0
  go_enter Try.func15, Try.ntmps15
  go_wp2_with fail
  refine C0.out.mono ?_
  rintro e w1 ⟨rfl, hc1, b1⟩
  have r1 : w1.heap[w.heap.size]? = some (.cells #[.string ⟨#[]⟩, .int .i64 0] 25) := (b1.block _ (by omega)).trans (heap_new _ _)
  have b1 : Below w.heap.size w w1 := b0.trans (b1.mono (by omega))
  clear C0 b0
  have hlt1 := hc1.lt
  go_wp2_with fail
  refine (l3Draw_any A l c (w.heap.size + 1) _ hl hb hc1).mono ?_
  rintro e w2 ⟨a, ⟨⟨_, ha1, ha2⟩, hsz⟩, rfl, hc2, gr2⟩
  have r2 := grown_keep gr2 r1 (by omega)
  have b2 : Below w.heap.size w w2 := b1.trans (below_grown gr2 (by omega) (by omega))
  clear gr2 b1 hc1 r1
  have hlt2 := hc2.lt
  unfold arA
  have gr2 := grown_made w2 (.cells #[.string a.data, .int .i64 a.safe] 25) (w.heap.size + 1)
  go_wp2_with fail
  refine (l1Once_any A l c (w.heap.size + 1) 20 _ hl hb (by omega) (by omega) (hc2.alloc _)).mono ?_
  rintro e w3 ⟨t, rfl, hc3, gr3⟩
  have hle2 : w2.heap.size < w3.heap.size := by have := gr3.size; simp at this; omega
  have hres : ∀ w4, w3.grownBy w4 (some (w.heap.size + 1)) → w4.heap[w.heap.size]? = some (.cells #[.string ⟨#[]⟩, .int .i64 0] 25) := fun w4 h => grown_keep (gr2.trans (gr3.trans h)) r2 (by omega)
  have hbox : ∀ w4, w3.grownBy w4 (some (w.heap.size + 1)) → w4.heap[w2.heap.size]? = some (.cells #[.string a.data, .int .i64 a.safe] 25) := fun w4 h => grown_at (gr3.trans h) hlt2
  have bel : ∀ w4, w3.grownBy w4 (some (w.heap.size + 1)) → Below w.heap.size w w4 := fun w4 h => b2.trans (below_grown (gr2.trans (gr3.trans h)) (by omega) (by omega))
  have HR := Lib.hid hres
  have HX := Lib.hid hbox
  have HB := Lib.hid bel
  clear hres hbox bel gr2 gr3 b2 r2 hc2
  cases t with
  | true =>
    go_wp2_with fail
    refine (l3Long_any A l c (w.heap.size + 1) _ hl hb hc3).mono ?_
    rintro e w4 ⟨S, hS, rfl, hc4, gr4⟩
    have hg := HR.out w4 gr4
    have c0 := cell_of_row _ _ 0 _ _ _ hg
    have c1 := cell_of_row _ _ 1 _ _ _ hg
    have z0 := frozen_of_row _ _ 0 _ _ hg
    have z1 := frozen_of_row _ _ 1 _ _ hg
    simp at c0 c1
    have R : Hid (∀ u v, GotApp w (.returned (.tuple #[.agg #[.string S, .int .i64 0], .string ⟨#[48, 49, 50, 51, 52, 53, 54, 55, 56, 57]⟩])) ((w4.setCell ⟨w.heap.size, 0, none⟩ u).setCell ⟨w.heap.size, 1, none⟩ v)) := fun u v => got_app hS (by omega) (by decide) (HB.out w4 gr4) (Nat.le_refl _)
    clear hg gr4 hc4 hc3
    go_wp2
    simp [bodyPost, results, Try.results15, go_sem, c0, c1]
    exact R.out _ _
  | false =>
    have hd := HX.out w3 (World.grownBy.refl _ _)
    have d0 := cell_of_row _ _ 0 _ _ _ hd
    have d1 := cell_of_row _ _ 1 _ _ _ hd
    simp at d0 d1
    have hres := HR.out
    have hbox := HX.out
    have gr3 := grown_drawn (World.grownBy.refl w3 (some (w.heap.size + 1))) 1
    have gr3 := gr3.trans (grown_made (w3.drewN 1) (.cells (moreTexts.map Value.string).toArray 9) (w.heap.size + 1))
    have hlt3 := hc3.lt
    have CP : Hid (Calls Try.prog 45 #[.pointer (some ⟨w.heap.size + 1, 0, none⟩), .slice (some ⟨w3.heap.size, 0, none⟩) 3 3] ((w3.drewN 1).alloc (.cells (moreTexts.map Value.string).toArray 9)) _) := l1Pick_any A l c (w.heap.size + 1) moreTexts w3.heap.size 3 3 _ hl hb (Cur.alloc (show Cur (w3.drewN 1) _ _ _ _ from hc3) _) rfl (by decide) (by decide) (by omega) (strings_new (w3.drewN 1) moreTexts)
    go_wp2_with fail
    refine wp_region_held_drew (S := fun w' => Hid (w'.cell? ⟨w2.heap.size, 0, none⟩ = some (.string a.data) ∧ w'.cell? ⟨w2.heap.size, 1, none⟩ = some (.int .i64 a.safe))) (by kernel_rfl) ⟨d0, d1⟩ (fun hHeld => ?_)
    refine held_take 0 15 (arA a) rfl rfl (by kernel_rfl) (by kernel_rfl) (by kernel_rfl) (fun _ _ _ h => h) rfl hHeld (fun w hS => exec_loadA _ a w hS.out) ?_
    refine held_take 1 16 (.pointer (some ⟨w.heap.size + 1, 0, none⟩)) rfl rfl (by kernel_rfl) (by kernel_rfl) (by kernel_rfl) (fun _ _ _ h => h) rfl hHeld (fun w _ => rfl) ?_
    simp only [Act.put, List.setIfInBounds_toArray, List.set_cons_zero, List.set_cons_succ]
    refine held_op 2 17 (.slice (some ⟨w3.heap.size, 0, none⟩) 3 3) rfl rfl (by kernel_rfl) rfl (exec_texts w3.drew) ⟨(World.cell?_alloc_old _ _ _ (by exact Nat.ne_of_lt hle2)).trans d0, (World.cell?_alloc_old _ _ _ (by exact Nat.ne_of_lt hle2)).trans d1⟩ ?_
    simp only [Act.put, List.setIfInBounds_toArray, List.set_cons_zero, List.set_cons_succ]
    refine held_call 3 18 45 #[.pointer (some ⟨w.heap.size + 1, 0, none⟩), .slice (some ⟨w3.heap.size, 0, none⟩) 3 3] rfl rfl (by kernel_rfl) rfl (exec_call Try.func45 (by kernel_rfl) (by kernel_rfl) _) ?_
    refine CP.out.mono ?_
    rintro e w4 ⟨s, hs, rfl, hc4, gr4⟩
    have gr4 := gr3.trans gr4
    have hg := hres w4 gr4
    have hd := hbox w4 gr4
    have c0 := cell_of_row _ _ 0 _ _ _ hg
    have c1 := cell_of_row _ _ 1 _ _ _ hg
    have z0 := frozen_of_row _ _ 0 _ _ hg
    have z1 := frozen_of_row _ _ 1 _ _ hg
    have d0 := cell_of_row _ _ 0 _ _ _ hd
    have d1 := cell_of_row _ _ 1 _ _ _ hd
    simp at c0 c1 d0 d1
    refine ⟨_, rfl, ⟨d0, d1⟩, ?_⟩
    simp only [Act.put, List.setIfInBounds_toArray, List.set_cons_zero, List.set_cons_succ]
    refine held_store 4 rfl rfl (by kernel_rfl) rfl (exec_store2 _ _ _ _ _ _ c0 c1 z0 z1) (far2 (by omega) d0 d1) ?_
    refine held_op 5 3 (.string s) rfl rfl (by kernel_rfl) rfl rfl (far2 (by omega) d0 d1) ?_
    simp only [Act.put, List.setIfInBounds_toArray, List.set_cons_zero, List.set_cons_succ]
    refine wpAnyH_done (by kernel_rfl) ?_ _
    have hs10 : s.size ≤ 10 := by
      simp only [moreTexts, List.mem_cons, List.not_mem_nil, or_false] at hs
      rcases hs with rfl | rfl | rfl <;> decide
    have R : Hid (∀ u v, GotApp w (.returned (.tuple #[.agg #[.string a.data, .int .i64 a.safe], .string s])) ((w4.setCell ⟨w.heap.size, 0, none⟩ u).setCell ⟨w.heap.size, 1, none⟩ v)) := fun u v => got_app hsz ⟨ha1, ha2⟩ hs10 (HB.out w4 gr4) (Nat.le_refl _)
    clear hg hd gr4 hc4 hc3 hs gr3 hres hbox CP
    go_wp2
    simp [bodyPost, results, Try.results15, go_sem, c0, c1]
    exact R.out _ _
/-- What DrawPutSlot hands out. -/
def GotPut (w : World) (e : Ending) (w' : World) : Prop :=
  ∃ (s : St) (n : Int) (a : Ar), (s.go ∧ s.log.data.size ≤ 20000 ∧ s.even.data.size ≤ 20000 ∧ s.odd.data.size ≤ 20000) ∧ (-9223372036854775808 ≤ n ∧ n ≤ 9223372036854775807) ∧ (a.go ∧ a.data.size ≤ 20000) ∧ e = .returned (.tuple #[stA s, .int .i64 n, arA a]) ∧ Below w.heap.size w w'
set_option maxRecDepth 100000 in
set_option maxHeartbeats 1600000 in
theorem drawPutSlot_any (A : Option Addr) (l : List Nat) (c : Nat) (w : World) (hl : l.length ≤ 2097152) (hA : Bts w w.heap.size A l) (hb : AllB l) :
    Calls Try.prog 21 #[.slice A l.length c] w (GotPut w) := by
  have b0 : Below w.heap.size w ((w.alloc (.cells #[.string ⟨#[]⟩, .int .i64 0, .string ⟨#[]⟩, .int .i64 0, .string ⟨#[]⟩, .int .i64 0] 33)).alloc (.cells #[.string ⟨#[]⟩, .int .i64 0] 25)) := ((Below.refl _ _).alloc (Nat.le_refl _) _).alloc (by simp) _
  have C0 := Lib.hid (l1New_any A l c ((w.alloc (.cells #[.string ⟨#[]⟩, .int .i64 0, .string ⟨#[]⟩, .int .i64 0, .string ⟨#[]⟩, .int .i64 0] 33)).alloc (.cells #[.string ⟨#[]⟩, .int .i64 0] 25)) hl ((hA.below b0).more b0.size) hb)
  unfold NewCur at C0
  simp only [World.size_alloc] at C0
  go_enter Try.func21, Try.ntmps21
  go_wp2_with fail
  refine C0.out.mono ?_
  rintro e w1 ⟨rfl, hc1, b1⟩
  have q1 : w1.heap[w.heap.size + 1]? = some (.cells #[.string ⟨#[]⟩, .int .i64 0] 25) := (b1.block _ (by omega)).trans (by
    have := heap_new (w.alloc (.cells #[.string ⟨#[]⟩, .int .i64 0, .string ⟨#[]⟩, .int .i64 0, .string ⟨#[]⟩, .int .i64 0] 33)) (.cells #[.string ⟨#[]⟩, .int .i64 0] 25)
    rwa [World.size_alloc] at this)
  have r1 : w1.heap[w.heap.size]? = some (.cells #[.string ⟨#[]⟩, .int .i64 0, .string ⟨#[]⟩, .int .i64 0, .string ⟨#[]⟩, .int .i64 0] 33) := (b1.block _ (by omega)).trans (by
    rw [Go.heap_alloc_old _ _ (by simp), heap_new])
  have b1 : Below w.heap.size w w1 := b0.trans (b1.mono (by omega))
  clear C0 b0
  go_wp2_with fail
  refine (l3Store_any A l c (w.heap.size + 1 + 1) _ hl hb hc1).mono ?_
  rintro e w2 ⟨s, hs, rfl, hc2, gr2⟩
  go_wp2_with fail
  refine (l3Which_any A l c (w.heap.size + 1 + 1) _ hl hb hc2).mono ?_
  rintro e w3 ⟨n, hn, rfl, hc3, gr3⟩
  go_wp2_with fail
  refine (l3Draw_any A l c (w.heap.size + 1 + 1) _ hl hb hc3).mono ?_
  rintro e w4 ⟨a, ha, rfl, hc4, gr4⟩
  have gr4 := gr2.trans (gr3.trans gr4)
  have r4 := grown_keep gr4 r1 (by omega)
  have q4 := grown_keep gr4 q1 (by omega)
  have hs1 := hc1.lt
  have b4 : Below w.heap.size w w4 := b1.trans (below_grown gr4 (by omega) b1.size)
  clear gr2 gr3 gr4 hc1 hc2 hc3 hc4 r1 q1 b1
  have R : Hid (∀ u v, GotPut w (.returned (.tuple #[stA s, .int .i64 n, arA a])) (((put6 w4 w.heap.size s).setCell ⟨w.heap.size + 1, 0, none⟩ u).setCell ⟨w.heap.size + 1, 1, none⟩ v)) := fun u v => ⟨s, n, a, hs, hn, ha, rfl, ((put6_below b4 (Nat.le_refl _)).setCell (by simp) _).setCell (by simp) _⟩
  clear hs hn ha b4
  unfold stA arA at *
  unfold put6 at R
  have c0 := cell_of_row _ _ 0 _ _ _ r4
  have z0 := frozen_of_row _ _ 0 _ _ r4
  have c1 := cell_of_row _ _ 1 _ _ _ r4
  have z1 := frozen_of_row _ _ 1 _ _ r4
  have c2 := cell_of_row _ _ 2 _ _ _ r4
  have z2 := frozen_of_row _ _ 2 _ _ r4
  have c3 := cell_of_row _ _ 3 _ _ _ r4
  have z3 := frozen_of_row _ _ 3 _ _ r4
  have c4 := cell_of_row _ _ 4 _ _ _ r4
  have z4 := frozen_of_row _ _ 4 _ _ r4
  have c5 := cell_of_row _ _ 5 _ _ _ r4
  have z5 := frozen_of_row _ _ 5 _ _ r4
  have d0 := cell_of_row _ _ 0 _ _ _ q4
  have y0 := frozen_of_row _ _ 0 _ _ q4
  have d1 := cell_of_row _ _ 1 _ _ _ q4
  have y1 := frozen_of_row _ _ 1 _ _ q4
  simp at c0 c1 c2 c3 c4 c5 d0 d1
  clear r4 q4
  go_wp2
  simp [bodyPost, results, Try.results21, go_sem, c0, c1, c2, c3, c4, c5, d0, d1]
  exact R.out _ _
end Go.Proofs.Ythkfbgamkffjeaa
