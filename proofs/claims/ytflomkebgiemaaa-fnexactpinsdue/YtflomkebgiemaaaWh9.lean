/- The draws of chapter 9. -/
import Derived.Test.YtflomkebgiemaaaRows
import Derived.Test.YtflomkebgiemaaaWh8
namespace Go.Proofs.Ytflomkebgiemaaa
open Go.RowKit
set_option linter.unusedSimpArgs false
set_option linter.unusedVariables false
/-- What DrawWheelOf hands out. -/
def GotPl (w : World) (e : Ending) (w' : World) : Prop := ∃ (el : List Pn) (LA : Option Addr) (lc : Nat), el.length ≤ 7 ∧ (∀ f ∈ el, f.fits) ∧ e = .returned (.slice LA el.length lc) ∧ Rws w' w'.heap.size LA (el.flatMap pnC) ∧ Below w.heap.size w w'
set_option maxRecDepth 100000 in
set_option maxHeartbeats 800000 in
theorem drawWheelOf_any (A : Option Addr) (l : List Nat) (c : Nat) (w : World) (hl : l.length ≤ 2097152) (hA : Bts w w.heap.size A l) (hb : AllB l) :
    Calls Try.prog 26 #[.slice A l.length c] w (GotPl w) := by
  have C0 := Lib.hid (l1New_any A l c w hl hA hb)
  unfold NewCur at C0
  go_enter Try.func26, Try.ntmps26
  go_wp2_with fail
  refine C0.out.mono ?_
  rintro e w1 ⟨rfl, hc1, b1⟩
  have HB := Lib.hid b1
  clear C0 b1
  go_wp2_with fail
  refine (l9Pins_any A l c w.heap.size w1 hl hb hc1).mono ?_
  rintro e w2 ⟨el, v, hel, hef, rfl, o2, c2, g2⟩
  obtain ⟨LA, lc, rfl, _⟩ := own_form o2
  have R : Hid (GotPl w (.returned (.slice LA el.length lc)) w2) := ⟨el, LA, lc, hel, hef, rfl, own_rws o2, HB.out.trans (below_grown g2 (Nat.le_refl _) HB.out.size)⟩
  clear o2 c2 g2
  go_wp2
  go_ret
  exact R.out
/-- What DrawPinsDue hands out. -/
def GotWD (w : World) (e : Ending) (w' : World) : Prop :=
  ∃ B d sq now, e = .returned (.tuple #[.agg #[.slice B sq.length d], .int .i64 now]) ∧ sq.length ≤ 10 ∧ (allPn sq).length ≤ 30 ∧ FitL (sq.map (fun s => s.l)) ∧ inI now ∧ Whl w' B sq ∧ Below w.heap.size w w'
set_option maxRecDepth 100000 in
set_option maxHeartbeats 1600000 in
theorem drawPinsDue_any (A : Option Addr) (l : List Nat) (c : Nat) (w : World) (hl : l.length ≤ 2097152) (hA : Bts w w.heap.size A l) (hb : AllB l) :
    Calls Try.prog 15 #[.slice A l.length c] w (GotWD w) := by
  have b0 : Below w.heap.size w (w.alloc (.cells #[.slice none 0 0] 26)) := (Below.refl _ _).alloc (Nat.le_refl _) _
  have C0 := Lib.hid (l1New_any A l c (w.alloc (.cells #[.slice none 0 0] 26)) hl ((hA.below b0).more b0.size) hb)
  unfold NewCur at C0
  simp only [World.size_alloc] at C0
  have hz0 := Lib.hid (heap_new w (.cells #[.slice none 0 0] 26))
  go_enter Try.func15, Try.ntmps15
  go_wp2_with fail
  refine C0.out.mono ?_
  rintro e w1 ⟨rfl, hc1, b1⟩
  have lt1 := hc1.lt
  have hz1 := Lib.hid ((b1.block _ (by omega)).trans hz0.out)
  have HB1 : Hid (Below w.heap.size w w1) := b0.trans (b1.mono (by omega))
  clear C0 b0 b1 hz0
  obtain ⟨g, hg⟩ : ∃ g, w.heap.size + 1 = g := ⟨_, rfl⟩
  have HG := Lib.hid hg
  rw [hg] at hc1 lt1 ⊢
  clear hg
  go_wp2_with fail
  refine (l9Draw_any A l c g w1 hl hb hc1).mono ?_
  rintro e w2 ⟨B, d, sq, rfl, hn, h30, hF, o2, hc2, gr2⟩
  have lt2 := hc2.lt
  have hx := ints_new w2 [0, 3, 8, 12, 20, 30, -1, 9223372036854775807, -9223372036854775808]
  have hc5 := hc2.alloc (.cells (([0, 3, 8, 12, 20, 30, -1, 9223372036854775807, -9223372036854775808] : List Int).map (Value.int .i64)).toArray 3)
  have CP := Lib.hid (l1PickInt_any A l c g [0, 3, 8, 12, 20, 30, -1, 9223372036854775807, -9223372036854775808] w2.heap.size 9 9 _ hl hb hc5 rfl (by simp) (by simp) (by omega) hx)
  have G3 : Hid (w1.grownBy (w2.alloc (.cells (([0, 3, 8, 12, 20, 30, -1, 9223372036854775807, -9223372036854775808] : List Int).map (Value.int .i64)).toArray 3)) (some g)) := grown_step gr2 (World.grownBy_alloc w2 (.cells (([0, 3, 8, 12, 20, 30, -1, 9223372036854775807, -9223372036854775808] : List Int).map (Value.int .i64)).toArray 3) none) (fun j h => by cases h)
  have O3 := Lib.hid (o2.alloc (.cells (([0, 3, 8, 12, 20, 30, -1, 9223372036854775807, -9223372036854775808] : List Int).map (Value.int .i64)).toArray 3))
  clear hx hc5 gr2 o2 hc2
  go_wp2_with fail
  refine CP.out.mono ?_
  rintro e w3 ⟨now, hnm, rfl, hc3, gr3⟩
  have hni : inI now := by
    simp at hnm
    unfold inI
    omega
  have t3 : Tch (fun i => i = g) (w2.alloc (.cells (([0, 3, 8, 12, 20, 30, -1, 9223372036854775807, -9223372036854775808] : List Int).map (Value.int .i64)).toArray 3)) w3 := Tch.of_grown gr3 (fun i hi => by injection hi with hi; exact hi.symm)
  have lw1 := HB1.out.size
  have o3 : OwnW w3 w1.heap.size B d sq := t3.wheel O3.out (fun q hq hp => by have := O3.out.lo q hq; omega)
  have g3 := G3.out.trans gr3
  have hz := (g3.block _ (blk_lt hz1.out) (fun e => by injection e with e; have := HG.out; omega)).trans hz1.out
  have B3 : Below w.heap.size w w3 := HB1.out.trans (below_grown g3 (by have := HG.out; omega) (by have := HB1.out.size; omega))
  have e0 := cell_of_one hz
  have f0 := free_of_one hz
  have R : Hid (GotWD w (.returned (.tuple #[.agg #[.slice B sq.length d], .int .i64 now])) (w3.setCell ⟨w.heap.size, 0, none⟩ (.slice B sq.length d))) :=
    ⟨B, d, sq, now, rfl, hn, h30, hF, hni, (o3.put hz (by decide) (by decide) 0 _).whl, B3.setCell (p := ⟨w.heap.size, 0, none⟩) (Nat.le_refl _) _⟩
  clear hnm CP t3 o3 g3 hz B3 G3 O3 hc3 gr3
  go_wp2
  simp [bodyPost, results, Try.results15, go_sem, e0]
  exact R.out
/-- What DrawWheelPut hands out. -/
def GotWX (w : World) (e : Ending) (w' : World) : Prop :=
  ∃ B d sq x, e = .returned (.tuple #[.agg #[.slice B sq.length d], pnA x]) ∧ sq.length ≤ 10 ∧ (allPn sq).length ≤ 30 ∧ FitL (sq.map (fun s => s.l)) ∧ x.fits ∧ Whl w' B sq ∧ Below w.heap.size w w'
set_option maxRecDepth 100000 in
set_option maxHeartbeats 1600000 in
theorem drawWheelPut_any (A : Option Addr) (l : List Nat) (c : Nat) (w : World) (hl : l.length ≤ 2097152) (hA : Bts w w.heap.size A l) (hb : AllB l) :
    Calls Try.prog 18 #[.slice A l.length c] w (GotWX w) := by
  obtain ⟨U, hU⟩ : ∃ U, (w.alloc (.cells #[.slice none 0 0] 26)).alloc (.cells #[.int .i64 0, .int .i64 0] 33) = U := ⟨_, rfl⟩
  have T0 : U.heap[w.heap.size]? = some (.cells #[.slice none 0 0] 26) ∧ U.heap[w.heap.size + 1]? = some (.cells #[.int .i64 0, .int .i64 0] 33) ∧ Below w.heap.size w U := by rw [← hU]; exact two_at w _ _ _ (Below.refl _ _)
  obtain ⟨z0, p0, b0⟩ := T0
  have hUs : U.heap.size = w.heap.size + 2 := by rw [← hU]; simp
  have C0 := Lib.hid (l1New_any A l c U hl ((hA.below b0).more b0.size) hb)
  unfold NewCur at C0
  rw [hUs] at C0
  have HU := Lib.hid hU
  have HUs := Lib.hid hUs
  have hz0 := Lib.hid (And.intro z0 p0)
  clear hU hUs z0 p0
  go_enter Try.func18, Try.ntmps18
  go_wp2_with fail
  rw [HU.out]
  refine C0.out.mono ?_
  rintro e w1 ⟨rfl, hc1, b1⟩
  have lt1 := hc1.lt
  have hz1 := Lib.hid ((b1.block _ (by omega)).trans hz0.out.1)
  have hp1 := Lib.hid ((b1.block _ (by omega)).trans hz0.out.2)
  have HB1 : Hid (Below w.heap.size w w1) := b0.trans (b1.mono (by omega))
  clear C0 b0 b1 hz0 HU HUs
  obtain ⟨g, hg⟩ : ∃ g, w.heap.size + 2 = g := ⟨_, rfl⟩
  have HG := Lib.hid hg
  rw [hg] at hc1 lt1 ⊢
  clear hg
  go_wp2_with fail
  refine (l9Draw_any A l c g w1 hl hb hc1).mono ?_
  rintro e w2 ⟨B, d, sq, rfl, hn, h30, hF, o2, hc2, gr2⟩
  have lt2 := hc2.lt
  have O2 := Lib.hid o2
  clear o2
  go_wp2_with fail
  refine (l9Pin_any A l c g w2 hl hb hc2).mono ?_
  rintro e w3 ⟨x, hxf, rfl, hc3, gr3⟩
  have t3 : Tch (fun i => i = g) w2 w3 := Tch.of_grown gr3 (fun i hi => by injection hi with hi; exact hi.symm)
  have o3 : OwnW w3 w1.heap.size B d sq := t3.wheel O2.out (fun q hq hp => by have := O2.out.lo q hq; omega)
  have g3 := gr2.trans gr3
  have hz := (g3.block _ (blk_lt hz1.out) (fun e => by injection e with e; have := HG.out; omega)).trans hz1.out
  have hp := (g3.block _ (blk_lt hp1.out) (fun e => by injection e with e; have := HG.out; omega)).trans hp1.out
  have B3 : Below w.heap.size w w3 := HB1.out.trans (below_grown g3 (by have := HG.out; omega) (by have := HB1.out.size; omega))
  have lw1 := HB1.out.size
  have lp1 := blk_lt hp1.out
  have e0 := cell_of_one hz
  have f0 := free_of_one hz
  have hp4 := (heap_set_ne w3 w.heap.size 0 (.slice B sq.length d) (show w.heap.size + 1 ≠ w.heap.size by omega)).trans hp
  have a0 := cell_of_row _ _ 0 _ _ _ hp4
  have a1 := cell_of_row _ _ 1 _ _ _ hp4
  have b0 := frozen_of_row _ _ 0 _ _ hp4
  have b1 := frozen_of_row _ _ 1 _ _ hp4
  simp at a0 a1
  have hW : Whl (putPn (w3.setCell ⟨w.heap.size, 0, none⟩ (.slice B sq.length d)) (w.heap.size + 1) x) B sq := by
    have h1 := o3.put hz (by decide) (by decide) 0 (.slice B sq.length d)
    have t4 : Tch (fun i => i = w.heap.size + 1) (w3.setCell ⟨w.heap.size, 0, none⟩ (.slice B sq.length d)) (putPn (w3.setCell ⟨w.heap.size, 0, none⟩ (.slice B sq.length d)) (w.heap.size + 1) x) := by
      unfold putPn
      exact (Tch.of_grown (Go.Lib.grownBy_setCell _ (w.heap.size + 1) 0 _) (fun i hi => by injection hi with hi; exact hi.symm)).trans (Tch.of_grown (Go.Lib.grownBy_setCell _ (w.heap.size + 1) 1 _) (fun i hi => by injection hi with hi; exact hi.symm))
    exact (t4.wheel h1 (fun q hq hp => by have := h1.lo q hq; omega)).whl
  have hB : Below w.heap.size w (putPn (w3.setCell ⟨w.heap.size, 0, none⟩ (.slice B sq.length d)) (w.heap.size + 1) x) := by
    unfold putPn
    exact ((B3.setCell (p := ⟨w.heap.size, 0, none⟩) (Nat.le_refl _) _).setCell (p := ⟨w.heap.size + 1, 0, none⟩) (by show _ ≤ _ + 1; omega) _).setCell (p := ⟨w.heap.size + 1, 1, none⟩) (by show _ ≤ _ + 1; omega) _
  have e9 : (putPn (w3.setCell ⟨w.heap.size, 0, none⟩ (.slice B sq.length d)) (w.heap.size + 1) x).cell? ⟨w.heap.size, 0, none⟩ = some (.slice B sq.length d) := by
    unfold putPn
    rw [World.cell?_setCell_other _ _ _ _ (by simp), World.cell?_setCell_other _ _ _ _ (by simp)]
    exact World.cell?_setCell_same _ _ _ e0
  have R : Hid (GotWX w (.returned (.tuple #[.agg #[.slice B sq.length d], pnA x])) (putPn (w3.setCell ⟨w.heap.size, 0, none⟩ (.slice B sq.length d)) (w.heap.size + 1) x)) := ⟨B, d, sq, x, rfl, hn, h30, hF, hxf, hW, hB⟩
  have E9 := Lib.hid e9
  clear t3 o3 g3 hz hp hp4 B3 O2 hc3 gr3 gr2 hc2 hc1 hW hB e9
  unfold pnA putPn at R
  unfold putPn at E9
  unfold pnA
  go_wp2
  simp [bodyPost, results, Try.results18, go_sem, e0, a0, a1, E9.out]
  exact R.out
end Go.Proofs.Ytflomkebgiemaaa
