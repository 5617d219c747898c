/- TodoPut, l5Copy of the model. -/
import Derived.Test.YtohpegblbikbdaaRows
import Derived.Test.YtohpegblbikbdaaHs18
namespace Go.Proofs.Ytohpegblbikbdaa
open Go.RowKit
set_option linter.unusedSimpArgs false
set_option linter.unusedVariables false
/-- What TodoPut returns. -/
def todoV (l : List Int) (z : Int) : List Int := if z ∈ l then l else l ++ [z]
theorem todoV_len (l : List Int) (z : Int) : (todoV l z).length ≤ l.length + 1 := by unfold todoV; split <;> simp
set_option maxRecDepth 100000 in
set_option maxHeartbeats 1600000 in
theorem todoPut_spec (A : Option Addr) (l : List Int) (c : Nat) (z : Int) (w : World) (hl : l.length ≤ 2097152) (hn : A = none → c = 0) (hA : Rws w w.heap.size A (ints l)) :
    Calls Try.prog 45 #[.slice A l.length c, .int .i64 z] w (NewR 3 1 w (todoV l z).length (ints (todoV l z))) := by
  have O1 := own_empty w w.heap.size 3 1 (Nat.le_refl _)
  have x1 : Below w.heap.size w (w.alloc (.cells #[] 3)) := (Below.refl _ _).alloc (Nat.le_refl _) _
  have R1 := rws_below hA x1
  go_enter Try.func45, Try.ntmps45
  go_wp2_with (at_builtin; refine wpList_appR rowInt _ rfl (.tmp 6) (.tmp 7) rfl w.heap.size _ 0 [] rfl O1 _ A l.length c (ints l) rfl (by rw [ints_len]; omega) R1 hn (ints_one l) (by omega) (by simp) ?_)
  intro v2 w2 o2 g2
  have b2 := x1.grown g2 (by simp) (own_low O1)
  have o2' : w2.ownsRow w.heap.size 3 1 v2 l.length (ints l) := by simpa using o2
  have CH := Lib.hid (l1Has_spec A l c z w2 hl (rws_below hA b2))
  have O2 := Lib.hid o2'
  have B2 := Lib.hid b2
  clear o2 o2' g2 b2 O1 x1 R1
  go_wp2_with fail
  refine CH.out.mono ?_
  rintro e _ ⟨rfl, rfl⟩
  by_cases hz : z ∈ l
  · have HN := NewR.of_own O2.out B2.out
    have e1 : todoV l z = l := by unfold todoV; rw [if_pos hz]
    rw [← e1] at HN
    have HN := Lib.hid HN
    simp only [hz, decide_true]
    clear O2 B2 CH hz e1
    go_wp2
    go_ret
    exact HN.out
  · have e1 : todoV l z = l ++ [z] := by unfold todoV; rw [if_neg hz]
    simp only [hz, decide_false]
    have O3 := O2.out.alloc (.cells #[.int .i64 z] 3)
    have x3 : Below w2.heap.size w2 (w2.alloc (.cells #[.int .i64 z] 3)) := (Below.refl _ _).alloc (Nat.le_refl _) _
    have R3 : Rws (w2.alloc (.cells #[.int .i64 z] 3)) (w2.heap.size + 1) (some ⟨w2.heap.size, 0, none⟩) [.int .i64 z] := Rws.new w2 [.int .i64 z] 3
    have hs2 := B2.out.size
    clear hz
    go_wp2_with (at_builtin; refine wpList_appR rowInt _ rfl (.tmp 13) (.tmp 15) rfl w.heap.size _ l.length (ints l) rfl O3 _ _ 1 1 [.int .i64 z] rfl rfl R3 (fun h => by cases h) (fun u hu => by simp at hu; rw [hu]; rfl) (by omega) (by simp; omega) ?_)
    intro v4 w4 o4 g4
    have b4 := (B2.out.trans (x3.mono hs2)).grown g4 (by simp; omega) (own_low O3)
    have o4' : w4.ownsRow w.heap.size 3 1 v4 (todoV l z).length (ints (todoV l z)) := by rw [e1, List.length_append, ints_append]; exact o4
    have HN := Lib.hid (NewR.of_own o4' b4)
    clear o4 o4' g4 b4 O3 x3 R3 e1 O2 B2
    go_wp2
    go_ret
    exact HN.out
set_option maxRecDepth 100000 in
set_option maxHeartbeats 1600000 in
theorem l5Copy_spec (A : Option Addr) (c : Nat) (r : Ru) (w : World) (hl : r.seats.length ≤ 2097152) (hn : A = none → c = 0) (hA : Rws w w.heap.size A (ints r.seats)) :
    Calls Try.prog 55 #[ruV A c r] w (NewRu w r) := by
  obtain ⟨W, hW⟩ : ∃ W, (w.alloc (.cells #[.slice A r.seats.length c, .int .i64 r.tiers, .int .i64 r.room, .int .i64 r.size, .int .i64 r.period, .int .i64 r.window, .int .i64 r.rest, .int .i64 r.tries, .int .i64 r.crew] 48)).alloc (.cells #[.slice none 0 0, .int .i64 0, .int .i64 0, .int .i64 0, .int .i64 0, .int .i64 0, .int .i64 0, .int .i64 0, .int .i64 0] 48) = W := ⟨_, rfl⟩
  have T0 : W.heap[w.heap.size]? = some (.cells #[.slice A r.seats.length c, .int .i64 r.tiers, .int .i64 r.room, .int .i64 r.size, .int .i64 r.period, .int .i64 r.window, .int .i64 r.rest, .int .i64 r.tries, .int .i64 r.crew] 48) ∧ W.heap[w.heap.size + 1]? = some (.cells #[.slice none 0 0, .int .i64 0, .int .i64 0, .int .i64 0, .int .i64 0, .int .i64 0, .int .i64 0, .int .i64 0, .int .i64 0] 48) ∧ Below w.heap.size w W := by rw [← hW]; exact two_at w _ _ _ (Below.refl _ _)
  have ltW : w.heap.size + 1 < W.heap.size := blk_lt T0.2.1
  have O1 := own_empty W W.heap.size 3 1 (Nat.le_refl _)
  have x1 : Below W.heap.size W (W.alloc (.cells #[] 3)) := (Below.refl _ _).alloc (Nat.le_refl _) _
  have R1 := rws_below (rws_below hA T0.2.2) x1
  have q0 := cell_of_row _ _ 0 _ _ _ (blk_alloc T0.1 (.cells #[] 3))
  simp at q0
  have q00 := cell_of_row _ _ 0 _ _ _ T0.1
  simp at q00
  have HT := Lib.hid T0
  clear T0
  unfold ruV
  go_enter Try.func55, Try.ntmps55
  go_wp2_with (at_builtin; refine wpList_appR rowInt _ rfl (.tmp 3) (.tmp 5) rfl W.heap.size _ 0 [] rfl O1 _ A r.seats.length c (ints r.seats) rfl (by rw [ints_len]; omega) R1 hn (ints_one r.seats) (by omega) (by simp) ?_)
  intro v2 w2 o2 g2
  have T := HT.out
  have b2 := x1.grown g2 (by simp) (own_low O1)
  have h0 := blk_call T.1 b2
  have h1 := blk_call T.2.1 b2
  have o2' : w2.ownsRow W.heap.size 3 1 v2 r.seats.length (ints r.seats) := by simpa using o2
  obtain ⟨A2, c2, rfl, _⟩ := own_form o2'
  have h0' := Go.heap_setCell_same _ _ 0 _ _ (.slice A2 r.seats.length c2) h0
  have bw := T.2.2.trans (b2.mono T.2.2.size)
  have c00 := cell_of_row _ _ 0 _ _ _ h0
  have z00 := frozen_of_row _ _ 0 _ _ h0
  obtain ⟨U, eU⟩ : ∃ U, w2.setCell ⟨w.heap.size, 0, none⟩ (.slice A2 r.seats.length c2) = U := ⟨_, rfl⟩
  rw [eU] at h0'
  have h1' : U.heap[w.heap.size + 1]? = some (.cells #[.slice none 0 0, .int .i64 0, .int .i64 0, .int .i64 0, .int .i64 0, .int .i64 0, .int .i64 0, .int .i64 0, .int .i64 0] 48) := by rw [← eU]; exact (heap_set_ne w2 _ 0 _ (by omega)).trans h1
  have bU : Below w.heap.size w U := by rw [← eU]; exact bw.setCell (p := ⟨w.heap.size, 0, none⟩) (Nat.le_refl _) _
  have oU : U.ownsRow w.heap.size 3 1 (.slice A2 r.seats.length c2) r.seats.length (ints r.seats) := by rw [← eU]; exact own_weak (o2'.kept (Go.Lib.grownBy_setCell w2 _ 0 _) (.inr (own_ne_type o2' h0 (by decide)))) (by omega)
  have d0 := cell_of_row _ _ 0 _ _ _ h0'
  have d1 := cell_of_row _ _ 1 _ _ _ h0'
  have d2 := cell_of_row _ _ 2 _ _ _ h0'
  have d3 := cell_of_row _ _ 3 _ _ _ h0'
  have d4 := cell_of_row _ _ 4 _ _ _ h0'
  have d5 := cell_of_row _ _ 5 _ _ _ h0'
  have d6 := cell_of_row _ _ 6 _ _ _ h0'
  have d7 := cell_of_row _ _ 7 _ _ _ h0'
  have d8 := cell_of_row _ _ 8 _ _ _ h0'
  have e0 := cell_of_row _ _ 0 _ _ _ h1'
  have f0 := frozen_of_row _ _ 0 _ _ h1'
  have e1 := cell_of_row _ _ 1 _ _ _ h1'
  have f1 := frozen_of_row _ _ 1 _ _ h1'
  have e2 := cell_of_row _ _ 2 _ _ _ h1'
  have f2 := frozen_of_row _ _ 2 _ _ h1'
  have e3 := cell_of_row _ _ 3 _ _ _ h1'
  have f3 := frozen_of_row _ _ 3 _ _ h1'
  have e4 := cell_of_row _ _ 4 _ _ _ h1'
  have f4 := frozen_of_row _ _ 4 _ _ h1'
  have e5 := cell_of_row _ _ 5 _ _ _ h1'
  have f5 := frozen_of_row _ _ 5 _ _ h1'
  have e6 := cell_of_row _ _ 6 _ _ _ h1'
  have f6 := frozen_of_row _ _ 6 _ _ h1'
  have e7 := cell_of_row _ _ 7 _ _ _ h1'
  have f7 := frozen_of_row _ _ 7 _ _ h1'
  have e8 := cell_of_row _ _ 8 _ _ _ h1'
  have f8 := frozen_of_row _ _ 8 _ _ h1'
  simp at c00
  simp at d0 d1 d2 d3 d4 d5 d6 d7 d8 e0 e1 e2 e3 e4 e5 e6 e7 e8
  have HN : Hid (NewRu w r (.returned (ruV A2 c2 r)) (put9 U (w.heap.size + 1) A2 c2 r)) := ⟨A2, c2, rfl, put9_own oU (own_ne_type oU h1' (by decide)), put9_below bU (by omega)⟩
  clear o2 o2' g2 b2 h0 h1 h0' h1' bw bU oU T HT O1 x1 R1 q0 q00
  unfold ruV put9 at HN
  go_wp2
  simp [bodyPost, results, Try.results55, go_sem, e0, e1, e2, e3, e4, e5, e6, e7, e8]
  exact HN.out
end Go.Proofs.Ytohpegblbikbdaa
