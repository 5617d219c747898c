/- TodoPut of the model. -/
import Derived.Test.YtlflgflmlfileaaRows
import Derived.Test.YtlflgflmlfileaaRowX
namespace Go.Proofs.Ytlflgflmlfileaa
open Go.RowKit
set_option linter.unusedSimpArgs false
set_option linter.unusedVariables false
/-- What TodoPut returns. -/
def todoV (l : List Int) (z : Int) : List Int := if z ∈ l then l else l ++ [z]
theorem todoV_len (l : List Int) (z : Int) : (todoV l z).length ≤ l.length + 1 := by unfold todoV; split <;> simp
set_option maxRecDepth 100000 in
set_option maxHeartbeats 1600000 in
theorem todoPut_spec (A : Option Addr) (l : List Int) (c : Nat) (z : Int) (w : World) (hl : l.length ≤ 2097152) (hn : A = none → c = 0) (hA : Rws w w.heap.size A (ints l)) :
    Calls Try.prog 29 #[.slice A l.length c, .int .i64 z] w (NewR 3 1 w (todoV l z).length (ints (todoV l z))) := by
  have O1 := own_empty w w.heap.size 3 1 (Nat.le_refl _)
  have x1 : Below w.heap.size w (w.alloc (.cells #[] 3)) := (Below.refl _ _).alloc (Nat.le_refl _) _
  have R1 := rws_below hA x1
  go_enter Try.func29, Try.ntmps29
  go_wp2_with (at_builtin; refine wpList_appR rowInt _ rfl (.tmp 6) (.tmp 7) rfl w.heap.size _ 0 [] rfl O1 _ A l.length c (ints l) rfl (by rw [ints_len]; omega) R1 hn (ints_one l) (by omega) (by simp) ?_)
  intro v2 w2 o2 g2
  have b2 := x1.grown g2 (by simp) (own_low O1)
  have o2' : w2.ownsRow w.heap.size 3 1 v2 l.length (ints l) := by simpa using o2
  have CH := Lib.hid (l1Has_spec A l c z w2 hl (rws_below hA b2))
  have O2 := Lib.hid o2'
  have B2 := Lib.hid b2
  clear o2 o2' g2 b2 O1 x1 R1
  go_wp2_with fail
  refine CH.out.mono ?_
  rintro e _ ⟨rfl, rfl⟩
  by_cases hz : z ∈ l
  · have HN := NewR.of_own O2.out B2.out
    have e1 : todoV l z = l := by unfold todoV; rw [if_pos hz]
    rw [← e1] at HN
    have HN := Lib.hid HN
    simp only [hz, decide_true]
    clear O2 B2 CH hz e1
    go_wp2
    go_ret
    exact HN.out
  · have e1 : todoV l z = l ++ [z] := by unfold todoV; rw [if_neg hz]
    simp only [hz, decide_false]
    have O3 := O2.out.alloc (.cells #[.int .i64 z] 3)
    have x3 : Below w2.heap.size w2 (w2.alloc (.cells #[.int .i64 z] 3)) := (Below.refl _ _).alloc (Nat.le_refl _) _
    have R3 : Rws (w2.alloc (.cells #[.int .i64 z] 3)) (w2.heap.size + 1) (some ⟨w2.heap.size, 0, none⟩) [.int .i64 z] := Rws.new w2 [.int .i64 z] 3
    have hs2 := B2.out.size
    clear hz
    go_wp2_with (at_builtin; refine wpList_appR rowInt _ rfl (.tmp 13) (.tmp 15) rfl w.heap.size _ l.length (ints l) rfl O3 _ _ 1 1 [.int .i64 z] rfl rfl R3 (fun h => by cases h) (fun u hu => by simp at hu; rw [hu]; rfl) (by omega) (by simp; omega) ?_)
    intro v4 w4 o4 g4
    have b4 := (B2.out.trans (x3.mono hs2)).grown g4 (by simp; omega) (own_low O3)
    have o4' : w4.ownsRow w.heap.size 3 1 v4 (todoV l z).length (ints (todoV l z)) := by rw [e1, List.length_append, ints_append]; exact o4
    have HN := Lib.hid (NewR.of_own o4' b4)
    clear o4 o4' g4 b4 O3 x3 R3 e1 O2 B2
    go_wp2
    go_ret
    exact HN.out
end Go.Proofs.Ytlflgflmlfileaa
