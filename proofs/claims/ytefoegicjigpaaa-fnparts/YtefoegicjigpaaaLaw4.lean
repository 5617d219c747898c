/- The walk of the law over GetText, out of the contracts. -/
import Derived.Test.YtefoegicjigpaaaLaw3
import Derived.Test.YtefoegicjigpaaaGetU
namespace Go.Proofs.Ytefoegicjigpaaa
open Go.RowKit
theorem gotT_form (o : Option (List Nat × Nat)) : ∃ (x : ByteArray) (y : Int) (t : Bool), gotT o = .tuple #[.string x, .int .i64 y, .bool t] := by
  rcases o with _ | ⟨n, k⟩
  · exact ⟨_, 0, false, rfl⟩
  · exact ⟨_, _, true, rfl⟩

set_option maxHeartbeats 400000 in
theorem FnExactGetText_walk (A : Option Addr) (l : List Nat) (cap : Nat) (at_ : Int) (w : World) (hA : Bts w w.heap.size A l) (hb : AllB l) (hm : l.length ≤ maxLen) (hat : at_ ≤ 9223372036854775807) :
    Calls Try.prog 9 #[.slice A l.length cap, .int .i64 at_] w fun e w' => e = .returned (.bool true) ∧ Below w.heap.size w w' := by
  unfold maxLen at hm
  by_cases hbig : 1048576 < l.length
  · go_enter Try.func9, Try.ntmps9
    go_wp2
    go_ret
    exact ⟨rfl, Below.refl _ _⟩
  · have hle : l.length ≤ 2097152 := by omega
    obtain ⟨x, y, t, hV⟩ := gotT_form (getT l at_)
    have C1 := Lib.hid (fun A c B w hc hA => getText_spec A l c B at_ w hle hc hA hb hat)
    have C2 := Lib.hid (fun A c w hc hA => getText_impl A l c at_ w hle hc hA hb hat)
    rw [hV] at C1 C2
    clear hV
    have n2 : (y != y) = false := by simp
    have n3 : (t != t) = false := by simp
    go_enter Try.func9, Try.ntmps9
    go_wp2_with fail
    refine (toB_new A l cap w.heap.size _ hle hA (Nat.le_refl _)).mono ?_
    rintro e w1 ⟨A1, c1, rfl, o1, b1⟩
    go_wp2_with fail
    refine (C1.out A1 c1 _ _ o1.cap.2 o1.bts).mono ?_
    rintro e w' ⟨rfl, rfl⟩
    go_wp2_with fail
    refine (toB_new A l cap w.heap.size _ hle (hA.below b1) b1.size).mono ?_
    rintro e w2 ⟨A2, c2, rfl, o2, b2⟩
    go_wp2_with fail
    refine (C2.out A2 c2 _ o2.cap.2 o2.bts).mono ?_
    rintro e w3 ⟨rfl, b3⟩
    have b2' : Below w.heap.size w w2 := b1.trans (b2.mono b1.size)
    have b3' : Below w.heap.size w w3 := b2'.trans (b3.mono b2'.size)
    go_wp2_with fail
    refine (toB_new A l cap w.heap.size _ hle (hA.below b3') b3'.size).mono ?_
    rintro e w4 ⟨A4, c4, rfl, o4, b4⟩
    go_wp2_with fail
    refine (eqB_same A2 A4 l c2 c4 _ _ _ hle (OwnB.below (OwnB.below o2 b3) b4).bts o4.bts).mono ?_
    rintro e w' ⟨rfl, n, rfl⟩
    go_wp2
    go_ret
    exact ⟨rfl, below_drawn (b3'.trans (b4.mono b3'.size)) n⟩
end Go.Proofs.Ytefoegicjigpaaa
