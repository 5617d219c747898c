/- The walks of the laws over GetNum, out of the contracts. -/
import Derived.Test.YtefoegicjigpaaaLaw1
import Derived.Test.YtefoegicjigpaaaGetD
namespace Go.Proofs.Ytefoegicjigpaaa
open Go.RowKit
theorem OwnB.cap {w : World} {base : Nat} {A : Option Addr} {c n : Nat} {l : List Nat} (h : OwnB w base (.slice A n c) l) : n = l.length ∧ l.length ≤ c := by
  rcases h.2 with ⟨hv, hn⟩ | ⟨g, cap, cur, hv, _, _, hnc, _⟩
  · injection hv with _ h2 h3; omega
  · injection hv with _ h2 h3; omega
theorem got_form (o : Option (Nat × Nat)) (a : Nat) : ∃ (x y : Int) (t : Bool), gotV o a = .tuple #[.int .i64 x, .int .i64 y, .bool t] := by
  rcases o with _ | ⟨n, k⟩
  · exact ⟨0, 0, false, rfl⟩
  · exact ⟨_, _, true, rfl⟩

set_option maxHeartbeats 400000 in
theorem FnExactGetNum_walk (A : Option Addr) (l : List Nat) (cap : Nat) (at_ : Int) (w : World) (hA : Bts w w.heap.size A l) (hb : AllB l) (hm : l.length ≤ maxLen) (hat : at_ ≤ 9223372036854775807) :
    Calls Try.prog 7 #[.slice A l.length cap, .int .i64 at_] w fun e w' => e = .returned (.bool true) ∧ Below w.heap.size w w' := by
  unfold maxLen at hm
  by_cases hbig : 1048576 < l.length
  · go_enter Try.func7, Try.ntmps7
    go_wp2
    go_ret
    exact ⟨rfl, Below.refl _ _⟩
  · have hle : l.length ≤ 2097152 := by omega
    obtain ⟨x, y, t, hV⟩ := got_form (getN l at_) at_.toNat
    have C1 := Lib.hid (fun A c B w hA => getNum_spec A l c B at_ w hle hA hb hat)
    have C2 := Lib.hid (fun A c w hc hA => getNum_impl A l c at_ w hle hc hA hb hat)
    rw [hV] at C1 C2
    clear hV
    have n1 : (x != x) = false := by simp
    have n2 : (y != y) = false := by simp
    have n3 : (t != t) = false := by simp
    go_enter Try.func7, Try.ntmps7
    go_wp2_with fail
    refine (toB_new A l cap w.heap.size _ hle hA (Nat.le_refl _)).mono ?_
    rintro e w1 ⟨A1, c1, rfl, o1, b1⟩
    go_wp2_with fail
    refine (C1.out A1 c1 _ _ o1.bts).mono ?_
    rintro e w' ⟨rfl, rfl⟩
    go_wp2_with fail
    refine (toB_new A l cap w.heap.size _ hle (hA.below b1) b1.size).mono ?_
    rintro e w2 ⟨A2, c2, rfl, o2, b2⟩
    go_wp2_with fail
    refine (C2.out A2 c2 _ o2.cap.2 o2.bts).mono ?_
    rintro e w3 ⟨rfl, b3⟩
    have b2' : Below w.heap.size w w2 := b1.trans (b2.mono b1.size)
    have b3' : Below w.heap.size w w3 := b2'.trans (b3.mono b2'.size)
    go_wp2_with fail
    refine (toB_new A l cap w.heap.size _ hle (hA.below b3') b3'.size).mono ?_
    rintro e w4 ⟨A4, c4, rfl, o4, b4⟩
    go_wp2_with fail
    refine (eqB_same A2 A4 l c2 c4 _ _ _ hle (OwnB.below (OwnB.below o2 b3) b4).bts o4.bts).mono ?_
    rintro e w' ⟨rfl, n, rfl⟩
    go_wp2
    go_ret
    exact ⟨rfl, below_drawn (b3'.trans (b4.mono b3'.size)) n⟩
end Go.Proofs.Ytefoegicjigpaaa
