/- The walks of the laws over Parts, out of the contracts. -/
import Derived.Test.YtefoegicjigpaaaParts
namespace Go.Proofs.Ytefoegicjigpaaa
open Go.RowKit
set_option maxHeartbeats 400000 in
theorem FnExactParts_walk (s : ByteArray) (c : Nat) (w : World) (hm : s.size ≤ maxLen) :
    Calls Try.prog 10 #[.string s, .int .u8 c] w fun e w' => e = .returned (.bool true) ∧ Below w.heap.size w w' := by
  unfold maxLen at hm
  by_cases hbig : 1048576 < s.size
  · go_enter Try.func10, Try.ntmps10
    go_wp2
    go_ret
    exact ⟨rfl, Below.refl _ _⟩
  have hl : (partsOf s c).length ≤ 1048577 := by
    unfold partsOf; rw [List.length_append]; have := (pst_bounds s c s.size).2; simp; omega
  have c1 := fun w => parts_spec s c w (by omega)
  have c2 := fun w => parts_impl s c w (by omega)
  generalize partsOf s c = l at hl c1 c2
  have hle : l.length ≤ 2097152 := by omega
  have C1 := Lib.hid c1
  have C2 := Lib.hid c2
  clear c1 c2
  have hq1 : decide (((1 + l.length : Nat) : Int) < 0) = false := by simp; omega
  have hq2 : (((1 + l.length : Nat) : Int) != ((1 + l.length : Nat) : Int)) = false := by simp
  generalize hqq : 1 + l.length = qq at hq1 hq2
  have HQ := Lib.hid hqq
  clear hqq
  go_enter Try.func10, Try.ntmps10
  go_wp2_with fail
  refine (C1.out _).mono ?_
  rintro e w1 ⟨A1, a1, rfl, o1, b1⟩
  go_wp2_with fail
  refine (C2.out _).mono ?_
  rintro e w2 ⟨A2, a2, rfl, o2, b2⟩
  go_wp2_with fail
  refine (eqS_same A2 A1 l a2 a1 _ _ _ hle o2.sts (OwnS.below o1 b2).sts).mono ?_
  rintro e w' ⟨rfl, n1, rfl⟩
  go_wp2_with fail
  refine (markS_any A2 l 1 a2 _ _ hle (by omega) (OwnS.drewN o2 n1)).mono ?_
  rintro e w3 ⟨rfl, o3, g3⟩
  rw [HQ.out]
  have b3 : Below w1.heap.size w1 w3 := (below_drawn b2 n1).grown g3 (by exact b2.size) (owns_lo o2)
  go_wp2_with fail
  refine (heldS_any A2 1 l.length a2 _ (by omega) (by omega) (OwnS.sts o3)).mono ?_
  rintro e w5 ⟨rfl, b5⟩
  rw [HQ.out]
  have o5 := OwnS.below o3 b5
  have b5' : Below w1.heap.size w1 w5 := b3.trans (b5.mono b3.size)
  go_wp2_with fail
  refine (C2.out _).mono ?_
  rintro e w4 ⟨A4, a4, rfl, o4, b4⟩
  have b4' : Below w1.heap.size w1 w4 := b5'.trans (b4.mono b5'.size)
  go_wp2_with fail
  refine (eqS_same A4 A1 l a4 a1 _ _ _ hle o4.sts (OwnS.below o1 b4').sts).mono ?_
  rintro e w' ⟨rfl, n2, rfl⟩
  go_wp2_with fail
  refine (heldS_any A2 1 l.length a2 _ (by omega) (by omega) (OwnS.sts (OwnS.drewN (OwnS.below o5 b4) n2))).mono ?_
  rintro e w6 ⟨rfl, b6⟩
  rw [HQ.out]
  have bf : Below w.heap.size w (w4.drewN n2) := below_drawn (b1.trans (b4'.mono b1.size)) n2
  go_wp2
  go_ret
  exact ⟨rfl, bf.trans (b6.mono bf.size)⟩
end Go.Proofs.Ytefoegicjigpaaa
