/- The walks of the laws over PutNum and PutText, out of the contracts. -/
import Derived.Test.YtefoegicjigpaaaLaw1
import Derived.Test.YtefoegicjigpaaaText
namespace Go.Proofs.Ytefoegicjigpaaa
open Go.RowKit
theorem encI_len (n : Int) : (encI n).length ≤ 5 := by
  unfold encI
  split
  · exact (encF_len 4 _).1
  · simp
theorem OwnB.marks {w : World} {base : Nat} {A : Option Addr} {n c k : Nat} (h : OwnB w base (.slice A n c) (marks k n)) : Bts w w.heap.size A (marks k n) := by
  obtain ⟨A', c', he, hb, _⟩ := OwnB.form h
  injection he with h1 _ _
  rw [h1]; exact hb
set_option maxHeartbeats 400000 in
theorem FnExactPutNum_walk (n : Int) (w : World) :
    Calls Try.prog 6 #[.int .i64 n] w fun e w' => e = .returned (.bool true) ∧ Below w.heap.size w w' := by
  have hl := encI_len n
  have c1 := putNum_spec n
  have c2 := putNum_impl n
  generalize encI n = l at hl c1 c2
  have hle : l.length ≤ 2097152 := by omega
  have C1 := Lib.hid c1
  have C2 := Lib.hid c2
  clear c1 c2
  have hq1 : decide (((1 + l.length : Nat) : Int) < 0) = false := by simp; omega
  have hq2 : (((1 + l.length : Nat) : Int) != ((1 + l.length : Nat) : Int)) = false := by simp
  generalize hqq : 1 + l.length = qq at hq1 hq2
  have HQ := Lib.hid hqq
  clear hqq
  go_enter Try.func6, Try.ntmps6
  go_wp2_with fail
  refine (C1.out _).mono ?_
  rintro e w1 ⟨A1, a1, rfl, o1, b1⟩
  go_wp2_with fail
  refine (C2.out _).mono ?_
  rintro e w2 ⟨A2, a2, rfl, o2, b2⟩
  go_wp2_with fail
  refine (eqB_same A2 A1 l a2 a1 _ _ _ hle o2.bts (o1.below b2).bts).mono ?_
  rintro e w' ⟨rfl, n1, rfl⟩
  go_wp2_with fail
  refine (markB_any A2 l 1 a2 _ _ hle (by omega) (o2.drewN n1)).mono ?_
  rintro e w3 ⟨rfl, o3, g3⟩
  rw [HQ.out]
  have b3 : Below w1.heap.size w1 w3 := (below_drawn b2 n1).grown g3 (by exact b2.size) (own_lo o2)
  go_wp2_with fail
  refine (heldB_any A2 1 l.length a2 _ _ (by omega) (by omega) o3.marks).mono ?_
  rintro e w' ⟨rfl, rfl⟩
  rw [HQ.out]
  go_wp2_with fail
  refine (C2.out _).mono ?_
  rintro e w4 ⟨A4, a4, rfl, o4, b4⟩
  have b4' : Below w1.heap.size w1 w4 := b3.trans (b4.mono b3.size)
  go_wp2_with fail
  refine (eqB_same A4 A1 l a4 a1 _ _ _ hle o4.bts (o1.below b4').bts).mono ?_
  rintro e w' ⟨rfl, n2, rfl⟩
  go_wp2_with fail
  refine (heldB_any A2 1 l.length a2 _ _ (by omega) (by omega) ((OwnB.below o3 b4).drewN n2).marks).mono ?_
  rintro e w' ⟨rfl, rfl⟩
  rw [HQ.out]
  go_wp2
  go_ret
  exact ⟨rfl, below_drawn (b1.trans (b4'.mono b1.size)) n2⟩
set_option maxHeartbeats 400000 in
theorem FnExactPutText_walk (s : ByteArray) (w : World) (hm : s.size ≤ maxLen) :
    Calls Try.prog 8 #[.string s] w fun e w' => e = .returned (.bool true) ∧ Below w.heap.size w w' := by
  unfold maxLen at hm
  by_cases hbig : 1048576 < s.size
  · go_enter Try.func8, Try.ntmps8
    go_wp2
    go_ret
    exact ⟨rfl, Below.refl _ _⟩
  have hl : (encI s.size ++ strN s).length ≤ 2097000 := by rw [List.length_append, strN_length]; have := encI_len s.size; omega
  have c1 := fun w => putText_spec s w (by omega)
  have c2 := fun w => putText_impl s w (by omega)
  generalize encI s.size ++ strN s = l at hl c1 c2
  have hle : l.length ≤ 2097152 := by omega
  have C1 := Lib.hid c1
  have C2 := Lib.hid c2
  clear c1 c2
  have hq1 : decide (((1 + l.length : Nat) : Int) < 0) = false := by simp; omega
  have hq2 : (((1 + l.length : Nat) : Int) != ((1 + l.length : Nat) : Int)) = false := by simp
  generalize hqq : 1 + l.length = qq at hq1 hq2
  have HQ := Lib.hid hqq
  clear hqq
  go_enter Try.func8, Try.ntmps8
  go_wp2_with fail
  refine (C1.out _).mono ?_
  rintro e w1 ⟨A1, a1, rfl, o1, b1⟩
  go_wp2_with fail
  refine (C2.out _).mono ?_
  rintro e w2 ⟨A2, a2, rfl, o2, b2⟩
  go_wp2_with fail
  refine (eqB_same A2 A1 l a2 a1 _ _ _ hle o2.bts (o1.below b2).bts).mono ?_
  rintro e w' ⟨rfl, n1, rfl⟩
  go_wp2_with fail
  refine (markB_any A2 l 1 a2 _ _ hle (by omega) (o2.drewN n1)).mono ?_
  rintro e w3 ⟨rfl, o3, g3⟩
  rw [HQ.out]
  have b3 : Below w1.heap.size w1 w3 := (below_drawn b2 n1).grown g3 (by exact b2.size) (own_lo o2)
  go_wp2_with fail
  refine (heldB_any A2 1 l.length a2 _ _ (by omega) (by omega) o3.marks).mono ?_
  rintro e w' ⟨rfl, rfl⟩
  rw [HQ.out]
  go_wp2_with fail
  refine (C2.out _).mono ?_
  rintro e w4 ⟨A4, a4, rfl, o4, b4⟩
  have b4' : Below w1.heap.size w1 w4 := b3.trans (b4.mono b3.size)
  go_wp2_with fail
  refine (eqB_same A4 A1 l a4 a1 _ _ _ hle o4.bts (o1.below b4').bts).mono ?_
  rintro e w' ⟨rfl, n2, rfl⟩
  go_wp2_with fail
  refine (heldB_any A2 1 l.length a2 _ _ (by omega) (by omega) ((OwnB.below o3 b4).drewN n2).marks).mono ?_
  rintro e w' ⟨rfl, rfl⟩
  rw [HQ.out]
  go_wp2
  go_ret
  exact ⟨rfl, below_drawn (b1.trans (b4'.mono b1.size)) n2⟩
end Go.Proofs.Ytefoegicjigpaaa
