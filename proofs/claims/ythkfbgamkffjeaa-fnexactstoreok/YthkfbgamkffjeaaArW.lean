/- The walks of the exact laws over areas and stores. -/
import Derived.Test.YthkfbgamkffjeaaRows
import Derived.Test.YthkfbgamkffjeaaStL
namespace Go.Proofs.Ythkfbgamkffjeaa
open Go.RowKit
set_option linter.unusedSimpArgs false
set_option linter.unusedVariables false
set_option maxRecDepth 100000 in
set_option maxHeartbeats 800000 in
theorem FnExactAreaOk_walk (a : Ar) (w : World) (hg : a.go) : Calls Try.prog 5 #[arA a] w fun e w' => e = .returned (.bool true) ∧ Below w.heap.size w w' := by
  have CS := Lib.hid (fun w => szArea_any a 1048576 w hg (by omega) (by omega))
  have CT := Lib.hid (fun w => toArea_any a w)
  have C1 := Lib.hid (fun w => areaOk_spec a w hg)
  have C2 := Lib.hid (fun w => areaOk_impl a w hg)
  clear hg
  generalize decide a.fine = R at C1 C2
  have nt : (R != R) = false := by simp
  unfold arA at CS CT C1 C2
  unfold arA
  go_enter Try.func5, Try.ntmps5
  go_wp2_with fail
  refine (CS.out _).mono ?_
  rintro e w1 ⟨⟨r, rfl, hr⟩, b1⟩
  clear hr
  by_cases hr0 : r < 0
  · go_wp2
    go_ret
    exact ⟨rfl, boxB _ _ _ b1⟩
  have q0 := boxk w w1 _ _ b1 0 _ rfl
  have q1 := boxk w w1 _ _ b1 1 _ rfl
  go_wp2_with fail
  refine (CT.out _).mono ?_
  rintro e w2 ⟨rfl, b2⟩
  go_wp2_with fail
  refine (C1.out _).mono ?_
  rintro e w3 ⟨rfl, b3⟩
  have b3 := b1.trans ((b2.trans (b3.mono b2.size)).mono b1.size)
  clear b1 b2
  clear q0 q1
  have q0 := boxk w w3 _ _ b3 0 _ rfl
  have q1 := boxk w w3 _ _ b3 1 _ rfl
  go_wp2_with fail
  refine (CT.out _).mono ?_
  rintro e w4 ⟨rfl, b4⟩
  go_wp2_with fail
  refine (C2.out _).mono ?_
  rintro e w5 ⟨rfl, b5⟩
  have b5 := b3.trans ((b4.trans (b5.mono b4.size)).mono b3.size)
  clear b3 b4
  clear q0 q1
  go_wp2
  go_ret
  exact ⟨rfl, boxB _ _ _ b5⟩
set_option maxRecDepth 100000 in
set_option maxHeartbeats 800000 in
theorem FnExactAppend_walk (a : Ar) (s : ByteArray) (w : World) (hg : a.go) (hm : s.size ≤ maxLen) : Calls Try.prog 6 #[arA a, .string s] w fun e w' => e = .returned (.bool true) ∧ Below w.heap.size w w' := by
  unfold maxLen at hm
  by_cases hbig : 1048576 < s.size
  · unfold arA
    go_enter Try.func6, Try.ntmps6
    go_wp2
    go_ret
    exact ⟨rfl, (Below.refl _ _).alloc (Nat.le_refl _) _⟩
  have hs : s.size ≤ 2097152 := by omega
  have CS := Lib.hid (fun w => szArea_any a 1048576 w hg (by omega) (by omega))
  have CT := Lib.hid (fun w => toArea_any a w)
  have C1 := Lib.hid (fun w => append_spec a s w hg hs)
  have C2 := Lib.hid (fun w => append_impl a s w hg hs)
  clear hg
  generalize appA a s = R at C1 C2
  obtain ⟨⟨d, z⟩, t⟩ := R
  simp only [abV] at C1 C2
  have nt : (t != t) = false := by simp
  have CE := Lib.hid (fun w => eqArea_same ⟨d, z⟩ w)
  unfold arA at CS CT C1 C2
  unfold arA at CE
  unfold arA
  go_enter Try.func6, Try.ntmps6
  go_wp2_with fail
  refine (CS.out _).mono ?_
  rintro e w1 ⟨⟨r, rfl, hr⟩, b1⟩
  clear hr
  by_cases hr0 : r < 0
  · go_wp2
    go_ret
    exact ⟨rfl, boxB _ _ _ b1⟩
  have q0 := boxk w w1 _ _ b1 0 _ rfl
  have q1 := boxk w w1 _ _ b1 1 _ rfl
  go_wp2_with fail
  refine (CT.out _).mono ?_
  rintro e w2 ⟨rfl, b2⟩
  go_wp2_with fail
  refine (C1.out _).mono ?_
  rintro e w3 ⟨rfl, b3⟩
  have b3 := b1.trans ((b2.trans (b3.mono b2.size)).mono b1.size)
  clear b1 b2
  clear q0 q1
  have q0 := boxk w w3 _ _ b3 0 _ rfl
  have q1 := boxk w w3 _ _ b3 1 _ rfl
  have lt3 : w.heap.size < w3.heap.size := by have := b3.size; simp at this; omega
  go_wp2_with fail
  refine (CT.out _).mono ?_
  rintro e w4 ⟨rfl, b4⟩
  go_wp2_with fail
  refine (C2.out _).mono ?_
  rintro e w5 ⟨rfl, b5⟩
  have b45 := b4.trans (b5.mono b4.size)
  clear b4 b5
  clear q0 q1
  have p0 := boxk w3 w5 _ _ b45 0 _ rfl
  have p1 := boxk w3 w5 _ _ b45 1 _ rfl
  have lt5 : w3.heap.size < w5.heap.size := by have := b45.size; simp at this; omega
  have b5 := (b3.alloc b3.size _).trans (b45.mono (by have := b3.size; simp at this ⊢; omega))
  clear b3 b45
  go_wp2_with fail
  refine (CE.out _).mono ?_
  rintro e w6 ⟨rfl, b6⟩
  have b6 := (b5.alloc b5.size _).trans (b6.mono (by have := b5.size; simp at this ⊢; omega))
  clear b5
  go_wp2
  go_ret
  exact ⟨rfl, boxB _ _ _ b6⟩
set_option maxRecDepth 100000 in
set_option maxHeartbeats 800000 in
theorem FnExactSync_walk (a : Ar) (w : World) (hg : a.go) : Calls Try.prog 7 #[arA a] w fun e w' => e = .returned (.bool true) ∧ Below w.heap.size w w' := by
  have CS := Lib.hid (fun w => szArea_any a 1048576 w hg (by omega) (by omega))
  have CT := Lib.hid (fun w => toArea_any a w)
  have C1 := Lib.hid (fun w => sync_spec a w hg)
  have C2 := Lib.hid (fun w => sync_impl a w hg)
  clear hg
  generalize syncA a = R at C1 C2
  obtain ⟨d, z⟩ := R
  have CE := Lib.hid (fun w => eqArea_same ⟨d, z⟩ w)
  unfold arA at CS CT C1 C2
  unfold arA at CE
  unfold arA
  go_enter Try.func7, Try.ntmps7
  go_wp2_with fail
  refine (CS.out _).mono ?_
  rintro e w1 ⟨⟨r, rfl, hr⟩, b1⟩
  clear hr
  by_cases hr0 : r < 0
  · go_wp2
    go_ret
    exact ⟨rfl, boxB _ _ _ b1⟩
  have q0 := boxk w w1 _ _ b1 0 _ rfl
  have q1 := boxk w w1 _ _ b1 1 _ rfl
  go_wp2_with fail
  refine (CT.out _).mono ?_
  rintro e w2 ⟨rfl, b2⟩
  go_wp2_with fail
  refine (C1.out _).mono ?_
  rintro e w3 ⟨rfl, b3⟩
  have b3 := b1.trans ((b2.trans (b3.mono b2.size)).mono b1.size)
  clear b1 b2
  clear q0 q1
  have q0 := boxk w w3 _ _ b3 0 _ rfl
  have q1 := boxk w w3 _ _ b3 1 _ rfl
  have lt3 : w.heap.size < w3.heap.size := by have := b3.size; simp at this; omega
  go_wp2_with fail
  refine (CT.out _).mono ?_
  rintro e w4 ⟨rfl, b4⟩
  go_wp2_with fail
  refine (C2.out _).mono ?_
  rintro e w5 ⟨rfl, b5⟩
  have b45 := b4.trans (b5.mono b4.size)
  clear b4 b5
  clear q0 q1
  have p0 := boxk w3 w5 _ _ b45 0 _ rfl
  have p1 := boxk w3 w5 _ _ b45 1 _ rfl
  have lt5 : w3.heap.size < w5.heap.size := by have := b45.size; simp at this; omega
  have b5 := (b3.alloc b3.size _).trans (b45.mono (by have := b3.size; simp at this ⊢; omega))
  clear b3 b45
  go_wp2_with fail
  refine (CE.out _).mono ?_
  rintro e w6 ⟨rfl, b6⟩
  have b6 := (b5.alloc b5.size _).trans (b6.mono (by have := b5.size; simp at this ⊢; omega))
  clear b5
  go_wp2
  go_ret
  exact ⟨rfl, boxB _ _ _ b6⟩
set_option maxRecDepth 100000 in
set_option maxHeartbeats 800000 in
theorem FnExactShed_walk (a : Ar) (n : Int) (w : World) (hg : a.go) : Calls Try.prog 8 #[arA a, .int .i64 n] w fun e w' => e = .returned (.bool true) ∧ Below w.heap.size w w' := by
  have CS := Lib.hid (fun w => szArea_any a 1048576 w hg (by omega) (by omega))
  have CT := Lib.hid (fun w => toArea_any a w)
  have C1 := Lib.hid (fun w => shed_spec a n w hg)
  have C2 := Lib.hid (fun w => shed_impl a n w hg)
  clear hg
  generalize shedA a n = R at C1 C2
  obtain ⟨⟨d, z⟩, t⟩ := R
  simp only [abV] at C1 C2
  have nt : (t != t) = false := by simp
  have CE := Lib.hid (fun w => eqArea_same ⟨d, z⟩ w)
  unfold arA at CS CT C1 C2
  unfold arA at CE
  unfold arA
  go_enter Try.func8, Try.ntmps8
  go_wp2_with fail
  refine (CS.out _).mono ?_
  rintro e w1 ⟨⟨r, rfl, hr⟩, b1⟩
  clear hr
  by_cases hr0 : r < 0
  · go_wp2
    go_ret
    exact ⟨rfl, boxB _ _ _ b1⟩
  have q0 := boxk w w1 _ _ b1 0 _ rfl
  have q1 := boxk w w1 _ _ b1 1 _ rfl
  go_wp2_with fail
  refine (CT.out _).mono ?_
  rintro e w2 ⟨rfl, b2⟩
  go_wp2_with fail
  refine (C1.out _).mono ?_
  rintro e w3 ⟨rfl, b3⟩
  have b3 := b1.trans ((b2.trans (b3.mono b2.size)).mono b1.size)
  clear b1 b2
  clear q0 q1
  have q0 := boxk w w3 _ _ b3 0 _ rfl
  have q1 := boxk w w3 _ _ b3 1 _ rfl
  have lt3 : w.heap.size < w3.heap.size := by have := b3.size; simp at this; omega
  go_wp2_with fail
  refine (CT.out _).mono ?_
  rintro e w4 ⟨rfl, b4⟩
  go_wp2_with fail
  refine (C2.out _).mono ?_
  rintro e w5 ⟨rfl, b5⟩
  have b45 := b4.trans (b5.mono b4.size)
  clear b4 b5
  clear q0 q1
  have p0 := boxk w3 w5 _ _ b45 0 _ rfl
  have p1 := boxk w3 w5 _ _ b45 1 _ rfl
  have lt5 : w3.heap.size < w5.heap.size := by have := b45.size; simp at this; omega
  have b5 := (b3.alloc b3.size _).trans (b45.mono (by have := b3.size; simp at this ⊢; omega))
  clear b3 b45
  go_wp2_with fail
  refine (CE.out _).mono ?_
  rintro e w6 ⟨rfl, b6⟩
  have b6 := (b5.alloc b5.size _).trans (b6.mono (by have := b5.size; simp at this ⊢; omega))
  clear b5
  go_wp2
  go_ret
  exact ⟨rfl, boxB _ _ _ b6⟩
set_option maxRecDepth 100000 in
set_option maxHeartbeats 800000 in
theorem FnExactTrim_walk (a : Ar) (n : Int) (w : World) (hg : a.go) : Calls Try.prog 9 #[arA a, .int .i64 n] w fun e w' => e = .returned (.bool true) ∧ Below w.heap.size w w' := by
  have CS := Lib.hid (fun w => szArea_any a 1048576 w hg (by omega) (by omega))
  have CT := Lib.hid (fun w => toArea_any a w)
  have C1 := Lib.hid (fun w => trim_spec a n w hg)
  have C2 := Lib.hid (fun w => trim_impl a n w hg)
  clear hg
  generalize trimA a n = R at C1 C2
  obtain ⟨⟨d, z⟩, t⟩ := R
  simp only [abV] at C1 C2
  have nt : (t != t) = false := by simp
  have CE := Lib.hid (fun w => eqArea_same ⟨d, z⟩ w)
  unfold arA at CS CT C1 C2
  unfold arA at CE
  unfold arA
  go_enter Try.func9, Try.ntmps9
  go_wp2_with fail
  refine (CS.out _).mono ?_
  rintro e w1 ⟨⟨r, rfl, hr⟩, b1⟩
  clear hr
  by_cases hr0 : r < 0
  · go_wp2
    go_ret
    exact ⟨rfl, boxB _ _ _ b1⟩
  have q0 := boxk w w1 _ _ b1 0 _ rfl
  have q1 := boxk w w1 _ _ b1 1 _ rfl
  go_wp2_with fail
  refine (CT.out _).mono ?_
  rintro e w2 ⟨rfl, b2⟩
  go_wp2_with fail
  refine (C1.out _).mono ?_
  rintro e w3 ⟨rfl, b3⟩
  have b3 := b1.trans ((b2.trans (b3.mono b2.size)).mono b1.size)
  clear b1 b2
  clear q0 q1
  have q0 := boxk w w3 _ _ b3 0 _ rfl
  have q1 := boxk w w3 _ _ b3 1 _ rfl
  have lt3 : w.heap.size < w3.heap.size := by have := b3.size; simp at this; omega
  go_wp2_with fail
  refine (CT.out _).mono ?_
  rintro e w4 ⟨rfl, b4⟩
  go_wp2_with fail
  refine (C2.out _).mono ?_
  rintro e w5 ⟨rfl, b5⟩
  have b45 := b4.trans (b5.mono b4.size)
  clear b4 b5
  clear q0 q1
  have p0 := boxk w3 w5 _ _ b45 0 _ rfl
  have p1 := boxk w3 w5 _ _ b45 1 _ rfl
  have lt5 : w3.heap.size < w5.heap.size := by have := b45.size; simp at this; omega
  have b5 := (b3.alloc b3.size _).trans (b45.mono (by have := b3.size; simp at this ⊢; omega))
  clear b3 b45
  go_wp2_with fail
  refine (CE.out _).mono ?_
  rintro e w6 ⟨rfl, b6⟩
  have b6 := (b5.alloc b5.size _).trans (b6.mono (by have := b5.size; simp at this ⊢; omega))
  clear b5
  go_wp2
  go_ret
  exact ⟨rfl, boxB _ _ _ b6⟩
set_option maxRecDepth 100000 in
set_option maxHeartbeats 800000 in
theorem FnExactStoreOk_walk (s : St) (w : World) (hg : s.go) : Calls Try.prog 10 #[stA s] w fun e w' => e = .returned (.bool true) ∧ Below w.heap.size w w' := by
  have CS := Lib.hid (fun w => szStore_any s 1048576 w hg (by omega) (by omega))
  have CT := Lib.hid (fun w => toStore_any s w)
  have C1 := Lib.hid (fun w => storeOk_spec s w hg)
  have C2 := Lib.hid (fun w => storeOk_impl s w hg)
  clear hg
  generalize decide s.fine = R at C1 C2
  have nt : (R != R) = false := by simp
  unfold stA at CS CT C1 C2
  unfold stA
  go_enter Try.func10, Try.ntmps10
  go_wp2_with fail
  refine (CS.out _).mono ?_
  rintro e w1 ⟨⟨r, rfl, hr⟩, b1⟩
  clear hr
  by_cases hr0 : r < 0
  · go_wp2
    go_ret
    exact ⟨rfl, boxB _ _ _ b1⟩
  have q0 := boxk w w1 _ _ b1 0 _ rfl
  have q1 := boxk w w1 _ _ b1 1 _ rfl
  have q2 := boxk w w1 _ _ b1 2 _ rfl
  have q3 := boxk w w1 _ _ b1 3 _ rfl
  have q4 := boxk w w1 _ _ b1 4 _ rfl
  have q5 := boxk w w1 _ _ b1 5 _ rfl
  go_wp2_with fail
  refine (CT.out _).mono ?_
  rintro e w2 ⟨rfl, b2⟩
  go_wp2_with fail
  refine (C1.out _).mono ?_
  rintro e w3 ⟨rfl, b3⟩
  have b3 := b1.trans ((b2.trans (b3.mono b2.size)).mono b1.size)
  clear b1 b2
  clear q0 q1 q2 q3 q4 q5
  have q0 := boxk w w3 _ _ b3 0 _ rfl
  have q1 := boxk w w3 _ _ b3 1 _ rfl
  have q2 := boxk w w3 _ _ b3 2 _ rfl
  have q3 := boxk w w3 _ _ b3 3 _ rfl
  have q4 := boxk w w3 _ _ b3 4 _ rfl
  have q5 := boxk w w3 _ _ b3 5 _ rfl
  go_wp2_with fail
  refine (CT.out _).mono ?_
  rintro e w4 ⟨rfl, b4⟩
  go_wp2_with fail
  refine (C2.out _).mono ?_
  rintro e w5 ⟨rfl, b5⟩
  have b5 := b3.trans ((b4.trans (b5.mono b4.size)).mono b3.size)
  clear b3 b4
  clear q0 q1 q2 q3 q4 q5
  go_wp2
  go_ret
  exact ⟨rfl, boxB _ _ _ b5⟩
set_option maxRecDepth 100000 in
set_option maxHeartbeats 800000 in
theorem FnExactSlotOf_walk (s : St) (n : Int) (w : World) (hg : s.go) : Calls Try.prog 11 #[stA s, .int .i64 n] w fun e w' => e = .returned (.bool true) ∧ Below w.heap.size w w' := by
  have CS := Lib.hid (fun w => szStore_any s 1048576 w hg (by omega) (by omega))
  have CT := Lib.hid (fun w => toStore_any s w)
  have C1 := Lib.hid (fun w => slotOf_spec s n w )
  have C2 := Lib.hid (fun w => slotOf_impl s n w )
  clear hg
  generalize slotS s n = R at C1 C2
  obtain ⟨d, z⟩ := R
  have CE := Lib.hid (fun w => eqArea_same ⟨d, z⟩ w)
  unfold stA at CS CT C1 C2
  unfold arA at CE C1 C2
  unfold stA
  go_enter Try.func11, Try.ntmps11
  go_wp2_with fail
  refine (CS.out _).mono ?_
  rintro e w1 ⟨⟨r, rfl, hr⟩, b1⟩
  clear hr
  by_cases hr0 : r < 0
  · go_wp2
    go_ret
    exact ⟨rfl, boxB _ _ _ b1⟩
  have q0 := boxk w w1 _ _ b1 0 _ rfl
  have q1 := boxk w w1 _ _ b1 1 _ rfl
  have q2 := boxk w w1 _ _ b1 2 _ rfl
  have q3 := boxk w w1 _ _ b1 3 _ rfl
  have q4 := boxk w w1 _ _ b1 4 _ rfl
  have q5 := boxk w w1 _ _ b1 5 _ rfl
  go_wp2_with fail
  refine (CT.out _).mono ?_
  rintro e w2 ⟨rfl, b2⟩
  go_wp2_with fail
  refine (C1.out _).mono ?_
  rintro e w3 ⟨rfl, b3⟩
  have b3 := b1.trans ((b2.trans (b3.mono b2.size)).mono b1.size)
  clear b1 b2
  clear q0 q1 q2 q3 q4 q5
  have q0 := boxk w w3 _ _ b3 0 _ rfl
  have q1 := boxk w w3 _ _ b3 1 _ rfl
  have q2 := boxk w w3 _ _ b3 2 _ rfl
  have q3 := boxk w w3 _ _ b3 3 _ rfl
  have q4 := boxk w w3 _ _ b3 4 _ rfl
  have q5 := boxk w w3 _ _ b3 5 _ rfl
  have lt3 : w.heap.size < w3.heap.size := by have := b3.size; simp at this; omega
  go_wp2_with fail
  refine (CT.out _).mono ?_
  rintro e w4 ⟨rfl, b4⟩
  go_wp2_with fail
  refine (C2.out _).mono ?_
  rintro e w5 ⟨rfl, b5⟩
  have b45 := b4.trans (b5.mono b4.size)
  clear b4 b5
  clear q0 q1 q2 q3 q4 q5
  have p0 := boxk w3 w5 _ _ b45 0 _ rfl
  have p1 := boxk w3 w5 _ _ b45 1 _ rfl
  have lt5 : w3.heap.size < w5.heap.size := by have := b45.size; simp at this; omega
  have b5 := (b3.alloc b3.size _).trans (b45.mono (by have := b3.size; simp at this ⊢; omega))
  clear b3 b45
  go_wp2_with fail
  refine (CE.out _).mono ?_
  rintro e w6 ⟨rfl, b6⟩
  have b6 := (b5.alloc b5.size _).trans (b6.mono (by have := b5.size; simp at this ⊢; omega))
  clear b5
  go_wp2
  go_ret
  exact ⟨rfl, boxB _ _ _ b6⟩
set_option maxRecDepth 100000 in
set_option maxHeartbeats 800000 in
theorem FnExactStoreLen_walk (s : St) (w : World) (hg : s.go) : Calls Try.prog 13 #[stA s] w fun e w' => e = .returned (.bool true) ∧ Below w.heap.size w w' := by
  have CS := Lib.hid (fun w => szStore_any s 1048576 w hg (by omega) (by omega))
  have CT := Lib.hid (fun w => toStore_any s w)
  clear hg
  obtain ⟨R, hR⟩ : ∃ R : Nat, s.log.data.size + s.even.data.size + s.odd.data.size = R := ⟨_, rfl⟩
  have C1 := Lib.hid (fun w => storeLen_spec s w)
  have C2 := Lib.hid (fun w => storeLen_impl s w)
  simp only [hR] at C1 C2
  have HR := Lib.hid hR
  clear hR
  have nt : ((R : Int) != (R : Int)) = false := by simp
  unfold stA at CS CT C1 C2
  unfold stA
  go_enter Try.func13, Try.ntmps13
  go_wp2_with fail
  refine (CS.out _).mono ?_
  rintro e w1 ⟨⟨r, rfl, hr⟩, b1⟩
  by_cases hr0 : r < 0
  · go_wp2
    go_ret
    exact ⟨rfl, boxB _ _ _ b1⟩
  have hle : R ≤ 9223372036854775807 := by have := hr (by omega); have := HR.out; omega
  clear hr
  have q0 := boxk w w1 _ _ b1 0 _ rfl
  have q1 := boxk w w1 _ _ b1 1 _ rfl
  have q2 := boxk w w1 _ _ b1 2 _ rfl
  have q3 := boxk w w1 _ _ b1 3 _ rfl
  have q4 := boxk w w1 _ _ b1 4 _ rfl
  have q5 := boxk w w1 _ _ b1 5 _ rfl
  go_wp2_with fail
  refine (CT.out _).mono ?_
  rintro e w2 ⟨rfl, b2⟩
  go_wp2_with fail
  refine (C1.out _ hle).mono ?_
  rintro e w3 ⟨rfl, b3⟩
  have b3 := b1.trans ((b2.trans (b3.mono b2.size)).mono b1.size)
  clear b1 b2
  clear q0 q1 q2 q3 q4 q5
  have q0 := boxk w w3 _ _ b3 0 _ rfl
  have q1 := boxk w w3 _ _ b3 1 _ rfl
  have q2 := boxk w w3 _ _ b3 2 _ rfl
  have q3 := boxk w w3 _ _ b3 3 _ rfl
  have q4 := boxk w w3 _ _ b3 4 _ rfl
  have q5 := boxk w w3 _ _ b3 5 _ rfl
  go_wp2_with fail
  refine (CT.out _).mono ?_
  rintro e w4 ⟨rfl, b4⟩
  go_wp2_with fail
  refine (C2.out _ hle).mono ?_
  rintro e w5 ⟨rfl, b5⟩
  have b5 := b3.trans ((b4.trans (b5.mono b4.size)).mono b3.size)
  clear b3 b4
  clear q0 q1 q2 q3 q4 q5
  go_wp2
  go_ret
  exact ⟨rfl, boxB _ _ _ b5⟩
end Go.Proofs.Ythkfbgamkffjeaa
