/- The walks of the laws over FrameOf and FrameAt. -/
import Derived.Test.YtelpeoaffgafgaaRows
import Derived.Test.YtelpeoaffgafgaaFrAs
namespace Go.Proofs.Ytelpeoaffgafgaa
open Go.RowKit
set_option maxRecDepth 100000 in
theorem eqFrame_same (x z : Int) (s : ByteArray) (w : World) :
    Calls Try.prog 24 #[.agg #[.int .i64 x, .string s, .int .i64 z], .agg #[.int .i64 x, .string s, .int .i64 z]] w fun e w' => e = .returned (.bool true) ∧ Below w.heap.size w w' := by
  have h1 : (x != x) = false := by simp
  have h2 : (z != z) = false := by simp
  have h3 : (s.toList == s.toList) = true := by simp
  go_enter Try.func24, Try.ntmps24
  go_wp2
  go_ret
  exact ⟨rfl, ((Below.refl _ _).alloc (Nat.le_refl _) _).alloc (by simp) _⟩
set_option maxRecDepth 100000 in
theorem FnExactFrameOf_walk (seq : Int) (s : ByteArray) (w : World) (hm : s.size ≤ maxLen) :
    Calls Try.prog 5 #[.int .i64 seq, .string s] w fun e w' => e = .returned (.bool true) ∧ Below w.heap.size w w' := by
  unfold maxLen at hm
  by_cases hbig : 1048576 < s.size
  · go_enter Try.func5, Try.ntmps5
    go_wp2
    go_ret
    exact ⟨rfl, Below.refl _ _⟩
  have hle : s.size ≤ 2097152 := by omega
  have C1 := Lib.hid (fun w => frameOf_spec seq s w hle)
  have C2 := Lib.hid (fun w => frameOf_impl seq s w hle)
  generalize strB (fOf seq (strN s)) = F at *
  have h3 : (F.toList == F.toList) = true := by simp
  go_enter Try.func5, Try.ntmps5
  go_wp2_with fail
  refine (C1.out _).mono ?_
  rintro e w1 ⟨rfl, b1⟩
  go_wp2_with fail
  refine (C2.out _).mono ?_
  rintro e w2 ⟨rfl, b2⟩
  go_wp2
  go_ret
  exact ⟨rfl, b1.trans (b2.mono b1.size)⟩
theorem frV_form (o : Option (Nat × List Nat × Nat)) (a : Nat) : ∃ (x z : Int) (s : ByteArray) (t : Bool), frV o a = .tuple #[.agg #[.int .i64 x, .string s, .int .i64 z], .bool t] := by
  rcases o with _ | ⟨seq, b, sz⟩
  · exact ⟨0, 0, _, false, rfl⟩
  · exact ⟨_, _, _, true, rfl⟩
set_option maxRecDepth 100000 in
theorem FnExactFrameAt_walk (s : ByteArray) (at_ : Int) (w : World) (hm : s.size ≤ maxLen) :
    Calls Try.prog 6 #[.string s, .int .i64 at_] w fun e w' => e = .returned (.bool true) ∧ Below w.heap.size w w' := by
  unfold maxLen at hm
  by_cases hbig : 1048576 < s.size
  · go_enter Try.func6, Try.ntmps6
    go_wp2
    go_ret
    exact ⟨rfl, Below.refl _ _⟩
  have hle : s.size ≤ 2097152 := by omega
  have C1 := Lib.hid (fun w => frameAt_spec s at_ w hle)
  have C2 := Lib.hid (fun w => frameAt_impl s at_ w hle)
  obtain ⟨x, z, b, t, hV⟩ := frV_form (fAt (strN s) at_) at_.toNat
  rw [hV] at C1 C2
  clear hV
  have n3 : (t != t) = false := by simp
  go_enter Try.func6, Try.ntmps6
  go_wp2_with fail
  refine (C1.out _).mono ?_
  rintro e w1 ⟨rfl, b1⟩
  go_wp2_with fail
  refine (C2.out _).mono ?_
  rintro e w2 ⟨rfl, b2⟩
  obtain ⟨⟨q0, q1, q2⟩, z0, z1, z2⟩ := box3 w1 w2 _ _ _ _ b2
  have hlt : w1.heap.size < w2.heap.size := by have := b2.size; simp at this; omega
  have b12 : Below w.heap.size w w2 := (b1.alloc b1.size _).trans (b2.mono (by have := b1.size; simp; omega))
  go_wp2_with fail
  refine (eqFrame_same x z b _).mono ?_
  rintro e w3 ⟨rfl, b3⟩
  go_wp2
  go_ret
  have b4 := b12.alloc b12.size (.cells #[.int .i64 x, .string b, .int .i64 z] 38)
  exact ⟨rfl, b4.trans (b3.mono b4.size)⟩
end Go.Proofs.Ytelpeoaffgafgaa
