/- The walk of the law FnExactAfter. -/
import Derived.Test.YtelpeoaffgafgaaRows
import Derived.Test.YtelpeoaffgafgaaAftL
namespace Go.Proofs.Ytelpeoaffgafgaa
open Go.RowKit
/-- What is owned from B on stays where a row below B is written. -/
theorem own_apart {w w' : World} {e sz n B : Nat} {v : Value} {cs : List Value} {row : Option Nat} (h : w.ownsRow B e sz v n cs) (g : w.grownBy w' row) (hr : ∀ k, row = some k → k < B) : w'.ownsRow B e sz v n cs := by
  refine h.kept g ?_
  rcases hv : v.ownBlock with _ | k
  · exact .inl rfl
  · refine .inr fun e => ?_
    have h1 := (World.ownsRow.lt h k hv).1
    have h2 := hr k e.symm
    omega
theorem own_block_lt {w : World} {base e sz n : Nat} {v : Value} {cs : List Value} (h : w.ownsRow base e sz v n cs) : ∀ k, v.ownBlock = some k → k < w.heap.size := fun k hk => (World.ownsRow.lt h k hk).2
set_option maxRecDepth 100000 in
set_option maxHeartbeats 1600000 in
theorem FnExactAfter_walk (A : Option Addr) (l : List Fr) (c : Nat) (seq : Int) (w : World) (hl : l.length ≤ 9223372036854775807) (hA : Rws w w.heap.size A (l.flatMap frC)) (hwf : FrWf l) (hsz : FrSz l) (h1 : -9223372036854775808 ≤ seq) (h2 : seq ≤ 9223372036854775807) :
    Calls Try.prog 10 #[.slice A l.length c, .int .i64 seq] w fun e w' => e = .returned (.bool true) ∧ Below w.heap.size w w' := by
  have CS := Lib.hid (szFrS_any A l c w hl hA hsz)
  by_cases hbig : 1048576 < l.length
  · go_enter Try.func10, Try.ntmps10
    go_wp2_with fail
    refine CS.out.mono ?_
    rintro e w1 ⟨⟨r, rfl, hr⟩, b1⟩
    have hr0 : r < 0 := by
      rcases Int.lt_or_le r 0 with h | h
      · exact h
      · have := hr h; omega
    clear hr
    go_wp2
    go_ret
    exact ⟨rfl, b1⟩
  have hle : l.length ≤ 2097152 := by omega
  have CT := Lib.hid (fun A c w h => toFrS_any A l c w hle h)
  have CI := Lib.hid (fun A c w h => after_impl A l c seq w hle h hwf h1 h2)
  have CP := Lib.hid (fun A c w h => after_spec A l c seq w hle h hwf h1 h2)
  have hal := afterOf_len l seq
  generalize afterOf l seq = a at *
  have hale : a.length ≤ 2097152 := by omega
  have hq1 : decide (((1 + a.length * 3 : Nat) : Int) < 0) = false := by simp; omega
  have hq2 : (((1 + a.length * 3 : Nat) : Int) != ((1 + a.length * 3 : Nat) : Int)) = false := by simp
  have hq3 : decide (((1 + l.length * 3 : Nat) : Int) < 0) = false := by simp; omega
  generalize hqq : 1 + a.length * 3 = qq at hq1 hq2
  generalize hqr : 1 + l.length * 3 = qr at hq3
  have HQ := Lib.hid hqq
  have HQR := Lib.hid hqr
  clear hqq hqr
  go_enter Try.func10, Try.ntmps10
  go_wp2_with fail
  refine CS.out.mono ?_
  rintro e w1 ⟨⟨r, rfl, hr⟩, b1⟩
  clear hr
  by_cases hr : r < 0
  · go_wp2
    go_ret
    exact ⟨rfl, b1⟩
  go_wp2_with fail
  refine (CT.out A c _ ((hA.below b1).more b1.size)).mono ?_
  rintro e w2 ⟨X, x, rfl, ox, b2⟩
  have B2 : Below w.heap.size w w2 := b1.trans (b2.mono b1.size)
  go_wp2_with fail
  refine (CP.out X x _ (own_rws ox)).mono ?_
  rintro e w3 ⟨W, y, rfl, ow, b3⟩
  have B3 : Below w.heap.size w w3 := B2.trans (b3.mono B2.size)
  clear ox b2 b3
  go_wp2_with fail
  refine (CT.out A c _ ((hA.below B3).more B3.size)).mono ?_
  rintro e w4 ⟨X0, x0, rfl, o0, b4⟩
  have B4 : Below w.heap.size w w4 := B3.trans (b4.mono B3.size)
  go_wp2_with fail
  refine (CI.out X0 x0 _ (own_rws o0)).mono ?_
  rintro e w5 ⟨G, g, rfl, og, b5⟩
  have B5 : Below w.heap.size w w5 := B4.trans (b5.mono B4.size)
  have ow5 := own_below (own_below ow b4) b5
  have o05 := own_below o0 b5
  go_wp2_with fail
  refine (eqFrS_same G W a g y _ hale (own_rws og) (own_rws ow5)).mono ?_
  rintro e w6 ⟨rfl, b6⟩
  have B6 : Below w.heap.size w w6 := B5.trans (b6.mono B5.size)
  go_wp2_with fail
  refine (CT.out A c _ ((hA.below B6).more B6.size)).mono ?_
  rintro e w7 ⟨Y, yy, rfl, oy, b7⟩
  have B7 : Below w.heap.size w w7 := B6.trans (b7.mono B6.size)
  have o07 := own_below (own_below o05 b6) b7
  go_wp2_with fail
  refine (eqFrS_same X0 Y l x0 yy _ hle (own_rws o07) (own_rws oy)).mono ?_
  rintro e w8 ⟨rfl, b8⟩
  have B8 : Below w.heap.size w w8 := B7.trans (b8.mono B7.size)
  have o08 := own_below o07 b8
  have og8 := own_below (own_below (own_below og b6) b7) b8
  have ow8 := own_below (own_below (own_below ow5 b6) b7) b8
  clear oy o05 ow5 o07 b6 b7 b8
  have hX := own_block_lt o0
  go_wp2_with fail
  refine (markFrS_any X0 l 1 x0 _ _ hle (by omega) o08).mono ?_
  rintro e w9 ⟨rfl, o09, g9⟩
  rw [HQR.out]
  have B9 : Below w.heap.size w w9 := B8.grown g9 B8.size (fun k hk => Nat.le_trans B3.size (own_low o08 k hk))
  have og9 := own_apart og8 g9 hX
  have ow9 : w9.ownsRow w2.heap.size 38 3 (.slice W a.length y) a.length (a.flatMap frC) := ow8.kept g9 (by
    rcases hv : Value.ownBlock (.slice W a.length y) with _ | k
    · exact .inl rfl
    · refine .inr fun e => ?_
      have h1 := own_block_lt ow k hv
      have h2 := own_low o08 k e.symm
      omega)
  clear og8 ow8 o08 o09 g9
  go_wp2_with fail
  refine (eqFrS_same G W a g y _ hale (own_rws og9) (own_rws ow9)).mono ?_
  rintro e w10 ⟨rfl, b10⟩
  have B10 : Below w.heap.size w w10 := B9.trans (b10.mono B9.size)
  have og10 := own_below og9 b10
  have ow10 := own_below ow9 b10
  clear og9 ow9 b10
  go_wp2_with fail
  refine (markFrS_any G a 1 g _ _ hale (by omega) og10).mono ?_
  rintro e w11 ⟨rfl, og11, g11⟩
  rw [HQ.out]
  have B11 : Below w.heap.size w w11 := B10.grown g11 B10.size (fun k hk => Nat.le_trans B4.size (own_low og10 k hk))
  have ow11 : w11.ownsRow w2.heap.size 38 3 (.slice W a.length y) a.length (a.flatMap frC) := ow10.kept g11 (by
    rcases hv : Value.ownBlock (.slice W a.length y) with _ | k
    · exact .inl rfl
    · refine .inr fun e => ?_
      have h1 := own_block_lt ow k hv
      have h2 := own_low og10 k e.symm
      have h3 := b4.size
      omega)
  clear ow10 og10 g11
  go_wp2_with fail
  refine (heldFrS_any G 1 a.length g _ hale (by omega) (own_rws og11)).mono ?_
  rintro e w12 ⟨rfl, b12⟩
  rw [HQ.out]
  have B12 : Below w.heap.size w w12 := B11.trans (b12.mono B11.size)
  have og12 := own_below og11 b12
  have ow12 := own_below ow11 b12
  clear og11 ow11 b12
  go_wp2_with fail
  refine (CT.out A c _ ((hA.below B12).more B12.size)).mono ?_
  rintro e w13 ⟨Z, z, rfl, oz, b13⟩
  have B13 : Below w.heap.size w w13 := B12.trans (b13.mono B12.size)
  go_wp2_with fail
  refine (CI.out Z z _ (own_rws oz)).mono ?_
  rintro e w14 ⟨V, v, rfl, ov, b14⟩
  have B14 : Below w.heap.size w w14 := B13.trans (b14.mono B13.size)
  have ow14 := own_below (own_below ow12 b13) b14
  have og14 := own_below (own_below og12 b13) b14
  clear ow12 og12 b13 b14 oz
  go_wp2_with fail
  refine (eqFrS_same V W a v y _ hale (own_rws ov) (own_rws ow14)).mono ?_
  rintro e w15 ⟨rfl, b15⟩
  have B15 : Below w.heap.size w w15 := B14.trans (b15.mono B14.size)
  have og15 := own_below og14 b15
  go_wp2_with fail
  refine (heldFrS_any G 1 a.length g _ hale (by omega) (own_rws og15)).mono ?_
  rintro e w16 ⟨rfl, b16⟩
  rw [HQ.out]
  have B16 : Below w.heap.size w w16 := B15.trans (b16.mono B15.size)
  clear og14 og15 b15 b16 ow14 ov
  go_wp2
  go_ret
  exact ⟨rfl, B16⟩
end Go.Proofs.Ytelpeoaffgafgaa
