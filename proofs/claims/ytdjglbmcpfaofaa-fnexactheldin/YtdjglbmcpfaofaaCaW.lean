/- The walks of the exact laws over parties of a cabin. -/
import Derived.Test.YtdjglbmcpfaofaaRows
import Derived.Test.YtdjglbmcpfaofaaCaI
import Derived.Test.YtdjglbmcpfaofaaPnL
namespace Go.Proofs.Ytdjglbmcpfaofaa
open Go.RowKit
set_option linter.unusedSimpArgs false
set_option linter.unusedVariables false
set_option maxRecDepth 100000 in
set_option maxHeartbeats 6400000 in
theorem FnExactHeldIn_walk (A : Option Addr) (l : List Pt) (c : Nat) (cabin : Int) (w : World) (hl0 : l.length ≤ 9223372036854775807) (hA : Rws w w.heap.size A (l.flatMap ptC)) (hf : ∀ f ∈ l, f.fits) (hc : inI cabin) :
    Calls Try.prog 6 #[.slice A l.length c, .int .i64 cabin] w fun e w' => e = .returned (.bool true) ∧ Below w.heap.size w w' := by
  have CS := Lib.hid (fun w => szPartyS_any A l.length c 1048576 w hl0 (by omega) (by omega))
  by_cases hbig : 1048576 < l.length
  · go_enter Try.func6, Try.ntmps6
    go_wp2_with fail
    refine (CS.out _).mono ?_
    rintro e w1 ⟨⟨r, rfl, _, _, hr⟩, b1⟩
    have hr0 : r < 0 := by
      rcases Int.lt_or_le r 0 with h | h
      · exact h
      · have := hr h; omega
    clear hr
    go_wp2
    go_ret
    exact ⟨rfl, b1⟩
  have hl : l.length ≤ 2097152 := by omega
  have CT := Lib.hid (fun w h => toPartyS_any A l c w hl h)
  have CE := Lib.hid (fun X Y xc yc w h h' => eqPartyS_same X Y l xc yc w hl h h')
  have C1 := Lib.hid (fun X xc w h => held_spec X l xc cabin w hl h)
  have C2 := Lib.hid (fun X xc w h => heldIn_impl X l xc cabin w hl h hf hc)
  obtain ⟨R, hR⟩ : ∃ R, heldV l cabin = R := ⟨_, rfl⟩
  rw [hR] at C1 C2
  have nB : (R != R) = false := by simp
  clear hR hf hc
  have bW := Below.refl w.heap.size w
  go_enter Try.func6, Try.ntmps6
  go_wp2_with fail
  refine (CS.out _).mono ?_
  rintro e w0 ⟨⟨rr, rfl, _, _, hr⟩, b0⟩
  clear hr
  by_cases hr0 : rr < 0
  · go_wp2
    go_ret
    exact ⟨rfl, b0⟩
  have bW := bW.trans (b0.mono bW.size)
  have Z0 := b0.size
  clear b0
  go_wp2_with fail
  refine (CT.out _ (rws_below hA bW)).mono ?_
  rintro e w1 ⟨P, pc, rfl, oP, x1⟩
  have Z1 := x1.size
  try simp only [World.size_alloc] at Z1
  have bW := bW.trans (x1.mono bW.size)
  clear x1
  have oP_hi := own_block_lt oP
  try simp only [World.size_alloc] at oP
  go_wp2_with fail
  refine (C1.out P pc _ (own_rws oP)).mono ?_
  rintro e w' ⟨rfl, rfl⟩
  clear oP
  clear oP_hi
  go_wp2_with fail
  refine (CT.out _ (rws_below hA bW)).mono ?_
  rintro e w3 ⟨X, xc, rfl, oX, x3⟩
  have Z3 := x3.size
  try simp only [World.size_alloc] at Z3
  have bW := bW.trans (x3.mono bW.size)
  clear x3
  have oX_hi := own_block_lt oX
  try simp only [World.size_alloc] at oX
  go_wp2_with fail
  refine (C2.out X xc _ (own_rws oX)).mono ?_
  rintro e w4 ⟨rfl, x4⟩
  have Z4 := x4.size
  try simp only [World.size_alloc] at Z4
  have oX := own_below oX x4
  have bW := bW.trans (x4.mono bW.size)
  clear x4
  go_wp2_with fail
  refine (CT.out _ (rws_below hA bW)).mono ?_
  rintro e w5 ⟨Y, yc, rfl, oY, x5⟩
  have Z5 := x5.size
  try simp only [World.size_alloc] at Z5
  have oX := own_below oX x5
  have bW := bW.trans (x5.mono bW.size)
  clear x5
  have oY_hi := own_block_lt oY
  try simp only [World.size_alloc] at oY
  go_wp2_with fail
  refine (CE.out X Y xc yc _ (own_rws oX) (own_rws oY)).mono ?_
  rintro e w6 ⟨rfl, x6⟩
  have Z6 := x6.size
  try simp only [World.size_alloc] at Z6
  have oX := own_below oX x6
  have oY := own_below oY x6
  have bW := bW.trans (x6.mono bW.size)
  clear x6
  have HB := Lib.hid bW
  clear bW oX oY
  go_wp2
  go_ret
  exact ⟨rfl, HB.out⟩
set_option maxRecDepth 100000 in
set_option maxHeartbeats 6400000 in
theorem FnExactTiedIn_walk (A : Option Addr) (l : List Pt) (c : Nat) (cabin : Int) (w : World) (hl0 : l.length ≤ 9223372036854775807) (hA : Rws w w.heap.size A (l.flatMap ptC)) (hf : ∀ f ∈ l, f.fits) (hc : inI cabin) :
    Calls Try.prog 7 #[.slice A l.length c, .int .i64 cabin] w fun e w' => e = .returned (.bool true) ∧ Below w.heap.size w w' := by
  have CS := Lib.hid (fun w => szPartyS_any A l.length c 1048576 w hl0 (by omega) (by omega))
  by_cases hbig : 1048576 < l.length
  · go_enter Try.func7, Try.ntmps7
    go_wp2_with fail
    refine (CS.out _).mono ?_
    rintro e w1 ⟨⟨r, rfl, _, _, hr⟩, b1⟩
    have hr0 : r < 0 := by
      rcases Int.lt_or_le r 0 with h | h
      · exact h
      · have := hr h; omega
    clear hr
    go_wp2
    go_ret
    exact ⟨rfl, b1⟩
  have hl : l.length ≤ 2097152 := by omega
  have CT := Lib.hid (fun w h => toPartyS_any A l c w hl h)
  have CE := Lib.hid (fun X Y xc yc w h h' => eqPartyS_same X Y l xc yc w hl h h')
  have C1 := Lib.hid (fun X xc w h => tied_spec X l xc cabin w hl h)
  have C2 := Lib.hid (fun X xc w h => tiedIn_impl X l xc cabin w hl h hf hc)
  obtain ⟨R, hR⟩ : ∃ R, tiedV l cabin = R := ⟨_, rfl⟩
  rw [hR] at C1 C2
  have nB : (R != R) = false := by simp
  clear hR hf hc
  have bW := Below.refl w.heap.size w
  go_enter Try.func7, Try.ntmps7
  go_wp2_with fail
  refine (CS.out _).mono ?_
  rintro e w0 ⟨⟨rr, rfl, _, _, hr⟩, b0⟩
  clear hr
  by_cases hr0 : rr < 0
  · go_wp2
    go_ret
    exact ⟨rfl, b0⟩
  have bW := bW.trans (b0.mono bW.size)
  have Z0 := b0.size
  clear b0
  go_wp2_with fail
  refine (CT.out _ (rws_below hA bW)).mono ?_
  rintro e w1 ⟨P, pc, rfl, oP, x1⟩
  have Z1 := x1.size
  try simp only [World.size_alloc] at Z1
  have bW := bW.trans (x1.mono bW.size)
  clear x1
  have oP_hi := own_block_lt oP
  try simp only [World.size_alloc] at oP
  go_wp2_with fail
  refine (C1.out P pc _ (own_rws oP)).mono ?_
  rintro e w' ⟨rfl, rfl⟩
  clear oP
  clear oP_hi
  go_wp2_with fail
  refine (CT.out _ (rws_below hA bW)).mono ?_
  rintro e w3 ⟨X, xc, rfl, oX, x3⟩
  have Z3 := x3.size
  try simp only [World.size_alloc] at Z3
  have bW := bW.trans (x3.mono bW.size)
  clear x3
  have oX_hi := own_block_lt oX
  try simp only [World.size_alloc] at oX
  go_wp2_with fail
  refine (C2.out X xc _ (own_rws oX)).mono ?_
  rintro e w4 ⟨rfl, x4⟩
  have Z4 := x4.size
  try simp only [World.size_alloc] at Z4
  have oX := own_below oX x4
  have bW := bW.trans (x4.mono bW.size)
  clear x4
  go_wp2_with fail
  refine (CT.out _ (rws_below hA bW)).mono ?_
  rintro e w5 ⟨Y, yc, rfl, oY, x5⟩
  have Z5 := x5.size
  try simp only [World.size_alloc] at Z5
  have oX := own_below oX x5
  have bW := bW.trans (x5.mono bW.size)
  clear x5
  have oY_hi := own_block_lt oY
  try simp only [World.size_alloc] at oY
  go_wp2_with fail
  refine (CE.out X Y xc yc _ (own_rws oX) (own_rws oY)).mono ?_
  rintro e w6 ⟨rfl, x6⟩
  have Z6 := x6.size
  try simp only [World.size_alloc] at Z6
  have oX := own_below oX x6
  have oY := own_below oY x6
  have bW := bW.trans (x6.mono bW.size)
  clear x6
  have HB := Lib.hid bW
  clear bW oX oY
  go_wp2
  go_ret
  exact ⟨rfl, HB.out⟩
set_option maxRecDepth 100000 in
set_option maxHeartbeats 6400000 in
theorem FnExactCountIn_walk (A : Option Addr) (l : List Pt) (c : Nat) (cabin : Int) (w : World) (hl0 : l.length ≤ 9223372036854775807) (hA : Rws w w.heap.size A (l.flatMap ptC)) (hf : ∀ f ∈ l, f.fits) (hc : inI cabin) :
    Calls Try.prog 8 #[.slice A l.length c, .int .i64 cabin] w fun e w' => e = .returned (.bool true) ∧ Below w.heap.size w w' := by
  have CS := Lib.hid (fun w => szPartyS_any A l.length c 1048576 w hl0 (by omega) (by omega))
  by_cases hbig : 1048576 < l.length
  · go_enter Try.func8, Try.ntmps8
    go_wp2_with fail
    refine (CS.out _).mono ?_
    rintro e w1 ⟨⟨r, rfl, _, _, hr⟩, b1⟩
    have hr0 : r < 0 := by
      rcases Int.lt_or_le r 0 with h | h
      · exact h
      · have := hr h; omega
    clear hr
    go_wp2
    go_ret
    exact ⟨rfl, b1⟩
  have hl : l.length ≤ 2097152 := by omega
  have CT := Lib.hid (fun w h => toPartyS_any A l c w hl h)
  have CE := Lib.hid (fun X Y xc yc w h h' => eqPartyS_same X Y l xc yc w hl h h')
  have C1 := Lib.hid (fun X xc w h => count_spec X l xc cabin w hl h)
  have C2 := Lib.hid (fun X xc w h => countIn_impl X l xc cabin w hl h hf hc)
  obtain ⟨R, hR⟩ : ∃ R, countV l cabin = R := ⟨_, rfl⟩
  rw [hR] at C1 C2
  have nB : (R != R) = false := by simp
  clear hR hf hc
  have bW := Below.refl w.heap.size w
  go_enter Try.func8, Try.ntmps8
  go_wp2_with fail
  refine (CS.out _).mono ?_
  rintro e w0 ⟨⟨rr, rfl, _, _, hr⟩, b0⟩
  clear hr
  by_cases hr0 : rr < 0
  · go_wp2
    go_ret
    exact ⟨rfl, b0⟩
  have bW := bW.trans (b0.mono bW.size)
  have Z0 := b0.size
  clear b0
  go_wp2_with fail
  refine (CT.out _ (rws_below hA bW)).mono ?_
  rintro e w1 ⟨P, pc, rfl, oP, x1⟩
  have Z1 := x1.size
  try simp only [World.size_alloc] at Z1
  have bW := bW.trans (x1.mono bW.size)
  clear x1
  have oP_hi := own_block_lt oP
  try simp only [World.size_alloc] at oP
  go_wp2_with fail
  refine (C1.out P pc _ (own_rws oP)).mono ?_
  rintro e w' ⟨rfl, rfl⟩
  clear oP
  clear oP_hi
  go_wp2_with fail
  refine (CT.out _ (rws_below hA bW)).mono ?_
  rintro e w3 ⟨X, xc, rfl, oX, x3⟩
  have Z3 := x3.size
  try simp only [World.size_alloc] at Z3
  have bW := bW.trans (x3.mono bW.size)
  clear x3
  have oX_hi := own_block_lt oX
  try simp only [World.size_alloc] at oX
  go_wp2_with fail
  refine (C2.out X xc _ (own_rws oX)).mono ?_
  rintro e w4 ⟨rfl, x4⟩
  have Z4 := x4.size
  try simp only [World.size_alloc] at Z4
  have oX := own_below oX x4
  have bW := bW.trans (x4.mono bW.size)
  clear x4
  go_wp2_with fail
  refine (CT.out _ (rws_below hA bW)).mono ?_
  rintro e w5 ⟨Y, yc, rfl, oY, x5⟩
  have Z5 := x5.size
  try simp only [World.size_alloc] at Z5
  have oX := own_below oX x5
  have bW := bW.trans (x5.mono bW.size)
  clear x5
  have oY_hi := own_block_lt oY
  try simp only [World.size_alloc] at oY
  go_wp2_with fail
  refine (CE.out X Y xc yc _ (own_rws oX) (own_rws oY)).mono ?_
  rintro e w6 ⟨rfl, x6⟩
  have Z6 := x6.size
  try simp only [World.size_alloc] at Z6
  have oX := own_below oX x6
  have oY := own_below oY x6
  have bW := bW.trans (x6.mono bW.size)
  clear x6
  have HB := Lib.hid bW
  clear bW oX oY
  go_wp2
  go_ret
  exact ⟨rfl, HB.out⟩
end Go.Proofs.Ytdjglbmcpfaofaa
