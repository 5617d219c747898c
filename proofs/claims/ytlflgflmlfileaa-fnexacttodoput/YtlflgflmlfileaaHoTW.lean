/- The walk of the exact law over TodoPut. -/
import Derived.Test.YtlflgflmlfileaaRows
import Derived.Test.YtlflgflmlfileaaHoT
import Derived.Test.YtlflgflmlfileaaG6
namespace Go.Proofs.Ytlflgflmlfileaa
open Go.RowKit
set_option linter.unusedSimpArgs false
set_option linter.unusedVariables false
set_option maxRecDepth 100000 in
set_option maxHeartbeats 6400000 in
theorem FnExactTodoPut_walk (A : Option Addr) (l : List Int) (c : Nat) (z : Int) (w : World) (hl0 : l.length ≤ 9223372036854775807) (hA : Rws w w.heap.size A (ints l)) :
    Calls Try.prog 7 #[.slice A l.length c, .int .i64 z] w fun e w' => e = .returned (.bool true) ∧ Below w.heap.size w w' := by
  by_cases hbig : (1048576 : Int) < (l.length : Int)
  · go_enter Try.func7, Try.ntmps7
    go_wp2
    go_ret
    exact ⟨rfl, Below.refl _ _⟩
  have hl : l.length ≤ 2097152 := by omega
  have CT := Lib.hid (fun w (h : Rws w w.heap.size A (ints l)) => toInt_new A l c _ w hl h (Nat.le_refl _))
  have CE := Lib.hid (fun X Y xc yc w (h : Rws w w.heap.size X (ints l)) (h' : Rws w w.heap.size Y (ints l)) => eqInt_same X Y l xc yc _ _ w hl h h')
  have C1 := Lib.hid (fun X xc w h h' => todoPut_spec X l xc z w hl h h')
  have C2 := Lib.hid (fun X xc w h h' => todoPut_impl X l xc z w hl h h')
  have CM := Lib.hid (fun X xc base w h => markInt_any X l 1 xc base w hl (by omega) h)
  have hlr : (todoV l z).length ≤ 2097152 := by have := todoV_len l z; omega
  generalize todoV l z = r at *
  have CG := Lib.hid (fun X Y xc yc w (h : Rws w w.heap.size X (ints r)) (h' : Rws w w.heap.size Y (ints r)) => eqInt_same X Y r xc yc _ _ w hlr h h')
  have CN := Lib.hid (fun X xc base w h => markInt_any X r 1 xc base w hlr (by omega) h)
  have CH := Lib.hid (fun X xc w (h : Rws w w.heap.size X (ints (marksI 1 r.length))) => heldInt_any X 1 r.length xc _ w hlr (by omega) h)
  obtain ⟨K, hK⟩ : ∃ K : Nat, 1 + r.length = K := ⟨_, rfl⟩
  obtain ⟨M, hM⟩ : ∃ M : Nat, 1 + l.length = M := ⟨_, rfl⟩
  rw [hK] at CN CH
  rw [hM] at CM
  have nK : decide ((K : Int) < 0) = false := by simp
  have nM : decide ((M : Int) < 0) = false := by simp
  have nQ : ((K : Int) != (K : Int)) = false := by simp
  clear hK hM
  have bW := Below.refl w.heap.size w
  go_enter Try.func7, Try.ntmps7
  go_wp2_with fail
  refine (CT.out _ (rws_below hA bW)).mono ?_
  rintro e w1 ⟨P, pc, rfl, oP, x1⟩
  have Z1 := x1.size
  try simp only [World.size_alloc] at Z1
  have bW := bW.trans (x1.mono bW.size)
  clear x1
  have oP_hi := own_block_lt oP
  try simp only [World.size_alloc] at oP
  go_wp2_with fail
  refine (C1.out P pc _ (own_nil oP) (own_rws oP)).mono ?_
  rintro e w2 ⟨Q, qc, rfl, oW, x2⟩
  have Z2 := x2.size
  try simp only [World.size_alloc] at Z2
  have oP := own_below oP x2
  have bW := bW.trans (x2.mono bW.size)
  clear x2
  have oW_hi := own_block_lt oW
  try simp only [World.size_alloc] at oW
  clear oP
  clear oP_hi
  go_wp2_with fail
  refine (CT.out _ (rws_below hA bW)).mono ?_
  rintro e w3 ⟨X, xc, rfl, oX, x3⟩
  have Z3 := x3.size
  try simp only [World.size_alloc] at Z3
  have oW := own_below oW x3
  have bW := bW.trans (x3.mono bW.size)
  clear x3
  have oX_hi := own_block_lt oX
  try simp only [World.size_alloc] at oX
  go_wp2_with fail
  refine (C2.out X xc _ (own_nil oX) (own_rws oX)).mono ?_
  rintro e w4 ⟨G, gc, rfl, oG, x4⟩
  have Z4 := x4.size
  try simp only [World.size_alloc] at Z4
  have oW := own_below oW x4
  have oX := own_below oX x4
  have bW := bW.trans (x4.mono bW.size)
  clear x4
  have oG_hi := own_block_lt oG
  try simp only [World.size_alloc] at oG
  go_wp2_with fail
  refine (CG.out G Q gc qc _ (own_rws oG) (own_rws oW)).mono ?_
  rintro e w5 ⟨rfl, x5⟩
  have Z5 := x5.size
  try simp only [World.size_alloc] at Z5
  have oW := own_below oW x5
  have oX := own_below oX x5
  have oG := own_below oG x5
  have bW := bW.trans (x5.mono bW.size)
  clear x5
  go_wp2_with fail
  refine (CT.out _ (rws_below hA bW)).mono ?_
  rintro e w6 ⟨Y, yc, rfl, oY, x6⟩
  have Z6 := x6.size
  try simp only [World.size_alloc] at Z6
  have oW := own_below oW x6
  have oX := own_below oX x6
  have oG := own_below oG x6
  have bW := bW.trans (x6.mono bW.size)
  clear x6
  have oY_hi := own_block_lt oY
  try simp only [World.size_alloc] at oY
  go_wp2_with fail
  refine (CE.out X Y xc yc _ (own_rws oX) (own_rws oY)).mono ?_
  rintro e w7 ⟨rfl, x7⟩
  have Z7 := x7.size
  try simp only [World.size_alloc] at Z7
  have oW := own_below oW x7
  have oX := own_below oX x7
  have oG := own_below oG x7
  have oY := own_below oY x7
  have bW := bW.trans (x7.mono bW.size)
  clear x7
  clear oY
  clear oY_hi
  go_wp2_with fail
  refine (CM.out X xc _ _ oX).mono ?_
  rintro e w8 ⟨rfl, -, g8⟩
  have oW := own_kept2 oW g8 (fun k hv e => by have h1 := oW_hi k hv; have h2 := own_low oW k hv; have h3 := oX_hi k e; have h4 := own_low oX k e; omega)
  have oG := own_kept2 oG g8 (fun k hv e => by have h1 := oG_hi k hv; have h2 := own_low oG k hv; have h3 := oX_hi k e; have h4 := own_low oX k e; omega)
  have Zg8 := g8.size
  have bW := bW.grown g8 bW.size (fun k hk => by have h1 := own_low oX k hk; have h2 := bW.size; omega)
  clear oX
  clear oX_hi
  clear g8
  go_wp2_with fail
  refine (CG.out G Q gc qc _ (own_rws oG) (own_rws oW)).mono ?_
  rintro e w9 ⟨rfl, x9⟩
  have Z9 := x9.size
  try simp only [World.size_alloc] at Z9
  have oW := own_below oW x9
  have oG := own_below oG x9
  have bW := bW.trans (x9.mono bW.size)
  clear x9
  go_wp2_with fail
  refine (CN.out G gc _ _ oG).mono ?_
  rintro e w10 ⟨rfl, oG2, g10⟩
  have oW := own_kept2 oW g10 (fun k hv e => by have h1 := oW_hi k hv; have h2 := own_low oW k hv; have h3 := oG_hi k e; have h4 := own_low oG k e; omega)
  have Zg10 := g10.size
  have bW := bW.grown g10 bW.size (fun k hk => by have h1 := own_low oG k hk; have h2 := bW.size; omega)
  clear oG
  clear g10
  have oG := oG2
  clear oG2
  go_wp2_with fail
  refine (CH.out G gc _ (own_rws oG)).mono ?_
  rintro e w' ⟨rfl, rfl⟩
  go_wp2_with fail
  refine (CT.out _ (rws_below hA bW)).mono ?_
  rintro e w12 ⟨R, rc, rfl, oR, x12⟩
  have Z12 := x12.size
  try simp only [World.size_alloc] at Z12
  have oW := own_below oW x12
  have oG := own_below oG x12
  have bW := bW.trans (x12.mono bW.size)
  clear x12
  have oR_hi := own_block_lt oR
  try simp only [World.size_alloc] at oR
  go_wp2_with fail
  refine (C2.out R rc _ (own_nil oR) (own_rws oR)).mono ?_
  rintro e w13 ⟨H, hc, rfl, oH, x13⟩
  have Z13 := x13.size
  try simp only [World.size_alloc] at Z13
  have oW := own_below oW x13
  have oG := own_below oG x13
  have oR := own_below oR x13
  have bW := bW.trans (x13.mono bW.size)
  clear x13
  have oH_hi := own_block_lt oH
  try simp only [World.size_alloc] at oH
  clear oR
  clear oR_hi
  go_wp2_with fail
  refine (CG.out H Q hc qc _ (own_rws oH) (own_rws oW)).mono ?_
  rintro e w14 ⟨rfl, x14⟩
  have Z14 := x14.size
  try simp only [World.size_alloc] at Z14
  have oW := own_below oW x14
  have oG := own_below oG x14
  have oH := own_below oH x14
  have bW := bW.trans (x14.mono bW.size)
  clear x14
  go_wp2_with fail
  refine (CH.out G gc _ (own_rws oG)).mono ?_
  rintro e w' ⟨rfl, rfl⟩
  have HB := Lib.hid bW
  clear bW oH oG oW
  go_wp2
  go_ret
  exact ⟨rfl, HB.out⟩
end Go.Proofs.Ytlflgflmlfileaa
