/- The walk of the exact law over the pins of a cabin. -/
import Derived.Test.YtdjglbmcpfaofaaRows
import Derived.Test.YtdjglbmcpfaofaaCaP
import Derived.Test.YtdjglbmcpfaofaaPnL
namespace Go.Proofs.Ytdjglbmcpfaofaa
open Go.RowKit
set_option linter.unusedSimpArgs false
set_option linter.unusedVariables false
theorem pinsV_len (l : List Pt) (cabin : Int) : (pinsV l cabin).length ≤ l.length := by
  have h : ∀ (l : List Pt) (a : List Pn), (l.foldl (fun acc x => if x.state = 2 ∧ x.cabin = cabin then pnPut acc ⟨x.until_, x.id⟩ else acc) a).length ≤ a.length + l.length := by
    intro l
    induction l with
    | nil => intro a; simp
    | cons x l ih =>
      intro a
      rw [List.foldl_cons]
      refine Nat.le_trans (ih _) ?_
      split
      · rw [pnPut_len, List.length_cons]; omega
      · rw [List.length_cons]; omega
  have := h l []
  unfold pinsV
  simpa using this
set_option maxRecDepth 100000 in
set_option maxHeartbeats 6400000 in
theorem FnExactPinsIn_walk (A : Option Addr) (l : List Pt) (c : Nat) (cabin : Int) (w : World) (hl0 : l.length ≤ 9223372036854775807) (hA : Rws w w.heap.size A (l.flatMap ptC)) (hf : ∀ f ∈ l, f.fits) (hc : inI cabin) :
    Calls Try.prog 9 #[.slice A l.length c, .int .i64 cabin] w fun e w' => e = .returned (.bool true) ∧ Below w.heap.size w w' := by
  have CS := Lib.hid (fun w => szPartyS_any A l.length c 1048576 w hl0 (by omega) (by omega))
  by_cases hbig : 1048576 < l.length
  · go_enter Try.func9, Try.ntmps9
    go_wp2_with fail
    refine (CS.out _).mono ?_
    rintro e w1 ⟨⟨r, rfl, _, _, hr⟩, b1⟩
    have hr0 : r < 0 := by
      rcases Int.lt_or_le r 0 with h | h
      · exact h
      · have := hr h; omega
    clear hr
    go_wp2
    go_ret
    exact ⟨rfl, b1⟩
  have hl : l.length ≤ 2097152 := by omega
  have CT := Lib.hid (fun w h => toPartyS_any A l c w hl h)
  have CE := Lib.hid (fun X Y xc yc w h h' => eqPartyS_same X Y l xc yc w hl h h')
  have C1 := Lib.hid (fun X xc w h => pinsIn_spec X l xc cabin w hl h)
  have C2 := Lib.hid (fun X xc w h => pinsIn_impl X l xc cabin w hl h hf hc)
  have CM := Lib.hid (fun X xc base w h => markPartyS_any X l 1 xc base w hl (by omega) h)
  have hlr : (pinsV l cabin).length ≤ 2097152 := by have := pinsV_len l cabin; omega
  generalize pinsV l cabin = r at *
  have CG := Lib.hid (fun X Y xc yc w h h' => eqPinS_same X Y r xc yc w hlr h h')
  have CN := Lib.hid (fun X xc base w h => markPinS_any X r 1 xc base w hlr (by omega) h)
  have CH := Lib.hid (fun X xc w h => heldPinS_any X 1 r.length xc w hlr (by omega) h)
  obtain ⟨K, hK⟩ : ∃ K : Nat, 1 + r.length * 2 = K := ⟨_, rfl⟩
  obtain ⟨M, hM⟩ : ∃ M : Nat, 1 + l.length * 10 = M := ⟨_, rfl⟩
  rw [hK] at CN CH
  rw [hM] at CM
  have nK : decide ((K : Int) < 0) = false := by simp
  have nM : decide ((M : Int) < 0) = false := by simp
  have nQ : ((K : Int) != (K : Int)) = false := by simp
  clear hK hM hf hc
  have bW := Below.refl w.heap.size w
  go_enter Try.func9, Try.ntmps9
  go_wp2_with fail
  refine (CS.out _).mono ?_
  rintro e w0 ⟨⟨rr, rfl, _, _, hr⟩, b0⟩
  clear hr
  by_cases hr0 : rr < 0
  · go_wp2
    go_ret
    exact ⟨rfl, b0⟩
  have bW := bW.trans (b0.mono bW.size)
  have Z0 := b0.size
  clear b0
  go_wp2_with fail
  refine (CT.out _ (rws_below hA bW)).mono ?_
  rintro e w1 ⟨P, pc, rfl, oP, x1⟩
  have Z1 := x1.size
  try simp only [World.size_alloc] at Z1
  have bW := bW.trans (x1.mono bW.size)
  clear x1
  have oP_hi := own_block_lt oP
  try simp only [World.size_alloc] at oP
  go_wp2_with fail
  refine (C1.out P pc _ (own_rws oP)).mono ?_
  rintro e w2 ⟨Q, qc, rfl, oW, x2⟩
  have Z2 := x2.size
  try simp only [World.size_alloc] at Z2
  have oP := own_below oP x2
  have bW := bW.trans (x2.mono bW.size)
  clear x2
  have oW_hi := own_block_lt oW
  try simp only [World.size_alloc] at oW
  clear oP
  clear oP_hi
  go_wp2_with fail
  refine (CT.out _ (rws_below hA bW)).mono ?_
  rintro e w3 ⟨X, xc, rfl, oX, x3⟩
  have Z3 := x3.size
  try simp only [World.size_alloc] at Z3
  have oW := own_below oW x3
  have bW := bW.trans (x3.mono bW.size)
  clear x3
  have oX_hi := own_block_lt oX
  try simp only [World.size_alloc] at oX
  go_wp2_with fail
  refine (C2.out X xc _ (own_rws oX)).mono ?_
  rintro e w4 ⟨G, gc, rfl, oG, x4⟩
  have Z4 := x4.size
  try simp only [World.size_alloc] at Z4
  have oW := own_below oW x4
  have oX := own_below oX x4
  have bW := bW.trans (x4.mono bW.size)
  clear x4
  have oG_hi := own_block_lt oG
  try simp only [World.size_alloc] at oG
  go_wp2_with fail
  refine (CG.out G Q gc qc _ (own_rws oG) (own_rws oW)).mono ?_
  rintro e w5 ⟨rfl, x5⟩
  have Z5 := x5.size
  try simp only [World.size_alloc] at Z5
  have oW := own_below oW x5
  have oX := own_below oX x5
  have oG := own_below oG x5
  have bW := bW.trans (x5.mono bW.size)
  clear x5
  go_wp2_with fail
  refine (CT.out _ (rws_below hA bW)).mono ?_
  rintro e w6 ⟨Y, yc, rfl, oY, x6⟩
  have Z6 := x6.size
  try simp only [World.size_alloc] at Z6
  have oW := own_below oW x6
  have oX := own_below oX x6
  have oG := own_below oG x6
  have bW := bW.trans (x6.mono bW.size)
  clear x6
  have oY_hi := own_block_lt oY
  try simp only [World.size_alloc] at oY
  go_wp2_with fail
  refine (CE.out X Y xc yc _ (own_rws oX) (own_rws oY)).mono ?_
  rintro e w7 ⟨rfl, x7⟩
  have Z7 := x7.size
  try simp only [World.size_alloc] at Z7
  have oW := own_below oW x7
  have oX := own_below oX x7
  have oG := own_below oG x7
  have oY := own_below oY x7
  have bW := bW.trans (x7.mono bW.size)
  clear x7
  clear oY
  clear oY_hi
  go_wp2_with fail
  refine (CM.out X xc _ _ oX).mono ?_
  rintro e w8 ⟨rfl, -, g8⟩
  have oW := own_kept2 oW g8 (fun k hv e => by have h1 := oW_hi k hv; have h2 := own_low oW k hv; have h3 := oX_hi k e; have h4 := own_low oX k e; omega)
  have oG := own_kept2 oG g8 (fun k hv e => by have h1 := oG_hi k hv; have h2 := own_low oG k hv; have h3 := oX_hi k e; have h4 := own_low oX k e; omega)
  have Zg8 := g8.size
  have bW := bW.grown g8 bW.size (fun k hk => by have h1 := own_low oX k hk; have h2 := bW.size; omega)
  clear oX
  clear oX_hi
  clear g8
  go_wp2_with fail
  refine (CG.out G Q gc qc _ (own_rws oG) (own_rws oW)).mono ?_
  rintro e w9 ⟨rfl, x9⟩
  have Z9 := x9.size
  try simp only [World.size_alloc] at Z9
  have oW := own_below oW x9
  have oG := own_below oG x9
  have bW := bW.trans (x9.mono bW.size)
  clear x9
  go_wp2_with fail
  refine (CN.out G gc _ _ oG).mono ?_
  rintro e w10 ⟨rfl, oG2, g10⟩
  have oW := own_kept2 oW g10 (fun k hv e => by have h1 := oW_hi k hv; have h2 := own_low oW k hv; have h3 := oG_hi k e; have h4 := own_low oG k e; omega)
  have Zg10 := g10.size
  have bW := bW.grown g10 bW.size (fun k hk => by have h1 := own_low oG k hk; have h2 := bW.size; omega)
  clear oG
  clear g10
  have oG := oG2
  clear oG2
  go_wp2_with fail
  refine (CH.out G gc _ (own_rws oG)).mono ?_
  rintro e w' ⟨rfl, rfl⟩
  go_wp2_with fail
  refine (CT.out _ (rws_below hA bW)).mono ?_
  rintro e w12 ⟨R, rc, rfl, oR, x12⟩
  have Z12 := x12.size
  try simp only [World.size_alloc] at Z12
  have oW := own_below oW x12
  have oG := own_below oG x12
  have bW := bW.trans (x12.mono bW.size)
  clear x12
  have oR_hi := own_block_lt oR
  try simp only [World.size_alloc] at oR
  go_wp2_with fail
  refine (C2.out R rc _ (own_rws oR)).mono ?_
  rintro e w13 ⟨H, hc2, rfl, oH, x13⟩
  have Z13 := x13.size
  try simp only [World.size_alloc] at Z13
  have oW := own_below oW x13
  have oG := own_below oG x13
  have oR := own_below oR x13
  have bW := bW.trans (x13.mono bW.size)
  clear x13
  have oH_hi := own_block_lt oH
  try simp only [World.size_alloc] at oH
  clear oR
  clear oR_hi
  go_wp2_with fail
  refine (CG.out H Q hc2 qc _ (own_rws oH) (own_rws oW)).mono ?_
  rintro e w14 ⟨rfl, x14⟩
  have Z14 := x14.size
  try simp only [World.size_alloc] at Z14
  have oW := own_below oW x14
  have oG := own_below oG x14
  have oH := own_below oH x14
  have bW := bW.trans (x14.mono bW.size)
  clear x14
  go_wp2_with fail
  refine (CH.out G gc _ (own_rws oG)).mono ?_
  rintro e w' ⟨rfl, rfl⟩
  have HB := Lib.hid bW
  clear bW oH oG oW
  go_wp2
  go_ret
  exact ⟨rfl, HB.out⟩
end Go.Proofs.Ytdjglbmcpfaofaa
