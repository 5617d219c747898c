/- The walks of the exact laws over PartyPut, PartyCut. -/
import Derived.Test.YtlflgflmlfileaaRows
import Derived.Test.YtlflgflmlfileaaHoS
namespace Go.Proofs.Ytlflgflmlfileaa
open Go.RowKit
set_option linter.unusedSimpArgs false
set_option linter.unusedVariables false
set_option maxRecDepth 100000 in
theorem exec_load_lPt {ρ : Operand → Value} {o : Oper} {x : Operand} (b off : Nat) (p : Pt) (w : World) (h : Pt.here w b off p) (ho : o.op = .load 50 x := by rfl) (hx : ρ x = .pointer (some ⟨b, off, none⟩) := by rfl) :
    (execOp ρ o).run Try.prog w = .ok (.value (ptA p)) w := by
  obtain ⟨h0, h1, h2, h3, h4, h5, h6, h7, h8, h9⟩ := h
  unfold execOp
  rw [ho]
  simp [go_sem, hx, h0, h1, h2, h3, h4, h5, h6, h7, h8, h9, ptA]
theorem putPV_len (l : List Pt) (p : Pt) : (putPV l p).length ≤ l.length + 1 := by
  unfold putPV
  split
  · rw [ptPut_len]; omega
  · rw [List.length_set]; omega
theorem cutPV_len (l : List Pt) (id : Int) : (cutPV l id).length ≤ l.length := by
  unfold cutPV
  split
  · omega
  · rw [List.length_append, List.length_take, List.length_drop]; omega
set_option maxRecDepth 100000 in
set_option maxHeartbeats 6400000 in
theorem FnExactPartyCut_walk (A : Option Addr) (l : List Pt) (c : Nat) (id : Int) (w : World) (hl0 : l.length ≤ 9223372036854775807) (hA : Rws w w.heap.size A (l.flatMap ptC)) (hf : ∀ f ∈ l, f.fits) :
    Calls Try.prog 6 #[.slice A l.length c, .int .i64 id] w fun e w' => e = .returned (.bool true) ∧ Below w.heap.size w w' := by
  have CS := Lib.hid (fun w => szPartyS_any A l.length c 1048576 w hl0 (by omega) (by omega))
  by_cases hbig : 1048576 < l.length
  · skip
    go_enter Try.func6, Try.ntmps6
    go_wp2_with fail
    refine (CS.out _).mono ?_
    rintro e w1 ⟨⟨r, rfl, _, _, hr⟩, b1⟩
    have hr0 : r < 0 := by
      rcases Int.lt_or_le r 0 with h | h
      · exact h
      · have := hr h; omega
    clear hr
    go_wp2
    go_ret
    exact ⟨rfl, b1⟩
  have hl : l.length ≤ 2097152 := by omega
  have CT := Lib.hid (fun w h => toPartyS_any A l c w hl h)
  have CE := Lib.hid (fun X Y xc yc w h h' => eqPartyS_same X Y l xc yc w hl h h')
  have C1 := Lib.hid (fun X xc w h h' h2 => ptCut_spec X l xc id w hl h h' h2)
  have C2 := Lib.hid (fun X xc w (_ : l.length ≤ xc) (_ : X = none → xc = 0) h2 => partyCut_im X l xc id w hl h2)
  have CM := Lib.hid (fun X xc base w h => markPartyS_any X l 1 xc base w hl (by omega) h)
  have hlr : (cutPV l id).length ≤ 2097152 := by have := cutPV_len l id; omega
  generalize cutPV l id = r at *
  have CG := Lib.hid (fun X Y xc yc w h h' => eqPartyS_same X Y r xc yc w hlr h h')
  have CN := Lib.hid (fun X xc base w h => markPartyS_any X r 1 xc base w hlr (by omega) h)
  have CH := Lib.hid (fun X xc w h => heldPartyS_any X 1 r.length xc w hlr (by omega) h)
  obtain ⟨K, hK⟩ : ∃ K : Nat, 1 + r.length * 10 = K := ⟨_, rfl⟩
  obtain ⟨M, hM⟩ : ∃ M : Nat, 1 + l.length * 10 = M := ⟨_, rfl⟩
  rw [hK] at CN CH
  rw [hM] at CM
  have nK : decide ((K : Int) < 0) = false := by simp
  have nM : decide ((M : Int) < 0) = false := by simp
  have nQ : ((K : Int) != (K : Int)) = false := by simp
  clear hK hM hf
  have bW := Below.refl w.heap.size w
  go_enter Try.func6, Try.ntmps6
  go_wp2_with fail
  refine (CS.out _).mono ?_
  rintro e w0 ⟨⟨rr, rfl, _, _, hr⟩, b0⟩
  clear hr
  by_cases hr0 : rr < 0
  · go_wp2
    go_ret
    exact ⟨rfl, b0⟩
  have bW := bW.trans (b0.mono bW.size)
  have Z0 := b0.size
  clear b0
  go_wp2_with fail
  refine (CT.out _ (rws_below hA bW)).mono ?_
  rintro e w1 ⟨P, pc, rfl, oP, x1⟩
  have Z1 := x1.size
  try simp only [World.size_alloc] at Z1
  have bW := bW.trans (x1.mono bW.size)
  clear x1
  have oP_hi := own_block_lt oP
  try simp only [World.size_alloc] at oP
  go_wp2_with fail
  refine (C1.out P pc _ (own_cap oP) (own_nil oP) (own_rws oP)).mono ?_
  rintro e w2 ⟨Q, qc, rfl, oW, x2⟩
  have Z2 := x2.size
  try simp only [World.size_alloc] at Z2
  have oP := own_below oP x2
  have bW := bW.trans (x2.mono bW.size)
  clear x2
  have oW_hi := own_block_lt oW
  try simp only [World.size_alloc] at oW
  clear oP
  clear oP_hi
  go_wp2_with fail
  refine (CT.out _ (rws_below hA bW)).mono ?_
  rintro e w3 ⟨X, xc, rfl, oX, x3⟩
  have Z3 := x3.size
  try simp only [World.size_alloc] at Z3
  have oW := own_below oW x3
  have bW := bW.trans (x3.mono bW.size)
  clear x3
  have oX_hi := own_block_lt oX
  try simp only [World.size_alloc] at oX
  go_wp2_with fail
  refine (C2.out X xc _ (own_cap oX) (own_nil oX) (own_rws oX)).mono ?_
  rintro e w4 ⟨G, gc, rfl, oG, x4⟩
  have Z4 := x4.size
  try simp only [World.size_alloc] at Z4
  have oW := own_below oW x4
  have oX := own_below oX x4
  have bW := bW.trans (x4.mono bW.size)
  clear x4
  have oG_hi := own_block_lt oG
  try simp only [World.size_alloc] at oG
  go_wp2_with fail
  refine (CG.out G Q gc qc _ (own_rws oG) (own_rws oW)).mono ?_
  rintro e w5 ⟨rfl, x5⟩
  have Z5 := x5.size
  try simp only [World.size_alloc] at Z5
  have oW := own_below oW x5
  have oX := own_below oX x5
  have oG := own_below oG x5
  have bW := bW.trans (x5.mono bW.size)
  clear x5
  go_wp2_with fail
  refine (CT.out _ (rws_below hA bW)).mono ?_
  rintro e w6 ⟨Y, yc, rfl, oY, x6⟩
  have Z6 := x6.size
  try simp only [World.size_alloc] at Z6
  have oW := own_below oW x6
  have oX := own_below oX x6
  have oG := own_below oG x6
  have bW := bW.trans (x6.mono bW.size)
  clear x6
  have oY_hi := own_block_lt oY
  try simp only [World.size_alloc] at oY
  go_wp2_with fail
  refine (CE.out X Y xc yc _ (own_rws oX) (own_rws oY)).mono ?_
  rintro e w7 ⟨rfl, x7⟩
  have Z7 := x7.size
  try simp only [World.size_alloc] at Z7
  have oW := own_below oW x7
  have oX := own_below oX x7
  have oG := own_below oG x7
  have oY := own_below oY x7
  have bW := bW.trans (x7.mono bW.size)
  clear x7
  clear oY
  clear oY_hi
  go_wp2_with fail
  refine (CM.out X xc _ _ oX).mono ?_
  rintro e w8 ⟨rfl, -, g8⟩
  have oW := own_kept2 oW g8 (fun k hv e => by have h1 := oW_hi k hv; have h2 := own_low oW k hv; have h3 := oX_hi k e; have h4 := own_low oX k e; omega)
  have oG := own_kept2 oG g8 (fun k hv e => by have h1 := oG_hi k hv; have h2 := own_low oG k hv; have h3 := oX_hi k e; have h4 := own_low oX k e; omega)
  have Zg8 := g8.size
  have bW := bW.grown g8 bW.size (fun k hk => by have h1 := own_low oX k hk; have h2 := bW.size; omega)
  clear oX
  clear oX_hi
  clear g8
  go_wp2_with fail
  refine (CG.out G Q gc qc _ (own_rws oG) (own_rws oW)).mono ?_
  rintro e w9 ⟨rfl, x9⟩
  have Z9 := x9.size
  try simp only [World.size_alloc] at Z9
  have oW := own_below oW x9
  have oG := own_below oG x9
  have bW := bW.trans (x9.mono bW.size)
  clear x9
  go_wp2_with fail
  refine (CN.out G gc _ _ oG).mono ?_
  rintro e w10 ⟨rfl, oG2, g10⟩
  have oW := own_kept2 oW g10 (fun k hv e => by have h1 := oW_hi k hv; have h2 := own_low oW k hv; have h3 := oG_hi k e; have h4 := own_low oG k e; omega)
  have Zg10 := g10.size
  have bW := bW.grown g10 bW.size (fun k hk => by have h1 := own_low oG k hk; have h2 := bW.size; omega)
  clear oG
  clear g10
  have oG := oG2
  clear oG2
  go_wp2_with fail
  refine (CH.out G gc _ (own_rws oG)).mono ?_
  rintro e w' ⟨rfl, rfl⟩
  go_wp2_with fail
  refine (CT.out _ (rws_below hA bW)).mono ?_
  rintro e w12 ⟨R, rc, rfl, oR, x12⟩
  have Z12 := x12.size
  try simp only [World.size_alloc] at Z12
  have oW := own_below oW x12
  have oG := own_below oG x12
  have bW := bW.trans (x12.mono bW.size)
  clear x12
  have oR_hi := own_block_lt oR
  try simp only [World.size_alloc] at oR
  go_wp2_with fail
  refine (C2.out R rc _ (own_cap oR) (own_nil oR) (own_rws oR)).mono ?_
  rintro e w13 ⟨H, hc, rfl, oH, x13⟩
  have Z13 := x13.size
  try simp only [World.size_alloc] at Z13
  have oW := own_below oW x13
  have oG := own_below oG x13
  have oR := own_below oR x13
  have bW := bW.trans (x13.mono bW.size)
  clear x13
  have oH_hi := own_block_lt oH
  try simp only [World.size_alloc] at oH
  clear oR
  clear oR_hi
  go_wp2_with fail
  refine (CG.out H Q hc qc _ (own_rws oH) (own_rws oW)).mono ?_
  rintro e w14 ⟨rfl, x14⟩
  have Z14 := x14.size
  try simp only [World.size_alloc] at Z14
  have oW := own_below oW x14
  have oG := own_below oG x14
  have oH := own_below oH x14
  have bW := bW.trans (x14.mono bW.size)
  clear x14
  go_wp2_with fail
  refine (CH.out G gc _ (own_rws oG)).mono ?_
  rintro e w' ⟨rfl, rfl⟩
  have HB := Lib.hid bW
  clear bW oH oG oW
  go_wp2
  go_ret
  exact ⟨rfl, HB.out⟩
set_option maxRecDepth 100000 in
set_option maxHeartbeats 6400000 in
theorem FnExactPartyPut_walk (A : Option Addr) (l : List Pt) (c : Nat) (x : Pt) (w : World) (hl0 : l.length ≤ 9223372036854775807) (hA : Rws w w.heap.size A (l.flatMap ptC)) (hf : ∀ f ∈ l, f.fits) :
    Calls Try.prog 5 #[.slice A l.length c, ptA x] w fun e w' => e = .returned (.bool true) ∧ Below w.heap.size w w' := by
  have CS := Lib.hid (fun w => szPartyS_any A l.length c 1048576 w hl0 (by omega) (by omega))
  by_cases hbig : 1048576 < l.length
  · unfold ptA
    go_enter Try.func5, Try.ntmps5
    go_wp2_with fail
    refine (CS.out _).mono ?_
    rintro e w1 ⟨⟨r, rfl, _, _, hr⟩, b1⟩
    have hr0 : r < 0 := by
      rcases Int.lt_or_le r 0 with h | h
      · exact h
      · have := hr h; omega
    clear hr
    go_wp2
    go_ret
    exact ⟨rfl, boxB _ _ _ b1⟩
  have hl : l.length ≤ 2097152 := by omega
  have CT := Lib.hid (fun w h => toPartyS_any A l c w hl h)
  have CE := Lib.hid (fun X Y xc yc w h h' => eqPartyS_same X Y l xc yc w hl h h')
  have CX := Lib.hid (fun w => toParty_any x w)
  have C1 := Lib.hid (fun X xc w h h' h2 => ptPut_spec X l xc x w hl h h' h2)
  have C2 := Lib.hid (fun X xc w h h' h2 => partyPut_im X l xc x w hl h h' h2)
  have CM := Lib.hid (fun X xc base w h => markPartyS_any X l 1 xc base w hl (by omega) h)
  have hlr : (putPV l x).length ≤ 2097152 := by have := putPV_len l x; omega
  generalize putPV l x = r at *
  have CG := Lib.hid (fun X Y xc yc w h h' => eqPartyS_same X Y r xc yc w hlr h h')
  have CN := Lib.hid (fun X xc base w h => markPartyS_any X r 1 xc base w hlr (by omega) h)
  have CH := Lib.hid (fun X xc w h => heldPartyS_any X 1 r.length xc w hlr (by omega) h)
  obtain ⟨K, hK⟩ : ∃ K : Nat, 1 + r.length * 10 = K := ⟨_, rfl⟩
  obtain ⟨M, hM⟩ : ∃ M : Nat, 1 + l.length * 10 = M := ⟨_, rfl⟩
  rw [hK] at CN CH
  rw [hM] at CM
  have nK : decide ((K : Int) < 0) = false := by simp
  have nM : decide ((M : Int) < 0) = false := by simp
  have nQ : ((K : Int) != (K : Int)) = false := by simp
  clear hK hM hf
  have bW : Below w.heap.size w (w.alloc (.cells #[.int .i64 x.id, .int .i64 x.cabin, .int .i64 x.from_, .int .i64 x.size, .int .i64 x.tier, .int .i64 x.since, .int .i64 x.turn, .int .i64 x.state, .int .i64 x.until_, .int .i64 x.asked] 50)) := (Below.refl _ _).alloc (Nat.le_refl _) _
  have hE := heap_new w (.cells #[.int .i64 x.id, .int .i64 x.cabin, .int .i64 x.from_, .int .i64 x.size, .int .i64 x.tier, .int .i64 x.since, .int .i64 x.turn, .int .i64 x.state, .int .i64 x.until_, .int .i64 x.asked] 50)
  have bW0 := Lib.hid bW
  have hE0 := Lib.hid hE
  clear bW hE
  unfold ptA at CX ⊢
  go_enter Try.func5, Try.ntmps5
  go_wp2_with fail
  refine (CS.out _).mono ?_
  rintro e w0 ⟨⟨rr, rfl, _, _, hr⟩, b0⟩
  clear hr
  have bW := bW0.out.trans (b0.mono bW0.out.size)
  have hE := blk_call hE0.out b0
  have Z0 := b0.size
  simp only [World.size_alloc] at Z0
  clear bW0 hE0 b0
  by_cases hr0 : rr < 0
  · go_wp2
    go_ret
    exact ⟨rfl, bW⟩
  go_wp2_with fail
  have KE := Lib.hid (fun w' (h : Below w0.heap.size w0 w') => Pt.here.blk (blk_call hE h))
  refine wp_region_held_drew (S := fun w' => Hid (Below w0.heap.size w0 w')) (by kernel_rfl) (below_drawn (Below.refl _ _) 1) (fun hHeld => ?_)
  refine held_take 0 18 (.slice A l.length c) rfl rfl (by kernel_rfl) (by kernel_rfl) (by kernel_rfl) (fun _ _ _ h => h) rfl hHeld (fun w _ => rfl) ?_
  refine held_take 2 20 (ptA x) rfl rfl (by kernel_rfl) (by kernel_rfl) (by kernel_rfl) (fun _ _ _ h => h) rfl hHeld (fun w h => exec_load_lPt _ 0 x _ (KE.out _ h.out)) ?_
  simp only [Act.put, List.setIfInBounds_toArray, List.set_cons_zero, List.set_cons_succ]
  refine held_call 1 19 21 #[.slice A l.length c] rfl rfl (by kernel_rfl) rfl (exec_call Try.func21 (by kernel_rfl) (by kernel_rfl) _) ?_
  refine (CT.out _ (rws_below (rws_below hA bW) hHeld.out)).mono ?_
  rintro e v21 ⟨P, pc, rfl, oP, y1⟩
  have k1 : Hid (Below w0.heap.size w0 v21) := hHeld.out.trans (y1.mono hHeld.out.size)
  refine ⟨_, rfl, k1, ?_⟩
  simp only [Act.put, List.setIfInBounds_toArray, List.set_cons_zero, List.set_cons_succ]
  refine held_call 3 21 22 #[ptA x] rfl rfl (by kernel_rfl) rfl (exec_call Try.func22 (by kernel_rfl) (by kernel_rfl) _) ?_
  refine (toParty_any x _).mono ?_
  rintro e v22 ⟨rfl, y2⟩
  have oP := own_below oP y2
  have k2 : Hid (Below w0.heap.size w0 v22) := k1.out.trans (y2.mono k1.out.size)
  refine ⟨_, rfl, k2, ?_⟩
  simp only [Act.put, List.setIfInBounds_toArray, List.set_cons_zero, List.set_cons_succ]
  refine held_call 4 22 20 #[.slice P l.length pc, ptA x] rfl rfl (by kernel_rfl) rfl (exec_call Try.func20 (by kernel_rfl) (by kernel_rfl) _) ?_
  refine (C1.out P pc _ (own_cap oP) (own_nil oP) (own_rws oP)).mono ?_
  rintro e w2 ⟨Q, qc, rfl, oW, y3⟩
  have k3 : Hid (Below w0.heap.size w0 w2) := k2.out.trans (y3.mono k2.out.size)
  refine ⟨_, rfl, k3, ?_⟩
  simp only [Act.put, List.setIfInBounds_toArray, List.set_cons_zero, List.set_cons_succ]
  refine held_op 5 6 (.slice Q r.length qc) rfl rfl (by kernel_rfl) rfl rfl k3 ?_
  simp only [Act.put, List.setIfInBounds_toArray, List.set_cons_zero, List.set_cons_succ]
  refine wpAnyH_done (by kernel_rfl) ?_ _
  have oW := own_weak oW k2.out.size
  have oW_hi := own_block_lt oW
  have x2 := k3.out
  have Z2 := x2.size
  clear y1 y2 y3 k1 k2 k3 oP hHeld KE
  have hE := blk_call hE x2
  have bW := bW.trans (x2.mono bW.size)
  clear x2
  go_wp2_with fail
  refine (CT.out _ (rws_below hA bW)).mono ?_
  rintro e w3 ⟨X, xc, rfl, oX, x3⟩
  have Z3 := x3.size
  try simp only [World.size_alloc] at Z3
  have hE := blk_call hE x3
  have oW := own_below oW x3
  have bW := bW.trans (x3.mono bW.size)
  clear x3
  have oX_hi := own_block_lt oX
  try simp only [World.size_alloc] at oX
  have q0 := cell_of_row _ _ 0 _ _ _ hE
  have q1 := cell_of_row _ _ 1 _ _ _ hE
  have q2 := cell_of_row _ _ 2 _ _ _ hE
  have q3 := cell_of_row _ _ 3 _ _ _ hE
  have q4 := cell_of_row _ _ 4 _ _ _ hE
  have q5 := cell_of_row _ _ 5 _ _ _ hE
  have q6 := cell_of_row _ _ 6 _ _ _ hE
  have q7 := cell_of_row _ _ 7 _ _ _ hE
  have q8 := cell_of_row _ _ 8 _ _ _ hE
  have q9 := cell_of_row _ _ 9 _ _ _ hE
  simp at q0 q1 q2 q3 q4 q5 q6 q7 q8 q9
  go_wp2_with fail
  refine (CX.out _).mono ?_
  rintro e w49 ⟨rfl, x49⟩
  have Z49 := x49.size
  try simp only [World.size_alloc] at Z49
  have hE := blk_call hE x49
  have oW := own_below oW x49
  have oX := own_below oX x49
  have bW := bW.trans (x49.mono bW.size)
  clear q0 q1 q2 q3 q4 q5 q6 q7 q8 q9
  clear x49
  go_wp2_with fail
  refine (C2.out X xc _ (own_cap oX) (own_nil oX) (own_rws oX)).mono ?_
  rintro e w4 ⟨G, gc, rfl, oG, x4⟩
  have Z4 := x4.size
  try simp only [World.size_alloc] at Z4
  have hE := blk_call hE x4
  have oW := own_below oW x4
  have oX := own_below oX x4
  have bW := bW.trans (x4.mono bW.size)
  clear x4
  have oG_hi := own_block_lt oG
  try simp only [World.size_alloc] at oG
  go_wp2_with fail
  refine (CG.out G Q gc qc _ (own_rws oG) (own_rws oW)).mono ?_
  rintro e w5 ⟨rfl, x5⟩
  have Z5 := x5.size
  try simp only [World.size_alloc] at Z5
  have hE := blk_call hE x5
  have oW := own_below oW x5
  have oX := own_below oX x5
  have oG := own_below oG x5
  have bW := bW.trans (x5.mono bW.size)
  clear x5
  go_wp2_with fail
  refine (CT.out _ (rws_below hA bW)).mono ?_
  rintro e w6 ⟨Y, yc, rfl, oY, x6⟩
  have Z6 := x6.size
  try simp only [World.size_alloc] at Z6
  have hE := blk_call hE x6
  have oW := own_below oW x6
  have oX := own_below oX x6
  have oG := own_below oG x6
  have bW := bW.trans (x6.mono bW.size)
  clear x6
  have oY_hi := own_block_lt oY
  try simp only [World.size_alloc] at oY
  go_wp2_with fail
  refine (CE.out X Y xc yc _ (own_rws oX) (own_rws oY)).mono ?_
  rintro e w7 ⟨rfl, x7⟩
  have Z7 := x7.size
  try simp only [World.size_alloc] at Z7
  have hE := blk_call hE x7
  have oW := own_below oW x7
  have oX := own_below oX x7
  have oG := own_below oG x7
  have oY := own_below oY x7
  have bW := bW.trans (x7.mono bW.size)
  clear x7
  clear oY
  clear oY_hi
  go_wp2_with fail
  refine (CM.out X xc _ _ oX).mono ?_
  rintro e w8 ⟨rfl, -, g8⟩
  have hE := (g8.block _ (blk_lt hE) (fun e => by have h1 := own_low oX _ e.symm; have h2 := oX_hi _ e.symm; omega)).trans hE
  have oW := own_kept2 oW g8 (fun k hv e => by have h1 := oW_hi k hv; have h2 := own_low oW k hv; have h3 := oX_hi k e; have h4 := own_low oX k e; omega)
  have oG := own_kept2 oG g8 (fun k hv e => by have h1 := oG_hi k hv; have h2 := own_low oG k hv; have h3 := oX_hi k e; have h4 := own_low oX k e; omega)
  have Zg8 := g8.size
  have bW := bW.grown g8 bW.size (fun k hk => by have h1 := own_low oX k hk; have h2 := bW.size; omega)
  clear oX
  clear oX_hi
  clear g8
  go_wp2_with fail
  refine (CG.out G Q gc qc _ (own_rws oG) (own_rws oW)).mono ?_
  rintro e w9 ⟨rfl, x9⟩
  have Z9 := x9.size
  try simp only [World.size_alloc] at Z9
  have hE := blk_call hE x9
  have oW := own_below oW x9
  have oG := own_below oG x9
  have bW := bW.trans (x9.mono bW.size)
  clear x9
  go_wp2_with fail
  refine (CN.out G gc _ _ oG).mono ?_
  rintro e w10 ⟨rfl, oG2, g10⟩
  have hE := (g10.block _ (blk_lt hE) (fun e => by have h1 := own_low oG _ e.symm; have h2 := oG_hi _ e.symm; omega)).trans hE
  have oW := own_kept2 oW g10 (fun k hv e => by have h1 := oW_hi k hv; have h2 := own_low oW k hv; have h3 := oG_hi k e; have h4 := own_low oG k e; omega)
  have Zg10 := g10.size
  have bW := bW.grown g10 bW.size (fun k hk => by have h1 := own_low oG k hk; have h2 := bW.size; omega)
  clear oG
  clear g10
  have oG := oG2
  clear oG2
  go_wp2_with fail
  refine (CH.out G gc _ (own_rws oG)).mono ?_
  rintro e w' ⟨rfl, rfl⟩
  go_wp2_with fail
  have KE := Lib.hid (fun w' (h : Below w10.heap.size w10 w') => Pt.here.blk (blk_call hE h))
  refine wp_region_held_drew (S := fun w' => Hid (Below w10.heap.size w10 w')) (by kernel_rfl) (below_drawn (Below.refl _ _) 1) (fun hHeld => ?_)
  refine held_take 0 60 (.slice A l.length c) rfl rfl (by kernel_rfl) (by kernel_rfl) (by kernel_rfl) (fun _ _ _ h => h) rfl hHeld (fun w _ => rfl) ?_
  refine held_take 2 62 (ptA x) rfl rfl (by kernel_rfl) (by kernel_rfl) (by kernel_rfl) (fun _ _ _ h => h) rfl hHeld (fun w h => exec_load_lPt _ 0 x _ (KE.out _ h.out)) ?_
  simp only [Act.put, List.setIfInBounds_toArray, List.set_cons_zero, List.set_cons_succ]
  refine held_call 1 61 21 #[.slice A l.length c] rfl rfl (by kernel_rfl) rfl (exec_call Try.func21 (by kernel_rfl) (by kernel_rfl) _) ?_
  refine (CT.out _ (rws_below (rws_below hA bW) hHeld.out)).mono ?_
  rintro e v131 ⟨R, rc, rfl, oR, y1⟩
  have k1 : Hid (Below w10.heap.size w10 v131) := hHeld.out.trans (y1.mono hHeld.out.size)
  refine ⟨_, rfl, k1, ?_⟩
  simp only [Act.put, List.setIfInBounds_toArray, List.set_cons_zero, List.set_cons_succ]
  refine held_call 3 63 22 #[ptA x] rfl rfl (by kernel_rfl) rfl (exec_call Try.func22 (by kernel_rfl) (by kernel_rfl) _) ?_
  refine (toParty_any x _).mono ?_
  rintro e v132 ⟨rfl, y2⟩
  have oR := own_below oR y2
  have k2 : Hid (Below w10.heap.size w10 v132) := k1.out.trans (y2.mono k1.out.size)
  refine ⟨_, rfl, k2, ?_⟩
  simp only [Act.put, List.setIfInBounds_toArray, List.set_cons_zero, List.set_cons_succ]
  refine held_call 4 64 23 #[.slice R l.length rc, ptA x] rfl rfl (by kernel_rfl) rfl (exec_call Try.func23 (by kernel_rfl) (by kernel_rfl) _) ?_
  refine (C2.out R rc _ (own_cap oR) (own_nil oR) (own_rws oR)).mono ?_
  rintro e w13 ⟨H, hc, rfl, oH, y3⟩
  have k3 : Hid (Below w10.heap.size w10 w13) := k2.out.trans (y3.mono k2.out.size)
  refine ⟨_, rfl, k3, ?_⟩
  simp only [Act.put, List.setIfInBounds_toArray, List.set_cons_zero, List.set_cons_succ]
  refine held_op 5 12 (.slice H r.length hc) rfl rfl (by kernel_rfl) rfl rfl k3 ?_
  simp only [Act.put, List.setIfInBounds_toArray, List.set_cons_zero, List.set_cons_succ]
  refine wpAnyH_done (by kernel_rfl) ?_ _
  have oH := own_weak oH k2.out.size
  have oH_hi := own_block_lt oH
  have x13 := k3.out
  have Z13 := x13.size
  clear y1 y2 y3 k1 k2 k3 oR hHeld KE
  have hE := blk_call hE x13
  have oW := own_below oW x13
  have oG := own_below oG x13
  have bW := bW.trans (x13.mono bW.size)
  clear x13
  go_wp2_with fail
  refine (CG.out H Q hc qc _ (own_rws oH) (own_rws oW)).mono ?_
  rintro e w14 ⟨rfl, x14⟩
  have Z14 := x14.size
  try simp only [World.size_alloc] at Z14
  have hE := blk_call hE x14
  have oW := own_below oW x14
  have oG := own_below oG x14
  have oH := own_below oH x14
  have bW := bW.trans (x14.mono bW.size)
  clear x14
  go_wp2_with fail
  refine (CH.out G gc _ (own_rws oG)).mono ?_
  rintro e w' ⟨rfl, rfl⟩
  have HB := Lib.hid bW
  clear bW oH oG oW hE
  go_wp2
  go_ret
  exact ⟨rfl, HB.out⟩
end Go.Proofs.Ytlflgflmlfileaa
