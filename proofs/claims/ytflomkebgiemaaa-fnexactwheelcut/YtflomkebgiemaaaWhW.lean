/- The walks of the exact laws over wheels. -/
import Derived.Test.YtflomkebgiemaaaRows
import Derived.Test.YtflomkebgiemaaaWiS
import Derived.Deep.DeepCutAuto
namespace Go.Proofs.Ytflomkebgiemaaa
open Go.RowKit
set_option linter.unusedSimpArgs false
set_option linter.unusedVariables false
set_option maxRecDepth 100000 in
set_option maxHeartbeats 3200000 in
theorem FnExactWheelNew_walk (w : World) : Calls Try.prog 6 #[] w fun e w' => e = .returned (.bool true) ∧ Below w.heap.size w w' := by
  have bW := Below.refl w.heap.size w
  go_enter Try.func6, Try.ntmps6
  go_wp2_with fail
  refine (wheelNew_spec _).mono ?_
  rintro e u1 ⟨Q, qc, sq, rfl, hmq, oQ, x1⟩
  have bW := bW.trans (x1.mono bW.size)
  have Z1 := x1.size
  try simp only [World.size_alloc] at Z1
  have B1 := Bx.new oQ x1.size
  try simp only [World.size_alloc] at B1
  clear x1 oQ
  have xa : Below u1.heap.size u1 (u1.alloc (.cells #[.slice Q sq.length qc] 26)) := (Below.refl _ _).alloc (Nat.le_refl _) _
  have bW := bW.trans (xa.mono bW.size)
  have Z2 := xa.size
  try simp only [World.size_alloc] at Z2
  clear xa
  have r0 := B1.cell
  go_wp2_with fail
  refine (wheelNew_impl _).mono ?_
  rintro e u2 ⟨G, gc, sg, rfl, hmg, oG, apG, x2⟩
  clear r0
  have B1 := B1.call x2
  have bW := bW.trans (x2.mono bW.size)
  have Z3 := x2.size
  try simp only [World.size_alloc] at Z3
  have B2 := Bx.new oG x2.size
  try simp only [World.size_alloc] at B2
  clear x2 oG
  have xa : Below u2.heap.size u2 (u2.alloc (.cells #[.slice G sg.length gc] 26)) := (Below.refl _ _).alloc (Nat.le_refl _) _
  have B1 := B1.call xa
  have bW := bW.trans (xa.mono bW.size)
  have Z4 := xa.size
  try simp only [World.size_alloc] at Z4
  clear xa
  obtain ⟨hnq, hlq⟩ := SzW.of nine_sz hmq
  obtain ⟨hng, hlg⟩ := SzW.of nine_sz hmg
  have HE : Hid (sg.map (·.l) = sq.map (·.l)) := hmg.trans hmq.symm
  have HAP := Lib.hid apG
  clear apG
  have r0 := B1.cell
  have r1 := B2.cell
  go_wp2_with fail
  refine (eqWheel_same G Q sg sq gc qc _ (by omega) (by omega) B2.O.whl B1.O.whl HE.out).mono ?_
  rintro e u3 ⟨rfl, x3⟩
  clear r0 r1
  have B1 := B1.call x3
  have B2 := B2.call x3
  have bW := bW.trans (x3.mono bW.size)
  have Z5 := x3.size
  try simp only [World.size_alloc] at Z5
  clear x3
  obtain ⟨K, hK⟩ : ∃ K : Nat, 1 + (allPn sg).length * 2 = K := ⟨_, rfl⟩
  have CM := Lib.hid (fun w' lo (h : OwnW w' lo G gc sg) => markWheel_any G sg gc 1 lo w' (by omega) (by omega) (by omega) h HAP.out)
  have CH := Lib.hid (fun w' (h : Whl w' G (marksW 1 sg)) => heldWheel_any G sg gc 1 w' (by omega) (by omega) (by omega) h)
  rw [hK] at CM CH
  have nK : decide ((K : Int) < 0) = false := by simp
  have nQ : ((K : Int) != (K : Int)) = false := by simp
  clear hK
  have r0 := B1.cell
  have r1 := B2.cell
  go_wp2_with fail
  refine (CM.out _ _ B2.O).mono ?_
  rintro e u4 ⟨rfl, om, tm⟩
  clear r0 r1
  have B1 := B1.tch tm (fun q h1 h2 h3 => by have := B2.rng _ (.inr h3); omega)
  have bW := bW.trans (tm.below bW.size (fun q h => by have := B2.rng _ (.inr h); omega))
  have Z6 := tm.size
  try simp only [World.size_alloc] at Z6
  have B2 := B2.mark om tm
  clear om tm
  have r0 := B1.cell
  have r1 := B2.cell
  rw [marksW_length] at r1
  go_wp2_with fail
  refine (CH.out _ B2.O.whl).mono ?_
  rintro e u5 ⟨rfl, x5⟩
  clear r0 r1
  have B1 := B1.call x5
  have B2 := B2.call x5
  have bW := bW.trans (x5.mono bW.size)
  have Z7 := x5.size
  try simp only [World.size_alloc] at Z7
  clear x5
  have r0 := B1.cell
  have r1 := B2.cell
  rw [marksW_length] at r1
  go_wp2_with fail
  refine (wheelNew_impl _).mono ?_
  rintro e u6 ⟨H, hc, sh, rfl, hmh, oH, apH, x6⟩
  clear r0 r1
  have B1 := B1.call x6
  have B2 := B2.call x6
  have bW := bW.trans (x6.mono bW.size)
  have Z8 := x6.size
  try simp only [World.size_alloc] at Z8
  have B5 := Bx.new oH x6.size
  try simp only [World.size_alloc] at B5
  clear x6 oH
  have xa : Below u6.heap.size u6 (u6.alloc (.cells #[.slice H sh.length hc] 26)) := (Below.refl _ _).alloc (Nat.le_refl _) _
  have B1 := B1.call xa
  have B2 := B2.call xa
  have bW := bW.trans (xa.mono bW.size)
  have Z9 := xa.size
  try simp only [World.size_alloc] at Z9
  clear xa
  obtain ⟨hnh, hlh⟩ := SzW.of nine_sz hmh
  have HF : Hid (sh.map (·.l) = sq.map (·.l)) := hmh.trans hmq.symm
  have r0 := B1.cell
  have r1 := B2.cell
  rw [marksW_length] at r1
  have r2 := B5.cell
  go_wp2_with fail
  refine (eqWheel_same H Q sh sq hc qc _ (by omega) (by omega) B5.O.whl B1.O.whl HF.out).mono ?_
  rintro e u7 ⟨rfl, x7⟩
  clear r0 r1 r2
  have B1 := B1.call x7
  have B2 := B2.call x7
  have B5 := B5.call x7
  have bW := bW.trans (x7.mono bW.size)
  have Z10 := x7.size
  try simp only [World.size_alloc] at Z10
  clear x7
  have r0 := B1.cell
  have r1 := B2.cell
  rw [marksW_length] at r1
  have r2 := B5.cell
  go_wp2_with fail
  refine (CH.out _ B2.O.whl).mono ?_
  rintro e u8 ⟨rfl, x8⟩
  clear r0 r1 r2
  have B1 := B1.call x8
  have B2 := B2.call x8
  have B5 := B5.call x8
  have bW := bW.trans (x8.mono bW.size)
  have Z11 := x8.size
  try simp only [World.size_alloc] at Z11
  clear x8
  have r0 := B1.cell
  have r1 := B2.cell
  rw [marksW_length] at r1
  have r2 := B5.cell
  have HB := Lib.hid bW
  go_wp2
  go_ret
  exact ⟨rfl, HB.out⟩
set_option maxRecDepth 100000 in
set_option maxHeartbeats 6400000 in
theorem FnExactWheelOk_walk (A : Option Addr) (sp : List Sp) (c : Nat) (w : World) (hn0 : sp.length ≤ 9223372036854775807) (hl0 : ∀ s ∈ sp, s.l.length ≤ 9223372036854775807) (hf : FitL (sp.map (fun s => s.l))) (hA : Whl w A sp) :
    Calls Try.prog 7 #[.agg #[.slice A sp.length c]] w fun e w' => e = .returned (.bool true) ∧ Below w.heap.size w w' := by
  have CZ := Lib.hid (fun w' (h : Rws w' w'.heap.size A (sp.flatMap spC)) => szWheel_val A sp c 1048576 w' hn0 hl0 h (by omega) (by omega))
  obtain ⟨U0, hU0⟩ : ∃ U, (w.alloc (.cells #[.slice A sp.length c] 46)) = U := ⟨_, rfl⟩
  have HA : U0.heap[w.heap.size]? = some (.cells #[.slice A sp.length c] 46) := by rw [← hU0]; exact heap_new _ _
  have bW : Below w.heap.size w U0 := by rw [← hU0]; exact (Below.refl _ _).alloc (Nat.le_refl _) _
  have hU0s : w.heap.size < U0.heap.size := by rw [← hU0]; simp
  have HU := Lib.hid hU0
  clear hU0
  have HA0 := Lib.hid HA
  have bW0 := Lib.hid bW
  clear HA bW
  go_enter Try.func7, Try.ntmps7
  go_wp2_with fail
  rw [HU.out]
  refine (CZ.out _ (rws_below hA.row bW0.out)).mono ?_
  rintro e u0 ⟨rfl, x0⟩
  have HA := HA0.out
  have bW := bW0.out
  clear HA0 bW0 CZ HU
  have HA := blk_call HA x0
  have bW := bW.trans (x0.mono bW.size)
  have Z1 := x0.size
  try simp only [World.size_alloc] at Z1
  clear x0
  by_cases hz : szV 1048576 sp < 0
  · generalize szV 1048576 sp = z at *
    have HB := Lib.hid bW
    go_wp2
    go_ret
    exact ⟨rfl, HB.out⟩
  have hS := szV_ok (sp := sp) (by omega)
  generalize szV 1048576 sp = z at *
  obtain ⟨ls, hls⟩ : ∃ ls, sp.map (fun s => s.l) = ls := ⟨_, rfl⟩
  rw [hls] at hS hf
  have HLS := Lib.hid hls
  obtain ⟨hn1, hl1⟩ := SzW.of hS hls
  have HS := Lib.hid hS
  have HF := Lib.hid hf
  have CT : Hid (∀ w', Below w.heap.size w w' → Calls Try.prog 36 #[.agg #[.slice A sp.length c]] w' (NewX w' ls)) := fun w' h => by have := toWheel_any A sp c w' (by omega) (by omega) (hA.below h); rw [hls] at this; exact this
  have CE : Hid (∀ X Y sx sy xc yc w', sx.map (fun s => s.l) = ls → sy.map (fun s => s.l) = ls → Whl w' X sx → Whl w' Y sy → Calls Try.prog 31 #[.agg #[.slice X sx.length xc], .agg #[.slice Y sy.length yc]] w' fun e w'' => e = .returned (.bool true) ∧ Below w'.heap.size w' w'') := fun X Y sx sy xc yc w' h1 h2 h3 h4 => by obtain ⟨a1, a2⟩ := SzW.of hS h1; exact eqWheel_same X Y sx sy xc yc w' (by omega) (by omega) h3 h4 (h1.trans h2.symm)
  have C1 : Hid (∀ X sx xc w', sx.map (fun s => s.l) = ls → Whl w' X sx → Calls Try.prog 35 #[.agg #[.slice X sx.length xc]] w' fun e w'' => e = .returned (.bool (wheelB ls)) ∧ Below w'.heap.size w' w'') := fun X sx xc w' h1 h => by obtain ⟨a1, a2⟩ := SzW.of hS h1; have := wheelOk_spec X sx xc w' (by omega) (by omega) h; rw [h1] at this; exact this
  have C2 := Lib.hid (fun X sx xc w' h1 h => wheelOk_impl X sx xc w' ls h1 hS hf h)
  obtain ⟨R, hR⟩ : ∃ R, wheelB ls = R := ⟨_, rfl⟩
  rw [hR] at C1 C2
  have nB : (R != R) = false := by simp
  clear hR
  clear hls hf hS
  have q0 := cell_of_one HA
  go_wp2_with fail
  refine (CT.out _ bW).mono ?_
  rintro e u1 ⟨P, pc, sP, rfl, hmP, oP, -, x1⟩
  clear q0
  have oP9 := oP
  have HA := blk_call HA x1
  have bW := bW.trans (x1.mono bW.size)
  have Z2 := x1.size
  try simp only [World.size_alloc] at Z2
  clear x1
  have q0 := cell_of_one HA
  go_wp2_with fail
  refine (C1.out P sP pc _ hmP oP.whl).mono ?_
  rintro e u2 ⟨rfl, x2⟩
  clear q0
  have HA := blk_call HA x2
  have bW := bW.trans (x2.mono bW.size)
  have Z3 := x2.size
  try simp only [World.size_alloc] at Z3
  clear x2
  clear oP oP9 hmP
  have q0 := cell_of_one HA
  go_wp2_with fail
  refine (CT.out _ bW).mono ?_
  rintro e u3 ⟨X, xc, sx, rfl, hmx, oX, apX, x3⟩
  clear q0
  have HA := blk_call HA x3
  have bW := bW.trans (x3.mono bW.size)
  have Z4 := x3.size
  try simp only [World.size_alloc] at Z4
  have B5 := Bx.new oX x3.size
  try simp only [World.size_alloc] at B5
  clear x3 oX
  have xa : Below u3.heap.size u3 (u3.alloc (.cells #[.slice X sx.length xc] 26)) := (Below.refl _ _).alloc (Nat.le_refl _) _
  have HA := blk_call HA xa
  have bW := bW.trans (xa.mono bW.size)
  have Z5 := xa.size
  try simp only [World.size_alloc] at Z5
  clear xa
  have q0 := cell_of_one HA
  have r0 := B5.cell
  go_wp2_with fail
  refine (C2.out X sx xc _ hmx B5.O.whl).mono ?_
  rintro e u4 ⟨rfl, x4⟩
  clear q0 r0
  have HA := blk_call HA x4
  have B5 := B5.call x4
  have bW := bW.trans (x4.mono bW.size)
  have Z6 := x4.size
  try simp only [World.size_alloc] at Z6
  clear x4
  have q0 := cell_of_one HA
  have r0 := B5.cell
  go_wp2_with fail
  clear q0 r0
  have KB := Lib.hid (fun w' (h : Below u4.heap.size u4 w') => (B5.call h).cell)
  have KA := Lib.hid (fun w' (h : Below u4.heap.size u4 w') => cell_of_one (blk_call HA h))
  refine wp_region_held_drew (S := fun w' => Hid (Below u4.heap.size u4 w')) (by kernel_rfl) (below_drawn (Below.refl _ _) 1) (fun hHeld => ?_)
  refine held_take 0 22 (.agg #[.slice X sx.length xc]) rfl rfl (by kernel_rfl) (by kernel_rfl) (by kernel_rfl) (fun _ _ _ h => h) rfl hHeld (fun w h => exec_loadWh _ _ _ _ w (KB.out w h.out)) ?_
  refine held_take 1 23 (.agg #[.slice A sp.length c]) rfl rfl (by kernel_rfl) (by kernel_rfl) (by kernel_rfl) (fun _ _ _ h => h) rfl hHeld (fun w h => exec_load_lW _ _ _ _ w (KA.out w h.out)) ?_
  simp only [Act.put, List.setIfInBounds_toArray, List.set_cons_zero, List.set_cons_succ]
  refine held_call 2 24 36 #[.agg #[.slice A sp.length c]] rfl rfl (by kernel_rfl) rfl (exec_call Try.func36 (by kernel_rfl) (by kernel_rfl) _) ?_
  refine (CT.out _ (bW.trans (hHeld.out.mono bW.size))).mono ?_
  rintro e u51 ⟨Y, yc, sy, rfl, hmy, oY, -, y1⟩
  have k1 : Hid (Below u4.heap.size u4 u51) := hHeld.out.trans (y1.mono hHeld.out.size)
  refine ⟨_, rfl, k1, ?_⟩
  simp only [Act.put, List.setIfInBounds_toArray, List.set_cons_zero, List.set_cons_succ]
  refine held_call 3 25 31 #[.agg #[.slice X sx.length xc], .agg #[.slice Y sy.length yc]] rfl rfl (by kernel_rfl) rfl (exec_call Try.func31 (by kernel_rfl) (by kernel_rfl) _) ?_
  refine (CE.out X Y sx sy xc yc _ hmx hmy (B5.call k1.out).O.whl oY.whl).mono ?_
  rintro e u5 ⟨rfl, y2⟩
  have hHeld : Hid (Below u4.heap.size u4 u5) := k1.out.trans (y2.mono k1.out.size)
  refine ⟨_, rfl, hHeld, ?_⟩
  simp only [Act.put, List.setIfInBounds_toArray, List.set_cons_zero, List.set_cons_succ]
  refine held_take 4 26 (.bool false) rfl rfl (by kernel_rfl) (by kernel_rfl) (by kernel_rfl) (fun _ _ _ h => h) rfl hHeld (fun w _ => rfl) ?_
  simp only [Act.put, List.setIfInBounds_toArray, List.set_cons_zero, List.set_cons_succ]
  refine wpAnyH_done (by kernel_rfl) ?_ _
  have xr := hHeld.out
  clear hHeld k1 y1 y2 KA KB oY hmy
  have HA := blk_call HA xr
  have B5 := B5.call xr
  have bW := bW.trans (xr.mono bW.size)
  have Z7 := xr.size
  try simp only [World.size_alloc] at Z7
  clear xr
  have q0 := cell_of_one HA
  have r0 := B5.cell
  have HB := Lib.hid bW
  go_wp2
  go_ret
  exact ⟨rfl, HB.out⟩
set_option maxRecDepth 100000 in
set_option maxHeartbeats 6400000 in
theorem FnExactPinsOf_walk (A : Option Addr) (sp : List Sp) (c : Nat) (w : World) (hn0 : sp.length ≤ 9223372036854775807) (hl0 : ∀ s ∈ sp, s.l.length ≤ 9223372036854775807) (hf : FitL (sp.map (fun s => s.l))) (hA : Whl w A sp) :
    Calls Try.prog 10 #[.agg #[.slice A sp.length c]] w fun e w' => e = .returned (.bool true) ∧ Below w.heap.size w w' := by
  have CZ := Lib.hid (fun w' (h : Rws w' w'.heap.size A (sp.flatMap spC)) => szWheel_val A sp c 1048576 w' hn0 hl0 h (by omega) (by omega))
  obtain ⟨U0, hU0⟩ : ∃ U, (w.alloc (.cells #[.slice A sp.length c] 46)) = U := ⟨_, rfl⟩
  have HA : U0.heap[w.heap.size]? = some (.cells #[.slice A sp.length c] 46) := by rw [← hU0]; exact heap_new _ _
  have bW : Below w.heap.size w U0 := by rw [← hU0]; exact (Below.refl _ _).alloc (Nat.le_refl _) _
  have hU0s : w.heap.size < U0.heap.size := by rw [← hU0]; simp
  have HU := Lib.hid hU0
  clear hU0
  have HA0 := Lib.hid HA
  have bW0 := Lib.hid bW
  clear HA bW
  go_enter Try.func10, Try.ntmps10
  go_wp2_with fail
  rw [HU.out]
  refine (CZ.out _ (rws_below hA.row bW0.out)).mono ?_
  rintro e u0 ⟨rfl, x0⟩
  have HA := HA0.out
  have bW := bW0.out
  clear HA0 bW0 CZ HU
  have HA := blk_call HA x0
  have bW := bW.trans (x0.mono bW.size)
  have Z1 := x0.size
  try simp only [World.size_alloc] at Z1
  clear x0
  by_cases hz : szV 1048576 sp < 0
  · generalize szV 1048576 sp = z at *
    have HB := Lib.hid bW
    go_wp2
    go_ret
    exact ⟨rfl, HB.out⟩
  have hS := szV_ok (sp := sp) (by omega)
  generalize szV 1048576 sp = z at *
  obtain ⟨ls, hls⟩ : ∃ ls, sp.map (fun s => s.l) = ls := ⟨_, rfl⟩
  rw [hls] at hS hf
  have HLS := Lib.hid hls
  obtain ⟨hn1, hl1⟩ := SzW.of hS hls
  have HS := Lib.hid hS
  have HF := Lib.hid hf
  have CT : Hid (∀ w', Below w.heap.size w w' → Calls Try.prog 36 #[.agg #[.slice A sp.length c]] w' (NewX w' ls)) := fun w' h => by have := toWheel_any A sp c w' (by omega) (by omega) (hA.below h); rw [hls] at this; exact this
  have CE : Hid (∀ X Y sx sy xc yc w', sx.map (fun s => s.l) = ls → sy.map (fun s => s.l) = ls → Whl w' X sx → Whl w' Y sy → Calls Try.prog 31 #[.agg #[.slice X sx.length xc], .agg #[.slice Y sy.length yc]] w' fun e w'' => e = .returned (.bool true) ∧ Below w'.heap.size w' w'') := fun X Y sx sy xc yc w' h1 h2 h3 h4 => by obtain ⟨a1, a2⟩ := SzW.of hS h1; exact eqWheel_same X Y sx sy xc yc w' (by omega) (by omega) h3 h4 (h1.trans h2.symm)
  have C1 : Hid (∀ X sx xc w', sx.map (fun s => s.l) = ls → Whl w' X sx → Calls Try.prog 17 #[.agg #[.slice X sx.length xc]] w' (NewR 33 2 w' (pinsW ls).length ((pinsW ls).flatMap pnC))) := fun X sx xc w' h1 h => by obtain ⟨a1, a2⟩ := SzW.of hS h1; have := pinsOf_spec X sx xc w' (by omega) (by omega) h; rw [h1] at this; exact this
  have C2 := Lib.hid (fun X sx xc w' h1 h => pinsOf_impl X sx xc w' ls h1 hS hf h)
  have hrl : (pinsW ls).length ≤ 10 := pinsW_len ls
  obtain ⟨r, hr⟩ : ∃ r, pinsW ls = r := ⟨_, rfl⟩
  rw [hr] at C1 C2 hrl
  clear hr
  have CG := Lib.hid (fun X Y xc yc w' h h' => eqPinS_same X Y r xc yc w' (by omega) h h')
  obtain ⟨K, hK⟩ : ∃ K : Nat, 1 + r.length * 2 = K := ⟨_, rfl⟩
  have CN := Lib.hid (fun X xc base w' h => markPinS_any X r 1 xc base w' (by omega) (by omega) h)
  have CH := Lib.hid (fun X xc w' h => heldPinS_any X 1 r.length xc w' (by omega) (by omega) h)
  rw [hK] at CN CH
  have nK : decide ((K : Int) < 0) = false := by simp
  have nQ : ((K : Int) != (K : Int)) = false := by simp
  clear hK
  clear hls hf hS
  have q0 := cell_of_one HA
  go_wp2_with fail
  refine (CT.out _ bW).mono ?_
  rintro e u1 ⟨P, pc, sP, rfl, hmP, oP, -, x1⟩
  clear q0
  have HA := blk_call HA x1
  have bW := bW.trans (x1.mono bW.size)
  have Z2 := x1.size
  try simp only [World.size_alloc] at Z2
  clear x1
  have q0 := cell_of_one HA
  go_wp2_with fail
  refine (C1.out P sP pc _ hmP oP.whl).mono ?_
  rintro e u2 ⟨Q, qc, rfl, oQ, x2⟩
  clear q0
  have HA := blk_call HA x2
  have bW := bW.trans (x2.mono bW.size)
  have Z3 := x2.size
  try simp only [World.size_alloc] at Z3
  have oQ_rg0 := fun q h => World.ownsRow.lt oQ q h
  try simp only [World.size_alloc] at oQ oQ_rg0
  have oQ_rg := Lib.hid oQ_rg0
  clear x2 oQ_rg0
  clear oP hmP
  have q0 := cell_of_one HA
  go_wp2_with fail
  refine (CT.out _ bW).mono ?_
  rintro e u3 ⟨X, xc, sx, rfl, hmx, oX, apX, x3⟩
  clear q0
  have HA := blk_call HA x3
  have oQ := own_below oQ x3
  have bW := bW.trans (x3.mono bW.size)
  have Z4 := x3.size
  try simp only [World.size_alloc] at Z4
  have B5 := Bx.new oX x3.size
  try simp only [World.size_alloc] at B5
  clear x3 oX
  have xa : Below u3.heap.size u3 (u3.alloc (.cells #[.slice X sx.length xc] 26)) := (Below.refl _ _).alloc (Nat.le_refl _) _
  have HA := blk_call HA xa
  have oQ := own_below oQ xa
  have bW := bW.trans (xa.mono bW.size)
  have Z5 := xa.size
  try simp only [World.size_alloc] at Z5
  clear xa
  have HAX := Lib.hid apX
  have HSX := SzW.of HS.out hmx
  obtain ⟨hnx, hlx⟩ := HSX
  clear apX
  have q0 := cell_of_one HA
  have r0 := B5.cell
  go_wp2_with fail
  refine (C2.out X sx xc _ hmx B5.O.whl).mono ?_
  rintro e u4 ⟨G, gc, rfl, oG, x4⟩
  clear q0 r0
  have HA := blk_call HA x4
  have B5 := B5.call x4
  have oQ := own_below oQ x4
  have bW := bW.trans (x4.mono bW.size)
  have Z6 := x4.size
  try simp only [World.size_alloc] at Z6
  have oG_rg0 := fun q h => World.ownsRow.lt oG q h
  try simp only [World.size_alloc] at oG oG_rg0
  have oG_rg := Lib.hid oG_rg0
  clear x4 oG_rg0
  have q0 := cell_of_one HA
  have r0 := B5.cell
  go_wp2_with fail
  refine (CG.out G Q gc qc _ (own_rws oG) (own_rws oQ)).mono ?_
  rintro e u5 ⟨rfl, x5⟩
  clear q0 r0
  have HA := blk_call HA x5
  have B5 := B5.call x5
  have oQ := own_below oQ x5
  have oG := own_below oG x5
  have bW := bW.trans (x5.mono bW.size)
  have Z7 := x5.size
  try simp only [World.size_alloc] at Z7
  clear x5
  have q0 := cell_of_one HA
  have r0 := B5.cell
  go_wp2_with fail
  clear q0 r0
  have KB := Lib.hid (fun w' (h : Below u5.heap.size u5 w') => (B5.call h).cell)
  have KA := Lib.hid (fun w' (h : Below u5.heap.size u5 w') => cell_of_one (blk_call HA h))
  refine wp_region_held_drew (S := fun w' => Hid (Below u5.heap.size u5 w')) (by kernel_rfl) (below_drawn (Below.refl _ _) 1) (fun hHeld => ?_)
  refine held_take 0 27 (.agg #[.slice X sx.length xc]) rfl rfl (by kernel_rfl) (by kernel_rfl) (by kernel_rfl) (fun _ _ _ h => h) rfl hHeld (fun w h => exec_loadWh _ _ _ _ w (KB.out w h.out)) ?_
  refine held_take 1 28 (.agg #[.slice A sp.length c]) rfl rfl (by kernel_rfl) (by kernel_rfl) (by kernel_rfl) (fun _ _ _ h => h) rfl hHeld (fun w h => exec_load_lW _ _ _ _ w (KA.out w h.out)) ?_
  simp only [Act.put, List.setIfInBounds_toArray, List.set_cons_zero, List.set_cons_succ]
  refine held_call 2 29 36 #[.agg #[.slice A sp.length c]] rfl rfl (by kernel_rfl) rfl (exec_call Try.func36 (by kernel_rfl) (by kernel_rfl) _) ?_
  refine (CT.out _ (bW.trans (hHeld.out.mono bW.size))).mono ?_
  rintro e u61 ⟨Y, yc, sy, rfl, hmy, oY, -, y1⟩
  have k1 : Hid (Below u5.heap.size u5 u61) := hHeld.out.trans (y1.mono hHeld.out.size)
  refine ⟨_, rfl, k1, ?_⟩
  simp only [Act.put, List.setIfInBounds_toArray, List.set_cons_zero, List.set_cons_succ]
  refine held_call 3 30 31 #[.agg #[.slice X sx.length xc], .agg #[.slice Y sy.length yc]] rfl rfl (by kernel_rfl) rfl (exec_call Try.func31 (by kernel_rfl) (by kernel_rfl) _) ?_
  refine (CE.out X Y sx sy xc yc _ hmx hmy (B5.call k1.out).O.whl oY.whl).mono ?_
  rintro e u6 ⟨rfl, y2⟩
  have hHeld : Hid (Below u5.heap.size u5 u6) := k1.out.trans (y2.mono k1.out.size)
  refine ⟨_, rfl, hHeld, ?_⟩
  simp only [Act.put, List.setIfInBounds_toArray, List.set_cons_zero, List.set_cons_succ]
  refine held_take 4 31 (.bool false) rfl rfl (by kernel_rfl) (by kernel_rfl) (by kernel_rfl) (fun _ _ _ h => h) rfl hHeld (fun w _ => rfl) ?_
  simp only [Act.put, List.setIfInBounds_toArray, List.set_cons_zero, List.set_cons_succ]
  refine wpAnyH_done (by kernel_rfl) ?_ _
  have xr := hHeld.out
  clear hHeld k1 y1 y2 KA KB oY hmy
  have HA := blk_call HA xr
  have B5 := B5.call xr
  have oQ := own_below oQ xr
  have oG := own_below oG xr
  have bW := bW.trans (xr.mono bW.size)
  have Z8 := xr.size
  try simp only [World.size_alloc] at Z8
  clear xr
  have hlm : (allPn sx).length ≤ 1048575 := hlx
  obtain ⟨M, hM⟩ : ∃ M : Nat, 1 + (allPn sx).length * 2 = M := ⟨_, rfl⟩
  have CM := Lib.hid (fun w' lo (h : OwnW w' lo X xc sx) => markWheel_any X sx xc 1 lo w' (by omega) (by omega) (by omega) h HAX.out)
  rw [hM] at CM
  have nM : decide ((M : Int) < 0) = false := by simp
  clear hM
  have q0 := cell_of_one HA
  have r0 := B5.cell
  go_wp2_with fail
  refine (CM.out _ _ B5.O).mono ?_
  rintro e u7 ⟨rfl, om, tm⟩
  clear q0 r0
  have HA := tm.blk HA (fun h => by have := B5.rng _ (.inr h); omega)
  have oQ := tm.own oQ (fun q h1 h2 => by have := B5.rng _ (.inr h2); have := oQ_rg.out q h1; omega)
  have oG := tm.own oG (fun q h1 h2 => by have := B5.rng _ (.inr h2); have := oG_rg.out q h1; omega)
  have bW := bW.trans (tm.below bW.size (fun q h => by have := B5.rng _ (.inr h); omega))
  have Z9 := tm.size
  try simp only [World.size_alloc] at Z9
  have B5 := B5.mark om tm
  clear om tm
  clear B5
  have q0 := cell_of_one HA
  go_wp2_with fail
  refine (CG.out G Q gc qc _ (own_rws oG) (own_rws oQ)).mono ?_
  rintro e u8 ⟨rfl, x8⟩
  clear q0
  have HA := blk_call HA x8
  have oQ := own_below oQ x8
  have oG := own_below oG x8
  have bW := bW.trans (x8.mono bW.size)
  have Z10 := x8.size
  try simp only [World.size_alloc] at Z10
  clear x8
  have q0 := cell_of_one HA
  go_wp2_with fail
  refine (CN.out G gc _ _ oG).mono ?_
  rintro e u9 ⟨rfl, om, gm⟩
  clear q0
  have tm := Tch.of_grown (P := fun i => _ = some i) gm (fun i h => h)
  have HA := tm.blk HA (fun h => by have := oG_rg.out _ h; omega)
  have oQ := tm.own oQ (fun q h1 h2 => by have := oG_rg.out _ h2; have := oQ_rg.out q h1; omega)
  have bW := bW.trans (tm.below bW.size (fun q h => by have := oG_rg.out _ h; omega))
  have Z11 := tm.size
  try simp only [World.size_alloc] at Z11
  have oG := om
  clear om tm gm
  have q0 := cell_of_one HA
  go_wp2_with fail
  refine (CH.out G gc _ (own_rws oG)).mono ?_
  rintro e w' ⟨rfl, rfl⟩
  clear q0
  have q0 := cell_of_one HA
  go_wp2_with fail
  refine (CT.out _ bW).mono ?_
  rintro e u10 ⟨R, rc, sR, rfl, hmR, oR, -, x10⟩
  clear q0
  have HA := blk_call HA x10
  have oQ := own_below oQ x10
  have oG := own_below oG x10
  have bW := bW.trans (x10.mono bW.size)
  have Z12 := x10.size
  try simp only [World.size_alloc] at Z12
  clear x10
  have q0 := cell_of_one HA
  go_wp2_with fail
  refine (C2.out R sR rc _ hmR oR.whl).mono ?_
  rintro e u11 ⟨H, hc, rfl, oH, x11⟩
  clear q0
  have HA := blk_call HA x11
  have oQ := own_below oQ x11
  have oG := own_below oG x11
  have bW := bW.trans (x11.mono bW.size)
  have Z13 := x11.size
  try simp only [World.size_alloc] at Z13
  have oH_rg0 := fun q h => World.ownsRow.lt oH q h
  try simp only [World.size_alloc] at oH oH_rg0
  have oH_rg := Lib.hid oH_rg0
  clear x11 oH_rg0
  clear oR hmR
  have q0 := cell_of_one HA
  go_wp2_with fail
  refine (CG.out H Q hc qc _ (own_rws oH) (own_rws oQ)).mono ?_
  rintro e u12 ⟨rfl, x12⟩
  clear q0
  have HA := blk_call HA x12
  have oQ := own_below oQ x12
  have oG := own_below oG x12
  have oH := own_below oH x12
  have bW := bW.trans (x12.mono bW.size)
  have Z14 := x12.size
  try simp only [World.size_alloc] at Z14
  clear x12
  have q0 := cell_of_one HA
  go_wp2_with fail
  refine (CH.out G gc _ (own_rws oG)).mono ?_
  rintro e w' ⟨rfl, rfl⟩
  clear q0
  have q0 := cell_of_one HA
  have HB := Lib.hid bW
  go_wp2
  go_ret
  exact ⟨rfl, HB.out⟩
set_option maxRecDepth 100000 in
set_option maxHeartbeats 6400000 in
theorem FnExactPinsDue_walk (A : Option Addr) (sp : List Sp) (c : Nat) (now : Int) (w : World) (hn0 : sp.length ≤ 9223372036854775807) (hl0 : ∀ s ∈ sp, s.l.length ≤ 9223372036854775807) (hf : FitL (sp.map (fun s => s.l))) (hA : Whl w A sp) :
    Calls Try.prog 11 #[.agg #[.slice A sp.length c], .int .i64 now] w fun e w' => e = .returned (.bool true) ∧ Below w.heap.size w w' := by
  have CZ := Lib.hid (fun w' (h : Rws w' w'.heap.size A (sp.flatMap spC)) => szWheel_val A sp c 1048576 w' hn0 hl0 h (by omega) (by omega))
  obtain ⟨U0, hU0⟩ : ∃ U, (w.alloc (.cells #[.slice A sp.length c] 46)) = U := ⟨_, rfl⟩
  have HA : U0.heap[w.heap.size]? = some (.cells #[.slice A sp.length c] 46) := by rw [← hU0]; exact heap_new _ _
  have bW : Below w.heap.size w U0 := by rw [← hU0]; exact (Below.refl _ _).alloc (Nat.le_refl _) _
  have hU0s : w.heap.size < U0.heap.size := by rw [← hU0]; simp
  have HU := Lib.hid hU0
  clear hU0
  have HA0 := Lib.hid HA
  have bW0 := Lib.hid bW
  clear HA bW
  go_enter Try.func11, Try.ntmps11
  go_wp2_with fail
  rw [HU.out]
  refine (CZ.out _ (rws_below hA.row bW0.out)).mono ?_
  rintro e u0 ⟨rfl, x0⟩
  have HA := HA0.out
  have bW := bW0.out
  clear HA0 bW0 CZ HU
  have HA := blk_call HA x0
  have bW := bW.trans (x0.mono bW.size)
  have Z1 := x0.size
  try simp only [World.size_alloc] at Z1
  clear x0
  by_cases hz : szV 1048576 sp < 0
  · generalize szV 1048576 sp = z at *
    have HB := Lib.hid bW
    go_wp2
    go_ret
    exact ⟨rfl, HB.out⟩
  have hS := szV_ok (sp := sp) (by omega)
  generalize szV 1048576 sp = z at *
  obtain ⟨ls, hls⟩ : ∃ ls, sp.map (fun s => s.l) = ls := ⟨_, rfl⟩
  rw [hls] at hS hf
  have HLS := Lib.hid hls
  obtain ⟨hn1, hl1⟩ := SzW.of hS hls
  have HS := Lib.hid hS
  have HF := Lib.hid hf
  have CT : Hid (∀ w', Below w.heap.size w w' → Calls Try.prog 36 #[.agg #[.slice A sp.length c]] w' (NewX w' ls)) := fun w' h => by have := toWheel_any A sp c w' (by omega) (by omega) (hA.below h); rw [hls] at this; exact this
  have CE : Hid (∀ X Y sx sy xc yc w', sx.map (fun s => s.l) = ls → sy.map (fun s => s.l) = ls → Whl w' X sx → Whl w' Y sy → Calls Try.prog 31 #[.agg #[.slice X sx.length xc], .agg #[.slice Y sy.length yc]] w' fun e w'' => e = .returned (.bool true) ∧ Below w'.heap.size w' w'') := fun X Y sx sy xc yc w' h1 h2 h3 h4 => by obtain ⟨a1, a2⟩ := SzW.of hS h1; exact eqWheel_same X Y sx sy xc yc w' (by omega) (by omega) h3 h4 (h1.trans h2.symm)
  have C1 : Hid (∀ X sx xc w', sx.map (fun s => s.l) = ls → Whl w' X sx → Calls Try.prog 42 #[.agg #[.slice X sx.length xc], .int .i64 now] w' (NewR 33 2 w' (dueV ls now).length ((dueV ls now).flatMap pnC))) := fun X sx xc w' h1 h => by obtain ⟨a1, a2⟩ := SzW.of hS h1; have := pinsDue_spec X sx xc now w' (by omega) (by omega) h; rw [h1] at this; exact this
  have C2 := Lib.hid (fun X sx xc w' h1 h => pinsDue_impl X sx xc now w' ls h1 hS hf h)
  have hrl : (dueV ls now).length ≤ 10 := dueV_len ls now
  obtain ⟨r, hr⟩ : ∃ r, dueV ls now = r := ⟨_, rfl⟩
  rw [hr] at C1 C2 hrl
  clear hr
  have CG := Lib.hid (fun X Y xc yc w' h h' => eqPinS_same X Y r xc yc w' (by omega) h h')
  obtain ⟨K, hK⟩ : ∃ K : Nat, 1 + r.length * 2 = K := ⟨_, rfl⟩
  have CN := Lib.hid (fun X xc base w' h => markPinS_any X r 1 xc base w' (by omega) (by omega) h)
  have CH := Lib.hid (fun X xc w' h => heldPinS_any X 1 r.length xc w' (by omega) (by omega) h)
  rw [hK] at CN CH
  have nK : decide ((K : Int) < 0) = false := by simp
  have nQ : ((K : Int) != (K : Int)) = false := by simp
  clear hK
  clear hls hf hS
  have q0 := cell_of_one HA
  go_wp2_with fail
  refine (CT.out _ bW).mono ?_
  rintro e u1 ⟨P, pc, sP, rfl, hmP, oP, -, x1⟩
  clear q0
  have HA := blk_call HA x1
  have bW := bW.trans (x1.mono bW.size)
  have Z2 := x1.size
  try simp only [World.size_alloc] at Z2
  clear x1
  have q0 := cell_of_one HA
  go_wp2_with fail
  refine (C1.out P sP pc _ hmP oP.whl).mono ?_
  rintro e u2 ⟨Q, qc, rfl, oQ, x2⟩
  clear q0
  have HA := blk_call HA x2
  have bW := bW.trans (x2.mono bW.size)
  have Z3 := x2.size
  try simp only [World.size_alloc] at Z3
  have oQ_rg0 := fun q h => World.ownsRow.lt oQ q h
  try simp only [World.size_alloc] at oQ oQ_rg0
  have oQ_rg := Lib.hid oQ_rg0
  clear x2 oQ_rg0
  clear oP hmP
  have q0 := cell_of_one HA
  go_wp2_with fail
  refine (CT.out _ bW).mono ?_
  rintro e u3 ⟨X, xc, sx, rfl, hmx, oX, apX, x3⟩
  clear q0
  have HA := blk_call HA x3
  have oQ := own_below oQ x3
  have bW := bW.trans (x3.mono bW.size)
  have Z4 := x3.size
  try simp only [World.size_alloc] at Z4
  have B5 := Bx.new oX x3.size
  try simp only [World.size_alloc] at B5
  clear x3 oX
  have xa : Below u3.heap.size u3 (u3.alloc (.cells #[.slice X sx.length xc] 26)) := (Below.refl _ _).alloc (Nat.le_refl _) _
  have HA := blk_call HA xa
  have oQ := own_below oQ xa
  have bW := bW.trans (xa.mono bW.size)
  have Z5 := xa.size
  try simp only [World.size_alloc] at Z5
  clear xa
  have HAX := Lib.hid apX
  have HSX := SzW.of HS.out hmx
  obtain ⟨hnx, hlx⟩ := HSX
  clear apX
  have q0 := cell_of_one HA
  have r0 := B5.cell
  go_wp2_with fail
  refine (C2.out X sx xc _ hmx B5.O.whl).mono ?_
  rintro e u4 ⟨G, gc, rfl, oG, x4⟩
  clear q0 r0
  have HA := blk_call HA x4
  have B5 := B5.call x4
  have oQ := own_below oQ x4
  have bW := bW.trans (x4.mono bW.size)
  have Z6 := x4.size
  try simp only [World.size_alloc] at Z6
  have oG_rg0 := fun q h => World.ownsRow.lt oG q h
  try simp only [World.size_alloc] at oG oG_rg0
  have oG_rg := Lib.hid oG_rg0
  clear x4 oG_rg0
  have q0 := cell_of_one HA
  have r0 := B5.cell
  go_wp2_with fail
  refine (CG.out G Q gc qc _ (own_rws oG) (own_rws oQ)).mono ?_
  rintro e u5 ⟨rfl, x5⟩
  clear q0 r0
  have HA := blk_call HA x5
  have B5 := B5.call x5
  have oQ := own_below oQ x5
  have oG := own_below oG x5
  have bW := bW.trans (x5.mono bW.size)
  have Z7 := x5.size
  try simp only [World.size_alloc] at Z7
  clear x5
  have q0 := cell_of_one HA
  have r0 := B5.cell
  go_wp2_with fail
  clear q0 r0
  have KB := Lib.hid (fun w' (h : Below u5.heap.size u5 w') => (B5.call h).cell)
  have KA := Lib.hid (fun w' (h : Below u5.heap.size u5 w') => cell_of_one (blk_call HA h))
  refine wp_region_held_drew (S := fun w' => Hid (Below u5.heap.size u5 w')) (by kernel_rfl) (below_drawn (Below.refl _ _) 1) (fun hHeld => ?_)
  refine held_take 0 31 (.agg #[.slice X sx.length xc]) rfl rfl (by kernel_rfl) (by kernel_rfl) (by kernel_rfl) (fun _ _ _ h => h) rfl hHeld (fun w h => exec_loadWh _ _ _ _ w (KB.out w h.out)) ?_
  refine held_take 1 32 (.agg #[.slice A sp.length c]) rfl rfl (by kernel_rfl) (by kernel_rfl) (by kernel_rfl) (fun _ _ _ h => h) rfl hHeld (fun w h => exec_load_lW _ _ _ _ w (KA.out w h.out)) ?_
  simp only [Act.put, List.setIfInBounds_toArray, List.set_cons_zero, List.set_cons_succ]
  refine held_call 2 33 36 #[.agg #[.slice A sp.length c]] rfl rfl (by kernel_rfl) rfl (exec_call Try.func36 (by kernel_rfl) (by kernel_rfl) _) ?_
  refine (CT.out _ (bW.trans (hHeld.out.mono bW.size))).mono ?_
  rintro e u61 ⟨Y, yc, sy, rfl, hmy, oY, -, y1⟩
  have k1 : Hid (Below u5.heap.size u5 u61) := hHeld.out.trans (y1.mono hHeld.out.size)
  refine ⟨_, rfl, k1, ?_⟩
  simp only [Act.put, List.setIfInBounds_toArray, List.set_cons_zero, List.set_cons_succ]
  refine held_call 3 34 31 #[.agg #[.slice X sx.length xc], .agg #[.slice Y sy.length yc]] rfl rfl (by kernel_rfl) rfl (exec_call Try.func31 (by kernel_rfl) (by kernel_rfl) _) ?_
  refine (CE.out X Y sx sy xc yc _ hmx hmy (B5.call k1.out).O.whl oY.whl).mono ?_
  rintro e u6 ⟨rfl, y2⟩
  have hHeld : Hid (Below u5.heap.size u5 u6) := k1.out.trans (y2.mono k1.out.size)
  refine ⟨_, rfl, hHeld, ?_⟩
  simp only [Act.put, List.setIfInBounds_toArray, List.set_cons_zero, List.set_cons_succ]
  refine held_take 4 35 (.bool false) rfl rfl (by kernel_rfl) (by kernel_rfl) (by kernel_rfl) (fun _ _ _ h => h) rfl hHeld (fun w _ => rfl) ?_
  simp only [Act.put, List.setIfInBounds_toArray, List.set_cons_zero, List.set_cons_succ]
  refine wpAnyH_done (by kernel_rfl) ?_ _
  have xr := hHeld.out
  clear hHeld k1 y1 y2 KA KB oY hmy
  have HA := blk_call HA xr
  have B5 := B5.call xr
  have oQ := own_below oQ xr
  have oG := own_below oG xr
  have bW := bW.trans (xr.mono bW.size)
  have Z8 := xr.size
  try simp only [World.size_alloc] at Z8
  clear xr
  have hlm : (allPn sx).length ≤ 1048575 := hlx
  obtain ⟨M, hM⟩ : ∃ M : Nat, 1 + (allPn sx).length * 2 = M := ⟨_, rfl⟩
  have CM := Lib.hid (fun w' lo (h : OwnW w' lo X xc sx) => markWheel_any X sx xc 1 lo w' (by omega) (by omega) (by omega) h HAX.out)
  rw [hM] at CM
  have nM : decide ((M : Int) < 0) = false := by simp
  clear hM
  have q0 := cell_of_one HA
  have r0 := B5.cell
  go_wp2_with fail
  refine (CM.out _ _ B5.O).mono ?_
  rintro e u7 ⟨rfl, om, tm⟩
  clear q0 r0
  have HA := tm.blk HA (fun h => by have := B5.rng _ (.inr h); omega)
  have oQ := tm.own oQ (fun q h1 h2 => by have := B5.rng _ (.inr h2); have := oQ_rg.out q h1; omega)
  have oG := tm.own oG (fun q h1 h2 => by have := B5.rng _ (.inr h2); have := oG_rg.out q h1; omega)
  have bW := bW.trans (tm.below bW.size (fun q h => by have := B5.rng _ (.inr h); omega))
  have Z9 := tm.size
  try simp only [World.size_alloc] at Z9
  have B5 := B5.mark om tm
  clear om tm
  clear B5
  have q0 := cell_of_one HA
  go_wp2_with fail
  refine (CG.out G Q gc qc _ (own_rws oG) (own_rws oQ)).mono ?_
  rintro e u8 ⟨rfl, x8⟩
  clear q0
  have HA := blk_call HA x8
  have oQ := own_below oQ x8
  have oG := own_below oG x8
  have bW := bW.trans (x8.mono bW.size)
  have Z10 := x8.size
  try simp only [World.size_alloc] at Z10
  clear x8
  have q0 := cell_of_one HA
  go_wp2_with fail
  refine (CN.out G gc _ _ oG).mono ?_
  rintro e u9 ⟨rfl, om, gm⟩
  clear q0
  have tm := Tch.of_grown (P := fun i => _ = some i) gm (fun i h => h)
  have HA := tm.blk HA (fun h => by have := oG_rg.out _ h; omega)
  have oQ := tm.own oQ (fun q h1 h2 => by have := oG_rg.out _ h2; have := oQ_rg.out q h1; omega)
  have bW := bW.trans (tm.below bW.size (fun q h => by have := oG_rg.out _ h; omega))
  have Z11 := tm.size
  try simp only [World.size_alloc] at Z11
  have oG := om
  clear om tm gm
  have q0 := cell_of_one HA
  go_wp2_with fail
  refine (CH.out G gc _ (own_rws oG)).mono ?_
  rintro e w' ⟨rfl, rfl⟩
  clear q0
  have q0 := cell_of_one HA
  go_wp2_with fail
  refine (CT.out _ bW).mono ?_
  rintro e u10 ⟨R, rc, sR, rfl, hmR, oR, -, x10⟩
  clear q0
  have HA := blk_call HA x10
  have oQ := own_below oQ x10
  have oG := own_below oG x10
  have bW := bW.trans (x10.mono bW.size)
  have Z12 := x10.size
  try simp only [World.size_alloc] at Z12
  clear x10
  have q0 := cell_of_one HA
  go_wp2_with fail
  refine (C2.out R sR rc _ hmR oR.whl).mono ?_
  rintro e u11 ⟨H, hc, rfl, oH, x11⟩
  clear q0
  have HA := blk_call HA x11
  have oQ := own_below oQ x11
  have oG := own_below oG x11
  have bW := bW.trans (x11.mono bW.size)
  have Z13 := x11.size
  try simp only [World.size_alloc] at Z13
  have oH_rg0 := fun q h => World.ownsRow.lt oH q h
  try simp only [World.size_alloc] at oH oH_rg0
  have oH_rg := Lib.hid oH_rg0
  clear x11 oH_rg0
  clear oR hmR
  have q0 := cell_of_one HA
  go_wp2_with fail
  refine (CG.out H Q hc qc _ (own_rws oH) (own_rws oQ)).mono ?_
  rintro e u12 ⟨rfl, x12⟩
  clear q0
  have HA := blk_call HA x12
  have oQ := own_below oQ x12
  have oG := own_below oG x12
  have oH := own_below oH x12
  have bW := bW.trans (x12.mono bW.size)
  have Z14 := x12.size
  try simp only [World.size_alloc] at Z14
  clear x12
  have q0 := cell_of_one HA
  go_wp2_with fail
  refine (CH.out G gc _ (own_rws oG)).mono ?_
  rintro e w' ⟨rfl, rfl⟩
  clear q0
  have q0 := cell_of_one HA
  have HB := Lib.hid bW
  go_wp2
  go_ret
  exact ⟨rfl, HB.out⟩
set_option maxRecDepth 100000 in
set_option maxHeartbeats 6400000 in
theorem FnExactSameWheel_walk (A : Option Addr) (sp : List Sp) (c : Nat) (B : Option Addr) (sr : List Sp) (d : Nat) (w : World) (hn0 : sp.length ≤ 9223372036854775807) (hl0 : ∀ s ∈ sp, s.l.length ≤ 9223372036854775807) (hf : FitL (sp.map (fun s => s.l))) (hA : Whl w A sp) (hn0' : sr.length ≤ 9223372036854775807) (hl0' : ∀ s ∈ sr, s.l.length ≤ 9223372036854775807) (hf' : FitL (sr.map (fun s => s.l))) (hB : Whl w B sr) :
    Calls Try.prog 13 #[.agg #[.slice A sp.length c], .agg #[.slice B sr.length d]] w fun e w' => e = .returned (.bool true) ∧ Below w.heap.size w w' := by
  have CZ := Lib.hid (fun w' (h : Rws w' w'.heap.size A (sp.flatMap spC)) => szWheel_val A sp c 1048576 w' hn0 hl0 h (by omega) (by omega))
  have CY := Lib.hid (fun w' q (h1 : 0 ≤ q) (h2 : q ≤ 1048576) (h : Rws w' w'.heap.size B (sr.flatMap spC)) => szWheel_val B sr d q w' hn0' hl0' h h1 h2)
  obtain ⟨U0, hU0⟩ : ∃ U, ((w.alloc (.cells #[.slice A sp.length c] 46)).alloc (.cells #[.slice B sr.length d] 46)) = U := ⟨_, rfl⟩
  have T0 : U0.heap[w.heap.size]? = some (.cells #[.slice A sp.length c] 46) ∧ U0.heap[w.heap.size + 1]? = some (.cells #[.slice B sr.length d] 46) ∧ Below w.heap.size w U0 := by rw [← hU0]; exact two_at w _ _ _ (Below.refl _ _)
  obtain ⟨HA, HB, bW⟩ := T0
  have hU0s : w.heap.size < U0.heap.size := by rw [← hU0]; simp; omega
  have HU := Lib.hid hU0
  clear hU0
  have HA0 := Lib.hid HA
  have HB0 := Lib.hid HB
  have bW0 := Lib.hid bW
  clear HA HB bW
  go_enter Try.func13, Try.ntmps13
  go_wp2_with fail
  rw [HU.out]
  refine (CZ.out _ (rws_below hA.row bW0.out)).mono ?_
  rintro e u0 ⟨rfl, x0⟩
  have HA := HA0.out
  have HB := HB0.out
  have bW := bW0.out
  clear HA0 HB0 bW0 CZ HU
  have HA := blk_call HA x0
  have HB := blk_call HB x0
  have bW := bW.trans (x0.mono bW.size)
  have Z1 := x0.size
  try simp only [World.size_alloc] at Z1
  clear x0
  by_cases hz : szV 1048576 sp < 0
  · generalize szV 1048576 sp = z at *
    have HBB := Lib.hid bW
    go_wp2
    go_ret
    exact ⟨rfl, HBB.out⟩
  have hS := szV_ok (sp := sp) (by omega)
  have hzl := szV_le (sp := sp) (q := 1048576) (by omega)
  generalize szV 1048576 sp = z at *
  have q0 := cell_of_one HA
  have q1 := cell_of_one HB
  go_wp2_with fail
  refine (CY.out _ z (by omega) (by omega) (rws_below hB.row bW)).mono ?_
  rintro e u1 ⟨rfl, x1⟩
  clear q0 q1
  have HA := blk_call HA x1
  have HB := blk_call HB x1
  have bW := bW.trans (x1.mono bW.size)
  have Z2 := x1.size
  try simp only [World.size_alloc] at Z2
  clear x1
  by_cases hy : szV z sr < 0
  · generalize szV z sr = y at *
    have HBB := Lib.hid bW
    go_wp2
    go_ret
    exact ⟨rfl, HBB.out⟩
  have hS2 := szV_okq (sp := sr) (q := z) (by omega) (by omega)
  generalize szV z sr = y at *
  clear CY
  obtain ⟨la, hla⟩ : ∃ la, sp.map (fun s => s.l) = la := ⟨_, rfl⟩
  rw [hla] at hS hf
  obtain ⟨lb, hlb⟩ : ∃ lb, sr.map (fun s => s.l) = lb := ⟨_, rfl⟩
  rw [hlb] at hS2 hf'
  obtain ⟨hn1, hl1⟩ := SzW.of hS hla
  obtain ⟨hn2, hl2⟩ := SzW.of hS2 hlb
  have CT : Hid (∀ w', Below w.heap.size w w' → Calls Try.prog 36 #[.agg #[.slice A sp.length c]] w' (NewX w' la)) := fun w' h => by have := toWheel_any A sp c w' (by omega) (by omega) (hA.below h); rw [hla] at this; exact this
  have CTB : Hid (∀ w', Below w.heap.size w w' → Calls Try.prog 36 #[.agg #[.slice B sr.length d]] w' (NewX w' lb)) := fun w' h => by have := toWheel_any B sr d w' (by omega) (by omega) (hB.below h); rw [hlb] at this; exact this
  have CE : Hid (∀ X Y sx sy xc yc w', sx.map (fun s => s.l) = la → sy.map (fun s => s.l) = la → Whl w' X sx → Whl w' Y sy → Calls Try.prog 31 #[.agg #[.slice X sx.length xc], .agg #[.slice Y sy.length yc]] w' fun e w'' => e = .returned (.bool true) ∧ Below w'.heap.size w' w'') := fun X Y sx sy xc yc w' h1 h2 h3 h4 => by obtain ⟨a1, a2⟩ := SzW.of hS h1; exact eqWheel_same X Y sx sy xc yc w' (by omega) (by omega) h3 h4 (h1.trans h2.symm)
  have CEB : Hid (∀ X Y sx sy xc yc w', sx.map (fun s => s.l) = lb → sy.map (fun s => s.l) = lb → Whl w' X sx → Whl w' Y sy → Calls Try.prog 31 #[.agg #[.slice X sx.length xc], .agg #[.slice Y sy.length yc]] w' fun e w'' => e = .returned (.bool true) ∧ Below w'.heap.size w' w'') := fun X Y sx sy xc yc w' h1 h2 h3 h4 => by obtain ⟨a1, a2⟩ := SzW.of hS2 h1; exact eqWheel_same X Y sx sy xc yc w' (by omega) (by omega) h3 h4 (h1.trans h2.symm)
  have C1 : Hid (∀ X Y sx sy xc yc w', sx.map (fun s => s.l) = la → sy.map (fun s => s.l) = lb → Whl w' X sx → Whl w' Y sy → Calls Try.prog 24 #[.agg #[.slice X sx.length xc], .agg #[.slice Y sy.length yc]] w' fun e w'' => e = .returned (.bool (sameW la lb)) ∧ Below w'.heap.size w' w'') := fun X Y sx sy xc yc w' h1 h2 h3 h4 => by obtain ⟨a1, a2⟩ := SzW.of hS h1; obtain ⟨a3, a4⟩ := SzW.of hS2 h2; have := sameWheel_spec X Y sx sy xc yc w' (by omega) (by omega) (by omega) (by omega) h3 h4; rw [h1, h2] at this; exact this
  have C2 := Lib.hid (fun X Y sx sy xc yc w' h1 h2 h3 h4 => sameWheel_impl X Y sx sy xc yc w' la lb h1 h2 hS hS2 hf hf' h3 h4)
  obtain ⟨R, hR⟩ : ∃ R, sameW la lb = R := ⟨_, rfl⟩
  rw [hR] at C1 C2
  have nB : (R != R) = false := by simp
  clear hR hla hlb hf hf' hS hS2
  have q0 := cell_of_one HA
  have q1 := cell_of_one HB
  go_wp2_with fail
  clear q0 q1
  have KA := Lib.hid (fun w' (h : Below u1.heap.size u1 w') => cell_of_one (blk_call HA h))
  have KB := Lib.hid (fun w' (h : Below u1.heap.size u1 w') => cell_of_one (blk_call HB h))
  refine wp_region_held_drew (S := fun w' => Hid (Below u1.heap.size u1 w')) (by kernel_rfl) (below_drawn (Below.refl _ _) 1) (fun hHeld => ?_)
  refine held_take 0 20 (.agg #[.slice A sp.length c]) rfl rfl (by kernel_rfl) (by kernel_rfl) (by kernel_rfl) (fun _ _ _ h => h) rfl hHeld (fun w h => exec_load_lW _ _ _ _ w (KA.out w h.out)) ?_
  refine held_take 2 22 (.agg #[.slice B sr.length d]) rfl rfl (by kernel_rfl) (by kernel_rfl) (by kernel_rfl) (fun _ _ _ h => h) rfl hHeld (fun w h => exec_load_lW _ _ _ _ w (KB.out w h.out)) ?_
  simp only [Act.put, List.setIfInBounds_toArray, List.set_cons_zero, List.set_cons_succ]
  refine held_call 1 21 36 #[.agg #[.slice A sp.length c]] rfl rfl (by kernel_rfl) rfl (exec_call Try.func36 (by kernel_rfl) (by kernel_rfl) _) ?_
  refine (CT.out _ (bW.trans (hHeld.out.mono bW.size))).mono ?_
  rintro e v1 ⟨P, pc, sP, rfl, hmP, oP, -, y1⟩
  have k1 : Hid (Below u1.heap.size u1 v1) := hHeld.out.trans (y1.mono hHeld.out.size)
  refine ⟨_, rfl, k1, ?_⟩
  simp only [Act.put, List.setIfInBounds_toArray, List.set_cons_zero, List.set_cons_succ]
  refine held_call 3 23 36 #[.agg #[.slice B sr.length d]] rfl rfl (by kernel_rfl) rfl (exec_call Try.func36 (by kernel_rfl) (by kernel_rfl) _) ?_
  refine (CTB.out _ (bW.trans (k1.out.mono bW.size))).mono ?_
  rintro e v2 ⟨Q, qc, sQ, rfl, hmQ, oQ, -, y2⟩
  have oP := oP.below y2
  have k2 : Hid (Below u1.heap.size u1 v2) := k1.out.trans (y2.mono k1.out.size)
  refine ⟨_, rfl, k2, ?_⟩
  simp only [Act.put, List.setIfInBounds_toArray, List.set_cons_zero, List.set_cons_succ]
  refine held_call 4 24 24 #[.agg #[.slice P sP.length pc], .agg #[.slice Q sQ.length qc]] rfl rfl (by kernel_rfl) rfl (exec_call Try.func24 (by kernel_rfl) (by kernel_rfl) _) ?_
  refine (C1.out P Q sP sQ pc qc _ hmP hmQ oP.whl oQ.whl).mono ?_
  rintro e u2 ⟨rfl, y3⟩
  have k3 : Hid (Below u1.heap.size u1 u2) := k2.out.trans (y3.mono k2.out.size)
  refine ⟨_, rfl, k3, ?_⟩
  simp only [Act.put, List.setIfInBounds_toArray, List.set_cons_zero, List.set_cons_succ]
  refine held_op 5 6 (.bool R) rfl rfl (by kernel_rfl) rfl rfl k3 ?_
  simp only [Act.put, List.setIfInBounds_toArray, List.set_cons_zero, List.set_cons_succ]
  refine wpAnyH_done (by kernel_rfl) ?_ _
  have xr := k3.out
  clear k1 k2 k3 y1 y2 y3 oP oQ hmP hmQ KA KB hHeld
  have HA := blk_call HA xr
  have HB := blk_call HB xr
  have bW := bW.trans (xr.mono bW.size)
  have Z3 := xr.size
  try simp only [World.size_alloc] at Z3
  clear xr
  have q0 := cell_of_one HA
  have q1 := cell_of_one HB
  go_wp2_with fail
  refine (CT.out _ bW).mono ?_
  rintro e u3 ⟨X, xc, sx, rfl, hmx, oX, apX, x3⟩
  clear q0 q1
  have HA := blk_call HA x3
  have HB := blk_call HB x3
  have bW := bW.trans (x3.mono bW.size)
  have Z4 := x3.size
  try simp only [World.size_alloc] at Z4
  have B7 := Bx.new oX x3.size
  try simp only [World.size_alloc] at B7
  clear x3 oX
  have xa : Below u3.heap.size u3 (u3.alloc (.cells #[.slice X sx.length xc] 26)) := (Below.refl _ _).alloc (Nat.le_refl _) _
  have HA := blk_call HA xa
  have HB := blk_call HB xa
  have bW := bW.trans (xa.mono bW.size)
  have Z5 := xa.size
  try simp only [World.size_alloc] at Z5
  clear xa
  have q0 := cell_of_one HA
  have q1 := cell_of_one HB
  have r0 := B7.cell
  go_wp2_with fail
  refine (CTB.out _ bW).mono ?_
  rintro e u4 ⟨V, vc, sv, rfl, hmv, oV, apV, x4⟩
  clear q0 q1 r0
  have HA := blk_call HA x4
  have HB := blk_call HB x4
  have B7 := B7.call x4
  have bW := bW.trans (x4.mono bW.size)
  have Z6 := x4.size
  try simp only [World.size_alloc] at Z6
  have B8 := Bx.new oV x4.size
  try simp only [World.size_alloc] at B8
  clear x4 oV
  have xa : Below u4.heap.size u4 (u4.alloc (.cells #[.slice V sv.length vc] 26)) := (Below.refl _ _).alloc (Nat.le_refl _) _
  have HA := blk_call HA xa
  have HB := blk_call HB xa
  have B7 := B7.call xa
  have bW := bW.trans (xa.mono bW.size)
  have Z7 := xa.size
  try simp only [World.size_alloc] at Z7
  clear xa
  have q0 := cell_of_one HA
  have q1 := cell_of_one HB
  have r0 := B7.cell
  have r1 := B8.cell
  go_wp2_with fail
  refine (C2.out X V sx sv xc vc _ hmx hmv B7.O.whl B8.O.whl).mono ?_
  rintro e u5 ⟨rfl, x5⟩
  clear q0 q1 r0 r1
  have HA := blk_call HA x5
  have HB := blk_call HB x5
  have B7 := B7.call x5
  have B8 := B8.call x5
  have bW := bW.trans (x5.mono bW.size)
  have Z8 := x5.size
  try simp only [World.size_alloc] at Z8
  clear x5
  have q0 := cell_of_one HA
  have q1 := cell_of_one HB
  have r0 := B7.cell
  have r1 := B8.cell
  go_wp2_with fail
  clear q0 q1 r0 r1
  have KB := Lib.hid (fun w' (h : Below u5.heap.size u5 w') => (B7.call h).cell)
  have KA := Lib.hid (fun w' (h : Below u5.heap.size u5 w') => cell_of_one (blk_call HA h))
  refine wp_region_held_drew (S := fun w' => Hid (Below u5.heap.size u5 w')) (by kernel_rfl) (below_drawn (Below.refl _ _) 1) (fun hHeld => ?_)
  refine held_take 0 35 (.agg #[.slice X sx.length xc]) rfl rfl (by kernel_rfl) (by kernel_rfl) (by kernel_rfl) (fun _ _ _ h => h) rfl hHeld (fun w h => exec_loadWh _ _ _ _ w (KB.out w h.out)) ?_
  refine held_take 1 36 (.agg #[.slice A sp.length c]) rfl rfl (by kernel_rfl) (by kernel_rfl) (by kernel_rfl) (fun _ _ _ h => h) rfl hHeld (fun w h => exec_load_lW _ _ _ _ w (KA.out w h.out)) ?_
  simp only [Act.put, List.setIfInBounds_toArray, List.set_cons_zero, List.set_cons_succ]
  refine held_call 2 37 36 #[.agg #[.slice A sp.length c]] rfl rfl (by kernel_rfl) rfl (exec_call Try.func36 (by kernel_rfl) (by kernel_rfl) _) ?_
  refine (CT.out _ (bW.trans (hHeld.out.mono bW.size))).mono ?_
  rintro e u61 ⟨Y, yc, sy, rfl, hmy, oY, -, y1⟩
  have k1 : Hid (Below u5.heap.size u5 u61) := hHeld.out.trans (y1.mono hHeld.out.size)
  refine ⟨_, rfl, k1, ?_⟩
  simp only [Act.put, List.setIfInBounds_toArray, List.set_cons_zero, List.set_cons_succ]
  refine held_call 3 38 31 #[.agg #[.slice X sx.length xc], .agg #[.slice Y sy.length yc]] rfl rfl (by kernel_rfl) rfl (exec_call Try.func31 (by kernel_rfl) (by kernel_rfl) _) ?_
  refine (CE.out X Y sx sy xc yc _ hmx hmy (B7.call k1.out).O.whl oY.whl).mono ?_
  rintro e u6 ⟨rfl, y2⟩
  have hHeld : Hid (Below u5.heap.size u5 u6) := k1.out.trans (y2.mono k1.out.size)
  refine ⟨_, rfl, hHeld, ?_⟩
  simp only [Act.put, List.setIfInBounds_toArray, List.set_cons_zero, List.set_cons_succ]
  refine held_take 4 39 (.bool false) rfl rfl (by kernel_rfl) (by kernel_rfl) (by kernel_rfl) (fun _ _ _ h => h) rfl hHeld (fun w _ => rfl) ?_
  simp only [Act.put, List.setIfInBounds_toArray, List.set_cons_zero, List.set_cons_succ]
  refine wpAnyH_done (by kernel_rfl) ?_ _
  have xr := hHeld.out
  clear hHeld k1 y1 y2 KA KB oY hmy
  have HA := blk_call HA xr
  have HB := blk_call HB xr
  have B7 := B7.call xr
  have B8 := B8.call xr
  have bW := bW.trans (xr.mono bW.size)
  have Z9 := xr.size
  try simp only [World.size_alloc] at Z9
  clear xr
  have q0 := cell_of_one HA
  have q1 := cell_of_one HB
  have r0 := B7.cell
  have r1 := B8.cell
  go_wp2_with fail
  clear q0 q1 r0 r1
  have KB := Lib.hid (fun w' (h : Below u6.heap.size u6 w') => (B8.call h).cell)
  have KA := Lib.hid (fun w' (h : Below u6.heap.size u6 w') => cell_of_one (blk_call HB h))
  refine wp_region_held_drew (S := fun w' => Hid (Below u6.heap.size u6 w')) (by kernel_rfl) (below_drawn (Below.refl _ _) 1) (fun hHeld => ?_)
  refine held_take 0 40 (.agg #[.slice V sv.length vc]) rfl rfl (by kernel_rfl) (by kernel_rfl) (by kernel_rfl) (fun _ _ _ h => h) rfl hHeld (fun w h => exec_loadWh _ _ _ _ w (KB.out w h.out)) ?_
  refine held_take 1 41 (.agg #[.slice B sr.length d]) rfl rfl (by kernel_rfl) (by kernel_rfl) (by kernel_rfl) (fun _ _ _ h => h) rfl hHeld (fun w h => exec_load_lW _ _ _ _ w (KA.out w h.out)) ?_
  simp only [Act.put, List.setIfInBounds_toArray, List.set_cons_zero, List.set_cons_succ]
  refine held_call 2 42 36 #[.agg #[.slice B sr.length d]] rfl rfl (by kernel_rfl) rfl (exec_call Try.func36 (by kernel_rfl) (by kernel_rfl) _) ?_
  refine (CTB.out _ (bW.trans (hHeld.out.mono bW.size))).mono ?_
  rintro e u71 ⟨Y, yc, sy, rfl, hmy, oY, -, y1⟩
  have k1 : Hid (Below u6.heap.size u6 u71) := hHeld.out.trans (y1.mono hHeld.out.size)
  refine ⟨_, rfl, k1, ?_⟩
  simp only [Act.put, List.setIfInBounds_toArray, List.set_cons_zero, List.set_cons_succ]
  refine held_call 3 43 31 #[.agg #[.slice V sv.length vc], .agg #[.slice Y sy.length yc]] rfl rfl (by kernel_rfl) rfl (exec_call Try.func31 (by kernel_rfl) (by kernel_rfl) _) ?_
  refine (CEB.out V Y sv sy vc yc _ hmv hmy (B8.call k1.out).O.whl oY.whl).mono ?_
  rintro e u7 ⟨rfl, y2⟩
  have hHeld : Hid (Below u6.heap.size u6 u7) := k1.out.trans (y2.mono k1.out.size)
  refine ⟨_, rfl, hHeld, ?_⟩
  simp only [Act.put, List.setIfInBounds_toArray, List.set_cons_zero, List.set_cons_succ]
  refine held_take 4 44 (.bool false) rfl rfl (by kernel_rfl) (by kernel_rfl) (by kernel_rfl) (fun _ _ _ h => h) rfl hHeld (fun w _ => rfl) ?_
  simp only [Act.put, List.setIfInBounds_toArray, List.set_cons_zero, List.set_cons_succ]
  refine wpAnyH_done (by kernel_rfl) ?_ _
  have xr := hHeld.out
  clear hHeld k1 y1 y2 KA KB oY hmy
  have HA := blk_call HA xr
  have HB := blk_call HB xr
  have B7 := B7.call xr
  have B8 := B8.call xr
  have bW := bW.trans (xr.mono bW.size)
  have Z10 := xr.size
  try simp only [World.size_alloc] at Z10
  clear xr
  have q0 := cell_of_one HA
  have q1 := cell_of_one HB
  have r0 := B7.cell
  have r1 := B8.cell
  have HBB := Lib.hid bW
  go_wp2
  go_ret
  exact ⟨rfl, HBB.out⟩
set_option maxRecDepth 100000 in
set_option maxHeartbeats 6400000 in
theorem FnExactWheelOf_walk (A : Option Addr) (l : List Pn) (c : Nat) (w : World) (hl0 : l.length ≤ 9223372036854775807) (hA : Rws w w.heap.size A (l.flatMap pnC)) (hf : ∀ x ∈ l, x.fits) :
    Calls Try.prog 12 #[.slice A l.length c] w fun e w' => e = .returned (.bool true) ∧ Below w.heap.size w w' := by
  have CZ := Lib.hid (fun w' => szPinS_val A l.length c 1048576 w' hl0 (by omega) (by omega))
  have bW := Below.refl w.heap.size w
  by_cases hz : (1048576 : Int) - l.length < 0
  · rw [if_pos hz] at CZ
    go_enter Try.func12, Try.ntmps12
    go_wp2_with fail
    refine (CZ.out _).mono ?_
    rintro e w1 ⟨rfl, rfl⟩
    go_wp2
    go_ret
    exact ⟨rfl, bW⟩
  rw [if_neg hz] at CZ
  have hl : l.length ≤ 1048576 := by omega
  have CT := Lib.hid (fun w' h => toPinS_any A l c w' (by omega) h)
  have CE := Lib.hid (fun X Y xc yc w' h h' => eqPinS_same X Y l xc yc w' (by omega) h h')
  have C1 := Lib.hid (fun X xc w' h => wheelOf_spec X l xc w' (by omega) h)
  have C2 := Lib.hid (fun X xc w' h => wheelOf_impl X l xc w' (by omega) hf h)
  have CM := Lib.hid (fun X xc base w' h => markPinS_any X l 1 xc base w' (by omega) (by omega) h)
  have hR := ofV_sz l
  obtain ⟨r, hr⟩ : ∃ r, wheelOfV l = r := ⟨_, rfl⟩
  rw [hr] at C1 C2 hR
  have HSR := Lib.hid hR
  have CG : Hid (∀ X Y sx sy xc yc w', sx.map (fun s => s.l) = r.1 → sy.map (fun s => s.l) = r.1 → Whl w' X sx → Whl w' Y sy → Calls Try.prog 31 #[.agg #[.slice X sx.length xc], .agg #[.slice Y sy.length yc]] w' fun e w'' => e = .returned (.bool true) ∧ Below w'.heap.size w' w'') := fun X Y sx sy xc yc w' h1 h2 h3 h4 => by obtain ⟨a1, a2⟩ := SzW.of hR h1; exact eqWheel_same X Y sx sy xc yc w' (by omega) (by omega) h3 h4 (h1.trans h2.symm)
  have nB : (r.2 != r.2) = false := by simp
  clear hr hR hf
  obtain ⟨M, hM⟩ : ∃ M : Nat, 1 + l.length * 2 = M := ⟨_, rfl⟩
  rw [hM] at CM
  have nM : decide ((M : Int) < 0) = false := by simp
  clear hM
  generalize hq0 : (1048576 : Int) - l.length = q0 at *
  clear hq0
  go_enter Try.func12, Try.ntmps12
  go_wp2_with fail
  refine (CZ.out _).mono ?_
  rintro e w1 ⟨rfl, rfl⟩
  go_wp2_with fail
  refine (CT.out _ (rws_below hA bW)).mono ?_
  rintro e u1 ⟨P, pc, rfl, oP, x1⟩
  have bW := bW.trans (x1.mono bW.size)
  have Z1 := x1.size
  try simp only [World.size_alloc] at Z1
  clear x1
  go_wp2_with fail
  refine (C1.out P pc _ (own_rws oP)).mono ?_
  rintro e u2 ⟨Q, qc, sq, rfl, hmq, oQ, x2⟩
  have bW := bW.trans (x2.mono bW.size)
  have Z2 := x2.size
  try simp only [World.size_alloc] at Z2
  have B4 := Bx.new oQ x2.size
  try simp only [World.size_alloc] at B4
  clear x2 oQ
  have xa : Below u2.heap.size u2 (u2.alloc (.cells #[.slice Q sq.length qc] 26)) := (Below.refl _ _).alloc (Nat.le_refl _) _
  have bW := bW.trans (xa.mono bW.size)
  have Z3 := xa.size
  try simp only [World.size_alloc] at Z3
  clear xa
  clear oP
  have r0 := B4.cell
  go_wp2_with fail
  refine (CT.out _ (rws_below hA bW)).mono ?_
  rintro e u3 ⟨X, xc, rfl, oX, x3⟩
  clear r0
  have B4 := B4.call x3
  have bW := bW.trans (x3.mono bW.size)
  have Z4 := x3.size
  try simp only [World.size_alloc] at Z4
  have oX_rg0 := fun q h => World.ownsRow.lt oX q h
  try simp only [World.size_alloc] at oX oX_rg0
  have oX_rg := Lib.hid oX_rg0
  clear x3 oX_rg0
  have r0 := B4.cell
  go_wp2_with fail
  refine (C2.out X xc _ (own_rws oX)).mono ?_
  rintro e u4 ⟨G, gc, sg, rfl, hmg, oG, apG, x4⟩
  clear r0
  have B4 := B4.call x4
  have oX := own_below oX x4
  have bW := bW.trans (x4.mono bW.size)
  have Z5 := x4.size
  try simp only [World.size_alloc] at Z5
  have B7 := Bx.new oG x4.size
  try simp only [World.size_alloc] at B7
  clear x4 oG
  have xa : Below u4.heap.size u4 (u4.alloc (.cells #[.slice G sg.length gc] 26)) := (Below.refl _ _).alloc (Nat.le_refl _) _
  have B4 := B4.call xa
  have oX := own_below oX xa
  have bW := bW.trans (xa.mono bW.size)
  have Z6 := xa.size
  try simp only [World.size_alloc] at Z6
  clear xa
  have HAG := Lib.hid apG
  obtain ⟨hng, hlg⟩ := SzW.of HSR.out hmg
  clear apG
  have r0 := B4.cell
  have r1 := B7.cell
  go_wp2_with fail
  refine (CG.out G Q sg sq gc qc _ hmg hmq B7.O.whl B4.O.whl).mono ?_
  rintro e u5 ⟨rfl, x5⟩
  clear r0 r1
  have B4 := B4.call x5
  have B7 := B7.call x5
  have oX := own_below oX x5
  have bW := bW.trans (x5.mono bW.size)
  have Z7 := x5.size
  try simp only [World.size_alloc] at Z7
  clear x5
  have r0 := B4.cell
  have r1 := B7.cell
  go_wp2_with fail
  refine (CT.out _ (rws_below hA bW)).mono ?_
  rintro e u6 ⟨Y, yc, rfl, oY, x6⟩
  clear r0 r1
  have B4 := B4.call x6
  have B7 := B7.call x6
  have oX := own_below oX x6
  have bW := bW.trans (x6.mono bW.size)
  have Z8 := x6.size
  try simp only [World.size_alloc] at Z8
  have oY_rg0 := fun q h => World.ownsRow.lt oY q h
  try simp only [World.size_alloc] at oY oY_rg0
  have oY_rg := Lib.hid oY_rg0
  clear x6 oY_rg0
  have r0 := B4.cell
  have r1 := B7.cell
  go_wp2_with fail
  refine (CE.out X Y xc yc _ (own_rws oX) (own_rws oY)).mono ?_
  rintro e u7 ⟨rfl, x7⟩
  clear r0 r1
  have B4 := B4.call x7
  have B7 := B7.call x7
  have oX := own_below oX x7
  have oY := own_below oY x7
  have bW := bW.trans (x7.mono bW.size)
  have Z9 := x7.size
  try simp only [World.size_alloc] at Z9
  clear x7
  clear oY
  have r0 := B4.cell
  have r1 := B7.cell
  go_wp2_with fail
  refine (CM.out X xc _ _ oX).mono ?_
  rintro e u8 ⟨rfl, om, gm⟩
  clear r0 r1
  have tm := Tch.of_grown (P := fun i => _ = some i) gm (fun i h => h)
  have B4 := B4.tch tm (fun q h1 h2 h3 => by have := oX_rg.out _ h3; omega)
  have B7 := B7.tch tm (fun q h1 h2 h3 => by have := oX_rg.out _ h3; omega)
  have bW := bW.trans (tm.below bW.size (fun q h => by have := oX_rg.out _ h; omega))
  have Z10 := tm.size
  try simp only [World.size_alloc] at Z10
  have oX := om
  clear om tm gm
  clear oX
  have r0 := B4.cell
  have r1 := B7.cell
  go_wp2_with fail
  refine (CG.out G Q sg sq gc qc _ hmg hmq B7.O.whl B4.O.whl).mono ?_
  rintro e u9 ⟨rfl, x9⟩
  clear r0 r1
  have B4 := B4.call x9
  have B7 := B7.call x9
  have bW := bW.trans (x9.mono bW.size)
  have Z11 := x9.size
  try simp only [World.size_alloc] at Z11
  clear x9
  obtain ⟨K, hK⟩ : ∃ K : Nat, 1 + (allPn sg).length * 2 = K := ⟨_, rfl⟩
  have CN := Lib.hid (fun w' lo (h : OwnW w' lo G gc sg) => markWheel_any G sg gc 1 lo w' (by omega) (by omega) (by omega) h HAG.out)
  have CH := Lib.hid (fun w' (h : Whl w' G (marksW 1 sg)) => heldWheel_any G sg gc 1 w' (by omega) (by omega) (by omega) h)
  rw [hK] at CN CH
  have nK : decide ((K : Int) < 0) = false := by simp
  have nQ : ((K : Int) != (K : Int)) = false := by simp
  clear hK
  have r0 := B4.cell
  have r1 := B7.cell
  go_wp2_with fail
  refine (CN.out _ _ B7.O).mono ?_
  rintro e u10 ⟨rfl, om, tm⟩
  clear r0 r1
  have B4 := B4.tch tm (fun q h1 h2 h3 => by have := B7.rng _ (.inr h3); omega)
  have bW := bW.trans (tm.below bW.size (fun q h => by have := B7.rng _ (.inr h); omega))
  have Z12 := tm.size
  try simp only [World.size_alloc] at Z12
  have B7 := B7.mark om tm
  clear om tm
  have r0 := B4.cell
  have r1 := B7.cell
  rw [marksW_length] at r1
  go_wp2_with fail
  refine (CH.out _ B7.O.whl).mono ?_
  rintro e u11 ⟨rfl, x11⟩
  clear r0 r1
  have B4 := B4.call x11
  have B7 := B7.call x11
  have bW := bW.trans (x11.mono bW.size)
  have Z13 := x11.size
  try simp only [World.size_alloc] at Z13
  clear x11
  have r0 := B4.cell
  have r1 := B7.cell
  rw [marksW_length] at r1
  go_wp2_with fail
  refine (CT.out _ (rws_below hA bW)).mono ?_
  rintro e u12 ⟨R, rc, rfl, oR, x12⟩
  clear r0 r1
  have B4 := B4.call x12
  have B7 := B7.call x12
  have bW := bW.trans (x12.mono bW.size)
  have Z14 := x12.size
  try simp only [World.size_alloc] at Z14
  clear x12
  have r0 := B4.cell
  have r1 := B7.cell
  rw [marksW_length] at r1
  go_wp2_with fail
  refine (C2.out R rc _ (own_rws oR)).mono ?_
  rintro e u13 ⟨H, hc, sh, rfl, hmh, oH, apH, x13⟩
  clear r0 r1
  have B4 := B4.call x13
  have B7 := B7.call x13
  have bW := bW.trans (x13.mono bW.size)
  have Z15 := x13.size
  try simp only [World.size_alloc] at Z15
  have B12 := Bx.new oH x13.size
  try simp only [World.size_alloc] at B12
  clear x13 oH
  have xa : Below u13.heap.size u13 (u13.alloc (.cells #[.slice H sh.length hc] 26)) := (Below.refl _ _).alloc (Nat.le_refl _) _
  have B4 := B4.call xa
  have B7 := B7.call xa
  have bW := bW.trans (xa.mono bW.size)
  have Z16 := xa.size
  try simp only [World.size_alloc] at Z16
  clear xa
  clear oR
  have r0 := B4.cell
  have r1 := B7.cell
  rw [marksW_length] at r1
  have r2 := B12.cell
  go_wp2_with fail
  refine (CG.out H Q sh sq hc qc _ hmh hmq B12.O.whl B4.O.whl).mono ?_
  rintro e u14 ⟨rfl, x14⟩
  clear r0 r1 r2
  have B4 := B4.call x14
  have B7 := B7.call x14
  have B12 := B12.call x14
  have bW := bW.trans (x14.mono bW.size)
  have Z17 := x14.size
  try simp only [World.size_alloc] at Z17
  clear x14
  have r0 := B4.cell
  have r1 := B7.cell
  rw [marksW_length] at r1
  have r2 := B12.cell
  go_wp2_with fail
  refine (CH.out _ B7.O.whl).mono ?_
  rintro e u15 ⟨rfl, x15⟩
  clear r0 r1 r2
  have B4 := B4.call x15
  have B7 := B7.call x15
  have B12 := B12.call x15
  have bW := bW.trans (x15.mono bW.size)
  have Z18 := x15.size
  try simp only [World.size_alloc] at Z18
  clear x15
  have r0 := B4.cell
  have r1 := B7.cell
  rw [marksW_length] at r1
  have r2 := B12.cell
  have HB := Lib.hid bW
  go_wp2
  go_ret
  exact ⟨rfl, HB.out⟩
end Go.Proofs.Ytflomkebgiemaaa
