/- The walk of the law FnWheelBack. -/
import Derived.Test.YtflomkebgiemaaaRows
import Derived.Test.YtflomkebgiemaaaWiS
import Derived.Test.YtflomkebgiemaaaWhMa
namespace Go.Proofs.Ytflomkebgiemaaa
open Go.RowKit
set_option linter.unusedSimpArgs false
set_option linter.unusedVariables false
set_option maxRecDepth 100000 in
theorem exec_eqlI0 {ρ : Operand → Value} {o : Oper} {x y : Operand} (X Y : Int) (w : World) (h : X = Y) (ho : o.op = .binOp .eql 3 x y 3 := by rfl) (hx : ρ x = .int .i64 X := by rfl) (hy : ρ y = .int .i64 Y := by rfl) :
    (execOp ρ o).run Try.prog w = .ok (.value (.bool true)) w := by
  unfold execOp
  rw [ho]
  subst h
  simp [go_sem, hx, hy]
set_option maxRecDepth 100000 in
set_option maxHeartbeats 6400000 in
theorem FnWheelBack_walk (A : Option Addr) (l : List Nat) (cap : Nat) (w : World) (hA : Bts w w.heap.size A l) (hb : AllB l) (hm : l.length ≤ maxLen) :
    Calls Try.prog 4 #[.slice A l.length cap] w fun e w' => e = .returned (.bool true) ∧ Below w.heap.size w w' := by
  by_cases hbig : 1048576 < l.length
  · go_enter Try.func4, Try.ntmps4
    go_wp2_with fail
    refine (big_yes _ _ _ _ hbig).mono ?_
    rintro e w' ⟨rfl, rfl⟩
    go_wp2
    go_ret
    exact ⟨rfl, Below.refl _ _⟩
  have hl : l.length ≤ 1048576 := by omega
  clear hbig hm
  have CD := Lib.hid (drawWheelPut_any A l cap w (by omega) hA hb)
  go_enter Try.func4, Try.ntmps4
  go_wp2_with fail
  refine (big_no _ _ _ _ hl).mono ?_
  rintro e w' ⟨rfl, rfl⟩
  go_wp2_with fail
  refine CD.out.mono ?_
  rintro e w2 ⟨B, d, sq0, x, rfl, hn, h30, hF, hxf, hW, b2⟩
  obtain ⟨U, hU⟩ : ∃ U, (w2.alloc (.cells #[.slice B sq0.length d] 26)).alloc (.cells #[.int .i64 x.at_, .int .i64 x.id] 33) = U := ⟨_, rfl⟩
  have T0 : U.heap[w2.heap.size]? = some (.cells #[.slice B sq0.length d] 26) ∧ U.heap[w2.heap.size + 1]? = some (.cells #[.int .i64 x.at_, .int .i64 x.id] 33) ∧ Below w2.heap.size w2 U := by rw [← hU]; exact two_at w2 _ _ _ (Below.refl _ _)
  obtain ⟨HA, HP, bX⟩ := T0
  have bW : Below w.heap.size w U := b2.trans (bX.mono b2.size)
  have hU2 : w2.heap.size + 1 < U.heap.size := blk_lt HP
  have hsz : SzW (sq0.map (fun s => s.l)) := ⟨by simp; omega, by rw [ls_flat]; omega⟩
  obtain ⟨ls, els⟩ : ∃ ls, sq0.map (fun s => s.l) = ls := ⟨_, rfl⟩
  rw [els] at hF hsz
  have C1 := Lib.hid (fun w' h => wheelPut_impl B sq0 d x w' ls els hsz hF hxf h)
  have C2 : Hid (∀ w', Whl w' B sq0 → Calls Try.prog 20 #[.agg #[.slice B sq0.length d], pnA x] w' (NewWB w' (wheelPutV ls x))) := fun w' h => by have := wheelPut_spec B sq0 d x w' (by omega) (by omega) h; rw [els] at this; exact this
  have C3 := Lib.hid (fun w' h => wheelCut_impl B sq0 d x w' ls els hsz hF hxf h)
  have C4 : Hid (∀ w', Whl w' B sq0 → Calls Try.prog 22 #[.agg #[.slice B sq0.length d], pnA x] w' (NewWB w' (wheelCutV ls x))) := fun w' h => by have := wheelCut_spec B sq0 d x w' (by omega) (by omega) h; rw [els] at this; exact this
  have hsz1 := putV_sz x hsz
  have hF1 := putV_fits hF hxf
  obtain ⟨r, er⟩ : ∃ r, wheelPutV ls x = r := ⟨_, rfl⟩
  rw [er] at C1 C2 hsz1 hF1
  have C5 := Lib.hid (fun w' X sx xc h1 h => wheelCut_impl X sx xc x w' r.1 h1 hsz1 hF1 hxf h)
  have CS1 := Lib.hid (fun w' X sx xc h1 h h' => sameWheel_impl X B sx sq0 xc d w' ls ls h1 els hsz hsz hF hF h h')
  have CS2 : Hid (∀ w' X (sx : List Sp) xc, sx.map (fun s => s.l) = ls → Whl w' X sx → Whl w' B sq0 → Calls Try.prog 24 #[.agg #[.slice X sx.length xc], .agg #[.slice B sq0.length d]] w' fun e w'' => e = .returned (.bool (sameW ls ls)) ∧ Below w'.heap.size w' w'') := fun w' X sx xc h1 h h' => by
    obtain ⟨a1, a2⟩ := SzW.of hsz h1
    have := sameWheel_spec X B sx sq0 xc d w' (by omega) (by omega) (by omega) (by omega) h h'
    rw [h1, els] at this; exact this
  have CP1 := Lib.hid (fun w' X sx xc h1 h => pinsOf_impl X sx xc w' r.1 h1 hsz1 hF1 h)
  have CP2 : Hid (∀ w', Whl w' B sq0 → Calls Try.prog 17 #[.agg #[.slice B sq0.length d]] w' (NewR 33 2 w' (pinsW ls).length ((pinsW ls).flatMap pnC))) := fun w' h => by have := pinsOf_spec B sq0 d w' (by omega) (by omega) h; rw [els] at this; exact this
  have ER := Lib.hid er
  have hpl : (pinsW ls).length ≤ 10 := pinsW_len ls
  have HU := Lib.hid hU
  clear er hU b2 CD els hsz hF hsz1 hF1
  unfold pnA at C1 C2 C3 C4 C5
  have nB : (r.2 != r.2) = false := by simp
  unfold pnA
  have HA0 := Lib.hid HA
  have HP0 := Lib.hid HP
  have bX0 := Lib.hid bX
  have bW0 := Lib.hid bW
  clear HA HP bX bW
  go_upto_region 4 with fail
  rw [HU.out]
  have HA := HA0.out
  have HP := HP0.out
  have bX := bX0.out
  have bW := bW0.out
  clear HA0 HP0 bX0 bW0 HU
  have q0 := cell_of_one HA
  obtain ⟨q1, q1b⟩ := Pn.here.blk HP
  go_wp2_with fail
  refine (C1.out _ (hW.below bX)).mono ?_
  rintro e u3 ⟨V, vc, sv, rfl, hmv, oV, apV, x3⟩
  clear q0 q1 q1b
  have bX := bX.trans (x3.mono bX.size)
  have HA := blk_call HA x3
  have HP := blk_call HP x3
  have bW := bW.trans (x3.mono bW.size)
  have Z1 := x3.size
  try simp only [World.size_alloc] at Z1
  have B5 := Bx.new oV x3.size
  try simp only [World.size_alloc] at B5
  clear x3 oV apV
  have xa : Below u3.heap.size u3 (u3.alloc (.cells #[.slice V sv.length vc] 26)) := (Below.refl _ _).alloc (Nat.le_refl _) _
  have bX := bX.trans (xa.mono bX.size)
  have HA := blk_call HA xa
  have HP := blk_call HP xa
  have bW := bW.trans (xa.mono bW.size)
  have Z2 := xa.size
  try simp only [World.size_alloc] at Z2
  clear xa
  have q0 := cell_of_one HA
  obtain ⟨q1, q1b⟩ := Pn.here.blk HP
  have r0 := B5.cell
  go_wp2_with fail
  refine (C2.out _ (hW.below bX)).mono ?_
  rintro e u4 ⟨Q, qc, sq, rfl, hmq, oQ, x4⟩
  clear q0 q1 q1b r0
  have bX := bX.trans (x4.mono bX.size)
  have HA := blk_call HA x4
  have HP := blk_call HP x4
  have B5 := B5.call x4
  have bW := bW.trans (x4.mono bW.size)
  have Z3 := x4.size
  try simp only [World.size_alloc] at Z3
  have B7 := Bx.new oQ x4.size
  try simp only [World.size_alloc] at B7
  clear x4 oQ
  have xa : Below u4.heap.size u4 (u4.alloc (.cells #[.slice Q sq.length qc] 26)) := (Below.refl _ _).alloc (Nat.le_refl _) _
  have bX := bX.trans (xa.mono bX.size)
  have HA := blk_call HA xa
  have HP := blk_call HP xa
  have B5 := B5.call xa
  have bW := bW.trans (xa.mono bW.size)
  have Z4 := xa.size
  try simp only [World.size_alloc] at Z4
  clear xa
  obtain ⟨r1, r2⟩ := r
  cases r2 with
  | false =>
    have nC : ((wheelCutV ls x).2 == (wheelCutV ls x).2) = true := by simp
    generalize wheelCutV ls x = rc at *
    have q0 := cell_of_one HA
    obtain ⟨q1, q1b⟩ := Pn.here.blk HP
    have r0 := B5.cell
    have r1 := B7.cell
    go_wp2_with fail
    refine (C3.out _ (hW.below bX)).mono ?_
    rintro e u5 ⟨G, gc, sg, rfl, hmg, oG, apG, x5⟩
    clear q0 q1 q1b r0 r1
    have bX := bX.trans (x5.mono bX.size)
    have HA := blk_call HA x5
    have HP := blk_call HP x5
    have B5 := B5.call x5
    have B7 := B7.call x5
    have bW := bW.trans (x5.mono bW.size)
    have Z5 := x5.size
    try simp only [World.size_alloc] at Z5
    have B9 := Bx.new oG x5.size
    try simp only [World.size_alloc] at B9
    clear x5 oG apG
    have xa : Below u5.heap.size u5 (u5.alloc (.cells #[.slice G sg.length gc] 26)) := (Below.refl _ _).alloc (Nat.le_refl _) _
    have bX := bX.trans (xa.mono bX.size)
    have HA := blk_call HA xa
    have HP := blk_call HP xa
    have B5 := B5.call xa
    have B7 := B7.call xa
    have bW := bW.trans (xa.mono bW.size)
    have Z6 := xa.size
    try simp only [World.size_alloc] at Z6
    clear xa
    have q0 := cell_of_one HA
    obtain ⟨q1, q1b⟩ := Pn.here.blk HP
    have r0 := B5.cell
    have r1 := B7.cell
    have r2 := B9.cell
    go_wp2_with fail
    refine (C4.out _ (hW.below bX)).mono ?_
    rintro e u6 ⟨H, hc, sh, rfl, hmh, oH, x6⟩
    clear q0 q1 q1b r0 r1 r2
    have bX := bX.trans (x6.mono bX.size)
    have HA := blk_call HA x6
    have HP := blk_call HP x6
    have B5 := B5.call x6
    have B7 := B7.call x6
    have B9 := B9.call x6
    have bW := bW.trans (x6.mono bW.size)
    have Z7 := x6.size
    try simp only [World.size_alloc] at Z7
    have B11 := Bx.new oH x6.size
    try simp only [World.size_alloc] at B11
    clear x6 oH
    have xa : Below u6.heap.size u6 (u6.alloc (.cells #[.slice H sh.length hc] 26)) := (Below.refl _ _).alloc (Nat.le_refl _) _
    have bX := bX.trans (xa.mono bX.size)
    have HA := blk_call HA xa
    have HP := blk_call HP xa
    have B5 := B5.call xa
    have B7 := B7.call xa
    have B9 := B9.call xa
    have bW := bW.trans (xa.mono bW.size)
    have Z8 := xa.size
    try simp only [World.size_alloc] at Z8
    clear xa
    have q0 := cell_of_one HA
    obtain ⟨q1, q1b⟩ := Pn.here.blk HP
    have r0 := B5.cell
    have r1 := B7.cell
    have r2 := B9.cell
    have r3 := B11.cell
    have HB := Lib.hid bW
    go_wp2
    go_ret
    exact ⟨rfl, HB.out⟩
  | true =>
    obtain ⟨hok, hcut, hplen⟩ := put_cut ER.out
    have hsame := sameW_self hok
    rw [hcut] at C5
    rw [hsame] at CS1 CS2
    have HPL : Hid ((pinsW r1).length = (pinsW ls).length + 1) := hplen
    obtain ⟨pl, epl⟩ : ∃ pl, pinsW r1 = pl := ⟨_, rfl⟩
    obtain ⟨pm, epm⟩ : ∃ pm, pinsW ls = pm := ⟨_, rfl⟩
    rw [epl, epm] at HPL
    rw [epl] at CP1
    rw [epm] at CP2 hpl
    clear epl epm hcut hsame hplen hok
    have q0 := cell_of_one HA
    obtain ⟨q1, q1b⟩ := Pn.here.blk HP
    have r0 := B5.cell
    have r1 := B7.cell
    go_wp2_with fail
    refine (C5.out _ V sv vc hmv B5.O.whl).mono ?_
    rintro e u5 ⟨G, gc, sg, rfl, hmg, oG, apG, x5⟩
    clear q0 q1 q1b r0 r1
    have bX := bX.trans (x5.mono bX.size)
    have HA := blk_call HA x5
    have HP := blk_call HP x5
    have B5 := B5.call x5
    have B7 := B7.call x5
    have bW := bW.trans (x5.mono bW.size)
    have Z5 := x5.size
    try simp only [World.size_alloc] at Z5
    have B13 := Bx.new oG x5.size
    try simp only [World.size_alloc] at B13
    clear x5 oG apG
    have xa : Below u5.heap.size u5 (u5.alloc (.cells #[.slice G sg.length gc] 26)) := (Below.refl _ _).alloc (Nat.le_refl _) _
    have bX := bX.trans (xa.mono bX.size)
    have HA := blk_call HA xa
    have HP := blk_call HP xa
    have B5 := B5.call xa
    have B7 := B7.call xa
    have bW := bW.trans (xa.mono bW.size)
    have Z6 := xa.size
    try simp only [World.size_alloc] at Z6
    clear xa
    have q0 := cell_of_one HA
    obtain ⟨q1, q1b⟩ := Pn.here.blk HP
    have r0 := B5.cell
    have r1 := B7.cell
    have r2 := B13.cell
    go_wp2_with fail
    clear q0 q1 q1b r0 r1 r2
    have KA := Lib.hid (fun w' (h : Below (u5.alloc (.cells #[.slice G sg.length gc] 26)).heap.size (u5.alloc (.cells #[.slice G sg.length gc] 26)) w') => cell_of_one (blk_call HA h))
    have KU := Lib.hid (fun w' (h : Below (u5.alloc (.cells #[.slice G sg.length gc] 26)).heap.size (u5.alloc (.cells #[.slice G sg.length gc] 26)) w') => (B13.call h).cell)
    have KV := Lib.hid (fun w' (h : Below (u5.alloc (.cells #[.slice G sg.length gc] 26)).heap.size (u5.alloc (.cells #[.slice G sg.length gc] 26)) w') => (B5.call h).cell)
    have WA := Lib.hid (fun w' (h : Below (u5.alloc (.cells #[.slice G sg.length gc] 26)).heap.size (u5.alloc (.cells #[.slice G sg.length gc] 26)) w') => hW.below (bX.trans (h.mono bX.size)))
    have WU := Lib.hid (fun w' (h : Below (u5.alloc (.cells #[.slice G sg.length gc] 26)).heap.size (u5.alloc (.cells #[.slice G sg.length gc] 26)) w') => (B13.call h).O.whl)
    have WV := Lib.hid (fun w' (h : Below (u5.alloc (.cells #[.slice G sg.length gc] 26)).heap.size (u5.alloc (.cells #[.slice G sg.length gc] 26)) w') => (B5.call h).O.whl)
    refine wp_region_held_drew (S := fun w' => Hid (Below (u5.alloc (.cells #[.slice G sg.length gc] 26)).heap.size (u5.alloc (.cells #[.slice G sg.length gc] 26)) w')) (by kernel_rfl) (below_drawn (Below.refl _ _) 1) (fun hHeld => ?_)
    refine held_take 0 60 (.bool true) rfl rfl (by kernel_rfl) (by kernel_rfl) (by kernel_rfl) (fun _ _ _ h => h) rfl hHeld (fun w _ => rfl) ?_
    refine held_take 1 61 (.bool true) rfl rfl (by kernel_rfl) (by kernel_rfl) (by kernel_rfl) (fun _ _ _ h => h) rfl hHeld (fun w _ => rfl) ?_
    simp only [Act.put, List.setIfInBounds_toArray, List.set_cons_zero, List.set_cons_succ]
    refine held_take 2 62 (.agg #[.slice G sg.length gc]) rfl rfl (by kernel_rfl) (by kernel_rfl) (by kernel_rfl) (fun _ _ _ h => h) rfl hHeld (fun w h => exec_loadWh _ _ _ _ w (KU.out w h.out)) ?_
    refine held_take 3 63 (.agg #[.slice B sq0.length d]) rfl rfl (by kernel_rfl) (by kernel_rfl) (by kernel_rfl) (fun _ _ _ h => h) rfl hHeld (fun w h => exec_loadWh _ _ _ _ w (KA.out w h.out)) ?_
    simp only [Act.put, List.setIfInBounds_toArray, List.set_cons_zero, List.set_cons_succ]
    refine held_call 4 64 23 #[.agg #[.slice G sg.length gc], .agg #[.slice B sq0.length d]] rfl rfl (by kernel_rfl) rfl (exec_call Try.func23 (by kernel_rfl) (by kernel_rfl) _) ?_
    refine (CS1.out _ G sg gc hmg (WU.out _ hHeld.out) (WA.out _ hHeld.out)).mono ?_
    rintro e v1 ⟨rfl, y1⟩
    have hHeld : Hid (Below (u5.alloc (.cells #[.slice G sg.length gc] 26)).heap.size (u5.alloc (.cells #[.slice G sg.length gc] 26)) v1) := hHeld.out.trans (y1.mono hHeld.out.size)
    refine ⟨_, rfl, hHeld, ?_⟩
    simp only [Act.put, List.setIfInBounds_toArray, List.set_cons_zero, List.set_cons_succ]
    refine held_take 5 65 (.bool true) rfl rfl (by kernel_rfl) (by kernel_rfl) (by kernel_rfl) (fun _ _ _ h => h) rfl hHeld (fun w _ => exec_pickT _ w) ?_
    refine held_take 6 66 (.bool true) rfl rfl (by kernel_rfl) (by kernel_rfl) (by kernel_rfl) (fun _ _ _ h => h) rfl hHeld (fun w _ => rfl) ?_
    simp only [Act.put, List.setIfInBounds_toArray, List.set_cons_zero, List.set_cons_succ]
    refine held_take 7 67 (.agg #[.slice G sg.length gc]) rfl rfl (by kernel_rfl) (by kernel_rfl) (by kernel_rfl) (fun _ _ _ h => h) rfl hHeld (fun w h => exec_loadWh _ _ _ _ w (KU.out w h.out)) ?_
    refine held_take 8 68 (.agg #[.slice B sq0.length d]) rfl rfl (by kernel_rfl) (by kernel_rfl) (by kernel_rfl) (fun _ _ _ h => h) rfl hHeld (fun w h => exec_loadWh _ _ _ _ w (KA.out w h.out)) ?_
    simp only [Act.put, List.setIfInBounds_toArray, List.set_cons_zero, List.set_cons_succ]
    refine held_call 9 69 24 #[.agg #[.slice G sg.length gc], .agg #[.slice B sq0.length d]] rfl rfl (by kernel_rfl) rfl (exec_call Try.func24 (by kernel_rfl) (by kernel_rfl) _) ?_
    refine (CS2.out _ G sg gc hmg (WU.out _ hHeld.out) (WA.out _ hHeld.out)).mono ?_
    rintro e v2 ⟨rfl, y2⟩
    have hHeld : Hid (Below (u5.alloc (.cells #[.slice G sg.length gc] 26)).heap.size (u5.alloc (.cells #[.slice G sg.length gc] 26)) v2) := hHeld.out.trans (y2.mono hHeld.out.size)
    refine ⟨_, rfl, hHeld, ?_⟩
    simp only [Act.put, List.setIfInBounds_toArray, List.set_cons_zero, List.set_cons_succ]
    refine held_take 10 70 (.bool true) rfl rfl (by kernel_rfl) (by kernel_rfl) (by kernel_rfl) (fun _ _ _ h => h) rfl hHeld (fun w _ => exec_pickT _ w) ?_
    refine held_take 11 71 (.bool true) rfl rfl (by kernel_rfl) (by kernel_rfl) (by kernel_rfl) (fun _ _ _ h => h) rfl hHeld (fun w _ => rfl) ?_
    simp only [Act.put, List.setIfInBounds_toArray, List.set_cons_zero, List.set_cons_succ]
    refine held_take 12 72 (.agg #[.slice V sv.length vc]) rfl rfl (by kernel_rfl) (by kernel_rfl) (by kernel_rfl) (fun _ _ _ h => h) rfl hHeld (fun w h => exec_loadWh _ _ _ _ w (KV.out w h.out)) ?_
    refine held_take 15 75 (.agg #[.slice B sq0.length d]) rfl rfl (by kernel_rfl) (by kernel_rfl) (by kernel_rfl) (fun _ _ _ h => h) rfl hHeld (fun w h => exec_loadWh _ _ _ _ w (KA.out w h.out)) ?_
    simp only [Act.put, List.setIfInBounds_toArray, List.set_cons_zero, List.set_cons_succ]
    refine held_call 13 73 25 #[.agg #[.slice V sv.length vc]] rfl rfl (by kernel_rfl) rfl (exec_call Try.func25 (by kernel_rfl) (by kernel_rfl) _) ?_
    refine (CP1.out _ V sv vc hmv (WV.out _ hHeld.out)).mono ?_
    rintro e v3 ⟨RA, rc, rfl, oR, y3⟩
    have hHeld : Hid (Below (u5.alloc (.cells #[.slice G sg.length gc] 26)).heap.size (u5.alloc (.cells #[.slice G sg.length gc] 26)) v3) := hHeld.out.trans (y3.mono hHeld.out.size)
    refine ⟨_, rfl, hHeld, ?_⟩
    simp only [Act.put, List.setIfInBounds_toArray, List.set_cons_zero, List.set_cons_succ]
    refine held_take 14 74 (.int .i64 (pl.length : Nat)) rfl rfl (by kernel_rfl) (by kernel_rfl) (by kernel_rfl) (fun _ _ _ h => h) rfl hHeld (fun w _ => exec_lenT rowPin _ _ _ w) ?_
    simp only [Act.put, List.setIfInBounds_toArray, List.set_cons_zero, List.set_cons_succ]
    refine held_call 16 76 17 #[.agg #[.slice B sq0.length d]] rfl rfl (by kernel_rfl) rfl (exec_call Try.func17 (by kernel_rfl) (by kernel_rfl) _) ?_
    refine (CP2.out _ (WA.out _ hHeld.out)).mono ?_
    rintro e v4 ⟨RB, rd, rfl, oS, y4⟩
    have hHeld : Hid (Below (u5.alloc (.cells #[.slice G sg.length gc] 26)).heap.size (u5.alloc (.cells #[.slice G sg.length gc] 26)) v4) := hHeld.out.trans (y4.mono hHeld.out.size)
    refine ⟨_, rfl, hHeld, ?_⟩
    simp only [Act.put, List.setIfInBounds_toArray, List.set_cons_zero, List.set_cons_succ]
    refine held_take 17 77 (.int .i64 (pm.length : Nat)) rfl rfl (by kernel_rfl) (by kernel_rfl) (by kernel_rfl) (fun _ _ _ h => h) rfl hHeld (fun w _ => exec_lenT rowPin _ _ _ w) ?_
    refine held_take 18 78 (.int .i64 ((pm.length + 1 : Nat) : Int)) rfl rfl (by kernel_rfl) (by kernel_rfl) (by kernel_rfl) (fun _ _ _ h => h) rfl hHeld (fun w _ => exec_addI (pm.length : Int) 1 _ w (by omega) (by omega) (by omega)) ?_
    simp only [Act.put, List.setIfInBounds_toArray, List.set_cons_zero, List.set_cons_succ]
    refine held_take 19 79 (.bool true) rfl rfl (by kernel_rfl) (by kernel_rfl) (by kernel_rfl) (fun _ _ _ h => h) rfl hHeld (fun w _ => exec_eqlI0 (pl.length : Int) ((pm.length + 1 : Nat) : Int) w (by have := HPL.out; omega)) ?_
    refine held_take 20 80 (.bool true) rfl rfl (by kernel_rfl) (by kernel_rfl) (by kernel_rfl) (fun _ _ _ h => h) rfl hHeld (fun w _ => exec_pickT _ w) ?_
    simp only [Act.put, List.setIfInBounds_toArray, List.set_cons_zero, List.set_cons_succ]
    refine held_op 21 2 (.bool true) rfl rfl (by kernel_rfl) rfl rfl hHeld ?_
    simp only [Act.put, List.setIfInBounds_toArray, List.set_cons_zero, List.set_cons_succ]
    refine wpAnyH_done (by kernel_rfl) ?_ _
    have HB := Lib.hid (bW.trans (hHeld.out.mono bW.size))
    go_wp2
    go_ret
    exact ⟨rfl, HB.out⟩
end Go.Proofs.Ytflomkebgiemaaa
