/- The walks of the exact laws over wheels: WheelPut, WheelCut. -/
import Derived.Test.YtflomkebgiemaaaRows
import Derived.Test.YtflomkebgiemaaaWhW
namespace Go.Proofs.Ytflomkebgiemaaa
open Go.RowKit
set_option linter.unusedSimpArgs false
set_option linter.unusedVariables false
set_option maxRecDepth 100000 in
set_option maxHeartbeats 6400000 in
theorem FnExactWheelPut_walk (A : Option Addr) (sp : List Sp) (c : Nat) (p : Pn) (w : World) (hn0 : sp.length ≤ 9223372036854775807) (hl0 : ∀ s ∈ sp, s.l.length ≤ 9223372036854775807) (hf : FitL (sp.map (fun s => s.l))) (hA : Whl w A sp) (hp : p.fits) :
    Calls Try.prog 8 #[.agg #[.slice A sp.length c], pnA p] w fun e w' => e = .returned (.bool true) ∧ Below w.heap.size w w' := by
  have CZ := Lib.hid (fun w' (h : Rws w' w'.heap.size A (sp.flatMap spC)) => szWheel_val A sp c 1048576 w' hn0 hl0 h (by omega) (by omega))
  obtain ⟨U0, hU0⟩ : ∃ U, ((w.alloc (.cells #[.slice A sp.length c] 46)).alloc (.cells #[.int .i64 p.at_, .int .i64 p.id] 51)) = U := ⟨_, rfl⟩
  have T0 : U0.heap[w.heap.size]? = some (.cells #[.slice A sp.length c] 46) ∧ U0.heap[w.heap.size + 1]? = some (.cells #[.int .i64 p.at_, .int .i64 p.id] 51) ∧ Below w.heap.size w U0 := by rw [← hU0]; exact two_at w _ _ _ (Below.refl _ _)
  obtain ⟨HA, HP, bW⟩ := T0
  have hU0s : w.heap.size + 1 < U0.heap.size := by rw [← hU0]; simp
  have HU := Lib.hid hU0
  clear hU0
  unfold pnA
  have HA0 := Lib.hid HA
  have HP0 := Lib.hid HP
  have bW0 := Lib.hid bW
  clear HA bW HP
  go_enter Try.func8, Try.ntmps8
  go_wp2_with fail
  rw [HU.out]
  refine (CZ.out _ (rws_below hA.row bW0.out)).mono ?_
  rintro e u0 ⟨rfl, x0⟩
  have HA := HA0.out
  have bW := bW0.out
  have HP := HP0.out
  clear HA0 bW0 CZ HU HP0
  have HA := blk_call HA x0
  have HP := blk_call HP x0
  have bW := bW.trans (x0.mono bW.size)
  have Z1 := x0.size
  try simp only [World.size_alloc] at Z1
  clear x0
  by_cases hz : szV 1048576 sp < 0
  · generalize szV 1048576 sp = z at *
    have HB := Lib.hid bW
    go_wp2
    go_ret
    exact ⟨rfl, HB.out⟩
  have hS := szV_ok (sp := sp) (by omega)
  generalize szV 1048576 sp = z at *
  obtain ⟨ls, hls⟩ : ∃ ls, sp.map (fun s => s.l) = ls := ⟨_, rfl⟩
  rw [hls] at hS hf
  have HLS := Lib.hid hls
  obtain ⟨hn1, hl1⟩ := SzW.of hS hls
  have HS := Lib.hid hS
  have HF := Lib.hid hf
  have CT : Hid (∀ w', Below w.heap.size w w' → Calls Try.prog 36 #[.agg #[.slice A sp.length c]] w' (NewX w' ls)) := fun w' h => by have := toWheel_any A sp c w' (by omega) (by omega) (hA.below h); rw [hls] at this; exact this
  have CE : Hid (∀ X Y sx sy xc yc w', sx.map (fun s => s.l) = ls → sy.map (fun s => s.l) = ls → Whl w' X sx → Whl w' Y sy → Calls Try.prog 31 #[.agg #[.slice X sx.length xc], .agg #[.slice Y sy.length yc]] w' fun e w'' => e = .returned (.bool true) ∧ Below w'.heap.size w' w'') := fun X Y sx sy xc yc w' h1 h2 h3 h4 => by obtain ⟨a1, a2⟩ := SzW.of hS h1; exact eqWheel_same X Y sx sy xc yc w' (by omega) (by omega) h3 h4 (h1.trans h2.symm)
  have C1 : Hid (∀ X sx xc w', sx.map (fun s => s.l) = ls → Whl w' X sx → Calls Try.prog 20 #[.agg #[.slice X sx.length xc], pnA p] w' (NewWB w' (wheelPutV ls p))) := fun X sx xc w' h1 h => by obtain ⟨a1, a2⟩ := SzW.of hS h1; have := wheelPut_spec X sx xc p w' (by omega) (by omega) h; rw [h1] at this; exact this
  have C2 := Lib.hid (fun X sx xc w' h1 h => wheelPut_impl X sx xc p w' ls h1 hS hf hp h)
  have hR := putV_sz p hS
  obtain ⟨r, hr⟩ : ∃ r, wheelPutV ls p = r := ⟨_, rfl⟩
  rw [hr] at C1 C2 hR
  have HSR := Lib.hid hR
  have CG : Hid (∀ X Y sx sy xc yc w', sx.map (fun s => s.l) = r.1 → sy.map (fun s => s.l) = r.1 → Whl w' X sx → Whl w' Y sy → Calls Try.prog 31 #[.agg #[.slice X sx.length xc], .agg #[.slice Y sy.length yc]] w' fun e w'' => e = .returned (.bool true) ∧ Below w'.heap.size w' w'') := fun X Y sx sy xc yc w' h1 h2 h3 h4 => by obtain ⟨a1, a2⟩ := SzW.of hR h1; exact eqWheel_same X Y sx sy xc yc w' (by omega) (by omega) h3 h4 (h1.trans h2.symm)
  have nB : (r.2 != r.2) = false := by simp
  clear hr hR hp
  clear hls hf hS
  have q0 := cell_of_one HA
  obtain ⟨q1, q1b⟩ := Pn.here.blk HP
  go_wp2_with fail
  clear q0 q1 q1b
  have KA := Lib.hid (fun w' (h : Below u0.heap.size u0 w') => cell_of_one (blk_call HA h))
  have KP := Lib.hid (fun w' (h : Below u0.heap.size u0 w') => Pn.here.blk (blk_call HP h))
  go_cut [6, 7] from 21 to 28 (fun s6 s7 wx => ∃ (g' : Nat) (N : Option Addr) (nc : Nat) (sq : List Sp), s6 = .pointer (some ⟨g', 0, none⟩) ∧ s7 = .bool r.2 ∧ Hid (sq.map (·.l) = r.1) ∧ Hid (Bx wx g' u0.heap.size wx.heap.size N nc sq) ∧ Hid (Below u0.heap.size u0 wx))
  case first =>
    refine wp_region_held_drew (S := fun w' => Hid (Below u0.heap.size u0 w')) (by kernel_rfl) (below_drawn (Below.refl _ _) 1) (fun hHeld => ?_)
    refine held_take 0 22 (.agg #[.slice A sp.length c]) rfl rfl (by kernel_rfl) (by kernel_rfl) (by kernel_rfl) (fun _ _ _ h => h) rfl hHeld (fun w h => exec_load_lW _ _ _ _ w (KA.out w h.out)) ?_
    refine held_take 2 24 (pnA p) rfl rfl (by kernel_rfl) (by kernel_rfl) (by kernel_rfl) (fun _ _ _ h => h) rfl hHeld (fun w h => exec_load_lP _ 0 p w (KP.out w h.out)) ?_
    simp only [Act.put, List.setIfInBounds_toArray, List.set_cons_zero, List.set_cons_succ]
    refine wpAnyH_ready (rs := [1, 8]) (by kernel_rfl) (by simp) (ready_call 1 23 36 #[.agg #[.slice A sp.length c]] rfl rfl rfl (exec_call Try.func36 (by kernel_rfl) (by kernel_rfl) _) ?_ (ready_op 8 6 (.pointer (some ⟨(u0.drew).heap.size, 0, none⟩)) rfl rfl rfl (exec_allocWh _) (Lib.hid (hHeld.out.alloc hHeld.out.size _)) ?_ AllReadyH.nil))
    · skip
      refine (CT.out _ (bW.trans (hHeld.out.mono bW.size))).mono ?_
      rintro e v1 ⟨X, xc, sx, rfl, hmx, oX, -, y1⟩
      have hHeld : Hid (Below u0.heap.size u0 v1) := hHeld.out.trans (y1.mono hHeld.out.size)
      have zy1 := y1.size
      refine ⟨_, rfl, hHeld, ?_⟩
      simp only [Act.put, List.setIfInBounds_toArray, List.set_cons_zero, List.set_cons_succ]
      refine wpAnyH_ready (rs := [3, 8]) (by kernel_rfl) (by simp) (ready_call 3 25 38 #[pnA p] rfl rfl rfl (exec_call Try.func38 (by kernel_rfl) (by kernel_rfl) _) ?_ (ready_op 8 6 (.pointer (some ⟨(v1).heap.size, 0, none⟩)) rfl rfl rfl (exec_allocWh _) (Lib.hid (hHeld.out.alloc hHeld.out.size _)) ?_ AllReadyH.nil))
      · skip
        refine (toPin_any p _).mono ?_
        rintro e v2 ⟨rfl, y2⟩
        have oX := oX.below y2
        have hHeld : Hid (Below u0.heap.size u0 v2) := hHeld.out.trans (y2.mono hHeld.out.size)
        have zy2 := y2.size
        refine ⟨_, rfl, hHeld, ?_⟩
        simp only [Act.put, List.setIfInBounds_toArray, List.set_cons_zero, List.set_cons_succ]
        refine wpAnyH_ready (rs := [4, 8]) (by kernel_rfl) (by simp) (ready_call 4 26 20 #[.agg #[.slice X sx.length xc], pnA p] rfl rfl rfl (exec_call Try.func20 (by kernel_rfl) (by kernel_rfl) _) ?_ (ready_op 8 6 (.pointer (some ⟨(v2).heap.size, 0, none⟩)) rfl rfl rfl (exec_allocWh _) (Lib.hid (hHeld.out.alloc hHeld.out.size _)) ?_ AllReadyH.nil))
        · skip
          refine (C1.out X sx xc _ hmx oX.whl).mono ?_
          rintro e v3 ⟨N, nc, sn, rfl, hmn0, on, y3⟩
          have on := on.weak (B' := u0.heap.size) hHeld.out.size
          have hmn := hmn0
          have oX := oX.below y3
          have hHeld : Hid (Below u0.heap.size u0 v3) := hHeld.out.trans (y3.mono hHeld.out.size)
          have zy3 := y3.size
          refine ⟨_, rfl, hHeld, ?_⟩
          simp only [Act.put, List.setIfInBounds_toArray, List.set_cons_zero, List.set_cons_succ]
          refine held_take 5 21 (.tuple #[.agg #[.slice N sn.length nc], .bool r.2]) rfl rfl (by kernel_rfl) (by kernel_rfl) (by kernel_rfl) (fun _ _ _ h => h) rfl hHeld (fun w _ => rfl) ?_
          simp only [Act.put, List.setIfInBounds_toArray, List.set_cons_zero, List.set_cons_succ]
          refine held_take 6 27 (.agg #[.slice N sn.length nc]) rfl rfl (by kernel_rfl) (by kernel_rfl) (by kernel_rfl) (fun _ _ _ h => h) rfl hHeld (fun w _ => rfl) ?_
          refine held_take 7 28 (.bool r.2) rfl rfl (by kernel_rfl) (by kernel_rfl) (by kernel_rfl) (fun _ _ _ h => h) rfl hHeld (fun w _ => rfl) ?_
          simp only [Act.put, List.setIfInBounds_toArray, List.set_cons_zero, List.set_cons_succ]
          have k4 := hHeld.out.alloc hHeld.out.size (.cells #[.slice none 0 0] 26)
          have l4 := hHeld.out.size
          refine held_op 8 6 (.pointer (some ⟨(v3).heap.size, 0, none⟩)) rfl rfl (by kernel_rfl) rfl (exec_allocWh _) (Lib.hid k4) ?_
          simp only [Act.put, List.setIfInBounds_toArray, List.set_cons_zero, List.set_cons_succ]
          have hgz := heap_new (v3) (.cells #[.slice none 0 0] 26)
          have on := on.alloc (.cells #[.slice none 0 0] 26)
          have hHeld := Lib.hid k4
          have cz := cell_of_one hgz
          have fz := free_of_one hgz
          have hon := fun q hq => on.lo q hq
          have ltz := blk_lt hgz
          have zz := hHeld.out.size
          have k5 : Below u0.heap.size u0 ((((v3).alloc (.cells #[.slice none 0 0] 26))).setCell ⟨(v3).heap.size, 0, none⟩ (.slice N sn.length nc)) := hHeld.out.setCell (p := ⟨(v3).heap.size, 0, none⟩) (by show _ ≤ (v3).heap.size; exact l4) _
          have BX : Bx ((((v3).alloc (.cells #[.slice none 0 0] 26))).setCell ⟨(v3).heap.size, 0, none⟩ (.slice N sn.length nc)) (v3).heap.size u0.heap.size ((((v3).alloc (.cells #[.slice none 0 0] 26))).setCell ⟨(v3).heap.size, 0, none⟩ (.slice N sn.length nc)).heap.size N nc sn := Bx.put on hgz (fun q hq => by
              rw [World.size_setCell]
              rcases hq with rfl | hq
              · exact ⟨l4, ltz⟩
              · have := hon q hq; refine ⟨this.1, this.2⟩)
          refine held_store 9 rfl rfl (by kernel_rfl) rfl (exec_storeWh _ N sn.length nc _ _ cz fz) (Lib.hid k5) ?_
          have hHeld := Lib.hid k5
          refine held_op 10 7 (.bool r.2) rfl rfl (by kernel_rfl) rfl rfl hHeld ?_
          simp only [Act.put, List.setIfInBounds_toArray, List.set_cons_zero, List.set_cons_succ]
          refine wpAnyH_done (by kernel_rfl) ?_ _
          have HX := Lib.hid BX
          have HMN := Lib.hid hmn
          clear BX k5 on hmn cz fz hgz hon ltz zz
          go_wp2_with fail
          go_meet
          exact ⟨_, N, nc, sn, rfl, rfl, HMN, HX, hHeld⟩
        · skip
          have k4 := hHeld.out.alloc hHeld.out.size (.cells #[.slice none 0 0] 26)
          have hgz := heap_new (v2) (.cells #[.slice none 0 0] 26)
          have l4 := hHeld.out.size
          have hHeld := Lib.hid k4
          simp only [Act.put, List.setIfInBounds_toArray, List.set_cons_zero, List.set_cons_succ]
          have oX := oX.alloc (.cells #[.slice none 0 0] 26)
          refine held_call 4 26 20 #[.agg #[.slice X sx.length xc], pnA p] rfl rfl (by kernel_rfl) rfl (exec_call Try.func20 (by kernel_rfl) (by kernel_rfl) _) ?_
          refine (C1.out X sx xc _ hmx oX.whl).mono ?_
          rintro e v4 ⟨N, nc, sn, rfl, hmn0, on, y4⟩
          have on := on.weak (B' := u0.heap.size) hHeld.out.size
          have hmn := hmn0
          have oX := oX.below y4
          have hgz := blk_call hgz y4
          have hHeld : Hid (Below u0.heap.size u0 v4) := hHeld.out.trans (y4.mono hHeld.out.size)
          have zy4 := y4.size
          refine ⟨_, rfl, hHeld, ?_⟩
          simp only [Act.put, List.setIfInBounds_toArray, List.set_cons_zero, List.set_cons_succ]
          refine held_take 5 21 (.tuple #[.agg #[.slice N sn.length nc], .bool r.2]) rfl rfl (by kernel_rfl) (by kernel_rfl) (by kernel_rfl) (fun _ _ _ h => h) rfl hHeld (fun w _ => rfl) ?_
          simp only [Act.put, List.setIfInBounds_toArray, List.set_cons_zero, List.set_cons_succ]
          refine held_take 6 27 (.agg #[.slice N sn.length nc]) rfl rfl (by kernel_rfl) (by kernel_rfl) (by kernel_rfl) (fun _ _ _ h => h) rfl hHeld (fun w _ => rfl) ?_
          refine held_take 7 28 (.bool r.2) rfl rfl (by kernel_rfl) (by kernel_rfl) (by kernel_rfl) (fun _ _ _ h => h) rfl hHeld (fun w _ => rfl) ?_
          simp only [Act.put, List.setIfInBounds_toArray, List.set_cons_zero, List.set_cons_succ]
          have cz := cell_of_one hgz
          have fz := free_of_one hgz
          have hon := fun q hq => on.lo q hq
          have ltz := blk_lt hgz
          have zz := hHeld.out.size
          have k5 : Below u0.heap.size u0 ((v4).setCell ⟨(v2).heap.size, 0, none⟩ (.slice N sn.length nc)) := hHeld.out.setCell (p := ⟨(v2).heap.size, 0, none⟩) (by show _ ≤ (v2).heap.size; exact l4) _
          have BX : Bx ((v4).setCell ⟨(v2).heap.size, 0, none⟩ (.slice N sn.length nc)) (v2).heap.size u0.heap.size ((v4).setCell ⟨(v2).heap.size, 0, none⟩ (.slice N sn.length nc)).heap.size N nc sn := Bx.put on hgz (fun q hq => by
              rw [World.size_setCell]
              rcases hq with rfl | hq
              · exact ⟨l4, ltz⟩
              · have := hon q hq; refine ⟨this.1, this.2⟩)
          refine held_store 9 rfl rfl (by kernel_rfl) rfl (exec_storeWh _ N sn.length nc _ _ cz fz) (Lib.hid k5) ?_
          have hHeld := Lib.hid k5
          refine held_op 10 7 (.bool r.2) rfl rfl (by kernel_rfl) rfl rfl hHeld ?_
          simp only [Act.put, List.setIfInBounds_toArray, List.set_cons_zero, List.set_cons_succ]
          refine wpAnyH_done (by kernel_rfl) ?_ _
          have HX := Lib.hid BX
          have HMN := Lib.hid hmn
          clear BX k5 on hmn cz fz hgz hon ltz zz
          go_wp2_with fail
          go_meet
          exact ⟨_, N, nc, sn, rfl, rfl, HMN, HX, hHeld⟩
      · skip
        have k4 := hHeld.out.alloc hHeld.out.size (.cells #[.slice none 0 0] 26)
        have hgz := heap_new (v1) (.cells #[.slice none 0 0] 26)
        have l4 := hHeld.out.size
        have hHeld := Lib.hid k4
        simp only [Act.put, List.setIfInBounds_toArray, List.set_cons_zero, List.set_cons_succ]
        have oX := oX.alloc (.cells #[.slice none 0 0] 26)
        refine held_call 3 25 38 #[pnA p] rfl rfl (by kernel_rfl) rfl (exec_call Try.func38 (by kernel_rfl) (by kernel_rfl) _) ?_
        refine (toPin_any p _).mono ?_
        rintro e v5 ⟨rfl, y5⟩
        have oX := oX.below y5
        have hgz := blk_call hgz y5
        have hHeld : Hid (Below u0.heap.size u0 v5) := hHeld.out.trans (y5.mono hHeld.out.size)
        have zy5 := y5.size
        refine ⟨_, rfl, hHeld, ?_⟩
        simp only [Act.put, List.setIfInBounds_toArray, List.set_cons_zero, List.set_cons_succ]
        refine held_call 4 26 20 #[.agg #[.slice X sx.length xc], pnA p] rfl rfl (by kernel_rfl) rfl (exec_call Try.func20 (by kernel_rfl) (by kernel_rfl) _) ?_
        refine (C1.out X sx xc _ hmx oX.whl).mono ?_
        rintro e v6 ⟨N, nc, sn, rfl, hmn0, on, y6⟩
        have on := on.weak (B' := u0.heap.size) hHeld.out.size
        have hmn := hmn0
        have oX := oX.below y6
        have hgz := blk_call hgz y6
        have hHeld : Hid (Below u0.heap.size u0 v6) := hHeld.out.trans (y6.mono hHeld.out.size)
        have zy6 := y6.size
        refine ⟨_, rfl, hHeld, ?_⟩
        simp only [Act.put, List.setIfInBounds_toArray, List.set_cons_zero, List.set_cons_succ]
        refine held_take 5 21 (.tuple #[.agg #[.slice N sn.length nc], .bool r.2]) rfl rfl (by kernel_rfl) (by kernel_rfl) (by kernel_rfl) (fun _ _ _ h => h) rfl hHeld (fun w _ => rfl) ?_
        simp only [Act.put, List.setIfInBounds_toArray, List.set_cons_zero, List.set_cons_succ]
        refine held_take 6 27 (.agg #[.slice N sn.length nc]) rfl rfl (by kernel_rfl) (by kernel_rfl) (by kernel_rfl) (fun _ _ _ h => h) rfl hHeld (fun w _ => rfl) ?_
        refine held_take 7 28 (.bool r.2) rfl rfl (by kernel_rfl) (by kernel_rfl) (by kernel_rfl) (fun _ _ _ h => h) rfl hHeld (fun w _ => rfl) ?_
        simp only [Act.put, List.setIfInBounds_toArray, List.set_cons_zero, List.set_cons_succ]
        have cz := cell_of_one hgz
        have fz := free_of_one hgz
        have hon := fun q hq => on.lo q hq
        have ltz := blk_lt hgz
        have zz := hHeld.out.size
        have k5 : Below u0.heap.size u0 ((v6).setCell ⟨(v1).heap.size, 0, none⟩ (.slice N sn.length nc)) := hHeld.out.setCell (p := ⟨(v1).heap.size, 0, none⟩) (by show _ ≤ (v1).heap.size; exact l4) _
        have BX : Bx ((v6).setCell ⟨(v1).heap.size, 0, none⟩ (.slice N sn.length nc)) (v1).heap.size u0.heap.size ((v6).setCell ⟨(v1).heap.size, 0, none⟩ (.slice N sn.length nc)).heap.size N nc sn := Bx.put on hgz (fun q hq => by
            rw [World.size_setCell]
            rcases hq with rfl | hq
            · exact ⟨l4, ltz⟩
            · have := hon q hq; refine ⟨this.1, this.2⟩)
        refine held_store 9 rfl rfl (by kernel_rfl) rfl (exec_storeWh _ N sn.length nc _ _ cz fz) (Lib.hid k5) ?_
        have hHeld := Lib.hid k5
        refine held_op 10 7 (.bool r.2) rfl rfl (by kernel_rfl) rfl rfl hHeld ?_
        simp only [Act.put, List.setIfInBounds_toArray, List.set_cons_zero, List.set_cons_succ]
        refine wpAnyH_done (by kernel_rfl) ?_ _
        have HX := Lib.hid BX
        have HMN := Lib.hid hmn
        clear BX k5 on hmn cz fz hgz hon ltz zz
        go_wp2_with fail
        go_meet
        exact ⟨_, N, nc, sn, rfl, rfl, HMN, HX, hHeld⟩
    · skip
      have k4 := hHeld.out.alloc hHeld.out.size (.cells #[.slice none 0 0] 26)
      have hgz := heap_new (u0.drew) (.cells #[.slice none 0 0] 26)
      have l4 := hHeld.out.size
      have hHeld := Lib.hid k4
      simp only [Act.put, List.setIfInBounds_toArray, List.set_cons_zero, List.set_cons_succ]
      refine held_call 1 23 36 #[.agg #[.slice A sp.length c]] rfl rfl (by kernel_rfl) rfl (exec_call Try.func36 (by kernel_rfl) (by kernel_rfl) _) ?_
      refine (CT.out _ (bW.trans (hHeld.out.mono bW.size))).mono ?_
      rintro e v7 ⟨X, xc, sx, rfl, hmx, oX, -, y7⟩
      have hgz := blk_call hgz y7
      have hHeld : Hid (Below u0.heap.size u0 v7) := hHeld.out.trans (y7.mono hHeld.out.size)
      have zy7 := y7.size
      refine ⟨_, rfl, hHeld, ?_⟩
      simp only [Act.put, List.setIfInBounds_toArray, List.set_cons_zero, List.set_cons_succ]
      refine held_call 3 25 38 #[pnA p] rfl rfl (by kernel_rfl) rfl (exec_call Try.func38 (by kernel_rfl) (by kernel_rfl) _) ?_
      refine (toPin_any p _).mono ?_
      rintro e v8 ⟨rfl, y8⟩
      have oX := oX.below y8
      have hgz := blk_call hgz y8
      have hHeld : Hid (Below u0.heap.size u0 v8) := hHeld.out.trans (y8.mono hHeld.out.size)
      have zy8 := y8.size
      refine ⟨_, rfl, hHeld, ?_⟩
      simp only [Act.put, List.setIfInBounds_toArray, List.set_cons_zero, List.set_cons_succ]
      refine held_call 4 26 20 #[.agg #[.slice X sx.length xc], pnA p] rfl rfl (by kernel_rfl) rfl (exec_call Try.func20 (by kernel_rfl) (by kernel_rfl) _) ?_
      refine (C1.out X sx xc _ hmx oX.whl).mono ?_
      rintro e v9 ⟨N, nc, sn, rfl, hmn0, on, y9⟩
      have on := on.weak (B' := u0.heap.size) hHeld.out.size
      have hmn := hmn0
      have oX := oX.below y9
      have hgz := blk_call hgz y9
      have hHeld : Hid (Below u0.heap.size u0 v9) := hHeld.out.trans (y9.mono hHeld.out.size)
      have zy9 := y9.size
      refine ⟨_, rfl, hHeld, ?_⟩
      simp only [Act.put, List.setIfInBounds_toArray, List.set_cons_zero, List.set_cons_succ]
      refine held_take 5 21 (.tuple #[.agg #[.slice N sn.length nc], .bool r.2]) rfl rfl (by kernel_rfl) (by kernel_rfl) (by kernel_rfl) (fun _ _ _ h => h) rfl hHeld (fun w _ => rfl) ?_
      simp only [Act.put, List.setIfInBounds_toArray, List.set_cons_zero, List.set_cons_succ]
      refine held_take 6 27 (.agg #[.slice N sn.length nc]) rfl rfl (by kernel_rfl) (by kernel_rfl) (by kernel_rfl) (fun _ _ _ h => h) rfl hHeld (fun w _ => rfl) ?_
      refine held_take 7 28 (.bool r.2) rfl rfl (by kernel_rfl) (by kernel_rfl) (by kernel_rfl) (fun _ _ _ h => h) rfl hHeld (fun w _ => rfl) ?_
      simp only [Act.put, List.setIfInBounds_toArray, List.set_cons_zero, List.set_cons_succ]
      have cz := cell_of_one hgz
      have fz := free_of_one hgz
      have hon := fun q hq => on.lo q hq
      have ltz := blk_lt hgz
      have zz := hHeld.out.size
      have k5 : Below u0.heap.size u0 ((v9).setCell ⟨(u0.drew).heap.size, 0, none⟩ (.slice N sn.length nc)) := hHeld.out.setCell (p := ⟨(u0.drew).heap.size, 0, none⟩) (by show _ ≤ (u0.drew).heap.size; exact l4) _
      have BX : Bx ((v9).setCell ⟨(u0.drew).heap.size, 0, none⟩ (.slice N sn.length nc)) (u0.drew).heap.size u0.heap.size ((v9).setCell ⟨(u0.drew).heap.size, 0, none⟩ (.slice N sn.length nc)).heap.size N nc sn := Bx.put on hgz (fun q hq => by
          rw [World.size_setCell]
          rcases hq with rfl | hq
          · exact ⟨l4, ltz⟩
          · have := hon q hq; refine ⟨this.1, this.2⟩)
      refine held_store 9 rfl rfl (by kernel_rfl) rfl (exec_storeWh _ N sn.length nc _ _ cz fz) (Lib.hid k5) ?_
      have hHeld := Lib.hid k5
      refine held_op 10 7 (.bool r.2) rfl rfl (by kernel_rfl) rfl rfl hHeld ?_
      simp only [Act.put, List.setIfInBounds_toArray, List.set_cons_zero, List.set_cons_succ]
      refine wpAnyH_done (by kernel_rfl) ?_ _
      have HX := Lib.hid BX
      have HMN := Lib.hid hmn
      clear BX k5 on hmn cz fz hgz hon ltz zz
      go_wp2_with fail
      go_meet
      exact ⟨_, N, nc, sn, rfl, rfl, HMN, HX, hHeld⟩
  case rest =>
    obtain ⟨gq, Q, qc, sq, rfl, rfl, hmq, hB6, xr⟩ := hcut
    obtain ⟨u2, hu⟩ : ∃ u : World, u = wc := ⟨_, rfl⟩
    subst hu
    have B6 := hB6.out
    try simp only [World.size_alloc] at B6
    have xr := xr.out
    clear hB6 KA KP
    have HA := blk_call HA xr
    have HP := blk_call HP xr
    have bW := bW.trans (xr.mono bW.size)
    have Z2 := xr.size
    try simp only [World.size_alloc] at Z2
    clear xr
    have hmq := hmq.out
    have q0 := cell_of_one HA
    obtain ⟨q1, q1b⟩ := Pn.here.blk HP
    have r0 := B6.cell
    go_wp2_with fail
    refine (CT.out _ bW).mono ?_
    rintro e u3 ⟨X, xc, sx, rfl, hmx, oX, apX, x3⟩
    clear q0 q1 q1b r0
    have HA := blk_call HA x3
    have HP := blk_call HP x3
    have B6 := B6.call x3
    have bW := bW.trans (x3.mono bW.size)
    have Z3 := x3.size
    try simp only [World.size_alloc] at Z3
    have B8 := Bx.new oX x3.size
    try simp only [World.size_alloc] at B8
    clear x3 oX
    have xa : Below u3.heap.size u3 (u3.alloc (.cells #[.slice X sx.length xc] 26)) := (Below.refl _ _).alloc (Nat.le_refl _) _
    have HA := blk_call HA xa
    have HP := blk_call HP xa
    have B6 := B6.call xa
    have bW := bW.trans (xa.mono bW.size)
    have Z4 := xa.size
    try simp only [World.size_alloc] at Z4
    clear xa
    have HAX := Lib.hid apX
    obtain ⟨hnx, hlx⟩ := SzW.of HS.out hmx
    clear apX
    have q0 := cell_of_one HA
    obtain ⟨q1, q1b⟩ := Pn.here.blk HP
    have r0 := B6.cell
    have r1 := B8.cell
    go_wp2_with fail
    clear q0 q1 q1b r0 r1
    have K8 := Lib.hid (fun w' (h : Below (u3.alloc (.cells #[.slice X sx.length xc] 26)).heap.size (u3.alloc (.cells #[.slice X sx.length xc] 26)) w') => (B8.call h).cell)
    have KP := Lib.hid (fun w' (h : Below (u3.alloc (.cells #[.slice X sx.length xc] 26)).heap.size (u3.alloc (.cells #[.slice X sx.length xc] 26)) w') => Pn.here.blk (blk_call HP h))
    have KA := Lib.hid (fun w' (h : Below (u3.alloc (.cells #[.slice X sx.length xc] 26)).heap.size (u3.alloc (.cells #[.slice X sx.length xc] 26)) w') => cell_of_one (blk_call HA h))
    go_cut [9, 10] from 31 to 37 (fun s6 s7 wx => ∃ (g' : Nat) (N : Option Addr) (nc : Nat) (sq : List Sp), s6 = .pointer (some ⟨g', 0, none⟩) ∧ s7 = .bool r.2 ∧ Hid (sq.map (·.l) = r.1 ∧ ApartW sq) ∧ Hid (Bx wx g' (u3.alloc (.cells #[.slice X sx.length xc] 26)).heap.size wx.heap.size N nc sq) ∧ Hid (Below (u3.alloc (.cells #[.slice X sx.length xc] 26)).heap.size (u3.alloc (.cells #[.slice X sx.length xc] 26)) wx))
    case first =>
      refine wp_region_held_drew (S := fun w' => Hid (Below (u3.alloc (.cells #[.slice X sx.length xc] 26)).heap.size (u3.alloc (.cells #[.slice X sx.length xc] 26)) w')) (by kernel_rfl) (below_drawn (Below.refl _ _) 1) (fun hHeld => ?_)
      refine held_take 0 32 (.agg #[.slice X sx.length xc]) rfl rfl (by kernel_rfl) (by kernel_rfl) (by kernel_rfl) (fun _ _ _ h => h) rfl hHeld (fun w h => exec_loadWh _ _ _ _ w (K8.out w h.out)) ?_
      refine held_take 1 33 (pnA p) rfl rfl (by kernel_rfl) (by kernel_rfl) (by kernel_rfl) (fun _ _ _ h => h) rfl hHeld (fun w h => exec_load_lP _ 0 p w (KP.out w h.out)) ?_
      simp only [Act.put, List.setIfInBounds_toArray, List.set_cons_zero, List.set_cons_succ]
      refine wpAnyH_ready (rs := [2, 7]) (by kernel_rfl) (by simp) (ready_call 2 34 38 #[pnA p] rfl rfl rfl (exec_call Try.func38 (by kernel_rfl) (by kernel_rfl) _) ?_ (ready_op 7 9 (.pointer (some ⟨((u3.alloc (.cells #[.slice X sx.length xc] 26)).drew).heap.size, 0, none⟩)) rfl rfl rfl (exec_allocWh _) (Lib.hid (hHeld.out.alloc hHeld.out.size _)) ?_ AllReadyH.nil))
      · skip
        refine (toPin_any p _).mono ?_
        rintro e v1 ⟨rfl, y1⟩
        have hHeld : Hid (Below (u3.alloc (.cells #[.slice X sx.length xc] 26)).heap.size (u3.alloc (.cells #[.slice X sx.length xc] 26)) v1) := hHeld.out.trans (y1.mono hHeld.out.size)
        have zy1 := y1.size
        refine ⟨_, rfl, hHeld, ?_⟩
        simp only [Act.put, List.setIfInBounds_toArray, List.set_cons_zero, List.set_cons_succ]
        refine wpAnyH_ready (rs := [3, 7]) (by kernel_rfl) (by simp) (ready_call 3 35 19 #[.agg #[.slice X sx.length xc], pnA p] rfl rfl rfl (exec_call Try.func19 (by kernel_rfl) (by kernel_rfl) _) ?_ (ready_op 7 9 (.pointer (some ⟨(v1).heap.size, 0, none⟩)) rfl rfl rfl (exec_allocWh _) (Lib.hid (hHeld.out.alloc hHeld.out.size _)) ?_ AllReadyH.nil))
        · skip
          refine (C2.out X sx xc _ hmx (B8.call hHeld.out).O.whl).mono ?_
          rintro e v2 ⟨N, nc, sn, rfl, hmn0, on, apn, y2⟩
          have on := on.weak (B' := (u3.alloc (.cells #[.slice X sx.length xc] 26)).heap.size) hHeld.out.size
          have hmn := And.intro hmn0 apn
          have hHeld : Hid (Below (u3.alloc (.cells #[.slice X sx.length xc] 26)).heap.size (u3.alloc (.cells #[.slice X sx.length xc] 26)) v2) := hHeld.out.trans (y2.mono hHeld.out.size)
          have zy2 := y2.size
          refine ⟨_, rfl, hHeld, ?_⟩
          simp only [Act.put, List.setIfInBounds_toArray, List.set_cons_zero, List.set_cons_succ]
          refine held_take 4 31 (.tuple #[.agg #[.slice N sn.length nc], .bool r.2]) rfl rfl (by kernel_rfl) (by kernel_rfl) (by kernel_rfl) (fun _ _ _ h => h) rfl hHeld (fun w _ => rfl) ?_
          simp only [Act.put, List.setIfInBounds_toArray, List.set_cons_zero, List.set_cons_succ]
          refine held_take 5 36 (.agg #[.slice N sn.length nc]) rfl rfl (by kernel_rfl) (by kernel_rfl) (by kernel_rfl) (fun _ _ _ h => h) rfl hHeld (fun w _ => rfl) ?_
          refine held_take 6 37 (.bool r.2) rfl rfl (by kernel_rfl) (by kernel_rfl) (by kernel_rfl) (fun _ _ _ h => h) rfl hHeld (fun w _ => rfl) ?_
          simp only [Act.put, List.setIfInBounds_toArray, List.set_cons_zero, List.set_cons_succ]
          have k4 := hHeld.out.alloc hHeld.out.size (.cells #[.slice none 0 0] 26)
          have l4 := hHeld.out.size
          refine held_op 7 9 (.pointer (some ⟨(v2).heap.size, 0, none⟩)) rfl rfl (by kernel_rfl) rfl (exec_allocWh _) (Lib.hid k4) ?_
          simp only [Act.put, List.setIfInBounds_toArray, List.set_cons_zero, List.set_cons_succ]
          have hgz := heap_new (v2) (.cells #[.slice none 0 0] 26)
          have on := on.alloc (.cells #[.slice none 0 0] 26)
          have hHeld := Lib.hid k4
          have cz := cell_of_one hgz
          have fz := free_of_one hgz
          have hon := fun q hq => on.lo q hq
          have ltz := blk_lt hgz
          have zz := hHeld.out.size
          have k5 : Below (u3.alloc (.cells #[.slice X sx.length xc] 26)).heap.size (u3.alloc (.cells #[.slice X sx.length xc] 26)) ((((v2).alloc (.cells #[.slice none 0 0] 26))).setCell ⟨(v2).heap.size, 0, none⟩ (.slice N sn.length nc)) := hHeld.out.setCell (p := ⟨(v2).heap.size, 0, none⟩) (by show _ ≤ (v2).heap.size; exact l4) _
          have BX : Bx ((((v2).alloc (.cells #[.slice none 0 0] 26))).setCell ⟨(v2).heap.size, 0, none⟩ (.slice N sn.length nc)) (v2).heap.size (u3.alloc (.cells #[.slice X sx.length xc] 26)).heap.size ((((v2).alloc (.cells #[.slice none 0 0] 26))).setCell ⟨(v2).heap.size, 0, none⟩ (.slice N sn.length nc)).heap.size N nc sn := Bx.put on hgz (fun q hq => by
              rw [World.size_setCell]
              rcases hq with rfl | hq
              · exact ⟨l4, ltz⟩
              · have := hon q hq; refine ⟨this.1, this.2⟩)
          refine held_store 8 rfl rfl (by kernel_rfl) rfl (exec_storeWh _ N sn.length nc _ _ cz fz) (Lib.hid k5) ?_
          have hHeld := Lib.hid k5
          refine held_op 9 10 (.bool r.2) rfl rfl (by kernel_rfl) rfl rfl hHeld ?_
          simp only [Act.put, List.setIfInBounds_toArray, List.set_cons_zero, List.set_cons_succ]
          refine wpAnyH_done (by kernel_rfl) ?_ _
          have HX := Lib.hid BX
          have HMN := Lib.hid hmn
          clear BX k5 on hmn cz fz hgz hon ltz zz
          go_wp2_with fail
          go_meet
          exact ⟨_, N, nc, sn, rfl, rfl, HMN, HX, hHeld⟩
        · skip
          have k4 := hHeld.out.alloc hHeld.out.size (.cells #[.slice none 0 0] 26)
          have hgz := heap_new (v1) (.cells #[.slice none 0 0] 26)
          have l4 := hHeld.out.size
          have hHeld := Lib.hid k4
          simp only [Act.put, List.setIfInBounds_toArray, List.set_cons_zero, List.set_cons_succ]
          refine held_call 3 35 19 #[.agg #[.slice X sx.length xc], pnA p] rfl rfl (by kernel_rfl) rfl (exec_call Try.func19 (by kernel_rfl) (by kernel_rfl) _) ?_
          refine (C2.out X sx xc _ hmx (B8.call hHeld.out).O.whl).mono ?_
          rintro e v3 ⟨N, nc, sn, rfl, hmn0, on, apn, y3⟩
          have on := on.weak (B' := (u3.alloc (.cells #[.slice X sx.length xc] 26)).heap.size) hHeld.out.size
          have hmn := And.intro hmn0 apn
          have hgz := blk_call hgz y3
          have hHeld : Hid (Below (u3.alloc (.cells #[.slice X sx.length xc] 26)).heap.size (u3.alloc (.cells #[.slice X sx.length xc] 26)) v3) := hHeld.out.trans (y3.mono hHeld.out.size)
          have zy3 := y3.size
          refine ⟨_, rfl, hHeld, ?_⟩
          simp only [Act.put, List.setIfInBounds_toArray, List.set_cons_zero, List.set_cons_succ]
          refine held_take 4 31 (.tuple #[.agg #[.slice N sn.length nc], .bool r.2]) rfl rfl (by kernel_rfl) (by kernel_rfl) (by kernel_rfl) (fun _ _ _ h => h) rfl hHeld (fun w _ => rfl) ?_
          simp only [Act.put, List.setIfInBounds_toArray, List.set_cons_zero, List.set_cons_succ]
          refine held_take 5 36 (.agg #[.slice N sn.length nc]) rfl rfl (by kernel_rfl) (by kernel_rfl) (by kernel_rfl) (fun _ _ _ h => h) rfl hHeld (fun w _ => rfl) ?_
          refine held_take 6 37 (.bool r.2) rfl rfl (by kernel_rfl) (by kernel_rfl) (by kernel_rfl) (fun _ _ _ h => h) rfl hHeld (fun w _ => rfl) ?_
          simp only [Act.put, List.setIfInBounds_toArray, List.set_cons_zero, List.set_cons_succ]
          have cz := cell_of_one hgz
          have fz := free_of_one hgz
          have hon := fun q hq => on.lo q hq
          have ltz := blk_lt hgz
          have zz := hHeld.out.size
          have k5 : Below (u3.alloc (.cells #[.slice X sx.length xc] 26)).heap.size (u3.alloc (.cells #[.slice X sx.length xc] 26)) ((v3).setCell ⟨(v1).heap.size, 0, none⟩ (.slice N sn.length nc)) := hHeld.out.setCell (p := ⟨(v1).heap.size, 0, none⟩) (by show _ ≤ (v1).heap.size; exact l4) _
          have BX : Bx ((v3).setCell ⟨(v1).heap.size, 0, none⟩ (.slice N sn.length nc)) (v1).heap.size (u3.alloc (.cells #[.slice X sx.length xc] 26)).heap.size ((v3).setCell ⟨(v1).heap.size, 0, none⟩ (.slice N sn.length nc)).heap.size N nc sn := Bx.put on hgz (fun q hq => by
              rw [World.size_setCell]
              rcases hq with rfl | hq
              · exact ⟨l4, ltz⟩
              · have := hon q hq; refine ⟨this.1, this.2⟩)
          refine held_store 8 rfl rfl (by kernel_rfl) rfl (exec_storeWh _ N sn.length nc _ _ cz fz) (Lib.hid k5) ?_
          have hHeld := Lib.hid k5
          refine held_op 9 10 (.bool r.2) rfl rfl (by kernel_rfl) rfl rfl hHeld ?_
          simp only [Act.put, List.setIfInBounds_toArray, List.set_cons_zero, List.set_cons_succ]
          refine wpAnyH_done (by kernel_rfl) ?_ _
          have HX := Lib.hid BX
          have HMN := Lib.hid hmn
          clear BX k5 on hmn cz fz hgz hon ltz zz
          go_wp2_with fail
          go_meet
          exact ⟨_, N, nc, sn, rfl, rfl, HMN, HX, hHeld⟩
      · skip
        have k4 := hHeld.out.alloc hHeld.out.size (.cells #[.slice none 0 0] 26)
        have hgz := heap_new ((u3.alloc (.cells #[.slice X sx.length xc] 26)).drew) (.cells #[.slice none 0 0] 26)
        have l4 := hHeld.out.size
        have hHeld := Lib.hid k4
        simp only [Act.put, List.setIfInBounds_toArray, List.set_cons_zero, List.set_cons_succ]
        refine held_call 2 34 38 #[pnA p] rfl rfl (by kernel_rfl) rfl (exec_call Try.func38 (by kernel_rfl) (by kernel_rfl) _) ?_
        refine (toPin_any p _).mono ?_
        rintro e v4 ⟨rfl, y4⟩
        have hgz := blk_call hgz y4
        have hHeld : Hid (Below (u3.alloc (.cells #[.slice X sx.length xc] 26)).heap.size (u3.alloc (.cells #[.slice X sx.length xc] 26)) v4) := hHeld.out.trans (y4.mono hHeld.out.size)
        have zy4 := y4.size
        refine ⟨_, rfl, hHeld, ?_⟩
        simp only [Act.put, List.setIfInBounds_toArray, List.set_cons_zero, List.set_cons_succ]
        refine held_call 3 35 19 #[.agg #[.slice X sx.length xc], pnA p] rfl rfl (by kernel_rfl) rfl (exec_call Try.func19 (by kernel_rfl) (by kernel_rfl) _) ?_
        refine (C2.out X sx xc _ hmx (B8.call hHeld.out).O.whl).mono ?_
        rintro e v5 ⟨N, nc, sn, rfl, hmn0, on, apn, y5⟩
        have on := on.weak (B' := (u3.alloc (.cells #[.slice X sx.length xc] 26)).heap.size) hHeld.out.size
        have hmn := And.intro hmn0 apn
        have hgz := blk_call hgz y5
        have hHeld : Hid (Below (u3.alloc (.cells #[.slice X sx.length xc] 26)).heap.size (u3.alloc (.cells #[.slice X sx.length xc] 26)) v5) := hHeld.out.trans (y5.mono hHeld.out.size)
        have zy5 := y5.size
        refine ⟨_, rfl, hHeld, ?_⟩
        simp only [Act.put, List.setIfInBounds_toArray, List.set_cons_zero, List.set_cons_succ]
        refine held_take 4 31 (.tuple #[.agg #[.slice N sn.length nc], .bool r.2]) rfl rfl (by kernel_rfl) (by kernel_rfl) (by kernel_rfl) (fun _ _ _ h => h) rfl hHeld (fun w _ => rfl) ?_
        simp only [Act.put, List.setIfInBounds_toArray, List.set_cons_zero, List.set_cons_succ]
        refine held_take 5 36 (.agg #[.slice N sn.length nc]) rfl rfl (by kernel_rfl) (by kernel_rfl) (by kernel_rfl) (fun _ _ _ h => h) rfl hHeld (fun w _ => rfl) ?_
        refine held_take 6 37 (.bool r.2) rfl rfl (by kernel_rfl) (by kernel_rfl) (by kernel_rfl) (fun _ _ _ h => h) rfl hHeld (fun w _ => rfl) ?_
        simp only [Act.put, List.setIfInBounds_toArray, List.set_cons_zero, List.set_cons_succ]
        have cz := cell_of_one hgz
        have fz := free_of_one hgz
        have hon := fun q hq => on.lo q hq
        have ltz := blk_lt hgz
        have zz := hHeld.out.size
        have k5 : Below (u3.alloc (.cells #[.slice X sx.length xc] 26)).heap.size (u3.alloc (.cells #[.slice X sx.length xc] 26)) ((v5).setCell ⟨((u3.alloc (.cells #[.slice X sx.length xc] 26)).drew).heap.size, 0, none⟩ (.slice N sn.length nc)) := hHeld.out.setCell (p := ⟨((u3.alloc (.cells #[.slice X sx.length xc] 26)).drew).heap.size, 0, none⟩) (by show _ ≤ ((u3.alloc (.cells #[.slice X sx.length xc] 26)).drew).heap.size; exact l4) _
        have BX : Bx ((v5).setCell ⟨((u3.alloc (.cells #[.slice X sx.length xc] 26)).drew).heap.size, 0, none⟩ (.slice N sn.length nc)) ((u3.alloc (.cells #[.slice X sx.length xc] 26)).drew).heap.size (u3.alloc (.cells #[.slice X sx.length xc] 26)).heap.size ((v5).setCell ⟨((u3.alloc (.cells #[.slice X sx.length xc] 26)).drew).heap.size, 0, none⟩ (.slice N sn.length nc)).heap.size N nc sn := Bx.put on hgz (fun q hq => by
            rw [World.size_setCell]
            rcases hq with rfl | hq
            · exact ⟨l4, ltz⟩
            · have := hon q hq; refine ⟨this.1, this.2⟩)
        refine held_store 8 rfl rfl (by kernel_rfl) rfl (exec_storeWh _ N sn.length nc _ _ cz fz) (Lib.hid k5) ?_
        have hHeld := Lib.hid k5
        refine held_op 9 10 (.bool r.2) rfl rfl (by kernel_rfl) rfl rfl hHeld ?_
        simp only [Act.put, List.setIfInBounds_toArray, List.set_cons_zero, List.set_cons_succ]
        refine wpAnyH_done (by kernel_rfl) ?_ _
        have HX := Lib.hid BX
        have HMN := Lib.hid hmn
        clear BX k5 on hmn cz fz hgz hon ltz zz
        go_wp2_with fail
        go_meet
        exact ⟨_, N, nc, sn, rfl, rfl, HMN, HX, hHeld⟩
    case rest =>
      obtain ⟨gg, G, gc, sg, rfl, rfl, hmg, hB9, xr⟩ := hcut
      obtain ⟨u4, hu⟩ : ∃ u : World, u = wc := ⟨_, rfl⟩
      subst hu
      have B9 := hB9.out
      try simp only [World.size_alloc] at B9
      have xr := xr.out
      clear hB9 KA KP
      have HA := blk_call HA xr
      have HP := blk_call HP xr
      have B6 := B6.call xr
      have B8 := B8.call xr
      have bW := bW.trans (xr.mono bW.size)
      have Z5 := xr.size
      try simp only [World.size_alloc] at Z5
      clear xr
      obtain ⟨hmg, apG⟩ := hmg.out
      have HAG := Lib.hid apG
      obtain ⟨hng, hlg⟩ := SzW.of HSR.out hmg
      clear apG
      have q0 := cell_of_one HA
      obtain ⟨q1, q1b⟩ := Pn.here.blk HP
      have r0 := B6.cell
      have r1 := B8.cell
      have r2 := B9.cell
      go_wp2_with fail
      refine (CG.out G Q sg sq gc qc _ hmg hmq B9.O.whl B6.O.whl).mono ?_
      rintro e u5 ⟨rfl, x5⟩
      clear q0 q1 q1b r0 r1 r2
      have HA := blk_call HA x5
      have HP := blk_call HP x5
      have B6 := B6.call x5
      have B8 := B8.call x5
      have B9 := B9.call x5
      have bW := bW.trans (x5.mono bW.size)
      have Z6 := x5.size
      try simp only [World.size_alloc] at Z6
      clear x5
      have q0 := cell_of_one HA
      obtain ⟨q1, q1b⟩ := Pn.here.blk HP
      have r0 := B6.cell
      have r1 := B8.cell
      have r2 := B9.cell
      go_wp2_with fail
      clear q0 q1 q1b r0 r1 r2
      have KB := Lib.hid (fun w' (h : Below u5.heap.size u5 w') => (B8.call h).cell)
      have KA := Lib.hid (fun w' (h : Below u5.heap.size u5 w') => cell_of_one (blk_call HA h))
      refine wp_region_held_drew (S := fun w' => Hid (Below u5.heap.size u5 w')) (by kernel_rfl) (below_drawn (Below.refl _ _) 1) (fun hHeld => ?_)
      refine held_take 0 47 (.agg #[.slice X sx.length xc]) rfl rfl (by kernel_rfl) (by kernel_rfl) (by kernel_rfl) (fun _ _ _ h => h) rfl hHeld (fun w h => exec_loadWh _ _ _ _ w (KB.out w h.out)) ?_
      refine held_take 1 48 (.agg #[.slice A sp.length c]) rfl rfl (by kernel_rfl) (by kernel_rfl) (by kernel_rfl) (fun _ _ _ h => h) rfl hHeld (fun w h => exec_load_lW _ _ _ _ w (KA.out w h.out)) ?_
      simp only [Act.put, List.setIfInBounds_toArray, List.set_cons_zero, List.set_cons_succ]
      refine held_call 2 49 36 #[.agg #[.slice A sp.length c]] rfl rfl (by kernel_rfl) rfl (exec_call Try.func36 (by kernel_rfl) (by kernel_rfl) _) ?_
      refine (CT.out _ (bW.trans (hHeld.out.mono bW.size))).mono ?_
      rintro e u61 ⟨Y, yc, sy, rfl, hmy, oY, -, y1⟩
      have k1 : Hid (Below u5.heap.size u5 u61) := hHeld.out.trans (y1.mono hHeld.out.size)
      refine ⟨_, rfl, k1, ?_⟩
      simp only [Act.put, List.setIfInBounds_toArray, List.set_cons_zero, List.set_cons_succ]
      refine held_call 3 50 31 #[.agg #[.slice X sx.length xc], .agg #[.slice Y sy.length yc]] rfl rfl (by kernel_rfl) rfl (exec_call Try.func31 (by kernel_rfl) (by kernel_rfl) _) ?_
      refine (CE.out X Y sx sy xc yc _ hmx hmy (B8.call k1.out).O.whl oY.whl).mono ?_
      rintro e u6 ⟨rfl, y2⟩
      have hHeld : Hid (Below u5.heap.size u5 u6) := k1.out.trans (y2.mono k1.out.size)
      refine ⟨_, rfl, hHeld, ?_⟩
      simp only [Act.put, List.setIfInBounds_toArray, List.set_cons_zero, List.set_cons_succ]
      refine held_take 4 51 (.bool false) rfl rfl (by kernel_rfl) (by kernel_rfl) (by kernel_rfl) (fun _ _ _ h => h) rfl hHeld (fun w _ => rfl) ?_
      simp only [Act.put, List.setIfInBounds_toArray, List.set_cons_zero, List.set_cons_succ]
      refine wpAnyH_done (by kernel_rfl) ?_ _
      have xr := hHeld.out
      clear hHeld k1 y1 y2 KA KB oY hmy
      have HA := blk_call HA xr
      have HP := blk_call HP xr
      have B6 := B6.call xr
      have B8 := B8.call xr
      have B9 := B9.call xr
      have bW := bW.trans (xr.mono bW.size)
      have Z7 := xr.size
      try simp only [World.size_alloc] at Z7
      clear xr
      have hlm : (allPn sx).length ≤ 1048575 := hlx
      obtain ⟨M, hM⟩ : ∃ M : Nat, 1 + (allPn sx).length * 2 = M := ⟨_, rfl⟩
      have CM := Lib.hid (fun w' lo (h : OwnW w' lo X xc sx) => markWheel_any X sx xc 1 lo w' (by omega) (by omega) (by omega) h HAX.out)
      rw [hM] at CM
      have nM : decide ((M : Int) < 0) = false := by simp
      clear hM
      obtain ⟨K, hK⟩ : ∃ K : Nat, 1 + (allPn sg).length * 2 = K := ⟨_, rfl⟩
      have CN := Lib.hid (fun w' lo (h : OwnW w' lo G gc sg) => markWheel_any G sg gc 1 lo w' (by omega) (by omega) (by omega) h HAG.out)
      have CH := Lib.hid (fun w' (h : Whl w' G (marksW 1 sg)) => heldWheel_any G sg gc 1 w' (by omega) (by omega) (by omega) h)
      rw [hK] at CN CH
      have nK : decide ((K : Int) < 0) = false := by simp
      have nQ : ((K : Int) != (K : Int)) = false := by simp
      clear hK
      have q0 := cell_of_one HA
      obtain ⟨q1, q1b⟩ := Pn.here.blk HP
      have r0 := B6.cell
      have r1 := B8.cell
      have r2 := B9.cell
      go_wp2_with fail
      refine (CM.out _ _ B8.O).mono ?_
      rintro e u7 ⟨rfl, om, tm⟩
      clear q0 q1 q1b r0 r1 r2
      have HA := tm.blk HA (fun h => by have := B8.rng _ (.inr h); omega)
      have HP := tm.blk HP (fun h => by have := B8.rng _ (.inr h); omega)
      have B6 := B6.tch tm (fun q h1 h2 h3 => by have := B8.rng _ (.inr h3); omega)
      have B9 := B9.tch tm (fun q h1 h2 h3 => by have := B8.rng _ (.inr h3); omega)
      have bW := bW.trans (tm.below bW.size (fun q h => by have := B8.rng _ (.inr h); omega))
      have Z8 := tm.size
      try simp only [World.size_alloc] at Z8
      have B8 := B8.mark om tm
      clear om tm
      clear B8
      have q0 := cell_of_one HA
      obtain ⟨q1, q1b⟩ := Pn.here.blk HP
      have r0 := B6.cell
      have r1 := B9.cell
      go_wp2_with fail
      refine (CG.out G Q sg sq gc qc _ hmg hmq B9.O.whl B6.O.whl).mono ?_
      rintro e u8 ⟨rfl, x8⟩
      clear q0 q1 q1b r0 r1
      have HA := blk_call HA x8
      have HP := blk_call HP x8
      have B6 := B6.call x8
      have B9 := B9.call x8
      have bW := bW.trans (x8.mono bW.size)
      have Z9 := x8.size
      try simp only [World.size_alloc] at Z9
      clear x8
      have q0 := cell_of_one HA
      obtain ⟨q1, q1b⟩ := Pn.here.blk HP
      have r0 := B6.cell
      have r1 := B9.cell
      go_wp2_with fail
      refine (CN.out _ _ B9.O).mono ?_
      rintro e u9 ⟨rfl, om, tm⟩
      clear q0 q1 q1b r0 r1
      have HA := tm.blk HA (fun h => by have := B9.rng _ (.inr h); omega)
      have HP := tm.blk HP (fun h => by have := B9.rng _ (.inr h); omega)
      have B6 := B6.tch tm (fun q h1 h2 h3 => by have := B9.rng _ (.inr h3); omega)
      have bW := bW.trans (tm.below bW.size (fun q h => by have := B9.rng _ (.inr h); omega))
      have Z10 := tm.size
      try simp only [World.size_alloc] at Z10
      have B9 := B9.mark om tm
      clear om tm
      have q0 := cell_of_one HA
      obtain ⟨q1, q1b⟩ := Pn.here.blk HP
      have r0 := B6.cell
      have r1 := B9.cell
      rw [marksW_length] at r1
      go_wp2_with fail
      refine (CH.out _ B9.O.whl).mono ?_
      rintro e u10 ⟨rfl, x10⟩
      clear q0 q1 q1b r0 r1
      have HA := blk_call HA x10
      have HP := blk_call HP x10
      have B6 := B6.call x10
      have B9 := B9.call x10
      have bW := bW.trans (x10.mono bW.size)
      have Z11 := x10.size
      try simp only [World.size_alloc] at Z11
      clear x10
      have q0 := cell_of_one HA
      obtain ⟨q1, q1b⟩ := Pn.here.blk HP
      have r0 := B6.cell
      have r1 := B9.cell
      rw [marksW_length] at r1
      go_wp2_with fail
      clear q0 q1 q1b r0 r1
      have KA := Lib.hid (fun w' (h : Below u10.heap.size u10 w') => cell_of_one (blk_call HA h))
      have KP := Lib.hid (fun w' (h : Below u10.heap.size u10 w') => Pn.here.blk (blk_call HP h))
      go_cut [14, 15] from 79 to 86 (fun s6 s7 wx => ∃ (g' : Nat) (N : Option Addr) (nc : Nat) (sq : List Sp), s6 = .pointer (some ⟨g', 0, none⟩) ∧ s7 = .bool r.2 ∧ Hid (sq.map (·.l) = r.1 ∧ ApartW sq) ∧ Hid (Bx wx g' u10.heap.size wx.heap.size N nc sq) ∧ Hid (Below u10.heap.size u10 wx))
      case first =>
        refine wp_region_held_drew (S := fun w' => Hid (Below u10.heap.size u10 w')) (by kernel_rfl) (below_drawn (Below.refl _ _) 1) (fun hHeld => ?_)
        refine held_take 0 80 (.agg #[.slice A sp.length c]) rfl rfl (by kernel_rfl) (by kernel_rfl) (by kernel_rfl) (fun _ _ _ h => h) rfl hHeld (fun w h => exec_load_lW _ _ _ _ w (KA.out w h.out)) ?_
        refine held_take 2 82 (pnA p) rfl rfl (by kernel_rfl) (by kernel_rfl) (by kernel_rfl) (fun _ _ _ h => h) rfl hHeld (fun w h => exec_load_lP _ 0 p w (KP.out w h.out)) ?_
        simp only [Act.put, List.setIfInBounds_toArray, List.set_cons_zero, List.set_cons_succ]
        refine wpAnyH_ready (rs := [1, 8]) (by kernel_rfl) (by simp) (ready_call 1 81 36 #[.agg #[.slice A sp.length c]] rfl rfl rfl (exec_call Try.func36 (by kernel_rfl) (by kernel_rfl) _) ?_ (ready_op 8 14 (.pointer (some ⟨(u10.drew).heap.size, 0, none⟩)) rfl rfl rfl (exec_allocWh _) (Lib.hid (hHeld.out.alloc hHeld.out.size _)) ?_ AllReadyH.nil))
        · skip
          refine (CT.out _ (bW.trans (hHeld.out.mono bW.size))).mono ?_
          rintro e v1 ⟨X, xc, sx, rfl, hmx, oX, -, y1⟩
          have hHeld : Hid (Below u10.heap.size u10 v1) := hHeld.out.trans (y1.mono hHeld.out.size)
          have zy1 := y1.size
          refine ⟨_, rfl, hHeld, ?_⟩
          simp only [Act.put, List.setIfInBounds_toArray, List.set_cons_zero, List.set_cons_succ]
          refine wpAnyH_ready (rs := [3, 8]) (by kernel_rfl) (by simp) (ready_call 3 83 38 #[pnA p] rfl rfl rfl (exec_call Try.func38 (by kernel_rfl) (by kernel_rfl) _) ?_ (ready_op 8 14 (.pointer (some ⟨(v1).heap.size, 0, none⟩)) rfl rfl rfl (exec_allocWh _) (Lib.hid (hHeld.out.alloc hHeld.out.size _)) ?_ AllReadyH.nil))
          · skip
            refine (toPin_any p _).mono ?_
            rintro e v2 ⟨rfl, y2⟩
            have oX := oX.below y2
            have hHeld : Hid (Below u10.heap.size u10 v2) := hHeld.out.trans (y2.mono hHeld.out.size)
            have zy2 := y2.size
            refine ⟨_, rfl, hHeld, ?_⟩
            simp only [Act.put, List.setIfInBounds_toArray, List.set_cons_zero, List.set_cons_succ]
            refine wpAnyH_ready (rs := [4, 8]) (by kernel_rfl) (by simp) (ready_call 4 84 19 #[.agg #[.slice X sx.length xc], pnA p] rfl rfl rfl (exec_call Try.func19 (by kernel_rfl) (by kernel_rfl) _) ?_ (ready_op 8 14 (.pointer (some ⟨(v2).heap.size, 0, none⟩)) rfl rfl rfl (exec_allocWh _) (Lib.hid (hHeld.out.alloc hHeld.out.size _)) ?_ AllReadyH.nil))
            · skip
              refine (C2.out X sx xc _ hmx oX.whl).mono ?_
              rintro e v3 ⟨N, nc, sn, rfl, hmn0, on, apn, y3⟩
              have on := on.weak (B' := u10.heap.size) hHeld.out.size
              have hmn := And.intro hmn0 apn
              have oX := oX.below y3
              have hHeld : Hid (Below u10.heap.size u10 v3) := hHeld.out.trans (y3.mono hHeld.out.size)
              have zy3 := y3.size
              refine ⟨_, rfl, hHeld, ?_⟩
              simp only [Act.put, List.setIfInBounds_toArray, List.set_cons_zero, List.set_cons_succ]
              refine held_take 5 79 (.tuple #[.agg #[.slice N sn.length nc], .bool r.2]) rfl rfl (by kernel_rfl) (by kernel_rfl) (by kernel_rfl) (fun _ _ _ h => h) rfl hHeld (fun w _ => rfl) ?_
              simp only [Act.put, List.setIfInBounds_toArray, List.set_cons_zero, List.set_cons_succ]
              refine held_take 6 85 (.agg #[.slice N sn.length nc]) rfl rfl (by kernel_rfl) (by kernel_rfl) (by kernel_rfl) (fun _ _ _ h => h) rfl hHeld (fun w _ => rfl) ?_
              refine held_take 7 86 (.bool r.2) rfl rfl (by kernel_rfl) (by kernel_rfl) (by kernel_rfl) (fun _ _ _ h => h) rfl hHeld (fun w _ => rfl) ?_
              simp only [Act.put, List.setIfInBounds_toArray, List.set_cons_zero, List.set_cons_succ]
              have k4 := hHeld.out.alloc hHeld.out.size (.cells #[.slice none 0 0] 26)
              have l4 := hHeld.out.size
              refine held_op 8 14 (.pointer (some ⟨(v3).heap.size, 0, none⟩)) rfl rfl (by kernel_rfl) rfl (exec_allocWh _) (Lib.hid k4) ?_
              simp only [Act.put, List.setIfInBounds_toArray, List.set_cons_zero, List.set_cons_succ]
              have hgz := heap_new (v3) (.cells #[.slice none 0 0] 26)
              have on := on.alloc (.cells #[.slice none 0 0] 26)
              have hHeld := Lib.hid k4
              have cz := cell_of_one hgz
              have fz := free_of_one hgz
              have hon := fun q hq => on.lo q hq
              have ltz := blk_lt hgz
              have zz := hHeld.out.size
              have k5 : Below u10.heap.size u10 ((((v3).alloc (.cells #[.slice none 0 0] 26))).setCell ⟨(v3).heap.size, 0, none⟩ (.slice N sn.length nc)) := hHeld.out.setCell (p := ⟨(v3).heap.size, 0, none⟩) (by show _ ≤ (v3).heap.size; exact l4) _
              have BX : Bx ((((v3).alloc (.cells #[.slice none 0 0] 26))).setCell ⟨(v3).heap.size, 0, none⟩ (.slice N sn.length nc)) (v3).heap.size u10.heap.size ((((v3).alloc (.cells #[.slice none 0 0] 26))).setCell ⟨(v3).heap.size, 0, none⟩ (.slice N sn.length nc)).heap.size N nc sn := Bx.put on hgz (fun q hq => by
                  rw [World.size_setCell]
                  rcases hq with rfl | hq
                  · exact ⟨l4, ltz⟩
                  · have := hon q hq; refine ⟨this.1, this.2⟩)
              refine held_store 9 rfl rfl (by kernel_rfl) rfl (exec_storeWh _ N sn.length nc _ _ cz fz) (Lib.hid k5) ?_
              have hHeld := Lib.hid k5
              refine held_op 10 15 (.bool r.2) rfl rfl (by kernel_rfl) rfl rfl hHeld ?_
              simp only [Act.put, List.setIfInBounds_toArray, List.set_cons_zero, List.set_cons_succ]
              refine wpAnyH_done (by kernel_rfl) ?_ _
              have HX := Lib.hid BX
              have HMN := Lib.hid hmn
              clear BX k5 on hmn cz fz hgz hon ltz zz
              go_wp2_with fail
              go_meet
              exact ⟨_, N, nc, sn, rfl, rfl, HMN, HX, hHeld⟩
            · skip
              have k4 := hHeld.out.alloc hHeld.out.size (.cells #[.slice none 0 0] 26)
              have hgz := heap_new (v2) (.cells #[.slice none 0 0] 26)
              have l4 := hHeld.out.size
              have hHeld := Lib.hid k4
              simp only [Act.put, List.setIfInBounds_toArray, List.set_cons_zero, List.set_cons_succ]
              have oX := oX.alloc (.cells #[.slice none 0 0] 26)
              refine held_call 4 84 19 #[.agg #[.slice X sx.length xc], pnA p] rfl rfl (by kernel_rfl) rfl (exec_call Try.func19 (by kernel_rfl) (by kernel_rfl) _) ?_
              refine (C2.out X sx xc _ hmx oX.whl).mono ?_
              rintro e v4 ⟨N, nc, sn, rfl, hmn0, on, apn, y4⟩
              have on := on.weak (B' := u10.heap.size) hHeld.out.size
              have hmn := And.intro hmn0 apn
              have oX := oX.below y4
              have hgz := blk_call hgz y4
              have hHeld : Hid (Below u10.heap.size u10 v4) := hHeld.out.trans (y4.mono hHeld.out.size)
              have zy4 := y4.size
              refine ⟨_, rfl, hHeld, ?_⟩
              simp only [Act.put, List.setIfInBounds_toArray, List.set_cons_zero, List.set_cons_succ]
              refine held_take 5 79 (.tuple #[.agg #[.slice N sn.length nc], .bool r.2]) rfl rfl (by kernel_rfl) (by kernel_rfl) (by kernel_rfl) (fun _ _ _ h => h) rfl hHeld (fun w _ => rfl) ?_
              simp only [Act.put, List.setIfInBounds_toArray, List.set_cons_zero, List.set_cons_succ]
              refine held_take 6 85 (.agg #[.slice N sn.length nc]) rfl rfl (by kernel_rfl) (by kernel_rfl) (by kernel_rfl) (fun _ _ _ h => h) rfl hHeld (fun w _ => rfl) ?_
              refine held_take 7 86 (.bool r.2) rfl rfl (by kernel_rfl) (by kernel_rfl) (by kernel_rfl) (fun _ _ _ h => h) rfl hHeld (fun w _ => rfl) ?_
              simp only [Act.put, List.setIfInBounds_toArray, List.set_cons_zero, List.set_cons_succ]
              have cz := cell_of_one hgz
              have fz := free_of_one hgz
              have hon := fun q hq => on.lo q hq
              have ltz := blk_lt hgz
              have zz := hHeld.out.size
              have k5 : Below u10.heap.size u10 ((v4).setCell ⟨(v2).heap.size, 0, none⟩ (.slice N sn.length nc)) := hHeld.out.setCell (p := ⟨(v2).heap.size, 0, none⟩) (by show _ ≤ (v2).heap.size; exact l4) _
              have BX : Bx ((v4).setCell ⟨(v2).heap.size, 0, none⟩ (.slice N sn.length nc)) (v2).heap.size u10.heap.size ((v4).setCell ⟨(v2).heap.size, 0, none⟩ (.slice N sn.length nc)).heap.size N nc sn := Bx.put on hgz (fun q hq => by
                  rw [World.size_setCell]
                  rcases hq with rfl | hq
                  · exact ⟨l4, ltz⟩
                  · have := hon q hq; refine ⟨this.1, this.2⟩)
              refine held_store 9 rfl rfl (by kernel_rfl) rfl (exec_storeWh _ N sn.length nc _ _ cz fz) (Lib.hid k5) ?_
              have hHeld := Lib.hid k5
              refine held_op 10 15 (.bool r.2) rfl rfl (by kernel_rfl) rfl rfl hHeld ?_
              simp only [Act.put, List.setIfInBounds_toArray, List.set_cons_zero, List.set_cons_succ]
              refine wpAnyH_done (by kernel_rfl) ?_ _
              have HX := Lib.hid BX
              have HMN := Lib.hid hmn
              clear BX k5 on hmn cz fz hgz hon ltz zz
              go_wp2_with fail
              go_meet
              exact ⟨_, N, nc, sn, rfl, rfl, HMN, HX, hHeld⟩
          · skip
            have k4 := hHeld.out.alloc hHeld.out.size (.cells #[.slice none 0 0] 26)
            have hgz := heap_new (v1) (.cells #[.slice none 0 0] 26)
            have l4 := hHeld.out.size
            have hHeld := Lib.hid k4
            simp only [Act.put, List.setIfInBounds_toArray, List.set_cons_zero, List.set_cons_succ]
            have oX := oX.alloc (.cells #[.slice none 0 0] 26)
            refine held_call 3 83 38 #[pnA p] rfl rfl (by kernel_rfl) rfl (exec_call Try.func38 (by kernel_rfl) (by kernel_rfl) _) ?_
            refine (toPin_any p _).mono ?_
            rintro e v5 ⟨rfl, y5⟩
            have oX := oX.below y5
            have hgz := blk_call hgz y5
            have hHeld : Hid (Below u10.heap.size u10 v5) := hHeld.out.trans (y5.mono hHeld.out.size)
            have zy5 := y5.size
            refine ⟨_, rfl, hHeld, ?_⟩
            simp only [Act.put, List.setIfInBounds_toArray, List.set_cons_zero, List.set_cons_succ]
            refine held_call 4 84 19 #[.agg #[.slice X sx.length xc], pnA p] rfl rfl (by kernel_rfl) rfl (exec_call Try.func19 (by kernel_rfl) (by kernel_rfl) _) ?_
            refine (C2.out X sx xc _ hmx oX.whl).mono ?_
            rintro e v6 ⟨N, nc, sn, rfl, hmn0, on, apn, y6⟩
            have on := on.weak (B' := u10.heap.size) hHeld.out.size
            have hmn := And.intro hmn0 apn
            have oX := oX.below y6
            have hgz := blk_call hgz y6
            have hHeld : Hid (Below u10.heap.size u10 v6) := hHeld.out.trans (y6.mono hHeld.out.size)
            have zy6 := y6.size
            refine ⟨_, rfl, hHeld, ?_⟩
            simp only [Act.put, List.setIfInBounds_toArray, List.set_cons_zero, List.set_cons_succ]
            refine held_take 5 79 (.tuple #[.agg #[.slice N sn.length nc], .bool r.2]) rfl rfl (by kernel_rfl) (by kernel_rfl) (by kernel_rfl) (fun _ _ _ h => h) rfl hHeld (fun w _ => rfl) ?_
            simp only [Act.put, List.setIfInBounds_toArray, List.set_cons_zero, List.set_cons_succ]
            refine held_take 6 85 (.agg #[.slice N sn.length nc]) rfl rfl (by kernel_rfl) (by kernel_rfl) (by kernel_rfl) (fun _ _ _ h => h) rfl hHeld (fun w _ => rfl) ?_
            refine held_take 7 86 (.bool r.2) rfl rfl (by kernel_rfl) (by kernel_rfl) (by kernel_rfl) (fun _ _ _ h => h) rfl hHeld (fun w _ => rfl) ?_
            simp only [Act.put, List.setIfInBounds_toArray, List.set_cons_zero, List.set_cons_succ]
            have cz := cell_of_one hgz
            have fz := free_of_one hgz
            have hon := fun q hq => on.lo q hq
            have ltz := blk_lt hgz
            have zz := hHeld.out.size
            have k5 : Below u10.heap.size u10 ((v6).setCell ⟨(v1).heap.size, 0, none⟩ (.slice N sn.length nc)) := hHeld.out.setCell (p := ⟨(v1).heap.size, 0, none⟩) (by show _ ≤ (v1).heap.size; exact l4) _
            have BX : Bx ((v6).setCell ⟨(v1).heap.size, 0, none⟩ (.slice N sn.length nc)) (v1).heap.size u10.heap.size ((v6).setCell ⟨(v1).heap.size, 0, none⟩ (.slice N sn.length nc)).heap.size N nc sn := Bx.put on hgz (fun q hq => by
                rw [World.size_setCell]
                rcases hq with rfl | hq
                · exact ⟨l4, ltz⟩
                · have := hon q hq; refine ⟨this.1, this.2⟩)
            refine held_store 9 rfl rfl (by kernel_rfl) rfl (exec_storeWh _ N sn.length nc _ _ cz fz) (Lib.hid k5) ?_
            have hHeld := Lib.hid k5
            refine held_op 10 15 (.bool r.2) rfl rfl (by kernel_rfl) rfl rfl hHeld ?_
            simp only [Act.put, List.setIfInBounds_toArray, List.set_cons_zero, List.set_cons_succ]
            refine wpAnyH_done (by kernel_rfl) ?_ _
            have HX := Lib.hid BX
            have HMN := Lib.hid hmn
            clear BX k5 on hmn cz fz hgz hon ltz zz
            go_wp2_with fail
            go_meet
            exact ⟨_, N, nc, sn, rfl, rfl, HMN, HX, hHeld⟩
        · skip
          have k4 := hHeld.out.alloc hHeld.out.size (.cells #[.slice none 0 0] 26)
          have hgz := heap_new (u10.drew) (.cells #[.slice none 0 0] 26)
          have l4 := hHeld.out.size
          have hHeld := Lib.hid k4
          simp only [Act.put, List.setIfInBounds_toArray, List.set_cons_zero, List.set_cons_succ]
          refine held_call 1 81 36 #[.agg #[.slice A sp.length c]] rfl rfl (by kernel_rfl) rfl (exec_call Try.func36 (by kernel_rfl) (by kernel_rfl) _) ?_
          refine (CT.out _ (bW.trans (hHeld.out.mono bW.size))).mono ?_
          rintro e v7 ⟨X, xc, sx, rfl, hmx, oX, -, y7⟩
          have hgz := blk_call hgz y7
          have hHeld : Hid (Below u10.heap.size u10 v7) := hHeld.out.trans (y7.mono hHeld.out.size)
          have zy7 := y7.size
          refine ⟨_, rfl, hHeld, ?_⟩
          simp only [Act.put, List.setIfInBounds_toArray, List.set_cons_zero, List.set_cons_succ]
          refine held_call 3 83 38 #[pnA p] rfl rfl (by kernel_rfl) rfl (exec_call Try.func38 (by kernel_rfl) (by kernel_rfl) _) ?_
          refine (toPin_any p _).mono ?_
          rintro e v8 ⟨rfl, y8⟩
          have oX := oX.below y8
          have hgz := blk_call hgz y8
          have hHeld : Hid (Below u10.heap.size u10 v8) := hHeld.out.trans (y8.mono hHeld.out.size)
          have zy8 := y8.size
          refine ⟨_, rfl, hHeld, ?_⟩
          simp only [Act.put, List.setIfInBounds_toArray, List.set_cons_zero, List.set_cons_succ]
          refine held_call 4 84 19 #[.agg #[.slice X sx.length xc], pnA p] rfl rfl (by kernel_rfl) rfl (exec_call Try.func19 (by kernel_rfl) (by kernel_rfl) _) ?_
          refine (C2.out X sx xc _ hmx oX.whl).mono ?_
          rintro e v9 ⟨N, nc, sn, rfl, hmn0, on, apn, y9⟩
          have on := on.weak (B' := u10.heap.size) hHeld.out.size
          have hmn := And.intro hmn0 apn
          have oX := oX.below y9
          have hgz := blk_call hgz y9
          have hHeld : Hid (Below u10.heap.size u10 v9) := hHeld.out.trans (y9.mono hHeld.out.size)
          have zy9 := y9.size
          refine ⟨_, rfl, hHeld, ?_⟩
          simp only [Act.put, List.setIfInBounds_toArray, List.set_cons_zero, List.set_cons_succ]
          refine held_take 5 79 (.tuple #[.agg #[.slice N sn.length nc], .bool r.2]) rfl rfl (by kernel_rfl) (by kernel_rfl) (by kernel_rfl) (fun _ _ _ h => h) rfl hHeld (fun w _ => rfl) ?_
          simp only [Act.put, List.setIfInBounds_toArray, List.set_cons_zero, List.set_cons_succ]
          refine held_take 6 85 (.agg #[.slice N sn.length nc]) rfl rfl (by kernel_rfl) (by kernel_rfl) (by kernel_rfl) (fun _ _ _ h => h) rfl hHeld (fun w _ => rfl) ?_
          refine held_take 7 86 (.bool r.2) rfl rfl (by kernel_rfl) (by kernel_rfl) (by kernel_rfl) (fun _ _ _ h => h) rfl hHeld (fun w _ => rfl) ?_
          simp only [Act.put, List.setIfInBounds_toArray, List.set_cons_zero, List.set_cons_succ]
          have cz := cell_of_one hgz
          have fz := free_of_one hgz
          have hon := fun q hq => on.lo q hq
          have ltz := blk_lt hgz
          have zz := hHeld.out.size
          have k5 : Below u10.heap.size u10 ((v9).setCell ⟨(u10.drew).heap.size, 0, none⟩ (.slice N sn.length nc)) := hHeld.out.setCell (p := ⟨(u10.drew).heap.size, 0, none⟩) (by show _ ≤ (u10.drew).heap.size; exact l4) _
          have BX : Bx ((v9).setCell ⟨(u10.drew).heap.size, 0, none⟩ (.slice N sn.length nc)) (u10.drew).heap.size u10.heap.size ((v9).setCell ⟨(u10.drew).heap.size, 0, none⟩ (.slice N sn.length nc)).heap.size N nc sn := Bx.put on hgz (fun q hq => by
              rw [World.size_setCell]
              rcases hq with rfl | hq
              · exact ⟨l4, ltz⟩
              · have := hon q hq; refine ⟨this.1, this.2⟩)
          refine held_store 9 rfl rfl (by kernel_rfl) rfl (exec_storeWh _ N sn.length nc _ _ cz fz) (Lib.hid k5) ?_
          have hHeld := Lib.hid k5
          refine held_op 10 15 (.bool r.2) rfl rfl (by kernel_rfl) rfl rfl hHeld ?_
          simp only [Act.put, List.setIfInBounds_toArray, List.set_cons_zero, List.set_cons_succ]
          refine wpAnyH_done (by kernel_rfl) ?_ _
          have HX := Lib.hid BX
          have HMN := Lib.hid hmn
          clear BX k5 on hmn cz fz hgz hon ltz zz
          go_wp2_with fail
          go_meet
          exact ⟨_, N, nc, sn, rfl, rfl, HMN, HX, hHeld⟩
      case rest =>
        obtain ⟨gh, H, hc, sh, rfl, rfl, hmh, hB14, xr⟩ := hcut
        obtain ⟨u11, hu⟩ : ∃ u : World, u = wc := ⟨_, rfl⟩
        subst hu
        have B14 := hB14.out
        try simp only [World.size_alloc] at B14
        have xr := xr.out
        clear hB14 KA KP
        have HA := blk_call HA xr
        have HP := blk_call HP xr
        have B6 := B6.call xr
        have B9 := B9.call xr
        have bW := bW.trans (xr.mono bW.size)
        have Z12 := xr.size
        try simp only [World.size_alloc] at Z12
        clear xr
        obtain ⟨hmh, apH⟩ := hmh.out
        have q0 := cell_of_one HA
        obtain ⟨q1, q1b⟩ := Pn.here.blk HP
        have r0 := B6.cell
        have r1 := B9.cell
        rw [marksW_length] at r1
        have r2 := B14.cell
        go_wp2_with fail
        refine (CG.out H Q sh sq hc qc _ hmh hmq B14.O.whl B6.O.whl).mono ?_
        rintro e u12 ⟨rfl, x12⟩
        clear q0 q1 q1b r0 r1 r2
        have HA := blk_call HA x12
        have HP := blk_call HP x12
        have B6 := B6.call x12
        have B9 := B9.call x12
        have B14 := B14.call x12
        have bW := bW.trans (x12.mono bW.size)
        have Z13 := x12.size
        try simp only [World.size_alloc] at Z13
        clear x12
        have q0 := cell_of_one HA
        obtain ⟨q1, q1b⟩ := Pn.here.blk HP
        have r0 := B6.cell
        have r1 := B9.cell
        rw [marksW_length] at r1
        have r2 := B14.cell
        go_wp2_with fail
        refine (CH.out _ B9.O.whl).mono ?_
        rintro e u13 ⟨rfl, x13⟩
        clear q0 q1 q1b r0 r1 r2
        have HA := blk_call HA x13
        have HP := blk_call HP x13
        have B6 := B6.call x13
        have B9 := B9.call x13
        have B14 := B14.call x13
        have bW := bW.trans (x13.mono bW.size)
        have Z14 := x13.size
        try simp only [World.size_alloc] at Z14
        clear x13
        have q0 := cell_of_one HA
        obtain ⟨q1, q1b⟩ := Pn.here.blk HP
        have r0 := B6.cell
        have r1 := B9.cell
        rw [marksW_length] at r1
        have r2 := B14.cell
        have HB := Lib.hid bW
        go_wp2
        go_ret
        exact ⟨rfl, HB.out⟩
set_option maxRecDepth 100000 in
set_option maxHeartbeats 6400000 in
theorem FnExactWheelCut_walk (A : Option Addr) (sp : List Sp) (c : Nat) (p : Pn) (w : World) (hn0 : sp.length ≤ 9223372036854775807) (hl0 : ∀ s ∈ sp, s.l.length ≤ 9223372036854775807) (hf : FitL (sp.map (fun s => s.l))) (hA : Whl w A sp) (hp : p.fits) :
    Calls Try.prog 9 #[.agg #[.slice A sp.length c], pnA p] w fun e w' => e = .returned (.bool true) ∧ Below w.heap.size w w' := by
  have CZ := Lib.hid (fun w' (h : Rws w' w'.heap.size A (sp.flatMap spC)) => szWheel_val A sp c 1048576 w' hn0 hl0 h (by omega) (by omega))
  obtain ⟨U0, hU0⟩ : ∃ U, ((w.alloc (.cells #[.slice A sp.length c] 46)).alloc (.cells #[.int .i64 p.at_, .int .i64 p.id] 51)) = U := ⟨_, rfl⟩
  have T0 : U0.heap[w.heap.size]? = some (.cells #[.slice A sp.length c] 46) ∧ U0.heap[w.heap.size + 1]? = some (.cells #[.int .i64 p.at_, .int .i64 p.id] 51) ∧ Below w.heap.size w U0 := by rw [← hU0]; exact two_at w _ _ _ (Below.refl _ _)
  obtain ⟨HA, HP, bW⟩ := T0
  have hU0s : w.heap.size + 1 < U0.heap.size := by rw [← hU0]; simp
  have HU := Lib.hid hU0
  clear hU0
  unfold pnA
  have HA0 := Lib.hid HA
  have HP0 := Lib.hid HP
  have bW0 := Lib.hid bW
  clear HA bW HP
  go_enter Try.func9, Try.ntmps9
  go_wp2_with fail
  rw [HU.out]
  refine (CZ.out _ (rws_below hA.row bW0.out)).mono ?_
  rintro e u0 ⟨rfl, x0⟩
  have HA := HA0.out
  have bW := bW0.out
  have HP := HP0.out
  clear HA0 bW0 CZ HU HP0
  have HA := blk_call HA x0
  have HP := blk_call HP x0
  have bW := bW.trans (x0.mono bW.size)
  have Z1 := x0.size
  try simp only [World.size_alloc] at Z1
  clear x0
  by_cases hz : szV 1048576 sp < 0
  · generalize szV 1048576 sp = z at *
    have HB := Lib.hid bW
    go_wp2
    go_ret
    exact ⟨rfl, HB.out⟩
  have hS := szV_ok (sp := sp) (by omega)
  generalize szV 1048576 sp = z at *
  obtain ⟨ls, hls⟩ : ∃ ls, sp.map (fun s => s.l) = ls := ⟨_, rfl⟩
  rw [hls] at hS hf
  have HLS := Lib.hid hls
  obtain ⟨hn1, hl1⟩ := SzW.of hS hls
  have HS := Lib.hid hS
  have HF := Lib.hid hf
  have CT : Hid (∀ w', Below w.heap.size w w' → Calls Try.prog 36 #[.agg #[.slice A sp.length c]] w' (NewX w' ls)) := fun w' h => by have := toWheel_any A sp c w' (by omega) (by omega) (hA.below h); rw [hls] at this; exact this
  have CE : Hid (∀ X Y sx sy xc yc w', sx.map (fun s => s.l) = ls → sy.map (fun s => s.l) = ls → Whl w' X sx → Whl w' Y sy → Calls Try.prog 31 #[.agg #[.slice X sx.length xc], .agg #[.slice Y sy.length yc]] w' fun e w'' => e = .returned (.bool true) ∧ Below w'.heap.size w' w'') := fun X Y sx sy xc yc w' h1 h2 h3 h4 => by obtain ⟨a1, a2⟩ := SzW.of hS h1; exact eqWheel_same X Y sx sy xc yc w' (by omega) (by omega) h3 h4 (h1.trans h2.symm)
  have C1 : Hid (∀ X sx xc w', sx.map (fun s => s.l) = ls → Whl w' X sx → Calls Try.prog 22 #[.agg #[.slice X sx.length xc], pnA p] w' (NewWB w' (wheelCutV ls p))) := fun X sx xc w' h1 h => by obtain ⟨a1, a2⟩ := SzW.of hS h1; have := wheelCut_spec X sx xc p w' (by omega) (by omega) h; rw [h1] at this; exact this
  have C2 := Lib.hid (fun X sx xc w' h1 h => wheelCut_impl X sx xc p w' ls h1 hS hf hp h)
  have hR := cutV_sz p hS
  obtain ⟨r, hr⟩ : ∃ r, wheelCutV ls p = r := ⟨_, rfl⟩
  rw [hr] at C1 C2 hR
  have HSR := Lib.hid hR
  have CG : Hid (∀ X Y sx sy xc yc w', sx.map (fun s => s.l) = r.1 → sy.map (fun s => s.l) = r.1 → Whl w' X sx → Whl w' Y sy → Calls Try.prog 31 #[.agg #[.slice X sx.length xc], .agg #[.slice Y sy.length yc]] w' fun e w'' => e = .returned (.bool true) ∧ Below w'.heap.size w' w'') := fun X Y sx sy xc yc w' h1 h2 h3 h4 => by obtain ⟨a1, a2⟩ := SzW.of hR h1; exact eqWheel_same X Y sx sy xc yc w' (by omega) (by omega) h3 h4 (h1.trans h2.symm)
  have nB : (r.2 != r.2) = false := by simp
  clear hr hR hp
  clear hls hf hS
  have q0 := cell_of_one HA
  obtain ⟨q1, q1b⟩ := Pn.here.blk HP
  go_wp2_with fail
  clear q0 q1 q1b
  have KA := Lib.hid (fun w' (h : Below u0.heap.size u0 w') => cell_of_one (blk_call HA h))
  have KP := Lib.hid (fun w' (h : Below u0.heap.size u0 w') => Pn.here.blk (blk_call HP h))
  go_cut [6, 7] from 21 to 28 (fun s6 s7 wx => ∃ (g' : Nat) (N : Option Addr) (nc : Nat) (sq : List Sp), s6 = .pointer (some ⟨g', 0, none⟩) ∧ s7 = .bool r.2 ∧ Hid (sq.map (·.l) = r.1) ∧ Hid (Bx wx g' u0.heap.size wx.heap.size N nc sq) ∧ Hid (Below u0.heap.size u0 wx))
  case first =>
    refine wp_region_held_drew (S := fun w' => Hid (Below u0.heap.size u0 w')) (by kernel_rfl) (below_drawn (Below.refl _ _) 1) (fun hHeld => ?_)
    refine held_take 0 22 (.agg #[.slice A sp.length c]) rfl rfl (by kernel_rfl) (by kernel_rfl) (by kernel_rfl) (fun _ _ _ h => h) rfl hHeld (fun w h => exec_load_lW _ _ _ _ w (KA.out w h.out)) ?_
    refine held_take 2 24 (pnA p) rfl rfl (by kernel_rfl) (by kernel_rfl) (by kernel_rfl) (fun _ _ _ h => h) rfl hHeld (fun w h => exec_load_lP _ 0 p w (KP.out w h.out)) ?_
    simp only [Act.put, List.setIfInBounds_toArray, List.set_cons_zero, List.set_cons_succ]
    refine wpAnyH_ready (rs := [1, 8]) (by kernel_rfl) (by simp) (ready_call 1 23 36 #[.agg #[.slice A sp.length c]] rfl rfl rfl (exec_call Try.func36 (by kernel_rfl) (by kernel_rfl) _) ?_ (ready_op 8 6 (.pointer (some ⟨(u0.drew).heap.size, 0, none⟩)) rfl rfl rfl (exec_allocWh _) (Lib.hid (hHeld.out.alloc hHeld.out.size _)) ?_ AllReadyH.nil))
    · skip
      refine (CT.out _ (bW.trans (hHeld.out.mono bW.size))).mono ?_
      rintro e v1 ⟨X, xc, sx, rfl, hmx, oX, -, y1⟩
      have hHeld : Hid (Below u0.heap.size u0 v1) := hHeld.out.trans (y1.mono hHeld.out.size)
      have zy1 := y1.size
      refine ⟨_, rfl, hHeld, ?_⟩
      simp only [Act.put, List.setIfInBounds_toArray, List.set_cons_zero, List.set_cons_succ]
      refine wpAnyH_ready (rs := [3, 8]) (by kernel_rfl) (by simp) (ready_call 3 25 38 #[pnA p] rfl rfl rfl (exec_call Try.func38 (by kernel_rfl) (by kernel_rfl) _) ?_ (ready_op 8 6 (.pointer (some ⟨(v1).heap.size, 0, none⟩)) rfl rfl rfl (exec_allocWh _) (Lib.hid (hHeld.out.alloc hHeld.out.size _)) ?_ AllReadyH.nil))
      · skip
        refine (toPin_any p _).mono ?_
        rintro e v2 ⟨rfl, y2⟩
        have oX := oX.below y2
        have hHeld : Hid (Below u0.heap.size u0 v2) := hHeld.out.trans (y2.mono hHeld.out.size)
        have zy2 := y2.size
        refine ⟨_, rfl, hHeld, ?_⟩
        simp only [Act.put, List.setIfInBounds_toArray, List.set_cons_zero, List.set_cons_succ]
        refine wpAnyH_ready (rs := [4, 8]) (by kernel_rfl) (by simp) (ready_call 4 26 22 #[.agg #[.slice X sx.length xc], pnA p] rfl rfl rfl (exec_call Try.func22 (by kernel_rfl) (by kernel_rfl) _) ?_ (ready_op 8 6 (.pointer (some ⟨(v2).heap.size, 0, none⟩)) rfl rfl rfl (exec_allocWh _) (Lib.hid (hHeld.out.alloc hHeld.out.size _)) ?_ AllReadyH.nil))
        · skip
          refine (C1.out X sx xc _ hmx oX.whl).mono ?_
          rintro e v3 ⟨N, nc, sn, rfl, hmn0, on, y3⟩
          have on := on.weak (B' := u0.heap.size) hHeld.out.size
          have hmn := hmn0
          have oX := oX.below y3
          have hHeld : Hid (Below u0.heap.size u0 v3) := hHeld.out.trans (y3.mono hHeld.out.size)
          have zy3 := y3.size
          refine ⟨_, rfl, hHeld, ?_⟩
          simp only [Act.put, List.setIfInBounds_toArray, List.set_cons_zero, List.set_cons_succ]
          refine held_take 5 21 (.tuple #[.agg #[.slice N sn.length nc], .bool r.2]) rfl rfl (by kernel_rfl) (by kernel_rfl) (by kernel_rfl) (fun _ _ _ h => h) rfl hHeld (fun w _ => rfl) ?_
          simp only [Act.put, List.setIfInBounds_toArray, List.set_cons_zero, List.set_cons_succ]
          refine held_take 6 27 (.agg #[.slice N sn.length nc]) rfl rfl (by kernel_rfl) (by kernel_rfl) (by kernel_rfl) (fun _ _ _ h => h) rfl hHeld (fun w _ => rfl) ?_
          refine held_take 7 28 (.bool r.2) rfl rfl (by kernel_rfl) (by kernel_rfl) (by kernel_rfl) (fun _ _ _ h => h) rfl hHeld (fun w _ => rfl) ?_
          simp only [Act.put, List.setIfInBounds_toArray, List.set_cons_zero, List.set_cons_succ]
          have k4 := hHeld.out.alloc hHeld.out.size (.cells #[.slice none 0 0] 26)
          have l4 := hHeld.out.size
          refine held_op 8 6 (.pointer (some ⟨(v3).heap.size, 0, none⟩)) rfl rfl (by kernel_rfl) rfl (exec_allocWh _) (Lib.hid k4) ?_
          simp only [Act.put, List.setIfInBounds_toArray, List.set_cons_zero, List.set_cons_succ]
          have hgz := heap_new (v3) (.cells #[.slice none 0 0] 26)
          have on := on.alloc (.cells #[.slice none 0 0] 26)
          have hHeld := Lib.hid k4
          have cz := cell_of_one hgz
          have fz := free_of_one hgz
          have hon := fun q hq => on.lo q hq
          have ltz := blk_lt hgz
          have zz := hHeld.out.size
          have k5 : Below u0.heap.size u0 ((((v3).alloc (.cells #[.slice none 0 0] 26))).setCell ⟨(v3).heap.size, 0, none⟩ (.slice N sn.length nc)) := hHeld.out.setCell (p := ⟨(v3).heap.size, 0, none⟩) (by show _ ≤ (v3).heap.size; exact l4) _
          have BX : Bx ((((v3).alloc (.cells #[.slice none 0 0] 26))).setCell ⟨(v3).heap.size, 0, none⟩ (.slice N sn.length nc)) (v3).heap.size u0.heap.size ((((v3).alloc (.cells #[.slice none 0 0] 26))).setCell ⟨(v3).heap.size, 0, none⟩ (.slice N sn.length nc)).heap.size N nc sn := Bx.put on hgz (fun q hq => by
              rw [World.size_setCell]
              rcases hq with rfl | hq
              · exact ⟨l4, ltz⟩
              · have := hon q hq; refine ⟨this.1, this.2⟩)
          refine held_store 9 rfl rfl (by kernel_rfl) rfl (exec_storeWh _ N sn.length nc _ _ cz fz) (Lib.hid k5) ?_
          have hHeld := Lib.hid k5
          refine held_op 10 7 (.bool r.2) rfl rfl (by kernel_rfl) rfl rfl hHeld ?_
          simp only [Act.put, List.setIfInBounds_toArray, List.set_cons_zero, List.set_cons_succ]
          refine wpAnyH_done (by kernel_rfl) ?_ _
          have HX := Lib.hid BX
          have HMN := Lib.hid hmn
          clear BX k5 on hmn cz fz hgz hon ltz zz
          go_wp2_with fail
          go_meet
          exact ⟨_, N, nc, sn, rfl, rfl, HMN, HX, hHeld⟩
        · skip
          have k4 := hHeld.out.alloc hHeld.out.size (.cells #[.slice none 0 0] 26)
          have hgz := heap_new (v2) (.cells #[.slice none 0 0] 26)
          have l4 := hHeld.out.size
          have hHeld := Lib.hid k4
          simp only [Act.put, List.setIfInBounds_toArray, List.set_cons_zero, List.set_cons_succ]
          have oX := oX.alloc (.cells #[.slice none 0 0] 26)
          refine held_call 4 26 22 #[.agg #[.slice X sx.length xc], pnA p] rfl rfl (by kernel_rfl) rfl (exec_call Try.func22 (by kernel_rfl) (by kernel_rfl) _) ?_
          refine (C1.out X sx xc _ hmx oX.whl).mono ?_
          rintro e v4 ⟨N, nc, sn, rfl, hmn0, on, y4⟩
          have on := on.weak (B' := u0.heap.size) hHeld.out.size
          have hmn := hmn0
          have oX := oX.below y4
          have hgz := blk_call hgz y4
          have hHeld : Hid (Below u0.heap.size u0 v4) := hHeld.out.trans (y4.mono hHeld.out.size)
          have zy4 := y4.size
          refine ⟨_, rfl, hHeld, ?_⟩
          simp only [Act.put, List.setIfInBounds_toArray, List.set_cons_zero, List.set_cons_succ]
          refine held_take 5 21 (.tuple #[.agg #[.slice N sn.length nc], .bool r.2]) rfl rfl (by kernel_rfl) (by kernel_rfl) (by kernel_rfl) (fun _ _ _ h => h) rfl hHeld (fun w _ => rfl) ?_
          simp only [Act.put, List.setIfInBounds_toArray, List.set_cons_zero, List.set_cons_succ]
          refine held_take 6 27 (.agg #[.slice N sn.length nc]) rfl rfl (by kernel_rfl) (by kernel_rfl) (by kernel_rfl) (fun _ _ _ h => h) rfl hHeld (fun w _ => rfl) ?_
          refine held_take 7 28 (.bool r.2) rfl rfl (by kernel_rfl) (by kernel_rfl) (by kernel_rfl) (fun _ _ _ h => h) rfl hHeld (fun w _ => rfl) ?_
          simp only [Act.put, List.setIfInBounds_toArray, List.set_cons_zero, List.set_cons_succ]
          have cz := cell_of_one hgz
          have fz := free_of_one hgz
          have hon := fun q hq => on.lo q hq
          have ltz := blk_lt hgz
          have zz := hHeld.out.size
          have k5 : Below u0.heap.size u0 ((v4).setCell ⟨(v2).heap.size, 0, none⟩ (.slice N sn.length nc)) := hHeld.out.setCell (p := ⟨(v2).heap.size, 0, none⟩) (by show _ ≤ (v2).heap.size; exact l4) _
          have BX : Bx ((v4).setCell ⟨(v2).heap.size, 0, none⟩ (.slice N sn.length nc)) (v2).heap.size u0.heap.size ((v4).setCell ⟨(v2).heap.size, 0, none⟩ (.slice N sn.length nc)).heap.size N nc sn := Bx.put on hgz (fun q hq => by
              rw [World.size_setCell]
              rcases hq with rfl | hq
              · exact ⟨l4, ltz⟩
              · have := hon q hq; refine ⟨this.1, this.2⟩)
          refine held_store 9 rfl rfl (by kernel_rfl) rfl (exec_storeWh _ N sn.length nc _ _ cz fz) (Lib.hid k5) ?_
          have hHeld := Lib.hid k5
          refine held_op 10 7 (.bool r.2) rfl rfl (by kernel_rfl) rfl rfl hHeld ?_
          simp only [Act.put, List.setIfInBounds_toArray, List.set_cons_zero, List.set_cons_succ]
          refine wpAnyH_done (by kernel_rfl) ?_ _
          have HX := Lib.hid BX
          have HMN := Lib.hid hmn
          clear BX k5 on hmn cz fz hgz hon ltz zz
          go_wp2_with fail
          go_meet
          exact ⟨_, N, nc, sn, rfl, rfl, HMN, HX, hHeld⟩
      · skip
        have k4 := hHeld.out.alloc hHeld.out.size (.cells #[.slice none 0 0] 26)
        have hgz := heap_new (v1) (.cells #[.slice none 0 0] 26)
        have l4 := hHeld.out.size
        have hHeld := Lib.hid k4
        simp only [Act.put, List.setIfInBounds_toArray, List.set_cons_zero, List.set_cons_succ]
        have oX := oX.alloc (.cells #[.slice none 0 0] 26)
        refine held_call 3 25 38 #[pnA p] rfl rfl (by kernel_rfl) rfl (exec_call Try.func38 (by kernel_rfl) (by kernel_rfl) _) ?_
        refine (toPin_any p _).mono ?_
        rintro e v5 ⟨rfl, y5⟩
        have oX := oX.below y5
        have hgz := blk_call hgz y5
        have hHeld : Hid (Below u0.heap.size u0 v5) := hHeld.out.trans (y5.mono hHeld.out.size)
        have zy5 := y5.size
        refine ⟨_, rfl, hHeld, ?_⟩
        simp only [Act.put, List.setIfInBounds_toArray, List.set_cons_zero, List.set_cons_succ]
        refine held_call 4 26 22 #[.agg #[.slice X sx.length xc], pnA p] rfl rfl (by kernel_rfl) rfl (exec_call Try.func22 (by kernel_rfl) (by kernel_rfl) _) ?_
        refine (C1.out X sx xc _ hmx oX.whl).mono ?_
        rintro e v6 ⟨N, nc, sn, rfl, hmn0, on, y6⟩
        have on := on.weak (B' := u0.heap.size) hHeld.out.size
        have hmn := hmn0
        have oX := oX.below y6
        have hgz := blk_call hgz y6
        have hHeld : Hid (Below u0.heap.size u0 v6) := hHeld.out.trans (y6.mono hHeld.out.size)
        have zy6 := y6.size
        refine ⟨_, rfl, hHeld, ?_⟩
        simp only [Act.put, List.setIfInBounds_toArray, List.set_cons_zero, List.set_cons_succ]
        refine held_take 5 21 (.tuple #[.agg #[.slice N sn.length nc], .bool r.2]) rfl rfl (by kernel_rfl) (by kernel_rfl) (by kernel_rfl) (fun _ _ _ h => h) rfl hHeld (fun w _ => rfl) ?_
        simp only [Act.put, List.setIfInBounds_toArray, List.set_cons_zero, List.set_cons_succ]
        refine held_take 6 27 (.agg #[.slice N sn.length nc]) rfl rfl (by kernel_rfl) (by kernel_rfl) (by kernel_rfl) (fun _ _ _ h => h) rfl hHeld (fun w _ => rfl) ?_
        refine held_take 7 28 (.bool r.2) rfl rfl (by kernel_rfl) (by kernel_rfl) (by kernel_rfl) (fun _ _ _ h => h) rfl hHeld (fun w _ => rfl) ?_
        simp only [Act.put, List.setIfInBounds_toArray, List.set_cons_zero, List.set_cons_succ]
        have cz := cell_of_one hgz
        have fz := free_of_one hgz
        have hon := fun q hq => on.lo q hq
        have ltz := blk_lt hgz
        have zz := hHeld.out.size
        have k5 : Below u0.heap.size u0 ((v6).setCell ⟨(v1).heap.size, 0, none⟩ (.slice N sn.length nc)) := hHeld.out.setCell (p := ⟨(v1).heap.size, 0, none⟩) (by show _ ≤ (v1).heap.size; exact l4) _
        have BX : Bx ((v6).setCell ⟨(v1).heap.size, 0, none⟩ (.slice N sn.length nc)) (v1).heap.size u0.heap.size ((v6).setCell ⟨(v1).heap.size, 0, none⟩ (.slice N sn.length nc)).heap.size N nc sn := Bx.put on hgz (fun q hq => by
            rw [World.size_setCell]
            rcases hq with rfl | hq
            · exact ⟨l4, ltz⟩
            · have := hon q hq; refine ⟨this.1, this.2⟩)
        refine held_store 9 rfl rfl (by kernel_rfl) rfl (exec_storeWh _ N sn.length nc _ _ cz fz) (Lib.hid k5) ?_
        have hHeld := Lib.hid k5
        refine held_op 10 7 (.bool r.2) rfl rfl (by kernel_rfl) rfl rfl hHeld ?_
        simp only [Act.put, List.setIfInBounds_toArray, List.set_cons_zero, List.set_cons_succ]
        refine wpAnyH_done (by kernel_rfl) ?_ _
        have HX := Lib.hid BX
        have HMN := Lib.hid hmn
        clear BX k5 on hmn cz fz hgz hon ltz zz
        go_wp2_with fail
        go_meet
        exact ⟨_, N, nc, sn, rfl, rfl, HMN, HX, hHeld⟩
    · skip
      have k4 := hHeld.out.alloc hHeld.out.size (.cells #[.slice none 0 0] 26)
      have hgz := heap_new (u0.drew) (.cells #[.slice none 0 0] 26)
      have l4 := hHeld.out.size
      have hHeld := Lib.hid k4
      simp only [Act.put, List.setIfInBounds_toArray, List.set_cons_zero, List.set_cons_succ]
      refine held_call 1 23 36 #[.agg #[.slice A sp.length c]] rfl rfl (by kernel_rfl) rfl (exec_call Try.func36 (by kernel_rfl) (by kernel_rfl) _) ?_
      refine (CT.out _ (bW.trans (hHeld.out.mono bW.size))).mono ?_
      rintro e v7 ⟨X, xc, sx, rfl, hmx, oX, -, y7⟩
      have hgz := blk_call hgz y7
      have hHeld : Hid (Below u0.heap.size u0 v7) := hHeld.out.trans (y7.mono hHeld.out.size)
      have zy7 := y7.size
      refine ⟨_, rfl, hHeld, ?_⟩
      simp only [Act.put, List.setIfInBounds_toArray, List.set_cons_zero, List.set_cons_succ]
      refine held_call 3 25 38 #[pnA p] rfl rfl (by kernel_rfl) rfl (exec_call Try.func38 (by kernel_rfl) (by kernel_rfl) _) ?_
      refine (toPin_any p _).mono ?_
      rintro e v8 ⟨rfl, y8⟩
      have oX := oX.below y8
      have hgz := blk_call hgz y8
      have hHeld : Hid (Below u0.heap.size u0 v8) := hHeld.out.trans (y8.mono hHeld.out.size)
      have zy8 := y8.size
      refine ⟨_, rfl, hHeld, ?_⟩
      simp only [Act.put, List.setIfInBounds_toArray, List.set_cons_zero, List.set_cons_succ]
      refine held_call 4 26 22 #[.agg #[.slice X sx.length xc], pnA p] rfl rfl (by kernel_rfl) rfl (exec_call Try.func22 (by kernel_rfl) (by kernel_rfl) _) ?_
      refine (C1.out X sx xc _ hmx oX.whl).mono ?_
      rintro e v9 ⟨N, nc, sn, rfl, hmn0, on, y9⟩
      have on := on.weak (B' := u0.heap.size) hHeld.out.size
      have hmn := hmn0
      have oX := oX.below y9
      have hgz := blk_call hgz y9
      have hHeld : Hid (Below u0.heap.size u0 v9) := hHeld.out.trans (y9.mono hHeld.out.size)
      have zy9 := y9.size
      refine ⟨_, rfl, hHeld, ?_⟩
      simp only [Act.put, List.setIfInBounds_toArray, List.set_cons_zero, List.set_cons_succ]
      refine held_take 5 21 (.tuple #[.agg #[.slice N sn.length nc], .bool r.2]) rfl rfl (by kernel_rfl) (by kernel_rfl) (by kernel_rfl) (fun _ _ _ h => h) rfl hHeld (fun w _ => rfl) ?_
      simp only [Act.put, List.setIfInBounds_toArray, List.set_cons_zero, List.set_cons_succ]
      refine held_take 6 27 (.agg #[.slice N sn.length nc]) rfl rfl (by kernel_rfl) (by kernel_rfl) (by kernel_rfl) (fun _ _ _ h => h) rfl hHeld (fun w _ => rfl) ?_
      refine held_take 7 28 (.bool r.2) rfl rfl (by kernel_rfl) (by kernel_rfl) (by kernel_rfl) (fun _ _ _ h => h) rfl hHeld (fun w _ => rfl) ?_
      simp only [Act.put, List.setIfInBounds_toArray, List.set_cons_zero, List.set_cons_succ]
      have cz := cell_of_one hgz
      have fz := free_of_one hgz
      have hon := fun q hq => on.lo q hq
      have ltz := blk_lt hgz
      have zz := hHeld.out.size
      have k5 : Below u0.heap.size u0 ((v9).setCell ⟨(u0.drew).heap.size, 0, none⟩ (.slice N sn.length nc)) := hHeld.out.setCell (p := ⟨(u0.drew).heap.size, 0, none⟩) (by show _ ≤ (u0.drew).heap.size; exact l4) _
      have BX : Bx ((v9).setCell ⟨(u0.drew).heap.size, 0, none⟩ (.slice N sn.length nc)) (u0.drew).heap.size u0.heap.size ((v9).setCell ⟨(u0.drew).heap.size, 0, none⟩ (.slice N sn.length nc)).heap.size N nc sn := Bx.put on hgz (fun q hq => by
          rw [World.size_setCell]
          rcases hq with rfl | hq
          · exact ⟨l4, ltz⟩
          · have := hon q hq; refine ⟨this.1, this.2⟩)
      refine held_store 9 rfl rfl (by kernel_rfl) rfl (exec_storeWh _ N sn.length nc _ _ cz fz) (Lib.hid k5) ?_
      have hHeld := Lib.hid k5
      refine held_op 10 7 (.bool r.2) rfl rfl (by kernel_rfl) rfl rfl hHeld ?_
      simp only [Act.put, List.setIfInBounds_toArray, List.set_cons_zero, List.set_cons_succ]
      refine wpAnyH_done (by kernel_rfl) ?_ _
      have HX := Lib.hid BX
      have HMN := Lib.hid hmn
      clear BX k5 on hmn cz fz hgz hon ltz zz
      go_wp2_with fail
      go_meet
      exact ⟨_, N, nc, sn, rfl, rfl, HMN, HX, hHeld⟩
  case rest =>
    obtain ⟨gq, Q, qc, sq, rfl, rfl, hmq, hB6, xr⟩ := hcut
    obtain ⟨u2, hu⟩ : ∃ u : World, u = wc := ⟨_, rfl⟩
    subst hu
    have B6 := hB6.out
    try simp only [World.size_alloc] at B6
    have xr := xr.out
    clear hB6 KA KP
    have HA := blk_call HA xr
    have HP := blk_call HP xr
    have bW := bW.trans (xr.mono bW.size)
    have Z2 := xr.size
    try simp only [World.size_alloc] at Z2
    clear xr
    have hmq := hmq.out
    have q0 := cell_of_one HA
    obtain ⟨q1, q1b⟩ := Pn.here.blk HP
    have r0 := B6.cell
    go_wp2_with fail
    refine (CT.out _ bW).mono ?_
    rintro e u3 ⟨X, xc, sx, rfl, hmx, oX, apX, x3⟩
    clear q0 q1 q1b r0
    have HA := blk_call HA x3
    have HP := blk_call HP x3
    have B6 := B6.call x3
    have bW := bW.trans (x3.mono bW.size)
    have Z3 := x3.size
    try simp only [World.size_alloc] at Z3
    have B8 := Bx.new oX x3.size
    try simp only [World.size_alloc] at B8
    clear x3 oX
    have xa : Below u3.heap.size u3 (u3.alloc (.cells #[.slice X sx.length xc] 26)) := (Below.refl _ _).alloc (Nat.le_refl _) _
    have HA := blk_call HA xa
    have HP := blk_call HP xa
    have B6 := B6.call xa
    have bW := bW.trans (xa.mono bW.size)
    have Z4 := xa.size
    try simp only [World.size_alloc] at Z4
    clear xa
    have HAX := Lib.hid apX
    obtain ⟨hnx, hlx⟩ := SzW.of HS.out hmx
    clear apX
    have q0 := cell_of_one HA
    obtain ⟨q1, q1b⟩ := Pn.here.blk HP
    have r0 := B6.cell
    have r1 := B8.cell
    go_wp2_with fail
    clear q0 q1 q1b r0 r1
    have K8 := Lib.hid (fun w' (h : Below (u3.alloc (.cells #[.slice X sx.length xc] 26)).heap.size (u3.alloc (.cells #[.slice X sx.length xc] 26)) w') => (B8.call h).cell)
    have KP := Lib.hid (fun w' (h : Below (u3.alloc (.cells #[.slice X sx.length xc] 26)).heap.size (u3.alloc (.cells #[.slice X sx.length xc] 26)) w') => Pn.here.blk (blk_call HP h))
    have KA := Lib.hid (fun w' (h : Below (u3.alloc (.cells #[.slice X sx.length xc] 26)).heap.size (u3.alloc (.cells #[.slice X sx.length xc] 26)) w') => cell_of_one (blk_call HA h))
    go_cut [9, 10] from 31 to 37 (fun s6 s7 wx => ∃ (g' : Nat) (N : Option Addr) (nc : Nat) (sq : List Sp), s6 = .pointer (some ⟨g', 0, none⟩) ∧ s7 = .bool r.2 ∧ Hid (sq.map (·.l) = r.1 ∧ ApartW sq) ∧ Hid (Bx wx g' (u3.alloc (.cells #[.slice X sx.length xc] 26)).heap.size wx.heap.size N nc sq) ∧ Hid (Below (u3.alloc (.cells #[.slice X sx.length xc] 26)).heap.size (u3.alloc (.cells #[.slice X sx.length xc] 26)) wx))
    case first =>
      refine wp_region_held_drew (S := fun w' => Hid (Below (u3.alloc (.cells #[.slice X sx.length xc] 26)).heap.size (u3.alloc (.cells #[.slice X sx.length xc] 26)) w')) (by kernel_rfl) (below_drawn (Below.refl _ _) 1) (fun hHeld => ?_)
      refine held_take 0 32 (.agg #[.slice X sx.length xc]) rfl rfl (by kernel_rfl) (by kernel_rfl) (by kernel_rfl) (fun _ _ _ h => h) rfl hHeld (fun w h => exec_loadWh _ _ _ _ w (K8.out w h.out)) ?_
      refine held_take 1 33 (pnA p) rfl rfl (by kernel_rfl) (by kernel_rfl) (by kernel_rfl) (fun _ _ _ h => h) rfl hHeld (fun w h => exec_load_lP _ 0 p w (KP.out w h.out)) ?_
      simp only [Act.put, List.setIfInBounds_toArray, List.set_cons_zero, List.set_cons_succ]
      refine wpAnyH_ready (rs := [2, 7]) (by kernel_rfl) (by simp) (ready_call 2 34 38 #[pnA p] rfl rfl rfl (exec_call Try.func38 (by kernel_rfl) (by kernel_rfl) _) ?_ (ready_op 7 9 (.pointer (some ⟨((u3.alloc (.cells #[.slice X sx.length xc] 26)).drew).heap.size, 0, none⟩)) rfl rfl rfl (exec_allocWh _) (Lib.hid (hHeld.out.alloc hHeld.out.size _)) ?_ AllReadyH.nil))
      · skip
        refine (toPin_any p _).mono ?_
        rintro e v1 ⟨rfl, y1⟩
        have hHeld : Hid (Below (u3.alloc (.cells #[.slice X sx.length xc] 26)).heap.size (u3.alloc (.cells #[.slice X sx.length xc] 26)) v1) := hHeld.out.trans (y1.mono hHeld.out.size)
        have zy1 := y1.size
        refine ⟨_, rfl, hHeld, ?_⟩
        simp only [Act.put, List.setIfInBounds_toArray, List.set_cons_zero, List.set_cons_succ]
        refine wpAnyH_ready (rs := [3, 7]) (by kernel_rfl) (by simp) (ready_call 3 35 21 #[.agg #[.slice X sx.length xc], pnA p] rfl rfl rfl (exec_call Try.func21 (by kernel_rfl) (by kernel_rfl) _) ?_ (ready_op 7 9 (.pointer (some ⟨(v1).heap.size, 0, none⟩)) rfl rfl rfl (exec_allocWh _) (Lib.hid (hHeld.out.alloc hHeld.out.size _)) ?_ AllReadyH.nil))
        · skip
          refine (C2.out X sx xc _ hmx (B8.call hHeld.out).O.whl).mono ?_
          rintro e v2 ⟨N, nc, sn, rfl, hmn0, on, apn, y2⟩
          have on := on.weak (B' := (u3.alloc (.cells #[.slice X sx.length xc] 26)).heap.size) hHeld.out.size
          have hmn := And.intro hmn0 apn
          have hHeld : Hid (Below (u3.alloc (.cells #[.slice X sx.length xc] 26)).heap.size (u3.alloc (.cells #[.slice X sx.length xc] 26)) v2) := hHeld.out.trans (y2.mono hHeld.out.size)
          have zy2 := y2.size
          refine ⟨_, rfl, hHeld, ?_⟩
          simp only [Act.put, List.setIfInBounds_toArray, List.set_cons_zero, List.set_cons_succ]
          refine held_take 4 31 (.tuple #[.agg #[.slice N sn.length nc], .bool r.2]) rfl rfl (by kernel_rfl) (by kernel_rfl) (by kernel_rfl) (fun _ _ _ h => h) rfl hHeld (fun w _ => rfl) ?_
          simp only [Act.put, List.setIfInBounds_toArray, List.set_cons_zero, List.set_cons_succ]
          refine held_take 5 36 (.agg #[.slice N sn.length nc]) rfl rfl (by kernel_rfl) (by kernel_rfl) (by kernel_rfl) (fun _ _ _ h => h) rfl hHeld (fun w _ => rfl) ?_
          refine held_take 6 37 (.bool r.2) rfl rfl (by kernel_rfl) (by kernel_rfl) (by kernel_rfl) (fun _ _ _ h => h) rfl hHeld (fun w _ => rfl) ?_
          simp only [Act.put, List.setIfInBounds_toArray, List.set_cons_zero, List.set_cons_succ]
          have k4 := hHeld.out.alloc hHeld.out.size (.cells #[.slice none 0 0] 26)
          have l4 := hHeld.out.size
          refine held_op 7 9 (.pointer (some ⟨(v2).heap.size, 0, none⟩)) rfl rfl (by kernel_rfl) rfl (exec_allocWh _) (Lib.hid k4) ?_
          simp only [Act.put, List.setIfInBounds_toArray, List.set_cons_zero, List.set_cons_succ]
          have hgz := heap_new (v2) (.cells #[.slice none 0 0] 26)
          have on := on.alloc (.cells #[.slice none 0 0] 26)
          have hHeld := Lib.hid k4
          have cz := cell_of_one hgz
          have fz := free_of_one hgz
          have hon := fun q hq => on.lo q hq
          have ltz := blk_lt hgz
          have zz := hHeld.out.size
          have k5 : Below (u3.alloc (.cells #[.slice X sx.length xc] 26)).heap.size (u3.alloc (.cells #[.slice X sx.length xc] 26)) ((((v2).alloc (.cells #[.slice none 0 0] 26))).setCell ⟨(v2).heap.size, 0, none⟩ (.slice N sn.length nc)) := hHeld.out.setCell (p := ⟨(v2).heap.size, 0, none⟩) (by show _ ≤ (v2).heap.size; exact l4) _
          have BX : Bx ((((v2).alloc (.cells #[.slice none 0 0] 26))).setCell ⟨(v2).heap.size, 0, none⟩ (.slice N sn.length nc)) (v2).heap.size (u3.alloc (.cells #[.slice X sx.length xc] 26)).heap.size ((((v2).alloc (.cells #[.slice none 0 0] 26))).setCell ⟨(v2).heap.size, 0, none⟩ (.slice N sn.length nc)).heap.size N nc sn := Bx.put on hgz (fun q hq => by
              rw [World.size_setCell]
              rcases hq with rfl | hq
              · exact ⟨l4, ltz⟩
              · have := hon q hq; refine ⟨this.1, this.2⟩)
          refine held_store 8 rfl rfl (by kernel_rfl) rfl (exec_storeWh _ N sn.length nc _ _ cz fz) (Lib.hid k5) ?_
          have hHeld := Lib.hid k5
          refine held_op 9 10 (.bool r.2) rfl rfl (by kernel_rfl) rfl rfl hHeld ?_
          simp only [Act.put, List.setIfInBounds_toArray, List.set_cons_zero, List.set_cons_succ]
          refine wpAnyH_done (by kernel_rfl) ?_ _
          have HX := Lib.hid BX
          have HMN := Lib.hid hmn
          clear BX k5 on hmn cz fz hgz hon ltz zz
          go_wp2_with fail
          go_meet
          exact ⟨_, N, nc, sn, rfl, rfl, HMN, HX, hHeld⟩
        · skip
          have k4 := hHeld.out.alloc hHeld.out.size (.cells #[.slice none 0 0] 26)
          have hgz := heap_new (v1) (.cells #[.slice none 0 0] 26)
          have l4 := hHeld.out.size
          have hHeld := Lib.hid k4
          simp only [Act.put, List.setIfInBounds_toArray, List.set_cons_zero, List.set_cons_succ]
          refine held_call 3 35 21 #[.agg #[.slice X sx.length xc], pnA p] rfl rfl (by kernel_rfl) rfl (exec_call Try.func21 (by kernel_rfl) (by kernel_rfl) _) ?_
          refine (C2.out X sx xc _ hmx (B8.call hHeld.out).O.whl).mono ?_
          rintro e v3 ⟨N, nc, sn, rfl, hmn0, on, apn, y3⟩
          have on := on.weak (B' := (u3.alloc (.cells #[.slice X sx.length xc] 26)).heap.size) hHeld.out.size
          have hmn := And.intro hmn0 apn
          have hgz := blk_call hgz y3
          have hHeld : Hid (Below (u3.alloc (.cells #[.slice X sx.length xc] 26)).heap.size (u3.alloc (.cells #[.slice X sx.length xc] 26)) v3) := hHeld.out.trans (y3.mono hHeld.out.size)
          have zy3 := y3.size
          refine ⟨_, rfl, hHeld, ?_⟩
          simp only [Act.put, List.setIfInBounds_toArray, List.set_cons_zero, List.set_cons_succ]
          refine held_take 4 31 (.tuple #[.agg #[.slice N sn.length nc], .bool r.2]) rfl rfl (by kernel_rfl) (by kernel_rfl) (by kernel_rfl) (fun _ _ _ h => h) rfl hHeld (fun w _ => rfl) ?_
          simp only [Act.put, List.setIfInBounds_toArray, List.set_cons_zero, List.set_cons_succ]
          refine held_take 5 36 (.agg #[.slice N sn.length nc]) rfl rfl (by kernel_rfl) (by kernel_rfl) (by kernel_rfl) (fun _ _ _ h => h) rfl hHeld (fun w _ => rfl) ?_
          refine held_take 6 37 (.bool r.2) rfl rfl (by kernel_rfl) (by kernel_rfl) (by kernel_rfl) (fun _ _ _ h => h) rfl hHeld (fun w _ => rfl) ?_
          simp only [Act.put, List.setIfInBounds_toArray, List.set_cons_zero, List.set_cons_succ]
          have cz := cell_of_one hgz
          have fz := free_of_one hgz
          have hon := fun q hq => on.lo q hq
          have ltz := blk_lt hgz
          have zz := hHeld.out.size
          have k5 : Below (u3.alloc (.cells #[.slice X sx.length xc] 26)).heap.size (u3.alloc (.cells #[.slice X sx.length xc] 26)) ((v3).setCell ⟨(v1).heap.size, 0, none⟩ (.slice N sn.length nc)) := hHeld.out.setCell (p := ⟨(v1).heap.size, 0, none⟩) (by show _ ≤ (v1).heap.size; exact l4) _
          have BX : Bx ((v3).setCell ⟨(v1).heap.size, 0, none⟩ (.slice N sn.length nc)) (v1).heap.size (u3.alloc (.cells #[.slice X sx.length xc] 26)).heap.size ((v3).setCell ⟨(v1).heap.size, 0, none⟩ (.slice N sn.length nc)).heap.size N nc sn := Bx.put on hgz (fun q hq => by
              rw [World.size_setCell]
              rcases hq with rfl | hq
              · exact ⟨l4, ltz⟩
              · have := hon q hq; refine ⟨this.1, this.2⟩)
          refine held_store 8 rfl rfl (by kernel_rfl) rfl (exec_storeWh _ N sn.length nc _ _ cz fz) (Lib.hid k5) ?_
          have hHeld := Lib.hid k5
          refine held_op 9 10 (.bool r.2) rfl rfl (by kernel_rfl) rfl rfl hHeld ?_
          simp only [Act.put, List.setIfInBounds_toArray, List.set_cons_zero, List.set_cons_succ]
          refine wpAnyH_done (by kernel_rfl) ?_ _
          have HX := Lib.hid BX
          have HMN := Lib.hid hmn
          clear BX k5 on hmn cz fz hgz hon ltz zz
          go_wp2_with fail
          go_meet
          exact ⟨_, N, nc, sn, rfl, rfl, HMN, HX, hHeld⟩
      · skip
        have k4 := hHeld.out.alloc hHeld.out.size (.cells #[.slice none 0 0] 26)
        have hgz := heap_new ((u3.alloc (.cells #[.slice X sx.length xc] 26)).drew) (.cells #[.slice none 0 0] 26)
        have l4 := hHeld.out.size
        have hHeld := Lib.hid k4
        simp only [Act.put, List.setIfInBounds_toArray, List.set_cons_zero, List.set_cons_succ]
        refine held_call 2 34 38 #[pnA p] rfl rfl (by kernel_rfl) rfl (exec_call Try.func38 (by kernel_rfl) (by kernel_rfl) _) ?_
        refine (toPin_any p _).mono ?_
        rintro e v4 ⟨rfl, y4⟩
        have hgz := blk_call hgz y4
        have hHeld : Hid (Below (u3.alloc (.cells #[.slice X sx.length xc] 26)).heap.size (u3.alloc (.cells #[.slice X sx.length xc] 26)) v4) := hHeld.out.trans (y4.mono hHeld.out.size)
        have zy4 := y4.size
        refine ⟨_, rfl, hHeld, ?_⟩
        simp only [Act.put, List.setIfInBounds_toArray, List.set_cons_zero, List.set_cons_succ]
        refine held_call 3 35 21 #[.agg #[.slice X sx.length xc], pnA p] rfl rfl (by kernel_rfl) rfl (exec_call Try.func21 (by kernel_rfl) (by kernel_rfl) _) ?_
        refine (C2.out X sx xc _ hmx (B8.call hHeld.out).O.whl).mono ?_
        rintro e v5 ⟨N, nc, sn, rfl, hmn0, on, apn, y5⟩
        have on := on.weak (B' := (u3.alloc (.cells #[.slice X sx.length xc] 26)).heap.size) hHeld.out.size
        have hmn := And.intro hmn0 apn
        have hgz := blk_call hgz y5
        have hHeld : Hid (Below (u3.alloc (.cells #[.slice X sx.length xc] 26)).heap.size (u3.alloc (.cells #[.slice X sx.length xc] 26)) v5) := hHeld.out.trans (y5.mono hHeld.out.size)
        have zy5 := y5.size
        refine ⟨_, rfl, hHeld, ?_⟩
        simp only [Act.put, List.setIfInBounds_toArray, List.set_cons_zero, List.set_cons_succ]
        refine held_take 4 31 (.tuple #[.agg #[.slice N sn.length nc], .bool r.2]) rfl rfl (by kernel_rfl) (by kernel_rfl) (by kernel_rfl) (fun _ _ _ h => h) rfl hHeld (fun w _ => rfl) ?_
        simp only [Act.put, List.setIfInBounds_toArray, List.set_cons_zero, List.set_cons_succ]
        refine held_take 5 36 (.agg #[.slice N sn.length nc]) rfl rfl (by kernel_rfl) (by kernel_rfl) (by kernel_rfl) (fun _ _ _ h => h) rfl hHeld (fun w _ => rfl) ?_
        refine held_take 6 37 (.bool r.2) rfl rfl (by kernel_rfl) (by kernel_rfl) (by kernel_rfl) (fun _ _ _ h => h) rfl hHeld (fun w _ => rfl) ?_
        simp only [Act.put, List.setIfInBounds_toArray, List.set_cons_zero, List.set_cons_succ]
        have cz := cell_of_one hgz
        have fz := free_of_one hgz
        have hon := fun q hq => on.lo q hq
        have ltz := blk_lt hgz
        have zz := hHeld.out.size
        have k5 : Below (u3.alloc (.cells #[.slice X sx.length xc] 26)).heap.size (u3.alloc (.cells #[.slice X sx.length xc] 26)) ((v5).setCell ⟨((u3.alloc (.cells #[.slice X sx.length xc] 26)).drew).heap.size, 0, none⟩ (.slice N sn.length nc)) := hHeld.out.setCell (p := ⟨((u3.alloc (.cells #[.slice X sx.length xc] 26)).drew).heap.size, 0, none⟩) (by show _ ≤ ((u3.alloc (.cells #[.slice X sx.length xc] 26)).drew).heap.size; exact l4) _
        have BX : Bx ((v5).setCell ⟨((u3.alloc (.cells #[.slice X sx.length xc] 26)).drew).heap.size, 0, none⟩ (.slice N sn.length nc)) ((u3.alloc (.cells #[.slice X sx.length xc] 26)).drew).heap.size (u3.alloc (.cells #[.slice X sx.length xc] 26)).heap.size ((v5).setCell ⟨((u3.alloc (.cells #[.slice X sx.length xc] 26)).drew).heap.size, 0, none⟩ (.slice N sn.length nc)).heap.size N nc sn := Bx.put on hgz (fun q hq => by
            rw [World.size_setCell]
            rcases hq with rfl | hq
            · exact ⟨l4, ltz⟩
            · have := hon q hq; refine ⟨this.1, this.2⟩)
        refine held_store 8 rfl rfl (by kernel_rfl) rfl (exec_storeWh _ N sn.length nc _ _ cz fz) (Lib.hid k5) ?_
        have hHeld := Lib.hid k5
        refine held_op 9 10 (.bool r.2) rfl rfl (by kernel_rfl) rfl rfl hHeld ?_
        simp only [Act.put, List.setIfInBounds_toArray, List.set_cons_zero, List.set_cons_succ]
        refine wpAnyH_done (by kernel_rfl) ?_ _
        have HX := Lib.hid BX
        have HMN := Lib.hid hmn
        clear BX k5 on hmn cz fz hgz hon ltz zz
        go_wp2_with fail
        go_meet
        exact ⟨_, N, nc, sn, rfl, rfl, HMN, HX, hHeld⟩
    case rest =>
      obtain ⟨gg, G, gc, sg, rfl, rfl, hmg, hB9, xr⟩ := hcut
      obtain ⟨u4, hu⟩ : ∃ u : World, u = wc := ⟨_, rfl⟩
      subst hu
      have B9 := hB9.out
      try simp only [World.size_alloc] at B9
      have xr := xr.out
      clear hB9 KA KP
      have HA := blk_call HA xr
      have HP := blk_call HP xr
      have B6 := B6.call xr
      have B8 := B8.call xr
      have bW := bW.trans (xr.mono bW.size)
      have Z5 := xr.size
      try simp only [World.size_alloc] at Z5
      clear xr
      obtain ⟨hmg, apG⟩ := hmg.out
      have HAG := Lib.hid apG
      obtain ⟨hng, hlg⟩ := SzW.of HSR.out hmg
      clear apG
      have q0 := cell_of_one HA
      obtain ⟨q1, q1b⟩ := Pn.here.blk HP
      have r0 := B6.cell
      have r1 := B8.cell
      have r2 := B9.cell
      go_wp2_with fail
      refine (CG.out G Q sg sq gc qc _ hmg hmq B9.O.whl B6.O.whl).mono ?_
      rintro e u5 ⟨rfl, x5⟩
      clear q0 q1 q1b r0 r1 r2
      have HA := blk_call HA x5
      have HP := blk_call HP x5
      have B6 := B6.call x5
      have B8 := B8.call x5
      have B9 := B9.call x5
      have bW := bW.trans (x5.mono bW.size)
      have Z6 := x5.size
      try simp only [World.size_alloc] at Z6
      clear x5
      have q0 := cell_of_one HA
      obtain ⟨q1, q1b⟩ := Pn.here.blk HP
      have r0 := B6.cell
      have r1 := B8.cell
      have r2 := B9.cell
      go_wp2_with fail
      clear q0 q1 q1b r0 r1 r2
      have KB := Lib.hid (fun w' (h : Below u5.heap.size u5 w') => (B8.call h).cell)
      have KA := Lib.hid (fun w' (h : Below u5.heap.size u5 w') => cell_of_one (blk_call HA h))
      refine wp_region_held_drew (S := fun w' => Hid (Below u5.heap.size u5 w')) (by kernel_rfl) (below_drawn (Below.refl _ _) 1) (fun hHeld => ?_)
      refine held_take 0 47 (.agg #[.slice X sx.length xc]) rfl rfl (by kernel_rfl) (by kernel_rfl) (by kernel_rfl) (fun _ _ _ h => h) rfl hHeld (fun w h => exec_loadWh _ _ _ _ w (KB.out w h.out)) ?_
      refine held_take 1 48 (.agg #[.slice A sp.length c]) rfl rfl (by kernel_rfl) (by kernel_rfl) (by kernel_rfl) (fun _ _ _ h => h) rfl hHeld (fun w h => exec_load_lW _ _ _ _ w (KA.out w h.out)) ?_
      simp only [Act.put, List.setIfInBounds_toArray, List.set_cons_zero, List.set_cons_succ]
      refine held_call 2 49 36 #[.agg #[.slice A sp.length c]] rfl rfl (by kernel_rfl) rfl (exec_call Try.func36 (by kernel_rfl) (by kernel_rfl) _) ?_
      refine (CT.out _ (bW.trans (hHeld.out.mono bW.size))).mono ?_
      rintro e u61 ⟨Y, yc, sy, rfl, hmy, oY, -, y1⟩
      have k1 : Hid (Below u5.heap.size u5 u61) := hHeld.out.trans (y1.mono hHeld.out.size)
      refine ⟨_, rfl, k1, ?_⟩
      simp only [Act.put, List.setIfInBounds_toArray, List.set_cons_zero, List.set_cons_succ]
      refine held_call 3 50 31 #[.agg #[.slice X sx.length xc], .agg #[.slice Y sy.length yc]] rfl rfl (by kernel_rfl) rfl (exec_call Try.func31 (by kernel_rfl) (by kernel_rfl) _) ?_
      refine (CE.out X Y sx sy xc yc _ hmx hmy (B8.call k1.out).O.whl oY.whl).mono ?_
      rintro e u6 ⟨rfl, y2⟩
      have hHeld : Hid (Below u5.heap.size u5 u6) := k1.out.trans (y2.mono k1.out.size)
      refine ⟨_, rfl, hHeld, ?_⟩
      simp only [Act.put, List.setIfInBounds_toArray, List.set_cons_zero, List.set_cons_succ]
      refine held_take 4 51 (.bool false) rfl rfl (by kernel_rfl) (by kernel_rfl) (by kernel_rfl) (fun _ _ _ h => h) rfl hHeld (fun w _ => rfl) ?_
      simp only [Act.put, List.setIfInBounds_toArray, List.set_cons_zero, List.set_cons_succ]
      refine wpAnyH_done (by kernel_rfl) ?_ _
      have xr := hHeld.out
      clear hHeld k1 y1 y2 KA KB oY hmy
      have HA := blk_call HA xr
      have HP := blk_call HP xr
      have B6 := B6.call xr
      have B8 := B8.call xr
      have B9 := B9.call xr
      have bW := bW.trans (xr.mono bW.size)
      have Z7 := xr.size
      try simp only [World.size_alloc] at Z7
      clear xr
      have hlm : (allPn sx).length ≤ 1048575 := hlx
      obtain ⟨M, hM⟩ : ∃ M : Nat, 1 + (allPn sx).length * 2 = M := ⟨_, rfl⟩
      have CM := Lib.hid (fun w' lo (h : OwnW w' lo X xc sx) => markWheel_any X sx xc 1 lo w' (by omega) (by omega) (by omega) h HAX.out)
      rw [hM] at CM
      have nM : decide ((M : Int) < 0) = false := by simp
      clear hM
      obtain ⟨K, hK⟩ : ∃ K : Nat, 1 + (allPn sg).length * 2 = K := ⟨_, rfl⟩
      have CN := Lib.hid (fun w' lo (h : OwnW w' lo G gc sg) => markWheel_any G sg gc 1 lo w' (by omega) (by omega) (by omega) h HAG.out)
      have CH := Lib.hid (fun w' (h : Whl w' G (marksW 1 sg)) => heldWheel_any G sg gc 1 w' (by omega) (by omega) (by omega) h)
      rw [hK] at CN CH
      have nK : decide ((K : Int) < 0) = false := by simp
      have nQ : ((K : Int) != (K : Int)) = false := by simp
      clear hK
      have q0 := cell_of_one HA
      obtain ⟨q1, q1b⟩ := Pn.here.blk HP
      have r0 := B6.cell
      have r1 := B8.cell
      have r2 := B9.cell
      go_wp2_with fail
      refine (CM.out _ _ B8.O).mono ?_
      rintro e u7 ⟨rfl, om, tm⟩
      clear q0 q1 q1b r0 r1 r2
      have HA := tm.blk HA (fun h => by have := B8.rng _ (.inr h); omega)
      have HP := tm.blk HP (fun h => by have := B8.rng _ (.inr h); omega)
      have B6 := B6.tch tm (fun q h1 h2 h3 => by have := B8.rng _ (.inr h3); omega)
      have B9 := B9.tch tm (fun q h1 h2 h3 => by have := B8.rng _ (.inr h3); omega)
      have bW := bW.trans (tm.below bW.size (fun q h => by have := B8.rng _ (.inr h); omega))
      have Z8 := tm.size
      try simp only [World.size_alloc] at Z8
      have B8 := B8.mark om tm
      clear om tm
      clear B8
      have q0 := cell_of_one HA
      obtain ⟨q1, q1b⟩ := Pn.here.blk HP
      have r0 := B6.cell
      have r1 := B9.cell
      go_wp2_with fail
      refine (CG.out G Q sg sq gc qc _ hmg hmq B9.O.whl B6.O.whl).mono ?_
      rintro e u8 ⟨rfl, x8⟩
      clear q0 q1 q1b r0 r1
      have HA := blk_call HA x8
      have HP := blk_call HP x8
      have B6 := B6.call x8
      have B9 := B9.call x8
      have bW := bW.trans (x8.mono bW.size)
      have Z9 := x8.size
      try simp only [World.size_alloc] at Z9
      clear x8
      have q0 := cell_of_one HA
      obtain ⟨q1, q1b⟩ := Pn.here.blk HP
      have r0 := B6.cell
      have r1 := B9.cell
      go_wp2_with fail
      refine (CN.out _ _ B9.O).mono ?_
      rintro e u9 ⟨rfl, om, tm⟩
      clear q0 q1 q1b r0 r1
      have HA := tm.blk HA (fun h => by have := B9.rng _ (.inr h); omega)
      have HP := tm.blk HP (fun h => by have := B9.rng _ (.inr h); omega)
      have B6 := B6.tch tm (fun q h1 h2 h3 => by have := B9.rng _ (.inr h3); omega)
      have bW := bW.trans (tm.below bW.size (fun q h => by have := B9.rng _ (.inr h); omega))
      have Z10 := tm.size
      try simp only [World.size_alloc] at Z10
      have B9 := B9.mark om tm
      clear om tm
      have q0 := cell_of_one HA
      obtain ⟨q1, q1b⟩ := Pn.here.blk HP
      have r0 := B6.cell
      have r1 := B9.cell
      rw [marksW_length] at r1
      go_wp2_with fail
      refine (CH.out _ B9.O.whl).mono ?_
      rintro e u10 ⟨rfl, x10⟩
      clear q0 q1 q1b r0 r1
      have HA := blk_call HA x10
      have HP := blk_call HP x10
      have B6 := B6.call x10
      have B9 := B9.call x10
      have bW := bW.trans (x10.mono bW.size)
      have Z11 := x10.size
      try simp only [World.size_alloc] at Z11
      clear x10
      have q0 := cell_of_one HA
      obtain ⟨q1, q1b⟩ := Pn.here.blk HP
      have r0 := B6.cell
      have r1 := B9.cell
      rw [marksW_length] at r1
      go_wp2_with fail
      clear q0 q1 q1b r0 r1
      have KA := Lib.hid (fun w' (h : Below u10.heap.size u10 w') => cell_of_one (blk_call HA h))
      have KP := Lib.hid (fun w' (h : Below u10.heap.size u10 w') => Pn.here.blk (blk_call HP h))
      go_cut [14, 15] from 79 to 86 (fun s6 s7 wx => ∃ (g' : Nat) (N : Option Addr) (nc : Nat) (sq : List Sp), s6 = .pointer (some ⟨g', 0, none⟩) ∧ s7 = .bool r.2 ∧ Hid (sq.map (·.l) = r.1 ∧ ApartW sq) ∧ Hid (Bx wx g' u10.heap.size wx.heap.size N nc sq) ∧ Hid (Below u10.heap.size u10 wx))
      case first =>
        refine wp_region_held_drew (S := fun w' => Hid (Below u10.heap.size u10 w')) (by kernel_rfl) (below_drawn (Below.refl _ _) 1) (fun hHeld => ?_)
        refine held_take 0 80 (.agg #[.slice A sp.length c]) rfl rfl (by kernel_rfl) (by kernel_rfl) (by kernel_rfl) (fun _ _ _ h => h) rfl hHeld (fun w h => exec_load_lW _ _ _ _ w (KA.out w h.out)) ?_
        refine held_take 2 82 (pnA p) rfl rfl (by kernel_rfl) (by kernel_rfl) (by kernel_rfl) (fun _ _ _ h => h) rfl hHeld (fun w h => exec_load_lP _ 0 p w (KP.out w h.out)) ?_
        simp only [Act.put, List.setIfInBounds_toArray, List.set_cons_zero, List.set_cons_succ]
        refine wpAnyH_ready (rs := [1, 8]) (by kernel_rfl) (by simp) (ready_call 1 81 36 #[.agg #[.slice A sp.length c]] rfl rfl rfl (exec_call Try.func36 (by kernel_rfl) (by kernel_rfl) _) ?_ (ready_op 8 14 (.pointer (some ⟨(u10.drew).heap.size, 0, none⟩)) rfl rfl rfl (exec_allocWh _) (Lib.hid (hHeld.out.alloc hHeld.out.size _)) ?_ AllReadyH.nil))
        · skip
          refine (CT.out _ (bW.trans (hHeld.out.mono bW.size))).mono ?_
          rintro e v1 ⟨X, xc, sx, rfl, hmx, oX, -, y1⟩
          have hHeld : Hid (Below u10.heap.size u10 v1) := hHeld.out.trans (y1.mono hHeld.out.size)
          have zy1 := y1.size
          refine ⟨_, rfl, hHeld, ?_⟩
          simp only [Act.put, List.setIfInBounds_toArray, List.set_cons_zero, List.set_cons_succ]
          refine wpAnyH_ready (rs := [3, 8]) (by kernel_rfl) (by simp) (ready_call 3 83 38 #[pnA p] rfl rfl rfl (exec_call Try.func38 (by kernel_rfl) (by kernel_rfl) _) ?_ (ready_op 8 14 (.pointer (some ⟨(v1).heap.size, 0, none⟩)) rfl rfl rfl (exec_allocWh _) (Lib.hid (hHeld.out.alloc hHeld.out.size _)) ?_ AllReadyH.nil))
          · skip
            refine (toPin_any p _).mono ?_
            rintro e v2 ⟨rfl, y2⟩
            have oX := oX.below y2
            have hHeld : Hid (Below u10.heap.size u10 v2) := hHeld.out.trans (y2.mono hHeld.out.size)
            have zy2 := y2.size
            refine ⟨_, rfl, hHeld, ?_⟩
            simp only [Act.put, List.setIfInBounds_toArray, List.set_cons_zero, List.set_cons_succ]
            refine wpAnyH_ready (rs := [4, 8]) (by kernel_rfl) (by simp) (ready_call 4 84 21 #[.agg #[.slice X sx.length xc], pnA p] rfl rfl rfl (exec_call Try.func21 (by kernel_rfl) (by kernel_rfl) _) ?_ (ready_op 8 14 (.pointer (some ⟨(v2).heap.size, 0, none⟩)) rfl rfl rfl (exec_allocWh _) (Lib.hid (hHeld.out.alloc hHeld.out.size _)) ?_ AllReadyH.nil))
            · skip
              refine (C2.out X sx xc _ hmx oX.whl).mono ?_
              rintro e v3 ⟨N, nc, sn, rfl, hmn0, on, apn, y3⟩
              have on := on.weak (B' := u10.heap.size) hHeld.out.size
              have hmn := And.intro hmn0 apn
              have oX := oX.below y3
              have hHeld : Hid (Below u10.heap.size u10 v3) := hHeld.out.trans (y3.mono hHeld.out.size)
              have zy3 := y3.size
              refine ⟨_, rfl, hHeld, ?_⟩
              simp only [Act.put, List.setIfInBounds_toArray, List.set_cons_zero, List.set_cons_succ]
              refine held_take 5 79 (.tuple #[.agg #[.slice N sn.length nc], .bool r.2]) rfl rfl (by kernel_rfl) (by kernel_rfl) (by kernel_rfl) (fun _ _ _ h => h) rfl hHeld (fun w _ => rfl) ?_
              simp only [Act.put, List.setIfInBounds_toArray, List.set_cons_zero, List.set_cons_succ]
              refine held_take 6 85 (.agg #[.slice N sn.length nc]) rfl rfl (by kernel_rfl) (by kernel_rfl) (by kernel_rfl) (fun _ _ _ h => h) rfl hHeld (fun w _ => rfl) ?_
              refine held_take 7 86 (.bool r.2) rfl rfl (by kernel_rfl) (by kernel_rfl) (by kernel_rfl) (fun _ _ _ h => h) rfl hHeld (fun w _ => rfl) ?_
              simp only [Act.put, List.setIfInBounds_toArray, List.set_cons_zero, List.set_cons_succ]
              have k4 := hHeld.out.alloc hHeld.out.size (.cells #[.slice none 0 0] 26)
              have l4 := hHeld.out.size
              refine held_op 8 14 (.pointer (some ⟨(v3).heap.size, 0, none⟩)) rfl rfl (by kernel_rfl) rfl (exec_allocWh _) (Lib.hid k4) ?_
              simp only [Act.put, List.setIfInBounds_toArray, List.set_cons_zero, List.set_cons_succ]
              have hgz := heap_new (v3) (.cells #[.slice none 0 0] 26)
              have on := on.alloc (.cells #[.slice none 0 0] 26)
              have hHeld := Lib.hid k4
              have cz := cell_of_one hgz
              have fz := free_of_one hgz
              have hon := fun q hq => on.lo q hq
              have ltz := blk_lt hgz
              have zz := hHeld.out.size
              have k5 : Below u10.heap.size u10 ((((v3).alloc (.cells #[.slice none 0 0] 26))).setCell ⟨(v3).heap.size, 0, none⟩ (.slice N sn.length nc)) := hHeld.out.setCell (p := ⟨(v3).heap.size, 0, none⟩) (by show _ ≤ (v3).heap.size; exact l4) _
              have BX : Bx ((((v3).alloc (.cells #[.slice none 0 0] 26))).setCell ⟨(v3).heap.size, 0, none⟩ (.slice N sn.length nc)) (v3).heap.size u10.heap.size ((((v3).alloc (.cells #[.slice none 0 0] 26))).setCell ⟨(v3).heap.size, 0, none⟩ (.slice N sn.length nc)).heap.size N nc sn := Bx.put on hgz (fun q hq => by
                  rw [World.size_setCell]
                  rcases hq with rfl | hq
                  · exact ⟨l4, ltz⟩
                  · have := hon q hq; refine ⟨this.1, this.2⟩)
              refine held_store 9 rfl rfl (by kernel_rfl) rfl (exec_storeWh _ N sn.length nc _ _ cz fz) (Lib.hid k5) ?_
              have hHeld := Lib.hid k5
              refine held_op 10 15 (.bool r.2) rfl rfl (by kernel_rfl) rfl rfl hHeld ?_
              simp only [Act.put, List.setIfInBounds_toArray, List.set_cons_zero, List.set_cons_succ]
              refine wpAnyH_done (by kernel_rfl) ?_ _
              have HX := Lib.hid BX
              have HMN := Lib.hid hmn
              clear BX k5 on hmn cz fz hgz hon ltz zz
              go_wp2_with fail
              go_meet
              exact ⟨_, N, nc, sn, rfl, rfl, HMN, HX, hHeld⟩
            · skip
              have k4 := hHeld.out.alloc hHeld.out.size (.cells #[.slice none 0 0] 26)
              have hgz := heap_new (v2) (.cells #[.slice none 0 0] 26)
              have l4 := hHeld.out.size
              have hHeld := Lib.hid k4
              simp only [Act.put, List.setIfInBounds_toArray, List.set_cons_zero, List.set_cons_succ]
              have oX := oX.alloc (.cells #[.slice none 0 0] 26)
              refine held_call 4 84 21 #[.agg #[.slice X sx.length xc], pnA p] rfl rfl (by kernel_rfl) rfl (exec_call Try.func21 (by kernel_rfl) (by kernel_rfl) _) ?_
              refine (C2.out X sx xc _ hmx oX.whl).mono ?_
              rintro e v4 ⟨N, nc, sn, rfl, hmn0, on, apn, y4⟩
              have on := on.weak (B' := u10.heap.size) hHeld.out.size
              have hmn := And.intro hmn0 apn
              have oX := oX.below y4
              have hgz := blk_call hgz y4
              have hHeld : Hid (Below u10.heap.size u10 v4) := hHeld.out.trans (y4.mono hHeld.out.size)
              have zy4 := y4.size
              refine ⟨_, rfl, hHeld, ?_⟩
              simp only [Act.put, List.setIfInBounds_toArray, List.set_cons_zero, List.set_cons_succ]
              refine held_take 5 79 (.tuple #[.agg #[.slice N sn.length nc], .bool r.2]) rfl rfl (by kernel_rfl) (by kernel_rfl) (by kernel_rfl) (fun _ _ _ h => h) rfl hHeld (fun w _ => rfl) ?_
              simp only [Act.put, List.setIfInBounds_toArray, List.set_cons_zero, List.set_cons_succ]
              refine held_take 6 85 (.agg #[.slice N sn.length nc]) rfl rfl (by kernel_rfl) (by kernel_rfl) (by kernel_rfl) (fun _ _ _ h => h) rfl hHeld (fun w _ => rfl) ?_
              refine held_take 7 86 (.bool r.2) rfl rfl (by kernel_rfl) (by kernel_rfl) (by kernel_rfl) (fun _ _ _ h => h) rfl hHeld (fun w _ => rfl) ?_
              simp only [Act.put, List.setIfInBounds_toArray, List.set_cons_zero, List.set_cons_succ]
              have cz := cell_of_one hgz
              have fz := free_of_one hgz
              have hon := fun q hq => on.lo q hq
              have ltz := blk_lt hgz
              have zz := hHeld.out.size
              have k5 : Below u10.heap.size u10 ((v4).setCell ⟨(v2).heap.size, 0, none⟩ (.slice N sn.length nc)) := hHeld.out.setCell (p := ⟨(v2).heap.size, 0, none⟩) (by show _ ≤ (v2).heap.size; exact l4) _
              have BX : Bx ((v4).setCell ⟨(v2).heap.size, 0, none⟩ (.slice N sn.length nc)) (v2).heap.size u10.heap.size ((v4).setCell ⟨(v2).heap.size, 0, none⟩ (.slice N sn.length nc)).heap.size N nc sn := Bx.put on hgz (fun q hq => by
                  rw [World.size_setCell]
                  rcases hq with rfl | hq
                  · exact ⟨l4, ltz⟩
                  · have := hon q hq; refine ⟨this.1, this.2⟩)
              refine held_store 9 rfl rfl (by kernel_rfl) rfl (exec_storeWh _ N sn.length nc _ _ cz fz) (Lib.hid k5) ?_
              have hHeld := Lib.hid k5
              refine held_op 10 15 (.bool r.2) rfl rfl (by kernel_rfl) rfl rfl hHeld ?_
              simp only [Act.put, List.setIfInBounds_toArray, List.set_cons_zero, List.set_cons_succ]
              refine wpAnyH_done (by kernel_rfl) ?_ _
              have HX := Lib.hid BX
              have HMN := Lib.hid hmn
              clear BX k5 on hmn cz fz hgz hon ltz zz
              go_wp2_with fail
              go_meet
              exact ⟨_, N, nc, sn, rfl, rfl, HMN, HX, hHeld⟩
          · skip
            have k4 := hHeld.out.alloc hHeld.out.size (.cells #[.slice none 0 0] 26)
            have hgz := heap_new (v1) (.cells #[.slice none 0 0] 26)
            have l4 := hHeld.out.size
            have hHeld := Lib.hid k4
            simp only [Act.put, List.setIfInBounds_toArray, List.set_cons_zero, List.set_cons_succ]
            have oX := oX.alloc (.cells #[.slice none 0 0] 26)
            refine held_call 3 83 38 #[pnA p] rfl rfl (by kernel_rfl) rfl (exec_call Try.func38 (by kernel_rfl) (by kernel_rfl) _) ?_
            refine (toPin_any p _).mono ?_
            rintro e v5 ⟨rfl, y5⟩
            have oX := oX.below y5
            have hgz := blk_call hgz y5
            have hHeld : Hid (Below u10.heap.size u10 v5) := hHeld.out.trans (y5.mono hHeld.out.size)
            have zy5 := y5.size
            refine ⟨_, rfl, hHeld, ?_⟩
            simp only [Act.put, List.setIfInBounds_toArray, List.set_cons_zero, List.set_cons_succ]
            refine held_call 4 84 21 #[.agg #[.slice X sx.length xc], pnA p] rfl rfl (by kernel_rfl) rfl (exec_call Try.func21 (by kernel_rfl) (by kernel_rfl) _) ?_
            refine (C2.out X sx xc _ hmx oX.whl).mono ?_
            rintro e v6 ⟨N, nc, sn, rfl, hmn0, on, apn, y6⟩
            have on := on.weak (B' := u10.heap.size) hHeld.out.size
            have hmn := And.intro hmn0 apn
            have oX := oX.below y6
            have hgz := blk_call hgz y6
            have hHeld : Hid (Below u10.heap.size u10 v6) := hHeld.out.trans (y6.mono hHeld.out.size)
            have zy6 := y6.size
            refine ⟨_, rfl, hHeld, ?_⟩
            simp only [Act.put, List.setIfInBounds_toArray, List.set_cons_zero, List.set_cons_succ]
            refine held_take 5 79 (.tuple #[.agg #[.slice N sn.length nc], .bool r.2]) rfl rfl (by kernel_rfl) (by kernel_rfl) (by kernel_rfl) (fun _ _ _ h => h) rfl hHeld (fun w _ => rfl) ?_
            simp only [Act.put, List.setIfInBounds_toArray, List.set_cons_zero, List.set_cons_succ]
            refine held_take 6 85 (.agg #[.slice N sn.length nc]) rfl rfl (by kernel_rfl) (by kernel_rfl) (by kernel_rfl) (fun _ _ _ h => h) rfl hHeld (fun w _ => rfl) ?_
            refine held_take 7 86 (.bool r.2) rfl rfl (by kernel_rfl) (by kernel_rfl) (by kernel_rfl) (fun _ _ _ h => h) rfl hHeld (fun w _ => rfl) ?_
            simp only [Act.put, List.setIfInBounds_toArray, List.set_cons_zero, List.set_cons_succ]
            have cz := cell_of_one hgz
            have fz := free_of_one hgz
            have hon := fun q hq => on.lo q hq
            have ltz := blk_lt hgz
            have zz := hHeld.out.size
            have k5 : Below u10.heap.size u10 ((v6).setCell ⟨(v1).heap.size, 0, none⟩ (.slice N sn.length nc)) := hHeld.out.setCell (p := ⟨(v1).heap.size, 0, none⟩) (by show _ ≤ (v1).heap.size; exact l4) _
            have BX : Bx ((v6).setCell ⟨(v1).heap.size, 0, none⟩ (.slice N sn.length nc)) (v1).heap.size u10.heap.size ((v6).setCell ⟨(v1).heap.size, 0, none⟩ (.slice N sn.length nc)).heap.size N nc sn := Bx.put on hgz (fun q hq => by
                rw [World.size_setCell]
                rcases hq with rfl | hq
                · exact ⟨l4, ltz⟩
                · have := hon q hq; refine ⟨this.1, this.2⟩)
            refine held_store 9 rfl rfl (by kernel_rfl) rfl (exec_storeWh _ N sn.length nc _ _ cz fz) (Lib.hid k5) ?_
            have hHeld := Lib.hid k5
            refine held_op 10 15 (.bool r.2) rfl rfl (by kernel_rfl) rfl rfl hHeld ?_
            simp only [Act.put, List.setIfInBounds_toArray, List.set_cons_zero, List.set_cons_succ]
            refine wpAnyH_done (by kernel_rfl) ?_ _
            have HX := Lib.hid BX
            have HMN := Lib.hid hmn
            clear BX k5 on hmn cz fz hgz hon ltz zz
            go_wp2_with fail
            go_meet
            exact ⟨_, N, nc, sn, rfl, rfl, HMN, HX, hHeld⟩
        · skip
          have k4 := hHeld.out.alloc hHeld.out.size (.cells #[.slice none 0 0] 26)
          have hgz := heap_new (u10.drew) (.cells #[.slice none 0 0] 26)
          have l4 := hHeld.out.size
          have hHeld := Lib.hid k4
          simp only [Act.put, List.setIfInBounds_toArray, List.set_cons_zero, List.set_cons_succ]
          refine held_call 1 81 36 #[.agg #[.slice A sp.length c]] rfl rfl (by kernel_rfl) rfl (exec_call Try.func36 (by kernel_rfl) (by kernel_rfl) _) ?_
          refine (CT.out _ (bW.trans (hHeld.out.mono bW.size))).mono ?_
          rintro e v7 ⟨X, xc, sx, rfl, hmx, oX, -, y7⟩
          have hgz := blk_call hgz y7
          have hHeld : Hid (Below u10.heap.size u10 v7) := hHeld.out.trans (y7.mono hHeld.out.size)
          have zy7 := y7.size
          refine ⟨_, rfl, hHeld, ?_⟩
          simp only [Act.put, List.setIfInBounds_toArray, List.set_cons_zero, List.set_cons_succ]
          refine held_call 3 83 38 #[pnA p] rfl rfl (by kernel_rfl) rfl (exec_call Try.func38 (by kernel_rfl) (by kernel_rfl) _) ?_
          refine (toPin_any p _).mono ?_
          rintro e v8 ⟨rfl, y8⟩
          have oX := oX.below y8
          have hgz := blk_call hgz y8
          have hHeld : Hid (Below u10.heap.size u10 v8) := hHeld.out.trans (y8.mono hHeld.out.size)
          have zy8 := y8.size
          refine ⟨_, rfl, hHeld, ?_⟩
          simp only [Act.put, List.setIfInBounds_toArray, List.set_cons_zero, List.set_cons_succ]
          refine held_call 4 84 21 #[.agg #[.slice X sx.length xc], pnA p] rfl rfl (by kernel_rfl) rfl (exec_call Try.func21 (by kernel_rfl) (by kernel_rfl) _) ?_
          refine (C2.out X sx xc _ hmx oX.whl).mono ?_
          rintro e v9 ⟨N, nc, sn, rfl, hmn0, on, apn, y9⟩
          have on := on.weak (B' := u10.heap.size) hHeld.out.size
          have hmn := And.intro hmn0 apn
          have oX := oX.below y9
          have hgz := blk_call hgz y9
          have hHeld : Hid (Below u10.heap.size u10 v9) := hHeld.out.trans (y9.mono hHeld.out.size)
          have zy9 := y9.size
          refine ⟨_, rfl, hHeld, ?_⟩
          simp only [Act.put, List.setIfInBounds_toArray, List.set_cons_zero, List.set_cons_succ]
          refine held_take 5 79 (.tuple #[.agg #[.slice N sn.length nc], .bool r.2]) rfl rfl (by kernel_rfl) (by kernel_rfl) (by kernel_rfl) (fun _ _ _ h => h) rfl hHeld (fun w _ => rfl) ?_
          simp only [Act.put, List.setIfInBounds_toArray, List.set_cons_zero, List.set_cons_succ]
          refine held_take 6 85 (.agg #[.slice N sn.length nc]) rfl rfl (by kernel_rfl) (by kernel_rfl) (by kernel_rfl) (fun _ _ _ h => h) rfl hHeld (fun w _ => rfl) ?_
          refine held_take 7 86 (.bool r.2) rfl rfl (by kernel_rfl) (by kernel_rfl) (by kernel_rfl) (fun _ _ _ h => h) rfl hHeld (fun w _ => rfl) ?_
          simp only [Act.put, List.setIfInBounds_toArray, List.set_cons_zero, List.set_cons_succ]
          have cz := cell_of_one hgz
          have fz := free_of_one hgz
          have hon := fun q hq => on.lo q hq
          have ltz := blk_lt hgz
          have zz := hHeld.out.size
          have k5 : Below u10.heap.size u10 ((v9).setCell ⟨(u10.drew).heap.size, 0, none⟩ (.slice N sn.length nc)) := hHeld.out.setCell (p := ⟨(u10.drew).heap.size, 0, none⟩) (by show _ ≤ (u10.drew).heap.size; exact l4) _
          have BX : Bx ((v9).setCell ⟨(u10.drew).heap.size, 0, none⟩ (.slice N sn.length nc)) (u10.drew).heap.size u10.heap.size ((v9).setCell ⟨(u10.drew).heap.size, 0, none⟩ (.slice N sn.length nc)).heap.size N nc sn := Bx.put on hgz (fun q hq => by
              rw [World.size_setCell]
              rcases hq with rfl | hq
              · exact ⟨l4, ltz⟩
              · have := hon q hq; refine ⟨this.1, this.2⟩)
          refine held_store 9 rfl rfl (by kernel_rfl) rfl (exec_storeWh _ N sn.length nc _ _ cz fz) (Lib.hid k5) ?_
          have hHeld := Lib.hid k5
          refine held_op 10 15 (.bool r.2) rfl rfl (by kernel_rfl) rfl rfl hHeld ?_
          simp only [Act.put, List.setIfInBounds_toArray, List.set_cons_zero, List.set_cons_succ]
          refine wpAnyH_done (by kernel_rfl) ?_ _
          have HX := Lib.hid BX
          have HMN := Lib.hid hmn
          clear BX k5 on hmn cz fz hgz hon ltz zz
          go_wp2_with fail
          go_meet
          exact ⟨_, N, nc, sn, rfl, rfl, HMN, HX, hHeld⟩
      case rest =>
        obtain ⟨gh, H, hc, sh, rfl, rfl, hmh, hB14, xr⟩ := hcut
        obtain ⟨u11, hu⟩ : ∃ u : World, u = wc := ⟨_, rfl⟩
        subst hu
        have B14 := hB14.out
        try simp only [World.size_alloc] at B14
        have xr := xr.out
        clear hB14 KA KP
        have HA := blk_call HA xr
        have HP := blk_call HP xr
        have B6 := B6.call xr
        have B9 := B9.call xr
        have bW := bW.trans (xr.mono bW.size)
        have Z12 := xr.size
        try simp only [World.size_alloc] at Z12
        clear xr
        obtain ⟨hmh, apH⟩ := hmh.out
        have q0 := cell_of_one HA
        obtain ⟨q1, q1b⟩ := Pn.here.blk HP
        have r0 := B6.cell
        have r1 := B9.cell
        rw [marksW_length] at r1
        have r2 := B14.cell
        go_wp2_with fail
        refine (CG.out H Q sh sq hc qc _ hmh hmq B14.O.whl B6.O.whl).mono ?_
        rintro e u12 ⟨rfl, x12⟩
        clear q0 q1 q1b r0 r1 r2
        have HA := blk_call HA x12
        have HP := blk_call HP x12
        have B6 := B6.call x12
        have B9 := B9.call x12
        have B14 := B14.call x12
        have bW := bW.trans (x12.mono bW.size)
        have Z13 := x12.size
        try simp only [World.size_alloc] at Z13
        clear x12
        have q0 := cell_of_one HA
        obtain ⟨q1, q1b⟩ := Pn.here.blk HP
        have r0 := B6.cell
        have r1 := B9.cell
        rw [marksW_length] at r1
        have r2 := B14.cell
        go_wp2_with fail
        refine (CH.out _ B9.O.whl).mono ?_
        rintro e u13 ⟨rfl, x13⟩
        clear q0 q1 q1b r0 r1 r2
        have HA := blk_call HA x13
        have HP := blk_call HP x13
        have B6 := B6.call x13
        have B9 := B9.call x13
        have B14 := B14.call x13
        have bW := bW.trans (x13.mono bW.size)
        have Z14 := x13.size
        try simp only [World.size_alloc] at Z14
        clear x13
        have q0 := cell_of_one HA
        obtain ⟨q1, q1b⟩ := Pn.here.blk HP
        have r0 := B6.cell
        have r1 := B9.cell
        rw [marksW_length] at r1
        have r2 := B14.cell
        have HB := Lib.hid bW
        go_wp2
        go_ret
        exact ⟨rfl, HB.out⟩
end Go.Proofs.Ytflomkebgiemaaa
