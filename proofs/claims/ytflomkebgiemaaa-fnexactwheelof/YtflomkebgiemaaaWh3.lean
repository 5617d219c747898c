/- WheelOf of the model. -/
import Derived.Test.YtflomkebgiemaaaRows
import Derived.Test.YtflomkebgiemaaaWh2
import Derived.Deep.DeepCutAuto
namespace Go.Proofs.Ytflomkebgiemaaa
open Go.RowKit
set_option linter.unusedSimpArgs false
set_option linter.unusedVariables false
noncomputable def wheelGo : List Pn → List (List Pn) → List (List Pn) × Bool
  | [], ls => (ls, true)
  | p :: r, ls => if (wheelPutV ls p).2 = true then wheelGo r (wheelPutV ls p).1 else ([], false)
/-- What WheelOf returns. -/
noncomputable def wheelOfV (l : List Pn) : List (List Pn) × Bool := wheelGo l nineW
theorem wheelGo_drop (l : List Pn) (k : Nat) (ls : List (List Pn)) (h : k < l.length) : wheelGo (l.drop k) ls = if (wheelPutV ls (l.getD k pn0)).2 = true then wheelGo (l.drop (k + 1)) (wheelPutV ls (l.getD k pn0)).1 else ([], false) := by
  rw [drop_getD l k pn0 h]; rfl
theorem wheelPutV_ok {ls : List (List Pn)} {p : Pn} (h : (wheelPutV ls p).2 = true) : wheelB (wheelPutV ls p).1 = true := by
  unfold wheelPutV at h ⊢
  split
  · split
    · assumption
    · rename_i h1 h2; rw [if_pos h1, if_neg h2] at h; cases h
  · rename_i h1; rw [if_neg h1] at h; cases h
set_option maxRecDepth 100000 in
theorem exec_allocWh {ρ : Operand → Value} {o : Oper} (w : World) (ho : o.op = .alloc 26 := by rfl) :
    (execOp ρ o).run Try.prog w = .ok (.value (.pointer (some ⟨w.heap.size, 0, none⟩))) (w.alloc (.cells #[.slice none 0 0] 26)) := by
  unfold execOp
  rw [ho]
  simp [go_sem]
set_option maxRecDepth 100000 in
theorem exec_storeWh {ρ : Operand → Value} {o : Oper} {x y : Operand} (b : Nat) (B : Option Addr) (n c : Nat) (u : Value) (w : World) (h : w.cell? ⟨b, 0, none⟩ = some u) (hz : w.frozen? ⟨b, 0, none⟩ = false) (ho : o.op = .store 26 x y := by rfl) (hx : ρ x = .pointer (some ⟨b, 0, none⟩) := by rfl) (hy : ρ y = .agg #[.slice B n c] := by rfl) :
    (execOp ρ o).run Try.prog w = .ok .skip (w.setCell ⟨b, 0, none⟩ (.slice B n c)) := by
  unfold execOp
  rw [ho]
  simp [go_sem, hx, hy, h, hz]
/-- What stands in a round of WheelOf. -/
structure WO (w u : World) (g : Nat) (Q : Option Addr) (qc : Nat) (sq : List Sp) : Prop where
  O : OwnW u (w.heap.size + 1) Q qc sq
  H : u.heap[g]? = some (.cells #[.slice Q sq.length qc] 26)
  Z : u.heap[w.heap.size]? = some (.cells #[.slice none 0 0] 26)
  B : Below w.heap.size w u
  g1 : w.heap.size < g
theorem WO.call {w u u' : World} {g : Nat} {Q : Option Addr} {qc : Nat} {sq : List Sp} (h : WO w u g Q qc sq) (b : Below u.heap.size u u') : WO w u' g Q qc sq :=
  ⟨h.O.below b, blk_call h.H b, blk_call h.Z b, h.B.trans (b.mono h.B.size), h.g1⟩
theorem WO.alloc {w u : World} {g : Nat} {Q : Option Addr} {qc : Nat} {sq : List Sp} (h : WO w u g Q qc sq) (o : Obj) : WO w (u.alloc o) g Q qc sq := h.call ((Below.refl _ _).alloc (Nat.le_refl _) _)
/-- The new wheel's block. -/
structure WN (w u : World) (g' : Nat) (N : Option Addr) (nc : Nat) (sn : List Sp) : Prop where
  O : OwnW u (w.heap.size + 1) N nc sn
  H : u.heap[g']? = some (.cells #[.slice N sn.length nc] 26)
theorem WO.store {w u : World} {g g' : Nat} {Q N : Option Addr} {qc nc : Nat} {sq sn : List Sp} {z : Value} (h : WO w u g Q qc sq) (hN : OwnW u (w.heap.size + 1) N nc sn) (hg : u.heap[g']? = some (.cells #[z] 26)) (hne : g ≠ g') (hz : w.heap.size < g') :
    WO w (u.setCell ⟨g', 0, none⟩ (.slice N sn.length nc)) g Q qc sq ∧ WN w (u.setCell ⟨g', 0, none⟩ (.slice N sn.length nc)) g' N nc sn := by
  refine ⟨⟨h.O.put hg (by decide) (by decide) 0 _, (heap_set_ne u g' _ _ hne).trans h.H, (heap_set_ne u g' _ _ (by omega)).trans h.Z, h.B.setCell (p := ⟨g', 0, none⟩) (by show _ ≤ g'; omega) _, h.g1⟩, ⟨hN.put hg (by decide) (by decide) 0 _, ?_⟩⟩
  have := heap_setCell_same u g' 0 #[z] 26 (.slice N sn.length nc) hg
  simpa using this
set_option maxRecDepth 100000 in
set_option maxHeartbeats 3200000 in
theorem wheelOf_spec (A : Option Addr) (l : List Pn) (c : Nat) (w : World) (hn : l.length ≤ 2097152) (hA : Rws w w.heap.size A (l.flatMap pnC)) :
    Calls Try.prog 28 #[.slice A l.length c] w (NewWB w (wheelOfV l)) := by
  have b0 : Below w.heap.size w (w.alloc (.cells #[.slice none 0 0] 26)) := (Below.refl _ _).alloc (Nat.le_refl _) _
  have C0 := Lib.hid (wheelNew_spec (w.alloc (.cells #[.slice none 0 0] 26)))
  obtain ⟨V, eV⟩ : ∃ V, wheelOfV l = V := ⟨_, rfl⟩
  rw [eV]
  unfold wheelOfV at eV
  have HV := Lib.hid eV
  have HB0 := Lib.hid b0
  clear eV b0
  go_enter Try.func28, Try.ntmps28
  go_wp2_with fail
  refine C0.out.mono ?_
  rintro e u1 ⟨P, pc, sp, rfl, hm, hO, x1⟩
  simp only [World.size_alloc] at hO x1
  have hz1 := x1.size
  simp only [World.size_alloc] at hz1
  have T0 : Hid (WO w (u1.alloc (.cells #[.slice P sp.length pc] 26)) u1.heap.size P pc sp) := by
    have ba : Below u1.heap.size u1 (u1.alloc (.cells #[.slice P sp.length pc] 26)) := (Below.refl _ _).alloc (Nat.le_refl _) _
    exact ⟨hO.alloc _, heap_new _ _, blk_alloc (blk_call (heap_new _ _) (by simpa using x1)) _, HB0.out.trans ((x1.mono (by simp)).trans (ba.mono (by omega))), by omega⟩
  have S0 : Hid (sp.length = 9 ∧ allPn sp = []) := by
    refine ⟨by have := congrArg List.length hm; simpa [nineW] using this, ?_⟩
    rw [← ls_flat]
    have : (sp.map fun s => s.l) = nineW := hm
    rw [this]; simp [nineW]
  have HM := Lib.hid hm
  clear C0 hO x1 hm HB0
  go_wp2
  go_loopw [5] (fun i wr => ∃ (k : Nat) (Q : Option Addr) (qc : Nat) (sq : List Sp), k ≤ l.length ∧ i = .int .i64 k ∧ Hid (wheelGo (l.drop k) (sq.map (fun s => s.l)) = V) ∧ Hid (sq.length = 9 ∧ (allPn sq).length ≤ 10) ∧ Hid (WO w wr u1.heap.size Q qc sq)) (fun i _ => l.length - (intOf i).toNat)
  case atStart => exact ⟨0, P, pc, sp, by omega, rfl, (by show _ = _; rw [List.drop_zero]; have := HV.out; rw [← HM.out] at this; exact this), ⟨S0.out.1, by rw [S0.out.2]; simp⟩, T0⟩
  case round =>
    clear T0 S0 HM
    obtain ⟨k, Q, qc, sq, hk, rfl, hgo, h9, hT⟩ := hrel
    have q4 := cell_of_row _ _ 0 _ _ _ hT.out.H
    have f4 := free_of_one hT.out.H
    have q2 := cell_of_row _ _ 0 _ _ _ hT.out.Z
    have f2 := free_of_one hT.out.Z
    simp at q4 q2
    have hg1 := hT.out.g1
    have ltg := blk_lt hT.out.H
    by_cases hlt : k < l.length
    rotate_left
    · obtain rfl : k = l.length := by omega
      have eV : V = (sq.map (fun s => s.l), true) := by rw [← hgo.out, List.drop_length]; rfl
      have R : Hid (NewWB w V (.returned (.tuple #[.agg #[.slice Q sq.length qc], .bool true])) (wr.setCell ⟨w.heap.size, 0, none⟩ (.slice Q sq.length qc))) := by
        refine ⟨Q, qc, sq, by rw [eV], by rw [eV], (hT.out.O.put hT.out.Z (by decide) (by decide) 0 _).weak (by omega), hT.out.B.setCell (p := ⟨w.heap.size, 0, none⟩) (by show _ ≤ w.heap.size; omega) _⟩
      clear hT eV hgo
      go_wp2
      simp [bodyPost, results, Try.results28, go_sem, q2]
      exact R.out
    obtain ⟨b, off, rfl, hbB, hc⟩ := (rws_below hA hT.out.B).pn hlt
    have HG := Lib.hid (wheelGo_drop l k (sq.map (fun s => s.l)) hlt)
    generalize l.getD k pn0 = x at *
    have KX := Lib.hid (fun w' (h : Below wr.heap.size wr w') => Pn.here.below hc h hbB)
    have K4 := Lib.hid (fun w' (h : Below wr.heap.size wr w') => (h.cell (by exact ltg)).trans q4)
    have CW := Lib.hid (fun w' (h : Below wr.heap.size wr w') => wheelPut_spec Q sq qc x w' (by have := h9.out.1; omega) (by have := h9.out.2; omega) ((hT.out.call h).O.whl))
    obtain ⟨R, eR⟩ : ∃ R, wheelPutV (sq.map (fun s => s.l)) x = R := ⟨_, rfl⟩
    rw [eR] at CW HG
    have HOK : Hid (R.2 = true → R.1.flatten.length ≤ 10 ∧ R.1.length = 9) := fun h => by
      have h2 := wheelB_iff (wheelPutV_ok (ls := sq.map (fun s => s.l)) (p := x) (by rw [eR]; exact h))
      rw [eR] at h2
      exact ⟨h2.2.1, h2.1⟩
    have hgo : Hid (V = if R.2 = true then wheelGo (l.drop (k + 1)) R.1 else ([], false)) := by show _ = _; rw [← HG.out]; exact hgo.out.symm
    clear hc HG eR
    go_wp2_with fail
    go_cut [6, 7] from 9 to 27 (fun s6 s7 wx => ∃ (g' : Nat) (N : Option Addr) (nc : Nat) (sn : List Sp), s6 = .pointer (some ⟨g', 0, none⟩) ∧ s7 = .bool R.2 ∧ Hid (sn.map (fun s => s.l) = R.1) ∧ u1.heap.size ≠ g' ∧ Hid (WO w wx u1.heap.size Q qc sq ∧ WN w wx g' N nc sn))
    case first =>
      refine wp_region_held_drew (S := fun w' => Hid (Below wr.heap.size wr w')) (by kernel_rfl) (below_drawn (Below.refl _ _) 1) (fun hHeld => ?_)
      refine held_take 0 16 (.agg #[.slice Q sq.length qc]) rfl rfl (by kernel_rfl) (by kernel_rfl) (by kernel_rfl) (fun _ _ _ h => h) rfl hHeld (fun w h => exec_loadWh _ _ _ _ w (K4.out w h.out)) ?_
      refine held_take 1 17 (.slice (some ⟨b, off, none⟩) l.length c) rfl rfl (by kernel_rfl) (by kernel_rfl) (by kernel_rfl) (fun _ _ _ h => h) rfl hHeld (fun w _ => rfl) ?_
      simp only [Act.put, List.setIfInBounds_toArray, List.set_cons_zero, List.set_cons_succ]
      refine held_take 2 18 (.int .i64 (k : Int)) rfl rfl (by kernel_rfl) (by kernel_rfl) (by kernel_rfl) (fun _ _ _ h => h) rfl hHeld (fun w _ => rfl) ?_
      refine held_take 3 19 (.pointer (some ⟨b, off + k * 2, none⟩)) rfl rfl (by kernel_rfl) (by kernel_rfl) (by kernel_rfl) (fun _ _ _ h => h) rfl hHeld (fun w _ => exec_idx_pn b off l.length c k w hlt) ?_
      simp only [Act.put, List.setIfInBounds_toArray, List.set_cons_zero, List.set_cons_succ]
      refine held_take 4 20 (pnA x) rfl rfl (by kernel_rfl) (by kernel_rfl) (by kernel_rfl) (fun _ _ _ h => h) rfl hHeld (fun w h => exec_load_pn b (off + k * 2) x w (KX.out w h.out)) ?_
      simp only [Act.put, List.setIfInBounds_toArray, List.set_cons_zero, List.set_cons_succ]
      refine wpAnyH_ready (rs := [5, 9]) (by kernel_rfl) (by simp) (ready_call 5 21 20 #[.agg #[.slice Q sq.length qc], pnA x] rfl rfl rfl (exec_call Try.func20 (by kernel_rfl) (by kernel_rfl) _) ?_ (ready_op 9 6 (.pointer (some ⟨wr.drew.heap.size, 0, none⟩)) rfl rfl rfl (exec_allocWh _) (Lib.hid (hHeld.out.alloc hHeld.out.size _)) ?_ AllReadyH.nil))
      · refine (CW.out _ hHeld.out).mono ?_
        rintro e u3 ⟨N, nc, sn, rfl, hmn, on, x3⟩
        have T3 := (hT.out.call hHeld.out).call x3
        have hsz := hHeld.out.size
        have hs3 := x3.size
        have hHeld : Hid (Below wr.heap.size wr u3) := hHeld.out.trans (x3.mono hHeld.out.size)
        refine ⟨_, rfl, hHeld, ?_⟩
        simp only [Act.put, List.setIfInBounds_toArray, List.set_cons_zero, List.set_cons_succ]
        refine held_take 6 15 (.tuple #[.agg #[.slice N sn.length nc], .bool R.2]) rfl rfl (by kernel_rfl) (by kernel_rfl) (by kernel_rfl) (fun _ _ _ h => h) rfl hHeld (fun w _ => rfl) ?_
        simp only [Act.put, List.setIfInBounds_toArray, List.set_cons_zero, List.set_cons_succ]
        refine held_take 7 22 (.agg #[.slice N sn.length nc]) rfl rfl (by kernel_rfl) (by kernel_rfl) (by kernel_rfl) (fun _ _ _ h => h) rfl hHeld (fun w _ => rfl) ?_
        refine held_take 8 23 (.bool R.2) rfl rfl (by kernel_rfl) (by kernel_rfl) (by kernel_rfl) (fun _ _ _ h => h) rfl hHeld (fun w _ => rfl) ?_
        simp only [Act.put, List.setIfInBounds_toArray, List.set_cons_zero, List.set_cons_succ]
        have k4 := hHeld.out.alloc hHeld.out.size (.cells #[.slice none 0 0] 26)
        refine held_op 9 6 (.pointer (some ⟨u3.heap.size, 0, none⟩)) rfl rfl (by kernel_rfl) rfl (exec_allocWh _) (Lib.hid k4) ?_
        simp only [Act.put, List.setIfInBounds_toArray, List.set_cons_zero, List.set_cons_succ]
        have on := (on.weak (B' := w.heap.size + 1) (by omega)).alloc (.cells #[.slice none 0 0] 26)
        have T4 := T3.alloc (.cells #[.slice none 0 0] 26)
        have hgz := heap_new u3 (.cells #[.slice none 0 0] 26)
        have hgz : (u3.alloc (.cells #[.slice none 0 0] 26)).heap[u3.heap.size]? = some (.cells #[.slice none 0 0] 26) := hgz
        have cz := cell_of_one hgz
        have fz := free_of_one hgz
        obtain ⟨T5, N5⟩ := WO.store T4 on hgz (by omega) (by omega)
        have k5 : Below wr.heap.size wr ((u3.alloc (.cells #[.slice none 0 0] 26)).setCell ⟨u3.heap.size, 0, none⟩ (.slice N sn.length nc)) := k4.setCell (p := ⟨u3.heap.size, 0, none⟩) (by show _ ≤ u3.heap.size; omega) _
        refine held_store 10 rfl rfl (by kernel_rfl) rfl (exec_storeWh u3.heap.size N sn.length nc _ _ cz fz) (Lib.hid k5) ?_
        have hHeld := Lib.hid k5
        refine held_op 11 7 (.bool R.2) rfl rfl (by kernel_rfl) rfl rfl hHeld ?_
        simp only [Act.put, List.setIfInBounds_toArray, List.set_cons_zero, List.set_cons_succ]
        refine wpAnyH_done (by kernel_rfl) ?_ _
        have HX := Lib.hid (And.intro T5 N5)
        have HMN := Lib.hid hmn
        have hne : u1.heap.size ≠ u3.heap.size := by omega
        clear T5 N5 k5 k4 hHeld on hmn cz fz hgz
        go_wp2_with fail
        go_meet
        exact ⟨u3.heap.size, N, nc, sn, rfl, rfl, HMN, hne, HX⟩
      · have k4 := hHeld.out.alloc hHeld.out.size (.cells #[.slice none 0 0] 26)
        have hsz := hHeld.out.size
        have hHeld := Lib.hid k4
        simp only [Act.put, List.setIfInBounds_toArray, List.set_cons_zero, List.set_cons_succ]
        refine held_call 5 21 20 #[.agg #[.slice Q sq.length qc], pnA x] rfl rfl (by kernel_rfl) rfl (exec_call Try.func20 (by kernel_rfl) (by kernel_rfl) _) ?_
        refine (CW.out _ k4).mono ?_
        rintro e u3 ⟨N, nc, sn, rfl, hmn, on, x3⟩
        have T4 := (hT.out.call k4).call x3
        have hs3 := x3.size
        simp only [World.size_alloc] at hs3
        have hgz := blk_call (heap_new wr.drew (.cells #[.slice none 0 0] 26)) x3
        have k4 : Below wr.heap.size wr u3 := k4.trans (x3.mono k4.size)
        have hHeld := Lib.hid k4
        refine ⟨_, rfl, hHeld, ?_⟩
        simp only [Act.put, List.setIfInBounds_toArray, List.set_cons_zero, List.set_cons_succ]
        refine held_take 6 15 (.tuple #[.agg #[.slice N sn.length nc], .bool R.2]) rfl rfl (by kernel_rfl) (by kernel_rfl) (by kernel_rfl) (fun _ _ _ h => h) rfl hHeld (fun w _ => rfl) ?_
        simp only [Act.put, List.setIfInBounds_toArray, List.set_cons_zero, List.set_cons_succ]
        refine held_take 7 22 (.agg #[.slice N sn.length nc]) rfl rfl (by kernel_rfl) (by kernel_rfl) (by kernel_rfl) (fun _ _ _ h => h) rfl hHeld (fun w _ => rfl) ?_
        refine held_take 8 23 (.bool R.2) rfl rfl (by kernel_rfl) (by kernel_rfl) (by kernel_rfl) (fun _ _ _ h => h) rfl hHeld (fun w _ => rfl) ?_
        simp only [Act.put, List.setIfInBounds_toArray, List.set_cons_zero, List.set_cons_succ]
        have on := on.weak (B' := w.heap.size + 1) (by simp; omega)
        have hgz : (u3).heap[wr.drew.heap.size]? = some (.cells #[.slice none 0 0] 26) := hgz
        have cz := cell_of_one hgz
        have fz := free_of_one hgz
        obtain ⟨T5, N5⟩ := WO.store T4 on hgz (by omega) (by omega)
        have k5 : Below wr.heap.size wr ((u3).setCell ⟨wr.drew.heap.size, 0, none⟩ (.slice N sn.length nc)) := k4.setCell (p := ⟨wr.drew.heap.size, 0, none⟩) (by show _ ≤ wr.drew.heap.size; omega) _
        refine held_store 10 rfl rfl (by kernel_rfl) rfl (exec_storeWh wr.drew.heap.size N sn.length nc _ _ cz fz) (Lib.hid k5) ?_
        have hHeld := Lib.hid k5
        refine held_op 11 7 (.bool R.2) rfl rfl (by kernel_rfl) rfl rfl hHeld ?_
        simp only [Act.put, List.setIfInBounds_toArray, List.set_cons_zero, List.set_cons_succ]
        refine wpAnyH_done (by kernel_rfl) ?_ _
        have HX := Lib.hid (And.intro T5 N5)
        have HMN := Lib.hid hmn
        have hne : u1.heap.size ≠ wr.drew.heap.size := by omega
        clear T5 N5 k5 k4 hHeld on hmn cz fz hgz
        go_wp2_with fail
        go_meet
        exact ⟨wr.drew.heap.size, N, nc, sn, rfl, rfl, HMN, hne, HX⟩
    case rest =>
      obtain ⟨g', N, nc, sn, rfl, rfl, hmn, hne, hX⟩ := hcut
      clear hT KX K4 CW q4 q2 f4 f2
      have q4 := cell_of_row _ _ 0 _ _ _ hX.out.1.H
      have f4 := free_of_one hX.out.1.H
      have q2 := cell_of_row _ _ 0 _ _ _ hX.out.1.Z
      have f2 := free_of_one hX.out.1.Z
      have q6 := cell_of_row _ _ 0 _ _ _ hX.out.2.H
      simp at q4 q2 q6
      obtain ⟨R1, R2⟩ := R
      cases R2 with
      | false =>
        have eV : V = ([], false) := hgo.out
        have RR : Hid (NewWB w V (.returned (.tuple #[.agg #[.slice none 0 0], .bool false])) (wc.setCell ⟨w.heap.size, 0, none⟩ (.slice none 0 0))) := by
          refine ⟨none, 0, [], by rw [eV]; rfl, by rw [eV]; rfl, ⟨World.ownsRow_nil _ _ _ _, fun s hs => by cases hs⟩, hX.out.1.B.setCell (p := ⟨w.heap.size, 0, none⟩) (by show _ ≤ w.heap.size; omega) _⟩
        clear hX hgo eV hmn
        go_wp2
        simp [bodyPost, results, Try.results28, go_sem, q2]
        exact RR.out
      | true =>
        have eV : Hid (wheelGo (l.drop (k + 1)) (sn.map (fun s => s.l)) = V) := by show _ = _; rw [hmn.out]; exact hgo.out.symm
        have H9 : Hid (sn.length = 9 ∧ (allPn sn).length ≤ 10) := by
          have h1 := HOK.out rfl
          have h2 := hmn.out
          refine ⟨by have := congrArg List.length h2; simp at this; have h3 := h1.2; simp only at h3; omega, ?_⟩
          rw [← ls_flat, h2]; exact h1.1
        have T9 : Hid (WO w (wc.setCell ⟨u1.heap.size, 0, none⟩ (.slice N sn.length nc)) u1.heap.size N nc sn) := by
          have hH := hX.out.1.H
          have := heap_setCell_same wc u1.heap.size 0 _ _ (.slice N sn.length nc) hH
          refine ⟨hX.out.2.O.put hH (by decide) (by decide) 0 _, by simpa using this, (heap_set_ne wc u1.heap.size _ _ (by omega)).trans hX.out.1.Z, hX.out.1.B.setCell (p := ⟨u1.heap.size, 0, none⟩) (by show _ ≤ u1.heap.size; omega) _, hg1⟩
        clear hX hgo hmn HOK
        go_wp2
        go_roundw
        case rel => exact ⟨k + 1, N, nc, sn, by omega, by go_num, eV, H9, T9⟩
        case measure => simp [intOf]; omega
end Go.Proofs.Ytflomkebgiemaaa
