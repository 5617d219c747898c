/- l7Copy, l7Put of the model. -/
import Derived.Test.YtlflgflmlfileaaGreatRows
import Derived.Test.YtlflgflmlfileaaGreatRowX
import Derived.Test.YtlflgflmlfileaaGreatHs6
namespace Go.Proofs.YtlflgflmlfileaaGreat
open Go.RowKit
set_option linter.unusedSimpArgs false
set_option linter.unusedVariables false
set_option maxRecDepth 100000 in
set_option maxHeartbeats 800000 in
theorem l7Copy_spec (A : Option Addr) (l : List En) (c : Nat) (w : World) (hl : l.length ≤ 2097152) (hc : l.length ≤ c) (hn : A = none → c = 0) (hA : Rws w w.heap.size A (l.flatMap enC)) :
    Calls Tryz.prog 94 #[.slice A l.length c] w (NewR 100 4 w l.length (l.flatMap enC)) := by
  have O1 := own_empty w w.heap.size 100 4 (Nat.le_refl _)
  have x1 : Below w.heap.size w (w.alloc (.cells #[] 100)) := (Below.refl _ _).alloc (Nat.le_refl _) _
  have R1 := rws_below hA x1
  go_enter Tryz.func94, Tryz.ntmps94
  go_wp2_with (at_builtin; refine wpList_appR rowEnt _ rfl (.tmp 3) (.tmp 4) rfl w.heap.size _ 0 [] rfl O1 _ A l.length c (l.flatMap enC) rfl (flat_len enC 4 enC_len l) R1 hn (enC_one _) (by omega) (by simp) ?_)
  intro v2 w2 o2 g2
  have b2 := x1.grown g2 (by simp) (own_low O1)
  have o2' : w2.ownsRow w.heap.size 100 4 v2 l.length (l.flatMap enC) := by simpa using o2
  have HN := Lib.hid (NewR.of_own o2' b2)
  clear o2 o2' g2 b2 O1 x1 R1
  go_wp2
  go_ret
  exact HN.out
set_option maxRecDepth 100000 in
theorem exec_one_en {ρ : Operand → Value} {o : Oper} {y : Operand} (x : En) (w : World) (ho : o.op = .buildSlice 54 1 #[(0, y)] := by rfl) (hy : ρ y = enA x := by rfl) :
    (execOp ρ o).run Tryz.prog w = .ok (.value (.slice (some ⟨w.heap.size, 0, none⟩) 1 1)) (w.alloc (.cells (enC x).toArray 100)) := by
  unfold execOp
  rw [ho]
  simp [go_sem, hy, enA, enC]
/-- What l7Put returns. -/
def enPut (l : List En) (x : En) : List En := insP (fun y => decide (En.less y x)) l x
theorem enPut_len (l : List En) (x : En) : (enPut l x).length = l.length + 1 := insP_len _ _ _
set_option maxRecDepth 100000 in
set_option maxHeartbeats 3200000 in
theorem l7Put_spec (A : Option Addr) (l : List En) (c : Nat) (x : En) (w : World) (hl : l.length ≤ 2097152) (hc : l.length ≤ c) (hn : A = none → c = 0) (hA : Rws w w.heap.size A (l.flatMap enC)) :
    Calls Tryz.prog 75 #[.slice A l.length c, enA x] w (NewR 100 4 w (enPut l x).length ((enPut l x).flatMap enC)) := by
  obtain ⟨W, hW⟩ : ∃ W, w.alloc (.cells #[.int .i64 x.lev, .int .i64 x.turn, .int .i64 x.id, .int .i64 x.size] 100) = W := ⟨_, rfl⟩
  have bW : Hid (Below w.heap.size w W) := by show Below _ _ _; rw [← hW]; exact (Below.refl _ _).alloc (Nat.le_refl _) _
  have HX : Hid (W.heap[w.heap.size]? = some (.cells #[.int .i64 x.lev, .int .i64 x.turn, .int .i64 x.id, .int .i64 x.size] 100)) := by show _ = _; rw [← hW]; exact heap_new _ _
  have eA : enA x = .agg #[.int .i64 x.lev, .int .i64 x.turn, .int .i64 x.id, .int .i64 x.size] := rfl
  unfold enA
  go_enter Tryz.func75, Tryz.ntmps75
  go_wp2_with fail
  clear hW
  go_loopw [5] (fun i wr => ∃ k : Nat, k ≤ l.length ∧ i = .int .i64 k ∧ (∀ j, j < k → decide (En.less (l.getD j en0) x) = true) ∧ Below W.heap.size W wr) (fun i _ => l.length - (intOf i).toNat)
  case atStart => exact ⟨0, by omega, rfl, (fun j hj => by omega), Below.refl _ _⟩
  case round =>
    obtain ⟨k, hk, rfl, hall, hb⟩ := hrel
    by_cases hlt : k < l.length
    · have rA := rws_below (rws_below hA bW.out) hb
      obtain ⟨b, off, rfl, hbB, hy⟩ := rA.en hlt
      have KX := Lib.hid (fun w' (h : Below wr.heap.size wr w') => En.here.blk (blk_call (blk_call HX.out hb) h))
      by_cases hp : En.less (l.getD k en0) x
      · have hall' : ∀ j, j < k + 1 → decide (En.less (l.getD j en0) x) = true := by
          intro j hj
          by_cases e : j = k
          · subst e; exact decide_eq_true hp
          · exact hall j (by omega)
        have HA := Lib.hid hall'
        have HP : Hid (decide (En.less (l.getD k en0) x) = true) := decide_eq_true hp
        clear hall hall' hp
        generalize l.getD k en0 = y at *
        have KY := Lib.hid (fun w' (h : Below wr.heap.size wr w') => En.here.below hy h hbB)
        clear hy
        go_wp2_with fail
        have CL := Lib.hid (fun w => entryLess_spec y x w)
        rw [HP.out] at CL
        refine wp_region_held_drew (S := fun w' => Hid (Below wr.heap.size wr w')) (by kernel_rfl) (below_drawn (Below.refl _ _) 1) (fun hHeld => ?_)
        refine held_take 0 7 (.int .i64 (k : Int)) rfl rfl (by kernel_rfl) (by kernel_rfl) (by kernel_rfl) (fun _ _ _ h => h) rfl hHeld (fun w _ => rfl) ?_
        refine held_take 1 8 (.slice (some ⟨b, off, none⟩) l.length c) rfl rfl (by kernel_rfl) (by kernel_rfl) (by kernel_rfl) (fun _ _ _ h => h) rfl hHeld (fun w _ => rfl) ?_
        refine held_take 2 9 (.int .i64 (l.length : Nat)) rfl rfl (by kernel_rfl) (by kernel_rfl) (by kernel_rfl) (fun _ _ _ h => h) rfl hHeld (fun w _ => exec_lenT rowEnt _ _ _ w) ?_
        simp only [Act.put, List.setIfInBounds_toArray, List.set_cons_zero, List.set_cons_succ]
        refine held_take 3 10 (.bool true) rfl rfl (by kernel_rfl) (by kernel_rfl) (by kernel_rfl) (fun _ _ _ h => h) rfl hHeld (fun w _ => exec_lssI (k : Int) (l.length : Int) true w (by simp; omega)) ?_
        refine held_take 4 11 (.bool true) rfl rfl (by kernel_rfl) (by kernel_rfl) (by kernel_rfl) (fun _ _ _ h => h) rfl hHeld (fun w _ => rfl) ?_
        refine held_take 5 12 (.slice (some ⟨b, off, none⟩) l.length c) rfl rfl (by kernel_rfl) (by kernel_rfl) (by kernel_rfl) (fun _ _ _ h => h) rfl hHeld (fun w _ => rfl) ?_
        simp only [Act.put, List.setIfInBounds_toArray, List.set_cons_zero, List.set_cons_succ]
        refine held_take 6 13 (.int .i64 (k : Int)) rfl rfl (by kernel_rfl) (by kernel_rfl) (by kernel_rfl) (fun _ _ _ h => h) rfl hHeld (fun w _ => rfl) ?_
        refine held_take 7 14 (.pointer (some ⟨b, off + k * 4, none⟩)) rfl rfl (by kernel_rfl) (by kernel_rfl) (by kernel_rfl) (fun _ _ _ h => h) rfl hHeld (fun w _ => exec_idx_en b off l.length c k w hlt) ?_
        refine held_take 8 15 (enA y) rfl rfl (by kernel_rfl) (by kernel_rfl) (by kernel_rfl) (fun _ _ _ h => h) rfl hHeld (fun w hS => exec_load_en b (off + k * 4) y w (KY.out w hS.out)) ?_
        simp only [Act.put, List.setIfInBounds_toArray, List.set_cons_zero, List.set_cons_succ]
        refine held_take 9 16 (enA x) rfl rfl (by kernel_rfl) (by kernel_rfl) (by kernel_rfl) (fun _ _ _ h => h) rfl hHeld (fun w hS => exec_load_en _ 0 x w (KX.out w hS.out)) ?_
        simp only [Act.put, List.setIfInBounds_toArray, List.set_cons_zero, List.set_cons_succ]
        refine held_call 10 17 93 #[enA y, enA x] rfl rfl (by kernel_rfl) rfl (exec_call Tryz.func93 (by kernel_rfl) (by kernel_rfl) _) ?_
        refine (CL.out _).mono ?_
        rintro e u1 ⟨rfl, x1⟩
        have k1 := hHeld.out.trans (x1.mono hHeld.out.size)
        refine ⟨_, rfl, k1, ?_⟩
        simp only [Act.put, List.setIfInBounds_toArray, List.set_cons_zero, List.set_cons_succ]
        refine held_take 11 18 (.bool true) rfl rfl (by kernel_rfl) (by kernel_rfl) (by kernel_rfl) (fun _ _ _ h => h) rfl k1 (fun w _ => exec_pickT _ w) ?_
        refine wpAnyH_done (by kernel_rfl) ?_ _
        have HB := Lib.hid (hb.trans (k1.mono hb.size))
        clear k1 x1 hHeld hb
        go_wp2
        go_roundw
        case rel => exact ⟨k + 1, by omega, by go_num, HA.out, HB.out⟩
        case measure => simp [intOf]; omega
      · have HP : Hid (decide (En.less (l.getD k en0) x) = false) := decide_eq_false hp
        have HI : Hid (enPut l x = l.take k ++ [x] ++ l.drop k) := insP_at _ l x en0 k hk hall (fun _ => decide_eq_false hp)
        clear hall hp
        generalize l.getD k en0 = y at *
        have KY := Lib.hid (fun w' (h : Below wr.heap.size wr w') => En.here.below hy h hbB)
        clear hy
        go_wp2_with fail
        have CL := Lib.hid (fun w => entryLess_spec y x w)
        rw [HP.out] at CL
        refine wp_region_held_drew (S := fun w' => Hid (Below wr.heap.size wr w')) (by kernel_rfl) (below_drawn (Below.refl _ _) 1) (fun hHeld => ?_)
        refine held_take 0 7 (.int .i64 (k : Int)) rfl rfl (by kernel_rfl) (by kernel_rfl) (by kernel_rfl) (fun _ _ _ h => h) rfl hHeld (fun w _ => rfl) ?_
        refine held_take 1 8 (.slice (some ⟨b, off, none⟩) l.length c) rfl rfl (by kernel_rfl) (by kernel_rfl) (by kernel_rfl) (fun _ _ _ h => h) rfl hHeld (fun w _ => rfl) ?_
        refine held_take 2 9 (.int .i64 (l.length : Nat)) rfl rfl (by kernel_rfl) (by kernel_rfl) (by kernel_rfl) (fun _ _ _ h => h) rfl hHeld (fun w _ => exec_lenT rowEnt _ _ _ w) ?_
        simp only [Act.put, List.setIfInBounds_toArray, List.set_cons_zero, List.set_cons_succ]
        refine held_take 3 10 (.bool true) rfl rfl (by kernel_rfl) (by kernel_rfl) (by kernel_rfl) (fun _ _ _ h => h) rfl hHeld (fun w _ => exec_lssI (k : Int) (l.length : Int) true w (by simp; omega)) ?_
        refine held_take 4 11 (.bool true) rfl rfl (by kernel_rfl) (by kernel_rfl) (by kernel_rfl) (fun _ _ _ h => h) rfl hHeld (fun w _ => rfl) ?_
        refine held_take 5 12 (.slice (some ⟨b, off, none⟩) l.length c) rfl rfl (by kernel_rfl) (by kernel_rfl) (by kernel_rfl) (fun _ _ _ h => h) rfl hHeld (fun w _ => rfl) ?_
        simp only [Act.put, List.setIfInBounds_toArray, List.set_cons_zero, List.set_cons_succ]
        refine held_take 6 13 (.int .i64 (k : Int)) rfl rfl (by kernel_rfl) (by kernel_rfl) (by kernel_rfl) (fun _ _ _ h => h) rfl hHeld (fun w _ => rfl) ?_
        refine held_take 7 14 (.pointer (some ⟨b, off + k * 4, none⟩)) rfl rfl (by kernel_rfl) (by kernel_rfl) (by kernel_rfl) (fun _ _ _ h => h) rfl hHeld (fun w _ => exec_idx_en b off l.length c k w hlt) ?_
        refine held_take 8 15 (enA y) rfl rfl (by kernel_rfl) (by kernel_rfl) (by kernel_rfl) (fun _ _ _ h => h) rfl hHeld (fun w hS => exec_load_en b (off + k * 4) y w (KY.out w hS.out)) ?_
        simp only [Act.put, List.setIfInBounds_toArray, List.set_cons_zero, List.set_cons_succ]
        refine held_take 9 16 (enA x) rfl rfl (by kernel_rfl) (by kernel_rfl) (by kernel_rfl) (fun _ _ _ h => h) rfl hHeld (fun w hS => exec_load_en _ 0 x w (KX.out w hS.out)) ?_
        simp only [Act.put, List.setIfInBounds_toArray, List.set_cons_zero, List.set_cons_succ]
        refine held_call 10 17 93 #[enA y, enA x] rfl rfl (by kernel_rfl) rfl (exec_call Tryz.func93 (by kernel_rfl) (by kernel_rfl) _) ?_
        refine (CL.out _).mono ?_
        rintro e u1 ⟨rfl, x1⟩
        have k1 := hHeld.out.trans (x1.mono hHeld.out.size)
        refine ⟨_, rfl, k1, ?_⟩
        simp only [Act.put, List.setIfInBounds_toArray, List.set_cons_zero, List.set_cons_succ]
        refine held_take 11 18 (.bool false) rfl rfl (by kernel_rfl) (by kernel_rfl) (by kernel_rfl) (fun _ _ _ h => h) rfl k1 (fun w _ => exec_pickT _ w) ?_
        refine wpAnyH_done (by kernel_rfl) ?_ _
        have HB := hb.trans (k1.mono hb.size)
        clear k1 x1 hHeld hb KX KY CL HP
        have KX := Lib.hid (fun w' (h : Below u1.heap.size u1 w') => En.here.blk (blk_call (blk_call HX.out HB) h))
        have HR := Lib.hid (fun w' (h : Below u1.heap.size u1 w') => rws_below (rws_below (rws_below hA bW.out) HB) h)
        go_wp2_with fail
        refine wp_region_held_drew (S := fun w' => Hid (Below u1.heap.size u1 w')) (by kernel_rfl) (below_drawn (Below.refl _ _) 1) (fun hHeld => ?_)
        refine held_take 0 21 (.slice (some ⟨b, off, none⟩) l.length c) rfl rfl (by kernel_rfl) (by kernel_rfl) (by kernel_rfl) (fun _ _ _ h => h) rfl hHeld (fun w _ => rfl) ?_
        refine held_take 1 22 (.int .i64 (k : Int)) rfl rfl (by kernel_rfl) (by kernel_rfl) (by kernel_rfl) (fun _ _ _ h => h) rfl hHeld (fun w _ => rfl) ?_
        refine held_take 2 23 (.slice (some ⟨b, off, none⟩) k c) rfl rfl (by kernel_rfl) (by kernel_rfl) (by kernel_rfl) (fun _ _ _ h => h) rfl hHeld (fun w _ => exec_sliceTo rowEnt (some ⟨b, off, none⟩) l.length c k w hk hc hn) ?_
        simp only [Act.put, List.setIfInBounds_toArray, List.set_cons_zero, List.set_cons_succ]
        refine held_take 4 25 (enA x) rfl rfl (by kernel_rfl) (by kernel_rfl) (by kernel_rfl) (fun _ _ _ h => h) rfl hHeld (fun w hS => exec_load_en _ 0 x w (KX.out w hS.out)) ?_
        simp only [Act.put, List.setIfInBounds_toArray, List.set_cons_zero, List.set_cons_succ]
        refine wpAnyH_ready (rs := [3, 5]) (by kernel_rfl) (by simp) (ready_call 3 24 94 #[.slice (some ⟨b, off, none⟩) k c] rfl rfl rfl (exec_call Tryz.func94 (by kernel_rfl) (by kernel_rfl) _) ?_ (ready_op 5 26 (.slice (some ⟨u1.drew.heap.size, 0, none⟩) 1 1) rfl rfl rfl (exec_one_en x _) (hHeld.out.alloc hHeld.out.size _) ?_ AllReadyH.nil))
        · skip
          have RC := Rws.to_ (k * 4) (HR.out _ hHeld.out)
          rw [← flat_take enC 4 enC_len] at RC
          have CC := l7Copy_spec (some ⟨b, off, none⟩) (l.take k) c u1.drew (by rw [List.length_take]; omega) (by rw [List.length_take]; omega) hn RC
          rw [List.length_take, Nat.min_eq_left hk] at CC
          refine CC.mono ?_
          rintro e u2 ⟨P, cp, rfl, oP, x2⟩
          have k2 := hHeld.out.trans (x2.mono hHeld.out.size)
          refine ⟨_, rfl, k2, ?_⟩
          simp only [Act.put, List.setIfInBounds_toArray, List.set_cons_zero, List.set_cons_succ]
          refine held_op 5 26 (.slice (some ⟨u2.heap.size, 0, none⟩) 1 1) rfl rfl (by kernel_rfl) rfl (exec_one_en x _) (k2.alloc k2.size _) ?_
          simp only [Act.put, List.setIfInBounds_toArray, List.set_cons_zero, List.set_cons_succ]
          have k2 := k2.alloc k2.size (.cells (enC x).toArray 100)
          have oP := own_weak (oP.alloc (.cells (enC x).toArray 100)) (hHeld.out.size)
          refine held_opx 6 27 rfl rfl (by kernel_rfl) rfl (exec_appR rowEnt _ u1.heap.size _ k _ oP _ _ 1 1 (enC x) rfl (Rws.new u2 (enC x) 100) (fun h => by cases h) (by intro z hz; exact enC_one [x] z (by simpa using hz)) (by omega) (k2.size)) ?_
          rintro v3 w3 ⟨o3, g3⟩
          have k3 := k2.grown g3 k2.size (own_low oP)
          refine ⟨k3, ?_⟩
          simp only [Act.put, List.setIfInBounds_toArray, List.set_cons_zero, List.set_cons_succ]
          refine held_op 7 6 v3 rfl rfl (by kernel_rfl) rfl rfl k3 ?_
          simp only [Act.put, List.setIfInBounds_toArray, List.set_cons_zero, List.set_cons_succ]
          refine wpAnyH_done (by kernel_rfl) ?_ _
          have b4 := HB.trans (k3.mono HB.size)
          have o4 := own_weak o3 HB.size
          clear o3 g3 k3 k2 x2 oP RC CC HR KX hHeld
          have R5 := Rws.from_ (n := l.length) (c := c) (k := k) (sz := 4) (rws_below (rws_below hA bW.out) b4) (flat_len enC 4 enC_len l) hk hc
          rw [← flat_drop enC 4 enC_len] at R5
          have e5 : ((l.drop k).flatMap enC).length = (l.length - k) * 4 := by rw [flat_len enC 4 enC_len, List.length_drop]
          have hs4 := b4.size
          go_wp2_with (first | (refine wpList_exec (.slice (fromA (some ⟨b, off, none⟩) c k 4) (l.length - k) (c - k)) rfl (exec_sliceFrom rowEnt (some ⟨b, off, none⟩) l.length c k _ hk hc hn) ?_) | (at_builtin; refine wpList_appR rowEnt _ rfl (.tmp 28) (.tmp 31) rfl W.heap.size _ (k + 1) ((l.take k).flatMap enC ++ enC x) rfl o4 _ (fromA (some ⟨b, off, none⟩) c k 4) (l.length - k) (c - k) ((l.drop k).flatMap enC) rfl e5 R5 (fromA_nil hn) (enC_one _) (by omega) hs4 ?_))
          intro v6 w6 o6 g6
          have b6 := bW.out.trans ((b4.grown g6 hs4 (own_low o4)).mono bW.out.size)
          have e6 : (l.take k).flatMap enC ++ (enC x ++ (l.drop k).flatMap enC) = (enPut l x).flatMap enC := by rw [HI.out]; simp
          have e7 : k + 1 + (l.length - k) = (enPut l x).length := by rw [enPut_len]; omega
          rw [e6, e7] at o6
          have HN := Lib.hid (NewR.of_own (own_weak o6 bW.out.size) b6)
          clear o4 o6 g6 b4 b6 R5 e5 e6 e7 hs4 HI
          go_wp2
          go_ret
          exact HN.out
        · skip
          simp only [Act.put, List.setIfInBounds_toArray, List.set_cons_zero, List.set_cons_succ]
          have hB := hHeld.out.alloc hHeld.out.size (.cells (enC x).toArray 100)
          have RN := Rws.new u1.drew (enC x) 100
          refine held_call 3 24 94 #[.slice (some ⟨b, off, none⟩) k c] rfl rfl (by kernel_rfl) rfl (exec_call Tryz.func94 (by kernel_rfl) (by kernel_rfl) _) ?_
          have RC := Rws.to_ (k * 4) (HR.out _ hB)
          rw [← flat_take enC 4 enC_len] at RC
          have CC := l7Copy_spec (some ⟨b, off, none⟩) (l.take k) c (u1.drew.alloc (.cells (enC x).toArray 100)) (by rw [List.length_take]; omega) (by rw [List.length_take]; omega) hn RC
          rw [List.length_take, Nat.min_eq_left hk] at CC
          refine CC.mono ?_
          rintro e u2 ⟨P, cp, rfl, oP, x2⟩
          have k2 := hB.trans (x2.mono hB.size)
          refine ⟨_, rfl, k2, ?_⟩
          simp only [Act.put, List.setIfInBounds_toArray, List.set_cons_zero, List.set_cons_succ]
          have RN := rws_below (RN.more (by simp)) x2
          have oP := own_weak oP hB.size
          refine held_opx 6 27 rfl rfl (by kernel_rfl) rfl (exec_appR rowEnt _ u1.heap.size _ k _ oP _ _ 1 1 (enC x) rfl RN (fun h => by cases h) (by intro z hz; exact enC_one [x] z (by simpa using hz)) (by omega) (k2.size)) ?_
          rintro v3 w3 ⟨o3, g3⟩
          have k3 := k2.grown g3 k2.size (own_low oP)
          refine ⟨k3, ?_⟩
          simp only [Act.put, List.setIfInBounds_toArray, List.set_cons_zero, List.set_cons_succ]
          refine held_op 7 6 v3 rfl rfl (by kernel_rfl) rfl rfl k3 ?_
          simp only [Act.put, List.setIfInBounds_toArray, List.set_cons_zero, List.set_cons_succ]
          refine wpAnyH_done (by kernel_rfl) ?_ _
          have b4 := HB.trans (k3.mono HB.size)
          have o4 := own_weak o3 HB.size
          clear RN hB o3 g3 k3 k2 x2 oP RC CC HR KX hHeld
          have R5 := Rws.from_ (n := l.length) (c := c) (k := k) (sz := 4) (rws_below (rws_below hA bW.out) b4) (flat_len enC 4 enC_len l) hk hc
          rw [← flat_drop enC 4 enC_len] at R5
          have e5 : ((l.drop k).flatMap enC).length = (l.length - k) * 4 := by rw [flat_len enC 4 enC_len, List.length_drop]
          have hs4 := b4.size
          go_wp2_with (first | (refine wpList_exec (.slice (fromA (some ⟨b, off, none⟩) c k 4) (l.length - k) (c - k)) rfl (exec_sliceFrom rowEnt (some ⟨b, off, none⟩) l.length c k _ hk hc hn) ?_) | (at_builtin; refine wpList_appR rowEnt _ rfl (.tmp 28) (.tmp 31) rfl W.heap.size _ (k + 1) ((l.take k).flatMap enC ++ enC x) rfl o4 _ (fromA (some ⟨b, off, none⟩) c k 4) (l.length - k) (c - k) ((l.drop k).flatMap enC) rfl e5 R5 (fromA_nil hn) (enC_one _) (by omega) hs4 ?_))
          intro v6 w6 o6 g6
          have b6 := bW.out.trans ((b4.grown g6 hs4 (own_low o4)).mono bW.out.size)
          have e6 : (l.take k).flatMap enC ++ (enC x ++ (l.drop k).flatMap enC) = (enPut l x).flatMap enC := by rw [HI.out]; simp
          have e7 : k + 1 + (l.length - k) = (enPut l x).length := by rw [enPut_len]; omega
          rw [e6, e7] at o6
          have HN := Lib.hid (NewR.of_own (own_weak o6 bW.out.size) b6)
          clear o4 o6 g6 b4 b6 R5 e5 e6 e7 hs4 HI
          go_wp2
          go_ret
          exact HN.out
    · have HI : Hid (enPut l x = l.take k ++ [x] ++ l.drop k) := insP_at _ l x en0 k hk hall (fun h => by omega)
      clear hall
      go_wp2_with fail
      refine wp_region_held_drew (S := fun w' => Hid (Below wr.heap.size wr w')) (by kernel_rfl) (below_drawn (Below.refl _ _) 1) (fun hHeld => ?_)
      refine held_take 0 7 (.int .i64 (k : Int)) rfl rfl (by kernel_rfl) (by kernel_rfl) (by kernel_rfl) (fun _ _ _ h => h) rfl hHeld (fun w _ => rfl) ?_
      refine held_take 1 8 (.slice A l.length c) rfl rfl (by kernel_rfl) (by kernel_rfl) (by kernel_rfl) (fun _ _ _ h => h) rfl hHeld (fun w _ => rfl) ?_
      refine held_take 2 9 (.int .i64 (l.length : Nat)) rfl rfl (by kernel_rfl) (by kernel_rfl) (by kernel_rfl) (fun _ _ _ h => h) rfl hHeld (fun w _ => exec_lenT rowEnt _ _ _ w) ?_
      simp only [Act.put, List.setIfInBounds_toArray, List.set_cons_zero, List.set_cons_succ]
      refine held_take 3 10 (.bool false) rfl rfl (by kernel_rfl) (by kernel_rfl) (by kernel_rfl) (fun _ _ _ h => h) rfl hHeld (fun w _ => exec_lssI (k : Int) (l.length : Int) false w (by simp; omega)) ?_
      refine held_take 4 11 (.bool false) rfl rfl (by kernel_rfl) (by kernel_rfl) (by kernel_rfl) (fun _ _ _ h => h) rfl hHeld (fun w _ => rfl) ?_
      refine held_skip 5 12 rfl rfl (by kernel_rfl) (by kernel_rfl) (by kernel_rfl) (fun _ _ _ h => h) rfl hHeld ?_
      simp only [Act.put, List.setIfInBounds_toArray, List.set_cons_zero, List.set_cons_succ]
      refine held_skip 6 13 rfl rfl (by kernel_rfl) (by kernel_rfl) (by kernel_rfl) (fun _ _ _ h => h) rfl hHeld ?_
      refine held_skip 7 14 rfl rfl (by kernel_rfl) (by kernel_rfl) (by kernel_rfl) (fun _ _ _ h => h) rfl hHeld ?_
      simp only [Act.put, List.setIfInBounds_toArray, List.set_cons_zero, List.set_cons_succ]
      refine held_skip 8 15 rfl rfl (by kernel_rfl) (by kernel_rfl) (by kernel_rfl) (fun _ _ _ h => h) rfl hHeld ?_
      refine held_skip 9 16 rfl rfl (by kernel_rfl) (by kernel_rfl) (by kernel_rfl) (fun _ _ _ h => h) rfl hHeld ?_
      simp only [Act.put, List.setIfInBounds_toArray, List.set_cons_zero, List.set_cons_succ]
      refine held_skip 10 17 rfl rfl (by kernel_rfl) (by kernel_rfl) (by kernel_rfl) (fun _ _ _ h => h) rfl hHeld ?_
      refine held_take 11 18 (.bool false) rfl rfl (by kernel_rfl) (by kernel_rfl) (by kernel_rfl) (fun _ _ _ h => h) rfl hHeld (fun w _ => exec_pickF _ w) ?_
      refine wpAnyH_done (by kernel_rfl) ?_ _
      have HB := hb.trans (hHeld.out.mono hb.size)
      clear hHeld hb
      generalize wr.drew = u1 at *
      have KX := Lib.hid (fun w' (h : Below u1.heap.size u1 w') => En.here.blk (blk_call (blk_call HX.out HB) h))
      have HR := Lib.hid (fun w' (h : Below u1.heap.size u1 w') => rws_below (rws_below (rws_below hA bW.out) HB) h)
      go_wp2_with fail
      refine wp_region_held_drew (S := fun w' => Hid (Below u1.heap.size u1 w')) (by kernel_rfl) (below_drawn (Below.refl _ _) 1) (fun hHeld => ?_)
      refine held_take 0 21 (.slice A l.length c) rfl rfl (by kernel_rfl) (by kernel_rfl) (by kernel_rfl) (fun _ _ _ h => h) rfl hHeld (fun w _ => rfl) ?_
      refine held_take 1 22 (.int .i64 (k : Int)) rfl rfl (by kernel_rfl) (by kernel_rfl) (by kernel_rfl) (fun _ _ _ h => h) rfl hHeld (fun w _ => rfl) ?_
      refine held_take 2 23 (.slice A k c) rfl rfl (by kernel_rfl) (by kernel_rfl) (by kernel_rfl) (fun _ _ _ h => h) rfl hHeld (fun w _ => exec_sliceTo rowEnt A l.length c k w hk hc hn) ?_
      simp only [Act.put, List.setIfInBounds_toArray, List.set_cons_zero, List.set_cons_succ]
      refine held_take 4 25 (enA x) rfl rfl (by kernel_rfl) (by kernel_rfl) (by kernel_rfl) (fun _ _ _ h => h) rfl hHeld (fun w hS => exec_load_en _ 0 x w (KX.out w hS.out)) ?_
      simp only [Act.put, List.setIfInBounds_toArray, List.set_cons_zero, List.set_cons_succ]
      refine wpAnyH_ready (rs := [3, 5]) (by kernel_rfl) (by simp) (ready_call 3 24 94 #[.slice A k c] rfl rfl rfl (exec_call Tryz.func94 (by kernel_rfl) (by kernel_rfl) _) ?_ (ready_op 5 26 (.slice (some ⟨u1.drew.heap.size, 0, none⟩) 1 1) rfl rfl rfl (exec_one_en x _) (hHeld.out.alloc hHeld.out.size _) ?_ AllReadyH.nil))
      · skip
        have RC := Rws.to_ (k * 4) (HR.out _ hHeld.out)
        rw [← flat_take enC 4 enC_len] at RC
        have CC := l7Copy_spec A (l.take k) c u1.drew (by rw [List.length_take]; omega) (by rw [List.length_take]; omega) hn RC
        rw [List.length_take, Nat.min_eq_left hk] at CC
        refine CC.mono ?_
        rintro e u2 ⟨P, cp, rfl, oP, x2⟩
        have k2 := hHeld.out.trans (x2.mono hHeld.out.size)
        refine ⟨_, rfl, k2, ?_⟩
        simp only [Act.put, List.setIfInBounds_toArray, List.set_cons_zero, List.set_cons_succ]
        refine held_op 5 26 (.slice (some ⟨u2.heap.size, 0, none⟩) 1 1) rfl rfl (by kernel_rfl) rfl (exec_one_en x _) (k2.alloc k2.size _) ?_
        simp only [Act.put, List.setIfInBounds_toArray, List.set_cons_zero, List.set_cons_succ]
        have k2 := k2.alloc k2.size (.cells (enC x).toArray 100)
        have oP := own_weak (oP.alloc (.cells (enC x).toArray 100)) (hHeld.out.size)
        refine held_opx 6 27 rfl rfl (by kernel_rfl) rfl (exec_appR rowEnt _ u1.heap.size _ k _ oP _ _ 1 1 (enC x) rfl (Rws.new u2 (enC x) 100) (fun h => by cases h) (by intro z hz; exact enC_one [x] z (by simpa using hz)) (by omega) (k2.size)) ?_
        rintro v3 w3 ⟨o3, g3⟩
        have k3 := k2.grown g3 k2.size (own_low oP)
        refine ⟨k3, ?_⟩
        simp only [Act.put, List.setIfInBounds_toArray, List.set_cons_zero, List.set_cons_succ]
        refine held_op 7 6 v3 rfl rfl (by kernel_rfl) rfl rfl k3 ?_
        simp only [Act.put, List.setIfInBounds_toArray, List.set_cons_zero, List.set_cons_succ]
        refine wpAnyH_done (by kernel_rfl) ?_ _
        have b4 := HB.trans (k3.mono HB.size)
        have o4 := own_weak o3 HB.size
        clear o3 g3 k3 k2 x2 oP RC CC HR KX hHeld
        have R5 := Rws.from_ (n := l.length) (c := c) (k := k) (sz := 4) (rws_below (rws_below hA bW.out) b4) (flat_len enC 4 enC_len l) hk hc
        rw [← flat_drop enC 4 enC_len] at R5
        have e5 : ((l.drop k).flatMap enC).length = (l.length - k) * 4 := by rw [flat_len enC 4 enC_len, List.length_drop]
        have hs4 := b4.size
        go_wp2_with (first | (refine wpList_exec (.slice (fromA A c k 4) (l.length - k) (c - k)) rfl (exec_sliceFrom rowEnt A l.length c k _ hk hc hn) ?_) | (at_builtin; refine wpList_appR rowEnt _ rfl (.tmp 28) (.tmp 31) rfl W.heap.size _ (k + 1) ((l.take k).flatMap enC ++ enC x) rfl o4 _ (fromA A c k 4) (l.length - k) (c - k) ((l.drop k).flatMap enC) rfl e5 R5 (fromA_nil hn) (enC_one _) (by omega) hs4 ?_))
        intro v6 w6 o6 g6
        have b6 := bW.out.trans ((b4.grown g6 hs4 (own_low o4)).mono bW.out.size)
        have e6 : (l.take k).flatMap enC ++ (enC x ++ (l.drop k).flatMap enC) = (enPut l x).flatMap enC := by rw [HI.out]; simp
        have e7 : k + 1 + (l.length - k) = (enPut l x).length := by rw [enPut_len]; omega
        rw [e6, e7] at o6
        have HN := Lib.hid (NewR.of_own (own_weak o6 bW.out.size) b6)
        clear o4 o6 g6 b4 b6 R5 e5 e6 e7 hs4 HI
        go_wp2
        go_ret
        exact HN.out
      · skip
        simp only [Act.put, List.setIfInBounds_toArray, List.set_cons_zero, List.set_cons_succ]
        have hB := hHeld.out.alloc hHeld.out.size (.cells (enC x).toArray 100)
        have RN := Rws.new u1.drew (enC x) 100
        refine held_call 3 24 94 #[.slice A k c] rfl rfl (by kernel_rfl) rfl (exec_call Tryz.func94 (by kernel_rfl) (by kernel_rfl) _) ?_
        have RC := Rws.to_ (k * 4) (HR.out _ hB)
        rw [← flat_take enC 4 enC_len] at RC
        have CC := l7Copy_spec A (l.take k) c (u1.drew.alloc (.cells (enC x).toArray 100)) (by rw [List.length_take]; omega) (by rw [List.length_take]; omega) hn RC
        rw [List.length_take, Nat.min_eq_left hk] at CC
        refine CC.mono ?_
        rintro e u2 ⟨P, cp, rfl, oP, x2⟩
        have k2 := hB.trans (x2.mono hB.size)
        refine ⟨_, rfl, k2, ?_⟩
        simp only [Act.put, List.setIfInBounds_toArray, List.set_cons_zero, List.set_cons_succ]
        have RN := rws_below (RN.more (by simp)) x2
        have oP := own_weak oP hB.size
        refine held_opx 6 27 rfl rfl (by kernel_rfl) rfl (exec_appR rowEnt _ u1.heap.size _ k _ oP _ _ 1 1 (enC x) rfl RN (fun h => by cases h) (by intro z hz; exact enC_one [x] z (by simpa using hz)) (by omega) (k2.size)) ?_
        rintro v3 w3 ⟨o3, g3⟩
        have k3 := k2.grown g3 k2.size (own_low oP)
        refine ⟨k3, ?_⟩
        simp only [Act.put, List.setIfInBounds_toArray, List.set_cons_zero, List.set_cons_succ]
        refine held_op 7 6 v3 rfl rfl (by kernel_rfl) rfl rfl k3 ?_
        simp only [Act.put, List.setIfInBounds_toArray, List.set_cons_zero, List.set_cons_succ]
        refine wpAnyH_done (by kernel_rfl) ?_ _
        have b4 := HB.trans (k3.mono HB.size)
        have o4 := own_weak o3 HB.size
        clear RN hB o3 g3 k3 k2 x2 oP RC CC HR KX hHeld
        have R5 := Rws.from_ (n := l.length) (c := c) (k := k) (sz := 4) (rws_below (rws_below hA bW.out) b4) (flat_len enC 4 enC_len l) hk hc
        rw [← flat_drop enC 4 enC_len] at R5
        have e5 : ((l.drop k).flatMap enC).length = (l.length - k) * 4 := by rw [flat_len enC 4 enC_len, List.length_drop]
        have hs4 := b4.size
        go_wp2_with (first | (refine wpList_exec (.slice (fromA A c k 4) (l.length - k) (c - k)) rfl (exec_sliceFrom rowEnt A l.length c k _ hk hc hn) ?_) | (at_builtin; refine wpList_appR rowEnt _ rfl (.tmp 28) (.tmp 31) rfl W.heap.size _ (k + 1) ((l.take k).flatMap enC ++ enC x) rfl o4 _ (fromA A c k 4) (l.length - k) (c - k) ((l.drop k).flatMap enC) rfl e5 R5 (fromA_nil hn) (enC_one _) (by omega) hs4 ?_))
        intro v6 w6 o6 g6
        have b6 := bW.out.trans ((b4.grown g6 hs4 (own_low o4)).mono bW.out.size)
        have e6 : (l.take k).flatMap enC ++ (enC x ++ (l.drop k).flatMap enC) = (enPut l x).flatMap enC := by rw [HI.out]; simp
        have e7 : k + 1 + (l.length - k) = (enPut l x).length := by rw [enPut_len]; omega
        rw [e6, e7] at o6
        have HN := Lib.hid (NewR.of_own (own_weak o6 bW.out.size) b6)
        clear o4 o6 g6 b4 b6 R5 e5 e6 e7 hs4 HI
        go_wp2
        go_ret
        exact HN.out
end Go.Proofs.YtlflgflmlfileaaGreat
