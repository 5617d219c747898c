/- PartyPut, PartyCut of the model. -/
import Derived.Test.YtlflgflmlfileaaRows
import Derived.Test.YtlflgflmlfileaaHoP
import Derived.Test.YtlflgflmlfileaaPtyL
namespace Go.Proofs.Ytlflgflmlfileaa
open Go.RowKit
set_option linter.unusedSimpArgs false
set_option linter.unusedVariables false
theorem rws_grown {w w' : World} {B : Nat} {A : Option Addr} {cs : List Value} {row : Option Nat} (h : Rws w B A cs) (g : w.grownBy w' row) (hne : ∀ j, row = some j → ∀ ad, A = some ad → ad.block ≠ j) : Rws w' B A cs := by
  rcases h with h | ⟨b, off, e, hb, hc⟩
  · exact .inl h
  · refine .inr ⟨b, off, e, hb, fun k hk => ?_⟩
    have h1 := hc k hk
    rw [List.getElem?_eq_getElem hk] at h1 ⊢
    exact World.grownBy.cell g h1 (fun q => hne b q.symm _ e rfl)
theorem own_emptyB {w0 X : World} (h : Below w0.heap.size w0 X) (e sz : Nat) : (X.alloc (.cells #[] e)).ownsRow w0.heap.size e sz (.slice (some ⟨X.heap.size, 0, none⟩) 0 0) 0 [] := own_empty X _ e sz h.size
theorem rws_newB {B : Nat} {w0 X : World} (h : Below B w0 X) (cs : List Value) (e : Nat) : Rws (X.alloc (.cells cs.toArray e)) (X.heap.size + 1) (some ⟨X.heap.size, 0, none⟩) cs := Rws.new X cs e
set_option maxRecDepth 100000 in
theorem exec_none_pt {ρ : Operand → Value} {o : Oper} (w : World) (ho : o.op = .buildSlice 42 0 #[] := by rfl) :
    (execOp ρ o).run Try.prog w = .ok (.value (.slice (some ⟨w.heap.size, 0, none⟩) 0 0)) (w.alloc (.cells #[] 54)) := by
  unfold execOp
  rw [ho]
  simp [go_sem]
set_option maxRecDepth 100000 in
theorem exec_one_pt {ρ : Operand → Value} {o : Oper} {y : Operand} (x : Pt) (w : World) (ho : o.op = .buildSlice 42 1 #[(0, y)] := by rfl) (hy : ρ y = ptA x := by rfl) :
    (execOp ρ o).run Try.prog w = .ok (.value (.slice (some ⟨w.heap.size, 0, none⟩) 1 1)) (w.alloc (.cells (ptC x).toArray 54)) := by
  unfold execOp
  rw [ho]
  simp [go_sem, hy, ptA, ptC]
set_option maxRecDepth 100000 in
set_option maxHeartbeats 6400000 in
theorem partyPut_new (A : Option Addr) (l : List Pt) (c : Nat) (p : Pt) (w : World) (hl : l.length ≤ 2097152) (hc : l.length ≤ c) (hn : A = none → c = 0) (hA : Rws w w.heap.size A (l.flatMap ptC)) (hp : ptAt l p.id = -1) :
    Calls Try.prog 20 #[.slice A l.length c, ptA p] w (NewR 54 10 w (ptPut l p).length ((ptPut l p).flatMap ptC)) := by
  obtain ⟨W, hW⟩ : ∃ W, w.alloc (.cells #[.int .i64 p.id, .int .i64 p.cabin, .int .i64 p.from_, .int .i64 p.size, .int .i64 p.tier, .int .i64 p.since, .int .i64 p.turn, .int .i64 p.state, .int .i64 p.until_, .int .i64 p.asked] 54) = W := ⟨_, rfl⟩
  have bW : Hid (Below w.heap.size w W) := by show Below _ _ _; rw [← hW]; exact (Below.refl _ _).alloc (Nat.le_refl _) _
  have HX : Hid (W.heap[w.heap.size]? = some (.cells #[.int .i64 p.id, .int .i64 p.cabin, .int .i64 p.from_, .int .i64 p.size, .int .i64 p.tier, .int .i64 p.since, .int .i64 p.turn, .int .i64 p.state, .int .i64 p.until_, .int .i64 p.asked] 54)) := by show _ = _; rw [← hW]; exact heap_new _ _
  have CA := Lib.hid (l11At_spec A l c p.id W hl (rws_below hA bW.out))
  rw [hp] at CA
  have O1 := own_empty W W.heap.size 54 10 (Nat.le_refl _)
  have x1 : Below W.heap.size W (W.alloc (.cells #[] 54)) := (Below.refl _ _).alloc (Nat.le_refl _) _
  have R1 := rws_below (rws_below hA bW.out) x1
  obtain ⟨q0, _⟩ := Pt.here.blk HX.out
  clear hp
  unfold ptA
  go_enter Try.func20, Try.ntmps20
  go_wp2_with fail
  clear hW q0
  refine CA.out.mono ?_
  rintro e _ ⟨rfl, rfl⟩
  go_wp2_with (at_builtin; refine wpList_appR rowPty _ rfl (.tmp 11) (.tmp 12) rfl W.heap.size _ 0 [] rfl O1 _ A l.length c (l.flatMap ptC) rfl (flat_len ptC 10 ptC_len l) R1 hn (ptC_one _) (by omega) (by simp) ?_)
  intro v2 w2 o2 g2
  have B2 := Lib.hid (x1.grown g2 (by simp) (own_low O1))
  clear o2 g2 O1 x1 R1 CA
  go_wp2_with fail
  go_loopw [5] (fun i wr => ∃ (k : Nat), k ≤ l.length ∧ i = .int .i64 k ∧ (∀ j, j < k → decide ((l.getD j pt0).id < p.id) = true) ∧ Below W.heap.size W wr) (fun i _ => l.length - (intOf i).toNat)
  case atStart => exact ⟨0, by omega, rfl, (fun j hj => by omega), B2.out⟩
  case round =>
    clear B2
    obtain ⟨k, hk, rfl, hall, hb⟩ := hrel
    have hbs := hb.size
    obtain ⟨q0, _⟩ := Pt.here.blk (blk_call HX.out hb)
    by_cases hlt : k < l.length
    · obtain ⟨b, off, rfl, hbB, hy⟩ := (rws_below (rws_below hA bW.out) hb).pt hlt
      by_cases hp : (l.getD k pt0).id < p.id
      · have hall2 : ∀ j, j < k + 1 → decide ((l.getD j pt0).id < p.id) = true := by
          intro j hj
          by_cases e : j = k
          · subst e; exact decide_eq_true hp
          · exact hall j (by omega)
        have HA := Lib.hid hall2
        have HB := Lib.hid hb
        clear hall hall2 hb
        generalize l.getD k pt0 = y at *
        obtain ⟨y0, _⟩ := hy
        go_wp2_with fail
        go_quiet (fail)
        go_wp2
        go_roundw
        case rel => exact ⟨k + 1, by omega, by go_num, HA.out, below_drawn HB.out _⟩
        case measure => simp [intOf] <;> omega
      · have HI : Hid (ptPut l p = l.take k ++ [p] ++ l.drop k) := insP_at _ l p pt0 k hk hall (fun _ => decide_eq_false hp)
        have hp2 : decide ((l.getD k pt0).id < p.id) = false := decide_eq_false hp
        clear hall
        generalize l.getD k pt0 = y at *
        obtain ⟨y0, _⟩ := hy
        go_wp2_with fail
        go_quiet (fail)
        go_wp2_with fail
        have KX := Lib.hid (fun w' (h : Below W.heap.size W w') => Pt.here.blk (blk_call HX.out h))
        have HR : Hid (∀ w' (h : Below W.heap.size W w'), Rws w' w'.heap.size (some ⟨b, off, none⟩) ((l.take k).flatMap ptC)) := fun w' h => by
          rw [flat_take ptC 10 ptC_len]; exact Rws.to_ (k * 10) (rws_below (rws_below hA bW.out) h)
        have e1 : ((l.take k).flatMap ptC).length = k * 10 := by rw [flat_len ptC 10 ptC_len, List.length_take, Nat.min_eq_left hk]
        refine wp_region_held_drew (S := fun w' => Hid (Below W.heap.size W w')) (by kernel_rfl) (below_drawn (below_drawn hb _) 1) (fun hHeld => ?_)
        refine held_take 1 38 (.slice (some ⟨b, off, none⟩) l.length c) rfl rfl (by kernel_rfl) (by kernel_rfl) (by kernel_rfl) (fun _ _ _ h => h) rfl hHeld (fun w _ => rfl) ?_
        refine held_take 2 39 (.int .i64 (k : Int)) rfl rfl (by kernel_rfl) (by kernel_rfl) (by kernel_rfl) (fun _ _ _ h => h) rfl hHeld (fun w _ => rfl) ?_
        simp only [Act.put, List.setIfInBounds_toArray, List.set_cons_zero, List.set_cons_succ]
        refine held_take 3 40 (.slice (some ⟨b, off, none⟩) k c) rfl rfl (by kernel_rfl) (by kernel_rfl) (by kernel_rfl) (fun _ _ _ h => h) rfl hHeld (fun w _ => exec_sliceTo rowPty (some ⟨b, off, none⟩) l.length c k w hk hc hn) ?_
        refine held_take 5 42 (ptA p) rfl rfl (by kernel_rfl) (by kernel_rfl) (by kernel_rfl) (fun _ _ _ h => h) rfl hHeld (fun w hS => exec_load_pt _ 0 p w (KX.out w hS.out)) ?_
        simp only [Act.put, List.setIfInBounds_toArray, List.set_cons_zero, List.set_cons_succ]
        have bA := hHeld.out.alloc hHeld.out.size (.cells #[] 54)
        have bB := hHeld.out.alloc hHeld.out.size (.cells (ptC p).toArray 54)
        refine wpAnyH_ready (rs := [0, 6]) (by kernel_rfl) (by simp) (ready_op 0 37 _ rfl rfl rfl (exec_none_pt _) bA ?_ (ready_op 6 43 _ rfl rfl rfl (exec_one_pt p _) bB ?_ AllReadyH.nil))
        · skip
          simp only [Act.put, List.setIfInBounds_toArray, List.set_cons_zero, List.set_cons_succ]
          have oA := own_emptyB hHeld.out 54 10
          have bAB := bA.alloc bA.size (.cells (ptC p).toArray 54)
          refine wpAnyH_ready (rs := [4, 6]) (by kernel_rfl) (by simp) (ready_opx 4 41 rfl rfl rfl (exec_appR rowPty _ W.heap.size _ 0 [] oA _ (some ⟨b, off, none⟩) k c ((l.take k).flatMap ptC) e1 (HR.out _ bA) hn (ptC_one _) (by omega) (bA.size)) ?_ (ready_op 6 43 _ rfl rfl rfl (exec_one_pt p _) bAB ?_ AllReadyH.nil))
          · rintro v7 w7 ⟨o7, g7⟩
            have k7 := bA.grown g7 bA.size (own_low oA)
            refine ⟨k7, ?_⟩
            simp only [Act.put, List.setIfInBounds_toArray, List.set_cons_zero, List.set_cons_succ]
            rw [Nat.zero_add, List.nil_append] at o7
            refine held_op 6 43 (.slice (some ⟨w7.heap.size, 0, none⟩) 1 1) rfl rfl (by kernel_rfl) rfl (exec_one_pt p _) (k7.alloc k7.size _) ?_
            simp only [Act.put, List.setIfInBounds_toArray, List.set_cons_zero, List.set_cons_succ]
            have k8 := k7.alloc k7.size (.cells (ptC p).toArray 54)
            have o8 := o7.alloc (.cells (ptC p).toArray 54)
            refine held_opx 7 44 rfl rfl (by kernel_rfl) rfl (exec_appR rowPty _ W.heap.size _ k _ o8 _ _ 1 1 (ptC p) rfl (Rws.new w7 (ptC p) 54) (fun h => by cases h) (by intro z hz; exact ptC_one [p] z (by simpa using hz)) (by omega) (k8.size)) ?_
            rintro v9 w9 ⟨o9, g9⟩
            have k9 := k8.grown g9 k8.size (own_low o8)
            refine ⟨k9, ?_⟩
            simp only [Act.put, List.setIfInBounds_toArray, List.set_cons_zero, List.set_cons_succ]
            refine held_op 8 6 v9 rfl rfl (by kernel_rfl) rfl rfl k9 ?_
            simp only [Act.put, List.setIfInBounds_toArray, List.set_cons_zero, List.set_cons_succ]
            refine wpAnyH_done (by kernel_rfl) ?_ _
            clear o7 g7 k7 k8 o8 oA bA bB bAB
            have R5 := Rws.from_ (n := l.length) (c := c) (k := k) (sz := 10) (rws_below (rws_below hA bW.out) k9) (flat_len ptC 10 ptC_len l) hk hc
            rw [← flat_drop ptC 10 ptC_len] at R5
            have e5 : ((l.drop k).flatMap ptC).length = (l.length - k) * 10 := by rw [flat_len ptC 10 ptC_len, List.length_drop]
            have hs4 := k9.size
            clear g9 hHeld
            go_wp2_with (first | (refine wpList_exec (.slice (fromA (some ⟨b, off, none⟩) c k 10) (l.length - k) (c - k)) rfl (exec_sliceFrom rowPty (some ⟨b, off, none⟩) l.length c k _ hk hc hn) ?_) | (at_builtin; refine wpList_appR rowPty _ rfl (.tmp 45) (.tmp 48) rfl W.heap.size _ (k + 1) ((l.take k).flatMap ptC ++ ptC p) rfl o9 _ (fromA (some ⟨b, off, none⟩) c k 10) (l.length - k) (c - k) ((l.drop k).flatMap ptC) rfl e5 R5 (fromA_nil hn) (ptC_one _) (by omega) hs4 ?_))
            intro v6 w6 o6 g6
            have b6 := bW.out.trans ((k9.grown g6 hs4 (own_low o9)).mono bW.out.size)
            have e6 : (l.take k).flatMap ptC ++ (ptC p ++ (l.drop k).flatMap ptC) = (ptPut l p).flatMap ptC := by rw [HI.out]; simp
            have e7 : k + 1 + (l.length - k) = (ptPut l p).length := by rw [ptPut_len]; omega
            rw [e6, e7] at o6
            have HN := Lib.hid (NewR.of_own (own_weak o6 bW.out.size) b6)
            clear o9 o6 g6 k9 b6 R5 e5 e6 e7 hs4 HI
            go_wp2
            go_ret
            exact HN.out
          · skip
            simp only [Act.put, List.setIfInBounds_toArray, List.set_cons_zero, List.set_cons_succ]
            have RN := rws_newB bA (ptC p) 54
            have oB := oA.alloc (.cells (ptC p).toArray 54)
            refine held_opx 4 41 rfl rfl (by kernel_rfl) rfl (exec_appR rowPty _ W.heap.size _ 0 [] oB _ (some ⟨b, off, none⟩) k c ((l.take k).flatMap ptC) e1 (HR.out _ bAB) hn (ptC_one _) (by omega) (bAB.size)) ?_
            rintro v7 w7 ⟨o7, g7⟩
            have k7 := bAB.grown g7 bAB.size (own_low oB)
            refine ⟨k7, ?_⟩
            simp only [Act.put, List.setIfInBounds_toArray, List.set_cons_zero, List.set_cons_succ]
            rw [Nat.zero_add, List.nil_append] at o7
            have RN := rws_grown RN g7 (fun j h => by injection h with h; simp at h ⊢; omega)
            refine held_opx 7 44 rfl rfl (by kernel_rfl) rfl (exec_appR rowPty _ W.heap.size _ k _ o7 _ _ 1 1 (ptC p) rfl RN (fun h => by cases h) (by intro z hz; exact ptC_one [p] z (by simpa using hz)) (by omega) (k7.size)) ?_
            rintro v9 w9 ⟨o9, g9⟩
            have k9 := k7.grown g9 k7.size (own_low o7)
            refine ⟨k9, ?_⟩
            simp only [Act.put, List.setIfInBounds_toArray, List.set_cons_zero, List.set_cons_succ]
            refine held_op 8 6 v9 rfl rfl (by kernel_rfl) rfl rfl k9 ?_
            simp only [Act.put, List.setIfInBounds_toArray, List.set_cons_zero, List.set_cons_succ]
            refine wpAnyH_done (by kernel_rfl) ?_ _
            clear o7 g7 k7 RN oB oA bA bB bAB
            have R5 := Rws.from_ (n := l.length) (c := c) (k := k) (sz := 10) (rws_below (rws_below hA bW.out) k9) (flat_len ptC 10 ptC_len l) hk hc
            rw [← flat_drop ptC 10 ptC_len] at R5
            have e5 : ((l.drop k).flatMap ptC).length = (l.length - k) * 10 := by rw [flat_len ptC 10 ptC_len, List.length_drop]
            have hs4 := k9.size
            clear g9 hHeld
            go_wp2_with (first | (refine wpList_exec (.slice (fromA (some ⟨b, off, none⟩) c k 10) (l.length - k) (c - k)) rfl (exec_sliceFrom rowPty (some ⟨b, off, none⟩) l.length c k _ hk hc hn) ?_) | (at_builtin; refine wpList_appR rowPty _ rfl (.tmp 45) (.tmp 48) rfl W.heap.size _ (k + 1) ((l.take k).flatMap ptC ++ ptC p) rfl o9 _ (fromA (some ⟨b, off, none⟩) c k 10) (l.length - k) (c - k) ((l.drop k).flatMap ptC) rfl e5 R5 (fromA_nil hn) (ptC_one _) (by omega) hs4 ?_))
            intro v6 w6 o6 g6
            have b6 := bW.out.trans ((k9.grown g6 hs4 (own_low o9)).mono bW.out.size)
            have e6 : (l.take k).flatMap ptC ++ (ptC p ++ (l.drop k).flatMap ptC) = (ptPut l p).flatMap ptC := by rw [HI.out]; simp
            have e7 : k + 1 + (l.length - k) = (ptPut l p).length := by rw [ptPut_len]; omega
            rw [e6, e7] at o6
            have HN := Lib.hid (NewR.of_own (own_weak o6 bW.out.size) b6)
            clear o9 o6 g6 k9 b6 R5 e5 e6 e7 hs4 HI
            go_wp2
            go_ret
            exact HN.out
        · skip
          simp only [Act.put, List.setIfInBounds_toArray, List.set_cons_zero, List.set_cons_succ]
          have RN := rws_newB hHeld.out (ptC p) 54
          have bBA := bB.alloc bB.size (.cells #[] 54)
          refine held_op 0 37 _ rfl rfl (by kernel_rfl) rfl (exec_none_pt _) bBA ?_
          simp only [Act.put, List.setIfInBounds_toArray, List.set_cons_zero, List.set_cons_succ]
          have oA := own_emptyB bB 54 10
          have RN := RN.alloc (by simp) (.cells #[] 54)
          refine held_opx 4 41 rfl rfl (by kernel_rfl) rfl (exec_appR rowPty _ W.heap.size _ 0 [] oA _ (some ⟨b, off, none⟩) k c ((l.take k).flatMap ptC) e1 (HR.out _ bBA) hn (ptC_one _) (by omega) (bBA.size)) ?_
          rintro v7 w7 ⟨o7, g7⟩
          have k7 := bBA.grown g7 bBA.size (own_low oA)
          refine ⟨k7, ?_⟩
          simp only [Act.put, List.setIfInBounds_toArray, List.set_cons_zero, List.set_cons_succ]
          rw [Nat.zero_add, List.nil_append] at o7
          have RN := rws_grown RN g7 (fun j h => by injection h with h; simp at h ⊢; omega)
          refine held_opx 7 44 rfl rfl (by kernel_rfl) rfl (exec_appR rowPty _ W.heap.size _ k _ o7 _ _ 1 1 (ptC p) rfl RN (fun h => by cases h) (by intro z hz; exact ptC_one [p] z (by simpa using hz)) (by omega) (k7.size)) ?_
          rintro v9 w9 ⟨o9, g9⟩
          have k9 := k7.grown g9 k7.size (own_low o7)
          refine ⟨k9, ?_⟩
          simp only [Act.put, List.setIfInBounds_toArray, List.set_cons_zero, List.set_cons_succ]
          refine held_op 8 6 v9 rfl rfl (by kernel_rfl) rfl rfl k9 ?_
          simp only [Act.put, List.setIfInBounds_toArray, List.set_cons_zero, List.set_cons_succ]
          refine wpAnyH_done (by kernel_rfl) ?_ _
          clear o7 g7 k7 RN oA bA bB bBA
          have R5 := Rws.from_ (n := l.length) (c := c) (k := k) (sz := 10) (rws_below (rws_below hA bW.out) k9) (flat_len ptC 10 ptC_len l) hk hc
          rw [← flat_drop ptC 10 ptC_len] at R5
          have e5 : ((l.drop k).flatMap ptC).length = (l.length - k) * 10 := by rw [flat_len ptC 10 ptC_len, List.length_drop]
          have hs4 := k9.size
          clear g9 hHeld
          go_wp2_with (first | (refine wpList_exec (.slice (fromA (some ⟨b, off, none⟩) c k 10) (l.length - k) (c - k)) rfl (exec_sliceFrom rowPty (some ⟨b, off, none⟩) l.length c k _ hk hc hn) ?_) | (at_builtin; refine wpList_appR rowPty _ rfl (.tmp 45) (.tmp 48) rfl W.heap.size _ (k + 1) ((l.take k).flatMap ptC ++ ptC p) rfl o9 _ (fromA (some ⟨b, off, none⟩) c k 10) (l.length - k) (c - k) ((l.drop k).flatMap ptC) rfl e5 R5 (fromA_nil hn) (ptC_one _) (by omega) hs4 ?_))
          intro v6 w6 o6 g6
          have b6 := bW.out.trans ((k9.grown g6 hs4 (own_low o9)).mono bW.out.size)
          have e6 : (l.take k).flatMap ptC ++ (ptC p ++ (l.drop k).flatMap ptC) = (ptPut l p).flatMap ptC := by rw [HI.out]; simp
          have e7 : k + 1 + (l.length - k) = (ptPut l p).length := by rw [ptPut_len]; omega
          rw [e6, e7] at o6
          have HN := Lib.hid (NewR.of_own (own_weak o6 bW.out.size) b6)
          clear o9 o6 g6 k9 b6 R5 e5 e6 e7 hs4 HI
          go_wp2
          go_ret
          exact HN.out
    · have HI : Hid (ptPut l p = l.take k ++ [p] ++ l.drop k) := insP_at _ l p pt0 k hk hall (fun h => by omega)
      clear hall
      go_wp2_with fail
      go_quiet (fail)
      go_wp2_with fail
      have KX := Lib.hid (fun w' (h : Below W.heap.size W w') => Pt.here.blk (blk_call HX.out h))
      have HR : Hid (∀ w' (h : Below W.heap.size W w'), Rws w' w'.heap.size A ((l.take k).flatMap ptC)) := fun w' h => by
        rw [flat_take ptC 10 ptC_len]; exact Rws.to_ (k * 10) (rws_below (rws_below hA bW.out) h)
      have e1 : ((l.take k).flatMap ptC).length = k * 10 := by rw [flat_len ptC 10 ptC_len, List.length_take, Nat.min_eq_left hk]
      refine wp_region_held_drew (S := fun w' => Hid (Below W.heap.size W w')) (by kernel_rfl) (below_drawn (below_drawn hb _) 1) (fun hHeld => ?_)
      refine held_take 1 38 (.slice A l.length c) rfl rfl (by kernel_rfl) (by kernel_rfl) (by kernel_rfl) (fun _ _ _ h => h) rfl hHeld (fun w _ => rfl) ?_
      refine held_take 2 39 (.int .i64 (k : Int)) rfl rfl (by kernel_rfl) (by kernel_rfl) (by kernel_rfl) (fun _ _ _ h => h) rfl hHeld (fun w _ => rfl) ?_
      simp only [Act.put, List.setIfInBounds_toArray, List.set_cons_zero, List.set_cons_succ]
      refine held_take 3 40 (.slice A k c) rfl rfl (by kernel_rfl) (by kernel_rfl) (by kernel_rfl) (fun _ _ _ h => h) rfl hHeld (fun w _ => exec_sliceTo rowPty A l.length c k w hk hc hn) ?_
      refine held_take 5 42 (ptA p) rfl rfl (by kernel_rfl) (by kernel_rfl) (by kernel_rfl) (fun _ _ _ h => h) rfl hHeld (fun w hS => exec_load_pt _ 0 p w (KX.out w hS.out)) ?_
      simp only [Act.put, List.setIfInBounds_toArray, List.set_cons_zero, List.set_cons_succ]
      have bA := hHeld.out.alloc hHeld.out.size (.cells #[] 54)
      have bB := hHeld.out.alloc hHeld.out.size (.cells (ptC p).toArray 54)
      refine wpAnyH_ready (rs := [0, 6]) (by kernel_rfl) (by simp) (ready_op 0 37 _ rfl rfl rfl (exec_none_pt _) bA ?_ (ready_op 6 43 _ rfl rfl rfl (exec_one_pt p _) bB ?_ AllReadyH.nil))
      · skip
        simp only [Act.put, List.setIfInBounds_toArray, List.set_cons_zero, List.set_cons_succ]
        have oA := own_emptyB hHeld.out 54 10
        have bAB := bA.alloc bA.size (.cells (ptC p).toArray 54)
        refine wpAnyH_ready (rs := [4, 6]) (by kernel_rfl) (by simp) (ready_opx 4 41 rfl rfl rfl (exec_appR rowPty _ W.heap.size _ 0 [] oA _ A k c ((l.take k).flatMap ptC) e1 (HR.out _ bA) hn (ptC_one _) (by omega) (bA.size)) ?_ (ready_op 6 43 _ rfl rfl rfl (exec_one_pt p _) bAB ?_ AllReadyH.nil))
        · rintro v7 w7 ⟨o7, g7⟩
          have k7 := bA.grown g7 bA.size (own_low oA)
          refine ⟨k7, ?_⟩
          simp only [Act.put, List.setIfInBounds_toArray, List.set_cons_zero, List.set_cons_succ]
          rw [Nat.zero_add, List.nil_append] at o7
          refine held_op 6 43 (.slice (some ⟨w7.heap.size, 0, none⟩) 1 1) rfl rfl (by kernel_rfl) rfl (exec_one_pt p _) (k7.alloc k7.size _) ?_
          simp only [Act.put, List.setIfInBounds_toArray, List.set_cons_zero, List.set_cons_succ]
          have k8 := k7.alloc k7.size (.cells (ptC p).toArray 54)
          have o8 := o7.alloc (.cells (ptC p).toArray 54)
          refine held_opx 7 44 rfl rfl (by kernel_rfl) rfl (exec_appR rowPty _ W.heap.size _ k _ o8 _ _ 1 1 (ptC p) rfl (Rws.new w7 (ptC p) 54) (fun h => by cases h) (by intro z hz; exact ptC_one [p] z (by simpa using hz)) (by omega) (k8.size)) ?_
          rintro v9 w9 ⟨o9, g9⟩
          have k9 := k8.grown g9 k8.size (own_low o8)
          refine ⟨k9, ?_⟩
          simp only [Act.put, List.setIfInBounds_toArray, List.set_cons_zero, List.set_cons_succ]
          refine held_op 8 6 v9 rfl rfl (by kernel_rfl) rfl rfl k9 ?_
          simp only [Act.put, List.setIfInBounds_toArray, List.set_cons_zero, List.set_cons_succ]
          refine wpAnyH_done (by kernel_rfl) ?_ _
          clear o7 g7 k7 k8 o8 oA bA bB bAB
          have R5 := Rws.from_ (n := l.length) (c := c) (k := k) (sz := 10) (rws_below (rws_below hA bW.out) k9) (flat_len ptC 10 ptC_len l) hk hc
          rw [← flat_drop ptC 10 ptC_len] at R5
          have e5 : ((l.drop k).flatMap ptC).length = (l.length - k) * 10 := by rw [flat_len ptC 10 ptC_len, List.length_drop]
          have hs4 := k9.size
          clear g9 hHeld
          go_wp2_with (first | (refine wpList_exec (.slice (fromA A c k 10) (l.length - k) (c - k)) rfl (exec_sliceFrom rowPty A l.length c k _ hk hc hn) ?_) | (at_builtin; refine wpList_appR rowPty _ rfl (.tmp 45) (.tmp 48) rfl W.heap.size _ (k + 1) ((l.take k).flatMap ptC ++ ptC p) rfl o9 _ (fromA A c k 10) (l.length - k) (c - k) ((l.drop k).flatMap ptC) rfl e5 R5 (fromA_nil hn) (ptC_one _) (by omega) hs4 ?_))
          intro v6 w6 o6 g6
          have b6 := bW.out.trans ((k9.grown g6 hs4 (own_low o9)).mono bW.out.size)
          have e6 : (l.take k).flatMap ptC ++ (ptC p ++ (l.drop k).flatMap ptC) = (ptPut l p).flatMap ptC := by rw [HI.out]; simp
          have e7 : k + 1 + (l.length - k) = (ptPut l p).length := by rw [ptPut_len]; omega
          rw [e6, e7] at o6
          have HN := Lib.hid (NewR.of_own (own_weak o6 bW.out.size) b6)
          clear o9 o6 g6 k9 b6 R5 e5 e6 e7 hs4 HI
          go_wp2
          go_ret
          exact HN.out
        · skip
          simp only [Act.put, List.setIfInBounds_toArray, List.set_cons_zero, List.set_cons_succ]
          have RN := rws_newB bA (ptC p) 54
          have oB := oA.alloc (.cells (ptC p).toArray 54)
          refine held_opx 4 41 rfl rfl (by kernel_rfl) rfl (exec_appR rowPty _ W.heap.size _ 0 [] oB _ A k c ((l.take k).flatMap ptC) e1 (HR.out _ bAB) hn (ptC_one _) (by omega) (bAB.size)) ?_
          rintro v7 w7 ⟨o7, g7⟩
          have k7 := bAB.grown g7 bAB.size (own_low oB)
          refine ⟨k7, ?_⟩
          simp only [Act.put, List.setIfInBounds_toArray, List.set_cons_zero, List.set_cons_succ]
          rw [Nat.zero_add, List.nil_append] at o7
          have RN := rws_grown RN g7 (fun j h => by injection h with h; simp at h ⊢; omega)
          refine held_opx 7 44 rfl rfl (by kernel_rfl) rfl (exec_appR rowPty _ W.heap.size _ k _ o7 _ _ 1 1 (ptC p) rfl RN (fun h => by cases h) (by intro z hz; exact ptC_one [p] z (by simpa using hz)) (by omega) (k7.size)) ?_
          rintro v9 w9 ⟨o9, g9⟩
          have k9 := k7.grown g9 k7.size (own_low o7)
          refine ⟨k9, ?_⟩
          simp only [Act.put, List.setIfInBounds_toArray, List.set_cons_zero, List.set_cons_succ]
          refine held_op 8 6 v9 rfl rfl (by kernel_rfl) rfl rfl k9 ?_
          simp only [Act.put, List.setIfInBounds_toArray, List.set_cons_zero, List.set_cons_succ]
          refine wpAnyH_done (by kernel_rfl) ?_ _
          clear o7 g7 k7 RN oB oA bA bB bAB
          have R5 := Rws.from_ (n := l.length) (c := c) (k := k) (sz := 10) (rws_below (rws_below hA bW.out) k9) (flat_len ptC 10 ptC_len l) hk hc
          rw [← flat_drop ptC 10 ptC_len] at R5
          have e5 : ((l.drop k).flatMap ptC).length = (l.length - k) * 10 := by rw [flat_len ptC 10 ptC_len, List.length_drop]
          have hs4 := k9.size
          clear g9 hHeld
          go_wp2_with (first | (refine wpList_exec (.slice (fromA A c k 10) (l.length - k) (c - k)) rfl (exec_sliceFrom rowPty A l.length c k _ hk hc hn) ?_) | (at_builtin; refine wpList_appR rowPty _ rfl (.tmp 45) (.tmp 48) rfl W.heap.size _ (k + 1) ((l.take k).flatMap ptC ++ ptC p) rfl o9 _ (fromA A c k 10) (l.length - k) (c - k) ((l.drop k).flatMap ptC) rfl e5 R5 (fromA_nil hn) (ptC_one _) (by omega) hs4 ?_))
          intro v6 w6 o6 g6
          have b6 := bW.out.trans ((k9.grown g6 hs4 (own_low o9)).mono bW.out.size)
          have e6 : (l.take k).flatMap ptC ++ (ptC p ++ (l.drop k).flatMap ptC) = (ptPut l p).flatMap ptC := by rw [HI.out]; simp
          have e7 : k + 1 + (l.length - k) = (ptPut l p).length := by rw [ptPut_len]; omega
          rw [e6, e7] at o6
          have HN := Lib.hid (NewR.of_own (own_weak o6 bW.out.size) b6)
          clear o9 o6 g6 k9 b6 R5 e5 e6 e7 hs4 HI
          go_wp2
          go_ret
          exact HN.out
      · skip
        simp only [Act.put, List.setIfInBounds_toArray, List.set_cons_zero, List.set_cons_succ]
        have RN := rws_newB hHeld.out (ptC p) 54
        have bBA := bB.alloc bB.size (.cells #[] 54)
        refine held_op 0 37 _ rfl rfl (by kernel_rfl) rfl (exec_none_pt _) bBA ?_
        simp only [Act.put, List.setIfInBounds_toArray, List.set_cons_zero, List.set_cons_succ]
        have oA := own_emptyB bB 54 10
        have RN := RN.alloc (by simp) (.cells #[] 54)
        refine held_opx 4 41 rfl rfl (by kernel_rfl) rfl (exec_appR rowPty _ W.heap.size _ 0 [] oA _ A k c ((l.take k).flatMap ptC) e1 (HR.out _ bBA) hn (ptC_one _) (by omega) (bBA.size)) ?_
        rintro v7 w7 ⟨o7, g7⟩
        have k7 := bBA.grown g7 bBA.size (own_low oA)
        refine ⟨k7, ?_⟩
        simp only [Act.put, List.setIfInBounds_toArray, List.set_cons_zero, List.set_cons_succ]
        rw [Nat.zero_add, List.nil_append] at o7
        have RN := rws_grown RN g7 (fun j h => by injection h with h; simp at h ⊢; omega)
        refine held_opx 7 44 rfl rfl (by kernel_rfl) rfl (exec_appR rowPty _ W.heap.size _ k _ o7 _ _ 1 1 (ptC p) rfl RN (fun h => by cases h) (by intro z hz; exact ptC_one [p] z (by simpa using hz)) (by omega) (k7.size)) ?_
        rintro v9 w9 ⟨o9, g9⟩
        have k9 := k7.grown g9 k7.size (own_low o7)
        refine ⟨k9, ?_⟩
        simp only [Act.put, List.setIfInBounds_toArray, List.set_cons_zero, List.set_cons_succ]
        refine held_op 8 6 v9 rfl rfl (by kernel_rfl) rfl rfl k9 ?_
        simp only [Act.put, List.setIfInBounds_toArray, List.set_cons_zero, List.set_cons_succ]
        refine wpAnyH_done (by kernel_rfl) ?_ _
        clear o7 g7 k7 RN oA bA bB bBA
        have R5 := Rws.from_ (n := l.length) (c := c) (k := k) (sz := 10) (rws_below (rws_below hA bW.out) k9) (flat_len ptC 10 ptC_len l) hk hc
        rw [← flat_drop ptC 10 ptC_len] at R5
        have e5 : ((l.drop k).flatMap ptC).length = (l.length - k) * 10 := by rw [flat_len ptC 10 ptC_len, List.length_drop]
        have hs4 := k9.size
        clear g9 hHeld
        go_wp2_with (first | (refine wpList_exec (.slice (fromA A c k 10) (l.length - k) (c - k)) rfl (exec_sliceFrom rowPty A l.length c k _ hk hc hn) ?_) | (at_builtin; refine wpList_appR rowPty _ rfl (.tmp 45) (.tmp 48) rfl W.heap.size _ (k + 1) ((l.take k).flatMap ptC ++ ptC p) rfl o9 _ (fromA A c k 10) (l.length - k) (c - k) ((l.drop k).flatMap ptC) rfl e5 R5 (fromA_nil hn) (ptC_one _) (by omega) hs4 ?_))
        intro v6 w6 o6 g6
        have b6 := bW.out.trans ((k9.grown g6 hs4 (own_low o9)).mono bW.out.size)
        have e6 : (l.take k).flatMap ptC ++ (ptC p ++ (l.drop k).flatMap ptC) = (ptPut l p).flatMap ptC := by rw [HI.out]; simp
        have e7 : k + 1 + (l.length - k) = (ptPut l p).length := by rw [ptPut_len]; omega
        rw [e6, e7] at o6
        have HN := Lib.hid (NewR.of_own (own_weak o6 bW.out.size) b6)
        clear o9 o6 g6 k9 b6 R5 e5 e6 e7 hs4 HI
        go_wp2
        go_ret
        exact HN.out
theorem half_set (l : List Pt) (k : Nat) (p : Pt) (hk : k < l.length) : half_pt (l.flatMap ptC) (l.set k p) k = l.flatMap ptC ∧ half_pt (l.flatMap ptC) (l.set k p) (k + 1) = (l.set k p).flatMap ptC := by
  have h1 : (l.set k p).take k = l.take k := by rw [List.take_set_of_le (Nat.le_refl k)]
  have h2 : (l.set k p).drop (k + 1) = l.drop (k + 1) := by rw [List.drop_set_of_lt (by omega)]
  constructor
  · unfold half_pt
    rw [h1, ← flat_drop ptC 10 ptC_len, ← List.flatMap_append, List.take_append_drop]
  · unfold half_pt
    rw [← flat_drop ptC 10 ptC_len, ← h2, ← List.flatMap_append, List.take_append_drop]
theorem cells_set (l : List Pt) (k : Nat) (p : Pt) (hk : k < l.length) :
    ((((((((((l.flatMap ptC).set (k * 10) (.int .i64 p.id)).set (k * 10 + 1) (.int .i64 p.cabin)).set (k * 10 + 2) (.int .i64 p.from_)).set (k * 10 + 3) (.int .i64 p.size)).set (k * 10 + 4) (.int .i64 p.tier)).set (k * 10 + 5) (.int .i64 p.since)).set (k * 10 + 6) (.int .i64 p.turn)).set (k * 10 + 7) (.int .i64 p.state)).set (k * 10 + 8) (.int .i64 p.until_)).set (k * 10 + 9) (.int .i64 p.asked) = (l.set k p).flatMap ptC := by
  have h := half_pt_set (l.flatMap ptC) (l.set k p) k (by rw [flat_len ptC 10 ptC_len, List.length_set]) (by rw [List.length_set]; exact hk)
  rw [(half_set l k p hk).1, (half_set l k p hk).2] at h
  have e : (l.set k p).getD k pt0 = p := by simp [List.getD_eq_getElem?_getD, hk]
  rw [e] at h
  exact h
set_option maxRecDepth 100000 in
set_option maxHeartbeats 6400000 in
theorem partyPut_old (A : Option Addr) (l : List Pt) (c k : Nat) (p : Pt) (w : World) (hl : l.length ≤ 2097152) (hn : A = none → c = 0) (hA : Rws w w.heap.size A (l.flatMap ptC)) (hk : k < l.length) (hp : ptAt l p.id = (k : Int)) :
    Calls Try.prog 20 #[.slice A l.length c, ptA p] w (NewR 54 10 w (l.set k p).length ((l.set k p).flatMap ptC)) := by
  obtain ⟨W, hW⟩ : ∃ W, w.alloc (.cells #[.int .i64 p.id, .int .i64 p.cabin, .int .i64 p.from_, .int .i64 p.size, .int .i64 p.tier, .int .i64 p.since, .int .i64 p.turn, .int .i64 p.state, .int .i64 p.until_, .int .i64 p.asked] 54) = W := ⟨_, rfl⟩
  have bW : Hid (Below w.heap.size w W) := by show Below _ _ _; rw [← hW]; exact (Below.refl _ _).alloc (Nat.le_refl _) _
  have HX : Hid (W.heap[w.heap.size]? = some (.cells #[.int .i64 p.id, .int .i64 p.cabin, .int .i64 p.from_, .int .i64 p.size, .int .i64 p.tier, .int .i64 p.since, .int .i64 p.turn, .int .i64 p.state, .int .i64 p.until_, .int .i64 p.asked] 54)) := by show _ = _; rw [← hW]; exact heap_new _ _
  have CA := Lib.hid (l11At_spec A l c p.id W hl (rws_below hA bW.out))
  rw [hp] at CA
  have O1 := own_empty W W.heap.size 54 10 (Nat.le_refl _)
  have x1 : Below W.heap.size W (W.alloc (.cells #[] 54)) := (Below.refl _ _).alloc (Nat.le_refl _) _
  have R1 := rws_below (rws_below hA bW.out) x1
  obtain ⟨q0, _⟩ := Pt.here.blk HX.out
  have HS := Lib.hid (cells_set l k p hk)
  have hlen : Hid ((l.set k p).length = l.length) := List.length_set
  have hn9 : ¬ ((k : Int) < 0) := by omega
  clear hp
  unfold ptA
  go_enter Try.func20, Try.ntmps20
  go_wp2_with fail
  clear hW q0
  refine CA.out.mono ?_
  rintro e _ ⟨rfl, rfl⟩
  go_wp2_with (at_builtin; refine wpList_appR rowPty _ rfl (.tmp 11) (.tmp 12) rfl W.heap.size _ 0 [] rfl O1 _ A l.length c (l.flatMap ptC) rfl (flat_len ptC 10 ptC_len l) R1 hn (ptC_one _) (by omega) (by simp) ?_)
  intro v2 w2 o2 g2
  have b3 := x1.grown g2 (by simp) (own_low O1)
  try rw [Nat.zero_add, List.nil_append] at o2
  obtain ⟨G, gc, rfl, _⟩ := own_form o2
  have HX2 := blk_call HX.out b3
  obtain ⟨d0, d1, d2, d3, d4, d5, d6, d7, d8, d9⟩ := Pt.here.blk HX2
  obtain ⟨g, rfl, hgs⟩ : ∃ g, G = some ⟨g, 0, none⟩ ∧ W.heap.size ≤ g := by
    rcases o2.2 with ⟨h, hz⟩ | ⟨gb, cap, cur, h, hbase, _⟩
    · omega
    · injection h with h1
      exact ⟨gb, h1, hbase⟩
  have hln := flat_len ptC 10 ptC_len l
  have own1 := o2
  clear o2
  generalize l.flatMap ptC = cs at *
  obtain ⟨u0, hu0⟩ : ∃ u, w2.cell? ⟨g, k * 10, none⟩ = some u := by rw [own1.cellAt _ (by omega)]; exact ⟨_, List.getElem?_eq_getElem (by omega)⟩
  have hf0 := own1.frozenAt (k * 10)
  obtain ⟨u1, hu1⟩ : ∃ u, w2.cell? ⟨g, k * 10 + 1, none⟩ = some u := by rw [own1.cellAt _ (by omega)]; exact ⟨_, List.getElem?_eq_getElem (by omega)⟩
  have hf1 := own1.frozenAt (k * 10 + 1)
  obtain ⟨u2, hu2⟩ : ∃ u, w2.cell? ⟨g, k * 10 + 2, none⟩ = some u := by rw [own1.cellAt _ (by omega)]; exact ⟨_, List.getElem?_eq_getElem (by omega)⟩
  have hf2 := own1.frozenAt (k * 10 + 2)
  obtain ⟨u3, hu3⟩ : ∃ u, w2.cell? ⟨g, k * 10 + 3, none⟩ = some u := by rw [own1.cellAt _ (by omega)]; exact ⟨_, List.getElem?_eq_getElem (by omega)⟩
  have hf3 := own1.frozenAt (k * 10 + 3)
  obtain ⟨u4, hu4⟩ : ∃ u, w2.cell? ⟨g, k * 10 + 4, none⟩ = some u := by rw [own1.cellAt _ (by omega)]; exact ⟨_, List.getElem?_eq_getElem (by omega)⟩
  have hf4 := own1.frozenAt (k * 10 + 4)
  obtain ⟨u5, hu5⟩ : ∃ u, w2.cell? ⟨g, k * 10 + 5, none⟩ = some u := by rw [own1.cellAt _ (by omega)]; exact ⟨_, List.getElem?_eq_getElem (by omega)⟩
  have hf5 := own1.frozenAt (k * 10 + 5)
  obtain ⟨u6, hu6⟩ : ∃ u, w2.cell? ⟨g, k * 10 + 6, none⟩ = some u := by rw [own1.cellAt _ (by omega)]; exact ⟨_, List.getElem?_eq_getElem (by omega)⟩
  have hf6 := own1.frozenAt (k * 10 + 6)
  obtain ⟨u7, hu7⟩ : ∃ u, w2.cell? ⟨g, k * 10 + 7, none⟩ = some u := by rw [own1.cellAt _ (by omega)]; exact ⟨_, List.getElem?_eq_getElem (by omega)⟩
  have hf7 := own1.frozenAt (k * 10 + 7)
  obtain ⟨u8, hu8⟩ : ∃ u, w2.cell? ⟨g, k * 10 + 8, none⟩ = some u := by rw [own1.cellAt _ (by omega)]; exact ⟨_, List.getElem?_eq_getElem (by omega)⟩
  have hf8 := own1.frozenAt (k * 10 + 8)
  obtain ⟨u9, hu9⟩ : ∃ u, w2.cell? ⟨g, k * 10 + 9, none⟩ = some u := by rw [own1.cellAt _ (by omega)]; exact ⟨_, List.getElem?_eq_getElem (by omega)⟩
  have hf9 := own1.frozenAt (k * 10 + 9)
  have S0 := own1.stored (k * 10) (.int .i64 p.id)
  have S1 := S0.1.stored (k * 10 + 1) (.int .i64 p.cabin)
  have S2 := S1.1.stored (k * 10 + 2) (.int .i64 p.from_)
  have S3 := S2.1.stored (k * 10 + 3) (.int .i64 p.size)
  have S4 := S3.1.stored (k * 10 + 4) (.int .i64 p.tier)
  have S5 := S4.1.stored (k * 10 + 5) (.int .i64 p.since)
  have S6 := S5.1.stored (k * 10 + 6) (.int .i64 p.turn)
  have S7 := S6.1.stored (k * 10 + 7) (.int .i64 p.state)
  have S8 := S7.1.stored (k * 10 + 8) (.int .i64 p.until_)
  have S9 := S8.1.stored (k * 10 + 9) (.int .i64 p.asked)
  have SN := Lib.hid S9.1
  have BN := Lib.hid ((((((((((b3.setCell (p := ⟨g, k * 10, none⟩) hgs (.int .i64 p.id)).setCell (p := ⟨g, k * 10 + 1, none⟩) hgs (.int .i64 p.cabin)).setCell (p := ⟨g, k * 10 + 2, none⟩) hgs (.int .i64 p.from_)).setCell (p := ⟨g, k * 10 + 3, none⟩) hgs (.int .i64 p.size)).setCell (p := ⟨g, k * 10 + 4, none⟩) hgs (.int .i64 p.tier)).setCell (p := ⟨g, k * 10 + 5, none⟩) hgs (.int .i64 p.since)).setCell (p := ⟨g, k * 10 + 6, none⟩) hgs (.int .i64 p.turn)).setCell (p := ⟨g, k * 10 + 7, none⟩) hgs (.int .i64 p.state)).setCell (p := ⟨g, k * 10 + 8, none⟩) hgs (.int .i64 p.until_)).setCell (p := ⟨g, k * 10 + 9, none⟩) hgs (.int .i64 p.asked))
  rw [HS.out] at SN
  have lt1 : (k : Int) < (l.length : Int) := by omega
  have B0 := bW.out
  have R := Lib.hid (NewR.of_own (own_weak SN.out B0.size) (B0.trans (BN.out.mono B0.size)))
  clear S0 S1 S2 S3 S4 S5 S6 S7 S8 S9 own1 b3 HX2 SN BN x1 R1 O1 CA
  go_wp2
  go_ret
  rw [hlen.out]
  exact R.out
set_option maxRecDepth 100000 in
theorem ptPut_spec (A : Option Addr) (l : List Pt) (c : Nat) (p : Pt) (w : World) (hl : l.length ≤ 2097152) (hc : l.length ≤ c) (hn : A = none → c = 0) (hA : Rws w w.heap.size A (l.flatMap ptC)) :
    Calls Try.prog 20 #[.slice A l.length c, ptA p] w (NewR 54 10 w (putPV l p).length ((putPV l p).flatMap ptC)) := by
  have hin := ptAt_in l p.id
  by_cases h0 : ptAt l p.id < 0
  · have HV : putPV l p = ptPut l p := by unfold putPV; rw [if_pos h0]
    rw [HV]
    exact partyPut_new A l c p w hl hc hn hA (by omega)
  · obtain ⟨k, hk⟩ : ∃ k : Nat, ptAt l p.id = k := ⟨(ptAt l p.id).toNat, by omega⟩
    have HV : putPV l p = l.set k p := by unfold putPV; rw [if_neg h0, hk, Int.toNat_natCast]
    rw [HV]
    exact partyPut_old A l c k p w hl hn hA (by omega) hk
set_option maxRecDepth 100000 in
set_option maxHeartbeats 3200000 in
theorem ptCut_spec (A : Option Addr) (l : List Pt) (c : Nat) (id : Int) (w : World) (hl : l.length ≤ 2097152) (hc : l.length ≤ c) (hn : A = none → c = 0) (hA : Rws w w.heap.size A (l.flatMap ptC)) :
    Calls Try.prog 27 #[.slice A l.length c, .int .i64 id] w (NewR 54 10 w (cutPV l id).length ((cutPV l id).flatMap ptC)) := by
  have CA := Lib.hid (l11At_spec A l c id w hl hA)
  have hin := ptAt_in l id
  obtain ⟨z, hz⟩ : ∃ z, ptAt l id = z := ⟨_, rfl⟩
  rw [hz] at CA hin
  by_cases h0 : z < 0
  · have HV : cutPV l id = l := by unfold cutPV; rw [hz, if_pos h0]
    rw [HV]
    have O1 := own_empty w w.heap.size 54 10 (Nat.le_refl _)
    have x1 : Below w.heap.size w (w.alloc (.cells #[] 54)) := (Below.refl _ _).alloc (Nat.le_refl _) _
    have R1 := rws_below hA x1
    clear hz HV
    go_enter Try.func27, Try.ntmps27
    go_wp2_with fail
    refine CA.out.mono ?_
    rintro e _ ⟨rfl, rfl⟩
    go_wp2_with (at_builtin; refine wpList_appR rowPty _ rfl (.tmp 11) (.tmp 12) rfl w.heap.size _ 0 [] rfl O1 _ A l.length c (l.flatMap ptC) rfl (flat_len ptC 10 ptC_len l) R1 hn (ptC_one _) (by omega) (by simp) ?_)
    intro v2 w2 o2 g2
    have b3 := x1.grown g2 (by simp) (own_low O1)
    try rw [Nat.zero_add, List.nil_append] at o2
    have R := Lib.hid (NewR.of_own o2 b3)
    clear o2 g2 b3 O1 x1 R1 CA
    go_wp2
    go_ret
    exact R.out
  · obtain ⟨k, rfl⟩ : ∃ k : Nat, z = k := ⟨z.toNat, by omega⟩
    have hkl : k < l.length := by omega
    have HV : cutPV l id = l.take k ++ l.drop (k + 1) := by unfold cutPV; rw [hz, if_neg h0, Int.toNat_natCast]
    rw [HV]
    have e1 : ((l.take k).flatMap ptC).length = k * 10 := by rw [flat_len ptC 10 ptC_len, List.length_take, Nat.min_eq_left (by omega)]
    have e2 : ((l.drop (k + 1)).flatMap ptC).length = (l.length - (k + 1)) * 10 := by rw [flat_len ptC 10 ptC_len, List.length_drop]
    have H1 : Hid (∀ w' (h : Below w.heap.size w w'), Rws w' w'.heap.size A ((l.take k).flatMap ptC)) := fun w' h => by
      rw [flat_take ptC 10 ptC_len]; exact Rws.to_ (k * 10) (rws_below hA h)
    have H2 : Hid (∀ w' (h : Below w.heap.size w w'), Rws w' w'.heap.size (fromA A c (k + 1) 10) ((l.drop (k + 1)).flatMap ptC)) := fun w' h => by
      rw [flat_drop ptC 10 ptC_len]; exact (rws_below hA h).from_ (n := l.length) (c := c) (k := k + 1) (sz := 10) (flat_len ptC 10 ptC_len l) (by omega) hc
    have elen : Hid ((l.take k ++ l.drop (k + 1)).length = k + (l.length - (k + 1))) := by show _ = _; rw [List.length_append, List.length_take, List.length_drop, Nat.min_eq_left (by omega)]
    have ecat : Hid ((l.take k ++ l.drop (k + 1)).flatMap ptC = (l.take k).flatMap ptC ++ (l.drop (k + 1)).flatMap ptC) := List.flatMap_append
    clear hz HV
    go_enter Try.func27, Try.ntmps27
    go_wp2_with fail
    refine CA.out.mono ?_
    rintro e _ ⟨rfl, rfl⟩
    go_wp2_with fail
    clear CA
    refine wp_region_held_drew (S := fun w' => Hid (Below w.heap.size w w')) (by kernel_rfl) (below_drawn (Below.refl _ _) 1) (fun hHeld => ?_)
    refine held_take 1 15 (.slice A l.length c) rfl rfl (by kernel_rfl) (by kernel_rfl) (by kernel_rfl) (fun _ _ _ h => h) rfl hHeld (fun w _ => rfl) ?_
    refine held_take 2 16 (.int .i64 (k : Int)) rfl rfl (by kernel_rfl) (by kernel_rfl) (by kernel_rfl) (fun _ _ _ h => h) rfl hHeld (fun w _ => rfl) ?_
    simp only [Act.put, List.setIfInBounds_toArray, List.set_cons_zero, List.set_cons_succ]
    refine held_take 3 17 (.slice A k c) rfl rfl (by kernel_rfl) (by kernel_rfl) (by kernel_rfl) (fun _ _ _ h => h) rfl hHeld (fun w _ => exec_sliceTo rowPty A l.length c k w (by omega) hc hn) ?_
    refine held_take 5 19 (.slice A l.length c) rfl rfl (by kernel_rfl) (by kernel_rfl) (by kernel_rfl) (fun _ _ _ h => h) rfl hHeld (fun w _ => rfl) ?_
    simp only [Act.put, List.setIfInBounds_toArray, List.set_cons_zero, List.set_cons_succ]
    refine held_take 6 20 (.int .i64 (k : Int)) rfl rfl (by kernel_rfl) (by kernel_rfl) (by kernel_rfl) (fun _ _ _ h => h) rfl hHeld (fun w _ => rfl) ?_
    refine held_take 7 21 (.int .i64 ((k + 1 : Nat) : Int)) rfl rfl (by kernel_rfl) (by kernel_rfl) (by kernel_rfl) (fun _ _ _ h => h) rfl hHeld (fun w _ => exec_addI (k : Int) 1 _ w (by omega) (by omega) (by omega)) ?_
    simp only [Act.put, List.setIfInBounds_toArray, List.set_cons_zero, List.set_cons_succ]
    refine held_take 8 22 (.slice (fromA A c (k + 1) 10) (l.length - (k + 1)) (c - (k + 1))) rfl rfl (by kernel_rfl) (by kernel_rfl) (by kernel_rfl) (fun _ _ _ h => h) rfl hHeld (fun w _ => exec_sliceFrom rowPty A l.length c (k + 1) w (by omega) hc hn) ?_
    simp only [Act.put, List.setIfInBounds_toArray, List.set_cons_zero, List.set_cons_succ]
    have bA := hHeld.out.alloc hHeld.out.size (.cells #[] 54)
    have oA := own_emptyB hHeld.out 54 10
    refine held_op 0 14 (.slice (some ⟨w.drew.heap.size, 0, none⟩) 0 0) rfl rfl (by kernel_rfl) rfl (exec_none_pt _) (Lib.hid bA) ?_
    simp only [Act.put, List.setIfInBounds_toArray, List.set_cons_zero, List.set_cons_succ]
    refine held_opx 4 18 rfl rfl (by kernel_rfl) rfl (exec_appR rowPty _ w.heap.size _ 0 [] oA _ A k c ((l.take k).flatMap ptC) e1 (H1.out _ bA) hn (ptC_one _) (by omega) bA.size) ?_
    rintro v7 w7 ⟨o7, g7⟩
    have k7 := bA.grown g7 bA.size (own_low oA)
    refine ⟨Lib.hid k7, ?_⟩
    simp only [Act.put, List.setIfInBounds_toArray, List.set_cons_zero, List.set_cons_succ]
    rw [Nat.zero_add, List.nil_append] at o7
    refine held_opx 9 23 rfl rfl (by kernel_rfl) rfl (exec_appR rowPty _ w.heap.size _ k _ o7 _ _ (l.length - (k + 1)) (c - (k + 1)) ((l.drop (k + 1)).flatMap ptC) e2 (H2.out _ k7) (fromA_nil hn) (ptC_one _) (by omega) k7.size) ?_
    rintro v9 w9 ⟨o9, g9⟩
    have k9 := k7.grown g9 k7.size (own_low o7)
    refine ⟨Lib.hid k9, ?_⟩
    simp only [Act.put, List.setIfInBounds_toArray, List.set_cons_zero, List.set_cons_succ]
    refine held_op 10 4 v9 rfl rfl (by kernel_rfl) rfl rfl (Lib.hid k9) ?_
    simp only [Act.put, List.setIfInBounds_toArray, List.set_cons_zero, List.set_cons_succ]
    refine wpAnyH_done (by kernel_rfl) ?_ _
    have R := Lib.hid (NewR.of_own o9 k9)
    clear o9 g9 k9 o7 g7 k7 oA bA H1 H2 hHeld
    go_wp2
    go_ret
    rw [elen.out, ecat.out]
    exact R.out
end Go.Proofs.Ytlflgflmlfileaa
