/- WheelNew, l9Copy, WheelPut of the model: their spokes lie apart. -/
import Derived.Test.YtflomkebgiemaaaRows
import Derived.Test.YtflomkebgiemaaaWh5
namespace Go.Proofs.Ytflomkebgiemaaa
open Go.RowKit
set_option linter.unusedSimpArgs false
set_option linter.unusedVariables false
theorem ApartW.set {sp : List Sp} (h : ApartW sp) (k : Nat) (s : Sp) (hn : ∀ t ∈ sp, ∀ q, t.blk = some q → s.blk ≠ some q) : ApartW (sp.set k s) := by
  intro i j hij hj q hq
  rw [List.length_set] at hj
  have gi : (sp.set k s).getD i sp0 = if k = i then s else sp.getD i sp0 := by
    simp only [List.getD_eq_getElem?_getD, List.getElem?_set]
    by_cases e : k = i
    · subst e; simp [show k < sp.length by omega]
    · simp [e]
  have gj : (sp.set k s).getD j sp0 = if k = j then s else sp.getD j sp0 := by
    simp only [List.getD_eq_getElem?_getD, List.getElem?_set]
    by_cases e : k = j
    · subst e; simp [hj]
    · simp [e]
  rw [gi] at hq
  rw [gj]
  by_cases e1 : k = i
  · rw [if_pos e1] at hq
    rw [if_neg (by omega)]
    intro h2
    exact hn _ (getD_mem sp j sp0 hj) q h2 hq
  · rw [if_neg e1] at hq
    by_cases e2 : k = j
    · rw [if_pos e2]; exact hn _ (getD_mem sp i sp0 (by omega)) q hq
    · rw [if_neg e2]; exact h i j hij hj q hq
set_option maxRecDepth 100000 in
set_option maxHeartbeats 3200000 in
theorem wheelNew_ap (w : World) : Calls Try.prog 29 #[] w (NewX w nineW) := by
  obtain ⟨W, hW⟩ : ∃ W, (w.alloc (.cells #[.slice none 0 0] 26)).alloc (.cells #[.slice none 0 0] 26) = W := ⟨_, rfl⟩
  have T0 : W.heap[w.heap.size]? = some (.cells #[.slice none 0 0] 26) ∧ W.heap[w.heap.size + 1]? = some (.cells #[.slice none 0 0] 26) ∧ Below w.heap.size w W := by rw [← hW]; exact two_at w _ _ _ (Below.refl _ _)
  have HT := Lib.hid T0
  have HW := Lib.hid hW
  have hWs : Hid (W.heap.size = w.heap.size + 2) := by show _ = _; rw [← hW]; simp
  clear T0 hW
  go_enter Try.func29, Try.ntmps29
  go_wp2_with fail
  rw [HW.out]
  clear HW
  go_loopw [2] (fun i wr => ∃ (k : Nat) (A : Option Addr) (c : Nat) (sp : List Sp), k ≤ 9 ∧ i = .int .i64 k ∧ sp.length = k ∧ sp.map (·.l) = List.replicate k [] ∧ OwnW wr W.heap.size A c sp ∧ Hid (ApartW sp) ∧
      wr.heap[w.heap.size]? = some (.cells #[.slice none 0 0] 26) ∧ wr.heap[w.heap.size + 1]? = some (.cells #[.slice A k c] 26) ∧ Below w.heap.size w wr ∧ W.heap.size ≤ wr.heap.size) (fun i _ => 9 - (intOf i).toNat)
  case atStart => exact ⟨0, none, 0, [], by omega, rfl, rfl, rfl, ⟨World.ownsRow_nil _ _ _ _, by simp⟩, ApartW.nil, HT.out.1, HT.out.2.1, HT.out.2.2, Nat.le_refl _⟩
  case round =>
    clear HT
    obtain ⟨k, A, c, sp, hk, rfl, hlen, hrep, hO, hap, h0, h1, hb, hs⟩ := hrel
    have c1 := cell_of_row _ _ 0 _ _ _ h1
    simp at c1
    by_cases hlt : k < 9
    · have hr := hO.row
      rw [hlen] at hr
      have O1 := (hr.alloc (.cells #[] 33)).alloc (.cells #[.slice (some ⟨wr.heap.size, 0, none⟩) 0 0] 29)
      have RN : Rws ((wr.alloc (.cells #[] 33)).alloc (.cells #[.slice (some ⟨wr.heap.size, 0, none⟩) 0 0] 29)) (wr.heap.size + 1 + 1) (some ⟨wr.heap.size + 1, 0, none⟩) (spC ⟨some ⟨wr.heap.size, 0, none⟩, 0, []⟩) := by
        have := Rws.new (wr.alloc (.cells #[] 33)) (spC ⟨some ⟨wr.heap.size, 0, none⟩, 0, []⟩) 29
        rw [World.size_alloc] at this
        exact this
      have I1 : ∀ s ∈ sp ++ [⟨some ⟨wr.heap.size, 0, none⟩, 0, []⟩], Sp.own ((wr.alloc (.cells #[] 33)).alloc (.cells #[.slice (some ⟨wr.heap.size, 0, none⟩) 0 0] 29)) W.heap.size s := by
        intro s hs2
        rcases List.mem_append.1 hs2 with h | h
        · exact ((hO.sp s h).alloc _).alloc _
        · simp at h; subst h
          exact (own_empty wr W.heap.size 33 2 hs).alloc _
      have B1 : Below w.heap.size w ((wr.alloc (.cells #[] 33)).alloc (.cells #[.slice (some ⟨wr.heap.size, 0, none⟩) 0 0] 29)) := (hb.alloc hb.size _).alloc (by have := hb.size; simp; omega) _
      have H0 := Lib.hid (blk_alloc (blk_alloc h0 (.cells #[] 33)) (.cells #[.slice (some ⟨wr.heap.size, 0, none⟩) 0 0] 29))
      have H1 := Lib.hid (blk_alloc (blk_alloc h1 (.cells #[] 33)) (.cells #[.slice (some ⟨wr.heap.size, 0, none⟩) 0 0] 29))
      have II := Lib.hid I1
      have BB := Lib.hid B1
      have lt1 := blk_lt h1
      have ltW : w.heap.size + 1 < W.heap.size := by have := hWs.out; omega
      have HP : Hid (ApartW (sp ++ [⟨some ⟨wr.heap.size, 0, none⟩, 0, []⟩])) := ApartW.one hap.out (fun x hx q h1 h2 => by
        have l1 := (World.ownsRow.lt (hO.sp x hx) q (by rw [ownBlock_eq]; exact h1)).2
        injection h2 with h2
        have h2 : wr.heap.size = q := h2
        omega)
      clear hO h0 h1 hb I1 B1 hr hap
      go_wp2_with (at_builtin; refine wpList_appR rowSpk _ rfl (.tmp 9) (.tmp 11) rfl W.heap.size _ k (sp.flatMap spC) rfl O1 _ _ 1 1 (spC ⟨some ⟨wr.heap.size, 0, none⟩, 0, []⟩) rfl rfl RN (fun h => by cases h) (by intro u hu; exact spC_one [⟨some ⟨wr.heap.size, 0, none⟩, 0, []⟩] u (by simpa using hu)) (by omega) (by simp; omega) ?_)
      intro v3 w3 o3 g3
      have lo := own_low O1
      have ne0 : ∀ j, j < W.heap.size → (Value.slice A k c).ownBlock ≠ some j := fun j hj h => by have := lo j h; omega
      have h0 : w3.heap[w.heap.size]? = _ := (g3.block _ (blk_lt H0.out) (fun h => ne0 _ (by omega) h.symm)).trans H0.out
      have h1 : w3.heap[w.heap.size + 1]? = _ := (g3.block _ (blk_lt H1.out) (fun h => ne0 _ (by omega) h.symm)).trans H1.out
      obtain ⟨A3, c3, rfl, _⟩ := own_form o3
      have O3 : OwnW w3 W.heap.size A3 c3 (sp ++ [⟨some ⟨wr.heap.size, 0, none⟩, 0, []⟩]) := by
        refine ⟨?_, OwnW.grow II.out O1 g3⟩
        rw [List.length_append, hlen, List.flatMap_append]
        simpa using o3
      have b3 := BB.out.grown g3 BB.out.size (fun j hj => by have := lo j hj; omega)
      have c1 := cell_of_row _ _ 0 _ _ _ h1
      have z1 := frozen_of_row _ _ 0 _ _ h1
      simp at c1
      have O4 := Lib.hid (O3.put h1 (by decide) (by decide) 0 (.slice A3 (k + 1) c3))
      have b4 := Lib.hid (b3.setCell (p := ⟨w.heap.size + 1, 0, none⟩) (by show _ ≤ _ + 1; omega) (.slice A3 (k + 1) c3))
      have H0 : Hid ((w3.setCell ⟨w.heap.size + 1, 0, none⟩ (.slice A3 (k + 1) c3)).heap[w.heap.size]? = _) := (heap_set_ne w3 _ 0 _ (by omega)).trans h0
      have H1 : Hid ((w3.setCell ⟨w.heap.size + 1, 0, none⟩ (.slice A3 (k + 1) c3)).heap[w.heap.size + 1]? = some (.cells #[.slice A3 (k + 1) c3] 26)) := Go.heap_setCell_same _ _ 0 _ _ (.slice A3 (k + 1) c3) h1
      have hs4 : Hid (W.heap.size ≤ (w3.setCell ⟨w.heap.size + 1, 0, none⟩ (.slice A3 (k + 1) c3)).heap.size) := by
        show _ ≤ _
        have := g3.size; simp at this ⊢; omega
      have HR : Hid ((sp ++ [(⟨some ⟨wr.heap.size, 0, none⟩, 0, []⟩ : Sp)]).map (fun x => x.l) = List.replicate (k + 1) []) := by
        show _ = _
        rw [List.map_append, hrep, List.replicate_succ']; rfl
      clear o3 O3 b3 h0 h1 lo ne0 g3 O1 RN II BB hrep
      go_wp2
      go_roundw
      case rel => exact ⟨k + 1, A3, c3, sp ++ [⟨some ⟨wr.heap.size, 0, none⟩, 0, []⟩], by omega, by go_num, by simp [hlen], HR.out, O4.out, HP, H0.out, H1.out, b4.out, hs4.out⟩
      case measure => simp [intOf] <;> omega
    · obtain rfl : k = 9 := by omega
      have c0 := cell_of_row _ _ 0 _ _ _ h0
      have z0 := frozen_of_row _ _ 0 _ _ h0
      simp at c0
      have ltW : w.heap.size + 1 < W.heap.size := by have := hWs.out; omega
      have HN : Hid (NewX w nineW (.returned (.agg #[.slice A 9 c])) (wr.setCell ⟨w.heap.size, 0, none⟩ (.slice A 9 c))) := by
        refine ⟨A, c, sp, by rw [hlen], hrep, (hO.put h0 (by decide) (by decide) 0 _).weak (by omega), hap.out, hb.setCell (p := ⟨w.heap.size, 0, none⟩) (Nat.le_refl _) _⟩
      clear hO h0 h1 hb hrep
      go_wp2
      simp [bodyPost, results, Try.results29, go_sem, c0]
      exact HN.out
set_option maxRecDepth 100000 in
set_option maxHeartbeats 6400000 in
theorem l9Copy_ap (A : Option Addr) (sp : List Sp) (c : Nat) (w : World) (hn : sp.length ≤ 2097152) (hl : (allPn sp).length ≤ 2097152) (hA : Whl w A sp) :
    Calls Try.prog 58 #[.agg #[.slice A sp.length c]] w (NewX w (sp.map (·.l))) := by
  obtain ⟨W, hW⟩ : ∃ W, ((w.alloc (.cells #[.slice A sp.length c] 26)).alloc (.cells #[.slice none 0 0] 26)).alloc (.cells #[.slice none 0 0] 26) = W := ⟨_, rfl⟩
  have T0 : Three w W (.cells #[.slice A sp.length c] 26) (.cells #[.slice none 0 0] 26) (.cells #[.slice none 0 0] 26) := by rw [← hW]; exact Three.make _ _ _ _
  have HT := Lib.hid T0
  have HW := Lib.hid hW
  have ltW : Hid (w.heap.size + 2 < W.heap.size) := by show _ < _; rw [← hW]; simp
  clear T0 hW
  go_enter Try.func58, Try.ntmps58
  go_wp2_with fail
  rw [HW.out]
  clear HW
  go_loopw [4] (fun i wr => ∃ (k : Nat) (P : Option Addr) (cp : Nat) (sq : List Sp), k ≤ sp.length ∧ i = .int .i64 k ∧ sq.length = k ∧ sq.map (·.l) = (sp.take k).map (·.l) ∧ OwnW wr W.heap.size P cp sq ∧ Hid (ApartW sq) ∧
      Three w wr (.cells #[.slice A sp.length c] 26) (.cells #[.slice none 0 0] 26) (.cells #[.slice P k cp] 26) ∧ W.heap.size ≤ wr.heap.size) (fun i _ => sp.length - (intOf i).toNat)
  case atStart => exact ⟨0, none, 0, [], by omega, rfl, rfl, by simp, ⟨World.ownsRow_nil _ _ _ _, by simp⟩, ApartW.nil, HT.out, Nat.le_refl _⟩
  case round =>
    clear HT
    obtain ⟨k, P, cp, sq, hk, rfl, hlen, hmap, hO, hap, hT, hs⟩ := hrel
    have ltw := ltW.out
    have q0 := cell_of_row _ _ 0 _ _ _ hT.1
    simp at q0
    by_cases hlt : k < sp.length
    · have hWh := hA.below hT.2.2.2
      have hsp := hWh.at_ hlt
      obtain ⟨b, off, rfl, hbB, _⟩ := hA.row.sp hlt
      obtain ⟨b', off', he, hbB', hc⟩ := hWh.row.sp hlt
      obtain ⟨rfl, rfl⟩ : b = b' ∧ off = off' := by injection he with he; injection he with h1 h2; exact ⟨h1, h2⟩
      have hm1 : (sp.take (k + 1)).map (fun x => x.l) = (sp.take k).map (fun x => x.l) ++ [(sp.getD k sp0).l] := by rw [take_succ_getD sp k sp0 hlt]; simp
      have el := allPn_at_le sp k hlt
      generalize sp.getD k sp0 = s at *
      have hS : CpS wr w.heap.size (w.heap.size + 2) b (off + k) (.slice (some ⟨b, off, none⟩) sp.length c) (.slice P k cp) (.slice s.a s.l.length s.c) := ⟨hT.2.2.1, hT.1, hc⟩
      have HM := Lib.hid hm1
      have HT := Lib.hid hT
      have HS := Lib.hid hsp
      have HO := Lib.hid hO
      have CS := Lib.hid hS
      clear hm1 hT hsp hO hWh hS hc he
      go_wp2_with fail
      refine wp_region_E 12 (fun w' => Hid (CpS w' w.heap.size (w.heap.size + 2) b (off + k) (.slice (some ⟨b, off, none⟩) sp.length c) (.slice P k cp) (.slice s.a s.l.length s.c))) (by kernel_rfl) ?_
      have hS0 : CpS wr.drew _ _ _ _ _ _ _ := CS.out.step (grown_of_below (below_drawn (Below.refl wr.heap.size wr) 1) none) W.heap.size (fun j h => by cases h) (by omega) (by omega) (by omega)
      have hH0 := Lib.hid hS0
      refine e_take 0 13 (.pointer (some ⟨w.heap.size + 2, 0, none⟩)) rfl rfl (by kernel_rfl) (by kernel_rfl) (by kernel_rfl) (by kernel_rfl) (fun _ _ _ h => h) rfl hH0 (fun w _ => exec_fldW _ w) ?_
      refine e_take 1 14 (.slice P k cp) rfl rfl (by kernel_rfl) (by kernel_rfl) (by kernel_rfl) (by kernel_rfl) (fun _ _ _ h => h) rfl hH0 (fun w h => exec_loadSp _ _ 0 P k cp w (.inr rfl) (cell_of_row _ _ 0 _ _ _ h.out.1)) ?_
      simp only [Act.put, List.setIfInBounds_toArray, List.set_cons_zero, List.set_cons_succ]
      refine e_take 3 16 (.pointer (some ⟨w.heap.size, 0, none⟩)) rfl rfl (by kernel_rfl) (by kernel_rfl) (by kernel_rfl) (by kernel_rfl) (fun _ _ _ h => h) rfl hH0 (fun w _ => exec_fldW _ w) ?_
      refine e_take 4 17 (.slice (some ⟨b, off, none⟩) sp.length c) rfl rfl (by kernel_rfl) (by kernel_rfl) (by kernel_rfl) (by kernel_rfl) (fun _ _ _ h => h) rfl hH0 (fun w h => exec_loadSp _ _ 0 _ _ c w (.inr rfl) (cell_of_row _ _ 0 _ _ _ h.out.2.1)) ?_
      simp only [Act.put, List.setIfInBounds_toArray, List.set_cons_zero, List.set_cons_succ]
      refine e_take 5 18 (.int .i64 (k : Int)) rfl rfl (by kernel_rfl) (by kernel_rfl) (by kernel_rfl) (by kernel_rfl) (fun _ _ _ h => h) rfl hH0 (fun w _ => rfl) ?_
      refine e_take 6 19 (.pointer (some ⟨b, off + k, none⟩)) rfl rfl (by kernel_rfl) (by kernel_rfl) (by kernel_rfl) (by kernel_rfl) (fun _ _ _ h => h) rfl hH0 (fun w _ => exec_idxSp b off sp.length c k w hlt) ?_
      simp only [Act.put, List.setIfInBounds_toArray, List.set_cons_zero, List.set_cons_succ]
      refine e_take 7 20 (.slice s.a s.l.length s.c) rfl rfl (by kernel_rfl) (by kernel_rfl) (by kernel_rfl) (by kernel_rfl) (fun _ _ _ h => h) rfl hH0 (fun w h => exec_loadSp _ b (off + k) _ _ _ w (.inl rfl) h.out.2.2) ?_
      simp only [Act.put, List.setIfInBounds_toArray, List.set_cons_zero, List.set_cons_succ]
      have d0 : Below wr.heap.size wr wr.drew := below_drawn (Below.refl _ _) 1
      have hS1 := hS0.step (World.grownBy_alloc wr.drew (.cells #[] 33) none) W.heap.size (fun j h => by cases h) (by omega) (by omega) (by omega)
      refine e_op 2 15 (.slice (some ⟨wr.drew.heap.size, 0, none⟩) 0 0) rfl rfl (by kernel_rfl) rfl (exec_none_pn _) (fun _ => Lib.hid hS1) ?_
      simp only [Act.put, List.setIfInBounds_toArray, List.set_cons_zero, List.set_cons_succ]
      have O1 := own_empty wr.drew wr.drew.heap.size 33 2 (Nat.le_refl _)
      have hsd : W.heap.size ≤ wr.drew.heap.size := hs
      have lowO1 : ∀ j, (Value.slice (some ⟨wr.drew.heap.size, 0, none⟩) 0 0).ownBlock = some j → W.heap.size ≤ j := fun j h => Nat.le_trans hsd (own_low O1 j h)
      have x1 := d0.alloc d0.size (.cells #[] 33)
      obtain ⟨sr, sc, sn⟩ := HS.out.below x1
      refine e_opx 8 21 rfl rfl (by kernel_rfl) rfl (exec_appR rowPin _ wr.drew.heap.size _ 0 [] O1 _ s.a s.l.length s.c (s.l.flatMap pnC) (flat_len pnC 2 pnC_len s.l) sr sn (pnC_one _) (by omega) (by simp)) (fun v w' h _ => Lib.hid (hS1.step h.2 W.heap.size lowO1 (by omega) (by omega) (by omega))) ?_
      rintro v2 w2 ⟨o2, g2⟩
      simp only [Act.put, List.setIfInBounds_toArray, List.set_cons_zero, List.set_cons_succ]
      rw [Nat.zero_add, List.nil_append] at o2
      obtain ⟨A2, c2, rfl, _⟩ := own_form o2
      have hS2 := hS1.step g2 W.heap.size lowO1 (by omega) (by omega) (by omega)
      have hS3 := hS2.step (World.grownBy_alloc w2 (.cells (spC ⟨A2, c2, s.l⟩).toArray 29) none) W.heap.size (fun j h => by cases h) (by omega) (by omega) (by omega)
      refine e_op 9 22 (.slice (some ⟨w2.heap.size, 0, none⟩) 1 1) rfl rfl (by kernel_rfl) rfl (exec_one_sp ⟨A2, c2, s.l⟩ _) (fun _ => Lib.hid hS3) ?_
      simp only [Act.put, List.setIfInBounds_toArray, List.set_cons_zero, List.set_cons_succ]
      have O2 : OwnW w2 W.heap.size P cp sq := by
        have k1 : OwnW (wr.drew.alloc (.cells #[] 33)) W.heap.size P cp sq := HO.out.below x1
        refine ⟨own_kept2 k1.row g2 (fun j h1 h2 => ?_), fun t ht => own_kept2 (k1.sp t ht) g2 (fun j h1 h2 => ?_)⟩
        · injection h2 with h2
          have := (World.ownsRow.lt (HO.out.row) j h1).2
          have h2 : wr.heap.size = j := h2
          omega
        · injection h2 with h2
          have := (World.ownsRow.lt (HO.out.sp t ht) j h1).2
          have h2 : wr.heap.size = j := h2
          omega
      have HP : Hid (ApartW (sq ++ [⟨A2, c2, s.l⟩])) := ApartW.one hap.out (fun x hx q h1 h2 => by
        have l1 := (World.ownsRow.lt (HO.out.sp x hx) q (by rw [ownBlock_eq]; exact h1)).2
        have l2 : wr.heap.size ≤ q := (World.ownsRow.lt o2 q (by rw [ownBlock_eq]; exact h2)).1
        omega)
      have O3 := O2.alloc (.cells (spC ⟨A2, c2, s.l⟩).toArray 29)
      have s3 := (own_weak o2 hsd : Sp.own w2 W.heap.size ⟨A2, c2, s.l⟩).alloc (.cells (spC ⟨A2, c2, s.l⟩).toArray 29)
      have r3 := O3.row
      rw [hlen] at r3
      have gs2 := g2.size
      refine e_opx 10 23 rfl rfl (by kernel_rfl) rfl (exec_appR rowSpk _ W.heap.size _ k (sq.flatMap spC) r3 _ _ 1 1 (spC ⟨A2, c2, s.l⟩) rfl (Rws.new w2 (spC ⟨A2, c2, s.l⟩) 29) (fun h => by cases h) (by intro u hu; exact spC_one [⟨A2, c2, s.l⟩] u (by simpa using hu)) (by omega) (by simp at gs2 ⊢; omega)) (fun v w' h _ => Lib.hid (hS3.step h.2 W.heap.size (own_low r3) (by omega) (by omega) (by omega))) ?_
      rintro v4 w4 ⟨o4, g4⟩
      simp only [Act.put, List.setIfInBounds_toArray, List.set_cons_zero, List.set_cons_succ]
      obtain ⟨A4, c4, rfl, _⟩ := own_form o4
      have hS4 := hS3.step g4 W.heap.size (own_low r3) (by omega) (by omega) (by omega)
      refine e_op 11 24 (.pointer (some ⟨w.heap.size + 2, 0, none⟩)) rfl rfl (by kernel_rfl) rfl (exec_fldW _ _) (fun _ => Lib.hid hS4) ?_
      simp only [Act.put, List.setIfInBounds_toArray, List.set_cons_zero, List.set_cons_succ]
      refine e_store 12 rfl rfl (by kernel_rfl) rfl (exec_storeSp _ _ 0 A4 (k + 1) c4 _ w4 (.inr rfl) (cell_of_row _ _ 0 _ _ _ hS4.1) (frozen_of_row _ _ 0 _ _ hS4.1)) (fun h => absurd rfl h) ?_
      refine e_done (by kernel_rfl) ?_ _
      have O4 : OwnW w4 W.heap.size A4 c4 (sq ++ [⟨A2, c2, s.l⟩]) := by
        refine ⟨?_, OwnW.grow (fun t ht => ?_) r3 g4⟩
        · rw [List.length_append, hlen, List.flatMap_append]; simpa using o4
        · rcases List.mem_append.1 ht with h | h
          · exact O3.sp t h
          · simp at h; subst h; exact s3
      have O5 := Lib.hid (O4.put hS4.1 (by decide) (by decide) 0 (.slice A4 (k + 1) c4))
      have T5 : Hid (Three w (w4.setCell ⟨w.heap.size + 2, 0, none⟩ (.slice A4 (k + 1) c4)) (.cells #[.slice (some ⟨b, off, none⟩) sp.length c] 26) (.cells #[.slice none 0 0] 26) (.cells #[.slice A4 (k + 1) c4] 26)) := by
        have z1 : w4.heap[w.heap.size + 1]? = some (.cells #[.slice none 0 0] 26) := by
          have a1 := blk_call HT.out.2.1 x1
          have a2 := (g2.block _ (blk_lt a1) (fun e => by have := lowO1 _ e.symm; omega)).trans a1
          have a3 := blk_alloc a2 (.cells (spC ⟨A2, c2, s.l⟩).toArray 29)
          exact (g4.block _ (blk_lt a3) (fun e => by have := own_low r3 _ e.symm; omega)).trans a3
        have bb : Below w.heap.size w w4 := by
          have b1 := HT.out.2.2.2.trans (x1.mono HT.out.2.2.2.size)
          have b2 := b1.grown g2 b1.size (fun j h => by have := lowO1 j h; omega)
          have b3 := b2.alloc b2.size (.cells (spC ⟨A2, c2, s.l⟩).toArray 29)
          exact b3.grown g4 b3.size (fun j h => by have := own_low r3 j h; omega)
        refine ⟨(heap_set_ne w4 _ 0 _ (by omega)).trans hS4.2.1, (heap_set_ne w4 _ 0 _ (by omega)).trans z1, Go.heap_setCell_same _ _ 0 _ _ (.slice A4 (k + 1) c4) hS4.1, bb.setCell (p := ⟨w.heap.size + 2, 0, none⟩) (by show _ ≤ _ + 2; omega) _⟩
      have s5 : Hid (W.heap.size ≤ (w4.setCell ⟨w.heap.size + 2, 0, none⟩ (.slice A4 (k + 1) c4)).heap.size) := by
        show _ ≤ _
        have := g4.size; simp at this gs2 ⊢; omega
      have M5 : Hid ((sq ++ [(⟨A2, c2, s.l⟩ : Sp)]).map (fun x => x.l) = (sp.take (k + 1)).map (fun x => x.l)) := by
        show _ = _
        rw [List.map_append, hmap, HM.out]; rfl
      clear O4 o4 g4 hS4 hS3 hS2 hS1 hS0 hH0 O3 O2 s3 r3 o2 g2 lowO1 O1 x1 sr HO HT HS CS hmap q0 d0
      go_wp2
      go_roundw
      case rel => exact ⟨k + 1, A4, c4, sq ++ [⟨A2, c2, s.l⟩], by omega, by go_num, by simp [hlen], M5.out, O5.out, HP, T5.out, s5.out⟩
      case measure => simp [intOf] <;> omega
    · obtain rfl : k = sp.length := by omega
      have c1 := cell_of_row _ _ 0 _ _ _ hT.2.1
      have z1 := frozen_of_row _ _ 0 _ _ hT.2.1
      have c2 := cell_of_row _ _ 0 _ _ _ hT.2.2.1
      simp at c1 c2
      rw [List.take_length] at hmap
      have HN : Hid (NewX w (sp.map (fun x => x.l)) (.returned (.agg #[.slice P sp.length cp])) (wr.setCell ⟨w.heap.size + 1, 0, none⟩ (.slice P sp.length cp))) := by
        refine ⟨P, cp, sq, by rw [hlen], hmap, (hO.put hT.2.1 (by decide) (by decide) 0 _).weak (by omega), hap.out, hT.2.2.2.setCell (p := ⟨w.heap.size + 1, 0, none⟩) (by show _ ≤ _ + 1; omega) _⟩
      clear hO hT hmap
      go_wp2
      simp [bodyPost, results, Try.results58, go_sem, c1]
      exact HN.out
set_option maxRecDepth 100000 in
set_option maxHeartbeats 6400000 in
theorem wheelPut_ap (A : Option Addr) (sp : List Sp) (c : Nat) (p : Pn) (w : World) (hn : sp.length ≤ 1048577) (hl : (allPn sp).length ≤ 1048575) (hA : Whl w A sp) :
    Calls Try.prog 20 #[.agg #[.slice A sp.length c], pnA p] w (NewXB w (wheelPutV (sp.map (fun s => s.l)) p)) := by
  have T0 : Three w (((w.alloc (.cells #[.slice A sp.length c] 26)).alloc (.cells #[.int .i64 p.at_, .int .i64 p.id] 33)).alloc (.cells #[.slice none 0 0] 26)) (.cells #[.slice A sp.length c] 26) (.cells #[.int .i64 p.at_, .int .i64 p.id] 33) (.cells #[.slice none 0 0] 26) := Three.make _ _ _ _
  have hs0 : (((w.alloc (.cells #[.slice A sp.length c] 26)).alloc (.cells #[.int .i64 p.at_, .int .i64 p.id] 33)).alloc (.cells #[.slice none 0 0] 26)).heap.size = w.heap.size + 3 := by simp
  have CC := Lib.hid (l9Copy_ap A sp c _ (by omega) (by omega) (hA.below T0.2.2.2))
  have CC2 := Lib.hid (fun u (b : Below w.heap.size w u) => l9Copy_ap A sp c u (by omega) (by omega) (hA.below b))
  have CO := Lib.hid (fun u (b : Below w.heap.size w u) => wheelOk_spec A sp c u (by omega) (by omega) (hA.below b))
  obtain ⟨ls, els⟩ : ∃ ls, sp.map (fun s => s.l) = ls := ⟨_, rfl⟩
  obtain ⟨V, eV⟩ : ∃ V, wheelPutV ls p = V := ⟨_, rfl⟩
  rw [els, eV]
  rw [els] at CC CC2 CO
  have HV := Lib.hid eV
  have HL := Lib.hid els
  have HT := Lib.hid T0
  have HS0 := Lib.hid hs0
  clear eV els T0 hs0
  unfold pnA
  go_enter Try.func20, Try.ntmps20
  go_wp2_with fail
  refine CC.out.mono ?_
  rintro e u1 ⟨P, cp, sq, rfl, hm1, O1, ap1, x1⟩
  have T : WP w (u1.alloc (.cells #[.slice P sq.length cp] 26)) A c sp p u1.heap.size P cp sq := by
    have ba : Below u1.heap.size u1 (u1.alloc (.cells #[.slice P sq.length cp] 26)) := (Below.refl _ _).alloc (Nat.le_refl _) _
    refine ⟨(HT.out.call x1).call ba, heap_new _ _, ?_⟩
    rw [HS0.out] at O1
    exact O1.alloc _
  have hg6 : w.heap.size + 3 ≤ u1.heap.size := by have := x1.size; rw [HS0.out] at this; exact this
  have HM := Lib.hid hm1
  have HAP := Lib.hid ap1
  clear ap1
  have hsq : Hid (sq.length = sp.length) := by show _ = _; have h1 := congrArg List.length hm1; have h2 := congrArg List.length HL.out; simp at h1 h2; omega
  have hlq : Hid (allPn sq = allPn sp) := by show _ = _; rw [← ls_flat, ← ls_flat, hm1, HL.out]
  clear O1 x1 hm1 CC HT
  have c1 := cell_of_row _ _ 0 _ _ _ T.T.1
  obtain ⟨p0, p1⟩ := Pn.here.blk T.T.2.1
  have c3 := cell_of_row _ _ 0 _ _ _ T.T.2.2.1
  have z3 := frozen_of_row _ _ 0 _ _ T.T.2.2.1
  have c6 := cell_of_row _ _ 0 _ _ _ T.H
  simp at c1 p0 p1 c3 c6
  have C1 := Lib.hid (CO.out _ T.T.2.2.2)
  have TT := Lib.hid T
  obtain ⟨B1, eB⟩ : ∃ B1, wheelB ls = B1 := ⟨_, rfl⟩
  rw [eB] at C1
  have EB := Lib.hid eB
  clear T eB
  go_wp2_with fail
  refine C1.out.mono ?_
  rintro e u2 ⟨rfl, x2⟩
  have T := TT.out.call x2
  have ltg := blk_lt T.H
  clear x2 TT C1 c1 p0 p1 c3 z3 c6
  have c1 := cell_of_row _ _ 0 _ _ _ T.T.1
  obtain ⟨p0, p1⟩ := Pn.here.blk T.T.2.1
  have c3 := cell_of_row _ _ 0 _ _ _ T.T.2.2.1
  have z3 := frozen_of_row _ _ 0 _ _ T.T.2.2.1
  have c6 := cell_of_row _ _ 0 _ _ _ T.H
  simp at c1 p0 p1 c3 c6
  cases B1
  · skip
    have HN : Hid (NewXB w V (.returned (.tuple #[.agg #[.slice P sq.length cp], .bool false])) (u2.setCell ⟨w.heap.size + 2, 0, none⟩ (.slice P sq.length cp))) := by
      have eV : V = (ls, false) := by rw [← HV.out]; unfold wheelPutV; rw [if_neg (fun h => by rw [EB.out] at h; cases h.1)]
      refine ⟨P, cp, sq, by rw [eV], by rw [eV]; exact HM.out, (T.O.put T.T.2.2.1 (by decide) (by decide) 0 _).weak (by omega), HAP.out, T.T.2.2.2.setCell (p := ⟨w.heap.size + 2, 0, none⟩) (by show _ ≤ _ + 2; omega) _⟩
    clear T
    go_wp2
    simp [bodyPost, results, Try.results20, go_sem, c3]
    exact HN.out
  by_cases ga : 1 ≤ p.at_
  rotate_left
  · skip
    have HN : Hid (NewXB w V (.returned (.tuple #[.agg #[.slice P sq.length cp], .bool false])) (u2.setCell ⟨w.heap.size + 2, 0, none⟩ (.slice P sq.length cp))) := by
      have eV : V = (ls, false) := by rw [← HV.out]; unfold wheelPutV; rw [if_neg (fun h => ga h.2)]
      refine ⟨P, cp, sq, by rw [eV], by rw [eV]; exact HM.out, (T.O.put T.T.2.2.1 (by decide) (by decide) 0 _).weak (by omega), HAP.out, T.T.2.2.2.setCell (p := ⟨w.heap.size + 2, 0, none⟩) (by show _ ≤ _ + 2; omega) _⟩
    clear T
    go_wp2
    simp [bodyPost, results, Try.results20, go_sem, c3]
    exact HN.out
  obtain ⟨k, hk⟩ : ∃ k : Nat, p.at_.tmod 9 = (k : Int) := ⟨(p.at_.tmod 9).toNat, by have := Int.tmod_nonneg 9 (a := p.at_) (by omega); omega⟩
  have hk9 : k < 9 := by have := Int.tmod_lt_of_pos p.at_ (b := 9) (by omega); omega
  have hwr : IntKind.i64.wrap (p.at_.tmod 9) = (k : Int) := by rw [IntKind.wrap_i64]; omega
  have hwr2 : IntKind.i64.wrap (k : Int) = (k : Int) := by rw [IntKind.wrap_i64]; omega
  have HK : Hid ((p.at_.tmod 9).toNat = k) := by show _ = _; rw [hk]; simp
  have W9 := wheelB_iff EB.out
  have hq9 : sq.length = 9 := by have h1 := W9.1; have h2 := congrArg List.length HM.out; simp at h2; omega
  have hkq : k < sq.length := by omega
  have HQ9 := Lib.hid hq9
  clear hq9 W9
  have TT := Lib.hid T
  clear T
  go_wp2_with fail
  have T := TT.out
  obtain ⟨_, _, eP, _, _, hP⟩ := own_form T.O.row
  obtain ⟨g, eg, hg3⟩ := hP (by omega)
  injection eP with eP1 _ eP3
  rw [← eP1] at eg
  subst eg
  clear eP1 eP3
  obtain ⟨b', off', he, hbB, hc⟩ := (own_rws T.O.row).sp hkq
  obtain ⟨rfl, rfl⟩ : g = b' ∧ 0 = off' := by injection he with he; injection he with h1 h2; exact ⟨h1, h2⟩
  have hsm : sq.getD k sp0 ∈ sq := getD_mem sq k sp0 hkq
  have hsl : (sq.getD k sp0).l.length ≤ 1048575 := by have := allPn_at_le sq k hkq; have h2 := hlq.out; rw [h2] at this; omega
  obtain ⟨s, es⟩ : ∃ s, sq.getD k sp0 = s := ⟨_, rfl⟩
  rw [es] at hc hsm hsl
  have hso := (T.O.sp s hsm).ok
  have KH := Lib.hid (fun w' (h : Below u2.heap.size u2 w') => cell_of_row _ _ 0 _ _ _ (blk_call T.H h))
  have KC := Lib.hid (fun w' (h : Below u2.heap.size u2 w') => (h.cell (by exact hbB)).trans hc)
  have KP := Lib.hid (fun w' (h : Below u2.heap.size u2 w') => Pn.here.blk (blk_call T.T.2.1 h))
  have ES := Lib.hid es
  clear es he hc T c1 p0 p1 c3 z3 c6
  refine wp_region_E 11 (fun w' => Hid (Below u2.heap.size u2 w')) (by kernel_rfl) ?_
  have hH0 : Hid (Below u2.heap.size u2 u2.drew) := below_drawn (Below.refl _ _) 1
  refine e_take 0 22 (.pointer (some ⟨u1.heap.size, 0, none⟩)) rfl rfl (by kernel_rfl) (by kernel_rfl) (by kernel_rfl) (by kernel_rfl) (fun _ _ _ h => h) rfl hH0 (fun w _ => exec_fldW _ w) ?_
  refine e_take 1 23 (.slice (some ⟨g, 0, none⟩) sq.length cp) rfl rfl (by kernel_rfl) (by kernel_rfl) (by kernel_rfl) (by kernel_rfl) (fun _ _ _ h => h) rfl hH0 (fun w h => exec_loadSp _ _ 0 _ _ _ w (.inr rfl) (KH.out w h.out)) ?_
  simp only [Act.put, List.setIfInBounds_toArray, List.set_cons_zero, List.set_cons_succ]
  refine e_take 2 24 (.int .i64 (k : Int)) rfl rfl (by kernel_rfl) (by kernel_rfl) (by kernel_rfl) (by kernel_rfl) (fun _ _ _ h => h) rfl hH0 (fun w _ => rfl) ?_
  refine e_take 3 25 (.pointer (some ⟨u1.heap.size, 0, none⟩)) rfl rfl (by kernel_rfl) (by kernel_rfl) (by kernel_rfl) (by kernel_rfl) (fun _ _ _ h => h) rfl hH0 (fun w _ => exec_fldW _ w) ?_
  simp only [Act.put, List.setIfInBounds_toArray, List.set_cons_zero, List.set_cons_succ]
  refine e_take 4 26 (.slice (some ⟨g, 0, none⟩) sq.length cp) rfl rfl (by kernel_rfl) (by kernel_rfl) (by kernel_rfl) (by kernel_rfl) (fun _ _ _ h => h) rfl hH0 (fun w h => exec_loadSp _ _ 0 _ _ _ w (.inr rfl) (KH.out w h.out)) ?_
  refine e_take 5 27 (.int .i64 (k : Int)) rfl rfl (by kernel_rfl) (by kernel_rfl) (by kernel_rfl) (by kernel_rfl) (fun _ _ _ h => h) rfl hH0 (fun w _ => rfl) ?_
  simp only [Act.put, List.setIfInBounds_toArray, List.set_cons_zero, List.set_cons_succ]
  refine e_take 6 28 (.pointer (some ⟨g, 0 + k, none⟩)) rfl rfl (by kernel_rfl) (by kernel_rfl) (by kernel_rfl) (by kernel_rfl) (fun _ _ _ h => h) rfl hH0 (fun w _ => exec_idxSp g 0 sq.length cp k w hkq) ?_
  refine e_take 7 29 (.slice s.a s.l.length s.c) rfl rfl (by kernel_rfl) (by kernel_rfl) (by kernel_rfl) (by kernel_rfl) (fun _ _ _ h => h) rfl hH0 (fun w h => exec_loadSp _ g (0 + k) _ _ _ w (.inl rfl) (KC.out w h.out)) ?_
  simp only [Act.put, List.setIfInBounds_toArray, List.set_cons_zero, List.set_cons_succ]
  refine e_take 8 30 (pnA p) rfl rfl (by kernel_rfl) (by kernel_rfl) (by kernel_rfl) (by kernel_rfl) (fun _ _ _ h => h) rfl hH0 (fun w h => exec_load_pn _ 0 p w (KP.out w h.out)) ?_
  simp only [Act.put, List.setIfInBounds_toArray, List.set_cons_zero, List.set_cons_succ]
  have hs1 := hso.below hH0.out
  refine e_call 9 31 50 #[.slice s.a s.l.length s.c, pnA p] rfl rfl (by kernel_rfl) rfl (exec_call Try.func50 (by kernel_rfl) (by kernel_rfl) _) ?_
  refine (l9Put_spec s.a s.l s.c p u2.drew (by omega) hs1.cap hs1.nil hs1.row).mono ?_
  rintro e u3 ⟨P2, cp2, rfl, o3, x3⟩
  have k3 := hH0.out.trans (x3.mono hH0.out.size)
  refine ⟨_, rfl, (fun _ => Lib.hid k3), ?_⟩
  simp only [Act.put, List.setIfInBounds_toArray, List.set_cons_zero, List.set_cons_succ]
  refine e_op 10 32 (.pointer (some ⟨g, 0 + k, none⟩)) rfl rfl (by kernel_rfl) rfl (exec_idxSp g 0 sq.length cp k u3 hkq) (fun _ => Lib.hid k3) ?_
  simp only [Act.put, List.setIfInBounds_toArray, List.set_cons_zero, List.set_cons_succ]
  have T := TT.out.call k3
  have hfz := T.O.row.frozenAt (0 + k)
  refine e_store 11 rfl rfl (by kernel_rfl) rfl (exec_storeSp _ g (0 + k) P2 (pnPut s.l p).length cp2 _ u3 (.inl rfl) (KC.out _ k3) hfz) (fun h => absurd rfl h) ?_
  refine e_done (by kernel_rfl) ?_ _
  obtain ⟨U, eU⟩ : ∃ U, u3.setCell ⟨g, 0 + k, none⟩ (.slice P2 (pnPut s.l p).length cp2) = U := ⟨_, rfl⟩
  have hU : ∀ j, j ≠ g → U.heap[j]? = u3.heap[j]? := fun j hj => by rw [← eU]; exact heap_set_ne u3 g _ _ hj
  obtain ⟨curg, hcg⟩ := own_typed2 T.O.row g rfl
  have st := T.O.row.stored (0 + k) (.slice P2 (pnPut s.l p).length cp2)
  rw [eU] at st
  have T2 : WP w U A c sp p u1.heap.size (some ⟨g, 0, none⟩) cp (sq.set k ⟨P2, cp2, pnPut s.l p⟩) := by
    have n0 : w.heap.size ≠ g := by omega
    have n1 : w.heap.size + 1 ≠ g := by omega
    have n2 : w.heap.size + 2 ≠ g := by omega
    have n6 : u1.heap.size ≠ g := fun h => by
      have := T.H
      rw [h, hcg] at this
      injection this with this
      injection this with _ h2
      revert h2
      decide
    refine ⟨⟨(hU _ n0).trans T.T.1, (hU _ n1).trans T.T.2.1, (hU _ n2).trans T.T.2.2.1, ?_⟩, ?_, ⟨?_, ?_⟩⟩
    · rw [← eU]; exact T.T.2.2.2.setCell (p := ⟨g, 0 + k, none⟩) (by show _ ≤ g; omega) _
    · rw [List.length_set]; exact (hU _ n6).trans T.H
    · have := st.1
      rw [Nat.zero_add] at this
      rw [List.length_set, ← flat_set sq k ⟨P2, cp2, pnPut s.l p⟩]
      exact this
    · intro t ht
      have kt : Sp.own u3 (w.heap.size + 3) t := by
        rcases List.mem_or_eq_of_mem_set ht with h | h
        · exact T.O.sp t h
        · subst h; exact own_weak o3 (Nat.le_trans hg6 (Nat.le_trans (Nat.le_of_lt ltg) hH0.out.size))
      rw [← eU]
      exact kt.kept (Go.Lib.grownBy_setCell u3 g (0 + k) _) (.inr (own_ne_type kt hcg (by decide)))
  have HM2 : Hid ((sq.set k ⟨P2, cp2, pnPut s.l p⟩).map (fun x => x.l) = ls.set k (pnPut (ls.getD k []) p)) := by
    show _ = _
    rw [List.map_set, HM.out]
    congr 2
    have := ls_at sq k
    rw [ES.out] at this
    have h2 : (sq.map fun s => s.l) = ls := HM.out
    rw [h2] at this
    rw [this]
  rw [eU]
  have HAP2 : Hid (ApartW (sq.set k ⟨P2, cp2, pnPut s.l p⟩)) := ApartW.set HAP.out k _ (fun t ht q h1 h2 => by
    have l1 := (World.ownsRow.lt (TT.out.O.sp t ht) q (by rw [ownBlock_eq]; exact h1)).2
    have l2 := (World.ownsRow.lt o3 q (by rw [ownBlock_eq]; exact h2)).1
    have l3 := hH0.out.size
    omega)
  obtain ⟨sq2, es2⟩ : ∃ sq2, sq.set k ⟨P2, cp2, pnPut s.l p⟩ = sq2 := ⟨_, rfl⟩
  have hl2 : (allPn sq2).length ≤ 2097152 := by
    have h1 := allPn_set sq k ⟨P2, cp2, pnPut s.l p⟩ hkq
    have h2 := pnPut_len s.l p
    rw [hlq.out] at h1
    rw [es2] at h1
    have h3 : (Sp.mk P2 cp2 (pnPut s.l p)).l.length = (pnPut s.l p).length := rfl
    omega
  have hn2 : sq2.length = sq.length := by rw [← es2, List.length_set]
  rw [es2] at T2 HM2 HAP2
  have HN2 := Lib.hid hn2
  have T2 : WP w U A c sp p u1.heap.size (some ⟨g, 0, none⟩) cp sq2 := T2
  have CU := wheelOk_spec (some ⟨g, 0, none⟩) sq2 cp U (by have := hsq.out; omega) hl2 T2.O.whl
  have eL : sq2.map (fun s => s.l) = ls.set k (pnPut (ls.getD k []) p) := HM2.out
  rw [eL] at CU
  obtain ⟨B2, eB2⟩ : ∃ B2, wheelB (ls.set k (pnPut (ls.getD k []) p)) = B2 := ⟨_, rfl⟩
  rw [eB2] at CU
  have EB2 := Lib.hid eB2
  have HEL := Lib.hid eL
  have C2 := Lib.hid CU
  have TT2 := Lib.hid T2
  have b2s : Hid (sq2.length = sq.length) := hn2
  clear T eU hU st hcg T2 HM2 eL CU eB2 es2 hn2 hl2 o3 x3 k3 hfz hs1 hH0 KH KC KP hso hsm TT
  have T := TT2.out
  have c1 := cell_of_row _ _ 0 _ _ _ T.T.1
  obtain ⟨p0, p1⟩ := Pn.here.blk T.T.2.1
  have c3 := cell_of_row _ _ 0 _ _ _ T.T.2.2.1
  have z3 := frozen_of_row _ _ 0 _ _ T.T.2.2.1
  have c6 := cell_of_row _ _ 0 _ _ _ T.H
  simp at c1 p0 p1 c3 c6
  clear T
  rw [show sq.length = sq2.length from HN2.out.symm] at *
  go_wp2_with fail
  refine C2.out.mono ?_
  rintro e u5 ⟨rfl, x5⟩
  have T := TT2.out.call x5
  clear x5 TT2 C2 c1 p0 p1 c3 z3 c6
  have c1 := cell_of_row _ _ 0 _ _ _ T.T.1
  obtain ⟨p0, p1⟩ := Pn.here.blk T.T.2.1
  have c3 := cell_of_row _ _ 0 _ _ _ T.T.2.2.1
  have z3 := frozen_of_row _ _ 0 _ _ T.T.2.2.1
  have c6 := cell_of_row _ _ 0 _ _ _ T.H
  simp at c1 p0 p1 c3 c6
  cases B2
  rotate_left
  · have HN : Hid (NewXB w V (.returned (.tuple #[.agg #[.slice (some ⟨g, 0, none⟩) sq2.length cp], .bool true])) (u5.setCell ⟨w.heap.size + 2, 0, none⟩ (.slice (some ⟨g, 0, none⟩) sq2.length cp))) := by
      have eV : V = (ls.set k (pnPut (ls.getD k []) p), true) := by rw [← HV.out]; unfold wheelPutV; rw [if_pos ⟨EB.out, ga⟩, HK.out, if_pos EB2.out]
      refine ⟨_, cp, sq2, by rw [eV], by rw [eV]; exact HEL.out, (T.O.put T.T.2.2.1 (by decide) (by decide) 0 _).weak (by omega), HAP2.out, T.T.2.2.2.setCell (p := ⟨w.heap.size + 2, 0, none⟩) (by show _ ≤ _ + 2; omega) _⟩
    clear T
    go_wp2
    simp [bodyPost, results, Try.results20, go_sem, c3]
    exact HN.out
  · have C7 := Lib.hid (CC2.out u5 T.T.2.2.2)
    have TT := Lib.hid T
    clear T
    go_wp2_with fail
    refine C7.out.mono ?_
    rintro e u7 ⟨P7, cp7, sq7, rfl, hm7, O7, ap7, x7⟩
    have T := TT.out.call x7
    have ws : w.heap.size ≤ u5.heap.size := TT.out.T.2.2.2.size
    have HN : Hid (NewXB w V (.returned (.tuple #[.agg #[.slice P7 sq7.length cp7], .bool false])) (u7.setCell ⟨w.heap.size + 2, 0, none⟩ (.slice P7 sq7.length cp7))) := by
      have eV : V = (ls, false) := by rw [← HV.out]; unfold wheelPutV; rw [if_pos ⟨EB.out, ga⟩, HK.out, if_neg (by rw [EB2.out]; intro h; cases h)]
      refine ⟨P7, cp7, sq7, by rw [eV], by rw [eV]; exact hm7, ((O7.weak ws).put T.T.2.2.1 (by decide) (by decide) 0 _), ap7, T.T.2.2.2.setCell (p := ⟨w.heap.size + 2, 0, none⟩) (by show _ ≤ _ + 2; omega) _⟩
    clear c1 p0 p1 c3 z3 c6 TT C7
    have c3 := cell_of_row _ _ 0 _ _ _ T.T.2.2.1
    have z3 := frozen_of_row _ _ 0 _ _ T.T.2.2.1
    simp at c3
    clear T O7 x7 hm7
    go_wp2
    simp [bodyPost, results, Try.results20, go_sem, c3]
    exact HN.out
end Go.Proofs.Ytflomkebgiemaaa
