/- The walk of the law FnPureRow. -/
import Derived.Test.YtlflgflmlfileaaRows
import Derived.Test.YtlflgflmlfileaaEnI
import Derived.Test.YtlflgflmlfileaaEn8
namespace Go.Proofs.Ytlflgflmlfileaa
open Go.RowKit
set_option linter.unusedSimpArgs false
set_option linter.unusedVariables false
theorem rws_blk {w : World} {b : Nat} {cs : List Value} {t : TypeId} (h : w.heap[b]? = some (.cells cs.toArray t (0, 0))) : Rws w w.heap.size (some ⟨b, 0, none⟩) cs :=
  .inr ⟨b, 0, rfl, blk_lt h, fun k hk => by rw [cell_of_row _ _ (0 + k) _ _ _ h]; simp⟩
set_option maxRecDepth 100000 in
theorem exec_to40 {ρ : Operand → Value} {o : Oper} {x : Operand} (b n : Nat) (w : World) (hn : n ≤ 40) (ho : o.op = .slice 24 x none (some (.const (.int .i64 40))) none := by rfl) (hx : ρ x = .slice (some ⟨b, 0, none⟩) n 40 := by rfl) (hc : ρ (.const (.int .i64 40)) = .int .i64 40 := by rfl) :
    (execOp ρ o).run Try.prog w = .ok (.value (.slice (some ⟨b, 0, none⟩) 40 40)) w := by
  have hs := size_run rowEnt
  unfold execOp
  rw [ho]
  simp [go_sem, hx, hc, hs]
set_option maxRecDepth 100000 in
set_option maxHeartbeats 12800000 in
theorem FnPureRow_walk (A : Option Addr) (l : List Nat) (cap : Nat) (w : World) (hA : Bts w w.heap.size A l) (hb : AllB l) (hm : l.length ≤ maxLen) :
    Calls Try.prog 3 #[.slice A l.length cap] w fun e w' => e = .returned (.bool true) ∧ Below w.heap.size w w' := by
  by_cases hbig : 1048576 < l.length
  · go_enter Try.func3, Try.ntmps3
    go_wp2_with fail
    refine (big_yes _ _ _ _ hbig).mono ?_
    rintro e w' ⟨rfl, rfl⟩
    go_wp2
    go_ret
    exact ⟨rfl, Below.refl _ _⟩
  have hl : l.length ≤ 1048576 := by omega
  clear hbig hm
  have CD := Lib.hid (drawQueuePut_any A l cap w (by omega) hA hb)
  go_enter Try.func3, Try.ntmps3
  go_wp2_with fail
  refine (big_no _ _ _ _ hl).mono ?_
  rintro e w' ⟨rfl, rfl⟩
  go_wp2_with fail
  refine CD.out.mono ?_
  rintro e w2 ⟨el, LA, lc, x, hel1, hel, hxf, rfl, hL, hlc, hLn, b2⟩
  clear CD
  unfold enA
  have hmk := run_make40 (w2.alloc (.cells #[.int .i64 x.lev, .int .i64 x.turn, .int .i64 x.id, .int .i64 x.size] 26))
  have hE4 := blk_alloc (heap_new w2 (.cells #[.int .i64 x.lev, .int .i64 x.turn, .int .i64 x.id, .int .i64 x.size] 26)) (.cells (madeCells (Value.cells (.agg #[.int .i64 0, .int .i64 0, .int .i64 0, .int .i64 0])) 160) 26)
  have hR4 := heap_new (w2.alloc (.cells #[.int .i64 x.lev, .int .i64 x.turn, .int .i64 x.id, .int .i64 x.size] 26)) (.cells (madeCells (Value.cells (.agg #[.int .i64 0, .int .i64 0, .int .i64 0, .int .i64 0])) 160) 26)
  have B4 : Below w2.heap.size w2 ((w2.alloc (.cells #[.int .i64 x.lev, .int .i64 x.turn, .int .i64 x.id, .int .i64 x.size] 26)).alloc (.cells (madeCells (Value.cells (.agg #[.int .i64 0, .int .i64 0, .int .i64 0, .int .i64 0])) 160) 26)) := ((Below.refl _ _).alloc (Nat.le_refl _) _).alloc (by simp) _
  have hL4 := rws_below hL B4
  rw [World.size_alloc] at hmk hR4
  have HX : Hid (_ ∧ _ ∧ _) := ⟨hE4, B4, hL⟩
  have HB2 := Lib.hid b2
  clear hE4 B4 hL b2
  have hLn2 := Lib.hid hLn
  clear hLn
  obtain ⟨R, hRe⟩ : ∃ R, (el ++ List.replicate (40 - el.length) en0).flatMap enC = R := ⟨_, rfl⟩
  have HRe := Lib.hid hRe
  clear hRe
  have hz4 : w2.heap.size + 1 < ((w2.alloc (.cells #[.int .i64 x.lev, .int .i64 x.turn, .int .i64 x.id, .int .i64 x.size] 26)).alloc (.cells (madeCells (Value.cells (.agg #[.int .i64 0, .int .i64 0, .int .i64 0, .int .i64 0])) 160) 26)).heap.size := blk_lt hR4
  go_wp2_with (at_builtin; refine wpList_app40 _ rfl (.tmp 23) (.tmp 24) rfl (w2.heap.size + 1) hR4 rfl _ LA lc el rfl hL4 hLn2.out (by omega) R HRe.out ?_)
  intro w5 hR5 g5
  obtain ⟨hE4, B4, hL⟩ := HX.out
  have hE5 := (g5.block _ (blk_lt hE4) (fun e => by injection e with e; omega)).trans hE4
  have B5 : Below w2.heap.size w2 w5 := B4.grown g5 B4.size (fun k hk => by injection hk with hk; omega)
  obtain ⟨b, hbe⟩ : ∃ b, w2.heap.size + 1 = b := ⟨_, rfl⟩
  have HBE := Lib.hid hbe
  rw [hbe] at hR5 ⊢
  have hb5 := blk_lt hR5
  have h40 : Hid ((el ++ List.replicate (40 - el.length) en0).length = 40) := by show _ = _; rw [List.length_append, List.length_replicate]; omega
  have hlen40 : R.length = 40 * 4 := by rw [← HRe.out, flat_len enC 4 enC_len, h40.out]
  have hpre : R.take (el.length * 4) = el.flatMap enC := by rw [← HRe.out, ← flat_take enC 4 enC_len, List.take_left' rfl]
  have HX5 : Hid (_ ∧ _ ∧ _) := ⟨hE5, B5, hL⟩
  clear hmk hR4 hL4 HX hE4 B4 hE5 B5 hL g5 hz4 hbe
  have o6 := own_empty w5 w5.heap.size 26 4 (Nat.le_refl _)
  have hR6 : Rws (w5.alloc (.cells #[] 26)) _ (some ⟨b, 0, none⟩) R := rws_blk (blk_alloc hR5 (.cells #[] 26))
  have h640 : el.length ≤ 40 := by omega
  go_wp2_with (at_builtin; refine wpList_appR rowEnt _ rfl (.tmp 26) (.tmp 28) rfl w5.heap.size _ 0 [] rfl o6 _ (some ⟨b, 0, none⟩) 40 40 R rfl hlen40 hR6 (fun h => by cases h) (by rw [← HRe.out]; exact enC_one _) (by omega) (by simp) ?_)
  intro v7 w7 o7 g7
  obtain ⟨WA, wc, rfl, _, _, hWA⟩ := own_form o7
  obtain ⟨wb, rfl, hwb⟩ := hWA (by omega)
  have hwb2 := own_block_lt o7 wb rfl
  obtain ⟨hE5, B5, hL⟩ := HX5.out
  have x67 : Below w5.heap.size w5 w7 := ((Below.refl _ _).alloc (Nat.le_refl _) _).grown g7 (by simp) (own_low o6)
  have hR7 := (x67.block _ hb5).trans hR5
  have hE7 := (x67.block _ (blk_lt hE5)).trans hE5
  have B7 : Below w2.heap.size w2 w7 := B5.trans (x67.mono B5.size)
  have hsz7 := x67.size
  clear o6 hR6 hR5 hE5 B5 x67 g7 HX5 hlen40
  have hroom : Rws w7 w7.heap.size (some ⟨b, 0, none⟩) (el.flatMap enC) := by have h := (rws_blk hR7).to_ (el.length * 4); rw [hpre] at h; exact h
  have CQ := Lib.hid (queuePut_impl (some ⟨b, 0, none⟩) el 40 x w7 (by omega) (by omega) (fun h => by cases h) hroom hel hxf)
  have CS := Lib.hid (fun w' (h : Below w7.heap.size w7 w') => queuePut_spec LA el lc x w' (by omega) hlc hLn2.out (rws_below (rws_below hL B7) h))
  have CC := Lib.hid (fun w' (h : Below w7.heap.size w7 w') => queueCut_impl (some ⟨b, 0, none⟩) el 40 x.id w' (by omega) (by omega) (fun h => by cases h) (rws_below hroom h) hel)
  have hrl := quPutV_len el x
  have hsl := quCutV_len el x.id
  generalize quPutV el x = r at *
  generalize quCutV el x.id = s at *
  unfold enA at CQ CS
  have HB7 : Hid (Below w.heap.size w w7) := HB2.out.trans (B7.mono HB2.out.size)
  have HX7 : Hid (_ ∧ _ ∧ _) := ⟨hR7, hE7, o7⟩
  have hbw : w.heap.size ≤ b := by have h1 := HB2.out.size; have h2 := HBE.out; omega
  have nB : (r.2 != r.2) = false := by simp
  have bx0 := cell_of_row _ _ 0 _ _ _ hE7
  have bx1 := cell_of_row _ _ 1 _ _ _ hE7
  have bx2 := cell_of_row _ _ 2 _ _ _ hE7
  have bx3 := cell_of_row _ _ 3 _ _ _ hE7
  simp at bx0 bx1 bx2 bx3
  clear hroom hL B7 HB2 hlc hLn2 hel hxf hR7 hE7 o7 hpre
  go_wp2_with fail
  refine CQ.out.mono ?_
  rintro e w8 ⟨Q1, qc1, rfl, oQ, b8⟩
  clear bx0 bx1 bx2 bx3 CQ
  obtain ⟨hR7, hE7, o7⟩ := HX7.out
  have hE8 := blk_call hE7 b8
  have bx0 := cell_of_row _ _ 0 _ _ _ hE8
  have bx1 := cell_of_row _ _ 1 _ _ _ hE8
  have bx2 := cell_of_row _ _ 2 _ _ _ hE8
  have bx3 := cell_of_row _ _ 3 _ _ _ hE8
  simp at bx0 bx1 bx2 bx3
  have C8 := Lib.hid (CS.out w8 b8)
  have HX8 : Hid (_ ∧ _ ∧ _ ∧ _ ∧ _) := ⟨blk_call hR7 b8, hE8, own_below o7 b8, oQ, b8⟩
  clear CS hR7 hE7 o7 hE8 oQ b8 HX7
  go_wp2_with fail
  refine C8.out.mono ?_
  rintro e w9 ⟨Q2, qc2, rfl, -, b9⟩
  clear bx0 bx1 bx2 bx3 C8
  obtain ⟨hR8, hE8, o8, oQ8, b8⟩ := HX8.out
  have hE9 := blk_call hE8 b9
  have bx0 := cell_of_row _ _ 0 _ _ _ hE9
  have bx1 := cell_of_row _ _ 1 _ _ _ hE9
  have bx2 := cell_of_row _ _ 2 _ _ _ hE9
  have bx3 := cell_of_row _ _ 3 _ _ _ hE9
  simp at bx0 bx1 bx2 bx3
  have C9 := Lib.hid (CC.out w9 (b8.trans (b9.mono b8.size)))
  have HX9 : Hid (_ ∧ _ ∧ _ ∧ _) := ⟨blk_call hR8 b9, own_below o8 b9, own_below oQ8 b9, b8.trans (b9.mono b8.size)⟩
  have hQhi := own_block_lt oQ8
  have hz89 := b9.size
  have hz78 := b8.size
  clear CC hR8 hE8 o8 oQ8 b8 hE9 b9 HX8
  go_wp2_with fail
  refine C9.out.mono ?_
  rintro e w10 ⟨Q3, qc3, rfl, oC, b10⟩
  clear bx0 bx1 bx2 bx3 C9
  obtain ⟨hR9, o9, oQ9, b79⟩ := HX9.out
  have HR := Lib.hid (blk_call hR9 b10)
  have HW := Lib.hid (own_below o9 b10)
  have HQ := Lib.hid (own_below oQ9 b10)
  have HC := Lib.hid oC
  have BZ : Hid (Below w.heap.size w w10) := HB7.out.trans ((b79.trans (b10.mono b79.size)).mono HB7.out.size)
  have hC1 := own_low oC
  have hC2 : 0 < s.1.length → ∃ g, Q3 = some ⟨g, 0, none⟩ ∧ w9.heap.size ≤ g := by
    obtain ⟨_, _, e, _, _, h⟩ := own_form oC
    injection e with e1 e2 e3
    rw [e1]; exact h
  have hQ1 := own_low oQ9
  have hQ2 : 0 < r.1.length → ∃ g, Q1 = some ⟨g, 0, none⟩ ∧ w7.heap.size ≤ g := by
    obtain ⟨_, _, e, _, _, h⟩ := own_form oQ9
    injection e with e1 e2 e3
    rw [e1]; exact h
  have h7w := HB7.out.size
  clear hR9 o9 oQ9 b79 oC b10 HX9 HB7
  by_cases hr0 : r.1.length = 0
  · by_cases hs0 : s.1.length = 0
    · obtain ⟨r1, r2⟩ := r
      obtain ⟨s1, s2⟩ := s
      obtain rfl : r1 = [] := List.eq_nil_of_length_eq_zero hr0
      obtain rfl : s1 = [] := List.eq_nil_of_length_eq_zero hs0
      go_wp2
      go_loop [13] (fun i => i = .int .i64 0) (fun _ => 0)
      case atStart => rfl
      case round =>
        subst hrel
        go_wp2
        go_loop [14] (fun i => i = .int .i64 0) (fun _ => 0)
        case atStart => rfl
        case round =>
          subst hrel
          go_wp2
          have KB : Hid (∀ w', Below w10.heap.size w10 w' → ∀ j, j < 40 → En.here w' b (0 + j * 4) ((el ++ List.replicate (40 - el.length) en0).getD j en0)) := fun w' h j hj => by
            obtain ⟨b', off', e, hlt, hh⟩ := (show Rws w' w'.heap.size _ ((el ++ List.replicate (40 - el.length) en0).flatMap enC) from by rw [HRe.out]; exact rws_below (rws_blk HR.out) h).en (i := j) (by rw [h40.out]; exact hj)
            injection e with e
            injection e with e1 e2
            subst e1 e2
            exact hh
          have KW : Hid (∀ w', Below w10.heap.size w10 w' → ∀ j, j < 40 → En.here w' wb (0 + j * 4) ((el ++ List.replicate (40 - el.length) en0).getD j en0)) := fun w' h j hj => by
            obtain ⟨b', off', e, hlt, hh⟩ := (show Rws w' w'.heap.size _ ((el ++ List.replicate (40 - el.length) en0).flatMap enC) from by rw [HRe.out]; exact rws_below (own_rws HW.out) h).en (i := j) (by rw [h40.out]; exact hj)
            injection e with e
            injection e with e1 e2
            subst e1 e2
            exact hh
          clear HR HW
          go_loopw [15] (fun i wr => ∃ j : Nat, j ≤ 40 ∧ i = .int .i64 j ∧ Below w10.heap.size w10 wr) (fun i _ => 40 - (intOf i).toNat)
          case atStart => exact ⟨0, by omega, rfl, Below.refl _ _⟩
          case round =>
            obtain ⟨j, hj0, rfl, bz⟩ := hrel
            by_cases hj : j < 40
            · have K1 : Hid (∀ w', Below wr.heap.size wr w' → En.here w' b (0 + j * 4) ((el ++ List.replicate (40 - el.length) en0).getD j en0)) := fun w' h => KB.out w' (bz.trans (h.mono bz.size)) j hj
              have K2 : Hid (∀ w', Below wr.heap.size wr w' → En.here w' wb (0 + j * 4) ((el ++ List.replicate (40 - el.length) en0).getD j en0)) := fun w' h => KW.out w' (bz.trans (h.mono bz.size)) j hj
              generalize (el ++ List.replicate (40 - el.length) en0).getD j en0 = y at *
              go_wp2_with fail
              go_cut [85] from 72 to 85 (fun s85 wx => s85 = .bool false ∧ Below wr.heap.size wr wx)
              case first =>
                refine wp_region_held_drew (S := fun w' => Hid (Below wr.heap.size wr w')) (by kernel_rfl) (below_drawn (Below.refl _ _) 1) (fun hHeld => ?_)
                refine held_take 0 76 (.slice (some ⟨b, 0, none⟩) el.length 40) rfl rfl (by kernel_rfl) (by kernel_rfl) (by kernel_rfl) (fun _ _ _ h => h) rfl hHeld (fun w _ => rfl) ?_
                refine held_take 1 77 (.slice (some ⟨b, 0, none⟩) 40 40) rfl rfl (by kernel_rfl) (by kernel_rfl) (by kernel_rfl) (fun _ _ _ h => h) rfl hHeld (fun w _ => exec_to40 b el.length w (by omega)) ?_
                simp only [Act.put, List.setIfInBounds_toArray, List.set_cons_zero, List.set_cons_succ]
                refine held_take 2 78 (.int .i64 (j : Int)) rfl rfl (by kernel_rfl) (by kernel_rfl) (by kernel_rfl) (fun _ _ _ h => h) rfl hHeld (fun w _ => rfl) ?_
                refine held_take 3 79 (.pointer (some ⟨b, 0 + j * 4, none⟩)) rfl rfl (by kernel_rfl) (by kernel_rfl) (by kernel_rfl) (fun _ _ _ h => h) rfl hHeld (fun w _ => exec_idx_en b 0 40 40 j w hj) ?_
                simp only [Act.put, List.setIfInBounds_toArray, List.set_cons_zero, List.set_cons_succ]
                refine held_take 4 80 (enA y) rfl rfl (by kernel_rfl) (by kernel_rfl) (by kernel_rfl) (fun _ _ _ h => h) rfl hHeld (fun w h => exec_load_en b (0 + j * 4) y w (K1.out w h.out)) ?_
                refine held_take 5 81 (.slice (some ⟨wb, 0, none⟩) 40 wc) rfl rfl (by kernel_rfl) (by kernel_rfl) (by kernel_rfl) (fun _ _ _ h => h) rfl hHeld (fun w _ => rfl) ?_
                simp only [Act.put, List.setIfInBounds_toArray, List.set_cons_zero, List.set_cons_succ]
                refine held_take 6 82 (.int .i64 (j : Int)) rfl rfl (by kernel_rfl) (by kernel_rfl) (by kernel_rfl) (fun _ _ _ h => h) rfl hHeld (fun w _ => rfl) ?_
                refine held_take 7 83 (.pointer (some ⟨wb, 0 + j * 4, none⟩)) rfl rfl (by kernel_rfl) (by kernel_rfl) (by kernel_rfl) (fun _ _ _ h => h) rfl hHeld (fun w _ => exec_idx_en wb 0 40 wc j w hj) ?_
                simp only [Act.put, List.setIfInBounds_toArray, List.set_cons_zero, List.set_cons_succ]
                refine held_take 8 84 (enA y) rfl rfl (by kernel_rfl) (by kernel_rfl) (by kernel_rfl) (fun _ _ _ h => h) rfl hHeld (fun w h => exec_load_en wb (0 + j * 4) y w (K2.out w h.out)) ?_
                simp only [Act.put, List.setIfInBounds_toArray, List.set_cons_zero, List.set_cons_succ]
                refine held_take 9 85 (.bool false) rfl rfl (by kernel_rfl) (by kernel_rfl) (by kernel_rfl) (fun _ _ _ h => h) rfl hHeld (fun w _ => exec_neqEn y w) ?_
                simp only [Act.put, List.setIfInBounds_toArray, List.set_cons_zero, List.set_cons_succ]
                refine wpAnyH_done (by kernel_rfl) ?_ _
                go_wp2_with fail
                go_meet
                exact ⟨rfl, hHeld.out⟩
              case rest =>
                obtain ⟨rfl, by_⟩ := hcut
                have bz2 := bz.trans (by_.mono bz.size)
                clear K1 K2 by_ bz
                go_wp2
                go_roundw
                case rel => exact ⟨j + 1, by omega, by go_num, bz2⟩
                case measure => simp [intOf]; omega
            · go_wp2
              go_ret
              exact ⟨rfl, BZ.out.trans (bz.mono BZ.out.size)⟩
    · obtain ⟨r1, r2⟩ := r
      obtain rfl : r1 = [] := List.eq_nil_of_length_eq_zero hr0
      have hs0 : 0 < s.1.length := by omega
      go_wp2
      go_loop [13] (fun i => i = .int .i64 0) (fun _ => 0)
      case atStart => rfl
      case round =>
        subst hrel
        go_wp2
        obtain ⟨gc, hgc, hgl⟩ := hC2 hs0
        subst hgc
        have hgc3 := hC1 gc rfl
        go_loopw [14] (fun i wr => ∃ (j : Nat) (cs : List Value), j ≤ s.1.length ∧ i = .int .i64 j ∧ wr.ownsRow w9.heap.size 26 4 (.slice (some ⟨gc, 0, none⟩) s.1.length qc3) s.1.length cs ∧ w10.grownBy wr (some gc)) (fun i _ => s.1.length - (intOf i).toNat)
        case atStart => exact ⟨0, _, by omega, rfl, HC.out, World.grownBy.refl _ _⟩
        case round =>
          obtain ⟨j, cs, hj0, rfl, hown, hgr⟩ := hrel
          by_cases hj : j < s.1.length
          · obtain ⟨u0, hu0⟩ : ∃ u, wr.cell? ⟨gc, j * 4 + 2, none⟩ = some u := by rw [hown.cellAt (j * 4 + 2) (by omega)]; exact ⟨_, List.getElem?_eq_getElem (by have := hown.1; omega)⟩
            have hf0 := hown.frozenAt (j * 4 + 2)
            have S := hown.stored (j * 4 + 2) (.int .i64 6000)
            have HS := Lib.hid S.1
            have HG := Lib.hid (hgr.trans S.2)
            clear S hown hgr
            go_wp2
            go_roundw
            case rel => exact ⟨j + 1, _, by omega, by go_num, HS.out, HG.out⟩
            case measure => simp [intOf]; omega
          · skip
            obtain ⟨wx2, hwy⟩ : ∃ u, u = wr := ⟨_, rfl⟩
            subst hwy
            have HR : Hid (wx2.heap[b]? = some (.cells R.toArray 26 (0, 0))) := (hgr.block _ (blk_lt HR.out) (fun e => by injection e with e; omega)).trans HR.out
            have HW : Hid (wx2.ownsRow w5.heap.size 26 4 (.slice (some ⟨wb, 0, none⟩) 40 wc) 40 R) := own_kept2 HW.out hgr (fun k hv e => by have h1 : wb = k := Option.some.inj hv; have h2 : gc = k := Option.some.inj e; omega)
            have BZ : Hid (Below w.heap.size w wx2) := BZ.out.grown hgr BZ.out.size (fun k hk => by have h2 : gc = k := Option.some.inj hk; omega)
            clear hgr hown
            go_wp2
            have KB : Hid (∀ w', Below wx2.heap.size wx2 w' → ∀ j, j < 40 → En.here w' b (0 + j * 4) ((el ++ List.replicate (40 - el.length) en0).getD j en0)) := fun w' h j hj => by
              obtain ⟨b', off', e, hlt, hh⟩ := (show Rws w' w'.heap.size _ ((el ++ List.replicate (40 - el.length) en0).flatMap enC) from by rw [HRe.out]; exact rws_below (rws_blk HR.out) h).en (i := j) (by rw [h40.out]; exact hj)
              injection e with e
              injection e with e1 e2
              subst e1 e2
              exact hh
            have KW : Hid (∀ w', Below wx2.heap.size wx2 w' → ∀ j, j < 40 → En.here w' wb (0 + j * 4) ((el ++ List.replicate (40 - el.length) en0).getD j en0)) := fun w' h j hj => by
              obtain ⟨b', off', e, hlt, hh⟩ := (show Rws w' w'.heap.size _ ((el ++ List.replicate (40 - el.length) en0).flatMap enC) from by rw [HRe.out]; exact rws_below (own_rws HW.out) h).en (i := j) (by rw [h40.out]; exact hj)
              injection e with e
              injection e with e1 e2
              subst e1 e2
              exact hh
            clear HR HW
            go_loopw [15] (fun i wr => ∃ j : Nat, j ≤ 40 ∧ i = .int .i64 j ∧ Below wx2.heap.size wx2 wr) (fun i _ => 40 - (intOf i).toNat)
            case atStart => exact ⟨0, by omega, rfl, Below.refl _ _⟩
            case round =>
              obtain ⟨j, hj0, rfl, bz⟩ := hrel
              by_cases hj : j < 40
              · have K1 : Hid (∀ w', Below wr.heap.size wr w' → En.here w' b (0 + j * 4) ((el ++ List.replicate (40 - el.length) en0).getD j en0)) := fun w' h => KB.out w' (bz.trans (h.mono bz.size)) j hj
                have K2 : Hid (∀ w', Below wr.heap.size wr w' → En.here w' wb (0 + j * 4) ((el ++ List.replicate (40 - el.length) en0).getD j en0)) := fun w' h => KW.out w' (bz.trans (h.mono bz.size)) j hj
                generalize (el ++ List.replicate (40 - el.length) en0).getD j en0 = y at *
                go_wp2_with fail
                go_cut [85] from 72 to 85 (fun s85 wx => s85 = .bool false ∧ Below wr.heap.size wr wx)
                case first =>
                  refine wp_region_held_drew (S := fun w' => Hid (Below wr.heap.size wr w')) (by kernel_rfl) (below_drawn (Below.refl _ _) 1) (fun hHeld => ?_)
                  refine held_take 0 76 (.slice (some ⟨b, 0, none⟩) el.length 40) rfl rfl (by kernel_rfl) (by kernel_rfl) (by kernel_rfl) (fun _ _ _ h => h) rfl hHeld (fun w _ => rfl) ?_
                  refine held_take 1 77 (.slice (some ⟨b, 0, none⟩) 40 40) rfl rfl (by kernel_rfl) (by kernel_rfl) (by kernel_rfl) (fun _ _ _ h => h) rfl hHeld (fun w _ => exec_to40 b el.length w (by omega)) ?_
                  simp only [Act.put, List.setIfInBounds_toArray, List.set_cons_zero, List.set_cons_succ]
                  refine held_take 2 78 (.int .i64 (j : Int)) rfl rfl (by kernel_rfl) (by kernel_rfl) (by kernel_rfl) (fun _ _ _ h => h) rfl hHeld (fun w _ => rfl) ?_
                  refine held_take 3 79 (.pointer (some ⟨b, 0 + j * 4, none⟩)) rfl rfl (by kernel_rfl) (by kernel_rfl) (by kernel_rfl) (fun _ _ _ h => h) rfl hHeld (fun w _ => exec_idx_en b 0 40 40 j w hj) ?_
                  simp only [Act.put, List.setIfInBounds_toArray, List.set_cons_zero, List.set_cons_succ]
                  refine held_take 4 80 (enA y) rfl rfl (by kernel_rfl) (by kernel_rfl) (by kernel_rfl) (fun _ _ _ h => h) rfl hHeld (fun w h => exec_load_en b (0 + j * 4) y w (K1.out w h.out)) ?_
                  refine held_take 5 81 (.slice (some ⟨wb, 0, none⟩) 40 wc) rfl rfl (by kernel_rfl) (by kernel_rfl) (by kernel_rfl) (fun _ _ _ h => h) rfl hHeld (fun w _ => rfl) ?_
                  simp only [Act.put, List.setIfInBounds_toArray, List.set_cons_zero, List.set_cons_succ]
                  refine held_take 6 82 (.int .i64 (j : Int)) rfl rfl (by kernel_rfl) (by kernel_rfl) (by kernel_rfl) (fun _ _ _ h => h) rfl hHeld (fun w _ => rfl) ?_
                  refine held_take 7 83 (.pointer (some ⟨wb, 0 + j * 4, none⟩)) rfl rfl (by kernel_rfl) (by kernel_rfl) (by kernel_rfl) (fun _ _ _ h => h) rfl hHeld (fun w _ => exec_idx_en wb 0 40 wc j w hj) ?_
                  simp only [Act.put, List.setIfInBounds_toArray, List.set_cons_zero, List.set_cons_succ]
                  refine held_take 8 84 (enA y) rfl rfl (by kernel_rfl) (by kernel_rfl) (by kernel_rfl) (fun _ _ _ h => h) rfl hHeld (fun w h => exec_load_en wb (0 + j * 4) y w (K2.out w h.out)) ?_
                  simp only [Act.put, List.setIfInBounds_toArray, List.set_cons_zero, List.set_cons_succ]
                  refine held_take 9 85 (.bool false) rfl rfl (by kernel_rfl) (by kernel_rfl) (by kernel_rfl) (fun _ _ _ h => h) rfl hHeld (fun w _ => exec_neqEn y w) ?_
                  simp only [Act.put, List.setIfInBounds_toArray, List.set_cons_zero, List.set_cons_succ]
                  refine wpAnyH_done (by kernel_rfl) ?_ _
                  go_wp2_with fail
                  go_meet
                  exact ⟨rfl, hHeld.out⟩
                case rest =>
                  obtain ⟨rfl, by_⟩ := hcut
                  have bz2 := bz.trans (by_.mono bz.size)
                  clear K1 K2 by_ bz
                  go_wp2
                  go_roundw
                  case rel => exact ⟨j + 1, by omega, by go_num, bz2⟩
                  case measure => simp [intOf]; omega
              · go_wp2
                go_ret
                exact ⟨rfl, BZ.out.trans (bz.mono BZ.out.size)⟩
  · have hr0 : 0 < r.1.length := by omega
    obtain ⟨gq, hgq, hgl⟩ := hQ2 hr0
    subst hgq
    have hgq2 := hQhi gq rfl
    by_cases hs0 : s.1.length = 0
    · obtain ⟨s1, s2⟩ := s
      obtain rfl : s1 = [] := List.eq_nil_of_length_eq_zero hs0
      go_wp2
      go_loopw [13] (fun i wr => ∃ (j : Nat) (cs : List Value), j ≤ r.1.length ∧ i = .int .i64 j ∧ wr.ownsRow w7.heap.size 26 4 (.slice (some ⟨gq, 0, none⟩) r.1.length qc1) r.1.length cs ∧ w10.grownBy wr (some gq)) (fun i _ => r.1.length - (intOf i).toNat)
      case atStart => exact ⟨0, _, by omega, rfl, HQ.out, World.grownBy.refl _ _⟩
      case round =>
        obtain ⟨j, cs, hj0, rfl, hown, hgr⟩ := hrel
        by_cases hj : j < r.1.length
        · obtain ⟨u0, hu0⟩ : ∃ u, wr.cell? ⟨gq, j * 4 + 2, none⟩ = some u := by rw [hown.cellAt (j * 4 + 2) (by omega)]; exact ⟨_, List.getElem?_eq_getElem (by have := hown.1; omega)⟩
          have hf0 := hown.frozenAt (j * 4 + 2)
          have S := hown.stored (j * 4 + 2) (.int .i64 5000)
          have HS := Lib.hid S.1
          have HG := Lib.hid (hgr.trans S.2)
          clear S hown hgr
          go_wp2
          go_roundw
          case rel => exact ⟨j + 1, _, by omega, by go_num, HS.out, HG.out⟩
          case measure => simp [intOf]; omega
        · skip
          obtain ⟨wy, hwy⟩ : ∃ u, u = wr := ⟨_, rfl⟩
          subst hwy
          have HR : Hid (wy.heap[b]? = some (.cells R.toArray 26 (0, 0))) := (hgr.block _ (blk_lt HR.out) (fun e => by injection e with e; omega)).trans HR.out
          have HW : Hid (wy.ownsRow w5.heap.size 26 4 (.slice (some ⟨wb, 0, none⟩) 40 wc) 40 R) := own_kept2 HW.out hgr (fun k hv e => by have h1 : wb = k := Option.some.inj hv; have h2 : gq = k := Option.some.inj e; omega)
          have BZ : Hid (Below w.heap.size w wy) := BZ.out.grown hgr BZ.out.size (fun k hk => by have h2 : gq = k := Option.some.inj hk; omega)
          clear hgr hown
          go_wp2
          go_loop [14] (fun i => i = .int .i64 0) (fun _ => 0)
          case atStart => rfl
          case round =>
            subst hrel
            go_wp2
            have KB : Hid (∀ w', Below wy.heap.size wy w' → ∀ j, j < 40 → En.here w' b (0 + j * 4) ((el ++ List.replicate (40 - el.length) en0).getD j en0)) := fun w' h j hj => by
              obtain ⟨b', off', e, hlt, hh⟩ := (show Rws w' w'.heap.size _ ((el ++ List.replicate (40 - el.length) en0).flatMap enC) from by rw [HRe.out]; exact rws_below (rws_blk HR.out) h).en (i := j) (by rw [h40.out]; exact hj)
              injection e with e
              injection e with e1 e2
              subst e1 e2
              exact hh
            have KW : Hid (∀ w', Below wy.heap.size wy w' → ∀ j, j < 40 → En.here w' wb (0 + j * 4) ((el ++ List.replicate (40 - el.length) en0).getD j en0)) := fun w' h j hj => by
              obtain ⟨b', off', e, hlt, hh⟩ := (show Rws w' w'.heap.size _ ((el ++ List.replicate (40 - el.length) en0).flatMap enC) from by rw [HRe.out]; exact rws_below (own_rws HW.out) h).en (i := j) (by rw [h40.out]; exact hj)
              injection e with e
              injection e with e1 e2
              subst e1 e2
              exact hh
            clear HR HW
            go_loopw [15] (fun i wr => ∃ j : Nat, j ≤ 40 ∧ i = .int .i64 j ∧ Below wy.heap.size wy wr) (fun i _ => 40 - (intOf i).toNat)
            case atStart => exact ⟨0, by omega, rfl, Below.refl _ _⟩
            case round =>
              obtain ⟨j, hj0, rfl, bz⟩ := hrel
              by_cases hj : j < 40
              · have K1 : Hid (∀ w', Below wr.heap.size wr w' → En.here w' b (0 + j * 4) ((el ++ List.replicate (40 - el.length) en0).getD j en0)) := fun w' h => KB.out w' (bz.trans (h.mono bz.size)) j hj
                have K2 : Hid (∀ w', Below wr.heap.size wr w' → En.here w' wb (0 + j * 4) ((el ++ List.replicate (40 - el.length) en0).getD j en0)) := fun w' h => KW.out w' (bz.trans (h.mono bz.size)) j hj
                generalize (el ++ List.replicate (40 - el.length) en0).getD j en0 = y at *
                go_wp2_with fail
                go_cut [85] from 72 to 85 (fun s85 wx => s85 = .bool false ∧ Below wr.heap.size wr wx)
                case first =>
                  refine wp_region_held_drew (S := fun w' => Hid (Below wr.heap.size wr w')) (by kernel_rfl) (below_drawn (Below.refl _ _) 1) (fun hHeld => ?_)
                  refine held_take 0 76 (.slice (some ⟨b, 0, none⟩) el.length 40) rfl rfl (by kernel_rfl) (by kernel_rfl) (by kernel_rfl) (fun _ _ _ h => h) rfl hHeld (fun w _ => rfl) ?_
                  refine held_take 1 77 (.slice (some ⟨b, 0, none⟩) 40 40) rfl rfl (by kernel_rfl) (by kernel_rfl) (by kernel_rfl) (fun _ _ _ h => h) rfl hHeld (fun w _ => exec_to40 b el.length w (by omega)) ?_
                  simp only [Act.put, List.setIfInBounds_toArray, List.set_cons_zero, List.set_cons_succ]
                  refine held_take 2 78 (.int .i64 (j : Int)) rfl rfl (by kernel_rfl) (by kernel_rfl) (by kernel_rfl) (fun _ _ _ h => h) rfl hHeld (fun w _ => rfl) ?_
                  refine held_take 3 79 (.pointer (some ⟨b, 0 + j * 4, none⟩)) rfl rfl (by kernel_rfl) (by kernel_rfl) (by kernel_rfl) (fun _ _ _ h => h) rfl hHeld (fun w _ => exec_idx_en b 0 40 40 j w hj) ?_
                  simp only [Act.put, List.setIfInBounds_toArray, List.set_cons_zero, List.set_cons_succ]
                  refine held_take 4 80 (enA y) rfl rfl (by kernel_rfl) (by kernel_rfl) (by kernel_rfl) (fun _ _ _ h => h) rfl hHeld (fun w h => exec_load_en b (0 + j * 4) y w (K1.out w h.out)) ?_
                  refine held_take 5 81 (.slice (some ⟨wb, 0, none⟩) 40 wc) rfl rfl (by kernel_rfl) (by kernel_rfl) (by kernel_rfl) (fun _ _ _ h => h) rfl hHeld (fun w _ => rfl) ?_
                  simp only [Act.put, List.setIfInBounds_toArray, List.set_cons_zero, List.set_cons_succ]
                  refine held_take 6 82 (.int .i64 (j : Int)) rfl rfl (by kernel_rfl) (by kernel_rfl) (by kernel_rfl) (fun _ _ _ h => h) rfl hHeld (fun w _ => rfl) ?_
                  refine held_take 7 83 (.pointer (some ⟨wb, 0 + j * 4, none⟩)) rfl rfl (by kernel_rfl) (by kernel_rfl) (by kernel_rfl) (fun _ _ _ h => h) rfl hHeld (fun w _ => exec_idx_en wb 0 40 wc j w hj) ?_
                  simp only [Act.put, List.setIfInBounds_toArray, List.set_cons_zero, List.set_cons_succ]
                  refine held_take 8 84 (enA y) rfl rfl (by kernel_rfl) (by kernel_rfl) (by kernel_rfl) (fun _ _ _ h => h) rfl hHeld (fun w h => exec_load_en wb (0 + j * 4) y w (K2.out w h.out)) ?_
                  simp only [Act.put, List.setIfInBounds_toArray, List.set_cons_zero, List.set_cons_succ]
                  refine held_take 9 85 (.bool false) rfl rfl (by kernel_rfl) (by kernel_rfl) (by kernel_rfl) (fun _ _ _ h => h) rfl hHeld (fun w _ => exec_neqEn y w) ?_
                  simp only [Act.put, List.setIfInBounds_toArray, List.set_cons_zero, List.set_cons_succ]
                  refine wpAnyH_done (by kernel_rfl) ?_ _
                  go_wp2_with fail
                  go_meet
                  exact ⟨rfl, hHeld.out⟩
                case rest =>
                  obtain ⟨rfl, by_⟩ := hcut
                  have bz2 := bz.trans (by_.mono bz.size)
                  clear K1 K2 by_ bz
                  go_wp2
                  go_roundw
                  case rel => exact ⟨j + 1, by omega, by go_num, bz2⟩
                  case measure => simp [intOf]; omega
              · go_wp2
                go_ret
                exact ⟨rfl, BZ.out.trans (bz.mono BZ.out.size)⟩
    · have hs0 : 0 < s.1.length := by omega
      go_wp2
      go_loopw [13] (fun i wr => ∃ (j : Nat) (cs : List Value), j ≤ r.1.length ∧ i = .int .i64 j ∧ wr.ownsRow w7.heap.size 26 4 (.slice (some ⟨gq, 0, none⟩) r.1.length qc1) r.1.length cs ∧ w10.grownBy wr (some gq)) (fun i _ => r.1.length - (intOf i).toNat)
      case atStart => exact ⟨0, _, by omega, rfl, HQ.out, World.grownBy.refl _ _⟩
      case round =>
        obtain ⟨j, cs, hj0, rfl, hown, hgr⟩ := hrel
        by_cases hj : j < r.1.length
        · obtain ⟨u0, hu0⟩ : ∃ u, wr.cell? ⟨gq, j * 4 + 2, none⟩ = some u := by rw [hown.cellAt (j * 4 + 2) (by omega)]; exact ⟨_, List.getElem?_eq_getElem (by have := hown.1; omega)⟩
          have hf0 := hown.frozenAt (j * 4 + 2)
          have S := hown.stored (j * 4 + 2) (.int .i64 5000)
          have HS := Lib.hid S.1
          have HG := Lib.hid (hgr.trans S.2)
          clear S hown hgr
          go_wp2
          go_roundw
          case rel => exact ⟨j + 1, _, by omega, by go_num, HS.out, HG.out⟩
          case measure => simp [intOf]; omega
        · skip
          obtain ⟨wy, hwy⟩ : ∃ u, u = wr := ⟨_, rfl⟩
          subst hwy
          have HR : Hid (wy.heap[b]? = some (.cells R.toArray 26 (0, 0))) := (hgr.block _ (blk_lt HR.out) (fun e => by injection e with e; omega)).trans HR.out
          have HW : Hid (wy.ownsRow w5.heap.size 26 4 (.slice (some ⟨wb, 0, none⟩) 40 wc) 40 R) := own_kept2 HW.out hgr (fun k hv e => by have h1 : wb = k := Option.some.inj hv; have h2 : gq = k := Option.some.inj e; omega)
          have HC : Hid (wy.ownsRow w9.heap.size 26 4 (.slice Q3 s.1.length qc3) s.1.length (s.1.flatMap enC)) := own_kept2 HC.out hgr (fun k hv e => by have h1 := hC1 k hv; have h2 : gq = k := Option.some.inj e; omega)
          have BZ : Hid (Below w.heap.size w wy) := BZ.out.grown hgr BZ.out.size (fun k hk => by have h2 : gq = k := Option.some.inj hk; omega)
          clear hgr hown
          go_wp2
          obtain ⟨gc, hgc, hgl⟩ := hC2 hs0
          subst hgc
          have hgc3 := hC1 gc rfl
          go_loopw [14] (fun i wr => ∃ (j : Nat) (cs : List Value), j ≤ s.1.length ∧ i = .int .i64 j ∧ wr.ownsRow w9.heap.size 26 4 (.slice (some ⟨gc, 0, none⟩) s.1.length qc3) s.1.length cs ∧ wy.grownBy wr (some gc)) (fun i _ => s.1.length - (intOf i).toNat)
          case atStart => exact ⟨0, _, by omega, rfl, HC.out, World.grownBy.refl _ _⟩
          case round =>
            obtain ⟨j, cs, hj0, rfl, hown, hgr⟩ := hrel
            by_cases hj : j < s.1.length
            · obtain ⟨u0, hu0⟩ : ∃ u, wr.cell? ⟨gc, j * 4 + 2, none⟩ = some u := by rw [hown.cellAt (j * 4 + 2) (by omega)]; exact ⟨_, List.getElem?_eq_getElem (by have := hown.1; omega)⟩
              have hf0 := hown.frozenAt (j * 4 + 2)
              have S := hown.stored (j * 4 + 2) (.int .i64 6000)
              have HS := Lib.hid S.1
              have HG := Lib.hid (hgr.trans S.2)
              clear S hown hgr
              go_wp2
              go_roundw
              case rel => exact ⟨j + 1, _, by omega, by go_num, HS.out, HG.out⟩
              case measure => simp [intOf]; omega
            · skip
              obtain ⟨wx2, hwy⟩ : ∃ u, u = wr := ⟨_, rfl⟩
              subst hwy
              have HR : Hid (wx2.heap[b]? = some (.cells R.toArray 26 (0, 0))) := (hgr.block _ (blk_lt HR.out) (fun e => by injection e with e; omega)).trans HR.out
              have HW : Hid (wx2.ownsRow w5.heap.size 26 4 (.slice (some ⟨wb, 0, none⟩) 40 wc) 40 R) := own_kept2 HW.out hgr (fun k hv e => by have h1 : wb = k := Option.some.inj hv; have h2 : gc = k := Option.some.inj e; omega)
              have BZ : Hid (Below w.heap.size w wx2) := BZ.out.grown hgr BZ.out.size (fun k hk => by have h2 : gc = k := Option.some.inj hk; omega)
              clear hgr hown
              go_wp2
              have KB : Hid (∀ w', Below wx2.heap.size wx2 w' → ∀ j, j < 40 → En.here w' b (0 + j * 4) ((el ++ List.replicate (40 - el.length) en0).getD j en0)) := fun w' h j hj => by
                obtain ⟨b', off', e, hlt, hh⟩ := (show Rws w' w'.heap.size _ ((el ++ List.replicate (40 - el.length) en0).flatMap enC) from by rw [HRe.out]; exact rws_below (rws_blk HR.out) h).en (i := j) (by rw [h40.out]; exact hj)
                injection e with e
                injection e with e1 e2
                subst e1 e2
                exact hh
              have KW : Hid (∀ w', Below wx2.heap.size wx2 w' → ∀ j, j < 40 → En.here w' wb (0 + j * 4) ((el ++ List.replicate (40 - el.length) en0).getD j en0)) := fun w' h j hj => by
                obtain ⟨b', off', e, hlt, hh⟩ := (show Rws w' w'.heap.size _ ((el ++ List.replicate (40 - el.length) en0).flatMap enC) from by rw [HRe.out]; exact rws_below (own_rws HW.out) h).en (i := j) (by rw [h40.out]; exact hj)
                injection e with e
                injection e with e1 e2
                subst e1 e2
                exact hh
              clear HR HW
              go_loopw [15] (fun i wr => ∃ j : Nat, j ≤ 40 ∧ i = .int .i64 j ∧ Below wx2.heap.size wx2 wr) (fun i _ => 40 - (intOf i).toNat)
              case atStart => exact ⟨0, by omega, rfl, Below.refl _ _⟩
              case round =>
                obtain ⟨j, hj0, rfl, bz⟩ := hrel
                by_cases hj : j < 40
                · have K1 : Hid (∀ w', Below wr.heap.size wr w' → En.here w' b (0 + j * 4) ((el ++ List.replicate (40 - el.length) en0).getD j en0)) := fun w' h => KB.out w' (bz.trans (h.mono bz.size)) j hj
                  have K2 : Hid (∀ w', Below wr.heap.size wr w' → En.here w' wb (0 + j * 4) ((el ++ List.replicate (40 - el.length) en0).getD j en0)) := fun w' h => KW.out w' (bz.trans (h.mono bz.size)) j hj
                  generalize (el ++ List.replicate (40 - el.length) en0).getD j en0 = y at *
                  go_wp2_with fail
                  go_cut [85] from 72 to 85 (fun s85 wx => s85 = .bool false ∧ Below wr.heap.size wr wx)
                  case first =>
                    refine wp_region_held_drew (S := fun w' => Hid (Below wr.heap.size wr w')) (by kernel_rfl) (below_drawn (Below.refl _ _) 1) (fun hHeld => ?_)
                    refine held_take 0 76 (.slice (some ⟨b, 0, none⟩) el.length 40) rfl rfl (by kernel_rfl) (by kernel_rfl) (by kernel_rfl) (fun _ _ _ h => h) rfl hHeld (fun w _ => rfl) ?_
                    refine held_take 1 77 (.slice (some ⟨b, 0, none⟩) 40 40) rfl rfl (by kernel_rfl) (by kernel_rfl) (by kernel_rfl) (fun _ _ _ h => h) rfl hHeld (fun w _ => exec_to40 b el.length w (by omega)) ?_
                    simp only [Act.put, List.setIfInBounds_toArray, List.set_cons_zero, List.set_cons_succ]
                    refine held_take 2 78 (.int .i64 (j : Int)) rfl rfl (by kernel_rfl) (by kernel_rfl) (by kernel_rfl) (fun _ _ _ h => h) rfl hHeld (fun w _ => rfl) ?_
                    refine held_take 3 79 (.pointer (some ⟨b, 0 + j * 4, none⟩)) rfl rfl (by kernel_rfl) (by kernel_rfl) (by kernel_rfl) (fun _ _ _ h => h) rfl hHeld (fun w _ => exec_idx_en b 0 40 40 j w hj) ?_
                    simp only [Act.put, List.setIfInBounds_toArray, List.set_cons_zero, List.set_cons_succ]
                    refine held_take 4 80 (enA y) rfl rfl (by kernel_rfl) (by kernel_rfl) (by kernel_rfl) (fun _ _ _ h => h) rfl hHeld (fun w h => exec_load_en b (0 + j * 4) y w (K1.out w h.out)) ?_
                    refine held_take 5 81 (.slice (some ⟨wb, 0, none⟩) 40 wc) rfl rfl (by kernel_rfl) (by kernel_rfl) (by kernel_rfl) (fun _ _ _ h => h) rfl hHeld (fun w _ => rfl) ?_
                    simp only [Act.put, List.setIfInBounds_toArray, List.set_cons_zero, List.set_cons_succ]
                    refine held_take 6 82 (.int .i64 (j : Int)) rfl rfl (by kernel_rfl) (by kernel_rfl) (by kernel_rfl) (fun _ _ _ h => h) rfl hHeld (fun w _ => rfl) ?_
                    refine held_take 7 83 (.pointer (some ⟨wb, 0 + j * 4, none⟩)) rfl rfl (by kernel_rfl) (by kernel_rfl) (by kernel_rfl) (fun _ _ _ h => h) rfl hHeld (fun w _ => exec_idx_en wb 0 40 wc j w hj) ?_
                    simp only [Act.put, List.setIfInBounds_toArray, List.set_cons_zero, List.set_cons_succ]
                    refine held_take 8 84 (enA y) rfl rfl (by kernel_rfl) (by kernel_rfl) (by kernel_rfl) (fun _ _ _ h => h) rfl hHeld (fun w h => exec_load_en wb (0 + j * 4) y w (K2.out w h.out)) ?_
                    simp only [Act.put, List.setIfInBounds_toArray, List.set_cons_zero, List.set_cons_succ]
                    refine held_take 9 85 (.bool false) rfl rfl (by kernel_rfl) (by kernel_rfl) (by kernel_rfl) (fun _ _ _ h => h) rfl hHeld (fun w _ => exec_neqEn y w) ?_
                    simp only [Act.put, List.setIfInBounds_toArray, List.set_cons_zero, List.set_cons_succ]
                    refine wpAnyH_done (by kernel_rfl) ?_ _
                    go_wp2_with fail
                    go_meet
                    exact ⟨rfl, hHeld.out⟩
                  case rest =>
                    obtain ⟨rfl, by_⟩ := hcut
                    have bz2 := bz.trans (by_.mono bz.size)
                    clear K1 K2 by_ bz
                    go_wp2
                    go_roundw
                    case rel => exact ⟨j + 1, by omega, by go_num, bz2⟩
                    case measure => simp [intOf]; omega
                · go_wp2
                  go_ret
                  exact ⟨rfl, BZ.out.trans (bz.mono BZ.out.size)⟩
end Go.Proofs.Ytlflgflmlfileaa
