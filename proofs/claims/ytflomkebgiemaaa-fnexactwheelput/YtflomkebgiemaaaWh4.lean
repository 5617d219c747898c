/- WheelCut of the model. -/
import Derived.Test.YtflomkebgiemaaaRows
import Derived.Test.YtflomkebgiemaaaWh2
namespace Go.Proofs.Ytflomkebgiemaaa
open Go.RowKit
set_option linter.unusedSimpArgs false
set_option linter.unusedVariables false
/-- A spoke without its first p. -/
def cutPn (l : List Pn) (p : Pn) : Option (List Pn) := (l.findIdx? fun x => decide (x = p)).map fun i => l.take i ++ l.drop (i + 1)
/-- What WheelCut returns. -/
noncomputable def wheelCutV (ls : List (List Pn)) (p : Pn) : List (List Pn) × Bool :=
  if wheelB ls = true ∧ 1 ≤ p.at_ then
    ((cutPn (ls.getD (p.at_.tmod 9).toNat []) p).map fun l => (ls.set (p.at_.tmod 9).toNat l, true)).getD (ls, false)
  else (ls, false)
set_option maxRecDepth 100000 in
set_option maxHeartbeats 6400000 in
theorem wheelCut_spec (A : Option Addr) (sp : List Sp) (c : Nat) (p : Pn) (w : World) (hn : sp.length ≤ 1048577) (hl : (allPn sp).length ≤ 1048575) (hA : Whl w A sp) :
    Calls Try.prog 22 #[.agg #[.slice A sp.length c], pnA p] w (NewWB w (wheelCutV (sp.map (fun s => s.l)) p)) := by
  have T0 : Three w (((w.alloc (.cells #[.slice A sp.length c] 26)).alloc (.cells #[.int .i64 p.at_, .int .i64 p.id] 33)).alloc (.cells #[.slice none 0 0] 26)) (.cells #[.slice A sp.length c] 26) (.cells #[.int .i64 p.at_, .int .i64 p.id] 33) (.cells #[.slice none 0 0] 26) := Three.make _ _ _ _
  have hs0 : (((w.alloc (.cells #[.slice A sp.length c] 26)).alloc (.cells #[.int .i64 p.at_, .int .i64 p.id] 33)).alloc (.cells #[.slice none 0 0] 26)).heap.size = w.heap.size + 3 := by simp
  have CC := Lib.hid (l9Copy_spec A sp c _ (by omega) (by omega) (hA.below T0.2.2.2))
  have CC2 := Lib.hid (fun u (b : Below w.heap.size w u) => l9Copy_spec A sp c u (by omega) (by omega) (hA.below b))
  have CO := Lib.hid (fun u (b : Below w.heap.size w u) => wheelOk_spec A sp c u (by omega) (by omega) (hA.below b))
  obtain ⟨ls, els⟩ : ∃ ls, sp.map (fun s => s.l) = ls := ⟨_, rfl⟩
  obtain ⟨V, eV⟩ : ∃ V, wheelCutV ls p = V := ⟨_, rfl⟩
  rw [els, eV]
  rw [els] at CC CC2 CO
  have HV := Lib.hid eV
  have HL := Lib.hid els
  have HT := Lib.hid T0
  have HS0 := Lib.hid hs0
  clear eV els T0 hs0
  unfold pnA
  go_enter Try.func22, Try.ntmps22
  go_wp2_with fail
  refine CC.out.mono ?_
  rintro e u1 ⟨P, cp, sq, rfl, hm1, O1, x1⟩
  have T : WP w (u1.alloc (.cells #[.slice P sq.length cp] 26)) A c sp p u1.heap.size P cp sq := by
    have ba : Below u1.heap.size u1 (u1.alloc (.cells #[.slice P sq.length cp] 26)) := (Below.refl _ _).alloc (Nat.le_refl _) _
    refine ⟨(HT.out.call x1).call ba, heap_new _ _, ?_⟩
    rw [HS0.out] at O1
    exact O1.alloc _
  have hg6 : w.heap.size + 3 ≤ u1.heap.size := by have := x1.size; rw [HS0.out] at this; exact this
  have HM := Lib.hid hm1
  have hsq : Hid (sq.length = sp.length) := by show _ = _; have h1 := congrArg List.length hm1; have h2 := congrArg List.length HL.out; simp at h1 h2; omega
  have hlq : Hid (allPn sq = allPn sp) := by show _ = _; rw [← ls_flat, ← ls_flat, hm1, HL.out]
  clear O1 x1 hm1 CC HT
  have c1 := cell_of_row _ _ 0 _ _ _ T.T.1
  obtain ⟨p0, p1⟩ := Pn.here.blk T.T.2.1
  have c3 := cell_of_row _ _ 0 _ _ _ T.T.2.2.1
  have z3 := frozen_of_row _ _ 0 _ _ T.T.2.2.1
  have c6 := cell_of_row _ _ 0 _ _ _ T.H
  simp at c1 p0 p1 c3 c6
  have C1 := Lib.hid (CO.out _ T.T.2.2.2)
  have TT := Lib.hid T
  obtain ⟨B1, eB⟩ : ∃ B1, wheelB ls = B1 := ⟨_, rfl⟩
  rw [eB] at C1
  have EB := Lib.hid eB
  clear T eB
  go_wp2_with fail
  refine C1.out.mono ?_
  rintro e u2 ⟨rfl, x2⟩
  have T := TT.out.call x2
  have ltg := blk_lt T.H
  clear x2 TT C1 c1 p0 p1 c3 z3 c6
  have c1 := cell_of_row _ _ 0 _ _ _ T.T.1
  obtain ⟨p0, p1⟩ := Pn.here.blk T.T.2.1
  have c3 := cell_of_row _ _ 0 _ _ _ T.T.2.2.1
  have z3 := frozen_of_row _ _ 0 _ _ T.T.2.2.1
  have c6 := cell_of_row _ _ 0 _ _ _ T.H
  simp at c1 p0 p1 c3 c6
  cases B1
  · skip
    have HN : Hid (NewWB w V (.returned (.tuple #[.agg #[.slice P sq.length cp], .bool false])) (u2.setCell ⟨w.heap.size + 2, 0, none⟩ (.slice P sq.length cp))) := by
      have eV : V = (ls, false) := by rw [← HV.out]; unfold wheelCutV; rw [if_neg (fun h => by rw [EB.out] at h; cases h.1)]
      refine ⟨P, cp, sq, by rw [eV], by rw [eV]; exact HM.out, (T.O.put T.T.2.2.1 (by decide) (by decide) 0 _).weak (by omega), T.T.2.2.2.setCell (p := ⟨w.heap.size + 2, 0, none⟩) (by show _ ≤ _ + 2; omega) _⟩
    clear T
    go_wp2
    simp [bodyPost, results, Try.results22, go_sem, c3]
    exact HN.out
  by_cases ga : 1 ≤ p.at_
  rotate_left
  · skip
    have HN : Hid (NewWB w V (.returned (.tuple #[.agg #[.slice P sq.length cp], .bool false])) (u2.setCell ⟨w.heap.size + 2, 0, none⟩ (.slice P sq.length cp))) := by
      have eV : V = (ls, false) := by rw [← HV.out]; unfold wheelCutV; rw [if_neg (fun h => ga h.2)]
      refine ⟨P, cp, sq, by rw [eV], by rw [eV]; exact HM.out, (T.O.put T.T.2.2.1 (by decide) (by decide) 0 _).weak (by omega), T.T.2.2.2.setCell (p := ⟨w.heap.size + 2, 0, none⟩) (by show _ ≤ _ + 2; omega) _⟩
    clear T
    go_wp2
    simp [bodyPost, results, Try.results22, go_sem, c3]
    exact HN.out
  obtain ⟨k, hk⟩ : ∃ k : Nat, p.at_.tmod 9 = (k : Int) := ⟨(p.at_.tmod 9).toNat, by have := Int.tmod_nonneg 9 (a := p.at_) (by omega); omega⟩
  have hk9 : k < 9 := by have := Int.tmod_lt_of_pos p.at_ (b := 9) (by omega); omega
  have hwr : IntKind.i64.wrap (p.at_.tmod 9) = (k : Int) := by rw [IntKind.wrap_i64]; omega
  have hwr2 : IntKind.i64.wrap (k : Int) = (k : Int) := by rw [IntKind.wrap_i64]; omega
  have HK : Hid ((p.at_.tmod 9).toNat = k) := by show _ = _; rw [hk]; simp
  have W9 := wheelB_iff EB.out
  have hq9 : sq.length = 9 := by have h1 := W9.1; have h2 := congrArg List.length HM.out; simp at h2; omega
  have hkq : k < sq.length := by omega
  have HQ9 := Lib.hid hq9
  clear hq9 W9
  have hk1 : k < sp.length := by have := hsq.out; omega
  have HSK : Hid (ls.getD k [] = (sp.getD k sp0).l) := by show _ = _; have h1 := ls_at sp k; have h2 : (sp.map fun s => s.l) = ls := HL.out; rw [h2] at h1; exact h1
  have hsl : (sp.getD k sp0).l.length ≤ 1048575 := by have := allPn_at_le sp k hk1; omega
  have HA0 := Lib.hid hA
  obtain ⟨s, es⟩ : ∃ s, sp.getD k sp0 = s := ⟨_, rfl⟩
  rw [es] at HSK hsl
  have ES := Lib.hid es
  have TT := Lib.hid T
  clear T es
  go_wp2_with fail
  go_loopw [8] (fun i wr => ∃ j : Nat, j ≤ s.l.length ∧ i = .int .i64 j ∧ Hid (∀ i, i < j → s.l.getD i pn0 ≠ p) ∧ Hid (WP w wr A c sp p u1.heap.size P cp sq)) (fun i _ => s.l.length - (intOf i).toNat)
  case atStart => exact ⟨0, by omega, rfl, (fun i hi => by omega), TT⟩
  case round =>
    clear TT c1 p0 p1 c3 z3 c6
    obtain ⟨j, hj, rfl, hall, hT⟩ := hrel
    have T := hT.out
    have hW := hA.below T.T.2.2.2
    obtain ⟨b, off, rfl, hbB, hc⟩ := hW.row.sp hk1
    have hso := hW.at_ hk1
    rw [ES.out] at hc hso
    obtain ⟨hsr, hsc, hsn⟩ := hso
    have KA := Lib.hid (fun w' (h : Below wr.heap.size wr w') => cell_of_row _ _ 0 _ _ _ (blk_call T.T.1 h))
    have KS := Lib.hid (fun w' (h : Below wr.heap.size wr w') => (h.cell (by exact hbB)).trans hc)
    have KP := Lib.hid (fun w' (h : Below wr.heap.size wr w') => Pn.here.blk (blk_call T.T.2.1 h))
    have KH := Lib.hid (fun w' (h : Below wr.heap.size wr w') => cell_of_row _ _ 0 _ _ _ (blk_call T.H h))
    have c1 := cell_of_row _ _ 0 _ _ _ T.T.1
    obtain ⟨p0, p1⟩ := Pn.here.blk T.T.2.1
    have c3 := cell_of_row _ _ 0 _ _ _ T.T.2.2.1
    have z3 := frozen_of_row _ _ 0 _ _ T.T.2.2.1
    have c6 := cell_of_row _ _ 0 _ _ _ T.H
    simp at c1 p0 p1 c3 c6
    have ltg := blk_lt T.H
    by_cases hlt : j < s.l.length
    rotate_left
    · obtain rfl : j = s.l.length := by omega
      have HN : Hid (NewWB w V (.returned (.tuple #[.agg #[.slice P sq.length cp], .bool false])) (wr.setCell ⟨w.heap.size + 2, 0, none⟩ (.slice P sq.length cp))) := by
        have eV : V = (ls, false) := by
          rw [← HV.out]; unfold wheelCutV; rw [if_pos ⟨EB.out, ga⟩, HK.out, HSK.out]
          unfold cutPn
          rw [findIdx_no _ s.l pn0 (fun i hi => by simpa using hall.out i hi)]; rfl
        refine ⟨P, cp, sq, by rw [eV], by rw [eV]; exact HM.out, (T.O.put T.T.2.2.1 (by decide) (by decide) 0 _).weak (by omega), T.T.2.2.2.setCell (p := ⟨w.heap.size + 2, 0, none⟩) (by show _ ≤ _ + 2; omega) _⟩
      clear T hT hall hW hsr KA KS KP KH
      go_wp2
      simp [bodyPost, results, Try.results22, go_sem, c3]
      exact HN.out
    obtain ⟨sb, so, hsa, hsbB, hx⟩ := hsr.pn hlt
    have HXE : Hid (∀ i, i < j + 1 → s.l.getD j pn0 ≠ p → s.l.getD i pn0 ≠ p) := fun i hi h => by
      by_cases e : i = j
      · subst e; exact h
      · exact hall.out i (by omega)
    have HFI : Hid (s.l.getD j pn0 = p → s.l.findIdx? (fun x => decide (x = p)) = some j) := fun h => findIdx_at _ s.l pn0 j hlt (fun i hi => by simpa using hall.out i hi) (by simpa using h)
    obtain ⟨x, ex⟩ : ∃ x, s.l.getD j pn0 = x := ⟨_, rfl⟩
    rw [ex] at hx HXE HFI
    have KX := Lib.hid (fun w' (h : Below wr.heap.size wr w') => Pn.here.below hx h hsbB)
    have hc2 := hc
    rw [hsa] at hc2
    have KS2 := Lib.hid (fun w' (h : Below wr.heap.size wr w') => (h.cell (by exact hbB)).trans hc2)
    clear hx ex hall hc2 hsa
    go_wp2_with fail
    refine wp_region_held_drew (S := fun w' => Hid (Below wr.heap.size wr w')) (by kernel_rfl) (below_drawn (Below.refl _ _) 1) (fun hHeld => ?_)
    refine held_take 0 33 (.pointer (some ⟨w.heap.size, 0, none⟩)) rfl rfl (by kernel_rfl) (by kernel_rfl) (by kernel_rfl) (fun _ _ _ h => h) rfl hHeld (fun w _ => exec_fldW _ w) ?_
    refine held_take 1 34 (.slice (some ⟨b, off, none⟩) sp.length c) rfl rfl (by kernel_rfl) (by kernel_rfl) (by kernel_rfl) (fun _ _ _ h => h) rfl hHeld (fun w h => exec_loadSp _ _ 0 _ _ _ w (.inr rfl) (KA.out w h.out)) ?_
    simp only [Act.put, List.setIfInBounds_toArray, List.set_cons_zero, List.set_cons_succ]
    refine held_take 2 35 (.int .i64 (k : Int)) rfl rfl (by kernel_rfl) (by kernel_rfl) (by kernel_rfl) (fun _ _ _ h => h) rfl hHeld (fun w _ => rfl) ?_
    refine held_take 3 36 (.pointer (some ⟨b, off + k, none⟩)) rfl rfl (by kernel_rfl) (by kernel_rfl) (by kernel_rfl) (fun _ _ _ h => h) rfl hHeld (fun w _ => exec_idxSp b off sp.length c k w hk1) ?_
    simp only [Act.put, List.setIfInBounds_toArray, List.set_cons_zero, List.set_cons_succ]
    refine held_take 4 37 (.slice (some ⟨sb, so, none⟩) s.l.length s.c) rfl rfl (by kernel_rfl) (by kernel_rfl) (by kernel_rfl) (fun _ _ _ h => h) rfl hHeld (fun w h => exec_loadSp _ b (off + k) _ _ _ w (.inl rfl) (KS2.out w h.out)) ?_
    refine held_take 5 38 (.int .i64 (j : Int)) rfl rfl (by kernel_rfl) (by kernel_rfl) (by kernel_rfl) (fun _ _ _ h => h) rfl hHeld (fun w _ => rfl) ?_
    simp only [Act.put, List.setIfInBounds_toArray, List.set_cons_zero, List.set_cons_succ]
    refine held_take 6 39 (.pointer (some ⟨sb, so + j * 2, none⟩)) rfl rfl (by kernel_rfl) (by kernel_rfl) (by kernel_rfl) (fun _ _ _ h => h) rfl hHeld (fun w _ => exec_idx_pn sb so s.l.length s.c j w hlt) ?_
    refine held_take 7 40 (pnA x) rfl rfl (by kernel_rfl) (by kernel_rfl) (by kernel_rfl) (fun _ _ _ h => h) rfl hHeld (fun w h => exec_load_pn sb (so + j * 2) x w (KX.out w h.out)) ?_
    simp only [Act.put, List.setIfInBounds_toArray, List.set_cons_zero, List.set_cons_succ]
    refine held_take 8 41 (pnA p) rfl rfl (by kernel_rfl) (by kernel_rfl) (by kernel_rfl) (fun _ _ _ h => h) rfl hHeld (fun w h => exec_load_pn _ 0 p w (KP.out w h.out)) ?_
    refine held_take 9 42 (.bool (decide (x = p))) rfl rfl (by kernel_rfl) (by kernel_rfl) (by kernel_rfl) (fun _ _ _ h => h) rfl hHeld (fun w _ => exec_eqlPn x p w) ?_
    simp only [Act.put, List.setIfInBounds_toArray, List.set_cons_zero, List.set_cons_succ]
    refine wpAnyH_done (by kernel_rfl) ?_ _
    have T := hT.out.call hHeld.out
    have TT := Lib.hid T
    clear hHeld hT KA KS KP KH KX KS2 c1 p0 p1 c3 z3 c6 T
    by_cases hxp : x = p
    rotate_left
    · have hd : decide (x = p) = false := decide_eq_false hxp
      have HA1 : Hid (∀ i, i < j + 1 → s.l.getD i pn0 ≠ p) := fun i hi => HXE.out i hi hxp
      rw [hd]
      clear hd HXE HFI hxp hsr hc hW
      go_wp2
      go_roundw
      case rel => exact ⟨j + 1, by omega, by go_num, HA1, TT⟩
      case measure => simp [intOf]; omega
    have hd : decide (x = p) = true := decide_eq_true hxp
    rw [hd]
    have HFJ := Lib.hid (HFI.out hxp)
    clear hd HXE HFI hxp
    have hbw : Below wr.heap.size wr wr.drew := below_drawn (Below.refl _ _) 1
    generalize wr.drew = u at *
    have T := TT.out
    obtain ⟨_, _, eP, _, _, hP⟩ := own_form T.O.row
    obtain ⟨g, eg, hg3⟩ := hP (by omega)
    injection eP with eP1 _ eP3
    rw [← eP1] at eg
    subst eg
    clear eP1 eP3
    have hsu := hbw.size
    have hcu : u.cell? ⟨b, off + k, none⟩ = some (.slice s.a s.l.length s.c) := (hbw.cell (by exact hbB)).trans hc
    have hsr := rws_below hsr hbw
    have KA := Lib.hid (fun w' (h : Below u.heap.size u w') => cell_of_row _ _ 0 _ _ _ (blk_call T.T.1 h))
    have KS := Lib.hid (fun w' (h : Below u.heap.size u w') => (h.cell (show b < u.heap.size by omega)).trans hcu)
    have KH := Lib.hid (fun w' (h : Below u.heap.size u w') => cell_of_row _ _ 0 _ _ _ (blk_call T.H h))
    obtain ⟨b', off', he, hgB, hcg⟩ := (own_rws T.O.row).sp hkq
    obtain ⟨rfl, rfl⟩ : g = b' ∧ 0 = off' := by injection he with he; injection he with h1 h2; exact ⟨h1, h2⟩
    have KC := Lib.hid (fun w' (h : Below u.heap.size u w') => (h.cell (by exact hgB)).trans hcg)
    have h1r := hsr.to_ (j * 2)
    rw [← flat_take pnC 2 pnC_len] at h1r
    have h2r := hsr.from_ (n := s.l.length) (c := s.c) (k := j + 1) (sz := 2) (flat_len pnC 2 pnC_len s.l) (by omega) hsc
    rw [← flat_drop pnC 2 pnC_len] at h2r
    have htl : ((s.l.take j).flatMap pnC).length = j * 2 := by rw [flat_len pnC 2 pnC_len, List.length_take]; omega
    have hdl : ((s.l.drop (j + 1)).flatMap pnC).length = (s.l.length - (j + 1)) * 2 := by rw [flat_len pnC 2 pnC_len, List.length_drop]
    clear hsr hc hW he
    go_wp2_with fail
    refine wp_region_E 22 (fun w' => Hid (Below u.heap.size u w')) (by kernel_rfl) ?_
    have hH0 : Hid (Below u.heap.size u u.drew) := below_drawn (Below.refl _ _) 1
    refine e_take 0 43 (.pointer (some ⟨u1.heap.size, 0, none⟩)) rfl rfl (by kernel_rfl) (by kernel_rfl) (by kernel_rfl) (by kernel_rfl) (fun _ _ _ h => h) rfl hH0 (fun w _ => exec_fldW _ w) ?_
    refine e_take 1 44 (.slice (some ⟨g, 0, none⟩) sq.length cp) rfl rfl (by kernel_rfl) (by kernel_rfl) (by kernel_rfl) (by kernel_rfl) (fun _ _ _ h => h) rfl hH0 (fun w h => exec_loadSp _ _ 0 _ _ _ w (.inr rfl) (KH.out w h.out)) ?_
    simp only [Act.put, List.setIfInBounds_toArray, List.set_cons_zero, List.set_cons_succ]
    refine e_take 2 45 (.int .i64 (k : Int)) rfl rfl (by kernel_rfl) (by kernel_rfl) (by kernel_rfl) (by kernel_rfl) (fun _ _ _ h => h) rfl hH0 (fun w _ => rfl) ?_
    refine e_take 4 47 (.pointer (some ⟨w.heap.size, 0, none⟩)) rfl rfl (by kernel_rfl) (by kernel_rfl) (by kernel_rfl) (by kernel_rfl) (fun _ _ _ h => h) rfl hH0 (fun w _ => exec_fldW _ w) ?_
    simp only [Act.put, List.setIfInBounds_toArray, List.set_cons_zero, List.set_cons_succ]
    refine e_take 5 48 (.slice (some ⟨b, off, none⟩) sp.length c) rfl rfl (by kernel_rfl) (by kernel_rfl) (by kernel_rfl) (by kernel_rfl) (fun _ _ _ h => h) rfl hH0 (fun w h => exec_loadSp _ _ 0 _ _ _ w (.inr rfl) (KA.out w h.out)) ?_
    refine e_take 6 49 (.int .i64 (k : Int)) rfl rfl (by kernel_rfl) (by kernel_rfl) (by kernel_rfl) (by kernel_rfl) (fun _ _ _ h => h) rfl hH0 (fun w _ => rfl) ?_
    simp only [Act.put, List.setIfInBounds_toArray, List.set_cons_zero, List.set_cons_succ]
    refine e_take 7 50 (.pointer (some ⟨b, off + k, none⟩)) rfl rfl (by kernel_rfl) (by kernel_rfl) (by kernel_rfl) (by kernel_rfl) (fun _ _ _ h => h) rfl hH0 (fun w _ => exec_idxSp b off sp.length c k w hk1) ?_
    refine e_take 8 51 (.slice s.a s.l.length s.c) rfl rfl (by kernel_rfl) (by kernel_rfl) (by kernel_rfl) (by kernel_rfl) (fun _ _ _ h => h) rfl hH0 (fun w h => exec_loadSp _ b (off + k) _ _ _ w (.inl rfl) (KS.out w h.out)) ?_
    simp only [Act.put, List.setIfInBounds_toArray, List.set_cons_zero, List.set_cons_succ]
    refine e_take 9 52 (.int .i64 (j : Int)) rfl rfl (by kernel_rfl) (by kernel_rfl) (by kernel_rfl) (by kernel_rfl) (fun _ _ _ h => h) rfl hH0 (fun w _ => rfl) ?_
    refine e_take 10 53 (.slice s.a j s.c) rfl rfl (by kernel_rfl) (by kernel_rfl) (by kernel_rfl) (by kernel_rfl) (fun _ _ _ h => h) rfl hH0 (fun w _ => exec_sliceTo rowPin s.a s.l.length s.c j w (by omega) hsc hsn) ?_
    simp only [Act.put, List.setIfInBounds_toArray, List.set_cons_zero, List.set_cons_succ]
    refine e_take 12 55 (.pointer (some ⟨w.heap.size, 0, none⟩)) rfl rfl (by kernel_rfl) (by kernel_rfl) (by kernel_rfl) (by kernel_rfl) (fun _ _ _ h => h) rfl hH0 (fun w _ => exec_fldW _ w) ?_
    refine e_take 13 56 (.slice (some ⟨b, off, none⟩) sp.length c) rfl rfl (by kernel_rfl) (by kernel_rfl) (by kernel_rfl) (by kernel_rfl) (fun _ _ _ h => h) rfl hH0 (fun w h => exec_loadSp _ _ 0 _ _ _ w (.inr rfl) (KA.out w h.out)) ?_
    simp only [Act.put, List.setIfInBounds_toArray, List.set_cons_zero, List.set_cons_succ]
    refine e_take 14 57 (.int .i64 (k : Int)) rfl rfl (by kernel_rfl) (by kernel_rfl) (by kernel_rfl) (by kernel_rfl) (fun _ _ _ h => h) rfl hH0 (fun w _ => rfl) ?_
    refine e_take 15 58 (.pointer (some ⟨b, off + k, none⟩)) rfl rfl (by kernel_rfl) (by kernel_rfl) (by kernel_rfl) (by kernel_rfl) (fun _ _ _ h => h) rfl hH0 (fun w _ => exec_idxSp b off sp.length c k w hk1) ?_
    simp only [Act.put, List.setIfInBounds_toArray, List.set_cons_zero, List.set_cons_succ]
    refine e_take 16 59 (.slice s.a s.l.length s.c) rfl rfl (by kernel_rfl) (by kernel_rfl) (by kernel_rfl) (by kernel_rfl) (fun _ _ _ h => h) rfl hH0 (fun w h => exec_loadSp _ b (off + k) _ _ _ w (.inl rfl) (KS.out w h.out)) ?_
    refine e_take 17 60 (.int .i64 (j : Int)) rfl rfl (by kernel_rfl) (by kernel_rfl) (by kernel_rfl) (by kernel_rfl) (fun _ _ _ h => h) rfl hH0 (fun w _ => rfl) ?_
    simp only [Act.put, List.setIfInBounds_toArray, List.set_cons_zero, List.set_cons_succ]
    refine e_take 18 61 (.int .i64 ((j + 1 : Nat) : Int)) rfl rfl (by kernel_rfl) (by kernel_rfl) (by kernel_rfl) (by kernel_rfl) (fun _ _ _ h => h) rfl hH0 (fun w _ => exec_addI (j : Int) 1 _ w (by omega) (by omega) (by omega)) ?_
    refine e_take 19 62 (.slice (fromA s.a s.c (j + 1) 2) (s.l.length - (j + 1)) (s.c - (j + 1))) rfl rfl (by kernel_rfl) (by kernel_rfl) (by kernel_rfl) (by kernel_rfl) (fun _ _ _ h => h) rfl hH0 (fun w _ => exec_sliceFrom rowPin s.a s.l.length s.c (j + 1) w (by omega) hsc hsn) ?_
    simp only [Act.put, List.setIfInBounds_toArray, List.set_cons_zero, List.set_cons_succ]
    have k1 := hH0.out.alloc hH0.out.size (.cells #[] 33)
    refine e_op 3 46 (.slice (some ⟨u.drew.heap.size, 0, none⟩) 0 0) rfl rfl (by kernel_rfl) rfl (exec_none_pn _) (fun _ => Lib.hid k1) ?_
    simp only [Act.put, List.setIfInBounds_toArray, List.set_cons_zero, List.set_cons_succ]
    have O1 := own_empty u.drew u.drew.heap.size 33 2 (Nat.le_refl _)
    have hz1 := k1.size
    refine e_opx 11 54 rfl rfl (by kernel_rfl) rfl (exec_appR rowPin _ u.drew.heap.size _ 0 [] O1 _ s.a j s.c ((s.l.take j).flatMap pnC) htl (rws_below h1r k1) hsn (pnC_one _) (by omega) (by simp)) (fun v w' h _ => Lib.hid (k1.grown h.2 k1.size (own_low O1))) ?_
    rintro v2 w2 ⟨o2, g2⟩
    simp only [Act.put, List.setIfInBounds_toArray, List.set_cons_zero, List.set_cons_succ]
    have k2 := k1.grown g2 k1.size (own_low O1)
    rw [Nat.zero_add, List.nil_append] at o2
    refine e_opx 20 63 rfl rfl (by kernel_rfl) rfl (exec_appR rowPin _ u.drew.heap.size _ j _ o2 _ (fromA s.a s.c (j + 1) 2) (s.l.length - (j + 1)) (s.c - (j + 1)) ((s.l.drop (j + 1)).flatMap pnC) hdl (rws_below h2r k2) (fromA_nil hsn) (pnC_one _) (by omega) (by have := k2.size; have := g2.size; simp at *; omega)) (fun v w' h _ => Lib.hid (k2.grown h.2 k2.size (own_low o2))) ?_
    rintro v3 u3 ⟨o3, g3⟩
    simp only [Act.put, List.setIfInBounds_toArray, List.set_cons_zero, List.set_cons_succ]
    have k3 := k2.grown g3 k2.size (own_low o2)
    obtain ⟨L, eL⟩ : ∃ L, s.l.take j ++ s.l.drop (j + 1) = L := ⟨_, rfl⟩
    have hLl : j + (s.l.length - (j + 1)) = L.length := by rw [← eL, List.length_append, List.length_take, List.length_drop]; omega
    rw [← List.flatMap_append, eL, hLl] at o3
    obtain ⟨P2, cp2, rfl, _, _, _⟩ := own_form o3
    refine e_op 21 64 (.pointer (some ⟨g, 0 + k, none⟩)) rfl rfl (by kernel_rfl) rfl (exec_idxSp g 0 sq.length cp k u3 hkq) (fun _ => Lib.hid k3) ?_
    simp only [Act.put, List.setIfInBounds_toArray, List.set_cons_zero, List.set_cons_succ]
    have T := TT.out.call k3
    have hfz := T.O.row.frozenAt (0 + k)
    refine e_store 22 rfl rfl (by kernel_rfl) rfl (exec_storeSp _ g (0 + k) P2 L.length cp2 _ u3 (.inl rfl) (KC.out _ k3) hfz) (fun h => absurd rfl h) ?_
    refine e_done (by kernel_rfl) ?_ _
    obtain ⟨U, eU⟩ : ∃ U, u3.setCell ⟨g, 0 + k, none⟩ (.slice P2 L.length cp2) = U := ⟨_, rfl⟩
    have hU : ∀ j, j ≠ g → U.heap[j]? = u3.heap[j]? := fun j hj => by rw [← eU]; exact heap_set_ne u3 g _ _ hj
    obtain ⟨curg, hcg2⟩ := own_typed2 T.O.row g rfl
    have st := T.O.row.stored (0 + k) (.slice P2 L.length cp2)
    rw [eU] at st
    have hdr : u.heap.size ≤ u.drew.heap.size := hH0.out.size
    have T2 : WP w U (some ⟨b, off, none⟩) c sp p u1.heap.size (some ⟨g, 0, none⟩) cp (sq.set k ⟨P2, cp2, L⟩) := by
      have n0 : w.heap.size ≠ g := by omega
      have n1 : w.heap.size + 1 ≠ g := by omega
      have n2 : w.heap.size + 2 ≠ g := by omega
      have n6 : u1.heap.size ≠ g := fun h => by
        have := T.H
        rw [h, hcg2] at this
        injection this with this
        injection this with _ h2
        revert h2
        decide
      refine ⟨⟨(hU _ n0).trans T.T.1, (hU _ n1).trans T.T.2.1, (hU _ n2).trans T.T.2.2.1, ?_⟩, ?_, ⟨?_, ?_⟩⟩
      · rw [← eU]; exact T.T.2.2.2.setCell (p := ⟨g, 0 + k, none⟩) (by show _ ≤ g; omega) _
      · rw [List.length_set]; exact (hU _ n6).trans T.H
      · have := st.1
        rw [Nat.zero_add] at this
        rw [List.length_set, ← flat_set sq k ⟨P2, cp2, L⟩]
        exact this
      · intro t ht
        have kt : Sp.own u3 (w.heap.size + 3) t := by
          rcases List.mem_or_eq_of_mem_set ht with h | h
          · exact T.O.sp t h
          · subst h; exact own_weak o3 (by omega)
        rw [← eU]
        exact kt.kept (Go.Lib.grownBy_setCell u3 g (0 + k) _) (.inr (own_ne_type kt hcg2 (by decide)))
    have HM2 : Hid ((sq.set k ⟨P2, cp2, L⟩).map (fun x => x.l) = ls.set k L) := by
      show _ = _
      rw [List.map_set, HM.out]
    have eV : V = (ls.set k L, true) := by
      rw [← HV.out]; unfold wheelCutV; rw [if_pos ⟨EB.out, ga⟩, HK.out, HSK.out]
      unfold cutPn
      rw [HFJ.out]
      show _ = _
      simp only [Option.map_some, Option.getD_some]
      rw [eL]
    have hlen2 : (sq.set k ⟨P2, cp2, L⟩).length = sq.length := List.length_set
    have HN : Hid (NewWB w V (.returned (.tuple #[.agg #[.slice (some ⟨g, 0, none⟩) sq.length cp], .bool true])) (U.setCell ⟨w.heap.size + 2, 0, none⟩ (.slice (some ⟨g, 0, none⟩) sq.length cp))) := by
      refine ⟨some ⟨g, 0, none⟩, cp, sq.set k ⟨P2, cp2, L⟩, by rw [eV, hlen2], by rw [eV]; exact HM2.out, (T2.O.put T2.T.2.2.1 (by decide) (by decide) 0 _).weak (by omega), T2.T.2.2.2.setCell (p := ⟨w.heap.size + 2, 0, none⟩) (by show _ ≤ _ + 2; omega) _⟩
    have hH2 := T2.H
    rw [hlen2] at hH2
    have q6 := cell_of_row _ _ 0 _ _ _ hH2
    have q3 := cell_of_row _ _ 0 _ _ _ T2.T.2.2.1
    have z3 := frozen_of_row _ _ 0 _ _ T2.T.2.2.1
    simp at q6 q3
    rw [eU]
    clear T T2 eU hU st hcg2 HM2 eV o2 o3 g2 g3 k1 k2 k3 hfz O1 hH2 hH0 KA KS KH KC h1r h2r htl hdl
    go_wp2
    simp [bodyPost, results, Try.results22, go_sem, q3]
    exact HN.out
end Go.Proofs.Ytflomkebgiemaaa
