/- The draws over waiting lists. -/
import Derived.Test.YtlflgflmlfileaaGreatRows
import Derived.Test.YtlflgflmlfileaaGreatEn5
import Derived.Deep.DeepCutAuto
namespace Go.Proofs.YtlflgflmlfileaaGreat
open Go.RowKit
set_option linter.unusedSimpArgs false
set_option linter.unusedVariables false
theorem enPut_mem {l : List En} {x f : En} (h : f ∈ enPut l x) : f ∈ l ∨ f = x := by
  unfold enPut insP at h
  rcases List.mem_append.1 h with h | h
  · exact .inl ((List.takeWhile_sublist _).mem h)
  · rcases List.mem_cons.1 h with h | h
    · exact .inr h
    · exact .inl ((List.dropWhile_sublist _).mem h)
theorem quPutV_fits {l : List En} {x : En} (hl : ∀ f ∈ l, f.fits) (hx : x.fits) : ∀ f ∈ (quPutV l x).1, f.fits := by
  unfold quPutV
  split
  · intro f hf
    rcases enPut_mem hf with h | h
    · exact hl f h
    · rw [h]; exact hx
  · exact hl
/-- Entries that were drawn. -/
def GotEns (w : World) (g : Nat) (A : Option Addr) (l : List Nat) (c m : Nat) (e : Ending) (w' : World) : Prop := ∃ (el : List En) (v : Value), el.length ≤ m ∧ (∀ f ∈ el, f.fits) ∧ e = .returned v ∧ w'.ownsRow w.heap.size 100 4 v el.length (el.flatMap enC) ∧ Cur w' g A l c ∧ w.grownBy w' (some g)
set_option maxRecDepth 100000 in
set_option maxHeartbeats 3200000 in
theorem l7Right_any (A : Option Addr) (l : List Nat) (c g : Nat) (w : World) (hl : l.length ≤ 2097152) (hb : AllB l) (hcw : Cur w g A l c) :
    Calls Tryz.prog 62 #[.pointer (some ⟨g, 0, none⟩)] w (GotEns w g A l c 13) := by
  have hlt := hcw.lt
  have gr0 := grown_made w (.cells #[] 100) g
  have o0 := own_empty w w.heap.size 100 4 (Nat.le_refl _)
  have hc0 := hcw.alloc (.cells #[] 100)
  have HO := Lib.hid (fun w' (h : (w.alloc (.cells #[] 100)).grownBy w' (some g)) => own_cur o0 h hlt)
  have HG := Lib.hid (fun w' (h : (w.alloc (.cells #[] 100)).grownBy w' (some g)) => gr0.trans h)
  clear o0 gr0
  go_enter Tryz.func62, Tryz.ntmps62
  go_wp2_with fail
  refine (l1Below_any A l c g 9 _ hl hb (by omega) (by omega) hc0).mono ?_
  rintro e w1 ⟨n0, hn0, rfl, hc1, gr1⟩
  go_wp2_with fail
  refine (l1Once_any A l c g 12 _ hl hb (by omega) (by omega) hc1).mono ?_
  rintro e w2 ⟨d, rfl, hc2, gr2⟩
  have g2 := gr1.trans gr2
  clear gr1 gr2 hc1 hc0
  go_upto_if 11 with fail
  go_cut [4] (fun s4 wx => ∃ n : Nat, n ≤ 13 ∧ s4 = .int .i64 n ∧ Cur wx g A l c ∧ (w.alloc (.cells #[] 100)).grownBy wx (some g))
  case first =>
    cases d
    · go_wp2_with fail
      go_meet
      exact ⟨n0, by omega, rfl, hc2, g2⟩
    · go_wp2_with fail
      refine (l1Below_any A l c g 4 _ hl hb (by omega) (by omega) hc2).mono ?_
      rintro e w3 ⟨y3, hy3, rfl, hc3, gr3⟩
      have g3 := g2.trans gr3
      clear gr3
      go_wp2_with fail
      go_meet
      exact ⟨10 + y3, by omega, by go_num, hc3, g3⟩
  case rest =>
    clear hc2 g2
    obtain ⟨n, hn, rfl, hc4, g4⟩ := hcut
    have o4 := HO.out _ g4
    have g4 := HG.out _ g4
    clear HO HG
    go_wp2
    go_loopw [3, 5] (fun v i wr => ∃ (k : Nat) (el : List En), k ≤ n ∧ i = .int .i64 k ∧ el.length ≤ k ∧ (∀ f ∈ el, f.fits) ∧ wr.ownsRow w.heap.size 100 4 v el.length (el.flatMap enC) ∧ Cur wr g A l c ∧ w.grownBy wr (some g)) (fun _ i _ => n - (intOf i).toNat)
    case atStart => exact ⟨0, [], by omega, rfl, by simp, (fun f hf => by cases hf), o4, hc4, g4⟩
    case round =>
      clear o4 hc4 g4
      obtain ⟨k, el, hk, rfl, hkl, hel, hown, hcr, hgr⟩ := hrel
      obtain ⟨OA, oc, rfl, _⟩ := own_form hown
      by_cases hk2 : k < n
      · go_wp2_with fail
        refine (l7Entry_any A l c g _ hl hb hcr).mono ?_
        rintro e w5 ⟨x, hxf, rfl, hc5, gr5⟩
        have hown := own_cur hown gr5 hlt
        have hgr := hgr.trans gr5
        have hq := heap_new w5 (.cells #[.int .i64 x.lev, .int .i64 x.turn, .int .i64 x.id, .int .i64 x.size] 100)
        have hno := own_not hown (Nat.le_refl _)
        have hown := World.ownsRow.alloc hown (.cells #[.int .i64 x.lev, .int .i64 x.turn, .int .i64 x.id, .int .i64 x.size] 100)
        have hcr := hc5.alloc (.cells #[.int .i64 x.lev, .int .i64 x.turn, .int .i64 x.id, .int .i64 x.size] 100)
        have lt5 := hgr.size
        have hgr := grown_step hgr (World.grownBy_alloc w5 (.cells #[.int .i64 x.lev, .int .i64 x.turn, .int .i64 x.id, .int .i64 x.size] 100) none) (fun j h => by cases h)
        have hnb := own_block_lt hown
        have lt6 := hc5.lt
        clear gr5 hc5
        unfold enA
        by_cases hn9 : 9 < n
        · have s0 := cell_of_row _ _ 2 _ _ _ hq
          have s1 := frozen_of_row _ _ 2 _ _ hq
          simp at s0
          have hq2 : ((w5.alloc (.cells #[.int .i64 x.lev, .int .i64 x.turn, .int .i64 x.id, .int .i64 x.size] 100)).setCell ⟨w5.heap.size, 2, none⟩ (.int .i64 (100 + (k : Int)))).heap[w5.heap.size]? = some (.cells #[.int .i64 x.lev, .int .i64 x.turn, .int .i64 (100 + (k : Int)), .int .i64 x.size] 100) := Go.heap_setCell_same _ w5.heap.size 2 _ _ (.int .i64 (100 + (k : Int))) hq
          have hcr := hcr.setCell w5.heap.size 2 (.int .i64 (100 + (k : Int))) (by omega)
          have hown := own_kept2 hown (grown_setCell (w5.alloc (.cells #[.int .i64 x.lev, .int .i64 x.turn, .int .i64 x.id, .int .i64 x.size] 100)) w5.heap.size 2 (.int .i64 (100 + (k : Int)))) (fun j hv e => hno (by rw [hv, e]))
          have hgr := grown_setD hgr w5.heap.size 2 (.int .i64 (100 + (k : Int))) (by omega)
          have hxf : (⟨x.lev, x.turn, 100 + (k : Int), x.size⟩ : En).fits := ⟨hxf.1, hxf.2.1, by show inI (100 + (k : Int)); unfold inI; omega, hxf.2.2.2⟩
          obtain ⟨u, hu⟩ : ∃ u, (w5.alloc (.cells #[.int .i64 x.lev, .int .i64 x.turn, .int .i64 x.id, .int .i64 x.size] 100)).setCell ⟨w5.heap.size, 2, none⟩ (.int .i64 (100 + (k : Int))) = u := ⟨_, rfl⟩
          rw [hu] at hq2 hcr hown hgr
          clear hq
          go_upto_region 11 with fail
          try rw [hu]
          clear hu s0 s1
          have a0 := cell_of_row _ _ 0 _ _ _ hq2
          have a1 := cell_of_row _ _ 1 _ _ _ hq2
          have a2 := cell_of_row _ _ 2 _ _ _ hq2
          have a3 := cell_of_row _ _ 3 _ _ _ hq2
          simp at a0 a1 a2 a3
          have CQ := Lib.hid (queuePut_spec OA el oc (⟨x.lev, x.turn, 100 + (k : Int), x.size⟩ : En) u (by omega) (own_cap hown) (own_nil hown) (own_rws hown))
          have hrl := quPutV_len el (⟨x.lev, x.turn, 100 + (k : Int), x.size⟩ : En)
          have hrf := quPutV_fits hel hxf
          generalize quPutV el (⟨x.lev, x.turn, 100 + (k : Int), x.size⟩ : En) = r at *
          unfold enA at CQ
          clear hq2 hown
          go_wp2_with fail
          refine CQ.out.mono ?_
          rintro e w9 ⟨NB, nd, rfl, o9, b9⟩
          have o9 := own_weak o9 (show w.heap.size ≤ u.heap.size from hgr.size)
          have hc9 := hcr.mem b9
          have g9 := grown_below hgr b9
          clear CQ b9 hgr hcr a0 a1 a2 a3
          go_wp2
          go_roundw
          case rel => exact ⟨k + 1, r.1, by omega, by go_num, by omega, hrf, o9, hc9, g9⟩
          case measure => simp [intOf]; omega
        · obtain ⟨u, hu⟩ : ∃ u, w5.alloc (.cells #[.int .i64 x.lev, .int .i64 x.turn, .int .i64 x.id, .int .i64 x.size] 100) = u := ⟨_, rfl⟩
          rw [hu] at hq hcr hown hgr
          go_upto_region 11 with fail
          try rw [hu]
          clear hu
          have a0 := cell_of_row _ _ 0 _ _ _ hq
          have a1 := cell_of_row _ _ 1 _ _ _ hq
          have a2 := cell_of_row _ _ 2 _ _ _ hq
          have a3 := cell_of_row _ _ 3 _ _ _ hq
          simp at a0 a1 a2 a3
          have CQ := Lib.hid (queuePut_spec OA el oc x u (by omega) (own_cap hown) (own_nil hown) (own_rws hown))
          have hrl := quPutV_len el x
          have hrf := quPutV_fits hel hxf
          generalize quPutV el x = r at *
          unfold enA at CQ
          clear hq hown
          go_wp2_with fail
          refine CQ.out.mono ?_
          rintro e w9 ⟨NB, nd, rfl, o9, b9⟩
          have o9 := own_weak o9 (show w.heap.size ≤ u.heap.size from hgr.size)
          have hc9 := hcr.mem b9
          have g9 := grown_below hgr b9
          clear CQ b9 hgr hcr a0 a1 a2 a3
          go_wp2
          go_roundw
          case rel => exact ⟨k + 1, r.1, by omega, by go_num, by omega, hrf, o9, hc9, g9⟩
          case measure => simp [intOf]; omega
      · go_wp2
        go_ret
        exact ⟨el, _, by omega, hel, rfl, hown, hcr, hgr⟩
set_option maxRecDepth 100000 in
set_option maxHeartbeats 6400000 in
theorem l7Draw_any (A : Option Addr) (l : List Nat) (c g : Nat) (w : World) (hl : l.length ≤ 2097152) (hb : AllB l) (hcw : Cur w g A l c) :
    Calls Tryz.prog 43 #[.pointer (some ⟨g, 0, none⟩)] w (GotEns w g A l c 14) := by
  have hlt := hcw.lt
  go_enter Tryz.func43, Tryz.ntmps43
  go_wp2_with fail
  refine (l7Right_any A l c g _ hl hb hcw).mono ?_
  rintro e w1 ⟨el, v, hel1, hel, rfl, o1, hc1, gr1⟩
  obtain ⟨OA, oc, rfl, _, _, hpos⟩ := own_form o1
  go_wp2_with fail
  refine (l1Below_any A l c g 10 _ hl hb (by omega) (by omega) hc1).mono ?_
  rintro e w2 ⟨k, hk, rfl, hc2, gr2⟩
  have o2 := own_cur o1 gr2 hlt
  have g2 := gr1.trans gr2
  clear o1 hc1 gr1 gr2
  have hks : k = 0 ∨ k = 1 ∨ 2 ≤ k := by omega
  rcases hks with rfl | rfl | hk2
  · go_wp2_with fail
    refine (l7Entry_any A l c g _ hl hb hc2).mono ?_
    rintro e w3 ⟨x, hxf, rfl, hc3, gr3⟩
    have o3 := own_cur o2 gr3 hlt
    have g3 := g2.trans gr3
    clear o2 hc2 g2 gr3
    have o4 := World.ownsRow.alloc o3 (.cells #[.int .i64 x.lev, .int .i64 x.turn, .int .i64 x.id, .int .i64 x.size] 100)
    have hR := Rws.new w3 (enC x) 100
    have hsz := g3.size
    have h1 : ∀ y ∈ enC x, y.oneCell' = true := fun y hy => enC_one [x] y (by simpa using hy)
    unfold enA
    go_wp2_with (at_builtin; refine wpList_appR rowEnt _ rfl (.tmp 11) (.tmp 14) rfl w.heap.size _ el.length (el.flatMap enC) rfl o4 (w3.heap.size + 1) (some ⟨w3.heap.size, 0, none⟩) 1 1 (enC x) rfl rfl hR (fun h => by cases h) h1 (by omega) (by simp; omega) ?_)
    intro v' w5 o5 gr5
    have hlow := own_low o4
    have hc5 := (hc3.alloc (.cells #[.int .i64 x.lev, .int .i64 x.turn, .int .i64 x.id, .int .i64 x.size] 100)).grown gr5 (fun j hj => by have := hlow j hj; omega)
    have g5 := grown_step (g3.trans (grown_made w3 (.cells #[.int .i64 x.lev, .int .i64 x.turn, .int .i64 x.id, .int .i64 x.size] 100) g)) gr5 (fun j hj => hlow j hj)
    have o5' : w5.ownsRow w.heap.size 100 4 v' (el ++ [x]).length ((el ++ [x]).flatMap enC) := by rw [List.length_append, List.flatMap_append]; simpa using o5
    have hfit : ∀ f ∈ el ++ [x], f.fits := by
      intro f hf
      rcases List.mem_append.1 hf with h | h
      · exact hel f h
      · rw [List.mem_singleton.1 h]; exact hxf
    have R : Hid (GotEns w g A l c 14 (.returned v') w5) := ⟨el ++ [x], v', by simp; omega, hfit, rfl, o5', hc5, g5⟩
    clear o5 o5' gr5 hc5 g5 o4 o3 hR h1 hlow hc3 g3
    go_wp2
    go_ret
    exact R.out
  · by_cases h2 : 1 < el.length
    · obtain ⟨x, y, r, rfl⟩ : ∃ x y r, el = x :: y :: r := by
        match el, h2 with
        | x :: y :: r, _ => exact ⟨x, y, r, rfl⟩
      obtain ⟨b, rfl, hbw⟩ := hpos (by simp)
      have HN : Hid ((x :: y :: r).length = (y :: x :: r).length) := rfl
      have hfit : ∀ f ∈ y :: x :: r, f.fits := by
        intro f hf
        simp at hf
        rcases hf with h | h | h
        · exact hel f (by simp [h])
        · exact hel f (by simp [h])
        · exact hel f (by simp [h])
      have hno := own_not o2 (Nat.le_refl _)
      have hnb : b ≠ w2.heap.size := fun e => hno (by rw [← e]; rfl)
      have hnb2 : ¬ w2.heap.size = b := fun e => hnb e.symm
      have hown2 := World.ownsRow.alloc o2 (.cells #[.int .i64 x.lev, .int .i64 x.turn, .int .i64 x.id, .int .i64 x.size] 100)
      have hcr2 := hc2.alloc (.cells #[.int .i64 x.lev, .int .i64 x.turn, .int .i64 x.id, .int .i64 x.size] 100)
      have hgr2 := g2.trans (grown_made w2 (.cells #[.int .i64 x.lev, .int .i64 x.turn, .int .i64 x.id, .int .i64 x.size] 100) g)
      have hbx := heap_new w2 (.cells #[.int .i64 x.lev, .int .i64 x.turn, .int .i64 x.id, .int .i64 x.size] 100)
      have HL := Lib.hid (show ((x :: y :: r).flatMap enC).length = (x :: y :: r).length * 4 from flat_len enC 4 enC_len _)
      have c0 : w2.cell? ⟨b, 0, none⟩ = some (.int .i64 x.lev) := o2.cellAt 0 (by simp)
      have c1 : w2.cell? ⟨b, 1, none⟩ = some (.int .i64 x.turn) := o2.cellAt 1 (by simp <;> omega)
      have c2 : w2.cell? ⟨b, 2, none⟩ = some (.int .i64 x.id) := o2.cellAt 2 (by simp <;> omega)
      have c3 : w2.cell? ⟨b, 3, none⟩ = some (.int .i64 x.size) := o2.cellAt 3 (by simp <;> omega)
      obtain ⟨u, hu⟩ : ∃ u, w2.alloc (.cells #[.int .i64 x.lev, .int .i64 x.turn, .int .i64 x.id, .int .i64 x.size] 100) = u := ⟨_, rfl⟩
      rw [hu] at hown2 hcr2 hgr2 hbx
      have HB0 := Lib.hid (show u.cell? ⟨b, 0, none⟩ = some (.int .i64 x.lev) from hown2.cellAt 0 (by simp))
      have HB1 := Lib.hid (show u.cell? ⟨b, 1, none⟩ = some (.int .i64 x.turn) from hown2.cellAt 1 (by simp <;> omega))
      have HB2 := Lib.hid (show u.cell? ⟨b, 2, none⟩ = some (.int .i64 x.id) from hown2.cellAt 2 (by simp <;> omega))
      have HB3 := Lib.hid (show u.cell? ⟨b, 3, none⟩ = some (.int .i64 x.size) from hown2.cellAt 3 (by simp <;> omega))
      have HB4 := Lib.hid (show u.cell? ⟨b, 4, none⟩ = some (.int .i64 y.lev) from hown2.cellAt 4 (by simp <;> omega))
      have HB5 := Lib.hid (show u.cell? ⟨b, 5, none⟩ = some (.int .i64 y.turn) from hown2.cellAt 5 (by simp <;> omega))
      have HB6 := Lib.hid (show u.cell? ⟨b, 6, none⟩ = some (.int .i64 y.id) from hown2.cellAt 6 (by simp <;> omega))
      have HB7 := Lib.hid (show u.cell? ⟨b, 7, none⟩ = some (.int .i64 y.size) from hown2.cellAt 7 (by simp <;> omega))
      have HF := Lib.hid (fun j => hown2.frozenAt j)
      have S0 := hown2.stored 0 (.int .i64 y.lev)
      have S1 := S0.1.stored 1 (.int .i64 y.turn)
      have S2 := S1.1.stored 2 (.int .i64 y.id)
      have S3 := S2.1.stored 3 (.int .i64 y.size)
      have S4 := S3.1.stored 4 (.int .i64 x.lev)
      have S5 := S4.1.stored 5 (.int .i64 x.turn)
      have S6 := S5.1.stored 6 (.int .i64 x.id)
      have S7 := S6.1.stored 7 (.int .i64 x.size)
      have own8 : Hid (((((((((u.setCell ⟨b, 0, none⟩ (.int .i64 y.lev)).setCell ⟨b, 1, none⟩ (.int .i64 y.turn)).setCell ⟨b, 2, none⟩ (.int .i64 y.id)).setCell ⟨b, 3, none⟩ (.int .i64 y.size)).setCell ⟨b, 4, none⟩ (.int .i64 x.lev)).setCell ⟨b, 5, none⟩ (.int .i64 x.turn)).setCell ⟨b, 6, none⟩ (.int .i64 x.id)).setCell ⟨b, 7, none⟩ (.int .i64 x.size)).ownsRow w.heap.size 100 4 (.slice (some ⟨b, 0, none⟩) (y :: x :: r).length oc) (y :: x :: r).length ((y :: x :: r).flatMap enC)) := S7.1
      have cur8 : Hid (Cur ((((((((u.setCell ⟨b, 0, none⟩ (.int .i64 y.lev)).setCell ⟨b, 1, none⟩ (.int .i64 y.turn)).setCell ⟨b, 2, none⟩ (.int .i64 y.id)).setCell ⟨b, 3, none⟩ (.int .i64 y.size)).setCell ⟨b, 4, none⟩ (.int .i64 x.lev)).setCell ⟨b, 5, none⟩ (.int .i64 x.turn)).setCell ⟨b, 6, none⟩ (.int .i64 x.id)).setCell ⟨b, 7, none⟩ (.int .i64 x.size)) g A l c) := (Cur.setCell (Cur.setCell (Cur.setCell (Cur.setCell (Cur.setCell (Cur.setCell (Cur.setCell (Cur.setCell hcr2 b 0 (.int .i64 y.lev) (by omega)) b 1 (.int .i64 y.turn) (by omega)) b 2 (.int .i64 y.id) (by omega)) b 3 (.int .i64 y.size) (by omega)) b 4 (.int .i64 x.lev) (by omega)) b 5 (.int .i64 x.turn) (by omega)) b 6 (.int .i64 x.id) (by omega)) b 7 (.int .i64 x.size) (by omega))
      have gr8 : Hid (w.grownBy ((((((((u.setCell ⟨b, 0, none⟩ (.int .i64 y.lev)).setCell ⟨b, 1, none⟩ (.int .i64 y.turn)).setCell ⟨b, 2, none⟩ (.int .i64 y.id)).setCell ⟨b, 3, none⟩ (.int .i64 y.size)).setCell ⟨b, 4, none⟩ (.int .i64 x.lev)).setCell ⟨b, 5, none⟩ (.int .i64 x.turn)).setCell ⟨b, 6, none⟩ (.int .i64 x.id)).setCell ⟨b, 7, none⟩ (.int .i64 x.size)) (some g)) := (grown_setD (grown_setD (grown_setD (grown_setD (grown_setD (grown_setD (grown_setD (grown_setD hgr2 b 0 (.int .i64 y.lev) hbw) b 1 (.int .i64 y.turn) hbw) b 2 (.int .i64 y.id) hbw) b 3 (.int .i64 y.size) hbw) b 4 (.int .i64 x.lev) hbw) b 5 (.int .i64 x.turn) hbw) b 6 (.int .i64 x.id) hbw) b 7 (.int .i64 x.size) hbw)
      obtain ⟨u4, hu4⟩ : ∃ u4, ((((u.setCell ⟨b, 0, none⟩ (.int .i64 y.lev)).setCell ⟨b, 1, none⟩ (.int .i64 y.turn)).setCell ⟨b, 2, none⟩ (.int .i64 y.id)).setCell ⟨b, 3, none⟩ (.int .i64 y.size)) = u4 := ⟨_, rfl⟩
      have hown4 := Lib.hid S3.1
      rw [hu4] at own8 cur8 gr8 hown4
      have hbx4 : u4.heap[w2.heap.size]? = some (.cells #[.int .i64 x.lev, .int .i64 x.turn, .int .i64 x.id, .int .i64 x.size] 100) := by rw [← hu4]; exact (heap_set_ne (((u.setCell ⟨b, 0, none⟩ (.int .i64 y.lev)).setCell ⟨b, 1, none⟩ (.int .i64 y.turn)).setCell ⟨b, 2, none⟩ (.int .i64 y.id)) b 3 (.int .i64 y.size) hnb2).trans ((heap_set_ne ((u.setCell ⟨b, 0, none⟩ (.int .i64 y.lev)).setCell ⟨b, 1, none⟩ (.int .i64 y.turn)) b 2 (.int .i64 y.id) hnb2).trans ((heap_set_ne (u.setCell ⟨b, 0, none⟩ (.int .i64 y.lev)) b 1 (.int .i64 y.turn) hnb2).trans ((heap_set_ne u b 0 (.int .i64 y.lev) hnb2).trans (hbx))))
      have HU := Lib.hid hu
      have HU4 := Lib.hid hu4
      have HL1 := Lib.hid hel1
      clear o2 hc2 g2 hown2 hcr2 hgr2 hpos S0 S1 S2 S3 S4 S5 S6 S7 hu hu4 hel1 hel
      obtain ⟨n, hn⟩ : ∃ n, (x :: y :: r).length = n := ⟨_, rfl⟩
      have hn2 : 2 ≤ n := by rw [← hn]; simp
      have hnI : (1 : Int) < (n : Int) := by omega
      rw [show (y :: x :: r).length = n from hn] at own8
      rw [hn] at hown4
      rw [hn]
      have HNN := Lib.hid hn
      clear hn h2 HN
      go_upto_region 8 with fail
      rw [HU.out]
      clear c0 c1 c2 c3
      have c0 := HB0.out
      have c1 := HB1.out
      have c2 := HB2.out
      have c3 := HB3.out
      have c4 := HB4.out
      have c5 := HB5.out
      have c6 := HB6.out
      have c7 := HB7.out
      have z0 := HF.out 0
      have z1 := HF.out 1
      have z2 := HF.out 2
      have z3 := HF.out 3
      go_upto_region 9 with fail
      rw [HU4.out]
      clear c0 c1 c2 c3 c4 c5 c6 c7 z0 z1 z2 z3
      have q0 := cell_of_row _ _ 0 _ _ _ hbx4
      have q1 := cell_of_row _ _ 1 _ _ _ hbx4
      have q2 := cell_of_row _ _ 2 _ _ _ hbx4
      have q3 := cell_of_row _ _ 3 _ _ _ hbx4
      simp at q0 q1 q2 q3
      have d4 : u4.cell? ⟨b, 4, none⟩ = some (.int .i64 y.lev) := hown4.out.cellAt 4 (by omega)
      have d5 : u4.cell? ⟨b, 5, none⟩ = some (.int .i64 y.turn) := hown4.out.cellAt 5 (by omega)
      have d6 : u4.cell? ⟨b, 6, none⟩ = some (.int .i64 y.id) := hown4.out.cellAt 6 (by omega)
      have d7 : u4.cell? ⟨b, 7, none⟩ = some (.int .i64 y.size) := hown4.out.cellAt 7 (by omega)
      have z4 := hown4.out.frozenAt 4
      have z5 := hown4.out.frozenAt 5
      have z6 := hown4.out.frozenAt 6
      have z7 := hown4.out.frozenAt 7
      have R : Hid (GotEns w g A l c 14 (.returned (.slice (some ⟨b, 0, none⟩) n oc)) ((((u4.setCell ⟨b, 4, none⟩ (.int .i64 x.lev)).setCell ⟨b, 5, none⟩ (.int .i64 x.turn)).setCell ⟨b, 6, none⟩ (.int .i64 x.id)).setCell ⟨b, 7, none⟩ (.int .i64 x.size))) := ⟨y :: x :: r, _, by have := HL1.out; simp at this ⊢; omega, hfit, rfl, (by have h := own8.out; rw [← HNN.out] at h ⊢; exact h), cur8.out, gr8.out⟩
      clear own8 cur8 gr8 hown4
      go_wp2
      go_ret
      exact R.out
    · have R : Hid (GotEns w g A l c 14 (.returned (.slice OA el.length oc)) w2) := ⟨el, _, by omega, hel, rfl, o2, hc2, g2⟩
      clear o2 hc2 g2 hpos
      go_wp2
      go_ret
      exact R.out
  · have n0 : ((k : Int) == 0) = false := by simp; omega
    have n1 : ((k : Int) == 1) = false := by simp; omega
    have R : Hid (GotEns w g A l c 14 (.returned (.slice OA el.length oc)) w2) := ⟨el, _, by omega, hel, rfl, o2, hc2, g2⟩
    clear o2 hc2 g2 hpos
    go_wp2
    go_ret
    exact R.out
end Go.Proofs.YtlflgflmlfileaaGreat
