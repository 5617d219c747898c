/- Texts laid together: Wh5, Wh7, Wh6, Wh8, Wh9. -/
import Derived.Test.YtlflgflmlfileaaGreatRows
import Derived.Test.YtlflgflmlfileaaGreatG9
import Derived.Test.YtlflgflmlfileaaGreatWhMa
import Derived.Test.YtlflgflmlfileaaGreatLateF
import Derived.Deep.DeepCutAuto
namespace Go.Proofs.YtlflgflmlfileaaGreat
open Go.RowKit
set_option linter.unusedSimpArgs false
set_option linter.unusedVariables false
/-- A pin that was drawn. -/
def GotPn (w : World) (g : Nat) (A : Option Addr) (l : List Nat) (c : Nat) (e : Ending) (w' : World) : Prop := ∃ x : Pn, x.fits ∧ e = .returned (pnA x) ∧ Cur w' g A l c ∧ w.grownBy w' (some g)
def putPn (w : World) (b : Nat) (q : Pn) : World := (w.setCell ⟨b, 0, none⟩ (.int .i64 q.at_)).setCell ⟨b, 1, none⟩ (.int .i64 q.id)
theorem putPn_cur {w : World} {g : Nat} {A : Option Addr} {l : List Nat} {c b : Nat} {q : Pn} (h : Cur w g A l c) (hb : g < b) : Cur (putPn w b q) g A l c := by
  unfold putPn
  exact Cur.setCell (Cur.setCell h b 0 _ hb) b 1 _ hb
theorem putPn_grown {a w : World} {g b : Nat} {q : Pn} (h : a.grownBy w (some g)) (hb : a.heap.size ≤ b) : a.grownBy (putPn w b q) (some g) := by
  unfold putPn
  exact grown_setD (grown_setD h b 0 _ hb) b 1 _ hb
set_option maxRecDepth 100000 in
set_option maxHeartbeats 3200000 in
theorem l9Pin_any (A : Option Addr) (l : List Nat) (c g : Nat) (w : World) (hl : l.length ≤ 2097152) (hb : AllB l) (hcw : Cur w g A l c) :
    Calls Tryz.prog 65 #[.pointer (some ⟨g, 0, none⟩)] w (GotPn w g A l c) := by
  have hgw := hcw.lt
  have hz0 := heap_new w (.cells #[.int .i64 0, .int .i64 0] 95)
  have gr0 := grown_made w (.cells #[.int .i64 0, .int .i64 0] 95) g
  have hcw0 := hcw.alloc (.cells #[.int .i64 0, .int .i64 0] 95)
  have KZ := Lib.hid (fun w' (h : (w.alloc (.cells #[.int .i64 0, .int .i64 0] 95)).grownBy w' (some g)) => (h.block _ (blk_lt hz0) (fun e => by injection e with e; omega)).trans hz0)
  have GZ := Lib.hid gr0
  have gr0 := World.grownBy.refl (w.alloc (.cells #[.int .i64 0, .int .i64 0] 95)) (some g)
  clear hz0 hcw
  go_enter Tryz.func65, Tryz.ntmps65
  go_wp2_with fail
  refine (l1Below_any A l c g 24 _ hl hb (by omega) (by omega) hcw0).mono ?_
  rintro e v0 ⟨y0, hy0, rfl, hc0, gs0⟩
  have gr1 := gr0.trans gs0
  clear gs0 gr0 hcw0
  go_wp2_with fail
  refine (l1Below_any A l c g 12 _ hl hb (by omega) (by omega) hc0).mono ?_
  rintro e v1 ⟨y1, hy1, rfl, hc1, gs1⟩
  have gr2 := gr1.trans gs1
  clear gs1 gr1 hc0
  have hz1 := KZ.out _ gr2
  have gw1 := GZ.out.trans gr2
  have ltz := blk_lt hz1
  have lt4 := gr2.size
  rw [World.size_alloc] at lt4
  clear KZ GZ gr2
  have hqf : (⟨1 + (y0 : Int), 1 + (y1 : Int)⟩ : Pn).fits := by unfold Pn.fits inI; simp; omega
  have HQ := Lib.hid (heap_new v1 (.cells #[.int .i64 (1 + (y0 : Int)), .int .i64 (1 + (y1 : Int))] 95))
  have HZ := Lib.hid (blk_alloc hz1 (.cells #[.int .i64 (1 + (y0 : Int)), .int .i64 (1 + (y1 : Int))] 95))
  have HG := Lib.hid (grown_step gw1 (World.grownBy_alloc v1 (.cells #[.int .i64 (1 + (y0 : Int)), .int .i64 (1 + (y1 : Int))] 95) none) (fun j h => by cases h))
  have hc5 := hc1.alloc (.cells #[.int .i64 (1 + (y0 : Int)), .int .i64 (1 + (y1 : Int))] 95)
  have ltc := hc1.lt
  clear hz1 gw1 hc1
  go_wp2_with fail
  refine (l1Below_any A l c g 20 _ hl hb (by omega) (by omega) hc5).mono ?_
  rintro e w4 ⟨k, hk, rfl, hc, gr5⟩
  have hq := (gr5.block _ (blk_lt HQ.out) (fun e => by injection e with e; omega)).trans HQ.out
  have hz := (gr5.block _ (blk_lt HZ.out) (fun e => by injection e with e; omega)).trans HZ.out
  have gr := HG.out.trans gr5
  generalize v1.heap.size = b at *
  clear HQ HZ HG gr5 hc5
  obtain ⟨q, hqe⟩ : ∃ q : Pn, q = ⟨1 + (y0 : Int), 1 + (y1 : Int)⟩ := ⟨_, rfl⟩
  have hq : w4.heap[b]? = some (.cells #[.int .i64 q.at_, .int .i64 q.id] 95) := by rw [hqe]; exact hq
  rw [← hqe] at hqf
  clear hqe
  have hks : k = 0 ∨ k = 1 ∨ 2 ≤ k := by omega
  rcases hks with rfl | rfl | hk6
  · skip
    have hx := ints_new w4 [0, -1, -9, 1000008, 1000009, 9223372036854775807, -9223372036854775808]
    have hc5 := hc.alloc (.cells (([0, -1, -9, 1000008, 1000009, 9223372036854775807, -9223372036854775808] : List Int).map (Value.int .i64)).toArray 3)
    have CP := Lib.hid (l1PickInt_any A l c g [0, -1, -9, 1000008, 1000009, 9223372036854775807, -9223372036854775808] w4.heap.size 7 7 _ hl hb hc5 rfl (by simp) (by simp) (by have := hc.lt; omega) hx)
    have hq1 := blk_alloc hq (.cells (([0, -1, -9, 1000008, 1000009, 9223372036854775807, -9223372036854775808] : List Int).map (Value.int .i64)).toArray 3)
    have hz1 := blk_alloc hz (.cells (([0, -1, -9, 1000008, 1000009, 9223372036854775807, -9223372036854775808] : List Int).map (Value.int .i64)).toArray 3)
    have gr1 := grown_step gr (World.grownBy_alloc w4 (.cells (([0, -1, -9, 1000008, 1000009, 9223372036854775807, -9223372036854775808] : List Int).map (Value.int .i64)).toArray 3) none) (fun j h => by cases h)
    have F : Hid (_ ∧ _ ∧ _) := ⟨hq1, hz1, gr1⟩
    clear hq1 hz1 gr1 hx hc5 hq hz gr hc
    go_wp2_with fail
    refine CP.out.mono ?_
    rintro e w5 ⟨z, hzm, rfl, hc, gr5⟩
    have hz0 : inI z := by
      simp at hzm
      unfold inI
      omega
    clear hzm CP
    have hq := (gr5.block _ (blk_lt F.out.1) (fun e => by injection e with e; omega)).trans F.out.1
    have hz := (gr5.block _ (blk_lt F.out.2.1) (fun e => by injection e with e; omega)).trans F.out.2.1
    have gr := F.out.2.2.trans gr5
    clear F gr5
    have s0 := cell_of_row _ _ 0 _ _ _ hq
    have s1 := frozen_of_row _ _ 0 _ _ hq
    simp at s0
    have hq2 : (w5.setCell ⟨b, 0, none⟩ (.int .i64 z)).heap[b]? = some (.cells #[.int .i64 z, .int .i64 q.id] 95) := Go.heap_setCell_same _ b 0 _ _ (.int .i64 z) hq
    have hz2 := (heap_set_ne w5 b 0 (.int .i64 z) (show w.heap.size ≠ b by omega)).trans hz
    have hc2 := hc.setCell b 0 (.int .i64 z) (by omega)
    have gr2 := grown_setD gr b 0 (.int .i64 z) (by omega)
    obtain ⟨U, eU⟩ : ∃ U, w5.setCell ⟨b, 0, none⟩ (.int .i64 z) = U := ⟨_, rfl⟩
    rw [eU] at hq2 hz2 hc2 gr2
    clear hq hz hc gr
    have hq := hq2
    have hz := hz2
    have hc := hc2
    have gr := gr2
    clear hq2 hz2 hc2 gr2
    have a0 := cell_of_row _ _ 0 _ _ _ hq
    have a1 := cell_of_row _ _ 1 _ _ _ hq
    have e0 := cell_of_row _ _ 0 _ _ _ hz
    have f0 := frozen_of_row _ _ 0 _ _ hz
    have e1 := cell_of_row _ _ 1 _ _ _ hz
    have f1 := frozen_of_row _ _ 1 _ _ hz
    simp at a0 a1 e0 e1
    have HN : Hid (GotPn w g A l c (.returned (pnA (⟨z, q.id⟩ : Pn))) (putPn U w.heap.size (⟨z, q.id⟩ : Pn))) := ⟨(⟨z, q.id⟩ : Pn), ⟨hz0, hqf.2⟩, rfl, putPn_cur hc (by omega), putPn_grown gr (by omega)⟩
    clear hq hz hc gr
    unfold pnA putPn at HN
    go_wp2
    simp [bodyPost, results, Tryz.results65, go_sem, e0, e1]
    exact HN.out
  · skip
    have hx := ints_new w4 [0, 999, 1000, -1]
    have hc5 := hc.alloc (.cells (([0, 999, 1000, -1] : List Int).map (Value.int .i64)).toArray 3)
    have CP := Lib.hid (l1PickInt_any A l c g [0, 999, 1000, -1] w4.heap.size 4 4 _ hl hb hc5 rfl (by simp) (by simp) (by have := hc.lt; omega) hx)
    have hq1 := blk_alloc hq (.cells (([0, 999, 1000, -1] : List Int).map (Value.int .i64)).toArray 3)
    have hz1 := blk_alloc hz (.cells (([0, 999, 1000, -1] : List Int).map (Value.int .i64)).toArray 3)
    have gr1 := grown_step gr (World.grownBy_alloc w4 (.cells (([0, 999, 1000, -1] : List Int).map (Value.int .i64)).toArray 3) none) (fun j h => by cases h)
    have F : Hid (_ ∧ _ ∧ _) := ⟨hq1, hz1, gr1⟩
    clear hq1 hz1 gr1 hx hc5 hq hz gr hc
    go_wp2_with fail
    refine CP.out.mono ?_
    rintro e w5 ⟨z, hzm, rfl, hc, gr5⟩
    have hz0 : inI z := by
      simp at hzm
      unfold inI
      omega
    clear hzm CP
    have hq := (gr5.block _ (blk_lt F.out.1) (fun e => by injection e with e; omega)).trans F.out.1
    have hz := (gr5.block _ (blk_lt F.out.2.1) (fun e => by injection e with e; omega)).trans F.out.2.1
    have gr := F.out.2.2.trans gr5
    clear F gr5
    have s0 := cell_of_row _ _ 1 _ _ _ hq
    have s1 := frozen_of_row _ _ 1 _ _ hq
    simp at s0
    have hq2 : (w5.setCell ⟨b, 1, none⟩ (.int .i64 z)).heap[b]? = some (.cells #[.int .i64 q.at_, .int .i64 z] 95) := Go.heap_setCell_same _ b 1 _ _ (.int .i64 z) hq
    have hz2 := (heap_set_ne w5 b 1 (.int .i64 z) (show w.heap.size ≠ b by omega)).trans hz
    have hc2 := hc.setCell b 1 (.int .i64 z) (by omega)
    have gr2 := grown_setD gr b 1 (.int .i64 z) (by omega)
    obtain ⟨U, eU⟩ : ∃ U, w5.setCell ⟨b, 1, none⟩ (.int .i64 z) = U := ⟨_, rfl⟩
    rw [eU] at hq2 hz2 hc2 gr2
    clear hq hz hc gr
    have hq := hq2
    have hz := hz2
    have hc := hc2
    have gr := gr2
    clear hq2 hz2 hc2 gr2
    have a0 := cell_of_row _ _ 0 _ _ _ hq
    have a1 := cell_of_row _ _ 1 _ _ _ hq
    have e0 := cell_of_row _ _ 0 _ _ _ hz
    have f0 := frozen_of_row _ _ 0 _ _ hz
    have e1 := cell_of_row _ _ 1 _ _ _ hz
    have f1 := frozen_of_row _ _ 1 _ _ hz
    simp at a0 a1 e0 e1
    have HN : Hid (GotPn w g A l c (.returned (pnA (⟨q.at_, z⟩ : Pn))) (putPn U w.heap.size (⟨q.at_, z⟩ : Pn))) := ⟨(⟨q.at_, z⟩ : Pn), ⟨hqf.1, hz0⟩, rfl, putPn_cur hc (by omega), putPn_grown gr (by omega)⟩
    clear hq hz hc gr
    unfold pnA putPn at HN
    go_wp2
    simp [bodyPost, results, Tryz.results65, go_sem, e0, e1]
    exact HN.out
  · have k0 : ((k : Int) == 0) = false := by simp; omega
    have k1 : ((k : Int) == 1) = false := by simp; omega
    have a0 := cell_of_row _ _ 0 _ _ _ hq
    have a1 := cell_of_row _ _ 1 _ _ _ hq
    have e0 := cell_of_row _ _ 0 _ _ _ hz
    have f0 := frozen_of_row _ _ 0 _ _ hz
    have e1 := cell_of_row _ _ 1 _ _ _ hz
    have f1 := frozen_of_row _ _ 1 _ _ hz
    simp at a0 a1 e0 e1
    have HN : Hid (GotPn w g A l c (.returned (pnA q)) (putPn w4 w.heap.size q)) := ⟨q, hqf, rfl, putPn_cur hc (by omega), putPn_grown gr (by omega)⟩
    clear hq hz hc gr
    unfold pnA putPn at HN
    go_wp2
    simp [bodyPost, results, Tryz.results65, go_sem, e0, e1]
    exact HN.out
/-- Pins that were drawn. -/
def GotPns (w : World) (g : Nat) (A : Option Addr) (l : List Nat) (c m : Nat) (e : Ending) (w' : World) : Prop := ∃ (el : List Pn) (v : Value), el.length ≤ m ∧ (∀ f ∈ el, f.fits) ∧ e = .returned v ∧ w'.ownsRow w.heap.size 95 2 v el.length (el.flatMap pnC) ∧ Cur w' g A l c ∧ w.grownBy w' (some g)
set_option maxRecDepth 100000 in
set_option maxHeartbeats 1600000 in
theorem l9Pins_any (A : Option Addr) (l : List Nat) (c g : Nat) (w : World) (hl : l.length ≤ 2097152) (hb : AllB l) (hcw : Cur w g A l c) :
    Calls Tryz.prog 77 #[.pointer (some ⟨g, 0, none⟩)] w (GotPns w g A l c 7) := by
  have hlt := hcw.lt
  have gr0 := grown_made w (.cells #[] 95) g
  have o0 := own_empty w w.heap.size 95 2 (Nat.le_refl _)
  have hc0 := hcw.alloc (.cells #[] 95)
  have HO := Lib.hid (fun w' (h : (w.alloc (.cells #[] 95)).grownBy w' (some g)) => own_cur o0 h hlt)
  have HG := Lib.hid (fun w' (h : (w.alloc (.cells #[] 95)).grownBy w' (some g)) => gr0.trans h)
  clear o0 gr0
  go_enter Tryz.func77, Tryz.ntmps77
  go_wp2_with fail
  refine (l1Below_any A l c g 8 _ hl hb (by omega) (by omega) hc0).mono ?_
  rintro e w1 ⟨n, hn0, rfl, hc4, gr1⟩
  have o4 := HO.out _ gr1
  have g4 := HG.out _ gr1
  clear HO HG gr1 hc0
  go_wp2
  go_loopw [3, 5] (fun v i wr => ∃ (k : Nat) (el : List Pn), k ≤ n ∧ i = .int .i64 k ∧ Hid (el.length = k) ∧ (∀ f ∈ el, f.fits) ∧ wr.ownsRow w.heap.size 95 2 v el.length (el.flatMap pnC) ∧ Cur wr g A l c ∧ w.grownBy wr (some g)) (fun _ i _ => n - (intOf i).toNat)
  case atStart => exact ⟨0, [], by omega, rfl, rfl, (fun f hf => by cases hf), o4, hc4, g4⟩
  case round =>
    clear o4 hc4 g4
    obtain ⟨k, el, hk, rfl, hkl, hel, hown, hcr, hgr⟩ := hrel
    obtain ⟨OA, oc, rfl, _⟩ := own_form hown
    by_cases hk2 : k < n
    · go_wp2_with fail
      refine (l9Pin_any A l c g _ hl hb hcr).mono ?_
      rintro e w5 ⟨x, hxf, rfl, hc5, gr5⟩
      have hown := own_cur hown gr5 hlt
      have hgr := hgr.trans gr5
      have O1 := Lib.hid (World.ownsRow.alloc hown (.cells #[.int .i64 x.at_, .int .i64 x.id] 95))
      have RN : Hid (Rws (w5.alloc (.cells #[.int .i64 x.at_, .int .i64 x.id] 95)) (w5.heap.size + 1) (some ⟨w5.heap.size, 0, none⟩) (pnC x)) := Rws.new w5 (pnC x) 95
      have hcr := hc5.alloc (.cells #[.int .i64 x.at_, .int .i64 x.id] 95)
      have lt5 := hgr.size
      have hgr := grown_step hgr (World.grownBy_alloc w5 (.cells #[.int .i64 x.at_, .int .i64 x.id] 95) none) (fun j h => by cases h)
      clear gr5 hc5 hown
      unfold pnA
      go_wp2_with (at_builtin; refine wpList_appR rowPin _ rfl (.tmp 14) (.tmp 17) rfl w.heap.size _ el.length (el.flatMap pnC) rfl O1.out _ (some ⟨w5.heap.size, 0, none⟩) 1 1 (pnC x) rfl rfl RN.out (by simp) (by intro u hu; simp [pnC] at hu; rcases hu with rfl | rfl <;> rfl) (by have := hkl.out; omega) (by simp; omega) ?_)
      intro v2 w2 o2 g2
      have O2 : Hid (w2.ownsRow w.heap.size 95 2 v2 (el ++ [x]).length ((el ++ [x]).flatMap pnC)) := by
        show World.ownsRow _ _ _ _ _ _ _
        rw [List.length_append, List.flatMap_append]
        have e : [x].flatMap pnC = pnC x := by simp
        rw [e]; exact o2
      have C2 : Hid (Cur w2 g A l c) := hcr.grown g2 (fun j hj => by have := own_low O1.out j hj; omega)
      have G2 : Hid (w.grownBy w2 (some g)) := grown_step hgr g2 (own_low O1.out)
      have F2 : Hid (∀ f ∈ el ++ [x], f.fits) := fun f hf => by
        rcases List.mem_append.1 hf with h | h
        · exact hel f h
        · have : f = x := by simpa using h
          rw [this]; exact hxf
      clear o2 g2 O1 RN hcr hgr
      go_wp2
      go_roundw
      case rel => exact ⟨k + 1, el ++ [x], by omega, by go_num, (by show _ = _; have := hkl.out; simp [this]), F2.out, O2.out, C2.out, G2.out⟩
      case measure => simp [intOf]; omega
    · go_wp2
      go_ret
      exact ⟨el, _, by have := hkl.out; omega, hel, rfl, hown, hcr, hgr⟩
theorem ApartW.set {sp : List Sp} (h : ApartW sp) (k : Nat) (s : Sp) (hn : ∀ t ∈ sp, ∀ q, t.blk = some q → s.blk ≠ some q) : ApartW (sp.set k s) := by
  intro i j hij hj q hq
  rw [List.length_set] at hj
  have gi : (sp.set k s).getD i sp0 = if k = i then s else sp.getD i sp0 := by
    simp only [List.getD_eq_getElem?_getD, List.getElem?_set]
    by_cases e : k = i
    · subst e; simp [show k < sp.length by omega]
    · simp [e]
  have gj : (sp.set k s).getD j sp0 = if k = j then s else sp.getD j sp0 := by
    simp only [List.getD_eq_getElem?_getD, List.getElem?_set]
    by_cases e : k = j
    · subst e; simp [hj]
    · simp [e]
  rw [gi] at hq
  rw [gj]
  by_cases e1 : k = i
  · rw [if_pos e1] at hq
    rw [if_neg (by omega)]
    intro h2
    exact hn _ (getD_mem sp j sp0 hj) q h2 hq
  · rw [if_neg e1] at hq
    by_cases e2 : k = j
    · rw [if_pos e2]; exact hn _ (getD_mem sp i sp0 (by omega)) q hq
    · rw [if_neg e2]; exact h i j hij hj q hq
set_option maxRecDepth 100000 in
set_option maxHeartbeats 3200000 in
theorem wheelNew_ap (w : World) : Calls Tryz.prog 55 #[] w (NewX w nineW) := by
  obtain ⟨W, hW⟩ : ∃ W, (w.alloc (.cells #[.slice none 0 0] 57)).alloc (.cells #[.slice none 0 0] 57) = W := ⟨_, rfl⟩
  have T0 : W.heap[w.heap.size]? = some (.cells #[.slice none 0 0] 57) ∧ W.heap[w.heap.size + 1]? = some (.cells #[.slice none 0 0] 57) ∧ Below w.heap.size w W := by rw [← hW]; exact two_at w _ _ _ (Below.refl _ _)
  have HT := Lib.hid T0
  have HW := Lib.hid hW
  have hWs : Hid (W.heap.size = w.heap.size + 2) := by show _ = _; rw [← hW]; simp
  clear T0 hW
  go_enter Tryz.func55, Tryz.ntmps55
  go_wp2_with fail
  rw [HW.out]
  clear HW
  go_loopw [2] (fun i wr => ∃ (k : Nat) (A : Option Addr) (c : Nat) (sp : List Sp), k ≤ 9 ∧ i = .int .i64 k ∧ sp.length = k ∧ sp.map (·.l) = List.replicate k [] ∧ OwnW wr W.heap.size A c sp ∧ Hid (ApartW sp) ∧
      wr.heap[w.heap.size]? = some (.cells #[.slice none 0 0] 57) ∧ wr.heap[w.heap.size + 1]? = some (.cells #[.slice A k c] 57) ∧ Below w.heap.size w wr ∧ W.heap.size ≤ wr.heap.size) (fun i _ => 9 - (intOf i).toNat)
  case atStart => exact ⟨0, none, 0, [], by omega, rfl, rfl, rfl, ⟨World.ownsRow_nil _ _ _ _, by simp⟩, ApartW.nil, HT.out.1, HT.out.2.1, HT.out.2.2, Nat.le_refl _⟩
  case round =>
    clear HT
    obtain ⟨k, A, c, sp, hk, rfl, hlen, hrep, hO, hap, h0, h1, hb, hs⟩ := hrel
    have c1 := cell_of_row _ _ 0 _ _ _ h1
    simp at c1
    by_cases hlt : k < 9
    · have hr := hO.row
      rw [hlen] at hr
      have O1 := (hr.alloc (.cells #[] 95)).alloc (.cells #[.slice (some ⟨wr.heap.size, 0, none⟩) 0 0] 90)
      have RN : Rws ((wr.alloc (.cells #[] 95)).alloc (.cells #[.slice (some ⟨wr.heap.size, 0, none⟩) 0 0] 90)) (wr.heap.size + 1 + 1) (some ⟨wr.heap.size + 1, 0, none⟩) (spC ⟨some ⟨wr.heap.size, 0, none⟩, 0, []⟩) := by
        have := Rws.new (wr.alloc (.cells #[] 95)) (spC ⟨some ⟨wr.heap.size, 0, none⟩, 0, []⟩) 90
        rw [World.size_alloc] at this
        exact this
      have I1 : ∀ s ∈ sp ++ [⟨some ⟨wr.heap.size, 0, none⟩, 0, []⟩], Sp.own ((wr.alloc (.cells #[] 95)).alloc (.cells #[.slice (some ⟨wr.heap.size, 0, none⟩) 0 0] 90)) W.heap.size s := by
        intro s hs2
        rcases List.mem_append.1 hs2 with h | h
        · exact ((hO.sp s h).alloc _).alloc _
        · simp at h; subst h
          exact (own_empty wr W.heap.size 95 2 hs).alloc _
      have B1 : Below w.heap.size w ((wr.alloc (.cells #[] 95)).alloc (.cells #[.slice (some ⟨wr.heap.size, 0, none⟩) 0 0] 90)) := (hb.alloc hb.size _).alloc (by have := hb.size; simp; omega) _
      have H0 := Lib.hid (blk_alloc (blk_alloc h0 (.cells #[] 95)) (.cells #[.slice (some ⟨wr.heap.size, 0, none⟩) 0 0] 90))
      have H1 := Lib.hid (blk_alloc (blk_alloc h1 (.cells #[] 95)) (.cells #[.slice (some ⟨wr.heap.size, 0, none⟩) 0 0] 90))
      have II := Lib.hid I1
      have BB := Lib.hid B1
      have lt1 := blk_lt h1
      have ltW : w.heap.size + 1 < W.heap.size := by have := hWs.out; omega
      have HP : Hid (ApartW (sp ++ [⟨some ⟨wr.heap.size, 0, none⟩, 0, []⟩])) := ApartW.one hap.out (fun x hx q h1 h2 => by
        have l1 := (World.ownsRow.lt (hO.sp x hx) q (by rw [ownBlock_eq]; exact h1)).2
        injection h2 with h2
        have h2 : wr.heap.size = q := h2
        omega)
      clear hO h0 h1 hb I1 B1 hr hap
      go_wp2_with (at_builtin; refine wpList_appR rowSpk _ rfl (.tmp 9) (.tmp 11) rfl W.heap.size _ k (sp.flatMap spC) rfl O1 _ _ 1 1 (spC ⟨some ⟨wr.heap.size, 0, none⟩, 0, []⟩) rfl rfl RN (fun h => by cases h) (by intro u hu; exact spC_one [⟨some ⟨wr.heap.size, 0, none⟩, 0, []⟩] u (by simpa using hu)) (by omega) (by simp; omega) ?_)
      intro v3 w3 o3 g3
      have lo := own_low O1
      have ne0 : ∀ j, j < W.heap.size → (Value.slice A k c).ownBlock ≠ some j := fun j hj h => by have := lo j h; omega
      have h0 : w3.heap[w.heap.size]? = _ := (g3.block _ (blk_lt H0.out) (fun h => ne0 _ (by omega) h.symm)).trans H0.out
      have h1 : w3.heap[w.heap.size + 1]? = _ := (g3.block _ (blk_lt H1.out) (fun h => ne0 _ (by omega) h.symm)).trans H1.out
      obtain ⟨A3, c3, rfl, _⟩ := own_form o3
      have O3 : OwnW w3 W.heap.size A3 c3 (sp ++ [⟨some ⟨wr.heap.size, 0, none⟩, 0, []⟩]) := by
        refine ⟨?_, OwnW.grow II.out O1 g3⟩
        rw [List.length_append, hlen, List.flatMap_append]
        simpa using o3
      have b3 := BB.out.grown g3 BB.out.size (fun j hj => by have := lo j hj; omega)
      have c1 := cell_of_row _ _ 0 _ _ _ h1
      have z1 := frozen_of_row _ _ 0 _ _ h1
      simp at c1
      have O4 := Lib.hid (O3.put h1 (by decide) (by decide) 0 (.slice A3 (k + 1) c3))
      have b4 := Lib.hid (b3.setCell (p := ⟨w.heap.size + 1, 0, none⟩) (by show _ ≤ _ + 1; omega) (.slice A3 (k + 1) c3))
      have H0 : Hid ((w3.setCell ⟨w.heap.size + 1, 0, none⟩ (.slice A3 (k + 1) c3)).heap[w.heap.size]? = _) := (heap_set_ne w3 _ 0 _ (by omega)).trans h0
      have H1 : Hid ((w3.setCell ⟨w.heap.size + 1, 0, none⟩ (.slice A3 (k + 1) c3)).heap[w.heap.size + 1]? = some (.cells #[.slice A3 (k + 1) c3] 57)) := Go.heap_setCell_same _ _ 0 _ _ (.slice A3 (k + 1) c3) h1
      have hs4 : Hid (W.heap.size ≤ (w3.setCell ⟨w.heap.size + 1, 0, none⟩ (.slice A3 (k + 1) c3)).heap.size) := by
        show _ ≤ _
        have := g3.size; simp at this ⊢; omega
      have HR : Hid ((sp ++ [(⟨some ⟨wr.heap.size, 0, none⟩, 0, []⟩ : Sp)]).map (fun x => x.l) = List.replicate (k + 1) []) := by
        show _ = _
        rw [List.map_append, hrep, List.replicate_succ']; rfl
      clear o3 O3 b3 h0 h1 lo ne0 g3 O1 RN II BB hrep
      go_wp2
      go_roundw
      case rel => exact ⟨k + 1, A3, c3, sp ++ [⟨some ⟨wr.heap.size, 0, none⟩, 0, []⟩], by omega, by go_num, by simp [hlen], HR.out, O4.out, HP, H0.out, H1.out, b4.out, hs4.out⟩
      case measure => simp [intOf] <;> omega
    · obtain rfl : k = 9 := by omega
      have c0 := cell_of_row _ _ 0 _ _ _ h0
      have z0 := frozen_of_row _ _ 0 _ _ h0
      simp at c0
      have ltW : w.heap.size + 1 < W.heap.size := by have := hWs.out; omega
      have HN : Hid (NewX w nineW (.returned (.agg #[.slice A 9 c])) (wr.setCell ⟨w.heap.size, 0, none⟩ (.slice A 9 c))) := by
        refine ⟨A, c, sp, by rw [hlen], hrep, (hO.put h0 (by decide) (by decide) 0 _).weak (by omega), hap.out, hb.setCell (p := ⟨w.heap.size, 0, none⟩) (Nat.le_refl _) _⟩
      clear hO h0 h1 hb hrep
      go_wp2
      simp [bodyPost, results, Tryz.results55, go_sem, c0]
      exact HN.out
set_option maxRecDepth 100000 in
set_option maxHeartbeats 6400000 in
theorem l9Copy_ap (A : Option Addr) (sp : List Sp) (c : Nat) (w : World) (hn : sp.length ≤ 2097152) (hl : (allPn sp).length ≤ 2097152) (hA : Whl w A sp) :
    Calls Tryz.prog 72 #[.agg #[.slice A sp.length c]] w (NewX w (sp.map (·.l))) := by
  obtain ⟨W, hW⟩ : ∃ W, ((w.alloc (.cells #[.slice A sp.length c] 57)).alloc (.cells #[.slice none 0 0] 57)).alloc (.cells #[.slice none 0 0] 57) = W := ⟨_, rfl⟩
  have T0 : Three w W (.cells #[.slice A sp.length c] 57) (.cells #[.slice none 0 0] 57) (.cells #[.slice none 0 0] 57) := by rw [← hW]; exact Three.make _ _ _ _
  have HT := Lib.hid T0
  have HW := Lib.hid hW
  have ltW : Hid (w.heap.size + 2 < W.heap.size) := by show _ < _; rw [← hW]; simp
  clear T0 hW
  go_enter Tryz.func72, Tryz.ntmps72
  go_wp2_with fail
  rw [HW.out]
  clear HW
  go_loopw [4] (fun i wr => ∃ (k : Nat) (P : Option Addr) (cp : Nat) (sq : List Sp), k ≤ sp.length ∧ i = .int .i64 k ∧ sq.length = k ∧ sq.map (·.l) = (sp.take k).map (·.l) ∧ OwnW wr W.heap.size P cp sq ∧ Hid (ApartW sq) ∧
      Three w wr (.cells #[.slice A sp.length c] 57) (.cells #[.slice none 0 0] 57) (.cells #[.slice P k cp] 57) ∧ W.heap.size ≤ wr.heap.size) (fun i _ => sp.length - (intOf i).toNat)
  case atStart => exact ⟨0, none, 0, [], by omega, rfl, rfl, by simp, ⟨World.ownsRow_nil _ _ _ _, by simp⟩, ApartW.nil, HT.out, Nat.le_refl _⟩
  case round =>
    clear HT
    obtain ⟨k, P, cp, sq, hk, rfl, hlen, hmap, hO, hap, hT, hs⟩ := hrel
    have ltw := ltW.out
    have q0 := cell_of_row _ _ 0 _ _ _ hT.1
    simp at q0
    by_cases hlt : k < sp.length
    · have hWh := hA.below hT.2.2.2
      have hsp := hWh.at_ hlt
      obtain ⟨b, off, rfl, hbB, _⟩ := hA.row.sp hlt
      obtain ⟨b', off', he, hbB', hc⟩ := hWh.row.sp hlt
      obtain ⟨rfl, rfl⟩ : b = b' ∧ off = off' := by injection he with he; injection he with h1 h2; exact ⟨h1, h2⟩
      have hm1 : (sp.take (k + 1)).map (fun x => x.l) = (sp.take k).map (fun x => x.l) ++ [(sp.getD k sp0).l] := by rw [take_succ_getD sp k sp0 hlt]; simp
      have el := allPn_at_le sp k hlt
      generalize sp.getD k sp0 = s at *
      have hS : CpS wr w.heap.size (w.heap.size + 2) b (off + k) (.slice (some ⟨b, off, none⟩) sp.length c) (.slice P k cp) (.slice s.a s.l.length s.c) := ⟨hT.2.2.1, hT.1, hc⟩
      have HM := Lib.hid hm1
      have HT := Lib.hid hT
      have HS := Lib.hid hsp
      have HO := Lib.hid hO
      have CS := Lib.hid hS
      clear hm1 hT hsp hO hWh hS hc he
      go_wp2_with fail
      refine wp_region_E 12 (fun w' => Hid (CpS w' w.heap.size (w.heap.size + 2) b (off + k) (.slice (some ⟨b, off, none⟩) sp.length c) (.slice P k cp) (.slice s.a s.l.length s.c))) (by kernel_rfl) ?_
      have hS0 : CpS wr.drew _ _ _ _ _ _ _ := CS.out.step (grown_of_below (below_drawn (Below.refl wr.heap.size wr) 1) none) W.heap.size (fun j h => by cases h) (by omega) (by omega) (by omega)
      have hH0 := Lib.hid hS0
      refine e_take 0 13 (.pointer (some ⟨w.heap.size + 2, 0, none⟩)) rfl rfl (by kernel_rfl) (by kernel_rfl) (by kernel_rfl) (by kernel_rfl) (fun _ _ _ h => h) rfl hH0 (fun w _ => exec_fldW _ w) ?_
      refine e_take 1 14 (.slice P k cp) rfl rfl (by kernel_rfl) (by kernel_rfl) (by kernel_rfl) (by kernel_rfl) (fun _ _ _ h => h) rfl hH0 (fun w h => exec_loadSp _ _ 0 P k cp w (.inr rfl) (cell_of_row _ _ 0 _ _ _ h.out.1)) ?_
      simp only [Act.put, List.setIfInBounds_toArray, List.set_cons_zero, List.set_cons_succ]
      refine e_take 3 16 (.pointer (some ⟨w.heap.size, 0, none⟩)) rfl rfl (by kernel_rfl) (by kernel_rfl) (by kernel_rfl) (by kernel_rfl) (fun _ _ _ h => h) rfl hH0 (fun w _ => exec_fldW _ w) ?_
      refine e_take 4 17 (.slice (some ⟨b, off, none⟩) sp.length c) rfl rfl (by kernel_rfl) (by kernel_rfl) (by kernel_rfl) (by kernel_rfl) (fun _ _ _ h => h) rfl hH0 (fun w h => exec_loadSp _ _ 0 _ _ c w (.inr rfl) (cell_of_row _ _ 0 _ _ _ h.out.2.1)) ?_
      simp only [Act.put, List.setIfInBounds_toArray, List.set_cons_zero, List.set_cons_succ]
      refine e_take 5 18 (.int .i64 (k : Int)) rfl rfl (by kernel_rfl) (by kernel_rfl) (by kernel_rfl) (by kernel_rfl) (fun _ _ _ h => h) rfl hH0 (fun w _ => rfl) ?_
      refine e_take 6 19 (.pointer (some ⟨b, off + k, none⟩)) rfl rfl (by kernel_rfl) (by kernel_rfl) (by kernel_rfl) (by kernel_rfl) (fun _ _ _ h => h) rfl hH0 (fun w _ => exec_idxSp b off sp.length c k w hlt) ?_
      simp only [Act.put, List.setIfInBounds_toArray, List.set_cons_zero, List.set_cons_succ]
      refine e_take 7 20 (.slice s.a s.l.length s.c) rfl rfl (by kernel_rfl) (by kernel_rfl) (by kernel_rfl) (by kernel_rfl) (fun _ _ _ h => h) rfl hH0 (fun w h => exec_loadSp _ b (off + k) _ _ _ w (.inl rfl) h.out.2.2) ?_
      simp only [Act.put, List.setIfInBounds_toArray, List.set_cons_zero, List.set_cons_succ]
      have d0 : Below wr.heap.size wr wr.drew := below_drawn (Below.refl _ _) 1
      have hS1 := hS0.step (World.grownBy_alloc wr.drew (.cells #[] 95) none) W.heap.size (fun j h => by cases h) (by omega) (by omega) (by omega)
      refine e_op 2 15 (.slice (some ⟨wr.drew.heap.size, 0, none⟩) 0 0) rfl rfl (by kernel_rfl) rfl (exec_none_pn _) (fun _ => Lib.hid hS1) ?_
      simp only [Act.put, List.setIfInBounds_toArray, List.set_cons_zero, List.set_cons_succ]
      have O1 := own_empty wr.drew wr.drew.heap.size 95 2 (Nat.le_refl _)
      have hsd : W.heap.size ≤ wr.drew.heap.size := hs
      have lowO1 : ∀ j, (Value.slice (some ⟨wr.drew.heap.size, 0, none⟩) 0 0).ownBlock = some j → W.heap.size ≤ j := fun j h => Nat.le_trans hsd (own_low O1 j h)
      have x1 := d0.alloc d0.size (.cells #[] 95)
      obtain ⟨sr, sc, sn⟩ := HS.out.below x1
      refine e_opx 8 21 rfl rfl (by kernel_rfl) rfl (exec_appR rowPin _ wr.drew.heap.size _ 0 [] O1 _ s.a s.l.length s.c (s.l.flatMap pnC) (flat_len pnC 2 pnC_len s.l) sr sn (pnC_one _) (by omega) (by simp)) (fun v w' h _ => Lib.hid (hS1.step h.2 W.heap.size lowO1 (by omega) (by omega) (by omega))) ?_
      rintro v2 w2 ⟨o2, g2⟩
      simp only [Act.put, List.setIfInBounds_toArray, List.set_cons_zero, List.set_cons_succ]
      rw [Nat.zero_add, List.nil_append] at o2
      obtain ⟨A2, c2, rfl, _⟩ := own_form o2
      have hS2 := hS1.step g2 W.heap.size lowO1 (by omega) (by omega) (by omega)
      have hS3 := hS2.step (World.grownBy_alloc w2 (.cells (spC ⟨A2, c2, s.l⟩).toArray 90) none) W.heap.size (fun j h => by cases h) (by omega) (by omega) (by omega)
      refine e_op 9 22 (.slice (some ⟨w2.heap.size, 0, none⟩) 1 1) rfl rfl (by kernel_rfl) rfl (exec_one_sp ⟨A2, c2, s.l⟩ _) (fun _ => Lib.hid hS3) ?_
      simp only [Act.put, List.setIfInBounds_toArray, List.set_cons_zero, List.set_cons_succ]
      have O2 : OwnW w2 W.heap.size P cp sq := by
        have k1 : OwnW (wr.drew.alloc (.cells #[] 95)) W.heap.size P cp sq := HO.out.below x1
        refine ⟨own_kept2 k1.row g2 (fun j h1 h2 => ?_), fun t ht => own_kept2 (k1.sp t ht) g2 (fun j h1 h2 => ?_)⟩
        · injection h2 with h2
          have := (World.ownsRow.lt (HO.out.row) j h1).2
          have h2 : wr.heap.size = j := h2
          omega
        · injection h2 with h2
          have := (World.ownsRow.lt (HO.out.sp t ht) j h1).2
          have h2 : wr.heap.size = j := h2
          omega
      have HP : Hid (ApartW (sq ++ [⟨A2, c2, s.l⟩])) := ApartW.one hap.out (fun x hx q h1 h2 => by
        have l1 := (World.ownsRow.lt (HO.out.sp x hx) q (by rw [ownBlock_eq]; exact h1)).2
        have l2 : wr.heap.size ≤ q := (World.ownsRow.lt o2 q (by rw [ownBlock_eq]; exact h2)).1
        omega)
      have O3 := O2.alloc (.cells (spC ⟨A2, c2, s.l⟩).toArray 90)
      have s3 := (own_weak o2 hsd : Sp.own w2 W.heap.size ⟨A2, c2, s.l⟩).alloc (.cells (spC ⟨A2, c2, s.l⟩).toArray 90)
      have r3 := O3.row
      rw [hlen] at r3
      have gs2 := g2.size
      refine e_opx 10 23 rfl rfl (by kernel_rfl) rfl (exec_appR rowSpk _ W.heap.size _ k (sq.flatMap spC) r3 _ _ 1 1 (spC ⟨A2, c2, s.l⟩) rfl (Rws.new w2 (spC ⟨A2, c2, s.l⟩) 90) (fun h => by cases h) (by intro u hu; exact spC_one [⟨A2, c2, s.l⟩] u (by simpa using hu)) (by omega) (by simp at gs2 ⊢; omega)) (fun v w' h _ => Lib.hid (hS3.step h.2 W.heap.size (own_low r3) (by omega) (by omega) (by omega))) ?_
      rintro v4 w4 ⟨o4, g4⟩
      simp only [Act.put, List.setIfInBounds_toArray, List.set_cons_zero, List.set_cons_succ]
      obtain ⟨A4, c4, rfl, _⟩ := own_form o4
      have hS4 := hS3.step g4 W.heap.size (own_low r3) (by omega) (by omega) (by omega)
      refine e_op 11 24 (.pointer (some ⟨w.heap.size + 2, 0, none⟩)) rfl rfl (by kernel_rfl) rfl (exec_fldW _ _) (fun _ => Lib.hid hS4) ?_
      simp only [Act.put, List.setIfInBounds_toArray, List.set_cons_zero, List.set_cons_succ]
      refine e_store 12 rfl rfl (by kernel_rfl) rfl (exec_storeSp _ _ 0 A4 (k + 1) c4 _ w4 (.inr rfl) (cell_of_row _ _ 0 _ _ _ hS4.1) (frozen_of_row _ _ 0 _ _ hS4.1)) (fun h => absurd rfl h) ?_
      refine e_done (by kernel_rfl) ?_ _
      have O4 : OwnW w4 W.heap.size A4 c4 (sq ++ [⟨A2, c2, s.l⟩]) := by
        refine ⟨?_, OwnW.grow (fun t ht => ?_) r3 g4⟩
        · rw [List.length_append, hlen, List.flatMap_append]; simpa using o4
        · rcases List.mem_append.1 ht with h | h
          · exact O3.sp t h
          · simp at h; subst h; exact s3
      have O5 := Lib.hid (O4.put hS4.1 (by decide) (by decide) 0 (.slice A4 (k + 1) c4))
      have T5 : Hid (Three w (w4.setCell ⟨w.heap.size + 2, 0, none⟩ (.slice A4 (k + 1) c4)) (.cells #[.slice (some ⟨b, off, none⟩) sp.length c] 57) (.cells #[.slice none 0 0] 57) (.cells #[.slice A4 (k + 1) c4] 57)) := by
        have z1 : w4.heap[w.heap.size + 1]? = some (.cells #[.slice none 0 0] 57) := by
          have a1 := blk_call HT.out.2.1 x1
          have a2 := (g2.block _ (blk_lt a1) (fun e => by have := lowO1 _ e.symm; omega)).trans a1
          have a3 := blk_alloc a2 (.cells (spC ⟨A2, c2, s.l⟩).toArray 90)
          exact (g4.block _ (blk_lt a3) (fun e => by have := own_low r3 _ e.symm; omega)).trans a3
        have bb : Below w.heap.size w w4 := by
          have b1 := HT.out.2.2.2.trans (x1.mono HT.out.2.2.2.size)
          have b2 := b1.grown g2 b1.size (fun j h => by have := lowO1 j h; omega)
          have b3 := b2.alloc b2.size (.cells (spC ⟨A2, c2, s.l⟩).toArray 90)
          exact b3.grown g4 b3.size (fun j h => by have := own_low r3 j h; omega)
        refine ⟨(heap_set_ne w4 _ 0 _ (by omega)).trans hS4.2.1, (heap_set_ne w4 _ 0 _ (by omega)).trans z1, Go.heap_setCell_same _ _ 0 _ _ (.slice A4 (k + 1) c4) hS4.1, bb.setCell (p := ⟨w.heap.size + 2, 0, none⟩) (by show _ ≤ _ + 2; omega) _⟩
      have s5 : Hid (W.heap.size ≤ (w4.setCell ⟨w.heap.size + 2, 0, none⟩ (.slice A4 (k + 1) c4)).heap.size) := by
        show _ ≤ _
        have := g4.size; simp at this gs2 ⊢; omega
      have M5 : Hid ((sq ++ [(⟨A2, c2, s.l⟩ : Sp)]).map (fun x => x.l) = (sp.take (k + 1)).map (fun x => x.l)) := by
        show _ = _
        rw [List.map_append, hmap, HM.out]; rfl
      clear O4 o4 g4 hS4 hS3 hS2 hS1 hS0 hH0 O3 O2 s3 r3 o2 g2 lowO1 O1 x1 sr HO HT HS CS hmap q0 d0
      go_wp2
      go_roundw
      case rel => exact ⟨k + 1, A4, c4, sq ++ [⟨A2, c2, s.l⟩], by omega, by go_num, by simp [hlen], M5.out, O5.out, HP, T5.out, s5.out⟩
      case measure => simp [intOf] <;> omega
    · obtain rfl : k = sp.length := by omega
      have c1 := cell_of_row _ _ 0 _ _ _ hT.2.1
      have z1 := frozen_of_row _ _ 0 _ _ hT.2.1
      have c2 := cell_of_row _ _ 0 _ _ _ hT.2.2.1
      simp at c1 c2
      rw [List.take_length] at hmap
      have HN : Hid (NewX w (sp.map (fun x => x.l)) (.returned (.agg #[.slice P sp.length cp])) (wr.setCell ⟨w.heap.size + 1, 0, none⟩ (.slice P sp.length cp))) := by
        refine ⟨P, cp, sq, by rw [hlen], hmap, (hO.put hT.2.1 (by decide) (by decide) 0 _).weak (by omega), hap.out, hT.2.2.2.setCell (p := ⟨w.heap.size + 1, 0, none⟩) (by show _ ≤ _ + 1; omega) _⟩
      clear hO hT hmap
      go_wp2
      simp [bodyPost, results, Tryz.results72, go_sem, c1]
      exact HN.out
set_option maxRecDepth 100000 in
set_option maxHeartbeats 6400000 in
theorem wheelPut_ap (A : Option Addr) (sp : List Sp) (c : Nat) (p : Pn) (w : World) (hn : sp.length ≤ 1048577) (hl : (allPn sp).length ≤ 1048575) (hA : Whl w A sp) :
    Calls Tryz.prog 57 #[.agg #[.slice A sp.length c], pnA p] w (NewXB w (wheelPutV (sp.map (fun s => s.l)) p)) := by
  have T0 : Three w (((w.alloc (.cells #[.slice A sp.length c] 57)).alloc (.cells #[.int .i64 p.at_, .int .i64 p.id] 95)).alloc (.cells #[.slice none 0 0] 57)) (.cells #[.slice A sp.length c] 57) (.cells #[.int .i64 p.at_, .int .i64 p.id] 95) (.cells #[.slice none 0 0] 57) := Three.make _ _ _ _
  have hs0 : (((w.alloc (.cells #[.slice A sp.length c] 57)).alloc (.cells #[.int .i64 p.at_, .int .i64 p.id] 95)).alloc (.cells #[.slice none 0 0] 57)).heap.size = w.heap.size + 3 := by simp
  have CC := Lib.hid (l9Copy_ap A sp c _ (by omega) (by omega) (hA.below T0.2.2.2))
  have CC2 := Lib.hid (fun u (b : Below w.heap.size w u) => l9Copy_ap A sp c u (by omega) (by omega) (hA.below b))
  have CO := Lib.hid (fun u (b : Below w.heap.size w u) => wheelOk_spec A sp c u (by omega) (by omega) (hA.below b))
  obtain ⟨ls, els⟩ : ∃ ls, sp.map (fun s => s.l) = ls := ⟨_, rfl⟩
  obtain ⟨V, eV⟩ : ∃ V, wheelPutV ls p = V := ⟨_, rfl⟩
  rw [els, eV]
  rw [els] at CC CC2 CO
  have HV := Lib.hid eV
  have HL := Lib.hid els
  have HT := Lib.hid T0
  have HS0 := Lib.hid hs0
  clear eV els T0 hs0
  unfold pnA
  go_enter Tryz.func57, Tryz.ntmps57
  go_wp2_with fail
  refine CC.out.mono ?_
  rintro e u1 ⟨P, cp, sq, rfl, hm1, O1, ap1, x1⟩
  have T : WP w (u1.alloc (.cells #[.slice P sq.length cp] 57)) A c sp p u1.heap.size P cp sq := by
    have ba : Below u1.heap.size u1 (u1.alloc (.cells #[.slice P sq.length cp] 57)) := (Below.refl _ _).alloc (Nat.le_refl _) _
    refine ⟨(HT.out.call x1).call ba, heap_new _ _, ?_⟩
    rw [HS0.out] at O1
    exact O1.alloc _
  have hg6 : w.heap.size + 3 ≤ u1.heap.size := by have := x1.size; rw [HS0.out] at this; exact this
  have HM := Lib.hid hm1
  have HAP := Lib.hid ap1
  clear ap1
  have hsq : Hid (sq.length = sp.length) := by show _ = _; have h1 := congrArg List.length hm1; have h2 := congrArg List.length HL.out; simp at h1 h2; omega
  have hlq : Hid (allPn sq = allPn sp) := by show _ = _; rw [← ls_flat, ← ls_flat, hm1, HL.out]
  clear O1 x1 hm1 CC HT
  have c1 := cell_of_row _ _ 0 _ _ _ T.T.1
  obtain ⟨p0, p1⟩ := Pn.here.blk T.T.2.1
  have c3 := cell_of_row _ _ 0 _ _ _ T.T.2.2.1
  have z3 := frozen_of_row _ _ 0 _ _ T.T.2.2.1
  have c6 := cell_of_row _ _ 0 _ _ _ T.H
  simp at c1 p0 p1 c3 c6
  have C1 := Lib.hid (CO.out _ T.T.2.2.2)
  have TT := Lib.hid T
  obtain ⟨B1, eB⟩ : ∃ B1, wheelB ls = B1 := ⟨_, rfl⟩
  rw [eB] at C1
  have EB := Lib.hid eB
  clear T eB
  go_wp2_with fail
  refine C1.out.mono ?_
  rintro e u2 ⟨rfl, x2⟩
  have T := TT.out.call x2
  have ltg := blk_lt T.H
  clear x2 TT C1 c1 p0 p1 c3 z3 c6
  have c1 := cell_of_row _ _ 0 _ _ _ T.T.1
  obtain ⟨p0, p1⟩ := Pn.here.blk T.T.2.1
  have c3 := cell_of_row _ _ 0 _ _ _ T.T.2.2.1
  have z3 := frozen_of_row _ _ 0 _ _ T.T.2.2.1
  have c6 := cell_of_row _ _ 0 _ _ _ T.H
  simp at c1 p0 p1 c3 c6
  cases B1
  · skip
    have HN : Hid (NewXB w V (.returned (.tuple #[.agg #[.slice P sq.length cp], .bool false])) (u2.setCell ⟨w.heap.size + 2, 0, none⟩ (.slice P sq.length cp))) := by
      have eV : V = (ls, false) := by rw [← HV.out]; unfold wheelPutV; rw [if_neg (fun h => by rw [EB.out] at h; cases h.1)]
      refine ⟨P, cp, sq, by rw [eV], by rw [eV]; exact HM.out, (T.O.put T.T.2.2.1 (by decide) (by decide) 0 _).weak (by omega), HAP.out, T.T.2.2.2.setCell (p := ⟨w.heap.size + 2, 0, none⟩) (by show _ ≤ _ + 2; omega) _⟩
    clear T
    go_wp2
    simp [bodyPost, results, Tryz.results57, go_sem, c3]
    exact HN.out
  by_cases ga : 1 ≤ p.at_
  rotate_left
  · skip
    have HN : Hid (NewXB w V (.returned (.tuple #[.agg #[.slice P sq.length cp], .bool false])) (u2.setCell ⟨w.heap.size + 2, 0, none⟩ (.slice P sq.length cp))) := by
      have eV : V = (ls, false) := by rw [← HV.out]; unfold wheelPutV; rw [if_neg (fun h => ga h.2)]
      refine ⟨P, cp, sq, by rw [eV], by rw [eV]; exact HM.out, (T.O.put T.T.2.2.1 (by decide) (by decide) 0 _).weak (by omega), HAP.out, T.T.2.2.2.setCell (p := ⟨w.heap.size + 2, 0, none⟩) (by show _ ≤ _ + 2; omega) _⟩
    clear T
    go_wp2
    simp [bodyPost, results, Tryz.results57, go_sem, c3]
    exact HN.out
  obtain ⟨k, hk⟩ : ∃ k : Nat, p.at_.tmod 9 = (k : Int) := ⟨(p.at_.tmod 9).toNat, by have := Int.tmod_nonneg 9 (a := p.at_) (by omega); omega⟩
  have hk9 : k < 9 := by have := Int.tmod_lt_of_pos p.at_ (b := 9) (by omega); omega
  have hwr : IntKind.i64.wrap (p.at_.tmod 9) = (k : Int) := by rw [IntKind.wrap_i64]; omega
  have hwr2 : IntKind.i64.wrap (k : Int) = (k : Int) := by rw [IntKind.wrap_i64]; omega
  have HK : Hid ((p.at_.tmod 9).toNat = k) := by show _ = _; rw [hk]; simp
  have W9 := wheelB_iff EB.out
  have hq9 : sq.length = 9 := by have h1 := W9.1; have h2 := congrArg List.length HM.out; simp at h2; omega
  have hkq : k < sq.length := by omega
  have HQ9 := Lib.hid hq9
  clear hq9 W9
  have TT := Lib.hid T
  clear T
  go_wp2_with fail
  have T := TT.out
  obtain ⟨_, _, eP, _, _, hP⟩ := own_form T.O.row
  obtain ⟨g, eg, hg3⟩ := hP (by omega)
  injection eP with eP1 _ eP3
  rw [← eP1] at eg
  subst eg
  clear eP1 eP3
  obtain ⟨b', off', he, hbB, hc⟩ := (own_rws T.O.row).sp hkq
  obtain ⟨rfl, rfl⟩ : g = b' ∧ 0 = off' := by injection he with he; injection he with h1 h2; exact ⟨h1, h2⟩
  have hsm : sq.getD k sp0 ∈ sq := getD_mem sq k sp0 hkq
  have hsl : (sq.getD k sp0).l.length ≤ 1048575 := by have := allPn_at_le sq k hkq; have h2 := hlq.out; rw [h2] at this; omega
  obtain ⟨s, es⟩ : ∃ s, sq.getD k sp0 = s := ⟨_, rfl⟩
  rw [es] at hc hsm hsl
  have hso := (T.O.sp s hsm).ok
  have KH := Lib.hid (fun w' (h : Below u2.heap.size u2 w') => cell_of_row _ _ 0 _ _ _ (blk_call T.H h))
  have KC := Lib.hid (fun w' (h : Below u2.heap.size u2 w') => (h.cell (by exact hbB)).trans hc)
  have KP := Lib.hid (fun w' (h : Below u2.heap.size u2 w') => Pn.here.blk (blk_call T.T.2.1 h))
  have ES := Lib.hid es
  clear es he hc T c1 p0 p1 c3 z3 c6
  refine wp_region_E 11 (fun w' => Hid (Below u2.heap.size u2 w')) (by kernel_rfl) ?_
  have hH0 : Hid (Below u2.heap.size u2 u2.drew) := below_drawn (Below.refl _ _) 1
  refine e_take 0 22 (.pointer (some ⟨u1.heap.size, 0, none⟩)) rfl rfl (by kernel_rfl) (by kernel_rfl) (by kernel_rfl) (by kernel_rfl) (fun _ _ _ h => h) rfl hH0 (fun w _ => exec_fldW _ w) ?_
  refine e_take 1 23 (.slice (some ⟨g, 0, none⟩) sq.length cp) rfl rfl (by kernel_rfl) (by kernel_rfl) (by kernel_rfl) (by kernel_rfl) (fun _ _ _ h => h) rfl hH0 (fun w h => exec_loadSp _ _ 0 _ _ _ w (.inr rfl) (KH.out w h.out)) ?_
  simp only [Act.put, List.setIfInBounds_toArray, List.set_cons_zero, List.set_cons_succ]
  refine e_take 2 24 (.int .i64 (k : Int)) rfl rfl (by kernel_rfl) (by kernel_rfl) (by kernel_rfl) (by kernel_rfl) (fun _ _ _ h => h) rfl hH0 (fun w _ => rfl) ?_
  refine e_take 3 25 (.pointer (some ⟨u1.heap.size, 0, none⟩)) rfl rfl (by kernel_rfl) (by kernel_rfl) (by kernel_rfl) (by kernel_rfl) (fun _ _ _ h => h) rfl hH0 (fun w _ => exec_fldW _ w) ?_
  simp only [Act.put, List.setIfInBounds_toArray, List.set_cons_zero, List.set_cons_succ]
  refine e_take 4 26 (.slice (some ⟨g, 0, none⟩) sq.length cp) rfl rfl (by kernel_rfl) (by kernel_rfl) (by kernel_rfl) (by kernel_rfl) (fun _ _ _ h => h) rfl hH0 (fun w h => exec_loadSp _ _ 0 _ _ _ w (.inr rfl) (KH.out w h.out)) ?_
  refine e_take 5 27 (.int .i64 (k : Int)) rfl rfl (by kernel_rfl) (by kernel_rfl) (by kernel_rfl) (by kernel_rfl) (fun _ _ _ h => h) rfl hH0 (fun w _ => rfl) ?_
  simp only [Act.put, List.setIfInBounds_toArray, List.set_cons_zero, List.set_cons_succ]
  refine e_take 6 28 (.pointer (some ⟨g, 0 + k, none⟩)) rfl rfl (by kernel_rfl) (by kernel_rfl) (by kernel_rfl) (by kernel_rfl) (fun _ _ _ h => h) rfl hH0 (fun w _ => exec_idxSp g 0 sq.length cp k w hkq) ?_
  refine e_take 7 29 (.slice s.a s.l.length s.c) rfl rfl (by kernel_rfl) (by kernel_rfl) (by kernel_rfl) (by kernel_rfl) (fun _ _ _ h => h) rfl hH0 (fun w h => exec_loadSp _ g (0 + k) _ _ _ w (.inl rfl) (KC.out w h.out)) ?_
  simp only [Act.put, List.setIfInBounds_toArray, List.set_cons_zero, List.set_cons_succ]
  refine e_take 8 30 (pnA p) rfl rfl (by kernel_rfl) (by kernel_rfl) (by kernel_rfl) (by kernel_rfl) (fun _ _ _ h => h) rfl hH0 (fun w h => exec_load_pn _ 0 p w (KP.out w h.out)) ?_
  simp only [Act.put, List.setIfInBounds_toArray, List.set_cons_zero, List.set_cons_succ]
  have hs1 := hso.below hH0.out
  refine e_call 9 31 71 #[.slice s.a s.l.length s.c, pnA p] rfl rfl (by kernel_rfl) rfl (exec_call Tryz.func71 (by kernel_rfl) (by kernel_rfl) _) ?_
  refine (l9Put_spec s.a s.l s.c p u2.drew (by omega) hs1.cap hs1.nil hs1.row).mono ?_
  rintro e u3 ⟨P2, cp2, rfl, o3, x3⟩
  have k3 := hH0.out.trans (x3.mono hH0.out.size)
  refine ⟨_, rfl, (fun _ => Lib.hid k3), ?_⟩
  simp only [Act.put, List.setIfInBounds_toArray, List.set_cons_zero, List.set_cons_succ]
  refine e_op 10 32 (.pointer (some ⟨g, 0 + k, none⟩)) rfl rfl (by kernel_rfl) rfl (exec_idxSp g 0 sq.length cp k u3 hkq) (fun _ => Lib.hid k3) ?_
  simp only [Act.put, List.setIfInBounds_toArray, List.set_cons_zero, List.set_cons_succ]
  have T := TT.out.call k3
  have hfz := T.O.row.frozenAt (0 + k)
  refine e_store 11 rfl rfl (by kernel_rfl) rfl (exec_storeSp _ g (0 + k) P2 (pnPut s.l p).length cp2 _ u3 (.inl rfl) (KC.out _ k3) hfz) (fun h => absurd rfl h) ?_
  refine e_done (by kernel_rfl) ?_ _
  obtain ⟨U, eU⟩ : ∃ U, u3.setCell ⟨g, 0 + k, none⟩ (.slice P2 (pnPut s.l p).length cp2) = U := ⟨_, rfl⟩
  have hU : ∀ j, j ≠ g → U.heap[j]? = u3.heap[j]? := fun j hj => by rw [← eU]; exact heap_set_ne u3 g _ _ hj
  obtain ⟨curg, hcg⟩ := own_typed2 T.O.row g rfl
  have st := T.O.row.stored (0 + k) (.slice P2 (pnPut s.l p).length cp2)
  rw [eU] at st
  have T2 : WP w U A c sp p u1.heap.size (some ⟨g, 0, none⟩) cp (sq.set k ⟨P2, cp2, pnPut s.l p⟩) := by
    have n0 : w.heap.size ≠ g := by omega
    have n1 : w.heap.size + 1 ≠ g := by omega
    have n2 : w.heap.size + 2 ≠ g := by omega
    have n6 : u1.heap.size ≠ g := fun h => by
      have := T.H
      rw [h, hcg] at this
      injection this with this
      injection this with _ h2
      revert h2
      decide
    refine ⟨⟨(hU _ n0).trans T.T.1, (hU _ n1).trans T.T.2.1, (hU _ n2).trans T.T.2.2.1, ?_⟩, ?_, ⟨?_, ?_⟩⟩
    · rw [← eU]; exact T.T.2.2.2.setCell (p := ⟨g, 0 + k, none⟩) (by show _ ≤ g; omega) _
    · rw [List.length_set]; exact (hU _ n6).trans T.H
    · have := st.1
      rw [Nat.zero_add] at this
      rw [List.length_set, ← flat_set sq k ⟨P2, cp2, pnPut s.l p⟩]
      exact this
    · intro t ht
      have kt : Sp.own u3 (w.heap.size + 3) t := by
        rcases List.mem_or_eq_of_mem_set ht with h | h
        · exact T.O.sp t h
        · subst h; exact own_weak o3 (Nat.le_trans hg6 (Nat.le_trans (Nat.le_of_lt ltg) hH0.out.size))
      rw [← eU]
      exact kt.kept (Go.Lib.grownBy_setCell u3 g (0 + k) _) (.inr (own_ne_type kt hcg (by decide)))
  have HM2 : Hid ((sq.set k ⟨P2, cp2, pnPut s.l p⟩).map (fun x => x.l) = ls.set k (pnPut (ls.getD k []) p)) := by
    show _ = _
    rw [List.map_set, HM.out]
    congr 2
    have := ls_at sq k
    rw [ES.out] at this
    have h2 : (sq.map fun s => s.l) = ls := HM.out
    rw [h2] at this
    rw [this]
  rw [eU]
  have HAP2 : Hid (ApartW (sq.set k ⟨P2, cp2, pnPut s.l p⟩)) := ApartW.set HAP.out k _ (fun t ht q h1 h2 => by
    have l1 := (World.ownsRow.lt (TT.out.O.sp t ht) q (by rw [ownBlock_eq]; exact h1)).2
    have l2 := (World.ownsRow.lt o3 q (by rw [ownBlock_eq]; exact h2)).1
    have l3 := hH0.out.size
    omega)
  obtain ⟨sq2, es2⟩ : ∃ sq2, sq.set k ⟨P2, cp2, pnPut s.l p⟩ = sq2 := ⟨_, rfl⟩
  have hl2 : (allPn sq2).length ≤ 2097152 := by
    have h1 := allPn_set sq k ⟨P2, cp2, pnPut s.l p⟩ hkq
    have h2 := pnPut_len s.l p
    rw [hlq.out] at h1
    rw [es2] at h1
    have h3 : (Sp.mk P2 cp2 (pnPut s.l p)).l.length = (pnPut s.l p).length := rfl
    omega
  have hn2 : sq2.length = sq.length := by rw [← es2, List.length_set]
  rw [es2] at T2 HM2 HAP2
  have HN2 := Lib.hid hn2
  have T2 : WP w U A c sp p u1.heap.size (some ⟨g, 0, none⟩) cp sq2 := T2
  have CU := wheelOk_spec (some ⟨g, 0, none⟩) sq2 cp U (by have := hsq.out; omega) hl2 T2.O.whl
  have eL : sq2.map (fun s => s.l) = ls.set k (pnPut (ls.getD k []) p) := HM2.out
  rw [eL] at CU
  obtain ⟨B2, eB2⟩ : ∃ B2, wheelB (ls.set k (pnPut (ls.getD k []) p)) = B2 := ⟨_, rfl⟩
  rw [eB2] at CU
  have EB2 := Lib.hid eB2
  have HEL := Lib.hid eL
  have C2 := Lib.hid CU
  have TT2 := Lib.hid T2
  have b2s : Hid (sq2.length = sq.length) := hn2
  clear T eU hU st hcg T2 HM2 eL CU eB2 es2 hn2 hl2 o3 x3 k3 hfz hs1 hH0 KH KC KP hso hsm TT
  have T := TT2.out
  have c1 := cell_of_row _ _ 0 _ _ _ T.T.1
  obtain ⟨p0, p1⟩ := Pn.here.blk T.T.2.1
  have c3 := cell_of_row _ _ 0 _ _ _ T.T.2.2.1
  have z3 := frozen_of_row _ _ 0 _ _ T.T.2.2.1
  have c6 := cell_of_row _ _ 0 _ _ _ T.H
  simp at c1 p0 p1 c3 c6
  clear T
  rw [show sq.length = sq2.length from HN2.out.symm] at *
  go_wp2_with fail
  refine C2.out.mono ?_
  rintro e u5 ⟨rfl, x5⟩
  have T := TT2.out.call x5
  clear x5 TT2 C2 c1 p0 p1 c3 z3 c6
  have c1 := cell_of_row _ _ 0 _ _ _ T.T.1
  obtain ⟨p0, p1⟩ := Pn.here.blk T.T.2.1
  have c3 := cell_of_row _ _ 0 _ _ _ T.T.2.2.1
  have z3 := frozen_of_row _ _ 0 _ _ T.T.2.2.1
  have c6 := cell_of_row _ _ 0 _ _ _ T.H
  simp at c1 p0 p1 c3 c6
  cases B2
  rotate_left
  · have HN : Hid (NewXB w V (.returned (.tuple #[.agg #[.slice (some ⟨g, 0, none⟩) sq2.length cp], .bool true])) (u5.setCell ⟨w.heap.size + 2, 0, none⟩ (.slice (some ⟨g, 0, none⟩) sq2.length cp))) := by
      have eV : V = (ls.set k (pnPut (ls.getD k []) p), true) := by rw [← HV.out]; unfold wheelPutV; rw [if_pos ⟨EB.out, ga⟩, HK.out, if_pos EB2.out]
      refine ⟨_, cp, sq2, by rw [eV], by rw [eV]; exact HEL.out, (T.O.put T.T.2.2.1 (by decide) (by decide) 0 _).weak (by omega), HAP2.out, T.T.2.2.2.setCell (p := ⟨w.heap.size + 2, 0, none⟩) (by show _ ≤ _ + 2; omega) _⟩
    clear T
    go_wp2
    simp [bodyPost, results, Tryz.results57, go_sem, c3]
    exact HN.out
  · have C7 := Lib.hid (CC2.out u5 T.T.2.2.2)
    have TT := Lib.hid T
    clear T
    go_wp2_with fail
    refine C7.out.mono ?_
    rintro e u7 ⟨P7, cp7, sq7, rfl, hm7, O7, ap7, x7⟩
    have T := TT.out.call x7
    have ws : w.heap.size ≤ u5.heap.size := TT.out.T.2.2.2.size
    have HN : Hid (NewXB w V (.returned (.tuple #[.agg #[.slice P7 sq7.length cp7], .bool false])) (u7.setCell ⟨w.heap.size + 2, 0, none⟩ (.slice P7 sq7.length cp7))) := by
      have eV : V = (ls, false) := by rw [← HV.out]; unfold wheelPutV; rw [if_pos ⟨EB.out, ga⟩, HK.out, if_neg (by rw [EB2.out]; intro h; cases h)]
      refine ⟨P7, cp7, sq7, by rw [eV], by rw [eV]; exact hm7, ((O7.weak ws).put T.T.2.2.1 (by decide) (by decide) 0 _), ap7, T.T.2.2.2.setCell (p := ⟨w.heap.size + 2, 0, none⟩) (by show _ ≤ _ + 2; omega) _⟩
    clear c1 p0 p1 c3 z3 c6 TT C7
    have c3 := cell_of_row _ _ 0 _ _ _ T.T.2.2.1
    have z3 := frozen_of_row _ _ 0 _ _ T.T.2.2.1
    simp at c3
    clear T O7 x7 hm7
    go_wp2
    simp [bodyPost, results, Tryz.results57, go_sem, c3]
    exact HN.out
theorem putV_len (ls : List (List Pn)) (p : Pn) : (wheelPutV ls p).1.length = ls.length := by
  unfold wheelPutV
  split
  · split
    · simp
    · rfl
  · rfl
theorem putV_ten {ls : List (List Pn)} {p : Pn} {n : Nat} (h : ls.flatten.length ≤ n) (hn : 10 ≤ n) : (wheelPutV ls p).1.flatten.length ≤ n := by
  unfold wheelPutV
  split
  · split
    · rename_i h2; exact Nat.le_trans (wheelB_iff h2).2.1 hn
    · exact h
  · exact h
/-- A wheel that was drawn. -/
def GotWh (w : World) (g : Nat) (A : Option Addr) (l : List Nat) (c : Nat) (e : Ending) (w' : World) : Prop :=
  ∃ B d sq, e = .returned (.agg #[.slice B sq.length d]) ∧ sq.length ≤ 10 ∧ (allPn sq).length ≤ 30 ∧ FitL (sq.map (fun s => s.l)) ∧ OwnW w' w.heap.size B d sq ∧ Cur w' g A l c ∧ w.grownBy w' (some g)
/-- A right wheel that was drawn: its spokes lie apart. -/
def GotWr (w : World) (g : Nat) (A : Option Addr) (l : List Nat) (c : Nat) (e : Ending) (w' : World) : Prop :=
  ∃ B d sq, e = .returned (.agg #[.slice B sq.length d]) ∧ sq.length = 9 ∧ (allPn sq).length ≤ 10 ∧ FitL (sq.map (fun s => s.l)) ∧ OwnW w' w.heap.size B d sq ∧ ApartW sq ∧ Cur w' g A l c ∧ w.grownBy w' (some g)
/-- What stands in a round of l9Right. -/
structure RW (w u : World) (g : Nat) (A : Option Addr) (l : List Nat) (c g3 : Nat) (Q : Option Addr) (qc : Nat) (sq : List Sp) : Prop where
  O : OwnW u (w.heap.size + 1) Q qc sq
  H : u.heap[g3]? = some (.cells #[.slice Q sq.length qc] 57)
  Z : u.heap[w.heap.size]? = some (.cells #[.slice none 0 0] 57)
  C : Cur u g A l c
  G : w.grownBy u (some g)
  F : FitL (sq.map (fun s => s.l))
  n9 : sq.length = 9
  n10 : (allPn sq).length ≤ 10
  ap : ApartW sq
  g1 : w.heap.size < g3
  g0 : g < w.heap.size
theorem RW.call {w u u' : World} {g : Nat} {A : Option Addr} {l : List Nat} {c g3 : Nat} {Q : Option Addr} {qc : Nat} {sq : List Sp} (h : RW w u g A l c g3 Q qc sq) (b : Below u.heap.size u u') : RW w u' g A l c g3 Q qc sq :=
  ⟨h.O.below b, blk_call h.H b, blk_call h.Z b, h.C.mem b, grown_below h.G b, h.F, h.n9, h.n10, h.ap, h.g1, h.g0⟩
theorem RW.draw {w u u' : World} {g : Nat} {A : Option Addr} {l : List Nat} {c g3 : Nat} {Q : Option Addr} {qc : Nat} {sq : List Sp} (h : RW w u g A l c g3 Q qc sq) (b : u.grownBy u' (some g)) (hc : Cur u' g A l c) : RW w u' g A l c g3 Q qc sq := by
  have h0 := h.g0
  have h1 := h.g1
  have t : Tch (fun i => i = g) u u' := Tch.of_grown b (fun i hi => by injection hi with hi; exact hi.symm)
  exact ⟨t.wheel h.O (fun q hq hp => by have := h.O.lo q hq; omega), t.blk h.H (by omega), t.blk h.Z (by omega), hc, h.G.trans b, h.F, h.n9, h.n10, h.ap, h.g1, h.g0⟩
theorem RW.row {w u u' : World} {g : Nat} {A : Option Addr} {l : List Nat} {c g3 : Nat} {Q : Option Addr} {qc : Nat} {sq : List Sp} {row : Option Nat} {B : Nat} (h : RW w u g A l c g3 Q qc sq) (b : u.grownBy u' row) (hr : ∀ j, row = some j → B ≤ j) (hB : g3 < B) (hq : ∀ q, InW Q sq q → q < B) : RW w u' g A l c g3 Q qc sq := by
  have h0 := h.g0
  have h1 := h.g1
  have t : Tch (fun i => B ≤ i) u u' := Tch.of_grown b (fun i hi => hr i hi)
  exact ⟨t.wheel h.O (fun q hx hp => by have := hq q hx; omega), t.blk h.H (by omega), t.blk h.Z (by omega), h.C.grown b (fun j hj => by have := hr j hj; omega), grown_step h.G b (fun j hj => by have := hr j hj; omega), h.F, h.n9, h.n10, h.ap, h.g1, h.g0⟩
set_option maxRecDepth 100000 in
set_option maxHeartbeats 3200000 in
theorem l9Right_any (A : Option Addr) (l : List Nat) (c g : Nat) (w : World) (hl : l.length ≤ 2097152) (hb : AllB l) (hcw : Cur w g A l c) :
    Calls Tryz.prog 64 #[.pointer (some ⟨g, 0, none⟩)] w (GotWr w g A l c) := by
  have hlt := hcw.lt
  have C0 := Lib.hid (wheelNew_ap (w.alloc (.cells #[.slice none 0 0] 57)))
  have HZ0 := Lib.hid (heap_new w (.cells #[.slice none 0 0] 57))
  have HC0 := Lib.hid (hcw.alloc (.cells #[.slice none 0 0] 57))
  have HG0 := Lib.hid (grown_made w (.cells #[.slice none 0 0] 57) g)
  go_enter Tryz.func64, Tryz.ntmps64
  go_wp2_with fail
  refine C0.out.mono ?_
  rintro e u1 ⟨Q, qc, sq, rfl, hm, hO, apq, x1⟩
  have hz1 := x1.size
  simp only [World.size_alloc] at hO hz1
  obtain ⟨U, hU⟩ : ∃ U, u1.alloc (.cells #[.slice Q sq.length qc] 57) = U := ⟨_, rfl⟩
  have T0 : RW w U g A l c u1.heap.size Q qc sq := by
    have ba : Below u1.heap.size u1 U := by rw [← hU]; exact (Below.refl _ _).alloc (Nat.le_refl _) _
    have hm' : (sq.map fun s => s.l) = nineW := hm
    refine ⟨by rw [← hU]; exact hO.alloc _, by rw [← hU]; exact heap_new _ _, blk_call (blk_call HZ0.out x1) ba, (HC0.out.mem x1).mem ba, grown_below (grown_below HG0.out x1) ba, ?_, ?_, ?_, apq, by omega, hlt⟩
    · rw [hm']; intro l hl x hx; have := List.eq_of_mem_replicate hl; subst this; cases hx
    · have := congrArg List.length hm'; simpa [nineW] using this
    · rw [← ls_flat, hm']; simp [nineW]
  have hUs : u1.heap.size < U.heap.size := by rw [← hU]; simp
  have HI : Hid (∀ q, InW Q sq q → q < U.heap.size) := fun q hq => (T0.O.lo q hq).2
  have HT := Lib.hid T0
  have HU := Lib.hid hU
  clear C0 HZ0 HC0 HG0 hm hO x1 T0 hU
  go_wp2_with fail
  rw [HU.out]
  refine (l9Pins_any A l c g _ hl hb HT.out.C).mono ?_
  rintro e u2 ⟨el, v, hel, hef, rfl, o2, c2, g2⟩
  have T2 := Lib.hid (HT.out.draw g2 c2)
  have lt2 := g2.size
  have hgU : g < U.heap.size := by omega
  have O2 := Lib.hid o2
  clear o2 g2 HT HU c2
  go_wp2_with fail
  refine (l1Once_any A l c g 10 _ hl hb (by omega) (by omega) T2.out.C).mono ?_
  rintro e u3 ⟨d, rfl, c3, g3⟩
  have T3 := Lib.hid (T2.out.draw g3 c3)
  have O3 := Lib.hid (own_cur O2.out g3 hgU)
  have lt3 := g3.size
  clear T2 O2 g3 c3
  go_upto_if 11 with fail
  go_cut [4] from 5 to 23 (fun s4 wx => ∃ el' : List Pn, el'.length ≤ 17 ∧ Hid (∀ f ∈ el', f.fits) ∧ Hid (wx.ownsRow U.heap.size 95 2 s4 el'.length (el'.flatMap pnC)) ∧ Hid (RW w wx g A l c u1.heap.size Q qc sq))
  case first =>
    cases d
    · go_wp2_with fail
      go_meet
      exact ⟨el, by omega, hef, O3, T3⟩
    · go_wp2
      go_loopw [4, 5] (fun s4 i wr => ∃ (k : Nat) (el' : List Pn), k ≤ 10 ∧ i = .int .i64 k ∧ Hid (el'.length = el.length + k) ∧ Hid (∀ f ∈ el', f.fits) ∧ Hid (wr.ownsRow U.heap.size 95 2 s4 el'.length (el'.flatMap pnC)) ∧ Hid (RW w wr g A l c u1.heap.size Q qc sq) ∧ U.heap.size ≤ wr.heap.size) (fun _ i _ => 10 - (intOf i).toNat)
      case atStart => exact ⟨0, el, by omega, rfl, rfl, hef, O3, T3, by omega⟩
      case round =>
        clear T3 O3
        obtain ⟨k, el', hk, rfl, hkl, hef', ho, hT, hz⟩ := hrel
        obtain ⟨OA, oc, rfl, _⟩ := own_form ho.out
        by_cases hk2 : k < 10
        · have O1 := Lib.hid (ho.out.alloc (.cells #[.int .i64 (3 + (k : Int)), .int .i64 (100 + (k : Int))] 95))
          have RN : Hid (Rws (wr.alloc (.cells #[.int .i64 (3 + (k : Int)), .int .i64 (100 + (k : Int))] 95)) (wr.heap.size + 1) (some ⟨wr.heap.size, 0, none⟩) (pnC ⟨3 + (k : Int), 100 + (k : Int)⟩)) := Rws.new wr (pnC ⟨3 + (k : Int), 100 + (k : Int)⟩) 95
          have T1 : Hid (RW w (wr.alloc (.cells #[.int .i64 (3 + (k : Int)), .int .i64 (100 + (k : Int))] 95)) g A l c u1.heap.size Q qc sq) := hT.out.call ((Below.refl _ _).alloc (Nat.le_refl _) _)
          go_wp2_with (at_builtin; refine wpList_appR rowPin _ rfl (.tmp 16) (.tmp 22) rfl U.heap.size _ el'.length (el'.flatMap pnC) rfl O1.out _ (some ⟨wr.heap.size, 0, none⟩) 1 1 (pnC ⟨3 + (k : Int), 100 + (k : Int)⟩) rfl rfl RN.out (by simp) (by intro u hu; simp [pnC] at hu; rcases hu with rfl | rfl <;> rfl) (by have := hkl.out; omega) (by simp; omega) ?_)
          intro v2 w2 o2 gg2
          have hs2 := gg2.size
          simp only [World.size_alloc] at hs2
          have T2 := Lib.hid (T1.out.row gg2 (own_low O1.out) (by omega) HI.out)
          have O2 : Hid (w2.ownsRow U.heap.size 95 2 v2 (el' ++ [(⟨3 + (k : Int), 100 + (k : Int)⟩ : Pn)]).length ((el' ++ [(⟨3 + (k : Int), 100 + (k : Int)⟩ : Pn)]).flatMap pnC)) := by
            show World.ownsRow _ _ _ _ _ _ _
            rw [List.length_append, List.flatMap_append]
            have e : [(⟨3 + (k : Int), 100 + (k : Int)⟩ : Pn)].flatMap pnC = pnC ⟨3 + (k : Int), 100 + (k : Int)⟩ := by simp
            rw [e]; exact o2
          have F2 : Hid (∀ f ∈ el' ++ [(⟨3 + (k : Int), 100 + (k : Int)⟩ : Pn)], f.fits) := fun f hf => by
            rcases List.mem_append.1 hf with h | h
            · exact hef'.out f h
            · have : f = ⟨3 + (k : Int), 100 + (k : Int)⟩ := by simpa using h
              rw [this]; unfold Pn.fits inI; simp; omega
          clear o2 gg2 O1 RN T1 hT ho
          go_wp2
          go_roundw
          case rel => exact ⟨k + 1, _, by omega, by go_num, (by show _ = _; have := hkl.out; rw [List.length_append, this]; simp; omega), F2, O2, T2, by omega⟩
          case measure => simp [intOf]; omega
        · have hkl2 : el'.length ≤ 17 := by have := hkl.out; omega
          go_wp2_with fail
          go_meet
          exact ⟨el', hkl2, hef', ho, hT⟩
  case rest =>
    clear O3 T3 hef hel
    obtain ⟨el', hel, hef, ho, hT⟩ := hcut
    obtain ⟨OA, oc, rfl, _⟩ := own_form ho.out
    go_wp2
    go_loopw [6] (fun i wr => ∃ (k : Nat) (Q : Option Addr) (qc : Nat) (sq : List Sp), k ≤ el'.length ∧ i = .int .i64 k ∧ Hid (wr.ownsRow U.heap.size 95 2 (.slice OA el'.length oc) el'.length (el'.flatMap pnC)) ∧ Hid (RW w wr g A l c u1.heap.size Q qc sq)) (fun i _ => el'.length - (intOf i).toNat)
    case atStart => exact ⟨0, Q, qc, sq, by omega, rfl, ho, hT⟩
    case round =>
      clear ho hT HI
      obtain ⟨k, Q, qc, sq, hk, rfl, ho, hT⟩ := hrel
      have q3 := cell_of_one hT.out.H
      have f3 := free_of_one hT.out.H
      have q2 := cell_of_one hT.out.Z
      have f2 := free_of_one hT.out.Z
      have hg1 := hT.out.g1
      have lt3 := blk_lt hT.out.H
      by_cases hlt2 : k < el'.length
      rotate_left
      · have R : Hid (GotWr w g A l c (.returned (.agg #[.slice Q sq.length qc])) (wr.setCell ⟨w.heap.size, 0, none⟩ (.slice Q sq.length qc))) :=
          ⟨Q, qc, sq, rfl, hT.out.n9, hT.out.n10, hT.out.F, (hT.out.O.put hT.out.Z (by decide) (by decide) 0 _).weak (by omega), hT.out.ap, hT.out.C.setCell _ 0 _ hlt, grown_setD hT.out.G _ 0 _ (Nat.le_refl _)⟩
        clear hT ho
        go_wp2
        simp [bodyPost, results, Tryz.results64, go_sem, q2]
        exact R.out
      obtain ⟨b, off, rfl, hbB, hc⟩ := (own_rws ho.out).pn hlt2
      have hxf : (el'.getD k pn0).fits := hef.out _ (getD_mem el' k pn0 hlt2)
      generalize el'.getD k pn0 = x at *
      have CW := Lib.hid (fun w' (h : Below wr.heap.size wr w') => wheelPut_ap Q sq qc x w' (by have := hT.out.n9; omega) (by have := hT.out.n10; omega) ((hT.out.call h).O.whl))
      have HF1 := Lib.hid (putV_fits hT.out.F hxf)
      have HF2 : Hid ((wheelPutV (sq.map (fun s => s.l)) x).1.length = 9) := by show _ = _; rw [putV_len]; simp; exact hT.out.n9
      have HF3 : Hid ((wheelPutV (sq.map (fun s => s.l)) x).1.flatten.length ≤ 10) := putV_ten (by rw [ls_flat]; exact hT.out.n10) (Nat.le_refl _)
      generalize wheelPutV (sq.map (fun s => s.l)) x = R at *
      have KX := Lib.hid (fun w' (h : Below wr.heap.size wr w') => Pn.here.below hc h hbB)
      have K3 := Lib.hid (fun w' (h : Below wr.heap.size wr w') => (h.cell (by exact lt3)).trans q3)
      clear hc q2 q3 f2 f3
      go_wp2_with fail
      refine wp_region_F 9 (fun w' => Hid (Below wr.heap.size wr w')) (by kernel_rfl) ?_
      have hH0 : Hid (Below wr.heap.size wr wr.drew) := below_drawn (Below.refl _ _) 1
      refine f_take 0 31 (.agg #[.slice Q sq.length qc]) rfl rfl (by kernel_rfl) (by kernel_rfl) (by kernel_rfl) (by kernel_rfl) (fun _ _ _ h => h) rfl hH0 (fun w h => exec_loadWh _ _ _ _ w (K3.out w h.out)) ?_
      refine f_take 1 32 (.slice (some ⟨b, off, none⟩) el'.length oc) rfl rfl (by kernel_rfl) (by kernel_rfl) (by kernel_rfl) (by kernel_rfl) (fun _ _ _ h => h) rfl hH0 (fun w _ => rfl) ?_
      simp only [Act.put, List.setIfInBounds_toArray, List.set_cons_zero, List.set_cons_succ]
      refine f_take 2 33 (.int .i64 (k : Int)) rfl rfl (by kernel_rfl) (by kernel_rfl) (by kernel_rfl) (by kernel_rfl) (fun _ _ _ h => h) rfl hH0 (fun w _ => rfl) ?_
      refine f_take 3 34 (.pointer (some ⟨b, off + k * 2, none⟩)) rfl rfl (by kernel_rfl) (by kernel_rfl) (by kernel_rfl) (by kernel_rfl) (fun _ _ _ h => h) rfl hH0 (fun w _ => exec_idx_pn b off el'.length oc k w hlt2) ?_
      simp only [Act.put, List.setIfInBounds_toArray, List.set_cons_zero, List.set_cons_succ]
      refine f_take 4 35 (pnA x) rfl rfl (by kernel_rfl) (by kernel_rfl) (by kernel_rfl) (by kernel_rfl) (fun _ _ _ h => h) rfl hH0 (fun w h => exec_load_pn b (off + k * 2) x w (KX.out w h.out)) ?_
      simp only [Act.put, List.setIfInBounds_toArray, List.set_cons_zero, List.set_cons_succ]
      refine f_call 5 36 57 #[.agg #[.slice Q sq.length qc], pnA x] rfl rfl (by kernel_rfl) rfl (exec_call Tryz.func57 (by kernel_rfl) (by kernel_rfl) _) ?_
      refine (CW.out _ hH0.out).mono ?_
      rintro e u5 ⟨N, nc, sn, rfl, hmn, on, apn, x5⟩
      have k5 := hH0.out.trans (x5.mono hH0.out.size)
      refine ⟨_, rfl, (fun _ _ => Lib.hid k5), ?_⟩
      simp only [Act.put, List.setIfInBounds_toArray, List.set_cons_zero, List.set_cons_succ]
      have hH5 := Lib.hid k5
      refine f_op 6 30 (.tuple #[.agg #[.slice N sn.length nc], .bool R.2]) rfl rfl (by kernel_rfl) rfl rfl (fun _ _ => hH5) ?_
      simp only [Act.put, List.setIfInBounds_toArray, List.set_cons_zero, List.set_cons_succ]
      refine f_take 7 37 (.agg #[.slice N sn.length nc]) rfl rfl (by kernel_rfl) (by kernel_rfl) (by kernel_rfl) (by kernel_rfl) (fun _ _ _ h => h) rfl hH5 (fun w _ => rfl) ?_
      simp only [Act.put, List.setIfInBounds_toArray, List.set_cons_zero, List.set_cons_succ]
      have T5 := hT.out.call k5
      have cz := cell_of_one T5.H
      have fz := free_of_one T5.H
      have hsz := T5.G.size
      have hws : w.heap.size + 1 ≤ wr.drew.heap.size := by have h1 := hT.out.g1; have h2 := hH0.out.size; omega
      have on := on.weak hws
      have hmn' : sn.map (fun s => s.l) = R.1 := hmn
      have T6 : Hid (RW w (u5.setCell ⟨u1.heap.size, 0, none⟩ (.slice N sn.length nc)) g A l c u1.heap.size N nc sn) := by
        have hs := heap_setCell_same u5 u1.heap.size 0 _ _ (.slice N sn.length nc) T5.H
        refine ⟨on.put T5.H (by decide) (by decide) 0 _, by simpa using hs, (heap_set_ne u5 u1.heap.size _ _ (by omega)).trans T5.Z, T5.C.setCell _ 0 _ (by omega), grown_setD T5.G _ 0 _ (by omega), by rw [hmn']; exact HF1.out, ?_, ?_, apn, hg1, hlt⟩
        · have := congrArg List.length hmn'; have h2 := HF2.out; simp at this; omega
        · rw [← ls_flat, hmn']; exact HF3.out
      have O6 : Hid ((u5.setCell ⟨u1.heap.size, 0, none⟩ (.slice N sn.length nc)).ownsRow U.heap.size 95 2 (.slice (some ⟨b, off, none⟩) el'.length oc) el'.length (el'.flatMap pnC)) := by
        have h1 := own_below ho.out k5
        exact h1.kept (Go.Lib.grownBy_setCell u5 u1.heap.size 0 _) (.inr (own_ne_type h1 T5.H (by decide)))
      refine f_ready2 8 9 (by kernel_rfl) (f_opw 8 38 (.bool R.2) rfl rfl rfl rfl ⟨(fun _ _ => hH5), ?_⟩) (f_storew 9 rfl rfl rfl (exec_storeWh _ N sn.length nc _ _ cz fz) ⟨(fun h => absurd rfl h), ?_⟩)
      · simp only [Act.put, List.setIfInBounds_toArray, List.set_cons_zero, List.set_cons_succ]
        refine f_store 9 rfl rfl (by kernel_rfl) rfl (exec_storeWh _ N sn.length nc _ _ cz fz) (fun h => absurd rfl h) ?_
        refine f_done (by kernel_rfl) ?_ _
        clear T5 cz fz on apn hmn hmn' k5 hH5 hH0 x5 ho hT CW K3 KX HF1 HF2 HF3
        go_wp2
        go_roundw
        case rel => exact ⟨k + 1, N, nc, sn, by omega, by go_num, O6, T6⟩
        case measure => simp [intOf]; omega
      · refine f_op 8 38 (.bool R.2) rfl rfl (by kernel_rfl) rfl rfl (fun _ h => absurd h (by simp)) ?_
        simp only [Act.put, List.setIfInBounds_toArray, List.set_cons_zero, List.set_cons_succ]
        refine f_done (by kernel_rfl) ?_ _
        clear T5 cz fz on apn hmn hmn' k5 hH5 hH0 x5 ho hT CW K3 KX HF1 HF2 HF3
        go_wp2
        go_roundw
        case rel => exact ⟨k + 1, N, nc, sn, by omega, by go_num, O6, T6⟩
        case measure => simp [intOf]; omega
theorem own_take {w : World} {B e n c k : Nat} {A : Option Addr} {cs : List Value} (h : w.ownsRow B e 1 (.slice A n c) n cs) (hk : k ≤ n) (hn : A = none → False) : w.ownsRow B e 1 (.slice A k c) k (cs.take k) := by
  rcases h.2 with ⟨hv, _⟩ | ⟨g, cap, cur, hv, hb, hg, hnc, hm, hs, ht⟩
  · injection hv with h1 _ _
    exact absurd h1 hn
  · injection hv with h1 _ h3
    subst h1 h3
    refine ⟨by have := h.1; rw [List.length_take]; omega, .inr ⟨g, c, cur, rfl, hb, hg, by omega, hm, hs, ?_⟩⟩
    rw [← ht, List.take_take]
    congr 1; omega
set_option maxRecDepth 100000 in
theorem exec_one_pn {ρ : Operand → Value} {o : Oper} {y : Operand} (x : Pn) (w : World) (ho : o.op = .buildSlice 90 1 #[(0, y)] := by rfl) (hy : ρ y = pnA x := by rfl) :
    (execOp ρ o).run Tryz.prog w = .ok (.value (.slice (some ⟨w.heap.size, 0, none⟩) 1 1)) (w.alloc (.cells (pnC x).toArray 95)) := by
  unfold execOp
  rw [ho]
  simp [go_sem, hy, pnA, pnC]
theorem spC_take (sq : List Sp) (k : Nat) : (sq.flatMap spC).take k = (sq.take k).flatMap spC := by have := flat_take spC 1 spC_len sq k; rw [Nat.mul_one] at this; exact this.symm
/-- The end of l9Draw. -/
theorem wheel_got {w u : World} {g : Nat} {A : Option Addr} {l : List Nat} {c : Nat} {Q : Option Addr} {qc : Nat} {sq : List Sp} (hO : OwnW u (w.heap.size + 1) Q qc sq) (hZ : u.heap[w.heap.size]? = some (.cells #[.slice none 0 0] 57)) (hC : Cur u g A l c) (hG : w.grownBy u (some g)) (hF : FitL (sq.map (fun s => s.l))) (hn : sq.length ≤ 10) (h30 : (allPn sq).length ≤ 30) (hlt : g < w.heap.size) :
    GotWh w g A l c (.returned (.agg #[.slice Q sq.length qc])) (u.setCell ⟨w.heap.size, 0, none⟩ (.slice Q sq.length qc)) :=
  ⟨Q, qc, sq, rfl, hn, h30, hF, (hO.put hZ (by decide) (by decide) 0 _).weak (by omega), hC.setCell _ 0 _ hlt, grown_setD hG _ 0 _ (Nat.le_refl _)⟩
set_option maxRecDepth 100000 in
set_option maxHeartbeats 3200000 in
theorem l9Draw_any (A : Option Addr) (l : List Nat) (c g : Nat) (w : World) (hl : l.length ≤ 2097152) (hb : AllB l) (hcw : Cur w g A l c) :
    Calls Tryz.prog 44 #[.pointer (some ⟨g, 0, none⟩)] w (GotWh w g A l c) := by
  have hlt := hcw.lt
  have HZ0 := Lib.hid (heap_new w (.cells #[.slice none 0 0] 57))
  have hc0 := hcw.alloc (.cells #[.slice none 0 0] 57)
  have HG0 := Lib.hid (grown_made w (.cells #[.slice none 0 0] 57) g)
  go_enter Tryz.func44, Tryz.ntmps44
  go_wp2_with fail
  refine (l9Right_any A l c g _ hl hb hc0).mono ?_
  rintro e u1 ⟨Q, qc, sq, rfl, h9, h10, hF, hO, hap, c1, g1⟩
  have hz1 := g1.size
  simp only [World.size_alloc] at hO hz1
  obtain ⟨U, hU⟩ : ∃ U, u1.alloc (.cells #[.slice Q sq.length qc] 57) = U := ⟨_, rfl⟩
  have T0 : RW w U g A l c u1.heap.size Q qc sq := by
    have ba : Below u1.heap.size u1 U := by rw [← hU]; exact (Below.refl _ _).alloc (Nat.le_refl _) _
    have hZ1 := (g1.block _ (blk_lt HZ0.out) (fun e => by injection e with e; omega)).trans HZ0.out
    exact ⟨by rw [← hU]; exact hO.alloc _, by rw [← hU]; exact heap_new _ _, blk_call hZ1 ba, c1.mem ba, grown_below (HG0.out.trans g1) ba, hF, h9, h10, hap, by omega, hlt⟩
  have HU := Lib.hid hU
  have HT := Lib.hid T0
  have H9 := Lib.hid h9
  clear hU T0 HZ0 HG0 hc0 hO hF hap c1 g1 h9 h10
  go_wp2_with fail
  rw [HU.out]
  refine (l1Below_any A l c g 10 _ hl hb (by omega) (by omega) HT.out.C).mono ?_
  rintro e u2 ⟨y, hy, rfl, c2, g2⟩
  have hT := Lib.hid (HT.out.draw g2 c2)
  clear HT HU c2 g2
  have q3 := cell_of_one hT.out.H
  have f3 := free_of_one hT.out.H
  have q2 := cell_of_one hT.out.Z
  have f2 := free_of_one hT.out.Z
  have hg1 := hT.out.g1
  have lt3 := blk_lt hT.out.H
  rcases (show y = 0 ∨ y = 1 ∨ y = 2 ∨ 3 ≤ y by omega) with rfl | rfl | rfl | hy3
  · clear q2 q3 f2 f3
    go_wp2_with fail
    refine (l1Below_any A l c g 9 _ hl hb (by omega) (by omega) hT.out.C).mono ?_
    rintro e u3 ⟨k, hk, rfl, c3, g3⟩
    have hT3 := Lib.hid (hT.out.draw g3 c3)
    clear hT c3 g3 lt3
    have T := hT3.out
    have hkq : k < sq.length := by have := H9.out; omega
    have lt3 := blk_lt T.H
    obtain ⟨Q', c', eQ, _, _, hQ⟩ := own_form T.O.row
    obtain ⟨gq, eg, hgq⟩ := hQ (by omega)
    injection eQ with e1 _ e3
    subst e3
    rw [← e1] at eg
    subst eg
    clear e1
    obtain ⟨b', off', he, hbB, hc⟩ := (own_rws T.O.row).sp hkq
    obtain ⟨rfl, rfl⟩ : gq = b' ∧ 0 = off' := by injection he with he; injection he with h1 h2; exact ⟨h1, h2⟩
    have hsm : sq.getD k sp0 ∈ sq := getD_mem sq k sp0 hkq
    have hfs : ∀ x ∈ (sq.getD k sp0).l, x.fits := fun x hx => T.F _ (List.mem_map.2 ⟨_, hsm, rfl⟩) x hx
    have hsl := at_le_all sq hkq
    have HAPK : Hid (∀ i, i < sq.length → i ≠ k → ∀ q, (sq.getD i sp0).blk = some q → (sq.getD k sp0).blk ≠ some q) := fun i hi hne q hq => by
      rcases Nat.lt_or_gt_of_ne hne with h | h
      · exact T.ap i k h hkq q hq
      · intro h2; exact T.ap k i h hi q h2 hq
    obtain ⟨s, es⟩ : ∃ s, sq.getD k sp0 = s := ⟨_, rfl⟩
    rw [es] at hc hsm hfs hsl HAPK
    have hso := T.O.sp s hsm
    have S0 : Hid (u3.heap[u1.heap.size]? = some (.cells #[.slice (some ⟨gq, 0, none⟩) sq.length qc] 57) ∧ u3.cell? ⟨gq, 0 + k, none⟩ = some (.slice s.a s.l.length s.c)) := ⟨T.H, hc⟩
    have hgne : gq ≠ g := by omega
    have HCN := Lib.hid T.C
    clear T hc he hQ
    go_wp2_with fail
    refine wp_region_F 13 (fun w' => Hid (w'.heap[u1.heap.size]? = some (.cells #[.slice (some ⟨gq, 0, none⟩) sq.length qc] 57) ∧ w'.cell? ⟨gq, 0 + k, none⟩ = some (.slice s.a s.l.length s.c))) (by kernel_rfl) ?_
    have hH0 : Hid (u3.drew.heap[u1.heap.size]? = some (.cells #[.slice (some ⟨gq, 0, none⟩) sq.length qc] 57) ∧ u3.drew.cell? ⟨gq, 0 + k, none⟩ = some (.slice s.a s.l.length s.c)) := S0
    refine f_take 0 13 (.pointer (some ⟨u1.heap.size, 0, none⟩)) rfl rfl (by kernel_rfl) (by kernel_rfl) (by kernel_rfl) (by kernel_rfl) (fun _ _ _ h => h) rfl hH0 (fun w _ => exec_fldW _ w) ?_
    refine f_take 1 14 (.slice (some ⟨gq, 0, none⟩) sq.length qc) rfl rfl (by kernel_rfl) (by kernel_rfl) (by kernel_rfl) (by kernel_rfl) (fun _ _ _ h => h) rfl hH0 (fun w h => exec_loadSp _ _ 0 _ _ _ w (.inr rfl) (cell_of_one h.out.1)) ?_
    simp only [Act.put, List.setIfInBounds_toArray, List.set_cons_zero, List.set_cons_succ]
    refine f_take 2 15 (.int .i64 (k : Int)) rfl rfl (by kernel_rfl) (by kernel_rfl) (by kernel_rfl) (by kernel_rfl) (fun _ _ _ h => h) rfl hH0 (fun w _ => rfl) ?_
    refine f_take 3 16 (.pointer (some ⟨u1.heap.size, 0, none⟩)) rfl rfl (by kernel_rfl) (by kernel_rfl) (by kernel_rfl) (by kernel_rfl) (fun _ _ _ h => h) rfl hH0 (fun w _ => exec_fldW _ w) ?_
    simp only [Act.put, List.setIfInBounds_toArray, List.set_cons_zero, List.set_cons_succ]
    refine f_take 4 17 (.slice (some ⟨gq, 0, none⟩) sq.length qc) rfl rfl (by kernel_rfl) (by kernel_rfl) (by kernel_rfl) (by kernel_rfl) (fun _ _ _ h => h) rfl hH0 (fun w h => exec_loadSp _ _ 0 _ _ _ w (.inr rfl) (cell_of_one h.out.1)) ?_
    refine f_take 5 18 (.int .i64 (k : Int)) rfl rfl (by kernel_rfl) (by kernel_rfl) (by kernel_rfl) (by kernel_rfl) (fun _ _ _ h => h) rfl hH0 (fun w _ => rfl) ?_
    simp only [Act.put, List.setIfInBounds_toArray, List.set_cons_zero, List.set_cons_succ]
    refine f_take 6 19 (.pointer (some ⟨gq, 0 + k, none⟩)) rfl rfl (by kernel_rfl) (by kernel_rfl) (by kernel_rfl) (by kernel_rfl) (fun _ _ _ h => h) rfl hH0 (fun w _ => exec_idxSp gq 0 sq.length qc k w hkq) ?_
    refine f_take 7 20 (.slice s.a s.l.length s.c) rfl rfl (by kernel_rfl) (by kernel_rfl) (by kernel_rfl) (by kernel_rfl) (fun _ _ _ h => h) rfl hH0 (fun w h => exec_loadSp _ gq (0 + k) _ _ _ w (.inl rfl) h.out.2) ?_
    simp only [Act.put, List.setIfInBounds_toArray, List.set_cons_zero, List.set_cons_succ]
    refine f_take 8 21 (.pointer (some ⟨g, 0, none⟩)) rfl rfl (by kernel_rfl) (by kernel_rfl) (by kernel_rfl) (by kernel_rfl) (fun _ _ _ h => h) rfl hH0 (fun w _ => rfl) ?_
    simp only [Act.put, List.setIfInBounds_toArray, List.set_cons_zero, List.set_cons_succ]
    refine f_call 9 22 65 #[.pointer (some ⟨g, 0, none⟩)] rfl rfl (by kernel_rfl) rfl (exec_call Tryz.func65 (by kernel_rfl) (by kernel_rfl) _) ?_
    refine (l9Pin_any A l c g _ hl hb (HCN.out.mem (below_drawn (Below.refl _ _) 1))).mono ?_
    rintro e u4 ⟨x, hxf, rfl, c4, g4⟩
    have G4 : u3.grownBy u4 (some g) := (grown_of_below (below_drawn (Below.refl _ _) 1) (some g)).trans g4
    have T4 := hT3.out.draw G4 c4
    have hS4 : u4.heap[u1.heap.size]? = some (.cells #[.slice (some ⟨gq, 0, none⟩) sq.length qc] 57) ∧ u4.cell? ⟨gq, 0 + k, none⟩ = some (.slice s.a s.l.length s.c) := ⟨T4.H, by
      have := (own_rws T4.O.row).sp hkq
      obtain ⟨b2, o2, he, _, hc2⟩ := this
      obtain ⟨rfl, rfl⟩ : gq = b2 ∧ 0 = o2 := by injection he with he; injection he with h1 h2; exact ⟨h1, h2⟩
      rw [es] at hc2; exact hc2⟩
    refine ⟨_, rfl, (fun _ _ => Lib.hid hS4), ?_⟩
    simp only [Act.put, List.setIfInBounds_toArray, List.set_cons_zero, List.set_cons_succ]
    have bal : Below u4.heap.size u4 (u4.alloc (.cells (pnC x).toArray 95)) := (Below.refl _ _).alloc (Nat.le_refl _) _
    have T5 := T4.call bal
    have lt4 := blk_lt T4.H
    have ltq := (World.ownsRow.lt T4.O.row gq rfl).2
    have hS5 : (u4.alloc (.cells (pnC x).toArray 95)).heap[u1.heap.size]? = some (.cells #[.slice (some ⟨gq, 0, none⟩) sq.length qc] 57) ∧ (u4.alloc (.cells (pnC x).toArray 95)).cell? ⟨gq, 0 + k, none⟩ = some (.slice s.a s.l.length s.c) := ⟨T5.H, (bal.cell (by exact ltq)).trans hS4.2⟩
    refine f_op 10 23 (.slice (some ⟨u4.heap.size, 0, none⟩) 1 1) rfl rfl (by kernel_rfl) rfl (exec_one_pn x _) (fun _ _ => Lib.hid hS5) ?_
    simp only [Act.put, List.setIfInBounds_toArray, List.set_cons_zero, List.set_cons_succ]
    have o5 := T5.O.sp s hsm
    have hr5 := T5.O.row
    have hKeep : ∀ w', (u4.alloc (.cells (pnC x).toArray 95)).grownBy w' (Value.slice s.a s.l.length s.c).ownBlock → w'.heap[u1.heap.size]? = some (.cells #[.slice (some ⟨gq, 0, none⟩) sq.length qc] 57) ∧ w'.cell? ⟨gq, 0 + k, none⟩ = some (.slice s.a s.l.length s.c) := fun w' h => by
      refine ⟨(h.block _ (blk_lt hS5.1) (fun e => own_ne_type o5 hS5.1 (by decide) e.symm)).trans hS5.1, ?_⟩
      obtain ⟨cur, hcur⟩ := own_typed2 hr5 gq rfl
      exact (World.cell?_of_block (h.block _ (blk_lt hcur) (fun e => own_ne_type o5 hcur (by decide) e.symm))).trans hS5.2
    refine f_opx 11 24 rfl rfl (by kernel_rfl) rfl (exec_appR rowPin _ (w.heap.size + 1) _ s.l.length _ o5 _ (some ⟨u4.heap.size, 0, none⟩) 1 1 (pnC x) rfl (Rws.new u4 (pnC x) 95) (fun h => by cases h) (by intro u hu; simp [pnC] at hu; rcases hu with rfl | rfl <;> rfl) (by have := T5.n10; omega) (by simp; omega)) (fun v w' h _ _ => Lib.hid (hKeep w' h.2)) ?_
    rintro v6 u6 ⟨o6, g6⟩
    simp only [Act.put, List.setIfInBounds_toArray, List.set_cons_zero, List.set_cons_succ]
    have hS6 := hKeep u6 g6
    refine f_op 12 25 (.pointer (some ⟨gq, 0 + k, none⟩)) rfl rfl (by kernel_rfl) rfl (exec_idxSp gq 0 sq.length qc k u6 hkq) (fun _ _ => Lib.hid hS6) ?_
    simp only [Act.put, List.setIfInBounds_toArray, List.set_cons_zero, List.set_cons_succ]
    obtain ⟨L, eL⟩ : ∃ L, s.l ++ [x] = L := ⟨_, rfl⟩
    have o6' : u6.ownsRow (w.heap.size + 1) 95 2 v6 L.length (L.flatMap pnC) := by
      rw [← eL, List.length_append, List.flatMap_append]
      have e : [x].flatMap pnC = pnC x := by simp
      rw [e]; exact o6
    obtain ⟨P2, cp2, rfl, _, _, _⟩ := own_form o6'
    have hr6 : u6.ownsRow (w.heap.size + 1) 90 1 (.slice (some ⟨gq, 0, none⟩) sq.length qc) sq.length (sq.flatMap spC) := own_kept2 hr5 g6 (fun q h1 h2 => by
      obtain ⟨cur, hcur⟩ := own_typed2 hr5 q h1
      exact own_ne_type o5 hcur (by decide) h2)
    have hfz := hr6.frozenAt (0 + k)
    refine f_store 13 rfl rfl (by kernel_rfl) rfl (exec_storeSp _ gq (0 + k) P2 L.length cp2 _ u6 (.inl rfl) hS6.2 hfz) (fun h => absurd rfl h) ?_
    refine f_done (by kernel_rfl) ?_ _
    obtain ⟨U7, eU⟩ : ∃ U, u6.setCell ⟨gq, 0 + k, none⟩ (.slice P2 L.length cp2) = U := ⟨_, rfl⟩
    obtain ⟨curg, hcg⟩ := own_typed2 hr6 gq rfl
    have st := hr6.stored (0 + k) (.slice P2 L.length cp2)
    rw [eU] at st
    have O7 : OwnW U7 (w.heap.size + 1) (some ⟨gq, 0, none⟩) qc (sq.set k ⟨P2, cp2, L⟩) := by
      refine ⟨?_, ?_⟩
      · have := st.1
        rw [Nat.zero_add] at this
        rw [List.length_set, ← flat_set sq k ⟨P2, cp2, L⟩]
        exact this
      · intro t ht
        have kt : Sp.own u6 (w.heap.size + 1) t := by
          obtain ⟨i, hi, rfl⟩ := List.getElem_of_mem ht
          rw [List.length_set] at hi
          rw [List.getElem_set]
          by_cases e : k = i
          · rw [if_pos e]; exact o6'
          · rw [if_neg e]
            have e2 : sq.getD i sp0 = sq[i] := by simp [List.getD_eq_getElem?_getD, hi]
            rw [← e2]
            refine own_kept2 (T5.O.sp _ (getD_mem sq i sp0 hi)) g6 (fun q h1 h2 => ?_)
            rw [ownBlock_eq] at h1 h2
            exact HAPK.out i hi (fun h => e h.symm) q h1 h2
        rw [← eU]
        exact kt.kept (Go.Lib.grownBy_setCell u6 gq (0 + k) _) (.inr (own_ne_type kt hcg (by decide)))
    have hlen2 : (sq.set k ⟨P2, cp2, L⟩).length = sq.length := List.length_set
    have n3 : u1.heap.size ≠ gq := fun h => by
      have := hS6.1
      rw [h, hcg] at this
      injection this with this
      injection this with _ h2
      revert h2
      decide
    have hZ6 : u6.heap[w.heap.size]? = some (.cells #[.slice none 0 0] 57) := (g6.block _ (blk_lt T5.Z) (fun e => own_ne_type o5 T5.Z (by decide) e.symm)).trans T5.Z
    have hZ7 : U7.heap[w.heap.size]? = some (.cells #[.slice none 0 0] 57) := by rw [← eU]; exact (heap_set_ne u6 gq _ _ (by omega)).trans hZ6
    have hH7 : U7.heap[u1.heap.size]? = some (.cells #[.slice (some ⟨gq, 0, none⟩) sq.length qc] 57) := by rw [← eU]; exact (heap_set_ne u6 gq _ _ n3).trans hS6.1
    have hC7 : Cur U7 g A l c := by
      rw [← eU]
      exact (T5.C.grown g6 (fun j hj => by have := own_low o5 j hj; omega)).setCell _ _ _ (by omega)
    have hG7 : w.grownBy U7 (some g) := by
      rw [← eU]
      exact grown_setD (grown_step T5.G g6 (fun j hj => by have := own_low o5 j hj; omega)) _ _ _ (by omega)
    have hF7 : FitL ((sq.set k ⟨P2, cp2, L⟩).map (fun s => s.l)) := fun a ha y hy => by
      rw [List.map_set] at ha
      rcases List.mem_or_eq_of_mem_set ha with h | h
      · exact T5.F a h y hy
      · have h' : a = L := h
        rw [h', ← eL] at hy
        rcases List.mem_append.1 hy with h2 | h2
        · exact hfs y h2
        · have : y = x := by simpa using h2
          rw [this]; exact hxf
    have hall : (allPn (sq.set k ⟨P2, cp2, L⟩)).length ≤ 30 := by
      have h1 := allPn_set sq k ⟨P2, cp2, L⟩ hkq
      have h2 : L.length = s.l.length + 1 := by rw [← eL]; simp
      have h3 := T5.n10
      have h4 : (Sp.mk P2 cp2 L).l.length = L.length := rfl
      omega
    have R := wheel_got (l := l) O7 hZ7 hC7 hG7 hF7 (by rw [hlen2]; have := H9.out; omega) hall hlt
    rw [hlen2] at R
    have HR := Lib.hid R
    have q3 := cell_of_one hH7
    have q2 := cell_of_one hZ7
    have f2 := free_of_one hZ7
    rw [eU]
    clear R O7 hZ7 hH7 hC7 hG7 hF7 hall hZ6 n3 hlen2 st eU hfz hr6 o6' o6 g6 hS6 hS5 hS4 hKeep hr5 o5 T5 T4 bal G4 g4 c4 hH0 S0 hso HAPK hT3 hcg eL
    go_wp2
    simp [bodyPost, results, Tryz.results44, go_sem, q2]
    exact HR.out
  · clear q2 q3 f2 f3
    go_wp2_with fail
    have K3 := Lib.hid (fun w' (h : u2.grownBy w' (some g)) => cell_of_one ((h.block _ lt3 (fun e => by injection e with e; omega)).trans hT.out.H))
    refine wp_region_F 6 (fun w' => Hid (u2.grownBy w' (some g))) (by kernel_rfl) ?_
    have hH0 : Hid (u2.grownBy u2.drew (some g)) := grown_of_below (below_drawn (Below.refl _ _) 1) _
    refine f_take 0 28 (.pointer (some ⟨u1.heap.size, 0, none⟩)) rfl rfl (by kernel_rfl) (by kernel_rfl) (by kernel_rfl) (by kernel_rfl) (fun _ _ _ h => h) rfl hH0 (fun w _ => exec_fldW _ w) ?_
    refine f_take 1 29 (.slice Q sq.length qc) rfl rfl (by kernel_rfl) (by kernel_rfl) (by kernel_rfl) (by kernel_rfl) (fun _ _ _ h => h) rfl hH0 (fun w h => exec_loadSp _ _ 0 _ _ _ w (.inr rfl) (K3.out w h.out)) ?_
    simp only [Act.put, List.setIfInBounds_toArray, List.set_cons_zero, List.set_cons_succ]
    refine f_take 2 30 (.pointer (some ⟨g, 0, none⟩)) rfl rfl (by kernel_rfl) (by kernel_rfl) (by kernel_rfl) (by kernel_rfl) (fun _ _ _ h => h) rfl hH0 (fun w _ => rfl) ?_
    simp only [Act.put, List.setIfInBounds_toArray, List.set_cons_zero, List.set_cons_succ]
    refine f_call 3 31 21 #[.pointer (some ⟨g, 0, none⟩), .int .i64 10] rfl rfl (by kernel_rfl) rfl (exec_call Tryz.func21 (by kernel_rfl) (by kernel_rfl) _) ?_
    refine (l1Below_any A l c g 10 _ hl hb (by omega) (by omega) (hT.out.C.mem (below_drawn (Below.refl _ _) 1))).mono ?_
    rintro e u3 ⟨n, hn, rfl, c3, g3⟩
    have k3 : Hid (u2.grownBy u3 (some g)) := hH0.out.trans g3
    have T3 := hT.out.draw k3.out c3
    refine ⟨_, rfl, (fun _ _ => k3), ?_⟩
    simp only [Act.put, List.setIfInBounds_toArray, List.set_cons_zero, List.set_cons_succ]
    obtain ⟨Q', c', eQ, hcap, _, hQ⟩ := own_form T3.O.row
    have hQs : Q = none → False := fun h => by
      obtain ⟨q, hq, _⟩ := hQ (by have := H9.out; omega)
      injection eQ with e1 _ _
      rw [← e1, h] at hq; cases hq
    have hcap2 : sq.length ≤ qc := own_cap T3.O.row
    refine f_op 4 32 (.slice Q n qc) rfl rfl (by kernel_rfl) rfl (exec_sliceTo rowSpk Q sq.length qc n _ (by have := H9.out; omega) hcap2 (fun h => absurd h (fun h => hQs h))) (fun _ _ => k3) ?_
    simp only [Act.put, List.setIfInBounds_toArray, List.set_cons_zero, List.set_cons_succ]
    refine f_op 5 33 (.pointer (some ⟨u1.heap.size, 0, none⟩)) rfl rfl (by kernel_rfl) rfl (exec_fldW _ _) (fun _ _ => k3) ?_
    simp only [Act.put, List.setIfInBounds_toArray, List.set_cons_zero, List.set_cons_succ]
    refine f_store 6 rfl rfl (by kernel_rfl) rfl (exec_storeSp _ _ 0 Q n qc _ u3 (.inr rfl) (cell_of_one T3.H) (free_of_one T3.H)) (fun h => absurd rfl h) ?_
    refine f_done (by kernel_rfl) ?_ _
    have hnl : (sq.take n).length = n := by rw [List.length_take]; have := H9.out; omega
    have O4 : OwnW (u3.setCell ⟨u1.heap.size, 0, none⟩ (.slice Q n qc)) (w.heap.size + 1) Q qc (sq.take n) := by
      have h1 := T3.O.put T3.H (by decide) (by decide) 0 (.slice Q n qc)
      refine ⟨?_, fun s hs => h1.sp s (List.mem_of_mem_take hs)⟩
      have h2 := own_take h1.row (k := n) (by have := H9.out; omega) hQs
      rw [spC_take] at h2
      rw [hnl]; exact h2
    have hs3 := heap_setCell_same u3 u1.heap.size 0 _ _ (.slice Q n qc) T3.H
    simp at hs3
    have hZ4 := (heap_set_ne u3 u1.heap.size 0 (.slice Q n qc) (show w.heap.size ≠ u1.heap.size by omega)).trans T3.Z
    have hF4 : FitL ((sq.take n).map (fun s => s.l)) := fun a ha x hx => T3.F a (by rw [List.map_take] at ha; exact List.mem_of_mem_take ha) x hx
    have R := wheel_got (l := l) O4 hZ4 (T3.C.setCell _ 0 _ (by omega)) (grown_setD T3.G _ 0 _ (by omega)) hF4 (by rw [hnl]; omega) (by have := allPn_take_le sq n; have := T3.n10; omega) hlt
    rw [hnl] at R
    have HR := Lib.hid R
    obtain ⟨V, eV⟩ : ∃ V, u3.setCell ⟨u1.heap.size, 0, none⟩ (.slice Q n qc) = V := ⟨_, rfl⟩
    rw [eV] at hs3 hZ4 HR
    have q3 := cell_of_one hs3
    have q2 := cell_of_one hZ4
    have f2 := free_of_one hZ4
    rw [eV]
    clear R O4 hs3 hZ4 hF4 T3 k3 K3 hH0 c3 g3 hT eV hQ eQ
    go_wp2
    simp [bodyPost, results, Tryz.results44, go_sem, q2]
    exact HR.out
  · have O1 := Lib.hid ((hT.out.O.row.alloc (.cells #[] 95)).alloc (.cells #[.slice (some ⟨u2.heap.size, 0, none⟩) 0 0] 90))
    have RN : Hid (Rws ((u2.alloc (.cells #[] 95)).alloc (.cells #[.slice (some ⟨u2.heap.size, 0, none⟩) 0 0] 90)) (u2.heap.size + 1 + 1) (some ⟨u2.heap.size + 1, 0, none⟩) (spC ⟨some ⟨u2.heap.size, 0, none⟩, 0, []⟩)) := by
      have := Rws.new (u2.alloc (.cells #[] 95)) (spC ⟨some ⟨u2.heap.size, 0, none⟩, 0, []⟩) 90
      rw [World.size_alloc] at this
      exact this
    have bal : Below u2.heap.size u2 ((u2.alloc (.cells #[] 95)).alloc (.cells #[.slice (some ⟨u2.heap.size, 0, none⟩) 0 0] 90)) := ((Below.refl _ _).alloc (Nat.le_refl _) _).alloc (by simp) _
    have T1 := Lib.hid (hT.out.call bal)
    have I1 : Hid (∀ s ∈ sq ++ [⟨some ⟨u2.heap.size, 0, none⟩, 0, []⟩], Sp.own ((u2.alloc (.cells #[] 95)).alloc (.cells #[.slice (some ⟨u2.heap.size, 0, none⟩) 0 0] 90)) (w.heap.size + 1) s) := by
      intro s hs2
      rcases List.mem_append.1 hs2 with h | h
      · exact T1.out.O.sp s h
      · have : s = ⟨some ⟨u2.heap.size, 0, none⟩, 0, []⟩ := by simpa using h
        subst this
        exact (own_empty u2 (w.heap.size + 1) 95 2 (by omega)).alloc _
    have h9 := H9.out
    have lo := own_low O1.out
    clear bal h9
    go_wp2_with (at_builtin; refine wpList_appR rowSpk _ rfl (.tmp 37) (.tmp 39) rfl (w.heap.size + 1) _ sq.length (sq.flatMap spC) rfl O1.out _ _ 1 1 (spC ⟨some ⟨u2.heap.size, 0, none⟩, 0, []⟩) rfl rfl RN.out (fun h => by cases h) (by intro u hu; exact spC_one [⟨some ⟨u2.heap.size, 0, none⟩, 0, []⟩] u (by simpa using hu)) (by have := H9.out; omega) (by simp; omega) ?_)
    intro v3 u3 o3 g3
    obtain ⟨A3, c3, rfl, _⟩ := own_form o3
    have hne : ∀ (j : Nat) (t : TypeId) (fr : Nat × Nat) (cs : Array Value), ((u2.alloc (Obj.cells #[] 95)).alloc (Obj.cells #[Value.slice (some ⟨u2.heap.size, 0, none⟩) 0 0] 90)).heap[j]? = some (Obj.cells cs t fr) → t ≠ 90 → u3.heap[j]? = some (Obj.cells cs t fr) := fun j t fr cs h ht => (g3.block _ (blk_lt h) (fun e => own_ne_type O1.out h ht e.symm)).trans h
    have hH3 := hne _ _ _ _ T1.out.H (by decide)
    have hZ3 := hne _ _ _ _ T1.out.Z (by decide)
    have hC3 : Cur u3 g A l c := T1.out.C.grown g3 (fun j hj => by have := lo j hj; omega)
    have hG3 : w.grownBy u3 (some g) := grown_step T1.out.G g3 (fun j hj => by have := lo j hj; omega)
    have O3 : OwnW u3 (w.heap.size + 1) A3 c3 (sq ++ [⟨some ⟨u2.heap.size, 0, none⟩, 0, []⟩]) := by
      refine ⟨?_, OwnW.grow I1.out O1.out g3⟩
      rw [List.length_append, List.flatMap_append]
      simpa using o3
    have hn3 : (sq ++ [(⟨some ⟨u2.heap.size, 0, none⟩, 0, []⟩ : Sp)]).length = sq.length + 1 := by simp
    have O4 := O3.put hH3 (by decide) (by decide) 0 (.slice A3 (sq.length + 1) c3)
    have hs3 := heap_setCell_same u3 u1.heap.size 0 _ _ (.slice A3 (sq.length + 1) c3) hH3
    simp at hs3
    have hZ4 := (heap_set_ne u3 u1.heap.size 0 (.slice A3 (sq.length + 1) c3) (show w.heap.size ≠ u1.heap.size by omega)).trans hZ3
    have hF4 : FitL ((sq ++ [(⟨some ⟨u2.heap.size, 0, none⟩, 0, []⟩ : Sp)]).map (fun s => s.l)) := fun a ha x hx => by
      rw [List.map_append] at ha
      rcases List.mem_append.1 ha with h | h
      · exact T1.out.F a h x hx
      · have : a = [] := by simpa using h
        subst this; cases hx
    have hall : (allPn (sq ++ [(⟨some ⟨u2.heap.size, 0, none⟩, 0, []⟩ : Sp)])).length ≤ 30 := by
      have h1 := T1.out.n10
      have h2 : allPn (sq ++ [(⟨some ⟨u2.heap.size, 0, none⟩, 0, []⟩ : Sp)]) = allPn sq := by unfold allPn; rw [List.flatMap_append]; simp
      rw [h2]; omega
    have R := wheel_got (l := l) O4 hZ4 (hC3.setCell _ 0 _ (by omega)) (grown_setD hG3 _ 0 _ (by omega)) hF4 (by rw [hn3]; have := H9.out; omega) hall hlt
    rw [hn3] at R
    have HR := Lib.hid R
    have qh := cell_of_one hH3
    have fh := free_of_one hH3
    have Q4 := Lib.hid (cell_of_one hs3)
    have Q2 := Lib.hid (And.intro (cell_of_one hZ4) (free_of_one hZ4))
    clear q2 q3 f2 f3
    obtain ⟨V, eV⟩ : ∃ V, u3.setCell ⟨u1.heap.size, 0, none⟩ (.slice A3 (sq.length + 1) c3) = V := ⟨_, rfl⟩
    rw [eV] at Q4 Q2 HR
    have q4 := Q4.out
    have q2 := Q2.out.1
    have f2 := Q2.out.2
    clear R O4 O3 hs3 hZ4 hF4 hall o3 g3 hH3 hZ3 hC3 hG3 T1 I1 O1 RN hT lo hne Q4 Q2
    go_wp2
    simp [bodyPost, results, Tryz.results44, go_sem, q2]
    exact HR.out
  · have y0 : ((y : Int) == 0) = false := by simp; omega
    have y1 : ((y : Int) == 1) = false := by simp; omega
    have y2 : ((y : Int) == 2) = false := by simp; omega
    have R := Lib.hid (wheel_got (l := l) hT.out.O hT.out.Z hT.out.C hT.out.G hT.out.F (by have := H9.out; omega) (by have := hT.out.n10; omega) hlt)
    clear hT
    go_wp2
    simp [bodyPost, results, Tryz.results44, go_sem, q2]
    exact R.out
/-- What DrawWheelOf hands out. -/
def GotPl (w : World) (e : Ending) (w' : World) : Prop := ∃ (el : List Pn) (LA : Option Addr) (lc : Nat), el.length ≤ 7 ∧ (∀ f ∈ el, f.fits) ∧ e = .returned (.slice LA el.length lc) ∧ Rws w' w'.heap.size LA (el.flatMap pnC) ∧ Below w.heap.size w w'
/-- What DrawPinsDue hands out. -/
def GotWD (w : World) (e : Ending) (w' : World) : Prop :=
  ∃ B d sq now, e = .returned (.tuple #[.agg #[.slice B sq.length d], .int .i64 now]) ∧ sq.length ≤ 10 ∧ (allPn sq).length ≤ 30 ∧ FitL (sq.map (fun s => s.l)) ∧ inI now ∧ Whl w' B sq ∧ Below w.heap.size w w'
/-- What DrawWheelPut hands out. -/
def GotWX (w : World) (e : Ending) (w' : World) : Prop :=
  ∃ B d sq x, e = .returned (.tuple #[.agg #[.slice B sq.length d], pnA x]) ∧ sq.length ≤ 10 ∧ (allPn sq).length ≤ 30 ∧ FitL (sq.map (fun s => s.l)) ∧ x.fits ∧ Whl w' B sq ∧ Below w.heap.size w w'
end Go.Proofs.YtlflgflmlfileaaGreat
