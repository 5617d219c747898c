/- l9Pin, l9Pins of the model. -/
import Derived.Test.YtflomkebgiemaaaRows
import Derived.Test.YtflomkebgiemaaaWhB
namespace Go.Proofs.Ytflomkebgiemaaa
open Go.RowKit
set_option linter.unusedSimpArgs false
set_option linter.unusedVariables false
/-- A pin that was drawn. -/
def GotPn (w : World) (g : Nat) (A : Option Addr) (l : List Nat) (c : Nat) (e : Ending) (w' : World) : Prop := ∃ x : Pn, x.fits ∧ e = .returned (pnA x) ∧ Cur w' g A l c ∧ w.grownBy w' (some g)
def putPn (w : World) (b : Nat) (q : Pn) : World := (w.setCell ⟨b, 0, none⟩ (.int .i64 q.at_)).setCell ⟨b, 1, none⟩ (.int .i64 q.id)
theorem putPn_cur {w : World} {g : Nat} {A : Option Addr} {l : List Nat} {c b : Nat} {q : Pn} (h : Cur w g A l c) (hb : g < b) : Cur (putPn w b q) g A l c := by
  unfold putPn
  exact Cur.setCell (Cur.setCell h b 0 _ hb) b 1 _ hb
theorem putPn_grown {a w : World} {g b : Nat} {q : Pn} (h : a.grownBy w (some g)) (hb : a.heap.size ≤ b) : a.grownBy (putPn w b q) (some g) := by
  unfold putPn
  exact grown_setD (grown_setD h b 0 _ hb) b 1 _ hb
set_option maxRecDepth 100000 in
set_option maxHeartbeats 3200000 in
theorem l9Pin_any (A : Option Addr) (l : List Nat) (c g : Nat) (w : World) (hl : l.length ≤ 2097152) (hb : AllB l) (hcw : Cur w g A l c) :
    Calls Try.prog 51 #[.pointer (some ⟨g, 0, none⟩)] w (GotPn w g A l c) := by
  have hgw := hcw.lt
  have hz0 := heap_new w (.cells #[.int .i64 0, .int .i64 0] 33)
  have gr0 := grown_made w (.cells #[.int .i64 0, .int .i64 0] 33) g
  have hcw0 := hcw.alloc (.cells #[.int .i64 0, .int .i64 0] 33)
  have KZ := Lib.hid (fun w' (h : (w.alloc (.cells #[.int .i64 0, .int .i64 0] 33)).grownBy w' (some g)) => (h.block _ (blk_lt hz0) (fun e => by injection e with e; omega)).trans hz0)
  have GZ := Lib.hid gr0
  have gr0 := World.grownBy.refl (w.alloc (.cells #[.int .i64 0, .int .i64 0] 33)) (some g)
  clear hz0 hcw
  go_enter Try.func51, Try.ntmps51
  go_wp2_with fail
  refine (l1Below_any A l c g 24 _ hl hb (by omega) (by omega) hcw0).mono ?_
  rintro e v0 ⟨y0, hy0, rfl, hc0, gs0⟩
  have gr1 := gr0.trans gs0
  clear gs0 gr0 hcw0
  go_wp2_with fail
  refine (l1Below_any A l c g 12 _ hl hb (by omega) (by omega) hc0).mono ?_
  rintro e v1 ⟨y1, hy1, rfl, hc1, gs1⟩
  have gr2 := gr1.trans gs1
  clear gs1 gr1 hc0
  have hz1 := KZ.out _ gr2
  have gw1 := GZ.out.trans gr2
  have ltz := blk_lt hz1
  have lt4 := gr2.size
  rw [World.size_alloc] at lt4
  clear KZ GZ gr2
  have hqf : (⟨1 + (y0 : Int), 1 + (y1 : Int)⟩ : Pn).fits := by unfold Pn.fits inI; simp; omega
  have HQ := Lib.hid (heap_new v1 (.cells #[.int .i64 (1 + (y0 : Int)), .int .i64 (1 + (y1 : Int))] 33))
  have HZ := Lib.hid (blk_alloc hz1 (.cells #[.int .i64 (1 + (y0 : Int)), .int .i64 (1 + (y1 : Int))] 33))
  have HG := Lib.hid (grown_step gw1 (World.grownBy_alloc v1 (.cells #[.int .i64 (1 + (y0 : Int)), .int .i64 (1 + (y1 : Int))] 33) none) (fun j h => by cases h))
  have hc5 := hc1.alloc (.cells #[.int .i64 (1 + (y0 : Int)), .int .i64 (1 + (y1 : Int))] 33)
  have ltc := hc1.lt
  clear hz1 gw1 hc1
  go_wp2_with fail
  refine (l1Below_any A l c g 20 _ hl hb (by omega) (by omega) hc5).mono ?_
  rintro e w4 ⟨k, hk, rfl, hc, gr5⟩
  have hq := (gr5.block _ (blk_lt HQ.out) (fun e => by injection e with e; omega)).trans HQ.out
  have hz := (gr5.block _ (blk_lt HZ.out) (fun e => by injection e with e; omega)).trans HZ.out
  have gr := HG.out.trans gr5
  generalize v1.heap.size = b at *
  clear HQ HZ HG gr5 hc5
  obtain ⟨q, hqe⟩ : ∃ q : Pn, q = ⟨1 + (y0 : Int), 1 + (y1 : Int)⟩ := ⟨_, rfl⟩
  have hq : w4.heap[b]? = some (.cells #[.int .i64 q.at_, .int .i64 q.id] 33) := by rw [hqe]; exact hq
  rw [← hqe] at hqf
  clear hqe
  have hks : k = 0 ∨ k = 1 ∨ 2 ≤ k := by omega
  rcases hks with rfl | rfl | hk6
  · skip
    have hx := ints_new w4 [0, -1, -9, 1000008, 1000009, 9223372036854775807, -9223372036854775808]
    have hc5 := hc.alloc (.cells (([0, -1, -9, 1000008, 1000009, 9223372036854775807, -9223372036854775808] : List Int).map (Value.int .i64)).toArray 3)
    have CP := Lib.hid (l1PickInt_any A l c g [0, -1, -9, 1000008, 1000009, 9223372036854775807, -9223372036854775808] w4.heap.size 7 7 _ hl hb hc5 rfl (by simp) (by simp) (by have := hc.lt; omega) hx)
    have hq1 := blk_alloc hq (.cells (([0, -1, -9, 1000008, 1000009, 9223372036854775807, -9223372036854775808] : List Int).map (Value.int .i64)).toArray 3)
    have hz1 := blk_alloc hz (.cells (([0, -1, -9, 1000008, 1000009, 9223372036854775807, -9223372036854775808] : List Int).map (Value.int .i64)).toArray 3)
    have gr1 := grown_step gr (World.grownBy_alloc w4 (.cells (([0, -1, -9, 1000008, 1000009, 9223372036854775807, -9223372036854775808] : List Int).map (Value.int .i64)).toArray 3) none) (fun j h => by cases h)
    have F : Hid (_ ∧ _ ∧ _) := ⟨hq1, hz1, gr1⟩
    clear hq1 hz1 gr1 hx hc5 hq hz gr hc
    go_wp2_with fail
    refine CP.out.mono ?_
    rintro e w5 ⟨z, hzm, rfl, hc, gr5⟩
    have hz0 : inI z := by
      simp at hzm
      unfold inI
      omega
    clear hzm CP
    have hq := (gr5.block _ (blk_lt F.out.1) (fun e => by injection e with e; omega)).trans F.out.1
    have hz := (gr5.block _ (blk_lt F.out.2.1) (fun e => by injection e with e; omega)).trans F.out.2.1
    have gr := F.out.2.2.trans gr5
    clear F gr5
    have s0 := cell_of_row _ _ 0 _ _ _ hq
    have s1 := frozen_of_row _ _ 0 _ _ hq
    simp at s0
    have hq2 : (w5.setCell ⟨b, 0, none⟩ (.int .i64 z)).heap[b]? = some (.cells #[.int .i64 z, .int .i64 q.id] 33) := Go.heap_setCell_same _ b 0 _ _ (.int .i64 z) hq
    have hz2 := (heap_set_ne w5 b 0 (.int .i64 z) (show w.heap.size ≠ b by omega)).trans hz
    have hc2 := hc.setCell b 0 (.int .i64 z) (by omega)
    have gr2 := grown_setD gr b 0 (.int .i64 z) (by omega)
    obtain ⟨U, eU⟩ : ∃ U, w5.setCell ⟨b, 0, none⟩ (.int .i64 z) = U := ⟨_, rfl⟩
    rw [eU] at hq2 hz2 hc2 gr2
    clear hq hz hc gr
    have hq := hq2
    have hz := hz2
    have hc := hc2
    have gr := gr2
    clear hq2 hz2 hc2 gr2
    have a0 := cell_of_row _ _ 0 _ _ _ hq
    have a1 := cell_of_row _ _ 1 _ _ _ hq
    have e0 := cell_of_row _ _ 0 _ _ _ hz
    have f0 := frozen_of_row _ _ 0 _ _ hz
    have e1 := cell_of_row _ _ 1 _ _ _ hz
    have f1 := frozen_of_row _ _ 1 _ _ hz
    simp at a0 a1 e0 e1
    have HN : Hid (GotPn w g A l c (.returned (pnA (⟨z, q.id⟩ : Pn))) (putPn U w.heap.size (⟨z, q.id⟩ : Pn))) := ⟨(⟨z, q.id⟩ : Pn), ⟨hz0, hqf.2⟩, rfl, putPn_cur hc (by omega), putPn_grown gr (by omega)⟩
    clear hq hz hc gr
    unfold pnA putPn at HN
    go_wp2
    simp [bodyPost, results, Try.results51, go_sem, e0, e1]
    exact HN.out
  · skip
    have hx := ints_new w4 [0, 999, 1000, -1]
    have hc5 := hc.alloc (.cells (([0, 999, 1000, -1] : List Int).map (Value.int .i64)).toArray 3)
    have CP := Lib.hid (l1PickInt_any A l c g [0, 999, 1000, -1] w4.heap.size 4 4 _ hl hb hc5 rfl (by simp) (by simp) (by have := hc.lt; omega) hx)
    have hq1 := blk_alloc hq (.cells (([0, 999, 1000, -1] : List Int).map (Value.int .i64)).toArray 3)
    have hz1 := blk_alloc hz (.cells (([0, 999, 1000, -1] : List Int).map (Value.int .i64)).toArray 3)
    have gr1 := grown_step gr (World.grownBy_alloc w4 (.cells (([0, 999, 1000, -1] : List Int).map (Value.int .i64)).toArray 3) none) (fun j h => by cases h)
    have F : Hid (_ ∧ _ ∧ _) := ⟨hq1, hz1, gr1⟩
    clear hq1 hz1 gr1 hx hc5 hq hz gr hc
    go_wp2_with fail
    refine CP.out.mono ?_
    rintro e w5 ⟨z, hzm, rfl, hc, gr5⟩
    have hz0 : inI z := by
      simp at hzm
      unfold inI
      omega
    clear hzm CP
    have hq := (gr5.block _ (blk_lt F.out.1) (fun e => by injection e with e; omega)).trans F.out.1
    have hz := (gr5.block _ (blk_lt F.out.2.1) (fun e => by injection e with e; omega)).trans F.out.2.1
    have gr := F.out.2.2.trans gr5
    clear F gr5
    have s0 := cell_of_row _ _ 1 _ _ _ hq
    have s1 := frozen_of_row _ _ 1 _ _ hq
    simp at s0
    have hq2 : (w5.setCell ⟨b, 1, none⟩ (.int .i64 z)).heap[b]? = some (.cells #[.int .i64 q.at_, .int .i64 z] 33) := Go.heap_setCell_same _ b 1 _ _ (.int .i64 z) hq
    have hz2 := (heap_set_ne w5 b 1 (.int .i64 z) (show w.heap.size ≠ b by omega)).trans hz
    have hc2 := hc.setCell b 1 (.int .i64 z) (by omega)
    have gr2 := grown_setD gr b 1 (.int .i64 z) (by omega)
    obtain ⟨U, eU⟩ : ∃ U, w5.setCell ⟨b, 1, none⟩ (.int .i64 z) = U := ⟨_, rfl⟩
    rw [eU] at hq2 hz2 hc2 gr2
    clear hq hz hc gr
    have hq := hq2
    have hz := hz2
    have hc := hc2
    have gr := gr2
    clear hq2 hz2 hc2 gr2
    have a0 := cell_of_row _ _ 0 _ _ _ hq
    have a1 := cell_of_row _ _ 1 _ _ _ hq
    have e0 := cell_of_row _ _ 0 _ _ _ hz
    have f0 := frozen_of_row _ _ 0 _ _ hz
    have e1 := cell_of_row _ _ 1 _ _ _ hz
    have f1 := frozen_of_row _ _ 1 _ _ hz
    simp at a0 a1 e0 e1
    have HN : Hid (GotPn w g A l c (.returned (pnA (⟨q.at_, z⟩ : Pn))) (putPn U w.heap.size (⟨q.at_, z⟩ : Pn))) := ⟨(⟨q.at_, z⟩ : Pn), ⟨hqf.1, hz0⟩, rfl, putPn_cur hc (by omega), putPn_grown gr (by omega)⟩
    clear hq hz hc gr
    unfold pnA putPn at HN
    go_wp2
    simp [bodyPost, results, Try.results51, go_sem, e0, e1]
    exact HN.out
  · have k0 : ((k : Int) == 0) = false := by simp; omega
    have k1 : ((k : Int) == 1) = false := by simp; omega
    have a0 := cell_of_row _ _ 0 _ _ _ hq
    have a1 := cell_of_row _ _ 1 _ _ _ hq
    have e0 := cell_of_row _ _ 0 _ _ _ hz
    have f0 := frozen_of_row _ _ 0 _ _ hz
    have e1 := cell_of_row _ _ 1 _ _ _ hz
    have f1 := frozen_of_row _ _ 1 _ _ hz
    simp at a0 a1 e0 e1
    have HN : Hid (GotPn w g A l c (.returned (pnA q)) (putPn w4 w.heap.size q)) := ⟨q, hqf, rfl, putPn_cur hc (by omega), putPn_grown gr (by omega)⟩
    clear hq hz hc gr
    unfold pnA putPn at HN
    go_wp2
    simp [bodyPost, results, Try.results51, go_sem, e0, e1]
    exact HN.out
/-- Pins that were drawn. -/
def GotPns (w : World) (g : Nat) (A : Option Addr) (l : List Nat) (c m : Nat) (e : Ending) (w' : World) : Prop := ∃ (el : List Pn) (v : Value), el.length ≤ m ∧ (∀ f ∈ el, f.fits) ∧ e = .returned v ∧ w'.ownsRow w.heap.size 33 2 v el.length (el.flatMap pnC) ∧ Cur w' g A l c ∧ w.grownBy w' (some g)
set_option maxRecDepth 100000 in
set_option maxHeartbeats 1600000 in
theorem l9Pins_any (A : Option Addr) (l : List Nat) (c g : Nat) (w : World) (hl : l.length ≤ 2097152) (hb : AllB l) (hcw : Cur w g A l c) :
    Calls Try.prog 64 #[.pointer (some ⟨g, 0, none⟩)] w (GotPns w g A l c 7) := by
  have hlt := hcw.lt
  have gr0 := grown_made w (.cells #[] 33) g
  have o0 := own_empty w w.heap.size 33 2 (Nat.le_refl _)
  have hc0 := hcw.alloc (.cells #[] 33)
  have HO := Lib.hid (fun w' (h : (w.alloc (.cells #[] 33)).grownBy w' (some g)) => own_cur o0 h hlt)
  have HG := Lib.hid (fun w' (h : (w.alloc (.cells #[] 33)).grownBy w' (some g)) => gr0.trans h)
  clear o0 gr0
  go_enter Try.func64, Try.ntmps64
  go_wp2_with fail
  refine (l1Below_any A l c g 8 _ hl hb (by omega) (by omega) hc0).mono ?_
  rintro e w1 ⟨n, hn0, rfl, hc4, gr1⟩
  have o4 := HO.out _ gr1
  have g4 := HG.out _ gr1
  clear HO HG gr1 hc0
  go_wp2
  go_loopw [3, 5] (fun v i wr => ∃ (k : Nat) (el : List Pn), k ≤ n ∧ i = .int .i64 k ∧ Hid (el.length = k) ∧ (∀ f ∈ el, f.fits) ∧ wr.ownsRow w.heap.size 33 2 v el.length (el.flatMap pnC) ∧ Cur wr g A l c ∧ w.grownBy wr (some g)) (fun _ i _ => n - (intOf i).toNat)
  case atStart => exact ⟨0, [], by omega, rfl, rfl, (fun f hf => by cases hf), o4, hc4, g4⟩
  case round =>
    clear o4 hc4 g4
    obtain ⟨k, el, hk, rfl, hkl, hel, hown, hcr, hgr⟩ := hrel
    obtain ⟨OA, oc, rfl, _⟩ := own_form hown
    by_cases hk2 : k < n
    · go_wp2_with fail
      refine (l9Pin_any A l c g _ hl hb hcr).mono ?_
      rintro e w5 ⟨x, hxf, rfl, hc5, gr5⟩
      have hown := own_cur hown gr5 hlt
      have hgr := hgr.trans gr5
      have O1 := Lib.hid (World.ownsRow.alloc hown (.cells #[.int .i64 x.at_, .int .i64 x.id] 33))
      have RN : Hid (Rws (w5.alloc (.cells #[.int .i64 x.at_, .int .i64 x.id] 33)) (w5.heap.size + 1) (some ⟨w5.heap.size, 0, none⟩) (pnC x)) := Rws.new w5 (pnC x) 33
      have hcr := hc5.alloc (.cells #[.int .i64 x.at_, .int .i64 x.id] 33)
      have lt5 := hgr.size
      have hgr := grown_step hgr (World.grownBy_alloc w5 (.cells #[.int .i64 x.at_, .int .i64 x.id] 33) none) (fun j h => by cases h)
      clear gr5 hc5 hown
      unfold pnA
      go_wp2_with (at_builtin; refine wpList_appR rowPin _ rfl (.tmp 14) (.tmp 17) rfl w.heap.size _ el.length (el.flatMap pnC) rfl O1.out _ (some ⟨w5.heap.size, 0, none⟩) 1 1 (pnC x) rfl rfl RN.out (by simp) (by intro u hu; simp [pnC] at hu; rcases hu with rfl | rfl <;> rfl) (by have := hkl.out; omega) (by simp; omega) ?_)
      intro v2 w2 o2 g2
      have O2 : Hid (w2.ownsRow w.heap.size 33 2 v2 (el ++ [x]).length ((el ++ [x]).flatMap pnC)) := by
        show World.ownsRow _ _ _ _ _ _ _
        rw [List.length_append, List.flatMap_append]
        have e : [x].flatMap pnC = pnC x := by simp
        rw [e]; exact o2
      have C2 : Hid (Cur w2 g A l c) := hcr.grown g2 (fun j hj => by have := own_low O1.out j hj; omega)
      have G2 : Hid (w.grownBy w2 (some g)) := grown_step hgr g2 (own_low O1.out)
      have F2 : Hid (∀ f ∈ el ++ [x], f.fits) := fun f hf => by
        rcases List.mem_append.1 hf with h | h
        · exact hel f h
        · have : f = x := by simpa using h
          rw [this]; exact hxf
      clear o2 g2 O1 RN hcr hgr
      go_wp2
      go_roundw
      case rel => exact ⟨k + 1, el ++ [x], by omega, by go_num, (by show _ = _; have := hkl.out; simp [this]), F2.out, O2.out, C2.out, G2.out⟩
      case measure => simp [intOf]; omega
    · go_wp2
      go_ret
      exact ⟨el, _, by have := hkl.out; omega, hel, rfl, hown, hcr, hgr⟩
end Go.Proofs.Ytflomkebgiemaaa
