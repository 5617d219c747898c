/- l7Parties of the model. -/
import Derived.Test.YtdjglbmcpfaofaaRows
import Derived.Test.YtdjglbmcpfaofaaCbB
namespace Go.Proofs.Ytdjglbmcpfaofaa
open Go.RowKit
set_option linter.unusedSimpArgs false
set_option linter.unusedVariables false
def GotPts (w : World) (g : Nat) (A : Option Addr) (l : List Nat) (c : Nat) (e : Ending) (w' : World) : Prop := ∃ (el : List Pt) (v : Value), el.length ≤ 7 ∧ (∀ f ∈ el, f.fits) ∧ e = .returned v ∧ w'.ownsRow w.heap.size 65 10 v el.length (el.flatMap ptC) ∧ Cur w' g A l c ∧ w.grownBy w' (some g)
set_option maxRecDepth 100000 in
set_option maxHeartbeats 6400000 in
theorem l7Parties_any (A RA : Option Addr) (l : List Nat) (c g rc base : Nat) (r : Ru) (now : Int) (w : World) (hl : l.length ≤ 2097152) (hb : AllB l) (hcw : Cur w g A l c) (hr : RuOk r) (hnow : 0 ≤ now ∧ now ≤ 1000) (hRA : w.ownsRow base 3 1 (.slice RA r.seats.length rc) r.seats.length (ints r.seats)) (hgb : g < base) :
    Calls Try.prog 77 #[.pointer (some ⟨g, 0, none⟩), ruV RA rc r, .int .i64 now] w (GotPts w g A l c) := by
  have hlt := hcw.lt
  obtain ⟨W, hW⟩ : ∃ W, (w.alloc (.cells #[.slice RA r.seats.length rc, .int .i64 r.tiers, .int .i64 r.room, .int .i64 r.size, .int .i64 r.period, .int .i64 r.window, .int .i64 r.rest, .int .i64 r.tries, .int .i64 r.crew] 101)).alloc (.cells #[] 65) = W := ⟨_, rfl⟩
  have hWs : W.heap.size = w.heap.size + 2 := by rw [← hW]; simp
  have T0 : W.heap[w.heap.size]? = some (.cells #[.slice RA r.seats.length rc, .int .i64 r.tiers, .int .i64 r.room, .int .i64 r.size, .int .i64 r.period, .int .i64 r.window, .int .i64 r.rest, .int .i64 r.tries, .int .i64 r.crew] 101) := by rw [← hW]; exact blk_alloc (heap_new w _) _
  have g0 : w.grownBy W (some g) := by rw [← hW]; exact grown_step (grown_made w _ g) (World.grownBy_alloc _ _ none) (fun j h => by cases h)
  have hcW : Cur W g A l c := by rw [← hW]; exact (hcw.alloc _).alloc _
  have o0 : W.ownsRow (w.heap.size + 1) 65 10 (.slice (some ⟨w.heap.size + 1, 0, none⟩) 0 0) 0 [] := by
    rw [← hW]
    have := own_empty (w.alloc (.cells #[.slice RA r.seats.length rc, .int .i64 r.tiers, .int .i64 r.room, .int .i64 r.size, .int .i64 r.period, .int .i64 r.window, .int .i64 r.rest, .int .i64 r.tries, .int .i64 r.crew] 101)) (w.heap.size + 1) 65 10 (by simp)
    simpa [World.size_alloc] using this
  have HR := Lib.hid hr
  have HN := Lib.hid hnow
  have HRA := Lib.hid (fun w' (h : w.grownBy w' (some g)) => own_cur hRA h hgb)
  have HT := Lib.hid (fun w' (h : W.grownBy w' (some g)) => grown_keep h T0 (by omega))
  have HO := Lib.hid (fun w' (h : W.grownBy w' (some g)) => own_cur o0 h (by omega))
  have HG := Lib.hid (fun w' (h : W.grownBy w' (some g)) => g0.trans h)
  have hgW : g < W.heap.size := hcW.lt
  clear o0 T0 hRA hcw hr hnow
  unfold ruV
  go_enter Try.func77, Try.ntmps77
  go_wp2_with fail
  clear hW
  refine (l1Below_any A l c g 8 _ hl hb (by omega) (by omega) hcW).mono ?_
  rintro e w1 ⟨n, hn0, rfl, hc4, gr1⟩
  have o4 := HO.out _ gr1
  have g4 := HG.out _ gr1
  have t4 := HT.out _ gr1
  clear hcW g0 HO HT HG gr1
  go_wp2
  go_loopw [7, 9] (fun v i wr => ∃ (k : Nat) (el : List Pt), k ≤ n ∧ i = .int .i64 k ∧ Hid (el.length = k) ∧ (∀ f ∈ el, f.fits) ∧ wr.ownsRow (w.heap.size + 1) 65 10 v el.length (el.flatMap ptC) ∧ Cur wr g A l c ∧ w.grownBy wr (some g) ∧ wr.heap[w.heap.size]? = some (.cells #[.slice RA r.seats.length rc, .int .i64 r.tiers, .int .i64 r.room, .int .i64 r.size, .int .i64 r.period, .int .i64 r.window, .int .i64 r.rest, .int .i64 r.tries, .int .i64 r.crew] 101)) (fun _ i _ => n - (intOf i).toNat)
  case atStart => exact ⟨0, [], by omega, rfl, rfl, (fun f hf => by cases hf), o4, hc4, g4, t4⟩
  case round =>
    clear o4 hc4 g4 t4
    obtain ⟨k, el, hk, rfl, hkl, hel, hown, hcr, hgr, TB⟩ := hrel
    obtain ⟨OA, oc, rfl, _⟩ := own_form hown
    by_cases hk2 : k < n
    · have k00 := cell_of_row _ _ 0 _ _ _ TB
      have k01 := cell_of_row _ _ 1 _ _ _ TB
      have k02 := cell_of_row _ _ 2 _ _ _ TB
      have k03 := cell_of_row _ _ 3 _ _ _ TB
      have k04 := cell_of_row _ _ 4 _ _ _ TB
      have k05 := cell_of_row _ _ 5 _ _ _ TB
      have k06 := cell_of_row _ _ 6 _ _ _ TB
      have k07 := cell_of_row _ _ 7 _ _ _ TB
      have k08 := cell_of_row _ _ 8 _ _ _ TB
      simp at k00 k01 k02 k03 k04 k05 k06 k07 k08
      have CB := Lib.hid (l6Bent_any A RA l c g rc base r now _ hl hb hcr HR.out HN.out (HRA.out _ hgr) hgb)
      unfold ruV at CB
      have HTB := Lib.hid TB
      clear TB
      go_wp2_with fail
      refine CB.out.mono ?_
      clear k00 k01 k02 k03 k04 k05 k06 k07 k08 CB
      rintro e w5 ⟨x, rfl, hxf, hc5, gr5⟩
      have hown := own_cur hown gr5 (by omega)
      have TB5 := blk_alloc (grown_keep gr5 HTB.out (by omega)) (.cells #[.int .i64 x.id, .int .i64 x.cabin, .int .i64 x.from_, .int .i64 x.size, .int .i64 x.tier, .int .i64 x.since, .int .i64 x.turn, .int .i64 x.state, .int .i64 x.until_, .int .i64 x.asked] 65)
      have hgr := hgr.trans gr5
      have O1 := Lib.hid (World.ownsRow.alloc hown (.cells #[.int .i64 x.id, .int .i64 x.cabin, .int .i64 x.from_, .int .i64 x.size, .int .i64 x.tier, .int .i64 x.since, .int .i64 x.turn, .int .i64 x.state, .int .i64 x.until_, .int .i64 x.asked] 65))
      have RN : Hid (Rws (w5.alloc (.cells #[.int .i64 x.id, .int .i64 x.cabin, .int .i64 x.from_, .int .i64 x.size, .int .i64 x.tier, .int .i64 x.since, .int .i64 x.turn, .int .i64 x.state, .int .i64 x.until_, .int .i64 x.asked] 65)) (w5.heap.size + 1) (some ⟨w5.heap.size, 0, none⟩) (ptC x)) := Rws.new w5 (ptC x) 65
      have hcr := hc5.alloc (.cells #[.int .i64 x.id, .int .i64 x.cabin, .int .i64 x.from_, .int .i64 x.size, .int .i64 x.tier, .int .i64 x.since, .int .i64 x.turn, .int .i64 x.state, .int .i64 x.until_, .int .i64 x.asked] 65)
      have lt5 := hgr.size
      have hgr := grown_step hgr (World.grownBy_alloc w5 (.cells #[.int .i64 x.id, .int .i64 x.cabin, .int .i64 x.from_, .int .i64 x.size, .int .i64 x.tier, .int .i64 x.since, .int .i64 x.turn, .int .i64 x.state, .int .i64 x.until_, .int .i64 x.asked] 65) none) (fun j h => by cases h)
      clear gr5 hc5 hown
      unfold ptA
      go_wp2_with (at_builtin; refine wpList_appR rowPty _ rfl (.tmp 18) (.tmp 23) rfl (w.heap.size + 1) _ el.length (el.flatMap ptC) rfl O1.out _ (some ⟨w5.heap.size, 0, none⟩) 1 1 (ptC x) rfl rfl RN.out (by simp) (by intro u hu; simp [ptC] at hu; rcases hu with rfl | rfl | rfl | rfl | rfl | rfl | rfl | rfl | rfl | rfl <;> rfl) (by have := hkl.out; omega) (by simp; omega) ?_)
      intro v2 w2 o2 g2
      have O2 : Hid (w2.ownsRow (w.heap.size + 1) 65 10 v2 (el ++ [x]).length ((el ++ [x]).flatMap ptC)) := by
        show World.ownsRow _ _ _ _ _ _ _
        rw [List.length_append, List.flatMap_append]
        have e : [x].flatMap ptC = ptC x := by simp
        rw [e]; exact o2
      have C2 : Hid (Cur w2 g A l c) := hcr.grown g2 (fun j hj => by have := own_low O1.out j hj; omega)
      have G2 : Hid (w.grownBy w2 (some g)) := grown_step hgr g2 (fun j hj => by have := own_low O1.out j hj; omega)
      have B2 : Hid (w2.heap[w.heap.size]? = some (.cells #[.slice RA r.seats.length rc, .int .i64 r.tiers, .int .i64 r.room, .int .i64 r.size, .int .i64 r.period, .int .i64 r.window, .int .i64 r.rest, .int .i64 r.tries, .int .i64 r.crew] 101)) := (g2.block _ (blk_lt TB5) (fun e => by have := own_low O1.out _ e.symm; omega)).trans TB5
      have F2 : Hid (∀ f ∈ el ++ [x], f.fits) := fun f hf => by
        rcases List.mem_append.1 hf with h | h
        · exact hel f h
        · have : f = x := by simpa using h
          rw [this]; exact hxf
      clear o2 g2 O1 RN hcr hgr TB5 HTB
      go_wp2
      go_roundw
      case rel => exact ⟨k + 1, el ++ [x], by omega, by go_num, (by show _ = _; have := hkl.out; simp [this]), F2.out, O2.out, C2.out, G2.out, B2.out⟩
      case measure => simp [intOf]; omega
    · go_wp2
      go_ret
      exact ⟨el, _, by have := hkl.out; omega, hel, rfl, own_weak hown (by omega), hcr, hgr⟩
end Go.Proofs.Ytdjglbmcpfaofaa
