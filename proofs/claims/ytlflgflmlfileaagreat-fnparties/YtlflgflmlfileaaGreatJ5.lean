/- Texts laid together: CbA, CbB. -/
import Derived.Test.YtlflgflmlfileaaGreatRows
import Derived.Test.YtlflgflmlfileaaGreatJ6
import Derived.Test.YtlflgflmlfileaaGreatLateF
import Derived.Test.YtlflgflmlfileaaGreatG7
import Derived.Test.YtlflgflmlfileaaGreatHs10
import Derived.Test.YtlflgflmlfileaaGreatHs6
import Derived.Test.YtlflgflmlfileaaGreatJ3
namespace Go.Proofs.YtlflgflmlfileaaGreat
open Go.RowKit
set_option linter.unusedSimpArgs false
set_option linter.unusedVariables false
/-- What l6Right hands out. -/
def GotPf (w : World) (g : Nat) (A : Option Addr) (l : List Nat) (c : Nat) (e : Ending) (w' : World) : Prop := ∃ p : Pt, e = .returned (ptA p) ∧ p.fits ∧ Cur w' g A l c ∧ w.grownBy w' (some g)
set_option maxRecDepth 100000 in
set_option maxHeartbeats 12800000 in
theorem l6Right_fits (A RA : Option Addr) (l : List Nat) (c g rc : Nat) (r : Ru) (now : Int) (w : World) (hl : l.length ≤ 2097152) (hb : AllB l) (hcw : Cur w g A l c) (hr : RuOk r) (hnow : 0 ≤ now ∧ now ≤ 1000) :
    Calls Tryz.prog 12 #[.pointer (some ⟨g, 0, none⟩), ruV RA rc r, .int .i64 now] w (GotPf w g A l c) := by
  obtain ⟨W, hW⟩ : ∃ W, (w.alloc (.cells #[.slice RA r.seats.length rc, .int .i64 r.tiers, .int .i64 r.room, .int .i64 r.size, .int .i64 r.period, .int .i64 r.window, .int .i64 r.rest, .int .i64 r.tries, .int .i64 r.crew] 34)).alloc (.cells #[.int .i64 0, .int .i64 0, .int .i64 0, .int .i64 0, .int .i64 0, .int .i64 0, .int .i64 0, .int .i64 0, .int .i64 0, .int .i64 0] 26) = W := ⟨_, rfl⟩
  have T0 : W.heap[w.heap.size]? = some (.cells #[.slice RA r.seats.length rc, .int .i64 r.tiers, .int .i64 r.room, .int .i64 r.size, .int .i64 r.period, .int .i64 r.window, .int .i64 r.rest, .int .i64 r.tries, .int .i64 r.crew] 34) ∧ W.heap[w.heap.size + 1]? = some (.cells #[.int .i64 0, .int .i64 0, .int .i64 0, .int .i64 0, .int .i64 0, .int .i64 0, .int .i64 0, .int .i64 0, .int .i64 0, .int .i64 0] 26) ∧ Below w.heap.size w W := by rw [← hW]; exact two_at w _ _ _ (Below.refl _ _)
  have hgw := hcw.lt
  have hcW : Cur W g A l c := by rw [← hW]; exact (hcw.alloc _).alloc _
  have gW : Hid (w.grownBy W (some g)) := by show World.grownBy _ _ _; rw [← hW]; exact grown_step (World.grownBy_alloc _ _ _) (World.grownBy_alloc _ _ none) (fun j h => by cases h)
  have hgW : g < W.heap.size := hcW.lt
  obtain ⟨n1, n2, seat, t, ro, s, p, wi, re, tr, cr⟩ := hr
  obtain ⟨NS, eS⟩ : ∃ n : Nat, r.size = (n : Int) := ⟨r.size.toNat, by omega⟩
  obtain ⟨NT, eT⟩ : ∃ n : Nat, r.tiers = (n : Int) := ⟨r.tiers.toNat, by omega⟩
  obtain ⟨NR, eR⟩ : ∃ n : Nat, r.tries = (n : Int) := ⟨r.tries.toNat, by omega⟩
  have ES := Lib.hid eS
  have ET := Lib.hid eT
  have ER := Lib.hid eR
  have hNS : 1 ≤ NS ∧ NS ≤ 6 := by omega
  have hNT : 1 ≤ NT ∧ NT ≤ 5 := by omega
  have hNR : 1 ≤ NR ∧ NR ≤ 4 := by omega
  clear eS eT eR
  have KR := Lib.hid (fun w' (h : W.grownBy w' (some g)) => (h.block _ (blk_lt T0.1) (fun e => by injection e with e; omega)).trans T0.1)
  have KZ := Lib.hid (fun w' (h : W.grownBy w' (some g)) => (h.block _ (blk_lt T0.2.1) (fun e => by injection e with e; omega)).trans T0.2.1)
  have ltW : w.heap.size + 1 < W.heap.size := blk_lt T0.2.1
  have HC := Lib.hid hcW
  clear T0 hcW hcw
  unfold ruV
  go_enter Tryz.func12, Tryz.ntmps12
  go_wp2_with fail
  clear hW
  have K0 := Lib.hid (fun w' (h : W.grownBy w' (some g)) => cell_of_row _ _ 0 _ _ _ (KR.out w' h))
  have K3 : Hid (∀ w', W.grownBy w' (some g) → w'.cell? ⟨w.heap.size, 3, none⟩ = some (.int .i64 (NS : Int))) := fun w' h => by have := cell_of_row _ _ 3 _ _ _ (KR.out w' h); simp at this; rw [this, ES.out]
  have K1 : Hid (∀ w', W.grownBy w' (some g) → w'.cell? ⟨w.heap.size, 1, none⟩ = some (.int .i64 (NT : Int))) := fun w' h => by have := cell_of_row _ _ 1 _ _ _ (KR.out w' h); simp at this; rw [this, ET.out]
  have K7 : Hid (∀ w', W.grownBy w' (some g) → w'.cell? ⟨w.heap.size, 7, none⟩ = some (.int .i64 (NR : Int))) := fun w' h => by have := cell_of_row _ _ 7 _ _ _ (KR.out w' h); simp at this; rw [this, ER.out]
  go_cut [7] (fun s7 wx => ∃ (gp : Nat) (p : Pt), s7 = .pointer (some ⟨gp, 0, none⟩) ∧ wx.heap[gp]? = some (.cells #[.int .i64 p.id, .int .i64 p.cabin, .int .i64 p.from_, .int .i64 p.size, .int .i64 p.tier, .int .i64 p.since, .int .i64 p.turn, .int .i64 p.state, .int .i64 p.until_, .int .i64 p.asked] 26) ∧ W.heap.size ≤ gp ∧ Cur wx g A l c ∧ W.grownBy wx (some g) ∧ p.fits)
  case first =>
    refine wp_region_held_drew (S := fun w' => Hid (W.grownBy w' (some g))) (by kernel_rfl) (grown_of_below (below_drawn (Below.refl W.heap.size W) 1) _) (fun hHeld => ?_)
    have b0 := hHeld.out
    have hc0 : Cur W.drew g A l c := HC.out.mem (below_drawn (Below.refl _ _) 1)
    refine held_take 0 8 (.pointer (some ⟨g, 0, none⟩)) rfl rfl (by kernel_rfl) (by kernel_rfl) (by kernel_rfl) (fun _ _ _ h => h) rfl b0 (fun w _ => rfl) ?_
    refine held_take 3 11 (.pointer (some ⟨g, 0, none⟩)) rfl rfl (by kernel_rfl) (by kernel_rfl) (by kernel_rfl) (fun _ _ _ h => h) rfl b0 (fun w _ => rfl) ?_
    simp only [Act.put, List.setIfInBounds_toArray, List.set_cons_zero, List.set_cons_succ]
    refine held_take 8 16 (.pointer (some ⟨g, 0, none⟩)) rfl rfl (by kernel_rfl) (by kernel_rfl) (by kernel_rfl) (fun _ _ _ h => h) rfl b0 (fun w _ => rfl) ?_
    refine held_take 13 21 (.pointer (some ⟨g, 0, none⟩)) rfl rfl (by kernel_rfl) (by kernel_rfl) (by kernel_rfl) (fun _ _ _ h => h) rfl b0 (fun w _ => rfl) ?_
    simp only [Act.put, List.setIfInBounds_toArray, List.set_cons_zero, List.set_cons_succ]
    refine held_take 17 25 (.pointer (some ⟨g, 0, none⟩)) rfl rfl (by kernel_rfl) (by kernel_rfl) (by kernel_rfl) (fun _ _ _ h => h) rfl b0 (fun w _ => rfl) ?_
    refine held_take 20 28 (.pointer (some ⟨g, 0, none⟩)) rfl rfl (by kernel_rfl) (by kernel_rfl) (by kernel_rfl) (fun _ _ _ h => h) rfl b0 (fun w _ => rfl) ?_
    simp only [Act.put, List.setIfInBounds_toArray, List.set_cons_zero, List.set_cons_succ]
    refine held_take 4 12 (.pointer (some ⟨w.heap.size, 0, none⟩)) rfl rfl (by kernel_rfl) (by kernel_rfl) (by kernel_rfl) (fun _ _ _ h => h) rfl b0 (fun w _ => exec_fldRu _ 0 w (by omega)) ?_
    refine held_take 5 13 (.slice RA r.seats.length rc) rfl rfl (by kernel_rfl) (by kernel_rfl) (by kernel_rfl) (fun _ _ _ h => h) rfl b0 (fun w h => exec_loadSl _ _ 0 _ _ _ w rfl (K0.out w h.out)) ?_
    simp only [Act.put, List.setIfInBounds_toArray, List.set_cons_zero, List.set_cons_succ]
    refine held_take 6 14 (.int .i64 (r.seats.length : Nat)) rfl rfl (by kernel_rfl) (by kernel_rfl) (by kernel_rfl) (fun _ _ _ h => h) rfl b0 (fun w _ => exec_lenT rowInt _ _ _ w) ?_
    refine held_take 9 17 (.pointer (some ⟨w.heap.size, 3, none⟩)) rfl rfl (by kernel_rfl) (by kernel_rfl) (by kernel_rfl) (fun _ _ _ h => h) rfl b0 (fun w _ => exec_fldRu _ 3 w (by omega)) ?_
    simp only [Act.put, List.setIfInBounds_toArray, List.set_cons_zero, List.set_cons_succ]
    refine held_take 10 18 (.int .i64 (NS : Nat)) rfl rfl (by kernel_rfl) (by kernel_rfl) (by kernel_rfl) (fun _ _ _ h => h) rfl b0 (fun w h => exec_load1 3 _ 3 _ w (.inl rfl) (K3.out w h.out)) ?_
    refine held_take 14 22 (.pointer (some ⟨w.heap.size, 1, none⟩)) rfl rfl (by kernel_rfl) (by kernel_rfl) (by kernel_rfl) (fun _ _ _ h => h) rfl b0 (fun w _ => exec_fldRu _ 1 w (by omega)) ?_
    simp only [Act.put, List.setIfInBounds_toArray, List.set_cons_zero, List.set_cons_succ]
    refine held_take 15 23 (.int .i64 (NT : Nat)) rfl rfl (by kernel_rfl) (by kernel_rfl) (by kernel_rfl) (fun _ _ _ h => h) rfl b0 (fun w h => exec_load1 3 _ 1 _ w (.inl rfl) (K1.out w h.out)) ?_
    refine held_take 21 29 (.pointer (some ⟨w.heap.size, 7, none⟩)) rfl rfl (by kernel_rfl) (by kernel_rfl) (by kernel_rfl) (fun _ _ _ h => h) rfl b0 (fun w _ => exec_fldRu _ 7 w (by omega)) ?_
    simp only [Act.put, List.setIfInBounds_toArray, List.set_cons_zero, List.set_cons_succ]
    refine held_take 22 30 (.int .i64 (NR : Nat)) rfl rfl (by kernel_rfl) (by kernel_rfl) (by kernel_rfl) (fun _ _ _ h => h) rfl b0 (fun w h => exec_load1 3 _ 7 _ w (.inl rfl) (K7.out w h.out)) ?_
    simp only [Act.put, List.setIfInBounds_toArray, List.set_cons_zero, List.set_cons_succ]
    refine wpAnyH_ready (rs := [1, 25]) (by kernel_rfl) (by simp) (ready_call 1 9 21 #[.pointer (some ⟨g, 0, none⟩), .int .i64 (12 : Int)] rfl rfl rfl (exec_call Tryz.func21 (by kernel_rfl) (by kernel_rfl) _) ?_ (ready_op 25 7 _ rfl rfl rfl (exec_alloc_pt _) (grown_step b0 (World.grownBy_alloc _ _ none) (fun j h => by cases h)) ?_ AllReadyH.nil))
    · skip
      refine (l1Below_any A l c g 12 _ hl hb (by omega) (by omega) hc0).mono ?_
      rintro e v1 ⟨x1, hx1, rfl, hc1, gr1⟩
      have b1 := b0.trans gr1
      refine ⟨_, rfl, b1, ?_⟩
      simp only [Act.put, List.setIfInBounds_toArray, List.set_cons_zero, List.set_cons_succ]
      refine held_take 2 10 (.int .i64 (1 + (x1 : Int))) rfl rfl (by kernel_rfl) (by kernel_rfl) (by kernel_rfl) (fun _ _ _ h => h) rfl b1 (fun w _ => exec_addI 1 (x1 : Int) _ w rfl (by omega) (by omega)) ?_
      simp only [Act.put, List.setIfInBounds_toArray, List.set_cons_zero, List.set_cons_succ]
      refine wpAnyH_ready (rs := [7, 25]) (by kernel_rfl) (by simp) (ready_call 7 15 21 #[.pointer (some ⟨g, 0, none⟩), .int .i64 ((r.seats.length : Nat) : Int)] rfl rfl rfl (exec_call Tryz.func21 (by kernel_rfl) (by kernel_rfl) _) ?_ (ready_op 25 7 _ rfl rfl rfl (exec_alloc_pt _) (grown_step b1 (World.grownBy_alloc _ _ none) (fun j h => by cases h)) ?_ AllReadyH.nil))
      · skip
        refine (l1Below_any A l c g r.seats.length _ hl hb (by omega) (by omega) hc1).mono ?_
        rintro e v2 ⟨x2, hx2, rfl, hc2, gr2⟩
        have b2 := b1.trans gr2
        refine ⟨_, rfl, b2, ?_⟩
        simp only [Act.put, List.setIfInBounds_toArray, List.set_cons_zero, List.set_cons_succ]
        refine wpAnyH_ready (rs := [11, 25]) (by kernel_rfl) (by simp) (ready_call 11 19 21 #[.pointer (some ⟨g, 0, none⟩), .int .i64 ((NS : Nat) : Int)] rfl rfl rfl (exec_call Tryz.func21 (by kernel_rfl) (by kernel_rfl) _) ?_ (ready_op 25 7 _ rfl rfl rfl (exec_alloc_pt _) (grown_step b2 (World.grownBy_alloc _ _ none) (fun j h => by cases h)) ?_ AllReadyH.nil))
        · skip
          refine (l1Below_any A l c g NS _ hl hb (by omega) (by omega) hc2).mono ?_
          rintro e v3 ⟨x3, hx3, rfl, hc3, gr3⟩
          have b3 := b2.trans gr3
          refine ⟨_, rfl, b3, ?_⟩
          simp only [Act.put, List.setIfInBounds_toArray, List.set_cons_zero, List.set_cons_succ]
          refine held_take 12 20 (.int .i64 (1 + (x3 : Int))) rfl rfl (by kernel_rfl) (by kernel_rfl) (by kernel_rfl) (fun _ _ _ h => h) rfl b3 (fun w _ => exec_addI 1 (x3 : Int) _ w rfl (by omega) (by omega)) ?_
          simp only [Act.put, List.setIfInBounds_toArray, List.set_cons_zero, List.set_cons_succ]
          refine wpAnyH_ready (rs := [16, 25]) (by kernel_rfl) (by simp) (ready_call 16 24 21 #[.pointer (some ⟨g, 0, none⟩), .int .i64 ((NT : Nat) : Int)] rfl rfl rfl (exec_call Tryz.func21 (by kernel_rfl) (by kernel_rfl) _) ?_ (ready_op 25 7 _ rfl rfl rfl (exec_alloc_pt _) (grown_step b3 (World.grownBy_alloc _ _ none) (fun j h => by cases h)) ?_ AllReadyH.nil))
          · skip
            refine (l1Below_any A l c g NT _ hl hb (by omega) (by omega) hc3).mono ?_
            rintro e v4 ⟨x4, hx4, rfl, hc4, gr4⟩
            have b4 := b3.trans gr4
            refine ⟨_, rfl, b4, ?_⟩
            simp only [Act.put, List.setIfInBounds_toArray, List.set_cons_zero, List.set_cons_succ]
            refine wpAnyH_ready (rs := [18, 25]) (by kernel_rfl) (by simp) (ready_call 18 26 21 #[.pointer (some ⟨g, 0, none⟩), .int .i64 (40 : Int)] rfl rfl rfl (exec_call Tryz.func21 (by kernel_rfl) (by kernel_rfl) _) ?_ (ready_op 25 7 _ rfl rfl rfl (exec_alloc_pt _) (grown_step b4 (World.grownBy_alloc _ _ none) (fun j h => by cases h)) ?_ AllReadyH.nil))
            · skip
              refine (l1Below_any A l c g 40 _ hl hb (by omega) (by omega) hc4).mono ?_
              rintro e v5 ⟨x5, hx5, rfl, hc5, gr5⟩
              have b5 := b4.trans gr5
              refine ⟨_, rfl, b5, ?_⟩
              simp only [Act.put, List.setIfInBounds_toArray, List.set_cons_zero, List.set_cons_succ]
              refine held_take 19 27 (.int .i64 (1 + (x5 : Int))) rfl rfl (by kernel_rfl) (by kernel_rfl) (by kernel_rfl) (fun _ _ _ h => h) rfl b5 (fun w _ => exec_addI 1 (x5 : Int) _ w rfl (by omega) (by omega)) ?_
              simp only [Act.put, List.setIfInBounds_toArray, List.set_cons_zero, List.set_cons_succ]
              refine wpAnyH_ready (rs := [23, 25]) (by kernel_rfl) (by simp) (ready_call 23 31 21 #[.pointer (some ⟨g, 0, none⟩), .int .i64 ((NR : Nat) : Int)] rfl rfl rfl (exec_call Tryz.func21 (by kernel_rfl) (by kernel_rfl) _) ?_ (ready_op 25 7 _ rfl rfl rfl (exec_alloc_pt _) (grown_step b5 (World.grownBy_alloc _ _ none) (fun j h => by cases h)) ?_ AllReadyH.nil))
              · skip
                refine (l1Below_any A l c g NR _ hl hb (by omega) (by omega) hc5).mono ?_
                rintro e v6 ⟨x6, hx6, rfl, hc6, gr6⟩
                have b6 := b5.trans gr6
                refine ⟨_, rfl, b6, ?_⟩
                simp only [Act.put, List.setIfInBounds_toArray, List.set_cons_zero, List.set_cons_succ]
                refine held_take 24 32 (ptA (⟨1 + (x1 : Int), (x2 : Int), -1, 1 + (x3 : Int), (x4 : Int), 0, 1 + (x5 : Int), 1, 0, (x6 : Int)⟩ : Pt)) rfl rfl (by kernel_rfl) (by kernel_rfl) (by kernel_rfl) (fun _ _ _ h => h) rfl b6 (fun w _ => exec_build_pt (⟨1 + (x1 : Int), (x2 : Int), -1, 1 + (x3 : Int), (x4 : Int), 0, 1 + (x5 : Int), 1, 0, (x6 : Int)⟩ : Pt) w rfl rfl) ?_
                simp only [Act.put, List.setIfInBounds_toArray, List.set_cons_zero, List.set_cons_succ]
                refine held_op 25 7 _ rfl rfl (by kernel_rfl) rfl (exec_alloc_pt _) (grown_step b6 (World.grownBy_alloc _ _ none) (fun j h => by cases h)) ?_
                simp only [Act.put, List.setIfInBounds_toArray, List.set_cons_zero, List.set_cons_succ]
                have l7 := b6.size
                have b7 := grown_step b6 (World.grownBy_alloc _ (.cells #[.int .i64 0, .int .i64 0, .int .i64 0, .int .i64 0, .int .i64 0, .int .i64 0, .int .i64 0, .int .i64 0, .int .i64 0, .int .i64 0] 26) none) (fun j h => by cases h)
                have hc7 := hc6.alloc (.cells #[.int .i64 0, .int .i64 0, .int .i64 0, .int .i64 0, .int .i64 0, .int .i64 0, .int .i64 0, .int .i64 0, .int .i64 0, .int .i64 0] 26)
                have g7 := heap_newB b6 (.cells #[.int .i64 0, .int .i64 0, .int .i64 0, .int .i64 0, .int .i64 0, .int .i64 0, .int .i64 0, .int .i64 0, .int .i64 0, .int .i64 0] 26)
                refine held_store 26 rfl rfl (by kernel_rfl) rfl (exec_store_pt _ (⟨1 + (x1 : Int), (x2 : Int), -1, 1 + (x3 : Int), (x4 : Int), 0, 1 + (x5 : Int), 1, 0, (x6 : Int)⟩ : Pt) _ g7) (putPt_grown (p := (⟨1 + (x1 : Int), (x2 : Int), -1, 1 + (x3 : Int), (x4 : Int), 0, 1 + (x5 : Int), 1, 0, (x6 : Int)⟩ : Pt)) b7 l7) ?_
                refine wpAnyH_done (by kernel_rfl) ?_ _
                have h9 := putPt_heap (p := (⟨1 + (x1 : Int), (x2 : Int), -1, 1 + (x3 : Int), (x4 : Int), 0, 1 + (x5 : Int), 1, 0, (x6 : Int)⟩ : Pt)) g7
                have c9 := putPt_cur (p := (⟨1 + (x1 : Int), (x2 : Int), -1, 1 + (x3 : Int), (x4 : Int), 0, 1 + (x5 : Int), 1, 0, (x6 : Int)⟩ : Pt)) hc7 (Nat.lt_of_lt_of_le hgW l7)
                have b9 := putPt_grown (p := (⟨1 + (x1 : Int), (x2 : Int), -1, 1 + (x3 : Int), (x4 : Int), 0, 1 + (x5 : Int), 1, 0, (x6 : Int)⟩ : Pt)) b7 l7
                go_wp2_with fail
                go_meet
                exact ⟨_, (⟨1 + (x1 : Int), (x2 : Int), -1, 1 + (x3 : Int), (x4 : Int), 0, 1 + (x5 : Int), 1, 0, (x6 : Int)⟩ : Pt), rfl, h9, l7, c9, b9, by simp only [Pt.fits, inI]; omega⟩
              · skip
                simp only [Act.put, List.setIfInBounds_toArray, List.set_cons_zero, List.set_cons_succ]
                have l8 := b5.size
                have b8 := grown_step b5 (World.grownBy_alloc _ (.cells #[.int .i64 0, .int .i64 0, .int .i64 0, .int .i64 0, .int .i64 0, .int .i64 0, .int .i64 0, .int .i64 0, .int .i64 0, .int .i64 0] 26) none) (fun j h => by cases h)
                have hc8 := hc5.alloc (.cells #[.int .i64 0, .int .i64 0, .int .i64 0, .int .i64 0, .int .i64 0, .int .i64 0, .int .i64 0, .int .i64 0, .int .i64 0, .int .i64 0] 26)
                have g8 := heap_newB b5 (.cells #[.int .i64 0, .int .i64 0, .int .i64 0, .int .i64 0, .int .i64 0, .int .i64 0, .int .i64 0, .int .i64 0, .int .i64 0, .int .i64 0] 26)
                refine held_call 23 31 21 #[.pointer (some ⟨g, 0, none⟩), .int .i64 ((NR : Nat) : Int)] rfl rfl (by kernel_rfl) rfl (exec_call Tryz.func21 (by kernel_rfl) (by kernel_rfl) _) ?_
                refine (l1Below_any A l c g NR _ hl hb (by omega) (by omega) hc8).mono ?_
                rintro e v9 ⟨x6, hx6, rfl, hc9, gr9⟩
                have b9 := b8.trans gr9
                have g9 := (gr9.block _ (blk_lt g8) (fun e => by injection e with e; omega)).trans g8
                refine ⟨_, rfl, b9, ?_⟩
                simp only [Act.put, List.setIfInBounds_toArray, List.set_cons_zero, List.set_cons_succ]
                refine held_take 24 32 (ptA (⟨1 + (x1 : Int), (x2 : Int), -1, 1 + (x3 : Int), (x4 : Int), 0, 1 + (x5 : Int), 1, 0, (x6 : Int)⟩ : Pt)) rfl rfl (by kernel_rfl) (by kernel_rfl) (by kernel_rfl) (fun _ _ _ h => h) rfl b9 (fun w _ => exec_build_pt (⟨1 + (x1 : Int), (x2 : Int), -1, 1 + (x3 : Int), (x4 : Int), 0, 1 + (x5 : Int), 1, 0, (x6 : Int)⟩ : Pt) w rfl rfl) ?_
                simp only [Act.put, List.setIfInBounds_toArray, List.set_cons_zero, List.set_cons_succ]
                refine held_store 26 rfl rfl (by kernel_rfl) rfl (exec_store_pt _ (⟨1 + (x1 : Int), (x2 : Int), -1, 1 + (x3 : Int), (x4 : Int), 0, 1 + (x5 : Int), 1, 0, (x6 : Int)⟩ : Pt) _ g9) (putPt_grown (p := (⟨1 + (x1 : Int), (x2 : Int), -1, 1 + (x3 : Int), (x4 : Int), 0, 1 + (x5 : Int), 1, 0, (x6 : Int)⟩ : Pt)) b9 l8) ?_
                refine wpAnyH_done (by kernel_rfl) ?_ _
                have h9 := putPt_heap (p := (⟨1 + (x1 : Int), (x2 : Int), -1, 1 + (x3 : Int), (x4 : Int), 0, 1 + (x5 : Int), 1, 0, (x6 : Int)⟩ : Pt)) g9
                have c9 := putPt_cur (p := (⟨1 + (x1 : Int), (x2 : Int), -1, 1 + (x3 : Int), (x4 : Int), 0, 1 + (x5 : Int), 1, 0, (x6 : Int)⟩ : Pt)) hc9 (Nat.lt_of_lt_of_le hgW l8)
                have b9 := putPt_grown (p := (⟨1 + (x1 : Int), (x2 : Int), -1, 1 + (x3 : Int), (x4 : Int), 0, 1 + (x5 : Int), 1, 0, (x6 : Int)⟩ : Pt)) b9 l8
                go_wp2_with fail
                go_meet
                exact ⟨_, (⟨1 + (x1 : Int), (x2 : Int), -1, 1 + (x3 : Int), (x4 : Int), 0, 1 + (x5 : Int), 1, 0, (x6 : Int)⟩ : Pt), rfl, h9, l8, c9, b9, by simp only [Pt.fits, inI]; omega⟩
            · skip
              simp only [Act.put, List.setIfInBounds_toArray, List.set_cons_zero, List.set_cons_succ]
              have l10 := b4.size
              have b10 := grown_step b4 (World.grownBy_alloc _ (.cells #[.int .i64 0, .int .i64 0, .int .i64 0, .int .i64 0, .int .i64 0, .int .i64 0, .int .i64 0, .int .i64 0, .int .i64 0, .int .i64 0] 26) none) (fun j h => by cases h)
              have hc10 := hc4.alloc (.cells #[.int .i64 0, .int .i64 0, .int .i64 0, .int .i64 0, .int .i64 0, .int .i64 0, .int .i64 0, .int .i64 0, .int .i64 0, .int .i64 0] 26)
              have g10 := heap_newB b4 (.cells #[.int .i64 0, .int .i64 0, .int .i64 0, .int .i64 0, .int .i64 0, .int .i64 0, .int .i64 0, .int .i64 0, .int .i64 0, .int .i64 0] 26)
              refine held_call 18 26 21 #[.pointer (some ⟨g, 0, none⟩), .int .i64 (40 : Int)] rfl rfl (by kernel_rfl) rfl (exec_call Tryz.func21 (by kernel_rfl) (by kernel_rfl) _) ?_
              refine (l1Below_any A l c g 40 _ hl hb (by omega) (by omega) hc10).mono ?_
              rintro e v11 ⟨x5, hx5, rfl, hc11, gr11⟩
              have b11 := b10.trans gr11
              have g11 := (gr11.block _ (blk_lt g10) (fun e => by injection e with e; omega)).trans g10
              refine ⟨_, rfl, b11, ?_⟩
              simp only [Act.put, List.setIfInBounds_toArray, List.set_cons_zero, List.set_cons_succ]
              refine held_take 19 27 (.int .i64 (1 + (x5 : Int))) rfl rfl (by kernel_rfl) (by kernel_rfl) (by kernel_rfl) (fun _ _ _ h => h) rfl b11 (fun w _ => exec_addI 1 (x5 : Int) _ w rfl (by omega) (by omega)) ?_
              simp only [Act.put, List.setIfInBounds_toArray, List.set_cons_zero, List.set_cons_succ]
              refine held_call 23 31 21 #[.pointer (some ⟨g, 0, none⟩), .int .i64 ((NR : Nat) : Int)] rfl rfl (by kernel_rfl) rfl (exec_call Tryz.func21 (by kernel_rfl) (by kernel_rfl) _) ?_
              refine (l1Below_any A l c g NR _ hl hb (by omega) (by omega) hc11).mono ?_
              rintro e v12 ⟨x6, hx6, rfl, hc12, gr12⟩
              have b12 := b11.trans gr12
              have g12 := (gr12.block _ (blk_lt g11) (fun e => by injection e with e; omega)).trans g11
              refine ⟨_, rfl, b12, ?_⟩
              simp only [Act.put, List.setIfInBounds_toArray, List.set_cons_zero, List.set_cons_succ]
              refine held_take 24 32 (ptA (⟨1 + (x1 : Int), (x2 : Int), -1, 1 + (x3 : Int), (x4 : Int), 0, 1 + (x5 : Int), 1, 0, (x6 : Int)⟩ : Pt)) rfl rfl (by kernel_rfl) (by kernel_rfl) (by kernel_rfl) (fun _ _ _ h => h) rfl b12 (fun w _ => exec_build_pt (⟨1 + (x1 : Int), (x2 : Int), -1, 1 + (x3 : Int), (x4 : Int), 0, 1 + (x5 : Int), 1, 0, (x6 : Int)⟩ : Pt) w rfl rfl) ?_
              simp only [Act.put, List.setIfInBounds_toArray, List.set_cons_zero, List.set_cons_succ]
              refine held_store 26 rfl rfl (by kernel_rfl) rfl (exec_store_pt _ (⟨1 + (x1 : Int), (x2 : Int), -1, 1 + (x3 : Int), (x4 : Int), 0, 1 + (x5 : Int), 1, 0, (x6 : Int)⟩ : Pt) _ g12) (putPt_grown (p := (⟨1 + (x1 : Int), (x2 : Int), -1, 1 + (x3 : Int), (x4 : Int), 0, 1 + (x5 : Int), 1, 0, (x6 : Int)⟩ : Pt)) b12 l10) ?_
              refine wpAnyH_done (by kernel_rfl) ?_ _
              have h9 := putPt_heap (p := (⟨1 + (x1 : Int), (x2 : Int), -1, 1 + (x3 : Int), (x4 : Int), 0, 1 + (x5 : Int), 1, 0, (x6 : Int)⟩ : Pt)) g12
              have c9 := putPt_cur (p := (⟨1 + (x1 : Int), (x2 : Int), -1, 1 + (x3 : Int), (x4 : Int), 0, 1 + (x5 : Int), 1, 0, (x6 : Int)⟩ : Pt)) hc12 (Nat.lt_of_lt_of_le hgW l10)
              have b9 := putPt_grown (p := (⟨1 + (x1 : Int), (x2 : Int), -1, 1 + (x3 : Int), (x4 : Int), 0, 1 + (x5 : Int), 1, 0, (x6 : Int)⟩ : Pt)) b12 l10
              go_wp2_with fail
              go_meet
              exact ⟨_, (⟨1 + (x1 : Int), (x2 : Int), -1, 1 + (x3 : Int), (x4 : Int), 0, 1 + (x5 : Int), 1, 0, (x6 : Int)⟩ : Pt), rfl, h9, l10, c9, b9, by simp only [Pt.fits, inI]; omega⟩
          · skip
            simp only [Act.put, List.setIfInBounds_toArray, List.set_cons_zero, List.set_cons_succ]
            have l13 := b3.size
            have b13 := grown_step b3 (World.grownBy_alloc _ (.cells #[.int .i64 0, .int .i64 0, .int .i64 0, .int .i64 0, .int .i64 0, .int .i64 0, .int .i64 0, .int .i64 0, .int .i64 0, .int .i64 0] 26) none) (fun j h => by cases h)
            have hc13 := hc3.alloc (.cells #[.int .i64 0, .int .i64 0, .int .i64 0, .int .i64 0, .int .i64 0, .int .i64 0, .int .i64 0, .int .i64 0, .int .i64 0, .int .i64 0] 26)
            have g13 := heap_newB b3 (.cells #[.int .i64 0, .int .i64 0, .int .i64 0, .int .i64 0, .int .i64 0, .int .i64 0, .int .i64 0, .int .i64 0, .int .i64 0, .int .i64 0] 26)
            refine held_call 16 24 21 #[.pointer (some ⟨g, 0, none⟩), .int .i64 ((NT : Nat) : Int)] rfl rfl (by kernel_rfl) rfl (exec_call Tryz.func21 (by kernel_rfl) (by kernel_rfl) _) ?_
            refine (l1Below_any A l c g NT _ hl hb (by omega) (by omega) hc13).mono ?_
            rintro e v14 ⟨x4, hx4, rfl, hc14, gr14⟩
            have b14 := b13.trans gr14
            have g14 := (gr14.block _ (blk_lt g13) (fun e => by injection e with e; omega)).trans g13
            refine ⟨_, rfl, b14, ?_⟩
            simp only [Act.put, List.setIfInBounds_toArray, List.set_cons_zero, List.set_cons_succ]
            refine held_call 18 26 21 #[.pointer (some ⟨g, 0, none⟩), .int .i64 (40 : Int)] rfl rfl (by kernel_rfl) rfl (exec_call Tryz.func21 (by kernel_rfl) (by kernel_rfl) _) ?_
            refine (l1Below_any A l c g 40 _ hl hb (by omega) (by omega) hc14).mono ?_
            rintro e v15 ⟨x5, hx5, rfl, hc15, gr15⟩
            have b15 := b14.trans gr15
            have g15 := (gr15.block _ (blk_lt g14) (fun e => by injection e with e; omega)).trans g14
            refine ⟨_, rfl, b15, ?_⟩
            simp only [Act.put, List.setIfInBounds_toArray, List.set_cons_zero, List.set_cons_succ]
            refine held_take 19 27 (.int .i64 (1 + (x5 : Int))) rfl rfl (by kernel_rfl) (by kernel_rfl) (by kernel_rfl) (fun _ _ _ h => h) rfl b15 (fun w _ => exec_addI 1 (x5 : Int) _ w rfl (by omega) (by omega)) ?_
            simp only [Act.put, List.setIfInBounds_toArray, List.set_cons_zero, List.set_cons_succ]
            refine held_call 23 31 21 #[.pointer (some ⟨g, 0, none⟩), .int .i64 ((NR : Nat) : Int)] rfl rfl (by kernel_rfl) rfl (exec_call Tryz.func21 (by kernel_rfl) (by kernel_rfl) _) ?_
            refine (l1Below_any A l c g NR _ hl hb (by omega) (by omega) hc15).mono ?_
            rintro e v16 ⟨x6, hx6, rfl, hc16, gr16⟩
            have b16 := b15.trans gr16
            have g16 := (gr16.block _ (blk_lt g15) (fun e => by injection e with e; omega)).trans g15
            refine ⟨_, rfl, b16, ?_⟩
            simp only [Act.put, List.setIfInBounds_toArray, List.set_cons_zero, List.set_cons_succ]
            refine held_take 24 32 (ptA (⟨1 + (x1 : Int), (x2 : Int), -1, 1 + (x3 : Int), (x4 : Int), 0, 1 + (x5 : Int), 1, 0, (x6 : Int)⟩ : Pt)) rfl rfl (by kernel_rfl) (by kernel_rfl) (by kernel_rfl) (fun _ _ _ h => h) rfl b16 (fun w _ => exec_build_pt (⟨1 + (x1 : Int), (x2 : Int), -1, 1 + (x3 : Int), (x4 : Int), 0, 1 + (x5 : Int), 1, 0, (x6 : Int)⟩ : Pt) w rfl rfl) ?_
            simp only [Act.put, List.setIfInBounds_toArray, List.set_cons_zero, List.set_cons_succ]
            refine held_store 26 rfl rfl (by kernel_rfl) rfl (exec_store_pt _ (⟨1 + (x1 : Int), (x2 : Int), -1, 1 + (x3 : Int), (x4 : Int), 0, 1 + (x5 : Int), 1, 0, (x6 : Int)⟩ : Pt) _ g16) (putPt_grown (p := (⟨1 + (x1 : Int), (x2 : Int), -1, 1 + (x3 : Int), (x4 : Int), 0, 1 + (x5 : Int), 1, 0, (x6 : Int)⟩ : Pt)) b16 l13) ?_
            refine wpAnyH_done (by kernel_rfl) ?_ _
            have h9 := putPt_heap (p := (⟨1 + (x1 : Int), (x2 : Int), -1, 1 + (x3 : Int), (x4 : Int), 0, 1 + (x5 : Int), 1, 0, (x6 : Int)⟩ : Pt)) g16
            have c9 := putPt_cur (p := (⟨1 + (x1 : Int), (x2 : Int), -1, 1 + (x3 : Int), (x4 : Int), 0, 1 + (x5 : Int), 1, 0, (x6 : Int)⟩ : Pt)) hc16 (Nat.lt_of_lt_of_le hgW l13)
            have b9 := putPt_grown (p := (⟨1 + (x1 : Int), (x2 : Int), -1, 1 + (x3 : Int), (x4 : Int), 0, 1 + (x5 : Int), 1, 0, (x6 : Int)⟩ : Pt)) b16 l13
            go_wp2_with fail
            go_meet
            exact ⟨_, (⟨1 + (x1 : Int), (x2 : Int), -1, 1 + (x3 : Int), (x4 : Int), 0, 1 + (x5 : Int), 1, 0, (x6 : Int)⟩ : Pt), rfl, h9, l13, c9, b9, by simp only [Pt.fits, inI]; omega⟩
        · skip
          simp only [Act.put, List.setIfInBounds_toArray, List.set_cons_zero, List.set_cons_succ]
          have l17 := b2.size
          have b17 := grown_step b2 (World.grownBy_alloc _ (.cells #[.int .i64 0, .int .i64 0, .int .i64 0, .int .i64 0, .int .i64 0, .int .i64 0, .int .i64 0, .int .i64 0, .int .i64 0, .int .i64 0] 26) none) (fun j h => by cases h)
          have hc17 := hc2.alloc (.cells #[.int .i64 0, .int .i64 0, .int .i64 0, .int .i64 0, .int .i64 0, .int .i64 0, .int .i64 0, .int .i64 0, .int .i64 0, .int .i64 0] 26)
          have g17 := heap_newB b2 (.cells #[.int .i64 0, .int .i64 0, .int .i64 0, .int .i64 0, .int .i64 0, .int .i64 0, .int .i64 0, .int .i64 0, .int .i64 0, .int .i64 0] 26)
          refine held_call 11 19 21 #[.pointer (some ⟨g, 0, none⟩), .int .i64 ((NS : Nat) : Int)] rfl rfl (by kernel_rfl) rfl (exec_call Tryz.func21 (by kernel_rfl) (by kernel_rfl) _) ?_
          refine (l1Below_any A l c g NS _ hl hb (by omega) (by omega) hc17).mono ?_
          rintro e v18 ⟨x3, hx3, rfl, hc18, gr18⟩
          have b18 := b17.trans gr18
          have g18 := (gr18.block _ (blk_lt g17) (fun e => by injection e with e; omega)).trans g17
          refine ⟨_, rfl, b18, ?_⟩
          simp only [Act.put, List.setIfInBounds_toArray, List.set_cons_zero, List.set_cons_succ]
          refine held_take 12 20 (.int .i64 (1 + (x3 : Int))) rfl rfl (by kernel_rfl) (by kernel_rfl) (by kernel_rfl) (fun _ _ _ h => h) rfl b18 (fun w _ => exec_addI 1 (x3 : Int) _ w rfl (by omega) (by omega)) ?_
          simp only [Act.put, List.setIfInBounds_toArray, List.set_cons_zero, List.set_cons_succ]
          refine held_call 16 24 21 #[.pointer (some ⟨g, 0, none⟩), .int .i64 ((NT : Nat) : Int)] rfl rfl (by kernel_rfl) rfl (exec_call Tryz.func21 (by kernel_rfl) (by kernel_rfl) _) ?_
          refine (l1Below_any A l c g NT _ hl hb (by omega) (by omega) hc18).mono ?_
          rintro e v19 ⟨x4, hx4, rfl, hc19, gr19⟩
          have b19 := b18.trans gr19
          have g19 := (gr19.block _ (blk_lt g18) (fun e => by injection e with e; omega)).trans g18
          refine ⟨_, rfl, b19, ?_⟩
          simp only [Act.put, List.setIfInBounds_toArray, List.set_cons_zero, List.set_cons_succ]
          refine held_call 18 26 21 #[.pointer (some ⟨g, 0, none⟩), .int .i64 (40 : Int)] rfl rfl (by kernel_rfl) rfl (exec_call Tryz.func21 (by kernel_rfl) (by kernel_rfl) _) ?_
          refine (l1Below_any A l c g 40 _ hl hb (by omega) (by omega) hc19).mono ?_
          rintro e v20 ⟨x5, hx5, rfl, hc20, gr20⟩
          have b20 := b19.trans gr20
          have g20 := (gr20.block _ (blk_lt g19) (fun e => by injection e with e; omega)).trans g19
          refine ⟨_, rfl, b20, ?_⟩
          simp only [Act.put, List.setIfInBounds_toArray, List.set_cons_zero, List.set_cons_succ]
          refine held_take 19 27 (.int .i64 (1 + (x5 : Int))) rfl rfl (by kernel_rfl) (by kernel_rfl) (by kernel_rfl) (fun _ _ _ h => h) rfl b20 (fun w _ => exec_addI 1 (x5 : Int) _ w rfl (by omega) (by omega)) ?_
          simp only [Act.put, List.setIfInBounds_toArray, List.set_cons_zero, List.set_cons_succ]
          refine held_call 23 31 21 #[.pointer (some ⟨g, 0, none⟩), .int .i64 ((NR : Nat) : Int)] rfl rfl (by kernel_rfl) rfl (exec_call Tryz.func21 (by kernel_rfl) (by kernel_rfl) _) ?_
          refine (l1Below_any A l c g NR _ hl hb (by omega) (by omega) hc20).mono ?_
          rintro e v21 ⟨x6, hx6, rfl, hc21, gr21⟩
          have b21 := b20.trans gr21
          have g21 := (gr21.block _ (blk_lt g20) (fun e => by injection e with e; omega)).trans g20
          refine ⟨_, rfl, b21, ?_⟩
          simp only [Act.put, List.setIfInBounds_toArray, List.set_cons_zero, List.set_cons_succ]
          refine held_take 24 32 (ptA (⟨1 + (x1 : Int), (x2 : Int), -1, 1 + (x3 : Int), (x4 : Int), 0, 1 + (x5 : Int), 1, 0, (x6 : Int)⟩ : Pt)) rfl rfl (by kernel_rfl) (by kernel_rfl) (by kernel_rfl) (fun _ _ _ h => h) rfl b21 (fun w _ => exec_build_pt (⟨1 + (x1 : Int), (x2 : Int), -1, 1 + (x3 : Int), (x4 : Int), 0, 1 + (x5 : Int), 1, 0, (x6 : Int)⟩ : Pt) w rfl rfl) ?_
          simp only [Act.put, List.setIfInBounds_toArray, List.set_cons_zero, List.set_cons_succ]
          refine held_store 26 rfl rfl (by kernel_rfl) rfl (exec_store_pt _ (⟨1 + (x1 : Int), (x2 : Int), -1, 1 + (x3 : Int), (x4 : Int), 0, 1 + (x5 : Int), 1, 0, (x6 : Int)⟩ : Pt) _ g21) (putPt_grown (p := (⟨1 + (x1 : Int), (x2 : Int), -1, 1 + (x3 : Int), (x4 : Int), 0, 1 + (x5 : Int), 1, 0, (x6 : Int)⟩ : Pt)) b21 l17) ?_
          refine wpAnyH_done (by kernel_rfl) ?_ _
          have h9 := putPt_heap (p := (⟨1 + (x1 : Int), (x2 : Int), -1, 1 + (x3 : Int), (x4 : Int), 0, 1 + (x5 : Int), 1, 0, (x6 : Int)⟩ : Pt)) g21
          have c9 := putPt_cur (p := (⟨1 + (x1 : Int), (x2 : Int), -1, 1 + (x3 : Int), (x4 : Int), 0, 1 + (x5 : Int), 1, 0, (x6 : Int)⟩ : Pt)) hc21 (Nat.lt_of_lt_of_le hgW l17)
          have b9 := putPt_grown (p := (⟨1 + (x1 : Int), (x2 : Int), -1, 1 + (x3 : Int), (x4 : Int), 0, 1 + (x5 : Int), 1, 0, (x6 : Int)⟩ : Pt)) b21 l17
          go_wp2_with fail
          go_meet
          exact ⟨_, (⟨1 + (x1 : Int), (x2 : Int), -1, 1 + (x3 : Int), (x4 : Int), 0, 1 + (x5 : Int), 1, 0, (x6 : Int)⟩ : Pt), rfl, h9, l17, c9, b9, by simp only [Pt.fits, inI]; omega⟩
      · skip
        simp only [Act.put, List.setIfInBounds_toArray, List.set_cons_zero, List.set_cons_succ]
        have l22 := b1.size
        have b22 := grown_step b1 (World.grownBy_alloc _ (.cells #[.int .i64 0, .int .i64 0, .int .i64 0, .int .i64 0, .int .i64 0, .int .i64 0, .int .i64 0, .int .i64 0, .int .i64 0, .int .i64 0] 26) none) (fun j h => by cases h)
        have hc22 := hc1.alloc (.cells #[.int .i64 0, .int .i64 0, .int .i64 0, .int .i64 0, .int .i64 0, .int .i64 0, .int .i64 0, .int .i64 0, .int .i64 0, .int .i64 0] 26)
        have g22 := heap_newB b1 (.cells #[.int .i64 0, .int .i64 0, .int .i64 0, .int .i64 0, .int .i64 0, .int .i64 0, .int .i64 0, .int .i64 0, .int .i64 0, .int .i64 0] 26)
        refine held_call 7 15 21 #[.pointer (some ⟨g, 0, none⟩), .int .i64 ((r.seats.length : Nat) : Int)] rfl rfl (by kernel_rfl) rfl (exec_call Tryz.func21 (by kernel_rfl) (by kernel_rfl) _) ?_
        refine (l1Below_any A l c g r.seats.length _ hl hb (by omega) (by omega) hc22).mono ?_
        rintro e v23 ⟨x2, hx2, rfl, hc23, gr23⟩
        have b23 := b22.trans gr23
        have g23 := (gr23.block _ (blk_lt g22) (fun e => by injection e with e; omega)).trans g22
        refine ⟨_, rfl, b23, ?_⟩
        simp only [Act.put, List.setIfInBounds_toArray, List.set_cons_zero, List.set_cons_succ]
        refine held_call 11 19 21 #[.pointer (some ⟨g, 0, none⟩), .int .i64 ((NS : Nat) : Int)] rfl rfl (by kernel_rfl) rfl (exec_call Tryz.func21 (by kernel_rfl) (by kernel_rfl) _) ?_
        refine (l1Below_any A l c g NS _ hl hb (by omega) (by omega) hc23).mono ?_
        rintro e v24 ⟨x3, hx3, rfl, hc24, gr24⟩
        have b24 := b23.trans gr24
        have g24 := (gr24.block _ (blk_lt g23) (fun e => by injection e with e; omega)).trans g23
        refine ⟨_, rfl, b24, ?_⟩
        simp only [Act.put, List.setIfInBounds_toArray, List.set_cons_zero, List.set_cons_succ]
        refine held_take 12 20 (.int .i64 (1 + (x3 : Int))) rfl rfl (by kernel_rfl) (by kernel_rfl) (by kernel_rfl) (fun _ _ _ h => h) rfl b24 (fun w _ => exec_addI 1 (x3 : Int) _ w rfl (by omega) (by omega)) ?_
        simp only [Act.put, List.setIfInBounds_toArray, List.set_cons_zero, List.set_cons_succ]
        refine held_call 16 24 21 #[.pointer (some ⟨g, 0, none⟩), .int .i64 ((NT : Nat) : Int)] rfl rfl (by kernel_rfl) rfl (exec_call Tryz.func21 (by kernel_rfl) (by kernel_rfl) _) ?_
        refine (l1Below_any A l c g NT _ hl hb (by omega) (by omega) hc24).mono ?_
        rintro e v25 ⟨x4, hx4, rfl, hc25, gr25⟩
        have b25 := b24.trans gr25
        have g25 := (gr25.block _ (blk_lt g24) (fun e => by injection e with e; omega)).trans g24
        refine ⟨_, rfl, b25, ?_⟩
        simp only [Act.put, List.setIfInBounds_toArray, List.set_cons_zero, List.set_cons_succ]
        refine held_call 18 26 21 #[.pointer (some ⟨g, 0, none⟩), .int .i64 (40 : Int)] rfl rfl (by kernel_rfl) rfl (exec_call Tryz.func21 (by kernel_rfl) (by kernel_rfl) _) ?_
        refine (l1Below_any A l c g 40 _ hl hb (by omega) (by omega) hc25).mono ?_
        rintro e v26 ⟨x5, hx5, rfl, hc26, gr26⟩
        have b26 := b25.trans gr26
        have g26 := (gr26.block _ (blk_lt g25) (fun e => by injection e with e; omega)).trans g25
        refine ⟨_, rfl, b26, ?_⟩
        simp only [Act.put, List.setIfInBounds_toArray, List.set_cons_zero, List.set_cons_succ]
        refine held_take 19 27 (.int .i64 (1 + (x5 : Int))) rfl rfl (by kernel_rfl) (by kernel_rfl) (by kernel_rfl) (fun _ _ _ h => h) rfl b26 (fun w _ => exec_addI 1 (x5 : Int) _ w rfl (by omega) (by omega)) ?_
        simp only [Act.put, List.setIfInBounds_toArray, List.set_cons_zero, List.set_cons_succ]
        refine held_call 23 31 21 #[.pointer (some ⟨g, 0, none⟩), .int .i64 ((NR : Nat) : Int)] rfl rfl (by kernel_rfl) rfl (exec_call Tryz.func21 (by kernel_rfl) (by kernel_rfl) _) ?_
        refine (l1Below_any A l c g NR _ hl hb (by omega) (by omega) hc26).mono ?_
        rintro e v27 ⟨x6, hx6, rfl, hc27, gr27⟩
        have b27 := b26.trans gr27
        have g27 := (gr27.block _ (blk_lt g26) (fun e => by injection e with e; omega)).trans g26
        refine ⟨_, rfl, b27, ?_⟩
        simp only [Act.put, List.setIfInBounds_toArray, List.set_cons_zero, List.set_cons_succ]
        refine held_take 24 32 (ptA (⟨1 + (x1 : Int), (x2 : Int), -1, 1 + (x3 : Int), (x4 : Int), 0, 1 + (x5 : Int), 1, 0, (x6 : Int)⟩ : Pt)) rfl rfl (by kernel_rfl) (by kernel_rfl) (by kernel_rfl) (fun _ _ _ h => h) rfl b27 (fun w _ => exec_build_pt (⟨1 + (x1 : Int), (x2 : Int), -1, 1 + (x3 : Int), (x4 : Int), 0, 1 + (x5 : Int), 1, 0, (x6 : Int)⟩ : Pt) w rfl rfl) ?_
        simp only [Act.put, List.setIfInBounds_toArray, List.set_cons_zero, List.set_cons_succ]
        refine held_store 26 rfl rfl (by kernel_rfl) rfl (exec_store_pt _ (⟨1 + (x1 : Int), (x2 : Int), -1, 1 + (x3 : Int), (x4 : Int), 0, 1 + (x5 : Int), 1, 0, (x6 : Int)⟩ : Pt) _ g27) (putPt_grown (p := (⟨1 + (x1 : Int), (x2 : Int), -1, 1 + (x3 : Int), (x4 : Int), 0, 1 + (x5 : Int), 1, 0, (x6 : Int)⟩ : Pt)) b27 l22) ?_
        refine wpAnyH_done (by kernel_rfl) ?_ _
        have h9 := putPt_heap (p := (⟨1 + (x1 : Int), (x2 : Int), -1, 1 + (x3 : Int), (x4 : Int), 0, 1 + (x5 : Int), 1, 0, (x6 : Int)⟩ : Pt)) g27
        have c9 := putPt_cur (p := (⟨1 + (x1 : Int), (x2 : Int), -1, 1 + (x3 : Int), (x4 : Int), 0, 1 + (x5 : Int), 1, 0, (x6 : Int)⟩ : Pt)) hc27 (Nat.lt_of_lt_of_le hgW l22)
        have b9 := putPt_grown (p := (⟨1 + (x1 : Int), (x2 : Int), -1, 1 + (x3 : Int), (x4 : Int), 0, 1 + (x5 : Int), 1, 0, (x6 : Int)⟩ : Pt)) b27 l22
        go_wp2_with fail
        go_meet
        exact ⟨_, (⟨1 + (x1 : Int), (x2 : Int), -1, 1 + (x3 : Int), (x4 : Int), 0, 1 + (x5 : Int), 1, 0, (x6 : Int)⟩ : Pt), rfl, h9, l22, c9, b9, by simp only [Pt.fits, inI]; omega⟩
    · skip
      simp only [Act.put, List.setIfInBounds_toArray, List.set_cons_zero, List.set_cons_succ]
      have l28 := b0.size
      have b28 := grown_step b0 (World.grownBy_alloc _ (.cells #[.int .i64 0, .int .i64 0, .int .i64 0, .int .i64 0, .int .i64 0, .int .i64 0, .int .i64 0, .int .i64 0, .int .i64 0, .int .i64 0] 26) none) (fun j h => by cases h)
      have hc28 := hc0.alloc (.cells #[.int .i64 0, .int .i64 0, .int .i64 0, .int .i64 0, .int .i64 0, .int .i64 0, .int .i64 0, .int .i64 0, .int .i64 0, .int .i64 0] 26)
      have g28 := heap_newB b0 (.cells #[.int .i64 0, .int .i64 0, .int .i64 0, .int .i64 0, .int .i64 0, .int .i64 0, .int .i64 0, .int .i64 0, .int .i64 0, .int .i64 0] 26)
      refine held_call 1 9 21 #[.pointer (some ⟨g, 0, none⟩), .int .i64 (12 : Int)] rfl rfl (by kernel_rfl) rfl (exec_call Tryz.func21 (by kernel_rfl) (by kernel_rfl) _) ?_
      refine (l1Below_any A l c g 12 _ hl hb (by omega) (by omega) hc28).mono ?_
      rintro e v29 ⟨x1, hx1, rfl, hc29, gr29⟩
      have b29 := b28.trans gr29
      have g29 := (gr29.block _ (blk_lt g28) (fun e => by injection e with e; omega)).trans g28
      refine ⟨_, rfl, b29, ?_⟩
      simp only [Act.put, List.setIfInBounds_toArray, List.set_cons_zero, List.set_cons_succ]
      refine held_take 2 10 (.int .i64 (1 + (x1 : Int))) rfl rfl (by kernel_rfl) (by kernel_rfl) (by kernel_rfl) (fun _ _ _ h => h) rfl b29 (fun w _ => exec_addI 1 (x1 : Int) _ w rfl (by omega) (by omega)) ?_
      simp only [Act.put, List.setIfInBounds_toArray, List.set_cons_zero, List.set_cons_succ]
      refine held_call 7 15 21 #[.pointer (some ⟨g, 0, none⟩), .int .i64 ((r.seats.length : Nat) : Int)] rfl rfl (by kernel_rfl) rfl (exec_call Tryz.func21 (by kernel_rfl) (by kernel_rfl) _) ?_
      refine (l1Below_any A l c g r.seats.length _ hl hb (by omega) (by omega) hc29).mono ?_
      rintro e v30 ⟨x2, hx2, rfl, hc30, gr30⟩
      have b30 := b29.trans gr30
      have g30 := (gr30.block _ (blk_lt g29) (fun e => by injection e with e; omega)).trans g29
      refine ⟨_, rfl, b30, ?_⟩
      simp only [Act.put, List.setIfInBounds_toArray, List.set_cons_zero, List.set_cons_succ]
      refine held_call 11 19 21 #[.pointer (some ⟨g, 0, none⟩), .int .i64 ((NS : Nat) : Int)] rfl rfl (by kernel_rfl) rfl (exec_call Tryz.func21 (by kernel_rfl) (by kernel_rfl) _) ?_
      refine (l1Below_any A l c g NS _ hl hb (by omega) (by omega) hc30).mono ?_
      rintro e v31 ⟨x3, hx3, rfl, hc31, gr31⟩
      have b31 := b30.trans gr31
      have g31 := (gr31.block _ (blk_lt g30) (fun e => by injection e with e; omega)).trans g30
      refine ⟨_, rfl, b31, ?_⟩
      simp only [Act.put, List.setIfInBounds_toArray, List.set_cons_zero, List.set_cons_succ]
      refine held_take 12 20 (.int .i64 (1 + (x3 : Int))) rfl rfl (by kernel_rfl) (by kernel_rfl) (by kernel_rfl) (fun _ _ _ h => h) rfl b31 (fun w _ => exec_addI 1 (x3 : Int) _ w rfl (by omega) (by omega)) ?_
      simp only [Act.put, List.setIfInBounds_toArray, List.set_cons_zero, List.set_cons_succ]
      refine held_call 16 24 21 #[.pointer (some ⟨g, 0, none⟩), .int .i64 ((NT : Nat) : Int)] rfl rfl (by kernel_rfl) rfl (exec_call Tryz.func21 (by kernel_rfl) (by kernel_rfl) _) ?_
      refine (l1Below_any A l c g NT _ hl hb (by omega) (by omega) hc31).mono ?_
      rintro e v32 ⟨x4, hx4, rfl, hc32, gr32⟩
      have b32 := b31.trans gr32
      have g32 := (gr32.block _ (blk_lt g31) (fun e => by injection e with e; omega)).trans g31
      refine ⟨_, rfl, b32, ?_⟩
      simp only [Act.put, List.setIfInBounds_toArray, List.set_cons_zero, List.set_cons_succ]
      refine held_call 18 26 21 #[.pointer (some ⟨g, 0, none⟩), .int .i64 (40 : Int)] rfl rfl (by kernel_rfl) rfl (exec_call Tryz.func21 (by kernel_rfl) (by kernel_rfl) _) ?_
      refine (l1Below_any A l c g 40 _ hl hb (by omega) (by omega) hc32).mono ?_
      rintro e v33 ⟨x5, hx5, rfl, hc33, gr33⟩
      have b33 := b32.trans gr33
      have g33 := (gr33.block _ (blk_lt g32) (fun e => by injection e with e; omega)).trans g32
      refine ⟨_, rfl, b33, ?_⟩
      simp only [Act.put, List.setIfInBounds_toArray, List.set_cons_zero, List.set_cons_succ]
      refine held_take 19 27 (.int .i64 (1 + (x5 : Int))) rfl rfl (by kernel_rfl) (by kernel_rfl) (by kernel_rfl) (fun _ _ _ h => h) rfl b33 (fun w _ => exec_addI 1 (x5 : Int) _ w rfl (by omega) (by omega)) ?_
      simp only [Act.put, List.setIfInBounds_toArray, List.set_cons_zero, List.set_cons_succ]
      refine held_call 23 31 21 #[.pointer (some ⟨g, 0, none⟩), .int .i64 ((NR : Nat) : Int)] rfl rfl (by kernel_rfl) rfl (exec_call Tryz.func21 (by kernel_rfl) (by kernel_rfl) _) ?_
      refine (l1Below_any A l c g NR _ hl hb (by omega) (by omega) hc33).mono ?_
      rintro e v34 ⟨x6, hx6, rfl, hc34, gr34⟩
      have b34 := b33.trans gr34
      have g34 := (gr34.block _ (blk_lt g33) (fun e => by injection e with e; omega)).trans g33
      refine ⟨_, rfl, b34, ?_⟩
      simp only [Act.put, List.setIfInBounds_toArray, List.set_cons_zero, List.set_cons_succ]
      refine held_take 24 32 (ptA (⟨1 + (x1 : Int), (x2 : Int), -1, 1 + (x3 : Int), (x4 : Int), 0, 1 + (x5 : Int), 1, 0, (x6 : Int)⟩ : Pt)) rfl rfl (by kernel_rfl) (by kernel_rfl) (by kernel_rfl) (fun _ _ _ h => h) rfl b34 (fun w _ => exec_build_pt (⟨1 + (x1 : Int), (x2 : Int), -1, 1 + (x3 : Int), (x4 : Int), 0, 1 + (x5 : Int), 1, 0, (x6 : Int)⟩ : Pt) w rfl rfl) ?_
      simp only [Act.put, List.setIfInBounds_toArray, List.set_cons_zero, List.set_cons_succ]
      refine held_store 26 rfl rfl (by kernel_rfl) rfl (exec_store_pt _ (⟨1 + (x1 : Int), (x2 : Int), -1, 1 + (x3 : Int), (x4 : Int), 0, 1 + (x5 : Int), 1, 0, (x6 : Int)⟩ : Pt) _ g34) (putPt_grown (p := (⟨1 + (x1 : Int), (x2 : Int), -1, 1 + (x3 : Int), (x4 : Int), 0, 1 + (x5 : Int), 1, 0, (x6 : Int)⟩ : Pt)) b34 l28) ?_
      refine wpAnyH_done (by kernel_rfl) ?_ _
      have h9 := putPt_heap (p := (⟨1 + (x1 : Int), (x2 : Int), -1, 1 + (x3 : Int), (x4 : Int), 0, 1 + (x5 : Int), 1, 0, (x6 : Int)⟩ : Pt)) g34
      have c9 := putPt_cur (p := (⟨1 + (x1 : Int), (x2 : Int), -1, 1 + (x3 : Int), (x4 : Int), 0, 1 + (x5 : Int), 1, 0, (x6 : Int)⟩ : Pt)) hc34 (Nat.lt_of_lt_of_le hgW l28)
      have b9 := putPt_grown (p := (⟨1 + (x1 : Int), (x2 : Int), -1, 1 + (x3 : Int), (x4 : Int), 0, 1 + (x5 : Int), 1, 0, (x6 : Int)⟩ : Pt)) b34 l28
      go_wp2_with fail
      go_meet
      exact ⟨_, (⟨1 + (x1 : Int), (x2 : Int), -1, 1 + (x3 : Int), (x4 : Int), 0, 1 + (x5 : Int), 1, 0, (x6 : Int)⟩ : Pt), rfl, h9, l28, c9, b9, by simp only [Pt.fits, inI]; omega⟩
  case rest =>
    obtain ⟨gp, p, rfl, hp, hgp, hc, gr, hfp⟩ := hcut
    have HFP := Lib.hid hfp
    clear hfp
    clear K0 K1 K3 K7 HC
    go_wp2_with (go_at_call 24; (refine (l1In_yes _ _ _ _ (by omega)).mono ?_; rintro e w' ⟨rfl, rfl⟩))
    have C1 := l1Below_any A l c g ((now + 1)).toNat _ hl hb (by omega) (by omega) hc
    rw [Int.toNat_of_nonneg (show 0 ≤ (now + 1) by omega)] at C1
    refine C1.mono ?_
    rintro e v1 ⟨y1, hy1, rfl, hd1, gs1⟩
    clear C1
    have gr1 := gr.trans gs1
    have hp1 := (gs1.block _ (blk_lt hp) (fun e => by injection e with e; omega)).trans hp
    clear hp hc gr gs1
    have c2 := cell_of_row _ _ 5 _ _ _ hp1
    have z2 := frozen_of_row _ _ 5 _ _ hp1
    simp at c2
    have hq2 : Hid ((World.setCell _ ⟨gp, 5, none⟩ (.int .i64 (y1 : Int))).heap[gp]? = some (Obj.cells #[.int .i64 p.id, .int .i64 p.cabin, .int .i64 p.from_, .int .i64 p.size, .int .i64 p.tier, .int .i64 (y1 : Int), .int .i64 p.turn, .int .i64 p.state, .int .i64 p.until_, .int .i64 p.asked] 26)) := Go.heap_setCell_same _ gp 5 _ _ (.int .i64 (y1 : Int)) hp1
    have hk2 := Lib.hid (Cur.setCell hd1 gp 5 (.int .i64 (y1 : Int)) (by omega))
    have hr2 := Lib.hid (grown_setD gr1 gp 5 (.int .i64 (y1 : Int)) hgp)
    clear hp1 hd1 gr1
    go_wp2_with fail
    clear c2 z2
    have hp3 := hq2.out
    have hd3 := hk2.out
    have gr3 := hr2.out
    clear hq2 hk2 hr2
    refine (l1Once_any A l c g 3 _ hl hb (by omega) (by omega) hd3).mono ?_
    rintro e v4 ⟨d4, rfl, hd4, gs4⟩
    have gr4 := gr3.trans gs4
    have hp4 := (gs4.block _ (blk_lt hp3) (fun e => by injection e with e; omega)).trans hp3
    clear hp3 hd3 gr3 gs4
    cases d4
    · skip
      have HP5 := Lib.hid hp4
      have HD5 := Lib.hid hd4
      have HG5 := Lib.hid gr4
      clear hp4 hd4 gr4
      go_wp2_with fail
      have hp6 := HP5.out
      have hd6 := HD5.out
      have gr6 := HG5.out
      clear HP5 HD5 HG5
      refine (l1Once_any A l c g 3 _ hl hb (by omega) (by omega) hd6).mono ?_
      rintro e v7 ⟨d7, rfl, hd7, gs7⟩
      have gr7 := gr6.trans gs7
      have hp7 := (gs7.block _ (blk_lt hp6) (fun e => by injection e with e; omega)).trans hp6
      clear hp6 hd6 gr6 gs7
      cases d7
      · skip
        have HP8 := Lib.hid hp7
        have HD8 := Lib.hid hd7
        have HG8 := Lib.hid gr7
        clear hp7 hd7 gr7
        go_wp2_with fail
        have hp9 := HP8.out
        have hd9 := HD8.out
        have gr9 := HG8.out
        clear HP8 HD8 HG8
        refine (l1Once_any A l c g 4 _ hl hb (by omega) (by omega) hd9).mono ?_
        rintro e v10 ⟨d10, rfl, hd10, gs10⟩
        have gr10 := gr9.trans gs10
        have hp10 := (gs10.block _ (blk_lt hp9) (fun e => by injection e with e; omega)).trans hp9
        clear hp9 hd9 gr9 gs10
        cases d10
        · skip
          have a0 := cell_of_row _ _ 0 _ _ _ (hp10)
          have a1 := cell_of_row _ _ 1 _ _ _ (hp10)
          have a2 := cell_of_row _ _ 2 _ _ _ (hp10)
          have a3 := cell_of_row _ _ 3 _ _ _ (hp10)
          have a4 := cell_of_row _ _ 4 _ _ _ (hp10)
          have a5 := cell_of_row _ _ 5 _ _ _ (hp10)
          have a6 := cell_of_row _ _ 6 _ _ _ (hp10)
          have a7 := cell_of_row _ _ 7 _ _ _ (hp10)
          have a8 := cell_of_row _ _ 8 _ _ _ (hp10)
          have a9 := cell_of_row _ _ 9 _ _ _ (hp10)
          have hz := KZ.out _ (gr10)
          have e0 := cell_of_row _ _ 0 _ _ _ hz
          have f0 := frozen_of_row _ _ 0 _ _ hz
          have e1 := cell_of_row _ _ 1 _ _ _ hz
          have f1 := frozen_of_row _ _ 1 _ _ hz
          have e2 := cell_of_row _ _ 2 _ _ _ hz
          have f2 := frozen_of_row _ _ 2 _ _ hz
          have e3 := cell_of_row _ _ 3 _ _ _ hz
          have f3 := frozen_of_row _ _ 3 _ _ hz
          have e4 := cell_of_row _ _ 4 _ _ _ hz
          have f4 := frozen_of_row _ _ 4 _ _ hz
          have e5 := cell_of_row _ _ 5 _ _ _ hz
          have f5 := frozen_of_row _ _ 5 _ _ hz
          have e6 := cell_of_row _ _ 6 _ _ _ hz
          have f6 := frozen_of_row _ _ 6 _ _ hz
          have e7 := cell_of_row _ _ 7 _ _ _ hz
          have f7 := frozen_of_row _ _ 7 _ _ hz
          have e8 := cell_of_row _ _ 8 _ _ _ hz
          have f8 := frozen_of_row _ _ 8 _ _ hz
          have e9 := cell_of_row _ _ 9 _ _ _ hz
          have f9 := frozen_of_row _ _ 9 _ _ hz
          simp at a0 a1 a2 a3 a4 a5 a6 a7 a8 a9 e0 e1 e2 e3 e4 e5 e6 e7 e8 e9
          have HN : Hid (GotPf w g A l c (.returned (ptA (⟨p.id, p.cabin, p.from_, p.size, p.tier, (y1 : Int), p.turn, p.state, p.until_, p.asked⟩ : Pt))) (putPt _ (w.heap.size + 1) (⟨p.id, p.cabin, p.from_, p.size, p.tier, (y1 : Int), p.turn, p.state, p.until_, p.asked⟩ : Pt))) := ⟨_, rfl, by have h := HFP.out; simp only [Pt.fits, inI] at h ⊢; omega, putPt_cur (hd10) (by omega), putPt_grown (gW.out.trans (gr10)) (by omega)⟩
          clear hz
          unfold ptA putPt at HN
          go_wp2
          simp [bodyPost, results, Tryz.results12, go_sem, e0, e1, e2, e3, e4, e5, e6, e7, e8, e9]
          exact HN.out
        · skip
          have k11 := cell_of_row _ _ 0 _ _ _ (KR.out _ gr10)
          simp at k11
          have HP12 := Lib.hid hp10
          have HD12 := Lib.hid hd10
          have HG12 := Lib.hid gr10
          clear hp10 hd10 gr10
          go_wp2_with fail
          have hp13 := HP12.out
          have hd13 := HD12.out
          have gr13 := HG12.out
          clear HP12 HD12 HG12
          clear k11
          refine (l1Below_any A l c g r.seats.length _ hl hb (by omega) (by omega) hd13).mono ?_
          rintro e v14 ⟨y14, hy14, rfl, hd14, gs14⟩
          have gr14 := gr13.trans gs14
          have hp14 := (gs14.block _ (blk_lt hp13) (fun e => by injection e with e; omega)).trans hp13
          clear hp13 hd13 gr13 gs14
          have c15 := cell_of_row _ _ 2 _ _ _ hp14
          have z15 := frozen_of_row _ _ 2 _ _ hp14
          simp at c15
          have hq15 : Hid ((World.setCell _ ⟨gp, 2, none⟩ (.int .i64 (y14 : Int))).heap[gp]? = some (Obj.cells #[.int .i64 p.id, .int .i64 p.cabin, .int .i64 (y14 : Int), .int .i64 p.size, .int .i64 p.tier, .int .i64 (y1 : Int), .int .i64 p.turn, .int .i64 p.state, .int .i64 p.until_, .int .i64 p.asked] 26)) := Go.heap_setCell_same _ gp 2 _ _ (.int .i64 (y14 : Int)) hp14
          have hk15 := Lib.hid (Cur.setCell hd14 gp 2 (.int .i64 (y14 : Int)) (by omega))
          have hr15 := Lib.hid (grown_setD gr14 gp 2 (.int .i64 (y14 : Int)) hgp)
          clear hp14 hd14 gr14
          obtain ⟨U, eU⟩ : ∃ U, v14.setCell ⟨gp, 2, none⟩ (.int .i64 (y14 : Int)) = U := ⟨_, rfl⟩
          rw [eU] at hq15 hk15 hr15
          have a0 := cell_of_row _ _ 0 _ _ _ (hq15.out)
          have a1 := cell_of_row _ _ 1 _ _ _ (hq15.out)
          have a2 := cell_of_row _ _ 2 _ _ _ (hq15.out)
          have a3 := cell_of_row _ _ 3 _ _ _ (hq15.out)
          have a4 := cell_of_row _ _ 4 _ _ _ (hq15.out)
          have a5 := cell_of_row _ _ 5 _ _ _ (hq15.out)
          have a6 := cell_of_row _ _ 6 _ _ _ (hq15.out)
          have a7 := cell_of_row _ _ 7 _ _ _ (hq15.out)
          have a8 := cell_of_row _ _ 8 _ _ _ (hq15.out)
          have a9 := cell_of_row _ _ 9 _ _ _ (hq15.out)
          have hz := KZ.out _ (hr15.out)
          have e0 := cell_of_row _ _ 0 _ _ _ hz
          have f0 := frozen_of_row _ _ 0 _ _ hz
          have e1 := cell_of_row _ _ 1 _ _ _ hz
          have f1 := frozen_of_row _ _ 1 _ _ hz
          have e2 := cell_of_row _ _ 2 _ _ _ hz
          have f2 := frozen_of_row _ _ 2 _ _ hz
          have e3 := cell_of_row _ _ 3 _ _ _ hz
          have f3 := frozen_of_row _ _ 3 _ _ hz
          have e4 := cell_of_row _ _ 4 _ _ _ hz
          have f4 := frozen_of_row _ _ 4 _ _ hz
          have e5 := cell_of_row _ _ 5 _ _ _ hz
          have f5 := frozen_of_row _ _ 5 _ _ hz
          have e6 := cell_of_row _ _ 6 _ _ _ hz
          have f6 := frozen_of_row _ _ 6 _ _ hz
          have e7 := cell_of_row _ _ 7 _ _ _ hz
          have f7 := frozen_of_row _ _ 7 _ _ hz
          have e8 := cell_of_row _ _ 8 _ _ _ hz
          have f8 := frozen_of_row _ _ 8 _ _ hz
          have e9 := cell_of_row _ _ 9 _ _ _ hz
          have f9 := frozen_of_row _ _ 9 _ _ hz
          simp at a0 a1 a2 a3 a4 a5 a6 a7 a8 a9 e0 e1 e2 e3 e4 e5 e6 e7 e8 e9
          have HN : Hid (GotPf w g A l c (.returned (ptA (⟨p.id, p.cabin, (y14 : Int), p.size, p.tier, (y1 : Int), p.turn, p.state, p.until_, p.asked⟩ : Pt))) (putPt _ (w.heap.size + 1) (⟨p.id, p.cabin, (y14 : Int), p.size, p.tier, (y1 : Int), p.turn, p.state, p.until_, p.asked⟩ : Pt))) := ⟨_, rfl, by have h := HFP.out; simp only [Pt.fits, inI] at h ⊢; omega, putPt_cur (hk15.out) (by omega), putPt_grown (gW.out.trans (hr15.out)) (by omega)⟩
          clear hz
          unfold ptA putPt at HN
          go_wp2
          simp [bodyPost, results, Tryz.results12, go_sem, e0, e1, e2, e3, e4, e5, e6, e7, e8, e9]
          exact HN.out
      · skip
        have k16 := cell_of_row _ _ 5 _ _ _ (KR.out _ gr7)
        simp at k16
        have c17 := cell_of_row _ _ 7 _ _ _ hp7
        have z17 := frozen_of_row _ _ 7 _ _ hp7
        simp at c17
        have hq17 : Hid ((World.setCell _ ⟨gp, 7, none⟩ (.int .i64 2)).heap[gp]? = some (Obj.cells #[.int .i64 p.id, .int .i64 p.cabin, .int .i64 p.from_, .int .i64 p.size, .int .i64 p.tier, .int .i64 (y1 : Int), .int .i64 p.turn, .int .i64 2, .int .i64 p.until_, .int .i64 p.asked] 26)) := Go.heap_setCell_same _ gp 7 _ _ (.int .i64 2) hp7
        have hk17 := Lib.hid (Cur.setCell hd7 gp 7 (.int .i64 2) (by omega))
        have hr17 := Lib.hid (grown_setD gr7 gp 7 (.int .i64 2) hgp)
        clear hp7 hd7 gr7
        have k2 := cell_of_row _ _ 5 _ _ _ (KR.out _ hr17.out)
        simp at k2
        go_wp2_with fail
        clear c17 z17
        have hp18 := hq17.out
        have hd18 := hk17.out
        have gr18 := hr17.out
        clear hq17 hk17 hr17
        clear k2 k16
        have C19 := l1Below_any A l c g ((now + r.window)).toNat _ hl hb (by omega) (by omega) hd18
        rw [Int.toNat_of_nonneg (show 0 ≤ (now + r.window) by omega)] at C19
        refine C19.mono ?_
        rintro e v19 ⟨y19, hy19, rfl, hd19, gs19⟩
        clear C19
        have gr19 := gr18.trans gs19
        have hp19 := (gs19.block _ (blk_lt hp18) (fun e => by injection e with e; omega)).trans hp18
        clear hp18 hd18 gr18 gs19
        have c20 := cell_of_row _ _ 8 _ _ _ hp19
        have z20 := frozen_of_row _ _ 8 _ _ hp19
        simp at c20
        have hq20 : Hid ((World.setCell _ ⟨gp, 8, none⟩ (.int .i64 (1 + (y19 : Int)))).heap[gp]? = some (Obj.cells #[.int .i64 p.id, .int .i64 p.cabin, .int .i64 p.from_, .int .i64 p.size, .int .i64 p.tier, .int .i64 (y1 : Int), .int .i64 p.turn, .int .i64 2, .int .i64 (1 + (y19 : Int)), .int .i64 p.asked] 26)) := Go.heap_setCell_same _ gp 8 _ _ (.int .i64 (1 + (y19 : Int))) hp19
        have hk20 := Lib.hid (Cur.setCell hd19 gp 8 (.int .i64 (1 + (y19 : Int))) (by omega))
        have hr20 := Lib.hid (grown_setD gr19 gp 8 (.int .i64 (1 + (y19 : Int))) hgp)
        clear hp19 hd19 gr19
        go_wp2_with fail
        clear c20 z20
        have hp21 := hq20.out
        have hd21 := hk20.out
        have gr21 := hr20.out
        clear hq20 hk20 hr20
        refine (l1Once_any A l c g 4 _ hl hb (by omega) (by omega) hd21).mono ?_
        rintro e v22 ⟨d22, rfl, hd22, gs22⟩
        have gr22 := gr21.trans gs22
        have hp22 := (gs22.block _ (blk_lt hp21) (fun e => by injection e with e; omega)).trans hp21
        clear hp21 hd21 gr21 gs22
        cases d22
        · skip
          have a0 := cell_of_row _ _ 0 _ _ _ (hp22)
          have a1 := cell_of_row _ _ 1 _ _ _ (hp22)
          have a2 := cell_of_row _ _ 2 _ _ _ (hp22)
          have a3 := cell_of_row _ _ 3 _ _ _ (hp22)
          have a4 := cell_of_row _ _ 4 _ _ _ (hp22)
          have a5 := cell_of_row _ _ 5 _ _ _ (hp22)
          have a6 := cell_of_row _ _ 6 _ _ _ (hp22)
          have a7 := cell_of_row _ _ 7 _ _ _ (hp22)
          have a8 := cell_of_row _ _ 8 _ _ _ (hp22)
          have a9 := cell_of_row _ _ 9 _ _ _ (hp22)
          have hz := KZ.out _ (gr22)
          have e0 := cell_of_row _ _ 0 _ _ _ hz
          have f0 := frozen_of_row _ _ 0 _ _ hz
          have e1 := cell_of_row _ _ 1 _ _ _ hz
          have f1 := frozen_of_row _ _ 1 _ _ hz
          have e2 := cell_of_row _ _ 2 _ _ _ hz
          have f2 := frozen_of_row _ _ 2 _ _ hz
          have e3 := cell_of_row _ _ 3 _ _ _ hz
          have f3 := frozen_of_row _ _ 3 _ _ hz
          have e4 := cell_of_row _ _ 4 _ _ _ hz
          have f4 := frozen_of_row _ _ 4 _ _ hz
          have e5 := cell_of_row _ _ 5 _ _ _ hz
          have f5 := frozen_of_row _ _ 5 _ _ hz
          have e6 := cell_of_row _ _ 6 _ _ _ hz
          have f6 := frozen_of_row _ _ 6 _ _ hz
          have e7 := cell_of_row _ _ 7 _ _ _ hz
          have f7 := frozen_of_row _ _ 7 _ _ hz
          have e8 := cell_of_row _ _ 8 _ _ _ hz
          have f8 := frozen_of_row _ _ 8 _ _ hz
          have e9 := cell_of_row _ _ 9 _ _ _ hz
          have f9 := frozen_of_row _ _ 9 _ _ hz
          simp at a0 a1 a2 a3 a4 a5 a6 a7 a8 a9 e0 e1 e2 e3 e4 e5 e6 e7 e8 e9
          have HN : Hid (GotPf w g A l c (.returned (ptA (⟨p.id, p.cabin, p.from_, p.size, p.tier, (y1 : Int), p.turn, 2, (1 + (y19 : Int)), p.asked⟩ : Pt))) (putPt _ (w.heap.size + 1) (⟨p.id, p.cabin, p.from_, p.size, p.tier, (y1 : Int), p.turn, 2, (1 + (y19 : Int)), p.asked⟩ : Pt))) := ⟨_, rfl, by have h := HFP.out; simp only [Pt.fits, inI] at h ⊢; omega, putPt_cur (hd22) (by omega), putPt_grown (gW.out.trans (gr22)) (by omega)⟩
          clear hz
          unfold ptA putPt at HN
          go_wp2
          simp [bodyPost, results, Tryz.results12, go_sem, e0, e1, e2, e3, e4, e5, e6, e7, e8, e9]
          exact HN.out
        · skip
          have k23 := cell_of_row _ _ 0 _ _ _ (KR.out _ gr22)
          simp at k23
          have HP24 := Lib.hid hp22
          have HD24 := Lib.hid hd22
          have HG24 := Lib.hid gr22
          clear hp22 hd22 gr22
          go_wp2_with fail
          have hp25 := HP24.out
          have hd25 := HD24.out
          have gr25 := HG24.out
          clear HP24 HD24 HG24
          clear k23
          refine (l1Below_any A l c g r.seats.length _ hl hb (by omega) (by omega) hd25).mono ?_
          rintro e v26 ⟨y26, hy26, rfl, hd26, gs26⟩
          have gr26 := gr25.trans gs26
          have hp26 := (gs26.block _ (blk_lt hp25) (fun e => by injection e with e; omega)).trans hp25
          clear hp25 hd25 gr25 gs26
          have c27 := cell_of_row _ _ 2 _ _ _ hp26
          have z27 := frozen_of_row _ _ 2 _ _ hp26
          simp at c27
          have hq27 : Hid ((World.setCell _ ⟨gp, 2, none⟩ (.int .i64 (y26 : Int))).heap[gp]? = some (Obj.cells #[.int .i64 p.id, .int .i64 p.cabin, .int .i64 (y26 : Int), .int .i64 p.size, .int .i64 p.tier, .int .i64 (y1 : Int), .int .i64 p.turn, .int .i64 2, .int .i64 (1 + (y19 : Int)), .int .i64 p.asked] 26)) := Go.heap_setCell_same _ gp 2 _ _ (.int .i64 (y26 : Int)) hp26
          have hk27 := Lib.hid (Cur.setCell hd26 gp 2 (.int .i64 (y26 : Int)) (by omega))
          have hr27 := Lib.hid (grown_setD gr26 gp 2 (.int .i64 (y26 : Int)) hgp)
          clear hp26 hd26 gr26
          obtain ⟨U, eU⟩ : ∃ U, v26.setCell ⟨gp, 2, none⟩ (.int .i64 (y26 : Int)) = U := ⟨_, rfl⟩
          rw [eU] at hq27 hk27 hr27
          have a0 := cell_of_row _ _ 0 _ _ _ (hq27.out)
          have a1 := cell_of_row _ _ 1 _ _ _ (hq27.out)
          have a2 := cell_of_row _ _ 2 _ _ _ (hq27.out)
          have a3 := cell_of_row _ _ 3 _ _ _ (hq27.out)
          have a4 := cell_of_row _ _ 4 _ _ _ (hq27.out)
          have a5 := cell_of_row _ _ 5 _ _ _ (hq27.out)
          have a6 := cell_of_row _ _ 6 _ _ _ (hq27.out)
          have a7 := cell_of_row _ _ 7 _ _ _ (hq27.out)
          have a8 := cell_of_row _ _ 8 _ _ _ (hq27.out)
          have a9 := cell_of_row _ _ 9 _ _ _ (hq27.out)
          have hz := KZ.out _ (hr27.out)
          have e0 := cell_of_row _ _ 0 _ _ _ hz
          have f0 := frozen_of_row _ _ 0 _ _ hz
          have e1 := cell_of_row _ _ 1 _ _ _ hz
          have f1 := frozen_of_row _ _ 1 _ _ hz
          have e2 := cell_of_row _ _ 2 _ _ _ hz
          have f2 := frozen_of_row _ _ 2 _ _ hz
          have e3 := cell_of_row _ _ 3 _ _ _ hz
          have f3 := frozen_of_row _ _ 3 _ _ hz
          have e4 := cell_of_row _ _ 4 _ _ _ hz
          have f4 := frozen_of_row _ _ 4 _ _ hz
          have e5 := cell_of_row _ _ 5 _ _ _ hz
          have f5 := frozen_of_row _ _ 5 _ _ hz
          have e6 := cell_of_row _ _ 6 _ _ _ hz
          have f6 := frozen_of_row _ _ 6 _ _ hz
          have e7 := cell_of_row _ _ 7 _ _ _ hz
          have f7 := frozen_of_row _ _ 7 _ _ hz
          have e8 := cell_of_row _ _ 8 _ _ _ hz
          have f8 := frozen_of_row _ _ 8 _ _ hz
          have e9 := cell_of_row _ _ 9 _ _ _ hz
          have f9 := frozen_of_row _ _ 9 _ _ hz
          simp at a0 a1 a2 a3 a4 a5 a6 a7 a8 a9 e0 e1 e2 e3 e4 e5 e6 e7 e8 e9
          have HN : Hid (GotPf w g A l c (.returned (ptA (⟨p.id, p.cabin, (y26 : Int), p.size, p.tier, (y1 : Int), p.turn, 2, (1 + (y19 : Int)), p.asked⟩ : Pt))) (putPt _ (w.heap.size + 1) (⟨p.id, p.cabin, (y26 : Int), p.size, p.tier, (y1 : Int), p.turn, 2, (1 + (y19 : Int)), p.asked⟩ : Pt))) := ⟨_, rfl, by have h := HFP.out; simp only [Pt.fits, inI] at h ⊢; omega, putPt_cur (hk27.out) (by omega), putPt_grown (gW.out.trans (hr27.out)) (by omega)⟩
          clear hz
          unfold ptA putPt at HN
          go_wp2
          simp [bodyPost, results, Tryz.results12, go_sem, e0, e1, e2, e3, e4, e5, e6, e7, e8, e9]
          exact HN.out
    · skip
      have k28 := cell_of_row _ _ 6 _ _ _ (KR.out _ gr4)
      simp at k28
      have HP29 := Lib.hid hp4
      have HD29 := Lib.hid hd4
      have HG29 := Lib.hid gr4
      clear hp4 hd4 gr4
      go_wp2_with fail
      have hp30 := HP29.out
      have hd30 := HD29.out
      have gr30 := HG29.out
      clear HP29 HD29 HG29
      clear k28
      have C31 := l1Below_any A l c g ((now + r.rest + 1)).toNat _ hl hb (by omega) (by omega) hd30
      rw [Int.toNat_of_nonneg (show 0 ≤ (now + r.rest + 1) by omega)] at C31
      refine C31.mono ?_
      rintro e v31 ⟨y31, hy31, rfl, hd31, gs31⟩
      clear C31
      have gr31 := gr30.trans gs31
      have hp31 := (gs31.block _ (blk_lt hp30) (fun e => by injection e with e; omega)).trans hp30
      clear hp30 hd30 gr30 gs31
      have c32 := cell_of_row _ _ 8 _ _ _ hp31
      have z32 := frozen_of_row _ _ 8 _ _ hp31
      simp at c32
      have hq32 : Hid ((World.setCell _ ⟨gp, 8, none⟩ (.int .i64 (y31 : Int))).heap[gp]? = some (Obj.cells #[.int .i64 p.id, .int .i64 p.cabin, .int .i64 p.from_, .int .i64 p.size, .int .i64 p.tier, .int .i64 (y1 : Int), .int .i64 p.turn, .int .i64 p.state, .int .i64 (y31 : Int), .int .i64 p.asked] 26)) := Go.heap_setCell_same _ gp 8 _ _ (.int .i64 (y31 : Int)) hp31
      have hk32 := Lib.hid (Cur.setCell hd31 gp 8 (.int .i64 (y31 : Int)) (by omega))
      have hr32 := Lib.hid (grown_setD gr31 gp 8 (.int .i64 (y31 : Int)) hgp)
      clear hp31 hd31 gr31
      go_wp2_with fail
      clear c32 z32
      have hp33 := hq32.out
      have hd33 := hk32.out
      have gr33 := hr32.out
      clear hq32 hk32 hr32
      refine (l1Once_any A l c g 3 _ hl hb (by omega) (by omega) hd33).mono ?_
      rintro e v34 ⟨d34, rfl, hd34, gs34⟩
      have gr34 := gr33.trans gs34
      have hp34 := (gs34.block _ (blk_lt hp33) (fun e => by injection e with e; omega)).trans hp33
      clear hp33 hd33 gr33 gs34
      cases d34
      · skip
        have HP35 := Lib.hid hp34
        have HD35 := Lib.hid hd34
        have HG35 := Lib.hid gr34
        clear hp34 hd34 gr34
        go_wp2_with fail
        have hp36 := HP35.out
        have hd36 := HD35.out
        have gr36 := HG35.out
        clear HP35 HD35 HG35
        refine (l1Once_any A l c g 4 _ hl hb (by omega) (by omega) hd36).mono ?_
        rintro e v37 ⟨d37, rfl, hd37, gs37⟩
        have gr37 := gr36.trans gs37
        have hp37 := (gs37.block _ (blk_lt hp36) (fun e => by injection e with e; omega)).trans hp36
        clear hp36 hd36 gr36 gs37
        cases d37
        · skip
          have a0 := cell_of_row _ _ 0 _ _ _ (hp37)
          have a1 := cell_of_row _ _ 1 _ _ _ (hp37)
          have a2 := cell_of_row _ _ 2 _ _ _ (hp37)
          have a3 := cell_of_row _ _ 3 _ _ _ (hp37)
          have a4 := cell_of_row _ _ 4 _ _ _ (hp37)
          have a5 := cell_of_row _ _ 5 _ _ _ (hp37)
          have a6 := cell_of_row _ _ 6 _ _ _ (hp37)
          have a7 := cell_of_row _ _ 7 _ _ _ (hp37)
          have a8 := cell_of_row _ _ 8 _ _ _ (hp37)
          have a9 := cell_of_row _ _ 9 _ _ _ (hp37)
          have hz := KZ.out _ (gr37)
          have e0 := cell_of_row _ _ 0 _ _ _ hz
          have f0 := frozen_of_row _ _ 0 _ _ hz
          have e1 := cell_of_row _ _ 1 _ _ _ hz
          have f1 := frozen_of_row _ _ 1 _ _ hz
          have e2 := cell_of_row _ _ 2 _ _ _ hz
          have f2 := frozen_of_row _ _ 2 _ _ hz
          have e3 := cell_of_row _ _ 3 _ _ _ hz
          have f3 := frozen_of_row _ _ 3 _ _ hz
          have e4 := cell_of_row _ _ 4 _ _ _ hz
          have f4 := frozen_of_row _ _ 4 _ _ hz
          have e5 := cell_of_row _ _ 5 _ _ _ hz
          have f5 := frozen_of_row _ _ 5 _ _ hz
          have e6 := cell_of_row _ _ 6 _ _ _ hz
          have f6 := frozen_of_row _ _ 6 _ _ hz
          have e7 := cell_of_row _ _ 7 _ _ _ hz
          have f7 := frozen_of_row _ _ 7 _ _ hz
          have e8 := cell_of_row _ _ 8 _ _ _ hz
          have f8 := frozen_of_row _ _ 8 _ _ hz
          have e9 := cell_of_row _ _ 9 _ _ _ hz
          have f9 := frozen_of_row _ _ 9 _ _ hz
          simp at a0 a1 a2 a3 a4 a5 a6 a7 a8 a9 e0 e1 e2 e3 e4 e5 e6 e7 e8 e9
          have HN : Hid (GotPf w g A l c (.returned (ptA (⟨p.id, p.cabin, p.from_, p.size, p.tier, (y1 : Int), p.turn, p.state, (y31 : Int), p.asked⟩ : Pt))) (putPt _ (w.heap.size + 1) (⟨p.id, p.cabin, p.from_, p.size, p.tier, (y1 : Int), p.turn, p.state, (y31 : Int), p.asked⟩ : Pt))) := ⟨_, rfl, by have h := HFP.out; simp only [Pt.fits, inI] at h ⊢; omega, putPt_cur (hd37) (by omega), putPt_grown (gW.out.trans (gr37)) (by omega)⟩
          clear hz
          unfold ptA putPt at HN
          go_wp2
          simp [bodyPost, results, Tryz.results12, go_sem, e0, e1, e2, e3, e4, e5, e6, e7, e8, e9]
          exact HN.out
        · skip
          have k38 := cell_of_row _ _ 0 _ _ _ (KR.out _ gr37)
          simp at k38
          have HP39 := Lib.hid hp37
          have HD39 := Lib.hid hd37
          have HG39 := Lib.hid gr37
          clear hp37 hd37 gr37
          go_wp2_with fail
          have hp40 := HP39.out
          have hd40 := HD39.out
          have gr40 := HG39.out
          clear HP39 HD39 HG39
          clear k38
          refine (l1Below_any A l c g r.seats.length _ hl hb (by omega) (by omega) hd40).mono ?_
          rintro e v41 ⟨y41, hy41, rfl, hd41, gs41⟩
          have gr41 := gr40.trans gs41
          have hp41 := (gs41.block _ (blk_lt hp40) (fun e => by injection e with e; omega)).trans hp40
          clear hp40 hd40 gr40 gs41
          have c42 := cell_of_row _ _ 2 _ _ _ hp41
          have z42 := frozen_of_row _ _ 2 _ _ hp41
          simp at c42
          have hq42 : Hid ((World.setCell _ ⟨gp, 2, none⟩ (.int .i64 (y41 : Int))).heap[gp]? = some (Obj.cells #[.int .i64 p.id, .int .i64 p.cabin, .int .i64 (y41 : Int), .int .i64 p.size, .int .i64 p.tier, .int .i64 (y1 : Int), .int .i64 p.turn, .int .i64 p.state, .int .i64 (y31 : Int), .int .i64 p.asked] 26)) := Go.heap_setCell_same _ gp 2 _ _ (.int .i64 (y41 : Int)) hp41
          have hk42 := Lib.hid (Cur.setCell hd41 gp 2 (.int .i64 (y41 : Int)) (by omega))
          have hr42 := Lib.hid (grown_setD gr41 gp 2 (.int .i64 (y41 : Int)) hgp)
          clear hp41 hd41 gr41
          obtain ⟨U, eU⟩ : ∃ U, v41.setCell ⟨gp, 2, none⟩ (.int .i64 (y41 : Int)) = U := ⟨_, rfl⟩
          rw [eU] at hq42 hk42 hr42
          have a0 := cell_of_row _ _ 0 _ _ _ (hq42.out)
          have a1 := cell_of_row _ _ 1 _ _ _ (hq42.out)
          have a2 := cell_of_row _ _ 2 _ _ _ (hq42.out)
          have a3 := cell_of_row _ _ 3 _ _ _ (hq42.out)
          have a4 := cell_of_row _ _ 4 _ _ _ (hq42.out)
          have a5 := cell_of_row _ _ 5 _ _ _ (hq42.out)
          have a6 := cell_of_row _ _ 6 _ _ _ (hq42.out)
          have a7 := cell_of_row _ _ 7 _ _ _ (hq42.out)
          have a8 := cell_of_row _ _ 8 _ _ _ (hq42.out)
          have a9 := cell_of_row _ _ 9 _ _ _ (hq42.out)
          have hz := KZ.out _ (hr42.out)
          have e0 := cell_of_row _ _ 0 _ _ _ hz
          have f0 := frozen_of_row _ _ 0 _ _ hz
          have e1 := cell_of_row _ _ 1 _ _ _ hz
          have f1 := frozen_of_row _ _ 1 _ _ hz
          have e2 := cell_of_row _ _ 2 _ _ _ hz
          have f2 := frozen_of_row _ _ 2 _ _ hz
          have e3 := cell_of_row _ _ 3 _ _ _ hz
          have f3 := frozen_of_row _ _ 3 _ _ hz
          have e4 := cell_of_row _ _ 4 _ _ _ hz
          have f4 := frozen_of_row _ _ 4 _ _ hz
          have e5 := cell_of_row _ _ 5 _ _ _ hz
          have f5 := frozen_of_row _ _ 5 _ _ hz
          have e6 := cell_of_row _ _ 6 _ _ _ hz
          have f6 := frozen_of_row _ _ 6 _ _ hz
          have e7 := cell_of_row _ _ 7 _ _ _ hz
          have f7 := frozen_of_row _ _ 7 _ _ hz
          have e8 := cell_of_row _ _ 8 _ _ _ hz
          have f8 := frozen_of_row _ _ 8 _ _ hz
          have e9 := cell_of_row _ _ 9 _ _ _ hz
          have f9 := frozen_of_row _ _ 9 _ _ hz
          simp at a0 a1 a2 a3 a4 a5 a6 a7 a8 a9 e0 e1 e2 e3 e4 e5 e6 e7 e8 e9
          have HN : Hid (GotPf w g A l c (.returned (ptA (⟨p.id, p.cabin, (y41 : Int), p.size, p.tier, (y1 : Int), p.turn, p.state, (y31 : Int), p.asked⟩ : Pt))) (putPt _ (w.heap.size + 1) (⟨p.id, p.cabin, (y41 : Int), p.size, p.tier, (y1 : Int), p.turn, p.state, (y31 : Int), p.asked⟩ : Pt))) := ⟨_, rfl, by have h := HFP.out; simp only [Pt.fits, inI] at h ⊢; omega, putPt_cur (hk42.out) (by omega), putPt_grown (gW.out.trans (hr42.out)) (by omega)⟩
          clear hz
          unfold ptA putPt at HN
          go_wp2
          simp [bodyPost, results, Tryz.results12, go_sem, e0, e1, e2, e3, e4, e5, e6, e7, e8, e9]
          exact HN.out
      · skip
        have k43 := cell_of_row _ _ 5 _ _ _ (KR.out _ gr34)
        simp at k43
        have c44 := cell_of_row _ _ 7 _ _ _ hp34
        have z44 := frozen_of_row _ _ 7 _ _ hp34
        simp at c44
        have hq44 : Hid ((World.setCell _ ⟨gp, 7, none⟩ (.int .i64 2)).heap[gp]? = some (Obj.cells #[.int .i64 p.id, .int .i64 p.cabin, .int .i64 p.from_, .int .i64 p.size, .int .i64 p.tier, .int .i64 (y1 : Int), .int .i64 p.turn, .int .i64 2, .int .i64 (y31 : Int), .int .i64 p.asked] 26)) := Go.heap_setCell_same _ gp 7 _ _ (.int .i64 2) hp34
        have hk44 := Lib.hid (Cur.setCell hd34 gp 7 (.int .i64 2) (by omega))
        have hr44 := Lib.hid (grown_setD gr34 gp 7 (.int .i64 2) hgp)
        clear hp34 hd34 gr34
        have k2 := cell_of_row _ _ 5 _ _ _ (KR.out _ hr44.out)
        simp at k2
        go_wp2_with fail
        clear c44 z44
        have hp45 := hq44.out
        have hd45 := hk44.out
        have gr45 := hr44.out
        clear hq44 hk44 hr44
        clear k2 k43
        have C46 := l1Below_any A l c g ((now + r.window)).toNat _ hl hb (by omega) (by omega) hd45
        rw [Int.toNat_of_nonneg (show 0 ≤ (now + r.window) by omega)] at C46
        refine C46.mono ?_
        rintro e v46 ⟨y46, hy46, rfl, hd46, gs46⟩
        clear C46
        have gr46 := gr45.trans gs46
        have hp46 := (gs46.block _ (blk_lt hp45) (fun e => by injection e with e; omega)).trans hp45
        clear hp45 hd45 gr45 gs46
        have c47 := cell_of_row _ _ 8 _ _ _ hp46
        have z47 := frozen_of_row _ _ 8 _ _ hp46
        simp at c47
        have hq47 : Hid ((World.setCell _ ⟨gp, 8, none⟩ (.int .i64 (1 + (y46 : Int)))).heap[gp]? = some (Obj.cells #[.int .i64 p.id, .int .i64 p.cabin, .int .i64 p.from_, .int .i64 p.size, .int .i64 p.tier, .int .i64 (y1 : Int), .int .i64 p.turn, .int .i64 2, .int .i64 (1 + (y46 : Int)), .int .i64 p.asked] 26)) := Go.heap_setCell_same _ gp 8 _ _ (.int .i64 (1 + (y46 : Int))) hp46
        have hk47 := Lib.hid (Cur.setCell hd46 gp 8 (.int .i64 (1 + (y46 : Int))) (by omega))
        have hr47 := Lib.hid (grown_setD gr46 gp 8 (.int .i64 (1 + (y46 : Int))) hgp)
        clear hp46 hd46 gr46
        go_wp2_with fail
        clear c47 z47
        have hp48 := hq47.out
        have hd48 := hk47.out
        have gr48 := hr47.out
        clear hq47 hk47 hr47
        refine (l1Once_any A l c g 4 _ hl hb (by omega) (by omega) hd48).mono ?_
        rintro e v49 ⟨d49, rfl, hd49, gs49⟩
        have gr49 := gr48.trans gs49
        have hp49 := (gs49.block _ (blk_lt hp48) (fun e => by injection e with e; omega)).trans hp48
        clear hp48 hd48 gr48 gs49
        cases d49
        · skip
          have a0 := cell_of_row _ _ 0 _ _ _ (hp49)
          have a1 := cell_of_row _ _ 1 _ _ _ (hp49)
          have a2 := cell_of_row _ _ 2 _ _ _ (hp49)
          have a3 := cell_of_row _ _ 3 _ _ _ (hp49)
          have a4 := cell_of_row _ _ 4 _ _ _ (hp49)
          have a5 := cell_of_row _ _ 5 _ _ _ (hp49)
          have a6 := cell_of_row _ _ 6 _ _ _ (hp49)
          have a7 := cell_of_row _ _ 7 _ _ _ (hp49)
          have a8 := cell_of_row _ _ 8 _ _ _ (hp49)
          have a9 := cell_of_row _ _ 9 _ _ _ (hp49)
          have hz := KZ.out _ (gr49)
          have e0 := cell_of_row _ _ 0 _ _ _ hz
          have f0 := frozen_of_row _ _ 0 _ _ hz
          have e1 := cell_of_row _ _ 1 _ _ _ hz
          have f1 := frozen_of_row _ _ 1 _ _ hz
          have e2 := cell_of_row _ _ 2 _ _ _ hz
          have f2 := frozen_of_row _ _ 2 _ _ hz
          have e3 := cell_of_row _ _ 3 _ _ _ hz
          have f3 := frozen_of_row _ _ 3 _ _ hz
          have e4 := cell_of_row _ _ 4 _ _ _ hz
          have f4 := frozen_of_row _ _ 4 _ _ hz
          have e5 := cell_of_row _ _ 5 _ _ _ hz
          have f5 := frozen_of_row _ _ 5 _ _ hz
          have e6 := cell_of_row _ _ 6 _ _ _ hz
          have f6 := frozen_of_row _ _ 6 _ _ hz
          have e7 := cell_of_row _ _ 7 _ _ _ hz
          have f7 := frozen_of_row _ _ 7 _ _ hz
          have e8 := cell_of_row _ _ 8 _ _ _ hz
          have f8 := frozen_of_row _ _ 8 _ _ hz
          have e9 := cell_of_row _ _ 9 _ _ _ hz
          have f9 := frozen_of_row _ _ 9 _ _ hz
          simp at a0 a1 a2 a3 a4 a5 a6 a7 a8 a9 e0 e1 e2 e3 e4 e5 e6 e7 e8 e9
          have HN : Hid (GotPf w g A l c (.returned (ptA (⟨p.id, p.cabin, p.from_, p.size, p.tier, (y1 : Int), p.turn, 2, (1 + (y46 : Int)), p.asked⟩ : Pt))) (putPt _ (w.heap.size + 1) (⟨p.id, p.cabin, p.from_, p.size, p.tier, (y1 : Int), p.turn, 2, (1 + (y46 : Int)), p.asked⟩ : Pt))) := ⟨_, rfl, by have h := HFP.out; simp only [Pt.fits, inI] at h ⊢; omega, putPt_cur (hd49) (by omega), putPt_grown (gW.out.trans (gr49)) (by omega)⟩
          clear hz
          unfold ptA putPt at HN
          go_wp2
          simp [bodyPost, results, Tryz.results12, go_sem, e0, e1, e2, e3, e4, e5, e6, e7, e8, e9]
          exact HN.out
        · skip
          have k50 := cell_of_row _ _ 0 _ _ _ (KR.out _ gr49)
          simp at k50
          have HP51 := Lib.hid hp49
          have HD51 := Lib.hid hd49
          have HG51 := Lib.hid gr49
          clear hp49 hd49 gr49
          go_wp2_with fail
          have hp52 := HP51.out
          have hd52 := HD51.out
          have gr52 := HG51.out
          clear HP51 HD51 HG51
          clear k50
          refine (l1Below_any A l c g r.seats.length _ hl hb (by omega) (by omega) hd52).mono ?_
          rintro e v53 ⟨y53, hy53, rfl, hd53, gs53⟩
          have gr53 := gr52.trans gs53
          have hp53 := (gs53.block _ (blk_lt hp52) (fun e => by injection e with e; omega)).trans hp52
          clear hp52 hd52 gr52 gs53
          have c54 := cell_of_row _ _ 2 _ _ _ hp53
          have z54 := frozen_of_row _ _ 2 _ _ hp53
          simp at c54
          have hq54 : Hid ((World.setCell _ ⟨gp, 2, none⟩ (.int .i64 (y53 : Int))).heap[gp]? = some (Obj.cells #[.int .i64 p.id, .int .i64 p.cabin, .int .i64 (y53 : Int), .int .i64 p.size, .int .i64 p.tier, .int .i64 (y1 : Int), .int .i64 p.turn, .int .i64 2, .int .i64 (1 + (y46 : Int)), .int .i64 p.asked] 26)) := Go.heap_setCell_same _ gp 2 _ _ (.int .i64 (y53 : Int)) hp53
          have hk54 := Lib.hid (Cur.setCell hd53 gp 2 (.int .i64 (y53 : Int)) (by omega))
          have hr54 := Lib.hid (grown_setD gr53 gp 2 (.int .i64 (y53 : Int)) hgp)
          clear hp53 hd53 gr53
          obtain ⟨U, eU⟩ : ∃ U, v53.setCell ⟨gp, 2, none⟩ (.int .i64 (y53 : Int)) = U := ⟨_, rfl⟩
          rw [eU] at hq54 hk54 hr54
          have a0 := cell_of_row _ _ 0 _ _ _ (hq54.out)
          have a1 := cell_of_row _ _ 1 _ _ _ (hq54.out)
          have a2 := cell_of_row _ _ 2 _ _ _ (hq54.out)
          have a3 := cell_of_row _ _ 3 _ _ _ (hq54.out)
          have a4 := cell_of_row _ _ 4 _ _ _ (hq54.out)
          have a5 := cell_of_row _ _ 5 _ _ _ (hq54.out)
          have a6 := cell_of_row _ _ 6 _ _ _ (hq54.out)
          have a7 := cell_of_row _ _ 7 _ _ _ (hq54.out)
          have a8 := cell_of_row _ _ 8 _ _ _ (hq54.out)
          have a9 := cell_of_row _ _ 9 _ _ _ (hq54.out)
          have hz := KZ.out _ (hr54.out)
          have e0 := cell_of_row _ _ 0 _ _ _ hz
          have f0 := frozen_of_row _ _ 0 _ _ hz
          have e1 := cell_of_row _ _ 1 _ _ _ hz
          have f1 := frozen_of_row _ _ 1 _ _ hz
          have e2 := cell_of_row _ _ 2 _ _ _ hz
          have f2 := frozen_of_row _ _ 2 _ _ hz
          have e3 := cell_of_row _ _ 3 _ _ _ hz
          have f3 := frozen_of_row _ _ 3 _ _ hz
          have e4 := cell_of_row _ _ 4 _ _ _ hz
          have f4 := frozen_of_row _ _ 4 _ _ hz
          have e5 := cell_of_row _ _ 5 _ _ _ hz
          have f5 := frozen_of_row _ _ 5 _ _ hz
          have e6 := cell_of_row _ _ 6 _ _ _ hz
          have f6 := frozen_of_row _ _ 6 _ _ hz
          have e7 := cell_of_row _ _ 7 _ _ _ hz
          have f7 := frozen_of_row _ _ 7 _ _ hz
          have e8 := cell_of_row _ _ 8 _ _ _ hz
          have f8 := frozen_of_row _ _ 8 _ _ hz
          have e9 := cell_of_row _ _ 9 _ _ _ hz
          have f9 := frozen_of_row _ _ 9 _ _ hz
          simp at a0 a1 a2 a3 a4 a5 a6 a7 a8 a9 e0 e1 e2 e3 e4 e5 e6 e7 e8 e9
          have HN : Hid (GotPf w g A l c (.returned (ptA (⟨p.id, p.cabin, (y53 : Int), p.size, p.tier, (y1 : Int), p.turn, 2, (1 + (y46 : Int)), p.asked⟩ : Pt))) (putPt _ (w.heap.size + 1) (⟨p.id, p.cabin, (y53 : Int), p.size, p.tier, (y1 : Int), p.turn, 2, (1 + (y46 : Int)), p.asked⟩ : Pt))) := ⟨_, rfl, by have h := HFP.out; simp only [Pt.fits, inI] at h ⊢; omega, putPt_cur (hk54.out) (by omega), putPt_grown (gW.out.trans (hr54.out)) (by omega)⟩
          clear hz
          unfold ptA putPt at HN
          go_wp2
          simp [bodyPost, results, Tryz.results12, go_sem, e0, e1, e2, e3, e4, e5, e6, e7, e8, e9]
          exact HN.out
theorem putPt_heapG {w : World} {b : Nat} {p : Pt} {t : TypeId} {v0 v1 v2 v3 v4 v5 v6 v7 v8 v9 : Value} (h : w.heap[b]? = some (.cells #[v0, v1, v2, v3, v4, v5, v6, v7, v8, v9] t (0, 0))) : (putPt w b p).heap[b]? = some (.cells #[.int .i64 p.id, .int .i64 p.cabin, .int .i64 p.from_, .int .i64 p.size, .int .i64 p.tier, .int .i64 p.since, .int .i64 p.turn, .int .i64 p.state, .int .i64 p.until_, .int .i64 p.asked] t (0, 0)) := by
  unfold putPt
  have h := Go.heap_setCell_same _ b 0 _ t (.int .i64 p.id) h
  have h := Go.heap_setCell_same _ b 1 _ t (.int .i64 p.cabin) h
  have h := Go.heap_setCell_same _ b 2 _ t (.int .i64 p.from_) h
  have h := Go.heap_setCell_same _ b 3 _ t (.int .i64 p.size) h
  have h := Go.heap_setCell_same _ b 4 _ t (.int .i64 p.tier) h
  have h := Go.heap_setCell_same _ b 5 _ t (.int .i64 p.since) h
  have h := Go.heap_setCell_same _ b 6 _ t (.int .i64 p.turn) h
  have h := Go.heap_setCell_same _ b 7 _ t (.int .i64 p.state) h
  have h := Go.heap_setCell_same _ b 8 _ t (.int .i64 p.until_) h
  have h := Go.heap_setCell_same _ b 9 _ t (.int .i64 p.asked) h
  simpa using h
theorem putPt_other (w : World) {b k : Nat} (p : Pt) (h : k ≠ b) : (putPt w b p).heap[k]? = w.heap[k]? := by
  unfold putPt
  rw [heap_set_ne _ _ _ _ h, heap_set_ne _ _ _ _ h, heap_set_ne _ _ _ _ h, heap_set_ne _ _ _ _ h, heap_set_ne _ _ _ _ h, heap_set_ne _ _ _ _ h, heap_set_ne _ _ _ _ h, heap_set_ne _ _ _ _ h, heap_set_ne _ _ _ _ h, heap_set_ne _ _ _ _ h]
theorem putPt_size (w : World) (b : Nat) (p : Pt) : (putPt w b p).heap.size = w.heap.size := by unfold putPt; simp
theorem got_pf {w w5 : World} {g : Nat} {A : Option Addr} {l : List Nat} {c : Nat} {p : Pt} (hp : p.fits) (hc : Cur w5 g A l c) (gr : w.grownBy w5 (some g)) (hlt : g < w.heap.size) :
    GotPf w g A l c (.returned (ptA p)) (putPt w5 (w.heap.size + 1) p) :=
  ⟨p, rfl, hp, putPt_cur hc (by omega), putPt_grown gr (by omega)⟩
set_option maxRecDepth 100000 in
set_option maxHeartbeats 12800000 in
theorem l6Bent_any (A RA : Option Addr) (l : List Nat) (c g rc base : Nat) (r : Ru) (now : Int) (w : World) (hl : l.length ≤ 2097152) (hb : AllB l) (hcw : Cur w g A l c) (hr : RuOk r) (hnow : 0 ≤ now ∧ now ≤ 1000) (hRA : w.ownsRow base 3 1 (.slice RA r.seats.length rc) r.seats.length (ints r.seats)) (hgb : g < base) :
    Calls Tryz.prog 22 #[.pointer (some ⟨g, 0, none⟩), ruV RA rc r, .int .i64 now] w (GotPf w g A l c) := by
  have hlt := hcw.lt
  obtain ⟨W0, hW0⟩ : ∃ W0, (w.alloc (.cells #[.slice RA r.seats.length rc, .int .i64 r.tiers, .int .i64 r.room, .int .i64 r.size, .int .i64 r.period, .int .i64 r.window, .int .i64 r.rest, .int .i64 r.tries, .int .i64 r.crew] 34)).alloc (.cells #[.int .i64 0, .int .i64 0, .int .i64 0, .int .i64 0, .int .i64 0, .int .i64 0, .int .i64 0, .int .i64 0, .int .i64 0, .int .i64 0] 26) = W0 := ⟨_, rfl⟩
  have hW0s : W0.heap.size = w.heap.size + 2 := by rw [← hW0]; simp
  obtain ⟨W, hW⟩ : ∃ W, W0.alloc (.cells #[.int .i64 3, .int .i64 0, .int .i64 (-1), .int .i64 1, .int .i64 0, .int .i64 0, .int .i64 1, .int .i64 1, .int .i64 0, .int .i64 0] 26) = W := ⟨_, rfl⟩
  have hWs : W.heap.size = w.heap.size + 3 := by rw [← hW]; simp; omega
  have T0 : W.heap[w.heap.size]? = some (.cells #[.slice RA r.seats.length rc, .int .i64 r.tiers, .int .i64 r.room, .int .i64 r.size, .int .i64 r.period, .int .i64 r.window, .int .i64 r.rest, .int .i64 r.tries, .int .i64 r.crew] 34) := by rw [← hW, ← hW0]; exact blk_alloc (blk_alloc (heap_new w _) _) _
  have T1 : W.heap[w.heap.size + 1]? = some (.cells #[.int .i64 0, .int .i64 0, .int .i64 0, .int .i64 0, .int .i64 0, .int .i64 0, .int .i64 0, .int .i64 0, .int .i64 0, .int .i64 0] 26) := by rw [← hW, ← hW0]; exact blk_alloc (by have := heap_new (w.alloc (.cells #[.slice RA r.seats.length rc, .int .i64 r.tiers, .int .i64 r.room, .int .i64 r.size, .int .i64 r.period, .int .i64 r.window, .int .i64 r.rest, .int .i64 r.tries, .int .i64 r.crew] 34)) (.cells #[.int .i64 0, .int .i64 0, .int .i64 0, .int .i64 0, .int .i64 0, .int .i64 0, .int .i64 0, .int .i64 0, .int .i64 0, .int .i64 0] 26); rwa [World.size_alloc] at this) _
  have T2 : W.heap[w.heap.size + 2]? = some (.cells #[.int .i64 3, .int .i64 0, .int .i64 (-1), .int .i64 1, .int .i64 0, .int .i64 0, .int .i64 1, .int .i64 1, .int .i64 0, .int .i64 0] 26) := by rw [← hW, ← hW0s]; exact heap_new _ _
  have g0 : w.grownBy W (some g) := by rw [← hW, ← hW0]; exact grown_step (grown_step (grown_made w _ g) (World.grownBy_alloc _ _ none) (fun j h => by cases h)) (World.grownBy_alloc _ _ none) (fun j h => by cases h)
  have hcW : Cur W g A l c := by rw [← hW, ← hW0]; exact ((hcw.alloc _).alloc _).alloc _
  have oW : W.ownsRow base 3 1 (.slice RA r.seats.length rc) r.seats.length (ints r.seats) := own_cur hRA g0 hgb
  have C1 := Lib.hid (rulesOk_yes RA rc r W hr (own_rws oW))
  have HN := Lib.hid hnow
  clear hRA hcw hnow
  have HR := Lib.hid hr
  have k00 := cell_of_row _ _ 0 _ _ _ T0
  have k01 := cell_of_row _ _ 1 _ _ _ T0
  have k02 := cell_of_row _ _ 2 _ _ _ T0
  have k03 := cell_of_row _ _ 3 _ _ _ T0
  have k04 := cell_of_row _ _ 4 _ _ _ T0
  have k05 := cell_of_row _ _ 5 _ _ _ T0
  have k06 := cell_of_row _ _ 6 _ _ _ T0
  have k07 := cell_of_row _ _ 7 _ _ _ T0
  have k08 := cell_of_row _ _ 8 _ _ _ T0
  simp at k00 k01 k02 k03 k04 k05 k06 k07 k08
  have HH := Lib.hid (And.intro T0 (And.intro T1 (And.intro T2 (And.intro g0 (And.intro hcW oW)))))
  have HS := Lib.hid hWs
  rw [← hW] at k00 k01 k02 k03 k04 k05 k06 k07 k08
  have HW := Lib.hid hW
  clear T0 T1 T2 g0 hcW oW hWs hr hW
  unfold ruV at C1 ⊢
  go_enter Tryz.func22, Tryz.ntmps22
  go_wp2_with fail
  rw [HW.out]
  refine C1.out.mono ?_
  rintro e W2 ⟨rfl, b2⟩
  obtain ⟨T0, T1, T2, g0, hcW, oW⟩ := HH.out
  have hWs := HS.out
  clear hW0s k00 k01 k02 k03 k04 k05 k06 k07 k08 HH HS C1 HW
  have gW2 : W.grownBy W2 (some g) := grown_of_below b2 _
  have T0 := grown_keep gW2 T0 (by omega)
  have T1 := grown_keep gW2 T1 (by omega)
  have T2 := grown_keep gW2 T2 (by omega)
  have hc2 := hcW.mem b2
  have o2 := own_cur oW gW2 hgb
  have g2 := g0.trans gW2
  have hs2 := b2.size
  have C2 := Lib.hid (l6Right_fits A RA l c g rc r now W2 hl hb hc2 HR.out HN.out)
  have k00 := cell_of_row _ _ 0 _ _ _ T0
  have k01 := cell_of_row _ _ 1 _ _ _ T0
  have k02 := cell_of_row _ _ 2 _ _ _ T0
  have k03 := cell_of_row _ _ 3 _ _ _ T0
  have k04 := cell_of_row _ _ 4 _ _ _ T0
  have k05 := cell_of_row _ _ 5 _ _ _ T0
  have k06 := cell_of_row _ _ 6 _ _ _ T0
  have k07 := cell_of_row _ _ 7 _ _ _ T0
  have k08 := cell_of_row _ _ 8 _ _ _ T0
  simp at k00 k01 k02 k03 k04 k05 k06 k07 k08
  have HH := Lib.hid (And.intro T1 (And.intro T2 (And.intro g2 o2)))
  have HS : Hid (w.heap.size + 3 ≤ W2.heap.size) := by show _ ≤ _; omega
  clear T0 T1 T2 g2 g0 hcW oW hWs o2 gW2 hc2 hs2 b2
  unfold ruV at C2
  go_wp2_with fail
  refine C2.out.mono ?_
  rintro e u3 ⟨p, rfl, hpf, hc3, gr3⟩
  obtain ⟨T1, T2, g2, o2⟩ := HH.out
  have hs2 := HS.out
  clear k00 k01 k02 k03 k04 k05 k06 k07 k08 HH HS C2
  have T1 := grown_keep gr3 T1 (by omega)
  have T2 := grown_keep gr3 T2 (by omega)
  have g3 := g2.trans gr3
  have hs3 := gr3.size
  obtain ⟨W3, hW3⟩ : ∃ W3, putPt u3 (w.heap.size + 2) p = W3 := ⟨_, rfl⟩
  have hW3s : W3.heap.size = u3.heap.size := by rw [← hW3]; exact putPt_size _ _ _
  have z0 := frozen_of_row _ _ 0 _ _ T2
  have q0 := cell_of_row _ _ 0 _ _ _ T2
  have z1 := frozen_of_row _ _ 1 _ _ T2
  have q1 := cell_of_row _ _ 1 _ _ _ T2
  have z2 := frozen_of_row _ _ 2 _ _ T2
  have q2 := cell_of_row _ _ 2 _ _ _ T2
  have z3 := frozen_of_row _ _ 3 _ _ T2
  have q3 := cell_of_row _ _ 3 _ _ _ T2
  have z4 := frozen_of_row _ _ 4 _ _ T2
  have q4 := cell_of_row _ _ 4 _ _ _ T2
  have z5 := frozen_of_row _ _ 5 _ _ T2
  have q5 := cell_of_row _ _ 5 _ _ _ T2
  have z6 := frozen_of_row _ _ 6 _ _ T2
  have q6 := cell_of_row _ _ 6 _ _ _ T2
  have z7 := frozen_of_row _ _ 7 _ _ T2
  have q7 := cell_of_row _ _ 7 _ _ _ T2
  have z8 := frozen_of_row _ _ 8 _ _ T2
  have q8 := cell_of_row _ _ 8 _ _ _ T2
  have z9 := frozen_of_row _ _ 9 _ _ T2
  have q9 := cell_of_row _ _ 9 _ _ _ T2
  simp at q0 q1 q2 q3 q4 q5 q6 q7 q8 q9
  have V2 : W3.heap[w.heap.size + 2]? = some (.cells #[.int .i64 p.id, .int .i64 p.cabin, .int .i64 p.from_, .int .i64 p.size, .int .i64 p.tier, .int .i64 p.since, .int .i64 p.turn, .int .i64 p.state, .int .i64 p.until_, .int .i64 p.asked] 26) := by rw [← hW3]; exact putPt_heapG T2
  have V1 : W3.heap[w.heap.size + 1]? = _ := (by rw [← hW3]; exact putPt_other u3 p (by omega) : W3.heap[w.heap.size + 1]? = u3.heap[w.heap.size + 1]?).trans T1
  have c3 : Cur W3 g A l c := by rw [← hW3]; exact putPt_cur hc3 (by omega)
  have g3 : w.grownBy W3 (some g) := by rw [← hW3]; exact putPt_grown g3 (by omega)
  have hu : u3.heap.size = W3.heap.size := hW3s.symm
  have hx := ints_new W3 [-1, 0, 2, 5, 7, 1000000, 1000001, 9223372036854775807, -9223372036854775808]
  have PE := Lib.hid (And.intro V1 (And.intro V2 (And.intro c3 g3)))
  have HS : Hid (w.heap.size + 3 ≤ W3.heap.size) := by show _ ≤ _; omega
  have CP := Lib.hid (l1PickInt_any A l c g [-1, 0, 2, 5, 7, 1000000, 1000001, 9223372036854775807, -9223372036854775808] W3.heap.size 9 9 _ hl hb (c3.alloc _) rfl (by simp) (by simp) (by have := c3.lt; omega) hx)
  clear T1 T2 V1 V2 c3 g3 g2 o2 gr3 hc3 hs2 hs3 hW3s hu hx
  unfold putPt at hW3
  unfold ptA
  go_wp2_with fail
  refine CP.out.mono ?_
  rintro e w3 ⟨x, hxm, rfl, hc3, gr3⟩
  have hxi : inI x := by simp at hxm; unfold inI; omega
  obtain ⟨V1, V2, c3, g3⟩ := PE.out
  have hs3 := HS.out
  have gr3 := (grown_made W3 _ g).trans gr3
  have V1 := grown_keep gr3 V1 (by omega)
  have V2 := grown_keep gr3 V2 (by omega)
  have g3 := g3.trans gr3
  clear z0 z1 z2 z3 z4 z5 z6 z7 z8 z9 q0 q1 q2 q3 q4 q5 q6 q7 q8 q9 PE HS CP hxm hW3 c3
  go_wp2_with fail
  refine (l1Below_any A l c g 24 _ hl hb (by omega) (by omega) hc3).mono ?_
  rintro e w4 ⟨k, hk, rfl, hc4, gr4⟩
  have hr := grown_keep gr4 V1 (by omega)
  have hq := grown_keep gr4 V2 (by omega)
  have gr5 := g3.trans gr4
  have hs4 : w.heap.size + 3 ≤ w4.heap.size := by have := gr3.size; have := gr4.size; omega
  clear V1 V2 g3 gr3 gr4 hc3 hs3
  have hne : ¬ w.heap.size + 1 = w.heap.size + 2 := by omega
  have hne' : ¬ w.heap.size + 2 = w.heap.size + 1 := by omega
  have c0 := cell_of_row _ _ 0 _ _ _ hq
  have y0 := frozen_of_row _ _ 0 _ _ hq
  have z0 := cell_of_row _ _ 0 _ _ _ hr
  have f0 := frozen_of_row _ _ 0 _ _ hr
  have c1 := cell_of_row _ _ 1 _ _ _ hq
  have y1 := frozen_of_row _ _ 1 _ _ hq
  have z1 := cell_of_row _ _ 1 _ _ _ hr
  have f1 := frozen_of_row _ _ 1 _ _ hr
  have c2 := cell_of_row _ _ 2 _ _ _ hq
  have y2 := frozen_of_row _ _ 2 _ _ hq
  have z2 := cell_of_row _ _ 2 _ _ _ hr
  have f2 := frozen_of_row _ _ 2 _ _ hr
  have c3 := cell_of_row _ _ 3 _ _ _ hq
  have y3 := frozen_of_row _ _ 3 _ _ hq
  have z3 := cell_of_row _ _ 3 _ _ _ hr
  have f3 := frozen_of_row _ _ 3 _ _ hr
  have c4 := cell_of_row _ _ 4 _ _ _ hq
  have y4 := frozen_of_row _ _ 4 _ _ hq
  have z4 := cell_of_row _ _ 4 _ _ _ hr
  have f4 := frozen_of_row _ _ 4 _ _ hr
  have c5 := cell_of_row _ _ 5 _ _ _ hq
  have y5 := frozen_of_row _ _ 5 _ _ hq
  have z5 := cell_of_row _ _ 5 _ _ _ hr
  have f5 := frozen_of_row _ _ 5 _ _ hr
  have c6 := cell_of_row _ _ 6 _ _ _ hq
  have y6 := frozen_of_row _ _ 6 _ _ hq
  have z6 := cell_of_row _ _ 6 _ _ _ hr
  have f6 := frozen_of_row _ _ 6 _ _ hr
  have c7 := cell_of_row _ _ 7 _ _ _ hq
  have y7 := frozen_of_row _ _ 7 _ _ hq
  have z7 := cell_of_row _ _ 7 _ _ _ hr
  have f7 := frozen_of_row _ _ 7 _ _ hr
  have c8 := cell_of_row _ _ 8 _ _ _ hq
  have y8 := frozen_of_row _ _ 8 _ _ hq
  have z8 := cell_of_row _ _ 8 _ _ _ hr
  have f8 := frozen_of_row _ _ 8 _ _ hr
  have c9 := cell_of_row _ _ 9 _ _ _ hq
  have y9 := frozen_of_row _ _ 9 _ _ hq
  have z9 := cell_of_row _ _ 9 _ _ _ hr
  have f9 := frozen_of_row _ _ 9 _ _ hr
  simp at c0 z0 c1 z1 c2 z2 c3 z3 c4 z4 c5 z5 c6 z6 c7 z7 c8 z8 c9 z9
  by_cases k1 : k = 1
  · subst k1
    have R : Hid (GotPf w g A l c (.returned (ptA { p with cabin := x })) (putPt (w4.setCell ⟨w.heap.size + 2, 1, none⟩ (.int .i64 x)) (w.heap.size + 1) { p with cabin := x })) :=
      got_pf (by have h := hpf; simp only [Pt.fits] at h ⊢; simp [hxi, h]) (cur_set hc4 (by omega) _) (grown_set gr5 (by omega) _) hlt
    unfold ptA putPt at R
    clear hq hr hc4 gr5
    go_wp2
    simp [bodyPost, results, Tryz.results22, go_sem, c0, z0, c1, z1, c2, z2, c3, z3, c4, z4, c5, z5, c6, z6, c7, z7, c8, z8, c9, z9, hne, hne']
    exact R.out
  have e1 : ((k : Int) == 1) = false := by simp; omega
  by_cases k2 : k = 2
  · subst k2
    have R : Hid (GotPf w g A l c (.returned (ptA { p with from_ := x })) (putPt (w4.setCell ⟨w.heap.size + 2, 2, none⟩ (.int .i64 x)) (w.heap.size + 1) { p with from_ := x })) :=
      got_pf (by have h := hpf; simp only [Pt.fits] at h ⊢; simp [hxi, h]) (cur_set hc4 (by omega) _) (grown_set gr5 (by omega) _) hlt
    unfold ptA putPt at R
    clear hq hr hc4 gr5
    go_wp2
    simp [bodyPost, results, Tryz.results22, go_sem, c0, z0, c1, z1, c2, z2, c3, z3, c4, z4, c5, z5, c6, z6, c7, z7, c8, z8, c9, z9, hne, hne']
    exact R.out
  have e2 : ((k : Int) == 2) = false := by simp; omega
  by_cases k3 : k = 3
  · subst k3
    have R : Hid (GotPf w g A l c (.returned (ptA { p with size := x })) (putPt (w4.setCell ⟨w.heap.size + 2, 3, none⟩ (.int .i64 x)) (w.heap.size + 1) { p with size := x })) :=
      got_pf (by have h := hpf; simp only [Pt.fits] at h ⊢; simp [hxi, h]) (cur_set hc4 (by omega) _) (grown_set gr5 (by omega) _) hlt
    unfold ptA putPt at R
    clear hq hr hc4 gr5
    go_wp2
    simp [bodyPost, results, Tryz.results22, go_sem, c0, z0, c1, z1, c2, z2, c3, z3, c4, z4, c5, z5, c6, z6, c7, z7, c8, z8, c9, z9, hne, hne']
    exact R.out
  have e3 : ((k : Int) == 3) = false := by simp; omega
  by_cases k4 : k = 4
  · subst k4
    have R : Hid (GotPf w g A l c (.returned (ptA { p with tier := x })) (putPt (w4.setCell ⟨w.heap.size + 2, 4, none⟩ (.int .i64 x)) (w.heap.size + 1) { p with tier := x })) :=
      got_pf (by have h := hpf; simp only [Pt.fits] at h ⊢; simp [hxi, h]) (cur_set hc4 (by omega) _) (grown_set gr5 (by omega) _) hlt
    unfold ptA putPt at R
    clear hq hr hc4 gr5
    go_wp2
    simp [bodyPost, results, Tryz.results22, go_sem, c0, z0, c1, z1, c2, z2, c3, z3, c4, z4, c5, z5, c6, z6, c7, z7, c8, z8, c9, z9, hne, hne']
    exact R.out
  have e4 : ((k : Int) == 4) = false := by simp; omega
  by_cases k5 : k = 5
  · subst k5
    have R : Hid (GotPf w g A l c (.returned (ptA { p with since := x })) (putPt (w4.setCell ⟨w.heap.size + 2, 5, none⟩ (.int .i64 x)) (w.heap.size + 1) { p with since := x })) :=
      got_pf (by have h := hpf; simp only [Pt.fits] at h ⊢; simp [hxi, h]) (cur_set hc4 (by omega) _) (grown_set gr5 (by omega) _) hlt
    unfold ptA putPt at R
    clear hq hr hc4 gr5
    go_wp2
    simp [bodyPost, results, Tryz.results22, go_sem, c0, z0, c1, z1, c2, z2, c3, z3, c4, z4, c5, z5, c6, z6, c7, z7, c8, z8, c9, z9, hne, hne']
    exact R.out
  have e5 : ((k : Int) == 5) = false := by simp; omega
  by_cases k6 : k = 6
  · subst k6
    have R : Hid (GotPf w g A l c (.returned (ptA { p with turn := x })) (putPt (w4.setCell ⟨w.heap.size + 2, 6, none⟩ (.int .i64 x)) (w.heap.size + 1) { p with turn := x })) :=
      got_pf (by have h := hpf; simp only [Pt.fits] at h ⊢; simp [hxi, h]) (cur_set hc4 (by omega) _) (grown_set gr5 (by omega) _) hlt
    unfold ptA putPt at R
    clear hq hr hc4 gr5
    go_wp2
    simp [bodyPost, results, Tryz.results22, go_sem, c0, z0, c1, z1, c2, z2, c3, z3, c4, z4, c5, z5, c6, z6, c7, z7, c8, z8, c9, z9, hne, hne']
    exact R.out
  have e6 : ((k : Int) == 6) = false := by simp; omega
  by_cases k7 : k = 7
  · subst k7
    have R : Hid (GotPf w g A l c (.returned (ptA { p with state := x })) (putPt (w4.setCell ⟨w.heap.size + 2, 7, none⟩ (.int .i64 x)) (w.heap.size + 1) { p with state := x })) :=
      got_pf (by have h := hpf; simp only [Pt.fits] at h ⊢; simp [hxi, h]) (cur_set hc4 (by omega) _) (grown_set gr5 (by omega) _) hlt
    unfold ptA putPt at R
    clear hq hr hc4 gr5
    go_wp2
    simp [bodyPost, results, Tryz.results22, go_sem, c0, z0, c1, z1, c2, z2, c3, z3, c4, z4, c5, z5, c6, z6, c7, z7, c8, z8, c9, z9, hne, hne']
    exact R.out
  have e7 : ((k : Int) == 7) = false := by simp; omega
  by_cases k8 : k = 8
  · subst k8
    have R : Hid (GotPf w g A l c (.returned (ptA { p with until_ := x })) (putPt (w4.setCell ⟨w.heap.size + 2, 8, none⟩ (.int .i64 x)) (w.heap.size + 1) { p with until_ := x })) :=
      got_pf (by have h := hpf; simp only [Pt.fits] at h ⊢; simp [hxi, h]) (cur_set hc4 (by omega) _) (grown_set gr5 (by omega) _) hlt
    unfold ptA putPt at R
    clear hq hr hc4 gr5
    go_wp2
    simp [bodyPost, results, Tryz.results22, go_sem, c0, z0, c1, z1, c2, z2, c3, z3, c4, z4, c5, z5, c6, z6, c7, z7, c8, z8, c9, z9, hne, hne']
    exact R.out
  have e8 : ((k : Int) == 8) = false := by simp; omega
  by_cases k9 : k = 9
  · subst k9
    have R : Hid (GotPf w g A l c (.returned (ptA { p with asked := x })) (putPt (w4.setCell ⟨w.heap.size + 2, 9, none⟩ (.int .i64 x)) (w.heap.size + 1) { p with asked := x })) :=
      got_pf (by have h := hpf; simp only [Pt.fits] at h ⊢; simp [hxi, h]) (cur_set hc4 (by omega) _) (grown_set gr5 (by omega) _) hlt
    unfold ptA putPt at R
    clear hq hr hc4 gr5
    go_wp2
    simp [bodyPost, results, Tryz.results22, go_sem, c0, z0, c1, z1, c2, z2, c3, z3, c4, z4, c5, z5, c6, z6, c7, z7, c8, z8, c9, z9, hne, hne']
    exact R.out
  have e9 : ((k : Int) == 9) = false := by simp; omega
  by_cases k0 : k = 0
  · subst k0
    have gr6 := grown_made w4 (.cells ([0, 999, 1000, -1].map (Value.int .i64)).toArray 3) g
    have hq5 := blk_alloc hq (.cells ([0, 999, 1000, -1].map (Value.int .i64)).toArray 3)
    have hr5 := blk_alloc hr (.cells ([0, 999, 1000, -1].map (Value.int .i64)).toArray 3)
    have hx := ints_new w4 [0, 999, 1000, -1]
    clear c0 z0 y0 f0 c1 z1 y1 f1 c2 z2 y2 f2 c3 z3 y3 f3 c4 z4 y4 f4 c5 z5 y5 f5 c6 z6 y6 f6 c7 z7 y7 f7 c8 z8 y8 f8 c9 z9 y9 f9
    go_wp2_with fail
    refine (l1PickInt_any A l c g [0, 999, 1000, -1] w4.heap.size 4 4 _ hl hb (hc4.alloc _) rfl (by simp) (by simp) (by omega) hx).mono ?_
    rintro e w6 ⟨y, hym, rfl, hc6, gr6'⟩
    have hyi : inI y := by simp at hym; unfold inI; omega
    have hq6 := grown_keep gr6' hq5 (by omega)
    have hr6 := grown_keep gr6' hr5 (by omega)
    have gr6 := gr5.trans (gr6.trans gr6')
    have R : Hid (GotPf w g A l c (.returned (ptA { p with id := y })) (putPt (w6.setCell ⟨w.heap.size + 2, 0, none⟩ (.int .i64 y)) (w.heap.size + 1) { p with id := y })) :=
      got_pf (by have h := hpf; simp only [Pt.fits] at h ⊢; simp [hyi, h]) (cur_set hc6 (by omega) _) (grown_set gr6 (by omega) _) hlt
    unfold ptA putPt at R
    have c0 := cell_of_row _ _ 0 _ _ _ hq6
    have y0 := frozen_of_row _ _ 0 _ _ hq6
    have z0 := cell_of_row _ _ 0 _ _ _ hr6
    have f0 := frozen_of_row _ _ 0 _ _ hr6
    have c1 := cell_of_row _ _ 1 _ _ _ hq6
    have y1 := frozen_of_row _ _ 1 _ _ hq6
    have z1 := cell_of_row _ _ 1 _ _ _ hr6
    have f1 := frozen_of_row _ _ 1 _ _ hr6
    have c2 := cell_of_row _ _ 2 _ _ _ hq6
    have y2 := frozen_of_row _ _ 2 _ _ hq6
    have z2 := cell_of_row _ _ 2 _ _ _ hr6
    have f2 := frozen_of_row _ _ 2 _ _ hr6
    have c3 := cell_of_row _ _ 3 _ _ _ hq6
    have y3 := frozen_of_row _ _ 3 _ _ hq6
    have z3 := cell_of_row _ _ 3 _ _ _ hr6
    have f3 := frozen_of_row _ _ 3 _ _ hr6
    have c4 := cell_of_row _ _ 4 _ _ _ hq6
    have y4 := frozen_of_row _ _ 4 _ _ hq6
    have z4 := cell_of_row _ _ 4 _ _ _ hr6
    have f4 := frozen_of_row _ _ 4 _ _ hr6
    have c5 := cell_of_row _ _ 5 _ _ _ hq6
    have y5 := frozen_of_row _ _ 5 _ _ hq6
    have z5 := cell_of_row _ _ 5 _ _ _ hr6
    have f5 := frozen_of_row _ _ 5 _ _ hr6
    have c6 := cell_of_row _ _ 6 _ _ _ hq6
    have y6 := frozen_of_row _ _ 6 _ _ hq6
    have z6 := cell_of_row _ _ 6 _ _ _ hr6
    have f6 := frozen_of_row _ _ 6 _ _ hr6
    have c7 := cell_of_row _ _ 7 _ _ _ hq6
    have y7 := frozen_of_row _ _ 7 _ _ hq6
    have z7 := cell_of_row _ _ 7 _ _ _ hr6
    have f7 := frozen_of_row _ _ 7 _ _ hr6
    have c8 := cell_of_row _ _ 8 _ _ _ hq6
    have y8 := frozen_of_row _ _ 8 _ _ hq6
    have z8 := cell_of_row _ _ 8 _ _ _ hr6
    have f8 := frozen_of_row _ _ 8 _ _ hr6
    have c9 := cell_of_row _ _ 9 _ _ _ hq6
    have y9 := frozen_of_row _ _ 9 _ _ hq6
    have z9 := cell_of_row _ _ 9 _ _ _ hr6
    have f9 := frozen_of_row _ _ 9 _ _ hr6
    simp at c0 z0 c1 z1 c2 z2 c3 z3 c4 z4 c5 z5 c6 z6 c7 z7 c8 z8 c9 z9
    clear hq hr hc4 gr5 hq5 hr5 hq6 hr6 gr6 gr6' hc6 hx hym
    go_wp2
    simp [bodyPost, results, Tryz.results22, go_sem, c0, z0, c1, z1, c2, z2, c3, z3, c4, z4, c5, z5, c6, z6, c7, z7, c8, z8, c9, z9, hne, hne']
    exact R.out
  have e0 : ((k : Int) == 0) = false := by simp; omega
  have R : Hid (GotPf w g A l c (.returned (ptA p)) (putPt w4 (w.heap.size + 1) p)) := got_pf hpf hc4 gr5 hlt
  unfold ptA putPt at R
  clear hq hr hc4 gr5
  go_wp2
  simp [bodyPost, results, Tryz.results22, go_sem, c0, z0, c1, z1, c2, z2, c3, z3, c4, z4, c5, z5, c6, z6, c7, z7, c8, z8, c9, z9, hne, hne']
  exact R.out
end Go.Proofs.YtlflgflmlfileaaGreat
