/- l9Put of the model. -/
import Derived.Test.YtlflgflmlfileaaGreatRows
import Derived.Test.YtlflgflmlfileaaGreatRowX
import Derived.Test.YtlflgflmlfileaaGreatHs6
namespace Go.Proofs.YtlflgflmlfileaaGreat
open Go.RowKit
set_option linter.unusedSimpArgs false
set_option linter.unusedVariables false
/-- What l9Put returns. -/
def pnPut (l : List Pn) (x : Pn) : List Pn := insP (fun y => decide (Pn.less y x)) l x
theorem pnPut_len (l : List Pn) (x : Pn) : (pnPut l x).length = l.length + 1 := insP_len _ _ _
set_option maxRecDepth 100000 in
set_option maxHeartbeats 3200000 in
theorem l9Put_spec (A : Option Addr) (l : List Pn) (c : Nat) (x : Pn) (w : World) (hl : l.length ≤ 2097152) (hc : l.length ≤ c) (hn : A = none → c = 0) (hA : Rws w w.heap.size A (l.flatMap pnC)) :
    Calls Tryz.prog 71 #[.slice A l.length c, pnA x] w (NewR 95 2 w (pnPut l x).length ((pnPut l x).flatMap pnC)) := by
  obtain ⟨W, hW⟩ : ∃ W, w.alloc (.cells #[.int .i64 x.at_, .int .i64 x.id] 95) = W := ⟨_, rfl⟩
  have bW : Hid (Below w.heap.size w W) := by show Below _ _ _; rw [← hW]; exact (Below.refl _ _).alloc (Nat.le_refl _) _
  have HX : Hid (W.heap[w.heap.size]? = some (.cells #[.int .i64 x.at_, .int .i64 x.id] 95)) := by show _ = _; rw [← hW]; exact heap_new _ _
  unfold pnA
  go_enter Tryz.func71, Tryz.ntmps71
  go_wp2_with fail
  clear hW
  go_loopw [5] (fun i wr => ∃ k : Nat, k ≤ l.length ∧ i = .int .i64 k ∧ (∀ j, j < k → decide (Pn.less (l.getD j pn0) x) = true) ∧ Below W.heap.size W wr) (fun i _ => l.length - (intOf i).toNat)
  case atStart => exact ⟨0, by omega, rfl, (fun j hj => by omega), Below.refl _ _⟩
  case round =>
    obtain ⟨k, hk, rfl, hall, hb⟩ := hrel
    by_cases hlt : k < l.length
    · have rA := rws_below (rws_below hA bW.out) hb
      obtain ⟨b, off, rfl, hbB, hy⟩ := rA.pn hlt
      have KX := Lib.hid (fun w' (h : Below wr.heap.size wr w') => Pn.here.blk (blk_call (blk_call HX.out hb) h))
      by_cases hp : Pn.less (l.getD k pn0) x
      · have hall' : ∀ j, j < k + 1 → decide (Pn.less (l.getD j pn0) x) = true := by
          intro j hj
          by_cases e : j = k
          · subst e; exact decide_eq_true hp
          · exact hall j (by omega)
        have HA := Lib.hid hall'
        have HP : Hid (decide (Pn.less (l.getD k pn0) x) = true) := decide_eq_true hp
        clear hall hall' hp
        generalize l.getD k pn0 = y at *
        have KY := Lib.hid (fun w' (h : Below wr.heap.size wr w') => Pn.here.below hy h hbB)
        clear hy
        go_wp2_with fail
        have CL := Lib.hid (fun w => l9Less_spec y x w)
        rw [HP.out] at CL
        refine wp_region_held_drew (S := fun w' => Hid (Below wr.heap.size wr w')) (by kernel_rfl) (below_drawn (Below.refl _ _) 1) (fun hHeld => ?_)
        refine held_take 0 7 (.int .i64 (k : Int)) rfl rfl (by kernel_rfl) (by kernel_rfl) (by kernel_rfl) (fun _ _ _ h => h) rfl hHeld (fun w _ => rfl) ?_
        refine held_take 1 8 (.slice (some ⟨b, off, none⟩) l.length c) rfl rfl (by kernel_rfl) (by kernel_rfl) (by kernel_rfl) (fun _ _ _ h => h) rfl hHeld (fun w _ => rfl) ?_
        refine held_take 2 9 (.int .i64 (l.length : Nat)) rfl rfl (by kernel_rfl) (by kernel_rfl) (by kernel_rfl) (fun _ _ _ h => h) rfl hHeld (fun w _ => exec_lenT rowPin _ _ _ w) ?_
        simp only [Act.put, List.setIfInBounds_toArray, List.set_cons_zero, List.set_cons_succ]
        refine held_take 3 10 (.bool true) rfl rfl (by kernel_rfl) (by kernel_rfl) (by kernel_rfl) (fun _ _ _ h => h) rfl hHeld (fun w _ => exec_lssI (k : Int) (l.length : Int) true w (by simp; omega)) ?_
        refine held_take 4 11 (.bool true) rfl rfl (by kernel_rfl) (by kernel_rfl) (by kernel_rfl) (fun _ _ _ h => h) rfl hHeld (fun w _ => rfl) ?_
        refine held_take 5 12 (.slice (some ⟨b, off, none⟩) l.length c) rfl rfl (by kernel_rfl) (by kernel_rfl) (by kernel_rfl) (fun _ _ _ h => h) rfl hHeld (fun w _ => rfl) ?_
        simp only [Act.put, List.setIfInBounds_toArray, List.set_cons_zero, List.set_cons_succ]
        refine held_take 6 13 (.int .i64 (k : Int)) rfl rfl (by kernel_rfl) (by kernel_rfl) (by kernel_rfl) (fun _ _ _ h => h) rfl hHeld (fun w _ => rfl) ?_
        refine held_take 7 14 (.pointer (some ⟨b, off + k * 2, none⟩)) rfl rfl (by kernel_rfl) (by kernel_rfl) (by kernel_rfl) (fun _ _ _ h => h) rfl hHeld (fun w _ => exec_idx_pn b off l.length c k w hlt) ?_
        refine held_take 8 15 (pnA y) rfl rfl (by kernel_rfl) (by kernel_rfl) (by kernel_rfl) (fun _ _ _ h => h) rfl hHeld (fun w hS => exec_load_pn b (off + k * 2) y w (KY.out w hS.out)) ?_
        simp only [Act.put, List.setIfInBounds_toArray, List.set_cons_zero, List.set_cons_succ]
        refine held_take 9 16 (pnA x) rfl rfl (by kernel_rfl) (by kernel_rfl) (by kernel_rfl) (fun _ _ _ h => h) rfl hHeld (fun w hS => exec_load_pn _ 0 x w (KX.out w hS.out)) ?_
        simp only [Act.put, List.setIfInBounds_toArray, List.set_cons_zero, List.set_cons_succ]
        refine held_call 10 17 90 #[pnA y, pnA x] rfl rfl (by kernel_rfl) rfl (exec_call Tryz.func90 (by kernel_rfl) (by kernel_rfl) _) ?_
        refine (CL.out _).mono ?_
        rintro e u1 ⟨rfl, x1⟩
        have k1 := hHeld.out.trans (x1.mono hHeld.out.size)
        refine ⟨_, rfl, k1, ?_⟩
        simp only [Act.put, List.setIfInBounds_toArray, List.set_cons_zero, List.set_cons_succ]
        refine held_take 11 18 (.bool true) rfl rfl (by kernel_rfl) (by kernel_rfl) (by kernel_rfl) (fun _ _ _ h => h) rfl k1 (fun w _ => exec_pickT _ w) ?_
        refine wpAnyH_done (by kernel_rfl) ?_ _
        have HB := Lib.hid (hb.trans (k1.mono hb.size))
        clear k1 x1 hHeld hb
        go_wp2
        go_roundw
        case rel => exact ⟨k + 1, by omega, by go_num, HA.out, HB.out⟩
        case measure => simp [intOf]; omega
      · have HP : Hid (decide (Pn.less (l.getD k pn0) x) = false) := decide_eq_false hp
        have HI : Hid (pnPut l x = l.take k ++ [x] ++ l.drop k) := insP_at _ l x pn0 k hk hall (fun _ => decide_eq_false hp)
        clear hall hp
        generalize l.getD k pn0 = y at *
        have KY := Lib.hid (fun w' (h : Below wr.heap.size wr w') => Pn.here.below hy h hbB)
        clear hy
        go_wp2_with fail
        have CL := Lib.hid (fun w => l9Less_spec y x w)
        rw [HP.out] at CL
        refine wp_region_held_drew (S := fun w' => Hid (Below wr.heap.size wr w')) (by kernel_rfl) (below_drawn (Below.refl _ _) 1) (fun hHeld => ?_)
        refine held_take 0 7 (.int .i64 (k : Int)) rfl rfl (by kernel_rfl) (by kernel_rfl) (by kernel_rfl) (fun _ _ _ h => h) rfl hHeld (fun w _ => rfl) ?_
        refine held_take 1 8 (.slice (some ⟨b, off, none⟩) l.length c) rfl rfl (by kernel_rfl) (by kernel_rfl) (by kernel_rfl) (fun _ _ _ h => h) rfl hHeld (fun w _ => rfl) ?_
        refine held_take 2 9 (.int .i64 (l.length : Nat)) rfl rfl (by kernel_rfl) (by kernel_rfl) (by kernel_rfl) (fun _ _ _ h => h) rfl hHeld (fun w _ => exec_lenT rowPin _ _ _ w) ?_
        simp only [Act.put, List.setIfInBounds_toArray, List.set_cons_zero, List.set_cons_succ]
        refine held_take 3 10 (.bool true) rfl rfl (by kernel_rfl) (by kernel_rfl) (by kernel_rfl) (fun _ _ _ h => h) rfl hHeld (fun w _ => exec_lssI (k : Int) (l.length : Int) true w (by simp; omega)) ?_
        refine held_take 4 11 (.bool true) rfl rfl (by kernel_rfl) (by kernel_rfl) (by kernel_rfl) (fun _ _ _ h => h) rfl hHeld (fun w _ => rfl) ?_
        refine held_take 5 12 (.slice (some ⟨b, off, none⟩) l.length c) rfl rfl (by kernel_rfl) (by kernel_rfl) (by kernel_rfl) (fun _ _ _ h => h) rfl hHeld (fun w _ => rfl) ?_
        simp only [Act.put, List.setIfInBounds_toArray, List.set_cons_zero, List.set_cons_succ]
        refine held_take 6 13 (.int .i64 (k : Int)) rfl rfl (by kernel_rfl) (by kernel_rfl) (by kernel_rfl) (fun _ _ _ h => h) rfl hHeld (fun w _ => rfl) ?_
        refine held_take 7 14 (.pointer (some ⟨b, off + k * 2, none⟩)) rfl rfl (by kernel_rfl) (by kernel_rfl) (by kernel_rfl) (fun _ _ _ h => h) rfl hHeld (fun w _ => exec_idx_pn b off l.length c k w hlt) ?_
        refine held_take 8 15 (pnA y) rfl rfl (by kernel_rfl) (by kernel_rfl) (by kernel_rfl) (fun _ _ _ h => h) rfl hHeld (fun w hS => exec_load_pn b (off + k * 2) y w (KY.out w hS.out)) ?_
        simp only [Act.put, List.setIfInBounds_toArray, List.set_cons_zero, List.set_cons_succ]
        refine held_take 9 16 (pnA x) rfl rfl (by kernel_rfl) (by kernel_rfl) (by kernel_rfl) (fun _ _ _ h => h) rfl hHeld (fun w hS => exec_load_pn _ 0 x w (KX.out w hS.out)) ?_
        simp only [Act.put, List.setIfInBounds_toArray, List.set_cons_zero, List.set_cons_succ]
        refine held_call 10 17 90 #[pnA y, pnA x] rfl rfl (by kernel_rfl) rfl (exec_call Tryz.func90 (by kernel_rfl) (by kernel_rfl) _) ?_
        refine (CL.out _).mono ?_
        rintro e u1 ⟨rfl, x1⟩
        have k1 := hHeld.out.trans (x1.mono hHeld.out.size)
        refine ⟨_, rfl, k1, ?_⟩
        simp only [Act.put, List.setIfInBounds_toArray, List.set_cons_zero, List.set_cons_succ]
        refine held_take 11 18 (.bool false) rfl rfl (by kernel_rfl) (by kernel_rfl) (by kernel_rfl) (fun _ _ _ h => h) rfl k1 (fun w _ => exec_pickT _ w) ?_
        refine wpAnyH_done (by kernel_rfl) ?_ _
        have HB := hb.trans (k1.mono hb.size)
        clear k1 x1 hHeld hb KX KY
        have hu := HB.size
        have O1 := own_empty u1 W.heap.size 95 2 hu
        have x1 : Below u1.heap.size u1 (u1.alloc (.cells #[] 95)) := (Below.refl _ _).alloc (Nat.le_refl _) _
        have R1 := Rws.to_ (k * 2) (rws_below (rws_below (rws_below hA bW.out) HB) x1)
        rw [← flat_take pnC 2 pnC_len] at R1
        have e1 : ((l.take k).flatMap pnC).length = k * 2 := by rw [flat_len pnC 2 pnC_len, List.length_take, Nat.min_eq_left hk]
        go_wp2_with (first | (refine wpList_exec (.slice (some ⟨b, off, none⟩) k c) rfl (exec_sliceTo rowPin (some ⟨b, off, none⟩) l.length c k _ hk hc hn) ?_) | (at_builtin; refine wpList_appR rowPin _ rfl (.tmp 21) (.tmp 24) rfl W.heap.size _ 0 [] rfl O1 _ (some ⟨b, off, none⟩) k c ((l.take k).flatMap pnC) rfl e1 R1 hn (pnC_one _) (by omega) (by simp; omega) ?_))
        intro v2 w2 o2 g2
        have b2 := (HB.trans (x1.mono hu)).grown g2 (by simp; omega) (own_low O1)
        clear g2 O1 x1 R1 hu HB
        obtain ⟨q0, q1⟩ := Pn.here.blk (blk_call HX.out b2)
        have ltX := blk_lt (blk_call HX.out b2)
        have hs2 := b2.size
        have x3 : Below w2.heap.size w2 (w2.alloc (.cells #[.int .i64 x.at_, .int .i64 x.id] 95)) := (Below.refl _ _).alloc (Nat.le_refl _) _
        have O3 := o2.alloc (.cells #[.int .i64 x.at_, .int .i64 x.id] 95)
        have R3 : Rws (w2.alloc (.cells #[.int .i64 x.at_, .int .i64 x.id] 95)) (w2.heap.size + 1) (some ⟨w2.heap.size, 0, none⟩) (pnC x) := Rws.new w2 (pnC x) 95
        have HO := Lib.hid o2
        clear o2
        simp only [Nat.zero_add] at q0 q1
        go_wp2_with (at_builtin; refine wpList_appR rowPin _ rfl (.tmp 26) (.tmp 28) rfl W.heap.size _ k ((l.take k).flatMap pnC) rfl O3 _ _ 1 1 (pnC x) rfl rfl R3 (fun h => by cases h) (by intro u hu; exact pnC_one [x] u (by simpa using hu)) (by omega) (by simp; omega) ?_)
        intro v4 w4 o4 g4
        have b4 := (b2.trans (x3.mono hs2)).grown g4 (by simp; omega) (own_low O3)
        clear g4 O3 x3 R3 HO ltX b2 q0 q1 hs2
        have R5 := Rws.from_ (n := l.length) (c := c) (k := k) (sz := 2) (rws_below (rws_below hA bW.out) b4) (flat_len pnC 2 pnC_len l) hk hc
        rw [← flat_drop pnC 2 pnC_len] at R5
        have e5 : ((l.drop k).flatMap pnC).length = (l.length - k) * 2 := by rw [flat_len pnC 2 pnC_len, List.length_drop]
        have hs4 := b4.size
        go_wp2_with (first | (refine wpList_exec (.slice (fromA (some ⟨b, off, none⟩) c k 2) (l.length - k) (c - k)) rfl (exec_sliceFrom rowPin (some ⟨b, off, none⟩) l.length c k _ hk hc hn) ?_) | (at_builtin; refine wpList_appR rowPin _ rfl (.tmp 30) (.tmp 33) rfl W.heap.size _ (k + 1) ((l.take k).flatMap pnC ++ pnC x) rfl o4 _ (fromA (some ⟨b, off, none⟩) c k 2) (l.length - k) (c - k) ((l.drop k).flatMap pnC) rfl e5 R5 (fromA_nil hn) (pnC_one _) (by omega) hs4 ?_))
        intro v6 w6 o6 g6
        have b6 := bW.out.trans ((b4.grown g6 hs4 (own_low o4)).mono bW.out.size)
        have e6 : (l.take k).flatMap pnC ++ (pnC x ++ (l.drop k).flatMap pnC) = (pnPut l x).flatMap pnC := by rw [HI.out]; simp
        have e7 : k + 1 + (l.length - k) = (pnPut l x).length := by rw [pnPut_len]; omega
        rw [e6, e7] at o6
        have HN := Lib.hid (NewR.of_own (own_weak o6 bW.out.size) b6)
        clear o4 o6 g6 b4 b6 R5 e5 e6 e7 hs4 e1 HI
        go_wp2
        go_ret
        exact HN.out
    · have HI : Hid (pnPut l x = l.take k ++ [x] ++ l.drop k) := insP_at _ l x pn0 k hk hall (fun h => by omega)
      clear hall
      go_wp2_with fail
      refine wp_region_held_drew (S := fun w' => Hid (Below wr.heap.size wr w')) (by kernel_rfl) (below_drawn (Below.refl _ _) 1) (fun hHeld => ?_)
      refine held_take 0 7 (.int .i64 (k : Int)) rfl rfl (by kernel_rfl) (by kernel_rfl) (by kernel_rfl) (fun _ _ _ h => h) rfl hHeld (fun w _ => rfl) ?_
      refine held_take 1 8 (.slice A l.length c) rfl rfl (by kernel_rfl) (by kernel_rfl) (by kernel_rfl) (fun _ _ _ h => h) rfl hHeld (fun w _ => rfl) ?_
      refine held_take 2 9 (.int .i64 (l.length : Nat)) rfl rfl (by kernel_rfl) (by kernel_rfl) (by kernel_rfl) (fun _ _ _ h => h) rfl hHeld (fun w _ => exec_lenT rowPin _ _ _ w) ?_
      simp only [Act.put, List.setIfInBounds_toArray, List.set_cons_zero, List.set_cons_succ]
      refine held_take 3 10 (.bool false) rfl rfl (by kernel_rfl) (by kernel_rfl) (by kernel_rfl) (fun _ _ _ h => h) rfl hHeld (fun w _ => exec_lssI (k : Int) (l.length : Int) false w (by simp; omega)) ?_
      refine held_take 4 11 (.bool false) rfl rfl (by kernel_rfl) (by kernel_rfl) (by kernel_rfl) (fun _ _ _ h => h) rfl hHeld (fun w _ => rfl) ?_
      refine held_skip 5 12 rfl rfl (by kernel_rfl) (by kernel_rfl) (by kernel_rfl) (fun _ _ _ h => h) rfl hHeld ?_
      simp only [Act.put, List.setIfInBounds_toArray, List.set_cons_zero, List.set_cons_succ]
      refine held_skip 6 13 rfl rfl (by kernel_rfl) (by kernel_rfl) (by kernel_rfl) (fun _ _ _ h => h) rfl hHeld ?_
      refine held_skip 7 14 rfl rfl (by kernel_rfl) (by kernel_rfl) (by kernel_rfl) (fun _ _ _ h => h) rfl hHeld ?_
      simp only [Act.put, List.setIfInBounds_toArray, List.set_cons_zero, List.set_cons_succ]
      refine held_skip 8 15 rfl rfl (by kernel_rfl) (by kernel_rfl) (by kernel_rfl) (fun _ _ _ h => h) rfl hHeld ?_
      refine held_skip 9 16 rfl rfl (by kernel_rfl) (by kernel_rfl) (by kernel_rfl) (fun _ _ _ h => h) rfl hHeld ?_
      simp only [Act.put, List.setIfInBounds_toArray, List.set_cons_zero, List.set_cons_succ]
      refine held_skip 10 17 rfl rfl (by kernel_rfl) (by kernel_rfl) (by kernel_rfl) (fun _ _ _ h => h) rfl hHeld ?_
      refine held_take 11 18 (.bool false) rfl rfl (by kernel_rfl) (by kernel_rfl) (by kernel_rfl) (fun _ _ _ h => h) rfl hHeld (fun w _ => exec_pickF _ w) ?_
      refine wpAnyH_done (by kernel_rfl) ?_ _
      have HB := hb.trans (hHeld.out.mono hb.size)
      clear hHeld hb
      generalize wr.drew = u1 at *
      have hu := HB.size
      have O1 := own_empty u1 W.heap.size 95 2 hu
      have x1 : Below u1.heap.size u1 (u1.alloc (.cells #[] 95)) := (Below.refl _ _).alloc (Nat.le_refl _) _
      have R1 := Rws.to_ (k * 2) (rws_below (rws_below (rws_below hA bW.out) HB) x1)
      rw [← flat_take pnC 2 pnC_len] at R1
      have e1 : ((l.take k).flatMap pnC).length = k * 2 := by rw [flat_len pnC 2 pnC_len, List.length_take, Nat.min_eq_left hk]
      go_wp2_with (first | (refine wpList_exec (.slice A k c) rfl (exec_sliceTo rowPin A l.length c k _ hk hc hn) ?_) | (at_builtin; refine wpList_appR rowPin _ rfl (.tmp 21) (.tmp 24) rfl W.heap.size _ 0 [] rfl O1 _ A k c ((l.take k).flatMap pnC) rfl e1 R1 hn (pnC_one _) (by omega) (by simp; omega) ?_))
      intro v2 w2 o2 g2
      have b2 := (HB.trans (x1.mono hu)).grown g2 (by simp; omega) (own_low O1)
      clear g2 O1 x1 R1 hu HB
      obtain ⟨q0, q1⟩ := Pn.here.blk (blk_call HX.out b2)
      have ltX := blk_lt (blk_call HX.out b2)
      have hs2 := b2.size
      have x3 : Below w2.heap.size w2 (w2.alloc (.cells #[.int .i64 x.at_, .int .i64 x.id] 95)) := (Below.refl _ _).alloc (Nat.le_refl _) _
      have O3 := o2.alloc (.cells #[.int .i64 x.at_, .int .i64 x.id] 95)
      have R3 : Rws (w2.alloc (.cells #[.int .i64 x.at_, .int .i64 x.id] 95)) (w2.heap.size + 1) (some ⟨w2.heap.size, 0, none⟩) (pnC x) := Rws.new w2 (pnC x) 95
      have HO := Lib.hid o2
      clear o2
      simp only [Nat.zero_add] at q0 q1
      go_wp2_with (at_builtin; refine wpList_appR rowPin _ rfl (.tmp 26) (.tmp 28) rfl W.heap.size _ k ((l.take k).flatMap pnC) rfl O3 _ _ 1 1 (pnC x) rfl rfl R3 (fun h => by cases h) (by intro u hu; exact pnC_one [x] u (by simpa using hu)) (by omega) (by simp; omega) ?_)
      intro v4 w4 o4 g4
      have b4 := (b2.trans (x3.mono hs2)).grown g4 (by simp; omega) (own_low O3)
      clear g4 O3 x3 R3 HO ltX b2 q0 q1 hs2
      have R5 := Rws.from_ (n := l.length) (c := c) (k := k) (sz := 2) (rws_below (rws_below hA bW.out) b4) (flat_len pnC 2 pnC_len l) hk hc
      rw [← flat_drop pnC 2 pnC_len] at R5
      have e5 : ((l.drop k).flatMap pnC).length = (l.length - k) * 2 := by rw [flat_len pnC 2 pnC_len, List.length_drop]
      have hs4 := b4.size
      go_wp2_with (first | (refine wpList_exec (.slice (fromA A c k 2) (l.length - k) (c - k)) rfl (exec_sliceFrom rowPin A l.length c k _ hk hc hn) ?_) | (at_builtin; refine wpList_appR rowPin _ rfl (.tmp 30) (.tmp 33) rfl W.heap.size _ (k + 1) ((l.take k).flatMap pnC ++ pnC x) rfl o4 _ (fromA A c k 2) (l.length - k) (c - k) ((l.drop k).flatMap pnC) rfl e5 R5 (fromA_nil hn) (pnC_one _) (by omega) hs4 ?_))
      intro v6 w6 o6 g6
      have b6 := bW.out.trans ((b4.grown g6 hs4 (own_low o4)).mono bW.out.size)
      have e6 : (l.take k).flatMap pnC ++ (pnC x ++ (l.drop k).flatMap pnC) = (pnPut l x).flatMap pnC := by rw [HI.out]; simp
      have e7 : k + 1 + (l.length - k) = (pnPut l x).length := by rw [pnPut_len]; omega
      rw [e6, e7] at o6
      have HN := Lib.hid (NewR.of_own (own_weak o6 bW.out.size) b6)
      clear o4 o6 g6 b4 b6 R5 e5 e6 e7 hs4 e1 HI
      go_wp2
      go_ret
      exact HN.out
end Go.Proofs.YtlflgflmlfileaaGreat
