/- PartyPut, PartyCut of the program. -/
import Derived.Test.YtlflgflmlfileaaRows
import Derived.Test.YtlflgflmlfileaaHoN
namespace Go.Proofs.Ytlflgflmlfileaa
open Go.RowKit
set_option linter.unusedSimpArgs false
set_option linter.unusedVariables false
/-- Numbers in a row. -/
def seg (a m : Nat) : List Int := (List.range' a m).map fun (i : Nat) => (i : Int)
theorem seg_mem (a m : Nat) (x : Int) : x ∈ seg a m ↔ (a : Int) ≤ x ∧ x < (a : Int) + m := by
  unfold seg
  rw [List.mem_map]
  constructor
  · rintro ⟨i, hi, rfl⟩
    rw [List.mem_range'_1] at hi
    omega
  · intro h
    exact ⟨x.toNat, List.mem_range'_1.2 (by omega), by omega⟩
theorem seg_lt (a m : Nat) : (seg a m).Pairwise (· < ·) := by
  unfold seg
  refine List.pairwise_map.2 ((List.pairwise_lt_range' (s := a) (n := m)).imp ?_)
  intro x y h; omega
theorem seg_len (a m : Nat) : (seg a m).length = m := by unfold seg; simp
theorem seg_at (l : List Pt) (a m : Nat) (h : a + m ≤ l.length) : (seg a m).map (atP l) = (l.drop a).take m := by
  refine List.ext_getElem (by rw [List.length_map, seg_len, List.length_take, List.length_drop]; omega) ?_
  intro i h1 h2
  rw [List.length_map, seg_len] at h1
  have h3 : a + i < l.length := by omega
  have e : ((a : Int) + (i : Int)).toNat = a + i := by omega
  simp [seg, atP, e, h3]
theorem seg_set (l : List Pt) (k : Nat) (p : Pt) : (seg 0 l.length).map (fun y => if y = (k : Int) then p else atP l y) = l.set k p := by
  refine List.ext_getElem (by rw [List.length_map, seg_len, List.length_set]) ?_
  intro i h1 h2
  rw [List.length_map, seg_len] at h1
  rw [List.getElem_set]
  by_cases e : k = i
  · subst e; simp [seg]
  · have e2 : ¬ ((i : Int) = (k : Int)) := by omega
    simp [seg, atP, e, e2, h1]
/-- What PartyPut and PartyCut return. -/
def putPV (l : List Pt) (p : Pt) : List Pt := if ptAt l p.id < 0 then ptPut l p else l.set (ptAt l p.id).toNat p
def cutPV (l : List Pt) (id : Int) : List Pt := if ptAt l id < 0 then l else l.take (ptAt l id).toNat ++ l.drop ((ptAt l id).toNat + 1)
theorem ptAt_in (l : List Pt) (id : Int) : -1 ≤ ptAt l id ∧ ptAt l id < l.length := idxV_in _ l
theorem inI_of (x : Int) (h1 : 0 ≤ x) (h2 : x < 2097153) : inI x := by unfold inI; omega
set_option maxRecDepth 100000 in
set_option maxHeartbeats 3200000 in
theorem partyPut_im (A : Option Addr) (l : List Pt) (c : Nat) (p : Pt) (w : World) (hl : l.length ≤ 2097152) (hc : l.length ≤ c) (hn : A = none → c = 0) (hA : Rws w w.heap.size A (l.flatMap ptC)) :
    Calls Try.prog 23 #[.slice A l.length c, ptA p] w (NewR 54 10 w (putPV l p).length ((putPV l p).flatMap ptC)) := by
  obtain ⟨W, hW⟩ : ∃ W, w.alloc (.cells #[.int .i64 p.id, .int .i64 p.cabin, .int .i64 p.from_, .int .i64 p.size, .int .i64 p.tier, .int .i64 p.since, .int .i64 p.turn, .int .i64 p.state, .int .i64 p.until_, .int .i64 p.asked] 54) = W := ⟨_, rfl⟩
  have bW : Hid (Below w.heap.size w W) := by show Below _ _ _; rw [← hW]; exact (Below.refl _ _).alloc (Nat.le_refl _) _
  have gW : Hid (W.heap[w.heap.size]? = some (.cells #[.int .i64 p.id, .int .i64 p.cabin, .int .i64 p.from_, .int .i64 p.size, .int .i64 p.tier, .int .i64 p.since, .int .i64 p.turn, .int .i64 p.state, .int .i64 p.until_, .int .i64 p.asked] 54)) := by show _ = _; rw [← hW]; exact heap_new _ _
  have CA := Lib.hid (firstWithId_im A l c p.id W hl (rws_below hA bW.out))
  have hin := ptAt_in l p.id
  have q0 := (Pt.here.blk gW.out).1
  have eA : ptA p = .agg #[.int .i64 p.id, .int .i64 p.cabin, .int .i64 p.from_, .int .i64 p.size, .int .i64 p.tier, .int .i64 p.since, .int .i64 p.turn, .int .i64 p.state, .int .i64 p.until_, .int .i64 p.asked] := rfl
  obtain ⟨z, hz⟩ : ∃ z, ptAt l p.id = z := ⟨_, rfl⟩
  rw [hz] at CA hin
  by_cases h0 : z < 0
  · have HV : Hid (putPV l p = l.take (pplV l p) ++ [p] ++ l.drop (pplV l p)) := by show _ = _; unfold putPV; rw [hz, if_pos h0]; exact ptPut_place l p (by omega)
    rw [HV.out]
    have CI := Lib.hid (fun w' (h : Below w.heap.size w w') => insertedById_im A l c p w' hl hc hn (rws_below hA h))
    generalize l.take (pplV l p) ++ [p] ++ l.drop (pplV l p) = P at *
    clear hz HV
    rw [eA]
    go_enter Try.func23, Try.ntmps23
    go_wp2_with fail
    clear hW
    refine CA.out.mono ?_
    rintro e w1 ⟨rfl, b1⟩
    have B1 : Hid (Below w.heap.size w w1) := bW.out.trans (b1.mono bW.out.size)
    obtain ⟨d0, d1, d2, d3, d4, d5, d6, d7, d8, d9⟩ := Pt.here.blk (blk_call gW.out b1)
    have CI := Lib.hid (CI.out w1 B1.out)
    rw [eA] at CI
    clear CA b1 q0 eA
    go_wp2_with fail
    refine CI.out.mono ?_
    rintro e w2 ⟨PA, pc, rfl, o2, b2⟩
    have R : Hid (NewR 54 10 w P.length (P.flatMap ptC) (.returned (.slice PA P.length pc)) w2) := ⟨PA, pc, rfl, own_weak o2 B1.out.size, B1.out.trans (b2.mono B1.out.size)⟩
    clear CI o2 b2 d0 d1 d2 d3 d4 d5 d6 d7 d8 d9
    go_wp2
    go_ret
    exact R.out
  · obtain ⟨k, rfl⟩ : ∃ k : Nat, z = k := ⟨z.toNat, by omega⟩
    have hkl : k < l.length := by omega
    have HV : Hid (putPV l p = l.set k p) := by show _ = _; unfold putPV; rw [hz, if_neg h0, Int.toNat_natCast]
    have CB := Lib.hid (fun w' (h : Below w.heap.size w w') => byPlace_im A l c w' hl (rws_below hA h))
    have hk9 : ¬ ((k : Int) < 0) := by omega
    have hwf := WalkArith.wf_i64 (n := (k : Int)) (by omega)
    rw [HV.out]
    have HSet := Lib.hid (seg_set l k p)
    clear hz h0 hin HV
    rw [eA]
    go_enter Try.func23, Try.ntmps23
    go_wp2_with fail
    clear hW
    refine CA.out.mono ?_
    rintro e w1 ⟨rfl, b1⟩
    have B1 : Hid (Below w.heap.size w w1) := bW.out.trans (b1.mono bW.out.size)
    have gW1 := Lib.hid (blk_call gW.out b1)
    have CB := Lib.hid (CB.out w1 B1.out)
    clear CA b1 q0
    go_wp2_with fail
    refine CB.out.mono ?_
    rintro e w2 ⟨mb, D, rfl, hmb, hown, hF, b2⟩
    have B2 : Hid (Below w.heap.size w w2) := B1.out.trans (b2.mono B1.out.size)
    have hmb2 : w.heap.size ≤ mb := Nat.le_trans B1.out.size hmb
    have HF2 := Lib.hid ((hF.put hown.isMap k p).iff (T := isAt l.length) (f := fun y => if y = (k : Int) then p else atP l y) (fun x => by unfold isAt; omega) (fun x _ => rfl))
    obtain ⟨d0, d1, d2, d3, d4, d5, d6, d7, d8, d9⟩ := Pt.here.blk (blk_call gW1.out b2)
    clear CB b2 hF hmb
    go_wp2_with (at_mapUpdate; refine wpList_mapUpdate_own _ rfl _ _ _ 93 rfl 3 54 keysZ Try.underlying93 ptR mb l.length D rfl hown (by unfold maxLen; omega) _ _ (.int .i64 k) rfl rfl (Maps.keyOf_int_mk Try.underlying3 hwf) (.held p) [] rfl ?_; intro w3 hown3 hgrow3)
    have B3 := Lib.hid (B2.out.grown hgrow3 B2.out.size (fun j hj => by cases hj; exact hmb2))
    have CI := Lib.hid (inOrder_im mb (l.length + 1) _ (isAt l.length) (fun y => if y = (k : Int) then p else atP l y) (seg 0 l.length) w3 hown3 (by omega) HF2.out (seg_lt _ _) (fun x => by rw [seg_mem]; unfold isAt; omega) (fun x hx => by rw [seg_mem] at hx; exact inI_of x (by omega) (by omega)) (by rw [seg_len]; omega))
    rw [HSet.out] at CI
    generalize l.set k p = P at *
    clear hown hown3 hgrow3 HF2 HSet d0 d1 d2 d3 d4 d5 d6 d7 d8 d9
    go_wp2_with fail
    refine CI.out.mono ?_
    rintro e w4 ⟨PA, pc, rfl, o4, b4⟩
    have R : Hid (NewR 54 10 w P.length (P.flatMap ptC) (.returned (.slice PA P.length pc)) w4) := ⟨PA, pc, rfl, own_weak o4 B3.out.size, B3.out.trans (b4.mono B3.out.size)⟩
    clear CI o4 b4
    go_wp2
    go_ret
    exact R.out
theorem cut_ks (l : List Pt) (id : Int) : ∃ ks : List Int, ks.Pairwise (· < ·) ∧ (∀ x, x ∈ ks ↔ (x ≠ ptAt l id ∧ isAt l.length x)) ∧ ks.length ≤ l.length ∧ ks.map (atP l) = cutPV l id := by
  have hin := ptAt_in l id
  unfold cutPV
  by_cases h0 : ptAt l id < 0
  · refine ⟨seg 0 l.length, seg_lt _ _, fun x => ?_, by rw [seg_len]; omega, ?_⟩
    · rw [seg_mem]; unfold isAt; omega
    · rw [if_pos h0, seg_at l 0 l.length (by omega)]; simp
  · obtain ⟨k, hk⟩ : ∃ k : Nat, ptAt l id = k := ⟨(ptAt l id).toNat, by omega⟩
    rw [hk] at hin h0 ⊢
    refine ⟨seg 0 k ++ seg (k + 1) (l.length - (k + 1)), ?_, fun x => ?_, ?_, ?_⟩
    · refine List.pairwise_append.2 ⟨seg_lt _ _, seg_lt _ _, fun x hx y hy => ?_⟩
      rw [seg_mem] at hx hy; omega
    · rw [List.mem_append, seg_mem, seg_mem]; unfold isAt; omega
    · rw [List.length_append, seg_len, seg_len]; omega
    · rw [if_neg h0, List.map_append, seg_at l 0 k (by omega), seg_at l (k + 1) _ (by omega), Int.toNat_natCast]
      rw [List.drop_zero, List.take_of_length_le (l := l.drop (k + 1)) (by rw [List.length_drop]; omega)]
set_option maxRecDepth 100000 in
set_option maxHeartbeats 3200000 in
theorem partyCut_im (A : Option Addr) (l : List Pt) (c : Nat) (id : Int) (w : World) (hl : l.length ≤ 2097152) (hA : Rws w w.heap.size A (l.flatMap ptC)) :
    Calls Try.prog 28 #[.slice A l.length c, .int .i64 id] w (NewR 54 10 w (cutPV l id).length ((cutPV l id).flatMap ptC)) := by
  have CB := Lib.hid (byPlace_im A l c w hl hA)
  have CA := Lib.hid (fun w' (h : Below w.heap.size w w') => firstWithId_im A l c id w' hl (rws_below hA h))
  obtain ⟨ks, hs, hm, hkl, hmap⟩ := cut_ks l id
  have hin := ptAt_in l id
  obtain ⟨z, hz⟩ : ∃ z, ptAt l id = z := ⟨_, rfl⟩
  rw [hz] at CA hin hm
  have hwf := WalkArith.wf_i64 (n := z) (by omega)
  clear hz
  have HS := Lib.hid hs
  have HM := Lib.hid hm
  have HMap := Lib.hid hmap
  clear hs hm hmap
  go_enter Try.func28, Try.ntmps28
  go_wp2_with fail
  refine CB.out.mono ?_
  rintro e w1 ⟨mb, D, rfl, hmb, hown, hF, b1⟩
  have B1 := Lib.hid b1
  have CA := Lib.hid (CA.out w1 b1)
  have HF2 := Lib.hid (hF.del z)
  clear CB b1 hF
  go_wp2_with fail
  refine CA.out.mono ?_
  rintro e w2 ⟨rfl, b2⟩
  have hown2 := own_map_below hown b2
  have B2 : Hid (Below w.heap.size w w2) := B1.out.trans (b2.mono B1.out.size)
  clear CA b2 hown
  go_wp2_with (at_delete; refine wpList_delete_own _ rfl _ _ 93 3 rfl 54 keysZ Try.underlying93 ptR mb l.length D rfl hown2 _ (.int .i64 z) rfl (Maps.keyOf_int_mk Try.underlying3 hwf) ?_; intro w3 hown3 hturn3)
  have hgrow3 := hturn3.grown
  have B3 := Lib.hid (B2.out.grown hgrow3 B2.out.size (fun j hj => by cases hj; exact hmb))
  have CI := Lib.hid (inOrder_im mb l.length _ _ (atP l) ks w3 hown3 (by omega) HF2.out HS.out HM.out (fun x hx => by have := (HM.out x).1 hx; unfold isAt at this; exact inI_of x (by omega) (by omega)) (by omega))
  rw [HMap.out] at CI
  generalize cutPV l id = P at *
  clear hown2 hown3 hturn3 hgrow3 HF2 HS HM HMap
  go_wp2_with fail
  refine CI.out.mono ?_
  rintro e w4 ⟨PA, pc, rfl, o4, b4⟩
  have R : Hid (NewR 54 10 w P.length (P.flatMap ptC) (.returned (.slice PA P.length pc)) w4) := ⟨PA, pc, rfl, own_weak o4 B3.out.size, B3.out.trans (b4.mono B3.out.size)⟩
  clear CI o4 b4
  go_wp2
  go_ret
  exact R.out
end Go.Proofs.Ytlflgflmlfileaa
