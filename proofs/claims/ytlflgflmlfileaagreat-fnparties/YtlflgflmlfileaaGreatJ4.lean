/- Texts laid together: HoN, HoP, HoS. -/
import Derived.Test.YtlflgflmlfileaaGreatRows
import Derived.Test.YtlflgflmlfileaaGreatHoK
import Derived.Test.YtlflgflmlfileaaGreatJ2
import Derived.Test.YtlflgflmlfileaaGreatJ6
namespace Go.Proofs.YtlflgflmlfileaaGreat
open Go.RowKit
set_option linter.unusedSimpArgs false
set_option linter.unusedVariables false
set_option maxRecDepth 100000 in
set_option maxHeartbeats 3200000 in
theorem inOrder_im (b n : Nat) (D : DataW Pt) (S : Int → Prop) (g : Int → Pt) (ks : List Int) (w : World) (hown : w.ownsMap Tryz.prog 3 ptR b n D) (hn : n ≤ 2097153) (hF : MapF D S g) (hs : ks.Pairwise (· < ·)) (hm : ∀ x, x ∈ ks ↔ S x) (hi : ∀ x ∈ ks, inI x) (hkl : ks.length ≤ 2097153) :
    Calls Tryz.prog 17 #[.map (some b)] w (NewR 26 10 w (ks.map g).length ((ks.map g).flatMap ptC)) := by
  have hsz : Maps.size D ≤ n := hown.size_le
  have CK := Lib.hid (keys_im (some b) w)
  have CS := Lib.hid (sorted_im b n D w hown (by unfold maxLen; omega) (by omega))
  have HS := Lib.hid (fun ss hp => sorted_is hown hF ks ss hp hs hm)
  have HL := Lib.hid (fun w' (h : Below w.heap.size w w') x (hx : x ∈ ks) => look_pt (own_map_below hown h) hF x ((hm x).1 hx) (hi x hx))
  have hbl := hown.lt
  clear hown hF hs hm hi hsz
  go_enter Tryz.func17, Tryz.ntmps17
  go_wp2_with fail
  refine CK.out.mono ?_
  rintro e _ ⟨rfl, rfl⟩
  go_wp2_with fail
  refine CS.out.mono ?_
  rintro e w1 ⟨v, ss, rfl, hp, o1, b1⟩
  have hlen : ss.length = ks.length := by have := congrArg List.length (HS.out ss hp); rw [List.length_mergeSort] at this; exact this
  rw [HS.out ss hp] at o1
  rw [hlen] at o1
  obtain ⟨KA, kc, rfl, _⟩ := own_form o1
  have B1 := Lib.hid b1
  have HR := Lib.hid (own_rws o1)
  clear CK CS HS hp b1 hlen o1
  go_wp2
  go_loopw [3, 10] (fun v i wr => ∃ k : Nat, k ≤ ks.length ∧ i = .int .i64 k ∧ Hid (wr.ownsRow w1.heap.size 26 10 v k (((ks.take k).map g).flatMap ptC)) ∧ Hid (Below w1.heap.size w1 wr)) (fun _ i _ => ks.length - (intOf i).toNat)
  case atStart => exact ⟨0, by omega, rfl, World.ownsRow_nil _ _ _ _, Below.refl _ _⟩
  case round =>
    obtain ⟨k, hk, rfl, ho, hb⟩ := hrel
    by_cases hlt : k < ks.length
    · have hR : Rws wr wr.heap.size KA (ints ks) := (rws_below HR.out hb.out)
      obtain ⟨kb, off, rfl, hbB, hc⟩ := hR.int hlt
      clear hR
      have HT : Hid ((((ks.take (k + 1)).map g).flatMap ptC) = ((ks.take k).map g).flatMap ptC ++ ptC (g (ks.getD k 0))) := by
        show _ = _
        rw [take_succ_getD ks k 0 hlt, List.map_append, List.flatMap_append]
        simp
      have hlook := HL.out wr (B1.out.trans (hb.out.mono B1.out.size)) (ks.getD k 0) (getD_mem ks k 0 hlt)
      have hfl : (((ks.take k).map g).flatMap ptC).length = k * 10 := by rw [flat_len ptC 10 ptC_len, List.length_map, List.length_take, Nat.min_eq_left hk]
      generalize ((ks.take k).map g).flatMap ptC = Q at *
      generalize g (ks.getD k 0) = p at *
      generalize ks.getD k 0 = x at *
      have RN : Hid (Rws (wr.alloc (.cells #[.int .i64 p.id, .int .i64 p.cabin, .int .i64 p.from_, .int .i64 p.size, .int .i64 p.tier, .int .i64 p.since, .int .i64 p.turn, .int .i64 p.state, .int .i64 p.until_, .int .i64 p.asked] 26)) (wr.heap.size + 1) (some ⟨wr.heap.size, 0, none⟩) (ptC p)) := Rws.new wr (ptC p) 26
      have O1 := Lib.hid (World.ownsRow.alloc ho.out (.cells #[.int .i64 p.id, .int .i64 p.cabin, .int .i64 p.from_, .int .i64 p.size, .int .i64 p.tier, .int .i64 p.since, .int .i64 p.turn, .int .i64 p.state, .int .i64 p.until_, .int .i64 p.asked] 26))
      have xA : Below wr.heap.size wr (wr.alloc (.cells #[.int .i64 p.id, .int .i64 p.cabin, .int .i64 p.from_, .int .i64 p.size, .int .i64 p.tier, .int .i64 p.since, .int .i64 p.turn, .int .i64 p.state, .int .i64 p.until_, .int .i64 p.asked] 26)) := (Below.refl _ _).alloc (Nat.le_refl _) _
      have bA := Lib.hid (hb.out.trans (xA.mono hb.out.size))
      have hsw := hb.out.size
      have HFL := Lib.hid hfl
      have HO := Lib.hid ho.out
      unfold ptA at hlook
      clear xA ho hb hfl HL
      go_wp2_with (at_builtin; refine wpList_appR rowPty _ rfl (.tmp 14) (.tmp 18) rfl w1.heap.size _ k Q rfl O1.out _ (some ⟨wr.heap.size, 0, none⟩) 1 1 (ptC p) rfl rfl RN.out (fun h => by cases h) (by intro z hz; exact ptC_one [p] z (by simpa using hz)) (by omega) (by simp; omega) ?_)
      intro v2 w2 o2 g2
      have O2 : Hid (w2.ownsRow w1.heap.size 26 10 v2 (k + 1) (((ks.take (k + 1)).map g).flatMap ptC)) := by show w2.ownsRow _ _ _ _ _ _; rw [HT.out]; exact o2
      have B2 := Lib.hid (bA.out.grown g2 bA.out.size (own_low O1.out))
      clear o2 g2 O1 RN bA HT HFL HO
      go_wp2
      go_roundw
      case rel => exact ⟨k + 1, by omega, by go_num, O2, B2⟩
      case measure => simp [intOf]; omega
    · obtain rfl : k = ks.length := by omega
      have R : Hid (NewR 26 10 w (ks.map g).length ((ks.map g).flatMap ptC) (.returned u3) wr) := by
        have ho := ho.out
        rw [List.take_length] at ho
        show NewR _ _ _ _ _ _ _
        rw [List.length_map]
        exact NewR.of_own (own_weak ho B1.out.size) (B1.out.trans (hb.out.mono B1.out.size))
      clear ho hb
      go_wp2
      go_ret
      exact R.out
/-- Numbers in a row. -/
def seg (a m : Nat) : List Int := (List.range' a m).map fun (i : Nat) => (i : Int)
theorem seg_mem (a m : Nat) (x : Int) : x ∈ seg a m ↔ (a : Int) ≤ x ∧ x < (a : Int) + m := by
  unfold seg
  rw [List.mem_map]
  constructor
  · rintro ⟨i, hi, rfl⟩
    rw [List.mem_range'_1] at hi
    omega
  · intro h
    exact ⟨x.toNat, List.mem_range'_1.2 (by omega), by omega⟩
theorem seg_lt (a m : Nat) : (seg a m).Pairwise (· < ·) := by
  unfold seg
  refine List.pairwise_map.2 ((List.pairwise_lt_range' (s := a) (n := m)).imp ?_)
  intro x y h; omega
theorem seg_len (a m : Nat) : (seg a m).length = m := by unfold seg; simp
theorem seg_at (l : List Pt) (a m : Nat) (h : a + m ≤ l.length) : (seg a m).map (atP l) = (l.drop a).take m := by
  refine List.ext_getElem (by rw [List.length_map, seg_len, List.length_take, List.length_drop]; omega) ?_
  intro i h1 h2
  rw [List.length_map, seg_len] at h1
  have h3 : a + i < l.length := by omega
  have e : ((a : Int) + (i : Int)).toNat = a + i := by omega
  simp [seg, atP, e, h3]
theorem seg_set (l : List Pt) (k : Nat) (p : Pt) : (seg 0 l.length).map (fun y => if y = (k : Int) then p else atP l y) = l.set k p := by
  refine List.ext_getElem (by rw [List.length_map, seg_len, List.length_set]) ?_
  intro i h1 h2
  rw [List.length_map, seg_len] at h1
  rw [List.getElem_set]
  by_cases e : k = i
  · subst e; simp [seg]
  · have e2 : ¬ ((i : Int) = (k : Int)) := by omega
    simp [seg, atP, e, e2, h1]
/-- What PartyPut and PartyCut return. -/
def putPV (l : List Pt) (p : Pt) : List Pt := if ptAt l p.id < 0 then ptPut l p else l.set (ptAt l p.id).toNat p
def cutPV (l : List Pt) (id : Int) : List Pt := if ptAt l id < 0 then l else l.take (ptAt l id).toNat ++ l.drop ((ptAt l id).toNat + 1)
theorem ptAt_in (l : List Pt) (id : Int) : -1 ≤ ptAt l id ∧ ptAt l id < l.length := idxV_in _ l
theorem inI_of (x : Int) (h1 : 0 ≤ x) (h2 : x < 2097153) : inI x := by unfold inI; omega
set_option maxRecDepth 100000 in
set_option maxHeartbeats 3200000 in
theorem partyPut_im (A : Option Addr) (l : List Pt) (c : Nat) (p : Pt) (w : World) (hl : l.length ≤ 2097152) (hc : l.length ≤ c) (hn : A = none → c = 0) (hA : Rws w w.heap.size A (l.flatMap ptC)) :
    Calls Tryz.prog 6 #[.slice A l.length c, ptA p] w (NewR 26 10 w (putPV l p).length ((putPV l p).flatMap ptC)) := by
  obtain ⟨W, hW⟩ : ∃ W, w.alloc (.cells #[.int .i64 p.id, .int .i64 p.cabin, .int .i64 p.from_, .int .i64 p.size, .int .i64 p.tier, .int .i64 p.since, .int .i64 p.turn, .int .i64 p.state, .int .i64 p.until_, .int .i64 p.asked] 26) = W := ⟨_, rfl⟩
  have bW : Hid (Below w.heap.size w W) := by show Below _ _ _; rw [← hW]; exact (Below.refl _ _).alloc (Nat.le_refl _) _
  have gW : Hid (W.heap[w.heap.size]? = some (.cells #[.int .i64 p.id, .int .i64 p.cabin, .int .i64 p.from_, .int .i64 p.size, .int .i64 p.tier, .int .i64 p.since, .int .i64 p.turn, .int .i64 p.state, .int .i64 p.until_, .int .i64 p.asked] 26)) := by show _ = _; rw [← hW]; exact heap_new _ _
  have CA := Lib.hid (firstWithId_im A l c p.id W hl (rws_below hA bW.out))
  have hin := ptAt_in l p.id
  have q0 := (Pt.here.blk gW.out).1
  have eA : ptA p = .agg #[.int .i64 p.id, .int .i64 p.cabin, .int .i64 p.from_, .int .i64 p.size, .int .i64 p.tier, .int .i64 p.since, .int .i64 p.turn, .int .i64 p.state, .int .i64 p.until_, .int .i64 p.asked] := rfl
  obtain ⟨z, hz⟩ : ∃ z, ptAt l p.id = z := ⟨_, rfl⟩
  rw [hz] at CA hin
  by_cases h0 : z < 0
  · have HV : Hid (putPV l p = l.take (pplV l p) ++ [p] ++ l.drop (pplV l p)) := by show _ = _; unfold putPV; rw [hz, if_pos h0]; exact ptPut_place l p (by omega)
    rw [HV.out]
    have CI := Lib.hid (fun w' (h : Below w.heap.size w w') => insertedById_im A l c p w' hl hc hn (rws_below hA h))
    generalize l.take (pplV l p) ++ [p] ++ l.drop (pplV l p) = P at *
    clear hz HV
    rw [eA]
    go_enter Tryz.func6, Tryz.ntmps6
    go_wp2_with fail
    clear hW
    refine CA.out.mono ?_
    rintro e w1 ⟨rfl, b1⟩
    have B1 : Hid (Below w.heap.size w w1) := bW.out.trans (b1.mono bW.out.size)
    obtain ⟨d0, d1, d2, d3, d4, d5, d6, d7, d8, d9⟩ := Pt.here.blk (blk_call gW.out b1)
    have CI := Lib.hid (CI.out w1 B1.out)
    rw [eA] at CI
    clear CA b1 q0 eA
    go_wp2_with fail
    refine CI.out.mono ?_
    rintro e w2 ⟨PA, pc, rfl, o2, b2⟩
    have R : Hid (NewR 26 10 w P.length (P.flatMap ptC) (.returned (.slice PA P.length pc)) w2) := ⟨PA, pc, rfl, own_weak o2 B1.out.size, B1.out.trans (b2.mono B1.out.size)⟩
    clear CI o2 b2 d0 d1 d2 d3 d4 d5 d6 d7 d8 d9
    go_wp2
    go_ret
    exact R.out
  · obtain ⟨k, rfl⟩ : ∃ k : Nat, z = k := ⟨z.toNat, by omega⟩
    have hkl : k < l.length := by omega
    have HV : Hid (putPV l p = l.set k p) := by show _ = _; unfold putPV; rw [hz, if_neg h0, Int.toNat_natCast]
    have CB := Lib.hid (fun w' (h : Below w.heap.size w w') => byPlace_im A l c w' hl (rws_below hA h))
    have hk9 : ¬ ((k : Int) < 0) := by omega
    have hwf := WalkArith.wf_i64 (n := (k : Int)) (by omega)
    rw [HV.out]
    have HSet := Lib.hid (seg_set l k p)
    clear hz h0 hin HV
    rw [eA]
    go_enter Tryz.func6, Tryz.ntmps6
    go_wp2_with fail
    clear hW
    refine CA.out.mono ?_
    rintro e w1 ⟨rfl, b1⟩
    have B1 : Hid (Below w.heap.size w w1) := bW.out.trans (b1.mono bW.out.size)
    have gW1 := Lib.hid (blk_call gW.out b1)
    have CB := Lib.hid (CB.out w1 B1.out)
    clear CA b1 q0
    go_wp2_with fail
    refine CB.out.mono ?_
    rintro e w2 ⟨mb, D, rfl, hmb, hown, hF, b2⟩
    have B2 : Hid (Below w.heap.size w w2) := B1.out.trans (b2.mono B1.out.size)
    have hmb2 : w.heap.size ≤ mb := Nat.le_trans B1.out.size hmb
    have HF2 := Lib.hid ((hF.put hown.isMap k p).iff (T := isAt l.length) (f := fun y => if y = (k : Int) then p else atP l y) (fun x => by unfold isAt; omega) (fun x _ => rfl))
    obtain ⟨d0, d1, d2, d3, d4, d5, d6, d7, d8, d9⟩ := Pt.here.blk (blk_call gW1.out b2)
    clear CB b2 hF hmb
    go_wp2_with (at_mapUpdate; refine wpList_mapUpdate_own _ rfl _ _ _ 45 rfl 3 26 keysZ Tryz.underlying45 ptR mb l.length D rfl hown (by unfold maxLen; omega) _ _ (.int .i64 k) rfl rfl (Maps.keyOf_int_mk Tryz.underlying3 hwf) (.held p) [] rfl ?_; intro w3 hown3 hgrow3)
    have B3 := Lib.hid (B2.out.grown hgrow3 B2.out.size (fun j hj => by cases hj; exact hmb2))
    have CI := Lib.hid (inOrder_im mb (l.length + 1) _ (isAt l.length) (fun y => if y = (k : Int) then p else atP l y) (seg 0 l.length) w3 hown3 (by omega) HF2.out (seg_lt _ _) (fun x => by rw [seg_mem]; unfold isAt; omega) (fun x hx => by rw [seg_mem] at hx; exact inI_of x (by omega) (by omega)) (by rw [seg_len]; omega))
    rw [HSet.out] at CI
    generalize l.set k p = P at *
    clear hown hown3 hgrow3 HF2 HSet d0 d1 d2 d3 d4 d5 d6 d7 d8 d9
    go_wp2_with fail
    refine CI.out.mono ?_
    rintro e w4 ⟨PA, pc, rfl, o4, b4⟩
    have R : Hid (NewR 26 10 w P.length (P.flatMap ptC) (.returned (.slice PA P.length pc)) w4) := ⟨PA, pc, rfl, own_weak o4 B3.out.size, B3.out.trans (b4.mono B3.out.size)⟩
    clear CI o4 b4
    go_wp2
    go_ret
    exact R.out
theorem cut_ks (l : List Pt) (id : Int) : ∃ ks : List Int, ks.Pairwise (· < ·) ∧ (∀ x, x ∈ ks ↔ (x ≠ ptAt l id ∧ isAt l.length x)) ∧ ks.length ≤ l.length ∧ ks.map (atP l) = cutPV l id := by
  have hin := ptAt_in l id
  unfold cutPV
  by_cases h0 : ptAt l id < 0
  · refine ⟨seg 0 l.length, seg_lt _ _, fun x => ?_, by rw [seg_len]; omega, ?_⟩
    · rw [seg_mem]; unfold isAt; omega
    · rw [if_pos h0, seg_at l 0 l.length (by omega)]; simp
  · obtain ⟨k, hk⟩ : ∃ k : Nat, ptAt l id = k := ⟨(ptAt l id).toNat, by omega⟩
    rw [hk] at hin h0 ⊢
    refine ⟨seg 0 k ++ seg (k + 1) (l.length - (k + 1)), ?_, fun x => ?_, ?_, ?_⟩
    · refine List.pairwise_append.2 ⟨seg_lt _ _, seg_lt _ _, fun x hx y hy => ?_⟩
      rw [seg_mem] at hx hy; omega
    · rw [List.mem_append, seg_mem, seg_mem]; unfold isAt; omega
    · rw [List.length_append, seg_len, seg_len]; omega
    · rw [if_neg h0, List.map_append, seg_at l 0 k (by omega), seg_at l (k + 1) _ (by omega), Int.toNat_natCast]
      rw [List.drop_zero, List.take_of_length_le (l := l.drop (k + 1)) (by rw [List.length_drop]; omega)]
set_option maxRecDepth 100000 in
set_option maxHeartbeats 3200000 in
theorem partyCut_im (A : Option Addr) (l : List Pt) (c : Nat) (id : Int) (w : World) (hl : l.length ≤ 2097152) (hA : Rws w w.heap.size A (l.flatMap ptC)) :
    Calls Tryz.prog 7 #[.slice A l.length c, .int .i64 id] w (NewR 26 10 w (cutPV l id).length ((cutPV l id).flatMap ptC)) := by
  have CB := Lib.hid (byPlace_im A l c w hl hA)
  have CA := Lib.hid (fun w' (h : Below w.heap.size w w') => firstWithId_im A l c id w' hl (rws_below hA h))
  obtain ⟨ks, hs, hm, hkl, hmap⟩ := cut_ks l id
  have hin := ptAt_in l id
  obtain ⟨z, hz⟩ : ∃ z, ptAt l id = z := ⟨_, rfl⟩
  rw [hz] at CA hin hm
  have hwf := WalkArith.wf_i64 (n := z) (by omega)
  clear hz
  have HS := Lib.hid hs
  have HM := Lib.hid hm
  have HMap := Lib.hid hmap
  clear hs hm hmap
  go_enter Tryz.func7, Tryz.ntmps7
  go_wp2_with fail
  refine CB.out.mono ?_
  rintro e w1 ⟨mb, D, rfl, hmb, hown, hF, b1⟩
  have B1 := Lib.hid b1
  have CA := Lib.hid (CA.out w1 b1)
  have HF2 := Lib.hid (hF.del z)
  clear CB b1 hF
  go_wp2_with fail
  refine CA.out.mono ?_
  rintro e w2 ⟨rfl, b2⟩
  have hown2 := own_map_below hown b2
  have B2 : Hid (Below w.heap.size w w2) := B1.out.trans (b2.mono B1.out.size)
  clear CA b2 hown
  go_wp2_with (at_delete; refine wpList_delete_own _ rfl _ _ 45 3 rfl 26 keysZ Tryz.underlying45 ptR mb l.length D rfl hown2 _ (.int .i64 z) rfl (Maps.keyOf_int_mk Tryz.underlying3 hwf) ?_; intro w3 hown3 hturn3)
  have hgrow3 := hturn3.grown
  have B3 := Lib.hid (B2.out.grown hgrow3 B2.out.size (fun j hj => by cases hj; exact hmb))
  have CI := Lib.hid (inOrder_im mb l.length _ _ (atP l) ks w3 hown3 (by omega) HF2.out HS.out HM.out (fun x hx => by have := (HM.out x).1 hx; unfold isAt at this; exact inI_of x (by omega) (by omega)) (by omega))
  rw [HMap.out] at CI
  generalize cutPV l id = P at *
  clear hown2 hown3 hturn3 hgrow3 HF2 HS HM HMap
  go_wp2_with fail
  refine CI.out.mono ?_
  rintro e w4 ⟨PA, pc, rfl, o4, b4⟩
  have R : Hid (NewR 26 10 w P.length (P.flatMap ptC) (.returned (.slice PA P.length pc)) w4) := ⟨PA, pc, rfl, own_weak o4 B3.out.size, B3.out.trans (b4.mono B3.out.size)⟩
  clear CI o4 b4
  go_wp2
  go_ret
  exact R.out
theorem half_set (l : List Pt) (k : Nat) (p : Pt) (hk : k < l.length) : half_pt (l.flatMap ptC) (l.set k p) k = l.flatMap ptC ∧ half_pt (l.flatMap ptC) (l.set k p) (k + 1) = (l.set k p).flatMap ptC := by
  have h1 : (l.set k p).take k = l.take k := by rw [List.take_set_of_le (Nat.le_refl k)]
  have h2 : (l.set k p).drop (k + 1) = l.drop (k + 1) := by rw [List.drop_set_of_lt (by omega)]
  constructor
  · unfold half_pt
    rw [h1, ← flat_drop ptC 10 ptC_len, ← List.flatMap_append, List.take_append_drop]
  · unfold half_pt
    rw [← flat_drop ptC 10 ptC_len, ← h2, ← List.flatMap_append, List.take_append_drop]
theorem cells_set (l : List Pt) (k : Nat) (p : Pt) (hk : k < l.length) :
    ((((((((((l.flatMap ptC).set (k * 10) (.int .i64 p.id)).set (k * 10 + 1) (.int .i64 p.cabin)).set (k * 10 + 2) (.int .i64 p.from_)).set (k * 10 + 3) (.int .i64 p.size)).set (k * 10 + 4) (.int .i64 p.tier)).set (k * 10 + 5) (.int .i64 p.since)).set (k * 10 + 6) (.int .i64 p.turn)).set (k * 10 + 7) (.int .i64 p.state)).set (k * 10 + 8) (.int .i64 p.until_)).set (k * 10 + 9) (.int .i64 p.asked) = (l.set k p).flatMap ptC := by
  have h := half_pt_set (l.flatMap ptC) (l.set k p) k (by rw [flat_len ptC 10 ptC_len, List.length_set]) (by rw [List.length_set]; exact hk)
  rw [(half_set l k p hk).1, (half_set l k p hk).2] at h
  have e : (l.set k p).getD k pt0 = p := by simp [List.getD_eq_getElem?_getD, hk]
  rw [e] at h
  exact h
set_option maxRecDepth 100000 in
set_option maxHeartbeats 6400000 in
theorem partyPut_old (A : Option Addr) (l : List Pt) (c k : Nat) (p : Pt) (w : World) (hl : l.length ≤ 2097152) (hn : A = none → c = 0) (hA : Rws w w.heap.size A (l.flatMap ptC)) (hk : k < l.length) (hp : ptAt l p.id = (k : Int)) :
    Calls Tryz.prog 37 #[.slice A l.length c, ptA p] w (NewR 26 10 w (l.set k p).length ((l.set k p).flatMap ptC)) := by
  obtain ⟨W, hW⟩ : ∃ W, w.alloc (.cells #[.int .i64 p.id, .int .i64 p.cabin, .int .i64 p.from_, .int .i64 p.size, .int .i64 p.tier, .int .i64 p.since, .int .i64 p.turn, .int .i64 p.state, .int .i64 p.until_, .int .i64 p.asked] 26) = W := ⟨_, rfl⟩
  have bW : Hid (Below w.heap.size w W) := by show Below _ _ _; rw [← hW]; exact (Below.refl _ _).alloc (Nat.le_refl _) _
  have HX : Hid (W.heap[w.heap.size]? = some (.cells #[.int .i64 p.id, .int .i64 p.cabin, .int .i64 p.from_, .int .i64 p.size, .int .i64 p.tier, .int .i64 p.since, .int .i64 p.turn, .int .i64 p.state, .int .i64 p.until_, .int .i64 p.asked] 26)) := by show _ = _; rw [← hW]; exact heap_new _ _
  have CA := Lib.hid (l11At_spec A l c p.id W hl (rws_below hA bW.out))
  rw [hp] at CA
  have O1 := own_empty W W.heap.size 26 10 (Nat.le_refl _)
  have x1 : Below W.heap.size W (W.alloc (.cells #[] 26)) := (Below.refl _ _).alloc (Nat.le_refl _) _
  have R1 := rws_below (rws_below hA bW.out) x1
  obtain ⟨q0, _⟩ := Pt.here.blk HX.out
  have HS := Lib.hid (cells_set l k p hk)
  have hlen : Hid ((l.set k p).length = l.length) := List.length_set
  have hn9 : ¬ ((k : Int) < 0) := by omega
  clear hp
  unfold ptA
  go_enter Tryz.func37, Tryz.ntmps37
  go_wp2_with fail
  clear hW q0
  refine CA.out.mono ?_
  rintro e _ ⟨rfl, rfl⟩
  go_wp2_with (at_builtin; refine wpList_appR rowPty _ rfl (.tmp 11) (.tmp 12) rfl W.heap.size _ 0 [] rfl O1 _ A l.length c (l.flatMap ptC) rfl (flat_len ptC 10 ptC_len l) R1 hn (ptC_one _) (by omega) (by simp) ?_)
  intro v2 w2 o2 g2
  have b3 := x1.grown g2 (by simp) (own_low O1)
  try rw [Nat.zero_add, List.nil_append] at o2
  obtain ⟨G, gc, rfl, _⟩ := own_form o2
  have HX2 := blk_call HX.out b3
  obtain ⟨d0, d1, d2, d3, d4, d5, d6, d7, d8, d9⟩ := Pt.here.blk HX2
  obtain ⟨g, rfl, hgs⟩ : ∃ g, G = some ⟨g, 0, none⟩ ∧ W.heap.size ≤ g := by
    rcases o2.2 with ⟨h, hz⟩ | ⟨gb, cap, cur, h, hbase, _⟩
    · omega
    · injection h with h1
      exact ⟨gb, h1, hbase⟩
  have hln := flat_len ptC 10 ptC_len l
  have own1 := o2
  clear o2
  generalize l.flatMap ptC = cs at *
  obtain ⟨u0, hu0⟩ : ∃ u, w2.cell? ⟨g, k * 10, none⟩ = some u := by rw [own1.cellAt _ (by omega)]; exact ⟨_, List.getElem?_eq_getElem (by omega)⟩
  have hf0 := own1.frozenAt (k * 10)
  obtain ⟨u1, hu1⟩ : ∃ u, w2.cell? ⟨g, k * 10 + 1, none⟩ = some u := by rw [own1.cellAt _ (by omega)]; exact ⟨_, List.getElem?_eq_getElem (by omega)⟩
  have hf1 := own1.frozenAt (k * 10 + 1)
  obtain ⟨u2, hu2⟩ : ∃ u, w2.cell? ⟨g, k * 10 + 2, none⟩ = some u := by rw [own1.cellAt _ (by omega)]; exact ⟨_, List.getElem?_eq_getElem (by omega)⟩
  have hf2 := own1.frozenAt (k * 10 + 2)
  obtain ⟨u3, hu3⟩ : ∃ u, w2.cell? ⟨g, k * 10 + 3, none⟩ = some u := by rw [own1.cellAt _ (by omega)]; exact ⟨_, List.getElem?_eq_getElem (by omega)⟩
  have hf3 := own1.frozenAt (k * 10 + 3)
  obtain ⟨u4, hu4⟩ : ∃ u, w2.cell? ⟨g, k * 10 + 4, none⟩ = some u := by rw [own1.cellAt _ (by omega)]; exact ⟨_, List.getElem?_eq_getElem (by omega)⟩
  have hf4 := own1.frozenAt (k * 10 + 4)
  obtain ⟨u5, hu5⟩ : ∃ u, w2.cell? ⟨g, k * 10 + 5, none⟩ = some u := by rw [own1.cellAt _ (by omega)]; exact ⟨_, List.getElem?_eq_getElem (by omega)⟩
  have hf5 := own1.frozenAt (k * 10 + 5)
  obtain ⟨u6, hu6⟩ : ∃ u, w2.cell? ⟨g, k * 10 + 6, none⟩ = some u := by rw [own1.cellAt _ (by omega)]; exact ⟨_, List.getElem?_eq_getElem (by omega)⟩
  have hf6 := own1.frozenAt (k * 10 + 6)
  obtain ⟨u7, hu7⟩ : ∃ u, w2.cell? ⟨g, k * 10 + 7, none⟩ = some u := by rw [own1.cellAt _ (by omega)]; exact ⟨_, List.getElem?_eq_getElem (by omega)⟩
  have hf7 := own1.frozenAt (k * 10 + 7)
  obtain ⟨u8, hu8⟩ : ∃ u, w2.cell? ⟨g, k * 10 + 8, none⟩ = some u := by rw [own1.cellAt _ (by omega)]; exact ⟨_, List.getElem?_eq_getElem (by omega)⟩
  have hf8 := own1.frozenAt (k * 10 + 8)
  obtain ⟨u9, hu9⟩ : ∃ u, w2.cell? ⟨g, k * 10 + 9, none⟩ = some u := by rw [own1.cellAt _ (by omega)]; exact ⟨_, List.getElem?_eq_getElem (by omega)⟩
  have hf9 := own1.frozenAt (k * 10 + 9)
  have S0 := own1.stored (k * 10) (.int .i64 p.id)
  have S1 := S0.1.stored (k * 10 + 1) (.int .i64 p.cabin)
  have S2 := S1.1.stored (k * 10 + 2) (.int .i64 p.from_)
  have S3 := S2.1.stored (k * 10 + 3) (.int .i64 p.size)
  have S4 := S3.1.stored (k * 10 + 4) (.int .i64 p.tier)
  have S5 := S4.1.stored (k * 10 + 5) (.int .i64 p.since)
  have S6 := S5.1.stored (k * 10 + 6) (.int .i64 p.turn)
  have S7 := S6.1.stored (k * 10 + 7) (.int .i64 p.state)
  have S8 := S7.1.stored (k * 10 + 8) (.int .i64 p.until_)
  have S9 := S8.1.stored (k * 10 + 9) (.int .i64 p.asked)
  have SN := Lib.hid S9.1
  have BN := Lib.hid ((((((((((b3.setCell (p := ⟨g, k * 10, none⟩) hgs (.int .i64 p.id)).setCell (p := ⟨g, k * 10 + 1, none⟩) hgs (.int .i64 p.cabin)).setCell (p := ⟨g, k * 10 + 2, none⟩) hgs (.int .i64 p.from_)).setCell (p := ⟨g, k * 10 + 3, none⟩) hgs (.int .i64 p.size)).setCell (p := ⟨g, k * 10 + 4, none⟩) hgs (.int .i64 p.tier)).setCell (p := ⟨g, k * 10 + 5, none⟩) hgs (.int .i64 p.since)).setCell (p := ⟨g, k * 10 + 6, none⟩) hgs (.int .i64 p.turn)).setCell (p := ⟨g, k * 10 + 7, none⟩) hgs (.int .i64 p.state)).setCell (p := ⟨g, k * 10 + 8, none⟩) hgs (.int .i64 p.until_)).setCell (p := ⟨g, k * 10 + 9, none⟩) hgs (.int .i64 p.asked))
  rw [HS.out] at SN
  have lt1 : (k : Int) < (l.length : Int) := by omega
  have B0 := bW.out
  have R := Lib.hid (NewR.of_own (own_weak SN.out B0.size) (B0.trans (BN.out.mono B0.size)))
  clear S0 S1 S2 S3 S4 S5 S6 S7 S8 S9 own1 b3 HX2 SN BN x1 R1 O1 CA
  go_wp2
  go_ret
  rw [hlen.out]
  exact R.out
set_option maxRecDepth 100000 in
theorem ptPut_spec (A : Option Addr) (l : List Pt) (c : Nat) (p : Pt) (w : World) (hl : l.length ≤ 2097152) (hc : l.length ≤ c) (hn : A = none → c = 0) (hA : Rws w w.heap.size A (l.flatMap ptC)) :
    Calls Tryz.prog 37 #[.slice A l.length c, ptA p] w (NewR 26 10 w (putPV l p).length ((putPV l p).flatMap ptC)) := by
  have hin := ptAt_in l p.id
  by_cases h0 : ptAt l p.id < 0
  · have HV : putPV l p = ptPut l p := by unfold putPV; rw [if_pos h0]
    rw [HV]
    exact partyPut_new A l c p w hl hc hn hA (by omega)
  · obtain ⟨k, hk⟩ : ∃ k : Nat, ptAt l p.id = k := ⟨(ptAt l p.id).toNat, by omega⟩
    have HV : putPV l p = l.set k p := by unfold putPV; rw [if_neg h0, hk, Int.toNat_natCast]
    rw [HV]
    exact partyPut_old A l c k p w hl hn hA (by omega) hk
set_option maxRecDepth 100000 in
set_option maxHeartbeats 3200000 in
theorem ptCut_spec (A : Option Addr) (l : List Pt) (c : Nat) (id : Int) (w : World) (hl : l.length ≤ 2097152) (hc : l.length ≤ c) (hn : A = none → c = 0) (hA : Rws w w.heap.size A (l.flatMap ptC)) :
    Calls Tryz.prog 9 #[.slice A l.length c, .int .i64 id] w (NewR 26 10 w (cutPV l id).length ((cutPV l id).flatMap ptC)) := by
  have CA := Lib.hid (l11At_spec A l c id w hl hA)
  have hin := ptAt_in l id
  obtain ⟨z, hz⟩ : ∃ z, ptAt l id = z := ⟨_, rfl⟩
  rw [hz] at CA hin
  by_cases h0 : z < 0
  · have HV : cutPV l id = l := by unfold cutPV; rw [hz, if_pos h0]
    rw [HV]
    have O1 := own_empty w w.heap.size 26 10 (Nat.le_refl _)
    have x1 : Below w.heap.size w (w.alloc (.cells #[] 26)) := (Below.refl _ _).alloc (Nat.le_refl _) _
    have R1 := rws_below hA x1
    clear hz HV
    go_enter Tryz.func9, Tryz.ntmps9
    go_wp2_with fail
    refine CA.out.mono ?_
    rintro e _ ⟨rfl, rfl⟩
    go_wp2_with (at_builtin; refine wpList_appR rowPty _ rfl (.tmp 11) (.tmp 12) rfl w.heap.size _ 0 [] rfl O1 _ A l.length c (l.flatMap ptC) rfl (flat_len ptC 10 ptC_len l) R1 hn (ptC_one _) (by omega) (by simp) ?_)
    intro v2 w2 o2 g2
    have b3 := x1.grown g2 (by simp) (own_low O1)
    try rw [Nat.zero_add, List.nil_append] at o2
    have R := Lib.hid (NewR.of_own o2 b3)
    clear o2 g2 b3 O1 x1 R1 CA
    go_wp2
    go_ret
    exact R.out
  · obtain ⟨k, rfl⟩ : ∃ k : Nat, z = k := ⟨z.toNat, by omega⟩
    have hkl : k < l.length := by omega
    have HV : cutPV l id = l.take k ++ l.drop (k + 1) := by unfold cutPV; rw [hz, if_neg h0, Int.toNat_natCast]
    rw [HV]
    have e1 : ((l.take k).flatMap ptC).length = k * 10 := by rw [flat_len ptC 10 ptC_len, List.length_take, Nat.min_eq_left (by omega)]
    have e2 : ((l.drop (k + 1)).flatMap ptC).length = (l.length - (k + 1)) * 10 := by rw [flat_len ptC 10 ptC_len, List.length_drop]
    have H1 : Hid (∀ w' (h : Below w.heap.size w w'), Rws w' w'.heap.size A ((l.take k).flatMap ptC)) := fun w' h => by
      rw [flat_take ptC 10 ptC_len]; exact Rws.to_ (k * 10) (rws_below hA h)
    have H2 : Hid (∀ w' (h : Below w.heap.size w w'), Rws w' w'.heap.size (fromA A c (k + 1) 10) ((l.drop (k + 1)).flatMap ptC)) := fun w' h => by
      rw [flat_drop ptC 10 ptC_len]; exact (rws_below hA h).from_ (n := l.length) (c := c) (k := k + 1) (sz := 10) (flat_len ptC 10 ptC_len l) (by omega) hc
    have elen : Hid ((l.take k ++ l.drop (k + 1)).length = k + (l.length - (k + 1))) := by show _ = _; rw [List.length_append, List.length_take, List.length_drop, Nat.min_eq_left (by omega)]
    have ecat : Hid ((l.take k ++ l.drop (k + 1)).flatMap ptC = (l.take k).flatMap ptC ++ (l.drop (k + 1)).flatMap ptC) := List.flatMap_append
    clear hz HV
    go_enter Tryz.func9, Tryz.ntmps9
    go_wp2_with fail
    refine CA.out.mono ?_
    rintro e _ ⟨rfl, rfl⟩
    go_wp2_with fail
    clear CA
    refine wp_region_held_drew (S := fun w' => Hid (Below w.heap.size w w')) (by kernel_rfl) (below_drawn (Below.refl _ _) 1) (fun hHeld => ?_)
    refine held_take 1 15 (.slice A l.length c) rfl rfl (by kernel_rfl) (by kernel_rfl) (by kernel_rfl) (fun _ _ _ h => h) rfl hHeld (fun w _ => rfl) ?_
    refine held_take 2 16 (.int .i64 (k : Int)) rfl rfl (by kernel_rfl) (by kernel_rfl) (by kernel_rfl) (fun _ _ _ h => h) rfl hHeld (fun w _ => rfl) ?_
    simp only [Act.put, List.setIfInBounds_toArray, List.set_cons_zero, List.set_cons_succ]
    refine held_take 3 17 (.slice A k c) rfl rfl (by kernel_rfl) (by kernel_rfl) (by kernel_rfl) (fun _ _ _ h => h) rfl hHeld (fun w _ => exec_sliceTo rowPty A l.length c k w (by omega) hc hn) ?_
    refine held_take 5 19 (.slice A l.length c) rfl rfl (by kernel_rfl) (by kernel_rfl) (by kernel_rfl) (fun _ _ _ h => h) rfl hHeld (fun w _ => rfl) ?_
    simp only [Act.put, List.setIfInBounds_toArray, List.set_cons_zero, List.set_cons_succ]
    refine held_take 6 20 (.int .i64 (k : Int)) rfl rfl (by kernel_rfl) (by kernel_rfl) (by kernel_rfl) (fun _ _ _ h => h) rfl hHeld (fun w _ => rfl) ?_
    refine held_take 7 21 (.int .i64 ((k + 1 : Nat) : Int)) rfl rfl (by kernel_rfl) (by kernel_rfl) (by kernel_rfl) (fun _ _ _ h => h) rfl hHeld (fun w _ => exec_addI (k : Int) 1 _ w (by omega) (by omega) (by omega)) ?_
    simp only [Act.put, List.setIfInBounds_toArray, List.set_cons_zero, List.set_cons_succ]
    refine held_take 8 22 (.slice (fromA A c (k + 1) 10) (l.length - (k + 1)) (c - (k + 1))) rfl rfl (by kernel_rfl) (by kernel_rfl) (by kernel_rfl) (fun _ _ _ h => h) rfl hHeld (fun w _ => exec_sliceFrom rowPty A l.length c (k + 1) w (by omega) hc hn) ?_
    simp only [Act.put, List.setIfInBounds_toArray, List.set_cons_zero, List.set_cons_succ]
    have bA := hHeld.out.alloc hHeld.out.size (.cells #[] 26)
    have oA := own_emptyB hHeld.out 26 10
    refine held_op 0 14 (.slice (some ⟨w.drew.heap.size, 0, none⟩) 0 0) rfl rfl (by kernel_rfl) rfl (exec_none_pt _) (Lib.hid bA) ?_
    simp only [Act.put, List.setIfInBounds_toArray, List.set_cons_zero, List.set_cons_succ]
    refine held_opx 4 18 rfl rfl (by kernel_rfl) rfl (exec_appR rowPty _ w.heap.size _ 0 [] oA _ A k c ((l.take k).flatMap ptC) e1 (H1.out _ bA) hn (ptC_one _) (by omega) bA.size) ?_
    rintro v7 w7 ⟨o7, g7⟩
    have k7 := bA.grown g7 bA.size (own_low oA)
    refine ⟨Lib.hid k7, ?_⟩
    simp only [Act.put, List.setIfInBounds_toArray, List.set_cons_zero, List.set_cons_succ]
    rw [Nat.zero_add, List.nil_append] at o7
    refine held_opx 9 23 rfl rfl (by kernel_rfl) rfl (exec_appR rowPty _ w.heap.size _ k _ o7 _ _ (l.length - (k + 1)) (c - (k + 1)) ((l.drop (k + 1)).flatMap ptC) e2 (H2.out _ k7) (fromA_nil hn) (ptC_one _) (by omega) k7.size) ?_
    rintro v9 w9 ⟨o9, g9⟩
    have k9 := k7.grown g9 k7.size (own_low o7)
    refine ⟨Lib.hid k9, ?_⟩
    simp only [Act.put, List.setIfInBounds_toArray, List.set_cons_zero, List.set_cons_succ]
    refine held_op 10 4 v9 rfl rfl (by kernel_rfl) rfl rfl (Lib.hid k9) ?_
    simp only [Act.put, List.setIfInBounds_toArray, List.set_cons_zero, List.set_cons_succ]
    refine wpAnyH_done (by kernel_rfl) ?_ _
    have R := Lib.hid (NewR.of_own o9 k9)
    clear o9 g9 k9 o7 g7 k7 oA bA H1 H2 hHeld
    go_wp2
    go_ret
    rw [elen.out, ecat.out]
    exact R.out
end Go.Proofs.YtlflgflmlfileaaGreat
