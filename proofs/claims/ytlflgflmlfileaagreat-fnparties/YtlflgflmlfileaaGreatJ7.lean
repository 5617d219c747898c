/- Texts laid together: HpC, HpW. -/
import Derived.Test.YtlflgflmlfileaaGreatRows
import Derived.Test.YtlflgflmlfileaaGreatHpB
import Derived.Test.YtlflgflmlfileaaGreatJ4
namespace Go.Proofs.YtlflgflmlfileaaGreat
open Go.RowKit
set_option linter.unusedSimpArgs false
set_option linter.unusedVariables false
/-- What DrawPartyPut hands out. -/
def GotPP (w : World) (e : Ending) (w' : World) : Prop :=
  ∃ (el : List Pt) (LA : Option Addr) (lc : Nat) (p : Pt), el.length ≤ 9 ∧ e = .returned (.tuple #[.slice LA el.length lc, ptA p]) ∧ Rws w' w'.heap.size LA (el.flatMap ptC) ∧ el.length ≤ lc ∧ (LA = none → lc = 0) ∧ Below w.heap.size w w'
theorem putPt_below {B : Nat} {w0 w : World} {b : Nat} {p : Pt} (h : Below B w0 w) (hb : B ≤ b) : Below B w0 (putPt w b p) := by
  unfold putPt
  exact ((((((((((h.setCell hb _).setCell hb _).setCell hb _).setCell hb _).setCell hb _).setCell hb _).setCell hb _).setCell hb _).setCell hb _).setCell hb _)
theorem putPt_own {w : World} {b B : Nat} {p : Pt} {t : TypeId} {e n : Nat} {v : Value} {cs : List Value} (h : w.ownsRow B t e v n cs) (hb : b < B) : (putPt w b p).ownsRow B t e v n cs := by
  refine ⟨h.1, ?_⟩
  rcases h.2 with h | ⟨k, cp, cur, hv, hbb, hh, hrest⟩
  · exact .inl h
  · exact .inr ⟨k, cp, cur, hv, hbb, (putPt_other _ p (by omega)).trans hh, hrest⟩
set_option maxRecDepth 100000 in
set_option maxHeartbeats 3200000 in
theorem drawPartyPut_any (A : Option Addr) (l : List Nat) (c : Nat) (w : World) (hl : l.length ≤ 2097152) (hA : Bts w w.heap.size A l) (hb : AllB l) :
    Calls Tryz.prog 5 #[.slice A l.length c] w (GotPP w) := by
  have b0 : Below w.heap.size w (w.alloc (.cells #[.int .i64 0, .int .i64 0, .int .i64 0, .int .i64 0, .int .i64 0, .int .i64 0, .int .i64 0, .int .i64 0, .int .i64 0, .int .i64 0] 26)) := (Below.refl _ _).alloc (Nat.le_refl _) _
  have C0 := Lib.hid (l1New_any A l c (w.alloc (.cells #[.int .i64 0, .int .i64 0, .int .i64 0, .int .i64 0, .int .i64 0, .int .i64 0, .int .i64 0, .int .i64 0, .int .i64 0, .int .i64 0] 26)) hl ((hA.below b0).more b0.size) hb)
  unfold NewCur at C0
  simp only [World.size_alloc] at C0
  have hz0 := Lib.hid (heap_new w (.cells #[.int .i64 0, .int .i64 0, .int .i64 0, .int .i64 0, .int .i64 0, .int .i64 0, .int .i64 0, .int .i64 0, .int .i64 0, .int .i64 0] 26))
  go_enter Tryz.func5, Tryz.ntmps5
  go_wp2_with fail
  refine C0.out.mono ?_
  rintro e w1 ⟨rfl, hc1, b1⟩
  have lt1 := hc1.lt
  have hz1 := Lib.hid ((b1.block _ (by omega)).trans hz0.out)
  have HB1 : Hid (Below w.heap.size w w1) := b0.trans (b1.mono (by omega))
  clear C0 b0 b1 hz0
  obtain ⟨g, hg⟩ : ∃ g, w.heap.size + 1 = g := ⟨_, rfl⟩
  have HG := Lib.hid hg
  rw [hg] at hc1 lt1 ⊢
  clear hg
  go_wp2_with fail
  refine (l11Draw_any A l c g w1 hl hb hc1).mono ?_
  rintro e w2 ⟨x, pl, rfl, xp, pl9, o2, hc2, gr2⟩
  have XP := Lib.hid xp
  clear xp
  obtain ⟨V, hV⟩ : ∃ V, w2.alloc (.cells #[.slice x.ra x.r.seats.length x.rc, .int .i64 x.r.tiers, .int .i64 x.r.room, .int .i64 x.r.size, .int .i64 x.r.period, .int .i64 x.r.window, .int .i64 x.r.rest, .int .i64 x.r.tries, .int .i64 x.r.crew, .int .i64 x.now, .int .i64 x.turn, .slice x.p x.pn x.pc, .slice x.c x.cn x.cc, .slice x.t x.tn x.tc, .slice x.j x.jn x.jc] 37) = V := ⟨_, rfl⟩
  have T0 : V.heap[w2.heap.size]? = some (.cells #[.slice x.ra x.r.seats.length x.rc, .int .i64 x.r.tiers, .int .i64 x.r.room, .int .i64 x.r.size, .int .i64 x.r.period, .int .i64 x.r.window, .int .i64 x.r.rest, .int .i64 x.r.tries, .int .i64 x.r.crew, .int .i64 x.now, .int .i64 x.turn, .slice x.p x.pn x.pc, .slice x.c x.cn x.cc, .slice x.t x.tn x.tc, .slice x.j x.jn x.jc] 37) := by rw [← hV]; exact heap_new _ _
  have hcV : Cur V g A l c := by rw [← hV]; exact hc2.alloc _
  have gV : w1.grownBy V (some g) := by rw [← hV]; exact grown_step gr2 (World.grownBy_alloc _ _ none) (fun j h => by cases h)
  have oV : V.ownsRow (w1.heap.size + 1) 26 10 (.slice x.p x.pn x.pc) x.pn (pl.flatMap ptC) := by rw [← hV]; exact World.ownsRow.alloc o2 _
  have lt2 := hc2.lt
  have lz : w.heap.size < w1.heap.size := blk_lt hz1.out
  have lg2 := gr2.size
  obtain ⟨gh, hgh⟩ : ∃ gh, w2.heap.size = gh := ⟨_, rfl⟩
  have HV := Lib.hid hV
  have HGH := Lib.hid hgh
  rw [hgh] at T0 lt2 lg2
  have H0 : Hid (_ ∧ _ ∧ _ ∧ _) := ⟨T0, hcV, gV, oV⟩
  clear T0 hcV gV oV hV hgh o2 hc2 gr2 hc1
  unfold hoA
  go_wp2_with fail
  rw [HV.out, HGH.out]
  have hS0 : Hid (V.drew.heap[gh]? = some (.cells #[.slice x.ra x.r.seats.length x.rc, .int .i64 x.r.tiers, .int .i64 x.r.room, .int .i64 x.r.size, .int .i64 x.r.period, .int .i64 x.r.window, .int .i64 x.r.rest, .int .i64 x.r.tries, .int .i64 x.r.crew, .int .i64 x.now, .int .i64 x.turn, .slice x.p x.pn x.pc, .slice x.c x.cn x.cc, .slice x.t x.tn x.tc, .slice x.j x.jn x.jc] 37)) := H0.out.1
  refine wp_region_held_drew (S := fun w' => Hid (w'.heap[gh]? = some (.cells #[.slice x.ra x.r.seats.length x.rc, .int .i64 x.r.tiers, .int .i64 x.r.room, .int .i64 x.r.size, .int .i64 x.r.period, .int .i64 x.r.window, .int .i64 x.r.rest, .int .i64 x.r.tries, .int .i64 x.r.crew, .int .i64 x.now, .int .i64 x.turn, .slice x.p x.pn x.pc, .slice x.c x.cn x.cc, .slice x.t x.tn x.tc, .slice x.j x.jn x.jc] 37))) (by kernel_rfl) hS0.out (fun hHeld => ?_)
  refine held_take 0 10 (.pointer (some ⟨gh, 11, none⟩)) rfl rfl (by kernel_rfl) (by kernel_rfl) (by kernel_rfl) (fun _ _ _ h => h) rfl hHeld (fun w _ => exec_fldHo _ 3 11 w (by simp)) ?_
  simp only [Act.put, List.setIfInBounds_toArray, List.set_cons_zero, List.set_cons_succ]
  refine held_take 1 11 (.slice x.p x.pn x.pc) rfl rfl (by kernel_rfl) (by kernel_rfl) (by kernel_rfl) (fun _ _ _ h => h) rfl hHeld (fun w h => exec_loadPs _ 11 _ _ _ w (by have c11 := cell_of_row _ _ 11 _ _ _ h.out; simp at c11; exact c11)) ?_
  simp only [Act.put, List.setIfInBounds_toArray, List.set_cons_zero, List.set_cons_succ]
  refine held_take 2 12 (.pointer (some ⟨g, 0, none⟩)) rfl rfl (by kernel_rfl) (by kernel_rfl) (by kernel_rfl) (fun _ _ _ h => h) rfl hHeld (fun w _ => rfl) ?_
  simp only [Act.put, List.setIfInBounds_toArray, List.set_cons_zero, List.set_cons_succ]
  refine held_take 3 13 (.pointer (some ⟨g, 0, none⟩)) rfl rfl (by kernel_rfl) (by kernel_rfl) (by kernel_rfl) (fun _ _ _ h => h) rfl hHeld (fun w _ => rfl) ?_
  simp only [Act.put, List.setIfInBounds_toArray, List.set_cons_zero, List.set_cons_succ]
  obtain ⟨T0, hcV, gV, oV⟩ := H0.out
  have bD := below_drawn (Below.refl V.heap.size V) 1
  have hcD : Cur V.drew g A l c := hcV.mem bD
  refine held_call 4 14 13 #[.pointer (some ⟨g, 0, none⟩)] rfl rfl (by kernel_rfl) rfl (exec_call Tryz.func13 (by kernel_rfl) (by kernel_rfl) _) ?_
  refine (l5Right_any A l c g _ hl hb hcD).mono ?_
  rintro e v3 ⟨r, RB, rc, hrok, rfl, _, hc3, gr3⟩
  have gD : V.grownBy V.drew (some g) := grown_of_below bD _
  have g3 := gD.trans gr3
  have T3 := Lib.hid (grown_keep g3 T0 (by omega))
  refine ⟨_, rfl, T3, ?_⟩
  simp only [Act.put, List.setIfInBounds_toArray, List.set_cons_zero, List.set_cons_succ]
  refine held_call 5 15 12 #[.pointer (some ⟨g, 0, none⟩), ruV RB rc r, .int .i64 9] rfl rfl (by kernel_rfl) rfl (exec_call Tryz.func12 (by kernel_rfl) (by kernel_rfl) _) ?_
  refine (l6Right_any A RB l c g rc r 9 _ hl hb hc3 hrok (by omega)).mono ?_
  rintro e v4 ⟨p, rfl, hc4, gr4⟩
  have g4 := g3.trans gr4
  have T4 := Lib.hid (grown_keep g4 T0 (by omega))
  refine ⟨_, rfl, T4, ?_⟩
  simp only [Act.put, List.setIfInBounds_toArray, List.set_cons_zero, List.set_cons_succ]
  have gw := gV.trans g4
  have hz4 := (gw.block _ lz (fun e => by injection e with e; have := HG.out; omega)).trans hz1.out
  have o4 := putPt_own (p := p) (b := w.heap.size) (own_cur oV g4 (by omega)) (by omega)
  have B4 : Below w.heap.size w (putPt v4 w.heap.size p) := putPt_below (HB1.out.trans (below_grown gw (by have := HG.out; omega) (by have := HB1.out.size; omega))) (Nat.le_refl _)
  have Z := putPt_heap (p := p) hz4
  have T5 := Lib.hid ((putPt_other v4 p (show gh ≠ w.heap.size by omega)).trans T4.out)
  refine held_op 6 2 (.slice x.p x.pn x.pc) rfl rfl (by kernel_rfl) rfl rfl T4 ?_
  simp only [Act.put, List.setIfInBounds_toArray, List.set_cons_zero, List.set_cons_succ]
  refine held_store 7 rfl rfl (by kernel_rfl) rfl (exec_store_pt w.heap.size p v4 hz4) T5 ?_
  refine wpAnyH_done (by kernel_rfl) ?_ _
  generalize putPt v4 w.heap.size p = U at *
  have e0 := cell_of_row _ _ 0 _ _ _ Z
  have f0 := frozen_of_row _ _ 0 _ _ Z
  have e1 := cell_of_row _ _ 1 _ _ _ Z
  have f1 := frozen_of_row _ _ 1 _ _ Z
  have e2 := cell_of_row _ _ 2 _ _ _ Z
  have f2 := frozen_of_row _ _ 2 _ _ Z
  have e3 := cell_of_row _ _ 3 _ _ _ Z
  have f3 := frozen_of_row _ _ 3 _ _ Z
  have e4 := cell_of_row _ _ 4 _ _ _ Z
  have f4 := frozen_of_row _ _ 4 _ _ Z
  have e5 := cell_of_row _ _ 5 _ _ _ Z
  have f5 := frozen_of_row _ _ 5 _ _ Z
  have e6 := cell_of_row _ _ 6 _ _ _ Z
  have f6 := frozen_of_row _ _ 6 _ _ Z
  have e7 := cell_of_row _ _ 7 _ _ _ Z
  have f7 := frozen_of_row _ _ 7 _ _ Z
  have e8 := cell_of_row _ _ 8 _ _ _ Z
  have f8 := frozen_of_row _ _ 8 _ _ Z
  have e9 := cell_of_row _ _ 9 _ _ _ Z
  have f9 := frozen_of_row _ _ 9 _ _ Z
  simp at e0 e1 e2 e3 e4 e5 e6 e7 e8 e9
  have R : Hid (GotPP w (.returned (.tuple #[.slice x.p x.pn x.pc, ptA p])) U) := by
    have xp := XP.out
    refine ⟨pl, x.p, x.pc, p, pl9, by rw [xp], ?_, ?_, own_nil o4, B4⟩
    · exact own_rws o4
    · have := own_cap o4; omega
  clear T3 T4 T5 Z o4 B4 gw hz4 g4 g3 gD gr3 gr4 hc3 hc4 hcD bD T0 hcV gV oV hHeld hS0 H0 HV HGH hz1 HB1 XP hrok
  unfold ptA at R
  go_wp2
  simp [bodyPost, results, Tryz.results5, go_sem, e0, e1, e2, e3, e4, e5, e6, e7, e8, e9]
  exact R.out
theorem putPV_len2 (l : List Pt) (p : Pt) : (putPV l p).length ≤ l.length + 1 := by
  unfold putPV
  split
  · unfold ptPut; rw [insP_len]; omega
  · rw [List.length_set]; omega
theorem cutPV_len2 (l : List Pt) (id : Int) : (cutPV l id).length ≤ l.length := by
  unfold cutPV
  split
  · omega
  · rw [List.length_append, List.length_take, List.length_drop]; omega
/-- Who is put is found; cut again, the others are as they were. -/
theorem pt_found (l : List Pt) (p : Pt) : ∃ k : Nat, ptAt (putPV l p) p.id = (k : Int) ∧ k < (putPV l p).length ∧ (putPV l p).getD k pt0 = p ∧ cutPV (putPV l p) p.id = cutPV l p.id := by
  have key : ∀ (m : List Pt) (k : Nat), m.findIdx? (fun x => x.id == p.id) = some k → ptAt m p.id = (k : Int) := fun m k h => by unfold ptAt idxV; rw [h]
  cases hf : l.findIdx? (fun x => x.id == p.id) with
  | none =>
    have h0 : ptAt l p.id = -1 := by unfold ptAt idxV; rw [hf]
    have hn : ∀ x ∈ l, (x.id == p.id) = false := List.findIdx?_eq_none_iff.1 hf
    have e1 : putPV l p = l.takeWhile (fun x => decide (x.id < p.id)) ++ p :: l.dropWhile (fun x => decide (x.id < p.id)) := by
      unfold putPV
      rw [if_pos (by omega)]
      rfl
    have e2 : l.takeWhile (fun x => decide (x.id < p.id)) ++ l.dropWhile (fun x => decide (x.id < p.id)) = l := List.takeWhile_append_dropWhile
    rw [e1]
    generalize l.takeWhile (fun x => decide (x.id < p.id)) = a at *
    generalize l.dropWhile (fun x => decide (x.id < p.id)) = b at *
    have hfi : (a ++ p :: b).findIdx? (fun x => x.id == p.id) = some a.length := by
      rw [List.findIdx?_eq_some_iff_getElem]
      refine ⟨by simp, by simp, fun j hj => ?_⟩
      have hja : (a ++ p :: b)[j]'(by simp; omega) = a[j] := List.getElem_append_left hj
      have := hn a[j] (by rw [← e2]; exact List.mem_append_left _ (List.getElem_mem _))
      rw [hja]; simp [this]
    have hk := key _ _ hfi
    refine ⟨a.length, hk, by simp, by simp [List.getD_eq_getElem?_getD], ?_⟩
    have e3 : cutPV l p.id = l := by unfold cutPV; rw [if_pos (by omega)]
    have e4 : cutPV (a ++ p :: b) p.id = a ++ b := by
      unfold cutPV
      rw [hk, if_neg (by omega)]
      simp
    rw [e3, e4, e2]
  | some i =>
    obtain ⟨hi, hp, hlo⟩ := List.findIdx?_eq_some_iff_getElem.1 hf
    have h0 : ptAt l p.id = (i : Int) := key _ _ hf
    have e1 : putPV l p = l.set i p := by
      unfold putPV
      rw [h0, if_neg (by omega)]
      simp
    rw [e1]
    have hfi : (l.set i p).findIdx? (fun x => x.id == p.id) = some i := by
      rw [List.findIdx?_eq_some_iff_getElem]
      refine ⟨by simpa using hi, by simp, fun j hj => ?_⟩
      rw [List.getElem_set_ne (by omega)]
      exact hlo j hj
    have hk := key _ _ hfi
    refine ⟨i, hk, by simpa using hi, by simp [List.getD_eq_getElem?_getD, hi], ?_⟩
    unfold cutPV
    rw [hk, h0, if_neg (by omega), if_neg (by omega)]
    have t1 : (l.set i p).take i = l.take i := by rw [List.take_set_of_le (Nat.le_refl i)]
    have t2 : (l.set i p).drop (i + 1) = l.drop (i + 1) := by rw [List.drop_set_of_lt (by omega)]
    simp only [Int.toNat_natCast]
    rw [t1, t2]
set_option maxRecDepth 100000 in
theorem exec_neqPt {ρ : Operand → Value} {o : Oper} {x y : Operand} (p : Pt) (w : World) (ho : o.op = .binOp .neq 26 x y 26 := by rfl) (hx : ρ x = ptA p := by rfl) (hy : ρ y = ptA p := by rfl) :
    (execOp ρ o).run Tryz.prog w = .ok (.value (.bool false)) w := by
  unfold execOp
  rw [ho]
  simp [go_sem, hx, hy, ptA]
theorem pt_row {w : World} {b : Nat} {p : Pt} {t : TypeId} {fr : Nat × Nat} (h : w.heap[b]? = some (.cells #[.int .i64 p.id, .int .i64 p.cabin, .int .i64 p.from_, .int .i64 p.size, .int .i64 p.tier, .int .i64 p.since, .int .i64 p.turn, .int .i64 p.state, .int .i64 p.until_, .int .i64 p.asked] t fr)) : Pt.here w b 0 p := by
  have c := fun k => cell_of_row _ _ k _ _ _ h
  exact ⟨(c 0).trans rfl, (c 1).trans rfl, (c 2).trans rfl, (c 3).trans rfl, (c 4).trans rfl, (c 5).trans rfl, (c 6).trans rfl, (c 7).trans rfl, (c 8).trans rfl, (c 9).trans rfl⟩
set_option maxRecDepth 100000 in
set_option maxHeartbeats 1600000 in
theorem partyAt_im (M : Option Addr) (l : List Pt) (c : Nat) (id : Int) (w : World) (hl : l.length ≤ 2097152) (hr : Rws w w.heap.size M (l.flatMap ptC)) :
    Calls Tryz.prog 8 #[.agg #[.slice none 0 0, .int .i64 0, .int .i64 0, .int .i64 0, .int .i64 0, .int .i64 0, .int .i64 0, .int .i64 0, .int .i64 0, .int .i64 0, .int .i64 0, .slice M l.length c, .slice none 0 0, .slice none 0 0, .slice none 0 0], .int .i64 id] w fun e w' => e = .returned (.int .i64 (ptAt l id)) ∧ Below w.heap.size w w' := by
  obtain ⟨W, hW⟩ : ∃ W, w.alloc (.cells #[.slice none 0 0, .int .i64 0, .int .i64 0, .int .i64 0, .int .i64 0, .int .i64 0, .int .i64 0, .int .i64 0, .int .i64 0, .int .i64 0, .int .i64 0, .slice M l.length c, .slice none 0 0, .slice none 0 0, .slice none 0 0] 37) = W := ⟨_, rfl⟩
  have b0 : Below w.heap.size w W := by rw [← hW]; exact (Below.refl _ _).alloc (Nat.le_refl _) _
  have C := Lib.hid (firstWithId_im M l c id W hl (rws_below hr b0))
  have HB := Lib.hid b0
  have HW := Lib.hid hW
  clear b0 hW hr
  generalize ptAt l id = z at *
  go_enter Tryz.func8, Tryz.ntmps8
  go_wp2_with fail
  rw [HW.out]
  refine C.out.mono ?_
  rintro e w1 ⟨rfl, b1⟩
  have B1 := Lib.hid (HB.out.trans (b1.mono HB.out.size))
  clear b1
  clear C HW
  go_wp2
  go_ret
  exact ⟨rfl, B1.out⟩
set_option maxRecDepth 100000 in
set_option maxHeartbeats 12800000 in
theorem FnParties_walk (A : Option Addr) (l : List Nat) (cap : Nat) (w : World) (hA : Bts w w.heap.size A l) (hb : AllB l) (hm : l.length ≤ maxLen) :
    Calls Tryz.prog 3 #[.slice A l.length cap] w fun e w' => e = .returned (.bool true) ∧ Below w.heap.size w w' := by
  by_cases hbig : 1048576 < l.length
  · go_enter Tryz.func3, Tryz.ntmps3
    go_wp2_with fail
    refine (big_yes _ _ _ _ hbig).mono ?_
    rintro e w' ⟨rfl, rfl⟩
    go_wp2
    go_ret
    exact ⟨rfl, Below.refl _ _⟩
  have hl : l.length ≤ 1048576 := by omega
  clear hbig hm
  have CD := Lib.hid (drawPartyPut_any A l cap w (by omega) hA hb)
  go_enter Tryz.func3, Tryz.ntmps3
  go_wp2_with fail
  refine (big_no _ _ _ _ hl).mono ?_
  rintro e w' ⟨rfl, rfl⟩
  go_wp2_with fail
  refine CD.out.mono ?_
  rintro e w2 ⟨el, LA, lc, p, hel, rfl, hL, hlc, hLn, b2⟩
  clear CD
  obtain ⟨k, hk, hkl, hkp, hcut⟩ := pt_found el p
  have hrl := putPV_len2 el p
  have hsl := cutPV_len2 el p.id
  obtain ⟨V, hV⟩ : ∃ V, w2.alloc (.cells #[.int .i64 p.id, .int .i64 p.cabin, .int .i64 p.from_, .int .i64 p.size, .int .i64 p.tier, .int .i64 p.since, .int .i64 p.turn, .int .i64 p.state, .int .i64 p.until_, .int .i64 p.asked] 26) = V := ⟨_, rfl⟩
  have hT : V.heap[w2.heap.size]? = some (.cells #[.int .i64 p.id, .int .i64 p.cabin, .int .i64 p.from_, .int .i64 p.size, .int .i64 p.tier, .int .i64 p.since, .int .i64 p.turn, .int .i64 p.state, .int .i64 p.until_, .int .i64 p.asked] 26) := by rw [← hV]; exact heap_new _ _
  have bV : Below w2.heap.size w2 V := by rw [← hV]; exact (Below.refl _ _).alloc (Nat.le_refl _) _
  have hsV : w2.heap.size < V.heap.size := blk_lt hT
  have hLV : Rws V V.heap.size LA (el.flatMap ptC) := rws_below hL bV
  have HLn := Lib.hid hLn
  have C1 := Lib.hid (partyPut_im LA el lc p V (by omega) hlc HLn.out hLV)
  have C2 := Lib.hid (fun M mc w h => partyCut_im M (putPV el p) mc p.id w (by omega) h)
  have C3 := Lib.hid (fun M mc w h => partyAt_im M (putPV el p) mc p.id w (by omega) h)
  have C4 := Lib.hid (fun w' (h : Below V.heap.size V w') => ptCut_spec LA el lc p.id w' (by omega) hlc HLn.out (rws_below hLV h))
  have HT := Lib.hid (fun w' (h : Below V.heap.size V w') => (h.block _ hsV).trans hT)
  rw [hcut] at C2
  rw [hk] at C3
  generalize putPV el p = r at *
  generalize cutPV el p.id = s at *
  have HV := Lib.hid hV
  have HKP := Lib.hid hkp
  have HB2 : Hid (Below w.heap.size w V) := b2.trans (bV.mono b2.size)
  clear hk hcut hkp hV hT bV hLV hL hlc hLn b2 hA
  have hs20 : s.length ≤ 2097152 := by omega
  unfold ptA at C1 ⊢
  go_wp2_with fail
  rw [HV.out]
  refine C1.out.mono ?_
  rintro e w3 ⟨M, mc, rfl, oM, b3⟩
  have HX3 := Lib.hid (And.intro oM b3)
  have hbx := HT.out w3 b3
  have bx0 := cell_of_row _ _ 0 _ _ _ hbx
  have bx1 := cell_of_row _ _ 1 _ _ _ hbx
  have bx2 := cell_of_row _ _ 2 _ _ _ hbx
  have bx3 := cell_of_row _ _ 3 _ _ _ hbx
  have bx4 := cell_of_row _ _ 4 _ _ _ hbx
  have bx5 := cell_of_row _ _ 5 _ _ _ hbx
  have bx6 := cell_of_row _ _ 6 _ _ _ hbx
  have bx7 := cell_of_row _ _ 7 _ _ _ hbx
  have bx8 := cell_of_row _ _ 8 _ _ _ hbx
  have bx9 := cell_of_row _ _ 9 _ _ _ hbx
  simp at bx0 bx1 bx2 bx3 bx4 bx5 bx6 bx7 bx8 bx9
  clear hbx
  clear oM b3 C1
  go_wp2_with fail
  refine (C2.out M mc w3 (own_rws HX3.out.1)).mono ?_
  rintro e w4 ⟨N, nc, rfl, oN, b4⟩
  clear bx0 bx1 bx2 bx3 bx4 bx5 bx6 bx7 bx8 bx9
  have b34 := HX3.out.2.trans (b4.mono HX3.out.2.size)
  have HX4 := Lib.hid (And.intro (own_below HX3.out.1 b4) (And.intro oN b34))
  have hbx := HT.out w4 b34
  have bx0 := cell_of_row _ _ 0 _ _ _ hbx
  have bx1 := cell_of_row _ _ 1 _ _ _ hbx
  have bx2 := cell_of_row _ _ 2 _ _ _ hbx
  have bx3 := cell_of_row _ _ 3 _ _ _ hbx
  have bx4 := cell_of_row _ _ 4 _ _ _ hbx
  have bx5 := cell_of_row _ _ 5 _ _ _ hbx
  have bx6 := cell_of_row _ _ 6 _ _ _ hbx
  have bx7 := cell_of_row _ _ 7 _ _ _ hbx
  have bx8 := cell_of_row _ _ 8 _ _ _ hbx
  have bx9 := cell_of_row _ _ 9 _ _ _ hbx
  simp at bx0 bx1 bx2 bx3 bx4 bx5 bx6 bx7 bx8 bx9
  clear hbx
  clear oN b4 b34 C2 HX3
  go_wp2_with fail
  refine (C3.out M mc w4 (own_rws HX4.out.1)).mono ?_
  rintro e w5 ⟨rfl, b5⟩
  clear bx0 bx1 bx2 bx3 bx4 bx5 bx6 bx7 bx8 bx9
  have b35 := HX4.out.2.2.trans (b5.mono HX4.out.2.2.size)
  have oM5 := own_below HX4.out.1 b5
  have oN5 := own_below HX4.out.2.1 b5
  obtain ⟨mb, moff, hMe, hmb, c0⟩ := (own_rws oM5).pt hkl
  subst hMe
  rw [HKP.out] at c0
  have K1 := Lib.hid (fun w' (h : Below w5.heap.size w5 w') => Pt.here.below c0 h hmb)
  have KT := Lib.hid (fun w' (h : Below w5.heap.size w5 w') => pt_row (HT.out w' (b35.trans (h.mono b35.size))))
  have HX5 := Lib.hid (And.intro oN5 b35)
  have hk1 : decide ((k : Int) < 0) = false := by simp
  have hk2 : decide ((r.length : Int) ≤ (k : Int)) = false := by simp; omega
  clear oM5 oN5 b35 c0 b5 HX4 C3
  go_wp2_with fail
  refine wp_region_held_drew (S := fun w' => Hid (Below w5.heap.size w5 w')) (by kernel_rfl) (below_drawn (Below.refl _ _) 1) (fun hHeld => ?_)
  refine held_take 0 29 (.int .i64 (k : Int)) rfl rfl (by kernel_rfl) (by kernel_rfl) (by kernel_rfl) (fun _ _ _ h => h) rfl hHeld (fun w _ => rfl) ?_
  simp only [Act.put, List.setIfInBounds_toArray, List.set_cons_zero, List.set_cons_succ]
  refine held_take 1 30 (.bool false) rfl rfl (by kernel_rfl) (by kernel_rfl) (by kernel_rfl) (fun _ _ _ h => h) rfl hHeld (fun w _ => exec_lssI (k : Int) 0 false w hk1) ?_
  simp only [Act.put, List.setIfInBounds_toArray, List.set_cons_zero, List.set_cons_succ]
  refine held_take 2 31 (.bool false) rfl rfl (by kernel_rfl) (by kernel_rfl) (by kernel_rfl) (fun _ _ _ h => h) rfl hHeld (fun w _ => rfl) ?_
  simp only [Act.put, List.setIfInBounds_toArray, List.set_cons_zero, List.set_cons_succ]
  refine held_take 3 32 (.int .i64 (k : Int)) rfl rfl (by kernel_rfl) (by kernel_rfl) (by kernel_rfl) (fun _ _ _ h => h) rfl hHeld (fun w _ => rfl) ?_
  simp only [Act.put, List.setIfInBounds_toArray, List.set_cons_zero, List.set_cons_succ]
  refine held_take 4 33 (.slice (some ⟨mb, moff, none⟩) r.length mc) rfl rfl (by kernel_rfl) (by kernel_rfl) (by kernel_rfl) (fun _ _ _ h => h) rfl hHeld (fun w _ => rfl) ?_
  simp only [Act.put, List.setIfInBounds_toArray, List.set_cons_zero, List.set_cons_succ]
  refine held_take 5 34 (.int .i64 (r.length : Int)) rfl rfl (by kernel_rfl) (by kernel_rfl) (by kernel_rfl) (fun _ _ _ h => h) rfl hHeld (fun w _ => exec_lenT rowPty (some ⟨mb, moff, none⟩) r.length mc w) ?_
  simp only [Act.put, List.setIfInBounds_toArray, List.set_cons_zero, List.set_cons_succ]
  refine held_take 6 35 (.bool false) rfl rfl (by kernel_rfl) (by kernel_rfl) (by kernel_rfl) (fun _ _ _ h => h) rfl hHeld (fun w _ => exec_geqI (k : Int) (r.length : Int) false w hk2) ?_
  simp only [Act.put, List.setIfInBounds_toArray, List.set_cons_zero, List.set_cons_succ]
  refine held_take 7 36 (.bool false) rfl rfl (by kernel_rfl) (by kernel_rfl) (by kernel_rfl) (fun _ _ _ h => h) rfl hHeld (fun w _ => exec_pickF (.bool false) w) ?_
  simp only [Act.put, List.setIfInBounds_toArray, List.set_cons_zero, List.set_cons_succ]
  refine held_take 8 37 (.bool false) rfl rfl (by kernel_rfl) (by kernel_rfl) (by kernel_rfl) (fun _ _ _ h => h) rfl hHeld (fun w _ => rfl) ?_
  simp only [Act.put, List.setIfInBounds_toArray, List.set_cons_zero, List.set_cons_succ]
  refine held_take 9 38 (.slice (some ⟨mb, moff, none⟩) r.length mc) rfl rfl (by kernel_rfl) (by kernel_rfl) (by kernel_rfl) (fun _ _ _ h => h) rfl hHeld (fun w _ => rfl) ?_
  simp only [Act.put, List.setIfInBounds_toArray, List.set_cons_zero, List.set_cons_succ]
  refine held_take 10 39 (.int .i64 (k : Int)) rfl rfl (by kernel_rfl) (by kernel_rfl) (by kernel_rfl) (fun _ _ _ h => h) rfl hHeld (fun w _ => rfl) ?_
  simp only [Act.put, List.setIfInBounds_toArray, List.set_cons_zero, List.set_cons_succ]
  refine held_take 11 40 (.pointer (some ⟨mb, moff + k * 10, none⟩)) rfl rfl (by kernel_rfl) (by kernel_rfl) (by kernel_rfl) (fun _ _ _ h => h) rfl hHeld (fun w _ => exec_idx_pt mb moff r.length mc k w hkl) ?_
  simp only [Act.put, List.setIfInBounds_toArray, List.set_cons_zero, List.set_cons_succ]
  refine held_take 12 41 (ptA p) rfl rfl (by kernel_rfl) (by kernel_rfl) (by kernel_rfl) (fun _ _ _ h => h) rfl hHeld (fun w h => exec_load_pt mb (moff + k * 10) p w (K1.out w h.out)) ?_
  simp only [Act.put, List.setIfInBounds_toArray, List.set_cons_zero, List.set_cons_succ]
  refine held_take 13 42 (ptA p) rfl rfl (by kernel_rfl) (by kernel_rfl) (by kernel_rfl) (fun _ _ _ h => h) rfl hHeld (fun w h => exec_load_pt w2.heap.size 0 p w (KT.out w h.out)) ?_
  simp only [Act.put, List.setIfInBounds_toArray, List.set_cons_zero, List.set_cons_succ]
  refine held_take 14 43 (.bool false) rfl rfl (by kernel_rfl) (by kernel_rfl) (by kernel_rfl) (fun _ _ _ h => h) rfl hHeld (fun w _ => exec_neqPt p w) ?_
  simp only [Act.put, List.setIfInBounds_toArray, List.set_cons_zero, List.set_cons_succ]
  refine held_take 15 44 (.bool false) rfl rfl (by kernel_rfl) (by kernel_rfl) (by kernel_rfl) (fun _ _ _ h => h) rfl hHeld (fun w _ => exec_pickF (.bool false) w) ?_
  simp only [Act.put, List.setIfInBounds_toArray, List.set_cons_zero, List.set_cons_succ]
  refine wpAnyH_done (by kernel_rfl) ?_ _
  have b6 := hHeld.out
  have b36 := HX5.out.2.trans (b6.mono HX5.out.2.size)
  have C7 := Lib.hid (C4.out _ b36)
  have HX6 := Lib.hid (And.intro (own_below HX5.out.1 b6) b36)
  have hbx := HT.out w5.drew b36
  have bx0 := cell_of_row _ _ 0 _ _ _ hbx
  have bx1 := cell_of_row _ _ 1 _ _ _ hbx
  have bx2 := cell_of_row _ _ 2 _ _ _ hbx
  have bx3 := cell_of_row _ _ 3 _ _ _ hbx
  have bx4 := cell_of_row _ _ 4 _ _ _ hbx
  have bx5 := cell_of_row _ _ 5 _ _ _ hbx
  have bx6 := cell_of_row _ _ 6 _ _ _ hbx
  have bx7 := cell_of_row _ _ 7 _ _ _ hbx
  have bx8 := cell_of_row _ _ 8 _ _ _ hbx
  have bx9 := cell_of_row _ _ 9 _ _ _ hbx
  simp at bx0 bx1 bx2 bx3 bx4 bx5 bx6 bx7 bx8 bx9
  clear hbx
  clear b6 b36 HX5 K1 KT hHeld C4
  unfold ptA
  go_wp2_with fail
  refine C7.out.mono ?_
  rintro e w7 ⟨X, xc, rfl, oX, b7⟩
  clear bx0 bx1 bx2 bx3 bx4 bx5 bx6 bx7 bx8 bx9
  have HW := Lib.hid (HB2.out.trans ((HX6.out.2.trans (b7.mono HX6.out.2.size)).mono HB2.out.size))
  have hN : Rws w7 w7.heap.size N (s.flatMap ptC) := own_rws (own_below HX6.out.1 b7)
  have hX : Rws w7 w7.heap.size X (s.flatMap ptC) := own_rws oX
  have hne : ((s.length : Int) != (s.length : Int)) = false := by simp
  clear oX b7 HX6 C7 HT HB2 HV
  go_wp2
  go_loopw [9] (fun i wr => ∃ k : Nat, k ≤ s.length ∧ i = .int .i64 k ∧ Below w7.heap.size w7 wr) (fun i _ => s.length - (intOf i).toNat)
  case atStart => exact ⟨0, by omega, rfl, Below.refl _ _⟩
  case round =>
    obtain ⟨k, hk, rfl, hb⟩ := hrel
    by_cases hlt : k < s.length
    · obtain ⟨b, off, rfl, hbB, c0⟩ := (hN.below hb).pt hlt
      obtain ⟨b', off', rfl, hbB', d0⟩ := (hX.below hb).pt hlt
      generalize s.getD k pt0 = x at *
      have hbs := hb.size
      have K1 := Lib.hid (fun w' (h : Below wr.heap.size wr w') => Pt.here.below c0 h (by omega))
      have K2 := Lib.hid (fun w' (h : Below wr.heap.size wr w') => Pt.here.below d0 h (by omega))
      clear c0 d0
      go_wp2
      refine wp_region_held_drew (S := fun w' => Hid (Below wr.heap.size wr w')) (by kernel_rfl) (below_drawn (Below.refl _ _) 1) (fun hHeld => ?_)
      refine held_take 0 60 (.slice (some ⟨b, off, none⟩) s.length nc) rfl rfl (by kernel_rfl) (by kernel_rfl) (by kernel_rfl) (fun _ _ _ h => h) rfl hHeld (fun w _ => rfl) ?_
      simp only [Act.put, List.setIfInBounds_toArray, List.set_cons_zero, List.set_cons_succ]
      refine held_take 1 61 (.int .i64 (k : Int)) rfl rfl (by kernel_rfl) (by kernel_rfl) (by kernel_rfl) (fun _ _ _ h => h) rfl hHeld (fun w _ => rfl) ?_
      simp only [Act.put, List.setIfInBounds_toArray, List.set_cons_zero, List.set_cons_succ]
      refine held_take 2 62 (.pointer (some ⟨b, off + k * 10, none⟩)) rfl rfl (by kernel_rfl) (by kernel_rfl) (by kernel_rfl) (fun _ _ _ h => h) rfl hHeld (fun w _ => exec_idx_pt b off s.length nc k w hlt) ?_
      simp only [Act.put, List.setIfInBounds_toArray, List.set_cons_zero, List.set_cons_succ]
      refine held_take 3 63 (ptA x) rfl rfl (by kernel_rfl) (by kernel_rfl) (by kernel_rfl) (fun _ _ _ h => h) rfl hHeld (fun w h => exec_load_pt b (off + k * 10) x w (K1.out w h.out)) ?_
      simp only [Act.put, List.setIfInBounds_toArray, List.set_cons_zero, List.set_cons_succ]
      refine held_take 4 64 (.slice (some ⟨b', off', none⟩) s.length xc) rfl rfl (by kernel_rfl) (by kernel_rfl) (by kernel_rfl) (fun _ _ _ h => h) rfl hHeld (fun w _ => rfl) ?_
      simp only [Act.put, List.setIfInBounds_toArray, List.set_cons_zero, List.set_cons_succ]
      refine held_take 5 65 (.int .i64 (k : Int)) rfl rfl (by kernel_rfl) (by kernel_rfl) (by kernel_rfl) (fun _ _ _ h => h) rfl hHeld (fun w _ => rfl) ?_
      simp only [Act.put, List.setIfInBounds_toArray, List.set_cons_zero, List.set_cons_succ]
      refine held_take 6 66 (.pointer (some ⟨b', off' + k * 10, none⟩)) rfl rfl (by kernel_rfl) (by kernel_rfl) (by kernel_rfl) (fun _ _ _ h => h) rfl hHeld (fun w _ => exec_idx_pt b' off' s.length xc k w hlt) ?_
      simp only [Act.put, List.setIfInBounds_toArray, List.set_cons_zero, List.set_cons_succ]
      refine held_take 7 67 (ptA x) rfl rfl (by kernel_rfl) (by kernel_rfl) (by kernel_rfl) (fun _ _ _ h => h) rfl hHeld (fun w h => exec_load_pt b' (off' + k * 10) x w (K2.out w h.out)) ?_
      simp only [Act.put, List.setIfInBounds_toArray, List.set_cons_zero, List.set_cons_succ]
      refine held_take 8 68 (.bool false) rfl rfl (by kernel_rfl) (by kernel_rfl) (by kernel_rfl) (fun _ _ _ h => h) rfl hHeld (fun w _ => exec_neqPt x w) ?_
      simp only [Act.put, List.setIfInBounds_toArray, List.set_cons_zero, List.set_cons_succ]
      refine wpAnyH_done (by kernel_rfl) ?_ _
      have b2 : Hid (Below w7.heap.size w7 wr.drew) := hb.trans (hHeld.out.mono hbs)
      clear hb K1 K2 hHeld
      go_wp2
      go_roundw
      case rel => exact ⟨k + 1, by omega, by go_num, b2.out⟩
      case measure => simp [intOf]; omega
    · go_wp2
      go_ret
      exact ⟨rfl, HW.out.trans (hb.mono HW.out.size)⟩
end Go.Proofs.YtlflgflmlfileaaGreat
