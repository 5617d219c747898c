/- WheelOk, PinsOf, PinsDue of the program. -/
import Derived.Test.YtflomkebgiemaaaRows
import Derived.Test.YtflomkebgiemaaaWiM
import Derived.RangeFuncNested
import Derived.RangeFuncBox
import Derived.RangeFuncBound
import Derived.RangeFuncCalls
import Derived.RangeFuncLeaves
import Derived.Shelf.Abstract
import Derived.Shelf.RegionOpen
import Derived.OwnWalkIn
import Derived.TacticsInMore
import Derived.LoopNIn
import Derived.LoopIn
import Derived.Maps.AppendAt
namespace Go.Proofs.Ytflomkebgiemaaa
open Go.RowKit Go.Shelf
set_option linter.unusedSimpArgs false
set_option linter.unusedVariables false
attribute [local go_sem] Oper.semAt_some
set_option maxRecDepth 100000 in
theorem wheelOk_impl (A : Option Addr) (sp : List Sp) (c : Nat) (w : World) (ls : List (List Pn)) (hm : sp.map (fun s => s.l) = ls) (hs : SzW ls) (hf : FitL ls) (hA : Whl w A sp) :
    Calls Try.prog 37 #[.agg #[.slice A sp.length c]] w fun e w' => e = .returned (.bool (wheelB ls)) ∧ Below w.heap.size w w' := by
  obtain ⟨h1, h2⟩ := hs.of hm
  refine (callsIn_wide.1 (wheelOk_in A sp c w h1 (by omega) hA)).mono ?_
  rintro e w' ⟨⟨q, rfl, hq⟩, b⟩
  rw [hm] at hq
  refine ⟨?_, b⟩
  by_cases h : wheelFine ls
  · rw [wheelB_yes h, hq.2 h]
  · rw [wheelB_no h]
    cases q with
    | false => rfl
    | true => exact absurd (hq.1 rfl) h
theorem Mrg.of {w : World} {A : Option Addr} {sp : List Sp} {ls : List (List Pn)} (hm : sp.map (fun s => s.l) = ls) (hb : wheelB ls = true) (hA : Whl w A sp) : Mrg w.heap.size w A sp := by
  have hf := wheelB_iff hb
  rw [← hm] at hf
  have hg := (wheelFine_iff sp).1 hf
  obtain ⟨h9, h10, h11, h12⟩ := hf
  rw [ls_flat] at h10 h11
  have hd := ((pnsOk_iff _).1 h11).2
  refine ⟨by omega, by omega, h10, hd, fun s hs => ?_, hA.row, fun s hs => ⟨(hA.ok s hs).row, (hA.ok s hs).cap, (hA.ok s hs).nil⟩⟩
  obtain ⟨i, hi, rfl⟩ := List.getElem_of_mem hs
  have hge : sp.getD i sp0 = sp[i] := by rw [List.getD_eq_getElem?_getD, List.getElem?_eq_getElem hi, Option.getD_some]
  have h3 := h12 i (by simpa using hi)
  rw [ls_at, spokeOk_iff, hge] at h3
  exact h3.2
theorem pinsW_all {sp : List Sp} {ls : List (List Pn)} (hm : sp.map (fun s => s.l) = ls) (hb : wheelB ls = true) : pinsW ls = sortPn (allPn sp) := by
  unfold pinsW; rw [if_pos hb, ← hm, ls_flat]
set_option maxRecDepth 100000 in
set_option maxHeartbeats 1600000 in
theorem pinsOf_impl (A : Option Addr) (sp : List Sp) (c : Nat) (w : World) (ls : List (List Pn)) (hm : sp.map (fun s => s.l) = ls) (hs : SzW ls) (hf : FitL ls) (hA : Whl w A sp) :
    Calls Try.prog 25 #[.agg #[.slice A sp.length c]] w (NewR 33 2 w (pinsW ls).length ((pinsW ls).flatMap pnC)) := by
  have b0 : Below w.heap.size w (w.alloc (.cells #[.slice A sp.length c] 26)) := (Below.refl _ _).alloc (Nat.le_refl _) _
  obtain ⟨X, hX⟩ : ∃ X, w.alloc (.cells #[.slice A sp.length c] 26) = X := ⟨_, rfl⟩
  have hXs : X.heap.size = w.heap.size + 1 := by rw [← hX]; simp
  have g0 : X.heap[w.heap.size]? = some (.cells #[.slice A sp.length c] 26) := by rw [← hX]; exact heap_new _ _
  rw [hX] at b0
  have CO := Lib.hid (wheelOk_impl A sp c X ls hm hs hf (hA.below b0))
  have HA := Lib.hid (fun u (h : Below w.heap.size w u) => hA.below h)
  obtain ⟨q, eq⟩ : ∃ q, wheelB ls = q := ⟨_, rfl⟩
  rw [eq] at CO
  have HX := Lib.hid hX
  have HXs := Lib.hid hXs
  clear hX hXs hA
  go_enter Try.func25, Try.ntmps25
  go_wp2_with fail
  rw [HX.out]
  refine CO.out.mono ?_
  rintro e u ⟨rfl, b1⟩
  have B1 : Hid (Below w.heap.size w u) := b0.trans (b1.mono b0.size)
  have g1 := blk_call g0 b1
  have c1 := cell_of_one g1
  clear g0 b0 b1 CO
  cases q with
  | false =>
    have e0 : pinsW ls = [] := by unfold pinsW; rw [if_neg (by rw [eq]; simp)]
    have R : Hid (NewR 33 2 w (pinsW ls).length ((pinsW ls).flatMap pnC) (.returned (.slice none 0 0)) u) := by rw [e0]; exact ⟨none, 0, rfl, World.ownsRow_nil _ _ _ _, B1.out⟩
    clear eq e0
    go_wp2
    go_ret
    exact R.out
  | true =>
    have e0 := pinsW_all hm eq
    have HE := Lib.hid e0
    have HM := Mrg.of hm eq (HA.out u B1.out)
    obtain ⟨Y, hY⟩ : ∃ Y, u.alloc (.cells #[.slice A sp.length c] 26) = Y := ⟨_, rfl⟩
    have bY : Below u.heap.size u Y := by rw [← hY]; exact (Below.refl _ _).alloc (Nat.le_refl _) _
    have hYs : Y.heap.size = u.heap.size + 1 := by rw [← hY]; simp
    have cY : Y.cell? ⟨u.heap.size, 0, none⟩ = some (.slice A sp.length c) := by rw [← hY]; simp
    have C := Lib.hid (collect_in 4 (Nat.le_refl _) u.heap.size c A sp Y ⟨HM.pos, HM.len, HM.ten, HM.dis, HM.srt, (HM.row.below bY).more (by omega), fun s hs => ⟨((HM.sps s hs).below bY).row.more (by omega), (HM.sps s hs).cap, (HM.sps s hs).nil⟩⟩ (by omega) cY)
    have BY := Lib.hid (B1.out.trans (bY.mono B1.out.size))
    have HY := Lib.hid hY
    clear e0 eq HM bY cY hY hYs
    go_wp2_with fail
    refine (callsIn_wide.1 (pinsIn_in 3 A sp.length c u)).mono ?_
    rintro e w' ⟨rfl, rfl⟩
    go_wp2_with fail
    rw [HY.out]
    refine C.out.mono ?_
    rintro e w3 ⟨PA, pc, rfl, o3, b3⟩
    have R : Hid (NewR 33 2 w (pinsW ls).length ((pinsW ls).flatMap pnC) (.returned (.slice PA (sortPn (allPn sp)).length pc)) w3) := by rw [HE.out]; exact ⟨PA, pc, rfl, own_weak o3 BY.out.size, BY.out.trans (b3.mono BY.out.size)⟩
    clear o3 b3 C
    go_wp2
    go_ret
    exact R.out
theorem due_all {T : List Pn} {now : Int} (h : ∀ y ∈ T, y.at_ ≤ now) : T.filter (fun x => decide (x.at_ ≤ now)) = T := List.filter_eq_self.2 (fun y hy => decide_eq_true (h y hy))
theorem due_part {T q r : List Pn} {x : Pn} {now : Int} (hT : T = q ++ x :: r) (hs : T.Pairwise Pn.less) (hq : ∀ y ∈ q, y.at_ ≤ now) (hx : now < x.at_) : T.filter (fun x => decide (x.at_ ≤ now)) = q := by
  subst hT
  rw [List.filter_append, due_all hq]
  have : (x :: r).filter (fun x => decide (x.at_ ≤ now)) = [] := by
    refine List.filter_eq_nil_iff.2 fun y hy => ?_
    rcases List.mem_cons.1 hy with rfl | hy
    · simp; omega
    · have h1 := (List.pairwise_cons.1 (List.pairwise_append.1 hs).2.1).1 y hy
      have : x.at_ ≤ y.at_ := by unfold Pn.less at h1; omega
      simp; omega
  rw [this, List.append_nil]
set_option maxRecDepth 100000 in
set_option maxHeartbeats 8000000 in
theorem pinsDue_in (A : Option Addr) (sp : List Sp) (c : Nat) (now : Int) (w : World) (ls : List (List Pn)) (hm : sp.map (fun s => s.l) = ls) (hs : SzW ls) (hf : FitL ls) (hA : Whl w A sp) :
    CallsIn Fence.wide 3 Try.prog 16 #[.agg #[.slice A sp.length c], .int .i64 now] w (NewR 33 2 w (dueV ls now).length ((dueV ls now).flatMap pnC)) := by
  have hro : Fence.wide.round = none := rfl
  have h0f : Fence.wide.fn 16 := trivial
  have h1f : Fence.wide.fn 79 := trivial
  have h2f : Fence.wide.fn 48 := trivial
  have h3f : Fence.wide.fn 37 := trivial
  have h1 : 1 ≤ 3 := by omega
  obtain ⟨i0, hi, hz0, hz1, hz2⟩ := info_parts rowPin.inf
  obtain ⟨X, hX⟩ : ∃ X, (w.alloc (.cells #[.slice A sp.length c] 26)).alloc (.cells #[.int .i64 now] 3) = X := ⟨_, rfl⟩
  have hXs : X.heap.size = w.heap.size + 2 := by rw [← hX]; simp
  have bN : Boxed X (w.heap.size + 1) 3 (.int .i64 now) := by
    have := Boxed.new (w.alloc (.cells #[.slice A sp.length c] 26)) 3 (.int .i64 now)
    rw [hX] at this; simpa using this
  have bW : Boxed X w.heap.size 26 (.slice A sp.length c) := by rw [← hX]; exact (Boxed.new w 26 (.slice A sp.length c)).alloc _
  have b0 : Below w.heap.size w X := by rw [← hX]; exact ((Below.refl _ w).alloc (Nat.le_refl _) _).alloc (by simp) _
  have CO := Lib.hid (wheelOk_impl A sp c X ls hm hs hf (hA.below b0))
  have HA := Lib.hid (fun u (h : Below w.heap.size w u) => hA.below h)
  obtain ⟨q, eq⟩ : ∃ q, wheelB ls = q := ⟨_, rfl⟩
  rw [eq] at CO
  have HXs := Lib.hid hXs
  have cW := bW.cell
  have HBN := Lib.hid bN
  have HBW := Lib.hid bW
  have HB0 := Lib.hid b0
  clear hXs hA bN bW b0
  refine callsIn_of_wp_marks Try.func16 rfl h0f ?_ hro
  simp only [Try.ntmps16, List.size_toArray, List.length_cons, List.length_nil, Nat.reduceAdd, Nat.reduceSub, Array.replicate_succ, Array.replicate_zero, List.push_toArray, List.append_toArray, List.nil_append, List.cons_append]
  gi_wp2_with fail
  gi_at_call 37
  refine (callsIn_wide.2 CO.out).mono ?_
  rintro e u ⟨rfl, b1⟩
  have B1 : Hid (Below w.heap.size w u) := HB0.out.trans (b1.mono HB0.out.size)
  have bN := boxed_below HBN.out b1
  have bW := boxed_below HBW.out b1
  have cW1 := bW.cell
  have hus := b1.size
  have HUX := Lib.hid hus
  have hus2 := HXs.out
  clear b1 CO cW hX HBN HBW HB0
  cases q with
  | false =>
    have e0 : pinsW ls = [] := by unfold pinsW; rw [if_neg (by rw [eq]; simp)]
    have e1 : dueV ls now = [] := by unfold dueV; rw [e0]; rfl
    have R : Hid (NewR 33 2 w (dueV ls now).length ((dueV ls now).flatMap pnC) (.returned (.slice none 0 0)) u) := by rw [e1]; exact ⟨none, 0, rfl, World.ownsRow_nil _ _ _ _, B1.out⟩
    clear eq e0 e1 hus hus2
    gi_wp2
    refine ⟨.slice none 0 0, ?_, R.out⟩
    simp [results, Try.f16, go_sem]
  | true =>
    have e0 := pinsW_all hm eq
    have HM := Mrg.of hm eq (HA.out u B1.out)
    obtain ⟨hsrt, _⟩ := sort_ok HM.dis
    have HV : Hid (dueV ls now = (sortPn (allPn sp)).filter (fun x => decide (x.at_ ≤ now))) := by show _ = _; unfold dueV; rw [e0]
    obtain ⟨U, hU⟩ : ∃ U, u.alloc (.cells #[.slice none 0 0] 29) = U := ⟨_, rfl⟩
    have bU : Below u.heap.size u U := by rw [← hU]; exact (Below.refl _ _).alloc (Nat.le_refl _) _
    have hUs : U.heap.size = u.heap.size + 1 := by rw [← hU]; simp
    have bD : Boxed U u.heap.size 29 (.slice none 0 0) := by rw [← hU]; exact Boxed.new _ _ _
    have cW2 := (boxed_below bW bU).cell
    obtain ⟨Y, hY⟩ : ∃ Y, U.alloc (.cells #[.slice A sp.length c] 26) = Y := ⟨_, rfl⟩
    have bY : Below U.heap.size U Y := by rw [← hY]; exact (Below.refl _ _).alloc (Nat.le_refl _) _
    have hYs : Y.heap.size = u.heap.size + 2 := by rw [← hY]; simp; omega
    have cY : Y.cell? ⟨u.heap.size + 1, 0, none⟩ = some (.slice A sp.length c) := by rw [← hY, ← hUs]; simp
    have bUY : Below u.heap.size u Y := bU.trans (bY.mono bU.size)
    have HMY : Hid (Mrg w.heap.size Y A sp) := (Mrg.of hm eq (HA.out w (Below.refl _ _))).below (B1.out.trans (bUY.mono B1.out.size))
    have HI : Hid (Boxed Y (w.heap.size + 1) 3 (.int .i64 now) ∧ Coll w Y u.heap.size (u.heap.size + 6) [] ∧ Below w.heap.size w Y) := ⟨boxed_below bN bUY, ⟨_, boxed_below bD bY, World.ownsRow_nil _ _ _ _⟩, B1.out.trans (bUY.mono B1.out.size)⟩
    have hten := HM.ten
    have HUs := Lib.hid hUs
    have HYs := Lib.hid hYs
    have HSR := Lib.hid hsrt
    have hbu := B1.out.size
    clear e0 eq HM bU bY bUY hUs hYs bN bW bD hsrt hus hus2
    gi_wp2_with (gi_at_call 48; refine (pinsIn_in _ _ _ _ _).mono ?_; rintro e w' ⟨rfl, rfl⟩)
    rw [HUs.out]
    have hYs := HYs.out
    have hus2 := HXs.out
    clear hU hY cW1 cW2
    refine wpIn_rangeFunc_row hro h1 (gf := 79) (lb := #[.pointer (some ⟨u.heap.size + 1, 0, none⟩)]) rfl h1f (enters_of Try.func79 (by kernel_rfl) rfl) (inOrder_row 2 (by omega) (u.heap.size + 1) w.heap.size c A sp Y HMY.out (by omega) (by omega) cY) (by omega) (fun _ => rfl)
      (fun pre W => (∀ y ∈ pre, y.at_ ≤ now) ∧ Boxed W (w.heap.size + 1) 3 (.int .i64 now) ∧ Coll w W u.heap.size (u.heap.size + 6) pre ∧ Below w.heap.size w W)
      (fun cd pre W => cd = .exit 0 ∧ (∃ q x, pre = q ++ [x] ∧ now < x.at_ ∧ (∀ y ∈ q, y.at_ ≤ now) ∧ Coll w W u.heap.size (u.heap.size + 6) q) ∧ Below w.heap.size w W)
      ?hI ?hIx ⟨(fun _ h => by cases h), HI.out⟩
      (fun x a' W => ∃ Bx, u.heap.size + 5 < Bx ∧ Bx < W.heap.size ∧ PnAt W Bx x ∧ a' = { tmps := #[.agg #[.slice A sp.length c], .int .i64 now, .pointer (some ⟨w.heap.size, 0, none⟩), .pointer (some ⟨w.heap.size + 1, 0, none⟩), .slice none 0 0, .pointer (some ⟨u.heap.size, 0, none⟩), .pointer (some ⟨Bx, 0, none⟩), .agg #[.slice A sp.length c], .bool true, .bool false, .agg #[.slice A sp.length c], .func (.func 79) #[] #[.pointer (some ⟨u.heap.size + 1, 0, none⟩)], pnA x, undef, undef, undef, undef, undef, undef, undef, undef, undef], defers := [] })
      ?hAx ?assign ?body ?done ?stop
    case hI =>
      rintro s P Q ⟨g1, g2, g3, g4⟩ t
      exact ⟨g1, t.boxed g2 (fun h => by have := h.1; omega), g3.tch t (fun h => by have := h.1; omega) (fun g hg h => by have := h.2; omega), g4.trans (t.below g4.size (fun i hi => by have := hi.1; omega))⟩
    case hIx =>
      rintro cd s P Q ⟨g1, ⟨q, x, k1, k2, k3, k4⟩, g4⟩ t
      exact ⟨g1, ⟨q, x, k1, k2, k3, k4.tch t (fun h => by have := h.1; omega) (fun g hg h => by have := h.2; omega)⟩, g4.trans (t.below g4.size (fun i hi => by have := hi.1; omega))⟩
    case hAx =>
      rintro x a' P Q ⟨Bx, q1, q2, q3, q4⟩ t
      exact ⟨Bx, q1, Nat.lt_of_lt_of_le q2 t.size, q3.tch t (fun h => by have := h.2; omega) q2, q4⟩
    case assign =>
      rintro l pre x W K ⟨g1, g2, g3, g4⟩ hbig hK
      have hz : (Array.zip (α := Tmp) (β := Value) #[12] #[pnA x]) = #[(12, pnA x)] := by simp
      rw [hz]
      simp only [List.foldl_toArray, List.foldl_cons, List.foldl_nil, List.setIfInBounds_toArray, List.set_cons_succ, List.set_cons_zero]
      unfold pnA at hK ⊢
      have ba : Below W.heap.size W (W.alloc (.cells #[.int .i64 x.at_, .int .i64 x.id] 33)) := (Below.refl _ _).alloc (Nat.le_refl _) _
      have HK := Lib.hid (hK _ _ (Tch.of_below ba) ⟨g1, boxed_below g2 ba, g3.tch (P := fun _ => False) (Tch.of_below ba) (fun h => h) (fun _ _ h => h), g4.alloc g4.size _⟩ ⟨W.heap.size, by omega, by simp, PnAt.new W x _, rfl⟩)
      clear hK
      gi_wp2
      exact HK.out
    case body =>
      rintro l pre x a' W ⟨g1, g2, ⟨v, hv, hrw⟩, hB1⟩ ⟨Bx, q1, q2, q3, rfl⟩ hlt hbig
      clear hYs
      have hYs2 := HYs.out
      obtain ⟨x0, x1⟩ := id q3
      have hc := hv.cell
      have hcn := g2.cell
      unfold pnA
      clear q3
      by_cases hnow : now < x.at_
      · have hd : decide (now < x.at_) = true := decide_eq_true hnow
        have HR : Hid (RdT w.heap.size Y.heap.size 1 W W ∧ (∃ q x', pre ++ [x] = q ++ [x'] ∧ now < x'.at_ ∧ (∀ y ∈ q, y.at_ ≤ now) ∧ Coll w W u.heap.size (u.heap.size + 6) q) ∧ Below w.heap.size w W) := ⟨RdT.refl _, ⟨pre, x, rfl, hnow, g1, v, hv, hrw⟩, hB1⟩
        clear hYs2 hrw hv g2
        gi_wp2
        obtain ⟨r1, r2, r3⟩ := HR.out
        exact ⟨r1, rfl, r2, r3⟩
      · have hd : decide (now < x.at_) = false := decide_eq_false hnow
        have HG : Hid (∀ y ∈ pre ++ [x], y.at_ ≤ now) := fun y hy => by
          rcases List.mem_append.1 hy with h | h
          · exact g1 y h
          · have : y = x := by simpa using h
            subst this; omega
        have HYs2 := Lib.hid hYs2
        clear hYs2
        gi_wp2_with (gi_at_builtin; refine wpListIn_append_own _ rfl _ _ 29 rfl (u.heap.size + 6) 33 i0 (.agg #[.int .i64 0, .int .i64 0]) 2 16 rowPin.ut hi hz0 hz1 hz2 rowPin.zc rowPin.pos _ _ _ rfl (hrw.alloc _) ⟨W.heap.size, 0, none⟩ 1 1 [.int .i64 x.at_, .int .i64 x.id] rfl rfl (pn_one_new _ _ _) (by simp [Value.oneCell']) (by unfold maxLen; omega) (by omega) (by have := HYs2.out; simp; omega) ?_; intro v' w1 hown' hgrow _; obtain ⟨g', cap', rfl⟩ := ownsRow_succ hown'; obtain ⟨hv1, hT, hC, hB2⟩ := Coll.app (w := w) (n₀ := w.heap.size) (B := Y.heap.size) hv hrw hB1.size hbu (by have := HYs2.out; omega) (by have := HYs2.out; omega) (by have := HYs2.out; omega) hown' hgrow; have hc1 := hv1.cell; have hf1 := hv1.frozen)
        have gN := ((g2.alloc _).kept hgrow (g2.not_row (by decide) hrw)).other (show w.heap.size + 1 ≠ u.heap.size by have h1 := HUX.out; have h2 := HXs.out; omega) (.slice (some ⟨g', 0, none⟩) (pre.length + 1) cap')
        exact ⟨hT, HG.out, gN, hC, hB1.trans hB2⟩
    case done =>
      rintro D ys W hD rfl ⟨g1, g2, ⟨v, hv, hrw⟩, hB1⟩ hK
      have hc := hv.cell
      have HR : Hid (NewR 33 2 w (dueV ls now).length ((dueV ls now).flatMap pnC) (.returned v) (W.putObj D (.deferred none))) := by
        rw [HV.out, due_all g1]
        exact NewR.of_own (ownsRow_putObj (own_weak hrw (by omega)) _ hK rfl) (hB1.trans (belowK_b (w := w) (Nat.le_refl _) W D _ (.deferred none) (by omega) hK rfl rfl))
      clear hrw
      gi_wp2
      refine ⟨by simp, .inl ⟨_, _, rfl, run_takeDeferred hK, ?_⟩⟩
      refine ⟨v, ?_, HR.out⟩
      simp [results, Try.f16, go_sem]
    case stop =>
      rintro D cd pre W hD ⟨r, hr⟩ ⟨rfl, ⟨q, x, rfl, k2, k3, ⟨v, hv, hrw⟩⟩, hB1⟩ hK
      have hc := hv.cell
      have HR : Hid (NewR 33 2 w (dueV ls now).length ((dueV ls now).flatMap pnC) (.returned v) (W.putObj D (.deferred none))) := by
        rw [HV.out, due_part (q := q) (x := x) (r := r) (by rw [← hr]; simp) HSR.out k3 k2]
        exact NewR.of_own (ownsRow_putObj (own_weak hrw (by omega)) _ hK rfl) (hB1.trans (belowK_b (w := w) (Nat.le_refl _) W D _ (.deferred none) (by omega) hK rfl rfl))
      clear hrw
      gi_wp2
      refine ⟨by simp, .inl ⟨_, _, rfl, run_takeDeferred hK, ?_⟩⟩
      refine ⟨v, ?_, HR.out⟩
      simp [results, Try.f16, go_sem]
set_option maxRecDepth 100000 in
theorem pinsDue_impl (A : Option Addr) (sp : List Sp) (c : Nat) (now : Int) (w : World) (ls : List (List Pn)) (hm : sp.map (fun s => s.l) = ls) (hs : SzW ls) (hf : FitL ls) (hA : Whl w A sp) :
    Calls Try.prog 16 #[.agg #[.slice A sp.length c], .int .i64 now] w (NewR 33 2 w (dueV ls now).length ((dueV ls now).flatMap pnC)) := callsIn_wide.1 (pinsDue_in A sp c now w ls hm hs hf hA)
end Go.Proofs.Ytflomkebgiemaaa
