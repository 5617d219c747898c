/- l12Right of the model. -/
import Derived.Test.YtohpegblbikbdaaRows
import Derived.Test.YtohpegblbikbdaaHs31
import Derived.Deep.DeepCutAuto
namespace Go.Proofs.Ytohpegblbikbdaa
open Go.RowKit
set_option linter.unusedSimpArgs false
set_option linter.unusedVariables false
theorem pts_apart {w : World} {g c B : Nat} {A P : Option Addr} {l : List Nat} {pl : List Pt} (hc : Cur w g A l c) (h : Rws w B P (pl.flatMap ptC)) (hp : 0 < pl.length) : ∀ ad, P = some ad → ad.block ≠ g := by
  have hlen : (pl.flatMap ptC).length = pl.length * 10 := flat_len ptC 10 ptC_len pl
  obtain ⟨_, i, z, _, hg⟩ := hc
  rcases h with h | ⟨b, off, e, hlt, hcc⟩
  · rw [h] at hlen
    simp at hlen
    omega
  · intro ad ea he
    rw [e] at ea
    injection ea with ea
    subst ea
    have h1 := hcc 3 (by omega)
    have he : b = g := he
    subst he
    rw [cell_of_row _ _ (off + 3) _ _ _ hg] at h1
    have h2 : (pl.flatMap ptC)[3]? = none := by rw [← h1]; simp
    rw [List.getElem?_eq_none_iff] at h2
    omega
theorem pts_keep {w w' : World} {g c : Nat} {A P : Option Addr} {l : List Nat} {pl : List Pt} (hc : Cur w g A l c) (h : Rws w w.heap.size P (pl.flatMap ptC)) (gr : w.grownBy w' (some g)) : Rws w' w'.heap.size P (pl.flatMap ptC) := by
  by_cases hp : 0 < pl.length
  · refine Rws.more (rws_grown h gr (fun j hj => ?_)) gr.size
    injection hj with hj
    subst hj
    exact pts_apart hc h hp
  · have : pl = [] := List.eq_nil_of_length_eq_zero (by omega)
    subst this
    exact .inl rfl
set_option maxRecDepth 100000 in
theorem l1Max_1 (b : Int) (w : World) (h : 1 ≤ b) : Calls Try.prog 47 #[.int .i64 1, .int .i64 b] w fun e w' => e = .returned (.int .i64 b) ∧ w = w' := by
  refine (l1Max_any 1 b w).mono ?_
  rintro e w' ⟨rfl, rfl⟩
  rw [if_neg (by omega)]
  exact ⟨rfl, rfl⟩
set_option maxRecDepth 100000 in
theorem exec_alloc_rq {ρ : Operand → Value} {o : Oper} (w : World) (ho : o.op = .alloc 30 := by rfl) :
    (execOp ρ o).run Try.prog w = .ok (.value (.pointer (some ⟨w.heap.size, 0, none⟩))) (w.alloc (.cells #[.int .i64 0, .int .i64 0, .int .i64 0, .int .i64 0, .int .i64 0, .int .i64 0] 30)) := by
  unfold execOp
  rw [ho]
  simp [go_sem]
theorem putRq_heap {w : World} {b : Nat} {q : Rq} {t : TypeId} (h : w.heap[b]? = some (.cells #[.int .i64 0, .int .i64 0, .int .i64 0, .int .i64 0, .int .i64 0, .int .i64 0] t (0, 0))) : (putRq w b q).heap[b]? = some (.cells #[.int .i64 q.kind, .int .i64 q.id, .int .i64 q.cabin, .int .i64 q.from_, .int .i64 q.size, .int .i64 q.tier] t (0, 0)) := by
  unfold putRq
  have h := Go.heap_setCell_same _ b 0 _ t (.int .i64 q.kind) h
  have h := Go.heap_setCell_same _ b 1 _ t (.int .i64 q.id) h
  have h := Go.heap_setCell_same _ b 2 _ t (.int .i64 q.cabin) h
  have h := Go.heap_setCell_same _ b 3 _ t (.int .i64 q.from_) h
  have h := Go.heap_setCell_same _ b 4 _ t (.int .i64 q.size) h
  have h := Go.heap_setCell_same _ b 5 _ t (.int .i64 q.tier) h
  simpa using h
set_option maxRecDepth 100000 in
theorem exec_store_rq {ρ : Operand → Value} {o : Oper} {x y : Operand} (b : Nat) (q : Rq) (w : World) (h : w.heap[b]? = some (.cells #[.int .i64 0, .int .i64 0, .int .i64 0, .int .i64 0, .int .i64 0, .int .i64 0] 30 (0, 0))) (ho : o.op = .store 30 x y := by rfl) (hx : ρ x = .pointer (some ⟨b, 0, none⟩) := by rfl) (hy : ρ y = rqA q := by rfl) :
    (execOp ρ o).run Try.prog w = .ok .skip (putRq w b q) := by
  have c0 := cell_of_row _ _ 0 _ _ _ h
  have z0 := frozen_of_row _ _ 0 _ _ h
  have c1 := cell_of_row _ _ 1 _ _ _ h
  have z1 := frozen_of_row _ _ 1 _ _ h
  have c2 := cell_of_row _ _ 2 _ _ _ h
  have z2 := frozen_of_row _ _ 2 _ _ h
  have c3 := cell_of_row _ _ 3 _ _ _ h
  have z3 := frozen_of_row _ _ 3 _ _ h
  have c4 := cell_of_row _ _ 4 _ _ _ h
  have z4 := frozen_of_row _ _ 4 _ _ h
  have c5 := cell_of_row _ _ 5 _ _ _ h
  have z5 := frozen_of_row _ _ 5 _ _ h
  simp at c0 c1 c2 c3 c4 c5
  unfold execOp
  rw [ho]
  simp [go_sem, hx, hy, rqA, c0, c1, c2, c3, c4, c5, z0, z1, z2, z3, z4, z5, putRq]
set_option maxRecDepth 100000 in
theorem exec_build_rq {ρ : Operand → Value} {o : Oper} {a b c d : Operand} (q : Rq) (w : World) (ho : o.op = .build 30 #[(0, .const (.int .i64 1)), (1, a), (2, b), (3, .const (.int .i64 (-1))), (4, c), (5, d)] := by rfl) (h0 : ρ (.const (.int .i64 1)) = .int .i64 q.kind := by rfl) (h1 : ρ a = .int .i64 q.id := by rfl) (h2 : ρ b = .int .i64 q.cabin := by rfl) (h3 : ρ (.const (.int .i64 (-1))) = .int .i64 q.from_ := by rfl) (h4 : ρ c = .int .i64 q.size := by rfl) (h5 : ρ d = .int .i64 q.tier := by rfl) :
    (execOp ρ o).run Try.prog w = .ok (.value (rqA q)) w := by
  unfold execOp
  rw [ho]
  simp [go_sem, h0, h1, h2, h3, h4, h5, rqA]
set_option maxRecDepth 100000 in
set_option maxHeartbeats 12800000 in
theorem l12Right_any : L12 := by
  intro A l c g x pl w hl hb hcw hr hpn hpl hA
  obtain ⟨W, hW⟩ : ∃ W, (w.alloc (.cells #[.slice x.ra x.r.seats.length x.rc, .int .i64 x.r.tiers, .int .i64 x.r.room, .int .i64 x.r.size, .int .i64 x.r.period, .int .i64 x.r.window, .int .i64 x.r.rest, .int .i64 x.r.tries, .int .i64 x.r.crew, .int .i64 x.now, .int .i64 x.turn, .slice x.p x.pn x.pc, .slice x.c x.cn x.cc, .slice x.t x.tn x.tc, .slice x.j x.jn x.jc] 52)).alloc (.cells #[.int .i64 0, .int .i64 0, .int .i64 0, .int .i64 0, .int .i64 0, .int .i64 0] 30) = W := ⟨_, rfl⟩
  have T0 : W.heap[w.heap.size]? = some (.cells #[.slice x.ra x.r.seats.length x.rc, .int .i64 x.r.tiers, .int .i64 x.r.room, .int .i64 x.r.size, .int .i64 x.r.period, .int .i64 x.r.window, .int .i64 x.r.rest, .int .i64 x.r.tries, .int .i64 x.r.crew, .int .i64 x.now, .int .i64 x.turn, .slice x.p x.pn x.pc, .slice x.c x.cn x.cc, .slice x.t x.tn x.tc, .slice x.j x.jn x.jc] 52) ∧ W.heap[w.heap.size + 1]? = some (.cells #[.int .i64 0, .int .i64 0, .int .i64 0, .int .i64 0, .int .i64 0, .int .i64 0] 30) ∧ Below w.heap.size w W := by rw [← hW]; exact two_at w _ _ _ (Below.refl _ _)
  have hgw := hcw.lt
  have hcW : Cur W g A l c := by rw [← hW]; exact (hcw.alloc _).alloc _
  have gW : Hid (w.grownBy W (some g)) := by show World.grownBy _ _ _; rw [← hW]; exact grown_step (World.grownBy_alloc _ _ _) (World.grownBy_alloc _ _ none) (fun j h => by cases h)
  have hgW : g < W.heap.size := hcW.lt
  obtain ⟨n1, n2, seat, t, ro, s, p, wi, re, tr, cr⟩ := hr
  obtain ⟨NS, eS⟩ : ∃ n : Nat, x.r.size = (n : Int) := ⟨x.r.size.toNat, by omega⟩
  obtain ⟨NT, eT⟩ : ∃ n : Nat, x.r.tiers = (n : Int) := ⟨x.r.tiers.toNat, by omega⟩
  obtain ⟨NC, eC⟩ : ∃ n : Nat, x.r.crew = (n : Int) := ⟨x.r.crew.toNat, by omega⟩
  have hNS : 1 ≤ NS ∧ NS ≤ 6 := by omega
  have hNT : 1 ≤ NT ∧ NT ≤ 5 := by omega
  have hNC : 1 ≤ NC ∧ NC ≤ 100 := by omega
  have ES := Lib.hid eS
  have ET := Lib.hid eT
  have EC := Lib.hid eC
  clear eS eT eC
  have HPN := Lib.hid hpn
  have KR := Lib.hid (fun w' (h : W.grownBy w' (some g)) => (h.block _ (blk_lt T0.1) (fun e => by injection e with e; omega)).trans T0.1)
  have KZ := Lib.hid (fun w' (h : W.grownBy w' (some g)) => (h.block _ (blk_lt T0.2.1) (fun e => by injection e with e; omega)).trans T0.2.1)
  have KP := Lib.hid (fun w' (h : W.grownBy w' (some g)) => pts_keep hcW (rws_below hA T0.2.2) h)
  have ltW : w.heap.size + 1 < W.heap.size := blk_lt T0.2.1
  have HC := Lib.hid hcW
  clear T0 hcW hcw hpn hA seat
  have K11 : Hid (∀ w', W.grownBy w' (some g) → w'.cell? ⟨w.heap.size, 11, none⟩ = some (.slice x.p x.pn x.pc)) := fun w' h => by have := cell_of_row _ _ 11 _ _ _ (KR.out w' h); simpa using this
  have K0 : Hid (∀ w', W.grownBy w' (some g) → w'.cell? ⟨w.heap.size, 0, none⟩ = some (.slice x.ra x.r.seats.length x.rc)) := fun w' h => by have := cell_of_row _ _ 0 _ _ _ (KR.out w' h); simpa using this
  have K3 : Hid (∀ w', W.grownBy w' (some g) → w'.cell? ⟨w.heap.size, 3, none⟩ = some (.int .i64 (NS : Int))) := fun w' h => by have := cell_of_row _ _ 3 _ _ _ (KR.out w' h); simp at this; rw [this, ES.out]
  have K1 : Hid (∀ w', W.grownBy w' (some g) → w'.cell? ⟨w.heap.size, 1, none⟩ = some (.int .i64 (NT : Int))) := fun w' h => by have := cell_of_row _ _ 1 _ _ _ (KR.out w' h); simp at this; rw [this, ET.out]
  have K8 : Hid (∀ w', W.grownBy w' (some g) → w'.cell? ⟨w.heap.size, 8, none⟩ = some (.int .i64 (NC : Int))) := fun w' h => by have := cell_of_row _ _ 8 _ _ _ (KR.out w' h); simp at this; rw [this, EC.out]
  unfold hoA
  go_enter Try.func22, Try.ntmps22
  go_wp2_with fail
  clear hW
  refine (l1Below_any A l c g 12 _ hl hb (by omega) (by omega) HC.out).mono ?_
  rintro e v1 ⟨x1, hx1, rfl, hc1, gr1⟩
  go_upto_region 2 with fail
  go_cut [19] (fun s19 wx => ∃ d : Bool, s19 = .bool d ∧ (d = true → 0 < pl.length) ∧ Cur wx g A l c ∧ W.grownBy wx (some g))
  case first =>
    have k1 := K11.out _ gr1
    by_cases hp0 : 0 < pl.length
    · have hp1 : ¬ ((x.pn : Int) ≤ 0) := by rw [HPN.out]; omega
      have hp2 : 0 < x.pn := by rw [HPN.out]; omega
      go_wp2_with fail
      refine (l1Once_any A l c g 3 _ hl hb (by omega) (by omega) hc1).mono ?_
      rintro e v2 ⟨d2, rfl, hc2, gr2⟩
      have g2 := gr1.trans gr2
      clear k1
      go_wp2_with fail
      go_meet
      exact ⟨_, rfl, (fun _ => hp0), hc2, g2⟩
    · have hp1 : x.pn = 0 := by rw [HPN.out]; omega
      rw [hp1] at k1
      go_wp2_with fail
      go_meet
      exact ⟨_, rfl, (fun h => by cases h), hc1, gr1⟩
  case rest =>
    obtain ⟨d, rfl, hd, hcv, gv⟩ := hcut
    go_upto_if 19 with fail
    go_cut [5] (fun s5 wx => ∃ z : Int, s5 = .int .i64 z ∧ Cur wx g A l c ∧ W.grownBy wx (some g))
    case first =>
      cases d
      · go_wp2_with fail
        go_meet
        exact ⟨_, rfl, hcv, gv⟩
      · have hp0 := hd rfl
        go_wp2_with fail
        refine wp_region_held_drew (S := fun w' => Hid (W.grownBy w' (some g))) (by kernel_rfl) (gv.trans (grown_of_below (below_drawn (Below.refl _ _) 1) _)) (fun hHeld => ?_)
        refine held_take 0 20 (.pointer (some ⟨w.heap.size, 11, none⟩)) rfl rfl (by kernel_rfl) (by kernel_rfl) (by kernel_rfl) (fun _ _ _ h => h) rfl hHeld (fun w _ => exec_fldHo _ 3 11 w (by simp)) ?_
        refine held_take 1 21 (.slice x.p x.pn x.pc) rfl rfl (by kernel_rfl) (by kernel_rfl) (by kernel_rfl) (fun _ _ _ h => h) rfl hHeld (fun w h => exec_loadRow _ _ 11 _ _ _ w (.inl rfl) (K11.out w h.out)) ?_
        refine held_take 3 23 (.pointer (some ⟨w.heap.size, 11, none⟩)) rfl rfl (by kernel_rfl) (by kernel_rfl) (by kernel_rfl) (fun _ _ _ h => h) rfl hHeld (fun w _ => exec_fldHo _ 3 11 w (by simp)) ?_
        simp only [Act.put, List.setIfInBounds_toArray, List.set_cons_zero, List.set_cons_succ]
        refine held_take 4 24 (.slice x.p x.pn x.pc) rfl rfl (by kernel_rfl) (by kernel_rfl) (by kernel_rfl) (fun _ _ _ h => h) rfl hHeld (fun w h => exec_loadRow _ _ 11 _ _ _ w (.inl rfl) (K11.out w h.out)) ?_
        refine held_take 2 22 (.pointer (some ⟨g, 0, none⟩)) rfl rfl (by kernel_rfl) (by kernel_rfl) (by kernel_rfl) (fun _ _ _ h => h) rfl hHeld (fun w _ => rfl) ?_
        refine held_take 5 25 (.int .i64 ((pl.length : Nat) : Int)) rfl rfl (by kernel_rfl) (by kernel_rfl) (by kernel_rfl) (fun _ _ _ h => h) rfl hHeld (fun w _ => by rw [← HPN.out]; exact exec_lenT rowPty _ _ _ w) ?_
        simp only [Act.put, List.setIfInBounds_toArray, List.set_cons_zero, List.set_cons_succ]
        refine held_call 6 26 21 #[.pointer (some ⟨g, 0, none⟩), .int .i64 ((pl.length : Nat) : Int)] rfl rfl (by kernel_rfl) rfl (exec_call Try.func21 (by kernel_rfl) (by kernel_rfl) _) ?_
        refine (l1Below_any A l c g pl.length _ hl hb (by omega) (by omega) (hcv.mem (below_drawn (Below.refl _ _) 1))).mono ?_
        rintro e v3 ⟨y3, hy3, rfl, hc3, gr3⟩
        have g3 := (gv.trans (grown_of_below (below_drawn (Below.refl _ _) 1) _)).trans gr3
        obtain ⟨pb, po, ep, _, ph⟩ := (KP.out v3 g3).pt hy3
        refine ⟨_, rfl, g3, ?_⟩
        simp only [Act.put, List.setIfInBounds_toArray, List.set_cons_zero, List.set_cons_succ]
        refine held_take 7 27 (.pointer (some ⟨pb, po + y3 * 10, none⟩)) rfl rfl (by kernel_rfl) (by kernel_rfl) (by kernel_rfl) (fun _ _ _ h => h) rfl g3 (fun w _ => exec_idx_pt pb po x.pn x.pc y3 w (by rw [HPN.out]; exact hy3) rfl (congrArg (fun q => Value.slice q x.pn x.pc) ep)) ?_
        refine held_take 8 28 (.pointer (some ⟨pb, po + y3 * 10 + 0, none⟩)) rfl rfl (by kernel_rfl) (by kernel_rfl) (by kernel_rfl) (fun _ _ _ h => h) rfl g3 (fun w _ => exec_fldPt pb _ 0 w (by omega)) ?_
        simp only [Act.put, List.setIfInBounds_toArray, List.set_cons_zero, List.set_cons_succ]
        refine held_op 9 29 (.int .i64 (pl.getD y3 pt0).id) rfl rfl (by kernel_rfl) rfl (exec_load1 3 _ _ _ v3 (.inl rfl) ph.1) g3 ?_
        simp only [Act.put, List.setIfInBounds_toArray, List.set_cons_zero, List.set_cons_succ]
        refine held_op 10 5 (.int .i64 (pl.getD y3 pt0).id) rfl rfl (by kernel_rfl) rfl rfl g3 ?_
        simp only [Act.put, List.setIfInBounds_toArray, List.set_cons_zero, List.set_cons_succ]
        refine wpAnyH_done (by kernel_rfl) ?_ _
        go_wp2_with fail
        go_meet
        exact ⟨_, rfl, hc3, g3⟩
    case rest =>
      clear hd hcv gv
      obtain ⟨z, rfl, hcv, gv⟩ := hcut
      have k0 := K0.out _ gv
      go_wp2_with fail
      refine (l1Max_1 (x.r.seats.length : Int) _ (by omega)).mono ?_
      rintro e w' ⟨rfl, rfl⟩
      clear k0
      go_wp2_with fail
      refine (l1Below_any A l c g 12 _ hl hb (by omega) (by omega) hcv).mono ?_
      rintro e v5 ⟨k, hk, rfl, hc5, gr5⟩
      have g5 := gv.trans gr5
      clear hcv gv gr5
      have hks : k = 0 ∨ k = 1 ∨ k = 2 ∨ k = 3 ∨ k = 4 ∨ k = 5 ∨ k = 6 ∨ k = 7 ∨ k = 8 ∨ k = 9 ∨ 10 ≤ k := by omega
      rcases hks with rfl | rfl | rfl | rfl | rfl | rfl | rfl | rfl | rfl | rfl | hk10
      · skip
        go_wp2_with fail
        go_cut [7] (fun s7 wx => ∃ (gp : Nat) (q : Rq), s7 = .pointer (some ⟨gp, 0, none⟩) ∧ wx.heap[gp]? = some (.cells #[.int .i64 q.kind, .int .i64 q.id, .int .i64 q.cabin, .int .i64 q.from_, .int .i64 q.size, .int .i64 q.tier] 30) ∧ W.heap.size ≤ gp ∧ Cur wx g A l c ∧ W.grownBy wx (some g))
        case first =>
          refine wp_region_held_drew (S := fun w' => Hid (W.grownBy w' (some g))) (by kernel_rfl) (g5.trans (grown_of_below (below_drawn (Below.refl _ _) 1) _)) (fun hHeld => ?_)
          have b0 := hHeld.out
          have hc0 := hc5.mem (below_drawn (Below.refl _ _) 1)
          refine held_take 0 42 (.pointer (some ⟨g, 0, none⟩)) rfl rfl (by kernel_rfl) (by kernel_rfl) (by kernel_rfl) (fun _ _ _ h => h) rfl b0 (fun w _ => rfl) ?_
          refine held_take 3 45 (.pointer (some ⟨g, 0, none⟩)) rfl rfl (by kernel_rfl) (by kernel_rfl) (by kernel_rfl) (fun _ _ _ h => h) rfl b0 (fun w _ => rfl) ?_
          simp only [Act.put, List.setIfInBounds_toArray, List.set_cons_zero, List.set_cons_succ]
          refine held_take 6 48 (.pointer (some ⟨g, 0, none⟩)) rfl rfl (by kernel_rfl) (by kernel_rfl) (by kernel_rfl) (fun _ _ _ h => h) rfl b0 (fun w _ => rfl) ?_
          refine held_take 13 55 (.pointer (some ⟨g, 0, none⟩)) rfl rfl (by kernel_rfl) (by kernel_rfl) (by kernel_rfl) (fun _ _ _ h => h) rfl b0 (fun w _ => rfl) ?_
          simp only [Act.put, List.setIfInBounds_toArray, List.set_cons_zero, List.set_cons_succ]
          refine held_take 4 46 (.int .i64 ((x.r.seats.length : Nat) : Int)) rfl rfl (by kernel_rfl) (by kernel_rfl) (by kernel_rfl) (fun _ _ _ h => h) rfl b0 (fun w _ => rfl) ?_
          refine held_take 7 49 (.pointer (some ⟨w.heap.size, 0, none⟩)) rfl rfl (by kernel_rfl) (by kernel_rfl) (by kernel_rfl) (fun _ _ _ h => h) rfl b0 (fun w _ => exec_fldHo _ 0 0 w (by simp)) ?_
          simp only [Act.put, List.setIfInBounds_toArray, List.set_cons_zero, List.set_cons_succ]
          refine held_take 8 50 (.pointer (some ⟨w.heap.size, 3, none⟩)) rfl rfl (by kernel_rfl) (by kernel_rfl) (by kernel_rfl) (fun _ _ _ h => h) rfl b0 (fun w _ => exec_fldRu _ 3 w (by omega)) ?_
          refine held_take 9 51 (.int .i64 (NS : Nat)) rfl rfl (by kernel_rfl) (by kernel_rfl) (by kernel_rfl) (fun _ _ _ h => h) rfl b0 (fun w h => exec_load1 3 _ 3 _ w (.inl rfl) (K3.out w h.out)) ?_
          simp only [Act.put, List.setIfInBounds_toArray, List.set_cons_zero, List.set_cons_succ]
          refine held_take 14 56 (.pointer (some ⟨w.heap.size, 0, none⟩)) rfl rfl (by kernel_rfl) (by kernel_rfl) (by kernel_rfl) (fun _ _ _ h => h) rfl b0 (fun w _ => exec_fldHo _ 0 0 w (by simp)) ?_
          refine held_take 15 57 (.pointer (some ⟨w.heap.size, 1, none⟩)) rfl rfl (by kernel_rfl) (by kernel_rfl) (by kernel_rfl) (fun _ _ _ h => h) rfl b0 (fun w _ => exec_fldRu _ 1 w (by omega)) ?_
          simp only [Act.put, List.setIfInBounds_toArray, List.set_cons_zero, List.set_cons_succ]
          refine held_take 16 58 (.int .i64 (NT : Nat)) rfl rfl (by kernel_rfl) (by kernel_rfl) (by kernel_rfl) (fun _ _ _ h => h) rfl b0 (fun w h => exec_load1 3 _ 1 _ w (.inl rfl) (K1.out w h.out)) ?_
          simp only [Act.put, List.setIfInBounds_toArray, List.set_cons_zero, List.set_cons_succ]
          refine wpAnyH_ready (rs := [1, 20]) (by kernel_rfl) (by simp) (ready_call 1 43 21 #[.pointer (some ⟨g, 0, none⟩), .int .i64 (14 : Int)] rfl rfl rfl (exec_call Try.func21 (by kernel_rfl) (by kernel_rfl) _) ?_ (ready_op 20 7 _ rfl rfl rfl (exec_alloc_rq _) (grown_step b0 (World.grownBy_alloc _ _ none) (fun j h => by cases h)) ?_ AllReadyH.nil))
          · skip
            refine (l1Below_any A l c g 14 _ hl hb (by omega) (by omega) hc0).mono ?_
            rintro e v21 ⟨y1, hy1, rfl, hc21, gr21⟩
            have b21 := b0.trans gr21
            refine ⟨_, rfl, b21, ?_⟩
            simp only [Act.put, List.setIfInBounds_toArray, List.set_cons_zero, List.set_cons_succ]
            refine held_take 2 44 (.int .i64 (1 + (y1 : Int))) rfl rfl (by kernel_rfl) (by kernel_rfl) (by kernel_rfl) (fun _ _ _ h => h) rfl b21 (fun w _ => exec_addI 1 (y1 : Int) _ w rfl (by omega) (by omega)) ?_
            simp only [Act.put, List.setIfInBounds_toArray, List.set_cons_zero, List.set_cons_succ]
            refine wpAnyH_ready (rs := [5, 20]) (by kernel_rfl) (by simp) (ready_call 5 47 21 #[.pointer (some ⟨g, 0, none⟩), .int .i64 ((x.r.seats.length : Nat) : Int)] rfl rfl rfl (exec_call Try.func21 (by kernel_rfl) (by kernel_rfl) _) ?_ (ready_op 20 7 _ rfl rfl rfl (exec_alloc_rq _) (grown_step b21 (World.grownBy_alloc _ _ none) (fun j h => by cases h)) ?_ AllReadyH.nil))
            · skip
              refine (l1Below_any A l c g x.r.seats.length _ hl hb (by omega) (by omega) hc21).mono ?_
              rintro e v22 ⟨y2, hy2, rfl, hc22, gr22⟩
              have b22 := b21.trans gr22
              refine ⟨_, rfl, b22, ?_⟩
              simp only [Act.put, List.setIfInBounds_toArray, List.set_cons_zero, List.set_cons_succ]
              refine wpAnyH_ready (rs := [10, 20]) (by kernel_rfl) (by simp) (ready_call 10 52 47 #[.int .i64 1, .int .i64 ((NS : Nat) : Int)] rfl rfl rfl (exec_call Try.func47 (by kernel_rfl) (by kernel_rfl) _) ?_ (ready_op 20 7 _ rfl rfl rfl (exec_alloc_rq _) (grown_step b22 (World.grownBy_alloc _ _ none) (fun j h => by cases h)) ?_ AllReadyH.nil))
              · skip
                refine (l1Max_1 ((NS : Nat) : Int) _ (by omega)).mono ?_
                rintro e v23 ⟨rfl, rfl⟩
                refine ⟨_, rfl, b22, ?_⟩
                simp only [Act.put, List.setIfInBounds_toArray, List.set_cons_zero, List.set_cons_succ]
                refine wpAnyH_ready (rs := [11, 20]) (by kernel_rfl) (by simp) (ready_call 11 53 21 #[.pointer (some ⟨g, 0, none⟩), .int .i64 ((NS : Nat) : Int)] rfl rfl rfl (exec_call Try.func21 (by kernel_rfl) (by kernel_rfl) _) ?_ (ready_op 20 7 _ rfl rfl rfl (exec_alloc_rq _) (grown_step b22 (World.grownBy_alloc _ _ none) (fun j h => by cases h)) ?_ AllReadyH.nil))
                · skip
                  refine (l1Below_any A l c g NS _ hl hb (by omega) (by omega) hc22).mono ?_
                  rintro e v24 ⟨y3, hy3, rfl, hc24, gr24⟩
                  have b24 := b22.trans gr24
                  refine ⟨_, rfl, b24, ?_⟩
                  simp only [Act.put, List.setIfInBounds_toArray, List.set_cons_zero, List.set_cons_succ]
                  refine held_take 12 54 (.int .i64 (1 + (y3 : Int))) rfl rfl (by kernel_rfl) (by kernel_rfl) (by kernel_rfl) (fun _ _ _ h => h) rfl b24 (fun w _ => exec_addI 1 (y3 : Int) _ w rfl (by omega) (by omega)) ?_
                  simp only [Act.put, List.setIfInBounds_toArray, List.set_cons_zero, List.set_cons_succ]
                  refine wpAnyH_ready (rs := [17, 20]) (by kernel_rfl) (by simp) (ready_call 17 59 47 #[.int .i64 1, .int .i64 ((NT : Nat) : Int)] rfl rfl rfl (exec_call Try.func47 (by kernel_rfl) (by kernel_rfl) _) ?_ (ready_op 20 7 _ rfl rfl rfl (exec_alloc_rq _) (grown_step b24 (World.grownBy_alloc _ _ none) (fun j h => by cases h)) ?_ AllReadyH.nil))
                  · skip
                    refine (l1Max_1 ((NT : Nat) : Int) _ (by omega)).mono ?_
                    rintro e v25 ⟨rfl, rfl⟩
                    refine ⟨_, rfl, b24, ?_⟩
                    simp only [Act.put, List.setIfInBounds_toArray, List.set_cons_zero, List.set_cons_succ]
                    refine wpAnyH_ready (rs := [18, 20]) (by kernel_rfl) (by simp) (ready_call 18 60 21 #[.pointer (some ⟨g, 0, none⟩), .int .i64 ((NT : Nat) : Int)] rfl rfl rfl (exec_call Try.func21 (by kernel_rfl) (by kernel_rfl) _) ?_ (ready_op 20 7 _ rfl rfl rfl (exec_alloc_rq _) (grown_step b24 (World.grownBy_alloc _ _ none) (fun j h => by cases h)) ?_ AllReadyH.nil))
                    · skip
                      refine (l1Below_any A l c g NT _ hl hb (by omega) (by omega) hc24).mono ?_
                      rintro e v26 ⟨y4, hy4, rfl, hc26, gr26⟩
                      have b26 := b24.trans gr26
                      refine ⟨_, rfl, b26, ?_⟩
                      simp only [Act.put, List.setIfInBounds_toArray, List.set_cons_zero, List.set_cons_succ]
                      refine held_take 19 61 (rqA (⟨1, 1 + (y1 : Int), (y2 : Int), -1, 1 + (y3 : Int), (y4 : Int)⟩ : Rq)) rfl rfl (by kernel_rfl) (by kernel_rfl) (by kernel_rfl) (fun _ _ _ h => h) rfl b26 (fun w _ => exec_build_rq (⟨1, 1 + (y1 : Int), (y2 : Int), -1, 1 + (y3 : Int), (y4 : Int)⟩ : Rq) w) ?_
                      simp only [Act.put, List.setIfInBounds_toArray, List.set_cons_zero, List.set_cons_succ]
                      refine held_op 20 7 _ rfl rfl (by kernel_rfl) rfl (exec_alloc_rq _) (grown_step b26 (World.grownBy_alloc _ _ none) (fun j h => by cases h)) ?_
                      simp only [Act.put, List.setIfInBounds_toArray, List.set_cons_zero, List.set_cons_succ]
                      have l27 := b26.size
                      have b27 := grown_step b26 (World.grownBy_alloc _ (.cells #[.int .i64 0, .int .i64 0, .int .i64 0, .int .i64 0, .int .i64 0, .int .i64 0] 30) none) (fun j h => by cases h)
                      have hc27 := hc26.alloc (.cells #[.int .i64 0, .int .i64 0, .int .i64 0, .int .i64 0, .int .i64 0, .int .i64 0] 30)
                      have g27 := heap_newB b26 (.cells #[.int .i64 0, .int .i64 0, .int .i64 0, .int .i64 0, .int .i64 0, .int .i64 0] 30)
                      refine held_store 21 rfl rfl (by kernel_rfl) rfl (exec_store_rq _ (⟨1, 1 + (y1 : Int), (y2 : Int), -1, 1 + (y3 : Int), (y4 : Int)⟩ : Rq) _ g27) (putRq_grown (q := (⟨1, 1 + (y1 : Int), (y2 : Int), -1, 1 + (y3 : Int), (y4 : Int)⟩ : Rq)) b27 l27) ?_
                      refine wpAnyH_done (by kernel_rfl) ?_ _
                      have h9 := putRq_heap (q := (⟨1, 1 + (y1 : Int), (y2 : Int), -1, 1 + (y3 : Int), (y4 : Int)⟩ : Rq)) g27
                      have c9 := putRq_cur (q := (⟨1, 1 + (y1 : Int), (y2 : Int), -1, 1 + (y3 : Int), (y4 : Int)⟩ : Rq)) hc27 (Nat.lt_of_lt_of_le hgW l27)
                      have b9 := putRq_grown (q := (⟨1, 1 + (y1 : Int), (y2 : Int), -1, 1 + (y3 : Int), (y4 : Int)⟩ : Rq)) b27 l27
                      go_wp2_with fail
                      go_meet
                      exact ⟨_, (⟨1, 1 + (y1 : Int), (y2 : Int), -1, 1 + (y3 : Int), (y4 : Int)⟩ : Rq), rfl, h9, l27, c9, b9⟩
                    · skip
                      simp only [Act.put, List.setIfInBounds_toArray, List.set_cons_zero, List.set_cons_succ]
                      have l28 := b24.size
                      have b28 := grown_step b24 (World.grownBy_alloc _ (.cells #[.int .i64 0, .int .i64 0, .int .i64 0, .int .i64 0, .int .i64 0, .int .i64 0] 30) none) (fun j h => by cases h)
                      have hc28 := hc24.alloc (.cells #[.int .i64 0, .int .i64 0, .int .i64 0, .int .i64 0, .int .i64 0, .int .i64 0] 30)
                      have g28 := heap_newB b24 (.cells #[.int .i64 0, .int .i64 0, .int .i64 0, .int .i64 0, .int .i64 0, .int .i64 0] 30)
                      refine held_call 18 60 21 #[.pointer (some ⟨g, 0, none⟩), .int .i64 ((NT : Nat) : Int)] rfl rfl (by kernel_rfl) rfl (exec_call Try.func21 (by kernel_rfl) (by kernel_rfl) _) ?_
                      refine (l1Below_any A l c g NT _ hl hb (by omega) (by omega) hc28).mono ?_
                      rintro e v29 ⟨y4, hy4, rfl, hc29, gr29⟩
                      have b29 := b28.trans gr29
                      have g29 := (gr29.block _ (blk_lt g28) (fun e => by injection e with e; omega)).trans g28
                      refine ⟨_, rfl, b29, ?_⟩
                      simp only [Act.put, List.setIfInBounds_toArray, List.set_cons_zero, List.set_cons_succ]
                      refine held_take 19 61 (rqA (⟨1, 1 + (y1 : Int), (y2 : Int), -1, 1 + (y3 : Int), (y4 : Int)⟩ : Rq)) rfl rfl (by kernel_rfl) (by kernel_rfl) (by kernel_rfl) (fun _ _ _ h => h) rfl b29 (fun w _ => exec_build_rq (⟨1, 1 + (y1 : Int), (y2 : Int), -1, 1 + (y3 : Int), (y4 : Int)⟩ : Rq) w) ?_
                      simp only [Act.put, List.setIfInBounds_toArray, List.set_cons_zero, List.set_cons_succ]
                      refine held_store 21 rfl rfl (by kernel_rfl) rfl (exec_store_rq _ (⟨1, 1 + (y1 : Int), (y2 : Int), -1, 1 + (y3 : Int), (y4 : Int)⟩ : Rq) _ g29) (putRq_grown (q := (⟨1, 1 + (y1 : Int), (y2 : Int), -1, 1 + (y3 : Int), (y4 : Int)⟩ : Rq)) b29 l28) ?_
                      refine wpAnyH_done (by kernel_rfl) ?_ _
                      have h9 := putRq_heap (q := (⟨1, 1 + (y1 : Int), (y2 : Int), -1, 1 + (y3 : Int), (y4 : Int)⟩ : Rq)) g29
                      have c9 := putRq_cur (q := (⟨1, 1 + (y1 : Int), (y2 : Int), -1, 1 + (y3 : Int), (y4 : Int)⟩ : Rq)) hc29 (Nat.lt_of_lt_of_le hgW l28)
                      have b9 := putRq_grown (q := (⟨1, 1 + (y1 : Int), (y2 : Int), -1, 1 + (y3 : Int), (y4 : Int)⟩ : Rq)) b29 l28
                      go_wp2_with fail
                      go_meet
                      exact ⟨_, (⟨1, 1 + (y1 : Int), (y2 : Int), -1, 1 + (y3 : Int), (y4 : Int)⟩ : Rq), rfl, h9, l28, c9, b9⟩
                  · skip
                    simp only [Act.put, List.setIfInBounds_toArray, List.set_cons_zero, List.set_cons_succ]
                    have l30 := b24.size
                    have b30 := grown_step b24 (World.grownBy_alloc _ (.cells #[.int .i64 0, .int .i64 0, .int .i64 0, .int .i64 0, .int .i64 0, .int .i64 0] 30) none) (fun j h => by cases h)
                    have hc30 := hc24.alloc (.cells #[.int .i64 0, .int .i64 0, .int .i64 0, .int .i64 0, .int .i64 0, .int .i64 0] 30)
                    have g30 := heap_newB b24 (.cells #[.int .i64 0, .int .i64 0, .int .i64 0, .int .i64 0, .int .i64 0, .int .i64 0] 30)
                    refine held_call 17 59 47 #[.int .i64 1, .int .i64 ((NT : Nat) : Int)] rfl rfl (by kernel_rfl) rfl (exec_call Try.func47 (by kernel_rfl) (by kernel_rfl) _) ?_
                    refine (l1Max_1 ((NT : Nat) : Int) _ (by omega)).mono ?_
                    rintro e v31 ⟨rfl, rfl⟩
                    refine ⟨_, rfl, b30, ?_⟩
                    simp only [Act.put, List.setIfInBounds_toArray, List.set_cons_zero, List.set_cons_succ]
                    refine held_call 18 60 21 #[.pointer (some ⟨g, 0, none⟩), .int .i64 ((NT : Nat) : Int)] rfl rfl (by kernel_rfl) rfl (exec_call Try.func21 (by kernel_rfl) (by kernel_rfl) _) ?_
                    refine (l1Below_any A l c g NT _ hl hb (by omega) (by omega) hc30).mono ?_
                    rintro e v32 ⟨y4, hy4, rfl, hc32, gr32⟩
                    have b32 := b30.trans gr32
                    have g32 := (gr32.block _ (blk_lt g30) (fun e => by injection e with e; omega)).trans g30
                    refine ⟨_, rfl, b32, ?_⟩
                    simp only [Act.put, List.setIfInBounds_toArray, List.set_cons_zero, List.set_cons_succ]
                    refine held_take 19 61 (rqA (⟨1, 1 + (y1 : Int), (y2 : Int), -1, 1 + (y3 : Int), (y4 : Int)⟩ : Rq)) rfl rfl (by kernel_rfl) (by kernel_rfl) (by kernel_rfl) (fun _ _ _ h => h) rfl b32 (fun w _ => exec_build_rq (⟨1, 1 + (y1 : Int), (y2 : Int), -1, 1 + (y3 : Int), (y4 : Int)⟩ : Rq) w) ?_
                    simp only [Act.put, List.setIfInBounds_toArray, List.set_cons_zero, List.set_cons_succ]
                    refine held_store 21 rfl rfl (by kernel_rfl) rfl (exec_store_rq _ (⟨1, 1 + (y1 : Int), (y2 : Int), -1, 1 + (y3 : Int), (y4 : Int)⟩ : Rq) _ g32) (putRq_grown (q := (⟨1, 1 + (y1 : Int), (y2 : Int), -1, 1 + (y3 : Int), (y4 : Int)⟩ : Rq)) b32 l30) ?_
                    refine wpAnyH_done (by kernel_rfl) ?_ _
                    have h9 := putRq_heap (q := (⟨1, 1 + (y1 : Int), (y2 : Int), -1, 1 + (y3 : Int), (y4 : Int)⟩ : Rq)) g32
                    have c9 := putRq_cur (q := (⟨1, 1 + (y1 : Int), (y2 : Int), -1, 1 + (y3 : Int), (y4 : Int)⟩ : Rq)) hc32 (Nat.lt_of_lt_of_le hgW l30)
                    have b9 := putRq_grown (q := (⟨1, 1 + (y1 : Int), (y2 : Int), -1, 1 + (y3 : Int), (y4 : Int)⟩ : Rq)) b32 l30
                    go_wp2_with fail
                    go_meet
                    exact ⟨_, (⟨1, 1 + (y1 : Int), (y2 : Int), -1, 1 + (y3 : Int), (y4 : Int)⟩ : Rq), rfl, h9, l30, c9, b9⟩
                · skip
                  simp only [Act.put, List.setIfInBounds_toArray, List.set_cons_zero, List.set_cons_succ]
                  have l33 := b22.size
                  have b33 := grown_step b22 (World.grownBy_alloc _ (.cells #[.int .i64 0, .int .i64 0, .int .i64 0, .int .i64 0, .int .i64 0, .int .i64 0] 30) none) (fun j h => by cases h)
                  have hc33 := hc22.alloc (.cells #[.int .i64 0, .int .i64 0, .int .i64 0, .int .i64 0, .int .i64 0, .int .i64 0] 30)
                  have g33 := heap_newB b22 (.cells #[.int .i64 0, .int .i64 0, .int .i64 0, .int .i64 0, .int .i64 0, .int .i64 0] 30)
                  refine held_call 11 53 21 #[.pointer (some ⟨g, 0, none⟩), .int .i64 ((NS : Nat) : Int)] rfl rfl (by kernel_rfl) rfl (exec_call Try.func21 (by kernel_rfl) (by kernel_rfl) _) ?_
                  refine (l1Below_any A l c g NS _ hl hb (by omega) (by omega) hc33).mono ?_
                  rintro e v34 ⟨y3, hy3, rfl, hc34, gr34⟩
                  have b34 := b33.trans gr34
                  have g34 := (gr34.block _ (blk_lt g33) (fun e => by injection e with e; omega)).trans g33
                  refine ⟨_, rfl, b34, ?_⟩
                  simp only [Act.put, List.setIfInBounds_toArray, List.set_cons_zero, List.set_cons_succ]
                  refine held_take 12 54 (.int .i64 (1 + (y3 : Int))) rfl rfl (by kernel_rfl) (by kernel_rfl) (by kernel_rfl) (fun _ _ _ h => h) rfl b34 (fun w _ => exec_addI 1 (y3 : Int) _ w rfl (by omega) (by omega)) ?_
                  simp only [Act.put, List.setIfInBounds_toArray, List.set_cons_zero, List.set_cons_succ]
                  refine held_call 17 59 47 #[.int .i64 1, .int .i64 ((NT : Nat) : Int)] rfl rfl (by kernel_rfl) rfl (exec_call Try.func47 (by kernel_rfl) (by kernel_rfl) _) ?_
                  refine (l1Max_1 ((NT : Nat) : Int) _ (by omega)).mono ?_
                  rintro e v35 ⟨rfl, rfl⟩
                  refine ⟨_, rfl, b34, ?_⟩
                  simp only [Act.put, List.setIfInBounds_toArray, List.set_cons_zero, List.set_cons_succ]
                  refine held_call 18 60 21 #[.pointer (some ⟨g, 0, none⟩), .int .i64 ((NT : Nat) : Int)] rfl rfl (by kernel_rfl) rfl (exec_call Try.func21 (by kernel_rfl) (by kernel_rfl) _) ?_
                  refine (l1Below_any A l c g NT _ hl hb (by omega) (by omega) hc34).mono ?_
                  rintro e v36 ⟨y4, hy4, rfl, hc36, gr36⟩
                  have b36 := b34.trans gr36
                  have g36 := (gr36.block _ (blk_lt g34) (fun e => by injection e with e; omega)).trans g34
                  refine ⟨_, rfl, b36, ?_⟩
                  simp only [Act.put, List.setIfInBounds_toArray, List.set_cons_zero, List.set_cons_succ]
                  refine held_take 19 61 (rqA (⟨1, 1 + (y1 : Int), (y2 : Int), -1, 1 + (y3 : Int), (y4 : Int)⟩ : Rq)) rfl rfl (by kernel_rfl) (by kernel_rfl) (by kernel_rfl) (fun _ _ _ h => h) rfl b36 (fun w _ => exec_build_rq (⟨1, 1 + (y1 : Int), (y2 : Int), -1, 1 + (y3 : Int), (y4 : Int)⟩ : Rq) w) ?_
                  simp only [Act.put, List.setIfInBounds_toArray, List.set_cons_zero, List.set_cons_succ]
                  refine held_store 21 rfl rfl (by kernel_rfl) rfl (exec_store_rq _ (⟨1, 1 + (y1 : Int), (y2 : Int), -1, 1 + (y3 : Int), (y4 : Int)⟩ : Rq) _ g36) (putRq_grown (q := (⟨1, 1 + (y1 : Int), (y2 : Int), -1, 1 + (y3 : Int), (y4 : Int)⟩ : Rq)) b36 l33) ?_
                  refine wpAnyH_done (by kernel_rfl) ?_ _
                  have h9 := putRq_heap (q := (⟨1, 1 + (y1 : Int), (y2 : Int), -1, 1 + (y3 : Int), (y4 : Int)⟩ : Rq)) g36
                  have c9 := putRq_cur (q := (⟨1, 1 + (y1 : Int), (y2 : Int), -1, 1 + (y3 : Int), (y4 : Int)⟩ : Rq)) hc36 (Nat.lt_of_lt_of_le hgW l33)
                  have b9 := putRq_grown (q := (⟨1, 1 + (y1 : Int), (y2 : Int), -1, 1 + (y3 : Int), (y4 : Int)⟩ : Rq)) b36 l33
                  go_wp2_with fail
                  go_meet
                  exact ⟨_, (⟨1, 1 + (y1 : Int), (y2 : Int), -1, 1 + (y3 : Int), (y4 : Int)⟩ : Rq), rfl, h9, l33, c9, b9⟩
              · skip
                simp only [Act.put, List.setIfInBounds_toArray, List.set_cons_zero, List.set_cons_succ]
                have l37 := b22.size
                have b37 := grown_step b22 (World.grownBy_alloc _ (.cells #[.int .i64 0, .int .i64 0, .int .i64 0, .int .i64 0, .int .i64 0, .int .i64 0] 30) none) (fun j h => by cases h)
                have hc37 := hc22.alloc (.cells #[.int .i64 0, .int .i64 0, .int .i64 0, .int .i64 0, .int .i64 0, .int .i64 0] 30)
                have g37 := heap_newB b22 (.cells #[.int .i64 0, .int .i64 0, .int .i64 0, .int .i64 0, .int .i64 0, .int .i64 0] 30)
                refine held_call 10 52 47 #[.int .i64 1, .int .i64 ((NS : Nat) : Int)] rfl rfl (by kernel_rfl) rfl (exec_call Try.func47 (by kernel_rfl) (by kernel_rfl) _) ?_
                refine (l1Max_1 ((NS : Nat) : Int) _ (by omega)).mono ?_
                rintro e v38 ⟨rfl, rfl⟩
                refine ⟨_, rfl, b37, ?_⟩
                simp only [Act.put, List.setIfInBounds_toArray, List.set_cons_zero, List.set_cons_succ]
                refine held_call 11 53 21 #[.pointer (some ⟨g, 0, none⟩), .int .i64 ((NS : Nat) : Int)] rfl rfl (by kernel_rfl) rfl (exec_call Try.func21 (by kernel_rfl) (by kernel_rfl) _) ?_
                refine (l1Below_any A l c g NS _ hl hb (by omega) (by omega) hc37).mono ?_
                rintro e v39 ⟨y3, hy3, rfl, hc39, gr39⟩
                have b39 := b37.trans gr39
                have g39 := (gr39.block _ (blk_lt g37) (fun e => by injection e with e; omega)).trans g37
                refine ⟨_, rfl, b39, ?_⟩
                simp only [Act.put, List.setIfInBounds_toArray, List.set_cons_zero, List.set_cons_succ]
                refine held_take 12 54 (.int .i64 (1 + (y3 : Int))) rfl rfl (by kernel_rfl) (by kernel_rfl) (by kernel_rfl) (fun _ _ _ h => h) rfl b39 (fun w _ => exec_addI 1 (y3 : Int) _ w rfl (by omega) (by omega)) ?_
                simp only [Act.put, List.setIfInBounds_toArray, List.set_cons_zero, List.set_cons_succ]
                refine held_call 17 59 47 #[.int .i64 1, .int .i64 ((NT : Nat) : Int)] rfl rfl (by kernel_rfl) rfl (exec_call Try.func47 (by kernel_rfl) (by kernel_rfl) _) ?_
                refine (l1Max_1 ((NT : Nat) : Int) _ (by omega)).mono ?_
                rintro e v40 ⟨rfl, rfl⟩
                refine ⟨_, rfl, b39, ?_⟩
                simp only [Act.put, List.setIfInBounds_toArray, List.set_cons_zero, List.set_cons_succ]
                refine held_call 18 60 21 #[.pointer (some ⟨g, 0, none⟩), .int .i64 ((NT : Nat) : Int)] rfl rfl (by kernel_rfl) rfl (exec_call Try.func21 (by kernel_rfl) (by kernel_rfl) _) ?_
                refine (l1Below_any A l c g NT _ hl hb (by omega) (by omega) hc39).mono ?_
                rintro e v41 ⟨y4, hy4, rfl, hc41, gr41⟩
                have b41 := b39.trans gr41
                have g41 := (gr41.block _ (blk_lt g39) (fun e => by injection e with e; omega)).trans g39
                refine ⟨_, rfl, b41, ?_⟩
                simp only [Act.put, List.setIfInBounds_toArray, List.set_cons_zero, List.set_cons_succ]
                refine held_take 19 61 (rqA (⟨1, 1 + (y1 : Int), (y2 : Int), -1, 1 + (y3 : Int), (y4 : Int)⟩ : Rq)) rfl rfl (by kernel_rfl) (by kernel_rfl) (by kernel_rfl) (fun _ _ _ h => h) rfl b41 (fun w _ => exec_build_rq (⟨1, 1 + (y1 : Int), (y2 : Int), -1, 1 + (y3 : Int), (y4 : Int)⟩ : Rq) w) ?_
                simp only [Act.put, List.setIfInBounds_toArray, List.set_cons_zero, List.set_cons_succ]
                refine held_store 21 rfl rfl (by kernel_rfl) rfl (exec_store_rq _ (⟨1, 1 + (y1 : Int), (y2 : Int), -1, 1 + (y3 : Int), (y4 : Int)⟩ : Rq) _ g41) (putRq_grown (q := (⟨1, 1 + (y1 : Int), (y2 : Int), -1, 1 + (y3 : Int), (y4 : Int)⟩ : Rq)) b41 l37) ?_
                refine wpAnyH_done (by kernel_rfl) ?_ _
                have h9 := putRq_heap (q := (⟨1, 1 + (y1 : Int), (y2 : Int), -1, 1 + (y3 : Int), (y4 : Int)⟩ : Rq)) g41
                have c9 := putRq_cur (q := (⟨1, 1 + (y1 : Int), (y2 : Int), -1, 1 + (y3 : Int), (y4 : Int)⟩ : Rq)) hc41 (Nat.lt_of_lt_of_le hgW l37)
                have b9 := putRq_grown (q := (⟨1, 1 + (y1 : Int), (y2 : Int), -1, 1 + (y3 : Int), (y4 : Int)⟩ : Rq)) b41 l37
                go_wp2_with fail
                go_meet
                exact ⟨_, (⟨1, 1 + (y1 : Int), (y2 : Int), -1, 1 + (y3 : Int), (y4 : Int)⟩ : Rq), rfl, h9, l37, c9, b9⟩
            · skip
              simp only [Act.put, List.setIfInBounds_toArray, List.set_cons_zero, List.set_cons_succ]
              have l42 := b21.size
              have b42 := grown_step b21 (World.grownBy_alloc _ (.cells #[.int .i64 0, .int .i64 0, .int .i64 0, .int .i64 0, .int .i64 0, .int .i64 0] 30) none) (fun j h => by cases h)
              have hc42 := hc21.alloc (.cells #[.int .i64 0, .int .i64 0, .int .i64 0, .int .i64 0, .int .i64 0, .int .i64 0] 30)
              have g42 := heap_newB b21 (.cells #[.int .i64 0, .int .i64 0, .int .i64 0, .int .i64 0, .int .i64 0, .int .i64 0] 30)
              refine held_call 5 47 21 #[.pointer (some ⟨g, 0, none⟩), .int .i64 ((x.r.seats.length : Nat) : Int)] rfl rfl (by kernel_rfl) rfl (exec_call Try.func21 (by kernel_rfl) (by kernel_rfl) _) ?_
              refine (l1Below_any A l c g x.r.seats.length _ hl hb (by omega) (by omega) hc42).mono ?_
              rintro e v43 ⟨y2, hy2, rfl, hc43, gr43⟩
              have b43 := b42.trans gr43
              have g43 := (gr43.block _ (blk_lt g42) (fun e => by injection e with e; omega)).trans g42
              refine ⟨_, rfl, b43, ?_⟩
              simp only [Act.put, List.setIfInBounds_toArray, List.set_cons_zero, List.set_cons_succ]
              refine held_call 10 52 47 #[.int .i64 1, .int .i64 ((NS : Nat) : Int)] rfl rfl (by kernel_rfl) rfl (exec_call Try.func47 (by kernel_rfl) (by kernel_rfl) _) ?_
              refine (l1Max_1 ((NS : Nat) : Int) _ (by omega)).mono ?_
              rintro e v44 ⟨rfl, rfl⟩
              refine ⟨_, rfl, b43, ?_⟩
              simp only [Act.put, List.setIfInBounds_toArray, List.set_cons_zero, List.set_cons_succ]
              refine held_call 11 53 21 #[.pointer (some ⟨g, 0, none⟩), .int .i64 ((NS : Nat) : Int)] rfl rfl (by kernel_rfl) rfl (exec_call Try.func21 (by kernel_rfl) (by kernel_rfl) _) ?_
              refine (l1Below_any A l c g NS _ hl hb (by omega) (by omega) hc43).mono ?_
              rintro e v45 ⟨y3, hy3, rfl, hc45, gr45⟩
              have b45 := b43.trans gr45
              have g45 := (gr45.block _ (blk_lt g43) (fun e => by injection e with e; omega)).trans g43
              refine ⟨_, rfl, b45, ?_⟩
              simp only [Act.put, List.setIfInBounds_toArray, List.set_cons_zero, List.set_cons_succ]
              refine held_take 12 54 (.int .i64 (1 + (y3 : Int))) rfl rfl (by kernel_rfl) (by kernel_rfl) (by kernel_rfl) (fun _ _ _ h => h) rfl b45 (fun w _ => exec_addI 1 (y3 : Int) _ w rfl (by omega) (by omega)) ?_
              simp only [Act.put, List.setIfInBounds_toArray, List.set_cons_zero, List.set_cons_succ]
              refine held_call 17 59 47 #[.int .i64 1, .int .i64 ((NT : Nat) : Int)] rfl rfl (by kernel_rfl) rfl (exec_call Try.func47 (by kernel_rfl) (by kernel_rfl) _) ?_
              refine (l1Max_1 ((NT : Nat) : Int) _ (by omega)).mono ?_
              rintro e v46 ⟨rfl, rfl⟩
              refine ⟨_, rfl, b45, ?_⟩
              simp only [Act.put, List.setIfInBounds_toArray, List.set_cons_zero, List.set_cons_succ]
              refine held_call 18 60 21 #[.pointer (some ⟨g, 0, none⟩), .int .i64 ((NT : Nat) : Int)] rfl rfl (by kernel_rfl) rfl (exec_call Try.func21 (by kernel_rfl) (by kernel_rfl) _) ?_
              refine (l1Below_any A l c g NT _ hl hb (by omega) (by omega) hc45).mono ?_
              rintro e v47 ⟨y4, hy4, rfl, hc47, gr47⟩
              have b47 := b45.trans gr47
              have g47 := (gr47.block _ (blk_lt g45) (fun e => by injection e with e; omega)).trans g45
              refine ⟨_, rfl, b47, ?_⟩
              simp only [Act.put, List.setIfInBounds_toArray, List.set_cons_zero, List.set_cons_succ]
              refine held_take 19 61 (rqA (⟨1, 1 + (y1 : Int), (y2 : Int), -1, 1 + (y3 : Int), (y4 : Int)⟩ : Rq)) rfl rfl (by kernel_rfl) (by kernel_rfl) (by kernel_rfl) (fun _ _ _ h => h) rfl b47 (fun w _ => exec_build_rq (⟨1, 1 + (y1 : Int), (y2 : Int), -1, 1 + (y3 : Int), (y4 : Int)⟩ : Rq) w) ?_
              simp only [Act.put, List.setIfInBounds_toArray, List.set_cons_zero, List.set_cons_succ]
              refine held_store 21 rfl rfl (by kernel_rfl) rfl (exec_store_rq _ (⟨1, 1 + (y1 : Int), (y2 : Int), -1, 1 + (y3 : Int), (y4 : Int)⟩ : Rq) _ g47) (putRq_grown (q := (⟨1, 1 + (y1 : Int), (y2 : Int), -1, 1 + (y3 : Int), (y4 : Int)⟩ : Rq)) b47 l42) ?_
              refine wpAnyH_done (by kernel_rfl) ?_ _
              have h9 := putRq_heap (q := (⟨1, 1 + (y1 : Int), (y2 : Int), -1, 1 + (y3 : Int), (y4 : Int)⟩ : Rq)) g47
              have c9 := putRq_cur (q := (⟨1, 1 + (y1 : Int), (y2 : Int), -1, 1 + (y3 : Int), (y4 : Int)⟩ : Rq)) hc47 (Nat.lt_of_lt_of_le hgW l42)
              have b9 := putRq_grown (q := (⟨1, 1 + (y1 : Int), (y2 : Int), -1, 1 + (y3 : Int), (y4 : Int)⟩ : Rq)) b47 l42
              go_wp2_with fail
              go_meet
              exact ⟨_, (⟨1, 1 + (y1 : Int), (y2 : Int), -1, 1 + (y3 : Int), (y4 : Int)⟩ : Rq), rfl, h9, l42, c9, b9⟩
          · skip
            simp only [Act.put, List.setIfInBounds_toArray, List.set_cons_zero, List.set_cons_succ]
            have l48 := b0.size
            have b48 := grown_step b0 (World.grownBy_alloc _ (.cells #[.int .i64 0, .int .i64 0, .int .i64 0, .int .i64 0, .int .i64 0, .int .i64 0] 30) none) (fun j h => by cases h)
            have hc48 := hc0.alloc (.cells #[.int .i64 0, .int .i64 0, .int .i64 0, .int .i64 0, .int .i64 0, .int .i64 0] 30)
            have g48 := heap_newB b0 (.cells #[.int .i64 0, .int .i64 0, .int .i64 0, .int .i64 0, .int .i64 0, .int .i64 0] 30)
            refine held_call 1 43 21 #[.pointer (some ⟨g, 0, none⟩), .int .i64 (14 : Int)] rfl rfl (by kernel_rfl) rfl (exec_call Try.func21 (by kernel_rfl) (by kernel_rfl) _) ?_
            refine (l1Below_any A l c g 14 _ hl hb (by omega) (by omega) hc48).mono ?_
            rintro e v49 ⟨y1, hy1, rfl, hc49, gr49⟩
            have b49 := b48.trans gr49
            have g49 := (gr49.block _ (blk_lt g48) (fun e => by injection e with e; omega)).trans g48
            refine ⟨_, rfl, b49, ?_⟩
            simp only [Act.put, List.setIfInBounds_toArray, List.set_cons_zero, List.set_cons_succ]
            refine held_take 2 44 (.int .i64 (1 + (y1 : Int))) rfl rfl (by kernel_rfl) (by kernel_rfl) (by kernel_rfl) (fun _ _ _ h => h) rfl b49 (fun w _ => exec_addI 1 (y1 : Int) _ w rfl (by omega) (by omega)) ?_
            simp only [Act.put, List.setIfInBounds_toArray, List.set_cons_zero, List.set_cons_succ]
            refine held_call 5 47 21 #[.pointer (some ⟨g, 0, none⟩), .int .i64 ((x.r.seats.length : Nat) : Int)] rfl rfl (by kernel_rfl) rfl (exec_call Try.func21 (by kernel_rfl) (by kernel_rfl) _) ?_
            refine (l1Below_any A l c g x.r.seats.length _ hl hb (by omega) (by omega) hc49).mono ?_
            rintro e v50 ⟨y2, hy2, rfl, hc50, gr50⟩
            have b50 := b49.trans gr50
            have g50 := (gr50.block _ (blk_lt g49) (fun e => by injection e with e; omega)).trans g49
            refine ⟨_, rfl, b50, ?_⟩
            simp only [Act.put, List.setIfInBounds_toArray, List.set_cons_zero, List.set_cons_succ]
            refine held_call 10 52 47 #[.int .i64 1, .int .i64 ((NS : Nat) : Int)] rfl rfl (by kernel_rfl) rfl (exec_call Try.func47 (by kernel_rfl) (by kernel_rfl) _) ?_
            refine (l1Max_1 ((NS : Nat) : Int) _ (by omega)).mono ?_
            rintro e v51 ⟨rfl, rfl⟩
            refine ⟨_, rfl, b50, ?_⟩
            simp only [Act.put, List.setIfInBounds_toArray, List.set_cons_zero, List.set_cons_succ]
            refine held_call 11 53 21 #[.pointer (some ⟨g, 0, none⟩), .int .i64 ((NS : Nat) : Int)] rfl rfl (by kernel_rfl) rfl (exec_call Try.func21 (by kernel_rfl) (by kernel_rfl) _) ?_
            refine (l1Below_any A l c g NS _ hl hb (by omega) (by omega) hc50).mono ?_
            rintro e v52 ⟨y3, hy3, rfl, hc52, gr52⟩
            have b52 := b50.trans gr52
            have g52 := (gr52.block _ (blk_lt g50) (fun e => by injection e with e; omega)).trans g50
            refine ⟨_, rfl, b52, ?_⟩
            simp only [Act.put, List.setIfInBounds_toArray, List.set_cons_zero, List.set_cons_succ]
            refine held_take 12 54 (.int .i64 (1 + (y3 : Int))) rfl rfl (by kernel_rfl) (by kernel_rfl) (by kernel_rfl) (fun _ _ _ h => h) rfl b52 (fun w _ => exec_addI 1 (y3 : Int) _ w rfl (by omega) (by omega)) ?_
            simp only [Act.put, List.setIfInBounds_toArray, List.set_cons_zero, List.set_cons_succ]
            refine held_call 17 59 47 #[.int .i64 1, .int .i64 ((NT : Nat) : Int)] rfl rfl (by kernel_rfl) rfl (exec_call Try.func47 (by kernel_rfl) (by kernel_rfl) _) ?_
            refine (l1Max_1 ((NT : Nat) : Int) _ (by omega)).mono ?_
            rintro e v53 ⟨rfl, rfl⟩
            refine ⟨_, rfl, b52, ?_⟩
            simp only [Act.put, List.setIfInBounds_toArray, List.set_cons_zero, List.set_cons_succ]
            refine held_call 18 60 21 #[.pointer (some ⟨g, 0, none⟩), .int .i64 ((NT : Nat) : Int)] rfl rfl (by kernel_rfl) rfl (exec_call Try.func21 (by kernel_rfl) (by kernel_rfl) _) ?_
            refine (l1Below_any A l c g NT _ hl hb (by omega) (by omega) hc52).mono ?_
            rintro e v54 ⟨y4, hy4, rfl, hc54, gr54⟩
            have b54 := b52.trans gr54
            have g54 := (gr54.block _ (blk_lt g52) (fun e => by injection e with e; omega)).trans g52
            refine ⟨_, rfl, b54, ?_⟩
            simp only [Act.put, List.setIfInBounds_toArray, List.set_cons_zero, List.set_cons_succ]
            refine held_take 19 61 (rqA (⟨1, 1 + (y1 : Int), (y2 : Int), -1, 1 + (y3 : Int), (y4 : Int)⟩ : Rq)) rfl rfl (by kernel_rfl) (by kernel_rfl) (by kernel_rfl) (fun _ _ _ h => h) rfl b54 (fun w _ => exec_build_rq (⟨1, 1 + (y1 : Int), (y2 : Int), -1, 1 + (y3 : Int), (y4 : Int)⟩ : Rq) w) ?_
            simp only [Act.put, List.setIfInBounds_toArray, List.set_cons_zero, List.set_cons_succ]
            refine held_store 21 rfl rfl (by kernel_rfl) rfl (exec_store_rq _ (⟨1, 1 + (y1 : Int), (y2 : Int), -1, 1 + (y3 : Int), (y4 : Int)⟩ : Rq) _ g54) (putRq_grown (q := (⟨1, 1 + (y1 : Int), (y2 : Int), -1, 1 + (y3 : Int), (y4 : Int)⟩ : Rq)) b54 l48) ?_
            refine wpAnyH_done (by kernel_rfl) ?_ _
            have h9 := putRq_heap (q := (⟨1, 1 + (y1 : Int), (y2 : Int), -1, 1 + (y3 : Int), (y4 : Int)⟩ : Rq)) g54
            have c9 := putRq_cur (q := (⟨1, 1 + (y1 : Int), (y2 : Int), -1, 1 + (y3 : Int), (y4 : Int)⟩ : Rq)) hc54 (Nat.lt_of_lt_of_le hgW l48)
            have b9 := putRq_grown (q := (⟨1, 1 + (y1 : Int), (y2 : Int), -1, 1 + (y3 : Int), (y4 : Int)⟩ : Rq)) b54 l48
            go_wp2_with fail
            go_meet
            exact ⟨_, (⟨1, 1 + (y1 : Int), (y2 : Int), -1, 1 + (y3 : Int), (y4 : Int)⟩ : Rq), rfl, h9, l48, c9, b9⟩
        case rest =>
          clear hc5 g5
          obtain ⟨gp, q, rfl, hp, hgp, hcv, gv⟩ := hcut
          go_wp2_with fail
          refine (l1Once_any A l c g 3 _ hl hb (by omega) (by omega) hcv).mono ?_
          rintro e v6 ⟨d6, rfl, hc6, gr6⟩
          have g6 := gv.trans gr6
          have hp6 := (gr6.block _ (blk_lt hp) (fun e => by injection e with e; omega)).trans hp
          clear hp hcv gv gr6
          cases d6
          · skip
            have a0 := cell_of_row _ _ 0 _ _ _ (hp6)
            have a1 := cell_of_row _ _ 1 _ _ _ (hp6)
            have a2 := cell_of_row _ _ 2 _ _ _ (hp6)
            have a3 := cell_of_row _ _ 3 _ _ _ (hp6)
            have a4 := cell_of_row _ _ 4 _ _ _ (hp6)
            have a5 := cell_of_row _ _ 5 _ _ _ (hp6)
            simp at a0 a1 a2 a3 a4 a5
            have hz := KZ.out _ (g6)
            have e0 := cell_of_row _ _ 0 _ _ _ hz
            have f0 := frozen_of_row _ _ 0 _ _ hz
            have e1 := cell_of_row _ _ 1 _ _ _ hz
            have f1 := frozen_of_row _ _ 1 _ _ hz
            have e2 := cell_of_row _ _ 2 _ _ _ hz
            have f2 := frozen_of_row _ _ 2 _ _ hz
            have e3 := cell_of_row _ _ 3 _ _ _ hz
            have f3 := frozen_of_row _ _ 3 _ _ hz
            have e4 := cell_of_row _ _ 4 _ _ _ hz
            have f4 := frozen_of_row _ _ 4 _ _ hz
            have e5 := cell_of_row _ _ 5 _ _ _ hz
            have f5 := frozen_of_row _ _ 5 _ _ hz
            simp at e0 e1 e2 e3 e4 e5
            have HN : Hid (GotRq w g A l c (.returned (rqA q)) (putRq _ (w.heap.size + 1) q)) := ⟨_, rfl, putRq_cur (hc6) (by omega), putRq_grown (gW.out.trans (g6)) (by omega)⟩
            clear hz
            unfold rqA putRq at HN
            go_wp2
            simp [bodyPost, results, Try.results22, go_sem, e0, e1, e2, e3, e4, e5]
            exact HN.out
          · skip
            go_wp2_with fail
            refine (l1Below_any A l c g x.r.seats.length _ hl hb (by omega) (by omega) hc6).mono ?_
            rintro e v7 ⟨y6, hy6, rfl, hc7, gr7⟩
            have g7 := g6.trans gr7
            have hp7 := (gr7.block _ (blk_lt hp6) (fun e => by injection e with e; omega)).trans hp6
            clear hp6 hc6 g6 gr7
            have s0 := cell_of_row _ _ 3 _ _ _ hp7
            have s1 := frozen_of_row _ _ 3 _ _ hp7
            simp at s0
            have hp8 : (v7.setCell ⟨gp, 3, none⟩ (.int .i64 (y6 : Int))).heap[gp]? = some (.cells #[.int .i64 q.kind, .int .i64 q.id, .int .i64 q.cabin, .int .i64 (y6 : Int), .int .i64 q.size, .int .i64 q.tier] 30) := Go.heap_setCell_same _ gp 3 _ _ (.int .i64 (y6 : Int)) hp7
            have hc8 := hc7.setCell gp 3 (.int .i64 (y6 : Int)) (by omega)
            have g8 := grown_setD g7 gp 3 (.int .i64 (y6 : Int)) hgp
            obtain ⟨U, eU⟩ : ∃ U, v7.setCell ⟨gp, 3, none⟩ (.int .i64 (y6 : Int)) = U := ⟨_, rfl⟩
            rw [eU] at hp8 hc8 g8
            clear hp7 hc7 g7
            have a0 := cell_of_row _ _ 0 _ _ _ (hp8)
            have a1 := cell_of_row _ _ 1 _ _ _ (hp8)
            have a2 := cell_of_row _ _ 2 _ _ _ (hp8)
            have a3 := cell_of_row _ _ 3 _ _ _ (hp8)
            have a4 := cell_of_row _ _ 4 _ _ _ (hp8)
            have a5 := cell_of_row _ _ 5 _ _ _ (hp8)
            simp at a0 a1 a2 a3 a4 a5
            have hz := KZ.out _ (g8)
            have e0 := cell_of_row _ _ 0 _ _ _ hz
            have f0 := frozen_of_row _ _ 0 _ _ hz
            have e1 := cell_of_row _ _ 1 _ _ _ hz
            have f1 := frozen_of_row _ _ 1 _ _ hz
            have e2 := cell_of_row _ _ 2 _ _ _ hz
            have f2 := frozen_of_row _ _ 2 _ _ hz
            have e3 := cell_of_row _ _ 3 _ _ _ hz
            have f3 := frozen_of_row _ _ 3 _ _ hz
            have e4 := cell_of_row _ _ 4 _ _ _ hz
            have f4 := frozen_of_row _ _ 4 _ _ hz
            have e5 := cell_of_row _ _ 5 _ _ _ hz
            have f5 := frozen_of_row _ _ 5 _ _ hz
            simp at e0 e1 e2 e3 e4 e5
            have HN : Hid (GotRq w g A l c (.returned (rqA (⟨q.kind, q.id, q.cabin, (y6 : Int), q.size, q.tier⟩ : Rq))) (putRq _ (w.heap.size + 1) (⟨q.kind, q.id, q.cabin, (y6 : Int), q.size, q.tier⟩ : Rq))) := ⟨_, rfl, putRq_cur (hc8) (by omega), putRq_grown (gW.out.trans (g8)) (by omega)⟩
            clear hz
            unfold rqA putRq at HN
            go_wp2
            simp [bodyPost, results, Try.results22, go_sem, e0, e1, e2, e3, e4, e5]
            exact HN.out
      · skip
        go_wp2_with fail
        go_cut [7] (fun s7 wx => ∃ (gp : Nat) (q : Rq), s7 = .pointer (some ⟨gp, 0, none⟩) ∧ wx.heap[gp]? = some (.cells #[.int .i64 q.kind, .int .i64 q.id, .int .i64 q.cabin, .int .i64 q.from_, .int .i64 q.size, .int .i64 q.tier] 30) ∧ W.heap.size ≤ gp ∧ Cur wx g A l c ∧ W.grownBy wx (some g))
        case first =>
          refine wp_region_held_drew (S := fun w' => Hid (W.grownBy w' (some g))) (by kernel_rfl) (g5.trans (grown_of_below (below_drawn (Below.refl _ _) 1) _)) (fun hHeld => ?_)
          have b0 := hHeld.out
          have hc0 := hc5.mem (below_drawn (Below.refl _ _) 1)
          refine held_take 0 42 (.pointer (some ⟨g, 0, none⟩)) rfl rfl (by kernel_rfl) (by kernel_rfl) (by kernel_rfl) (fun _ _ _ h => h) rfl b0 (fun w _ => rfl) ?_
          refine held_take 3 45 (.pointer (some ⟨g, 0, none⟩)) rfl rfl (by kernel_rfl) (by kernel_rfl) (by kernel_rfl) (fun _ _ _ h => h) rfl b0 (fun w _ => rfl) ?_
          simp only [Act.put, List.setIfInBounds_toArray, List.set_cons_zero, List.set_cons_succ]
          refine held_take 6 48 (.pointer (some ⟨g, 0, none⟩)) rfl rfl (by kernel_rfl) (by kernel_rfl) (by kernel_rfl) (fun _ _ _ h => h) rfl b0 (fun w _ => rfl) ?_
          refine held_take 13 55 (.pointer (some ⟨g, 0, none⟩)) rfl rfl (by kernel_rfl) (by kernel_rfl) (by kernel_rfl) (fun _ _ _ h => h) rfl b0 (fun w _ => rfl) ?_
          simp only [Act.put, List.setIfInBounds_toArray, List.set_cons_zero, List.set_cons_succ]
          refine held_take 4 46 (.int .i64 ((x.r.seats.length : Nat) : Int)) rfl rfl (by kernel_rfl) (by kernel_rfl) (by kernel_rfl) (fun _ _ _ h => h) rfl b0 (fun w _ => rfl) ?_
          refine held_take 7 49 (.pointer (some ⟨w.heap.size, 0, none⟩)) rfl rfl (by kernel_rfl) (by kernel_rfl) (by kernel_rfl) (fun _ _ _ h => h) rfl b0 (fun w _ => exec_fldHo _ 0 0 w (by simp)) ?_
          simp only [Act.put, List.setIfInBounds_toArray, List.set_cons_zero, List.set_cons_succ]
          refine held_take 8 50 (.pointer (some ⟨w.heap.size, 3, none⟩)) rfl rfl (by kernel_rfl) (by kernel_rfl) (by kernel_rfl) (fun _ _ _ h => h) rfl b0 (fun w _ => exec_fldRu _ 3 w (by omega)) ?_
          refine held_take 9 51 (.int .i64 (NS : Nat)) rfl rfl (by kernel_rfl) (by kernel_rfl) (by kernel_rfl) (fun _ _ _ h => h) rfl b0 (fun w h => exec_load1 3 _ 3 _ w (.inl rfl) (K3.out w h.out)) ?_
          simp only [Act.put, List.setIfInBounds_toArray, List.set_cons_zero, List.set_cons_succ]
          refine held_take 14 56 (.pointer (some ⟨w.heap.size, 0, none⟩)) rfl rfl (by kernel_rfl) (by kernel_rfl) (by kernel_rfl) (fun _ _ _ h => h) rfl b0 (fun w _ => exec_fldHo _ 0 0 w (by simp)) ?_
          refine held_take 15 57 (.pointer (some ⟨w.heap.size, 1, none⟩)) rfl rfl (by kernel_rfl) (by kernel_rfl) (by kernel_rfl) (fun _ _ _ h => h) rfl b0 (fun w _ => exec_fldRu _ 1 w (by omega)) ?_
          simp only [Act.put, List.setIfInBounds_toArray, List.set_cons_zero, List.set_cons_succ]
          refine held_take 16 58 (.int .i64 (NT : Nat)) rfl rfl (by kernel_rfl) (by kernel_rfl) (by kernel_rfl) (fun _ _ _ h => h) rfl b0 (fun w h => exec_load1 3 _ 1 _ w (.inl rfl) (K1.out w h.out)) ?_
          simp only [Act.put, List.setIfInBounds_toArray, List.set_cons_zero, List.set_cons_succ]
          refine wpAnyH_ready (rs := [1, 20]) (by kernel_rfl) (by simp) (ready_call 1 43 21 #[.pointer (some ⟨g, 0, none⟩), .int .i64 (14 : Int)] rfl rfl rfl (exec_call Try.func21 (by kernel_rfl) (by kernel_rfl) _) ?_ (ready_op 20 7 _ rfl rfl rfl (exec_alloc_rq _) (grown_step b0 (World.grownBy_alloc _ _ none) (fun j h => by cases h)) ?_ AllReadyH.nil))
          · skip
            refine (l1Below_any A l c g 14 _ hl hb (by omega) (by omega) hc0).mono ?_
            rintro e v21 ⟨y1, hy1, rfl, hc21, gr21⟩
            have b21 := b0.trans gr21
            refine ⟨_, rfl, b21, ?_⟩
            simp only [Act.put, List.setIfInBounds_toArray, List.set_cons_zero, List.set_cons_succ]
            refine held_take 2 44 (.int .i64 (1 + (y1 : Int))) rfl rfl (by kernel_rfl) (by kernel_rfl) (by kernel_rfl) (fun _ _ _ h => h) rfl b21 (fun w _ => exec_addI 1 (y1 : Int) _ w rfl (by omega) (by omega)) ?_
            simp only [Act.put, List.setIfInBounds_toArray, List.set_cons_zero, List.set_cons_succ]
            refine wpAnyH_ready (rs := [5, 20]) (by kernel_rfl) (by simp) (ready_call 5 47 21 #[.pointer (some ⟨g, 0, none⟩), .int .i64 ((x.r.seats.length : Nat) : Int)] rfl rfl rfl (exec_call Try.func21 (by kernel_rfl) (by kernel_rfl) _) ?_ (ready_op 20 7 _ rfl rfl rfl (exec_alloc_rq _) (grown_step b21 (World.grownBy_alloc _ _ none) (fun j h => by cases h)) ?_ AllReadyH.nil))
            · skip
              refine (l1Below_any A l c g x.r.seats.length _ hl hb (by omega) (by omega) hc21).mono ?_
              rintro e v22 ⟨y2, hy2, rfl, hc22, gr22⟩
              have b22 := b21.trans gr22
              refine ⟨_, rfl, b22, ?_⟩
              simp only [Act.put, List.setIfInBounds_toArray, List.set_cons_zero, List.set_cons_succ]
              refine wpAnyH_ready (rs := [10, 20]) (by kernel_rfl) (by simp) (ready_call 10 52 47 #[.int .i64 1, .int .i64 ((NS : Nat) : Int)] rfl rfl rfl (exec_call Try.func47 (by kernel_rfl) (by kernel_rfl) _) ?_ (ready_op 20 7 _ rfl rfl rfl (exec_alloc_rq _) (grown_step b22 (World.grownBy_alloc _ _ none) (fun j h => by cases h)) ?_ AllReadyH.nil))
              · skip
                refine (l1Max_1 ((NS : Nat) : Int) _ (by omega)).mono ?_
                rintro e v23 ⟨rfl, rfl⟩
                refine ⟨_, rfl, b22, ?_⟩
                simp only [Act.put, List.setIfInBounds_toArray, List.set_cons_zero, List.set_cons_succ]
                refine wpAnyH_ready (rs := [11, 20]) (by kernel_rfl) (by simp) (ready_call 11 53 21 #[.pointer (some ⟨g, 0, none⟩), .int .i64 ((NS : Nat) : Int)] rfl rfl rfl (exec_call Try.func21 (by kernel_rfl) (by kernel_rfl) _) ?_ (ready_op 20 7 _ rfl rfl rfl (exec_alloc_rq _) (grown_step b22 (World.grownBy_alloc _ _ none) (fun j h => by cases h)) ?_ AllReadyH.nil))
                · skip
                  refine (l1Below_any A l c g NS _ hl hb (by omega) (by omega) hc22).mono ?_
                  rintro e v24 ⟨y3, hy3, rfl, hc24, gr24⟩
                  have b24 := b22.trans gr24
                  refine ⟨_, rfl, b24, ?_⟩
                  simp only [Act.put, List.setIfInBounds_toArray, List.set_cons_zero, List.set_cons_succ]
                  refine held_take 12 54 (.int .i64 (1 + (y3 : Int))) rfl rfl (by kernel_rfl) (by kernel_rfl) (by kernel_rfl) (fun _ _ _ h => h) rfl b24 (fun w _ => exec_addI 1 (y3 : Int) _ w rfl (by omega) (by omega)) ?_
                  simp only [Act.put, List.setIfInBounds_toArray, List.set_cons_zero, List.set_cons_succ]
                  refine wpAnyH_ready (rs := [17, 20]) (by kernel_rfl) (by simp) (ready_call 17 59 47 #[.int .i64 1, .int .i64 ((NT : Nat) : Int)] rfl rfl rfl (exec_call Try.func47 (by kernel_rfl) (by kernel_rfl) _) ?_ (ready_op 20 7 _ rfl rfl rfl (exec_alloc_rq _) (grown_step b24 (World.grownBy_alloc _ _ none) (fun j h => by cases h)) ?_ AllReadyH.nil))
                  · skip
                    refine (l1Max_1 ((NT : Nat) : Int) _ (by omega)).mono ?_
                    rintro e v25 ⟨rfl, rfl⟩
                    refine ⟨_, rfl, b24, ?_⟩
                    simp only [Act.put, List.setIfInBounds_toArray, List.set_cons_zero, List.set_cons_succ]
                    refine wpAnyH_ready (rs := [18, 20]) (by kernel_rfl) (by simp) (ready_call 18 60 21 #[.pointer (some ⟨g, 0, none⟩), .int .i64 ((NT : Nat) : Int)] rfl rfl rfl (exec_call Try.func21 (by kernel_rfl) (by kernel_rfl) _) ?_ (ready_op 20 7 _ rfl rfl rfl (exec_alloc_rq _) (grown_step b24 (World.grownBy_alloc _ _ none) (fun j h => by cases h)) ?_ AllReadyH.nil))
                    · skip
                      refine (l1Below_any A l c g NT _ hl hb (by omega) (by omega) hc24).mono ?_
                      rintro e v26 ⟨y4, hy4, rfl, hc26, gr26⟩
                      have b26 := b24.trans gr26
                      refine ⟨_, rfl, b26, ?_⟩
                      simp only [Act.put, List.setIfInBounds_toArray, List.set_cons_zero, List.set_cons_succ]
                      refine held_take 19 61 (rqA (⟨1, 1 + (y1 : Int), (y2 : Int), -1, 1 + (y3 : Int), (y4 : Int)⟩ : Rq)) rfl rfl (by kernel_rfl) (by kernel_rfl) (by kernel_rfl) (fun _ _ _ h => h) rfl b26 (fun w _ => exec_build_rq (⟨1, 1 + (y1 : Int), (y2 : Int), -1, 1 + (y3 : Int), (y4 : Int)⟩ : Rq) w) ?_
                      simp only [Act.put, List.setIfInBounds_toArray, List.set_cons_zero, List.set_cons_succ]
                      refine held_op 20 7 _ rfl rfl (by kernel_rfl) rfl (exec_alloc_rq _) (grown_step b26 (World.grownBy_alloc _ _ none) (fun j h => by cases h)) ?_
                      simp only [Act.put, List.setIfInBounds_toArray, List.set_cons_zero, List.set_cons_succ]
                      have l27 := b26.size
                      have b27 := grown_step b26 (World.grownBy_alloc _ (.cells #[.int .i64 0, .int .i64 0, .int .i64 0, .int .i64 0, .int .i64 0, .int .i64 0] 30) none) (fun j h => by cases h)
                      have hc27 := hc26.alloc (.cells #[.int .i64 0, .int .i64 0, .int .i64 0, .int .i64 0, .int .i64 0, .int .i64 0] 30)
                      have g27 := heap_newB b26 (.cells #[.int .i64 0, .int .i64 0, .int .i64 0, .int .i64 0, .int .i64 0, .int .i64 0] 30)
                      refine held_store 21 rfl rfl (by kernel_rfl) rfl (exec_store_rq _ (⟨1, 1 + (y1 : Int), (y2 : Int), -1, 1 + (y3 : Int), (y4 : Int)⟩ : Rq) _ g27) (putRq_grown (q := (⟨1, 1 + (y1 : Int), (y2 : Int), -1, 1 + (y3 : Int), (y4 : Int)⟩ : Rq)) b27 l27) ?_
                      refine wpAnyH_done (by kernel_rfl) ?_ _
                      have h9 := putRq_heap (q := (⟨1, 1 + (y1 : Int), (y2 : Int), -1, 1 + (y3 : Int), (y4 : Int)⟩ : Rq)) g27
                      have c9 := putRq_cur (q := (⟨1, 1 + (y1 : Int), (y2 : Int), -1, 1 + (y3 : Int), (y4 : Int)⟩ : Rq)) hc27 (Nat.lt_of_lt_of_le hgW l27)
                      have b9 := putRq_grown (q := (⟨1, 1 + (y1 : Int), (y2 : Int), -1, 1 + (y3 : Int), (y4 : Int)⟩ : Rq)) b27 l27
                      go_wp2_with fail
                      go_meet
                      exact ⟨_, (⟨1, 1 + (y1 : Int), (y2 : Int), -1, 1 + (y3 : Int), (y4 : Int)⟩ : Rq), rfl, h9, l27, c9, b9⟩
                    · skip
                      simp only [Act.put, List.setIfInBounds_toArray, List.set_cons_zero, List.set_cons_succ]
                      have l28 := b24.size
                      have b28 := grown_step b24 (World.grownBy_alloc _ (.cells #[.int .i64 0, .int .i64 0, .int .i64 0, .int .i64 0, .int .i64 0, .int .i64 0] 30) none) (fun j h => by cases h)
                      have hc28 := hc24.alloc (.cells #[.int .i64 0, .int .i64 0, .int .i64 0, .int .i64 0, .int .i64 0, .int .i64 0] 30)
                      have g28 := heap_newB b24 (.cells #[.int .i64 0, .int .i64 0, .int .i64 0, .int .i64 0, .int .i64 0, .int .i64 0] 30)
                      refine held_call 18 60 21 #[.pointer (some ⟨g, 0, none⟩), .int .i64 ((NT : Nat) : Int)] rfl rfl (by kernel_rfl) rfl (exec_call Try.func21 (by kernel_rfl) (by kernel_rfl) _) ?_
                      refine (l1Below_any A l c g NT _ hl hb (by omega) (by omega) hc28).mono ?_
                      rintro e v29 ⟨y4, hy4, rfl, hc29, gr29⟩
                      have b29 := b28.trans gr29
                      have g29 := (gr29.block _ (blk_lt g28) (fun e => by injection e with e; omega)).trans g28
                      refine ⟨_, rfl, b29, ?_⟩
                      simp only [Act.put, List.setIfInBounds_toArray, List.set_cons_zero, List.set_cons_succ]
                      refine held_take 19 61 (rqA (⟨1, 1 + (y1 : Int), (y2 : Int), -1, 1 + (y3 : Int), (y4 : Int)⟩ : Rq)) rfl rfl (by kernel_rfl) (by kernel_rfl) (by kernel_rfl) (fun _ _ _ h => h) rfl b29 (fun w _ => exec_build_rq (⟨1, 1 + (y1 : Int), (y2 : Int), -1, 1 + (y3 : Int), (y4 : Int)⟩ : Rq) w) ?_
                      simp only [Act.put, List.setIfInBounds_toArray, List.set_cons_zero, List.set_cons_succ]
                      refine held_store 21 rfl rfl (by kernel_rfl) rfl (exec_store_rq _ (⟨1, 1 + (y1 : Int), (y2 : Int), -1, 1 + (y3 : Int), (y4 : Int)⟩ : Rq) _ g29) (putRq_grown (q := (⟨1, 1 + (y1 : Int), (y2 : Int), -1, 1 + (y3 : Int), (y4 : Int)⟩ : Rq)) b29 l28) ?_
                      refine wpAnyH_done (by kernel_rfl) ?_ _
                      have h9 := putRq_heap (q := (⟨1, 1 + (y1 : Int), (y2 : Int), -1, 1 + (y3 : Int), (y4 : Int)⟩ : Rq)) g29
                      have c9 := putRq_cur (q := (⟨1, 1 + (y1 : Int), (y2 : Int), -1, 1 + (y3 : Int), (y4 : Int)⟩ : Rq)) hc29 (Nat.lt_of_lt_of_le hgW l28)
                      have b9 := putRq_grown (q := (⟨1, 1 + (y1 : Int), (y2 : Int), -1, 1 + (y3 : Int), (y4 : Int)⟩ : Rq)) b29 l28
                      go_wp2_with fail
                      go_meet
                      exact ⟨_, (⟨1, 1 + (y1 : Int), (y2 : Int), -1, 1 + (y3 : Int), (y4 : Int)⟩ : Rq), rfl, h9, l28, c9, b9⟩
                  · skip
                    simp only [Act.put, List.setIfInBounds_toArray, List.set_cons_zero, List.set_cons_succ]
                    have l30 := b24.size
                    have b30 := grown_step b24 (World.grownBy_alloc _ (.cells #[.int .i64 0, .int .i64 0, .int .i64 0, .int .i64 0, .int .i64 0, .int .i64 0] 30) none) (fun j h => by cases h)
                    have hc30 := hc24.alloc (.cells #[.int .i64 0, .int .i64 0, .int .i64 0, .int .i64 0, .int .i64 0, .int .i64 0] 30)
                    have g30 := heap_newB b24 (.cells #[.int .i64 0, .int .i64 0, .int .i64 0, .int .i64 0, .int .i64 0, .int .i64 0] 30)
                    refine held_call 17 59 47 #[.int .i64 1, .int .i64 ((NT : Nat) : Int)] rfl rfl (by kernel_rfl) rfl (exec_call Try.func47 (by kernel_rfl) (by kernel_rfl) _) ?_
                    refine (l1Max_1 ((NT : Nat) : Int) _ (by omega)).mono ?_
                    rintro e v31 ⟨rfl, rfl⟩
                    refine ⟨_, rfl, b30, ?_⟩
                    simp only [Act.put, List.setIfInBounds_toArray, List.set_cons_zero, List.set_cons_succ]
                    refine held_call 18 60 21 #[.pointer (some ⟨g, 0, none⟩), .int .i64 ((NT : Nat) : Int)] rfl rfl (by kernel_rfl) rfl (exec_call Try.func21 (by kernel_rfl) (by kernel_rfl) _) ?_
                    refine (l1Below_any A l c g NT _ hl hb (by omega) (by omega) hc30).mono ?_
                    rintro e v32 ⟨y4, hy4, rfl, hc32, gr32⟩
                    have b32 := b30.trans gr32
                    have g32 := (gr32.block _ (blk_lt g30) (fun e => by injection e with e; omega)).trans g30
                    refine ⟨_, rfl, b32, ?_⟩
                    simp only [Act.put, List.setIfInBounds_toArray, List.set_cons_zero, List.set_cons_succ]
                    refine held_take 19 61 (rqA (⟨1, 1 + (y1 : Int), (y2 : Int), -1, 1 + (y3 : Int), (y4 : Int)⟩ : Rq)) rfl rfl (by kernel_rfl) (by kernel_rfl) (by kernel_rfl) (fun _ _ _ h => h) rfl b32 (fun w _ => exec_build_rq (⟨1, 1 + (y1 : Int), (y2 : Int), -1, 1 + (y3 : Int), (y4 : Int)⟩ : Rq) w) ?_
                    simp only [Act.put, List.setIfInBounds_toArray, List.set_cons_zero, List.set_cons_succ]
                    refine held_store 21 rfl rfl (by kernel_rfl) rfl (exec_store_rq _ (⟨1, 1 + (y1 : Int), (y2 : Int), -1, 1 + (y3 : Int), (y4 : Int)⟩ : Rq) _ g32) (putRq_grown (q := (⟨1, 1 + (y1 : Int), (y2 : Int), -1, 1 + (y3 : Int), (y4 : Int)⟩ : Rq)) b32 l30) ?_
                    refine wpAnyH_done (by kernel_rfl) ?_ _
                    have h9 := putRq_heap (q := (⟨1, 1 + (y1 : Int), (y2 : Int), -1, 1 + (y3 : Int), (y4 : Int)⟩ : Rq)) g32
                    have c9 := putRq_cur (q := (⟨1, 1 + (y1 : Int), (y2 : Int), -1, 1 + (y3 : Int), (y4 : Int)⟩ : Rq)) hc32 (Nat.lt_of_lt_of_le hgW l30)
                    have b9 := putRq_grown (q := (⟨1, 1 + (y1 : Int), (y2 : Int), -1, 1 + (y3 : Int), (y4 : Int)⟩ : Rq)) b32 l30
                    go_wp2_with fail
                    go_meet
                    exact ⟨_, (⟨1, 1 + (y1 : Int), (y2 : Int), -1, 1 + (y3 : Int), (y4 : Int)⟩ : Rq), rfl, h9, l30, c9, b9⟩
                · skip
                  simp only [Act.put, List.setIfInBounds_toArray, List.set_cons_zero, List.set_cons_succ]
                  have l33 := b22.size
                  have b33 := grown_step b22 (World.grownBy_alloc _ (.cells #[.int .i64 0, .int .i64 0, .int .i64 0, .int .i64 0, .int .i64 0, .int .i64 0] 30) none) (fun j h => by cases h)
                  have hc33 := hc22.alloc (.cells #[.int .i64 0, .int .i64 0, .int .i64 0, .int .i64 0, .int .i64 0, .int .i64 0] 30)
                  have g33 := heap_newB b22 (.cells #[.int .i64 0, .int .i64 0, .int .i64 0, .int .i64 0, .int .i64 0, .int .i64 0] 30)
                  refine held_call 11 53 21 #[.pointer (some ⟨g, 0, none⟩), .int .i64 ((NS : Nat) : Int)] rfl rfl (by kernel_rfl) rfl (exec_call Try.func21 (by kernel_rfl) (by kernel_rfl) _) ?_
                  refine (l1Below_any A l c g NS _ hl hb (by omega) (by omega) hc33).mono ?_
                  rintro e v34 ⟨y3, hy3, rfl, hc34, gr34⟩
                  have b34 := b33.trans gr34
                  have g34 := (gr34.block _ (blk_lt g33) (fun e => by injection e with e; omega)).trans g33
                  refine ⟨_, rfl, b34, ?_⟩
                  simp only [Act.put, List.setIfInBounds_toArray, List.set_cons_zero, List.set_cons_succ]
                  refine held_take 12 54 (.int .i64 (1 + (y3 : Int))) rfl rfl (by kernel_rfl) (by kernel_rfl) (by kernel_rfl) (fun _ _ _ h => h) rfl b34 (fun w _ => exec_addI 1 (y3 : Int) _ w rfl (by omega) (by omega)) ?_
                  simp only [Act.put, List.setIfInBounds_toArray, List.set_cons_zero, List.set_cons_succ]
                  refine held_call 17 59 47 #[.int .i64 1, .int .i64 ((NT : Nat) : Int)] rfl rfl (by kernel_rfl) rfl (exec_call Try.func47 (by kernel_rfl) (by kernel_rfl) _) ?_
                  refine (l1Max_1 ((NT : Nat) : Int) _ (by omega)).mono ?_
                  rintro e v35 ⟨rfl, rfl⟩
                  refine ⟨_, rfl, b34, ?_⟩
                  simp only [Act.put, List.setIfInBounds_toArray, List.set_cons_zero, List.set_cons_succ]
                  refine held_call 18 60 21 #[.pointer (some ⟨g, 0, none⟩), .int .i64 ((NT : Nat) : Int)] rfl rfl (by kernel_rfl) rfl (exec_call Try.func21 (by kernel_rfl) (by kernel_rfl) _) ?_
                  refine (l1Below_any A l c g NT _ hl hb (by omega) (by omega) hc34).mono ?_
                  rintro e v36 ⟨y4, hy4, rfl, hc36, gr36⟩
                  have b36 := b34.trans gr36
                  have g36 := (gr36.block _ (blk_lt g34) (fun e => by injection e with e; omega)).trans g34
                  refine ⟨_, rfl, b36, ?_⟩
                  simp only [Act.put, List.setIfInBounds_toArray, List.set_cons_zero, List.set_cons_succ]
                  refine held_take 19 61 (rqA (⟨1, 1 + (y1 : Int), (y2 : Int), -1, 1 + (y3 : Int), (y4 : Int)⟩ : Rq)) rfl rfl (by kernel_rfl) (by kernel_rfl) (by kernel_rfl) (fun _ _ _ h => h) rfl b36 (fun w _ => exec_build_rq (⟨1, 1 + (y1 : Int), (y2 : Int), -1, 1 + (y3 : Int), (y4 : Int)⟩ : Rq) w) ?_
                  simp only [Act.put, List.setIfInBounds_toArray, List.set_cons_zero, List.set_cons_succ]
                  refine held_store 21 rfl rfl (by kernel_rfl) rfl (exec_store_rq _ (⟨1, 1 + (y1 : Int), (y2 : Int), -1, 1 + (y3 : Int), (y4 : Int)⟩ : Rq) _ g36) (putRq_grown (q := (⟨1, 1 + (y1 : Int), (y2 : Int), -1, 1 + (y3 : Int), (y4 : Int)⟩ : Rq)) b36 l33) ?_
                  refine wpAnyH_done (by kernel_rfl) ?_ _
                  have h9 := putRq_heap (q := (⟨1, 1 + (y1 : Int), (y2 : Int), -1, 1 + (y3 : Int), (y4 : Int)⟩ : Rq)) g36
                  have c9 := putRq_cur (q := (⟨1, 1 + (y1 : Int), (y2 : Int), -1, 1 + (y3 : Int), (y4 : Int)⟩ : Rq)) hc36 (Nat.lt_of_lt_of_le hgW l33)
                  have b9 := putRq_grown (q := (⟨1, 1 + (y1 : Int), (y2 : Int), -1, 1 + (y3 : Int), (y4 : Int)⟩ : Rq)) b36 l33
                  go_wp2_with fail
                  go_meet
                  exact ⟨_, (⟨1, 1 + (y1 : Int), (y2 : Int), -1, 1 + (y3 : Int), (y4 : Int)⟩ : Rq), rfl, h9, l33, c9, b9⟩
              · skip
                simp only [Act.put, List.setIfInBounds_toArray, List.set_cons_zero, List.set_cons_succ]
                have l37 := b22.size
                have b37 := grown_step b22 (World.grownBy_alloc _ (.cells #[.int .i64 0, .int .i64 0, .int .i64 0, .int .i64 0, .int .i64 0, .int .i64 0] 30) none) (fun j h => by cases h)
                have hc37 := hc22.alloc (.cells #[.int .i64 0, .int .i64 0, .int .i64 0, .int .i64 0, .int .i64 0, .int .i64 0] 30)
                have g37 := heap_newB b22 (.cells #[.int .i64 0, .int .i64 0, .int .i64 0, .int .i64 0, .int .i64 0, .int .i64 0] 30)
                refine held_call 10 52 47 #[.int .i64 1, .int .i64 ((NS : Nat) : Int)] rfl rfl (by kernel_rfl) rfl (exec_call Try.func47 (by kernel_rfl) (by kernel_rfl) _) ?_
                refine (l1Max_1 ((NS : Nat) : Int) _ (by omega)).mono ?_
                rintro e v38 ⟨rfl, rfl⟩
                refine ⟨_, rfl, b37, ?_⟩
                simp only [Act.put, List.setIfInBounds_toArray, List.set_cons_zero, List.set_cons_succ]
                refine held_call 11 53 21 #[.pointer (some ⟨g, 0, none⟩), .int .i64 ((NS : Nat) : Int)] rfl rfl (by kernel_rfl) rfl (exec_call Try.func21 (by kernel_rfl) (by kernel_rfl) _) ?_
                refine (l1Below_any A l c g NS _ hl hb (by omega) (by omega) hc37).mono ?_
                rintro e v39 ⟨y3, hy3, rfl, hc39, gr39⟩
                have b39 := b37.trans gr39
                have g39 := (gr39.block _ (blk_lt g37) (fun e => by injection e with e; omega)).trans g37
                refine ⟨_, rfl, b39, ?_⟩
                simp only [Act.put, List.setIfInBounds_toArray, List.set_cons_zero, List.set_cons_succ]
                refine held_take 12 54 (.int .i64 (1 + (y3 : Int))) rfl rfl (by kernel_rfl) (by kernel_rfl) (by kernel_rfl) (fun _ _ _ h => h) rfl b39 (fun w _ => exec_addI 1 (y3 : Int) _ w rfl (by omega) (by omega)) ?_
                simp only [Act.put, List.setIfInBounds_toArray, List.set_cons_zero, List.set_cons_succ]
                refine held_call 17 59 47 #[.int .i64 1, .int .i64 ((NT : Nat) : Int)] rfl rfl (by kernel_rfl) rfl (exec_call Try.func47 (by kernel_rfl) (by kernel_rfl) _) ?_
                refine (l1Max_1 ((NT : Nat) : Int) _ (by omega)).mono ?_
                rintro e v40 ⟨rfl, rfl⟩
                refine ⟨_, rfl, b39, ?_⟩
                simp only [Act.put, List.setIfInBounds_toArray, List.set_cons_zero, List.set_cons_succ]
                refine held_call 18 60 21 #[.pointer (some ⟨g, 0, none⟩), .int .i64 ((NT : Nat) : Int)] rfl rfl (by kernel_rfl) rfl (exec_call Try.func21 (by kernel_rfl) (by kernel_rfl) _) ?_
                refine (l1Below_any A l c g NT _ hl hb (by omega) (by omega) hc39).mono ?_
                rintro e v41 ⟨y4, hy4, rfl, hc41, gr41⟩
                have b41 := b39.trans gr41
                have g41 := (gr41.block _ (blk_lt g39) (fun e => by injection e with e; omega)).trans g39
                refine ⟨_, rfl, b41, ?_⟩
                simp only [Act.put, List.setIfInBounds_toArray, List.set_cons_zero, List.set_cons_succ]
                refine held_take 19 61 (rqA (⟨1, 1 + (y1 : Int), (y2 : Int), -1, 1 + (y3 : Int), (y4 : Int)⟩ : Rq)) rfl rfl (by kernel_rfl) (by kernel_rfl) (by kernel_rfl) (fun _ _ _ h => h) rfl b41 (fun w _ => exec_build_rq (⟨1, 1 + (y1 : Int), (y2 : Int), -1, 1 + (y3 : Int), (y4 : Int)⟩ : Rq) w) ?_
                simp only [Act.put, List.setIfInBounds_toArray, List.set_cons_zero, List.set_cons_succ]
                refine held_store 21 rfl rfl (by kernel_rfl) rfl (exec_store_rq _ (⟨1, 1 + (y1 : Int), (y2 : Int), -1, 1 + (y3 : Int), (y4 : Int)⟩ : Rq) _ g41) (putRq_grown (q := (⟨1, 1 + (y1 : Int), (y2 : Int), -1, 1 + (y3 : Int), (y4 : Int)⟩ : Rq)) b41 l37) ?_
                refine wpAnyH_done (by kernel_rfl) ?_ _
                have h9 := putRq_heap (q := (⟨1, 1 + (y1 : Int), (y2 : Int), -1, 1 + (y3 : Int), (y4 : Int)⟩ : Rq)) g41
                have c9 := putRq_cur (q := (⟨1, 1 + (y1 : Int), (y2 : Int), -1, 1 + (y3 : Int), (y4 : Int)⟩ : Rq)) hc41 (Nat.lt_of_lt_of_le hgW l37)
                have b9 := putRq_grown (q := (⟨1, 1 + (y1 : Int), (y2 : Int), -1, 1 + (y3 : Int), (y4 : Int)⟩ : Rq)) b41 l37
                go_wp2_with fail
                go_meet
                exact ⟨_, (⟨1, 1 + (y1 : Int), (y2 : Int), -1, 1 + (y3 : Int), (y4 : Int)⟩ : Rq), rfl, h9, l37, c9, b9⟩
            · skip
              simp only [Act.put, List.setIfInBounds_toArray, List.set_cons_zero, List.set_cons_succ]
              have l42 := b21.size
              have b42 := grown_step b21 (World.grownBy_alloc _ (.cells #[.int .i64 0, .int .i64 0, .int .i64 0, .int .i64 0, .int .i64 0, .int .i64 0] 30) none) (fun j h => by cases h)
              have hc42 := hc21.alloc (.cells #[.int .i64 0, .int .i64 0, .int .i64 0, .int .i64 0, .int .i64 0, .int .i64 0] 30)
              have g42 := heap_newB b21 (.cells #[.int .i64 0, .int .i64 0, .int .i64 0, .int .i64 0, .int .i64 0, .int .i64 0] 30)
              refine held_call 5 47 21 #[.pointer (some ⟨g, 0, none⟩), .int .i64 ((x.r.seats.length : Nat) : Int)] rfl rfl (by kernel_rfl) rfl (exec_call Try.func21 (by kernel_rfl) (by kernel_rfl) _) ?_
              refine (l1Below_any A l c g x.r.seats.length _ hl hb (by omega) (by omega) hc42).mono ?_
              rintro e v43 ⟨y2, hy2, rfl, hc43, gr43⟩
              have b43 := b42.trans gr43
              have g43 := (gr43.block _ (blk_lt g42) (fun e => by injection e with e; omega)).trans g42
              refine ⟨_, rfl, b43, ?_⟩
              simp only [Act.put, List.setIfInBounds_toArray, List.set_cons_zero, List.set_cons_succ]
              refine held_call 10 52 47 #[.int .i64 1, .int .i64 ((NS : Nat) : Int)] rfl rfl (by kernel_rfl) rfl (exec_call Try.func47 (by kernel_rfl) (by kernel_rfl) _) ?_
              refine (l1Max_1 ((NS : Nat) : Int) _ (by omega)).mono ?_
              rintro e v44 ⟨rfl, rfl⟩
              refine ⟨_, rfl, b43, ?_⟩
              simp only [Act.put, List.setIfInBounds_toArray, List.set_cons_zero, List.set_cons_succ]
              refine held_call 11 53 21 #[.pointer (some ⟨g, 0, none⟩), .int .i64 ((NS : Nat) : Int)] rfl rfl (by kernel_rfl) rfl (exec_call Try.func21 (by kernel_rfl) (by kernel_rfl) _) ?_
              refine (l1Below_any A l c g NS _ hl hb (by omega) (by omega) hc43).mono ?_
              rintro e v45 ⟨y3, hy3, rfl, hc45, gr45⟩
              have b45 := b43.trans gr45
              have g45 := (gr45.block _ (blk_lt g43) (fun e => by injection e with e; omega)).trans g43
              refine ⟨_, rfl, b45, ?_⟩
              simp only [Act.put, List.setIfInBounds_toArray, List.set_cons_zero, List.set_cons_succ]
              refine held_take 12 54 (.int .i64 (1 + (y3 : Int))) rfl rfl (by kernel_rfl) (by kernel_rfl) (by kernel_rfl) (fun _ _ _ h => h) rfl b45 (fun w _ => exec_addI 1 (y3 : Int) _ w rfl (by omega) (by omega)) ?_
              simp only [Act.put, List.setIfInBounds_toArray, List.set_cons_zero, List.set_cons_succ]
              refine held_call 17 59 47 #[.int .i64 1, .int .i64 ((NT : Nat) : Int)] rfl rfl (by kernel_rfl) rfl (exec_call Try.func47 (by kernel_rfl) (by kernel_rfl) _) ?_
              refine (l1Max_1 ((NT : Nat) : Int) _ (by omega)).mono ?_
              rintro e v46 ⟨rfl, rfl⟩
              refine ⟨_, rfl, b45, ?_⟩
              simp only [Act.put, List.setIfInBounds_toArray, List.set_cons_zero, List.set_cons_succ]
              refine held_call 18 60 21 #[.pointer (some ⟨g, 0, none⟩), .int .i64 ((NT : Nat) : Int)] rfl rfl (by kernel_rfl) rfl (exec_call Try.func21 (by kernel_rfl) (by kernel_rfl) _) ?_
              refine (l1Below_any A l c g NT _ hl hb (by omega) (by omega) hc45).mono ?_
              rintro e v47 ⟨y4, hy4, rfl, hc47, gr47⟩
              have b47 := b45.trans gr47
              have g47 := (gr47.block _ (blk_lt g45) (fun e => by injection e with e; omega)).trans g45
              refine ⟨_, rfl, b47, ?_⟩
              simp only [Act.put, List.setIfInBounds_toArray, List.set_cons_zero, List.set_cons_succ]
              refine held_take 19 61 (rqA (⟨1, 1 + (y1 : Int), (y2 : Int), -1, 1 + (y3 : Int), (y4 : Int)⟩ : Rq)) rfl rfl (by kernel_rfl) (by kernel_rfl) (by kernel_rfl) (fun _ _ _ h => h) rfl b47 (fun w _ => exec_build_rq (⟨1, 1 + (y1 : Int), (y2 : Int), -1, 1 + (y3 : Int), (y4 : Int)⟩ : Rq) w) ?_
              simp only [Act.put, List.setIfInBounds_toArray, List.set_cons_zero, List.set_cons_succ]
              refine held_store 21 rfl rfl (by kernel_rfl) rfl (exec_store_rq _ (⟨1, 1 + (y1 : Int), (y2 : Int), -1, 1 + (y3 : Int), (y4 : Int)⟩ : Rq) _ g47) (putRq_grown (q := (⟨1, 1 + (y1 : Int), (y2 : Int), -1, 1 + (y3 : Int), (y4 : Int)⟩ : Rq)) b47 l42) ?_
              refine wpAnyH_done (by kernel_rfl) ?_ _
              have h9 := putRq_heap (q := (⟨1, 1 + (y1 : Int), (y2 : Int), -1, 1 + (y3 : Int), (y4 : Int)⟩ : Rq)) g47
              have c9 := putRq_cur (q := (⟨1, 1 + (y1 : Int), (y2 : Int), -1, 1 + (y3 : Int), (y4 : Int)⟩ : Rq)) hc47 (Nat.lt_of_lt_of_le hgW l42)
              have b9 := putRq_grown (q := (⟨1, 1 + (y1 : Int), (y2 : Int), -1, 1 + (y3 : Int), (y4 : Int)⟩ : Rq)) b47 l42
              go_wp2_with fail
              go_meet
              exact ⟨_, (⟨1, 1 + (y1 : Int), (y2 : Int), -1, 1 + (y3 : Int), (y4 : Int)⟩ : Rq), rfl, h9, l42, c9, b9⟩
          · skip
            simp only [Act.put, List.setIfInBounds_toArray, List.set_cons_zero, List.set_cons_succ]
            have l48 := b0.size
            have b48 := grown_step b0 (World.grownBy_alloc _ (.cells #[.int .i64 0, .int .i64 0, .int .i64 0, .int .i64 0, .int .i64 0, .int .i64 0] 30) none) (fun j h => by cases h)
            have hc48 := hc0.alloc (.cells #[.int .i64 0, .int .i64 0, .int .i64 0, .int .i64 0, .int .i64 0, .int .i64 0] 30)
            have g48 := heap_newB b0 (.cells #[.int .i64 0, .int .i64 0, .int .i64 0, .int .i64 0, .int .i64 0, .int .i64 0] 30)
            refine held_call 1 43 21 #[.pointer (some ⟨g, 0, none⟩), .int .i64 (14 : Int)] rfl rfl (by kernel_rfl) rfl (exec_call Try.func21 (by kernel_rfl) (by kernel_rfl) _) ?_
            refine (l1Below_any A l c g 14 _ hl hb (by omega) (by omega) hc48).mono ?_
            rintro e v49 ⟨y1, hy1, rfl, hc49, gr49⟩
            have b49 := b48.trans gr49
            have g49 := (gr49.block _ (blk_lt g48) (fun e => by injection e with e; omega)).trans g48
            refine ⟨_, rfl, b49, ?_⟩
            simp only [Act.put, List.setIfInBounds_toArray, List.set_cons_zero, List.set_cons_succ]
            refine held_take 2 44 (.int .i64 (1 + (y1 : Int))) rfl rfl (by kernel_rfl) (by kernel_rfl) (by kernel_rfl) (fun _ _ _ h => h) rfl b49 (fun w _ => exec_addI 1 (y1 : Int) _ w rfl (by omega) (by omega)) ?_
            simp only [Act.put, List.setIfInBounds_toArray, List.set_cons_zero, List.set_cons_succ]
            refine held_call 5 47 21 #[.pointer (some ⟨g, 0, none⟩), .int .i64 ((x.r.seats.length : Nat) : Int)] rfl rfl (by kernel_rfl) rfl (exec_call Try.func21 (by kernel_rfl) (by kernel_rfl) _) ?_
            refine (l1Below_any A l c g x.r.seats.length _ hl hb (by omega) (by omega) hc49).mono ?_
            rintro e v50 ⟨y2, hy2, rfl, hc50, gr50⟩
            have b50 := b49.trans gr50
            have g50 := (gr50.block _ (blk_lt g49) (fun e => by injection e with e; omega)).trans g49
            refine ⟨_, rfl, b50, ?_⟩
            simp only [Act.put, List.setIfInBounds_toArray, List.set_cons_zero, List.set_cons_succ]
            refine held_call 10 52 47 #[.int .i64 1, .int .i64 ((NS : Nat) : Int)] rfl rfl (by kernel_rfl) rfl (exec_call Try.func47 (by kernel_rfl) (by kernel_rfl) _) ?_
            refine (l1Max_1 ((NS : Nat) : Int) _ (by omega)).mono ?_
            rintro e v51 ⟨rfl, rfl⟩
            refine ⟨_, rfl, b50, ?_⟩
            simp only [Act.put, List.setIfInBounds_toArray, List.set_cons_zero, List.set_cons_succ]
            refine held_call 11 53 21 #[.pointer (some ⟨g, 0, none⟩), .int .i64 ((NS : Nat) : Int)] rfl rfl (by kernel_rfl) rfl (exec_call Try.func21 (by kernel_rfl) (by kernel_rfl) _) ?_
            refine (l1Below_any A l c g NS _ hl hb (by omega) (by omega) hc50).mono ?_
            rintro e v52 ⟨y3, hy3, rfl, hc52, gr52⟩
            have b52 := b50.trans gr52
            have g52 := (gr52.block _ (blk_lt g50) (fun e => by injection e with e; omega)).trans g50
            refine ⟨_, rfl, b52, ?_⟩
            simp only [Act.put, List.setIfInBounds_toArray, List.set_cons_zero, List.set_cons_succ]
            refine held_take 12 54 (.int .i64 (1 + (y3 : Int))) rfl rfl (by kernel_rfl) (by kernel_rfl) (by kernel_rfl) (fun _ _ _ h => h) rfl b52 (fun w _ => exec_addI 1 (y3 : Int) _ w rfl (by omega) (by omega)) ?_
            simp only [Act.put, List.setIfInBounds_toArray, List.set_cons_zero, List.set_cons_succ]
            refine held_call 17 59 47 #[.int .i64 1, .int .i64 ((NT : Nat) : Int)] rfl rfl (by kernel_rfl) rfl (exec_call Try.func47 (by kernel_rfl) (by kernel_rfl) _) ?_
            refine (l1Max_1 ((NT : Nat) : Int) _ (by omega)).mono ?_
            rintro e v53 ⟨rfl, rfl⟩
            refine ⟨_, rfl, b52, ?_⟩
            simp only [Act.put, List.setIfInBounds_toArray, List.set_cons_zero, List.set_cons_succ]
            refine held_call 18 60 21 #[.pointer (some ⟨g, 0, none⟩), .int .i64 ((NT : Nat) : Int)] rfl rfl (by kernel_rfl) rfl (exec_call Try.func21 (by kernel_rfl) (by kernel_rfl) _) ?_
            refine (l1Below_any A l c g NT _ hl hb (by omega) (by omega) hc52).mono ?_
            rintro e v54 ⟨y4, hy4, rfl, hc54, gr54⟩
            have b54 := b52.trans gr54
            have g54 := (gr54.block _ (blk_lt g52) (fun e => by injection e with e; omega)).trans g52
            refine ⟨_, rfl, b54, ?_⟩
            simp only [Act.put, List.setIfInBounds_toArray, List.set_cons_zero, List.set_cons_succ]
            refine held_take 19 61 (rqA (⟨1, 1 + (y1 : Int), (y2 : Int), -1, 1 + (y3 : Int), (y4 : Int)⟩ : Rq)) rfl rfl (by kernel_rfl) (by kernel_rfl) (by kernel_rfl) (fun _ _ _ h => h) rfl b54 (fun w _ => exec_build_rq (⟨1, 1 + (y1 : Int), (y2 : Int), -1, 1 + (y3 : Int), (y4 : Int)⟩ : Rq) w) ?_
            simp only [Act.put, List.setIfInBounds_toArray, List.set_cons_zero, List.set_cons_succ]
            refine held_store 21 rfl rfl (by kernel_rfl) rfl (exec_store_rq _ (⟨1, 1 + (y1 : Int), (y2 : Int), -1, 1 + (y3 : Int), (y4 : Int)⟩ : Rq) _ g54) (putRq_grown (q := (⟨1, 1 + (y1 : Int), (y2 : Int), -1, 1 + (y3 : Int), (y4 : Int)⟩ : Rq)) b54 l48) ?_
            refine wpAnyH_done (by kernel_rfl) ?_ _
            have h9 := putRq_heap (q := (⟨1, 1 + (y1 : Int), (y2 : Int), -1, 1 + (y3 : Int), (y4 : Int)⟩ : Rq)) g54
            have c9 := putRq_cur (q := (⟨1, 1 + (y1 : Int), (y2 : Int), -1, 1 + (y3 : Int), (y4 : Int)⟩ : Rq)) hc54 (Nat.lt_of_lt_of_le hgW l48)
            have b9 := putRq_grown (q := (⟨1, 1 + (y1 : Int), (y2 : Int), -1, 1 + (y3 : Int), (y4 : Int)⟩ : Rq)) b54 l48
            go_wp2_with fail
            go_meet
            exact ⟨_, (⟨1, 1 + (y1 : Int), (y2 : Int), -1, 1 + (y3 : Int), (y4 : Int)⟩ : Rq), rfl, h9, l48, c9, b9⟩
        case rest =>
          clear hc5 g5
          obtain ⟨gp, q, rfl, hp, hgp, hcv, gv⟩ := hcut
          go_wp2_with fail
          refine (l1Once_any A l c g 3 _ hl hb (by omega) (by omega) hcv).mono ?_
          rintro e v6 ⟨d6, rfl, hc6, gr6⟩
          have g6 := gv.trans gr6
          have hp6 := (gr6.block _ (blk_lt hp) (fun e => by injection e with e; omega)).trans hp
          clear hp hcv gv gr6
          cases d6
          · skip
            have a0 := cell_of_row _ _ 0 _ _ _ (hp6)
            have a1 := cell_of_row _ _ 1 _ _ _ (hp6)
            have a2 := cell_of_row _ _ 2 _ _ _ (hp6)
            have a3 := cell_of_row _ _ 3 _ _ _ (hp6)
            have a4 := cell_of_row _ _ 4 _ _ _ (hp6)
            have a5 := cell_of_row _ _ 5 _ _ _ (hp6)
            simp at a0 a1 a2 a3 a4 a5
            have hz := KZ.out _ (g6)
            have e0 := cell_of_row _ _ 0 _ _ _ hz
            have f0 := frozen_of_row _ _ 0 _ _ hz
            have e1 := cell_of_row _ _ 1 _ _ _ hz
            have f1 := frozen_of_row _ _ 1 _ _ hz
            have e2 := cell_of_row _ _ 2 _ _ _ hz
            have f2 := frozen_of_row _ _ 2 _ _ hz
            have e3 := cell_of_row _ _ 3 _ _ _ hz
            have f3 := frozen_of_row _ _ 3 _ _ hz
            have e4 := cell_of_row _ _ 4 _ _ _ hz
            have f4 := frozen_of_row _ _ 4 _ _ hz
            have e5 := cell_of_row _ _ 5 _ _ _ hz
            have f5 := frozen_of_row _ _ 5 _ _ hz
            simp at e0 e1 e2 e3 e4 e5
            have HN : Hid (GotRq w g A l c (.returned (rqA q)) (putRq _ (w.heap.size + 1) q)) := ⟨_, rfl, putRq_cur (hc6) (by omega), putRq_grown (gW.out.trans (g6)) (by omega)⟩
            clear hz
            unfold rqA putRq at HN
            go_wp2
            simp [bodyPost, results, Try.results22, go_sem, e0, e1, e2, e3, e4, e5]
            exact HN.out
          · skip
            go_wp2_with fail
            refine (l1Below_any A l c g x.r.seats.length _ hl hb (by omega) (by omega) hc6).mono ?_
            rintro e v7 ⟨y6, hy6, rfl, hc7, gr7⟩
            have g7 := g6.trans gr7
            have hp7 := (gr7.block _ (blk_lt hp6) (fun e => by injection e with e; omega)).trans hp6
            clear hp6 hc6 g6 gr7
            have s0 := cell_of_row _ _ 3 _ _ _ hp7
            have s1 := frozen_of_row _ _ 3 _ _ hp7
            simp at s0
            have hp8 : (v7.setCell ⟨gp, 3, none⟩ (.int .i64 (y6 : Int))).heap[gp]? = some (.cells #[.int .i64 q.kind, .int .i64 q.id, .int .i64 q.cabin, .int .i64 (y6 : Int), .int .i64 q.size, .int .i64 q.tier] 30) := Go.heap_setCell_same _ gp 3 _ _ (.int .i64 (y6 : Int)) hp7
            have hc8 := hc7.setCell gp 3 (.int .i64 (y6 : Int)) (by omega)
            have g8 := grown_setD g7 gp 3 (.int .i64 (y6 : Int)) hgp
            obtain ⟨U, eU⟩ : ∃ U, v7.setCell ⟨gp, 3, none⟩ (.int .i64 (y6 : Int)) = U := ⟨_, rfl⟩
            rw [eU] at hp8 hc8 g8
            clear hp7 hc7 g7
            have a0 := cell_of_row _ _ 0 _ _ _ (hp8)
            have a1 := cell_of_row _ _ 1 _ _ _ (hp8)
            have a2 := cell_of_row _ _ 2 _ _ _ (hp8)
            have a3 := cell_of_row _ _ 3 _ _ _ (hp8)
            have a4 := cell_of_row _ _ 4 _ _ _ (hp8)
            have a5 := cell_of_row _ _ 5 _ _ _ (hp8)
            simp at a0 a1 a2 a3 a4 a5
            have hz := KZ.out _ (g8)
            have e0 := cell_of_row _ _ 0 _ _ _ hz
            have f0 := frozen_of_row _ _ 0 _ _ hz
            have e1 := cell_of_row _ _ 1 _ _ _ hz
            have f1 := frozen_of_row _ _ 1 _ _ hz
            have e2 := cell_of_row _ _ 2 _ _ _ hz
            have f2 := frozen_of_row _ _ 2 _ _ hz
            have e3 := cell_of_row _ _ 3 _ _ _ hz
            have f3 := frozen_of_row _ _ 3 _ _ hz
            have e4 := cell_of_row _ _ 4 _ _ _ hz
            have f4 := frozen_of_row _ _ 4 _ _ hz
            have e5 := cell_of_row _ _ 5 _ _ _ hz
            have f5 := frozen_of_row _ _ 5 _ _ hz
            simp at e0 e1 e2 e3 e4 e5
            have HN : Hid (GotRq w g A l c (.returned (rqA (⟨q.kind, q.id, q.cabin, (y6 : Int), q.size, q.tier⟩ : Rq))) (putRq _ (w.heap.size + 1) (⟨q.kind, q.id, q.cabin, (y6 : Int), q.size, q.tier⟩ : Rq))) := ⟨_, rfl, putRq_cur (hc8) (by omega), putRq_grown (gW.out.trans (g8)) (by omega)⟩
            clear hz
            unfold rqA putRq at HN
            go_wp2
            simp [bodyPost, results, Try.results22, go_sem, e0, e1, e2, e3, e4, e5]
            exact HN.out
      · skip
        go_wp2_with fail
        go_cut [7] (fun s7 wx => ∃ (gp : Nat) (q : Rq), s7 = .pointer (some ⟨gp, 0, none⟩) ∧ wx.heap[gp]? = some (.cells #[.int .i64 q.kind, .int .i64 q.id, .int .i64 q.cabin, .int .i64 q.from_, .int .i64 q.size, .int .i64 q.tier] 30) ∧ W.heap.size ≤ gp ∧ Cur wx g A l c ∧ W.grownBy wx (some g))
        case first =>
          refine wp_region_held_drew (S := fun w' => Hid (W.grownBy w' (some g))) (by kernel_rfl) (g5.trans (grown_of_below (below_drawn (Below.refl _ _) 1) _)) (fun hHeld => ?_)
          have b0 := hHeld.out
          have hc0 := hc5.mem (below_drawn (Below.refl _ _) 1)
          refine held_take 0 42 (.pointer (some ⟨g, 0, none⟩)) rfl rfl (by kernel_rfl) (by kernel_rfl) (by kernel_rfl) (fun _ _ _ h => h) rfl b0 (fun w _ => rfl) ?_
          refine held_take 3 45 (.pointer (some ⟨g, 0, none⟩)) rfl rfl (by kernel_rfl) (by kernel_rfl) (by kernel_rfl) (fun _ _ _ h => h) rfl b0 (fun w _ => rfl) ?_
          simp only [Act.put, List.setIfInBounds_toArray, List.set_cons_zero, List.set_cons_succ]
          refine held_take 6 48 (.pointer (some ⟨g, 0, none⟩)) rfl rfl (by kernel_rfl) (by kernel_rfl) (by kernel_rfl) (fun _ _ _ h => h) rfl b0 (fun w _ => rfl) ?_
          refine held_take 13 55 (.pointer (some ⟨g, 0, none⟩)) rfl rfl (by kernel_rfl) (by kernel_rfl) (by kernel_rfl) (fun _ _ _ h => h) rfl b0 (fun w _ => rfl) ?_
          simp only [Act.put, List.setIfInBounds_toArray, List.set_cons_zero, List.set_cons_succ]
          refine held_take 4 46 (.int .i64 ((x.r.seats.length : Nat) : Int)) rfl rfl (by kernel_rfl) (by kernel_rfl) (by kernel_rfl) (fun _ _ _ h => h) rfl b0 (fun w _ => rfl) ?_
          refine held_take 7 49 (.pointer (some ⟨w.heap.size, 0, none⟩)) rfl rfl (by kernel_rfl) (by kernel_rfl) (by kernel_rfl) (fun _ _ _ h => h) rfl b0 (fun w _ => exec_fldHo _ 0 0 w (by simp)) ?_
          simp only [Act.put, List.setIfInBounds_toArray, List.set_cons_zero, List.set_cons_succ]
          refine held_take 8 50 (.pointer (some ⟨w.heap.size, 3, none⟩)) rfl rfl (by kernel_rfl) (by kernel_rfl) (by kernel_rfl) (fun _ _ _ h => h) rfl b0 (fun w _ => exec_fldRu _ 3 w (by omega)) ?_
          refine held_take 9 51 (.int .i64 (NS : Nat)) rfl rfl (by kernel_rfl) (by kernel_rfl) (by kernel_rfl) (fun _ _ _ h => h) rfl b0 (fun w h => exec_load1 3 _ 3 _ w (.inl rfl) (K3.out w h.out)) ?_
          simp only [Act.put, List.setIfInBounds_toArray, List.set_cons_zero, List.set_cons_succ]
          refine held_take 14 56 (.pointer (some ⟨w.heap.size, 0, none⟩)) rfl rfl (by kernel_rfl) (by kernel_rfl) (by kernel_rfl) (fun _ _ _ h => h) rfl b0 (fun w _ => exec_fldHo _ 0 0 w (by simp)) ?_
          refine held_take 15 57 (.pointer (some ⟨w.heap.size, 1, none⟩)) rfl rfl (by kernel_rfl) (by kernel_rfl) (by kernel_rfl) (fun _ _ _ h => h) rfl b0 (fun w _ => exec_fldRu _ 1 w (by omega)) ?_
          simp only [Act.put, List.setIfInBounds_toArray, List.set_cons_zero, List.set_cons_succ]
          refine held_take 16 58 (.int .i64 (NT : Nat)) rfl rfl (by kernel_rfl) (by kernel_rfl) (by kernel_rfl) (fun _ _ _ h => h) rfl b0 (fun w h => exec_load1 3 _ 1 _ w (.inl rfl) (K1.out w h.out)) ?_
          simp only [Act.put, List.setIfInBounds_toArray, List.set_cons_zero, List.set_cons_succ]
          refine wpAnyH_ready (rs := [1, 20]) (by kernel_rfl) (by simp) (ready_call 1 43 21 #[.pointer (some ⟨g, 0, none⟩), .int .i64 (14 : Int)] rfl rfl rfl (exec_call Try.func21 (by kernel_rfl) (by kernel_rfl) _) ?_ (ready_op 20 7 _ rfl rfl rfl (exec_alloc_rq _) (grown_step b0 (World.grownBy_alloc _ _ none) (fun j h => by cases h)) ?_ AllReadyH.nil))
          · skip
            refine (l1Below_any A l c g 14 _ hl hb (by omega) (by omega) hc0).mono ?_
            rintro e v21 ⟨y1, hy1, rfl, hc21, gr21⟩
            have b21 := b0.trans gr21
            refine ⟨_, rfl, b21, ?_⟩
            simp only [Act.put, List.setIfInBounds_toArray, List.set_cons_zero, List.set_cons_succ]
            refine held_take 2 44 (.int .i64 (1 + (y1 : Int))) rfl rfl (by kernel_rfl) (by kernel_rfl) (by kernel_rfl) (fun _ _ _ h => h) rfl b21 (fun w _ => exec_addI 1 (y1 : Int) _ w rfl (by omega) (by omega)) ?_
            simp only [Act.put, List.setIfInBounds_toArray, List.set_cons_zero, List.set_cons_succ]
            refine wpAnyH_ready (rs := [5, 20]) (by kernel_rfl) (by simp) (ready_call 5 47 21 #[.pointer (some ⟨g, 0, none⟩), .int .i64 ((x.r.seats.length : Nat) : Int)] rfl rfl rfl (exec_call Try.func21 (by kernel_rfl) (by kernel_rfl) _) ?_ (ready_op 20 7 _ rfl rfl rfl (exec_alloc_rq _) (grown_step b21 (World.grownBy_alloc _ _ none) (fun j h => by cases h)) ?_ AllReadyH.nil))
            · skip
              refine (l1Below_any A l c g x.r.seats.length _ hl hb (by omega) (by omega) hc21).mono ?_
              rintro e v22 ⟨y2, hy2, rfl, hc22, gr22⟩
              have b22 := b21.trans gr22
              refine ⟨_, rfl, b22, ?_⟩
              simp only [Act.put, List.setIfInBounds_toArray, List.set_cons_zero, List.set_cons_succ]
              refine wpAnyH_ready (rs := [10, 20]) (by kernel_rfl) (by simp) (ready_call 10 52 47 #[.int .i64 1, .int .i64 ((NS : Nat) : Int)] rfl rfl rfl (exec_call Try.func47 (by kernel_rfl) (by kernel_rfl) _) ?_ (ready_op 20 7 _ rfl rfl rfl (exec_alloc_rq _) (grown_step b22 (World.grownBy_alloc _ _ none) (fun j h => by cases h)) ?_ AllReadyH.nil))
              · skip
                refine (l1Max_1 ((NS : Nat) : Int) _ (by omega)).mono ?_
                rintro e v23 ⟨rfl, rfl⟩
                refine ⟨_, rfl, b22, ?_⟩
                simp only [Act.put, List.setIfInBounds_toArray, List.set_cons_zero, List.set_cons_succ]
                refine wpAnyH_ready (rs := [11, 20]) (by kernel_rfl) (by simp) (ready_call 11 53 21 #[.pointer (some ⟨g, 0, none⟩), .int .i64 ((NS : Nat) : Int)] rfl rfl rfl (exec_call Try.func21 (by kernel_rfl) (by kernel_rfl) _) ?_ (ready_op 20 7 _ rfl rfl rfl (exec_alloc_rq _) (grown_step b22 (World.grownBy_alloc _ _ none) (fun j h => by cases h)) ?_ AllReadyH.nil))
                · skip
                  refine (l1Below_any A l c g NS _ hl hb (by omega) (by omega) hc22).mono ?_
                  rintro e v24 ⟨y3, hy3, rfl, hc24, gr24⟩
                  have b24 := b22.trans gr24
                  refine ⟨_, rfl, b24, ?_⟩
                  simp only [Act.put, List.setIfInBounds_toArray, List.set_cons_zero, List.set_cons_succ]
                  refine held_take 12 54 (.int .i64 (1 + (y3 : Int))) rfl rfl (by kernel_rfl) (by kernel_rfl) (by kernel_rfl) (fun _ _ _ h => h) rfl b24 (fun w _ => exec_addI 1 (y3 : Int) _ w rfl (by omega) (by omega)) ?_
                  simp only [Act.put, List.setIfInBounds_toArray, List.set_cons_zero, List.set_cons_succ]
                  refine wpAnyH_ready (rs := [17, 20]) (by kernel_rfl) (by simp) (ready_call 17 59 47 #[.int .i64 1, .int .i64 ((NT : Nat) : Int)] rfl rfl rfl (exec_call Try.func47 (by kernel_rfl) (by kernel_rfl) _) ?_ (ready_op 20 7 _ rfl rfl rfl (exec_alloc_rq _) (grown_step b24 (World.grownBy_alloc _ _ none) (fun j h => by cases h)) ?_ AllReadyH.nil))
                  · skip
                    refine (l1Max_1 ((NT : Nat) : Int) _ (by omega)).mono ?_
                    rintro e v25 ⟨rfl, rfl⟩
                    refine ⟨_, rfl, b24, ?_⟩
                    simp only [Act.put, List.setIfInBounds_toArray, List.set_cons_zero, List.set_cons_succ]
                    refine wpAnyH_ready (rs := [18, 20]) (by kernel_rfl) (by simp) (ready_call 18 60 21 #[.pointer (some ⟨g, 0, none⟩), .int .i64 ((NT : Nat) : Int)] rfl rfl rfl (exec_call Try.func21 (by kernel_rfl) (by kernel_rfl) _) ?_ (ready_op 20 7 _ rfl rfl rfl (exec_alloc_rq _) (grown_step b24 (World.grownBy_alloc _ _ none) (fun j h => by cases h)) ?_ AllReadyH.nil))
                    · skip
                      refine (l1Below_any A l c g NT _ hl hb (by omega) (by omega) hc24).mono ?_
                      rintro e v26 ⟨y4, hy4, rfl, hc26, gr26⟩
                      have b26 := b24.trans gr26
                      refine ⟨_, rfl, b26, ?_⟩
                      simp only [Act.put, List.setIfInBounds_toArray, List.set_cons_zero, List.set_cons_succ]
                      refine held_take 19 61 (rqA (⟨1, 1 + (y1 : Int), (y2 : Int), -1, 1 + (y3 : Int), (y4 : Int)⟩ : Rq)) rfl rfl (by kernel_rfl) (by kernel_rfl) (by kernel_rfl) (fun _ _ _ h => h) rfl b26 (fun w _ => exec_build_rq (⟨1, 1 + (y1 : Int), (y2 : Int), -1, 1 + (y3 : Int), (y4 : Int)⟩ : Rq) w) ?_
                      simp only [Act.put, List.setIfInBounds_toArray, List.set_cons_zero, List.set_cons_succ]
                      refine held_op 20 7 _ rfl rfl (by kernel_rfl) rfl (exec_alloc_rq _) (grown_step b26 (World.grownBy_alloc _ _ none) (fun j h => by cases h)) ?_
                      simp only [Act.put, List.setIfInBounds_toArray, List.set_cons_zero, List.set_cons_succ]
                      have l27 := b26.size
                      have b27 := grown_step b26 (World.grownBy_alloc _ (.cells #[.int .i64 0, .int .i64 0, .int .i64 0, .int .i64 0, .int .i64 0, .int .i64 0] 30) none) (fun j h => by cases h)
                      have hc27 := hc26.alloc (.cells #[.int .i64 0, .int .i64 0, .int .i64 0, .int .i64 0, .int .i64 0, .int .i64 0] 30)
                      have g27 := heap_newB b26 (.cells #[.int .i64 0, .int .i64 0, .int .i64 0, .int .i64 0, .int .i64 0, .int .i64 0] 30)
                      refine held_store 21 rfl rfl (by kernel_rfl) rfl (exec_store_rq _ (⟨1, 1 + (y1 : Int), (y2 : Int), -1, 1 + (y3 : Int), (y4 : Int)⟩ : Rq) _ g27) (putRq_grown (q := (⟨1, 1 + (y1 : Int), (y2 : Int), -1, 1 + (y3 : Int), (y4 : Int)⟩ : Rq)) b27 l27) ?_
                      refine wpAnyH_done (by kernel_rfl) ?_ _
                      have h9 := putRq_heap (q := (⟨1, 1 + (y1 : Int), (y2 : Int), -1, 1 + (y3 : Int), (y4 : Int)⟩ : Rq)) g27
                      have c9 := putRq_cur (q := (⟨1, 1 + (y1 : Int), (y2 : Int), -1, 1 + (y3 : Int), (y4 : Int)⟩ : Rq)) hc27 (Nat.lt_of_lt_of_le hgW l27)
                      have b9 := putRq_grown (q := (⟨1, 1 + (y1 : Int), (y2 : Int), -1, 1 + (y3 : Int), (y4 : Int)⟩ : Rq)) b27 l27
                      go_wp2_with fail
                      go_meet
                      exact ⟨_, (⟨1, 1 + (y1 : Int), (y2 : Int), -1, 1 + (y3 : Int), (y4 : Int)⟩ : Rq), rfl, h9, l27, c9, b9⟩
                    · skip
                      simp only [Act.put, List.setIfInBounds_toArray, List.set_cons_zero, List.set_cons_succ]
                      have l28 := b24.size
                      have b28 := grown_step b24 (World.grownBy_alloc _ (.cells #[.int .i64 0, .int .i64 0, .int .i64 0, .int .i64 0, .int .i64 0, .int .i64 0] 30) none) (fun j h => by cases h)
                      have hc28 := hc24.alloc (.cells #[.int .i64 0, .int .i64 0, .int .i64 0, .int .i64 0, .int .i64 0, .int .i64 0] 30)
                      have g28 := heap_newB b24 (.cells #[.int .i64 0, .int .i64 0, .int .i64 0, .int .i64 0, .int .i64 0, .int .i64 0] 30)
                      refine held_call 18 60 21 #[.pointer (some ⟨g, 0, none⟩), .int .i64 ((NT : Nat) : Int)] rfl rfl (by kernel_rfl) rfl (exec_call Try.func21 (by kernel_rfl) (by kernel_rfl) _) ?_
                      refine (l1Below_any A l c g NT _ hl hb (by omega) (by omega) hc28).mono ?_
                      rintro e v29 ⟨y4, hy4, rfl, hc29, gr29⟩
                      have b29 := b28.trans gr29
                      have g29 := (gr29.block _ (blk_lt g28) (fun e => by injection e with e; omega)).trans g28
                      refine ⟨_, rfl, b29, ?_⟩
                      simp only [Act.put, List.setIfInBounds_toArray, List.set_cons_zero, List.set_cons_succ]
                      refine held_take 19 61 (rqA (⟨1, 1 + (y1 : Int), (y2 : Int), -1, 1 + (y3 : Int), (y4 : Int)⟩ : Rq)) rfl rfl (by kernel_rfl) (by kernel_rfl) (by kernel_rfl) (fun _ _ _ h => h) rfl b29 (fun w _ => exec_build_rq (⟨1, 1 + (y1 : Int), (y2 : Int), -1, 1 + (y3 : Int), (y4 : Int)⟩ : Rq) w) ?_
                      simp only [Act.put, List.setIfInBounds_toArray, List.set_cons_zero, List.set_cons_succ]
                      refine held_store 21 rfl rfl (by kernel_rfl) rfl (exec_store_rq _ (⟨1, 1 + (y1 : Int), (y2 : Int), -1, 1 + (y3 : Int), (y4 : Int)⟩ : Rq) _ g29) (putRq_grown (q := (⟨1, 1 + (y1 : Int), (y2 : Int), -1, 1 + (y3 : Int), (y4 : Int)⟩ : Rq)) b29 l28) ?_
                      refine wpAnyH_done (by kernel_rfl) ?_ _
                      have h9 := putRq_heap (q := (⟨1, 1 + (y1 : Int), (y2 : Int), -1, 1 + (y3 : Int), (y4 : Int)⟩ : Rq)) g29
                      have c9 := putRq_cur (q := (⟨1, 1 + (y1 : Int), (y2 : Int), -1, 1 + (y3 : Int), (y4 : Int)⟩ : Rq)) hc29 (Nat.lt_of_lt_of_le hgW l28)
                      have b9 := putRq_grown (q := (⟨1, 1 + (y1 : Int), (y2 : Int), -1, 1 + (y3 : Int), (y4 : Int)⟩ : Rq)) b29 l28
                      go_wp2_with fail
                      go_meet
                      exact ⟨_, (⟨1, 1 + (y1 : Int), (y2 : Int), -1, 1 + (y3 : Int), (y4 : Int)⟩ : Rq), rfl, h9, l28, c9, b9⟩
                  · skip
                    simp only [Act.put, List.setIfInBounds_toArray, List.set_cons_zero, List.set_cons_succ]
                    have l30 := b24.size
                    have b30 := grown_step b24 (World.grownBy_alloc _ (.cells #[.int .i64 0, .int .i64 0, .int .i64 0, .int .i64 0, .int .i64 0, .int .i64 0] 30) none) (fun j h => by cases h)
                    have hc30 := hc24.alloc (.cells #[.int .i64 0, .int .i64 0, .int .i64 0, .int .i64 0, .int .i64 0, .int .i64 0] 30)
                    have g30 := heap_newB b24 (.cells #[.int .i64 0, .int .i64 0, .int .i64 0, .int .i64 0, .int .i64 0, .int .i64 0] 30)
                    refine held_call 17 59 47 #[.int .i64 1, .int .i64 ((NT : Nat) : Int)] rfl rfl (by kernel_rfl) rfl (exec_call Try.func47 (by kernel_rfl) (by kernel_rfl) _) ?_
                    refine (l1Max_1 ((NT : Nat) : Int) _ (by omega)).mono ?_
                    rintro e v31 ⟨rfl, rfl⟩
                    refine ⟨_, rfl, b30, ?_⟩
                    simp only [Act.put, List.setIfInBounds_toArray, List.set_cons_zero, List.set_cons_succ]
                    refine held_call 18 60 21 #[.pointer (some ⟨g, 0, none⟩), .int .i64 ((NT : Nat) : Int)] rfl rfl (by kernel_rfl) rfl (exec_call Try.func21 (by kernel_rfl) (by kernel_rfl) _) ?_
                    refine (l1Below_any A l c g NT _ hl hb (by omega) (by omega) hc30).mono ?_
                    rintro e v32 ⟨y4, hy4, rfl, hc32, gr32⟩
                    have b32 := b30.trans gr32
                    have g32 := (gr32.block _ (blk_lt g30) (fun e => by injection e with e; omega)).trans g30
                    refine ⟨_, rfl, b32, ?_⟩
                    simp only [Act.put, List.setIfInBounds_toArray, List.set_cons_zero, List.set_cons_succ]
                    refine held_take 19 61 (rqA (⟨1, 1 + (y1 : Int), (y2 : Int), -1, 1 + (y3 : Int), (y4 : Int)⟩ : Rq)) rfl rfl (by kernel_rfl) (by kernel_rfl) (by kernel_rfl) (fun _ _ _ h => h) rfl b32 (fun w _ => exec_build_rq (⟨1, 1 + (y1 : Int), (y2 : Int), -1, 1 + (y3 : Int), (y4 : Int)⟩ : Rq) w) ?_
                    simp only [Act.put, List.setIfInBounds_toArray, List.set_cons_zero, List.set_cons_succ]
                    refine held_store 21 rfl rfl (by kernel_rfl) rfl (exec_store_rq _ (⟨1, 1 + (y1 : Int), (y2 : Int), -1, 1 + (y3 : Int), (y4 : Int)⟩ : Rq) _ g32) (putRq_grown (q := (⟨1, 1 + (y1 : Int), (y2 : Int), -1, 1 + (y3 : Int), (y4 : Int)⟩ : Rq)) b32 l30) ?_
                    refine wpAnyH_done (by kernel_rfl) ?_ _
                    have h9 := putRq_heap (q := (⟨1, 1 + (y1 : Int), (y2 : Int), -1, 1 + (y3 : Int), (y4 : Int)⟩ : Rq)) g32
                    have c9 := putRq_cur (q := (⟨1, 1 + (y1 : Int), (y2 : Int), -1, 1 + (y3 : Int), (y4 : Int)⟩ : Rq)) hc32 (Nat.lt_of_lt_of_le hgW l30)
                    have b9 := putRq_grown (q := (⟨1, 1 + (y1 : Int), (y2 : Int), -1, 1 + (y3 : Int), (y4 : Int)⟩ : Rq)) b32 l30
                    go_wp2_with fail
                    go_meet
                    exact ⟨_, (⟨1, 1 + (y1 : Int), (y2 : Int), -1, 1 + (y3 : Int), (y4 : Int)⟩ : Rq), rfl, h9, l30, c9, b9⟩
                · skip
                  simp only [Act.put, List.setIfInBounds_toArray, List.set_cons_zero, List.set_cons_succ]
                  have l33 := b22.size
                  have b33 := grown_step b22 (World.grownBy_alloc _ (.cells #[.int .i64 0, .int .i64 0, .int .i64 0, .int .i64 0, .int .i64 0, .int .i64 0] 30) none) (fun j h => by cases h)
                  have hc33 := hc22.alloc (.cells #[.int .i64 0, .int .i64 0, .int .i64 0, .int .i64 0, .int .i64 0, .int .i64 0] 30)
                  have g33 := heap_newB b22 (.cells #[.int .i64 0, .int .i64 0, .int .i64 0, .int .i64 0, .int .i64 0, .int .i64 0] 30)
                  refine held_call 11 53 21 #[.pointer (some ⟨g, 0, none⟩), .int .i64 ((NS : Nat) : Int)] rfl rfl (by kernel_rfl) rfl (exec_call Try.func21 (by kernel_rfl) (by kernel_rfl) _) ?_
                  refine (l1Below_any A l c g NS _ hl hb (by omega) (by omega) hc33).mono ?_
                  rintro e v34 ⟨y3, hy3, rfl, hc34, gr34⟩
                  have b34 := b33.trans gr34
                  have g34 := (gr34.block _ (blk_lt g33) (fun e => by injection e with e; omega)).trans g33
                  refine ⟨_, rfl, b34, ?_⟩
                  simp only [Act.put, List.setIfInBounds_toArray, List.set_cons_zero, List.set_cons_succ]
                  refine held_take 12 54 (.int .i64 (1 + (y3 : Int))) rfl rfl (by kernel_rfl) (by kernel_rfl) (by kernel_rfl) (fun _ _ _ h => h) rfl b34 (fun w _ => exec_addI 1 (y3 : Int) _ w rfl (by omega) (by omega)) ?_
                  simp only [Act.put, List.setIfInBounds_toArray, List.set_cons_zero, List.set_cons_succ]
                  refine held_call 17 59 47 #[.int .i64 1, .int .i64 ((NT : Nat) : Int)] rfl rfl (by kernel_rfl) rfl (exec_call Try.func47 (by kernel_rfl) (by kernel_rfl) _) ?_
                  refine (l1Max_1 ((NT : Nat) : Int) _ (by omega)).mono ?_
                  rintro e v35 ⟨rfl, rfl⟩
                  refine ⟨_, rfl, b34, ?_⟩
                  simp only [Act.put, List.setIfInBounds_toArray, List.set_cons_zero, List.set_cons_succ]
                  refine held_call 18 60 21 #[.pointer (some ⟨g, 0, none⟩), .int .i64 ((NT : Nat) : Int)] rfl rfl (by kernel_rfl) rfl (exec_call Try.func21 (by kernel_rfl) (by kernel_rfl) _) ?_
                  refine (l1Below_any A l c g NT _ hl hb (by omega) (by omega) hc34).mono ?_
                  rintro e v36 ⟨y4, hy4, rfl, hc36, gr36⟩
                  have b36 := b34.trans gr36
                  have g36 := (gr36.block _ (blk_lt g34) (fun e => by injection e with e; omega)).trans g34
                  refine ⟨_, rfl, b36, ?_⟩
                  simp only [Act.put, List.setIfInBounds_toArray, List.set_cons_zero, List.set_cons_succ]
                  refine held_take 19 61 (rqA (⟨1, 1 + (y1 : Int), (y2 : Int), -1, 1 + (y3 : Int), (y4 : Int)⟩ : Rq)) rfl rfl (by kernel_rfl) (by kernel_rfl) (by kernel_rfl) (fun _ _ _ h => h) rfl b36 (fun w _ => exec_build_rq (⟨1, 1 + (y1 : Int), (y2 : Int), -1, 1 + (y3 : Int), (y4 : Int)⟩ : Rq) w) ?_
                  simp only [Act.put, List.setIfInBounds_toArray, List.set_cons_zero, List.set_cons_succ]
                  refine held_store 21 rfl rfl (by kernel_rfl) rfl (exec_store_rq _ (⟨1, 1 + (y1 : Int), (y2 : Int), -1, 1 + (y3 : Int), (y4 : Int)⟩ : Rq) _ g36) (putRq_grown (q := (⟨1, 1 + (y1 : Int), (y2 : Int), -1, 1 + (y3 : Int), (y4 : Int)⟩ : Rq)) b36 l33) ?_
                  refine wpAnyH_done (by kernel_rfl) ?_ _
                  have h9 := putRq_heap (q := (⟨1, 1 + (y1 : Int), (y2 : Int), -1, 1 + (y3 : Int), (y4 : Int)⟩ : Rq)) g36
                  have c9 := putRq_cur (q := (⟨1, 1 + (y1 : Int), (y2 : Int), -1, 1 + (y3 : Int), (y4 : Int)⟩ : Rq)) hc36 (Nat.lt_of_lt_of_le hgW l33)
                  have b9 := putRq_grown (q := (⟨1, 1 + (y1 : Int), (y2 : Int), -1, 1 + (y3 : Int), (y4 : Int)⟩ : Rq)) b36 l33
                  go_wp2_with fail
                  go_meet
                  exact ⟨_, (⟨1, 1 + (y1 : Int), (y2 : Int), -1, 1 + (y3 : Int), (y4 : Int)⟩ : Rq), rfl, h9, l33, c9, b9⟩
              · skip
                simp only [Act.put, List.setIfInBounds_toArray, List.set_cons_zero, List.set_cons_succ]
                have l37 := b22.size
                have b37 := grown_step b22 (World.grownBy_alloc _ (.cells #[.int .i64 0, .int .i64 0, .int .i64 0, .int .i64 0, .int .i64 0, .int .i64 0] 30) none) (fun j h => by cases h)
                have hc37 := hc22.alloc (.cells #[.int .i64 0, .int .i64 0, .int .i64 0, .int .i64 0, .int .i64 0, .int .i64 0] 30)
                have g37 := heap_newB b22 (.cells #[.int .i64 0, .int .i64 0, .int .i64 0, .int .i64 0, .int .i64 0, .int .i64 0] 30)
                refine held_call 10 52 47 #[.int .i64 1, .int .i64 ((NS : Nat) : Int)] rfl rfl (by kernel_rfl) rfl (exec_call Try.func47 (by kernel_rfl) (by kernel_rfl) _) ?_
                refine (l1Max_1 ((NS : Nat) : Int) _ (by omega)).mono ?_
                rintro e v38 ⟨rfl, rfl⟩
                refine ⟨_, rfl, b37, ?_⟩
                simp only [Act.put, List.setIfInBounds_toArray, List.set_cons_zero, List.set_cons_succ]
                refine held_call 11 53 21 #[.pointer (some ⟨g, 0, none⟩), .int .i64 ((NS : Nat) : Int)] rfl rfl (by kernel_rfl) rfl (exec_call Try.func21 (by kernel_rfl) (by kernel_rfl) _) ?_
                refine (l1Below_any A l c g NS _ hl hb (by omega) (by omega) hc37).mono ?_
                rintro e v39 ⟨y3, hy3, rfl, hc39, gr39⟩
                have b39 := b37.trans gr39
                have g39 := (gr39.block _ (blk_lt g37) (fun e => by injection e with e; omega)).trans g37
                refine ⟨_, rfl, b39, ?_⟩
                simp only [Act.put, List.setIfInBounds_toArray, List.set_cons_zero, List.set_cons_succ]
                refine held_take 12 54 (.int .i64 (1 + (y3 : Int))) rfl rfl (by kernel_rfl) (by kernel_rfl) (by kernel_rfl) (fun _ _ _ h => h) rfl b39 (fun w _ => exec_addI 1 (y3 : Int) _ w rfl (by omega) (by omega)) ?_
                simp only [Act.put, List.setIfInBounds_toArray, List.set_cons_zero, List.set_cons_succ]
                refine held_call 17 59 47 #[.int .i64 1, .int .i64 ((NT : Nat) : Int)] rfl rfl (by kernel_rfl) rfl (exec_call Try.func47 (by kernel_rfl) (by kernel_rfl) _) ?_
                refine (l1Max_1 ((NT : Nat) : Int) _ (by omega)).mono ?_
                rintro e v40 ⟨rfl, rfl⟩
                refine ⟨_, rfl, b39, ?_⟩
                simp only [Act.put, List.setIfInBounds_toArray, List.set_cons_zero, List.set_cons_succ]
                refine held_call 18 60 21 #[.pointer (some ⟨g, 0, none⟩), .int .i64 ((NT : Nat) : Int)] rfl rfl (by kernel_rfl) rfl (exec_call Try.func21 (by kernel_rfl) (by kernel_rfl) _) ?_
                refine (l1Below_any A l c g NT _ hl hb (by omega) (by omega) hc39).mono ?_
                rintro e v41 ⟨y4, hy4, rfl, hc41, gr41⟩
                have b41 := b39.trans gr41
                have g41 := (gr41.block _ (blk_lt g39) (fun e => by injection e with e; omega)).trans g39
                refine ⟨_, rfl, b41, ?_⟩
                simp only [Act.put, List.setIfInBounds_toArray, List.set_cons_zero, List.set_cons_succ]
                refine held_take 19 61 (rqA (⟨1, 1 + (y1 : Int), (y2 : Int), -1, 1 + (y3 : Int), (y4 : Int)⟩ : Rq)) rfl rfl (by kernel_rfl) (by kernel_rfl) (by kernel_rfl) (fun _ _ _ h => h) rfl b41 (fun w _ => exec_build_rq (⟨1, 1 + (y1 : Int), (y2 : Int), -1, 1 + (y3 : Int), (y4 : Int)⟩ : Rq) w) ?_
                simp only [Act.put, List.setIfInBounds_toArray, List.set_cons_zero, List.set_cons_succ]
                refine held_store 21 rfl rfl (by kernel_rfl) rfl (exec_store_rq _ (⟨1, 1 + (y1 : Int), (y2 : Int), -1, 1 + (y3 : Int), (y4 : Int)⟩ : Rq) _ g41) (putRq_grown (q := (⟨1, 1 + (y1 : Int), (y2 : Int), -1, 1 + (y3 : Int), (y4 : Int)⟩ : Rq)) b41 l37) ?_
                refine wpAnyH_done (by kernel_rfl) ?_ _
                have h9 := putRq_heap (q := (⟨1, 1 + (y1 : Int), (y2 : Int), -1, 1 + (y3 : Int), (y4 : Int)⟩ : Rq)) g41
                have c9 := putRq_cur (q := (⟨1, 1 + (y1 : Int), (y2 : Int), -1, 1 + (y3 : Int), (y4 : Int)⟩ : Rq)) hc41 (Nat.lt_of_lt_of_le hgW l37)
                have b9 := putRq_grown (q := (⟨1, 1 + (y1 : Int), (y2 : Int), -1, 1 + (y3 : Int), (y4 : Int)⟩ : Rq)) b41 l37
                go_wp2_with fail
                go_meet
                exact ⟨_, (⟨1, 1 + (y1 : Int), (y2 : Int), -1, 1 + (y3 : Int), (y4 : Int)⟩ : Rq), rfl, h9, l37, c9, b9⟩
            · skip
              simp only [Act.put, List.setIfInBounds_toArray, List.set_cons_zero, List.set_cons_succ]
              have l42 := b21.size
              have b42 := grown_step b21 (World.grownBy_alloc _ (.cells #[.int .i64 0, .int .i64 0, .int .i64 0, .int .i64 0, .int .i64 0, .int .i64 0] 30) none) (fun j h => by cases h)
              have hc42 := hc21.alloc (.cells #[.int .i64 0, .int .i64 0, .int .i64 0, .int .i64 0, .int .i64 0, .int .i64 0] 30)
              have g42 := heap_newB b21 (.cells #[.int .i64 0, .int .i64 0, .int .i64 0, .int .i64 0, .int .i64 0, .int .i64 0] 30)
              refine held_call 5 47 21 #[.pointer (some ⟨g, 0, none⟩), .int .i64 ((x.r.seats.length : Nat) : Int)] rfl rfl (by kernel_rfl) rfl (exec_call Try.func21 (by kernel_rfl) (by kernel_rfl) _) ?_
              refine (l1Below_any A l c g x.r.seats.length _ hl hb (by omega) (by omega) hc42).mono ?_
              rintro e v43 ⟨y2, hy2, rfl, hc43, gr43⟩
              have b43 := b42.trans gr43
              have g43 := (gr43.block _ (blk_lt g42) (fun e => by injection e with e; omega)).trans g42
              refine ⟨_, rfl, b43, ?_⟩
              simp only [Act.put, List.setIfInBounds_toArray, List.set_cons_zero, List.set_cons_succ]
              refine held_call 10 52 47 #[.int .i64 1, .int .i64 ((NS : Nat) : Int)] rfl rfl (by kernel_rfl) rfl (exec_call Try.func47 (by kernel_rfl) (by kernel_rfl) _) ?_
              refine (l1Max_1 ((NS : Nat) : Int) _ (by omega)).mono ?_
              rintro e v44 ⟨rfl, rfl⟩
              refine ⟨_, rfl, b43, ?_⟩
              simp only [Act.put, List.setIfInBounds_toArray, List.set_cons_zero, List.set_cons_succ]
              refine held_call 11 53 21 #[.pointer (some ⟨g, 0, none⟩), .int .i64 ((NS : Nat) : Int)] rfl rfl (by kernel_rfl) rfl (exec_call Try.func21 (by kernel_rfl) (by kernel_rfl) _) ?_
              refine (l1Below_any A l c g NS _ hl hb (by omega) (by omega) hc43).mono ?_
              rintro e v45 ⟨y3, hy3, rfl, hc45, gr45⟩
              have b45 := b43.trans gr45
              have g45 := (gr45.block _ (blk_lt g43) (fun e => by injection e with e; omega)).trans g43
              refine ⟨_, rfl, b45, ?_⟩
              simp only [Act.put, List.setIfInBounds_toArray, List.set_cons_zero, List.set_cons_succ]
              refine held_take 12 54 (.int .i64 (1 + (y3 : Int))) rfl rfl (by kernel_rfl) (by kernel_rfl) (by kernel_rfl) (fun _ _ _ h => h) rfl b45 (fun w _ => exec_addI 1 (y3 : Int) _ w rfl (by omega) (by omega)) ?_
              simp only [Act.put, List.setIfInBounds_toArray, List.set_cons_zero, List.set_cons_succ]
              refine held_call 17 59 47 #[.int .i64 1, .int .i64 ((NT : Nat) : Int)] rfl rfl (by kernel_rfl) rfl (exec_call Try.func47 (by kernel_rfl) (by kernel_rfl) _) ?_
              refine (l1Max_1 ((NT : Nat) : Int) _ (by omega)).mono ?_
              rintro e v46 ⟨rfl, rfl⟩
              refine ⟨_, rfl, b45, ?_⟩
              simp only [Act.put, List.setIfInBounds_toArray, List.set_cons_zero, List.set_cons_succ]
              refine held_call 18 60 21 #[.pointer (some ⟨g, 0, none⟩), .int .i64 ((NT : Nat) : Int)] rfl rfl (by kernel_rfl) rfl (exec_call Try.func21 (by kernel_rfl) (by kernel_rfl) _) ?_
              refine (l1Below_any A l c g NT _ hl hb (by omega) (by omega) hc45).mono ?_
              rintro e v47 ⟨y4, hy4, rfl, hc47, gr47⟩
              have b47 := b45.trans gr47
              have g47 := (gr47.block _ (blk_lt g45) (fun e => by injection e with e; omega)).trans g45
              refine ⟨_, rfl, b47, ?_⟩
              simp only [Act.put, List.setIfInBounds_toArray, List.set_cons_zero, List.set_cons_succ]
              refine held_take 19 61 (rqA (⟨1, 1 + (y1 : Int), (y2 : Int), -1, 1 + (y3 : Int), (y4 : Int)⟩ : Rq)) rfl rfl (by kernel_rfl) (by kernel_rfl) (by kernel_rfl) (fun _ _ _ h => h) rfl b47 (fun w _ => exec_build_rq (⟨1, 1 + (y1 : Int), (y2 : Int), -1, 1 + (y3 : Int), (y4 : Int)⟩ : Rq) w) ?_
              simp only [Act.put, List.setIfInBounds_toArray, List.set_cons_zero, List.set_cons_succ]
              refine held_store 21 rfl rfl (by kernel_rfl) rfl (exec_store_rq _ (⟨1, 1 + (y1 : Int), (y2 : Int), -1, 1 + (y3 : Int), (y4 : Int)⟩ : Rq) _ g47) (putRq_grown (q := (⟨1, 1 + (y1 : Int), (y2 : Int), -1, 1 + (y3 : Int), (y4 : Int)⟩ : Rq)) b47 l42) ?_
              refine wpAnyH_done (by kernel_rfl) ?_ _
              have h9 := putRq_heap (q := (⟨1, 1 + (y1 : Int), (y2 : Int), -1, 1 + (y3 : Int), (y4 : Int)⟩ : Rq)) g47
              have c9 := putRq_cur (q := (⟨1, 1 + (y1 : Int), (y2 : Int), -1, 1 + (y3 : Int), (y4 : Int)⟩ : Rq)) hc47 (Nat.lt_of_lt_of_le hgW l42)
              have b9 := putRq_grown (q := (⟨1, 1 + (y1 : Int), (y2 : Int), -1, 1 + (y3 : Int), (y4 : Int)⟩ : Rq)) b47 l42
              go_wp2_with fail
              go_meet
              exact ⟨_, (⟨1, 1 + (y1 : Int), (y2 : Int), -1, 1 + (y3 : Int), (y4 : Int)⟩ : Rq), rfl, h9, l42, c9, b9⟩
          · skip
            simp only [Act.put, List.setIfInBounds_toArray, List.set_cons_zero, List.set_cons_succ]
            have l48 := b0.size
            have b48 := grown_step b0 (World.grownBy_alloc _ (.cells #[.int .i64 0, .int .i64 0, .int .i64 0, .int .i64 0, .int .i64 0, .int .i64 0] 30) none) (fun j h => by cases h)
            have hc48 := hc0.alloc (.cells #[.int .i64 0, .int .i64 0, .int .i64 0, .int .i64 0, .int .i64 0, .int .i64 0] 30)
            have g48 := heap_newB b0 (.cells #[.int .i64 0, .int .i64 0, .int .i64 0, .int .i64 0, .int .i64 0, .int .i64 0] 30)
            refine held_call 1 43 21 #[.pointer (some ⟨g, 0, none⟩), .int .i64 (14 : Int)] rfl rfl (by kernel_rfl) rfl (exec_call Try.func21 (by kernel_rfl) (by kernel_rfl) _) ?_
            refine (l1Below_any A l c g 14 _ hl hb (by omega) (by omega) hc48).mono ?_
            rintro e v49 ⟨y1, hy1, rfl, hc49, gr49⟩
            have b49 := b48.trans gr49
            have g49 := (gr49.block _ (blk_lt g48) (fun e => by injection e with e; omega)).trans g48
            refine ⟨_, rfl, b49, ?_⟩
            simp only [Act.put, List.setIfInBounds_toArray, List.set_cons_zero, List.set_cons_succ]
            refine held_take 2 44 (.int .i64 (1 + (y1 : Int))) rfl rfl (by kernel_rfl) (by kernel_rfl) (by kernel_rfl) (fun _ _ _ h => h) rfl b49 (fun w _ => exec_addI 1 (y1 : Int) _ w rfl (by omega) (by omega)) ?_
            simp only [Act.put, List.setIfInBounds_toArray, List.set_cons_zero, List.set_cons_succ]
            refine held_call 5 47 21 #[.pointer (some ⟨g, 0, none⟩), .int .i64 ((x.r.seats.length : Nat) : Int)] rfl rfl (by kernel_rfl) rfl (exec_call Try.func21 (by kernel_rfl) (by kernel_rfl) _) ?_
            refine (l1Below_any A l c g x.r.seats.length _ hl hb (by omega) (by omega) hc49).mono ?_
            rintro e v50 ⟨y2, hy2, rfl, hc50, gr50⟩
            have b50 := b49.trans gr50
            have g50 := (gr50.block _ (blk_lt g49) (fun e => by injection e with e; omega)).trans g49
            refine ⟨_, rfl, b50, ?_⟩
            simp only [Act.put, List.setIfInBounds_toArray, List.set_cons_zero, List.set_cons_succ]
            refine held_call 10 52 47 #[.int .i64 1, .int .i64 ((NS : Nat) : Int)] rfl rfl (by kernel_rfl) rfl (exec_call Try.func47 (by kernel_rfl) (by kernel_rfl) _) ?_
            refine (l1Max_1 ((NS : Nat) : Int) _ (by omega)).mono ?_
            rintro e v51 ⟨rfl, rfl⟩
            refine ⟨_, rfl, b50, ?_⟩
            simp only [Act.put, List.setIfInBounds_toArray, List.set_cons_zero, List.set_cons_succ]
            refine held_call 11 53 21 #[.pointer (some ⟨g, 0, none⟩), .int .i64 ((NS : Nat) : Int)] rfl rfl (by kernel_rfl) rfl (exec_call Try.func21 (by kernel_rfl) (by kernel_rfl) _) ?_
            refine (l1Below_any A l c g NS _ hl hb (by omega) (by omega) hc50).mono ?_
            rintro e v52 ⟨y3, hy3, rfl, hc52, gr52⟩
            have b52 := b50.trans gr52
            have g52 := (gr52.block _ (blk_lt g50) (fun e => by injection e with e; omega)).trans g50
            refine ⟨_, rfl, b52, ?_⟩
            simp only [Act.put, List.setIfInBounds_toArray, List.set_cons_zero, List.set_cons_succ]
            refine held_take 12 54 (.int .i64 (1 + (y3 : Int))) rfl rfl (by kernel_rfl) (by kernel_rfl) (by kernel_rfl) (fun _ _ _ h => h) rfl b52 (fun w _ => exec_addI 1 (y3 : Int) _ w rfl (by omega) (by omega)) ?_
            simp only [Act.put, List.setIfInBounds_toArray, List.set_cons_zero, List.set_cons_succ]
            refine held_call 17 59 47 #[.int .i64 1, .int .i64 ((NT : Nat) : Int)] rfl rfl (by kernel_rfl) rfl (exec_call Try.func47 (by kernel_rfl) (by kernel_rfl) _) ?_
            refine (l1Max_1 ((NT : Nat) : Int) _ (by omega)).mono ?_
            rintro e v53 ⟨rfl, rfl⟩
            refine ⟨_, rfl, b52, ?_⟩
            simp only [Act.put, List.setIfInBounds_toArray, List.set_cons_zero, List.set_cons_succ]
            refine held_call 18 60 21 #[.pointer (some ⟨g, 0, none⟩), .int .i64 ((NT : Nat) : Int)] rfl rfl (by kernel_rfl) rfl (exec_call Try.func21 (by kernel_rfl) (by kernel_rfl) _) ?_
            refine (l1Below_any A l c g NT _ hl hb (by omega) (by omega) hc52).mono ?_
            rintro e v54 ⟨y4, hy4, rfl, hc54, gr54⟩
            have b54 := b52.trans gr54
            have g54 := (gr54.block _ (blk_lt g52) (fun e => by injection e with e; omega)).trans g52
            refine ⟨_, rfl, b54, ?_⟩
            simp only [Act.put, List.setIfInBounds_toArray, List.set_cons_zero, List.set_cons_succ]
            refine held_take 19 61 (rqA (⟨1, 1 + (y1 : Int), (y2 : Int), -1, 1 + (y3 : Int), (y4 : Int)⟩ : Rq)) rfl rfl (by kernel_rfl) (by kernel_rfl) (by kernel_rfl) (fun _ _ _ h => h) rfl b54 (fun w _ => exec_build_rq (⟨1, 1 + (y1 : Int), (y2 : Int), -1, 1 + (y3 : Int), (y4 : Int)⟩ : Rq) w) ?_
            simp only [Act.put, List.setIfInBounds_toArray, List.set_cons_zero, List.set_cons_succ]
            refine held_store 21 rfl rfl (by kernel_rfl) rfl (exec_store_rq _ (⟨1, 1 + (y1 : Int), (y2 : Int), -1, 1 + (y3 : Int), (y4 : Int)⟩ : Rq) _ g54) (putRq_grown (q := (⟨1, 1 + (y1 : Int), (y2 : Int), -1, 1 + (y3 : Int), (y4 : Int)⟩ : Rq)) b54 l48) ?_
            refine wpAnyH_done (by kernel_rfl) ?_ _
            have h9 := putRq_heap (q := (⟨1, 1 + (y1 : Int), (y2 : Int), -1, 1 + (y3 : Int), (y4 : Int)⟩ : Rq)) g54
            have c9 := putRq_cur (q := (⟨1, 1 + (y1 : Int), (y2 : Int), -1, 1 + (y3 : Int), (y4 : Int)⟩ : Rq)) hc54 (Nat.lt_of_lt_of_le hgW l48)
            have b9 := putRq_grown (q := (⟨1, 1 + (y1 : Int), (y2 : Int), -1, 1 + (y3 : Int), (y4 : Int)⟩ : Rq)) b54 l48
            go_wp2_with fail
            go_meet
            exact ⟨_, (⟨1, 1 + (y1 : Int), (y2 : Int), -1, 1 + (y3 : Int), (y4 : Int)⟩ : Rq), rfl, h9, l48, c9, b9⟩
        case rest =>
          clear hc5 g5
          obtain ⟨gp, q, rfl, hp, hgp, hcv, gv⟩ := hcut
          go_wp2_with fail
          refine (l1Once_any A l c g 3 _ hl hb (by omega) (by omega) hcv).mono ?_
          rintro e v6 ⟨d6, rfl, hc6, gr6⟩
          have g6 := gv.trans gr6
          have hp6 := (gr6.block _ (blk_lt hp) (fun e => by injection e with e; omega)).trans hp
          clear hp hcv gv gr6
          cases d6
          · skip
            have a0 := cell_of_row _ _ 0 _ _ _ (hp6)
            have a1 := cell_of_row _ _ 1 _ _ _ (hp6)
            have a2 := cell_of_row _ _ 2 _ _ _ (hp6)
            have a3 := cell_of_row _ _ 3 _ _ _ (hp6)
            have a4 := cell_of_row _ _ 4 _ _ _ (hp6)
            have a5 := cell_of_row _ _ 5 _ _ _ (hp6)
            simp at a0 a1 a2 a3 a4 a5
            have hz := KZ.out _ (g6)
            have e0 := cell_of_row _ _ 0 _ _ _ hz
            have f0 := frozen_of_row _ _ 0 _ _ hz
            have e1 := cell_of_row _ _ 1 _ _ _ hz
            have f1 := frozen_of_row _ _ 1 _ _ hz
            have e2 := cell_of_row _ _ 2 _ _ _ hz
            have f2 := frozen_of_row _ _ 2 _ _ hz
            have e3 := cell_of_row _ _ 3 _ _ _ hz
            have f3 := frozen_of_row _ _ 3 _ _ hz
            have e4 := cell_of_row _ _ 4 _ _ _ hz
            have f4 := frozen_of_row _ _ 4 _ _ hz
            have e5 := cell_of_row _ _ 5 _ _ _ hz
            have f5 := frozen_of_row _ _ 5 _ _ hz
            simp at e0 e1 e2 e3 e4 e5
            have HN : Hid (GotRq w g A l c (.returned (rqA q)) (putRq _ (w.heap.size + 1) q)) := ⟨_, rfl, putRq_cur (hc6) (by omega), putRq_grown (gW.out.trans (g6)) (by omega)⟩
            clear hz
            unfold rqA putRq at HN
            go_wp2
            simp [bodyPost, results, Try.results22, go_sem, e0, e1, e2, e3, e4, e5]
            exact HN.out
          · skip
            go_wp2_with fail
            refine (l1Below_any A l c g x.r.seats.length _ hl hb (by omega) (by omega) hc6).mono ?_
            rintro e v7 ⟨y6, hy6, rfl, hc7, gr7⟩
            have g7 := g6.trans gr7
            have hp7 := (gr7.block _ (blk_lt hp6) (fun e => by injection e with e; omega)).trans hp6
            clear hp6 hc6 g6 gr7
            have s0 := cell_of_row _ _ 3 _ _ _ hp7
            have s1 := frozen_of_row _ _ 3 _ _ hp7
            simp at s0
            have hp8 : (v7.setCell ⟨gp, 3, none⟩ (.int .i64 (y6 : Int))).heap[gp]? = some (.cells #[.int .i64 q.kind, .int .i64 q.id, .int .i64 q.cabin, .int .i64 (y6 : Int), .int .i64 q.size, .int .i64 q.tier] 30) := Go.heap_setCell_same _ gp 3 _ _ (.int .i64 (y6 : Int)) hp7
            have hc8 := hc7.setCell gp 3 (.int .i64 (y6 : Int)) (by omega)
            have g8 := grown_setD g7 gp 3 (.int .i64 (y6 : Int)) hgp
            obtain ⟨U, eU⟩ : ∃ U, v7.setCell ⟨gp, 3, none⟩ (.int .i64 (y6 : Int)) = U := ⟨_, rfl⟩
            rw [eU] at hp8 hc8 g8
            clear hp7 hc7 g7
            have a0 := cell_of_row _ _ 0 _ _ _ (hp8)
            have a1 := cell_of_row _ _ 1 _ _ _ (hp8)
            have a2 := cell_of_row _ _ 2 _ _ _ (hp8)
            have a3 := cell_of_row _ _ 3 _ _ _ (hp8)
            have a4 := cell_of_row _ _ 4 _ _ _ (hp8)
            have a5 := cell_of_row _ _ 5 _ _ _ (hp8)
            simp at a0 a1 a2 a3 a4 a5
            have hz := KZ.out _ (g8)
            have e0 := cell_of_row _ _ 0 _ _ _ hz
            have f0 := frozen_of_row _ _ 0 _ _ hz
            have e1 := cell_of_row _ _ 1 _ _ _ hz
            have f1 := frozen_of_row _ _ 1 _ _ hz
            have e2 := cell_of_row _ _ 2 _ _ _ hz
            have f2 := frozen_of_row _ _ 2 _ _ hz
            have e3 := cell_of_row _ _ 3 _ _ _ hz
            have f3 := frozen_of_row _ _ 3 _ _ hz
            have e4 := cell_of_row _ _ 4 _ _ _ hz
            have f4 := frozen_of_row _ _ 4 _ _ hz
            have e5 := cell_of_row _ _ 5 _ _ _ hz
            have f5 := frozen_of_row _ _ 5 _ _ hz
            simp at e0 e1 e2 e3 e4 e5
            have HN : Hid (GotRq w g A l c (.returned (rqA (⟨q.kind, q.id, q.cabin, (y6 : Int), q.size, q.tier⟩ : Rq))) (putRq _ (w.heap.size + 1) (⟨q.kind, q.id, q.cabin, (y6 : Int), q.size, q.tier⟩ : Rq))) := ⟨_, rfl, putRq_cur (hc8) (by omega), putRq_grown (gW.out.trans (g8)) (by omega)⟩
            clear hz
            unfold rqA putRq at HN
            go_wp2
            simp [bodyPost, results, Try.results22, go_sem, e0, e1, e2, e3, e4, e5]
            exact HN.out
      · skip
        go_wp2_with fail
        go_cut [7] (fun s7 wx => ∃ (gp : Nat) (q : Rq), s7 = .pointer (some ⟨gp, 0, none⟩) ∧ wx.heap[gp]? = some (.cells #[.int .i64 q.kind, .int .i64 q.id, .int .i64 q.cabin, .int .i64 q.from_, .int .i64 q.size, .int .i64 q.tier] 30) ∧ W.heap.size ≤ gp ∧ Cur wx g A l c ∧ W.grownBy wx (some g))
        case first =>
          refine wp_region_held_drew (S := fun w' => Hid (W.grownBy w' (some g))) (by kernel_rfl) (g5.trans (grown_of_below (below_drawn (Below.refl _ _) 1) _)) (fun hHeld => ?_)
          have b0 := hHeld.out
          have hc0 := hc5.mem (below_drawn (Below.refl _ _) 1)
          refine held_take 0 42 (.pointer (some ⟨g, 0, none⟩)) rfl rfl (by kernel_rfl) (by kernel_rfl) (by kernel_rfl) (fun _ _ _ h => h) rfl b0 (fun w _ => rfl) ?_
          refine held_take 3 45 (.pointer (some ⟨g, 0, none⟩)) rfl rfl (by kernel_rfl) (by kernel_rfl) (by kernel_rfl) (fun _ _ _ h => h) rfl b0 (fun w _ => rfl) ?_
          simp only [Act.put, List.setIfInBounds_toArray, List.set_cons_zero, List.set_cons_succ]
          refine held_take 6 48 (.pointer (some ⟨g, 0, none⟩)) rfl rfl (by kernel_rfl) (by kernel_rfl) (by kernel_rfl) (fun _ _ _ h => h) rfl b0 (fun w _ => rfl) ?_
          refine held_take 13 55 (.pointer (some ⟨g, 0, none⟩)) rfl rfl (by kernel_rfl) (by kernel_rfl) (by kernel_rfl) (fun _ _ _ h => h) rfl b0 (fun w _ => rfl) ?_
          simp only [Act.put, List.setIfInBounds_toArray, List.set_cons_zero, List.set_cons_succ]
          refine held_take 4 46 (.int .i64 ((x.r.seats.length : Nat) : Int)) rfl rfl (by kernel_rfl) (by kernel_rfl) (by kernel_rfl) (fun _ _ _ h => h) rfl b0 (fun w _ => rfl) ?_
          refine held_take 7 49 (.pointer (some ⟨w.heap.size, 0, none⟩)) rfl rfl (by kernel_rfl) (by kernel_rfl) (by kernel_rfl) (fun _ _ _ h => h) rfl b0 (fun w _ => exec_fldHo _ 0 0 w (by simp)) ?_
          simp only [Act.put, List.setIfInBounds_toArray, List.set_cons_zero, List.set_cons_succ]
          refine held_take 8 50 (.pointer (some ⟨w.heap.size, 3, none⟩)) rfl rfl (by kernel_rfl) (by kernel_rfl) (by kernel_rfl) (fun _ _ _ h => h) rfl b0 (fun w _ => exec_fldRu _ 3 w (by omega)) ?_
          refine held_take 9 51 (.int .i64 (NS : Nat)) rfl rfl (by kernel_rfl) (by kernel_rfl) (by kernel_rfl) (fun _ _ _ h => h) rfl b0 (fun w h => exec_load1 3 _ 3 _ w (.inl rfl) (K3.out w h.out)) ?_
          simp only [Act.put, List.setIfInBounds_toArray, List.set_cons_zero, List.set_cons_succ]
          refine held_take 14 56 (.pointer (some ⟨w.heap.size, 0, none⟩)) rfl rfl (by kernel_rfl) (by kernel_rfl) (by kernel_rfl) (fun _ _ _ h => h) rfl b0 (fun w _ => exec_fldHo _ 0 0 w (by simp)) ?_
          refine held_take 15 57 (.pointer (some ⟨w.heap.size, 1, none⟩)) rfl rfl (by kernel_rfl) (by kernel_rfl) (by kernel_rfl) (fun _ _ _ h => h) rfl b0 (fun w _ => exec_fldRu _ 1 w (by omega)) ?_
          simp only [Act.put, List.setIfInBounds_toArray, List.set_cons_zero, List.set_cons_succ]
          refine held_take 16 58 (.int .i64 (NT : Nat)) rfl rfl (by kernel_rfl) (by kernel_rfl) (by kernel_rfl) (fun _ _ _ h => h) rfl b0 (fun w h => exec_load1 3 _ 1 _ w (.inl rfl) (K1.out w h.out)) ?_
          simp only [Act.put, List.setIfInBounds_toArray, List.set_cons_zero, List.set_cons_succ]
          refine wpAnyH_ready (rs := [1, 20]) (by kernel_rfl) (by simp) (ready_call 1 43 21 #[.pointer (some ⟨g, 0, none⟩), .int .i64 (14 : Int)] rfl rfl rfl (exec_call Try.func21 (by kernel_rfl) (by kernel_rfl) _) ?_ (ready_op 20 7 _ rfl rfl rfl (exec_alloc_rq _) (grown_step b0 (World.grownBy_alloc _ _ none) (fun j h => by cases h)) ?_ AllReadyH.nil))
          · skip
            refine (l1Below_any A l c g 14 _ hl hb (by omega) (by omega) hc0).mono ?_
            rintro e v21 ⟨y1, hy1, rfl, hc21, gr21⟩
            have b21 := b0.trans gr21
            refine ⟨_, rfl, b21, ?_⟩
            simp only [Act.put, List.setIfInBounds_toArray, List.set_cons_zero, List.set_cons_succ]
            refine held_take 2 44 (.int .i64 (1 + (y1 : Int))) rfl rfl (by kernel_rfl) (by kernel_rfl) (by kernel_rfl) (fun _ _ _ h => h) rfl b21 (fun w _ => exec_addI 1 (y1 : Int) _ w rfl (by omega) (by omega)) ?_
            simp only [Act.put, List.setIfInBounds_toArray, List.set_cons_zero, List.set_cons_succ]
            refine wpAnyH_ready (rs := [5, 20]) (by kernel_rfl) (by simp) (ready_call 5 47 21 #[.pointer (some ⟨g, 0, none⟩), .int .i64 ((x.r.seats.length : Nat) : Int)] rfl rfl rfl (exec_call Try.func21 (by kernel_rfl) (by kernel_rfl) _) ?_ (ready_op 20 7 _ rfl rfl rfl (exec_alloc_rq _) (grown_step b21 (World.grownBy_alloc _ _ none) (fun j h => by cases h)) ?_ AllReadyH.nil))
            · skip
              refine (l1Below_any A l c g x.r.seats.length _ hl hb (by omega) (by omega) hc21).mono ?_
              rintro e v22 ⟨y2, hy2, rfl, hc22, gr22⟩
              have b22 := b21.trans gr22
              refine ⟨_, rfl, b22, ?_⟩
              simp only [Act.put, List.setIfInBounds_toArray, List.set_cons_zero, List.set_cons_succ]
              refine wpAnyH_ready (rs := [10, 20]) (by kernel_rfl) (by simp) (ready_call 10 52 47 #[.int .i64 1, .int .i64 ((NS : Nat) : Int)] rfl rfl rfl (exec_call Try.func47 (by kernel_rfl) (by kernel_rfl) _) ?_ (ready_op 20 7 _ rfl rfl rfl (exec_alloc_rq _) (grown_step b22 (World.grownBy_alloc _ _ none) (fun j h => by cases h)) ?_ AllReadyH.nil))
              · skip
                refine (l1Max_1 ((NS : Nat) : Int) _ (by omega)).mono ?_
                rintro e v23 ⟨rfl, rfl⟩
                refine ⟨_, rfl, b22, ?_⟩
                simp only [Act.put, List.setIfInBounds_toArray, List.set_cons_zero, List.set_cons_succ]
                refine wpAnyH_ready (rs := [11, 20]) (by kernel_rfl) (by simp) (ready_call 11 53 21 #[.pointer (some ⟨g, 0, none⟩), .int .i64 ((NS : Nat) : Int)] rfl rfl rfl (exec_call Try.func21 (by kernel_rfl) (by kernel_rfl) _) ?_ (ready_op 20 7 _ rfl rfl rfl (exec_alloc_rq _) (grown_step b22 (World.grownBy_alloc _ _ none) (fun j h => by cases h)) ?_ AllReadyH.nil))
                · skip
                  refine (l1Below_any A l c g NS _ hl hb (by omega) (by omega) hc22).mono ?_
                  rintro e v24 ⟨y3, hy3, rfl, hc24, gr24⟩
                  have b24 := b22.trans gr24
                  refine ⟨_, rfl, b24, ?_⟩
                  simp only [Act.put, List.setIfInBounds_toArray, List.set_cons_zero, List.set_cons_succ]
                  refine held_take 12 54 (.int .i64 (1 + (y3 : Int))) rfl rfl (by kernel_rfl) (by kernel_rfl) (by kernel_rfl) (fun _ _ _ h => h) rfl b24 (fun w _ => exec_addI 1 (y3 : Int) _ w rfl (by omega) (by omega)) ?_
                  simp only [Act.put, List.setIfInBounds_toArray, List.set_cons_zero, List.set_cons_succ]
                  refine wpAnyH_ready (rs := [17, 20]) (by kernel_rfl) (by simp) (ready_call 17 59 47 #[.int .i64 1, .int .i64 ((NT : Nat) : Int)] rfl rfl rfl (exec_call Try.func47 (by kernel_rfl) (by kernel_rfl) _) ?_ (ready_op 20 7 _ rfl rfl rfl (exec_alloc_rq _) (grown_step b24 (World.grownBy_alloc _ _ none) (fun j h => by cases h)) ?_ AllReadyH.nil))
                  · skip
                    refine (l1Max_1 ((NT : Nat) : Int) _ (by omega)).mono ?_
                    rintro e v25 ⟨rfl, rfl⟩
                    refine ⟨_, rfl, b24, ?_⟩
                    simp only [Act.put, List.setIfInBounds_toArray, List.set_cons_zero, List.set_cons_succ]
                    refine wpAnyH_ready (rs := [18, 20]) (by kernel_rfl) (by simp) (ready_call 18 60 21 #[.pointer (some ⟨g, 0, none⟩), .int .i64 ((NT : Nat) : Int)] rfl rfl rfl (exec_call Try.func21 (by kernel_rfl) (by kernel_rfl) _) ?_ (ready_op 20 7 _ rfl rfl rfl (exec_alloc_rq _) (grown_step b24 (World.grownBy_alloc _ _ none) (fun j h => by cases h)) ?_ AllReadyH.nil))
                    · skip
                      refine (l1Below_any A l c g NT _ hl hb (by omega) (by omega) hc24).mono ?_
                      rintro e v26 ⟨y4, hy4, rfl, hc26, gr26⟩
                      have b26 := b24.trans gr26
                      refine ⟨_, rfl, b26, ?_⟩
                      simp only [Act.put, List.setIfInBounds_toArray, List.set_cons_zero, List.set_cons_succ]
                      refine held_take 19 61 (rqA (⟨1, 1 + (y1 : Int), (y2 : Int), -1, 1 + (y3 : Int), (y4 : Int)⟩ : Rq)) rfl rfl (by kernel_rfl) (by kernel_rfl) (by kernel_rfl) (fun _ _ _ h => h) rfl b26 (fun w _ => exec_build_rq (⟨1, 1 + (y1 : Int), (y2 : Int), -1, 1 + (y3 : Int), (y4 : Int)⟩ : Rq) w) ?_
                      simp only [Act.put, List.setIfInBounds_toArray, List.set_cons_zero, List.set_cons_succ]
                      refine held_op 20 7 _ rfl rfl (by kernel_rfl) rfl (exec_alloc_rq _) (grown_step b26 (World.grownBy_alloc _ _ none) (fun j h => by cases h)) ?_
                      simp only [Act.put, List.setIfInBounds_toArray, List.set_cons_zero, List.set_cons_succ]
                      have l27 := b26.size
                      have b27 := grown_step b26 (World.grownBy_alloc _ (.cells #[.int .i64 0, .int .i64 0, .int .i64 0, .int .i64 0, .int .i64 0, .int .i64 0] 30) none) (fun j h => by cases h)
                      have hc27 := hc26.alloc (.cells #[.int .i64 0, .int .i64 0, .int .i64 0, .int .i64 0, .int .i64 0, .int .i64 0] 30)
                      have g27 := heap_newB b26 (.cells #[.int .i64 0, .int .i64 0, .int .i64 0, .int .i64 0, .int .i64 0, .int .i64 0] 30)
                      refine held_store 21 rfl rfl (by kernel_rfl) rfl (exec_store_rq _ (⟨1, 1 + (y1 : Int), (y2 : Int), -1, 1 + (y3 : Int), (y4 : Int)⟩ : Rq) _ g27) (putRq_grown (q := (⟨1, 1 + (y1 : Int), (y2 : Int), -1, 1 + (y3 : Int), (y4 : Int)⟩ : Rq)) b27 l27) ?_
                      refine wpAnyH_done (by kernel_rfl) ?_ _
                      have h9 := putRq_heap (q := (⟨1, 1 + (y1 : Int), (y2 : Int), -1, 1 + (y3 : Int), (y4 : Int)⟩ : Rq)) g27
                      have c9 := putRq_cur (q := (⟨1, 1 + (y1 : Int), (y2 : Int), -1, 1 + (y3 : Int), (y4 : Int)⟩ : Rq)) hc27 (Nat.lt_of_lt_of_le hgW l27)
                      have b9 := putRq_grown (q := (⟨1, 1 + (y1 : Int), (y2 : Int), -1, 1 + (y3 : Int), (y4 : Int)⟩ : Rq)) b27 l27
                      go_wp2_with fail
                      go_meet
                      exact ⟨_, (⟨1, 1 + (y1 : Int), (y2 : Int), -1, 1 + (y3 : Int), (y4 : Int)⟩ : Rq), rfl, h9, l27, c9, b9⟩
                    · skip
                      simp only [Act.put, List.setIfInBounds_toArray, List.set_cons_zero, List.set_cons_succ]
                      have l28 := b24.size
                      have b28 := grown_step b24 (World.grownBy_alloc _ (.cells #[.int .i64 0, .int .i64 0, .int .i64 0, .int .i64 0, .int .i64 0, .int .i64 0] 30) none) (fun j h => by cases h)
                      have hc28 := hc24.alloc (.cells #[.int .i64 0, .int .i64 0, .int .i64 0, .int .i64 0, .int .i64 0, .int .i64 0] 30)
                      have g28 := heap_newB b24 (.cells #[.int .i64 0, .int .i64 0, .int .i64 0, .int .i64 0, .int .i64 0, .int .i64 0] 30)
                      refine held_call 18 60 21 #[.pointer (some ⟨g, 0, none⟩), .int .i64 ((NT : Nat) : Int)] rfl rfl (by kernel_rfl) rfl (exec_call Try.func21 (by kernel_rfl) (by kernel_rfl) _) ?_
                      refine (l1Below_any A l c g NT _ hl hb (by omega) (by omega) hc28).mono ?_
                      rintro e v29 ⟨y4, hy4, rfl, hc29, gr29⟩
                      have b29 := b28.trans gr29
                      have g29 := (gr29.block _ (blk_lt g28) (fun e => by injection e with e; omega)).trans g28
                      refine ⟨_, rfl, b29, ?_⟩
                      simp only [Act.put, List.setIfInBounds_toArray, List.set_cons_zero, List.set_cons_succ]
                      refine held_take 19 61 (rqA (⟨1, 1 + (y1 : Int), (y2 : Int), -1, 1 + (y3 : Int), (y4 : Int)⟩ : Rq)) rfl rfl (by kernel_rfl) (by kernel_rfl) (by kernel_rfl) (fun _ _ _ h => h) rfl b29 (fun w _ => exec_build_rq (⟨1, 1 + (y1 : Int), (y2 : Int), -1, 1 + (y3 : Int), (y4 : Int)⟩ : Rq) w) ?_
                      simp only [Act.put, List.setIfInBounds_toArray, List.set_cons_zero, List.set_cons_succ]
                      refine held_store 21 rfl rfl (by kernel_rfl) rfl (exec_store_rq _ (⟨1, 1 + (y1 : Int), (y2 : Int), -1, 1 + (y3 : Int), (y4 : Int)⟩ : Rq) _ g29) (putRq_grown (q := (⟨1, 1 + (y1 : Int), (y2 : Int), -1, 1 + (y3 : Int), (y4 : Int)⟩ : Rq)) b29 l28) ?_
                      refine wpAnyH_done (by kernel_rfl) ?_ _
                      have h9 := putRq_heap (q := (⟨1, 1 + (y1 : Int), (y2 : Int), -1, 1 + (y3 : Int), (y4 : Int)⟩ : Rq)) g29
                      have c9 := putRq_cur (q := (⟨1, 1 + (y1 : Int), (y2 : Int), -1, 1 + (y3 : Int), (y4 : Int)⟩ : Rq)) hc29 (Nat.lt_of_lt_of_le hgW l28)
                      have b9 := putRq_grown (q := (⟨1, 1 + (y1 : Int), (y2 : Int), -1, 1 + (y3 : Int), (y4 : Int)⟩ : Rq)) b29 l28
                      go_wp2_with fail
                      go_meet
                      exact ⟨_, (⟨1, 1 + (y1 : Int), (y2 : Int), -1, 1 + (y3 : Int), (y4 : Int)⟩ : Rq), rfl, h9, l28, c9, b9⟩
                  · skip
                    simp only [Act.put, List.setIfInBounds_toArray, List.set_cons_zero, List.set_cons_succ]
                    have l30 := b24.size
                    have b30 := grown_step b24 (World.grownBy_alloc _ (.cells #[.int .i64 0, .int .i64 0, .int .i64 0, .int .i64 0, .int .i64 0, .int .i64 0] 30) none) (fun j h => by cases h)
                    have hc30 := hc24.alloc (.cells #[.int .i64 0, .int .i64 0, .int .i64 0, .int .i64 0, .int .i64 0, .int .i64 0] 30)
                    have g30 := heap_newB b24 (.cells #[.int .i64 0, .int .i64 0, .int .i64 0, .int .i64 0, .int .i64 0, .int .i64 0] 30)
                    refine held_call 17 59 47 #[.int .i64 1, .int .i64 ((NT : Nat) : Int)] rfl rfl (by kernel_rfl) rfl (exec_call Try.func47 (by kernel_rfl) (by kernel_rfl) _) ?_
                    refine (l1Max_1 ((NT : Nat) : Int) _ (by omega)).mono ?_
                    rintro e v31 ⟨rfl, rfl⟩
                    refine ⟨_, rfl, b30, ?_⟩
                    simp only [Act.put, List.setIfInBounds_toArray, List.set_cons_zero, List.set_cons_succ]
                    refine held_call 18 60 21 #[.pointer (some ⟨g, 0, none⟩), .int .i64 ((NT : Nat) : Int)] rfl rfl (by kernel_rfl) rfl (exec_call Try.func21 (by kernel_rfl) (by kernel_rfl) _) ?_
                    refine (l1Below_any A l c g NT _ hl hb (by omega) (by omega) hc30).mono ?_
                    rintro e v32 ⟨y4, hy4, rfl, hc32, gr32⟩
                    have b32 := b30.trans gr32
                    have g32 := (gr32.block _ (blk_lt g30) (fun e => by injection e with e; omega)).trans g30
                    refine ⟨_, rfl, b32, ?_⟩
                    simp only [Act.put, List.setIfInBounds_toArray, List.set_cons_zero, List.set_cons_succ]
                    refine held_take 19 61 (rqA (⟨1, 1 + (y1 : Int), (y2 : Int), -1, 1 + (y3 : Int), (y4 : Int)⟩ : Rq)) rfl rfl (by kernel_rfl) (by kernel_rfl) (by kernel_rfl) (fun _ _ _ h => h) rfl b32 (fun w _ => exec_build_rq (⟨1, 1 + (y1 : Int), (y2 : Int), -1, 1 + (y3 : Int), (y4 : Int)⟩ : Rq) w) ?_
                    simp only [Act.put, List.setIfInBounds_toArray, List.set_cons_zero, List.set_cons_succ]
                    refine held_store 21 rfl rfl (by kernel_rfl) rfl (exec_store_rq _ (⟨1, 1 + (y1 : Int), (y2 : Int), -1, 1 + (y3 : Int), (y4 : Int)⟩ : Rq) _ g32) (putRq_grown (q := (⟨1, 1 + (y1 : Int), (y2 : Int), -1, 1 + (y3 : Int), (y4 : Int)⟩ : Rq)) b32 l30) ?_
                    refine wpAnyH_done (by kernel_rfl) ?_ _
                    have h9 := putRq_heap (q := (⟨1, 1 + (y1 : Int), (y2 : Int), -1, 1 + (y3 : Int), (y4 : Int)⟩ : Rq)) g32
                    have c9 := putRq_cur (q := (⟨1, 1 + (y1 : Int), (y2 : Int), -1, 1 + (y3 : Int), (y4 : Int)⟩ : Rq)) hc32 (Nat.lt_of_lt_of_le hgW l30)
                    have b9 := putRq_grown (q := (⟨1, 1 + (y1 : Int), (y2 : Int), -1, 1 + (y3 : Int), (y4 : Int)⟩ : Rq)) b32 l30
                    go_wp2_with fail
                    go_meet
                    exact ⟨_, (⟨1, 1 + (y1 : Int), (y2 : Int), -1, 1 + (y3 : Int), (y4 : Int)⟩ : Rq), rfl, h9, l30, c9, b9⟩
                · skip
                  simp only [Act.put, List.setIfInBounds_toArray, List.set_cons_zero, List.set_cons_succ]
                  have l33 := b22.size
                  have b33 := grown_step b22 (World.grownBy_alloc _ (.cells #[.int .i64 0, .int .i64 0, .int .i64 0, .int .i64 0, .int .i64 0, .int .i64 0] 30) none) (fun j h => by cases h)
                  have hc33 := hc22.alloc (.cells #[.int .i64 0, .int .i64 0, .int .i64 0, .int .i64 0, .int .i64 0, .int .i64 0] 30)
                  have g33 := heap_newB b22 (.cells #[.int .i64 0, .int .i64 0, .int .i64 0, .int .i64 0, .int .i64 0, .int .i64 0] 30)
                  refine held_call 11 53 21 #[.pointer (some ⟨g, 0, none⟩), .int .i64 ((NS : Nat) : Int)] rfl rfl (by kernel_rfl) rfl (exec_call Try.func21 (by kernel_rfl) (by kernel_rfl) _) ?_
                  refine (l1Below_any A l c g NS _ hl hb (by omega) (by omega) hc33).mono ?_
                  rintro e v34 ⟨y3, hy3, rfl, hc34, gr34⟩
                  have b34 := b33.trans gr34
                  have g34 := (gr34.block _ (blk_lt g33) (fun e => by injection e with e; omega)).trans g33
                  refine ⟨_, rfl, b34, ?_⟩
                  simp only [Act.put, List.setIfInBounds_toArray, List.set_cons_zero, List.set_cons_succ]
                  refine held_take 12 54 (.int .i64 (1 + (y3 : Int))) rfl rfl (by kernel_rfl) (by kernel_rfl) (by kernel_rfl) (fun _ _ _ h => h) rfl b34 (fun w _ => exec_addI 1 (y3 : Int) _ w rfl (by omega) (by omega)) ?_
                  simp only [Act.put, List.setIfInBounds_toArray, List.set_cons_zero, List.set_cons_succ]
                  refine held_call 17 59 47 #[.int .i64 1, .int .i64 ((NT : Nat) : Int)] rfl rfl (by kernel_rfl) rfl (exec_call Try.func47 (by kernel_rfl) (by kernel_rfl) _) ?_
                  refine (l1Max_1 ((NT : Nat) : Int) _ (by omega)).mono ?_
                  rintro e v35 ⟨rfl, rfl⟩
                  refine ⟨_, rfl, b34, ?_⟩
                  simp only [Act.put, List.setIfInBounds_toArray, List.set_cons_zero, List.set_cons_succ]
                  refine held_call 18 60 21 #[.pointer (some ⟨g, 0, none⟩), .int .i64 ((NT : Nat) : Int)] rfl rfl (by kernel_rfl) rfl (exec_call Try.func21 (by kernel_rfl) (by kernel_rfl) _) ?_
                  refine (l1Below_any A l c g NT _ hl hb (by omega) (by omega) hc34).mono ?_
                  rintro e v36 ⟨y4, hy4, rfl, hc36, gr36⟩
                  have b36 := b34.trans gr36
                  have g36 := (gr36.block _ (blk_lt g34) (fun e => by injection e with e; omega)).trans g34
                  refine ⟨_, rfl, b36, ?_⟩
                  simp only [Act.put, List.setIfInBounds_toArray, List.set_cons_zero, List.set_cons_succ]
                  refine held_take 19 61 (rqA (⟨1, 1 + (y1 : Int), (y2 : Int), -1, 1 + (y3 : Int), (y4 : Int)⟩ : Rq)) rfl rfl (by kernel_rfl) (by kernel_rfl) (by kernel_rfl) (fun _ _ _ h => h) rfl b36 (fun w _ => exec_build_rq (⟨1, 1 + (y1 : Int), (y2 : Int), -1, 1 + (y3 : Int), (y4 : Int)⟩ : Rq) w) ?_
                  simp only [Act.put, List.setIfInBounds_toArray, List.set_cons_zero, List.set_cons_succ]
                  refine held_store 21 rfl rfl (by kernel_rfl) rfl (exec_store_rq _ (⟨1, 1 + (y1 : Int), (y2 : Int), -1, 1 + (y3 : Int), (y4 : Int)⟩ : Rq) _ g36) (putRq_grown (q := (⟨1, 1 + (y1 : Int), (y2 : Int), -1, 1 + (y3 : Int), (y4 : Int)⟩ : Rq)) b36 l33) ?_
                  refine wpAnyH_done (by kernel_rfl) ?_ _
                  have h9 := putRq_heap (q := (⟨1, 1 + (y1 : Int), (y2 : Int), -1, 1 + (y3 : Int), (y4 : Int)⟩ : Rq)) g36
                  have c9 := putRq_cur (q := (⟨1, 1 + (y1 : Int), (y2 : Int), -1, 1 + (y3 : Int), (y4 : Int)⟩ : Rq)) hc36 (Nat.lt_of_lt_of_le hgW l33)
                  have b9 := putRq_grown (q := (⟨1, 1 + (y1 : Int), (y2 : Int), -1, 1 + (y3 : Int), (y4 : Int)⟩ : Rq)) b36 l33
                  go_wp2_with fail
                  go_meet
                  exact ⟨_, (⟨1, 1 + (y1 : Int), (y2 : Int), -1, 1 + (y3 : Int), (y4 : Int)⟩ : Rq), rfl, h9, l33, c9, b9⟩
              · skip
                simp only [Act.put, List.setIfInBounds_toArray, List.set_cons_zero, List.set_cons_succ]
                have l37 := b22.size
                have b37 := grown_step b22 (World.grownBy_alloc _ (.cells #[.int .i64 0, .int .i64 0, .int .i64 0, .int .i64 0, .int .i64 0, .int .i64 0] 30) none) (fun j h => by cases h)
                have hc37 := hc22.alloc (.cells #[.int .i64 0, .int .i64 0, .int .i64 0, .int .i64 0, .int .i64 0, .int .i64 0] 30)
                have g37 := heap_newB b22 (.cells #[.int .i64 0, .int .i64 0, .int .i64 0, .int .i64 0, .int .i64 0, .int .i64 0] 30)
                refine held_call 10 52 47 #[.int .i64 1, .int .i64 ((NS : Nat) : Int)] rfl rfl (by kernel_rfl) rfl (exec_call Try.func47 (by kernel_rfl) (by kernel_rfl) _) ?_
                refine (l1Max_1 ((NS : Nat) : Int) _ (by omega)).mono ?_
                rintro e v38 ⟨rfl, rfl⟩
                refine ⟨_, rfl, b37, ?_⟩
                simp only [Act.put, List.setIfInBounds_toArray, List.set_cons_zero, List.set_cons_succ]
                refine held_call 11 53 21 #[.pointer (some ⟨g, 0, none⟩), .int .i64 ((NS : Nat) : Int)] rfl rfl (by kernel_rfl) rfl (exec_call Try.func21 (by kernel_rfl) (by kernel_rfl) _) ?_
                refine (l1Below_any A l c g NS _ hl hb (by omega) (by omega) hc37).mono ?_
                rintro e v39 ⟨y3, hy3, rfl, hc39, gr39⟩
                have b39 := b37.trans gr39
                have g39 := (gr39.block _ (blk_lt g37) (fun e => by injection e with e; omega)).trans g37
                refine ⟨_, rfl, b39, ?_⟩
                simp only [Act.put, List.setIfInBounds_toArray, List.set_cons_zero, List.set_cons_succ]
                refine held_take 12 54 (.int .i64 (1 + (y3 : Int))) rfl rfl (by kernel_rfl) (by kernel_rfl) (by kernel_rfl) (fun _ _ _ h => h) rfl b39 (fun w _ => exec_addI 1 (y3 : Int) _ w rfl (by omega) (by omega)) ?_
                simp only [Act.put, List.setIfInBounds_toArray, List.set_cons_zero, List.set_cons_succ]
                refine held_call 17 59 47 #[.int .i64 1, .int .i64 ((NT : Nat) : Int)] rfl rfl (by kernel_rfl) rfl (exec_call Try.func47 (by kernel_rfl) (by kernel_rfl) _) ?_
                refine (l1Max_1 ((NT : Nat) : Int) _ (by omega)).mono ?_
                rintro e v40 ⟨rfl, rfl⟩
                refine ⟨_, rfl, b39, ?_⟩
                simp only [Act.put, List.setIfInBounds_toArray, List.set_cons_zero, List.set_cons_succ]
                refine held_call 18 60 21 #[.pointer (some ⟨g, 0, none⟩), .int .i64 ((NT : Nat) : Int)] rfl rfl (by kernel_rfl) rfl (exec_call Try.func21 (by kernel_rfl) (by kernel_rfl) _) ?_
                refine (l1Below_any A l c g NT _ hl hb (by omega) (by omega) hc39).mono ?_
                rintro e v41 ⟨y4, hy4, rfl, hc41, gr41⟩
                have b41 := b39.trans gr41
                have g41 := (gr41.block _ (blk_lt g39) (fun e => by injection e with e; omega)).trans g39
                refine ⟨_, rfl, b41, ?_⟩
                simp only [Act.put, List.setIfInBounds_toArray, List.set_cons_zero, List.set_cons_succ]
                refine held_take 19 61 (rqA (⟨1, 1 + (y1 : Int), (y2 : Int), -1, 1 + (y3 : Int), (y4 : Int)⟩ : Rq)) rfl rfl (by kernel_rfl) (by kernel_rfl) (by kernel_rfl) (fun _ _ _ h => h) rfl b41 (fun w _ => exec_build_rq (⟨1, 1 + (y1 : Int), (y2 : Int), -1, 1 + (y3 : Int), (y4 : Int)⟩ : Rq) w) ?_
                simp only [Act.put, List.setIfInBounds_toArray, List.set_cons_zero, List.set_cons_succ]
                refine held_store 21 rfl rfl (by kernel_rfl) rfl (exec_store_rq _ (⟨1, 1 + (y1 : Int), (y2 : Int), -1, 1 + (y3 : Int), (y4 : Int)⟩ : Rq) _ g41) (putRq_grown (q := (⟨1, 1 + (y1 : Int), (y2 : Int), -1, 1 + (y3 : Int), (y4 : Int)⟩ : Rq)) b41 l37) ?_
                refine wpAnyH_done (by kernel_rfl) ?_ _
                have h9 := putRq_heap (q := (⟨1, 1 + (y1 : Int), (y2 : Int), -1, 1 + (y3 : Int), (y4 : Int)⟩ : Rq)) g41
                have c9 := putRq_cur (q := (⟨1, 1 + (y1 : Int), (y2 : Int), -1, 1 + (y3 : Int), (y4 : Int)⟩ : Rq)) hc41 (Nat.lt_of_lt_of_le hgW l37)
                have b9 := putRq_grown (q := (⟨1, 1 + (y1 : Int), (y2 : Int), -1, 1 + (y3 : Int), (y4 : Int)⟩ : Rq)) b41 l37
                go_wp2_with fail
                go_meet
                exact ⟨_, (⟨1, 1 + (y1 : Int), (y2 : Int), -1, 1 + (y3 : Int), (y4 : Int)⟩ : Rq), rfl, h9, l37, c9, b9⟩
            · skip
              simp only [Act.put, List.setIfInBounds_toArray, List.set_cons_zero, List.set_cons_succ]
              have l42 := b21.size
              have b42 := grown_step b21 (World.grownBy_alloc _ (.cells #[.int .i64 0, .int .i64 0, .int .i64 0, .int .i64 0, .int .i64 0, .int .i64 0] 30) none) (fun j h => by cases h)
              have hc42 := hc21.alloc (.cells #[.int .i64 0, .int .i64 0, .int .i64 0, .int .i64 0, .int .i64 0, .int .i64 0] 30)
              have g42 := heap_newB b21 (.cells #[.int .i64 0, .int .i64 0, .int .i64 0, .int .i64 0, .int .i64 0, .int .i64 0] 30)
              refine held_call 5 47 21 #[.pointer (some ⟨g, 0, none⟩), .int .i64 ((x.r.seats.length : Nat) : Int)] rfl rfl (by kernel_rfl) rfl (exec_call Try.func21 (by kernel_rfl) (by kernel_rfl) _) ?_
              refine (l1Below_any A l c g x.r.seats.length _ hl hb (by omega) (by omega) hc42).mono ?_
              rintro e v43 ⟨y2, hy2, rfl, hc43, gr43⟩
              have b43 := b42.trans gr43
              have g43 := (gr43.block _ (blk_lt g42) (fun e => by injection e with e; omega)).trans g42
              refine ⟨_, rfl, b43, ?_⟩
              simp only [Act.put, List.setIfInBounds_toArray, List.set_cons_zero, List.set_cons_succ]
              refine held_call 10 52 47 #[.int .i64 1, .int .i64 ((NS : Nat) : Int)] rfl rfl (by kernel_rfl) rfl (exec_call Try.func47 (by kernel_rfl) (by kernel_rfl) _) ?_
              refine (l1Max_1 ((NS : Nat) : Int) _ (by omega)).mono ?_
              rintro e v44 ⟨rfl, rfl⟩
              refine ⟨_, rfl, b43, ?_⟩
              simp only [Act.put, List.setIfInBounds_toArray, List.set_cons_zero, List.set_cons_succ]
              refine held_call 11 53 21 #[.pointer (some ⟨g, 0, none⟩), .int .i64 ((NS : Nat) : Int)] rfl rfl (by kernel_rfl) rfl (exec_call Try.func21 (by kernel_rfl) (by kernel_rfl) _) ?_
              refine (l1Below_any A l c g NS _ hl hb (by omega) (by omega) hc43).mono ?_
              rintro e v45 ⟨y3, hy3, rfl, hc45, gr45⟩
              have b45 := b43.trans gr45
              have g45 := (gr45.block _ (blk_lt g43) (fun e => by injection e with e; omega)).trans g43
              refine ⟨_, rfl, b45, ?_⟩
              simp only [Act.put, List.setIfInBounds_toArray, List.set_cons_zero, List.set_cons_succ]
              refine held_take 12 54 (.int .i64 (1 + (y3 : Int))) rfl rfl (by kernel_rfl) (by kernel_rfl) (by kernel_rfl) (fun _ _ _ h => h) rfl b45 (fun w _ => exec_addI 1 (y3 : Int) _ w rfl (by omega) (by omega)) ?_
              simp only [Act.put, List.setIfInBounds_toArray, List.set_cons_zero, List.set_cons_succ]
              refine held_call 17 59 47 #[.int .i64 1, .int .i64 ((NT : Nat) : Int)] rfl rfl (by kernel_rfl) rfl (exec_call Try.func47 (by kernel_rfl) (by kernel_rfl) _) ?_
              refine (l1Max_1 ((NT : Nat) : Int) _ (by omega)).mono ?_
              rintro e v46 ⟨rfl, rfl⟩
              refine ⟨_, rfl, b45, ?_⟩
              simp only [Act.put, List.setIfInBounds_toArray, List.set_cons_zero, List.set_cons_succ]
              refine held_call 18 60 21 #[.pointer (some ⟨g, 0, none⟩), .int .i64 ((NT : Nat) : Int)] rfl rfl (by kernel_rfl) rfl (exec_call Try.func21 (by kernel_rfl) (by kernel_rfl) _) ?_
              refine (l1Below_any A l c g NT _ hl hb (by omega) (by omega) hc45).mono ?_
              rintro e v47 ⟨y4, hy4, rfl, hc47, gr47⟩
              have b47 := b45.trans gr47
              have g47 := (gr47.block _ (blk_lt g45) (fun e => by injection e with e; omega)).trans g45
              refine ⟨_, rfl, b47, ?_⟩
              simp only [Act.put, List.setIfInBounds_toArray, List.set_cons_zero, List.set_cons_succ]
              refine held_take 19 61 (rqA (⟨1, 1 + (y1 : Int), (y2 : Int), -1, 1 + (y3 : Int), (y4 : Int)⟩ : Rq)) rfl rfl (by kernel_rfl) (by kernel_rfl) (by kernel_rfl) (fun _ _ _ h => h) rfl b47 (fun w _ => exec_build_rq (⟨1, 1 + (y1 : Int), (y2 : Int), -1, 1 + (y3 : Int), (y4 : Int)⟩ : Rq) w) ?_
              simp only [Act.put, List.setIfInBounds_toArray, List.set_cons_zero, List.set_cons_succ]
              refine held_store 21 rfl rfl (by kernel_rfl) rfl (exec_store_rq _ (⟨1, 1 + (y1 : Int), (y2 : Int), -1, 1 + (y3 : Int), (y4 : Int)⟩ : Rq) _ g47) (putRq_grown (q := (⟨1, 1 + (y1 : Int), (y2 : Int), -1, 1 + (y3 : Int), (y4 : Int)⟩ : Rq)) b47 l42) ?_
              refine wpAnyH_done (by kernel_rfl) ?_ _
              have h9 := putRq_heap (q := (⟨1, 1 + (y1 : Int), (y2 : Int), -1, 1 + (y3 : Int), (y4 : Int)⟩ : Rq)) g47
              have c9 := putRq_cur (q := (⟨1, 1 + (y1 : Int), (y2 : Int), -1, 1 + (y3 : Int), (y4 : Int)⟩ : Rq)) hc47 (Nat.lt_of_lt_of_le hgW l42)
              have b9 := putRq_grown (q := (⟨1, 1 + (y1 : Int), (y2 : Int), -1, 1 + (y3 : Int), (y4 : Int)⟩ : Rq)) b47 l42
              go_wp2_with fail
              go_meet
              exact ⟨_, (⟨1, 1 + (y1 : Int), (y2 : Int), -1, 1 + (y3 : Int), (y4 : Int)⟩ : Rq), rfl, h9, l42, c9, b9⟩
          · skip
            simp only [Act.put, List.setIfInBounds_toArray, List.set_cons_zero, List.set_cons_succ]
            have l48 := b0.size
            have b48 := grown_step b0 (World.grownBy_alloc _ (.cells #[.int .i64 0, .int .i64 0, .int .i64 0, .int .i64 0, .int .i64 0, .int .i64 0] 30) none) (fun j h => by cases h)
            have hc48 := hc0.alloc (.cells #[.int .i64 0, .int .i64 0, .int .i64 0, .int .i64 0, .int .i64 0, .int .i64 0] 30)
            have g48 := heap_newB b0 (.cells #[.int .i64 0, .int .i64 0, .int .i64 0, .int .i64 0, .int .i64 0, .int .i64 0] 30)
            refine held_call 1 43 21 #[.pointer (some ⟨g, 0, none⟩), .int .i64 (14 : Int)] rfl rfl (by kernel_rfl) rfl (exec_call Try.func21 (by kernel_rfl) (by kernel_rfl) _) ?_
            refine (l1Below_any A l c g 14 _ hl hb (by omega) (by omega) hc48).mono ?_
            rintro e v49 ⟨y1, hy1, rfl, hc49, gr49⟩
            have b49 := b48.trans gr49
            have g49 := (gr49.block _ (blk_lt g48) (fun e => by injection e with e; omega)).trans g48
            refine ⟨_, rfl, b49, ?_⟩
            simp only [Act.put, List.setIfInBounds_toArray, List.set_cons_zero, List.set_cons_succ]
            refine held_take 2 44 (.int .i64 (1 + (y1 : Int))) rfl rfl (by kernel_rfl) (by kernel_rfl) (by kernel_rfl) (fun _ _ _ h => h) rfl b49 (fun w _ => exec_addI 1 (y1 : Int) _ w rfl (by omega) (by omega)) ?_
            simp only [Act.put, List.setIfInBounds_toArray, List.set_cons_zero, List.set_cons_succ]
            refine held_call 5 47 21 #[.pointer (some ⟨g, 0, none⟩), .int .i64 ((x.r.seats.length : Nat) : Int)] rfl rfl (by kernel_rfl) rfl (exec_call Try.func21 (by kernel_rfl) (by kernel_rfl) _) ?_
            refine (l1Below_any A l c g x.r.seats.length _ hl hb (by omega) (by omega) hc49).mono ?_
            rintro e v50 ⟨y2, hy2, rfl, hc50, gr50⟩
            have b50 := b49.trans gr50
            have g50 := (gr50.block _ (blk_lt g49) (fun e => by injection e with e; omega)).trans g49
            refine ⟨_, rfl, b50, ?_⟩
            simp only [Act.put, List.setIfInBounds_toArray, List.set_cons_zero, List.set_cons_succ]
            refine held_call 10 52 47 #[.int .i64 1, .int .i64 ((NS : Nat) : Int)] rfl rfl (by kernel_rfl) rfl (exec_call Try.func47 (by kernel_rfl) (by kernel_rfl) _) ?_
            refine (l1Max_1 ((NS : Nat) : Int) _ (by omega)).mono ?_
            rintro e v51 ⟨rfl, rfl⟩
            refine ⟨_, rfl, b50, ?_⟩
            simp only [Act.put, List.setIfInBounds_toArray, List.set_cons_zero, List.set_cons_succ]
            refine held_call 11 53 21 #[.pointer (some ⟨g, 0, none⟩), .int .i64 ((NS : Nat) : Int)] rfl rfl (by kernel_rfl) rfl (exec_call Try.func21 (by kernel_rfl) (by kernel_rfl) _) ?_
            refine (l1Below_any A l c g NS _ hl hb (by omega) (by omega) hc50).mono ?_
            rintro e v52 ⟨y3, hy3, rfl, hc52, gr52⟩
            have b52 := b50.trans gr52
            have g52 := (gr52.block _ (blk_lt g50) (fun e => by injection e with e; omega)).trans g50
            refine ⟨_, rfl, b52, ?_⟩
            simp only [Act.put, List.setIfInBounds_toArray, List.set_cons_zero, List.set_cons_succ]
            refine held_take 12 54 (.int .i64 (1 + (y3 : Int))) rfl rfl (by kernel_rfl) (by kernel_rfl) (by kernel_rfl) (fun _ _ _ h => h) rfl b52 (fun w _ => exec_addI 1 (y3 : Int) _ w rfl (by omega) (by omega)) ?_
            simp only [Act.put, List.setIfInBounds_toArray, List.set_cons_zero, List.set_cons_succ]
            refine held_call 17 59 47 #[.int .i64 1, .int .i64 ((NT : Nat) : Int)] rfl rfl (by kernel_rfl) rfl (exec_call Try.func47 (by kernel_rfl) (by kernel_rfl) _) ?_
            refine (l1Max_1 ((NT : Nat) : Int) _ (by omega)).mono ?_
            rintro e v53 ⟨rfl, rfl⟩
            refine ⟨_, rfl, b52, ?_⟩
            simp only [Act.put, List.setIfInBounds_toArray, List.set_cons_zero, List.set_cons_succ]
            refine held_call 18 60 21 #[.pointer (some ⟨g, 0, none⟩), .int .i64 ((NT : Nat) : Int)] rfl rfl (by kernel_rfl) rfl (exec_call Try.func21 (by kernel_rfl) (by kernel_rfl) _) ?_
            refine (l1Below_any A l c g NT _ hl hb (by omega) (by omega) hc52).mono ?_
            rintro e v54 ⟨y4, hy4, rfl, hc54, gr54⟩
            have b54 := b52.trans gr54
            have g54 := (gr54.block _ (blk_lt g52) (fun e => by injection e with e; omega)).trans g52
            refine ⟨_, rfl, b54, ?_⟩
            simp only [Act.put, List.setIfInBounds_toArray, List.set_cons_zero, List.set_cons_succ]
            refine held_take 19 61 (rqA (⟨1, 1 + (y1 : Int), (y2 : Int), -1, 1 + (y3 : Int), (y4 : Int)⟩ : Rq)) rfl rfl (by kernel_rfl) (by kernel_rfl) (by kernel_rfl) (fun _ _ _ h => h) rfl b54 (fun w _ => exec_build_rq (⟨1, 1 + (y1 : Int), (y2 : Int), -1, 1 + (y3 : Int), (y4 : Int)⟩ : Rq) w) ?_
            simp only [Act.put, List.setIfInBounds_toArray, List.set_cons_zero, List.set_cons_succ]
            refine held_store 21 rfl rfl (by kernel_rfl) rfl (exec_store_rq _ (⟨1, 1 + (y1 : Int), (y2 : Int), -1, 1 + (y3 : Int), (y4 : Int)⟩ : Rq) _ g54) (putRq_grown (q := (⟨1, 1 + (y1 : Int), (y2 : Int), -1, 1 + (y3 : Int), (y4 : Int)⟩ : Rq)) b54 l48) ?_
            refine wpAnyH_done (by kernel_rfl) ?_ _
            have h9 := putRq_heap (q := (⟨1, 1 + (y1 : Int), (y2 : Int), -1, 1 + (y3 : Int), (y4 : Int)⟩ : Rq)) g54
            have c9 := putRq_cur (q := (⟨1, 1 + (y1 : Int), (y2 : Int), -1, 1 + (y3 : Int), (y4 : Int)⟩ : Rq)) hc54 (Nat.lt_of_lt_of_le hgW l48)
            have b9 := putRq_grown (q := (⟨1, 1 + (y1 : Int), (y2 : Int), -1, 1 + (y3 : Int), (y4 : Int)⟩ : Rq)) b54 l48
            go_wp2_with fail
            go_meet
            exact ⟨_, (⟨1, 1 + (y1 : Int), (y2 : Int), -1, 1 + (y3 : Int), (y4 : Int)⟩ : Rq), rfl, h9, l48, c9, b9⟩
        case rest =>
          clear hc5 g5
          obtain ⟨gp, q, rfl, hp, hgp, hcv, gv⟩ := hcut
          go_wp2_with fail
          refine (l1Once_any A l c g 3 _ hl hb (by omega) (by omega) hcv).mono ?_
          rintro e v6 ⟨d6, rfl, hc6, gr6⟩
          have g6 := gv.trans gr6
          have hp6 := (gr6.block _ (blk_lt hp) (fun e => by injection e with e; omega)).trans hp
          clear hp hcv gv gr6
          cases d6
          · skip
            have a0 := cell_of_row _ _ 0 _ _ _ (hp6)
            have a1 := cell_of_row _ _ 1 _ _ _ (hp6)
            have a2 := cell_of_row _ _ 2 _ _ _ (hp6)
            have a3 := cell_of_row _ _ 3 _ _ _ (hp6)
            have a4 := cell_of_row _ _ 4 _ _ _ (hp6)
            have a5 := cell_of_row _ _ 5 _ _ _ (hp6)
            simp at a0 a1 a2 a3 a4 a5
            have hz := KZ.out _ (g6)
            have e0 := cell_of_row _ _ 0 _ _ _ hz
            have f0 := frozen_of_row _ _ 0 _ _ hz
            have e1 := cell_of_row _ _ 1 _ _ _ hz
            have f1 := frozen_of_row _ _ 1 _ _ hz
            have e2 := cell_of_row _ _ 2 _ _ _ hz
            have f2 := frozen_of_row _ _ 2 _ _ hz
            have e3 := cell_of_row _ _ 3 _ _ _ hz
            have f3 := frozen_of_row _ _ 3 _ _ hz
            have e4 := cell_of_row _ _ 4 _ _ _ hz
            have f4 := frozen_of_row _ _ 4 _ _ hz
            have e5 := cell_of_row _ _ 5 _ _ _ hz
            have f5 := frozen_of_row _ _ 5 _ _ hz
            simp at e0 e1 e2 e3 e4 e5
            have HN : Hid (GotRq w g A l c (.returned (rqA q)) (putRq _ (w.heap.size + 1) q)) := ⟨_, rfl, putRq_cur (hc6) (by omega), putRq_grown (gW.out.trans (g6)) (by omega)⟩
            clear hz
            unfold rqA putRq at HN
            go_wp2
            simp [bodyPost, results, Try.results22, go_sem, e0, e1, e2, e3, e4, e5]
            exact HN.out
          · skip
            go_wp2_with fail
            refine (l1Below_any A l c g x.r.seats.length _ hl hb (by omega) (by omega) hc6).mono ?_
            rintro e v7 ⟨y6, hy6, rfl, hc7, gr7⟩
            have g7 := g6.trans gr7
            have hp7 := (gr7.block _ (blk_lt hp6) (fun e => by injection e with e; omega)).trans hp6
            clear hp6 hc6 g6 gr7
            have s0 := cell_of_row _ _ 3 _ _ _ hp7
            have s1 := frozen_of_row _ _ 3 _ _ hp7
            simp at s0
            have hp8 : (v7.setCell ⟨gp, 3, none⟩ (.int .i64 (y6 : Int))).heap[gp]? = some (.cells #[.int .i64 q.kind, .int .i64 q.id, .int .i64 q.cabin, .int .i64 (y6 : Int), .int .i64 q.size, .int .i64 q.tier] 30) := Go.heap_setCell_same _ gp 3 _ _ (.int .i64 (y6 : Int)) hp7
            have hc8 := hc7.setCell gp 3 (.int .i64 (y6 : Int)) (by omega)
            have g8 := grown_setD g7 gp 3 (.int .i64 (y6 : Int)) hgp
            obtain ⟨U, eU⟩ : ∃ U, v7.setCell ⟨gp, 3, none⟩ (.int .i64 (y6 : Int)) = U := ⟨_, rfl⟩
            rw [eU] at hp8 hc8 g8
            clear hp7 hc7 g7
            have a0 := cell_of_row _ _ 0 _ _ _ (hp8)
            have a1 := cell_of_row _ _ 1 _ _ _ (hp8)
            have a2 := cell_of_row _ _ 2 _ _ _ (hp8)
            have a3 := cell_of_row _ _ 3 _ _ _ (hp8)
            have a4 := cell_of_row _ _ 4 _ _ _ (hp8)
            have a5 := cell_of_row _ _ 5 _ _ _ (hp8)
            simp at a0 a1 a2 a3 a4 a5
            have hz := KZ.out _ (g8)
            have e0 := cell_of_row _ _ 0 _ _ _ hz
            have f0 := frozen_of_row _ _ 0 _ _ hz
            have e1 := cell_of_row _ _ 1 _ _ _ hz
            have f1 := frozen_of_row _ _ 1 _ _ hz
            have e2 := cell_of_row _ _ 2 _ _ _ hz
            have f2 := frozen_of_row _ _ 2 _ _ hz
            have e3 := cell_of_row _ _ 3 _ _ _ hz
            have f3 := frozen_of_row _ _ 3 _ _ hz
            have e4 := cell_of_row _ _ 4 _ _ _ hz
            have f4 := frozen_of_row _ _ 4 _ _ hz
            have e5 := cell_of_row _ _ 5 _ _ _ hz
            have f5 := frozen_of_row _ _ 5 _ _ hz
            simp at e0 e1 e2 e3 e4 e5
            have HN : Hid (GotRq w g A l c (.returned (rqA (⟨q.kind, q.id, q.cabin, (y6 : Int), q.size, q.tier⟩ : Rq))) (putRq _ (w.heap.size + 1) (⟨q.kind, q.id, q.cabin, (y6 : Int), q.size, q.tier⟩ : Rq))) := ⟨_, rfl, putRq_cur (hc8) (by omega), putRq_grown (gW.out.trans (g8)) (by omega)⟩
            clear hz
            unfold rqA putRq at HN
            go_wp2
            simp [bodyPost, results, Try.results22, go_sem, e0, e1, e2, e3, e4, e5]
            exact HN.out
      · skip
        have hz := KZ.out _ (g5)
        have e0 := cell_of_row _ _ 0 _ _ _ hz
        have f0 := frozen_of_row _ _ 0 _ _ hz
        have e1 := cell_of_row _ _ 1 _ _ _ hz
        have f1 := frozen_of_row _ _ 1 _ _ hz
        have e2 := cell_of_row _ _ 2 _ _ _ hz
        have f2 := frozen_of_row _ _ 2 _ _ hz
        have e3 := cell_of_row _ _ 3 _ _ _ hz
        have f3 := frozen_of_row _ _ 3 _ _ hz
        have e4 := cell_of_row _ _ 4 _ _ _ hz
        have f4 := frozen_of_row _ _ 4 _ _ hz
        have e5 := cell_of_row _ _ 5 _ _ _ hz
        have f5 := frozen_of_row _ _ 5 _ _ hz
        simp at e0 e1 e2 e3 e4 e5
        have HN : Hid (GotRq w g A l c (.returned (rqA (⟨2, z, 0, 0, 0, 0⟩ : Rq))) (putRq _ (w.heap.size + 1) (⟨2, z, 0, 0, 0, 0⟩ : Rq))) := ⟨_, rfl, putRq_cur (hc5) (by omega), putRq_grown (gW.out.trans (g5)) (by omega)⟩
        clear hz
        unfold rqA putRq at HN
        go_wp2
        simp [bodyPost, results, Try.results22, go_sem, e0, e1, e2, e3, e4, e5]
        exact HN.out
      · skip
        go_wp2_with fail
        refine (l1Below_any A l c g x.r.seats.length _ hl hb (by omega) (by omega) hc5).mono ?_
        rintro e v6 ⟨y6, hy6, rfl, hc6, gr6⟩
        have g6 := g5.trans gr6
        clear gr6
        go_wp2_with fail
        refine (l1Below_any A l c g 4 _ hl hb (by omega) (by omega) hc6).mono ?_
        rintro e v7 ⟨y7, hy7, rfl, hc7, gr7⟩
        have g7 := g6.trans gr7
        clear gr7
        have hz := KZ.out _ (g7)
        have e0 := cell_of_row _ _ 0 _ _ _ hz
        have f0 := frozen_of_row _ _ 0 _ _ hz
        have e1 := cell_of_row _ _ 1 _ _ _ hz
        have f1 := frozen_of_row _ _ 1 _ _ hz
        have e2 := cell_of_row _ _ 2 _ _ _ hz
        have f2 := frozen_of_row _ _ 2 _ _ hz
        have e3 := cell_of_row _ _ 3 _ _ _ hz
        have f3 := frozen_of_row _ _ 3 _ _ hz
        have e4 := cell_of_row _ _ 4 _ _ _ hz
        have f4 := frozen_of_row _ _ 4 _ _ hz
        have e5 := cell_of_row _ _ 5 _ _ _ hz
        have f5 := frozen_of_row _ _ 5 _ _ hz
        simp at e0 e1 e2 e3 e4 e5
        have HN : Hid (GotRq w g A l c (.returned (rqA (⟨3, 0, (y6 : Int), 0, 1 + (y7 : Int), 0⟩ : Rq))) (putRq _ (w.heap.size + 1) (⟨3, 0, (y6 : Int), 0, 1 + (y7 : Int), 0⟩ : Rq))) := ⟨_, rfl, putRq_cur (hc7) (by omega), putRq_grown (gW.out.trans (g7)) (by omega)⟩
        clear hz
        unfold rqA putRq at HN
        go_wp2
        simp [bodyPost, results, Try.results22, go_sem, e0, e1, e2, e3, e4, e5]
        exact HN.out
      · skip
        go_wp2_with fail
        refine (l1Below_any A l c g x.r.seats.length _ hl hb (by omega) (by omega) hc5).mono ?_
        rintro e v6 ⟨y6, hy6, rfl, hc6, gr6⟩
        have g6 := g5.trans gr6
        clear gr6
        go_wp2_with fail
        refine (l1Below_any A l c g 4 _ hl hb (by omega) (by omega) hc6).mono ?_
        rintro e v7 ⟨y7, hy7, rfl, hc7, gr7⟩
        have g7 := g6.trans gr7
        clear gr7
        have hz := KZ.out _ (g7)
        have e0 := cell_of_row _ _ 0 _ _ _ hz
        have f0 := frozen_of_row _ _ 0 _ _ hz
        have e1 := cell_of_row _ _ 1 _ _ _ hz
        have f1 := frozen_of_row _ _ 1 _ _ hz
        have e2 := cell_of_row _ _ 2 _ _ _ hz
        have f2 := frozen_of_row _ _ 2 _ _ hz
        have e3 := cell_of_row _ _ 3 _ _ _ hz
        have f3 := frozen_of_row _ _ 3 _ _ hz
        have e4 := cell_of_row _ _ 4 _ _ _ hz
        have f4 := frozen_of_row _ _ 4 _ _ hz
        have e5 := cell_of_row _ _ 5 _ _ _ hz
        have f5 := frozen_of_row _ _ 5 _ _ hz
        simp at e0 e1 e2 e3 e4 e5
        have HN : Hid (GotRq w g A l c (.returned (rqA (⟨3, 0, (y6 : Int), 0, 1 + (y7 : Int), 0⟩ : Rq))) (putRq _ (w.heap.size + 1) (⟨3, 0, (y6 : Int), 0, 1 + (y7 : Int), 0⟩ : Rq))) := ⟨_, rfl, putRq_cur (hc7) (by omega), putRq_grown (gW.out.trans (g7)) (by omega)⟩
        clear hz
        unfold rqA putRq at HN
        go_wp2
        simp [bodyPost, results, Try.results22, go_sem, e0, e1, e2, e3, e4, e5]
        exact HN.out
      · skip
        have hz := KZ.out _ (g5)
        have e0 := cell_of_row _ _ 0 _ _ _ hz
        have f0 := frozen_of_row _ _ 0 _ _ hz
        have e1 := cell_of_row _ _ 1 _ _ _ hz
        have f1 := frozen_of_row _ _ 1 _ _ hz
        have e2 := cell_of_row _ _ 2 _ _ _ hz
        have f2 := frozen_of_row _ _ 2 _ _ hz
        have e3 := cell_of_row _ _ 3 _ _ _ hz
        have f3 := frozen_of_row _ _ 3 _ _ hz
        have e4 := cell_of_row _ _ 4 _ _ _ hz
        have f4 := frozen_of_row _ _ 4 _ _ hz
        have e5 := cell_of_row _ _ 5 _ _ _ hz
        have f5 := frozen_of_row _ _ 5 _ _ hz
        simp at e0 e1 e2 e3 e4 e5
        have HN : Hid (GotRq w g A l c (.returned (rqA (⟨4, z, 0, 0, 0, 0⟩ : Rq))) (putRq _ (w.heap.size + 1) (⟨4, z, 0, 0, 0, 0⟩ : Rq))) := ⟨_, rfl, putRq_cur (hc5) (by omega), putRq_grown (gW.out.trans (g5)) (by omega)⟩
        clear hz
        unfold rqA putRq at HN
        go_wp2
        simp [bodyPost, results, Try.results22, go_sem, e0, e1, e2, e3, e4, e5]
        exact HN.out
      · skip
        have hz := KZ.out _ (g5)
        have e0 := cell_of_row _ _ 0 _ _ _ hz
        have f0 := frozen_of_row _ _ 0 _ _ hz
        have e1 := cell_of_row _ _ 1 _ _ _ hz
        have f1 := frozen_of_row _ _ 1 _ _ hz
        have e2 := cell_of_row _ _ 2 _ _ _ hz
        have f2 := frozen_of_row _ _ 2 _ _ hz
        have e3 := cell_of_row _ _ 3 _ _ _ hz
        have f3 := frozen_of_row _ _ 3 _ _ hz
        have e4 := cell_of_row _ _ 4 _ _ _ hz
        have f4 := frozen_of_row _ _ 4 _ _ hz
        have e5 := cell_of_row _ _ 5 _ _ _ hz
        have f5 := frozen_of_row _ _ 5 _ _ hz
        simp at e0 e1 e2 e3 e4 e5
        have HN : Hid (GotRq w g A l c (.returned (rqA (⟨5, z, 0, 0, 0, 0⟩ : Rq))) (putRq _ (w.heap.size + 1) (⟨5, z, 0, 0, 0, 0⟩ : Rq))) := ⟨_, rfl, putRq_cur (hc5) (by omega), putRq_grown (gW.out.trans (g5)) (by omega)⟩
        clear hz
        unfold rqA putRq at HN
        go_wp2
        simp [bodyPost, results, Try.results22, go_sem, e0, e1, e2, e3, e4, e5]
        exact HN.out
      · skip
        have hz := KZ.out _ (g5)
        have e0 := cell_of_row _ _ 0 _ _ _ hz
        have f0 := frozen_of_row _ _ 0 _ _ hz
        have e1 := cell_of_row _ _ 1 _ _ _ hz
        have f1 := frozen_of_row _ _ 1 _ _ hz
        have e2 := cell_of_row _ _ 2 _ _ _ hz
        have f2 := frozen_of_row _ _ 2 _ _ hz
        have e3 := cell_of_row _ _ 3 _ _ _ hz
        have f3 := frozen_of_row _ _ 3 _ _ hz
        have e4 := cell_of_row _ _ 4 _ _ _ hz
        have f4 := frozen_of_row _ _ 4 _ _ hz
        have e5 := cell_of_row _ _ 5 _ _ _ hz
        have f5 := frozen_of_row _ _ 5 _ _ hz
        simp at e0 e1 e2 e3 e4 e5
        have HN : Hid (GotRq w g A l c (.returned (rqA (⟨6, 0, 0, 0, 0, 0⟩ : Rq))) (putRq _ (w.heap.size + 1) (⟨6, 0, 0, 0, 0, 0⟩ : Rq))) := ⟨_, rfl, putRq_cur (hc5) (by omega), putRq_grown (gW.out.trans (g5)) (by omega)⟩
        clear hz
        unfold rqA putRq at HN
        go_wp2
        simp [bodyPost, results, Try.results22, go_sem, e0, e1, e2, e3, e4, e5]
        exact HN.out
      · skip
        have n0 : ((k : Int) == 0) = false := by simp; omega
        have n1 : ((k : Int) == 1) = false := by simp; omega
        have n2 : ((k : Int) == 2) = false := by simp; omega
        have n3 : ((k : Int) == 3) = false := by simp; omega
        have n4 : ((k : Int) == 4) = false := by simp; omega
        have n5 : ((k : Int) == 5) = false := by simp; omega
        have n6 : ((k : Int) == 6) = false := by simp; omega
        have n7 : ((k : Int) == 7) = false := by simp; omega
        have n8 : ((k : Int) == 8) = false := by simp; omega
        have n9 : ((k : Int) == 9) = false := by simp; omega
        have k8 := K8.out _ g5
        go_wp2_with fail
        refine (l1Max_1 (NC : Int) _ (by omega)).mono ?_
        rintro e w' ⟨rfl, rfl⟩
        go_wp2_with fail
        refine (l1Below_any A l c g NC _ hl hb (by omega) (by omega) hc5).mono ?_
        rintro e v6 ⟨y6, hy6, rfl, hc6, gr6⟩
        have g6 := g5.trans gr6
        clear gr6
        have hz := KZ.out _ (g6)
        have e0 := cell_of_row _ _ 0 _ _ _ hz
        have f0 := frozen_of_row _ _ 0 _ _ hz
        have e1 := cell_of_row _ _ 1 _ _ _ hz
        have f1 := frozen_of_row _ _ 1 _ _ hz
        have e2 := cell_of_row _ _ 2 _ _ _ hz
        have f2 := frozen_of_row _ _ 2 _ _ hz
        have e3 := cell_of_row _ _ 3 _ _ _ hz
        have f3 := frozen_of_row _ _ 3 _ _ hz
        have e4 := cell_of_row _ _ 4 _ _ _ hz
        have f4 := frozen_of_row _ _ 4 _ _ hz
        have e5 := cell_of_row _ _ 5 _ _ _ hz
        have f5 := frozen_of_row _ _ 5 _ _ hz
        simp at e0 e1 e2 e3 e4 e5
        have HN : Hid (GotRq w g A l c (.returned (rqA (⟨7, (y6 : Int), 0, 0, 0, 0⟩ : Rq))) (putRq _ (w.heap.size + 1) (⟨7, (y6 : Int), 0, 0, 0, 0⟩ : Rq))) := ⟨_, rfl, putRq_cur (hc6) (by omega), putRq_grown (gW.out.trans (g6)) (by omega)⟩
        clear hz
        unfold rqA putRq at HN
        go_wp2
        simp [bodyPost, results, Try.results22, go_sem, e0, e1, e2, e3, e4, e5]
        exact HN.out
end Go.Proofs.Ytohpegblbikbdaa
