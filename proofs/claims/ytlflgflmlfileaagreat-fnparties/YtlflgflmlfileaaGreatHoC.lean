/- slices.Grow, slices.Concat over parties; insertedById of the program. -/
import Derived.Test.YtlflgflmlfileaaGreatRows
import Derived.Test.YtlflgflmlfileaaGreatHoA
import Derived.Lib.AppendZeros
import Derived.Test.YtlflgflmlfileaaGreatJ2
namespace Go.Proofs.YtlflgflmlfileaaGreat
open Go.RowKit
set_option linter.unusedSimpArgs false
set_option linter.unusedVariables false
set_option maxRecDepth 100000 in
theorem rowQuP : RowT 63 26 10 80 (.agg #[.int .i64 0, .int .i64 0, .int .i64 0, .int .i64 0, .int .i64 0, .int .i64 0, .int .i64 0, .int .i64 0, .int .i64 0, .int .i64 0]) := ⟨Tryz.underlying63, by kernel_rfl, rfl, by omega, by omega⟩
set_option maxRecDepth 100000 in
set_option maxHeartbeats 800000 in
theorem growP_im (n : Nat) (w : World) (hn : n ≤ 1073741824) :
    Calls Tryz.prog 66 #[.slice none 0 0, .int .i64 (n : Int)] w (NewR 26 10 w 0 []) := by
  by_cases h0 : n = 0
  · subst h0
    have R : Hid (NewR 26 10 w 0 [] (.returned (.slice none 0 0)) w) := ⟨none, 0, rfl, World.ownsRow_nil _ _ _ _, Below.refl _ _⟩
    go_enter Tryz.func66, Tryz.ntmps66
    go_wp2
    go_ret
    exact R.out
  · obtain ⟨i0, hi, hz0, hz1, hz2⟩ := info_parts rowQuP.inf
    have hpos : 0 < n := by omega
    have HR := Lib.hid (fun ty => Lib.run_append_nil_zeros (P := Tryz.prog) w 63 3 ty 26 i0 _ .i64 .i64 rowQuP.ut Tryz.underlying3 hi hz0 n hpos (by rw [hz1]; omega) (by omega) (by rw [hz2]; omega))
    have hm : grownCap w n 0 26 ≤ maxLen := grownCap_le_maxLen _ _ _ _ (by unfold maxLen; omega)
    have hge := grownCap_ge w n 0 26
    have hO := World.ownsRow_made (base := w.heap.size) (e := 26) (size := 10) w.drew (Builtin.zeroCells (Value.agg #[.int .i64 0, .int .i64 0, .int .i64 0, .int .i64 0, .int .i64 0, .int .i64 0, .int .i64 0, .int .i64 0, .int .i64 0, .int .i64 0]).cells n ++ Builtin.zeroCells (Value.agg #[.int .i64 0, .int .i64 0, .int .i64 0, .int .i64 0, .int .i64 0, .int .i64 0, .int .i64 0, .int .i64 0, .int .i64 0, .int .i64 0]).cells (grownCap w n 0 26 - n)) (grownCap w n 0 26) (by simp) hm
      (by rw [Array.size_append, size_zeroCells, size_zeroCells]; show n * 10 + _ * 10 = _; omega)
    have hB : Below w.heap.size w (w.drew.alloc (.cells (Builtin.zeroCells (Value.agg #[.int .i64 0, .int .i64 0, .int .i64 0, .int .i64 0, .int .i64 0, .int .i64 0, .int .i64 0, .int .i64 0, .int .i64 0, .int .i64 0]).cells n ++ Builtin.zeroCells (Value.agg #[.int .i64 0, .int .i64 0, .int .i64 0, .int .i64 0, .int .i64 0, .int .i64 0, .int .i64 0, .int .i64 0, .int .i64 0, .int .i64 0]).cells (grownCap w n 0 26 - n)) 26)) := (Below.refl _ _).drew.alloc (by simp) _
    have R : Hid (NewR 26 10 w 0 [] (.returned (.slice (some ⟨w.heap.size, 0, none⟩) 0 (grownCap w n 0 26))) _) := ⟨_, _, rfl, hO, hB⟩
    clear hO hB hm
    generalize grownCap w n 0 26 = G at *
    generalize w.drew.alloc (.cells (Builtin.zeroCells (Value.agg #[.int .i64 0, .int .i64 0, .int .i64 0, .int .i64 0, .int .i64 0, .int .i64 0, .int .i64 0, .int .i64 0, .int .i64 0, .int .i64 0]).cells n ++ Builtin.zeroCells (Value.agg #[.int .i64 0, .int .i64 0, .int .i64 0, .int .i64 0, .int .i64 0, .int .i64 0, .int .i64 0, .int .i64 0, .int .i64 0, .int .i64 0]).cells (G - n)) 26) = W at *
    go_enter Tryz.func66, Tryz.ntmps66
    go_wp2_with (at_builtin; refine Lib.wpList_append_run _ rfl _ _ _ _ rfl _ _ rfl rfl _ _ (HR.out _) ?_)
    go_ret
    exact R.out
/-- A slice of entries. -/
structure Pp where
  A : Option Addr
  c : Nat
  l : List Pt
def Pp.v (p : Pp) : Value := .slice p.A p.l.length p.c
def pp0 : Pp := ⟨none, 0, []⟩
def Pp.ok (w : World) (p : Pp) : Prop := p.l.length ≤ 2097153 ∧ (p.A = none → p.c = 0) ∧ Rws w w.heap.size p.A (p.l.flatMap ptC)
def catP (L : List Pp) (k : Nat) : List Pt := (L.take k).flatMap (·.l)
theorem catP_succ (L : List Pp) (k : Nat) (hk : k < L.length) : catP L (k + 1) = catP L k ++ (L.getD k pp0).l := by
  unfold catP
  rw [List.take_add_one, List.flatMap_append, List.getD_eq_getElem?_getD, List.getElem?_eq_getElem hk]
  simp
theorem catP_le (L : List Pp) (h : ∀ i, i < L.length → (L.getD i pp0).l.length ≤ 2097153) : ∀ k, k ≤ L.length → (catP L k).length ≤ k * 2097153
  | 0, _ => by simp [catP]
  | k + 1, hk => by
    rw [catP_succ L k (by omega), List.length_append]
    have h1 := catP_le L h k (by omega)
    have h2 := h k (by omega)
    omega
set_option maxRecDepth 100000 in
set_option maxHeartbeats 1600000 in
theorem concatP_im (L : List Pp) (g off : Nat) (w : World) (hL : L.length ≤ 3) (hgl : g < w.heap.size) (hc : ∀ i, i < L.length → w.cell? ⟨g, off + i, none⟩ = some (L.getD i pp0).v) (hp : ∀ i, i < L.length → (L.getD i pp0).ok w) :
    Calls Tryz.prog 47 #[.slice (some ⟨g, off, none⟩) L.length L.length] w (NewR 26 10 w (catP L L.length).length ((catP L L.length).flatMap ptC)) := by
  have HL := Lib.hid (fun k hk => catP_le L (fun i hi => (hp i hi).1) k hk)
  have HC := Lib.hid hc
  have HP := Lib.hid hp
  clear hc hp
  go_enter Tryz.func47, Tryz.ntmps47
  go_wp2
  go_loop [3, 11] (fun z i => ∃ k : Nat, k ≤ L.length ∧ i = .int .i64 k ∧ z = .int .i64 ((catP L k).length : Nat)) (fun _ i => L.length - (intOf i).toNat)
  case atStart => exact ⟨0, by omega, rfl, rfl⟩
  case round =>
    obtain ⟨k, hk, rfl, rfl⟩ := hrel
    by_cases hlt : k < L.length
    · have hc := HC.out k hlt
      unfold Pp.v at hc
      have hl1 := HL.out k hk
      have hl2 := HL.out (k + 1) hlt
      have HE := Lib.hid (catP_succ L k hlt)
      have hl3 : (catP L (k + 1)).length = (catP L k).length + (L.getD k pp0).l.length := by rw [HE.out, List.length_append]
      rw [hl3] at hl2
      have H3 := Lib.hid hl3
      clear hl3 HE
      generalize L.getD k pp0 = p at *
      generalize (catP L k).length = n at *
      go_wp2
      go_round
      case rel => exact ⟨k + 1, by omega, by go_num, by rw [H3.out]; go_num⟩
      case measure => simp [intOf]; omega
    · obtain rfl : k = L.length := by omega
      have hl1 := HL.out L.length (Nat.le_refl _)
      have CG := Lib.hid (growP_im (catP L L.length).length w (by omega))
      go_wp2_with fail
      refine CG.out.mono ?_
      rintro e w1 ⟨GA, gc, rfl, o1, b1⟩
      have HO := Lib.hid o1
      have HB := Lib.hid b1
      clear CG o1 b1
      go_wp2
      go_loopw [6, 27] (fun v i wr => ∃ k : Nat, k ≤ L.length ∧ i = .int .i64 k ∧ Hid (wr.ownsRow w.heap.size 26 10 v (catP L k).length ((catP L k).flatMap ptC)) ∧ Hid (Below w.heap.size w wr)) (fun _ i _ => L.length - (intOf i).toNat)
      case atStart => exact ⟨0, by omega, rfl, HO, HB⟩
      case round =>
        obtain ⟨k, hk, rfl, ho, hb⟩ := hrel
        by_cases hlt : k < L.length
        · have hc := (hb.out.cell (by exact hgl)).trans (HC.out k hlt)
          unfold Pp.v at hc
          obtain ⟨hp1, hp2, hp3⟩ := HP.out k hlt
          have hl1 := HL.out k hk
          have HE := Lib.hid (catP_succ L k hlt)
          have HR := Lib.hid (rws_below hp3 hb.out)
          clear hp3
          generalize L.getD k pp0 = p at *
          go_wp2_with (at_builtin; refine wpList_appR rowQuP _ rfl (.tmp 31) (.tmp 32) rfl w.heap.size _ (catP L k).length ((catP L k).flatMap ptC) rfl ho.out _ p.A p.l.length p.c (p.l.flatMap ptC) rfl (flat_len ptC 10 ptC_len p.l) HR.out hp2 (ptC_one _) (by omega) hb.out.size ?_)
          intro v2 w2 o2 g2
          have B2 := Lib.hid (hb.out.grown g2 hb.out.size (own_low ho.out))
          have O2 : Hid (w2.ownsRow w.heap.size 26 10 v2 (catP L (k + 1)).length ((catP L (k + 1)).flatMap ptC)) := by
            show w2.ownsRow _ _ _ _ _ _
            rw [HE.out, List.length_append, List.flatMap_append]; exact o2
          clear o2 g2 HR HE ho hb hc
          go_wp2
          go_roundw
          case rel => exact ⟨k + 1, by omega, by go_num, O2, B2⟩
          case measure => simp [intOf]; omega
        · obtain rfl : k = L.length := by omega
          have R := Lib.hid (NewR.of_own ho.out hb.out)
          clear ho hb
          go_wp2
          go_ret
          exact R.out
set_option maxRecDepth 100000 in
theorem exec_one_quP {ρ : Operand → Value} {o : Oper} {y : Operand} (x : Pt) (w : World) (ho : o.op = .buildSlice 63 1 #[(0, y)] := by rfl) (hy : ρ y = ptA x := by rfl) :
    (execOp ρ o).run Tryz.prog w = .ok (.value (.slice (some ⟨w.heap.size, 0, none⟩) 1 1)) (w.alloc (.cells (ptC x).toArray 26)) := by
  unfold execOp
  rw [ho]
  simp [go_sem, hy, ptA, ptC]
set_option maxRecDepth 100000 in
theorem exec_three_quP {ρ : Operand → Value} {o : Oper} {x y z : Operand} (A B C : Option Addr) (n m k c d e : Nat) (w : World) (ho : o.op = .buildSlice 103 3 #[(0, x), (1, y), (2, z)] := by rfl) (hx : ρ x = .slice A n c := by rfl) (hy : ρ y = .slice B m d := by rfl) (hz : ρ z = .slice C k e := by rfl) :
    (execOp ρ o).run Tryz.prog w = .ok (.value (.slice (some ⟨w.heap.size, 0, none⟩) 3 3)) (w.alloc (.cells #[.slice A n c, .slice B m d, .slice C k e] 63)) := by
  unfold execOp
  rw [ho]
  simp [go_sem, hx, hy, hz]
set_option maxRecDepth 100000 in
/-- slices.Concat of slices that have just been laid in a row. -/
theorem concatP_new (L : List Pp) (w : World) (hL : L.length ≤ 3) (hp : ∀ p ∈ L, p.ok w) (t : TypeId) :
    Calls Tryz.prog 47 #[.slice (some ⟨w.heap.size, 0, none⟩) L.length L.length] (w.alloc (.cells (L.map Pp.v).toArray t)) fun e w' => NewR 26 10 w (L.flatMap (·.l)).length ((L.flatMap (·.l)).flatMap ptC) e w' := by
  have b0 : Below w.heap.size w (w.alloc (.cells (L.map Pp.v).toArray t)) := (Below.refl _ _).alloc (Nat.le_refl _) _
  have hc := Rws.new w (L.map Pp.v) t
  have h := concatP_im L w.heap.size 0 (w.alloc (.cells (L.map Pp.v).toArray t)) hL (by simp) (fun i hi => by
      rcases hc with hc | ⟨b, off, e, _, hc⟩
      · simp at hc; subst hc; simp at hi
      · injection e with e; injection e with e1 e2; subst e1 e2
        rw [hc i (by simpa using hi)]
        simp [List.getD_eq_getElem?_getD, hi]) (fun i hi => by
      have hm : L.getD i pp0 ∈ L := by simp [List.getD_eq_getElem?_getD, hi]
      obtain ⟨h1, h2, h3⟩ := hp _ hm
      exact ⟨h1, h2, rws_below h3 b0⟩)
  have hcat : catP L L.length = L.flatMap (·.l) := by unfold catP; rw [List.take_length]
  rw [hcat] at h
  refine h.mono ?_
  rintro e w' ⟨B, d, rfl, o, bb⟩
  exact ⟨B, d, rfl, own_weak o b0.size, b0.trans (bb.mono b0.size)⟩
set_option maxRecDepth 100000 in
set_option maxHeartbeats 1600000 in
theorem withP_im (A : Option Addr) (l : List Pt) (c k : Nat) (x : Pt) (w : World) (hl : l.length ≤ 2097152) (hkl : k ≤ l.length) (hc : l.length ≤ c) (hn : A = none → c = 0) (hA : Rws w w.heap.size A (l.flatMap ptC)) :
    Calls Tryz.prog 28 #[.slice A l.length c, .int .i64 (k : Int), ptA x] w (NewR 26 10 w (l.take k ++ [x] ++ l.drop k).length ((l.take k ++ [x] ++ l.drop k).flatMap ptC)) := by
  have htl : (l.take k).length = k := by rw [List.length_take]; omega
  have hdl : (l.drop k).length = l.length - k := by rw [List.length_drop]
  obtain ⟨W, hW⟩ : ∃ W, w.alloc (.cells #[.int .i64 x.id, .int .i64 x.cabin, .int .i64 x.from_, .int .i64 x.size, .int .i64 x.tier, .int .i64 x.since, .int .i64 x.turn, .int .i64 x.state, .int .i64 x.until_, .int .i64 x.asked] 26) = W := ⟨_, rfl⟩
  have bW : Hid (Below w.heap.size w W) := by show Below _ _ _; rw [← hW]; exact (Below.refl _ _).alloc (Nat.le_refl _) _
  have gW : W.heap[w.heap.size]? = some (.cells #[.int .i64 x.id, .int .i64 x.cabin, .int .i64 x.from_, .int .i64 x.size, .int .i64 x.tier, .int .i64 x.since, .int .i64 x.turn, .int .i64 x.state, .int .i64 x.until_, .int .i64 x.asked] 26) := by rw [← hW]; exact heap_new _ _
  have KX := Lib.hid (fun w' (h : Below W.heap.size W w') => Pt.here.blk (blk_call gW h))
  have C : Hid (∀ w', Below W.heap.size W w' → Calls Tryz.prog 47 #[.slice (some ⟨w'.heap.size + 1, 0, none⟩) 3 3] ((w'.alloc (.cells (ptC x).toArray 26)).alloc (.cells #[.slice A k c, .slice (some ⟨w'.heap.size, 0, none⟩) 1 1, .slice (fromA A c k 10) (l.length - k) (c - k)] 63)) fun e u => NewR 26 10 w (l.take k ++ [x] ++ l.drop k).length ((l.take k ++ [x] ++ l.drop k).flatMap ptC) e u ∧ Below W.heap.size W u) := fun w' hb' => by
    have hb : Below w.heap.size w w' := bW.out.trans (hb'.mono bW.out.size)
    have hb2 : Below w.heap.size w (w'.alloc (.cells (ptC x).toArray 26)) := hb.alloc hb.size _
    have h1 := (rws_below hA hb2).to_ (k * 10)
    rw [← flat_take ptC 10 ptC_len] at h1
    have h2 := (rws_below hA hb2).from_ (n := l.length) (c := c) (k := k) (sz := 10) (flat_len ptC 10 ptC_len l) (by omega) hc
    rw [← flat_drop ptC 10 ptC_len] at h2
    have h3 := (Rws.new w' (ptC x) 26)
    have := concatP_new [⟨A, c, l.take k⟩, ⟨some ⟨w'.heap.size, 0, none⟩, 1, [x]⟩, ⟨fromA A c k 10, c - k, l.drop k⟩] (w'.alloc (.cells (ptC x).toArray 26)) (by simp) (fun p hp => by
      rcases (show p = ⟨A, c, l.take k⟩ ∨ p = ⟨some ⟨w'.heap.size, 0, none⟩, 1, [x]⟩ ∨ p = ⟨fromA A c k 10, c - k, l.drop k⟩ by simpa using hp) with rfl | rfl | rfl
      · exact ⟨by show (l.take k).length ≤ _; omega, hn, h1⟩
      · refine ⟨by show [x].length ≤ _; simp, (fun h => by cases h), ?_⟩
        show Rws _ _ _ ([x].flatMap ptC)
        rw [show [x].flatMap ptC = ptC x by simp]
        exact h3.more (by simp)
      · exact ⟨by show (l.drop k).length ≤ _; omega, fromA_nil hn, h2⟩) 63
    have hsz : (w'.alloc (.cells (ptC x).toArray 26)).heap.size = w'.heap.size + 1 := by simp
    have hcat : [({ A := A, c := c, l := l.take k } : Pp), ⟨some ⟨w'.heap.size, 0, none⟩, 1, [x]⟩, ⟨fromA A c k 10, c - k, l.drop k⟩].flatMap (·.l) = l.take k ++ [x] ++ l.drop k := by simp
    rw [hcat, hsz] at this
    simp only [List.map_cons, List.map_nil, Pp.v, List.length_cons, List.length_nil, Nat.zero_add, Nat.reduceAdd, htl, hdl] at this
    refine this.mono ?_
    rintro e u ⟨B, d, rfl, o, bb⟩
    have hb3 : Below W.heap.size W (w'.alloc (.cells (ptC x).toArray 26)) := hb'.alloc hb'.size _
    exact ⟨⟨B, d, rfl, own_weak o hb2.size, hb2.trans (bb.mono hb2.size)⟩, hb3.trans (bb.mono hb3.size)⟩
  clear htl hdl gW
  have eA : ptA x = .agg #[.int .i64 x.id, .int .i64 x.cabin, .int .i64 x.from_, .int .i64 x.size, .int .i64 x.tier, .int .i64 x.since, .int .i64 x.turn, .int .i64 x.state, .int .i64 x.until_, .int .i64 x.asked] := rfl
  rw [eA]
  go_enter Tryz.func28, Tryz.ntmps28
  go_wp2_with fail
  clear hW eA
  refine wp_region_held_drew (S := fun w' => Hid (Below W.heap.size W w')) (by kernel_rfl) (below_drawn (Below.refl _ _) 1) (fun hHeld => ?_)
  refine held_take 0 7 (.slice A l.length c) rfl rfl (by kernel_rfl) (by kernel_rfl) (by kernel_rfl) (fun _ _ _ h => h) rfl hHeld (fun w _ => rfl) ?_
  refine held_take 1 8 (.int .i64 (k : Int)) rfl rfl (by kernel_rfl) (by kernel_rfl) (by kernel_rfl) (fun _ _ _ h => h) rfl hHeld (fun w _ => rfl) ?_
  refine held_take 2 9 (.slice A k c) rfl rfl (by kernel_rfl) (by kernel_rfl) (by kernel_rfl) (fun _ _ _ h => h) rfl hHeld (fun w _ => exec_sliceTo rowQuP A l.length c k w (by omega) hc hn) ?_
  simp only [Act.put, List.setIfInBounds_toArray, List.set_cons_zero, List.set_cons_succ]
  refine held_take 3 10 (ptA x) rfl rfl (by kernel_rfl) (by kernel_rfl) (by kernel_rfl) (fun _ _ _ h => h) rfl hHeld (fun w h => exec_load_pt _ 0 x w (KX.out w h.out)) ?_
  refine held_take 5 12 (.slice A l.length c) rfl rfl (by kernel_rfl) (by kernel_rfl) (by kernel_rfl) (fun _ _ _ h => h) rfl hHeld (fun w _ => rfl) ?_
  refine held_take 6 13 (.int .i64 (k : Int)) rfl rfl (by kernel_rfl) (by kernel_rfl) (by kernel_rfl) (fun _ _ _ h => h) rfl hHeld (fun w _ => rfl) ?_
  simp only [Act.put, List.setIfInBounds_toArray, List.set_cons_zero, List.set_cons_succ]
  refine held_take 7 14 (.slice (fromA A c k 10) (l.length - k) (c - k)) rfl rfl (by kernel_rfl) (by kernel_rfl) (by kernel_rfl) (fun _ _ _ h => h) rfl hHeld (fun w _ => exec_sliceFrom rowQuP A l.length c k w (by omega) hc hn) ?_
  simp only [Act.put, List.setIfInBounds_toArray, List.set_cons_zero, List.set_cons_succ]
  have k1 := hHeld.out.alloc hHeld.out.size (.cells (ptC x).toArray 26)
  have k2 := k1.alloc k1.size (.cells #[.slice A k c, .slice (some ⟨W.drew.heap.size, 0, none⟩) 1 1, .slice (fromA A c k 10) (l.length - k) (c - k)] 63)
  have hs1 : (W.drew.alloc (.cells (ptC x).toArray 26)).heap.size = W.drew.heap.size + 1 := by simp
  refine held_op 4 11 (.slice (some ⟨W.drew.heap.size, 0, none⟩) 1 1) rfl rfl (by kernel_rfl) rfl (exec_one_quP x _) (Lib.hid k1) ?_
  simp only [Act.put, List.setIfInBounds_toArray, List.set_cons_zero, List.set_cons_succ]
  refine held_op 8 15 (.slice (some ⟨(W.drew.alloc (.cells (ptC x).toArray 26)).heap.size, 0, none⟩) 3 3) rfl rfl (by kernel_rfl) rfl (exec_three_quP _ _ _ _ _ _ _ _ _ _) (Lib.hid k2) ?_
  simp only [Act.put, List.setIfInBounds_toArray, List.set_cons_zero, List.set_cons_succ]
  refine held_call 9 16 47 #[.slice (some ⟨(W.drew.alloc (.cells (ptC x).toArray 26)).heap.size, 0, none⟩) 3 3] rfl rfl (by kernel_rfl) rfl (exec_call Tryz.func47 (by kernel_rfl) (by kernel_rfl) _) ?_
  rw [hs1]
  refine (C.out _ hHeld.out).mono ?_
  rintro e w1 ⟨⟨B, d, rfl, o, bb⟩, bbW⟩
  have R : Hid (NewR 26 10 w _ _ (.returned (.slice B _ d)) w1) := ⟨B, d, rfl, o, bb⟩
  refine ⟨_, rfl, Lib.hid bbW, ?_⟩
  simp only [Act.put, List.setIfInBounds_toArray, List.set_cons_zero, List.set_cons_succ]
  refine held_op 10 6 (.slice B _ d) rfl rfl (by kernel_rfl) rfl rfl (Lib.hid bbW) ?_
  simp only [Act.put, List.setIfInBounds_toArray, List.set_cons_zero, List.set_cons_succ]
  refine wpAnyH_done (by kernel_rfl) ?_ _
  clear C o bb hHeld bbW k1 k2 hs1 KX
  go_wp2
  go_ret
  exact R.out
set_option maxRecDepth 100000 in
theorem exec_mkput {ρ : Operand → Value} {o : Oper} {x : Operand} (b : Nat) (w : World) (ho : o.op = .makeFunc (.func 30) #[] #[x] := by rfl) (hx : ρ x = .pointer (some ⟨b, 0, none⟩) := by rfl) :
    (execOp ρ o).run Tryz.prog w = .ok (.value (.func (.func 30) #[] #[.pointer (some ⟨b, 0, none⟩)])) w := by
  unfold execOp
  rw [ho]
  simp [go_sem, hx]
/-- Where a new party belongs. -/
def pplV (l : List Pt) (p : Pt) : Nat := endV (fun y => decide (p.id < y.id)) l
theorem ptPut_place (l : List Pt) (p : Pt) (hn : ptAt l p.id = -1) : ptPut l p = l.take (pplV l p) ++ [p] ++ l.drop (pplV l p) := by
  have hno : ∀ x ∈ l, x.id ≠ p.id := by
    intro x hx e
    unfold ptAt at hn
    cases hf : l.findIdx? (fun x => x.id == p.id) with
    | none =>
      rw [List.findIdx?_eq_none_iff] at hf
      have := hf x hx
      simp [e] at this
    | some k => rw [hf] at hn; simp [idxV] at hn
  have hm : ∀ j (hj : j < l.length), l.getD j pt0 ∈ l := fun j hj => by simp [List.getD_eq_getElem?_getD, hj]
  unfold ptPut
  refine insP_at _ l p pt0 _ (endV_le _ l) ?_ ?_
  · intro j hj
    have hjl : j < l.length := Nat.lt_of_lt_of_le hj (endV_le _ l)
    have h1 : ¬ p.id < (l.getD j pt0).id := by
      intro hlt
      unfold pplV endV at hj
      cases hf : l.findIdx? (fun y => decide (p.id < y.id)) with
      | none =>
        rw [List.findIdx?_eq_none_iff] at hf
        have := hf _ (hm j hjl)
        rw [decide_eq_false_iff_not] at this
        omega
      | some k =>
        rw [hf] at hj
        simp at hj
        obtain ⟨hk, _, hall⟩ := List.findIdx?_eq_some_iff_getElem.1 hf
        have := hall j hj
        simp [List.getD_eq_getElem?_getD, hjl] at hlt
        simp at this
        omega
    have h2 := hno _ (hm j hjl)
    rw [decide_eq_true_iff]
    omega
  · intro hk
    unfold pplV endV at hk ⊢
    cases hf : l.findIdx? (fun y => decide (p.id < y.id)) with
    | none => rw [hf] at hk; simp at hk
    | some k =>
      rw [hf] at hk
      simp at hk
      obtain ⟨hk2, hp, _⟩ := List.findIdx?_eq_some_iff_getElem.1 hf
      simp [List.getD_eq_getElem?_getD, hk]
      simp at hp
      omega
set_option maxRecDepth 100000 in
set_option maxHeartbeats 1600000 in
theorem insertedById_im (A : Option Addr) (l : List Pt) (c : Nat) (p : Pt) (w : World) (hl : l.length ≤ 2097152) (hc : l.length ≤ c) (hn : A = none → c = 0) (hA : Rws w w.heap.size A (l.flatMap ptC)) :
    Calls Tryz.prog 15 #[.slice A l.length c, ptA p] w (NewR 26 10 w (l.take (pplV l p) ++ [p] ++ l.drop (pplV l p)).length ((l.take (pplV l p) ++ [p] ++ l.drop (pplV l p)).flatMap ptC)) := by
  obtain ⟨W, hW⟩ : ∃ W, w.alloc (.cells #[.int .i64 p.id, .int .i64 p.cabin, .int .i64 p.from_, .int .i64 p.size, .int .i64 p.tier, .int .i64 p.since, .int .i64 p.turn, .int .i64 p.state, .int .i64 p.until_, .int .i64 p.asked] 26) = W := ⟨_, rfl⟩
  have bW : Hid (Below w.heap.size w W) := by show Below _ _ _; rw [← hW]; exact (Below.refl _ _).alloc (Nat.le_refl _) _
  have gW : W.heap[w.heap.size]? = some (.cells #[.int .i64 p.id, .int .i64 p.cabin, .int .i64 p.from_, .int .i64 p.size, .int .i64 p.tier, .int .i64 p.since, .int .i64 p.turn, .int .i64 p.state, .int .i64 p.until_, .int .i64 p.asked] 26) := by rw [← hW]; exact heap_new _ _
  have KX := Lib.hid (fun w' (h : Below W.heap.size W w') => Pt.here.blk (blk_call gW h))
  have hgl : w.heap.size < W.heap.size := blk_lt gW
  have C1 := Lib.hid (fun w' (h : Below W.heap.size W w') => firstOrEndP_put (fun y => decide (p.id < y.id)) w.heap.size A l c w' hl (rws_below hA (bW.out.trans (h.mono bW.out.size))) (fun y w2 h2 => put_test y p w.heap.size w2 (KX.out w2 (h.trans (h2.mono h.size)))))
  have C2 := Lib.hid (fun w' (h : Below W.heap.size W w') => withP_im A l c (pplV l p) p w' hl (endV_le _ l) hc hn (rws_below hA (bW.out.trans (h.mono bW.out.size))))
  have HE : Hid (endV (fun y => decide (p.id < y.id)) l = pplV l p) := rfl
  rw [HE.out] at C1
  generalize l.take (pplV l p) ++ [p] ++ l.drop (pplV l p) = P at *
  clear HE
  generalize pplV l p = n at *
  have eA : ptA p = .agg #[.int .i64 p.id, .int .i64 p.cabin, .int .i64 p.from_, .int .i64 p.size, .int .i64 p.tier, .int .i64 p.since, .int .i64 p.turn, .int .i64 p.state, .int .i64 p.until_, .int .i64 p.asked] := rfl
  rw [eA]
  go_enter Tryz.func15, Tryz.ntmps15
  go_wp2_with fail
  clear hW gW eA hgl
  refine wp_region_held_drew (S := fun w' => Hid (Below W.heap.size W w')) (by kernel_rfl) (below_drawn (Below.refl _ _) 1) (fun hHeld => ?_)
  refine held_take 0 7 (.slice A l.length c) rfl rfl (by kernel_rfl) (by kernel_rfl) (by kernel_rfl) (fun _ _ _ h => h) rfl hHeld (fun w _ => rfl) ?_
  refine held_take 1 8 (.slice A l.length c) rfl rfl (by kernel_rfl) (by kernel_rfl) (by kernel_rfl) (fun _ _ _ h => h) rfl hHeld (fun w _ => rfl) ?_
  simp only [Act.put, List.setIfInBounds_toArray, List.set_cons_zero, List.set_cons_succ]
  refine held_take 2 9 (.func (.func 30) #[] #[.pointer (some ⟨w.heap.size, 0, none⟩)]) rfl rfl (by kernel_rfl) (by kernel_rfl) (by kernel_rfl) (fun _ _ _ h => h) rfl hHeld (fun w' _ => exec_mkput w.heap.size w') ?_
  refine held_take 4 11 (ptA p) rfl rfl (by kernel_rfl) (by kernel_rfl) (by kernel_rfl) (fun _ _ _ h => h) rfl hHeld (fun w h => exec_load_pt _ 0 p w (KX.out w h.out)) ?_
  simp only [Act.put, List.setIfInBounds_toArray, List.set_cons_zero, List.set_cons_succ]
  refine held_call 3 10 29 #[.slice A l.length c, .func (.func 30) #[] #[.pointer (some ⟨w.heap.size, 0, none⟩)]] rfl rfl (by kernel_rfl) rfl (exec_call Tryz.func29 (by kernel_rfl) (by kernel_rfl) _) ?_
  refine (C1.out _ hHeld.out).mono ?_
  rintro e w2 ⟨rfl, b2⟩
  have hHeld : Hid (Below W.heap.size W w2) := hHeld.out.trans (b2.mono hHeld.out.size)
  refine ⟨_, rfl, hHeld, ?_⟩
  simp only [Act.put, List.setIfInBounds_toArray, List.set_cons_zero, List.set_cons_succ]
  refine held_call 5 12 28 #[.slice A l.length c, .int .i64 (n : Int), ptA p] rfl rfl (by kernel_rfl) rfl (exec_call Tryz.func28 (by kernel_rfl) (by kernel_rfl) _) ?_
  refine (C2.out _ hHeld.out).mono ?_
  rintro e w3 ⟨PA, pc, rfl, o3, b3⟩
  have B2 := bW.out.trans (hHeld.out.mono bW.out.size)
  have R : Hid (NewR 26 10 w P.length (P.flatMap ptC) (.returned (.slice PA P.length pc)) w3) := ⟨PA, pc, rfl, own_weak o3 B2.size, B2.trans (b3.mono B2.size)⟩
  have hHeld : Hid (Below W.heap.size W w3) := hHeld.out.trans (b3.mono hHeld.out.size)
  refine ⟨_, rfl, hHeld, ?_⟩
  simp only [Act.put, List.setIfInBounds_toArray, List.set_cons_zero, List.set_cons_succ]
  refine held_op 6 4 (.slice PA P.length pc) rfl rfl (by kernel_rfl) rfl rfl hHeld ?_
  simp only [Act.put, List.setIfInBounds_toArray, List.set_cons_zero, List.set_cons_succ]
  refine wpAnyH_done (by kernel_rfl) ?_ _
  clear C1 C2 o3 b3 b2 hHeld KX B2
  go_wp2
  go_ret
  exact R.out
end Go.Proofs.YtlflgflmlfileaaGreat
