/- The walk of the law FnExactSameRules. -/
import Derived.Test.YtckkgoomhekccaaRows
import Derived.Test.YtckkgoomhekccaaSameI
namespace Go.Proofs.Ytckkgoomhekccaa
open Go.RowKit
set_option linter.unusedSimpArgs false
set_option linter.unusedVariables false
set_option maxRecDepth 100000 in
set_option maxHeartbeats 6400000 in
theorem FnExactSameRules_walk (A D : Option Addr) (c d : Nat) (a b : Ru) (w : World) (ha : a.go) (hb : b.go) (hA : Rws w w.heap.size A (ints a.seats)) (hD : Rws w w.heap.size D (ints b.seats)) :
    Calls Try.prog 4 #[ruV A c a, ruV D d b] w fun e w' => e = .returned (.bool true) ∧ Below w.heap.size w w' := by
  have CS := Lib.hid (fun w => szRules_any A c a 1048576 w ha.len (by omega))
  have CT := Lib.hid (fun w q => szRules_any D d b q w hb.len)
  unfold ruV at CS CT
  unfold ruV
  go_enter Try.func4, Try.ntmps4
  go_wp2_with fail
  refine (CS.out _).mono ?_
  rintro e w1 ⟨⟨z, rfl, hz⟩, b1⟩
  by_cases hz0 : z < 0
  · clear hz
    go_wp2
    go_ret
    exact ⟨rfl, boxB _ _ _ (boxB _ _ _ b1)⟩
  have hz1 : z ≤ 1048576 := by have := hz (by omega); omega
  have hla : a.seats.length ≤ 2097152 := by have := hz (by omega); omega
  clear hz
  have p0 := boxk _ w1 _ _ b1 0 _ rfl
  have p1 := boxk _ w1 _ _ b1 1 _ rfl
  have p2 := boxk _ w1 _ _ b1 2 _ rfl
  have p3 := boxk _ w1 _ _ b1 3 _ rfl
  have p4 := boxk _ w1 _ _ b1 4 _ rfl
  have p5 := boxk _ w1 _ _ b1 5 _ rfl
  have p6 := boxk _ w1 _ _ b1 6 _ rfl
  have p7 := boxk _ w1 _ _ b1 7 _ rfl
  have p8 := boxk _ w1 _ _ b1 8 _ rfl
  simp only [World.size_alloc] at p0 p1 p2 p3 p4 p5 p6 p7 p8
  go_wp2_with fail
  refine (CT.out _ _ (by omega)).mono ?_
  rintro e w2 ⟨⟨y, rfl, hy⟩, b2⟩
  have b2 := b1.trans (b2.mono b1.size)
  clear b1 p0 p1 p2 p3 p4 p5 p6 p7 p8
  by_cases hy0 : y < 0
  · clear hy
    go_wp2
    go_ret
    exact ⟨rfl, boxB _ _ _ (boxB _ _ _ b2)⟩
  have hlb : b.seats.length ≤ 2097152 := by have := hy (by omega); omega
  clear hy
  have C1 := Lib.hid (fun P p Q q w h h' => sameRules_spec P Q p q a b w hla hlb h h')
  have C2 := Lib.hid (fun P p Q q w hP hQ h h' => sameRules_impl P Q p q a b w hla hlb hP hQ h h')
  generalize decide (sameR a b) = R at C1 C2
  have nt : (R != R) = false := by simp
  have C2' := C2
  have CTa := Lib.hid (fun w h => toRules_any A c a w hla h)
  have CTb := Lib.hid (fun w h => toRules_any D d b w hlb h)
  unfold ruV at C2' CTa CTb
  have T0 := two_at w w2 _ _ b2
  have KA := Lib.hid (fun w' (h : Below w2.heap.size w2 w') => blk_call T0.1 h)
  have KB := Lib.hid (fun w' (h : Below w2.heap.size w2 w') => blk_call T0.2.1 h)
  have bW := Lib.hid T0.2.2
  have HA := Lib.hid (fun w' (h : Below w2.heap.size w2 w') => rws_below (rws_below hA bW.out) h)
  have HD := Lib.hid (fun w' (h : Below w2.heap.size w2 w') => rws_below (rws_below hD bW.out) h)
  clear T0 b2 CS CT
  go_wp2_with fail
  refine wp_region_held_drew (S := fun w' => Hid (Below w2.heap.size w2 w')) (by kernel_rfl) (below_drawn (Below.refl _ _) 1) (fun hHeld => ?_)
  refine held_take 0 20 (ruV A c a) rfl rfl (by kernel_rfl) (by kernel_rfl) (by kernel_rfl) (fun _ _ _ h => h) rfl hHeld (fun w hS => exec_loadRl _ A c a w (KA.out w hS.out)) ?_
  refine held_take 2 22 (ruV D d b) rfl rfl (by kernel_rfl) (by kernel_rfl) (by kernel_rfl) (fun _ _ _ h => h) rfl hHeld (fun w hS => exec_loadRl _ D d b w (KB.out w hS.out)) ?_
  simp only [Act.put, List.setIfInBounds_toArray, List.set_cons_zero, List.set_cons_succ]
  refine held_call 1 21 15 #[ruV A c a] rfl rfl (by kernel_rfl) rfl (exec_call Try.func15 (by kernel_rfl) (by kernel_rfl) _) ?_
  refine (toRules_any A c a _ hla (HA.out _ hHeld.out)).mono ?_
  rintro e u1 ⟨P, p, rfl, oP, x1⟩
  have k1 := hHeld.out.trans (x1.mono hHeld.out.size)
  refine ⟨_, rfl, k1, ?_⟩
  simp only [Act.put, List.setIfInBounds_toArray, List.set_cons_zero, List.set_cons_succ]
  refine held_call 3 23 15 #[ruV D d b] rfl rfl (by kernel_rfl) rfl (exec_call Try.func15 (by kernel_rfl) (by kernel_rfl) _) ?_
  refine (toRules_any D d b _ hlb (HD.out _ k1)).mono ?_
  rintro e u2 ⟨Q, q, rfl, oQ, x2⟩
  have k2 := k1.trans (x2.mono k1.size)
  refine ⟨_, rfl, k2, ?_⟩
  simp only [Act.put, List.setIfInBounds_toArray, List.set_cons_zero, List.set_cons_succ]
  refine held_call 4 24 14 #[ruV P p a, ruV Q q b] rfl rfl (by kernel_rfl) rfl (exec_call Try.func14 (by kernel_rfl) (by kernel_rfl) _) ?_
  refine (C1.out P p Q q _ (rws_below (own_rws oP) x2) (own_rws oQ)).mono ?_
  rintro e w3 ⟨rfl, x3⟩
  have k3 := k2.trans (x3.mono k2.size)
  refine ⟨_, rfl, k3, ?_⟩
  simp only [Act.put, List.setIfInBounds_toArray, List.set_cons_zero, List.set_cons_succ]
  refine held_op 5 6 (.bool R) rfl rfl (by kernel_rfl) rfl rfl k3 ?_
  simp only [Act.put, List.setIfInBounds_toArray, List.set_cons_zero, List.set_cons_succ]
  refine wpAnyH_done (by kernel_rfl) ?_ _
  clear k1 k2 x1 x2 x3 oP oQ hHeld
  have hA3 := KA.out _ k3
  have rA3 := HA.out _ k3
  have c0 := cell_of_row _ _ 0 _ _ _ hA3
  have c1 := cell_of_row _ _ 1 _ _ _ hA3
  have c2 := cell_of_row _ _ 2 _ _ _ hA3
  have c3 := cell_of_row _ _ 3 _ _ _ hA3
  have c4 := cell_of_row _ _ 4 _ _ _ hA3
  have c5 := cell_of_row _ _ 5 _ _ _ hA3
  have c6 := cell_of_row _ _ 6 _ _ _ hA3
  have c7 := cell_of_row _ _ 7 _ _ _ hA3
  have c8 := cell_of_row _ _ 8 _ _ _ hA3
  simp at c0 c1 c2 c3 c4 c5 c6 c7 c8
  go_wp2_with fail
  refine (CTa.out _ rA3).mono ?_
  rintro e w4 ⟨P, p, rfl, oP, x4⟩
  have k4 := k3.trans (x4.mono k3.size)
  clear c0 c1 c2 c3 c4 c5 c6 c7 c8 hA3 rA3 k3 x4
  unfold ruV
  have hX := heap_new w4 (.cells #[.slice P a.seats.length p, .int .i64 a.tiers, .int .i64 a.room, .int .i64 a.size, .int .i64 a.period, .int .i64 a.window, .int .i64 a.rest, .int .i64 a.tries, .int .i64 a.crew] 43)
  have k5 := k4.alloc k4.size (.cells #[.slice P a.seats.length p, .int .i64 a.tiers, .int .i64 a.room, .int .i64 a.size, .int .i64 a.period, .int .i64 a.window, .int .i64 a.rest, .int .i64 a.tries, .int .i64 a.crew] 43)
  have x5 : Below w4.heap.size w4 (w4.alloc (.cells #[.slice P a.seats.length p, .int .i64 a.tiers, .int .i64 a.room, .int .i64 a.size, .int .i64 a.period, .int .i64 a.window, .int .i64 a.rest, .int .i64 a.tries, .int .i64 a.crew] 43)) := (Below.refl _ _).alloc (Nat.le_refl _) _
  have rX := rws_below (own_rws oP) x5
  have nP := Lib.hid (own_nil oP)
  have hB5 := KB.out w4 k4
  have rD5 := HD.out _ k5
  have lt5 := blk_lt hB5
  have c0 := cell_of_row _ _ 0 _ _ _ hB5
  have c1 := cell_of_row _ _ 1 _ _ _ hB5
  have c2 := cell_of_row _ _ 2 _ _ _ hB5
  have c3 := cell_of_row _ _ 3 _ _ _ hB5
  have c4 := cell_of_row _ _ 4 _ _ _ hB5
  have c5 := cell_of_row _ _ 5 _ _ _ hB5
  have c6 := cell_of_row _ _ 6 _ _ _ hB5
  have c7 := cell_of_row _ _ 7 _ _ _ hB5
  have c8 := cell_of_row _ _ 8 _ _ _ hB5
  simp at c0 c1 c2 c3 c4 c5 c6 c7 c8
  go_wp2_with fail
  refine (CTb.out _ rD5).mono ?_
  rintro e w6 ⟨Q, q, rfl, oQ, x6⟩
  have k6 := k5.trans (x6.mono k5.size)
  have hX := blk_call hX x6
  have rX := rws_below rX x6
  clear c0 c1 c2 c3 c4 c5 c6 c7 c8 hB5 rD5 k5 k4 x5 x6 oP lt5
  unfold ruV
  have hY := heap_new w6 (.cells #[.slice Q b.seats.length q, .int .i64 b.tiers, .int .i64 b.room, .int .i64 b.size, .int .i64 b.period, .int .i64 b.window, .int .i64 b.rest, .int .i64 b.tries, .int .i64 b.crew] 43)
  have k7 := k6.alloc k6.size (.cells #[.slice Q b.seats.length q, .int .i64 b.tiers, .int .i64 b.room, .int .i64 b.size, .int .i64 b.period, .int .i64 b.window, .int .i64 b.rest, .int .i64 b.tries, .int .i64 b.crew] 43)
  have x7 : Below w6.heap.size w6 (w6.alloc (.cells #[.slice Q b.seats.length q, .int .i64 b.tiers, .int .i64 b.room, .int .i64 b.size, .int .i64 b.period, .int .i64 b.window, .int .i64 b.rest, .int .i64 b.tries, .int .i64 b.crew] 43)) := (Below.refl _ _).alloc (Nat.le_refl _) _
  have rY := rws_below (own_rws oQ) x7
  have nQ := Lib.hid (own_nil oQ)
  have rX := rws_below rX x7
  have ltX := blk_lt hX
  have c0 := cell_of_row _ _ 0 _ _ _ hX
  have c1 := cell_of_row _ _ 1 _ _ _ hX
  have c2 := cell_of_row _ _ 2 _ _ _ hX
  have c3 := cell_of_row _ _ 3 _ _ _ hX
  have c4 := cell_of_row _ _ 4 _ _ _ hX
  have c5 := cell_of_row _ _ 5 _ _ _ hX
  have c6 := cell_of_row _ _ 6 _ _ _ hX
  have c7 := cell_of_row _ _ 7 _ _ _ hX
  have c8 := cell_of_row _ _ 8 _ _ _ hX
  simp at c0 c1 c2 c3 c4 c5 c6 c7 c8
  go_wp2_with fail
  refine (C2'.out P p Q q _ nP.out nQ.out rX rY).mono ?_
  rintro e U ⟨rfl, x8⟩
  have k8 := k7.trans (x8.mono k7.size)
  have hX := blk_call (blk_alloc hX _) x8
  have hY := blk_call hY x8
  have rX := rws_below rX x8
  have rY := rws_below rY x8
  clear c0 c1 c2 c3 c4 c5 c6 c7 c8 k6 k7 x7 x8 oQ ltX
  have KX := Lib.hid (fun w' (h : Below U.heap.size U w') => blk_call hX h)
  have KY := Lib.hid (fun w' (h : Below U.heap.size U w') => blk_call hY h)
  have HX := Lib.hid (fun w' (h : Below U.heap.size U w') => rws_below rX h)
  have HY := Lib.hid (fun w' (h : Below U.heap.size U w') => rws_below rY h)
  have KA := Lib.hid (fun w' (h : Below U.heap.size U w') => KA.out w' (k8.trans (h.mono k8.size)))
  have KB := Lib.hid (fun w' (h : Below U.heap.size U w') => KB.out w' (k8.trans (h.mono k8.size)))
  have HA := Lib.hid (fun w' (h : Below U.heap.size U w') => HA.out w' (k8.trans (h.mono k8.size)))
  have HD := Lib.hid (fun w' (h : Below U.heap.size U w') => HD.out w' (k8.trans (h.mono k8.size)))
  have bW := Lib.hid (bW.out.trans (k8.mono bW.out.size))
  clear hX hY rX rY k8
  go_wp2_with fail
  refine wp_region_held_drew (S := fun w' => Hid (Below U.heap.size U w')) (by kernel_rfl) (below_drawn (Below.refl _ _) 1) (fun hHeld => ?_)
  refine held_take 0 35 (ruV P p a) rfl rfl (by kernel_rfl) (by kernel_rfl) (by kernel_rfl) (fun _ _ _ h => h) rfl hHeld (fun w hS => exec_loadRi _ P p a w (KX.out w hS.out)) ?_
  refine held_take 1 36 (ruV A c a) rfl rfl (by kernel_rfl) (by kernel_rfl) (by kernel_rfl) (fun _ _ _ h => h) rfl hHeld (fun w hS => exec_loadRl _ A c a w (KA.out w hS.out)) ?_
  simp only [Act.put, List.setIfInBounds_toArray, List.set_cons_zero, List.set_cons_succ]
  refine held_call 2 37 15 #[ruV A c a] rfl rfl (by kernel_rfl) rfl (exec_call Try.func15 (by kernel_rfl) (by kernel_rfl) _) ?_
  refine (toRules_any A c a _ hla (HA.out _ hHeld.out)).mono ?_
  rintro e s1 ⟨sB, sc, rfl, so, sx⟩
  have sk := hHeld.out.trans (sx.mono hHeld.out.size)
  refine ⟨_, rfl, sk, ?_⟩
  simp only [Act.put, List.setIfInBounds_toArray, List.set_cons_zero, List.set_cons_succ]
  refine held_call 3 38 17 #[ruV P p a, ruV sB sc a] rfl rfl (by kernel_rfl) rfl (exec_call Try.func17 (by kernel_rfl) (by kernel_rfl) _) ?_
  refine (eqRules_same P sB p sc a _ hla (HX.out _ sk) (own_rws so)).mono ?_
  rintro e s2 ⟨rfl, sy⟩
  have sl := sk.trans (sy.mono sk.size)
  refine ⟨_, rfl, sl, ?_⟩
  simp only [Act.put, List.setIfInBounds_toArray, List.set_cons_zero, List.set_cons_succ]
  refine held_op 4 39 (.bool false) rfl rfl (by kernel_rfl) rfl rfl sl ?_
  simp only [Act.put, List.setIfInBounds_toArray, List.set_cons_zero, List.set_cons_succ]
  refine wpAnyH_done (by kernel_rfl) ?_ _
  have KY := Lib.hid (fun w' (h : Below s2.heap.size s2 w') => KY.out w' (sl.trans (h.mono sl.size)))
  have HY := Lib.hid (fun w' (h : Below s2.heap.size s2 w') => HY.out w' (sl.trans (h.mono sl.size)))
  have KB := Lib.hid (fun w' (h : Below s2.heap.size s2 w') => KB.out w' (sl.trans (h.mono sl.size)))
  have HD := Lib.hid (fun w' (h : Below s2.heap.size s2 w') => HD.out w' (sl.trans (h.mono sl.size)))
  have bW := Lib.hid (bW.out.trans (sl.mono bW.out.size))
  clear sk sl sx sy so hHeld
  go_wp2_with fail
  refine wp_region_held_drew (S := fun w' => Hid (Below s2.heap.size s2 w')) (by kernel_rfl) (below_drawn (Below.refl _ _) 1) (fun hHeld => ?_)
  refine held_take 0 40 (ruV Q q b) rfl rfl (by kernel_rfl) (by kernel_rfl) (by kernel_rfl) (fun _ _ _ h => h) rfl hHeld (fun w hS => exec_loadRi _ Q q b w (KY.out w hS.out)) ?_
  refine held_take 1 41 (ruV D d b) rfl rfl (by kernel_rfl) (by kernel_rfl) (by kernel_rfl) (fun _ _ _ h => h) rfl hHeld (fun w hS => exec_loadRl _ D d b w (KB.out w hS.out)) ?_
  simp only [Act.put, List.setIfInBounds_toArray, List.set_cons_zero, List.set_cons_succ]
  refine held_call 2 42 15 #[ruV D d b] rfl rfl (by kernel_rfl) rfl (exec_call Try.func15 (by kernel_rfl) (by kernel_rfl) _) ?_
  refine (toRules_any D d b _ hlb (HD.out _ hHeld.out)).mono ?_
  rintro e n1 ⟨nB, nc, rfl, no, nx⟩
  have nk := hHeld.out.trans (nx.mono hHeld.out.size)
  refine ⟨_, rfl, nk, ?_⟩
  simp only [Act.put, List.setIfInBounds_toArray, List.set_cons_zero, List.set_cons_succ]
  refine held_call 3 43 17 #[ruV Q q b, ruV nB nc b] rfl rfl (by kernel_rfl) rfl (exec_call Try.func17 (by kernel_rfl) (by kernel_rfl) _) ?_
  refine (eqRules_same Q nB q nc b _ hlb (HY.out _ nk) (own_rws no)).mono ?_
  rintro e n2 ⟨rfl, ny⟩
  have nl := nk.trans (ny.mono nk.size)
  refine ⟨_, rfl, nl, ?_⟩
  simp only [Act.put, List.setIfInBounds_toArray, List.set_cons_zero, List.set_cons_succ]
  refine held_op 4 44 (.bool false) rfl rfl (by kernel_rfl) rfl rfl nl ?_
  simp only [Act.put, List.setIfInBounds_toArray, List.set_cons_zero, List.set_cons_succ]
  refine wpAnyH_done (by kernel_rfl) ?_ _
  go_wp2
  go_ret
  exact ⟨rfl, bW.out.trans (nl.mono bW.out.size)⟩
end Go.Proofs.Ytckkgoomhekccaa
