/- Scratch. -/
import Derived.Test.YtpnkkmeeogfeaaaRows
import Derived.Test.YtpnkkmeeogfeaaaRpN
import Derived.Test.YtpnkkmeeogfeaaaRp17I
namespace Go.Proofs.Ytpnkkmeeogfeaaa
open Go.RowKit
set_option linter.unusedSimpArgs false
set_option linter.unusedVariables false
theorem Rp.here.blk {w : World} {b : Nat} {x : Rp} {t : TypeId} (h : w.heap[b]? = some (.cells #[.int .i64 x.code, .slice x.a x.l.length x.c] t)) : Rp.here w b 0 x := by
  have c0 := cell_of_row _ _ 0 _ _ _ h
  have c1 := cell_of_row _ _ 1 _ _ _ h
  simp at c0 c1
  exact ⟨c0, c1⟩
/-- The world has come on from U, and r lies in block g. -/
def Bxr (w : World) (g : Nat) (s : Rp) (t : TypeId) : Prop := w.heap[g]? = some (.cells #[.int .i64 s.code, .slice s.a s.l.length s.c] t)
set_option maxRecDepth 100000 in
set_option maxHeartbeats 6400000 in
theorem FnExactSameReply_walk (s t : Rp) (w : World) (hs : s.ok w) (ht : t.ok w) (zs : s.l.length ≤ 9223372036854775807) (zt : t.l.length ≤ 9223372036854775807) :
    Calls Try.prog 3 #[rpA s, rpA t] w fun e w' => e = .returned (.bool true) ∧ Below w.heap.size w w' := by
  have CS := Lib.hid (fun w => szReply_val s 1048576 w zs (by omega) (by omega))
  have CT := Lib.hid (fun w q h1 h2 => szReply_val t q w zt h1 h2)
  unfold rpA at CS CT
  unfold rpA
  go_enter Try.func3, Try.ntmps3
  by_cases h1 : (1048576 : Int) - s.l.length < 0
  · rw [if_pos h1] at CS
    go_wp2_with fail
    refine (CS.out _).mono ?_
    rintro e w1 ⟨rfl, b1⟩
    go_wp2
    go_ret
    exact ⟨rfl, boxB _ _ _ (boxB _ _ _ b1)⟩
  rw [if_neg h1] at CS
  have hls : s.l.length ≤ 1048576 := by omega
  obtain ⟨z, hz⟩ : ∃ z : Int, (1048576 : Int) - s.l.length = z := ⟨_, rfl⟩
  rw [hz] at CS h1
  have hz1 : z ≤ 1048576 := by omega
  clear hz
  go_wp2_with fail
  refine (CS.out _).mono ?_
  rintro e w1 ⟨rfl, b1⟩
  have T1 := two_at w w1 _ _ b1
  have p0 := Rp.here.blk T1.2.1
  obtain ⟨p0, p1⟩ := p0
  have CT2 := Lib.hid (fun u => CT.out u z (by omega) hz1)
  by_cases h2 : z - t.l.length < 0
  · simp only [if_pos h2] at CT2
    go_wp2_with fail
    refine (CT2.out _).mono ?_
    rintro e w2 ⟨rfl, b2⟩
    have bF := Lib.hid (T1.2.2.trans (b2.mono T1.2.2.size))
    clear p0 p1 T1 b1 b2
    go_wp2
    go_ret
    exact ⟨rfl, bF.out⟩
  simp only [if_neg h2] at CT2
  have hlt : t.l.length ≤ 1048576 := by omega
  have hy : ¬ z - (t.l.length : Int) < 0 := h2
  obtain ⟨y, hy0⟩ : ∃ y : Int, z - (t.l.length : Int) = y := ⟨_, rfl⟩
  rw [hy0] at CT2 hy
  clear hy0 h2
  go_wp2_with fail
  refine (CT2.out _).mono ?_
  rintro e w2 ⟨rfl, b2⟩
  have b2 := b1.trans (b2.mono b1.size)
  clear b1 p0 p1 T1
  have T0 := two_at w w2 _ _ b2
  have C2 := Lib.hid (fun (p q : Rp) w (hp : p.v = s.v) (hq : q.v = t.v) h h' => sameReply_im p q w (by have : p.l = s.l := congrArg (·.2) hp; rw [this]; omega) (by have : q.l = t.l := congrArg (·.2) hq; rw [this]; omega) h h')
  have CTa := Lib.hid (fun w h => toReply_any s w (by omega) h)
  have CTb := Lib.hid (fun w h => toReply_any t w (by omega) h)
  have HR : ∀ p q : Rp, p.v = s.v → q.v = t.v → decide (p.v = q.v) = decide (s.v = t.v) := fun p q hp hq => by rw [hp, hq]
  generalize hRd : decide (s.v = t.v) = R at *
  have nt : (R != R) = false := by simp
  have KA := Lib.hid (fun w' (h : Below w2.heap.size w2 w') => blk_call T0.1 h)
  have KB := Lib.hid (fun w' (h : Below w2.heap.size w2 w') => blk_call T0.2.1 h)
  have bW := Lib.hid T0.2.2
  have HA := Lib.hid (fun w' (h : Below w2.heap.size w2 w') => (hs.below bW.out).below h)
  have HD := Lib.hid (fun w' (h : Below w2.heap.size w2 w') => (ht.below bW.out).below h)
  have LS : ∀ p : Rp, p.v = s.v → p.l.length = s.l.length := fun p hp => by have : p.l = s.l := congrArg (·.2) hp; rw [this]
  have LT : ∀ p : Rp, p.v = t.v → p.l.length = t.l.length := fun p hp => by have : p.l = t.l := congrArg (·.2) hp; rw [this]
  have HH := Lib.hid HR
  have LSH := Lib.hid LS
  have LTH := Lib.hid LT
  clear T0 b2 CS CT CT2 hRd HR LS LT
  go_wp2_with fail
  refine wp_region_held_drew (S := fun w' => Hid (Below w2.heap.size w2 w')) (by kernel_rfl) (below_drawn (Below.refl _ _) 1) (fun hHeld => ?_)
  refine held_take 0 20 (rpA s) rfl rfl (by kernel_rfl) (by kernel_rfl) (by kernel_rfl) (fun _ _ _ h => h) rfl hHeld (fun w hS => exec_load_lrp _ 0 s w (Rp.here.blk (KA.out w hS.out))) ?_
  refine held_take 2 22 (rpA t) rfl rfl (by kernel_rfl) (by kernel_rfl) (by kernel_rfl) (fun _ _ _ h => h) rfl hHeld (fun w hS => exec_load_lrp _ 0 t w (Rp.here.blk (KB.out w hS.out))) ?_
  simp only [Act.put, List.setIfInBounds_toArray, List.set_cons_zero, List.set_cons_succ]
  refine held_call 1 21 7 #[rpA s] rfl rfl (by kernel_rfl) rfl (exec_call Try.func7 (by kernel_rfl) (by kernel_rfl) _) ?_
  refine (CTa.out _ (HA.out _ hHeld.out).row).mono ?_
  rintro e u1 ⟨P, rfl, vP, oP, x1⟩
  have k1 := hHeld.out.trans (x1.mono hHeld.out.size)
  refine ⟨_, rfl, k1, ?_⟩
  simp only [Act.put, List.setIfInBounds_toArray, List.set_cons_zero, List.set_cons_succ]
  refine held_call 3 23 7 #[rpA t] rfl rfl (by kernel_rfl) rfl (exec_call Try.func7 (by kernel_rfl) (by kernel_rfl) _) ?_
  refine (CTb.out _ (HD.out _ k1).row).mono ?_
  rintro e u2 ⟨Q, rfl, vQ, oQ, x2⟩
  have k2 := k1.trans (x2.mono k1.size)
  refine ⟨_, rfl, k2, ?_⟩
  simp only [Act.put, List.setIfInBounds_toArray, List.set_cons_zero, List.set_cons_succ]
  refine held_call 4 24 6 #[rpA P, rpA Q] rfl rfl (by kernel_rfl) rfl (exec_call Try.func6 (by kernel_rfl) (by kernel_rfl) _) ?_
  refine (sameReply_sp P Q _ (by have := LSH.out P vP; omega) (by have := LTH.out Q vQ; omega) (rws_below (own_rws oP) x2) (own_rws oQ)).mono ?_
  rintro e w3 ⟨rfl, x3⟩
  rw [HH.out P Q vP vQ]
  have k3 := k2.trans (x3.mono k2.size)
  refine ⟨_, rfl, k3, ?_⟩
  simp only [Act.put, List.setIfInBounds_toArray, List.set_cons_zero, List.set_cons_succ]
  refine held_op 5 6 (.bool R) rfl rfl (by kernel_rfl) rfl rfl k3 ?_
  simp only [Act.put, List.setIfInBounds_toArray, List.set_cons_zero, List.set_cons_succ]
  refine wpAnyH_done (by kernel_rfl) ?_ _
  clear k1 k2 x1 x2 x3 oP oQ hHeld vP vQ
  have hA3 := KA.out _ k3
  have rA3 := HA.out _ k3
  obtain ⟨c0, c1⟩ := Rp.here.blk hA3
  unfold rpA at CTa CTb
  go_wp2_with fail
  refine (CTa.out _ rA3.row).mono ?_
  rintro e w4 ⟨⟨pz, pa, pc, pl⟩, rfl, vP, oP, x4⟩
  have k4 := k3.trans (x4.mono k3.size)
  clear c0 c1 hA3 rA3 k3 x4
  unfold rpA
  have hX := heap_new w4 (.cells #[.int .i64 pz, .slice pa pl.length pc] 27)
  have k5 := k4.alloc k4.size (.cells #[.int .i64 pz, .slice pa pl.length pc] 27)
  have x5 : Below w4.heap.size w4 (w4.alloc (.cells #[.int .i64 pz, .slice pa pl.length pc] 27)) := (Below.refl _ _).alloc (Nat.le_refl _) _
  have rX := (Rp.own.ok oP).below x5
  have hB5 := KB.out w4 k4
  have rD5 := HD.out _ k5
  have lt5 := blk_lt hB5
  obtain ⟨c0, c1⟩ := Rp.here.blk hB5
  go_wp2_with fail
  refine (CTb.out _ rD5.row).mono ?_
  rintro e w6 ⟨⟨qz, qa, qc, ql⟩, rfl, vQ, oQ, x6⟩
  have k6 := k5.trans (x6.mono k5.size)
  have hX := blk_call hX x6
  have rX := rX.below x6
  clear c0 c1 hB5 rD5 k5 k4 x5 x6 oP lt5
  unfold rpA
  have hY := heap_new w6 (.cells #[.int .i64 qz, .slice qa ql.length qc] 27)
  have k7 := k6.alloc k6.size (.cells #[.int .i64 qz, .slice qa ql.length qc] 27)
  have x7 : Below w6.heap.size w6 (w6.alloc (.cells #[.int .i64 qz, .slice qa ql.length qc] 27)) := (Below.refl _ _).alloc (Nat.le_refl _) _
  have rY := (Rp.own.ok oQ).below x7
  have rX := rX.below x7
  have ltX := blk_lt hX
  obtain ⟨c0, c1⟩ := Rp.here.blk (x := ⟨pz, pa, pc, pl⟩) hX
  have C2' := Lib.hid (C2.out ⟨pz, pa, pc, pl⟩ ⟨qz, qa, qc, ql⟩ _ vP vQ rX rY)
  rw [HH.out _ _ vP vQ] at C2'
  unfold rpA at C2'
  have HvP := Lib.hid vP
  have HvQ := Lib.hid vQ
  clear vP vQ
  go_wp2_with fail
  refine C2'.out.mono ?_
  rintro e U ⟨rfl, x8⟩
  have k8 := k7.trans (x8.mono k7.size)
  have hX := blk_call (blk_alloc hX _) x8
  have hY := blk_call hY x8
  have rX := rX.below x8
  have rY := rY.below x8
  clear c0 c1 k6 k7 x7 x8 oQ ltX C2'
  have KX := Lib.hid (fun w' (h : Below U.heap.size U w') => blk_call hX h)
  have KY := Lib.hid (fun w' (h : Below U.heap.size U w') => blk_call hY h)
  have HX := Lib.hid (fun w' (h : Below U.heap.size U w') => rX.below h)
  have HY := Lib.hid (fun w' (h : Below U.heap.size U w') => rY.below h)
  have KA := Lib.hid (fun w' (h : Below U.heap.size U w') => KA.out w' (k8.trans (h.mono k8.size)))
  have KB := Lib.hid (fun w' (h : Below U.heap.size U w') => KB.out w' (k8.trans (h.mono k8.size)))
  have HA := Lib.hid (fun w' (h : Below U.heap.size U w') => HA.out w' (k8.trans (h.mono k8.size)))
  have HD := Lib.hid (fun w' (h : Below U.heap.size U w') => HD.out w' (k8.trans (h.mono k8.size)))
  have bW := Lib.hid (bW.out.trans (k8.mono bW.out.size))
  clear hX hY rX rY k8
  go_wp2_with fail
  refine wp_region_held_drew (S := fun w' => Hid (Below U.heap.size U w')) (by kernel_rfl) (below_drawn (Below.refl _ _) 1) (fun hHeld => ?_)
  refine held_take 0 35 (rpA ⟨pz, pa, pc, pl⟩) rfl rfl (by kernel_rfl) (by kernel_rfl) (by kernel_rfl) (fun _ _ _ h => h) rfl hHeld (fun w hS => exec_load_rp _ 0 ⟨pz, pa, pc, pl⟩ w (Rp.here.blk (x := ⟨pz, pa, pc, pl⟩) (KX.out w hS.out))) ?_
  refine held_take 1 36 (rpA s) rfl rfl (by kernel_rfl) (by kernel_rfl) (by kernel_rfl) (fun _ _ _ h => h) rfl hHeld (fun w hS => exec_load_lrp _ 0 s w (Rp.here.blk (KA.out w hS.out))) ?_
  simp only [Act.put, List.setIfInBounds_toArray, List.set_cons_zero, List.set_cons_succ]
  refine held_call 2 37 7 #[rpA s] rfl rfl (by kernel_rfl) rfl (exec_call Try.func7 (by kernel_rfl) (by kernel_rfl) _) ?_
  refine (toReply_any s _ (by omega) (HA.out _ hHeld.out).row).mono ?_
  rintro e s1 ⟨sB, rfl, vB, so, sx⟩
  have sk := hHeld.out.trans (sx.mono hHeld.out.size)
  refine ⟨_, rfl, sk, ?_⟩
  simp only [Act.put, List.setIfInBounds_toArray, List.set_cons_zero, List.set_cons_succ]
  refine held_call 3 38 9 #[rpA ⟨pz, pa, pc, pl⟩, rpA sB] rfl rfl (by kernel_rfl) rfl (exec_call Try.func9 (by kernel_rfl) (by kernel_rfl) _) ?_
  refine (eqReply_same ⟨pz, pa, pc, pl⟩ sB _ (by have := LSH.out _ HvP.out; omega) (HX.out _ sk).row (own_rws so) (HvP.out.trans vB.symm)).mono ?_
  rintro e s2 ⟨rfl, sy⟩
  have sl := sk.trans (sy.mono sk.size)
  refine ⟨_, rfl, sl, ?_⟩
  simp only [Act.put, List.setIfInBounds_toArray, List.set_cons_zero, List.set_cons_succ]
  refine held_op 4 39 (.bool false) rfl rfl (by kernel_rfl) rfl rfl sl ?_
  simp only [Act.put, List.setIfInBounds_toArray, List.set_cons_zero, List.set_cons_succ]
  refine wpAnyH_done (by kernel_rfl) ?_ _
  have KY := Lib.hid (fun w' (h : Below s2.heap.size s2 w') => KY.out w' (sl.trans (h.mono sl.size)))
  have HY := Lib.hid (fun w' (h : Below s2.heap.size s2 w') => HY.out w' (sl.trans (h.mono sl.size)))
  have KB := Lib.hid (fun w' (h : Below s2.heap.size s2 w') => KB.out w' (sl.trans (h.mono sl.size)))
  have HD := Lib.hid (fun w' (h : Below s2.heap.size s2 w') => HD.out w' (sl.trans (h.mono sl.size)))
  have bW := Lib.hid (bW.out.trans (sl.mono bW.out.size))
  clear sk sl sx sy so hHeld vB
  go_wp2_with fail
  refine wp_region_held_drew (S := fun w' => Hid (Below s2.heap.size s2 w')) (by kernel_rfl) (below_drawn (Below.refl _ _) 1) (fun hHeld => ?_)
  refine held_take 0 40 (rpA ⟨qz, qa, qc, ql⟩) rfl rfl (by kernel_rfl) (by kernel_rfl) (by kernel_rfl) (fun _ _ _ h => h) rfl hHeld (fun w hS => exec_load_rp _ 0 ⟨qz, qa, qc, ql⟩ w (Rp.here.blk (x := ⟨qz, qa, qc, ql⟩) (KY.out w hS.out))) ?_
  refine held_take 1 41 (rpA t) rfl rfl (by kernel_rfl) (by kernel_rfl) (by kernel_rfl) (fun _ _ _ h => h) rfl hHeld (fun w hS => exec_load_lrp _ 0 t w (Rp.here.blk (KB.out w hS.out))) ?_
  simp only [Act.put, List.setIfInBounds_toArray, List.set_cons_zero, List.set_cons_succ]
  refine held_call 2 42 7 #[rpA t] rfl rfl (by kernel_rfl) rfl (exec_call Try.func7 (by kernel_rfl) (by kernel_rfl) _) ?_
  refine (toReply_any t _ (by omega) (HD.out _ hHeld.out).row).mono ?_
  rintro e n1 ⟨nB, rfl, vB, no, nx⟩
  have nk := hHeld.out.trans (nx.mono hHeld.out.size)
  refine ⟨_, rfl, nk, ?_⟩
  simp only [Act.put, List.setIfInBounds_toArray, List.set_cons_zero, List.set_cons_succ]
  refine held_call 3 43 9 #[rpA ⟨qz, qa, qc, ql⟩, rpA nB] rfl rfl (by kernel_rfl) rfl (exec_call Try.func9 (by kernel_rfl) (by kernel_rfl) _) ?_
  refine (eqReply_same ⟨qz, qa, qc, ql⟩ nB _ (by have := LTH.out _ HvQ.out; omega) (HY.out _ nk).row (own_rws no) (HvQ.out.trans vB.symm)).mono ?_
  rintro e n2 ⟨rfl, ny⟩
  have nl := nk.trans (ny.mono nk.size)
  refine ⟨_, rfl, nl, ?_⟩
  simp only [Act.put, List.setIfInBounds_toArray, List.set_cons_zero, List.set_cons_succ]
  refine held_op 4 44 (.bool false) rfl rfl (by kernel_rfl) rfl rfl nl ?_
  simp only [Act.put, List.setIfInBounds_toArray, List.set_cons_zero, List.set_cons_succ]
  refine wpAnyH_done (by kernel_rfl) ?_ _
  go_wp2
  go_ret
  exact ⟨rfl, bW.out.trans (nl.mono bW.out.size)⟩
end Go.Proofs.Ytpnkkmeeogfeaaa
