/- QueuePut, QueueCut of the model. -/
import Derived.Test.YtjenpjpkgepceaaRows
import Derived.Test.YtjenpjpkgepceaaEn3
namespace Go.Proofs.Ytjenpjpkgepceaa
open Go.RowKit
set_option linter.unusedSimpArgs false
set_option linter.unusedVariables false
/-- A new row of entries and a bool. -/
def GotQ (w : World) (r : List En × Bool) (e : Ending) (w' : World) : Prop := ∃ B d, e = .returned (.tuple #[.slice B r.1.length d, .bool r.2]) ∧ w'.ownsRow w.heap.size 25 4 (.slice B r.1.length d) r.1.length (r.1.flatMap enC) ∧ Below w.heap.size w w'
/-- What QueuePut returns. -/
def quPutV (l : List En) (x : En) : List En × Bool := if quB l = true ∧ quB (enPut l x) = true then (enPut l x, true) else (l, false)
theorem quPutV_no {l : List En} {x : En} (h : ¬ (quB l = true ∧ quB (enPut l x) = true)) : quPutV l x = (l, false) := if_neg h
theorem quPutV_yes {l : List En} {x : En} (h1 : quB l = true) (h2 : quB (enPut l x) = true) : quPutV l x = (enPut l x, true) := if_pos ⟨h1, h2⟩
/-- What QueueCut returns. -/
def quCutV (l : List En) (id : Int) : List En × Bool := if enAt l id < 0 then (l, false) else (l.take (enAt l id).toNat ++ l.drop ((enAt l id).toNat + 1), true)
theorem quPutV_len (l : List En) (x : En) : (quPutV l x).1.length ≤ l.length + 1 := by
  unfold quPutV
  split
  · rw [enPut_len]; omega
  · show l.length ≤ _; omega
theorem quCutV_len (l : List En) (id : Int) : (quCutV l id).1.length ≤ l.length := by
  unfold quCutV
  split
  · exact Nat.le_refl _
  · simp only [List.length_append, List.length_take, List.length_drop]; omega
set_option maxRecDepth 100000 in
set_option maxHeartbeats 3200000 in
theorem queuePut_spec (A : Option Addr) (l : List En) (c : Nat) (x : En) (w : World) (hl : l.length ≤ 2097152) (hc : l.length ≤ c) (hn : A = none → c = 0) (hA : Rws w w.heap.size A (l.flatMap enC)) :
    Calls Try.prog 19 #[.slice A l.length c, enA x] w (GotQ w (quPutV l x)) := by
  have bW : Hid (Below w.heap.size w (w.alloc (.cells #[.int .i64 x.lev, .int .i64 x.turn, .int .i64 x.id, .int .i64 x.size] 25))) := (Below.refl _ _).alloc (Nat.le_refl _) _
  have CP := Lib.hid (l7Put_spec A l c x (w.alloc (.cells #[.int .i64 x.lev, .int .i64 x.turn, .int .i64 x.id, .int .i64 x.size] 25)) hl hc hn (rws_below hA bW.out))
  have HL := Lib.hid (enPut_len l x)
  generalize hP : enPut l x = P at *
  unfold enA at CP
  unfold enA
  go_enter Try.func19, Try.ntmps19
  go_wp2_with fail
  refine CP.out.mono ?_
  rintro e w1 ⟨PA, pc, rfl, o1, b1⟩
  have HO1 := Lib.hid o1
  have B1 : Hid (Below w.heap.size w w1) := bW.out.trans (b1.mono bW.out.size)
  clear CP o1 b1
  have CQ := Lib.hid (queueOk_spec A l c w1 (by omega) (rws_below hA B1.out))
  obtain ⟨q1, eq1⟩ : ∃ q, quB l = q := ⟨_, rfl⟩
  rw [eq1] at CQ
  go_wp2_with fail
  refine CQ.out.mono ?_
  rintro e w2 ⟨rfl, b2⟩
  have B2 : Hid (Below w.heap.size w w2) := B1.out.trans (b2.mono B1.out.size)
  have HO2 := Lib.hid (own_below HO1.out b2)
  clear HO1 b2 CQ
  cases q1 with
  | false =>
    have HV := Lib.hid (quPutV_no (l := l) (x := x) (fun h => by rw [eq1] at h; cases h.1))
    have CC := Lib.hid (l7Copy_spec A l c w2 hl hc hn (rws_below hA B2.out))
    clear eq1
    go_wp2_with fail
    refine CC.out.mono ?_
    rintro e w3 ⟨CA, cc, rfl, o3, b3⟩
    have R : Hid (GotQ w (l, false) (.returned (.tuple #[.slice CA l.length cc, .bool false])) w3) := ⟨CA, cc, rfl, own_weak o3 B2.out.size, B2.out.trans (b3.mono B2.out.size)⟩
    clear CC o3 b3
    go_wp2
    simp [bodyPost, results, Try.results19, go_sem]
    rw [HV.out]
    exact R.out
  | true =>
    have CQ := Lib.hid (queueOk_spec PA P pc w2 (by have := HL.out; omega) (own_rws HO2.out))
    obtain ⟨q2, eq2⟩ : ∃ q, quB P = q := ⟨_, rfl⟩
    rw [eq2] at CQ
    have HE := Lib.hid eq1
    clear eq1
    go_wp2_with fail
    refine CQ.out.mono ?_
    rintro e w3 ⟨rfl, b3⟩
    have B3 : Hid (Below w.heap.size w w3) := B2.out.trans (b3.mono B2.out.size)
    have HO3 := Lib.hid (own_below HO2.out b3)
    clear HO2 b3 CQ
    cases q2 with
    | false =>
      have HV := Lib.hid (quPutV_no (l := l) (x := x) (fun h => by rw [hP, eq2] at h; cases h.2))
      have CC := Lib.hid (l7Copy_spec A l c w3 hl hc hn (rws_below hA B3.out))
      clear eq2 hP
      go_wp2_with fail
      refine CC.out.mono ?_
      rintro e w4 ⟨CA, cc, rfl, o3, b3⟩
      have R : Hid (GotQ w (l, false) (.returned (.tuple #[.slice CA l.length cc, .bool false])) w4) := ⟨CA, cc, rfl, own_weak o3 B3.out.size, B3.out.trans (b3.mono B3.out.size)⟩
      clear CC o3 b3
      go_wp2
      simp [bodyPost, results, Try.results19, go_sem]
      rw [HV.out]
      exact R.out
    | true =>
      have HV := Lib.hid (quPutV_yes (l := l) (x := x) HE.out (by rw [hP]; exact eq2))
      rw [hP] at HV
      clear eq2 hP
      have R : Hid (GotQ w (P, true) (.returned (.tuple #[.slice PA P.length pc, .bool true])) w3) := ⟨PA, pc, rfl, own_weak HO3.out bW.out.size, B3.out⟩
      go_wp2
      simp [bodyPost, results, Try.results19, go_sem]
      rw [HV.out]
      exact R.out
set_option maxRecDepth 100000 in
set_option maxHeartbeats 3200000 in
theorem queueCut_spec (A : Option Addr) (l : List En) (c : Nat) (id : Int) (w : World) (hl : l.length ≤ 2097152) (hc : l.length ≤ c) (hn : A = none → c = 0) (hA : Rws w w.heap.size A (l.flatMap enC)) :
    Calls Try.prog 23 #[.slice A l.length c, .int .i64 id] w (GotQ w (quCutV l id)) := by
  have CA := Lib.hid (queueAt_spec A l c id w hl hA)
  have hin : -1 ≤ enAt l id ∧ enAt l id < l.length := idxV_in _ l
  obtain ⟨z, hz⟩ : ∃ z, enAt l id = z := ⟨_, rfl⟩
  rw [hz] at CA hin
  by_cases h0 : z < 0
  · have HV : Hid (quCutV l id = (l, false)) := by show _ = _; unfold quCutV; rw [hz, if_pos h0]
    have CC := Lib.hid (l7Copy_spec A l c w hl hc hn hA)
    clear hz
    go_enter Try.func23, Try.ntmps23
    go_wp2_with fail
    refine CA.out.mono ?_
    rintro e w' ⟨rfl, rfl⟩
    go_wp2_with fail
    refine CC.out.mono ?_
    rintro e w3 ⟨CB, cc, rfl, o3, b3⟩
    have R : Hid (GotQ w (l, false) (.returned (.tuple #[.slice CB l.length cc, .bool false])) w3) := ⟨CB, cc, rfl, o3, b3⟩
    clear CC o3 b3
    go_wp2
    simp [bodyPost, results, Try.results23, go_sem]
    rw [HV.out]
    exact R.out
  · obtain ⟨k, hk⟩ : ∃ k : Nat, z = (k : Int) := ⟨z.toNat, by omega⟩
    subst hk
    have hkl : k < l.length := by omega
    have HV : Hid (quCutV l id = (l.take k ++ l.drop (k + 1), true)) := by show _ = _; unfold quCutV; rw [hz, if_neg h0, Int.toNat_natCast]
    have htl : (l.take k).length = k := by rw [List.length_take]; omega
    have CC : Hid (∀ w', Below w.heap.size w w' → Calls Try.prog 40 #[.slice A k c] w' (NewR 25 4 w' k ((l.take k).flatMap enC))) := fun w' h => by
      have := l7Copy_spec A (l.take k) c w' (by omega) (by omega) hn (by have := (rws_below hA h).to_ (k * 4); rw [flat_take enC 4 enC_len]; exact this)
      rw [htl] at this
      exact this
    have hdl : ((l.drop (k + 1)).flatMap enC).length = (l.length - (k + 1)) * 4 := by rw [flat_len enC 4 enC_len, List.length_drop]
    have KD : Hid (∀ w', Below w.heap.size w w' → Rws w' w'.heap.size (fromA A c (k + 1) 4) ((l.drop (k + 1)).flatMap enC)) := fun w' h => by
      have := (rws_below hA h).from_ (n := l.length) (c := c) (k := k + 1) (sz := 4) (flat_len enC 4 enC_len l) (by omega) hc
      rw [flat_drop enC 4 enC_len]; exact this
    have hfn : fromA A c (k + 1) 4 = none → c - (k + 1) = 0 := fun h => by
      cases A with
      | none => rw [hn rfl]; simp
      | some ad => simp [fromA] at h
    clear hz h0 hin
    go_enter Try.func23, Try.ntmps23
    go_wp2_with fail
    refine CA.out.mono ?_
    rintro e w' ⟨rfl, rfl⟩
    have hk9 : ¬ ((k : Int) < 0) := by omega
    go_wp2_with fail
    refine wp_region_held_drew (S := fun w' => Hid (Below w.heap.size w w')) (by kernel_rfl) (below_drawn (Below.refl _ _) 1) (fun hHeld => ?_)
    refine held_take 0 14 (.slice A l.length c) rfl rfl (by kernel_rfl) (by kernel_rfl) (by kernel_rfl) (fun _ _ _ h => h) rfl hHeld (fun w _ => rfl) ?_
    refine held_take 1 15 (.int .i64 (k : Int)) rfl rfl (by kernel_rfl) (by kernel_rfl) (by kernel_rfl) (fun _ _ _ h => h) rfl hHeld (fun w _ => rfl) ?_
    simp only [Act.put, List.setIfInBounds_toArray, List.set_cons_zero, List.set_cons_succ]
    refine held_take 2 16 (.slice A k c) rfl rfl (by kernel_rfl) (by kernel_rfl) (by kernel_rfl) (fun _ _ _ h => h) rfl hHeld (fun w _ => exec_sliceTo rowEnt A l.length c k w (by omega) hc hn) ?_
    refine held_take 4 18 (.slice A l.length c) rfl rfl (by kernel_rfl) (by kernel_rfl) (by kernel_rfl) (fun _ _ _ h => h) rfl hHeld (fun w _ => rfl) ?_
    simp only [Act.put, List.setIfInBounds_toArray, List.set_cons_zero, List.set_cons_succ]
    refine held_take 5 19 (.int .i64 (k : Int)) rfl rfl (by kernel_rfl) (by kernel_rfl) (by kernel_rfl) (fun _ _ _ h => h) rfl hHeld (fun w _ => rfl) ?_
    refine held_take 6 20 (.int .i64 ((k + 1 : Nat) : Int)) rfl rfl (by kernel_rfl) (by kernel_rfl) (by kernel_rfl) (fun _ _ _ h => h) rfl hHeld (fun w _ => exec_addI (k : Int) 1 _ w (by omega) (by omega) (by omega)) ?_
    simp only [Act.put, List.setIfInBounds_toArray, List.set_cons_zero, List.set_cons_succ]
    refine held_take 7 21 (.slice (fromA A c (k + 1) 4) (l.length - (k + 1)) (c - (k + 1))) rfl rfl (by kernel_rfl) (by kernel_rfl) (by kernel_rfl) (fun _ _ _ h => h) rfl hHeld (fun w _ => exec_sliceFrom rowEnt A l.length c (k + 1) w (by omega) hc hn) ?_
    simp only [Act.put, List.setIfInBounds_toArray, List.set_cons_zero, List.set_cons_succ]
    refine held_call 3 17 40 #[.slice A k c] rfl rfl (by kernel_rfl) rfl (exec_call Try.func40 (by kernel_rfl) (by kernel_rfl) _) ?_
    refine (CC.out _ hHeld.out).mono ?_
    rintro e w1 ⟨CB, cc, rfl, o1, b1⟩
    have k1 : Hid (Below w.heap.size w w1) := hHeld.out.trans (b1.mono hHeld.out.size)
    have o1 := own_weak o1 hHeld.out.size
    refine ⟨_, rfl, k1, ?_⟩
    simp only [Act.put, List.setIfInBounds_toArray, List.set_cons_zero, List.set_cons_succ]
    refine held_opx 8 22 rfl rfl (by kernel_rfl) rfl (exec_appR rowEnt _ w.heap.size _ k _ o1 _ (fromA A c (k + 1) 4) (l.length - (k + 1)) (c - (k + 1)) ((l.drop (k + 1)).flatMap enC) hdl (KD.out _ k1.out) hfn (enC_one _) (by omega) k1.out.size) ?_
    rintro v2 w2 ⟨o2, g2⟩
    have k2 : Hid (Below w.heap.size w w2) := k1.out.grown g2 k1.out.size (own_low o1)
    refine ⟨k2, ?_⟩
    simp only [Act.put, List.setIfInBounds_toArray, List.set_cons_zero, List.set_cons_succ]
    refine held_op 9 4 v2 rfl rfl (by kernel_rfl) rfl rfl k2 ?_
    simp only [Act.put, List.setIfInBounds_toArray, List.set_cons_zero, List.set_cons_succ]
    refine held_op 10 5 (.bool true) rfl rfl (by kernel_rfl) rfl rfl k2 ?_
    simp only [Act.put, List.setIfInBounds_toArray, List.set_cons_zero, List.set_cons_succ]
    refine wpAnyH_done (by kernel_rfl) ?_ _
    rw [← List.flatMap_append] at o2
    have hll : (l.take k ++ l.drop (k + 1)).length = k + (l.length - (k + 1)) := by rw [List.length_append, htl, List.length_drop]
    rw [← hll] at o2
    obtain ⟨VB, vc, rfl, _⟩ := own_form o2
    have R : Hid (GotQ w (l.take k ++ l.drop (k + 1), true) (.returned (.tuple #[.slice VB (l.take k ++ l.drop (k + 1)).length vc, .bool true])) w2) := ⟨VB, vc, rfl, o2, k2.out⟩
    clear o2 hll
    go_wp2
    simp [bodyPost, results, Try.results23, go_sem]
    rw [HV.out]
    have R2 := R.out
    simpa using R2
end Go.Proofs.Ytjenpjpkgepceaa
