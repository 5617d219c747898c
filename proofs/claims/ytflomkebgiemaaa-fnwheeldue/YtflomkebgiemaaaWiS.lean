/- WheelOf and SameWheel of the program. -/
import Derived.Test.YtflomkebgiemaaaRows
import Derived.Test.YtflomkebgiemaaaWiR
namespace Go.Proofs.Ytflomkebgiemaaa
open Go.RowKit
set_option linter.unusedSimpArgs false
set_option linter.unusedVariables false
set_option maxRecDepth 100000 in
set_option maxHeartbeats 3200000 in
theorem sameWheel_impl (A A' : Option Addr) (sp sq : List Sp) (c c' : Nat) (w : World) (la lb : List (List Pn)) (hm : sp.map (fun s => s.l) = la) (hm' : sq.map (fun s => s.l) = lb) (hs : SzW la) (hs' : SzW lb) (hf : FitL la) (hf' : FitL lb) (hA : Whl w A sp) (hA' : Whl w A' sq) :
    Calls Try.prog 23 #[.agg #[.slice A sp.length c], .agg #[.slice A' sq.length c']] w fun e w' => e = .returned (.bool (sameW la lb)) ∧ Below w.heap.size w w' := by
  subst hm hm'
  obtain ⟨U, hU⟩ : ∃ U, (w.alloc (.cells #[.slice A sp.length c] 26)).alloc (.cells #[.slice A' sq.length c'] 26) = U := ⟨_, rfl⟩
  have b0 : Hid (Below w.heap.size w U) := by
    show Below _ _ _
    rw [← hU]; exact ((Below.refl _ _).alloc (Nat.le_refl _) _).alloc (by simp) _
  have g1 : U.heap[w.heap.size]? = some (.cells #[.slice A sp.length c] 26) := by rw [← hU]; exact blk_alloc (heap_new _ _) _
  have g2 : U.heap[w.heap.size + 1]? = some (.cells #[.slice A' sq.length c'] 26) := by
    rw [← hU]
    have := heap_new (w.alloc (.cells #[.slice A sp.length c] 26)) (.cells #[.slice A' sq.length c'] 26)
    simpa using this
  have KA := Lib.hid (fun w' (h : Below U.heap.size U w') => cell_of_row _ _ 0 _ _ _ (blk_call g1 h))
  have KB := Lib.hid (fun w' (h : Below U.heap.size U w') => cell_of_row _ _ 0 _ _ _ (blk_call g2 h))
  simp at KA KB
  have CA := Lib.hid (fun w' (h : Below U.heap.size U w') => wheelOk_impl A sp c w' _ rfl hs hf ((hA.below b0.out).below h))
  have CB := Lib.hid (fun w' (h : Below U.heap.size U w') => wheelOk_impl A' sq c' w' _ rfl hs' hf' ((hA'.below b0.out).below h))
  have PA := Lib.hid (fun w' (h : Below U.heap.size U w') => pinsOf_impl A sp c w' _ rfl hs hf ((hA.below b0.out).below h))
  have PB := Lib.hid (fun w' (h : Below U.heap.size U w') => pinsOf_impl A' sq c' w' _ rfl hs' hf' ((hA'.below b0.out).below h))
  obtain ⟨V, eV⟩ : ∃ V, sameW (sp.map (fun s => s.l)) (sq.map (fun s => s.l)) = V := ⟨_, rfl⟩
  rw [eV]
  unfold sameW at eV
  have hla : (pinsW (sp.map (fun s => s.l))).length ≤ 1048577 := by have := pinsW_len (sp.map (fun s => s.l)); omega
  have hlb : (pinsW (sq.map (fun s => s.l))).length ≤ 1048577 := by have := pinsW_len (sq.map (fun s => s.l)); omega
  generalize pinsW (sp.map (fun s => s.l)) = la at *
  generalize pinsW (sq.map (fun s => s.l)) = lb at *
  generalize wheelB (sp.map (fun s => s.l)) = oka at *
  generalize wheelB (sq.map (fun s => s.l)) = okb at *
  clear g1 g2
  have HU := Lib.hid hU
  clear hU
  go_enter Try.func23, Try.ntmps23
  go_wp2_with fail
  rw [HU.out]
  cases oka with
  | false =>
    have HV : Hid (V = false) := by show _ = _; rw [← eV]; rfl
    clear eV
    refine wp_region_held_drew (S := fun w' => Hid (Below U.heap.size U w')) (by kernel_rfl) (below_drawn (Below.refl _ _) 1) (fun hHeld => ?_)
    refine held_take 0 5 (.agg #[.slice A sp.length c]) rfl rfl (by kernel_rfl) (by kernel_rfl) (by kernel_rfl) (fun _ _ _ h => h) rfl hHeld (fun w h => exec_loadWh _ _ _ _ w (KA.out w h.out)) ?_
    simp only [Act.put, List.setIfInBounds_toArray, List.set_cons_zero, List.set_cons_succ]
    refine held_call 1 6 37 #[.agg #[.slice A sp.length c]] rfl rfl (by kernel_rfl) rfl (exec_call Try.func37 (by kernel_rfl) (by kernel_rfl) _) ?_
    refine (CA.out _ hHeld.out).mono ?_
    rintro e u1 ⟨rfl, x1⟩
    have hHeld : Hid (Below U.heap.size U u1) := hHeld.out.trans (x1.mono hHeld.out.size)
    refine ⟨_, rfl, hHeld, ?_⟩
    simp only [Act.put, List.setIfInBounds_toArray, List.set_cons_zero, List.set_cons_succ]
    refine held_take 2 7 (.bool false) rfl rfl (by kernel_rfl) (by kernel_rfl) (by kernel_rfl) (fun _ _ _ h => h) rfl hHeld (fun w _ => rfl) ?_
    refine held_skip 3 8 rfl rfl (by kernel_rfl) (by kernel_rfl) (by kernel_rfl) (fun _ _ _ h => h) rfl hHeld ?_
    simp only [Act.put, List.setIfInBounds_toArray, List.set_cons_zero, List.set_cons_succ]
    refine held_skip 4 9 rfl rfl (by kernel_rfl) (by kernel_rfl) (by kernel_rfl) (fun _ _ _ h => h) rfl hHeld ?_
    refine held_take 5 10 (.bool false) rfl rfl (by kernel_rfl) (by kernel_rfl) (by kernel_rfl) (fun _ _ _ h => h) rfl hHeld (fun w _ => exec_pickF _ w) ?_
    simp only [Act.put, List.setIfInBounds_toArray, List.set_cons_zero, List.set_cons_succ]
    refine held_take 6 11 (.bool false) rfl rfl (by kernel_rfl) (by kernel_rfl) (by kernel_rfl) (fun _ _ _ h => h) rfl hHeld (fun w _ => rfl) ?_
    refine held_skip 7 12 rfl rfl (by kernel_rfl) (by kernel_rfl) (by kernel_rfl) (fun _ _ _ h => h) rfl hHeld ?_
    simp only [Act.put, List.setIfInBounds_toArray, List.set_cons_zero, List.set_cons_succ]
    refine held_skip 8 13 rfl rfl (by kernel_rfl) (by kernel_rfl) (by kernel_rfl) (fun _ _ _ h => h) rfl hHeld ?_
    refine held_skip 9 14 rfl rfl (by kernel_rfl) (by kernel_rfl) (by kernel_rfl) (fun _ _ _ h => h) rfl hHeld ?_
    simp only [Act.put, List.setIfInBounds_toArray, List.set_cons_zero, List.set_cons_succ]
    refine held_skip 10 15 rfl rfl (by kernel_rfl) (by kernel_rfl) (by kernel_rfl) (fun _ _ _ h => h) rfl hHeld ?_
    refine held_skip 11 16 rfl rfl (by kernel_rfl) (by kernel_rfl) (by kernel_rfl) (fun _ _ _ h => h) rfl hHeld ?_
    simp only [Act.put, List.setIfInBounds_toArray, List.set_cons_zero, List.set_cons_succ]
    refine held_take 12 17 (.bool false) rfl rfl (by kernel_rfl) (by kernel_rfl) (by kernel_rfl) (fun _ _ _ h => h) rfl hHeld (fun w _ => exec_pickF _ w) ?_
    simp only [Act.put, List.setIfInBounds_toArray, List.set_cons_zero, List.set_cons_succ]
    refine held_op 13 4 (.bool false) rfl rfl (by kernel_rfl) rfl rfl hHeld ?_
    simp only [Act.put, List.setIfInBounds_toArray, List.set_cons_zero, List.set_cons_succ]
    refine wpAnyH_done (by kernel_rfl) ?_ _
    have BF := Lib.hid (b0.out.trans (hHeld.out.mono b0.out.size))
    clear hHeld
    go_wp2
    go_ret
    exact ⟨by rw [HV.out] <;> rfl, BF.out⟩
  | true =>
    cases okb with
    | false =>
      have HV : Hid (V = false) := by show _ = _; rw [← eV]; rfl
      clear eV
      refine wp_region_held_drew (S := fun w' => Hid (Below U.heap.size U w')) (by kernel_rfl) (below_drawn (Below.refl _ _) 1) (fun hHeld => ?_)
      refine held_take 0 5 (.agg #[.slice A sp.length c]) rfl rfl (by kernel_rfl) (by kernel_rfl) (by kernel_rfl) (fun _ _ _ h => h) rfl hHeld (fun w h => exec_loadWh _ _ _ _ w (KA.out w h.out)) ?_
      simp only [Act.put, List.setIfInBounds_toArray, List.set_cons_zero, List.set_cons_succ]
      refine held_call 1 6 37 #[.agg #[.slice A sp.length c]] rfl rfl (by kernel_rfl) rfl (exec_call Try.func37 (by kernel_rfl) (by kernel_rfl) _) ?_
      refine (CA.out _ hHeld.out).mono ?_
      rintro e u1 ⟨rfl, x1⟩
      have hHeld : Hid (Below U.heap.size U u1) := hHeld.out.trans (x1.mono hHeld.out.size)
      refine ⟨_, rfl, hHeld, ?_⟩
      simp only [Act.put, List.setIfInBounds_toArray, List.set_cons_zero, List.set_cons_succ]
      refine held_take 2 7 (.bool true) rfl rfl (by kernel_rfl) (by kernel_rfl) (by kernel_rfl) (fun _ _ _ h => h) rfl hHeld (fun w _ => rfl) ?_
      refine held_take 3 8 (.agg #[.slice A' sq.length c']) rfl rfl (by kernel_rfl) (by kernel_rfl) (by kernel_rfl) (fun _ _ _ h => h) rfl hHeld (fun w h => exec_loadWh _ _ _ _ w (KB.out w h.out)) ?_
      simp only [Act.put, List.setIfInBounds_toArray, List.set_cons_zero, List.set_cons_succ]
      refine held_call 4 9 37 #[.agg #[.slice A' sq.length c']] rfl rfl (by kernel_rfl) rfl (exec_call Try.func37 (by kernel_rfl) (by kernel_rfl) _) ?_
      refine (CB.out _ hHeld.out).mono ?_
      rintro e u2 ⟨rfl, x2⟩
      have hHeld : Hid (Below U.heap.size U u2) := hHeld.out.trans (x2.mono hHeld.out.size)
      refine ⟨_, rfl, hHeld, ?_⟩
      simp only [Act.put, List.setIfInBounds_toArray, List.set_cons_zero, List.set_cons_succ]
      refine held_take 5 10 (.bool false) rfl rfl (by kernel_rfl) (by kernel_rfl) (by kernel_rfl) (fun _ _ _ h => h) rfl hHeld (fun w _ => exec_pickT _ w) ?_
      refine held_take 6 11 (.bool false) rfl rfl (by kernel_rfl) (by kernel_rfl) (by kernel_rfl) (fun _ _ _ h => h) rfl hHeld (fun w _ => rfl) ?_
      simp only [Act.put, List.setIfInBounds_toArray, List.set_cons_zero, List.set_cons_succ]
      refine held_skip 7 12 rfl rfl (by kernel_rfl) (by kernel_rfl) (by kernel_rfl) (fun _ _ _ h => h) rfl hHeld ?_
      refine held_skip 8 13 rfl rfl (by kernel_rfl) (by kernel_rfl) (by kernel_rfl) (fun _ _ _ h => h) rfl hHeld ?_
      simp only [Act.put, List.setIfInBounds_toArray, List.set_cons_zero, List.set_cons_succ]
      refine held_skip 9 14 rfl rfl (by kernel_rfl) (by kernel_rfl) (by kernel_rfl) (fun _ _ _ h => h) rfl hHeld ?_
      refine held_skip 10 15 rfl rfl (by kernel_rfl) (by kernel_rfl) (by kernel_rfl) (fun _ _ _ h => h) rfl hHeld ?_
      simp only [Act.put, List.setIfInBounds_toArray, List.set_cons_zero, List.set_cons_succ]
      refine held_skip 11 16 rfl rfl (by kernel_rfl) (by kernel_rfl) (by kernel_rfl) (fun _ _ _ h => h) rfl hHeld ?_
      refine held_take 12 17 (.bool false) rfl rfl (by kernel_rfl) (by kernel_rfl) (by kernel_rfl) (fun _ _ _ h => h) rfl hHeld (fun w _ => exec_pickF _ w) ?_
      simp only [Act.put, List.setIfInBounds_toArray, List.set_cons_zero, List.set_cons_succ]
      refine held_op 13 4 (.bool false) rfl rfl (by kernel_rfl) rfl rfl hHeld ?_
      simp only [Act.put, List.setIfInBounds_toArray, List.set_cons_zero, List.set_cons_succ]
      refine wpAnyH_done (by kernel_rfl) ?_ _
      have BF := Lib.hid (b0.out.trans (hHeld.out.mono b0.out.size))
      clear hHeld
      go_wp2
      go_ret
      exact ⟨by rw [HV.out] <;> rfl, BF.out⟩
    | true =>
      have HV : Hid (V = decide (la = lb)) := by show _ = _; rw [← eV]; simp
      clear eV
      refine wp_region_held_drew (S := fun w' => Hid (Below U.heap.size U w')) (by kernel_rfl) (below_drawn (Below.refl _ _) 1) (fun hHeld => ?_)
      refine held_take 0 5 (.agg #[.slice A sp.length c]) rfl rfl (by kernel_rfl) (by kernel_rfl) (by kernel_rfl) (fun _ _ _ h => h) rfl hHeld (fun w h => exec_loadWh _ _ _ _ w (KA.out w h.out)) ?_
      simp only [Act.put, List.setIfInBounds_toArray, List.set_cons_zero, List.set_cons_succ]
      refine held_call 1 6 37 #[.agg #[.slice A sp.length c]] rfl rfl (by kernel_rfl) rfl (exec_call Try.func37 (by kernel_rfl) (by kernel_rfl) _) ?_
      refine (CA.out _ hHeld.out).mono ?_
      rintro e u1 ⟨rfl, x1⟩
      have hHeld : Hid (Below U.heap.size U u1) := hHeld.out.trans (x1.mono hHeld.out.size)
      refine ⟨_, rfl, hHeld, ?_⟩
      simp only [Act.put, List.setIfInBounds_toArray, List.set_cons_zero, List.set_cons_succ]
      refine held_take 2 7 (.bool true) rfl rfl (by kernel_rfl) (by kernel_rfl) (by kernel_rfl) (fun _ _ _ h => h) rfl hHeld (fun w _ => rfl) ?_
      refine held_take 3 8 (.agg #[.slice A' sq.length c']) rfl rfl (by kernel_rfl) (by kernel_rfl) (by kernel_rfl) (fun _ _ _ h => h) rfl hHeld (fun w h => exec_loadWh _ _ _ _ w (KB.out w h.out)) ?_
      simp only [Act.put, List.setIfInBounds_toArray, List.set_cons_zero, List.set_cons_succ]
      refine held_call 4 9 37 #[.agg #[.slice A' sq.length c']] rfl rfl (by kernel_rfl) rfl (exec_call Try.func37 (by kernel_rfl) (by kernel_rfl) _) ?_
      refine (CB.out _ hHeld.out).mono ?_
      rintro e u2 ⟨rfl, x2⟩
      have hHeld : Hid (Below U.heap.size U u2) := hHeld.out.trans (x2.mono hHeld.out.size)
      refine ⟨_, rfl, hHeld, ?_⟩
      simp only [Act.put, List.setIfInBounds_toArray, List.set_cons_zero, List.set_cons_succ]
      refine held_take 5 10 (.bool true) rfl rfl (by kernel_rfl) (by kernel_rfl) (by kernel_rfl) (fun _ _ _ h => h) rfl hHeld (fun w _ => exec_pickT _ w) ?_
      refine held_take 6 11 (.bool true) rfl rfl (by kernel_rfl) (by kernel_rfl) (by kernel_rfl) (fun _ _ _ h => h) rfl hHeld (fun w _ => rfl) ?_
      simp only [Act.put, List.setIfInBounds_toArray, List.set_cons_zero, List.set_cons_succ]
      refine held_take 7 12 (.agg #[.slice A sp.length c]) rfl rfl (by kernel_rfl) (by kernel_rfl) (by kernel_rfl) (fun _ _ _ h => h) rfl hHeld (fun w h => exec_loadWh _ _ _ _ w (KA.out w h.out)) ?_
      refine held_take 9 14 (.agg #[.slice A' sq.length c']) rfl rfl (by kernel_rfl) (by kernel_rfl) (by kernel_rfl) (fun _ _ _ h => h) rfl hHeld (fun w h => exec_loadWh _ _ _ _ w (KB.out w h.out)) ?_
      simp only [Act.put, List.setIfInBounds_toArray, List.set_cons_zero, List.set_cons_succ]
      refine held_call 8 13 25 #[.agg #[.slice A sp.length c]] rfl rfl (by kernel_rfl) rfl (exec_call Try.func25 (by kernel_rfl) (by kernel_rfl) _) ?_
      refine (PA.out _ hHeld.out).mono ?_
      rintro e u3 ⟨P1, d1, rfl, o1, x3⟩
      have hHeld : Hid (Below U.heap.size U u3) := hHeld.out.trans (x3.mono hHeld.out.size)
      refine ⟨_, rfl, hHeld, ?_⟩
      simp only [Act.put, List.setIfInBounds_toArray, List.set_cons_zero, List.set_cons_succ]
      refine held_call 10 15 25 #[.agg #[.slice A' sq.length c']] rfl rfl (by kernel_rfl) rfl (exec_call Try.func25 (by kernel_rfl) (by kernel_rfl) _) ?_
      refine (PB.out _ hHeld.out).mono ?_
      rintro e u4 ⟨P2, d2, rfl, o2, x4⟩
      have o1 := own_below o1 x4
      have hHeld : Hid (Below U.heap.size U u4) := hHeld.out.trans (x4.mono hHeld.out.size)
      refine ⟨_, rfl, hHeld, ?_⟩
      simp only [Act.put, List.setIfInBounds_toArray, List.set_cons_zero, List.set_cons_succ]
      refine held_call 11 16 61 #[.slice P1 la.length d1, .slice P2 lb.length d2] rfl rfl (by kernel_rfl) rfl (exec_call Try.func61 (by kernel_rfl) (by kernel_rfl) _) ?_
      refine (equalP_im P1 P2 la lb d1 d2 _ hla hlb (own_rws o1) (own_rws o2)).mono ?_
      rintro e u5 ⟨rfl, x5⟩
      have hHeld : Hid (Below U.heap.size U u5) := hHeld.out.trans (x5.mono hHeld.out.size)
      refine ⟨_, rfl, hHeld, ?_⟩
      simp only [Act.put, List.setIfInBounds_toArray, List.set_cons_zero, List.set_cons_succ]
      refine held_take 12 17 (.bool (decide (la = lb))) rfl rfl (by kernel_rfl) (by kernel_rfl) (by kernel_rfl) (fun _ _ _ h => h) rfl hHeld (fun w _ => exec_pickT _ w) ?_
      simp only [Act.put, List.setIfInBounds_toArray, List.set_cons_zero, List.set_cons_succ]
      refine held_op 13 4 (.bool (decide (la = lb))) rfl rfl (by kernel_rfl) rfl rfl hHeld ?_
      simp only [Act.put, List.setIfInBounds_toArray, List.set_cons_zero, List.set_cons_succ]
      refine wpAnyH_done (by kernel_rfl) ?_ _
      have BF := Lib.hid (b0.out.trans (hHeld.out.mono b0.out.size))
      clear hHeld
      go_wp2
      go_ret
      exact ⟨by rw [HV.out] <;> rfl, BF.out⟩
set_option maxRecDepth 100000 in
set_option maxHeartbeats 6400000 in
theorem wheelOf_impl (A : Option Addr) (l : List Pn) (c : Nat) (w : World) (hl : l.length ≤ 1048577) (hf : ∀ x ∈ l, x.fits) (hA : Rws w w.heap.size A (l.flatMap pnC)) :
    Calls Try.prog 27 #[.slice A l.length c] w (NewXB w (wheelOfV l)) := by
  have b0 : Below w.heap.size w (w.alloc (.cells #[.slice none 0 0] 26)) := (Below.refl _ _).alloc (Nat.le_refl _) _
  have C0 := Lib.hid (wheelNew_impl (w.alloc (.cells #[.slice none 0 0] 26)))
  obtain ⟨V, eV⟩ : ∃ V, wheelOfV l = V := ⟨_, rfl⟩
  rw [eV]
  unfold wheelOfV at eV
  have HV := Lib.hid eV
  have HB0 := Lib.hid b0
  have HF := Lib.hid hf
  have HAA := Lib.hid (fun u (h : Below w.heap.size w u) => rws_below hA h)
  clear eV b0 hf hA
  go_enter Try.func27, Try.ntmps27
  go_wp2_with fail
  refine C0.out.mono ?_
  rintro e u1 ⟨P, pc, sp, rfl, hm, hO, hap, x1⟩
  simp only [World.size_alloc] at hO x1
  have hz1 := x1.size
  simp only [World.size_alloc] at hz1
  have T0 : Hid (WO w (u1.alloc (.cells #[.slice P sp.length pc] 26)) u1.heap.size P pc sp) := by
    have ba : Below u1.heap.size u1 (u1.alloc (.cells #[.slice P sp.length pc] 26)) := (Below.refl _ _).alloc (Nat.le_refl _) _
    exact ⟨hO.alloc _, heap_new _ _, blk_alloc (blk_call (heap_new _ _) (by simpa using x1)) _, HB0.out.trans ((x1.mono (by simp)).trans (ba.mono (by omega))), by omega⟩
  have S0 : Hid (sp.length = 9 ∧ allPn sp = []) := by
    refine ⟨by have := congrArg List.length hm; simpa [nineW] using this, ?_⟩
    rw [← ls_flat]
    have : (sp.map fun s => s.l) = nineW := hm
    rw [this]; simp [nineW]
  have HFT : Hid (FitL (sp.map fun s => s.l)) := by
    have : (sp.map fun s => s.l) = nineW := hm
    show FitL _
    rw [this]
    exact fun a ha x hx => by have := List.eq_of_mem_replicate ha; subst this; cases hx
  have HM := Lib.hid hm
  have HAP := Lib.hid hap
  clear C0 hO x1 hm HB0 hap
  go_wp2
  go_loopw [11] (fun i wr => ∃ (k : Nat) (Q : Option Addr) (qc : Nat) (sq : List Sp), k ≤ l.length ∧ i = .int .i64 k ∧ Hid (wheelGo (l.drop k) (sq.map (fun s => s.l)) = V) ∧ Hid (sq.length = 9 ∧ (allPn sq).length ≤ 10) ∧ Hid (FitL (sq.map fun s => s.l)) ∧ Hid (ApartW sq) ∧ Hid (WO w wr u1.heap.size Q qc sq)) (fun i _ => l.length - (intOf i).toNat)
  case atStart => exact ⟨0, P, pc, sp, by omega, rfl, (by show _ = _; rw [List.drop_zero]; have := HV.out; rw [← HM.out] at this; exact this), ⟨S0.out.1, by rw [S0.out.2]; simp⟩, HFT, HAP, T0⟩
  case round =>
    clear T0 S0 HM HFT HAP
    obtain ⟨k, Q, qc, sq, hk, rfl, hgo, h9, hft, hap, hT⟩ := hrel
    have q4 := cell_of_one hT.out.H
    have f4 := free_of_one hT.out.H
    have q2 := cell_of_one hT.out.Z
    have f2 := free_of_one hT.out.Z
    have hg1 := hT.out.g1
    have ltg := blk_lt hT.out.H
    by_cases hlt : k < l.length
    rotate_left
    · obtain rfl : k = l.length := by omega
      have eV : V = (sq.map (fun s => s.l), true) := by rw [← hgo.out, List.drop_length]; rfl
      have R : Hid (NewXB w V (.returned (.tuple #[.agg #[.slice Q sq.length qc], .bool true])) (wr.setCell ⟨w.heap.size, 0, none⟩ (.slice Q sq.length qc))) := by
        refine ⟨Q, qc, sq, by rw [eV], by rw [eV], (hT.out.O.put hT.out.Z (by decide) (by decide) 0 _).weak (by omega), hap.out, hT.out.B.setCell (p := ⟨w.heap.size, 0, none⟩) (by show _ ≤ w.heap.size; omega) _⟩
      clear hT eV hgo
      go_wp2
      simp [bodyPost, results, Try.results27, go_sem, q2]
      exact R.out
    obtain ⟨b, off, rfl, hbB, hc⟩ := (HAA.out _ hT.out.B).pn hlt
    have hxf := HF.out _ (getD_mem l k pn0 hlt)
    have HG := Lib.hid (wheelGo_drop l k (sq.map (fun s => s.l)) hlt)
    generalize l.getD k pn0 = x at *
    obtain ⟨U, hU⟩ : ∃ U, wr.alloc (.cells #[.int .i64 x.at_, .int .i64 x.id] 33) = U := ⟨_, rfl⟩
    have bU : Below wr.heap.size wr U := by rw [← hU]; exact (Below.refl _ _).alloc (Nat.le_refl _) _
    have hUs : U.heap.size = wr.heap.size + 1 := by rw [← hU]; simp
    have gx : U.heap[wr.heap.size]? = some (.cells #[.int .i64 x.at_, .int .i64 x.id] 33) := by rw [← hU]; exact heap_new _ _
    have T1 := hT.out.call bU
    have CW := Lib.hid (wheelPut_impl Q sq qc x U (sq.map fun s => s.l) rfl ⟨by simp; have := h9.out.1; omega, by rw [ls_flat]; have := h9.out.2; omega⟩ hft.out hxf T1.O.whl)
    obtain ⟨R, eR⟩ : ∃ R, wheelPutV (sq.map (fun s => s.l)) x = R := ⟨_, rfl⟩
    have HFR : Hid (FitL R.1) := by show FitL _; rw [← eR]; exact putV_fits hft.out hxf
    rw [eR] at CW HG
    unfold pnA at CW
    have HOK : Hid (R.2 = true → R.1.flatten.length ≤ 10 ∧ R.1.length = 9) := fun h => by
      have h2 := wheelB_iff (wheelPutV_ok (ls := sq.map (fun s => s.l)) (p := x) (by rw [eR]; exact h))
      rw [eR] at h2
      exact ⟨h2.2.1, h2.1⟩
    have hgo : Hid (V = if R.2 = true then wheelGo (l.drop (k + 1)) R.1 else ([], false)) := by show _ = _; rw [← HG.out]; exact hgo.out.symm
    have k4 := cell_of_one T1.H
    obtain ⟨x0, x1⟩ := Pn.here.blk gx
    obtain ⟨y0, y1⟩ := hc
    have k4' : (wr.alloc (.cells #[.int .i64 x.at_, .int .i64 x.id] 33)).cell? ⟨u1.heap.size, 0, none⟩ = some (.slice Q sq.length qc) := by rw [hU]; exact k4
    have x0' := x0
    have x1' := x1
    rw [← hU] at x0' x1'
    have HU := Lib.hid hU
    have HT1 := Lib.hid T1
    have HUS := Lib.hid hUs
    clear HG eR hU T1 hT q4 f4 hap hft h9 gx bU hUs
    go_wp2_with fail
    rw [HU.out]
    clear k4' x0' x1'
    refine CW.out.mono ?_
    rintro e u3 ⟨N, nc, sn, rfl, hmn, on, apn, y3⟩
    have T3 := HT1.out.call y3
    have hus3 := y3.size
    have q4 := cell_of_one T3.H
    have f4 := free_of_one T3.H
    have on := on.weak (B' := w.heap.size + 1) (by have := HUS.out; omega)
    have hx9 := heap_setCell_same u3 u1.heap.size 0 _ _ (.slice N sn.length nc) T3.H
    have T9 : Hid (WO w (u3.setCell ⟨u1.heap.size, 0, none⟩ (.slice N sn.length nc)) u1.heap.size N nc sn) :=
      ⟨on.put T3.H (by decide) (by decide) 0 _, by simpa using hx9, (heap_set_ne u3 u1.heap.size _ _ (by omega)).trans T3.Z, T3.B.setCell (p := ⟨u1.heap.size, 0, none⟩) (by show _ ≤ u1.heap.size; omega) _, hg1⟩
    have q2 := cell_of_one T9.out.Z
    have f2 := free_of_one T9.out.Z
    have HMN := Lib.hid hmn
    have HAN := Lib.hid apn
    clear T3 on hx9 x0 x1 y0 y1 k4 CW HT1 y3 hmn apn
    obtain ⟨R1, R2⟩ := R
    cases R2 with
    | false =>
      have eV : V = ([], false) := hgo.out
      have RR : Hid (NewXB w V (.returned (.tuple #[.agg #[.slice none 0 0], .bool false])) ((u3.setCell ⟨u1.heap.size, 0, none⟩ (.slice N sn.length nc)).setCell ⟨w.heap.size, 0, none⟩ (.slice none 0 0))) := by
        refine ⟨none, 0, [], by rw [eV]; rfl, by rw [eV]; rfl, ⟨World.ownsRow_nil _ _ _ _, fun s hs => by cases hs⟩, ApartW.nil, T9.out.B.setCell (p := ⟨w.heap.size, 0, none⟩) (by show _ ≤ w.heap.size; omega) _⟩
      clear T9 hgo eV HMN
      go_wp2
      simp [bodyPost, results, Try.results27, go_sem, q2]
      exact RR.out
    | true =>
      have eV : Hid (wheelGo (l.drop (k + 1)) (sn.map (fun s => s.l)) = V) := by show _ = _; rw [HMN.out]; exact hgo.out.symm
      have H9 : Hid (sn.length = 9 ∧ (allPn sn).length ≤ 10) := by
        have h1 := HOK.out rfl
        have h2 := HMN.out
        refine ⟨by have := congrArg List.length h2; simp at this; have h3 := h1.2; simp only at h3; omega, ?_⟩
        rw [← ls_flat, h2]; exact h1.1
      have HF2 : Hid (FitL (sn.map fun s => s.l)) := by show FitL _; rw [HMN.out]; exact HFR.out
      clear hgo HMN HOK HFR q2 f2
      go_wp2
      go_roundw
      case rel => exact ⟨k + 1, N, nc, sn, by omega, by go_num, eV, H9, HF2, HAN, T9⟩
      case measure => simp [intOf]; omega
end Go.Proofs.Ytflomkebgiemaaa
