/- The order of pins; slices.Clone, earliest; copiedWheel, WheelNew of the program. -/
import Derived.Test.YtdjglbmcpfaofaaRows
import Derived.Test.YtdjglbmcpfaofaaWhMa
import Derived.Test.YtdjglbmcpfaofaaCmpI
import Derived.Lib.AppendZeros
import Derived.Lib.BufferMore
namespace Go.Proofs.Ytdjglbmcpfaofaa
open Go.RowKit
set_option linter.unusedSimpArgs false
set_option linter.unusedVariables false
set_option maxRecDepth 100000 in
theorem exec_fldPn {ρ : Operand → Value} {o : Oper} {x : Operand} (b off f : Nat) (w : World) (hf : f < 2) (ho : o.op = .fieldAddr 70 x f := by rfl) (hx : ρ x = .pointer (some ⟨b, off, none⟩) := by rfl) :
    (execOp ρ o).run Try.prog w = .ok (.value (.pointer (some ⟨b, off + f, none⟩))) w := by
  unfold execOp
  rw [ho]
  match f, hf with
  | 0, _ | 1, _ => simp [go_sem, hx]
instance (x : Pn) : Decidable x.inn := by unfold Pn.inn; infer_instance
/-- The order of pins as a number. -/
def ordP (a b : Pn) : Int := orV (cmpV a.at_ b.at_) (cmpV a.id b.id)
set_option maxRecDepth 100000 in
set_option maxHeartbeats 1600000 in
theorem pinOrder_im (a b : Pn) (w : World) : Calls Try.prog 47 #[pnA a, pnA b] w fun e w' => e = .returned (.int .i64 (ordP a b)) ∧ Below w.heap.size w w' := by
  obtain ⟨W, hW⟩ : ∃ W, (w.alloc (.cells #[.int .i64 a.at_, .int .i64 a.id] 70)).alloc (.cells #[.int .i64 b.at_, .int .i64 b.id] 70) = W := ⟨_, rfl⟩
  have b0 : Hid (Below w.heap.size w W) := by
    show Below _ _ _
    rw [← hW]; exact ((Below.refl _ _).alloc (Nat.le_refl _) _).alloc (by simp) _
  have hWs : W.heap.size = w.heap.size + 2 := by rw [← hW]; simp
  have g1 : W.heap[w.heap.size]? = some (.cells #[.int .i64 a.at_, .int .i64 a.id] 70) := by rw [← hW]; exact blk_alloc (heap_new _ _) _
  have g2 : W.heap[w.heap.size + 1]? = some (.cells #[.int .i64 b.at_, .int .i64 b.id] 70) := by
    rw [← hW]
    have := heap_new (w.alloc (.cells #[.int .i64 a.at_, .int .i64 a.id] 70)) (.cells #[.int .i64 b.at_, .int .i64 b.id] 70)
    simpa using this
  have HA := Lib.hid (fun w' (h : Below W.heap.size W w') => Pn.here.blk (blk_call g1 h))
  have HB := Lib.hid (fun w' (h : Below W.heap.size W w') => Pn.here.blk (blk_call g2 h))
  clear g1 g2
  unfold pnA
  go_enter Try.func47, Try.ntmps47
  go_wp2_with fail
  clear hW
  refine wp_region_held_drew (S := fun w' => Hid (Below W.heap.size W w')) (by kernel_rfl) (below_drawn (Below.refl _ _) 1) (fun hHeld => ?_)
  refine held_take 0 5 (.pointer (some ⟨w.heap.size, 0, none⟩)) rfl rfl (by kernel_rfl) (by kernel_rfl) (by kernel_rfl) (fun _ _ _ h => h) rfl hHeld (fun w _ => exec_fldPn _ 0 0 w (by omega)) ?_
  refine held_take 1 6 (.int .i64 a.at_) rfl rfl (by kernel_rfl) (by kernel_rfl) (by kernel_rfl) (fun _ _ _ h => h) rfl hHeld (fun w h => exec_load1 3 _ 0 _ w (.inl rfl) (HA.out w h.out).1) ?_
  simp only [Act.put, List.setIfInBounds_toArray, List.set_cons_zero, List.set_cons_succ]
  refine held_take 2 7 (.pointer (some ⟨w.heap.size + 1, 0, none⟩)) rfl rfl (by kernel_rfl) (by kernel_rfl) (by kernel_rfl) (fun _ _ _ h => h) rfl hHeld (fun w _ => exec_fldPn _ 0 0 w (by omega)) ?_
  refine held_take 3 8 (.int .i64 b.at_) rfl rfl (by kernel_rfl) (by kernel_rfl) (by kernel_rfl) (fun _ _ _ h => h) rfl hHeld (fun w h => exec_load1 3 _ 0 _ w (.inl rfl) (HB.out w h.out).1) ?_
  simp only [Act.put, List.setIfInBounds_toArray, List.set_cons_zero, List.set_cons_succ]
  refine held_take 5 10 (.pointer (some ⟨w.heap.size, 1, none⟩)) rfl rfl (by kernel_rfl) (by kernel_rfl) (by kernel_rfl) (fun _ _ _ h => h) rfl hHeld (fun w _ => exec_fldPn _ 0 1 w (by omega)) ?_
  refine held_take 6 11 (.int .i64 a.id) rfl rfl (by kernel_rfl) (by kernel_rfl) (by kernel_rfl) (fun _ _ _ h => h) rfl hHeld (fun w h => exec_load1 3 _ 1 _ w (.inl rfl) (HA.out w h.out).2) ?_
  simp only [Act.put, List.setIfInBounds_toArray, List.set_cons_zero, List.set_cons_succ]
  refine held_take 7 12 (.pointer (some ⟨w.heap.size + 1, 1, none⟩)) rfl rfl (by kernel_rfl) (by kernel_rfl) (by kernel_rfl) (fun _ _ _ h => h) rfl hHeld (fun w _ => exec_fldPn _ 0 1 w (by omega)) ?_
  refine held_take 8 13 (.int .i64 b.id) rfl rfl (by kernel_rfl) (by kernel_rfl) (by kernel_rfl) (fun _ _ _ h => h) rfl hHeld (fun w h => exec_load1 3 _ 1 _ w (.inl rfl) (HB.out w h.out).2) ?_
  simp only [Act.put, List.setIfInBounds_toArray, List.set_cons_zero, List.set_cons_succ]
  refine held_call 4 9 83 #[.int .i64 a.at_, .int .i64 b.at_] rfl rfl (by kernel_rfl) rfl (exec_call Try.func83 (by kernel_rfl) (by kernel_rfl) _) ?_
  refine (compare_im _ _ _).mono ?_
  rintro e u ⟨rfl, rfl⟩
  refine ⟨_, rfl, hHeld, ?_⟩
  simp only [Act.put, List.setIfInBounds_toArray, List.set_cons_zero, List.set_cons_succ]
  refine held_call 9 14 83 #[.int .i64 a.id, .int .i64 b.id] rfl rfl (by kernel_rfl) rfl (exec_call Try.func83 (by kernel_rfl) (by kernel_rfl) _) ?_
  refine (compare_im _ _ _).mono ?_
  rintro e u ⟨rfl, rfl⟩
  refine ⟨_, rfl, hHeld, ?_⟩
  have k1 := hHeld.out.alloc hHeld.out.size (.cells #[.int .i64 (cmpV a.at_ b.at_), .int .i64 (cmpV a.id b.id)] 3)
  simp only [Act.put, List.setIfInBounds_toArray, List.set_cons_zero, List.set_cons_succ]
  refine held_op 10 15 (.slice (some ⟨W.drew.heap.size, 0, none⟩) 2 2) rfl rfl (by kernel_rfl) rfl (exec_two_int _ _ _) (Lib.hid k1) ?_
  simp only [Act.put, List.setIfInBounds_toArray, List.set_cons_zero, List.set_cons_succ]
  refine held_call 11 16 82 #[.slice (some ⟨W.drew.heap.size, 0, none⟩) 2 2] rfl rfl (by kernel_rfl) rfl (exec_call Try.func82 (by kernel_rfl) (by kernel_rfl) _) ?_
  refine (or_im _ 0 _ _ _ (cell_new2 _ _ _ _ 0 (by omega)) (cell_new2 _ _ _ _ 1 (by omega))).mono ?_
  rintro e u ⟨rfl, rfl⟩
  refine ⟨_, rfl, Lib.hid k1, ?_⟩
  simp only [Act.put, List.setIfInBounds_toArray, List.set_cons_zero, List.set_cons_succ]
  refine held_op 12 4 (.int .i64 (orV (cmpV a.at_ b.at_) (cmpV a.id b.id))) rfl rfl (by kernel_rfl) rfl rfl (Lib.hid k1) ?_
  simp only [Act.put, List.setIfInBounds_toArray, List.set_cons_zero, List.set_cons_succ]
  refine wpAnyH_done (by kernel_rfl) ?_ _
  go_wp2
  go_ret
  exact ⟨rfl, b0.out.trans (k1.mono b0.out.size)⟩
theorem ordP_less (a b : Pn) : decide (ordP a b < 0) = decide (Pn.less a b) := by
  unfold ordP orV cmpV Pn.less
  by_cases h1 : a.at_ < b.at_
  · simp [h1]
  · by_cases h2 : b.at_ < a.at_
    · have h3 : ¬ a.at_ = b.at_ := by omega
      simp [h1, h2, h3]
    · have h3 : a.at_ = b.at_ := by omega
      by_cases h4 : a.id < b.id
      · simp [h3, h4]
      · by_cases h5 : b.id < a.id
        · simp [h3, h4, h5]
        · simp [h3, h4, h5]
set_option maxRecDepth 100000 in
set_option maxHeartbeats 800000 in
theorem pinOk_im (x : Pn) (w : World) : Calls Try.prog 124 #[pnA x] w fun e w' => e = .returned (.bool (decide x.inn)) ∧ Below w.heap.size w w' := by
  have b0 : Hid (Below w.heap.size w (w.alloc (.cells #[.int .i64 x.at_, .int .i64 x.id] 70))) := (Below.refl _ _).alloc (Nat.le_refl _) _
  unfold pnA
  by_cases h0 : 1 ≤ x.at_ ∧ x.at_ ≤ 1000008
  rotate_left
  · have HF : Hid (decide x.inn = false) := decide_eq_false (fun h => h0 h.1)
    go_enter Try.func124, Try.ntmps124
    go_wp2_with (go_at_call 79; first | (refine (within_yes _ _ _ _ (by omega)).mono ?_; rintro e w' ⟨rfl, rfl⟩) | (refine (within_no _ _ _ _ (by omega)).mono ?_; rintro e w' ⟨rfl, rfl⟩))
    go_ret
    exact ⟨by rw [HF.out] <;> rfl, b0.out⟩
  by_cases h1 : 1 ≤ x.id ∧ x.id ≤ 999
  rotate_left
  · have HF : Hid (decide x.inn = false) := decide_eq_false (fun h => h1 h.2)
    go_enter Try.func124, Try.ntmps124
    go_wp2_with (go_at_call 79; first | (refine (within_yes _ _ _ _ (by omega)).mono ?_; rintro e w' ⟨rfl, rfl⟩) | (refine (within_no _ _ _ _ (by omega)).mono ?_; rintro e w' ⟨rfl, rfl⟩))
    go_ret
    exact ⟨by rw [HF.out] <;> rfl, b0.out⟩
  · have HF : Hid (decide x.inn = true) := decide_eq_true ⟨h0, h1⟩
    go_enter Try.func124, Try.ntmps124
    go_wp2_with (go_at_call 79; first | (refine (within_yes _ _ _ _ (by omega)).mono ?_; rintro e w' ⟨rfl, rfl⟩) | (refine (within_no _ _ _ _ (by omega)).mono ?_; rintro e w' ⟨rfl, rfl⟩))
    go_ret
    exact ⟨by rw [HF.out] <;> rfl, b0.out⟩
set_option maxRecDepth 100000 in
set_option maxHeartbeats 800000 in
theorem spokeOf_im (x : Pn) (w : World) : Calls Try.prog 125 #[pnA x] w fun e w' => e = .returned (.int .i64 (x.at_.tmod 9)) ∧ Below w.heap.size w w' := by
  have b0 : Hid (Below w.heap.size w (w.alloc (.cells #[.int .i64 x.at_, .int .i64 x.id] 70))) := (Below.refl _ _).alloc (Nat.le_refl _) _
  have h1 : -9 < x.at_.tmod 9 ∧ x.at_.tmod 9 < 9 := ⟨Int.lt_tmod_of_pos _ (by omega), Int.tmod_lt_of_pos _ (by omega)⟩
  have h2 : IntKind.i64.wrap (x.at_.tmod 9) = x.at_.tmod 9 := by rw [IntKind.wrap_i64]; omega
  unfold pnA
  go_enter Try.func125, Try.ntmps125
  go_wp2
  go_ret
  refine ⟨?_, b0.out⟩
  first | rfl | (rw [h2]; rfl) | simp [h2]
set_option maxRecDepth 100000 in
theorem exec_one_spk {ρ : Operand → Value} {o : Oper} {y : Operand} (s : Sp) (w : World) (ho : o.op = .buildSlice 34 1 #[(0, y)] := by rfl) (hy : ρ y = .slice s.a s.l.length s.c := by rfl) :
    (execOp ρ o).run Try.prog w = .ok (.value (.slice (some ⟨w.heap.size, 0, none⟩) 1 1)) (w.alloc (.cells #[.slice s.a s.l.length s.c] 29)) := by
  unfold execOp
  rw [ho]
  simp [go_sem, hy]
theorem made_one (v : Value) (hv : v.cells = #[v]) (n : Nat) : (madeCells v.cells n).toList = List.replicate n v := by
  rw [hv]
  refine List.ext_getElem (by simp [madeCells]) ?_
  intro i h1 h2
  simp [madeCells, Nat.mod_one]
set_option maxRecDepth 100000 in
set_option maxHeartbeats 1600000 in
theorem wheelNew_impl (w : World) : Calls Try.prog 52 #[] w (NewX w nineW) := by
  obtain ⟨i0, hi, hz0, hz1, hz2⟩ := info_parts rowSpk.inf
  have b0 : Below w.heap.size w (w.alloc (.cells #[.slice none 0 0] 36)) := (Below.refl _ _).alloc (Nat.le_refl _) _
  obtain ⟨u, hu⟩ : ∃ u, w.alloc (.cells #[.slice none 0 0] 36) = u := ⟨_, rfl⟩
  have g0 : u.heap[w.heap.size]? = some (.cells #[.slice none 0 0] 36) := by rw [← hu]; exact heap_new _ _
  have hus : u.heap.size = w.heap.size + 1 := by rw [← hu]; simp
  rw [hu] at b0
  have HU := Lib.hid hu
  clear hu
  obtain ⟨w1, hmk, o1, g1⟩ := run_make_full (P := Try.prog) u u.heap.size 34 29 i0 _ 1 Try.underlying34 hi hz0 hz1 .i64 .i64 9 (by rw [hz2]; omega) (by unfold maxLen; omega) (Nat.le_refl _)
  have b1 : Below u.heap.size u w1 := (Below.refl _ _).grown g1 (Nat.le_refl _) (fun k hk => by cases hk)
  have hcells : (madeCells (Value.cells (.slice none 0 0)) (9 * 1)).toList = (List.replicate 9 sp0).flatMap spC := by rw [made_one _ rfl]; rfl
  rw [hcells] at o1
  have gw := blk_call g0 b1
  have hc := cell_of_one gw
  have hz := free_of_one gw
  have hO : OwnW w1 u.heap.size (some ⟨u.heap.size, 0, none⟩) 9 (List.replicate 9 sp0) := ⟨o1, fun s hs => by have := List.eq_of_mem_replicate hs; subst this; exact World.ownsRow_nil _ _ _ _⟩
  have R : Hid (NewX w nineW (.returned (.agg #[.slice (some ⟨u.heap.size, 0, none⟩) 9 9])) (w1.setCell ⟨w.heap.size, 0, none⟩ (.slice (some ⟨u.heap.size, 0, none⟩) 9 9))) :=
    ⟨_, _, List.replicate 9 sp0, by simp, rfl, (hO.put gw (by decide) (by decide) 0 _).weak (by omega), (fun i j _ hj g h1 => by
      rw [List.length_replicate] at hj
      have : (List.replicate 9 sp0).getD i sp0 = sp0 := by simp only [List.getD_eq_getElem?_getD, List.getElem?_replicate]; split <;> rfl
      rw [this] at h1; cases h1), (b0.trans (b1.mono (by omega))).setCell (p := ⟨w.heap.size, 0, none⟩) (Nat.le_refl _) _⟩
  clear hi hz0 hz1 hz2 g1 hcells hO o1 gw g0 b0
  have hus2 := Lib.hid hus
  replace hmk : Sem.run Try.prog (Instr.makeSlice 34 (.int .i64 9) (.int .i64 9)) u = .ok (.slice (some ⟨u.heap.size, 0, none⟩) 9 9) w1 := hmk
  generalize u.heap.size = G at *
  clear hus
  go_enter Try.func52, Try.ntmps52
  go_wp2_with fail
  rw [HU.out]
  go_wp2
  rw [hmk]
  go_wp2
  have hq : (w1.setCell ⟨w.heap.size, 0, none⟩ (.slice (some ⟨G, 0, none⟩) 9 9)).cell? ⟨w.heap.size, 0, none⟩ = some (.slice (some ⟨G, 0, none⟩) 9 9) := World.cell?_setCell_same _ _ _ hc
  simp [bodyPost, results, Try.results52, go_sem, hq]
  exact R.out
set_option maxRecDepth 100000 in
set_option maxHeartbeats 1600000 in
theorem cloneS_im (b off : Nat) (sp : List Sp) (c : Nat) (w : World) (h0 : 0 < sp.length) (hn : sp.length ≤ 1048577) (hA : Rws w w.heap.size (some ⟨b, off, none⟩) (sp.flatMap spC)) :
    Calls Try.prog 156 #[.slice (some ⟨b, off, none⟩) sp.length c] w fun e w' => ∃ c', e = .returned (.slice (some ⟨w.heap.size + 1, 0, none⟩) sp.length c') ∧ w'.ownsRow w.heap.size 29 1 (.slice (some ⟨w.heap.size + 1, 0, none⟩) sp.length c') sp.length (sp.flatMap spC) ∧ Below w.heap.size w w' := by
  obtain ⟨i0, hi, hz0, hz1, hz2⟩ := info_parts rowSpk.inf
  obtain ⟨W, hW⟩ : ∃ W, w.alloc (.cells #[] 29) = W := ⟨_, rfl⟩
  have b0 : Below w.heap.size w W := by rw [← hW]; exact (Below.refl _ _).alloc (Nat.le_refl _) _
  have hWs : W.heap.size = w.heap.size + 1 := by rw [← hW]; simp
  have hlen : (sp.flatMap spC).length = sp.length := spC_flat_len sp
  have hcell : ∀ j v, (sp.flatMap spC)[j]? = some v → W.cell? ((⟨b, off, none⟩ : Addr).add j) = some v := fun j v hj => by
    have hjl : j < (sp.flatMap spC).length := by
      rcases Nat.lt_or_ge j (sp.flatMap spC).length with h | h
      · exact h
      · rw [List.getElem?_eq_none h] at hj; cases hj
    rcases hA.below b0 with h | ⟨b', off', e1, _, hc⟩
    · rw [h] at hj; simp at hj
    · injection e1 with e1; injection e1 with e1 e2; subst e1 e2
      rw [add_at, hc j hjl]; exact hj
  have hfit : Builtin.nextslicecap (0 + sp.length) 0 * i0.bytes ≤ 281474976710656 := growslice_fits (by omega) (by rw [hz2]; omega)
  have hr := fun ty => run_append_grow (P := Try.prog) W 34 ty 29 i0 _ rowSpk.ut hi hz0 ⟨w.heap.size, 0, none⟩ 0 0 [] (by simp) (fun j v h => by simp at h) ⟨b, off, none⟩ sp.length c (sp.flatMap spC) (by rw [hz1, hlen]; omega) hcell (by omega) (by omega) hfit
  simp only [Nat.zero_add] at hr
  have hge := grownCap_ge W sp.length 0 29
  have hm : grownCap W sp.length 0 29 ≤ maxLen := grownCap_le_maxLen _ _ _ _ (by unfold maxLen; omega)
  rw [hWs] at hr
  obtain ⟨CS, hCS⟩ : ∃ CS : Array Value, (([] : List Value).toArray ++ (sp.flatMap spC).toArray ++ Builtin.zeroCells (Value.slice none 0 0).cells (grownCap W sp.length 0 29 - sp.length)) = CS := ⟨_, rfl⟩
  rw [hCS] at hr
  obtain ⟨V, hV⟩ : ∃ V, (W.drew.alloc (.cells CS 29)) = V := ⟨_, rfl⟩
  have hB : Below w.heap.size w V := by rw [← hV]; exact b0.trans (((Below.refl _ W).drew.alloc (by simp; omega) _))
  have hO : V.ownsRow w.heap.size 29 1 (.slice (some ⟨w.heap.size + 1, 0, none⟩) sp.length (grownCap W sp.length 0 29)) sp.length (sp.flatMap spC) := by
    refine ⟨by rw [hlen]; omega, .inr ⟨w.heap.size + 1, _, CS, rfl, by omega, ?_, hge, hm, ?_, ?_⟩⟩
    · rw [← hV, ← hWs]; exact heap_alloc_new W.drew _
    · rw [← hCS]
      simp only [Array.size_append, List.size_toArray, size_zeroCells, hlen, List.length_nil]
      show 0 + sp.length + (grownCap W sp.length 0 29 - sp.length) * 1 = _
      omega
    · rw [← hCS]
      simp only [Array.toList_append, List.nil_append, Nat.mul_one]
      rw [← hlen]
      exact List.take_left
  rw [hV] at hr
  rw [← hW] at hO
  have R : Hid (∃ c', (Ending.returned (.slice (some ⟨w.heap.size + 1, 0, none⟩) sp.length (grownCap (w.alloc (.cells #[] 29)) sp.length 0 29))) = .returned (.slice (some ⟨w.heap.size + 1, 0, none⟩) sp.length c') ∧ V.ownsRow w.heap.size 29 1 (.slice (some ⟨w.heap.size + 1, 0, none⟩) sp.length c') sp.length (sp.flatMap spC) ∧ Below w.heap.size w V) := ⟨_, rfl, hO, hB⟩
  rw [← hW] at hr
  have HR := Lib.hid hr
  clear hr hO hB hV hCS hm hge hfit hcell hi hz0 hz1 hz2 b0 hW
  generalize grownCap (w.alloc (.cells #[] 29)) sp.length 0 29 = G at *
  have hnil : ∀ W, (binOp .eql 34 (.slice (some ⟨b, off, none⟩) sp.length c) (.slice none 0 0)).run Try.prog W = .ok (.bool false) W := fun W => Lib.run_eql_slice_some_nil W _ _ _ Try.underlying34
  go_enter Try.func156, Try.ntmps156
  go_wp2_with (at_builtin; refine Lib.wpList_append_run _ rfl _ _ _ _ rfl _ _ rfl rfl _ _ (HR.out _) ?_)
  go_ret
  exact R.out
/-- The head of a spoke. -/
def hdP (lf : List Sp) (k : Nat) : Pn := (lf.getD k sp0).l.getD 0 pn0
/-- Which spoke earliest names after k of them. -/
def bestF (lf : List Sp) : Nat → Int
  | 0 => -1
  | k + 1 => if 0 < (lf.getD k sp0).l.length ∧ (bestF lf k < 0 ∨ Pn.less (hdP lf k) (hdP lf (bestF lf k).toNat)) then (k : Int) else bestF lf k
theorem bestF_ok (lf : List Sp) : ∀ k, (bestF lf k = -1 ∧ ∀ j, j < k → (lf.getD j sp0).l = []) ∨
    (∃ b : Nat, bestF lf k = (b : Int) ∧ b < k ∧ 0 < (lf.getD b sp0).l.length ∧ ∀ j, j < k → 0 < (lf.getD j sp0).l.length → ¬ Pn.less (hdP lf j) (hdP lf b)) := by
  intro k
  induction k with
  | zero => exact .inl ⟨rfl, fun j hj => by omega⟩
  | succ k ih =>
    unfold bestF
    by_cases h0 : 0 < (lf.getD k sp0).l.length
    · rcases ih with ⟨e, hall⟩ | ⟨b, e, hb, hl, hall⟩
      · rw [if_pos ⟨h0, .inl (by rw [e]; omega)⟩]
        refine .inr ⟨k, rfl, by omega, h0, fun j hj hjl => ?_⟩
        by_cases hjk : j = k
        · subst hjk; exact fun h => less_irrefl h
        · have := hall j (by omega); rw [this] at hjl; simp at hjl
      · by_cases hl2 : Pn.less (hdP lf k) (hdP lf (bestF lf k).toNat)
        · rw [if_pos ⟨h0, .inr hl2⟩]
          rw [e, Int.toNat_natCast] at hl2
          refine .inr ⟨k, rfl, by omega, h0, fun j hj hjl => ?_⟩
          by_cases hjk : j = k
          · subst hjk; exact fun h => less_irrefl h
          · exact fun h => hall j (by omega) hjl (less_trans h hl2)
        · rw [if_neg (by rintro ⟨_, h | h⟩; · rw [e] at h; omega
                         · exact hl2 h)]
          rw [e, Int.toNat_natCast] at hl2
          refine .inr ⟨b, e, by omega, hl, fun j hj hjl => ?_⟩
          by_cases hjk : j = k
          · subst hjk; exact hl2
          · exact hall j (by omega) hjl
    · rw [if_neg (fun h => h0 h.1)]
      rcases ih with ⟨e, hall⟩ | ⟨b, e, hb, hl, hall⟩
      · refine .inl ⟨e, fun j hj => ?_⟩
        by_cases hjk : j = k
        · subst hjk; exact List.eq_nil_of_length_eq_zero (by omega)
        · exact hall j (by omega)
      · refine .inr ⟨b, e, by omega, hl, fun j hj hjl => ?_⟩
        by_cases hjk : j = k
        · subst hjk; omega
        · exact hall j (by omega) hjl
set_option maxRecDepth 100000 in
set_option maxHeartbeats 3200000 in
theorem earliest_im (A : Option Addr) (lf : List Sp) (c : Nat) (w : World) (hn : lf.length ≤ 1048577) (hR : Rws w w.heap.size A (lf.flatMap spC)) (hs : ∀ s ∈ lf, Rws w w.heap.size s.a (s.l.flatMap pnC)) :
    Calls Try.prog 157 #[.slice A lf.length c] w fun e w' => e = .returned (.int .i64 (bestF lf lf.length)) ∧ Below w.heap.size w w' := by
  have HR := Lib.hid hR
  have HS := Lib.hid hs
  clear hR hs
  go_enter Try.func157, Try.ntmps157
  go_wp2
  go_loopw [3, 8] (fun best i wr => ∃ k : Nat, k ≤ lf.length ∧ i = .int .i64 k ∧ best = .int .i64 (bestF lf k) ∧ Hid (Below w.heap.size w wr)) (fun _ i _ => lf.length - (intOf i).toNat)
  case atStart => exact ⟨0, by omega, rfl, rfl, Below.refl _ _⟩
  case round =>
    obtain ⟨k, hk, rfl, rfl, hb⟩ := hrel
    by_cases hlt : k < lf.length
    · have HRr := Lib.hid (rws_below HR.out hb.out)
      obtain ⟨b, off, rfl, hbB, hc⟩ := HRr.out.sp hlt
      have HB := Lib.hid (bestF_ok lf k)
      have HE : Hid (bestF lf (k + 1) = if 0 < (lf.getD k sp0).l.length ∧ (bestF lf k < 0 ∨ Pn.less (hdP lf k) (hdP lf (bestF lf k).toNat)) then (k : Int) else bestF lf k) := rfl
      have hrow := rws_below (HS.out _ (getD_mem lf k sp0 hlt)) hb.out
      have HX : Hid (hdP lf k = (lf.getD k sp0).l.getD 0 pn0) := rfl
      obtain ⟨s, es⟩ : ∃ s, lf.getD k sp0 = s := ⟨_, rfl⟩
      rw [es] at hc HE hrow HX
      clear es
      obtain ⟨sa, sc, sl⟩ := s
      simp only at hc HE hrow HX
      have hJ : -1 ≤ bestF lf k := by rcases HB.out with ⟨h, _⟩ | ⟨q, h, _⟩ <;> omega
      obtain ⟨J, eJ⟩ : ∃ J, bestF lf k = J := ⟨_, rfl⟩
      rw [eJ] at HE HB hJ
      by_cases h0 : 0 < sl.length
      rotate_left
      · have HV : Hid (bestF lf (k + 1) = J) := by show _ = _; rw [HE.out, if_neg (fun h => h0 h.1)]
        clear HE HB hrow HX
        go_wp2_with fail
        rw [eJ]
        refine wp_region_held_drew (S := fun w' => Hid (Below wr.heap.size wr w')) (by kernel_rfl) (below_drawn (Below.refl _ _) 1) (fun hHeld => ?_)
        refine held_take 0 13 (.slice sa sl.length sc) rfl rfl (by kernel_rfl) (by kernel_rfl) (by kernel_rfl) (fun _ _ _ h => h) rfl hHeld (fun w _ => rfl) ?_
        refine held_take 1 14 (.int .i64 (sl.length : Nat)) rfl rfl (by kernel_rfl) (by kernel_rfl) (by kernel_rfl) (fun _ _ _ h => h) rfl hHeld (fun w _ => exec_lenT rowPin _ _ _ w) ?_
        refine held_take 2 15 (.bool false) rfl rfl (by kernel_rfl) (by kernel_rfl) (by kernel_rfl) (fun _ _ _ h => h) rfl hHeld (fun w _ => exec_gtrI ((sl.length : Nat) : Int) 0 _ w (decide_eq_false (by omega))) ?_
        simp only [Act.put, List.setIfInBounds_toArray, List.set_cons_zero, List.set_cons_succ]
        refine held_take 3 16 (.bool false) rfl rfl (by kernel_rfl) (by kernel_rfl) (by kernel_rfl) (fun _ _ _ h => h) rfl hHeld (fun w _ => rfl) ?_
        refine held_skip 4 17 rfl rfl (by kernel_rfl) (by kernel_rfl) (by kernel_rfl) (fun _ _ _ h => h) rfl hHeld ?_
        simp only [Act.put, List.setIfInBounds_toArray, List.set_cons_zero, List.set_cons_succ]
        refine held_skip 5 18 rfl rfl (by kernel_rfl) (by kernel_rfl) (by kernel_rfl) (fun _ _ _ h => h) rfl hHeld ?_
        refine held_skip 6 19 rfl rfl (by kernel_rfl) (by kernel_rfl) (by kernel_rfl) (fun _ _ _ h => h) rfl hHeld ?_
        simp only [Act.put, List.setIfInBounds_toArray, List.set_cons_zero, List.set_cons_succ]
        refine held_skip 7 20 rfl rfl (by kernel_rfl) (by kernel_rfl) (by kernel_rfl) (fun _ _ _ h => h) rfl hHeld ?_
        refine held_skip 8 21 rfl rfl (by kernel_rfl) (by kernel_rfl) (by kernel_rfl) (fun _ _ _ h => h) rfl hHeld ?_
        simp only [Act.put, List.setIfInBounds_toArray, List.set_cons_zero, List.set_cons_succ]
        refine held_skip 9 22 rfl rfl (by kernel_rfl) (by kernel_rfl) (by kernel_rfl) (fun _ _ _ h => h) rfl hHeld ?_
        refine held_skip 10 23 rfl rfl (by kernel_rfl) (by kernel_rfl) (by kernel_rfl) (fun _ _ _ h => h) rfl hHeld ?_
        simp only [Act.put, List.setIfInBounds_toArray, List.set_cons_zero, List.set_cons_succ]
        refine held_skip 11 24 rfl rfl (by kernel_rfl) (by kernel_rfl) (by kernel_rfl) (fun _ _ _ h => h) rfl hHeld ?_
        refine held_skip 12 25 rfl rfl (by kernel_rfl) (by kernel_rfl) (by kernel_rfl) (fun _ _ _ h => h) rfl hHeld ?_
        simp only [Act.put, List.setIfInBounds_toArray, List.set_cons_zero, List.set_cons_succ]
        refine held_skip 13 26 rfl rfl (by kernel_rfl) (by kernel_rfl) (by kernel_rfl) (fun _ _ _ h => h) rfl hHeld ?_
        refine held_skip 14 27 rfl rfl (by kernel_rfl) (by kernel_rfl) (by kernel_rfl) (fun _ _ _ h => h) rfl hHeld ?_
        simp only [Act.put, List.setIfInBounds_toArray, List.set_cons_zero, List.set_cons_succ]
        refine held_skip 15 28 rfl rfl (by kernel_rfl) (by kernel_rfl) (by kernel_rfl) (fun _ _ _ h => h) rfl hHeld ?_
        refine held_skip 16 29 rfl rfl (by kernel_rfl) (by kernel_rfl) (by kernel_rfl) (fun _ _ _ h => h) rfl hHeld ?_
        simp only [Act.put, List.setIfInBounds_toArray, List.set_cons_zero, List.set_cons_succ]
        refine held_skip 17 30 rfl rfl (by kernel_rfl) (by kernel_rfl) (by kernel_rfl) (fun _ _ _ h => h) rfl hHeld ?_
        refine held_skip 18 31 rfl rfl (by kernel_rfl) (by kernel_rfl) (by kernel_rfl) (fun _ _ _ h => h) rfl hHeld ?_
        simp only [Act.put, List.setIfInBounds_toArray, List.set_cons_zero, List.set_cons_succ]
        refine held_take 19 32 (.bool false) rfl rfl (by kernel_rfl) (by kernel_rfl) (by kernel_rfl) (fun _ _ _ h => h) rfl hHeld (fun w _ => exec_pickF _ w) ?_
        refine wpAnyH_done (by kernel_rfl) ?_ _

        have BF := Lib.hid (hb.out.trans (hHeld.out.mono hb.out.size))
        clear hHeld
        go_wp2
        go_roundw
        case rel => exact ⟨k + 1, by omega, by go_num, by rw [HV.out], BF⟩
        case measure => simp [intOf]; omega

      by_cases hj0 : J < 0
      · have HV : Hid (bestF lf (k + 1) = k) := by show _ = _; rw [HE.out, if_pos ⟨h0, .inl hj0⟩]
        clear HE HB hrow HX
        go_wp2_with fail
        rw [eJ]
        refine wp_region_held_drew (S := fun w' => Hid (Below wr.heap.size wr w')) (by kernel_rfl) (below_drawn (Below.refl _ _) 1) (fun hHeld => ?_)
        refine held_take 0 13 (.slice sa sl.length sc) rfl rfl (by kernel_rfl) (by kernel_rfl) (by kernel_rfl) (fun _ _ _ h => h) rfl hHeld (fun w _ => rfl) ?_
        refine held_take 1 14 (.int .i64 (sl.length : Nat)) rfl rfl (by kernel_rfl) (by kernel_rfl) (by kernel_rfl) (fun _ _ _ h => h) rfl hHeld (fun w _ => exec_lenT rowPin _ _ _ w) ?_
        refine held_take 2 15 (.bool true) rfl rfl (by kernel_rfl) (by kernel_rfl) (by kernel_rfl) (fun _ _ _ h => h) rfl hHeld (fun w _ => exec_gtrI ((sl.length : Nat) : Int) 0 _ w (decide_eq_true (by omega))) ?_
        simp only [Act.put, List.setIfInBounds_toArray, List.set_cons_zero, List.set_cons_succ]
        refine held_take 3 16 (.bool true) rfl rfl (by kernel_rfl) (by kernel_rfl) (by kernel_rfl) (fun _ _ _ h => h) rfl hHeld (fun w _ => rfl) ?_
        refine held_take 4 17 (.int .i64 J) rfl rfl (by kernel_rfl) (by kernel_rfl) (by kernel_rfl) (fun _ _ _ h => h) rfl hHeld (fun w _ => rfl) ?_
        refine held_take 5 18 (.bool true) rfl rfl (by kernel_rfl) (by kernel_rfl) (by kernel_rfl) (fun _ _ _ h => h) rfl hHeld (fun w _ => exec_lssI J 0 _ w (decide_eq_true (by omega))) ?_
        simp only [Act.put, List.setIfInBounds_toArray, List.set_cons_zero, List.set_cons_succ]
        refine held_take 6 19 (.bool true) rfl rfl (by kernel_rfl) (by kernel_rfl) (by kernel_rfl) (fun _ _ _ h => h) rfl hHeld (fun w _ => rfl) ?_
        refine held_skip 7 20 rfl rfl (by kernel_rfl) (by kernel_rfl) (by kernel_rfl) (fun _ _ _ h => h) rfl hHeld ?_
        simp only [Act.put, List.setIfInBounds_toArray, List.set_cons_zero, List.set_cons_succ]
        refine held_skip 8 21 rfl rfl (by kernel_rfl) (by kernel_rfl) (by kernel_rfl) (fun _ _ _ h => h) rfl hHeld ?_
        refine held_skip 9 22 rfl rfl (by kernel_rfl) (by kernel_rfl) (by kernel_rfl) (fun _ _ _ h => h) rfl hHeld ?_
        simp only [Act.put, List.setIfInBounds_toArray, List.set_cons_zero, List.set_cons_succ]
        refine held_skip 10 23 rfl rfl (by kernel_rfl) (by kernel_rfl) (by kernel_rfl) (fun _ _ _ h => h) rfl hHeld ?_
        refine held_skip 11 24 rfl rfl (by kernel_rfl) (by kernel_rfl) (by kernel_rfl) (fun _ _ _ h => h) rfl hHeld ?_
        simp only [Act.put, List.setIfInBounds_toArray, List.set_cons_zero, List.set_cons_succ]
        refine held_skip 12 25 rfl rfl (by kernel_rfl) (by kernel_rfl) (by kernel_rfl) (fun _ _ _ h => h) rfl hHeld ?_
        refine held_skip 13 26 rfl rfl (by kernel_rfl) (by kernel_rfl) (by kernel_rfl) (fun _ _ _ h => h) rfl hHeld ?_
        simp only [Act.put, List.setIfInBounds_toArray, List.set_cons_zero, List.set_cons_succ]
        refine held_skip 14 27 rfl rfl (by kernel_rfl) (by kernel_rfl) (by kernel_rfl) (fun _ _ _ h => h) rfl hHeld ?_
        refine held_skip 15 28 rfl rfl (by kernel_rfl) (by kernel_rfl) (by kernel_rfl) (fun _ _ _ h => h) rfl hHeld ?_
        simp only [Act.put, List.setIfInBounds_toArray, List.set_cons_zero, List.set_cons_succ]
        refine held_skip 16 29 rfl rfl (by kernel_rfl) (by kernel_rfl) (by kernel_rfl) (fun _ _ _ h => h) rfl hHeld ?_
        refine held_skip 17 30 rfl rfl (by kernel_rfl) (by kernel_rfl) (by kernel_rfl) (fun _ _ _ h => h) rfl hHeld ?_
        simp only [Act.put, List.setIfInBounds_toArray, List.set_cons_zero, List.set_cons_succ]
        refine held_take 18 31 (.bool true) rfl rfl (by kernel_rfl) (by kernel_rfl) (by kernel_rfl) (fun _ _ _ h => h) rfl hHeld (fun w _ => exec_pickT _ w) ?_
        refine held_take 19 32 (.bool true) rfl rfl (by kernel_rfl) (by kernel_rfl) (by kernel_rfl) (fun _ _ _ h => h) rfl hHeld (fun w _ => exec_pickT _ w) ?_
        refine wpAnyH_done (by kernel_rfl) ?_ _

        have BF := Lib.hid (hb.out.trans (hHeld.out.mono hb.out.size))
        clear hHeld
        go_wp2
        go_roundw
        case rel => exact ⟨k + 1, by omega, by go_num, by rw [HV.out], BF⟩
        case measure => simp [intOf]; omega

      · obtain ⟨j, ej, hjk, hjl, _⟩ : ∃ q : Nat, J = (q : Int) ∧ q < k ∧ 0 < (lf.getD q sp0).l.length ∧ ∀ i, i < k → 0 < (lf.getD i sp0).l.length → ¬ Pn.less (hdP lf i) (hdP lf q) := by
          rcases HB.out with ⟨h, _⟩ | h
          · omega
          · exact h
        have ej2 := ej
        rw [ej2] at HE eJ
        clear ej2
        clear ej HB hJ hj0 J
        rw [Int.toNat_natCast] at HE
        obtain ⟨b', off', e', _, hc2⟩ := HRr.out.sp (i := j) (by omega)
        obtain ⟨rfl, rfl⟩ : b' = b ∧ off' = off := by injection e' with e'; injection e' with e1 e2; exact ⟨e1.symm, e2.symm⟩
        have hrow2 := rws_below (HS.out _ (getD_mem lf j sp0 (by omega))) hb.out
        have HY : Hid (hdP lf j = (lf.getD j sp0).l.getD 0 pn0) := rfl
        obtain ⟨t, et⟩ : ∃ t, lf.getD j sp0 = t := ⟨_, rfl⟩
        rw [et] at hc2 hjl hrow2 HY
        clear et e'
        obtain ⟨ta, tc, tl⟩ := t
        simp only at hc2 hjl hrow2 HY
        obtain ⟨b1, o1, rfl, hb1, hx⟩ := hrow.pn h0
        obtain ⟨b2, o2, rfl, hb2, hy⟩ := hrow2.pn hjl
        rw [HX.out, HY.out] at HE
        generalize sl.getD 0 pn0 = x at *
        generalize tl.getD 0 pn0 = y at *
        have KX := Lib.hid (fun w' (h : Below wr.heap.size wr w') => hx.below h hb1)
        have KY := Lib.hid (fun w' (h : Below wr.heap.size wr w') => hy.below h hb2)
        have KT := Lib.hid (fun w' (h : Below wr.heap.size wr w') => (h.cell (p := ⟨b', off' + j, none⟩) (by exact hbB)).trans hc2)
        clear hx hy hc2 hrow hrow2 HX HY
        have HL := Lib.hid (ordP_less x y)
        by_cases hless : Pn.less x y
        · have HO : Hid (decide (ordP x y < 0) = true) := HL.out.trans (decide_eq_true hless)
          have HV : Hid (bestF lf (k + 1) = k) := by show _ = _; rw [HE.out, if_pos ⟨h0, .inr hless⟩]
          clear HE HL hless
          go_wp2_with fail
          rw [eJ]
          refine wp_region_held_drew (S := fun w' => Hid (Below wr.heap.size wr w')) (by kernel_rfl) (below_drawn (Below.refl _ _) 1) (fun hHeld => ?_)
          refine held_take 0 13 (.slice (some ⟨b1, o1, none⟩) sl.length sc) rfl rfl (by kernel_rfl) (by kernel_rfl) (by kernel_rfl) (fun _ _ _ h => h) rfl hHeld (fun w _ => rfl) ?_
          refine held_take 1 14 (.int .i64 (sl.length : Nat)) rfl rfl (by kernel_rfl) (by kernel_rfl) (by kernel_rfl) (fun _ _ _ h => h) rfl hHeld (fun w _ => exec_lenT rowPin _ _ _ w) ?_
          refine held_take 2 15 (.bool true) rfl rfl (by kernel_rfl) (by kernel_rfl) (by kernel_rfl) (fun _ _ _ h => h) rfl hHeld (fun w _ => exec_gtrI ((sl.length : Nat) : Int) 0 _ w (decide_eq_true (by omega))) ?_
          simp only [Act.put, List.setIfInBounds_toArray, List.set_cons_zero, List.set_cons_succ]
          refine held_take 3 16 (.bool true) rfl rfl (by kernel_rfl) (by kernel_rfl) (by kernel_rfl) (fun _ _ _ h => h) rfl hHeld (fun w _ => rfl) ?_
          refine held_take 4 17 (.int .i64 (j : Int)) rfl rfl (by kernel_rfl) (by kernel_rfl) (by kernel_rfl) (fun _ _ _ h => h) rfl hHeld (fun w _ => rfl) ?_
          refine held_take 5 18 (.bool false) rfl rfl (by kernel_rfl) (by kernel_rfl) (by kernel_rfl) (fun _ _ _ h => h) rfl hHeld (fun w _ => exec_lssI (j : Int) 0 _ w (decide_eq_false (by omega))) ?_
          simp only [Act.put, List.setIfInBounds_toArray, List.set_cons_zero, List.set_cons_succ]
          refine held_take 6 19 (.bool false) rfl rfl (by kernel_rfl) (by kernel_rfl) (by kernel_rfl) (fun _ _ _ h => h) rfl hHeld (fun w _ => rfl) ?_
          refine held_take 7 20 (.slice (some ⟨b1, o1, none⟩) sl.length sc) rfl rfl (by kernel_rfl) (by kernel_rfl) (by kernel_rfl) (fun _ _ _ h => h) rfl hHeld (fun w _ => rfl) ?_
          refine held_take 8 21 (.pointer (some ⟨b1, o1 + 0 * 2, none⟩)) rfl rfl (by kernel_rfl) (by kernel_rfl) (by kernel_rfl) (fun _ _ _ h => h) rfl hHeld (fun w _ => exec_idx_pn b1 o1 sl.length sc 0 w (by omega)) ?_
          simp only [Act.put, List.setIfInBounds_toArray, List.set_cons_zero, List.set_cons_succ]
          refine held_take 9 22 (pnA x) rfl rfl (by kernel_rfl) (by kernel_rfl) (by kernel_rfl) (fun _ _ _ h => h) rfl hHeld (fun w h => exec_load_pn b1 (o1 + 0 * 2) x w (KX.out w h.out)) ?_
          refine held_take 10 23 (.slice (some ⟨b', off', none⟩) lf.length c) rfl rfl (by kernel_rfl) (by kernel_rfl) (by kernel_rfl) (fun _ _ _ h => h) rfl hHeld (fun w _ => rfl) ?_
          refine held_take 11 24 (.int .i64 (j : Int)) rfl rfl (by kernel_rfl) (by kernel_rfl) (by kernel_rfl) (fun _ _ _ h => h) rfl hHeld (fun w _ => rfl) ?_
          simp only [Act.put, List.setIfInBounds_toArray, List.set_cons_zero, List.set_cons_succ]
          refine held_take 12 25 (.pointer (some ⟨b', off' + j, none⟩)) rfl rfl (by kernel_rfl) (by kernel_rfl) (by kernel_rfl) (fun _ _ _ h => h) rfl hHeld (fun w _ => exec_idxSp b' off' lf.length c j w (by omega)) ?_
          refine held_take 13 26 (.slice (some ⟨b2, o2, none⟩) tl.length tc) rfl rfl (by kernel_rfl) (by kernel_rfl) (by kernel_rfl) (fun _ _ _ h => h) rfl hHeld (fun w h => exec_loadSp 29 b' (off' + j) (some ⟨b2, o2, none⟩) tl.length tc w (.inl rfl) (KT.out w h.out)) ?_
          refine held_take 14 27 (.pointer (some ⟨b2, o2 + 0 * 2, none⟩)) rfl rfl (by kernel_rfl) (by kernel_rfl) (by kernel_rfl) (fun _ _ _ h => h) rfl hHeld (fun w _ => exec_idx_pn b2 o2 tl.length tc 0 w (by omega)) ?_
          simp only [Act.put, List.setIfInBounds_toArray, List.set_cons_zero, List.set_cons_succ]
          refine held_take 15 28 (pnA y) rfl rfl (by kernel_rfl) (by kernel_rfl) (by kernel_rfl) (fun _ _ _ h => h) rfl hHeld (fun w h => exec_load_pn b2 (o2 + 0 * 2) y w (KY.out w h.out)) ?_
          simp only [Act.put, List.setIfInBounds_toArray, List.set_cons_zero, List.set_cons_succ]
          refine held_call 16 29 47 #[pnA x, pnA y] rfl rfl (by kernel_rfl) rfl (exec_call Try.func47 (by kernel_rfl) (by kernel_rfl) _) ?_
          refine (pinOrder_im x y _).mono ?_
          rintro e u1 ⟨rfl, x1⟩
          have hHeld : Hid (Below wr.heap.size wr u1) := hHeld.out.trans (x1.mono hHeld.out.size)
          refine ⟨_, rfl, hHeld, ?_⟩
          simp only [Act.put, List.setIfInBounds_toArray, List.set_cons_zero, List.set_cons_succ]
          refine held_take 17 30 (.bool true) rfl rfl (by kernel_rfl) (by kernel_rfl) (by kernel_rfl) (fun _ _ _ h => h) rfl hHeld (fun w _ => exec_lssI (ordP x y) 0 _ w HO.out) ?_
          refine held_take 18 31 (.bool true) rfl rfl (by kernel_rfl) (by kernel_rfl) (by kernel_rfl) (fun _ _ _ h => h) rfl hHeld (fun w _ => exec_pickF _ w) ?_
          refine held_take 19 32 (.bool true) rfl rfl (by kernel_rfl) (by kernel_rfl) (by kernel_rfl) (fun _ _ _ h => h) rfl hHeld (fun w _ => exec_pickT _ w) ?_
          simp only [Act.put, List.setIfInBounds_toArray, List.set_cons_zero, List.set_cons_succ]
          refine wpAnyH_done (by kernel_rfl) ?_ _

          have BF := Lib.hid (hb.out.trans (hHeld.out.mono hb.out.size))
          clear hHeld
          go_wp2
          go_roundw
          case rel => exact ⟨k + 1, by omega, by go_num, by rw [HV.out], BF⟩
          case measure => simp [intOf]; omega

        · have HO : Hid (decide (ordP x y < 0) = false) := HL.out.trans (decide_eq_false hless)
          have HV : Hid (bestF lf (k + 1) = j) := by
            show _ = _
            rw [HE.out, if_neg (by rintro ⟨_, h | h⟩; · omega
                                   · exact hless h)]
          clear HE HL hless
          go_wp2_with fail
          rw [eJ]
          refine wp_region_held_drew (S := fun w' => Hid (Below wr.heap.size wr w')) (by kernel_rfl) (below_drawn (Below.refl _ _) 1) (fun hHeld => ?_)
          refine held_take 0 13 (.slice (some ⟨b1, o1, none⟩) sl.length sc) rfl rfl (by kernel_rfl) (by kernel_rfl) (by kernel_rfl) (fun _ _ _ h => h) rfl hHeld (fun w _ => rfl) ?_
          refine held_take 1 14 (.int .i64 (sl.length : Nat)) rfl rfl (by kernel_rfl) (by kernel_rfl) (by kernel_rfl) (fun _ _ _ h => h) rfl hHeld (fun w _ => exec_lenT rowPin _ _ _ w) ?_
          refine held_take 2 15 (.bool true) rfl rfl (by kernel_rfl) (by kernel_rfl) (by kernel_rfl) (fun _ _ _ h => h) rfl hHeld (fun w _ => exec_gtrI ((sl.length : Nat) : Int) 0 _ w (decide_eq_true (by omega))) ?_
          simp only [Act.put, List.setIfInBounds_toArray, List.set_cons_zero, List.set_cons_succ]
          refine held_take 3 16 (.bool true) rfl rfl (by kernel_rfl) (by kernel_rfl) (by kernel_rfl) (fun _ _ _ h => h) rfl hHeld (fun w _ => rfl) ?_
          refine held_take 4 17 (.int .i64 (j : Int)) rfl rfl (by kernel_rfl) (by kernel_rfl) (by kernel_rfl) (fun _ _ _ h => h) rfl hHeld (fun w _ => rfl) ?_
          refine held_take 5 18 (.bool false) rfl rfl (by kernel_rfl) (by kernel_rfl) (by kernel_rfl) (fun _ _ _ h => h) rfl hHeld (fun w _ => exec_lssI (j : Int) 0 _ w (decide_eq_false (by omega))) ?_
          simp only [Act.put, List.setIfInBounds_toArray, List.set_cons_zero, List.set_cons_succ]
          refine held_take 6 19 (.bool false) rfl rfl (by kernel_rfl) (by kernel_rfl) (by kernel_rfl) (fun _ _ _ h => h) rfl hHeld (fun w _ => rfl) ?_
          refine held_take 7 20 (.slice (some ⟨b1, o1, none⟩) sl.length sc) rfl rfl (by kernel_rfl) (by kernel_rfl) (by kernel_rfl) (fun _ _ _ h => h) rfl hHeld (fun w _ => rfl) ?_
          refine held_take 8 21 (.pointer (some ⟨b1, o1 + 0 * 2, none⟩)) rfl rfl (by kernel_rfl) (by kernel_rfl) (by kernel_rfl) (fun _ _ _ h => h) rfl hHeld (fun w _ => exec_idx_pn b1 o1 sl.length sc 0 w (by omega)) ?_
          simp only [Act.put, List.setIfInBounds_toArray, List.set_cons_zero, List.set_cons_succ]
          refine held_take 9 22 (pnA x) rfl rfl (by kernel_rfl) (by kernel_rfl) (by kernel_rfl) (fun _ _ _ h => h) rfl hHeld (fun w h => exec_load_pn b1 (o1 + 0 * 2) x w (KX.out w h.out)) ?_
          refine held_take 10 23 (.slice (some ⟨b', off', none⟩) lf.length c) rfl rfl (by kernel_rfl) (by kernel_rfl) (by kernel_rfl) (fun _ _ _ h => h) rfl hHeld (fun w _ => rfl) ?_
          refine held_take 11 24 (.int .i64 (j : Int)) rfl rfl (by kernel_rfl) (by kernel_rfl) (by kernel_rfl) (fun _ _ _ h => h) rfl hHeld (fun w _ => rfl) ?_
          simp only [Act.put, List.setIfInBounds_toArray, List.set_cons_zero, List.set_cons_succ]
          refine held_take 12 25 (.pointer (some ⟨b', off' + j, none⟩)) rfl rfl (by kernel_rfl) (by kernel_rfl) (by kernel_rfl) (fun _ _ _ h => h) rfl hHeld (fun w _ => exec_idxSp b' off' lf.length c j w (by omega)) ?_
          refine held_take 13 26 (.slice (some ⟨b2, o2, none⟩) tl.length tc) rfl rfl (by kernel_rfl) (by kernel_rfl) (by kernel_rfl) (fun _ _ _ h => h) rfl hHeld (fun w h => exec_loadSp 29 b' (off' + j) (some ⟨b2, o2, none⟩) tl.length tc w (.inl rfl) (KT.out w h.out)) ?_
          refine held_take 14 27 (.pointer (some ⟨b2, o2 + 0 * 2, none⟩)) rfl rfl (by kernel_rfl) (by kernel_rfl) (by kernel_rfl) (fun _ _ _ h => h) rfl hHeld (fun w _ => exec_idx_pn b2 o2 tl.length tc 0 w (by omega)) ?_
          simp only [Act.put, List.setIfInBounds_toArray, List.set_cons_zero, List.set_cons_succ]
          refine held_take 15 28 (pnA y) rfl rfl (by kernel_rfl) (by kernel_rfl) (by kernel_rfl) (fun _ _ _ h => h) rfl hHeld (fun w h => exec_load_pn b2 (o2 + 0 * 2) y w (KY.out w h.out)) ?_
          simp only [Act.put, List.setIfInBounds_toArray, List.set_cons_zero, List.set_cons_succ]
          refine held_call 16 29 47 #[pnA x, pnA y] rfl rfl (by kernel_rfl) rfl (exec_call Try.func47 (by kernel_rfl) (by kernel_rfl) _) ?_
          refine (pinOrder_im x y _).mono ?_
          rintro e u1 ⟨rfl, x1⟩
          have hHeld : Hid (Below wr.heap.size wr u1) := hHeld.out.trans (x1.mono hHeld.out.size)
          refine ⟨_, rfl, hHeld, ?_⟩
          simp only [Act.put, List.setIfInBounds_toArray, List.set_cons_zero, List.set_cons_succ]
          refine held_take 17 30 (.bool false) rfl rfl (by kernel_rfl) (by kernel_rfl) (by kernel_rfl) (fun _ _ _ h => h) rfl hHeld (fun w _ => exec_lssI (ordP x y) 0 _ w HO.out) ?_
          refine held_take 18 31 (.bool false) rfl rfl (by kernel_rfl) (by kernel_rfl) (by kernel_rfl) (fun _ _ _ h => h) rfl hHeld (fun w _ => exec_pickF _ w) ?_
          refine held_take 19 32 (.bool false) rfl rfl (by kernel_rfl) (by kernel_rfl) (by kernel_rfl) (fun _ _ _ h => h) rfl hHeld (fun w _ => exec_pickT _ w) ?_
          simp only [Act.put, List.setIfInBounds_toArray, List.set_cons_zero, List.set_cons_succ]
          refine wpAnyH_done (by kernel_rfl) ?_ _

          have BF := Lib.hid (hb.out.trans (hHeld.out.mono hb.out.size))
          clear hHeld
          go_wp2
          go_roundw
          case rel => exact ⟨k + 1, by omega, by go_num, by rw [HV.out], BF⟩
          case measure => simp [intOf]; omega

    · obtain rfl : k = lf.length := by omega
      go_wp2
      go_ret
      exact ⟨rfl, hb.out⟩
end Go.Proofs.Ytdjglbmcpfaofaa
