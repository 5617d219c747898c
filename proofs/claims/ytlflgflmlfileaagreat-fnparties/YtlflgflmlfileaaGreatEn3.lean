/- QueueOk of the model. -/
import Derived.Test.YtlflgflmlfileaaGreatRows
import Derived.Test.YtlflgflmlfileaaGreatEn2
import Derived.Test.YtlflgflmlfileaaGreatHs9
import Derived.Deep.DeepCutAuto
namespace Go.Proofs.YtlflgflmlfileaaGreat
open Go.RowKit
set_option linter.unusedSimpArgs false
set_option linter.unusedVariables false
set_option maxRecDepth 100000 in
theorem exec_fldEn {ρ : Operand → Value} {o : Oper} {x : Operand} (b off f : Nat) (w : World) (hf : f < 4) (ho : o.op = .fieldAddr 100 x f := by rfl) (hx : ρ x = .pointer (some ⟨b, off, none⟩) := by rfl) :
    (execOp ρ o).run Tryz.prog w = .ok (.value (.pointer (some ⟨b, off + f, none⟩))) w := by
  unfold execOp
  rw [ho]
  match f, hf with
  | 0, _ | 1, _ | 2, _ | 3, _ => simp [go_sem, hx]
def En.inn (x : En) : Prop := (0 ≤ x.lev ∧ x.lev ≤ 4) ∧ (1 ≤ x.turn ∧ x.turn ≤ 1000000) ∧ (1 ≤ x.id ∧ x.id ≤ 999) ∧ (1 ≤ x.size ∧ x.size ≤ 6)
instance decEnInn (x : En) : Decidable x.inn := by unfold En.inn; infer_instance
/-- The entry at k is right in its list. -/
def enOk (l : List En) (k : Nat) : Prop := (l.getD k en0).inn ∧ (0 < k → En.less (l.getD (k - 1) en0) (l.getD k en0)) ∧ enAt l (l.getD k en0).id = (k : Int)
instance (l : List En) (k : Nat) : Decidable (enOk l k) := by unfold enOk; infer_instance
/-- What QueueOk tells. -/
def quB (l : List En) : Bool := decide (l.length ≤ 10) && (List.range l.length).all fun k => decide (enOk l k)
theorem quB_no {l : List En} {k : Nat} (hk : k < l.length) (h : ¬ enOk l k) : quB l = false := by
  unfold quB
  rw [Bool.and_eq_false_iff]
  right
  rw [List.all_eq_false]
  exact ⟨k, List.mem_range.2 hk, by simp [h]⟩
theorem quB_yes {l : List En} (h1 : l.length ≤ 10) (h : ∀ k, k < l.length → enOk l k) : quB l = true := by
  unfold quB
  rw [decide_eq_true h1, Bool.true_and, List.all_eq_true]
  intro k hk
  exact decide_eq_true (h k (List.mem_range.1 hk))
theorem quB_big {l : List En} (h : ¬ l.length ≤ 10) : quB l = false := by
  unfold quB; rw [decide_eq_false h]; rfl
set_option maxRecDepth 100000 in
set_option maxHeartbeats 3200000 in
theorem queueOk_spec (A : Option Addr) (l : List En) (c : Nat) (w : World) (hl : l.length ≤ 2097153) (hA : Rws w w.heap.size A (l.flatMap enC)) :
    Calls Tryz.prog 95 #[.slice A l.length c] w fun e w' => e = .returned (.bool (quB l)) ∧ Below w.heap.size w w' := by
  by_cases h10 : l.length ≤ 10
  rotate_left
  · have HF := Lib.hid (quB_big h10)
    go_enter Tryz.func95, Tryz.ntmps95
    go_wp2
    go_ret
    exact ⟨by rw [HF.out] <;> rfl, Below.refl _ _⟩
  go_enter Tryz.func95, Tryz.ntmps95
  go_wp2
  go_loopw [3] (fun i wr => ∃ k : Nat, k ≤ l.length ∧ i = .int .i64 k ∧ Hid (∀ j, j < k → enOk l j) ∧ Below w.heap.size w wr) (fun i _ => l.length - (intOf i).toNat)
  case atStart => exact ⟨0, by omega, rfl, (fun j hj => by omega), Below.refl _ _⟩
  case round =>
    obtain ⟨k, hk, rfl, hall, hb⟩ := hrel
    by_cases hlt : k < l.length
    rotate_left
    · obtain rfl : k = l.length := by omega
      have HY := Lib.hid (quB_yes h10 hall.out)
      clear hall
      go_wp2
      go_ret
      exact ⟨by rw [HY.out] <;> rfl, hb⟩
    have hR := rws_below hA hb
    obtain ⟨b, off, rfl, hbB, hx⟩ := hR.en hlt
    have bu : Below w.heap.size w (wr.alloc (.cells #[.int .i64 (l.getD k en0).lev, .int .i64 (l.getD k en0).turn, .int .i64 (l.getD k en0).id, .int .i64 (l.getD k en0).size] 100)) := hb.alloc hb.size _
    have HR := Lib.hid hR
    have HBB := Lib.hid hb
    clear hR
    generalize hxe : l.getD k en0 = x at *
    obtain ⟨c0, c1, c2, c3⟩ := hx
    have BF := Lib.hid bu
    have hsz := hb.size
    clear bu hb
    by_cases h0 : 0 ≤ x.lev ∧ x.lev ≤ 4
    rotate_left
    · have HF := Lib.hid (quB_no hlt (by unfold enOk; rw [hxe]; rintro ⟨⟨r0, r1, r2, r3⟩, _⟩; exact h0 r0))
      clear hxe hall
      go_wp2_with (go_at_call 24; first | (refine (l1In_yes _ _ _ _ (by omega)).mono ?_; rintro e w' ⟨rfl, rfl⟩) | (refine (l1In_no _ _ _ _ (by omega)).mono ?_; rintro e w' ⟨rfl, rfl⟩))
      go_ret
      exact ⟨by rw [HF.out] <;> rfl, BF.out⟩
    by_cases h1 : 1 ≤ x.turn ∧ x.turn ≤ 1000000
    rotate_left
    · have HF := Lib.hid (quB_no hlt (by unfold enOk; rw [hxe]; rintro ⟨⟨r0, r1, r2, r3⟩, _⟩; exact h1 r1))
      clear hxe hall
      go_wp2_with (go_at_call 24; first | (refine (l1In_yes _ _ _ _ (by omega)).mono ?_; rintro e w' ⟨rfl, rfl⟩) | (refine (l1In_no _ _ _ _ (by omega)).mono ?_; rintro e w' ⟨rfl, rfl⟩))
      go_ret
      exact ⟨by rw [HF.out] <;> rfl, BF.out⟩
    by_cases h2 : 1 ≤ x.id ∧ x.id ≤ 999
    rotate_left
    · have HF := Lib.hid (quB_no hlt (by unfold enOk; rw [hxe]; rintro ⟨⟨r0, r1, r2, r3⟩, _⟩; exact h2 r2))
      clear hxe hall
      go_wp2_with (go_at_call 24; first | (refine (l1In_yes _ _ _ _ (by omega)).mono ?_; rintro e w' ⟨rfl, rfl⟩) | (refine (l1In_no _ _ _ _ (by omega)).mono ?_; rintro e w' ⟨rfl, rfl⟩))
      go_ret
      exact ⟨by rw [HF.out] <;> rfl, BF.out⟩
    by_cases h3 : 1 ≤ x.size ∧ x.size ≤ 6
    rotate_left
    · have HF := Lib.hid (quB_no hlt (by unfold enOk; rw [hxe]; rintro ⟨⟨r0, r1, r2, r3⟩, _⟩; exact h3 r3))
      clear hxe hall
      go_wp2_with (go_at_call 24; first | (refine (l1In_yes _ _ _ _ (by omega)).mono ?_; rintro e w' ⟨rfl, rfl⟩) | (refine (l1In_no _ _ _ _ (by omega)).mono ?_; rintro e w' ⟨rfl, rfl⟩))
      go_ret
      exact ⟨by rw [HF.out] <;> rfl, BF.out⟩
    obtain ⟨u, hu⟩ : ∃ u, wr.alloc (.cells #[.int .i64 x.lev, .int .i64 x.turn, .int .i64 x.id, .int .i64 x.size] 100) = u := ⟨_, rfl⟩
    have KX : Hid (∀ w', Below u.heap.size u w' → En.here w' wr.heap.size 0 x) := fun w' h => by rw [← hu] at h; exact (En.here.box x _).below h (by simp)
    have bru : Hid (Below wr.heap.size wr u) := by show Below _ _ _; rw [← hu]; exact (Below.refl _ _).alloc (Nat.le_refl _) _
    rw [hu] at BF
    have CA : Hid (∀ w', Hid (Below u.heap.size u w') → Calls Tryz.prog 104 #[.slice (some ⟨b, off, none⟩) l.length c, .int .i64 x.id] w' fun e w'' => e = .returned (.int .i64 (enAt l x.id)) ∧ w' = w'') := fun w' h => queueAt_spec _ l c x.id w' (by omega) (rws_below (rws_below HR.out bru.out) h.out)
    obtain ⟨D, eD⟩ : ∃ D : Bool, (enAt l x.id != (k : Int)) = D := ⟨_, rfl⟩
    have HD := Lib.hid eD
    have HOK : Hid (enOk l k ↔ ((0 < k → En.less (l.getD (k - 1) en0) x) ∧ D = false)) := by
      show _ ↔ _
      unfold enOk En.inn
      rw [hxe, ← eD]
      simp [h0, h1, h2, h3]
    have hall2 : Hid (enOk l k → ∀ j, j < k + 1 → enOk l j) := fun h j hj => by
      by_cases e : j = k
      · subst e; exact h
      · exact hall.out j (by omega)
    clear eD hall hxe
    generalize enAt l x.id = AT at *
    have HU := Lib.hid hu
    clear hu
    go_upto_region 9 with (go_at_call 24; first | (refine (l1In_yes _ _ _ _ (by omega)).mono ?_; rintro e w' ⟨rfl, rfl⟩) | (refine (l1In_no _ _ _ _ (by omega)).mono ?_; rintro e w' ⟨rfl, rfl⟩))
    rw [HU.out]
    by_cases hk0 : k = 0
    · subst hk0
      go_cut [59] from 8 to 59 (fun s59 wx => s59 = .bool D ∧ Below u.heap.size u wx)
      case first =>
        refine wp_region_held_drew (S := fun w' => Hid (Below u.heap.size u w')) (by kernel_rfl) (below_drawn (Below.refl _ _) 1) (fun hHeld => ?_)
        refine held_take 0 40 (.int .i64 ((0 : Nat) : Int)) rfl rfl (by kernel_rfl) (by kernel_rfl) (by kernel_rfl) (fun _ _ _ h => h) rfl hHeld (fun w _ => rfl) ?_
        refine held_take 1 41 (.bool false) rfl rfl (by kernel_rfl) (by kernel_rfl) (by kernel_rfl) (fun _ _ _ h => h) rfl hHeld (fun w _ => exec_gtrI ((0 : Nat) : Int) 0 _ w (by simp)) ?_
        refine held_take 2 42 (.bool false) rfl rfl (by kernel_rfl) (by kernel_rfl) (by kernel_rfl) (fun _ _ _ h => h) rfl hHeld (fun w _ => rfl) ?_
        simp only [Act.put, List.setIfInBounds_toArray, List.set_cons_zero, List.set_cons_succ]
        refine held_skip 3 43 rfl rfl (by kernel_rfl) (by kernel_rfl) (by kernel_rfl) (fun _ _ _ h => h) rfl hHeld ?_
        refine held_skip 4 44 rfl rfl (by kernel_rfl) (by kernel_rfl) (by kernel_rfl) (fun _ _ _ h => h) rfl hHeld ?_
        simp only [Act.put, List.setIfInBounds_toArray, List.set_cons_zero, List.set_cons_succ]
        refine held_skip 5 45 rfl rfl (by kernel_rfl) (by kernel_rfl) (by kernel_rfl) (fun _ _ _ h => h) rfl hHeld ?_
        refine held_skip 6 46 rfl rfl (by kernel_rfl) (by kernel_rfl) (by kernel_rfl) (fun _ _ _ h => h) rfl hHeld ?_
        simp only [Act.put, List.setIfInBounds_toArray, List.set_cons_zero, List.set_cons_succ]
        refine held_skip 7 47 rfl rfl (by kernel_rfl) (by kernel_rfl) (by kernel_rfl) (fun _ _ _ h => h) rfl hHeld ?_
        refine held_skip 8 48 rfl rfl (by kernel_rfl) (by kernel_rfl) (by kernel_rfl) (fun _ _ _ h => h) rfl hHeld ?_
        simp only [Act.put, List.setIfInBounds_toArray, List.set_cons_zero, List.set_cons_succ]
        refine held_skip 9 49 rfl rfl (by kernel_rfl) (by kernel_rfl) (by kernel_rfl) (fun _ _ _ h => h) rfl hHeld ?_
        refine held_skip 10 50 rfl rfl (by kernel_rfl) (by kernel_rfl) (by kernel_rfl) (fun _ _ _ h => h) rfl hHeld ?_
        simp only [Act.put, List.setIfInBounds_toArray, List.set_cons_zero, List.set_cons_succ]
        refine held_take 11 51 (.bool false) rfl rfl (by kernel_rfl) (by kernel_rfl) (by kernel_rfl) (fun _ _ _ h => h) rfl hHeld (fun w _ => exec_pickF _ w) ?_
        refine held_take 12 52 (.bool false) rfl rfl (by kernel_rfl) (by kernel_rfl) (by kernel_rfl) (fun _ _ _ h => h) rfl hHeld (fun w _ => rfl) ?_
        refine held_take 13 53 (.slice (some ⟨b, off, none⟩) l.length c) rfl rfl (by kernel_rfl) (by kernel_rfl) (by kernel_rfl) (fun _ _ _ h => h) rfl hHeld (fun w _ => rfl) ?_
        simp only [Act.put, List.setIfInBounds_toArray, List.set_cons_zero, List.set_cons_succ]
        refine held_take 14 54 (.pointer (some ⟨wr.heap.size, 2, none⟩)) rfl rfl (by kernel_rfl) (by kernel_rfl) (by kernel_rfl) (fun _ _ _ h => h) rfl hHeld (fun w _ => exec_fldEn _ 0 2 w (by omega)) ?_
        refine held_take 15 55 (.int .i64 x.id) rfl rfl (by kernel_rfl) (by kernel_rfl) (by kernel_rfl) (fun _ _ _ h => h) rfl hHeld (fun w h => exec_load1 3 _ 2 _ w (.inl rfl) (KX.out w h.out).2.2.1) ?_
        refine held_take 17 57 (.int .i64 ((0 : Nat) : Int)) rfl rfl (by kernel_rfl) (by kernel_rfl) (by kernel_rfl) (fun _ _ _ h => h) rfl hHeld (fun w _ => rfl) ?_
        simp only [Act.put, List.setIfInBounds_toArray, List.set_cons_zero, List.set_cons_succ]
        refine held_call 16 56 104 #[.slice (some ⟨b, off, none⟩) l.length c, .int .i64 x.id] rfl rfl (by kernel_rfl) rfl (exec_call Tryz.func104 (by kernel_rfl) (by kernel_rfl) _) ?_
        refine (CA.out _ hHeld).mono ?_
        rintro e u2 ⟨rfl, rfl⟩
        refine ⟨_, rfl, hHeld, ?_⟩
        simp only [Act.put, List.setIfInBounds_toArray, List.set_cons_zero, List.set_cons_succ]
        refine held_take 18 58 (.bool D) rfl rfl (by kernel_rfl) (by kernel_rfl) (by kernel_rfl) (fun _ _ _ h => h) rfl hHeld (fun w _ => exec_neqI AT ((0 : Nat) : Int) D w HD.out) ?_
        refine held_take 19 59 (.bool D) rfl rfl (by kernel_rfl) (by kernel_rfl) (by kernel_rfl) (fun _ _ _ h => h) rfl hHeld (fun w _ => exec_pickF _ w) ?_
        refine wpAnyH_done (by kernel_rfl) ?_ _
        go_wp2_with fail
        go_meet
        exact ⟨rfl, hHeld.out⟩
      case rest =>
        obtain ⟨rfl, bx⟩ := hcut
        have bF := Lib.hid (BF.out.trans (bx.mono BF.out.size))
        clear bx BF CA KX
        cases D with
        | true =>
          have HF := Lib.hid (quB_no hlt (fun h => by have := (HOK.out.1 h).2; cases this))
          clear HOK hall2 HD
          go_wp2
          go_ret
          exact ⟨by rw [HF.out] <;> rfl, bF.out⟩
        | false =>
          have HA := Lib.hid (hall2.out (HOK.out.2 ⟨fun h => absurd h (by omega), rfl⟩))
          clear HOK hall2 HD
          go_wp2
          go_roundw
          case rel => exact ⟨0 + 1, by omega, by go_num, HA, bF.out⟩
          case measure => simp [intOf]; omega
    · have hkp : 0 < k := by omega
      obtain ⟨b', off', e', _, hy⟩ := HR.out.en (i := k - 1) (by omega)
      obtain ⟨rfl, rfl⟩ : b' = b ∧ off' = off := by injection e' with e'; injection e' with e1 e2; exact ⟨e1.symm, e2.symm⟩
      have KY : Hid (∀ w', Below u.heap.size u w' → En.here w' b' (off' + (k - 1) * 4) (l.getD (k - 1) en0)) := fun w' h => (hy.below bru.out (by omega)).below h (by have := bru.out.size; omega)
      clear hy e'
      generalize l.getD (k - 1) en0 = y at *
      have CL := Lib.hid (fun w => entryLess_spec y x w)
      by_cases hle : En.less y x
      · rw [decide_eq_true hle] at CL
        go_cut [59] from 8 to 59 (fun s59 wx => s59 = .bool D ∧ Below u.heap.size u wx)
        case first =>
          refine wp_region_held_drew (S := fun w' => Hid (Below u.heap.size u w')) (by kernel_rfl) (below_drawn (Below.refl _ _) 1) (fun hHeld => ?_)
          refine held_take 0 40 (.int .i64 (k : Int)) rfl rfl (by kernel_rfl) (by kernel_rfl) (by kernel_rfl) (fun _ _ _ h => h) rfl hHeld (fun w _ => rfl) ?_
          refine held_take 1 41 (.bool true) rfl rfl (by kernel_rfl) (by kernel_rfl) (by kernel_rfl) (fun _ _ _ h => h) rfl hHeld (fun w _ => exec_gtrI (k : Int) 0 _ w (by simp; omega)) ?_
          refine held_take 2 42 (.bool true) rfl rfl (by kernel_rfl) (by kernel_rfl) (by kernel_rfl) (fun _ _ _ h => h) rfl hHeld (fun w _ => rfl) ?_
          simp only [Act.put, List.setIfInBounds_toArray, List.set_cons_zero, List.set_cons_succ]
          refine held_take 3 43 (.slice (some ⟨b', off', none⟩) l.length c) rfl rfl (by kernel_rfl) (by kernel_rfl) (by kernel_rfl) (fun _ _ _ h => h) rfl hHeld (fun w _ => rfl) ?_
          refine held_take 4 44 (.int .i64 (k : Int)) rfl rfl (by kernel_rfl) (by kernel_rfl) (by kernel_rfl) (fun _ _ _ h => h) rfl hHeld (fun w _ => rfl) ?_
          refine held_take 5 45 (.int .i64 ((k - 1 : Nat) : Int)) rfl rfl (by kernel_rfl) (by kernel_rfl) (by kernel_rfl) (fun _ _ _ h => h) rfl hHeld (fun w _ => exec_subI (k : Int) 1 _ w (by omega) (by omega) (by omega)) ?_
          simp only [Act.put, List.setIfInBounds_toArray, List.set_cons_zero, List.set_cons_succ]
          refine held_take 6 46 (.pointer (some ⟨b', off' + (k - 1) * 4, none⟩)) rfl rfl (by kernel_rfl) (by kernel_rfl) (by kernel_rfl) (fun _ _ _ h => h) rfl hHeld (fun w _ => exec_idx_en b' off' l.length c (k - 1) w (by omega)) ?_
          refine held_take 7 47 (enA y) rfl rfl (by kernel_rfl) (by kernel_rfl) (by kernel_rfl) (fun _ _ _ h => h) rfl hHeld (fun w h => exec_load_en b' (off' + (k - 1) * 4) y w (KY.out w h.out)) ?_
          refine held_take 8 48 (enA x) rfl rfl (by kernel_rfl) (by kernel_rfl) (by kernel_rfl) (fun _ _ _ h => h) rfl hHeld (fun w h => exec_load_en wr.heap.size 0 x w (KX.out w h.out)) ?_
          simp only [Act.put, List.setIfInBounds_toArray, List.set_cons_zero, List.set_cons_succ]
          refine held_call 9 49 93 #[enA y, enA x] rfl rfl (by kernel_rfl) rfl (exec_call Tryz.func93 (by kernel_rfl) (by kernel_rfl) _) ?_
          refine (CL.out _).mono ?_
          rintro e u1 ⟨rfl, x1⟩
          have k1 : Hid (Below u.heap.size u u1) := hHeld.out.trans (x1.mono hHeld.out.size)
          refine ⟨_, rfl, k1, ?_⟩
          simp only [Act.put, List.setIfInBounds_toArray, List.set_cons_zero, List.set_cons_succ]
          refine held_take 10 50 (.bool false) rfl rfl (by kernel_rfl) (by kernel_rfl) (by kernel_rfl) (fun _ _ _ h => h) rfl k1 (fun w _ => rfl) ?_
          refine held_take 11 51 (.bool false) rfl rfl (by kernel_rfl) (by kernel_rfl) (by kernel_rfl) (fun _ _ _ h => h) rfl k1 (fun w _ => exec_pickT _ w) ?_
          refine held_take 12 52 (.bool false) rfl rfl (by kernel_rfl) (by kernel_rfl) (by kernel_rfl) (fun _ _ _ h => h) rfl k1 (fun w _ => rfl) ?_
          simp only [Act.put, List.setIfInBounds_toArray, List.set_cons_zero, List.set_cons_succ]
          refine held_take 13 53 (.slice (some ⟨b', off', none⟩) l.length c) rfl rfl (by kernel_rfl) (by kernel_rfl) (by kernel_rfl) (fun _ _ _ h => h) rfl k1 (fun w _ => rfl) ?_
          refine held_take 14 54 (.pointer (some ⟨wr.heap.size, 2, none⟩)) rfl rfl (by kernel_rfl) (by kernel_rfl) (by kernel_rfl) (fun _ _ _ h => h) rfl k1 (fun w _ => exec_fldEn _ 0 2 w (by omega)) ?_
          refine held_take 15 55 (.int .i64 x.id) rfl rfl (by kernel_rfl) (by kernel_rfl) (by kernel_rfl) (fun _ _ _ h => h) rfl k1 (fun w h => exec_load1 3 _ 2 _ w (.inl rfl) (KX.out w h.out).2.2.1) ?_
          simp only [Act.put, List.setIfInBounds_toArray, List.set_cons_zero, List.set_cons_succ]
          refine held_take 17 57 (.int .i64 (k : Int)) rfl rfl (by kernel_rfl) (by kernel_rfl) (by kernel_rfl) (fun _ _ _ h => h) rfl k1 (fun w _ => rfl) ?_
          simp only [Act.put, List.setIfInBounds_toArray, List.set_cons_zero, List.set_cons_succ]
          refine held_call 16 56 104 #[.slice (some ⟨b', off', none⟩) l.length c, .int .i64 x.id] rfl rfl (by kernel_rfl) rfl (exec_call Tryz.func104 (by kernel_rfl) (by kernel_rfl) _) ?_
          refine (CA.out _ k1).mono ?_
          rintro e u2 ⟨rfl, rfl⟩
          refine ⟨_, rfl, k1, ?_⟩
          simp only [Act.put, List.setIfInBounds_toArray, List.set_cons_zero, List.set_cons_succ]
          refine held_take 18 58 (.bool D) rfl rfl (by kernel_rfl) (by kernel_rfl) (by kernel_rfl) (fun _ _ _ h => h) rfl k1 (fun w _ => exec_neqI AT (k : Int) D w HD.out) ?_
          refine held_take 19 59 (.bool D) rfl rfl (by kernel_rfl) (by kernel_rfl) (by kernel_rfl) (fun _ _ _ h => h) rfl k1 (fun w _ => exec_pickF _ w) ?_
          refine wpAnyH_done (by kernel_rfl) ?_ _
          go_wp2_with fail
          go_meet
          exact ⟨rfl, k1.out⟩
        case rest =>
          obtain ⟨rfl, bx⟩ := hcut
          have bF := Lib.hid (BF.out.trans (bx.mono BF.out.size))
          clear bx BF CA KX
          cases D with
          | true =>
            have HF := Lib.hid (quB_no hlt (fun h => by have := (HOK.out.1 h).2; cases this))
            clear HOK hall2 HD
            go_wp2
            go_ret
            exact ⟨by rw [HF.out] <;> rfl, bF.out⟩
          | false =>
            have HA := Lib.hid (hall2.out (HOK.out.2 ⟨fun _ => hle, rfl⟩))
            clear HOK hall2 HD
            go_wp2
            go_roundw
            case rel => exact ⟨k + 1, by omega, by go_num, HA, bF.out⟩
            case measure => simp [intOf]; omega
      · rw [decide_eq_false hle] at CL
        have HF := Lib.hid (quB_no hlt (fun h => hle ((HOK.out.1 h).1 hkp)))
        refine wp_region_held_drew (S := fun w' => Hid (Below u.heap.size u w')) (by kernel_rfl) (below_drawn (Below.refl _ _) 1) (fun hHeld => ?_)
        refine held_take 0 40 (.int .i64 (k : Int)) rfl rfl (by kernel_rfl) (by kernel_rfl) (by kernel_rfl) (fun _ _ _ h => h) rfl hHeld (fun w _ => rfl) ?_
        refine held_take 1 41 (.bool true) rfl rfl (by kernel_rfl) (by kernel_rfl) (by kernel_rfl) (fun _ _ _ h => h) rfl hHeld (fun w _ => exec_gtrI (k : Int) 0 _ w (by simp; omega)) ?_
        refine held_take 2 42 (.bool true) rfl rfl (by kernel_rfl) (by kernel_rfl) (by kernel_rfl) (fun _ _ _ h => h) rfl hHeld (fun w _ => rfl) ?_
        simp only [Act.put, List.setIfInBounds_toArray, List.set_cons_zero, List.set_cons_succ]
        refine held_take 3 43 (.slice (some ⟨b', off', none⟩) l.length c) rfl rfl (by kernel_rfl) (by kernel_rfl) (by kernel_rfl) (fun _ _ _ h => h) rfl hHeld (fun w _ => rfl) ?_
        refine held_take 4 44 (.int .i64 (k : Int)) rfl rfl (by kernel_rfl) (by kernel_rfl) (by kernel_rfl) (fun _ _ _ h => h) rfl hHeld (fun w _ => rfl) ?_
        refine held_take 5 45 (.int .i64 ((k - 1 : Nat) : Int)) rfl rfl (by kernel_rfl) (by kernel_rfl) (by kernel_rfl) (fun _ _ _ h => h) rfl hHeld (fun w _ => exec_subI (k : Int) 1 _ w (by omega) (by omega) (by omega)) ?_
        simp only [Act.put, List.setIfInBounds_toArray, List.set_cons_zero, List.set_cons_succ]
        refine held_take 6 46 (.pointer (some ⟨b', off' + (k - 1) * 4, none⟩)) rfl rfl (by kernel_rfl) (by kernel_rfl) (by kernel_rfl) (fun _ _ _ h => h) rfl hHeld (fun w _ => exec_idx_en b' off' l.length c (k - 1) w (by omega)) ?_
        refine held_take 7 47 (enA y) rfl rfl (by kernel_rfl) (by kernel_rfl) (by kernel_rfl) (fun _ _ _ h => h) rfl hHeld (fun w h => exec_load_en b' (off' + (k - 1) * 4) y w (KY.out w h.out)) ?_
        refine held_take 8 48 (enA x) rfl rfl (by kernel_rfl) (by kernel_rfl) (by kernel_rfl) (fun _ _ _ h => h) rfl hHeld (fun w h => exec_load_en wr.heap.size 0 x w (KX.out w h.out)) ?_
        simp only [Act.put, List.setIfInBounds_toArray, List.set_cons_zero, List.set_cons_succ]
        refine held_call 9 49 93 #[enA y, enA x] rfl rfl (by kernel_rfl) rfl (exec_call Tryz.func93 (by kernel_rfl) (by kernel_rfl) _) ?_
        refine (CL.out _).mono ?_
        rintro e u1 ⟨rfl, x1⟩
        have k1 : Hid (Below u.heap.size u u1) := hHeld.out.trans (x1.mono hHeld.out.size)
        refine ⟨_, rfl, k1, ?_⟩
        simp only [Act.put, List.setIfInBounds_toArray, List.set_cons_zero, List.set_cons_succ]
        refine held_take 10 50 (.bool true) rfl rfl (by kernel_rfl) (by kernel_rfl) (by kernel_rfl) (fun _ _ _ h => h) rfl k1 (fun w _ => rfl) ?_
        refine held_take 11 51 (.bool true) rfl rfl (by kernel_rfl) (by kernel_rfl) (by kernel_rfl) (fun _ _ _ h => h) rfl k1 (fun w _ => exec_pickT _ w) ?_
        refine held_take 12 52 (.bool true) rfl rfl (by kernel_rfl) (by kernel_rfl) (by kernel_rfl) (fun _ _ _ h => h) rfl k1 (fun w _ => rfl) ?_
        simp only [Act.put, List.setIfInBounds_toArray, List.set_cons_zero, List.set_cons_succ]
        refine held_skip 13 53 rfl rfl (by kernel_rfl) (by kernel_rfl) (by kernel_rfl) (fun _ _ _ h => h) rfl k1 ?_
        refine held_skip 14 54 rfl rfl (by kernel_rfl) (by kernel_rfl) (by kernel_rfl) (fun _ _ _ h => h) rfl k1 ?_
        simp only [Act.put, List.setIfInBounds_toArray, List.set_cons_zero, List.set_cons_succ]
        refine held_skip 15 55 rfl rfl (by kernel_rfl) (by kernel_rfl) (by kernel_rfl) (fun _ _ _ h => h) rfl k1 ?_
        refine held_skip 16 56 rfl rfl (by kernel_rfl) (by kernel_rfl) (by kernel_rfl) (fun _ _ _ h => h) rfl k1 ?_
        simp only [Act.put, List.setIfInBounds_toArray, List.set_cons_zero, List.set_cons_succ]
        refine held_skip 17 57 rfl rfl (by kernel_rfl) (by kernel_rfl) (by kernel_rfl) (fun _ _ _ h => h) rfl k1 ?_
        refine held_skip 18 58 rfl rfl (by kernel_rfl) (by kernel_rfl) (by kernel_rfl) (fun _ _ _ h => h) rfl k1 ?_
        simp only [Act.put, List.setIfInBounds_toArray, List.set_cons_zero, List.set_cons_succ]
        refine held_take 19 59 (.bool true) rfl rfl (by kernel_rfl) (by kernel_rfl) (by kernel_rfl) (fun _ _ _ h => h) rfl k1 (fun w _ => exec_pickT _ w) ?_
        refine wpAnyH_done (by kernel_rfl) ?_ _
        have bF := Lib.hid (BF.out.trans (k1.out.mono BF.out.size))
        go_wp2
        go_ret
        exact ⟨by rw [HF.out] <;> rfl, bF.out⟩
end Go.Proofs.YtlflgflmlfileaaGreat
