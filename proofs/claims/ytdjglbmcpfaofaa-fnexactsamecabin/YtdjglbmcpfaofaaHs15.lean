/- WheelOk of the model. -/
import Derived.Test.YtdjglbmcpfaofaaRows
import Derived.Test.YtdjglbmcpfaofaaHs14
namespace Go.Proofs.Ytdjglbmcpfaofaa
open Go.RowKit
set_option linter.unusedSimpArgs false
set_option linter.unusedVariables false
set_option maxRecDepth 100000 in
theorem exec_fldPn0 {ρ : Operand → Value} {o : Oper} {x : Operand} (b off : Nat) (w : World) (ho : o.op = .fieldAddr 70 x 0 := by rfl) (hx : ρ x = .pointer (some ⟨b, off, none⟩) := by rfl) :
    (execOp ρ o).run Try.prog w = .ok (.value (.pointer (some ⟨b, off, none⟩))) w := by
  unfold execOp
  rw [ho]
  simp [go_sem, hx]
set_option maxRecDepth 100000 in
theorem exec_rem9 {ρ : Operand → Value} {o : Oper} {x : Operand} (X : Int) (w : World) (ho : o.op = .binOp .rem 3 x (.const (.int .i64 9)) 3 := by rfl) (hx : ρ x = .int .i64 X := by rfl) (hc : ρ (.const (.int .i64 9)) = .int .i64 9 := by rfl) :
    (execOp ρ o).run Try.prog w = .ok (.value (.int .i64 (X.tmod 9))) w := by
  have h1 : -9 < X.tmod 9 ∧ X.tmod 9 < 9 := ⟨Int.lt_tmod_of_pos _ (by omega), Int.tmod_lt_of_pos _ (by omega)⟩
  have h2 : IntKind.i64.wrap (X.tmod 9) = X.tmod 9 := by rw [IntKind.wrap_i64]; omega
  unfold execOp
  rw [ho]
  simp [go_sem, hx, hc, h2]
def Pn.inn (x : Pn) : Prop := (1 ≤ x.at_ ∧ x.at_ ≤ 1000008) ∧ (1 ≤ x.id ∧ x.id ≤ 999)
def pnsOk (q : List Pn) (n : Nat) : Prop := ∀ i, i < n → (q.getD i pn0).inn ∧ ∀ k, k < i → (q.getD k pn0).id ≠ (q.getD i pn0).id
def spokeOk (i : Nat) (l : List Pn) (n : Nat) : Prop := ∀ k, k < n → (l.getD k pn0).at_.tmod 9 = (i : Int) ∧ (0 < k → Pn.less (l.getD (k - 1) pn0) (l.getD k pn0))
/-- What WheelOk tells. -/
def wheelFine (ls : List (List Pn)) : Prop := ls.length = 9 ∧ ls.flatten.length ≤ 10 ∧ pnsOk ls.flatten ls.flatten.length ∧ ∀ i, i < ls.length → spokeOk i (ls.getD i []) (ls.getD i []).length
noncomputable def wheelB (ls : List (List Pn)) : Bool := @decide (wheelFine ls) (Classical.propDecidable _)
theorem wheelB_yes {ls : List (List Pn)} (h : wheelFine ls) : wheelB ls = true := by unfold wheelB; exact @decide_eq_true _ (Classical.propDecidable _) h
theorem wheelB_no {ls : List (List Pn)} (h : ¬ wheelFine ls) : wheelB ls = false := by unfold wheelB; exact @decide_eq_false _ (Classical.propDecidable _) h
theorem wheelB_iff {ls : List (List Pn)} (h : wheelB ls = true) : wheelFine ls := by unfold wheelB at h; exact @of_decide_eq_true _ (Classical.propDecidable _) h
theorem ls_at (sp : List Sp) (i : Nat) : (sp.map (fun s => s.l)).getD i [] = (sp.getD i sp0).l := by
  simp only [List.getD_eq_getElem?_getD, List.getElem?_map]
  cases sp[i]? <;> rfl
theorem ls_flat (sp : List Sp) : (sp.map (fun s => s.l)).flatten = allPn sp := by unfold allPn; rw [List.flatMap_def]
set_option maxRecDepth 100000 in
set_option maxHeartbeats 6400000 in
theorem wheelOk_spec (A : Option Addr) (sp : List Sp) (c : Nat) (w : World) (hn : sp.length ≤ 2097152) (hl : (allPn sp).length ≤ 2097152) (hA : Whl w A sp) :
    Calls Try.prog 64 #[.agg #[.slice A sp.length c]] w fun e w' => e = .returned (.bool (wheelB (sp.map (fun s => s.l)))) ∧ Below w.heap.size w w' := by
  have no : ∀ {e : Ending} {w' : World}, ¬ wheelFine (sp.map (fun s => s.l)) → (e = .returned (.bool false) ∧ Below w.heap.size w w') → (e = .returned (.bool (wheelB (sp.map (fun s => s.l)))) ∧ Below w.heap.size w w') := fun h x => ⟨by rw [wheelB_no h]; exact x.1, x.2⟩
  obtain ⟨R, hR⟩ : ∃ R, wheelB (sp.map (fun s => s.l)) = R := ⟨_, rfl⟩
  rw [hR]
  have NO : Hid (¬ wheelFine (sp.map (fun s => s.l)) → R = false) := fun h => by rw [← hR]; exact wheelB_no h
  have YES : Hid (wheelFine (sp.map (fun s => s.l)) → R = true) := fun h => by rw [← hR]; exact wheelB_yes h
  clear no hR
  have b0 : Below w.heap.size w (w.alloc (.cells #[.slice A sp.length c] 36)) := (Below.refl _ _).alloc (Nat.le_refl _) _
  have CA := Lib.hid (l9All_spec A sp c (w.alloc (.cells #[.slice A sp.length c] 36)) hn hl (hA.below b0))
  clear b0
  go_enter Try.func64, Try.ntmps64
  go_wp2_with fail
  refine CA.out.mono ?_
  rintro e w1 ⟨L, cl, rfl, oL, b1⟩
  have q0 := boxk w w1 _ _ b1 0 _ rfl
  have HX : Hid (w1.heap[w.heap.size]? = some (.cells #[.slice A sp.length c] 36)) := blk_call (heap_new _ _) b1
  have bW := Lib.hid (boxB w w1 _ b1)
  have RL := own_rws oL
  clear b1 CA oL
  by_cases g9 : sp.length = 9
  rotate_left
  · have e9 : ((sp.length : Int) != 9) = true := by simp; omega
    have HF : Hid (R = false) := NO.out (fun h => g9 (by have := h.1; simpa using this))
    go_wp2
    go_ret
    exact ⟨by rw [HF.out] <;> rfl, bW.out⟩
  have e9 : ((sp.length : Int) != 9) = false := by simp; omega
  by_cases g10 : (allPn sp).length ≤ 10
  rotate_left
  · have HF : Hid (R = false) := NO.out (fun h => g10 (by have := h.2.1; rw [ls_flat] at this; exact this))
    go_wp2
    go_ret
    exact ⟨by rw [HF.out] <;> rfl, bW.out⟩
  obtain ⟨q, hq⟩ : ∃ q, allPn sp = q := ⟨_, rfl⟩
  rw [hq] at RL g10
  have HQ := Lib.hid hq
  rw [hq] at hl ⊢
  clear hq hl
  go_wp2_with fail
  go_loopw [4] (fun vi wr => ∃ (i n : Nat), i ≤ q.length ∧ vi = .int .i64 i ∧ pnsOk q i ∧ wr = w1.drewN n) (fun vi _ => q.length - (intOf vi).toNat)
  case atStart => exact ⟨0, 0, by omega, rfl, (fun j hj => by omega), rfl⟩
  case round =>
    obtain ⟨i, n, hi0, rfl, hall, rfl⟩ := hrel
    by_cases hi : i < q.length
    · obtain ⟨b, off, rfl, hbB, hx⟩ := RL.pn hi
      by_cases g1 : (q.getD i pn0).inn
      rotate_left
      · have HF : Hid (R = false) := NO.out (fun h => g1 (by have := h.2.2.1; rw [ls_flat, HQ.out] at this; exact (this i hi).1))
        clear hall
        generalize q.getD i pn0 = x at *
        obtain ⟨c0, c1⟩ := hx
        unfold Pn.inn at g1
        by_cases g2 : 1 ≤ x.at_ ∧ x.at_ ≤ 1000008
        · have g3 : ¬ (1 ≤ x.id ∧ x.id ≤ 999) := fun h => g1 ⟨g2, h⟩
          clear g1
          go_wp2_with (go_at_call 45; first | (refine (l1In_yes _ _ _ _ (by omega)).mono ?_; rintro e w' ⟨rfl, rfl⟩) | (refine (l1In_no _ _ _ _ (by omega)).mono ?_; rintro e w' ⟨rfl, rfl⟩))
          go_ret
          exact ⟨by rw [HF.out] <;> rfl, below_drawn bW.out _⟩
        · clear g1
          go_wp2_with (go_at_call 45; first | (refine (l1In_yes _ _ _ _ (by omega)).mono ?_; rintro e w' ⟨rfl, rfl⟩) | (refine (l1In_no _ _ _ _ (by omega)).mono ?_; rintro e w' ⟨rfl, rfl⟩))
          go_ret
          exact ⟨by rw [HF.out] <;> rfl, below_drawn bW.out _⟩
      have hx1 := hx
      obtain ⟨⟨i1, i2⟩, i3, i4⟩ := id g1
      have GX := Lib.hid g1
      obtain ⟨x, ex⟩ : ∃ x, q.getD i pn0 = x := ⟨_, rfl⟩
      rw [ex] at i1 i2 i3 i4 hx hx1
      have EX := Lib.hid ex
      clear ex g1
      obtain ⟨c0, c1⟩ := hx
      have HA := Lib.hid hall
      clear hall hx1
      go_wp2_with (go_at_call 45; first | (refine (l1In_yes _ _ _ _ (by omega)).mono ?_; rintro e w' ⟨rfl, rfl⟩) | (refine (l1In_no _ _ _ _ (by omega)).mono ?_; rintro e w' ⟨rfl, rfl⟩))
      go_loopw [5] (fun vk wr => ∃ (k m : Nat), k ≤ i ∧ vk = .int .i64 k ∧ (∀ j, j < k → (q.getD j pn0).id ≠ x.id) ∧ wr = w1.drewN m) (fun vk _ => i - (intOf vk).toNat)
      case atStart => exact ⟨0, n, by omega, rfl, (fun j hj => by omega), rfl⟩
      case round =>
        obtain ⟨k, m, hk, rfl, hne, rfl⟩ := hrel
        by_cases hki : k < i
        · obtain ⟨b', off', he, hbB', hy⟩ := RL.pn (i := k) (by omega)
          obtain ⟨rfl, rfl⟩ : b = b' ∧ off = off' := by injection he with he; injection he with h1 h2; exact ⟨h1, h2⟩
          obtain ⟨_, d1⟩ := hy
          clear he
          by_cases g4 : (q.getD k pn0).id = x.id
          · have HF : Hid (R = false) := NO.out (fun h => by have h2 := h.2.2.1; rw [ls_flat, HQ.out] at h2; have := (h2 i hi).2 k hki; rw [EX.out] at this; exact this g4)
            generalize q.getD k pn0 = y at *
            have e4 : (y.id == x.id) = true := by simp [g4]
            clear hne g4
            go_wp2_with fail
            go_quiet (fail)
            go_wp2
            go_ret
            exact ⟨by rw [HF.out] <;> rfl, below_drawn (below_drawn bW.out _) _⟩
          · have hne' : ∀ j, j < k + 1 → (q.getD j pn0).id ≠ x.id := by
              intro j hj
              by_cases e : j = k
              · subst e; exact g4
              · exact hne j (by omega)
            have HN := Lib.hid hne'
            clear hne hne'
            generalize q.getD k pn0 = y at *
            have e4 : (y.id == x.id) = false := by simp [g4]
            clear g4
            go_wp2_with fail
            go_quiet (fail)
            go_wp2
            go_roundw
            case rel => exact ⟨k + 1, _, by omega, by go_num, HN.out, rfl⟩
            case measure => simp [intOf] <;> omega
        · obtain rfl : k = i := by omega
          have HP : Hid (pnsOk q (k + 1)) := by
            intro j hj
            by_cases e : j = k
            · subst e; rw [EX.out]; exact ⟨by rw [← EX.out]; exact GX.out, hne⟩
            · exact HA.out j (by omega)
          clear hne HA
          go_wp2
          go_roundw
          case rel => exact ⟨k + 1, _, by omega, by go_num, HP.out, rfl⟩
          case measure => simp [intOf] <;> omega
    · obtain rfl : i = q.length := by omega
      have HP := Lib.hid hall
      have b2 : Below w1.heap.size w1 (w1.drewN n) := below_drawn (Below.refl _ _) _
      generalize w1.drewN n = w2 at *
      have HX := Lib.hid (blk_call HX.out b2)
      have bW := Lib.hid (bW.out.trans (b2.mono bW.out.size))
      clear hall b2 RL q0 hi
      go_wp2_with fail
      go_loopw [6] (fun vi wr => ∃ (i : Nat), i ≤ 9 ∧ vi = .int .i64 i ∧ (∀ j, j < i → spokeOk j (sp.getD j sp0).l (sp.getD j sp0).l.length) ∧ Below w2.heap.size w2 wr) (fun vi _ => 9 - (intOf vi).toNat)
      case atStart => exact ⟨0, by omega, rfl, (fun j hj => by omega), Below.refl _ _⟩
      case round =>
        obtain ⟨i, hi0, rfl, hall, hb⟩ := hrel
        have hW := (hA.below bW.out).below hb
        have c0 := cell_of_row _ _ 0 _ _ _ (blk_call HX.out hb)
        simp at c0
        by_cases hi : i < sp.length
        · have hs := hW.at_ hi
          obtain ⟨b, off, rfl, hbB, hc⟩ := hW.row.sp hi
          obtain ⟨s, es⟩ : ∃ s, sp.getD i sp0 = s := ⟨_, rfl⟩
          rw [es] at hs hc
          have hln : s.l.length ≤ 10 := by have := allPn_at_le sp i hi; rw [es, HQ.out] at this; omega
          have ES := Lib.hid es
          have HA2 := Lib.hid hall
          clear es hall
          obtain ⟨sa, scap, sl⟩ := s
          have hln : sl.length ≤ 10 := hln
          clear hs hc
          go_wp2_with fail
          go_loopw [7] (fun vk wr => ∃ (k : Nat), k ≤ sl.length ∧ vk = .int .i64 k ∧ spokeOk i sl k ∧ Below w2.heap.size w2 wr) (fun vk _ => sl.length - (intOf vk).toNat)
          case atStart => exact ⟨0, by omega, rfl, (fun j hj => by omega), hb⟩
          case round =>
            clear hb hW c0 hbB
            obtain ⟨k, hk0, rfl, hsp, hb⟩ := hrel
            have hW := (hA.below bW.out).below hb
            have hbx := blk_call HX.out hb
            have hs := hW.at_ hi
            obtain ⟨b', off', he, hbB, hc⟩ := hW.row.sp hi
            obtain ⟨rfl, rfl⟩ : b = b' ∧ off = off' := by injection he with he; injection he with h1 h2; exact ⟨h1, h2⟩
            rw [ES.out] at hs hc
            have c0 := cell_of_row _ _ 0 _ _ _ hbx
            simp at c0
            have hc : wr.cell? ⟨b, off + i, none⟩ = some (.slice sa sl.length scap) := hc
            have KB := Lib.hid (fun w' (h : Below wr.heap.size wr w') => cell_of_row _ _ 0 _ _ _ (blk_call hbx h))
            have KS := Lib.hid (fun w' (h : Below wr.heap.size wr w') => (h.cell (by exact hbB)).trans hc)
            clear he hbx hW
            by_cases hk : k < sl.length
            · obtain ⟨pb, po, rfl, hpB, hx⟩ := Rws.pn (show Rws wr wr.heap.size sa (sl.flatMap pnC) from hs.row) hk
              have hy : 0 < k → Pn.here wr pb (po + (k - 1) * 2) (sl.getD (k - 1) pn0) := fun h => by
                obtain ⟨pb', po', he, _, hy⟩ := Rws.pn (show Rws wr wr.heap.size (some ⟨pb, po, none⟩) (sl.flatMap pnC) from hs.row) (i := k - 1) (by omega)
                injection he with he; injection he with h1 h2; subst h1 h2; exact hy
              have HS := Lib.hid hsp
              have HB := Lib.hid hb
              have HBS := hb.size
              clear hs hsp hb
              by_cases ga : (sl.getD k pn0).at_.tmod 9 = (i : Int)
              rotate_left
              · have HF : Hid (R = false) := NO.out (fun h => by have h2 := h.2.2.2 i (by rw [List.length_map]; omega); rw [ls_at, ES.out] at h2; exact ga (h2 k hk).1)
                generalize sl.getD k pn0 = x at *
                have KX := Lib.hid (fun w' (h : Below wr.heap.size wr w') => Pn.here.below hx h hpB)
                have en : (x.at_.tmod 9 != (i : Int)) = true := by simp [ga]
                clear hx hy ga
                go_wp2_with fail
                refine wp_region_held_drew (S := fun w' => Hid (Below wr.heap.size wr w')) (by kernel_rfl) (below_drawn (Below.refl _ _) 1) (fun hHeld => ?_)
                refine held_take 0 74 (.pointer (some ⟨w.heap.size, 0, none⟩)) rfl rfl (by kernel_rfl) (by kernel_rfl) (by kernel_rfl) (fun _ _ _ h => h) rfl hHeld (fun w _ => exec_fldW _ w) ?_
                refine held_take 1 75 (.slice (some ⟨b, off, none⟩) sp.length c) rfl rfl (by kernel_rfl) (by kernel_rfl) (by kernel_rfl) (fun _ _ _ h => h) rfl hHeld (fun w hS => exec_loadSp _ _ 0 _ _ c w (.inr rfl) (KB.out w hS.out)) ?_
                refine held_take 2 76 (.int .i64 (i : Int)) rfl rfl (by kernel_rfl) (by kernel_rfl) (by kernel_rfl) (fun _ _ _ h => h) rfl hHeld (fun w _ => rfl) ?_
                simp only [Act.put, List.setIfInBounds_toArray, List.set_cons_zero, List.set_cons_succ]
                refine held_take 3 77 (.pointer (some ⟨b, off + i, none⟩)) rfl rfl (by kernel_rfl) (by kernel_rfl) (by kernel_rfl) (fun _ _ _ h => h) rfl hHeld (fun w _ => exec_idxSp b off sp.length c i w hi) ?_
                refine held_take 4 78 (.slice (some ⟨pb, po, none⟩) sl.length scap) rfl rfl (by kernel_rfl) (by kernel_rfl) (by kernel_rfl) (fun _ _ _ h => h) rfl hHeld (fun w hS => exec_loadSp _ b (off + i) _ _ _ w (.inl rfl) (KS.out w hS.out)) ?_
                refine held_take 5 79 (.int .i64 (k : Int)) rfl rfl (by kernel_rfl) (by kernel_rfl) (by kernel_rfl) (fun _ _ _ h => h) rfl hHeld (fun w _ => rfl) ?_
                simp only [Act.put, List.setIfInBounds_toArray, List.set_cons_zero, List.set_cons_succ]
                refine held_take 6 80 (.pointer (some ⟨pb, po + k * 2, none⟩)) rfl rfl (by kernel_rfl) (by kernel_rfl) (by kernel_rfl) (fun _ _ _ h => h) rfl hHeld (fun w _ => exec_idx_pn pb po sl.length scap k w hk) ?_
                refine held_take 7 81 (.pointer (some ⟨pb, po + k * 2, none⟩)) rfl rfl (by kernel_rfl) (by kernel_rfl) (by kernel_rfl) (fun _ _ _ h => h) rfl hHeld (fun w _ => exec_fldPn0 _ _ w) ?_
                refine held_take 8 82 (.int .i64 x.at_) rfl rfl (by kernel_rfl) (by kernel_rfl) (by kernel_rfl) (fun _ _ _ h => h) rfl hHeld (fun w hS => exec_load1 3 pb (po + k * 2) _ w (.inl rfl) (KX.out w hS.out).1) ?_
                simp only [Act.put, List.setIfInBounds_toArray, List.set_cons_zero, List.set_cons_succ]
                refine held_take 9 83 (.int .i64 (x.at_.tmod 9)) rfl rfl (by kernel_rfl) (by kernel_rfl) (by kernel_rfl) (fun _ _ _ h => h) rfl hHeld (fun w _ => exec_rem9 x.at_ w) ?_
                refine held_take 10 84 (.int .i64 (i : Int)) rfl rfl (by kernel_rfl) (by kernel_rfl) (by kernel_rfl) (fun _ _ _ h => h) rfl hHeld (fun w _ => rfl) ?_
                refine held_take 11 85 (.bool true) rfl rfl (by kernel_rfl) (by kernel_rfl) (by kernel_rfl) (fun _ _ _ h => h) rfl hHeld (fun w _ => exec_neqI (x.at_.tmod 9) (i : Int) _ w en) ?_
                simp only [Act.put, List.setIfInBounds_toArray, List.set_cons_zero, List.set_cons_succ]
                refine held_take 12 86 (.bool true) rfl rfl (by kernel_rfl) (by kernel_rfl) (by kernel_rfl) (fun _ _ _ h => h) rfl hHeld (fun w _ => rfl) ?_
                refine held_skip 13 87 rfl rfl (by kernel_rfl) (by kernel_rfl) (by kernel_rfl) (fun _ _ _ h => h) rfl hHeld ?_
                simp only [Act.put, List.setIfInBounds_toArray, List.set_cons_zero, List.set_cons_succ]
                refine held_skip 14 88 rfl rfl (by kernel_rfl) (by kernel_rfl) (by kernel_rfl) (fun _ _ _ h => h) rfl hHeld ?_
                refine held_skip 15 89 rfl rfl (by kernel_rfl) (by kernel_rfl) (by kernel_rfl) (fun _ _ _ h => h) rfl hHeld ?_
                simp only [Act.put, List.setIfInBounds_toArray, List.set_cons_zero, List.set_cons_succ]
                refine held_skip 16 90 rfl rfl (by kernel_rfl) (by kernel_rfl) (by kernel_rfl) (fun _ _ _ h => h) rfl hHeld ?_
                refine held_skip 17 91 rfl rfl (by kernel_rfl) (by kernel_rfl) (by kernel_rfl) (fun _ _ _ h => h) rfl hHeld ?_
                simp only [Act.put, List.setIfInBounds_toArray, List.set_cons_zero, List.set_cons_succ]
                refine held_skip 18 92 rfl rfl (by kernel_rfl) (by kernel_rfl) (by kernel_rfl) (fun _ _ _ h => h) rfl hHeld ?_
                refine held_skip 19 93 rfl rfl (by kernel_rfl) (by kernel_rfl) (by kernel_rfl) (fun _ _ _ h => h) rfl hHeld ?_
                simp only [Act.put, List.setIfInBounds_toArray, List.set_cons_zero, List.set_cons_succ]
                refine held_skip 20 94 rfl rfl (by kernel_rfl) (by kernel_rfl) (by kernel_rfl) (fun _ _ _ h => h) rfl hHeld ?_
                refine held_skip 21 95 rfl rfl (by kernel_rfl) (by kernel_rfl) (by kernel_rfl) (fun _ _ _ h => h) rfl hHeld ?_
                simp only [Act.put, List.setIfInBounds_toArray, List.set_cons_zero, List.set_cons_succ]
                refine held_skip 22 96 rfl rfl (by kernel_rfl) (by kernel_rfl) (by kernel_rfl) (fun _ _ _ h => h) rfl hHeld ?_
                refine held_skip 23 97 rfl rfl (by kernel_rfl) (by kernel_rfl) (by kernel_rfl) (fun _ _ _ h => h) rfl hHeld ?_
                simp only [Act.put, List.setIfInBounds_toArray, List.set_cons_zero, List.set_cons_succ]
                refine held_skip 24 98 rfl rfl (by kernel_rfl) (by kernel_rfl) (by kernel_rfl) (fun _ _ _ h => h) rfl hHeld ?_
                refine held_skip 25 99 rfl rfl (by kernel_rfl) (by kernel_rfl) (by kernel_rfl) (fun _ _ _ h => h) rfl hHeld ?_
                simp only [Act.put, List.setIfInBounds_toArray, List.set_cons_zero, List.set_cons_succ]
                refine held_skip 26 100 rfl rfl (by kernel_rfl) (by kernel_rfl) (by kernel_rfl) (fun _ _ _ h => h) rfl hHeld ?_
                refine held_skip 27 101 rfl rfl (by kernel_rfl) (by kernel_rfl) (by kernel_rfl) (fun _ _ _ h => h) rfl hHeld ?_
                simp only [Act.put, List.setIfInBounds_toArray, List.set_cons_zero, List.set_cons_succ]
                refine held_skip 28 102 rfl rfl (by kernel_rfl) (by kernel_rfl) (by kernel_rfl) (fun _ _ _ h => h) rfl hHeld ?_
                refine held_skip 29 103 rfl rfl (by kernel_rfl) (by kernel_rfl) (by kernel_rfl) (fun _ _ _ h => h) rfl hHeld ?_
                simp only [Act.put, List.setIfInBounds_toArray, List.set_cons_zero, List.set_cons_succ]
                refine held_skip 30 104 rfl rfl (by kernel_rfl) (by kernel_rfl) (by kernel_rfl) (fun _ _ _ h => h) rfl hHeld ?_
                refine held_skip 31 105 rfl rfl (by kernel_rfl) (by kernel_rfl) (by kernel_rfl) (fun _ _ _ h => h) rfl hHeld ?_
                simp only [Act.put, List.setIfInBounds_toArray, List.set_cons_zero, List.set_cons_succ]
                refine held_skip 32 106 rfl rfl (by kernel_rfl) (by kernel_rfl) (by kernel_rfl) (fun _ _ _ h => h) rfl hHeld ?_
                refine held_skip 33 107 rfl rfl (by kernel_rfl) (by kernel_rfl) (by kernel_rfl) (fun _ _ _ h => h) rfl hHeld ?_
                simp only [Act.put, List.setIfInBounds_toArray, List.set_cons_zero, List.set_cons_succ]
                refine held_skip 34 108 rfl rfl (by kernel_rfl) (by kernel_rfl) (by kernel_rfl) (fun _ _ _ h => h) rfl hHeld ?_
                refine held_skip 35 109 rfl rfl (by kernel_rfl) (by kernel_rfl) (by kernel_rfl) (fun _ _ _ h => h) rfl hHeld ?_
                simp only [Act.put, List.setIfInBounds_toArray, List.set_cons_zero, List.set_cons_succ]
                refine held_take 36 110 (.bool true) rfl rfl (by kernel_rfl) (by kernel_rfl) (by kernel_rfl) (fun _ _ _ h => h) rfl hHeld (fun w _ => exec_pickT _ w) ?_
                refine wpAnyH_done (by kernel_rfl) ?_ _
                have bF := Lib.hid (bW.out.trans ((HB.out.trans (hHeld.out.mono HBS)).mono bW.out.size))
                clear hHeld
                go_wp2
                go_ret
                exact ⟨by rw [HF.out] <;> rfl, bF.out⟩
              by_cases gk : k = 0
              · subst gk
                have HP2 : Hid (spokeOk i sl (0 + 1)) := fun j hj => by
                  obtain rfl : j = 0 := by omega
                  exact ⟨ga, fun h => by omega⟩
                generalize sl.getD 0 pn0 = x at *
                have KX := Lib.hid (fun w' (h : Below wr.heap.size wr w') => Pn.here.below hx h hpB)
                have en : (x.at_.tmod 9 != (i : Int)) = false := by simp [ga]
                clear hx hy ga
                go_wp2_with fail
                refine wp_region_held_drew (S := fun w' => Hid (Below wr.heap.size wr w')) (by kernel_rfl) (below_drawn (Below.refl _ _) 1) (fun hHeld => ?_)
                refine held_take 0 74 (.pointer (some ⟨w.heap.size, 0, none⟩)) rfl rfl (by kernel_rfl) (by kernel_rfl) (by kernel_rfl) (fun _ _ _ h => h) rfl hHeld (fun w _ => exec_fldW _ w) ?_
                refine held_take 1 75 (.slice (some ⟨b, off, none⟩) sp.length c) rfl rfl (by kernel_rfl) (by kernel_rfl) (by kernel_rfl) (fun _ _ _ h => h) rfl hHeld (fun w hS => exec_loadSp _ _ 0 _ _ c w (.inr rfl) (KB.out w hS.out)) ?_
                refine held_take 2 76 (.int .i64 (i : Int)) rfl rfl (by kernel_rfl) (by kernel_rfl) (by kernel_rfl) (fun _ _ _ h => h) rfl hHeld (fun w _ => rfl) ?_
                simp only [Act.put, List.setIfInBounds_toArray, List.set_cons_zero, List.set_cons_succ]
                refine held_take 3 77 (.pointer (some ⟨b, off + i, none⟩)) rfl rfl (by kernel_rfl) (by kernel_rfl) (by kernel_rfl) (fun _ _ _ h => h) rfl hHeld (fun w _ => exec_idxSp b off sp.length c i w hi) ?_
                refine held_take 4 78 (.slice (some ⟨pb, po, none⟩) sl.length scap) rfl rfl (by kernel_rfl) (by kernel_rfl) (by kernel_rfl) (fun _ _ _ h => h) rfl hHeld (fun w hS => exec_loadSp _ b (off + i) _ _ _ w (.inl rfl) (KS.out w hS.out)) ?_
                refine held_take 5 79 (.int .i64 ((0 : Nat) : Int)) rfl rfl (by kernel_rfl) (by kernel_rfl) (by kernel_rfl) (fun _ _ _ h => h) rfl hHeld (fun w _ => rfl) ?_
                simp only [Act.put, List.setIfInBounds_toArray, List.set_cons_zero, List.set_cons_succ]
                refine held_take 6 80 (.pointer (some ⟨pb, po + 0 * 2, none⟩)) rfl rfl (by kernel_rfl) (by kernel_rfl) (by kernel_rfl) (fun _ _ _ h => h) rfl hHeld (fun w _ => exec_idx_pn pb po sl.length scap 0 w hk) ?_
                refine held_take 7 81 (.pointer (some ⟨pb, po + 0 * 2, none⟩)) rfl rfl (by kernel_rfl) (by kernel_rfl) (by kernel_rfl) (fun _ _ _ h => h) rfl hHeld (fun w _ => exec_fldPn0 _ _ w) ?_
                refine held_take 8 82 (.int .i64 x.at_) rfl rfl (by kernel_rfl) (by kernel_rfl) (by kernel_rfl) (fun _ _ _ h => h) rfl hHeld (fun w hS => exec_load1 3 pb (po + 0 * 2) _ w (.inl rfl) (KX.out w hS.out).1) ?_
                simp only [Act.put, List.setIfInBounds_toArray, List.set_cons_zero, List.set_cons_succ]
                refine held_take 9 83 (.int .i64 (x.at_.tmod 9)) rfl rfl (by kernel_rfl) (by kernel_rfl) (by kernel_rfl) (fun _ _ _ h => h) rfl hHeld (fun w _ => exec_rem9 x.at_ w) ?_
                refine held_take 10 84 (.int .i64 (i : Int)) rfl rfl (by kernel_rfl) (by kernel_rfl) (by kernel_rfl) (fun _ _ _ h => h) rfl hHeld (fun w _ => rfl) ?_
                refine held_take 11 85 (.bool false) rfl rfl (by kernel_rfl) (by kernel_rfl) (by kernel_rfl) (fun _ _ _ h => h) rfl hHeld (fun w _ => exec_neqI (x.at_.tmod 9) (i : Int) _ w en) ?_
                simp only [Act.put, List.setIfInBounds_toArray, List.set_cons_zero, List.set_cons_succ]
                refine held_take 12 86 (.bool false) rfl rfl (by kernel_rfl) (by kernel_rfl) (by kernel_rfl) (fun _ _ _ h => h) rfl hHeld (fun w _ => rfl) ?_
                refine held_take 13 87 (.int .i64 ((0 : Nat) : Int)) rfl rfl (by kernel_rfl) (by kernel_rfl) (by kernel_rfl) (fun _ _ _ h => h) rfl hHeld (fun w _ => rfl) ?_
                refine held_take 14 88 (.bool false) rfl rfl (by kernel_rfl) (by kernel_rfl) (by kernel_rfl) (fun _ _ _ h => h) rfl hHeld (fun w _ => exec_gtrI ((0 : Nat) : Int) 0 _ w (by simp)) ?_
                simp only [Act.put, List.setIfInBounds_toArray, List.set_cons_zero, List.set_cons_succ]
                refine held_take 15 89 (.bool false) rfl rfl (by kernel_rfl) (by kernel_rfl) (by kernel_rfl) (fun _ _ _ h => h) rfl hHeld (fun w _ => rfl) ?_
                refine held_skip 16 90 rfl rfl (by kernel_rfl) (by kernel_rfl) (by kernel_rfl) (fun _ _ _ h => h) rfl hHeld ?_
                simp only [Act.put, List.setIfInBounds_toArray, List.set_cons_zero, List.set_cons_succ]
                refine held_skip 17 91 rfl rfl (by kernel_rfl) (by kernel_rfl) (by kernel_rfl) (fun _ _ _ h => h) rfl hHeld ?_
                refine held_skip 18 92 rfl rfl (by kernel_rfl) (by kernel_rfl) (by kernel_rfl) (fun _ _ _ h => h) rfl hHeld ?_
                simp only [Act.put, List.setIfInBounds_toArray, List.set_cons_zero, List.set_cons_succ]
                refine held_skip 19 93 rfl rfl (by kernel_rfl) (by kernel_rfl) (by kernel_rfl) (fun _ _ _ h => h) rfl hHeld ?_
                refine held_skip 20 94 rfl rfl (by kernel_rfl) (by kernel_rfl) (by kernel_rfl) (fun _ _ _ h => h) rfl hHeld ?_
                simp only [Act.put, List.setIfInBounds_toArray, List.set_cons_zero, List.set_cons_succ]
                refine held_skip 21 95 rfl rfl (by kernel_rfl) (by kernel_rfl) (by kernel_rfl) (fun _ _ _ h => h) rfl hHeld ?_
                refine held_skip 22 96 rfl rfl (by kernel_rfl) (by kernel_rfl) (by kernel_rfl) (fun _ _ _ h => h) rfl hHeld ?_
                simp only [Act.put, List.setIfInBounds_toArray, List.set_cons_zero, List.set_cons_succ]
                refine held_skip 23 97 rfl rfl (by kernel_rfl) (by kernel_rfl) (by kernel_rfl) (fun _ _ _ h => h) rfl hHeld ?_
                refine held_skip 24 98 rfl rfl (by kernel_rfl) (by kernel_rfl) (by kernel_rfl) (fun _ _ _ h => h) rfl hHeld ?_
                simp only [Act.put, List.setIfInBounds_toArray, List.set_cons_zero, List.set_cons_succ]
                refine held_skip 25 99 rfl rfl (by kernel_rfl) (by kernel_rfl) (by kernel_rfl) (fun _ _ _ h => h) rfl hHeld ?_
                refine held_skip 26 100 rfl rfl (by kernel_rfl) (by kernel_rfl) (by kernel_rfl) (fun _ _ _ h => h) rfl hHeld ?_
                simp only [Act.put, List.setIfInBounds_toArray, List.set_cons_zero, List.set_cons_succ]
                refine held_skip 27 101 rfl rfl (by kernel_rfl) (by kernel_rfl) (by kernel_rfl) (fun _ _ _ h => h) rfl hHeld ?_
                refine held_skip 28 102 rfl rfl (by kernel_rfl) (by kernel_rfl) (by kernel_rfl) (fun _ _ _ h => h) rfl hHeld ?_
                simp only [Act.put, List.setIfInBounds_toArray, List.set_cons_zero, List.set_cons_succ]
                refine held_skip 29 103 rfl rfl (by kernel_rfl) (by kernel_rfl) (by kernel_rfl) (fun _ _ _ h => h) rfl hHeld ?_
                refine held_skip 30 104 rfl rfl (by kernel_rfl) (by kernel_rfl) (by kernel_rfl) (fun _ _ _ h => h) rfl hHeld ?_
                simp only [Act.put, List.setIfInBounds_toArray, List.set_cons_zero, List.set_cons_succ]
                refine held_skip 31 105 rfl rfl (by kernel_rfl) (by kernel_rfl) (by kernel_rfl) (fun _ _ _ h => h) rfl hHeld ?_
                refine held_skip 32 106 rfl rfl (by kernel_rfl) (by kernel_rfl) (by kernel_rfl) (fun _ _ _ h => h) rfl hHeld ?_
                simp only [Act.put, List.setIfInBounds_toArray, List.set_cons_zero, List.set_cons_succ]
                refine held_skip 33 107 rfl rfl (by kernel_rfl) (by kernel_rfl) (by kernel_rfl) (fun _ _ _ h => h) rfl hHeld ?_
                refine held_skip 34 108 rfl rfl (by kernel_rfl) (by kernel_rfl) (by kernel_rfl) (fun _ _ _ h => h) rfl hHeld ?_
                simp only [Act.put, List.setIfInBounds_toArray, List.set_cons_zero, List.set_cons_succ]
                refine held_take 35 109 (.bool false) rfl rfl (by kernel_rfl) (by kernel_rfl) (by kernel_rfl) (fun _ _ _ h => h) rfl hHeld (fun w _ => exec_pickF _ w) ?_
                refine held_take 36 110 (.bool false) rfl rfl (by kernel_rfl) (by kernel_rfl) (by kernel_rfl) (fun _ _ _ h => h) rfl hHeld (fun w _ => exec_pickF _ w) ?_
                refine wpAnyH_done (by kernel_rfl) ?_ _
                have BF := Lib.hid (HB.out.trans (hHeld.out.mono HBS))
                clear hHeld HB
                go_wp2
                go_roundw
                case rel => exact ⟨0 + 1, by omega, by go_num, HP2.out, BF.out⟩
                case measure => simp [intOf] <;> omega
              have gk : 0 < k := by omega
              have hy := hy gk
              by_cases gl : Pn.less (sl.getD (k - 1) pn0) (sl.getD k pn0)
              · have HP2 : Hid (spokeOk i sl (k + 1)) := fun j hj => by
                  by_cases e : j = k
                  · subst e; exact ⟨ga, fun _ => gl⟩
                  · exact HS.out j (by omega)
                have HL : Hid (decide (Pn.less (sl.getD (k - 1) pn0) (sl.getD k pn0)) = true) := decide_eq_true gl
                clear gl
                generalize sl.getD k pn0 = x at *
                generalize sl.getD (k - 1) pn0 = y at *
                have CL := Lib.hid (fun w => l9Less_spec y x w)
                rw [HL.out] at CL
                have KX := Lib.hid (fun w' (h : Below wr.heap.size wr w') => Pn.here.below hx h hpB)
                have KY := Lib.hid (fun w' (h : Below wr.heap.size wr w') => Pn.here.below hy h hpB)
                have en : (x.at_.tmod 9 != (i : Int)) = false := by simp [ga]
                clear hx hy ga
                go_wp2_with fail
                refine wp_region_held_drew (S := fun w' => Hid (Below wr.heap.size wr w')) (by kernel_rfl) (below_drawn (Below.refl _ _) 1) (fun hHeld => ?_)
                refine held_take 0 74 (.pointer (some ⟨w.heap.size, 0, none⟩)) rfl rfl (by kernel_rfl) (by kernel_rfl) (by kernel_rfl) (fun _ _ _ h => h) rfl hHeld (fun w _ => exec_fldW _ w) ?_
                refine held_take 1 75 (.slice (some ⟨b, off, none⟩) sp.length c) rfl rfl (by kernel_rfl) (by kernel_rfl) (by kernel_rfl) (fun _ _ _ h => h) rfl hHeld (fun w hS => exec_loadSp _ _ 0 _ _ c w (.inr rfl) (KB.out w hS.out)) ?_
                refine held_take 2 76 (.int .i64 (i : Int)) rfl rfl (by kernel_rfl) (by kernel_rfl) (by kernel_rfl) (fun _ _ _ h => h) rfl hHeld (fun w _ => rfl) ?_
                simp only [Act.put, List.setIfInBounds_toArray, List.set_cons_zero, List.set_cons_succ]
                refine held_take 3 77 (.pointer (some ⟨b, off + i, none⟩)) rfl rfl (by kernel_rfl) (by kernel_rfl) (by kernel_rfl) (fun _ _ _ h => h) rfl hHeld (fun w _ => exec_idxSp b off sp.length c i w hi) ?_
                refine held_take 4 78 (.slice (some ⟨pb, po, none⟩) sl.length scap) rfl rfl (by kernel_rfl) (by kernel_rfl) (by kernel_rfl) (fun _ _ _ h => h) rfl hHeld (fun w hS => exec_loadSp _ b (off + i) _ _ _ w (.inl rfl) (KS.out w hS.out)) ?_
                refine held_take 5 79 (.int .i64 (k : Int)) rfl rfl (by kernel_rfl) (by kernel_rfl) (by kernel_rfl) (fun _ _ _ h => h) rfl hHeld (fun w _ => rfl) ?_
                simp only [Act.put, List.setIfInBounds_toArray, List.set_cons_zero, List.set_cons_succ]
                refine held_take 6 80 (.pointer (some ⟨pb, po + k * 2, none⟩)) rfl rfl (by kernel_rfl) (by kernel_rfl) (by kernel_rfl) (fun _ _ _ h => h) rfl hHeld (fun w _ => exec_idx_pn pb po sl.length scap k w hk) ?_
                refine held_take 7 81 (.pointer (some ⟨pb, po + k * 2, none⟩)) rfl rfl (by kernel_rfl) (by kernel_rfl) (by kernel_rfl) (fun _ _ _ h => h) rfl hHeld (fun w _ => exec_fldPn0 _ _ w) ?_
                refine held_take 8 82 (.int .i64 x.at_) rfl rfl (by kernel_rfl) (by kernel_rfl) (by kernel_rfl) (fun _ _ _ h => h) rfl hHeld (fun w hS => exec_load1 3 pb (po + k * 2) _ w (.inl rfl) (KX.out w hS.out).1) ?_
                simp only [Act.put, List.setIfInBounds_toArray, List.set_cons_zero, List.set_cons_succ]
                refine held_take 9 83 (.int .i64 (x.at_.tmod 9)) rfl rfl (by kernel_rfl) (by kernel_rfl) (by kernel_rfl) (fun _ _ _ h => h) rfl hHeld (fun w _ => exec_rem9 x.at_ w) ?_
                refine held_take 10 84 (.int .i64 (i : Int)) rfl rfl (by kernel_rfl) (by kernel_rfl) (by kernel_rfl) (fun _ _ _ h => h) rfl hHeld (fun w _ => rfl) ?_
                refine held_take 11 85 (.bool false) rfl rfl (by kernel_rfl) (by kernel_rfl) (by kernel_rfl) (fun _ _ _ h => h) rfl hHeld (fun w _ => exec_neqI (x.at_.tmod 9) (i : Int) _ w en) ?_
                simp only [Act.put, List.setIfInBounds_toArray, List.set_cons_zero, List.set_cons_succ]
                refine held_take 12 86 (.bool false) rfl rfl (by kernel_rfl) (by kernel_rfl) (by kernel_rfl) (fun _ _ _ h => h) rfl hHeld (fun w _ => rfl) ?_
                refine held_take 13 87 (.int .i64 (k : Int)) rfl rfl (by kernel_rfl) (by kernel_rfl) (by kernel_rfl) (fun _ _ _ h => h) rfl hHeld (fun w _ => rfl) ?_
                refine held_take 14 88 (.bool true) rfl rfl (by kernel_rfl) (by kernel_rfl) (by kernel_rfl) (fun _ _ _ h => h) rfl hHeld (fun w _ => exec_gtrI (k : Int) 0 _ w (by simp; omega)) ?_
                simp only [Act.put, List.setIfInBounds_toArray, List.set_cons_zero, List.set_cons_succ]
                refine held_take 15 89 (.bool true) rfl rfl (by kernel_rfl) (by kernel_rfl) (by kernel_rfl) (fun _ _ _ h => h) rfl hHeld (fun w _ => rfl) ?_
                refine held_take 16 90 (.pointer (some ⟨w.heap.size, 0, none⟩)) rfl rfl (by kernel_rfl) (by kernel_rfl) (by kernel_rfl) (fun _ _ _ h => h) rfl hHeld (fun w _ => exec_fldW _ w) ?_
                refine held_take 17 91 (.slice (some ⟨b, off, none⟩) sp.length c) rfl rfl (by kernel_rfl) (by kernel_rfl) (by kernel_rfl) (fun _ _ _ h => h) rfl hHeld (fun w hS => exec_loadSp _ _ 0 _ _ c w (.inr rfl) (KB.out w hS.out)) ?_
                simp only [Act.put, List.setIfInBounds_toArray, List.set_cons_zero, List.set_cons_succ]
                refine held_take 18 92 (.int .i64 (i : Int)) rfl rfl (by kernel_rfl) (by kernel_rfl) (by kernel_rfl) (fun _ _ _ h => h) rfl hHeld (fun w _ => rfl) ?_
                refine held_take 19 93 (.pointer (some ⟨b, off + i, none⟩)) rfl rfl (by kernel_rfl) (by kernel_rfl) (by kernel_rfl) (fun _ _ _ h => h) rfl hHeld (fun w _ => exec_idxSp b off sp.length c i w hi) ?_
                refine held_take 20 94 (.slice (some ⟨pb, po, none⟩) sl.length scap) rfl rfl (by kernel_rfl) (by kernel_rfl) (by kernel_rfl) (fun _ _ _ h => h) rfl hHeld (fun w hS => exec_loadSp _ b (off + i) _ _ _ w (.inl rfl) (KS.out w hS.out)) ?_
                simp only [Act.put, List.setIfInBounds_toArray, List.set_cons_zero, List.set_cons_succ]
                refine held_take 21 95 (.int .i64 (k : Int)) rfl rfl (by kernel_rfl) (by kernel_rfl) (by kernel_rfl) (fun _ _ _ h => h) rfl hHeld (fun w _ => rfl) ?_
                refine held_take 22 96 (.int .i64 ((k - 1 : Nat) : Int)) rfl rfl (by kernel_rfl) (by kernel_rfl) (by kernel_rfl) (fun _ _ _ h => h) rfl hHeld (fun w _ => exec_subI (k : Int) 1 _ w (by omega) (by omega) (by omega)) ?_
                refine held_take 23 97 (.pointer (some ⟨pb, po + (k - 1) * 2, none⟩)) rfl rfl (by kernel_rfl) (by kernel_rfl) (by kernel_rfl) (fun _ _ _ h => h) rfl hHeld (fun w _ => exec_idx_pn pb po sl.length scap (k - 1) w (by omega)) ?_
                simp only [Act.put, List.setIfInBounds_toArray, List.set_cons_zero, List.set_cons_succ]
                refine held_take 24 98 (pnA y) rfl rfl (by kernel_rfl) (by kernel_rfl) (by kernel_rfl) (fun _ _ _ h => h) rfl hHeld (fun w hS => exec_load_pn pb (po + (k - 1) * 2) y w (KY.out w hS.out)) ?_
                refine held_take 25 99 (.pointer (some ⟨w.heap.size, 0, none⟩)) rfl rfl (by kernel_rfl) (by kernel_rfl) (by kernel_rfl) (fun _ _ _ h => h) rfl hHeld (fun w _ => exec_fldW _ w) ?_
                refine held_take 26 100 (.slice (some ⟨b, off, none⟩) sp.length c) rfl rfl (by kernel_rfl) (by kernel_rfl) (by kernel_rfl) (fun _ _ _ h => h) rfl hHeld (fun w hS => exec_loadSp _ _ 0 _ _ c w (.inr rfl) (KB.out w hS.out)) ?_
                simp only [Act.put, List.setIfInBounds_toArray, List.set_cons_zero, List.set_cons_succ]
                refine held_take 27 101 (.int .i64 (i : Int)) rfl rfl (by kernel_rfl) (by kernel_rfl) (by kernel_rfl) (fun _ _ _ h => h) rfl hHeld (fun w _ => rfl) ?_
                refine held_take 28 102 (.pointer (some ⟨b, off + i, none⟩)) rfl rfl (by kernel_rfl) (by kernel_rfl) (by kernel_rfl) (fun _ _ _ h => h) rfl hHeld (fun w _ => exec_idxSp b off sp.length c i w hi) ?_
                refine held_take 29 103 (.slice (some ⟨pb, po, none⟩) sl.length scap) rfl rfl (by kernel_rfl) (by kernel_rfl) (by kernel_rfl) (fun _ _ _ h => h) rfl hHeld (fun w hS => exec_loadSp _ b (off + i) _ _ _ w (.inl rfl) (KS.out w hS.out)) ?_
                simp only [Act.put, List.setIfInBounds_toArray, List.set_cons_zero, List.set_cons_succ]
                refine held_take 30 104 (.int .i64 (k : Int)) rfl rfl (by kernel_rfl) (by kernel_rfl) (by kernel_rfl) (fun _ _ _ h => h) rfl hHeld (fun w _ => rfl) ?_
                refine held_take 31 105 (.pointer (some ⟨pb, po + k * 2, none⟩)) rfl rfl (by kernel_rfl) (by kernel_rfl) (by kernel_rfl) (fun _ _ _ h => h) rfl hHeld (fun w _ => exec_idx_pn pb po sl.length scap k w hk) ?_
                refine held_take 32 106 (pnA x) rfl rfl (by kernel_rfl) (by kernel_rfl) (by kernel_rfl) (fun _ _ _ h => h) rfl hHeld (fun w hS => exec_load_pn pb (po + k * 2) x w (KX.out w hS.out)) ?_
                simp only [Act.put, List.setIfInBounds_toArray, List.set_cons_zero, List.set_cons_succ]
                refine held_call 33 107 84 #[pnA y, pnA x] rfl rfl (by kernel_rfl) rfl (exec_call Try.func84 (by kernel_rfl) (by kernel_rfl) _) ?_
                refine (CL.out _).mono ?_
                rintro e u1 ⟨rfl, x1⟩
                have k1 := hHeld.out.trans (x1.mono hHeld.out.size)
                refine ⟨_, rfl, k1, ?_⟩
                simp only [Act.put, List.setIfInBounds_toArray, List.set_cons_zero, List.set_cons_succ]
                refine held_take 34 108 (.bool false) rfl rfl (by kernel_rfl) (by kernel_rfl) (by kernel_rfl) (fun _ _ _ h => h) rfl k1 (fun w _ => rfl) ?_
                refine held_take 35 109 (.bool false) rfl rfl (by kernel_rfl) (by kernel_rfl) (by kernel_rfl) (fun _ _ _ h => h) rfl k1 (fun w _ => exec_pickT _ w) ?_
                refine held_take 36 110 (.bool false) rfl rfl (by kernel_rfl) (by kernel_rfl) (by kernel_rfl) (fun _ _ _ h => h) rfl k1 (fun w _ => exec_pickF _ w) ?_
                simp only [Act.put, List.setIfInBounds_toArray, List.set_cons_zero, List.set_cons_succ]
                refine wpAnyH_done (by kernel_rfl) ?_ _
                have BF := Lib.hid (HB.out.trans (k1.mono HBS))
                clear hHeld HB k1 x1
                go_wp2
                go_roundw
                case rel => exact ⟨k + 1, by omega, by go_num, HP2.out, BF.out⟩
                case measure => simp [intOf] <;> omega
              · have HF : Hid (R = false) := NO.out (fun h => by have h2 := h.2.2.2 i (by rw [List.length_map]; omega); rw [ls_at, ES.out] at h2; exact gl ((h2 k hk).2 gk))
                have HL : Hid (decide (Pn.less (sl.getD (k - 1) pn0) (sl.getD k pn0)) = false) := decide_eq_false gl
                clear gl
                generalize sl.getD k pn0 = x at *
                generalize sl.getD (k - 1) pn0 = y at *
                have CL := Lib.hid (fun w => l9Less_spec y x w)
                rw [HL.out] at CL
                have KX := Lib.hid (fun w' (h : Below wr.heap.size wr w') => Pn.here.below hx h hpB)
                have KY := Lib.hid (fun w' (h : Below wr.heap.size wr w') => Pn.here.below hy h hpB)
                have en : (x.at_.tmod 9 != (i : Int)) = false := by simp [ga]
                clear hx hy ga
                go_wp2_with fail
                refine wp_region_held_drew (S := fun w' => Hid (Below wr.heap.size wr w')) (by kernel_rfl) (below_drawn (Below.refl _ _) 1) (fun hHeld => ?_)
                refine held_take 0 74 (.pointer (some ⟨w.heap.size, 0, none⟩)) rfl rfl (by kernel_rfl) (by kernel_rfl) (by kernel_rfl) (fun _ _ _ h => h) rfl hHeld (fun w _ => exec_fldW _ w) ?_
                refine held_take 1 75 (.slice (some ⟨b, off, none⟩) sp.length c) rfl rfl (by kernel_rfl) (by kernel_rfl) (by kernel_rfl) (fun _ _ _ h => h) rfl hHeld (fun w hS => exec_loadSp _ _ 0 _ _ c w (.inr rfl) (KB.out w hS.out)) ?_
                refine held_take 2 76 (.int .i64 (i : Int)) rfl rfl (by kernel_rfl) (by kernel_rfl) (by kernel_rfl) (fun _ _ _ h => h) rfl hHeld (fun w _ => rfl) ?_
                simp only [Act.put, List.setIfInBounds_toArray, List.set_cons_zero, List.set_cons_succ]
                refine held_take 3 77 (.pointer (some ⟨b, off + i, none⟩)) rfl rfl (by kernel_rfl) (by kernel_rfl) (by kernel_rfl) (fun _ _ _ h => h) rfl hHeld (fun w _ => exec_idxSp b off sp.length c i w hi) ?_
                refine held_take 4 78 (.slice (some ⟨pb, po, none⟩) sl.length scap) rfl rfl (by kernel_rfl) (by kernel_rfl) (by kernel_rfl) (fun _ _ _ h => h) rfl hHeld (fun w hS => exec_loadSp _ b (off + i) _ _ _ w (.inl rfl) (KS.out w hS.out)) ?_
                refine held_take 5 79 (.int .i64 (k : Int)) rfl rfl (by kernel_rfl) (by kernel_rfl) (by kernel_rfl) (fun _ _ _ h => h) rfl hHeld (fun w _ => rfl) ?_
                simp only [Act.put, List.setIfInBounds_toArray, List.set_cons_zero, List.set_cons_succ]
                refine held_take 6 80 (.pointer (some ⟨pb, po + k * 2, none⟩)) rfl rfl (by kernel_rfl) (by kernel_rfl) (by kernel_rfl) (fun _ _ _ h => h) rfl hHeld (fun w _ => exec_idx_pn pb po sl.length scap k w hk) ?_
                refine held_take 7 81 (.pointer (some ⟨pb, po + k * 2, none⟩)) rfl rfl (by kernel_rfl) (by kernel_rfl) (by kernel_rfl) (fun _ _ _ h => h) rfl hHeld (fun w _ => exec_fldPn0 _ _ w) ?_
                refine held_take 8 82 (.int .i64 x.at_) rfl rfl (by kernel_rfl) (by kernel_rfl) (by kernel_rfl) (fun _ _ _ h => h) rfl hHeld (fun w hS => exec_load1 3 pb (po + k * 2) _ w (.inl rfl) (KX.out w hS.out).1) ?_
                simp only [Act.put, List.setIfInBounds_toArray, List.set_cons_zero, List.set_cons_succ]
                refine held_take 9 83 (.int .i64 (x.at_.tmod 9)) rfl rfl (by kernel_rfl) (by kernel_rfl) (by kernel_rfl) (fun _ _ _ h => h) rfl hHeld (fun w _ => exec_rem9 x.at_ w) ?_
                refine held_take 10 84 (.int .i64 (i : Int)) rfl rfl (by kernel_rfl) (by kernel_rfl) (by kernel_rfl) (fun _ _ _ h => h) rfl hHeld (fun w _ => rfl) ?_
                refine held_take 11 85 (.bool false) rfl rfl (by kernel_rfl) (by kernel_rfl) (by kernel_rfl) (fun _ _ _ h => h) rfl hHeld (fun w _ => exec_neqI (x.at_.tmod 9) (i : Int) _ w en) ?_
                simp only [Act.put, List.setIfInBounds_toArray, List.set_cons_zero, List.set_cons_succ]
                refine held_take 12 86 (.bool false) rfl rfl (by kernel_rfl) (by kernel_rfl) (by kernel_rfl) (fun _ _ _ h => h) rfl hHeld (fun w _ => rfl) ?_
                refine held_take 13 87 (.int .i64 (k : Int)) rfl rfl (by kernel_rfl) (by kernel_rfl) (by kernel_rfl) (fun _ _ _ h => h) rfl hHeld (fun w _ => rfl) ?_
                refine held_take 14 88 (.bool true) rfl rfl (by kernel_rfl) (by kernel_rfl) (by kernel_rfl) (fun _ _ _ h => h) rfl hHeld (fun w _ => exec_gtrI (k : Int) 0 _ w (by simp; omega)) ?_
                simp only [Act.put, List.setIfInBounds_toArray, List.set_cons_zero, List.set_cons_succ]
                refine held_take 15 89 (.bool true) rfl rfl (by kernel_rfl) (by kernel_rfl) (by kernel_rfl) (fun _ _ _ h => h) rfl hHeld (fun w _ => rfl) ?_
                refine held_take 16 90 (.pointer (some ⟨w.heap.size, 0, none⟩)) rfl rfl (by kernel_rfl) (by kernel_rfl) (by kernel_rfl) (fun _ _ _ h => h) rfl hHeld (fun w _ => exec_fldW _ w) ?_
                refine held_take 17 91 (.slice (some ⟨b, off, none⟩) sp.length c) rfl rfl (by kernel_rfl) (by kernel_rfl) (by kernel_rfl) (fun _ _ _ h => h) rfl hHeld (fun w hS => exec_loadSp _ _ 0 _ _ c w (.inr rfl) (KB.out w hS.out)) ?_
                simp only [Act.put, List.setIfInBounds_toArray, List.set_cons_zero, List.set_cons_succ]
                refine held_take 18 92 (.int .i64 (i : Int)) rfl rfl (by kernel_rfl) (by kernel_rfl) (by kernel_rfl) (fun _ _ _ h => h) rfl hHeld (fun w _ => rfl) ?_
                refine held_take 19 93 (.pointer (some ⟨b, off + i, none⟩)) rfl rfl (by kernel_rfl) (by kernel_rfl) (by kernel_rfl) (fun _ _ _ h => h) rfl hHeld (fun w _ => exec_idxSp b off sp.length c i w hi) ?_
                refine held_take 20 94 (.slice (some ⟨pb, po, none⟩) sl.length scap) rfl rfl (by kernel_rfl) (by kernel_rfl) (by kernel_rfl) (fun _ _ _ h => h) rfl hHeld (fun w hS => exec_loadSp _ b (off + i) _ _ _ w (.inl rfl) (KS.out w hS.out)) ?_
                simp only [Act.put, List.setIfInBounds_toArray, List.set_cons_zero, List.set_cons_succ]
                refine held_take 21 95 (.int .i64 (k : Int)) rfl rfl (by kernel_rfl) (by kernel_rfl) (by kernel_rfl) (fun _ _ _ h => h) rfl hHeld (fun w _ => rfl) ?_
                refine held_take 22 96 (.int .i64 ((k - 1 : Nat) : Int)) rfl rfl (by kernel_rfl) (by kernel_rfl) (by kernel_rfl) (fun _ _ _ h => h) rfl hHeld (fun w _ => exec_subI (k : Int) 1 _ w (by omega) (by omega) (by omega)) ?_
                refine held_take 23 97 (.pointer (some ⟨pb, po + (k - 1) * 2, none⟩)) rfl rfl (by kernel_rfl) (by kernel_rfl) (by kernel_rfl) (fun _ _ _ h => h) rfl hHeld (fun w _ => exec_idx_pn pb po sl.length scap (k - 1) w (by omega)) ?_
                simp only [Act.put, List.setIfInBounds_toArray, List.set_cons_zero, List.set_cons_succ]
                refine held_take 24 98 (pnA y) rfl rfl (by kernel_rfl) (by kernel_rfl) (by kernel_rfl) (fun _ _ _ h => h) rfl hHeld (fun w hS => exec_load_pn pb (po + (k - 1) * 2) y w (KY.out w hS.out)) ?_
                refine held_take 25 99 (.pointer (some ⟨w.heap.size, 0, none⟩)) rfl rfl (by kernel_rfl) (by kernel_rfl) (by kernel_rfl) (fun _ _ _ h => h) rfl hHeld (fun w _ => exec_fldW _ w) ?_
                refine held_take 26 100 (.slice (some ⟨b, off, none⟩) sp.length c) rfl rfl (by kernel_rfl) (by kernel_rfl) (by kernel_rfl) (fun _ _ _ h => h) rfl hHeld (fun w hS => exec_loadSp _ _ 0 _ _ c w (.inr rfl) (KB.out w hS.out)) ?_
                simp only [Act.put, List.setIfInBounds_toArray, List.set_cons_zero, List.set_cons_succ]
                refine held_take 27 101 (.int .i64 (i : Int)) rfl rfl (by kernel_rfl) (by kernel_rfl) (by kernel_rfl) (fun _ _ _ h => h) rfl hHeld (fun w _ => rfl) ?_
                refine held_take 28 102 (.pointer (some ⟨b, off + i, none⟩)) rfl rfl (by kernel_rfl) (by kernel_rfl) (by kernel_rfl) (fun _ _ _ h => h) rfl hHeld (fun w _ => exec_idxSp b off sp.length c i w hi) ?_
                refine held_take 29 103 (.slice (some ⟨pb, po, none⟩) sl.length scap) rfl rfl (by kernel_rfl) (by kernel_rfl) (by kernel_rfl) (fun _ _ _ h => h) rfl hHeld (fun w hS => exec_loadSp _ b (off + i) _ _ _ w (.inl rfl) (KS.out w hS.out)) ?_
                simp only [Act.put, List.setIfInBounds_toArray, List.set_cons_zero, List.set_cons_succ]
                refine held_take 30 104 (.int .i64 (k : Int)) rfl rfl (by kernel_rfl) (by kernel_rfl) (by kernel_rfl) (fun _ _ _ h => h) rfl hHeld (fun w _ => rfl) ?_
                refine held_take 31 105 (.pointer (some ⟨pb, po + k * 2, none⟩)) rfl rfl (by kernel_rfl) (by kernel_rfl) (by kernel_rfl) (fun _ _ _ h => h) rfl hHeld (fun w _ => exec_idx_pn pb po sl.length scap k w hk) ?_
                refine held_take 32 106 (pnA x) rfl rfl (by kernel_rfl) (by kernel_rfl) (by kernel_rfl) (fun _ _ _ h => h) rfl hHeld (fun w hS => exec_load_pn pb (po + k * 2) x w (KX.out w hS.out)) ?_
                simp only [Act.put, List.setIfInBounds_toArray, List.set_cons_zero, List.set_cons_succ]
                refine held_call 33 107 84 #[pnA y, pnA x] rfl rfl (by kernel_rfl) rfl (exec_call Try.func84 (by kernel_rfl) (by kernel_rfl) _) ?_
                refine (CL.out _).mono ?_
                rintro e u1 ⟨rfl, x1⟩
                have k1 := hHeld.out.trans (x1.mono hHeld.out.size)
                refine ⟨_, rfl, k1, ?_⟩
                simp only [Act.put, List.setIfInBounds_toArray, List.set_cons_zero, List.set_cons_succ]
                refine held_take 34 108 (.bool true) rfl rfl (by kernel_rfl) (by kernel_rfl) (by kernel_rfl) (fun _ _ _ h => h) rfl k1 (fun w _ => rfl) ?_
                refine held_take 35 109 (.bool true) rfl rfl (by kernel_rfl) (by kernel_rfl) (by kernel_rfl) (fun _ _ _ h => h) rfl k1 (fun w _ => exec_pickT _ w) ?_
                refine held_take 36 110 (.bool true) rfl rfl (by kernel_rfl) (by kernel_rfl) (by kernel_rfl) (fun _ _ _ h => h) rfl k1 (fun w _ => exec_pickF _ w) ?_
                simp only [Act.put, List.setIfInBounds_toArray, List.set_cons_zero, List.set_cons_succ]
                refine wpAnyH_done (by kernel_rfl) ?_ _
                have bF := Lib.hid (bW.out.trans ((HB.out.trans (k1.mono HBS)).mono bW.out.size))
                clear hHeld k1 x1
                go_wp2
                go_ret
                exact ⟨by rw [HF.out] <;> rfl, bF.out⟩
            · obtain rfl : k = sl.length := by omega
              have HA3 : Hid (∀ j, j < i + 1 → spokeOk j (sp.getD j sp0).l (sp.getD j sp0).l.length) := fun j hj => by
                by_cases e : j = i
                · subst e; rw [ES.out]; exact hsp
                · exact HA2.out j (by omega)
              have HB := Lib.hid hb
              clear hsp hb hs KB KS
              go_wp2
              go_roundw
              case rel => exact ⟨i + 1, by omega, by go_num, HA3.out, HB.out⟩
              case measure => simp [intOf] <;> omega
        · obtain rfl : i = 9 := by omega
          have HF : Hid (R = true) := YES.out ⟨by rw [List.length_map]; exact g9, by rw [ls_flat, HQ.out]; exact g10, by rw [ls_flat, HQ.out]; exact HP.out, fun i hi => by rw [List.length_map] at hi; rw [ls_at]; exact hall i (by omega)⟩
          have bF := Lib.hid (bW.out.trans (hb.mono bW.out.size))
          clear hall hb hW
          go_wp2
          go_ret
          exact ⟨by rw [HF.out] <;> rfl, bF.out⟩
end Go.Proofs.Ytdjglbmcpfaofaa
