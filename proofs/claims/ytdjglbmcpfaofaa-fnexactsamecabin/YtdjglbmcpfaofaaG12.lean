/- Texts laid together: WiQ, WiR, WiS. -/
import Derived.Test.YtdjglbmcpfaofaaRows
import Derived.Test.YtdjglbmcpfaofaaG11
import Derived.Test.YtdjglbmcpfaofaaWiP
namespace Go.Proofs.Ytdjglbmcpfaofaa
open Go.RowKit
set_option linter.unusedSimpArgs false
set_option linter.unusedVariables false
set_option maxRecDepth 100000 in
set_option maxHeartbeats 1600000 in
theorem equalP_im (A A' : Option Addr) (la lb : List Pn) (c d : Nat) (w : World) (hl : la.length ≤ 1048577) (hl' : lb.length ≤ 1048577) (hA : Rws w w.heap.size A (la.flatMap pnC)) (hB : Rws w w.heap.size A' (lb.flatMap pnC)) :
    Calls Try.prog 130 #[.slice A la.length c, .slice A' lb.length d] w fun e w' => e = .returned (.bool (decide (la = lb))) ∧ Below w.heap.size w w' := by
  by_cases hn : la.length = lb.length
  rotate_left
  · have HF : Hid (decide (la = lb) = false) := decide_eq_false (fun h => hn (by rw [h]))
    have hq : ((la.length : Int) != (lb.length : Int)) = true := by simp; omega
    clear hn
    go_enter Try.func130, Try.ntmps130
    go_wp2
    go_ret
    exact ⟨by rw [HF.out] <;> rfl, Below.refl _ _⟩
  have HA := Lib.hid hA
  have HB := Lib.hid hB
  have HN := Lib.hid hn
  rw [← hn]
  have hq : ((la.length : Int) != (la.length : Int)) = false := by simp
  clear hA hB hn
  go_enter Try.func130, Try.ntmps130
  go_wp2
  go_loopw [13] (fun i wr => ∃ k : Nat, k ≤ la.length ∧ i = .int .i64 k ∧ Hid (∀ j, j < k → la.getD j pn0 = lb.getD j pn0) ∧ Hid (Below w.heap.size w wr)) (fun i _ => la.length - (intOf i).toNat)
  case atStart => exact ⟨0, by omega, rfl, (fun j hj => by omega), Below.refl _ _⟩
  case round =>
    obtain ⟨k, hk, rfl, hall, hb⟩ := hrel
    by_cases hlt : k < la.length
    · obtain ⟨b, off, rfl, hbB, hx⟩ := (rws_below HA.out hb.out).pn hlt
      obtain ⟨b2, off2, rfl, hbB2, hy⟩ := (rws_below HB.out hb.out).pn (i := k) (by have := HN.out; omega)
      have HI : Hid (la.getD k pn0 ≠ lb.getD k pn0 → la ≠ lb) := fun h e => h (by rw [e])
      have HY : Hid (la.getD k pn0 = lb.getD k pn0 → ∀ j, j < k + 1 → la.getD j pn0 = lb.getD j pn0) := fun h j hj => by
        by_cases e : j = k
        · subst e; exact h
        · exact hall.out j (by omega)
      clear hall
      generalize la.getD k pn0 = x at *
      generalize lb.getD k pn0 = y at *
      have KX := Lib.hid (fun w' (h : Below wr.heap.size wr w') => hx.below h hbB)
      have KY := Lib.hid (fun w' (h : Below wr.heap.size wr w') => hy.below h hbB2)
      clear hx hy
      by_cases hxy : x = y
      · have HD : Hid (decide (x = y) = true) := decide_eq_true hxy
        have HZ := Lib.hid (HY.out hxy)
        clear hxy HI HY
        go_wp2_with fail
        refine wp_region_held_drew (S := fun w' => Hid (Below wr.heap.size wr w')) (by kernel_rfl) (below_drawn (Below.refl _ _) 1) (fun hHeld => ?_)
        refine held_take 0 16 (.slice (some ⟨b, off, none⟩) la.length c) rfl rfl (by kernel_rfl) (by kernel_rfl) (by kernel_rfl) (fun _ _ _ h => h) rfl hHeld (fun w _ => rfl) ?_
        refine held_take 1 17 (.int .i64 (k : Int)) rfl rfl (by kernel_rfl) (by kernel_rfl) (by kernel_rfl) (fun _ _ _ h => h) rfl hHeld (fun w _ => rfl) ?_
        simp only [Act.put, List.setIfInBounds_toArray, List.set_cons_zero, List.set_cons_succ]
        refine held_take 2 18 (.pointer (some ⟨b, off + k * 2, none⟩)) rfl rfl (by kernel_rfl) (by kernel_rfl) (by kernel_rfl) (fun _ _ _ h => h) rfl hHeld (fun w _ => exec_idx_pn b off la.length c k w hlt) ?_
        refine held_take 3 19 (pnA x) rfl rfl (by kernel_rfl) (by kernel_rfl) (by kernel_rfl) (fun _ _ _ h => h) rfl hHeld (fun w h => exec_load_pn b (off + k * 2) x w (KX.out w h.out)) ?_
        simp only [Act.put, List.setIfInBounds_toArray, List.set_cons_zero, List.set_cons_succ]
        refine held_take 4 20 (.slice (some ⟨b2, off2, none⟩) la.length d) rfl rfl (by kernel_rfl) (by kernel_rfl) (by kernel_rfl) (fun _ _ _ h => h) rfl hHeld (fun w _ => rfl) ?_
        refine held_take 5 21 (.int .i64 (k : Int)) rfl rfl (by kernel_rfl) (by kernel_rfl) (by kernel_rfl) (fun _ _ _ h => h) rfl hHeld (fun w _ => rfl) ?_
        simp only [Act.put, List.setIfInBounds_toArray, List.set_cons_zero, List.set_cons_succ]
        refine held_take 6 22 (.pointer (some ⟨b2, off2 + k * 2, none⟩)) rfl rfl (by kernel_rfl) (by kernel_rfl) (by kernel_rfl) (fun _ _ _ h => h) rfl hHeld (fun w _ => exec_idx_pn b2 off2 la.length d k w hlt) ?_
        refine held_take 7 23 (pnA y) rfl rfl (by kernel_rfl) (by kernel_rfl) (by kernel_rfl) (fun _ _ _ h => h) rfl hHeld (fun w h => exec_load_pn b2 (off2 + k * 2) y w (KY.out w h.out)) ?_
        simp only [Act.put, List.setIfInBounds_toArray, List.set_cons_zero, List.set_cons_succ]
        refine held_take 8 24 (.bool false) rfl rfl (by kernel_rfl) (by kernel_rfl) (by kernel_rfl) (fun _ _ _ h => h) rfl hHeld (fun w _ => (exec_neqPn x y w).trans (by rw [HD.out]; rfl)) ?_
        simp only [Act.put, List.setIfInBounds_toArray, List.set_cons_zero, List.set_cons_succ]
        refine wpAnyH_done (by kernel_rfl) ?_ _
        have BF := Lib.hid (hb.out.trans (hHeld.out.mono hb.out.size))
        clear hHeld

        go_wp2
        go_roundw
        case rel => exact ⟨k + 1, by omega, by go_num, HZ, BF⟩
        case measure => simp [intOf]; omega
      · have HD : Hid (decide (x = y) = false) := decide_eq_false hxy
        have HZ : Hid (decide (la = lb) = false) := decide_eq_false (HI.out hxy)
        clear hxy HI HY
        go_wp2_with fail
        refine wp_region_held_drew (S := fun w' => Hid (Below wr.heap.size wr w')) (by kernel_rfl) (below_drawn (Below.refl _ _) 1) (fun hHeld => ?_)
        refine held_take 0 16 (.slice (some ⟨b, off, none⟩) la.length c) rfl rfl (by kernel_rfl) (by kernel_rfl) (by kernel_rfl) (fun _ _ _ h => h) rfl hHeld (fun w _ => rfl) ?_
        refine held_take 1 17 (.int .i64 (k : Int)) rfl rfl (by kernel_rfl) (by kernel_rfl) (by kernel_rfl) (fun _ _ _ h => h) rfl hHeld (fun w _ => rfl) ?_
        simp only [Act.put, List.setIfInBounds_toArray, List.set_cons_zero, List.set_cons_succ]
        refine held_take 2 18 (.pointer (some ⟨b, off + k * 2, none⟩)) rfl rfl (by kernel_rfl) (by kernel_rfl) (by kernel_rfl) (fun _ _ _ h => h) rfl hHeld (fun w _ => exec_idx_pn b off la.length c k w hlt) ?_
        refine held_take 3 19 (pnA x) rfl rfl (by kernel_rfl) (by kernel_rfl) (by kernel_rfl) (fun _ _ _ h => h) rfl hHeld (fun w h => exec_load_pn b (off + k * 2) x w (KX.out w h.out)) ?_
        simp only [Act.put, List.setIfInBounds_toArray, List.set_cons_zero, List.set_cons_succ]
        refine held_take 4 20 (.slice (some ⟨b2, off2, none⟩) la.length d) rfl rfl (by kernel_rfl) (by kernel_rfl) (by kernel_rfl) (fun _ _ _ h => h) rfl hHeld (fun w _ => rfl) ?_
        refine held_take 5 21 (.int .i64 (k : Int)) rfl rfl (by kernel_rfl) (by kernel_rfl) (by kernel_rfl) (fun _ _ _ h => h) rfl hHeld (fun w _ => rfl) ?_
        simp only [Act.put, List.setIfInBounds_toArray, List.set_cons_zero, List.set_cons_succ]
        refine held_take 6 22 (.pointer (some ⟨b2, off2 + k * 2, none⟩)) rfl rfl (by kernel_rfl) (by kernel_rfl) (by kernel_rfl) (fun _ _ _ h => h) rfl hHeld (fun w _ => exec_idx_pn b2 off2 la.length d k w hlt) ?_
        refine held_take 7 23 (pnA y) rfl rfl (by kernel_rfl) (by kernel_rfl) (by kernel_rfl) (fun _ _ _ h => h) rfl hHeld (fun w h => exec_load_pn b2 (off2 + k * 2) y w (KY.out w h.out)) ?_
        simp only [Act.put, List.setIfInBounds_toArray, List.set_cons_zero, List.set_cons_succ]
        refine held_take 8 24 (.bool true) rfl rfl (by kernel_rfl) (by kernel_rfl) (by kernel_rfl) (fun _ _ _ h => h) rfl hHeld (fun w _ => (exec_neqPn x y w).trans (by rw [HD.out]; rfl)) ?_
        simp only [Act.put, List.setIfInBounds_toArray, List.set_cons_zero, List.set_cons_succ]
        refine wpAnyH_done (by kernel_rfl) ?_ _
        have BF := Lib.hid (hb.out.trans (hHeld.out.mono hb.out.size))
        clear hHeld

        go_wp2
        go_ret
        exact ⟨by rw [HZ.out] <;> rfl, BF.out⟩
    · obtain rfl : k = la.length := by omega
      have HZ : Hid (decide (la = lb) = true) := decide_eq_true (list_eq_all HN.out hall.out)
      clear hall
      go_wp2
      go_ret
      exact ⟨by rw [HZ.out] <;> rfl, hb.out⟩
/-- Where a pin belongs in a sorted list. -/
def placeP (l : List Pn) (p : Pn) : Nat := (l.takeWhile fun y => decide (Pn.less y p)).length
theorem placeP_le (l : List Pn) (p : Pn) : placeP l p ≤ l.length := by unfold placeP; exact (List.takeWhile_prefix _).length_le
theorem pnPut_place (l : List Pn) (p : Pn) : pnPut l p = insL l (placeP l p) p := by
  unfold pnPut insP insL placeP
  generalize hq : (fun y => decide (Pn.less y p)) = q
  have h := List.takeWhile_append_dropWhile (p := q) (l := l)
  generalize l.takeWhile q = a at *
  generalize l.dropWhile q = b at *
  subst h
  rw [List.take_left' rfl, List.drop_left' rfl]
set_option maxRecDepth 100000 in
theorem exec_eqlB {ρ : Operand → Value} {o : Oper} {x y : Operand} (X Y : Int) (w : World) (ho : o.op = .binOp .eql 3 x y 3 := by rfl) (hx : ρ x = .int .i64 X := by rfl) (hy : ρ y = .int .i64 Y := by rfl) :
    (execOp ρ o).run Try.prog w = .ok (.value (.bool (X == Y))) w := by
  unfold execOp
  rw [ho]
  simp [go_sem, hx, hy]
theorem placeP_is {l : List Pn} {p : Pn} {i : Nat} (hi : i ≤ l.length) (h1 : ∀ m, m < i → Pn.less (l.getD m pn0) p) (h2 : ∀ m, i ≤ m → m < l.length → ¬ Pn.less (l.getD m pn0) p) : placeP l p = i := by
  obtain ⟨e, _⟩ := while_at (fun y => decide (Pn.less y p)) l pn0 i hi (fun j hj => decide_eq_true (h1 j hj)) (fun h => decide_eq_false (h2 i (Nat.le_refl _) h))
  unfold placeP
  rw [e, List.length_take, Nat.min_eq_left hi]
/-- A place is returned, and a bool. -/
def GotBsr (w : World) (k : Nat) (e : Ending) (w' : World) : Prop := (∃ q, e = .returned (.tuple #[.int .i64 (k : Int), .bool q])) ∧ Below w.heap.size w w'
theorem putV_no {ls : List (List Pn)} {p : Pn} (h : (wheelPutV ls p).2 = false) : wheelPutV ls p = (ls, false) := by
  unfold wheelPutV at h ⊢
  by_cases h1 : wheelB ls = true ∧ 1 ≤ p.at_
  · rw [if_pos h1] at h ⊢
    by_cases h2 : wheelB (ls.set (p.at_.tmod 9).toNat (pnPut (ls.getD (p.at_.tmod 9).toNat []) p)) = true
    · rw [if_pos h2] at h; cases h
    · rw [if_neg h2]
  · rw [if_neg h1]
theorem wheelPutV_bad {ls : List (List Pn)} {p : Pn} (h : ¬ p.inn) : wheelPutV ls p = (ls, false) := by
  refine putV_no ?_
  cases e : (wheelPutV ls p).2 with
  | false => rfl
  | true => exact absurd (put_no e).1 h
theorem wheelCutV_bad {ls : List (List Pn)} {p : Pn} (h : ¬ p.inn) : wheelCutV ls p = (ls, false) := by
  unfold wheelCutV
  by_cases h1 : wheelB ls = true ∧ 1 ≤ p.at_
  · rw [if_pos h1]
    have hf := wheelB_iff h1.1
    have : cutPn (ls.getD (p.at_.tmod 9).toNat []) p = none := by
      unfold cutPn
      rw [Option.map_eq_none_iff, List.findIdx?_eq_none_iff]
      intro x hx
      refine decide_eq_false (fun e => h ?_)
      subst e
      have hk := tmod_lt x.at_ h1.2
      have hm : x ∈ ls.flatten := List.mem_flatten.2 ⟨_, getD_mem ls _ [] (by have := hf.1; omega), hx⟩
      exact ((pnsOk_iff _).1 hf.2.2.1).1 x hm
    rw [this]; rfl
  · rw [if_neg h1]
theorem set_mem {α : Type} {l : List α} {k : Nat} {x d t : α} (h : t ∈ l.set k x) : t = x ∨ ∃ i, i < l.length ∧ i ≠ k ∧ t = l.getD i d := by
  obtain ⟨i, hi, rfl⟩ := List.getElem_of_mem h
  rw [List.length_set] at hi
  by_cases e : k = i
  · subst e; exact .inl (by simp)
  · refine .inr ⟨i, hi, Ne.symm e, ?_⟩
    rw [List.getElem_set_ne e, List.getD_eq_getElem?_getD, List.getElem?_eq_getElem hi, Option.getD_some]
theorem ApartW.set2 {sp : List Sp} (h : ApartW sp) (k : Nat) (s : Sp) (hn : ∀ i, i < sp.length → i ≠ k → ∀ q, (sp.getD i sp0).blk = some q → s.blk ≠ some q) : ApartW (sp.set k s) := by
  intro i j hij hj q hq
  rw [List.length_set] at hj
  have gi : ∀ i, i < sp.length → (sp.set k s).getD i sp0 = if k = i then s else sp.getD i sp0 := fun i hi => by
    simp only [List.getD_eq_getElem?_getD, List.getElem?_set]
    by_cases e : k = i
    · subst e; simp [hi]
    · simp [e]
  rw [gi i (by omega)] at hq
  rw [gi j hj]
  by_cases e1 : k = i
  · rw [if_pos e1] at hq
    rw [if_neg (by omega)]
    intro h2
    exact hn j hj (by omega) q h2 hq
  · rw [if_neg e1] at hq
    by_cases e2 : k = j
    · rw [if_pos e2]; exact hn i (by omega) (Ne.symm e1) q hq
    · rw [if_neg e2]; exact h i j hij hj q hq
/-- A spoke has been changed in place or laid anew, and stored. -/
theorem WP.stored {w u u2 u3 : World} {A : Option Addr} {c : Nat} {sp : List Sp} {p : Pn} {ga g cp k : Nat} {sq : List Sp} {s : Sp} {A' : Option Addr} {c' : Nat} {l' : List Pn} (T : WP w u A c sp p ga (some ⟨g, 0, none⟩) cp sq) (hk : k < sq.length) (es : sq.getD k sp0 = s) (hap : ApartW sq) (x : Below u.heap.size u u2) (hg6 : w.heap.size + 3 ≤ u.heap.size)
    (o : u3.ownsRow (w.heap.size + 3) 70 2 (.slice A' l'.length c') l'.length (l'.flatMap pnC)) (gr : u2.grownBy u3 (Value.slice s.a s.l.length s.c).ownBlock) (loc : ∀ q, A'.map (fun a => a.block) = some q → (Value.slice s.a s.l.length s.c).ownBlock = some q ∨ u2.heap.size ≤ q) :
    WP w (u3.setCell ⟨g, 0 + k, none⟩ (.slice A' l'.length c')) A c sp p ga (some ⟨g, 0, none⟩) cp (sq.set k ⟨A', c', l'⟩) ∧ ApartW (sq.set k ⟨A', c', l'⟩) ∧ (∃ v, u3.cell? ⟨g, 0 + k, none⟩ = some v) ∧ u3.frozen? ⟨g, 0 + k, none⟩ = false := by
  have T2 := T.call x
  have hsm : s ∈ sq := by rw [← es]; exact getD_mem sq k sp0 hk
  have hso := T2.O.sp s hsm
  have hrow : (Value.slice s.a s.l.length s.c).ownBlock = s.blk := ownBlock_eq _ _ _
  obtain ⟨curg, hcg⟩ := own_typed2 T2.O.row g rfl
  have hgs : s.blk ≠ some g := by rw [← hrow]; exact own_ne_type hso hcg (by decide)
  have hlo : ∀ q, s.blk = some q → w.heap.size + 3 ≤ q := fun q hq => (World.ownsRow.lt hso q (by rw [hrow]; exact hq)).1
  rw [hrow] at gr loc
  have hbk : ∀ i, i < u2.heap.size → s.blk ≠ some i → u3.heap[i]? = u2.heap[i]? := fun i hi h => gr.block i hi (fun e => h e.symm)
  have e0 := T2.T
  have l0 := blk_lt e0.1
  have l1 := blk_lt e0.2.1
  have l2 := blk_lt e0.2.2.1
  have lga := blk_lt T2.H
  have lg := blk_lt hcg
  have n0 : s.blk ≠ some w.heap.size := fun h => by have := hlo _ h; omega
  have n1 : s.blk ≠ some (w.heap.size + 1) := fun h => by have := hlo _ h; omega
  have n2 : s.blk ≠ some (w.heap.size + 2) := fun h => by have := hlo _ h; omega
  have n6 : s.blk ≠ some ga := by rw [← hrow]; exact own_ne_type hso T2.H (by decide)
  have hg3 : w.heap.size + 3 ≤ g := (World.ownsRow.lt T2.O.row g rfl).1
  have hgga : ga ≠ g := fun h => by
    have := T2.H
    rw [h, hcg] at this
    injection this with this
    injection this with _ h2
    revert h2
    decide
  have R3 : u3.ownsRow (w.heap.size + 3) 29 1 (.slice (some ⟨g, 0, none⟩) sq.length cp) sq.length (sq.flatMap spC) := own_same T2.O.row (fun q hq => by
    have : g = q := by simpa [Value.ownBlock] using hq
    subst this; exact hbk g lg hgs)
  obtain ⟨U, eU⟩ : ∃ U, u3.setCell ⟨g, 0 + k, none⟩ (.slice A' l'.length c') = U := ⟨_, rfl⟩
  have hU : ∀ j, j ≠ g → U.heap[j]? = u3.heap[j]? := fun j hj => by rw [← eU]; exact heap_set_ne u3 g _ _ hj
  have st := R3.stored (0 + k) (.slice A' l'.length c')
  have hfl := spC_flat_len sq
  refine ⟨?_, ?_, ?_, R3.frozenAt (0 + k)⟩
  · rw [eU] at st ⊢
    refine ⟨⟨((hU _ (by omega)).trans (hbk _ l0 n0)).trans e0.1, ((hU _ (by omega)).trans (hbk _ l1 n1)).trans e0.2.1, ((hU _ (by omega)).trans (hbk _ l2 n2)).trans e0.2.2.1, ?_⟩, ?_, ⟨?_, ?_⟩⟩
    · rw [← eU]
      exact ((e0.2.2.2).grown gr e0.2.2.2.size (fun q hq => by have := hlo q hq; omega)).setCell (p := ⟨g, 0 + k, none⟩) (by show _ ≤ g; omega) _
    · rw [List.length_set]; exact ((hU _ hgga).trans (hbk _ lga n6)).trans T2.H
    · have := st.1
      rw [Nat.zero_add] at this
      rw [List.length_set, ← flat_set sq k ⟨A', c', l'⟩]
      exact this
    · intro t ht
      have kt : Sp.own u3 (w.heap.size + 3) t := by
        rcases set_mem (d := sp0) ht with rfl | ⟨i, hi, hik, rfl⟩
        · exact o
        · refine own_same (T2.O.sp _ (getD_mem sq i sp0 hi)) (fun q hq => ?_)
          have hq2 : (sq.getD i sp0).blk = some q := by rw [← hq]; exact (ownBlock_eq _ _ _).symm
          have hql := (World.ownsRow.lt (T2.O.sp _ (getD_mem sq i sp0 hi)) q hq).2
          refine hbk q hql (fun h => ?_)
          rw [← es] at h
          rcases Nat.lt_or_gt_of_ne hik with h9 | h9
          · exact hap i k h9 hk q hq2 h
          · exact hap k i h9 hi q h hq2
      rw [← eU]
      obtain ⟨curg3, hcg3⟩ := own_typed2 R3 g rfl
      exact kt.kept (Go.Lib.grownBy_setCell u3 g (0 + k) _) (.inr (own_ne_type kt hcg3 (by decide)))
  · refine ApartW.set2 hap k _ (fun i hi hik q hq h2 => ?_)
    rcases loc q h2 with h3 | h3
    · rw [← es] at h3
      rcases Nat.lt_or_gt_of_ne hik with h9 | h9
      · exact hap i k h9 hk q hq h3
      · exact hap k i h9 hi q h3 hq
    · have hql := (World.ownsRow.lt (T.O.sp _ (getD_mem sq i sp0 hi)) q (by rw [← hq]; exact ownBlock_eq _ _ _)).2
      have := x.size
      omega
  · rw [R3.cellAt _ (by omega)]
    exact ⟨_, List.getElem?_eq_getElem (by omega)⟩
theorem WP.out {w u : World} {A : Option Addr} {c : Nat} {sp : List Sp} {p : Pn} {ga g cp : Nat} {sq : List Sp} {s : Sp} (T : WP w u A c sp p ga (some ⟨g, 0, none⟩) cp sq) (hsm : s ∈ sq) : (s.blk ≠ some ga ∧ ga ≠ g) ∧ (s.blk ≠ some (w.heap.size + 1) ∧ w.heap.size + 1 ≠ g) := by
  have hso := T.O.sp s hsm
  have hrow : (Value.slice s.a s.l.length s.c).ownBlock = s.blk := ownBlock_eq _ _ _
  obtain ⟨curg, hcg⟩ := own_typed2 T.O.row g rfl
  have hg3 : w.heap.size + 3 ≤ g := (World.ownsRow.lt T.O.row g rfl).1
  refine ⟨⟨by rw [← hrow]; exact own_ne_type hso T.H (by decide), fun h => ?_⟩, fun h => ?_, by omega⟩
  · have := T.H
    rw [h, hcg] at this
    injection this with this
    injection this with _ h2
    revert h2
    decide
  · have := (World.ownsRow.lt hso (w.heap.size + 1) (by rw [hrow]; exact h)).1
    omega
set_option maxRecDepth 100000 in
theorem exec_one_pnP {ρ : Operand → Value} {o : Oper} {y : Operand} (x : Pn) (w : World) (ho : o.op = .buildSlice 29 1 #[(0, y)] := by rfl) (hy : ρ y = pnA x := by rfl) :
    (execOp ρ o).run Try.prog w = .ok (.value (.slice (some ⟨w.heap.size, 0, none⟩) 1 1)) (w.alloc (.cells #[.int .i64 x.at_, .int .i64 x.id] 70)) := by
  unfold execOp
  rw [ho]
  simp [go_sem, hy, pnA]
set_option maxRecDepth 100000 in
theorem wheelOk_sz (A : Option Addr) (sp : List Sp) (c : Nat) (w : World) (h1 : sp.length ≤ 1048577) (h2 : (allPn sp).length ≤ 1048577) (hA : Whl w A sp) :
    Calls Try.prog 98 #[.agg #[.slice A sp.length c]] w fun e w' => e = .returned (.bool (wheelB (sp.map (fun s => s.l)))) ∧ Below w.heap.size w w' := by
  refine (callsIn_wide.1 (wheelOk_in A sp c w h1 h2 hA)).mono ?_
  rintro e w' ⟨⟨q, rfl, hq⟩, b⟩
  refine ⟨?_, b⟩
  by_cases h : wheelFine (sp.map (fun s => s.l))
  · rw [wheelB_yes h, hq.2 h]
  · rw [wheelB_no h]
    cases q with
    | false => rfl
    | true => exact absurd (hq.1 rfl) h
set_option maxRecDepth 100000 in
set_option maxHeartbeats 3200000 in
theorem sameWheel_impl (A A' : Option Addr) (sp sq : List Sp) (c c' : Nat) (w : World) (la lb : List (List Pn)) (hm : sp.map (fun s => s.l) = la) (hm' : sq.map (fun s => s.l) = lb) (hs : SzW la) (hs' : SzW lb) (hf : FitL la) (hf' : FitL lb) (hA : Whl w A sp) (hA' : Whl w A' sq) :
    Calls Try.prog 102 #[.agg #[.slice A sp.length c], .agg #[.slice A' sq.length c']] w fun e w' => e = .returned (.bool (sameW la lb)) ∧ Below w.heap.size w w' := by
  subst hm hm'
  obtain ⟨U, hU⟩ : ∃ U, (w.alloc (.cells #[.slice A sp.length c] 36)).alloc (.cells #[.slice A' sq.length c'] 36) = U := ⟨_, rfl⟩
  have b0 : Hid (Below w.heap.size w U) := by
    show Below _ _ _
    rw [← hU]; exact ((Below.refl _ _).alloc (Nat.le_refl _) _).alloc (by simp) _
  have g1 : U.heap[w.heap.size]? = some (.cells #[.slice A sp.length c] 36) := by rw [← hU]; exact blk_alloc (heap_new _ _) _
  have g2 : U.heap[w.heap.size + 1]? = some (.cells #[.slice A' sq.length c'] 36) := by
    rw [← hU]
    have := heap_new (w.alloc (.cells #[.slice A sp.length c] 36)) (.cells #[.slice A' sq.length c'] 36)
    simpa using this
  have KA := Lib.hid (fun w' (h : Below U.heap.size U w') => cell_of_row _ _ 0 _ _ _ (blk_call g1 h))
  have KB := Lib.hid (fun w' (h : Below U.heap.size U w') => cell_of_row _ _ 0 _ _ _ (blk_call g2 h))
  simp at KA KB
  have CA := Lib.hid (fun w' (h : Below U.heap.size U w') => wheelOk_impl A sp c w' _ rfl hs hf ((hA.below b0.out).below h))
  have CB := Lib.hid (fun w' (h : Below U.heap.size U w') => wheelOk_impl A' sq c' w' _ rfl hs' hf' ((hA'.below b0.out).below h))
  have PA := Lib.hid (fun w' (h : Below U.heap.size U w') => pinsOf_impl A sp c w' _ rfl hs hf ((hA.below b0.out).below h))
  have PB := Lib.hid (fun w' (h : Below U.heap.size U w') => pinsOf_impl A' sq c' w' _ rfl hs' hf' ((hA'.below b0.out).below h))
  obtain ⟨V, eV⟩ : ∃ V, sameW (sp.map (fun s => s.l)) (sq.map (fun s => s.l)) = V := ⟨_, rfl⟩
  rw [eV]
  unfold sameW at eV
  have hla : (pinsW (sp.map (fun s => s.l))).length ≤ 1048577 := by have := pinsW_len (sp.map (fun s => s.l)); omega
  have hlb : (pinsW (sq.map (fun s => s.l))).length ≤ 1048577 := by have := pinsW_len (sq.map (fun s => s.l)); omega
  generalize pinsW (sp.map (fun s => s.l)) = la at *
  generalize pinsW (sq.map (fun s => s.l)) = lb at *
  generalize wheelB (sp.map (fun s => s.l)) = oka at *
  generalize wheelB (sq.map (fun s => s.l)) = okb at *
  clear g1 g2
  have HU := Lib.hid hU
  clear hU
  go_enter Try.func102, Try.ntmps102
  go_wp2_with fail
  rw [HU.out]
  cases oka with
  | false =>
    have HV : Hid (V = false) := by show _ = _; rw [← eV]; rfl
    clear eV
    refine wp_region_held_drew (S := fun w' => Hid (Below U.heap.size U w')) (by kernel_rfl) (below_drawn (Below.refl _ _) 1) (fun hHeld => ?_)
    refine held_take 0 5 (.agg #[.slice A sp.length c]) rfl rfl (by kernel_rfl) (by kernel_rfl) (by kernel_rfl) (fun _ _ _ h => h) rfl hHeld (fun w h => exec_loadWh _ _ _ _ w (KA.out w h.out)) ?_
    simp only [Act.put, List.setIfInBounds_toArray, List.set_cons_zero, List.set_cons_succ]
    refine held_call 1 6 98 #[.agg #[.slice A sp.length c]] rfl rfl (by kernel_rfl) rfl (exec_call Try.func98 (by kernel_rfl) (by kernel_rfl) _) ?_
    refine (CA.out _ hHeld.out).mono ?_
    rintro e u1 ⟨rfl, x1⟩
    have hHeld : Hid (Below U.heap.size U u1) := hHeld.out.trans (x1.mono hHeld.out.size)
    refine ⟨_, rfl, hHeld, ?_⟩
    simp only [Act.put, List.setIfInBounds_toArray, List.set_cons_zero, List.set_cons_succ]
    refine held_take 2 7 (.bool false) rfl rfl (by kernel_rfl) (by kernel_rfl) (by kernel_rfl) (fun _ _ _ h => h) rfl hHeld (fun w _ => rfl) ?_
    refine held_skip 3 8 rfl rfl (by kernel_rfl) (by kernel_rfl) (by kernel_rfl) (fun _ _ _ h => h) rfl hHeld ?_
    simp only [Act.put, List.setIfInBounds_toArray, List.set_cons_zero, List.set_cons_succ]
    refine held_skip 4 9 rfl rfl (by kernel_rfl) (by kernel_rfl) (by kernel_rfl) (fun _ _ _ h => h) rfl hHeld ?_
    refine held_take 5 10 (.bool false) rfl rfl (by kernel_rfl) (by kernel_rfl) (by kernel_rfl) (fun _ _ _ h => h) rfl hHeld (fun w _ => exec_pickF _ w) ?_
    simp only [Act.put, List.setIfInBounds_toArray, List.set_cons_zero, List.set_cons_succ]
    refine held_take 6 11 (.bool false) rfl rfl (by kernel_rfl) (by kernel_rfl) (by kernel_rfl) (fun _ _ _ h => h) rfl hHeld (fun w _ => rfl) ?_
    refine held_skip 7 12 rfl rfl (by kernel_rfl) (by kernel_rfl) (by kernel_rfl) (fun _ _ _ h => h) rfl hHeld ?_
    simp only [Act.put, List.setIfInBounds_toArray, List.set_cons_zero, List.set_cons_succ]
    refine held_skip 8 13 rfl rfl (by kernel_rfl) (by kernel_rfl) (by kernel_rfl) (fun _ _ _ h => h) rfl hHeld ?_
    refine held_skip 9 14 rfl rfl (by kernel_rfl) (by kernel_rfl) (by kernel_rfl) (fun _ _ _ h => h) rfl hHeld ?_
    simp only [Act.put, List.setIfInBounds_toArray, List.set_cons_zero, List.set_cons_succ]
    refine held_skip 10 15 rfl rfl (by kernel_rfl) (by kernel_rfl) (by kernel_rfl) (fun _ _ _ h => h) rfl hHeld ?_
    refine held_skip 11 16 rfl rfl (by kernel_rfl) (by kernel_rfl) (by kernel_rfl) (fun _ _ _ h => h) rfl hHeld ?_
    simp only [Act.put, List.setIfInBounds_toArray, List.set_cons_zero, List.set_cons_succ]
    refine held_take 12 17 (.bool false) rfl rfl (by kernel_rfl) (by kernel_rfl) (by kernel_rfl) (fun _ _ _ h => h) rfl hHeld (fun w _ => exec_pickF _ w) ?_
    simp only [Act.put, List.setIfInBounds_toArray, List.set_cons_zero, List.set_cons_succ]
    refine held_op 13 4 (.bool false) rfl rfl (by kernel_rfl) rfl rfl hHeld ?_
    simp only [Act.put, List.setIfInBounds_toArray, List.set_cons_zero, List.set_cons_succ]
    refine wpAnyH_done (by kernel_rfl) ?_ _
    have BF := Lib.hid (b0.out.trans (hHeld.out.mono b0.out.size))
    clear hHeld
    go_wp2
    go_ret
    exact ⟨by rw [HV.out] <;> rfl, BF.out⟩
  | true =>
    cases okb with
    | false =>
      have HV : Hid (V = false) := by show _ = _; rw [← eV]; rfl
      clear eV
      refine wp_region_held_drew (S := fun w' => Hid (Below U.heap.size U w')) (by kernel_rfl) (below_drawn (Below.refl _ _) 1) (fun hHeld => ?_)
      refine held_take 0 5 (.agg #[.slice A sp.length c]) rfl rfl (by kernel_rfl) (by kernel_rfl) (by kernel_rfl) (fun _ _ _ h => h) rfl hHeld (fun w h => exec_loadWh _ _ _ _ w (KA.out w h.out)) ?_
      simp only [Act.put, List.setIfInBounds_toArray, List.set_cons_zero, List.set_cons_succ]
      refine held_call 1 6 98 #[.agg #[.slice A sp.length c]] rfl rfl (by kernel_rfl) rfl (exec_call Try.func98 (by kernel_rfl) (by kernel_rfl) _) ?_
      refine (CA.out _ hHeld.out).mono ?_
      rintro e u1 ⟨rfl, x1⟩
      have hHeld : Hid (Below U.heap.size U u1) := hHeld.out.trans (x1.mono hHeld.out.size)
      refine ⟨_, rfl, hHeld, ?_⟩
      simp only [Act.put, List.setIfInBounds_toArray, List.set_cons_zero, List.set_cons_succ]
      refine held_take 2 7 (.bool true) rfl rfl (by kernel_rfl) (by kernel_rfl) (by kernel_rfl) (fun _ _ _ h => h) rfl hHeld (fun w _ => rfl) ?_
      refine held_take 3 8 (.agg #[.slice A' sq.length c']) rfl rfl (by kernel_rfl) (by kernel_rfl) (by kernel_rfl) (fun _ _ _ h => h) rfl hHeld (fun w h => exec_loadWh _ _ _ _ w (KB.out w h.out)) ?_
      simp only [Act.put, List.setIfInBounds_toArray, List.set_cons_zero, List.set_cons_succ]
      refine held_call 4 9 98 #[.agg #[.slice A' sq.length c']] rfl rfl (by kernel_rfl) rfl (exec_call Try.func98 (by kernel_rfl) (by kernel_rfl) _) ?_
      refine (CB.out _ hHeld.out).mono ?_
      rintro e u2 ⟨rfl, x2⟩
      have hHeld : Hid (Below U.heap.size U u2) := hHeld.out.trans (x2.mono hHeld.out.size)
      refine ⟨_, rfl, hHeld, ?_⟩
      simp only [Act.put, List.setIfInBounds_toArray, List.set_cons_zero, List.set_cons_succ]
      refine held_take 5 10 (.bool false) rfl rfl (by kernel_rfl) (by kernel_rfl) (by kernel_rfl) (fun _ _ _ h => h) rfl hHeld (fun w _ => exec_pickT _ w) ?_
      refine held_take 6 11 (.bool false) rfl rfl (by kernel_rfl) (by kernel_rfl) (by kernel_rfl) (fun _ _ _ h => h) rfl hHeld (fun w _ => rfl) ?_
      simp only [Act.put, List.setIfInBounds_toArray, List.set_cons_zero, List.set_cons_succ]
      refine held_skip 7 12 rfl rfl (by kernel_rfl) (by kernel_rfl) (by kernel_rfl) (fun _ _ _ h => h) rfl hHeld ?_
      refine held_skip 8 13 rfl rfl (by kernel_rfl) (by kernel_rfl) (by kernel_rfl) (fun _ _ _ h => h) rfl hHeld ?_
      simp only [Act.put, List.setIfInBounds_toArray, List.set_cons_zero, List.set_cons_succ]
      refine held_skip 9 14 rfl rfl (by kernel_rfl) (by kernel_rfl) (by kernel_rfl) (fun _ _ _ h => h) rfl hHeld ?_
      refine held_skip 10 15 rfl rfl (by kernel_rfl) (by kernel_rfl) (by kernel_rfl) (fun _ _ _ h => h) rfl hHeld ?_
      simp only [Act.put, List.setIfInBounds_toArray, List.set_cons_zero, List.set_cons_succ]
      refine held_skip 11 16 rfl rfl (by kernel_rfl) (by kernel_rfl) (by kernel_rfl) (fun _ _ _ h => h) rfl hHeld ?_
      refine held_take 12 17 (.bool false) rfl rfl (by kernel_rfl) (by kernel_rfl) (by kernel_rfl) (fun _ _ _ h => h) rfl hHeld (fun w _ => exec_pickF _ w) ?_
      simp only [Act.put, List.setIfInBounds_toArray, List.set_cons_zero, List.set_cons_succ]
      refine held_op 13 4 (.bool false) rfl rfl (by kernel_rfl) rfl rfl hHeld ?_
      simp only [Act.put, List.setIfInBounds_toArray, List.set_cons_zero, List.set_cons_succ]
      refine wpAnyH_done (by kernel_rfl) ?_ _
      have BF := Lib.hid (b0.out.trans (hHeld.out.mono b0.out.size))
      clear hHeld
      go_wp2
      go_ret
      exact ⟨by rw [HV.out] <;> rfl, BF.out⟩
    | true =>
      have HV : Hid (V = decide (la = lb)) := by show _ = _; rw [← eV]; simp
      clear eV
      refine wp_region_held_drew (S := fun w' => Hid (Below U.heap.size U w')) (by kernel_rfl) (below_drawn (Below.refl _ _) 1) (fun hHeld => ?_)
      refine held_take 0 5 (.agg #[.slice A sp.length c]) rfl rfl (by kernel_rfl) (by kernel_rfl) (by kernel_rfl) (fun _ _ _ h => h) rfl hHeld (fun w h => exec_loadWh _ _ _ _ w (KA.out w h.out)) ?_
      simp only [Act.put, List.setIfInBounds_toArray, List.set_cons_zero, List.set_cons_succ]
      refine held_call 1 6 98 #[.agg #[.slice A sp.length c]] rfl rfl (by kernel_rfl) rfl (exec_call Try.func98 (by kernel_rfl) (by kernel_rfl) _) ?_
      refine (CA.out _ hHeld.out).mono ?_
      rintro e u1 ⟨rfl, x1⟩
      have hHeld : Hid (Below U.heap.size U u1) := hHeld.out.trans (x1.mono hHeld.out.size)
      refine ⟨_, rfl, hHeld, ?_⟩
      simp only [Act.put, List.setIfInBounds_toArray, List.set_cons_zero, List.set_cons_succ]
      refine held_take 2 7 (.bool true) rfl rfl (by kernel_rfl) (by kernel_rfl) (by kernel_rfl) (fun _ _ _ h => h) rfl hHeld (fun w _ => rfl) ?_
      refine held_take 3 8 (.agg #[.slice A' sq.length c']) rfl rfl (by kernel_rfl) (by kernel_rfl) (by kernel_rfl) (fun _ _ _ h => h) rfl hHeld (fun w h => exec_loadWh _ _ _ _ w (KB.out w h.out)) ?_
      simp only [Act.put, List.setIfInBounds_toArray, List.set_cons_zero, List.set_cons_succ]
      refine held_call 4 9 98 #[.agg #[.slice A' sq.length c']] rfl rfl (by kernel_rfl) rfl (exec_call Try.func98 (by kernel_rfl) (by kernel_rfl) _) ?_
      refine (CB.out _ hHeld.out).mono ?_
      rintro e u2 ⟨rfl, x2⟩
      have hHeld : Hid (Below U.heap.size U u2) := hHeld.out.trans (x2.mono hHeld.out.size)
      refine ⟨_, rfl, hHeld, ?_⟩
      simp only [Act.put, List.setIfInBounds_toArray, List.set_cons_zero, List.set_cons_succ]
      refine held_take 5 10 (.bool true) rfl rfl (by kernel_rfl) (by kernel_rfl) (by kernel_rfl) (fun _ _ _ h => h) rfl hHeld (fun w _ => exec_pickT _ w) ?_
      refine held_take 6 11 (.bool true) rfl rfl (by kernel_rfl) (by kernel_rfl) (by kernel_rfl) (fun _ _ _ h => h) rfl hHeld (fun w _ => rfl) ?_
      simp only [Act.put, List.setIfInBounds_toArray, List.set_cons_zero, List.set_cons_succ]
      refine held_take 7 12 (.agg #[.slice A sp.length c]) rfl rfl (by kernel_rfl) (by kernel_rfl) (by kernel_rfl) (fun _ _ _ h => h) rfl hHeld (fun w h => exec_loadWh _ _ _ _ w (KA.out w h.out)) ?_
      refine held_take 9 14 (.agg #[.slice A' sq.length c']) rfl rfl (by kernel_rfl) (by kernel_rfl) (by kernel_rfl) (fun _ _ _ h => h) rfl hHeld (fun w h => exec_loadWh _ _ _ _ w (KB.out w h.out)) ?_
      simp only [Act.put, List.setIfInBounds_toArray, List.set_cons_zero, List.set_cons_succ]
      refine held_call 8 13 131 #[.agg #[.slice A sp.length c]] rfl rfl (by kernel_rfl) rfl (exec_call Try.func131 (by kernel_rfl) (by kernel_rfl) _) ?_
      refine (PA.out _ hHeld.out).mono ?_
      rintro e u3 ⟨P1, d1, rfl, o1, x3⟩
      have hHeld : Hid (Below U.heap.size U u3) := hHeld.out.trans (x3.mono hHeld.out.size)
      refine ⟨_, rfl, hHeld, ?_⟩
      simp only [Act.put, List.setIfInBounds_toArray, List.set_cons_zero, List.set_cons_succ]
      refine held_call 10 15 131 #[.agg #[.slice A' sq.length c']] rfl rfl (by kernel_rfl) rfl (exec_call Try.func131 (by kernel_rfl) (by kernel_rfl) _) ?_
      refine (PB.out _ hHeld.out).mono ?_
      rintro e u4 ⟨P2, d2, rfl, o2, x4⟩
      have o1 := own_below o1 x4
      have hHeld : Hid (Below U.heap.size U u4) := hHeld.out.trans (x4.mono hHeld.out.size)
      refine ⟨_, rfl, hHeld, ?_⟩
      simp only [Act.put, List.setIfInBounds_toArray, List.set_cons_zero, List.set_cons_succ]
      refine held_call 11 16 130 #[.slice P1 la.length d1, .slice P2 lb.length d2] rfl rfl (by kernel_rfl) rfl (exec_call Try.func130 (by kernel_rfl) (by kernel_rfl) _) ?_
      refine (equalP_im P1 P2 la lb d1 d2 _ hla hlb (own_rws o1) (own_rws o2)).mono ?_
      rintro e u5 ⟨rfl, x5⟩
      have hHeld : Hid (Below U.heap.size U u5) := hHeld.out.trans (x5.mono hHeld.out.size)
      refine ⟨_, rfl, hHeld, ?_⟩
      simp only [Act.put, List.setIfInBounds_toArray, List.set_cons_zero, List.set_cons_succ]
      refine held_take 12 17 (.bool (decide (la = lb))) rfl rfl (by kernel_rfl) (by kernel_rfl) (by kernel_rfl) (fun _ _ _ h => h) rfl hHeld (fun w _ => exec_pickT _ w) ?_
      simp only [Act.put, List.setIfInBounds_toArray, List.set_cons_zero, List.set_cons_succ]
      refine held_op 13 4 (.bool (decide (la = lb))) rfl rfl (by kernel_rfl) rfl rfl hHeld ?_
      simp only [Act.put, List.setIfInBounds_toArray, List.set_cons_zero, List.set_cons_succ]
      refine wpAnyH_done (by kernel_rfl) ?_ _
      have BF := Lib.hid (b0.out.trans (hHeld.out.mono b0.out.size))
      clear hHeld
      go_wp2
      go_ret
      exact ⟨by rw [HV.out] <;> rfl, BF.out⟩
end Go.Proofs.Ytdjglbmcpfaofaa
