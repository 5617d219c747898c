/- Scratch. -/
import Derived.Test.YtpnkkmeeogfeaaaRows
import Derived.Test.YtpnkkmeeogfeaaaRpM
namespace Go.Proofs.Ytpnkkmeeogfeaaa
open Go.RowKit
set_option linter.unusedSimpArgs false
set_option linter.unusedVariables false
set_option maxRecDepth 100000 in
set_option maxHeartbeats 800000 in
theorem eqReply_same (s t : Rp) (w : World) (hl : s.l.length ≤ 2097152) (hA : Rws w w.heap.size s.a (ints s.l)) (hA' : Rws w w.heap.size t.a (ints t.l)) (he : s.v = t.v) :
    Calls Try.prog 9 #[rpA s, rpA t] w fun e w' => e = .returned (.bool true) ∧ Below w.heap.size w w' := by
  obtain ⟨x, a, c, l⟩ := s
  obtain ⟨x', a', c', l'⟩ := t
  obtain ⟨rfl, rfl⟩ : x = x' ∧ l = l' := by injection he with h1 h2; exact ⟨h1, h2⟩
  have b0 : Below w.heap.size w ((w.alloc (.cells #[.int .i64 x, .slice a l.length c] 27)).alloc (.cells #[.int .i64 x, .slice a' l.length c'] 27)) := ((Below.refl _ _).alloc (Nat.le_refl _) _).alloc (by simp) _
  have C := Lib.hid (eqInt_same a a' l c c' _ _ ((w.alloc (.cells #[.int .i64 x, .slice a l.length c] 27)).alloc (.cells #[.int .i64 x, .slice a' l.length c'] 27)) hl (hA.below b0) (hA'.below b0))
  have B0 := Lib.hid b0
  have n0 : (x != x) = false := by simp
  clear b0 he
  unfold rpA
  go_enter Try.func9, Try.ntmps9
  go_wp2_with fail
  refine C.out.mono ?_
  rintro e w1 ⟨rfl, b1⟩
  have B1 := Lib.hid (B0.out.trans (b1.mono B0.out.size))
  clear b1 C
  go_wp2
  go_ret
  exact ⟨rfl, B1.out⟩
set_option maxRecDepth 100000 in
set_option maxHeartbeats 1600000 in
theorem eqReplyS_same (A A' : Option Addr) (rs rq : List Rp) (c c' : Nat) (w : World) (hn : rs.length ≤ 2097152) (hl : (allI rs).length ≤ 2097152) (h : Rep w A rs) (h' : Rep w A' rq) (he : rs.map Rp.v = rq.map Rp.v) :
    Calls Try.prog 15 #[.slice A rs.length c, .slice A' rq.length c'] w fun e w' => e = .returned (.bool true) ∧ Below w.heap.size w w' := by
  have hle : rq.length = rs.length := by have := congrArg List.length he; simpa using this.symm
  have HE := Lib.hid he
  rw [hle]
  clear he
  have hne : ((rs.length : Int) != (rs.length : Int)) = false := by simp
  go_enter Try.func15, Try.ntmps15
  go_wp2
  go_loopw [5] (fun i wr => ∃ k : Nat, k ≤ rs.length ∧ i = .int .i64 k ∧ Below w.heap.size w wr) (fun i _ => rs.length - (intOf i).toNat)
  case atStart => exact ⟨0, by omega, rfl, Below.refl _ _⟩
  case round =>
    obtain ⟨k, hk, rfl, hb⟩ := hrel
    by_cases hlt : k < rs.length
    · have hW := h.below hb
      have hW' := h'.below hb
      have s1 := (hW.at_ hlt).row
      have s2 := (hW'.at_ (i := k) (by omega)).row
      obtain ⟨b, off, rfl, hbB, c0⟩ := hW.row.rp hlt
      obtain ⟨b', off', rfl, hbB', d0⟩ := hW'.row.rp (i := k) (by omega)
      have hel := map_v_at HE.out k
      have hsl := atI_le rs hlt
      generalize rs.getD k rp0 = x at *
      generalize rq.getD k rp0 = y at *
      have hbs := hb.size
      have K1 := Lib.hid (fun w' (h : Below wr.heap.size wr w') => Rp.here.below c0 h (by omega))
      have K2 := Lib.hid (fun w' (h : Below wr.heap.size wr w') => Rp.here.below d0 h (by omega))
      have C := Lib.hid (fun w' (h : Below wr.heap.size wr w') => eqReply_same x y w' (by omega) (rws_below s1 h) (rws_below s2 h) hel)
      clear c0 d0 s1 s2 hW hW' hel
      go_wp2
      refine wp_region_held_drew (S := fun w' => Hid (Below wr.heap.size wr w')) (by kernel_rfl) (below_drawn (Below.refl _ _) 1) (fun hHeld => ?_)
      refine held_take 0 17 (.slice (some ⟨b, off, none⟩) rs.length c) rfl rfl (by kernel_rfl) (by kernel_rfl) (by kernel_rfl) (fun _ _ _ h => h) rfl hHeld (fun w _ => rfl) ?_
      refine held_take 1 18 (.int .i64 (k : Int)) rfl rfl (by kernel_rfl) (by kernel_rfl) (by kernel_rfl) (fun _ _ _ h => h) rfl hHeld (fun w _ => rfl) ?_
      simp only [Act.put, List.setIfInBounds_toArray, List.set_cons_zero, List.set_cons_succ]
      refine held_take 2 19 (.pointer (some ⟨b, off + k * 2, none⟩)) rfl rfl (by kernel_rfl) (by kernel_rfl) (by kernel_rfl) (fun _ _ _ h => h) rfl hHeld (fun w _ => exec_idx_rp b off rs.length c k w hlt) ?_
      refine held_take 3 20 (rpA x) rfl rfl (by kernel_rfl) (by kernel_rfl) (by kernel_rfl) (fun _ _ _ h => h) rfl hHeld (fun w h => exec_load_rp b (off + k * 2) x w (K1.out w h.out)) ?_
      simp only [Act.put, List.setIfInBounds_toArray, List.set_cons_zero, List.set_cons_succ]
      refine held_take 4 21 (.slice (some ⟨b', off', none⟩) rs.length c') rfl rfl (by kernel_rfl) (by kernel_rfl) (by kernel_rfl) (fun _ _ _ h => h) rfl hHeld (fun w _ => rfl) ?_
      refine held_take 5 22 (.int .i64 (k : Int)) rfl rfl (by kernel_rfl) (by kernel_rfl) (by kernel_rfl) (fun _ _ _ h => h) rfl hHeld (fun w _ => rfl) ?_
      simp only [Act.put, List.setIfInBounds_toArray, List.set_cons_zero, List.set_cons_succ]
      refine held_take 6 23 (.pointer (some ⟨b', off' + k * 2, none⟩)) rfl rfl (by kernel_rfl) (by kernel_rfl) (by kernel_rfl) (fun _ _ _ h => h) rfl hHeld (fun w _ => exec_idx_rp b' off' rs.length c' k w hlt) ?_
      refine held_take 7 24 (rpA y) rfl rfl (by kernel_rfl) (by kernel_rfl) (by kernel_rfl) (fun _ _ _ h => h) rfl hHeld (fun w h => exec_load_rp b' (off' + k * 2) y w (K2.out w h.out)) ?_
      simp only [Act.put, List.setIfInBounds_toArray, List.set_cons_zero, List.set_cons_succ]
      refine held_call 8 25 9 #[rpA x, rpA y] rfl rfl (by kernel_rfl) rfl (exec_call Try.func9 (by kernel_rfl) (by kernel_rfl) _) ?_
      refine (C.out _ hHeld.out).mono ?_
      rintro e w1 ⟨rfl, b1⟩
      have hHeld : Hid (Below wr.heap.size wr w1) := hHeld.out.trans (b1.mono hHeld.out.size)
      refine ⟨_, rfl, hHeld, ?_⟩
      simp only [Act.put, List.setIfInBounds_toArray, List.set_cons_zero, List.set_cons_succ]
      refine held_take 9 26 (.bool false) rfl rfl (by kernel_rfl) (by kernel_rfl) (by kernel_rfl) (fun _ _ _ h => h) rfl hHeld (fun w _ => rfl) ?_
      simp only [Act.put, List.setIfInBounds_toArray, List.set_cons_zero, List.set_cons_succ]
      refine wpAnyH_done (by kernel_rfl) ?_ _
      have b2 : Hid (Below w.heap.size w w1) := hb.trans (hHeld.out.mono hbs)
      clear b1 hHeld hb K1 K2 C
      go_wp2
      go_roundw
      case rel => exact ⟨k + 1, by omega, by go_num, b2.out⟩
      case measure => simp [intOf]; omega
    · go_wp2
      go_ret
      exact ⟨rfl, hb⟩
/-- How many marks the first j replies take. -/
def mkN (rs : List Rp) (j : Nat) : Nat := j + (allI (rs.take j)).length
/-- A reply that is marked. -/
def mkRp (k : Nat) (rs : List Rp) (i : Nat) : Rp := ⟨((k + mkN rs i : Nat) : Int), (rs.getD i rp0).a, (rs.getD i rp0).c, marksI (k + mkN rs i + 1) (rs.getD i rp0).l.length⟩
def marksR (k : Nat) (rs : List Rp) (j : Nat) : List Rp := (List.range rs.length).map fun i => if i < j then mkRp k rs i else rs.getD i rp0
theorem marksR_length (k : Nat) (rs : List Rp) (j : Nat) : (marksR k rs j).length = rs.length := by simp [marksR]
theorem marksR_getD (k : Nat) (rs : List Rp) (j i : Nat) (h : i < rs.length) : (marksR k rs j).getD i rp0 = if i < j then mkRp k rs i else rs.getD i rp0 := by simp [marksR, h]
theorem marksR_zero (k : Nat) (rs : List Rp) : marksR k rs 0 = rs := by
  apply List.ext_getElem
  · simp [marksR]
  · intro i h1 h2
    simp [marksR, List.getD_eq_getElem?_getD, h2]
theorem mkN_succ (rs : List Rp) (j : Nat) (h : j < rs.length) : mkN rs (j + 1) = mkN rs j + 1 + (rs.getD j rp0).l.length := by
  unfold mkN; rw [allI_take rs j h, List.length_append]; omega
theorem mkN_le (rs : List Rp) (j : Nat) (h : j ≤ rs.length) : mkN rs j ≤ rs.length + (allI rs).length := by
  unfold mkN; have := allI_take_le rs j; omega
theorem marksR_set (k : Nat) (rs : List Rp) (j : Nat) (h : j < rs.length) : ((marksR k rs j).flatMap rpC).set (j * 2) (.int .i64 ((k + mkN rs j : Nat) : Int)) = (marksR k rs (j + 1)).flatMap rpC := by
  apply List.ext_getElem?
  intro n
  have hl1 : ((marksR k rs j).flatMap rpC).length = rs.length * 2 := by rw [flat_len rpC 2 rpC_len, marksR_length]
  have hl2 : ((marksR k rs (j + 1)).flatMap rpC).length = rs.length * 2 := by rw [flat_len rpC 2 rpC_len, marksR_length]
  by_cases hn : n < rs.length * 2
  · have hi : n / 2 < rs.length := by omega
    have g1 := flat_get rpC 2 rpC_len (marksR k rs j) (n / 2) (n % 2) rp0 (by rw [marksR_length]; exact hi) (by omega)
    have g2 := flat_get rpC 2 rpC_len (marksR k rs (j + 1)) (n / 2) (n % 2) rp0 (by rw [marksR_length]; exact hi) (by omega)
    rw [show n / 2 * 2 + n % 2 = n by omega, marksR_getD k rs _ _ hi] at g1 g2
    rw [g2, List.getElem?_set]
    by_cases he : j * 2 = n
    · rw [if_pos he, if_pos (by rw [hl1]; omega)]
      have h2 : n / 2 = j := by omega
      have h3 : n % 2 = 0 := by omega
      rw [h2, h3, if_pos (by omega)]
      rfl
    · rw [if_neg he, g1]
      by_cases hj : n / 2 = j
      · have h3 : n % 2 = 1 := by omega
        rw [hj, h3, if_neg (by omega), if_pos (by omega)]
        simp [rpC, mkRp, marksI_length]
      · by_cases hlt : n / 2 < j
        · rw [if_pos hlt, if_pos (by omega)]
        · rw [if_neg hlt, if_neg (by omega)]
  · rw [List.getElem?_eq_none (by rw [List.length_set, hl1]; omega), List.getElem?_eq_none (by rw [hl2]; omega)]
set_option maxRecDepth 100000 in
set_option maxHeartbeats 1600000 in
/-- markReplyS on replies of the call's own. -/
theorem markReplyS_any (A : Option Addr) (rs : List Rp) (c k B : Nat) (w : World) (hn : rs.length + (allI rs).length ≤ 1048580) (hk : k ≤ 16) (hO : OwnR w B A c rs) (hap : ApartR rs) :
    Calls Try.prog 16 #[.slice A rs.length c, .int .i64 k] w fun e w' => e = .returned (.int .i64 ((k + mkN rs rs.length : Nat) : Int)) ∧ OwnR w' B A c (marksR k rs rs.length) ∧ Tch (InR A rs) w w' := by
  have HAP := Lib.hid hap
  clear hap
  go_enter Try.func16, Try.ntmps16
  go_wp2
  go_loopw [1, 5] (fun q i wr => ∃ j : Nat, j ≤ rs.length ∧ i = .int .i64 j ∧ q = .int .i64 ((k + mkN rs j : Nat) : Int) ∧ Hid (wr.ownsRow B 27 2 (.slice A rs.length c) rs.length ((marksR k rs j).flatMap rpC)) ∧
      Hid (∀ i, i < rs.length → Rp.own wr B (if i < j then mkRp k rs i else rs.getD i rp0)) ∧ Hid (Tch (InR A rs) w wr)) (fun _ i _ => rs.length - (intOf i).toNat)
  case atStart => exact ⟨0, by omega, rfl, by simp [mkN, allI], by rw [marksR_zero]; exact hO.row, (fun i hi => by rw [if_neg (by omega)]; exact hO.ids _ (getD_mem rs i rp0 hi)), Tch.refl _ _⟩
  case round =>
    obtain ⟨j, hj, rfl, rfl, hrow, hin, ht⟩ := hrel
    by_cases hlt : j < rs.length
    · have hrow' := hrow.out
      obtain ⟨A', c', he, _, _, hp⟩ := own_form hrow'
      obtain ⟨g, rfl, hg⟩ := hp (by omega)
      obtain ⟨rfl, rfl⟩ : A = some ⟨g, 0, none⟩ ∧ c' = c := by injection he with h1 h2 h3; exact ⟨h1, h3.symm⟩
      have hs := hin.out j hlt
      rw [if_neg (by omega)] at hs
      obtain ⟨b, off, hbo, hbB, cc0, c1⟩ := (own_rws hrow').rp (i := j) (by rw [marksR_length]; exact hlt)
      rw [marksR_getD k rs j j hlt, if_neg (by omega)] at cc0 c1
      obtain ⟨rfl, rfl⟩ : b = g ∧ off = 0 := by injection hbo with h1; injection h1 with h1 h2; exact ⟨h1.symm, h2.symm⟩
      rw [Nat.zero_add] at cc0 c1
      have hf0 := hrow'.frozenAt (j * 2)
      have hel := allI_at_le rs j hlt
      have hjn := mkN_le rs j hj
      have HS := Lib.hid (marksR_set k rs j hlt)
      have HE := Lib.hid (mkN_succ rs j hlt)
      have HB : Hid (∀ g', (rs.getD j rp0).blk = some g' → InR (some ⟨b, 0, none⟩) rs g') := fun g hg => .inr ⟨_, getD_mem rs j rp0 hlt, hg⟩
      have HMK : Hid (mkRp k rs j = ⟨((k + mkN rs j : Nat) : Int), (rs.getD j rp0).a, (rs.getD j rp0).c, marksI (k + mkN rs j + 1) (rs.getD j rp0).l.length⟩) := rfl
      have HAJ : Hid (∀ i, i < rs.length → i ≠ j → ∀ g, (if i < j then mkRp k rs i else rs.getD i rp0).blk = some g → (rs.getD j rp0).blk ≠ some g) := fun i hi hne g hg => by
        have hg' : (rs.getD i rp0).blk = some g := by
          by_cases h : i < j
          · rw [if_pos h] at hg; exact hg
          · rw [if_neg h] at hg; exact hg
        rcases Nat.lt_or_gt_of_ne hne with h | h
        · exact HAP.out i j h hlt g hg'
        · intro h2; exact HAP.out j i h hi g h2 hg'
      obtain ⟨q, hq⟩ : ∃ q, q = k + mkN rs j := ⟨_, rfl⟩
      rw [← hq] at HMK HS
      rw [← hq]
      have hql : q ≤ 1048600 := by omega
      have HQ := Lib.hid hq
      clear hq he hp hbo
      generalize rs.getD j rp0 = s at *
      obtain ⟨W1, hW1⟩ : ∃ W1, wr.setCell ⟨b, j * 2, none⟩ (.int .i64 (q : Int)) = W1 := ⟨_, rfl⟩
      have S0 := hrow'.stored (j * 2) (.int .i64 (q : Int))
      rw [HS.out, hW1] at S0
      obtain ⟨curb, hcurb⟩ := own_typed2 hrow' b rfl
      have gr := Go.Lib.grownBy_setCell wr b (j * 2) (.int .i64 (q : Int))
      rw [hW1] at gr
      have hin1 : ∀ i, i < rs.length → Rp.own W1 B (if i < j then mkRp k rs i else rs.getD i rp0) := fun i hi => (hin.out i hi).kept gr (.inr (own_ne_type (hin.out i hi) hcurb (by decide)))
      have hs1 : Rp.own W1 B s := World.ownsRow.kept hs gr (.inr (own_ne_type hs hcurb (by decide)))
      have hc1 : W1.cell? ⟨b, j * 2 + 1, none⟩ = some (.slice s.a s.l.length s.c) := by
        rw [← hW1, World.cell?_setCell_other _ _ _ _ (by simp)]; exact c1
      have ht1 : Tch (InR (some ⟨b, 0, none⟩) rs) w W1 := ht.out.trans (Tch.of_grown gr (fun i hi => by injection hi with hi; subst hi; exact .inl rfl))
      have C := Lib.hid (markInt_any s.a s.l (q + 1) s.c B W1 (by omega) (by omega) hs1)
      have HI1 := Lib.hid hin1
      have HT1 := Lib.hid ht1
      have HR1 := Lib.hid S0.1
      have HW := Lib.hid hW1
      have HS1 := Lib.hid hs1
      clear hin1 ht1 S0 hs1 hs hrow' hcurb gr hin ht hrow HS hW1
      go_wp2_with fail
      rw [HW.out]
      refine C.out.mono ?_
      rintro e w1 ⟨rfl, o1, g1⟩
      have HT : Hid (Tch (InR (some ⟨b, 0, none⟩) rs) w w1) := HT1.out.trans (Tch.of_grown g1 (fun i hi => HB.out i (by rw [ownBlock_eq] at hi; exact hi)))
      have HR : Hid (w1.ownsRow B 27 2 (.slice (some ⟨b, 0, none⟩) rs.length c') rs.length ((marksR k rs (j + 1)).flatMap rpC)) := by
        show World.ownsRow _ _ _ _ _ _ _
        refine own_kept2 HR1.out g1 (fun g h1 h2 => ?_)
        obtain ⟨cur, hcur⟩ := own_typed2 HR1.out g h1
        exact own_ne_type HS1.out hcur (by decide) h2
      have HN : Hid (∀ i, i < rs.length → Rp.own w1 B (if i < j + 1 then mkRp k rs i else rs.getD i rp0)) := fun i hi => by
        by_cases he : i = j
        · subst he
          rw [if_pos (by omega), HMK.out]
          unfold Rp.own
          simp only [marksI_length]
          exact o1
        · have h1 := HI1.out i hi
          have h2 : (if i < j + 1 then mkRp k rs i else rs.getD i rp0) = (if i < j then mkRp k rs i else rs.getD i rp0) := by
            by_cases h : i < j
            · rw [if_pos h, if_pos (by omega)]
            · rw [if_neg h, if_neg (by omega)]
          rw [h2]
          refine own_kept2 h1 g1 (fun g e1 e2 => ?_)
          rw [ownBlock_eq] at e1 e2
          exact HAJ.out i hi he g e1 e2
      clear o1 g1 C HS1 HI1 HT1 HR1 HW hc1 hf0 cc0 c1 HAJ HB HMK
      go_wp2
      go_roundw
      case rel => exact ⟨j + 1, by omega, by go_num, by rw [HE.out]; have := HQ.out; go_num, HR, HN, HT⟩
      case measure => simp [intOf]; omega
    · obtain rfl : j = rs.length := by omega
      have R : Hid (OwnR wr B A c (marksR k rs rs.length)) := ⟨by rw [marksR_length]; exact hrow.out, fun s hs => by
        obtain ⟨i, hi, rfl⟩ := List.mem_map.1 hs
        exact hin.out i (List.mem_range.1 hi)⟩
      clear hin hrow
      go_wp2
      go_ret
      exact ⟨rfl, R.out, ht.out⟩
end Go.Proofs.Ytpnkkmeeogfeaaa
