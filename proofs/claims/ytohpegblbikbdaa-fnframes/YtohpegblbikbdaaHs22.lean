/- l11Room of the model. -/
import Derived.Test.YtohpegblbikbdaaRows
import Derived.Test.YtohpegblbikbdaaHs21
import Derived.Deep.DeepCutAuto
namespace Go.Proofs.Ytohpegblbikbdaa
open Go.RowKit
set_option linter.unusedSimpArgs false
set_option linter.unusedVariables false
set_option maxRecDepth 100000 in
theorem exec_fldHo {ρ : Operand → Value} {o : Oper} {x : Operand} (b f off : Nat) (w : World) (hf : (f = 0 ∧ off = 0) ∨ (f = 1 ∧ off = 9) ∨ (f = 2 ∧ off = 10) ∨ (f = 3 ∧ off = 11) ∨ (f = 4 ∧ off = 12) ∨ (f = 5 ∧ off = 13) ∨ (f = 6 ∧ off = 14)) (ho : o.op = .fieldAddr 52 x f := by rfl) (hx : ρ x = .pointer (some ⟨b, 0, none⟩) := by rfl) :
    (execOp ρ o).run Try.prog w = .ok (.value (.pointer (some ⟨b, off, none⟩))) w := by
  unfold execOp
  rw [ho]
  rcases hf with ⟨rfl, rfl⟩ | ⟨rfl, rfl⟩ | ⟨rfl, rfl⟩ | ⟨rfl, rfl⟩ | ⟨rfl, rfl⟩ | ⟨rfl, rfl⟩ | ⟨rfl, rfl⟩ <;> simp [go_sem, hx]
set_option maxRecDepth 100000 in
theorem exec_loadRow {ρ : Operand → Value} {o : Oper} {x : Operand} (t : TypeId) (b off : Nat) (B : Option Addr) (n c : Nat) (w : World) (ht : t = 49 ∨ t = 50) (h : w.cell? ⟨b, off, none⟩ = some (.slice B n c)) (ho : o.op = .load t x := by rfl) (hx : ρ x = .pointer (some ⟨b, off, none⟩) := by rfl) :
    (execOp ρ o).run Try.prog w = .ok (.value (.slice B n c)) w := by
  unfold execOp
  rw [ho]
  rcases ht with rfl | rfl <;> simp [go_sem, hx, h]
set_option maxRecDepth 100000 in
theorem exec_idxIv {ρ : Operand → Value} {o : Oper} {x y : Operand} (b off n c k : Nat) (w : World) (h : k < n) (ho : o.op = .indexAddr 27 x y := by rfl) (hx : ρ x = .slice (some ⟨b, off, none⟩) n c := by rfl) (hy : ρ y = .int .i64 (k : Int) := by rfl) :
    (execOp ρ o).run Try.prog w = .ok (.value (.pointer (some ⟨b, off + k, none⟩))) w := by
  have h1 : (k : Int) < (n : Int) := by omega
  unfold execOp
  rw [ho]
  simp [go_sem, hx, hy, h]
set_option maxRecDepth 100000 in
set_option maxHeartbeats 6400000 in
theorem l11Room_any (x : Ho) (l : List Pt) (p : Pt) (w : World) (hl : l.length ≤ 1000) (hpn : x.pn = l.length) (hnil : x.p = none → x.pc = 0) (hcn : x.cn = x.r.seats.length) (hr : RuOk x.r) (hRA : Rws w w.heap.size x.ra (ints x.r.seats)) (hA : Rws w w.heap.size x.p (l.flatMap ptC)) :
    Calls Try.prog 42 #[hoA x, ptA p] w fun e w' => (∃ b, e = .returned (.bool b)) ∧ Below w.heap.size w w' := by
  obtain ⟨W, hW⟩ : ∃ W, (w.alloc (.cells #[.slice x.ra x.r.seats.length x.rc, .int .i64 x.r.tiers, .int .i64 x.r.room, .int .i64 x.r.size, .int .i64 x.r.period, .int .i64 x.r.window, .int .i64 x.r.rest, .int .i64 x.r.tries, .int .i64 x.r.crew, .int .i64 x.now, .int .i64 x.turn, .slice x.p x.pn x.pc, .slice x.c x.cn x.cc, .slice x.t x.tn x.tc, .slice x.j x.jn x.jc] 52)).alloc (.cells #[.int .i64 p.id, .int .i64 p.cabin, .int .i64 p.from_, .int .i64 p.size, .int .i64 p.tier, .int .i64 p.since, .int .i64 p.turn, .int .i64 p.state, .int .i64 p.until_, .int .i64 p.asked] 42) = W := ⟨_, rfl⟩
  have T0 : W.heap[w.heap.size]? = some (.cells #[.slice x.ra x.r.seats.length x.rc, .int .i64 x.r.tiers, .int .i64 x.r.room, .int .i64 x.r.size, .int .i64 x.r.period, .int .i64 x.r.window, .int .i64 x.r.rest, .int .i64 x.r.tries, .int .i64 x.r.crew, .int .i64 x.now, .int .i64 x.turn, .slice x.p x.pn x.pc, .slice x.c x.cn x.cc, .slice x.t x.tn x.tc, .slice x.j x.jn x.jc] 52) ∧ W.heap[w.heap.size + 1]? = some (.cells #[.int .i64 p.id, .int .i64 p.cabin, .int .i64 p.from_, .int .i64 p.size, .int .i64 p.tier, .int .i64 p.since, .int .i64 p.turn, .int .i64 p.state, .int .i64 p.until_, .int .i64 p.asked] 42) ∧ Below w.heap.size w W := by rw [← hW]; exact two_at w _ _ _ (Below.refl _ _)
  have HT := Lib.hid T0
  have n2 := hr.n2
  have HP := Lib.hid hpn
  have HC := Lib.hid hcn
  clear T0 hpn hcn
  unfold hoA ptA
  go_enter Try.func42, Try.ntmps42
  go_wp2_with fail
  clear hW
  have KH := Lib.hid (fun w' (h : Below W.heap.size W w') => cell_of_row _ _ 11 _ _ _ (blk_call HT.out.1 h))
  have KX := Lib.hid (fun w' (h : Below W.heap.size W w') => Pt.here.blk (blk_call HT.out.2.1 h))
  have HR : Hid (∀ w' (h : Below W.heap.size W w'), Rws w' w'.heap.size x.p (l.flatMap ptC)) := fun w' h => rws_below (rws_below hA HT.out.2.2) h
  have e1 : (l.flatMap ptC).length = x.pn * 10 := by rw [HP.out]; exact flat_len ptC 10 ptC_len l
  have hpl : x.pn ≤ 1000 := by rw [HP.out]; exact hl
  go_cut [5] (fun s5 wx => ∃ M mc, s5 = .slice M (l.length + 1) mc ∧ wx.ownsRow W.heap.size 42 10 (.slice M (l.length + 1) mc) (l.length + 1) ((l ++ [p]).flatMap ptC) ∧ Below W.heap.size W wx)
  case first =>
    refine wp_region_held_drew (S := fun w' => Hid (Below W.heap.size W w')) (by kernel_rfl) (below_drawn (Below.refl _ _) 1) (fun hHeld => ?_)
    refine held_take 1 8 (.pointer (some ⟨w.heap.size, 11, none⟩)) rfl rfl (by kernel_rfl) (by kernel_rfl) (by kernel_rfl) (fun _ _ _ h => h) rfl hHeld (fun w _ => exec_fldHo _ 3 11 w (by simp)) ?_
    refine held_take 2 9 (.slice x.p x.pn x.pc) rfl rfl (by kernel_rfl) (by kernel_rfl) (by kernel_rfl) (fun _ _ _ h => h) rfl hHeld (fun w hS => exec_loadRow _ _ 11 _ _ _ w (.inl rfl) (KH.out w hS.out)) ?_
    simp only [Act.put, List.setIfInBounds_toArray, List.set_cons_zero, List.set_cons_succ]
    refine held_take 4 11 (ptA p) rfl rfl (by kernel_rfl) (by kernel_rfl) (by kernel_rfl) (fun _ _ _ h => h) rfl hHeld (fun w hS => exec_load_pt _ 0 p w (KX.out w hS.out)) ?_
    simp only [Act.put, List.setIfInBounds_toArray, List.set_cons_zero, List.set_cons_succ]
    have bA := hHeld.out.alloc hHeld.out.size (.cells #[] 42)
    have bB := hHeld.out.alloc hHeld.out.size (.cells (ptC p).toArray 42)
    refine wpAnyH_ready (rs := [0, 5]) (by kernel_rfl) (by simp) (ready_op 0 7 _ rfl rfl rfl (exec_none_pt _) bA ?_ (ready_op 5 12 _ rfl rfl rfl (exec_one_pt p _) bB ?_ AllReadyH.nil))
    · skip
      simp only [Act.put, List.setIfInBounds_toArray, List.set_cons_zero, List.set_cons_succ]
      have oA := own_emptyB hHeld.out 42 10
      have bAB := bA.alloc bA.size (.cells (ptC p).toArray 42)
      refine wpAnyH_ready (rs := [3, 5]) (by kernel_rfl) (by simp) (ready_opx 3 10 rfl rfl rfl (exec_appR rowPty _ W.heap.size _ 0 [] oA _ x.p x.pn x.pc (l.flatMap ptC) e1 (HR.out _ bA) hnil (ptC_one _) (by omega) (bA.size)) ?_ (ready_op 5 12 _ rfl rfl rfl (exec_one_pt p _) bAB ?_ AllReadyH.nil))
      · rintro v7 w7 ⟨o7, g7⟩
        have k7 := bA.grown g7 bA.size (own_low oA)
        refine ⟨k7, ?_⟩
        simp only [Act.put, List.setIfInBounds_toArray, List.set_cons_zero, List.set_cons_succ]
        rw [Nat.zero_add, List.nil_append] at o7
        refine held_op 5 12 (.slice (some ⟨w7.heap.size, 0, none⟩) 1 1) rfl rfl (by kernel_rfl) rfl (exec_one_pt p _) (k7.alloc k7.size _) ?_
        simp only [Act.put, List.setIfInBounds_toArray, List.set_cons_zero, List.set_cons_succ]
        have k8 := k7.alloc k7.size (.cells (ptC p).toArray 42)
        have o8 := o7.alloc (.cells (ptC p).toArray 42)
        refine held_opx 6 13 rfl rfl (by kernel_rfl) rfl (exec_appR rowPty _ W.heap.size _ x.pn _ o8 _ _ 1 1 (ptC p) rfl (Rws.new w7 (ptC p) 42) (fun h => by cases h) (by intro z hz; exact ptC_one [p] z (by simpa using hz)) (by omega) (k8.size)) ?_
        rintro v9 w9 ⟨o9, g9⟩
        have k9 := k8.grown g9 k8.size (own_low o8)
        refine ⟨k9, ?_⟩
        simp only [Act.put, List.setIfInBounds_toArray, List.set_cons_zero, List.set_cons_succ]
        refine held_op 7 5 v9 rfl rfl (by kernel_rfl) rfl rfl k9 ?_
        simp only [Act.put, List.setIfInBounds_toArray, List.set_cons_zero, List.set_cons_succ]
        refine wpAnyH_done (by kernel_rfl) ?_ _
        rw [HP.out] at o9
        obtain ⟨M9, mc9, rfl, _⟩ := own_form o9
        have e9 : (l ++ [p]).flatMap ptC = l.flatMap ptC ++ ptC p := by simp
        rw [← e9] at o9
        go_wp2_with fail
        go_meet
        exact ⟨M9, mc9, rfl, o9, k9⟩
      · skip
        simp only [Act.put, List.setIfInBounds_toArray, List.set_cons_zero, List.set_cons_succ]
        have RN := rws_newB bA (ptC p) 42
        have oB := oA.alloc (.cells (ptC p).toArray 42)
        refine held_opx 3 10 rfl rfl (by kernel_rfl) rfl (exec_appR rowPty _ W.heap.size _ 0 [] oB _ x.p x.pn x.pc (l.flatMap ptC) e1 (HR.out _ bAB) hnil (ptC_one _) (by omega) (bAB.size)) ?_
        rintro v7 w7 ⟨o7, g7⟩
        have k7 := bAB.grown g7 bAB.size (own_low oB)
        refine ⟨k7, ?_⟩
        simp only [Act.put, List.setIfInBounds_toArray, List.set_cons_zero, List.set_cons_succ]
        rw [Nat.zero_add, List.nil_append] at o7
        have RN := rws_grown RN g7 (fun j h => by injection h with h; simp at h ⊢; omega)
        refine held_opx 6 13 rfl rfl (by kernel_rfl) rfl (exec_appR rowPty _ W.heap.size _ x.pn _ o7 _ _ 1 1 (ptC p) rfl RN (fun h => by cases h) (by intro z hz; exact ptC_one [p] z (by simpa using hz)) (by omega) (k7.size)) ?_
        rintro v9 w9 ⟨o9, g9⟩
        have k9 := k7.grown g9 k7.size (own_low o7)
        refine ⟨k9, ?_⟩
        simp only [Act.put, List.setIfInBounds_toArray, List.set_cons_zero, List.set_cons_succ]
        refine held_op 7 5 v9 rfl rfl (by kernel_rfl) rfl rfl k9 ?_
        simp only [Act.put, List.setIfInBounds_toArray, List.set_cons_zero, List.set_cons_succ]
        refine wpAnyH_done (by kernel_rfl) ?_ _
        rw [HP.out] at o9
        obtain ⟨M9, mc9, rfl, _⟩ := own_form o9
        have e9 : (l ++ [p]).flatMap ptC = l.flatMap ptC ++ ptC p := by simp
        rw [← e9] at o9
        go_wp2_with fail
        go_meet
        exact ⟨M9, mc9, rfl, o9, k9⟩
    · skip
      simp only [Act.put, List.setIfInBounds_toArray, List.set_cons_zero, List.set_cons_succ]
      have RN := rws_newB hHeld.out (ptC p) 42
      have bBA := bB.alloc bB.size (.cells #[] 42)
      refine held_op 0 7 _ rfl rfl (by kernel_rfl) rfl (exec_none_pt _) bBA ?_
      simp only [Act.put, List.setIfInBounds_toArray, List.set_cons_zero, List.set_cons_succ]
      have oA := own_emptyB bB 42 10
      have RN := RN.alloc (by simp) (.cells #[] 42)
      refine held_opx 3 10 rfl rfl (by kernel_rfl) rfl (exec_appR rowPty _ W.heap.size _ 0 [] oA _ x.p x.pn x.pc (l.flatMap ptC) e1 (HR.out _ bBA) hnil (ptC_one _) (by omega) (bBA.size)) ?_
      rintro v7 w7 ⟨o7, g7⟩
      have k7 := bBA.grown g7 bBA.size (own_low oA)
      refine ⟨k7, ?_⟩
      simp only [Act.put, List.setIfInBounds_toArray, List.set_cons_zero, List.set_cons_succ]
      rw [Nat.zero_add, List.nil_append] at o7
      have RN := rws_grown RN g7 (fun j h => by injection h with h; simp at h ⊢; omega)
      refine held_opx 6 13 rfl rfl (by kernel_rfl) rfl (exec_appR rowPty _ W.heap.size _ x.pn _ o7 _ _ 1 1 (ptC p) rfl RN (fun h => by cases h) (by intro z hz; exact ptC_one [p] z (by simpa using hz)) (by omega) (k7.size)) ?_
      rintro v9 w9 ⟨o9, g9⟩
      have k9 := k7.grown g9 k7.size (own_low o7)
      refine ⟨k9, ?_⟩
      simp only [Act.put, List.setIfInBounds_toArray, List.set_cons_zero, List.set_cons_succ]
      refine held_op 7 5 v9 rfl rfl (by kernel_rfl) rfl rfl k9 ?_
      simp only [Act.put, List.setIfInBounds_toArray, List.set_cons_zero, List.set_cons_succ]
      refine wpAnyH_done (by kernel_rfl) ?_ _
      rw [HP.out] at o9
      obtain ⟨M9, mc9, rfl, _⟩ := own_form o9
      have e9 : (l ++ [p]).flatMap ptC = l.flatMap ptC ++ ptC p := by simp
      rw [← e9] at o9
      go_wp2_with fail
      go_meet
      exact ⟨M9, mc9, rfl, o9, k9⟩
  case rest =>
    obtain ⟨M, mc, rfl, oM, bM⟩ := hcut
    have RM := own_rws oM
    have T := HT.out
    have bw := T.2.2.trans (bM.mono T.2.2.size)
    have h0 := blk_call T.1 bM
    have HH := Lib.hid h0
    have BW := Lib.hid bw
    have len1 : (l ++ [p]).length = l.length + 1 := by simp
    have CH0 := Lib.hid (fun (i : Nat) u (b : Below wc.heap.size wc u) => held_spec M (l ++ [p]) mc (i : Int) u (by simp; omega) (rws_below RM b))
    have CT0 := Lib.hid (fun (i : Nat) u (b : Below wc.heap.size wc u) => tied_spec M (l ++ [p]) mc (i : Int) u (by simp; omega) (rws_below RM b))
    rw [len1] at CH0 CT0
    have RS := Lib.hid (rws_below hRA bw)
    clear oM RM T h0 bw HT KH KX HR bM
    go_wp2_with fail
    go_loopw [6] (fun vi wr => ∃ i : Nat, i ≤ x.r.seats.length ∧ vi = .int .i64 i ∧ Below wc.heap.size wc wr) (fun vi _ => x.r.seats.length - (intOf vi).toNat)
    case atStart => exact ⟨0, by omega, rfl, Below.refl _ _⟩
    case round =>
      obtain ⟨i, hi0, rfl, hb⟩ := hrel
      have hh := blk_call HH.out hb
      have c12 := cell_of_row _ _ 12 _ _ _ hh
      simp at c12
      by_cases hi : i < x.r.seats.length
      · obtain ⟨sb, so, es, hsB, hsc⟩ := (rws_below RS.out hb).int hi
        have CH := Lib.hid (fun u (b : Below wr.heap.size wr u) => CH0.out i u (hb.trans (b.mono hb.size)))
        have CT := Lib.hid (fun u (b : Below wr.heap.size wr u) => CT0.out i u (hb.trans (b.mono hb.size)))
        have hih := held_in (l ++ [p]) (i : Int)
        have hit := tied_in (l ++ [p]) (i : Int)
        rw [len1] at hih hit
        generalize heldV (l ++ [p]) (i : Int) = H0 at *
        generalize tiedV (l ++ [p]) (i : Int) = T0 at *
        generalize x.r.seats.getD i 0 = S0 at *
        have KR := Lib.hid (fun w' (h : Below wr.heap.size wr w') => (by have := cell_of_row _ _ 0 _ _ _ (blk_call hh h); rw [es] at this; exact this : w'.cell? ⟨w.heap.size, 0, none⟩ = some (.slice (some ⟨sb, so, none⟩) x.r.seats.length x.rc)))
        have KS := Lib.hid (fun w' (h : Below wr.heap.size wr w') => (h.cell (by exact hsB)).trans hsc)
        have HB := Lib.hid hb
        clear hh hsc hb
        by_cases hd : S0 < H0 + T0
        · have ed : decide (S0 < H0 + T0) = true := decide_eq_true hd
          clear hd
          rw [HC.out] at c12
          go_wp2_with fail
          refine wp_region_held_drew (S := fun w' => Hid (Below wr.heap.size wr w')) (by kernel_rfl) (below_drawn (Below.refl _ _) 1) (fun hHeld => ?_)
          refine held_take 0 21 (.slice M (l.length + 1) mc) rfl rfl (by kernel_rfl) (by kernel_rfl) (by kernel_rfl) (fun _ _ _ h => h) rfl hHeld (fun w _ => rfl) ?_
          refine held_take 1 22 (.int .i64 (i : Int)) rfl rfl (by kernel_rfl) (by kernel_rfl) (by kernel_rfl) (fun _ _ _ h => h) rfl hHeld (fun w _ => rfl) ?_
          refine held_take 3 24 (.slice M (l.length + 1) mc) rfl rfl (by kernel_rfl) (by kernel_rfl) (by kernel_rfl) (fun _ _ _ h => h) rfl hHeld (fun w _ => rfl) ?_
          simp only [Act.put, List.setIfInBounds_toArray, List.set_cons_zero, List.set_cons_succ]
          refine held_take 4 25 (.int .i64 (i : Int)) rfl rfl (by kernel_rfl) (by kernel_rfl) (by kernel_rfl) (fun _ _ _ h => h) rfl hHeld (fun w _ => rfl) ?_
          refine held_take 7 28 (.pointer (some ⟨w.heap.size, 0, none⟩)) rfl rfl (by kernel_rfl) (by kernel_rfl) (by kernel_rfl) (fun _ _ _ h => h) rfl hHeld (fun w _ => exec_fldHo _ 0 0 w (.inl ⟨rfl, rfl⟩)) ?_
          refine held_take 8 29 (.pointer (some ⟨w.heap.size, 0, none⟩)) rfl rfl (by kernel_rfl) (by kernel_rfl) (by kernel_rfl) (fun _ _ _ h => h) rfl hHeld (fun w _ => exec_fld0 _ w) ?_
          simp only [Act.put, List.setIfInBounds_toArray, List.set_cons_zero, List.set_cons_succ]
          refine held_take 9 30 (.slice (some ⟨sb, so, none⟩) x.r.seats.length x.rc) rfl rfl (by kernel_rfl) (by kernel_rfl) (by kernel_rfl) (fun _ _ _ h => h) rfl hHeld (fun w hS => exec_loadSl _ _ 0 _ _ _ w rfl (KR.out w hS.out)) ?_
          refine held_take 10 31 (.int .i64 (i : Int)) rfl rfl (by kernel_rfl) (by kernel_rfl) (by kernel_rfl) (fun _ _ _ h => h) rfl hHeld (fun w _ => rfl) ?_
          refine held_take 11 32 (.pointer (some ⟨sb, so + i, none⟩)) rfl rfl (by kernel_rfl) (by kernel_rfl) (by kernel_rfl) (fun _ _ _ h => h) rfl hHeld (fun w _ => exec_idxIv sb so x.r.seats.length x.rc i w hi) ?_
          simp only [Act.put, List.setIfInBounds_toArray, List.set_cons_zero, List.set_cons_succ]
          refine held_take 12 33 (.int .i64 S0) rfl rfl (by kernel_rfl) (by kernel_rfl) (by kernel_rfl) (fun _ _ _ h => h) rfl hHeld (fun w hS => exec_load1 3 sb (so + i) _ w (.inl rfl) (KS.out w hS.out)) ?_
          simp only [Act.put, List.setIfInBounds_toArray, List.set_cons_zero, List.set_cons_succ]
          refine held_call 2 23 57 #[.slice M (l.length + 1) mc, .int .i64 (i : Int)] rfl rfl (by kernel_rfl) rfl (exec_call Try.func57 (by kernel_rfl) (by kernel_rfl) _) ?_
          refine (CH.out _ hHeld.out).mono ?_
          rintro e u1 ⟨rfl, rfl⟩
          refine ⟨_, rfl, hHeld, ?_⟩
          simp only [Act.put, List.setIfInBounds_toArray, List.set_cons_zero, List.set_cons_succ]
          refine held_call 5 26 58 #[.slice M (l.length + 1) mc, .int .i64 (i : Int)] rfl rfl (by kernel_rfl) rfl (exec_call Try.func58 (by kernel_rfl) (by kernel_rfl) _) ?_
          refine (CT.out _ hHeld.out).mono ?_
          rintro e u1 ⟨rfl, rfl⟩
          refine ⟨_, rfl, hHeld, ?_⟩
          simp only [Act.put, List.setIfInBounds_toArray, List.set_cons_zero, List.set_cons_succ]
          refine held_op 6 27 (.int .i64 (H0 + T0)) rfl rfl (by kernel_rfl) rfl (exec_addI H0 T0 _ _ rfl (by omega) (by omega)) hHeld ?_
          simp only [Act.put, List.setIfInBounds_toArray, List.set_cons_zero, List.set_cons_succ]
          refine held_op 13 34 (.bool true) rfl rfl (by kernel_rfl) rfl (exec_gtrI (H0 + T0) S0 _ _ ed) hHeld ?_
          simp only [Act.put, List.setIfInBounds_toArray, List.set_cons_zero, List.set_cons_succ]
          refine wpAnyH_done (by kernel_rfl) ?_ _
          have bF := Lib.hid (BW.out.trans ((HB.out.trans (hHeld.out.mono HB.out.size)).mono BW.out.size))
          clear hHeld
          go_wp2
          go_ret
          exact ⟨⟨_, rfl⟩, bF.out⟩
        · have ed : decide (S0 < H0 + T0) = false := decide_eq_false hd
          clear hd
          rw [HC.out] at c12
          go_wp2_with fail
          refine wp_region_held_drew (S := fun w' => Hid (Below wr.heap.size wr w')) (by kernel_rfl) (below_drawn (Below.refl _ _) 1) (fun hHeld => ?_)
          refine held_take 0 21 (.slice M (l.length + 1) mc) rfl rfl (by kernel_rfl) (by kernel_rfl) (by kernel_rfl) (fun _ _ _ h => h) rfl hHeld (fun w _ => rfl) ?_
          refine held_take 1 22 (.int .i64 (i : Int)) rfl rfl (by kernel_rfl) (by kernel_rfl) (by kernel_rfl) (fun _ _ _ h => h) rfl hHeld (fun w _ => rfl) ?_
          refine held_take 3 24 (.slice M (l.length + 1) mc) rfl rfl (by kernel_rfl) (by kernel_rfl) (by kernel_rfl) (fun _ _ _ h => h) rfl hHeld (fun w _ => rfl) ?_
          simp only [Act.put, List.setIfInBounds_toArray, List.set_cons_zero, List.set_cons_succ]
          refine held_take 4 25 (.int .i64 (i : Int)) rfl rfl (by kernel_rfl) (by kernel_rfl) (by kernel_rfl) (fun _ _ _ h => h) rfl hHeld (fun w _ => rfl) ?_
          refine held_take 7 28 (.pointer (some ⟨w.heap.size, 0, none⟩)) rfl rfl (by kernel_rfl) (by kernel_rfl) (by kernel_rfl) (fun _ _ _ h => h) rfl hHeld (fun w _ => exec_fldHo _ 0 0 w (.inl ⟨rfl, rfl⟩)) ?_
          refine held_take 8 29 (.pointer (some ⟨w.heap.size, 0, none⟩)) rfl rfl (by kernel_rfl) (by kernel_rfl) (by kernel_rfl) (fun _ _ _ h => h) rfl hHeld (fun w _ => exec_fld0 _ w) ?_
          simp only [Act.put, List.setIfInBounds_toArray, List.set_cons_zero, List.set_cons_succ]
          refine held_take 9 30 (.slice (some ⟨sb, so, none⟩) x.r.seats.length x.rc) rfl rfl (by kernel_rfl) (by kernel_rfl) (by kernel_rfl) (fun _ _ _ h => h) rfl hHeld (fun w hS => exec_loadSl _ _ 0 _ _ _ w rfl (KR.out w hS.out)) ?_
          refine held_take 10 31 (.int .i64 (i : Int)) rfl rfl (by kernel_rfl) (by kernel_rfl) (by kernel_rfl) (fun _ _ _ h => h) rfl hHeld (fun w _ => rfl) ?_
          refine held_take 11 32 (.pointer (some ⟨sb, so + i, none⟩)) rfl rfl (by kernel_rfl) (by kernel_rfl) (by kernel_rfl) (fun _ _ _ h => h) rfl hHeld (fun w _ => exec_idxIv sb so x.r.seats.length x.rc i w hi) ?_
          simp only [Act.put, List.setIfInBounds_toArray, List.set_cons_zero, List.set_cons_succ]
          refine held_take 12 33 (.int .i64 S0) rfl rfl (by kernel_rfl) (by kernel_rfl) (by kernel_rfl) (fun _ _ _ h => h) rfl hHeld (fun w hS => exec_load1 3 sb (so + i) _ w (.inl rfl) (KS.out w hS.out)) ?_
          simp only [Act.put, List.setIfInBounds_toArray, List.set_cons_zero, List.set_cons_succ]
          refine held_call 2 23 57 #[.slice M (l.length + 1) mc, .int .i64 (i : Int)] rfl rfl (by kernel_rfl) rfl (exec_call Try.func57 (by kernel_rfl) (by kernel_rfl) _) ?_
          refine (CH.out _ hHeld.out).mono ?_
          rintro e u1 ⟨rfl, rfl⟩
          refine ⟨_, rfl, hHeld, ?_⟩
          simp only [Act.put, List.setIfInBounds_toArray, List.set_cons_zero, List.set_cons_succ]
          refine held_call 5 26 58 #[.slice M (l.length + 1) mc, .int .i64 (i : Int)] rfl rfl (by kernel_rfl) rfl (exec_call Try.func58 (by kernel_rfl) (by kernel_rfl) _) ?_
          refine (CT.out _ hHeld.out).mono ?_
          rintro e u1 ⟨rfl, rfl⟩
          refine ⟨_, rfl, hHeld, ?_⟩
          simp only [Act.put, List.setIfInBounds_toArray, List.set_cons_zero, List.set_cons_succ]
          refine held_op 6 27 (.int .i64 (H0 + T0)) rfl rfl (by kernel_rfl) rfl (exec_addI H0 T0 _ _ rfl (by omega) (by omega)) hHeld ?_
          simp only [Act.put, List.setIfInBounds_toArray, List.set_cons_zero, List.set_cons_succ]
          refine held_op 13 34 (.bool false) rfl rfl (by kernel_rfl) rfl (exec_gtrI (H0 + T0) S0 _ _ ed) hHeld ?_
          simp only [Act.put, List.setIfInBounds_toArray, List.set_cons_zero, List.set_cons_succ]
          refine wpAnyH_done (by kernel_rfl) ?_ _
          have bF := Lib.hid (HB.out.trans (hHeld.out.mono HB.out.size))
          clear hHeld
          go_wp2
          go_roundw
          case rel => exact ⟨i + 1, by omega, by go_num, bF.out⟩
          case measure => simp [intOf] <;> omega
      · rw [HC.out] at c12
        have bF := Lib.hid (BW.out.trans (hb.mono BW.out.size))
        clear hh hb
        go_wp2
        go_ret
        exact ⟨⟨_, rfl⟩, bF.out⟩
end Go.Proofs.Ytohpegblbikbdaa
