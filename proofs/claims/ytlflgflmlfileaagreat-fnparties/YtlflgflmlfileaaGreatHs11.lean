/- QueueOf of the model. -/
import Derived.Test.YtlflgflmlfileaaGreatRows
import Derived.Test.YtlflgflmlfileaaGreatHs7
import Derived.Test.YtlflgflmlfileaaGreatHs9
import Derived.Test.YtlflgflmlfileaaGreatSameI
import Derived.Deep.DeepCutAuto
namespace Go.Proofs.YtlflgflmlfileaaGreat
open Go.RowKit
set_option linter.unusedSimpArgs false
set_option linter.unusedVariables false
set_option maxRecDepth 100000 in
theorem exec_alloc_en {ρ : Operand → Value} {o : Oper} (w : World) (ho : o.op = .alloc 100 := by rfl) :
    (execOp ρ o).run Tryz.prog w = .ok (.value (.pointer (some ⟨w.heap.size, 0, none⟩))) (w.alloc (.cells #[.int .i64 0, .int .i64 0, .int .i64 0, .int .i64 0] 100)) := by
  unfold execOp
  rw [ho]
  simp [go_sem]
def putEn (w : World) (g : Nat) (x : En) : World := (((w.setCell ⟨g, 0, none⟩ (.int .i64 x.lev)).setCell ⟨g, 1, none⟩ (.int .i64 x.turn)).setCell ⟨g, 2, none⟩ (.int .i64 x.id)).setCell ⟨g, 3, none⟩ (.int .i64 x.size)
theorem putEn_heap {w : World} {g : Nat} {x : En} {t : TypeId} (h : w.heap[g]? = some (.cells #[.int .i64 0, .int .i64 0, .int .i64 0, .int .i64 0] t (0, 0))) : (putEn w g x).heap[g]? = some (.cells #[.int .i64 x.lev, .int .i64 x.turn, .int .i64 x.id, .int .i64 x.size] t (0, 0)) := by
  unfold putEn
  have h := Go.heap_setCell_same _ g 0 _ t (.int .i64 x.lev) h
  have h := Go.heap_setCell_same _ g 1 _ t (.int .i64 x.turn) h
  have h := Go.heap_setCell_same _ g 2 _ t (.int .i64 x.id) h
  exact Go.heap_setCell_same _ g 3 _ t (.int .i64 x.size) h
theorem putEn_below {B : Nat} {w0 w : World} {g : Nat} {x : En} (h : Below B w0 w) (hg : B ≤ g) : Below B w0 (putEn w g x) := by
  unfold putEn
  exact (((h.setCell hg _).setCell hg _).setCell hg _).setCell hg _
set_option maxRecDepth 100000 in
theorem exec_store_en {ρ : Operand → Value} {o : Oper} {x y : Operand} (g : Nat) (e : En) (w : World) (h : w.heap[g]? = some (.cells #[.int .i64 0, .int .i64 0, .int .i64 0, .int .i64 0] 100 (0, 0))) (ho : o.op = .store 100 x y := by rfl) (hx : ρ x = .pointer (some ⟨g, 0, none⟩) := by rfl) (hy : ρ y = enA e := by rfl) :
    (execOp ρ o).run Tryz.prog w = .ok .skip (putEn w g e) := by
  have c0 := cell_of_row _ _ 0 _ _ _ h
  have z0 := frozen_of_row _ _ 0 _ _ h
  have c1 := cell_of_row _ _ 1 _ _ _ h
  have z1 := frozen_of_row _ _ 1 _ _ h
  have c2 := cell_of_row _ _ 2 _ _ _ h
  have z2 := frozen_of_row _ _ 2 _ _ h
  have c3 := cell_of_row _ _ 3 _ _ _ h
  have z3 := frozen_of_row _ _ 3 _ _ h
  simp at c0 c1 c2 c3
  unfold execOp
  rw [ho]
  simp [go_sem, hx, hy, enA, c0, c1, c2, c3, z0, z1, z2, z3, putEn]
/-- What QueueOf returns. -/
def queueV (r : Ru) (l : List Pt) (cabin now : Int) : List En := l.foldr (fun x acc => if (entryOfV r x now).2 = true ∧ x.cabin = cabin then enPut acc (entryOfV r x now).1 else acc) []
theorem drop_getD {α : Type} (l : List α) (k : Nat) (d : α) (h : k < l.length) : l.drop k = l.getD k d :: l.drop (k + 1) := by
  rw [List.drop_eq_getElem_cons h, List.getD_eq_getElem?_getD, List.getElem?_eq_getElem h]; rfl
set_option maxRecDepth 100000 in
set_option maxHeartbeats 6400000 in
theorem queueOf_spec (RA A : Option Addr) (rc : Nat) (r : Ru) (l : List Pt) (c : Nat) (cabin now : Int) (w : World) (hg : r.go) (hl : l.length ≤ 2097152) (hRA : Rws w w.heap.size RA (ints r.seats)) (hA : Rws w w.heap.size A (l.flatMap ptC)) :
    Calls Tryz.prog 59 #[ruV RA rc r, .slice A l.length c, .int .i64 cabin, .int .i64 now] w (NewR 100 4 w (queueV r l cabin now).length ((queueV r l cabin now).flatMap enC)) := by
  obtain ⟨W, hW⟩ : ∃ W, w.alloc (.cells #[.slice RA r.seats.length rc, .int .i64 r.tiers, .int .i64 r.room, .int .i64 r.size, .int .i64 r.period, .int .i64 r.window, .int .i64 r.rest, .int .i64 r.tries, .int .i64 r.crew] 34) = W := ⟨_, rfl⟩
  have bW : Hid (Below w.heap.size w W) := by show Below _ _ _; rw [← hW]; exact (Below.refl _ _).alloc (Nat.le_refl _) _
  have HX : Hid (W.heap[w.heap.size]? = some (.cells #[.slice RA r.seats.length rc, .int .i64 r.tiers, .int .i64 r.room, .int .i64 r.size, .int .i64 r.period, .int .i64 r.window, .int .i64 r.rest, .int .i64 r.tries, .int .i64 r.crew] 34)) := by show _ = _; rw [← hW]; exact heap_new _ _
  have hWs := bW.out.size
  have O0 := Lib.hid (own_empty W W.heap.size 100 4 (Nat.le_refl _))
  have B0 : Hid (Below W.heap.size W (W.alloc (.cells #[] 100))) := (Below.refl _ _).alloc (Nat.le_refl _) _
  unfold ruV
  go_enter Tryz.func59, Tryz.ntmps59
  go_wp2_with fail
  clear hW
  go_loopw [9, 10] (fun v i wr => ∃ (n : Nat) (q : List En), n ≤ l.length ∧ i = .int .i64 ((n : Int) - 1) ∧ queueV r (l.drop n) cabin now = q ∧ q.length ≤ l.length - n ∧ wr.ownsRow W.heap.size 100 4 v q.length (q.flatMap enC) ∧ Below W.heap.size W wr) (fun _ i _ => (intOf i + 1).toNat)
  case atStart => exact ⟨l.length, [], by omega, rfl, by rw [List.drop_length]; rfl, by simp, O0.out, B0.out⟩
  case round =>
    clear O0 B0
    obtain ⟨n, q, hn, rfl, hq, hql, hown, hb⟩ := hrel
    rcases n with _ | k
    · have HN := Lib.hid (NewR.of_own (own_weak hown bW.out.size) (bW.out.trans (hb.mono bW.out.size)))
      rw [← hq, List.drop_zero] at HN
      clear hown hb hq
      go_wp2
      go_ret
      exact HN.out
    have hlt : k < l.length := by omega
    have ek : (((k + 1 : Nat) : Int) - 1) = (k : Int) := by omega
    rw [ek]
    clear ek
    obtain ⟨b, off, rfl, hbB, hc⟩ := (rws_below (rws_below hA bW.out) hb).pt hlt
    have hs : queueV r (l.drop k) cabin now = (let x := l.getD k pt0; if (entryOfV r x now).2 = true ∧ x.cabin = cabin then enPut q (entryOfV r x now).1 else q) := by
      rw [← hq, drop_getD l k pt0 hlt]; rfl
    generalize l.getD k pt0 = x at *
    simp only [] at hs
    have hbs := hb.size
    have KR := Lib.hid (fun w' (h : Below wr.heap.size wr w') => blk_call (blk_call HX.out hb) h)
    have HR := Lib.hid (fun w' (h : Below wr.heap.size wr w') => rws_below (rws_below (rws_below hRA bW.out) hb) h)
    have KX := Lib.hid (fun w' (h : Below wr.heap.size wr w') => Pt.here.below hc h hbB)
    have CE := Lib.hid (fun w h => entryOf_spec RA rc r x now w hg h)
    generalize (entryOfV r x now).1 = E at *
    generalize (entryOfV r x now).2 = d at *
    obtain ⟨P, cp, rfl, hqc, hqn, _⟩ := own_form hown
    have HS := Lib.hid hs
    have HO := Lib.hid hown
    have hql2 : q.length ≤ l.length - (k + 1) := hql
    have HB := Lib.hid hb
    clear hs hq hown hb hc hql
    go_wp2_with fail
    go_cut [11, 12] (fun s11 s12 wx => ∃ g, s11 = .pointer (some ⟨g, 0, none⟩) ∧ s12 = .bool d ∧ Below wr.heap.size wr wx ∧ wx.heap[g]? = some (.cells #[.int .i64 E.lev, .int .i64 E.turn, .int .i64 E.id, .int .i64 E.size] 100))
    case first =>
      refine wp_region_held_drew (S := fun w' => Hid (Below wr.heap.size wr w')) (by kernel_rfl) (below_drawn (Below.refl _ _) 1) (fun hHeld => ?_)
      have b0 := hHeld.out
      refine held_take 0 22 (ruV RA rc r) rfl rfl (by kernel_rfl) (by kernel_rfl) (by kernel_rfl) (fun _ _ _ h => h) rfl b0 (fun w hS => exec_loadRi _ RA rc r w (KR.out w hS.out)) ?_
      refine held_take 1 23 (.slice (some ⟨b, off, none⟩) l.length c) rfl rfl (by kernel_rfl) (by kernel_rfl) (by kernel_rfl) (fun _ _ _ h => h) rfl b0 (fun w _ => rfl) ?_
      refine held_take 2 24 (.int .i64 (k : Int)) rfl rfl (by kernel_rfl) (by kernel_rfl) (by kernel_rfl) (fun _ _ _ h => h) rfl b0 (fun w _ => rfl) ?_
      simp only [Act.put, List.setIfInBounds_toArray, List.set_cons_zero, List.set_cons_succ]
      refine held_take 3 25 (.pointer (some ⟨b, off + k * 10, none⟩)) rfl rfl (by kernel_rfl) (by kernel_rfl) (by kernel_rfl) (fun _ _ _ h => h) rfl b0 (fun w _ => exec_idx_pt b off l.length c k w hlt) ?_
      refine held_take 4 26 (ptA x) rfl rfl (by kernel_rfl) (by kernel_rfl) (by kernel_rfl) (fun _ _ _ h => h) rfl b0 (fun w hS => exec_load_pt b (off + k * 10) x w (KX.out w hS.out)) ?_
      refine held_take 5 27 (.int .i64 now) rfl rfl (by kernel_rfl) (by kernel_rfl) (by kernel_rfl) (fun _ _ _ h => h) rfl b0 (fun w _ => rfl) ?_
      simp only [Act.put, List.setIfInBounds_toArray, List.set_cons_zero, List.set_cons_succ]
      refine wpAnyH_ready (rs := [6, 10]) (by kernel_rfl) (by simp) (ready_call 6 28 74 #[ruV RA rc r, ptA x, .int .i64 now] rfl rfl rfl (exec_call Tryz.func74 (by kernel_rfl) (by kernel_rfl) _) ?_ (ready_op 10 11 (.pointer (some ⟨wr.drew.heap.size, 0, none⟩)) rfl rfl rfl (exec_alloc_en _) (b0.alloc b0.size _) ?_ AllReadyH.nil))
      · skip
        refine (CE.out _ (HR.out _ b0)).mono ?_
        rintro e u1 ⟨rfl, x1⟩
        have b1 := b0.trans (x1.mono b0.size)
        refine ⟨_, rfl, b1, ?_⟩
        simp only [Act.put, List.setIfInBounds_toArray, List.set_cons_zero, List.set_cons_succ]
        refine held_take 7 21 (.tuple #[enA E, .bool d]) rfl rfl (by kernel_rfl) (by kernel_rfl) (by kernel_rfl) (fun _ _ _ h => h) rfl b1 (fun w _ => rfl) ?_
        refine held_take 8 29 (enA E) rfl rfl (by kernel_rfl) (by kernel_rfl) (by kernel_rfl) (fun _ _ _ h => h) rfl b1 (fun w _ => rfl) ?_
        refine held_take 9 30 (.bool d) rfl rfl (by kernel_rfl) (by kernel_rfl) (by kernel_rfl) (fun _ _ _ h => h) rfl b1 (fun w _ => rfl) ?_
        simp only [Act.put, List.setIfInBounds_toArray, List.set_cons_zero, List.set_cons_succ]
        refine held_op 10 11 (.pointer (some ⟨u1.heap.size, 0, none⟩)) rfl rfl (by kernel_rfl) rfl (exec_alloc_en _) (b1.alloc b1.size _) ?_
        simp only [Act.put, List.setIfInBounds_toArray, List.set_cons_zero, List.set_cons_succ]
        have b2 := b1.alloc b1.size (.cells #[.int .i64 0, .int .i64 0, .int .i64 0, .int .i64 0] 100)
        have l2 := b1.size
        have g2 := heap_new u1 (.cells #[.int .i64 0, .int .i64 0, .int .i64 0, .int .i64 0] 100)
        refine held_store 11 rfl rfl (by kernel_rfl) rfl (exec_store_en _ E _ g2) (putEn_below (x := E) b2 l2) ?_
        have b3 := putEn_below (x := E) b2 l2
        have g3_0 := putEn_heap (x := E) g2
        refine held_op 12 12 (.bool d) rfl rfl (by kernel_rfl) rfl rfl b3 ?_
        simp only [Act.put, List.setIfInBounds_toArray, List.set_cons_zero, List.set_cons_succ]
        refine wpAnyH_done (by kernel_rfl) ?_ _
        go_wp2_with fail
        go_meet
        exact ⟨_, rfl, rfl, b3, g3_0⟩
      · skip
        simp only [Act.put, List.setIfInBounds_toArray, List.set_cons_zero, List.set_cons_succ]
        have b4 := b0.alloc b0.size (.cells #[.int .i64 0, .int .i64 0, .int .i64 0, .int .i64 0] 100)
        have l4 := b0.size
        have g4 := heap_new wr.drew (.cells #[.int .i64 0, .int .i64 0, .int .i64 0, .int .i64 0] 100)
        refine held_call 6 28 74 #[ruV RA rc r, ptA x, .int .i64 now] rfl rfl (by kernel_rfl) rfl (exec_call Tryz.func74 (by kernel_rfl) (by kernel_rfl) _) ?_
        refine (CE.out _ (HR.out _ b4)).mono ?_
        rintro e u5 ⟨rfl, x5⟩
        have b5 := b4.trans (x5.mono b4.size)
        have g5_0 := blk_call g4 x5
        refine ⟨_, rfl, b5, ?_⟩
        simp only [Act.put, List.setIfInBounds_toArray, List.set_cons_zero, List.set_cons_succ]
        refine held_take 7 21 (.tuple #[enA E, .bool d]) rfl rfl (by kernel_rfl) (by kernel_rfl) (by kernel_rfl) (fun _ _ _ h => h) rfl b5 (fun w _ => rfl) ?_
        refine held_take 8 29 (enA E) rfl rfl (by kernel_rfl) (by kernel_rfl) (by kernel_rfl) (fun _ _ _ h => h) rfl b5 (fun w _ => rfl) ?_
        refine held_take 9 30 (.bool d) rfl rfl (by kernel_rfl) (by kernel_rfl) (by kernel_rfl) (fun _ _ _ h => h) rfl b5 (fun w _ => rfl) ?_
        simp only [Act.put, List.setIfInBounds_toArray, List.set_cons_zero, List.set_cons_succ]
        refine held_store 11 rfl rfl (by kernel_rfl) rfl (exec_store_en _ E _ g5_0) (putEn_below (x := E) b5 l4) ?_
        have b6 := putEn_below (x := E) b5 l4
        have g6_0 := putEn_heap (x := E) g5_0
        refine held_op 12 12 (.bool d) rfl rfl (by kernel_rfl) rfl rfl b6 ?_
        simp only [Act.put, List.setIfInBounds_toArray, List.set_cons_zero, List.set_cons_succ]
        refine wpAnyH_done (by kernel_rfl) ?_ _
        go_wp2_with fail
        go_meet
        exact ⟨_, rfl, rfl, b6, g6_0⟩
    case rest =>
      obtain ⟨g, rfl, rfl, b1, hg1⟩ := hcut
      have B1 := Lib.hid (HB.out.trans (b1.mono hbs))
      have O1 := Lib.hid (own_below HO.out b1)
      have c1 := (KX.out _ b1).2.1
      have hE := En.here.blk hg1
      obtain ⟨q0, q1, q2, q3⟩ := hE
      have R1 := own_rws O1.out
      clear b1 hg1 KR KX HR CE HO HB
      simp only [Nat.zero_add] at q0 q1 q2 q3
      cases d
      · have HS : Hid (queueV r (l.drop k) cabin now = q) := by show _ = _; rw [HS.out, if_neg (fun h => by cases h.1)]
        go_wp2
        go_roundw
        case rel => exact ⟨k, q, by omega, by go_num, HS.out, by omega, O1.out, B1.out⟩
        case measure => simp [intOf] <;> omega
      by_cases g1 : x.cabin = cabin
      rotate_left
      · have e1 : (x.cabin == cabin) = false := by simp [g1]
        have HS : Hid (queueV r (l.drop k) cabin now = q) := by show _ = _; rw [HS.out, if_neg (fun h => g1 h.2)]
        go_wp2
        go_roundw
        case rel => exact ⟨k, q, by omega, by go_num, HS.out, by omega, O1.out, B1.out⟩
        case measure => simp [intOf] <;> omega
      have e1 : (x.cabin == cabin) = true := by simp [g1]
      have HS2 : Hid (queueV r (l.drop k) cabin now = enPut q E) := by show _ = _; rw [HS.out, if_pos ⟨rfl, g1⟩]
      clear HS
      have CP := Lib.hid (l7Put_spec P q cp E wc (by omega) hqc hqn R1)
      have HL : Hid ((enPut q E).length ≤ l.length - k) := by show _ ≤ _; rw [enPut_len]; omega
      unfold enA at CP
      clear R1 g1
      go_wp2_with fail
      refine CP.out.mono ?_
      rintro e w2 ⟨P2, cp2, rfl, o2, x2⟩
      have B2 := Lib.hid (B1.out.trans (x2.mono B1.out.size))
      have O2 := Lib.hid (own_weak o2 B1.out.size)
      clear o2 x2 CP O1 B1 q0 q1 q2 q3 c1
      generalize enPut q E = q2 at *
      go_wp2
      go_roundw
      case rel => exact ⟨k, q2, by omega, by go_num, HS2.out, HL.out, O2.out, B2.out⟩
      case measure => simp [intOf] <;> omega
end Go.Proofs.YtlflgflmlfileaaGreat
