/- l9Copy of the model. -/
import Derived.Test.YtflomkebgiemaaaRows
import Derived.Test.YtflomkebgiemaaaHs13
import Derived.Test.YtflomkebgiemaaaG5
namespace Go.Proofs.Ytflomkebgiemaaa
open Go.RowKit
set_option linter.unusedSimpArgs false
set_option linter.unusedVariables false
set_option maxRecDepth 100000 in
theorem exec_fldW {ρ : Operand → Value} {o : Oper} {x : Operand} (b : Nat) (w : World) (ho : o.op = .fieldAddr 26 x 0 := by rfl) (hx : ρ x = .pointer (some ⟨b, 0, none⟩) := by rfl) :
    (execOp ρ o).run Try.prog w = .ok (.value (.pointer (some ⟨b, 0, none⟩))) w := by
  unfold execOp
  rw [ho]
  simp [go_sem, hx]
set_option maxRecDepth 100000 in
theorem exec_loadSp {ρ : Operand → Value} {o : Oper} {x : Operand} (t : TypeId) (b off : Nat) (B : Option Addr) (n c : Nat) (w : World) (ht : t = 29 ∨ t = 24) (h : w.cell? ⟨b, off, none⟩ = some (.slice B n c)) (ho : o.op = .load t x := by rfl) (hx : ρ x = .pointer (some ⟨b, off, none⟩) := by rfl) :
    (execOp ρ o).run Try.prog w = .ok (.value (.slice B n c)) w := by
  unfold execOp
  rw [ho]
  rcases ht with rfl | rfl <;> simp [go_sem, hx, h]
set_option maxRecDepth 100000 in
theorem exec_storeSp {ρ : Operand → Value} {o : Oper} {x y : Operand} (t : TypeId) (b off : Nat) (B : Option Addr) (n c : Nat) (u : Value) (w : World) (ht : t = 29 ∨ t = 24) (h : w.cell? ⟨b, off, none⟩ = some u) (hz : w.frozen? ⟨b, off, none⟩ = false) (ho : o.op = .store t x y := by rfl) (hx : ρ x = .pointer (some ⟨b, off, none⟩) := by rfl) (hy : ρ y = .slice B n c := by rfl) :
    (execOp ρ o).run Try.prog w = .ok .skip (w.setCell ⟨b, off, none⟩ (.slice B n c)) := by
  unfold execOp
  rw [ho]
  rcases ht with rfl | rfl <;> simp [go_sem, hx, hy, h, hz]
set_option maxRecDepth 100000 in
theorem exec_idxSp {ρ : Operand → Value} {o : Oper} {x y : Operand} (b off n c k : Nat) (w : World) (h : k < n) (ho : o.op = .indexAddr 24 x y := by rfl) (hx : ρ x = .slice (some ⟨b, off, none⟩) n c := by rfl) (hy : ρ y = .int .i64 (k : Int) := by rfl) :
    (execOp ρ o).run Try.prog w = .ok (.value (.pointer (some ⟨b, off + k, none⟩))) w := by
  have h1 : (k : Int) < (n : Int) := by omega
  unfold execOp
  rw [ho]
  simp [go_sem, hx, hy, h]
set_option maxRecDepth 100000 in
theorem exec_none_pn {ρ : Operand → Value} {o : Oper} (w : World) (ho : o.op = .buildSlice 29 0 #[] := by rfl) :
    (execOp ρ o).run Try.prog w = .ok (.value (.slice (some ⟨w.heap.size, 0, none⟩) 0 0)) (w.alloc (.cells #[] 33)) := by
  unfold execOp
  rw [ho]
  simp [go_sem]
set_option maxRecDepth 100000 in
theorem exec_one_sp {ρ : Operand → Value} {o : Oper} {y : Operand} (s : Sp) (w : World) (ho : o.op = .buildSlice 24 1 #[(0, y)] := by rfl) (hy : ρ y = .slice s.a s.l.length s.c := by rfl) :
    (execOp ρ o).run Try.prog w = .ok (.value (.slice (some ⟨w.heap.size, 0, none⟩) 1 1)) (w.alloc (.cells (spC s).toArray 29)) := by
  unfold execOp
  rw [ho]
  simp [go_sem, hy, spC]
def CpS (w : World) (g1 g3 b o : Nat) (u1 u3 y : Value) : Prop := w.heap[g3]? = some (.cells #[u3] 26) ∧ w.heap[g1]? = some (.cells #[u1] 26) ∧ w.cell? ⟨b, o, none⟩ = some y
theorem CpS.step {w w' : World} {g1 g3 b o : Nat} {u1 u3 y : Value} {row : Option Nat} (h : CpS w g1 g3 b o u1 u3 y) (g : w.grownBy w' row) (B : Nat) (hr : ∀ j, row = some j → B ≤ j) (h1 : g1 < B) (h3 : g3 < B) (hb : b < B) : CpS w' g1 g3 b o u1 u3 y := by
  obtain ⟨a3, a1, a0⟩ := h
  refine ⟨(g.block _ (blk_lt a3) (fun e => by have := hr _ e.symm; omega)).trans a3, (g.block _ (blk_lt a1) (fun e => by have := hr _ e.symm; omega)).trans a1, World.grownBy.cell g a0 (fun e => by have := hr _ e.symm; simp at this; omega)⟩
theorem OwnW.alloc {w : World} {B : Nat} {A : Option Addr} {c : Nat} {sp : List Sp} (h : OwnW w B A c sp) (o : Obj) : OwnW (w.alloc o) B A c sp := ⟨h.row.alloc o, fun s hs => (h.sp s hs).alloc o⟩
set_option maxRecDepth 100000 in
set_option maxHeartbeats 6400000 in
theorem l9Copy_spec (A : Option Addr) (sp : List Sp) (c : Nat) (w : World) (hn : sp.length ≤ 2097152) (hl : (allPn sp).length ≤ 2097152) (hA : Whl w A sp) :
    Calls Try.prog 58 #[.agg #[.slice A sp.length c]] w (NewW w (sp.map (·.l))) := by
  obtain ⟨W, hW⟩ : ∃ W, ((w.alloc (.cells #[.slice A sp.length c] 26)).alloc (.cells #[.slice none 0 0] 26)).alloc (.cells #[.slice none 0 0] 26) = W := ⟨_, rfl⟩
  have T0 : Three w W (.cells #[.slice A sp.length c] 26) (.cells #[.slice none 0 0] 26) (.cells #[.slice none 0 0] 26) := by rw [← hW]; exact Three.make _ _ _ _
  have HT := Lib.hid T0
  have HW := Lib.hid hW
  have ltW : Hid (w.heap.size + 2 < W.heap.size) := by show _ < _; rw [← hW]; simp
  clear T0 hW
  go_enter Try.func58, Try.ntmps58
  go_wp2_with fail
  rw [HW.out]
  clear HW
  go_loopw [4] (fun i wr => ∃ (k : Nat) (P : Option Addr) (cp : Nat) (sq : List Sp), k ≤ sp.length ∧ i = .int .i64 k ∧ sq.length = k ∧ sq.map (·.l) = (sp.take k).map (·.l) ∧ OwnW wr W.heap.size P cp sq ∧
      Three w wr (.cells #[.slice A sp.length c] 26) (.cells #[.slice none 0 0] 26) (.cells #[.slice P k cp] 26) ∧ W.heap.size ≤ wr.heap.size) (fun i _ => sp.length - (intOf i).toNat)
  case atStart => exact ⟨0, none, 0, [], by omega, rfl, rfl, by simp, ⟨World.ownsRow_nil _ _ _ _, by simp⟩, HT.out, Nat.le_refl _⟩
  case round =>
    clear HT
    obtain ⟨k, P, cp, sq, hk, rfl, hlen, hmap, hO, hT, hs⟩ := hrel
    have ltw := ltW.out
    have q0 := cell_of_row _ _ 0 _ _ _ hT.1
    simp at q0
    by_cases hlt : k < sp.length
    · have hWh := hA.below hT.2.2.2
      have hsp := hWh.at_ hlt
      obtain ⟨b, off, rfl, hbB, _⟩ := hA.row.sp hlt
      obtain ⟨b', off', he, hbB', hc⟩ := hWh.row.sp hlt
      obtain ⟨rfl, rfl⟩ : b = b' ∧ off = off' := by injection he with he; injection he with h1 h2; exact ⟨h1, h2⟩
      have hm1 : (sp.take (k + 1)).map (fun x => x.l) = (sp.take k).map (fun x => x.l) ++ [(sp.getD k sp0).l] := by rw [take_succ_getD sp k sp0 hlt]; simp
      have el := allPn_at_le sp k hlt
      generalize sp.getD k sp0 = s at *
      have hS : CpS wr w.heap.size (w.heap.size + 2) b (off + k) (.slice (some ⟨b, off, none⟩) sp.length c) (.slice P k cp) (.slice s.a s.l.length s.c) := ⟨hT.2.2.1, hT.1, hc⟩
      have HM := Lib.hid hm1
      have HT := Lib.hid hT
      have HS := Lib.hid hsp
      have HO := Lib.hid hO
      have CS := Lib.hid hS
      clear hm1 hT hsp hO hWh hS hc he
      go_wp2_with fail
      refine wp_region_E 12 (fun w' => Hid (CpS w' w.heap.size (w.heap.size + 2) b (off + k) (.slice (some ⟨b, off, none⟩) sp.length c) (.slice P k cp) (.slice s.a s.l.length s.c))) (by kernel_rfl) ?_
      have hS0 : CpS wr.drew _ _ _ _ _ _ _ := CS.out.step (grown_of_below (below_drawn (Below.refl wr.heap.size wr) 1) none) W.heap.size (fun j h => by cases h) (by omega) (by omega) (by omega)
      have hH0 := Lib.hid hS0
      refine e_take 0 13 (.pointer (some ⟨w.heap.size + 2, 0, none⟩)) rfl rfl (by kernel_rfl) (by kernel_rfl) (by kernel_rfl) (by kernel_rfl) (fun _ _ _ h => h) rfl hH0 (fun w _ => exec_fldW _ w) ?_
      refine e_take 1 14 (.slice P k cp) rfl rfl (by kernel_rfl) (by kernel_rfl) (by kernel_rfl) (by kernel_rfl) (fun _ _ _ h => h) rfl hH0 (fun w h => exec_loadSp _ _ 0 P k cp w (.inr rfl) (cell_of_row _ _ 0 _ _ _ h.out.1)) ?_
      simp only [Act.put, List.setIfInBounds_toArray, List.set_cons_zero, List.set_cons_succ]
      refine e_take 3 16 (.pointer (some ⟨w.heap.size, 0, none⟩)) rfl rfl (by kernel_rfl) (by kernel_rfl) (by kernel_rfl) (by kernel_rfl) (fun _ _ _ h => h) rfl hH0 (fun w _ => exec_fldW _ w) ?_
      refine e_take 4 17 (.slice (some ⟨b, off, none⟩) sp.length c) rfl rfl (by kernel_rfl) (by kernel_rfl) (by kernel_rfl) (by kernel_rfl) (fun _ _ _ h => h) rfl hH0 (fun w h => exec_loadSp _ _ 0 _ _ c w (.inr rfl) (cell_of_row _ _ 0 _ _ _ h.out.2.1)) ?_
      simp only [Act.put, List.setIfInBounds_toArray, List.set_cons_zero, List.set_cons_succ]
      refine e_take 5 18 (.int .i64 (k : Int)) rfl rfl (by kernel_rfl) (by kernel_rfl) (by kernel_rfl) (by kernel_rfl) (fun _ _ _ h => h) rfl hH0 (fun w _ => rfl) ?_
      refine e_take 6 19 (.pointer (some ⟨b, off + k, none⟩)) rfl rfl (by kernel_rfl) (by kernel_rfl) (by kernel_rfl) (by kernel_rfl) (fun _ _ _ h => h) rfl hH0 (fun w _ => exec_idxSp b off sp.length c k w hlt) ?_
      simp only [Act.put, List.setIfInBounds_toArray, List.set_cons_zero, List.set_cons_succ]
      refine e_take 7 20 (.slice s.a s.l.length s.c) rfl rfl (by kernel_rfl) (by kernel_rfl) (by kernel_rfl) (by kernel_rfl) (fun _ _ _ h => h) rfl hH0 (fun w h => exec_loadSp _ b (off + k) _ _ _ w (.inl rfl) h.out.2.2) ?_
      simp only [Act.put, List.setIfInBounds_toArray, List.set_cons_zero, List.set_cons_succ]
      have d0 : Below wr.heap.size wr wr.drew := below_drawn (Below.refl _ _) 1
      have hS1 := hS0.step (World.grownBy_alloc wr.drew (.cells #[] 33) none) W.heap.size (fun j h => by cases h) (by omega) (by omega) (by omega)
      refine e_op 2 15 (.slice (some ⟨wr.drew.heap.size, 0, none⟩) 0 0) rfl rfl (by kernel_rfl) rfl (exec_none_pn _) (fun _ => Lib.hid hS1) ?_
      simp only [Act.put, List.setIfInBounds_toArray, List.set_cons_zero, List.set_cons_succ]
      have O1 := own_empty wr.drew W.heap.size 33 2 hs
      have x1 := d0.alloc d0.size (.cells #[] 33)
      obtain ⟨sr, sc, sn⟩ := HS.out.below x1
      refine e_opx 8 21 rfl rfl (by kernel_rfl) rfl (exec_appR rowPin _ W.heap.size _ 0 [] O1 _ s.a s.l.length s.c (s.l.flatMap pnC) (flat_len pnC 2 pnC_len s.l) sr sn (pnC_one _) (by omega) (by simp; omega)) (fun v w' h _ => Lib.hid (hS1.step h.2 W.heap.size (own_low O1) (by omega) (by omega) (by omega))) ?_
      rintro v2 w2 ⟨o2, g2⟩
      simp only [Act.put, List.setIfInBounds_toArray, List.set_cons_zero, List.set_cons_succ]
      rw [Nat.zero_add, List.nil_append] at o2
      obtain ⟨A2, c2, rfl, _⟩ := own_form o2
      have hS2 := hS1.step g2 W.heap.size (own_low O1) (by omega) (by omega) (by omega)
      have hS3 := hS2.step (World.grownBy_alloc w2 (.cells (spC ⟨A2, c2, s.l⟩).toArray 29) none) W.heap.size (fun j h => by cases h) (by omega) (by omega) (by omega)
      refine e_op 9 22 (.slice (some ⟨w2.heap.size, 0, none⟩) 1 1) rfl rfl (by kernel_rfl) rfl (exec_one_sp ⟨A2, c2, s.l⟩ _) (fun _ => Lib.hid hS3) ?_
      simp only [Act.put, List.setIfInBounds_toArray, List.set_cons_zero, List.set_cons_succ]
      have O2 : OwnW w2 W.heap.size P cp sq := by
        have k1 : OwnW (wr.drew.alloc (.cells #[] 33)) W.heap.size P cp sq := HO.out.below x1
        refine ⟨own_kept2 k1.row g2 (fun j h1 h2 => ?_), fun t ht => own_kept2 (k1.sp t ht) g2 (fun j h1 h2 => ?_)⟩
        · injection h2 with h2
          have := (World.ownsRow.lt (HO.out.row) j h1).2
          have h2 : wr.heap.size = j := h2
          omega
        · injection h2 with h2
          have := (World.ownsRow.lt (HO.out.sp t ht) j h1).2
          have h2 : wr.heap.size = j := h2
          omega
      have O3 := O2.alloc (.cells (spC ⟨A2, c2, s.l⟩).toArray 29)
      have s3 := (o2 : Sp.own w2 W.heap.size ⟨A2, c2, s.l⟩).alloc (.cells (spC ⟨A2, c2, s.l⟩).toArray 29)
      have r3 := O3.row
      rw [hlen] at r3
      have gs2 := g2.size
      refine e_opx 10 23 rfl rfl (by kernel_rfl) rfl (exec_appR rowSpk _ W.heap.size _ k (sq.flatMap spC) r3 _ _ 1 1 (spC ⟨A2, c2, s.l⟩) rfl (Rws.new w2 (spC ⟨A2, c2, s.l⟩) 29) (fun h => by cases h) (by intro u hu; exact spC_one [⟨A2, c2, s.l⟩] u (by simpa using hu)) (by omega) (by simp at gs2 ⊢; omega)) (fun v w' h _ => Lib.hid (hS3.step h.2 W.heap.size (own_low r3) (by omega) (by omega) (by omega))) ?_
      rintro v4 w4 ⟨o4, g4⟩
      simp only [Act.put, List.setIfInBounds_toArray, List.set_cons_zero, List.set_cons_succ]
      obtain ⟨A4, c4, rfl, _⟩ := own_form o4
      have hS4 := hS3.step g4 W.heap.size (own_low r3) (by omega) (by omega) (by omega)
      refine e_op 11 24 (.pointer (some ⟨w.heap.size + 2, 0, none⟩)) rfl rfl (by kernel_rfl) rfl (exec_fldW _ _) (fun _ => Lib.hid hS4) ?_
      simp only [Act.put, List.setIfInBounds_toArray, List.set_cons_zero, List.set_cons_succ]
      refine e_store 12 rfl rfl (by kernel_rfl) rfl (exec_storeSp _ _ 0 A4 (k + 1) c4 _ w4 (.inr rfl) (cell_of_row _ _ 0 _ _ _ hS4.1) (frozen_of_row _ _ 0 _ _ hS4.1)) (fun h => absurd rfl h) ?_
      refine e_done (by kernel_rfl) ?_ _
      have O4 : OwnW w4 W.heap.size A4 c4 (sq ++ [⟨A2, c2, s.l⟩]) := by
        refine ⟨?_, OwnW.grow (fun t ht => ?_) r3 g4⟩
        · rw [List.length_append, hlen, List.flatMap_append]; simpa using o4
        · rcases List.mem_append.1 ht with h | h
          · exact O3.sp t h
          · simp at h; subst h; exact s3
      have O5 := Lib.hid (O4.put hS4.1 (by decide) (by decide) 0 (.slice A4 (k + 1) c4))
      have T5 : Hid (Three w (w4.setCell ⟨w.heap.size + 2, 0, none⟩ (.slice A4 (k + 1) c4)) (.cells #[.slice (some ⟨b, off, none⟩) sp.length c] 26) (.cells #[.slice none 0 0] 26) (.cells #[.slice A4 (k + 1) c4] 26)) := by
        have z1 : w4.heap[w.heap.size + 1]? = some (.cells #[.slice none 0 0] 26) := by
          have a1 := blk_call HT.out.2.1 x1
          have a2 := (g2.block _ (blk_lt a1) (fun e => by have := own_low O1 _ e.symm; omega)).trans a1
          have a3 := blk_alloc a2 (.cells (spC ⟨A2, c2, s.l⟩).toArray 29)
          exact (g4.block _ (blk_lt a3) (fun e => by have := own_low r3 _ e.symm; omega)).trans a3
        have bb : Below w.heap.size w w4 := by
          have b1 := HT.out.2.2.2.trans (x1.mono HT.out.2.2.2.size)
          have b2 := b1.grown g2 b1.size (fun j h => by have := own_low O1 j h; omega)
          have b3 := b2.alloc b2.size (.cells (spC ⟨A2, c2, s.l⟩).toArray 29)
          exact b3.grown g4 b3.size (fun j h => by have := own_low r3 j h; omega)
        refine ⟨(heap_set_ne w4 _ 0 _ (by omega)).trans hS4.2.1, (heap_set_ne w4 _ 0 _ (by omega)).trans z1, Go.heap_setCell_same _ _ 0 _ _ (.slice A4 (k + 1) c4) hS4.1, bb.setCell (p := ⟨w.heap.size + 2, 0, none⟩) (by show _ ≤ _ + 2; omega) _⟩
      have s5 : Hid (W.heap.size ≤ (w4.setCell ⟨w.heap.size + 2, 0, none⟩ (.slice A4 (k + 1) c4)).heap.size) := by
        show _ ≤ _
        have := g4.size; simp at this gs2 ⊢; omega
      have M5 : Hid ((sq ++ [(⟨A2, c2, s.l⟩ : Sp)]).map (fun x => x.l) = (sp.take (k + 1)).map (fun x => x.l)) := by
        show _ = _
        rw [List.map_append, hmap, HM.out]; rfl
      clear O4 o4 g4 hS4 hS3 hS2 hS1 hS0 hH0 O3 O2 s3 r3 o2 g2 O1 x1 sr HO HT HS CS hmap q0 d0
      go_wp2
      go_roundw
      case rel => exact ⟨k + 1, A4, c4, sq ++ [⟨A2, c2, s.l⟩], by omega, by go_num, by simp [hlen], M5.out, O5.out, T5.out, s5.out⟩
      case measure => simp [intOf] <;> omega
    · obtain rfl : k = sp.length := by omega
      have c1 := cell_of_row _ _ 0 _ _ _ hT.2.1
      have z1 := frozen_of_row _ _ 0 _ _ hT.2.1
      have c2 := cell_of_row _ _ 0 _ _ _ hT.2.2.1
      simp at c1 c2
      rw [List.take_length] at hmap
      have HN : Hid (NewW w (sp.map (fun x => x.l)) (.returned (.agg #[.slice P sp.length cp])) (wr.setCell ⟨w.heap.size + 1, 0, none⟩ (.slice P sp.length cp))) := by
        refine ⟨P, cp, sq, by rw [hlen], hmap, (hO.put hT.2.1 (by decide) (by decide) 0 _).weak (by omega), hT.2.2.2.setCell (p := ⟨w.heap.size + 1, 0, none⟩) (by show _ ≤ _ + 1; omega) _⟩
      clear hO hT hmap
      go_wp2
      simp [bodyPost, results, Try.results58, go_sem, c1]
      exact HN.out
end Go.Proofs.Ytflomkebgiemaaa
