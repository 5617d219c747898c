/- A row with room; DrawQueuePut of the model. -/
import Derived.Test.YtlflgflmlfileaaRows
import Derived.Test.YtlflgflmlfileaaEn7
namespace Go.Proofs.Ytlflgflmlfileaa
open Go.RowKit
set_option linter.unusedSimpArgs false
set_option linter.unusedVariables false
set_option maxRecDepth 100000 in
theorem made40 : (madeCells (Value.cells (.agg #[.int .i64 0, .int .i64 0, .int .i64 0, .int .i64 0])) 160) = ((List.replicate 40 en0).flatMap enC).toArray := by kernel_rfl
set_option maxRecDepth 100000 in
theorem run_make40 (w : World) : (Instr.makeSlice 24 (.int .i64 0) (.int .i64 40)).run Try.prog w = .ok (.slice (some ⟨w.heap.size, 0, none⟩) 0 40) (w.alloc (.cells (madeCells (Value.cells (.agg #[.int .i64 0, .int .i64 0, .int .i64 0, .int .i64 0])) 160) 26)) := by
  obtain ⟨i0, hi, hz0, hz1, hz2⟩ := info_parts rowEnt.inf
  have hr := run_makeSlice (P := Try.prog) w 24 26 i0 _ rowEnt.ut hi hz0 .i64 .i64 0 40 (by omega) (by omega) (by rw [hz1]; decide) (by rw [hz2]; decide) (by omega)
  rw [hz1] at hr
  exact hr
theorem rep_drop (k : Nat) : (List.replicate 40 en0).drop k = List.replicate (40 - k) en0 := by rw [List.drop_replicate]
set_option maxRecDepth 100000 in
theorem wpList_app40 (w : World) {ops : Array Oper} {rest : List Oper} {o : Oper} {a : Act} {Q : Exit → Act → World → Prop} (hgd : o.guard = none) (s x : Operand)
    (ho : o.op = .call { callee := .builtin .append, args := #[s, x], argTypes := #[24, 24] })
    (b : Nat) (hg : w.heap[b]? = some (.cells (madeCells (Value.cells (.agg #[.int .i64 0, .int .i64 0, .int .i64 0, .int .i64 0])) 160) 26 (0, 0))) (hs : a.eval s = .slice (some ⟨b, 0, none⟩) 0 40)
    (B : Nat) (LA : Option Addr) (c : Nat) (el : List En) (hx : a.eval x = .slice LA el.length c) (hR : Rws w B LA (el.flatMap enC)) (hnil : LA = none → c = 0) (hl : el.length ≤ 40) (R : List Value) (hRe : (el ++ List.replicate (40 - el.length) en0).flatMap enC = R)
    (h : ∀ w', w'.heap[b]? = some (.cells R.toArray 26 (0, 0)) → w.grownBy w' (some b) → wpList Try.prog ops Q rest (a.put o.dst (.slice (some ⟨b, 0, none⟩) el.length 40)) w') :
    wpList Try.prog ops Q (o :: rest) a w := by
  subst hRe
  obtain ⟨i0, hi, hz0, hz1, hz2⟩ := info_parts rowEnt.inf
  refine wpList_plain hgd fun K hK => ?_
  unfold Oper.wp
  rcases LA with _ | ad
  · have h0 : el = [] := by
      rcases hR with h | ⟨_, _, h, _⟩
      · have hlen : (el.flatMap enC).length = el.length * 4 := flat_len enC 4 enC_len el
        rw [h] at hlen
        cases el with
        | nil => rfl
        | cons y r => simp at hlen
      · cases h
    subst h0
    rw [hnil rfl] at hx
    have hown : w.ownsRow 0 26 4 (.slice (some ⟨b, 0, none⟩) 0 40) 0 [] := ⟨rfl, .inr ⟨b, 40, _, rfl, Nat.zero_le _, hg, by omega, by unfold maxLen; omega, by rw [size_madeCells], rfl⟩⟩
    have hrun := run_append_owned_none (P := Try.prog) (w := w) 0 24 o.type 26 i0 4 rowEnt.ut hi _ 0 [] hown
    have hr : (execOp a.eval o).run Try.prog w = .ok (.value (.slice (some ⟨b, 0, none⟩) 0 40)) w := by
      simp [execOp, ho, resolve, invoke, builtin, hs, hx, hrun, Result.andThen]
    rw [hr, Oper.upon_value]
    refine hK _ _ (h w ?_ (World.grownBy.refl _ _))
    rw [hg, made40]
    rfl
  · have hlen : (el.flatMap enC).length = el.length * i0.size := by rw [hz1]; exact flat_len enC 4 enC_len el
    have hrun := run_append_room (P := Try.prog) w 24 o.type 26 i0 rowEnt.ut hi b 0 40 _ hg ad el.length c (el.flatMap enC) hlen
      (fun j u hj => by
        rcases hR with h | ⟨b', off, e1, _, hc⟩
        · rw [h] at hj; simp at hj
        · injection e1 with e1
          subst e1
          have hjl : j < (el.flatMap enC).length := by
            rcases Nat.lt_or_ge j (el.flatMap enC).length with h | h
            · exact h
            · rw [List.getElem?_eq_none h] at hj; cases hj
          rw [add_at, hc j hjl]; exact hj) (enC_one _) (by omega) (by rw [size_madeCells, hlen, hz1]; omega)
    have hr : (execOp a.eval o).run Try.prog w = .ok (.value (.slice (some ⟨b, 0, none⟩) (0 + el.length) 40)) (w.setRow b ((madeCells (Value.cells (.agg #[.int .i64 0, .int .i64 0, .int .i64 0, .int .i64 0])) 160).toList.take (0 * i0.size) ++ el.flatMap enC ++ (madeCells (Value.cells (.agg #[.int .i64 0, .int .i64 0, .int .i64 0, .int .i64 0])) 160).toList.drop (0 * i0.size + (el.flatMap enC).length)).toArray) := by
      simp only [execOp, ho, resolve, invoke, builtin, Sem.run_bind, Sem.run_pure, Result.andThen_ok, List.map_toArray, List.map_cons, List.map_nil, hs, hx, hrun]
    rw [hr, Oper.upon_value]
    have hh := setRow_heap w b _ ((madeCells (Value.cells (.agg #[.int .i64 0, .int .i64 0, .int .i64 0, .int .i64 0])) 160).toList.take (0 * i0.size) ++ el.flatMap enC ++ (madeCells (Value.cells (.agg #[.int .i64 0, .int .i64 0, .int .i64 0, .int .i64 0])) 160).toList.drop (0 * i0.size + (el.flatMap enC).length)).toArray 26 _ hg
    have he : ((madeCells (Value.cells (.agg #[.int .i64 0, .int .i64 0, .int .i64 0, .int .i64 0])) 160).toList.take (0 * i0.size) ++ el.flatMap enC ++ (madeCells (Value.cells (.agg #[.int .i64 0, .int .i64 0, .int .i64 0, .int .i64 0])) 160).toList.drop (0 * i0.size + (el.flatMap enC).length)) = (el ++ List.replicate (40 - el.length) en0).flatMap enC := by
      rw [made40, Nat.zero_mul, Nat.zero_add, hlen, hz1, List.take_zero, List.nil_append, ← flat_drop enC 4 enC_len, rep_drop, List.flatMap_append]
    rw [he] at hh
    have hK2 := hK _ _ (h _ hh ⟨rfl, rfl, rfl, by simp, fun k _ hk => setRow_other w b k _ (fun e => hk (by simp [e]))⟩)
    rw [Nat.zero_add, he]
    exact hK2
set_option maxRecDepth 100000 in
theorem exec_neqEn {ρ : Operand → Value} {o : Oper} {x y : Operand} (f : En) (w : World) (ho : o.op = .binOp .neq 26 x y 26 := by rfl) (hx : ρ x = enA f := by rfl) (hy : ρ y = enA f := by rfl) :
    (execOp ρ o).run Try.prog w = .ok (.value (.bool false)) w := by
  unfold execOp
  rw [ho]
  simp [go_sem, hx, hy, enA]
theorem putEn_below {B : Nat} {w0 w : World} {b : Nat} {q : En} (h : Below B w0 w) (hb : B ≤ b) : Below B w0 (putEn w b q) := by
  unfold putEn
  exact (((h.setCell hb _).setCell hb _).setCell hb _).setCell hb _
theorem putEn_block {w : World} {b k : Nat} {q : En} (h : k ≠ b) : (putEn w b q).heap[k]? = w.heap[k]? := by
  unfold putEn
  rw [heap_set_ne _ b 3 _ h, heap_set_ne _ b 2 _ h, heap_set_ne _ b 1 _ h, heap_set_ne _ b 0 _ h]
/-- What DrawQueuePut hands out. -/
def GotQP (w : World) (e : Ending) (w' : World) : Prop :=
  ∃ (el : List En) (LA : Option Addr) (lc : Nat) (x : En), el.length ≤ 14 ∧ (∀ f ∈ el, f.fits) ∧ x.fits ∧ e = .returned (.tuple #[.slice LA el.length lc, enA x]) ∧ Rws w' w'.heap.size LA (el.flatMap enC) ∧ el.length ≤ lc ∧ (LA = none → lc = 0) ∧ Below w.heap.size w w'
set_option maxRecDepth 100000 in
set_option maxHeartbeats 1600000 in
theorem drawQueuePut_any (A : Option Addr) (l : List Nat) (c : Nat) (w : World) (hl : l.length ≤ 2097152) (hA : Bts w w.heap.size A l) (hb : AllB l) :
    Calls Try.prog 10 #[.slice A l.length c] w (GotQP w) := by
  have b0 : Below w.heap.size w (w.alloc (.cells #[.int .i64 0, .int .i64 0, .int .i64 0, .int .i64 0] 26)) := (Below.refl _ _).alloc (Nat.le_refl _) _
  have C0 := Lib.hid (l1New_any A l c (w.alloc (.cells #[.int .i64 0, .int .i64 0, .int .i64 0, .int .i64 0] 26)) hl ((hA.below b0).more b0.size) hb)
  unfold NewCur at C0
  simp only [World.size_alloc] at C0
  have hz0 := Lib.hid (heap_new w (.cells #[.int .i64 0, .int .i64 0, .int .i64 0, .int .i64 0] 26))
  go_enter Try.func10, Try.ntmps10
  go_wp2_with fail
  refine C0.out.mono ?_
  rintro e w1 ⟨rfl, hc1, b1⟩
  have lt1 := hc1.lt
  have hz1 := Lib.hid ((b1.block _ (by omega)).trans hz0.out)
  have HB1 : Hid (Below w.heap.size w w1) := b0.trans (b1.mono (by omega))
  clear C0 b0 b1 hz0
  obtain ⟨g, hg⟩ : ∃ g, w.heap.size + 1 = g := ⟨_, rfl⟩
  have HG := Lib.hid hg
  rw [hg] at hc1 lt1 ⊢
  clear hg
  go_wp2_with fail
  refine (l7Draw_any A l c g w1 hl hb hc1).mono ?_
  rintro e w2 ⟨el, v, hel1, hel, rfl, o2, hc2, gr2⟩
  obtain ⟨LA, lc, rfl, h1, h2, _⟩ := own_form o2
  go_wp2_with fail
  refine (l7Entry_any A l c g w2 hl hb hc2).mono ?_
  rintro e w3 ⟨x, hxf, rfl, hc3, gr3⟩
  have o3 := own_cur o2 gr3 lt1
  have g3 := gr2.trans gr3
  have hz := (g3.block _ (blk_lt hz1.out) (fun e => by injection e with e; have := HG.out; omega)).trans hz1.out
  have B3 : Below w.heap.size w w3 := HB1.out.trans (below_grown g3 (by have := HG.out; omega) (by have := HB1.out.size; omega))
  have lz := blk_lt hz1.out
  have e0 := cell_of_row _ _ 0 _ _ _ hz
  have f0 := frozen_of_row _ _ 0 _ _ hz
  have e1 := cell_of_row _ _ 1 _ _ _ hz
  have f1 := frozen_of_row _ _ 1 _ _ hz
  have e2 := cell_of_row _ _ 2 _ _ _ hz
  have f2 := frozen_of_row _ _ 2 _ _ hz
  have e3 := cell_of_row _ _ 3 _ _ _ hz
  have f3 := frozen_of_row _ _ 3 _ _ hz
  simp at e0 e1 e2 e3
  have hP : Rws (putEn w3 w.heap.size x) (putEn w3 w.heap.size x).heap.size LA (el.flatMap enC) := by
    have oP : (putEn w3 w.heap.size x).ownsRow w1.heap.size 26 4 (.slice LA el.length lc) el.length (el.flatMap enC) := by
      refine ⟨o3.1, ?_⟩
      rcases o3.2 with h | ⟨b, cp, cur, hv, hbb, hh, hrest⟩
      · exact .inl h
      · exact .inr ⟨b, cp, cur, hv, hbb, (putEn_block (by omega)).trans hh, hrest⟩
    exact own_rws oP
  have R : Hid (GotQP w (.returned (.tuple #[.slice LA el.length lc, enA x])) (putEn w3 w.heap.size x)) := ⟨el, LA, lc, x, hel1, hel, hxf, rfl, hP, h1, h2, putEn_below B3 (Nat.le_refl _)⟩
  clear o3 o2 g3 gr2 gr3 hz hP B3 hc2 hc3 hc1
  unfold enA putEn at R
  unfold enA
  go_wp2
  simp [bodyPost, results, Try.results10, go_sem, e0, e1, e2, e3]
  exact R.out
end Go.Proofs.Ytlflgflmlfileaa
