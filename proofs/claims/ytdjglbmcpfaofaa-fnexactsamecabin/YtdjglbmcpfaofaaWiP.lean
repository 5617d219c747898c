/- slices.Insert, slices.Delete of the program. -/
import Derived.Test.YtdjglbmcpfaofaaRows
import Derived.Test.YtdjglbmcpfaofaaWiA
import Derived.Laws.CopyRow
import Derived.Lib.Overlaps
import Derived.Lib.AppendZerosOnto
import Derived.Laws.Externs
import Derived.Maps.AppendAt
namespace Go.Proofs.Ytdjglbmcpfaofaa
open Go.RowKit
set_option linter.unusedSimpArgs false
set_option linter.unusedVariables false
set_option maxRecDepth 100000 in
/-- append(v, q...) as a step, and where the row lies then. -/
theorem exec_appR2 {t e sz bytes : Nat} {z : Value} (T : RowT t e sz bytes z) {o : Oper} {a : Act} {s x : Operand} (w : World)
    (base : Nat) (v : Value) (n : Nat) (xs : List Value) (hown : w.ownsRow base e sz v n xs)
    (B : Nat) (A : Option Addr) (m c : Nat) (news : List Value) (hl : news.length = m * sz) (hR : Rws w B A news) (hnil : A = none → c = 0) (h1 : ∀ u ∈ news, u.oneCell' = true)
    (hlen : n + m ≤ 1073741824) (hbase : base ≤ w.heap.size)
    (ho : o.op = .call { callee := .builtin .append, args := #[s, x], argTypes := #[t, t] } := by rfl) (hs : a.eval s = v := by rfl) (hx : a.eval x = .slice A m c := by rfl) :
    ∃ v' w', (execOp a.eval o).run Try.prog w = .ok (.value v') w' ∧ w'.ownsRow base e sz v' (n + m) (xs ++ news) ∧ w.grownBy w' v.ownBlock ∧ (v'.ownBlock = v.ownBlock ∨ v'.ownBlock = some w.heap.size) := by
  obtain ⟨i0, hi, hz0, hz1, hz2⟩ := info_parts T.inf
  rcases A with _ | ad
  · have h0 : news = [] := by
      rcases hR with h | ⟨_, _, h, _⟩
      · exact h
      · cases h
    subst h0
    have hm : m = 0 := by
      rcases Nat.eq_zero_or_pos m with h | h
      · exact h
      · have := Nat.mul_pos h T.pos; simp at hl; omega
    subst hm
    rw [hnil rfl] at hx
    have hrun := run_append_owned_none (P := Try.prog) (w := w) base t o.type e i0 sz T.ut hi v n xs hown
    refine ⟨v, w, ?_, by simpa using hown, World.grownBy.refl _ _, .inl rfl⟩
    simp [execOp, ho, resolve, invoke, builtin, hs, hx, hrun, Result.andThen]
  · have hb : (n + m) * bytes ≤ 140737488355328 := by
      have h2 := T.by_
      have : (n + m) * bytes ≤ 1073741824 * 1024 := Nat.mul_le_mul hlen h2
      omega
    obtain ⟨v', w', hr, h2, h3, _, h5⟩ := run_append_own_at (P := Try.prog) w base t o.type e i0 z sz bytes T.ut hi hz0 hz1 hz2 T.zc T.pos v n xs hown ad m c news hl
      (fun j u hj => by
        rcases hR with rfl | ⟨b, off, e1, _, hc⟩
        · simp at hj
        · injection e1 with e1
          subst e1
          have hjl : j < news.length := by
            rcases Nat.lt_or_ge j news.length with h | h
            · exact h
            · rw [List.getElem?_eq_none h] at hj; cases hj
          rw [add_at, hc j hjl]; exact hj) h1 (by unfold maxLen; omega) hb hbase
    refine ⟨v', w', ?_, h2, h3, h5⟩
    simp [execOp, ho, resolve, invoke, builtin, hs, hx, hr, Result.andThen]
set_option maxRecDepth 100000 in
theorem wpList_appR2 {t e sz bytes : Nat} {z : Value} (T : RowT t e sz bytes z) (w : World) {ops : Array Oper} {rest : List Oper} {o : Oper} {a : Act} {Q : Exit → Act → World → Prop} (hgd : o.guard = none) (s x : Operand)
    (ho : o.op = .call { callee := .builtin .append, args := #[s, x], argTypes := #[t, t] })
    (base : Nat) (v : Value) (n : Nat) (xs : List Value) (hs : a.eval s = v) (hown : w.ownsRow base e sz v n xs)
    (B : Nat) (A : Option Addr) (m c : Nat) (news : List Value) (hx : a.eval x = .slice A m c) (hl : news.length = m * sz) (hR : Rws w B A news) (hnil : A = none → c = 0) (h1 : ∀ u ∈ news, u.oneCell' = true)
    (hlen : n + m ≤ 1073741824) (hbase : base ≤ w.heap.size)
    (h : ∀ v' w', w'.ownsRow base e sz v' (n + m) (xs ++ news) → w.grownBy w' v.ownBlock → (v'.ownBlock = v.ownBlock ∨ v'.ownBlock = some w.heap.size) → wpList Try.prog ops Q rest (a.put o.dst v') w') :
    wpList Try.prog ops Q (o :: rest) a w := by
  obtain ⟨v', w', hr, h2, h3, h4⟩ := exec_appR2 T w base v n xs hown B A m c news hl hR hnil h1 hlen hbase ho hs hx
  refine wpList_plain hgd fun K hK => ?_
  unfold Oper.wp
  rw [hr, Oper.upon_value]
  exact hK _ _ (h v' w' h2 h3 h4)
set_option maxRecDepth 100000 in
theorem exec_copyK {ρ : Operand → Value} {o : Oper} {d s : Operand} {dT sT : TypeId} {v u v' : Value} {w w' : World} (hr : ∀ ty, (Builtin.copy_ #[dT, sT] ty #[v, u]).run Try.prog w = .ok v' w')
    (ho : o.op = .call { callee := .builtin .copy, args := #[d, s], argTypes := #[dT, sT] } := by rfl) (hd : ρ d = v := by rfl) (hs : ρ s = u := by rfl) : (execOp ρ o).run Try.prog w = .ok (.value v') w' := by
  simp [execOp, ho, resolve, invoke, builtin, hd, hs, hr, Result.andThen]
set_option maxRecDepth 100000 in
theorem exec_appendK {ρ : Operand → Value} {o : Oper} {d s : Operand} {dT sT : TypeId} {v u v' : Value} {w w' : World} (hr : ∀ ty, (Builtin.append_ #[dT, sT] ty #[v, u]).run Try.prog w = .ok v' w')
    (ho : o.op = .call { callee := .builtin .append, args := #[d, s], argTypes := #[dT, sT] } := by rfl) (hd : ρ d = v := by rfl) (hs : ρ s = u := by rfl) : (execOp ρ o).run Try.prog w = .ok (.value v') w' := by
  simp [execOp, ho, resolve, invoke, builtin, hd, hs, hr, Result.andThen]
set_option maxRecDepth 100000 in
theorem exec_clearK {ρ : Operand → Value} {o : Oper} {d : Operand} {dT : TypeId} {v v' : Value} {w w' : World} (hr : ∀ ty, (Builtin.clear_ #[dT] ty #[v]).run Try.prog w = .ok v' w')
    (ho : o.op = .call { callee := .builtin .clear, args := #[d], argTypes := #[dT] } := by rfl) (hd : ρ d = v := by rfl) : (execOp ρ o).run Try.prog w = .ok (.value v') w' := by
  simp [execOp, ho, resolve, invoke, builtin, hd, hr, Result.andThen]
/-- cs laid over L from place o on. -/
def over (L : List Value) (o : Nat) (cs : List Value) : List Value := L.take o ++ (cs ++ L.drop (o + cs.length))
theorem over_len (L : List Value) (o : Nat) (cs : List Value) (h : o + cs.length ≤ L.length) : (over L o cs).length = L.length := by simp [over]; omega
set_option maxRecDepth 100000 in
/-- copy into a row of cells. -/
theorem run_copyK {t e sz bytes : Nat} {z : Value} (T : RowT t e sz bytes z) (w : World) (ty : TypeId) (g o dLen dCap : Nat) (a : Addr) (sLen sCap n : Nat) (cur : List Value) (tc : TypeId) (cs : List Value)
    (hg : w.heap[g]? = some (.cells cur.toArray tc (0, 0))) (hn : Nat.min sLen dLen = n) (hl : cs.length = n * sz) (hsrc : ∀ j v, cs[j]? = some v → w.cell? (a.add j) = some v) (hfit : o + cs.length ≤ cur.length) (h1 : ∀ v ∈ cs, v.oneCell' = true) :
    (Builtin.copy_ #[t, t] ty #[.slice (some ⟨g, o, none⟩) dLen dCap, .slice (some a) sLen sCap]).run Try.prog w = .ok (goInt n) (w.setRow g (over cur o cs).toArray) := by
  obtain ⟨i0, hi, hz0, hz1, hz2⟩ := info_parts T.inf
  have hf := run_firstCells_some (P := Try.prog) w sz n a sLen sCap cs hl hsrc
  have hst := run_storeCells_at Try.prog g o tc cs 0 cur.toArray w hg (by simpa using hfit) h1
  simp only [Nat.add_zero] at hst
  subst hz1
  simp [Builtin.copy_, run_underlying T.ut, Builtin.lenOf, sizeOf, typeInfo, hi, hn, hf, hst, over]
theorem setRow_grown (w : World) (g : Nat) (cs : Array Value) : w.grownBy (w.setRow g cs) (some g) := ⟨rfl, rfl, rfl, by simp, fun k _ h => setRow_other w g k cs (fun e => h (by rw [e]))⟩
theorem pin_cells {w : World} {vb : Nat} {x : Pn} (h : w.heap[vb]? = some (.cells #[.int .i64 x.at_, .int .i64 x.id] 70)) : ∀ j v, (pnC x)[j]? = some v → w.cell? ((⟨vb, 0, none⟩ : Addr).add j) = some v := by
  have hc := Pn.here.blk h
  intro j v hj
  match j, hj with
  | 0, hj => simp [pnC] at hj; subst hj; rw [add_at]; exact hc.1
  | 1, hj => simp [pnC] at hj; subst hj; rw [add_at]; exact hc.2
  | j + 2, hj => simp [pnC] at hj
theorem pnC_one1 (x : Pn) : ∀ v ∈ pnC x, v.oneCell' = true := by
  intro v hv
  simp [pnC] at hv
  rcases hv with rfl | rfl <;> rfl
/-- A row of pins behind an insertion. -/
def GotIns (w : World) (B : Nat) (row : Option Nat) (l : List Pn) (e : Ending) (w' : World) : Prop := ∃ A' c', e = .returned (.slice A' l.length c') ∧ w'.ownsRow B 70 2 (.slice A' l.length c') l.length (l.flatMap pnC) ∧ w.grownBy w' row ∧ ∀ q, A'.map (fun a => a.block) = some q → row = some q ∨ w.heap.size ≤ q
def insL (l : List Pn) (k : Nat) (x : Pn) : List Pn := l.take k ++ x :: l.drop k
theorem insL_len (l : List Pn) (k : Nat) (x : Pn) (h : k ≤ l.length) : (insL l k x).length = l.length + 1 := by unfold insL; simp; omega
theorem fromA_some {b c k sz : Nat} (h : c ≠ k) : fromA (some ⟨b, 0, none⟩) c k sz = some ⟨b, k * sz, none⟩ := by
  unfold fromA
  rw [Option.map_some, if_neg h, Addr.add_lit, Nat.zero_add]
theorem over_two (X1 Y X2 Z : List Value) (h : Y.length + X2.length ≤ Z.length) : over (over (X1 ++ Z) X1.length Y) (X1.length + Y.length) X2 = X1 ++ (Y ++ (X2 ++ Z.drop (Y.length + X2.length))) := by
  unfold over
  have e1 : (X1 ++ Z).take X1.length = X1 := by simp
  have e2 : (X1 ++ Z).drop (X1.length + Y.length) = Z.drop Y.length := by rw [List.drop_append]; simp
  rw [e1, e2]
  have e3 : (X1 ++ (Y ++ Z.drop Y.length)).take (X1.length + Y.length) = X1 ++ Y := by
    rw [← List.append_assoc]; exact List.take_left' (by simp)
  have e4 : (X1 ++ (Y ++ Z.drop Y.length)).drop (X1.length + Y.length + X2.length) = Z.drop (Y.length + X2.length) := by
    rw [← List.append_assoc, ← List.drop_drop, List.drop_left' (by simp), List.drop_drop]
  rw [e3, e4]; simp [List.append_assoc]
theorem over_in (X1 Y X2 R : List Value) (h : Y.length ≤ R.length) (hX : Y.length ≤ X2.length) : over (over (X1 ++ (X2 ++ R)) (X1.length + Y.length) X2) X1.length Y = X1 ++ (Y ++ (X2 ++ R.drop Y.length)) := by
  unfold over
  have e1 : (X1 ++ (X2 ++ R)).take (X1.length + Y.length) = X1 ++ X2.take Y.length := by
    rw [List.take_append, List.take_of_length_le (by omega), show X1.length + Y.length - X1.length = Y.length by omega, List.take_append_of_le_length hX]
  have e2 : (X1 ++ (X2 ++ R)).drop (X1.length + Y.length + X2.length) = R.drop Y.length := by
    rw [show X1.length + Y.length + X2.length = X1.length + (X2.length + Y.length) by omega, ← List.drop_drop, List.drop_left' rfl, ← List.drop_drop, List.drop_left' rfl]
  rw [e1, e2]
  have hl : (X2.take Y.length).length = Y.length := by simp [hX]
  have e3 : ((X1 ++ X2.take Y.length) ++ (X2 ++ R.drop Y.length)).take X1.length = X1 := by rw [List.append_assoc]; simp
  have e4 : ((X1 ++ X2.take Y.length) ++ (X2 ++ R.drop Y.length)).drop (X1.length + Y.length) = X2 ++ R.drop Y.length := by
    exact List.drop_left' (by simp [hX])
  rw [e3, e4]
set_option maxRecDepth 100000 in
theorem exec_sliceFromE {t e sz bytes : Nat} {z : Value} (T : RowT t e sz bytes z) {ρ : Operand → Value} {o : Oper} {x y : Operand} (A : Option Addr) (n c k n' : Nat) (w : World) (hk : k ≤ n) (hc : n ≤ c) (hn : A = none → c = 0) (he : n - k = n') (ho : o.op = .slice t x (some y) none none := by rfl) (hx : ρ x = .slice A n c := by rfl) (hy : ρ y = .int .i64 (k : Int) := by rfl) :
    (execOp ρ o).run Try.prog w = .ok (.value (.slice (fromA A c k sz) n' (c - k))) w := by
  subst he; exact exec_sliceFrom T A n c k w hk hc hn ho hx hy
set_option maxRecDepth 100000 in
/-- clear of cells of a row. -/
theorem run_clearK {t e sz bytes : Nat} {z : Value} (T : RowT t e sz bytes z) (w : World) (ty : TypeId) (g o n c : Nat) (cur : List Value) (tc : TypeId) (hn : 0 < n) (hg : w.heap[g]? = some (.cells cur.toArray tc (0, 0))) (hfit : o + n * sz ≤ cur.length) (h1 : ∀ v ∈ (Builtin.zeroCells z.cells n).toList, v.oneCell' = true) :
    (Builtin.clear_ #[t] ty #[.slice (some ⟨g, o, none⟩) n c]).run Try.prog w = .ok (.tuple #[]) (w.setRow g (over cur o (Builtin.zeroCells z.cells n).toList).toArray) := by
  obtain ⟨i0, hi, hz0, hz1, hz2⟩ := info_parts T.inf
  have hl : (Builtin.zeroCells z.cells n).toList.length = n * sz := by rw [Array.length_toList, size_zeroCells, T.zc]
  have hst := run_storeCells_at Try.prog g o tc (Builtin.zeroCells z.cells n).toList 0 cur.toArray w hg (by rw [hl]; simpa using hfit) h1
  simp only [Nat.add_zero] at hst
  cases n with
  | zero => omega
  | succ n => simp [Builtin.clear_, run_underlying T.ut, zeroValue, hz0, typeInfo, hi, hst, over]
theorem over_keep (L : List Value) (o : Nat) (cs : List Value) (h : o ≤ L.length) : (over L o cs).take o = L.take o := by
  unfold over; rw [List.take_left' (by simp; omega)]
end Go.Proofs.Ytdjglbmcpfaofaa
