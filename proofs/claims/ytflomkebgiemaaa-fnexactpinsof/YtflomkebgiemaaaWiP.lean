/- slices.Insert, slices.Delete of the program. -/
import Derived.Test.YtflomkebgiemaaaRows
import Derived.Test.YtflomkebgiemaaaWiA
import Derived.Laws.CopyRow
import Derived.Lib.Overlaps
import Derived.Lib.AppendZerosOnto
import Derived.Laws.Externs
import Derived.Maps.AppendAt
namespace Go.Proofs.Ytflomkebgiemaaa
open Go.RowKit
set_option linter.unusedSimpArgs false
set_option linter.unusedVariables false
set_option maxRecDepth 100000 in
/-- append(v, q...) as a step, and where the row lies then. -/
theorem exec_appR2 {t e sz bytes : Nat} {z : Value} (T : RowT t e sz bytes z) {o : Oper} {a : Act} {s x : Operand} (w : World)
    (base : Nat) (v : Value) (n : Nat) (xs : List Value) (hown : w.ownsRow base e sz v n xs)
    (B : Nat) (A : Option Addr) (m c : Nat) (news : List Value) (hl : news.length = m * sz) (hR : Rws w B A news) (hnil : A = none → c = 0) (h1 : ∀ u ∈ news, u.oneCell' = true)
    (hlen : n + m ≤ 1073741824) (hbase : base ≤ w.heap.size)
    (ho : o.op = .call { callee := .builtin .append, args := #[s, x], argTypes := #[t, t] } := by rfl) (hs : a.eval s = v := by rfl) (hx : a.eval x = .slice A m c := by rfl) :
    ∃ v' w', (execOp a.eval o).run Try.prog w = .ok (.value v') w' ∧ w'.ownsRow base e sz v' (n + m) (xs ++ news) ∧ w.grownBy w' v.ownBlock ∧ (v'.ownBlock = v.ownBlock ∨ v'.ownBlock = some w.heap.size) := by
  obtain ⟨i0, hi, hz0, hz1, hz2⟩ := info_parts T.inf
  rcases A with _ | ad
  · have h0 : news = [] := by
      rcases hR with h | ⟨_, _, h, _⟩
      · exact h
      · cases h
    subst h0
    have hm : m = 0 := by
      rcases Nat.eq_zero_or_pos m with h | h
      · exact h
      · have := Nat.mul_pos h T.pos; simp at hl; omega
    subst hm
    rw [hnil rfl] at hx
    have hrun := run_append_owned_none (P := Try.prog) (w := w) base t o.type e i0 sz T.ut hi v n xs hown
    refine ⟨v, w, ?_, by simpa using hown, World.grownBy.refl _ _, .inl rfl⟩
    simp [execOp, ho, resolve, invoke, builtin, hs, hx, hrun, Result.andThen]
  · have hb : (n + m) * bytes ≤ 140737488355328 := by
      have h2 := T.by_
      have : (n + m) * bytes ≤ 1073741824 * 1024 := Nat.mul_le_mul hlen h2
      omega
    obtain ⟨v', w', hr, h2, h3, _, h5⟩ := run_append_own_at (P := Try.prog) w base t o.type e i0 z sz bytes T.ut hi hz0 hz1 hz2 T.zc T.pos v n xs hown ad m c news hl
      (fun j u hj => by
        rcases hR with rfl | ⟨b, off, e1, _, hc⟩
        · simp at hj
        · injection e1 with e1
          subst e1
          have hjl : j < news.length := by
            rcases Nat.lt_or_ge j news.length with h | h
            · exact h
            · rw [List.getElem?_eq_none h] at hj; cases hj
          rw [add_at, hc j hjl]; exact hj) h1 (by unfold maxLen; omega) hb hbase
    refine ⟨v', w', ?_, h2, h3, h5⟩
    simp [execOp, ho, resolve, invoke, builtin, hs, hx, hr, Result.andThen]
set_option maxRecDepth 100000 in
theorem wpList_appR2 {t e sz bytes : Nat} {z : Value} (T : RowT t e sz bytes z) (w : World) {ops : Array Oper} {rest : List Oper} {o : Oper} {a : Act} {Q : Exit → Act → World → Prop} (hgd : o.guard = none) (s x : Operand)
    (ho : o.op = .call { callee := .builtin .append, args := #[s, x], argTypes := #[t, t] })
    (base : Nat) (v : Value) (n : Nat) (xs : List Value) (hs : a.eval s = v) (hown : w.ownsRow base e sz v n xs)
    (B : Nat) (A : Option Addr) (m c : Nat) (news : List Value) (hx : a.eval x = .slice A m c) (hl : news.length = m * sz) (hR : Rws w B A news) (hnil : A = none → c = 0) (h1 : ∀ u ∈ news, u.oneCell' = true)
    (hlen : n + m ≤ 1073741824) (hbase : base ≤ w.heap.size)
    (h : ∀ v' w', w'.ownsRow base e sz v' (n + m) (xs ++ news) → w.grownBy w' v.ownBlock → (v'.ownBlock = v.ownBlock ∨ v'.ownBlock = some w.heap.size) → wpList Try.prog ops Q rest (a.put o.dst v') w') :
    wpList Try.prog ops Q (o :: rest) a w := by
  obtain ⟨v', w', hr, h2, h3, h4⟩ := exec_appR2 T w base v n xs hown B A m c news hl hR hnil h1 hlen hbase ho hs hx
  refine wpList_plain hgd fun K hK => ?_
  unfold Oper.wp
  rw [hr, Oper.upon_value]
  exact hK _ _ (h v' w' h2 h3 h4)
set_option maxRecDepth 100000 in
theorem exec_copyK {ρ : Operand → Value} {o : Oper} {d s : Operand} {dT sT : TypeId} {v u v' : Value} {w w' : World} (hr : ∀ ty, (Builtin.copy_ #[dT, sT] ty #[v, u]).run Try.prog w = .ok v' w')
    (ho : o.op = .call { callee := .builtin .copy, args := #[d, s], argTypes := #[dT, sT] } := by rfl) (hd : ρ d = v := by rfl) (hs : ρ s = u := by rfl) : (execOp ρ o).run Try.prog w = .ok (.value v') w' := by
  simp [execOp, ho, resolve, invoke, builtin, hd, hs, hr, Result.andThen]
set_option maxRecDepth 100000 in
theorem exec_appendK {ρ : Operand → Value} {o : Oper} {d s : Operand} {dT sT : TypeId} {v u v' : Value} {w w' : World} (hr : ∀ ty, (Builtin.append_ #[dT, sT] ty #[v, u]).run Try.prog w = .ok v' w')
    (ho : o.op = .call { callee := .builtin .append, args := #[d, s], argTypes := #[dT, sT] } := by rfl) (hd : ρ d = v := by rfl) (hs : ρ s = u := by rfl) : (execOp ρ o).run Try.prog w = .ok (.value v') w' := by
  simp [execOp, ho, resolve, invoke, builtin, hd, hs, hr, Result.andThen]
set_option maxRecDepth 100000 in
theorem exec_clearK {ρ : Operand → Value} {o : Oper} {d : Operand} {dT : TypeId} {v v' : Value} {w w' : World} (hr : ∀ ty, (Builtin.clear_ #[dT] ty #[v]).run Try.prog w = .ok v' w')
    (ho : o.op = .call { callee := .builtin .clear, args := #[d], argTypes := #[dT] } := by rfl) (hd : ρ d = v := by rfl) : (execOp ρ o).run Try.prog w = .ok (.value v') w' := by
  simp [execOp, ho, resolve, invoke, builtin, hd, hr, Result.andThen]
/-- cs laid over L from place o on. -/
def over (L : List Value) (o : Nat) (cs : List Value) : List Value := L.take o ++ (cs ++ L.drop (o + cs.length))
theorem over_len (L : List Value) (o : Nat) (cs : List Value) (h : o + cs.length ≤ L.length) : (over L o cs).length = L.length := by simp [over]; omega
set_option maxRecDepth 100000 in
/-- copy into a row of cells. -/
theorem run_copyK {t e sz bytes : Nat} {z : Value} (T : RowT t e sz bytes z) (w : World) (ty : TypeId) (g o dLen dCap : Nat) (a : Addr) (sLen sCap n : Nat) (cur : List Value) (tc : TypeId) (cs : List Value)
    (hg : w.heap[g]? = some (.cells cur.toArray tc (0, 0))) (hn : Nat.min sLen dLen = n) (hl : cs.length = n * sz) (hsrc : ∀ j v, cs[j]? = some v → w.cell? (a.add j) = some v) (hfit : o + cs.length ≤ cur.length) (h1 : ∀ v ∈ cs, v.oneCell' = true) :
    (Builtin.copy_ #[t, t] ty #[.slice (some ⟨g, o, none⟩) dLen dCap, .slice (some a) sLen sCap]).run Try.prog w = .ok (goInt n) (w.setRow g (over cur o cs).toArray) := by
  obtain ⟨i0, hi, hz0, hz1, hz2⟩ := info_parts T.inf
  have hf := run_firstCells_some (P := Try.prog) w sz n a sLen sCap cs hl hsrc
  have hst := run_storeCells_at Try.prog g o tc cs 0 cur.toArray w hg (by simpa using hfit) h1
  simp only [Nat.add_zero] at hst
  subst hz1
  simp [Builtin.copy_, run_underlying T.ut, Builtin.lenOf, sizeOf, typeInfo, hi, hn, hf, hst, over]
theorem setRow_grown (w : World) (g : Nat) (cs : Array Value) : w.grownBy (w.setRow g cs) (some g) := ⟨rfl, rfl, rfl, by simp, fun k _ h => setRow_other w g k cs (fun e => h (by rw [e]))⟩
theorem pin_cells {w : World} {vb : Nat} {x : Pn} (h : w.heap[vb]? = some (.cells #[.int .i64 x.at_, .int .i64 x.id] 33)) : ∀ j v, (pnC x)[j]? = some v → w.cell? ((⟨vb, 0, none⟩ : Addr).add j) = some v := by
  have hc := Pn.here.blk h
  intro j v hj
  match j, hj with
  | 0, hj => simp [pnC] at hj; subst hj; rw [add_at]; exact hc.1
  | 1, hj => simp [pnC] at hj; subst hj; rw [add_at]; exact hc.2
  | j + 2, hj => simp [pnC] at hj
theorem pnC_one1 (x : Pn) : ∀ v ∈ pnC x, v.oneCell' = true := by
  intro v hv
  simp [pnC] at hv
  rcases hv with rfl | rfl <;> rfl
/-- A row of pins behind an insertion. -/
def GotIns (w : World) (B : Nat) (row : Option Nat) (l : List Pn) (e : Ending) (w' : World) : Prop := ∃ A' c', e = .returned (.slice A' l.length c') ∧ w'.ownsRow B 33 2 (.slice A' l.length c') l.length (l.flatMap pnC) ∧ w.grownBy w' row ∧ ∀ q, A'.map (fun a => a.block) = some q → row = some q ∨ w.heap.size ≤ q
def insL (l : List Pn) (k : Nat) (x : Pn) : List Pn := l.take k ++ x :: l.drop k
theorem insL_len (l : List Pn) (k : Nat) (x : Pn) (h : k ≤ l.length) : (insL l k x).length = l.length + 1 := by unfold insL; simp; omega
theorem fromA_some {b c k sz : Nat} (h : c ≠ k) : fromA (some ⟨b, 0, none⟩) c k sz = some ⟨b, k * sz, none⟩ := by
  unfold fromA
  rw [Option.map_some, if_neg h, Addr.add_lit, Nat.zero_add]
set_option maxRecDepth 100000 in
set_option maxHeartbeats 1600000 in
theorem insert_end (A : Option Addr) (c B vb : Nat) (l : List Pn) (x : Pn) (w : World) (hl : l.length ≤ 1048577) (hB : B ≤ w.heap.size) (hO : w.ownsRow B 33 2 (.slice A l.length c) l.length (l.flatMap pnC)) (hv : w.heap[vb]? = some (.cells #[.int .i64 x.at_, .int .i64 x.id] 33)) :
    Calls Try.prog 57 #[.slice A l.length c, .int .i64 (l.length : Int), .slice (some ⟨vb, 0, none⟩) 1 1] w (GotIns w B (Value.slice A l.length c).ownBlock (insL l l.length x)) := by
  obtain ⟨_, _, he, hcap, hnil, _⟩ := own_form hO
  injection he with he1 _ he3
  subst he1 he3
  have hRv : Rws w w.heap.size (some ⟨vb, 0, none⟩) (pnC x) := .inr ⟨vb, 0, rfl, blk_lt hv, fun j hj => by
    have := pin_cells hv j _ (List.getElem?_eq_getElem hj)
    rw [add_at] at this
    rw [this, List.getElem?_eq_getElem hj]⟩
  have HE : Hid (insL l l.length x = l ++ [x]) := by show _ = _; unfold insL; simp
  have HO := Lib.hid hO
  have hle : l.length ≤ c := hcap
  clear hO
  by_cases hc : c = l.length
  · subst hc
    go_enter Try.func57, Try.ntmps57
    go_wp2_with (at_builtin; refine wpList_appR2 rowPin _ rfl (.tmp 23) (.tmp 24) rfl B _ l.length (l.flatMap pnC) rfl HO.out _ (some ⟨vb, 0, none⟩) 1 1 (pnC x) rfl rfl hRv (fun h => by cases h) (pnC_one1 x) (by omega) hB ?_)
    intro v2 w2 o2 g2 l2
    obtain ⟨A2, c2, rfl, _⟩ := own_form o2
    have l3 : ∀ q, A2.map (fun a => a.block) = some q → (Value.slice A l.length l.length).ownBlock = some q ∨ w.heap.size ≤ q := fun q hq => by
      have e9 : (Value.slice A2 (l.length + 1) c2).ownBlock = some q := by rw [← hq]; cases A2 <;> rfl
      rcases l2 with h | h
      · exact .inl (by rw [← h]; exact e9)
      · rw [h] at e9; injection e9 with e9; exact .inr (by omega)
    have R : Hid (GotIns w B (Value.slice A l.length l.length).ownBlock (insL l l.length x) (.returned (.slice A2 (l.length + 1) c2)) w2) := by
      rw [HE.out]
      exact ⟨A2, c2, by simp, by rw [List.length_append, List.flatMap_append]; simpa using o2, g2, l3⟩
    clear o2 g2 l2 l3 HE HO
    go_wp2
    go_ret
    exact R.out
  · go_enter Try.func57, Try.ntmps57
    go_wp2_with (at_builtin; refine wpList_appR2 rowPin _ rfl (.tmp 23) (.tmp 24) rfl B _ l.length (l.flatMap pnC) rfl HO.out _ (some ⟨vb, 0, none⟩) 1 1 (pnC x) rfl rfl hRv (fun h => by cases h) (pnC_one1 x) (by omega) hB ?_)
    intro v2 w2 o2 g2 l2
    obtain ⟨A2, c2, rfl, _⟩ := own_form o2
    have l3 : ∀ q, A2.map (fun a => a.block) = some q → (Value.slice A l.length c).ownBlock = some q ∨ w.heap.size ≤ q := fun q hq => by
      have e9 : (Value.slice A2 (l.length + 1) c2).ownBlock = some q := by rw [← hq]; cases A2 <;> rfl
      rcases l2 with h | h
      · exact .inl (by rw [← h]; exact e9)
      · rw [h] at e9; injection e9 with e9; exact .inr (by omega)
    have R : Hid (GotIns w B (Value.slice A l.length c).ownBlock (insL l l.length x) (.returned (.slice A2 (l.length + 1) c2)) w2) := by
      rw [HE.out]
      exact ⟨A2, c2, by simp, by rw [List.length_append, List.flatMap_append]; simpa using o2, g2, l3⟩
    clear o2 g2 l2 l3 HE HO
    go_wp2
    go_ret
    exact R.out
theorem over_two (X1 Y X2 Z : List Value) (h : Y.length + X2.length ≤ Z.length) : over (over (X1 ++ Z) X1.length Y) (X1.length + Y.length) X2 = X1 ++ (Y ++ (X2 ++ Z.drop (Y.length + X2.length))) := by
  unfold over
  have e1 : (X1 ++ Z).take X1.length = X1 := by simp
  have e2 : (X1 ++ Z).drop (X1.length + Y.length) = Z.drop Y.length := by rw [List.drop_append]; simp
  rw [e1, e2]
  have e3 : (X1 ++ (Y ++ Z.drop Y.length)).take (X1.length + Y.length) = X1 ++ Y := by
    rw [← List.append_assoc]; exact List.take_left' (by simp)
  have e4 : (X1 ++ (Y ++ Z.drop Y.length)).drop (X1.length + Y.length + X2.length) = Z.drop (Y.length + X2.length) := by
    rw [← List.append_assoc, ← List.drop_drop, List.drop_left' (by simp), List.drop_drop]
  rw [e3, e4]; simp [List.append_assoc]
theorem over_in (X1 Y X2 R : List Value) (h : Y.length ≤ R.length) (hX : Y.length ≤ X2.length) : over (over (X1 ++ (X2 ++ R)) (X1.length + Y.length) X2) X1.length Y = X1 ++ (Y ++ (X2 ++ R.drop Y.length)) := by
  unfold over
  have e1 : (X1 ++ (X2 ++ R)).take (X1.length + Y.length) = X1 ++ X2.take Y.length := by
    rw [List.take_append, List.take_of_length_le (by omega), show X1.length + Y.length - X1.length = Y.length by omega, List.take_append_of_le_length hX]
  have e2 : (X1 ++ (X2 ++ R)).drop (X1.length + Y.length + X2.length) = R.drop Y.length := by
    rw [show X1.length + Y.length + X2.length = X1.length + (X2.length + Y.length) by omega, ← List.drop_drop, List.drop_left' rfl, ← List.drop_drop, List.drop_left' rfl]
  rw [e1, e2]
  have hl : (X2.take Y.length).length = Y.length := by simp [hX]
  have e3 : ((X1 ++ X2.take Y.length) ++ (X2 ++ R.drop Y.length)).take X1.length = X1 := by rw [List.append_assoc]; simp
  have e4 : ((X1 ++ X2.take Y.length) ++ (X2 ++ R.drop Y.length)).drop (X1.length + Y.length) = X2 ++ R.drop Y.length := by
    exact List.drop_left' (by simp [hX])
  rw [e3, e4]
set_option maxRecDepth 100000 in
set_option maxHeartbeats 3200000 in
theorem insert_grow (g B vb k : Nat) (l : List Pn) (x : Pn) (w : World) (hk : k < l.length) (hl : l.length ≤ 1048577) (hB : B ≤ w.heap.size) (hO : w.ownsRow B 33 2 (.slice (some ⟨g, 0, none⟩) l.length l.length) l.length (l.flatMap pnC)) (hv : w.heap[vb]? = some (.cells #[.int .i64 x.at_, .int .i64 x.id] 33)) :
    Calls Try.prog 57 #[.slice (some ⟨g, 0, none⟩) l.length l.length, .int .i64 (k : Int), .slice (some ⟨vb, 0, none⟩) 1 1] w (GotIns w B (some g) (insL l k x)) := by
  obtain ⟨i0, hi, hz0, hz1, hz2⟩ := info_parts rowPin.inf
  obtain ⟨n, hn⟩ : ∃ n, l.length = n := ⟨_, rfl⟩
  obtain ⟨m, hm⟩ : ∃ m, n + 1 = k + m := ⟨n + 1 - k, by omega⟩
  have hcells := hO.cells (g := g) rfl
  have hflat : (l.flatMap pnC).length = l.length * 2 := flat_len pnC 2 pnC_len l
  have hX1 : ((l.take k).flatMap pnC).length = k * 2 := by rw [flat_len pnC 2 pnC_len, List.length_take, Nat.min_eq_left (by omega)]
  have hX2 : ((l.drop k).flatMap pnC).length = (n - k) * 2 := by rw [flat_len pnC 2 pnC_len, List.length_drop, hn]
  have e1 := flat_take pnC 2 pnC_len l k
  have e2 := flat_drop pnC 2 pnC_len l k
  have holds : ∀ j v, ((l.take k).flatMap pnC)[j]? = some v → w.cell? ((⟨g, 0, none⟩ : Addr).add j) = some v := fun j v hj => by
    rw [e1, List.getElem?_take] at hj
    split at hj
    · exact hcells j v hj
    · cases hj
  have hgl : g < w.heap.size := (World.ownsRow.lt hO g rfl).2
  rw [hn] at hO hflat hk hl
  -- append(s[:k], make(..)...)
  have hfit : Builtin.nextslicecap (k + m) n * i0.bytes ≤ 281474976710656 := growslice_fits (by omega) (by rw [hz2]; omega)
  have hfo : (Builtin.firstCells i0.size k (.slice (some ⟨g, 0, none⟩) k n)).run Try.prog w.drew = .ok ((l.take k).flatMap pnC).toArray w.drew := by
    rw [hz1]; exact run_firstCells_some (P := Try.prog) w.drew 2 k ⟨g, 0, none⟩ k n _ hX1 (by simpa using holds)
  have hr1 := fun ty => Lib.run_append_grow_zeros (P := Try.prog) w 29 3 ty 33 i0 _ .i64 .i64 rowPin.ut Try.underlying3 hi hz0 (some ⟨g, 0, none⟩) k n ((l.take k).flatMap pnC) hfo m (by omega) (by rw [hz1]; omega) (by omega) (by omega) (by rw [hz2]; omega) hfit
  have hge := grownCap_ge w (k + m) n 33
  have hmx : grownCap w (k + m) n 33 ≤ maxLen := grownCap_le_maxLen _ _ _ _ (by unfold maxLen; omega)
  generalize grownCap w (k + m) n 33 = G at *
  obtain ⟨ZZ, hZZ⟩ : ∃ ZZ, (Builtin.zeroCells (Value.agg #[.int .i64 0, .int .i64 0]).cells m ++ Builtin.zeroCells (Value.agg #[.int .i64 0, .int .i64 0]).cells (G - (k + m))).toList = ZZ := ⟨_, rfl⟩
  have hZl : ZZ.length = (G - k) * 2 := by
    rw [← hZZ, Array.length_toList, Array.size_append, size_zeroCells, size_zeroCells]
    show m * 2 + (G - (k + m)) * 2 = _; omega
  obtain ⟨W1, hW1⟩ : ∃ W1, (w.drew.alloc (.cells (((l.take k).flatMap pnC).toArray ++ Builtin.zeroCells (Value.agg #[.int .i64 0, .int .i64 0]).cells m ++ Builtin.zeroCells (Value.agg #[.int .i64 0, .int .i64 0]).cells (G - (k + m))) 33)) = W1 := ⟨_, rfl⟩
  rw [hW1] at hr1
  have hg1 : W1.heap[w.heap.size]? = some (.cells (((l.take k).flatMap pnC) ++ ZZ).toArray 33 (0, 0)) := by
    rw [← hW1, ← hZZ]
    have := heap_alloc_new w.drew (.cells (((l.take k).flatMap pnC).toArray ++ Builtin.zeroCells (Value.agg #[.int .i64 0, .int .i64 0]).cells m ++ Builtin.zeroCells (Value.agg #[.int .i64 0, .int .i64 0]).cells (G - (k + m))) 33)
    rw [World.size_drew] at this
    rw [this]
    congr 2
    apply Array.ext'
    simp [List.append_assoc]
  have hb1 : Below w.heap.size w W1 := by rw [← hW1]; exact (Below.refl _ w).drew.alloc (by simp) _
  have hs1 : W1.heap.size = w.heap.size + 1 := by rw [← hW1]; simp
  -- copy(s2[k:], v)
  have hv1 := blk_call hv hb1
  have hr2 := fun ty dc => run_copyK rowPin W1 ty w.heap.size (k * 2) m dc ⟨vb, 0, none⟩ 1 1 1 (((l.take k).flatMap pnC) ++ ZZ) 33 (pnC x) hg1 (Nat.min_eq_left (by omega)) rfl (pin_cells hv1) (by rw [List.length_append, hX1, hZl, pnC_len]; omega) (pnC_one1 x)
  obtain ⟨W2, hW2⟩ : ∃ W2, W1.setRow w.heap.size (over (((l.take k).flatMap pnC) ++ ZZ) (k * 2) (pnC x)).toArray = W2 := ⟨_, rfl⟩
  rw [hW2] at hr2
  have hg2 : W2.heap[w.heap.size]? = some (.cells (over (((l.take k).flatMap pnC) ++ ZZ) (k * 2) (pnC x)).toArray 33 (0, 0)) := by rw [← hW2]; exact setRow_heap _ _ _ _ _ _ hg1
  have hgr2 : W1.grownBy W2 (some w.heap.size) := by rw [← hW2]; exact setRow_grown _ _ _
  have hcells2 : ∀ j v, ((l.drop k).flatMap pnC)[j]? = some v → W2.drew.cell? ((⟨g, k * 2, none⟩ : Addr).add j) = some v := fun j v hj => by
    rw [e2, List.getElem?_drop] at hj
    have h9 := hcells _ v hj
    rw [add_at] at h9 ⊢
    simp only [Nat.zero_add] at h9
    have h8 : W2.cell? ⟨g, k * 2 + j, none⟩ = some v := by
      refine hgr2.cell ?_ (by simp; omega)
      exact (hb1.cell (p := ⟨g, k * 2 + j, none⟩) hgl).trans h9
    exact h8
  have hl2 := over_len (((l.take k).flatMap pnC) ++ ZZ) (k * 2) (pnC x) (by rw [List.length_append, hX1, hZl, pnC_len]; omega)
  have hr3 := fun ty dc sc => run_copyK rowPin W2.drew ty w.heap.size ((k + 1) * 2) (k + m - (k + 1)) dc ⟨g, k * 2, none⟩ (n - k) sc (n - k) _ 33 ((l.drop k).flatMap pnC) hg2 (Nat.min_eq_left (by omega)) hX2 hcells2 (by rw [hl2, List.length_append, hX1, hX2, hZl]; omega) (pnC_one _)
  obtain ⟨CS, hCS⟩ : ∃ CS, over (over (((l.take k).flatMap pnC) ++ ZZ) (k * 2) (pnC x)) ((k + 1) * 2) ((l.drop k).flatMap pnC) = CS := ⟨_, rfl⟩
  rw [hCS] at hr3
  have hfin : CS = (insL l k x).flatMap pnC ++ ZZ.drop (2 + (n - k) * 2) := by
    have h7 := over_two ((l.take k).flatMap pnC) (pnC x) ((l.drop k).flatMap pnC) ZZ (by rw [hX2, hZl, pnC_len]; omega)
    rw [hX1, hX2, pnC_len, show k * 2 + 2 = (k + 1) * 2 by omega, hCS] at h7
    rw [h7]
    unfold insL
    simp [List.flatMap_append, List.append_assoc]
  obtain ⟨W3, hW3⟩ : ∃ W3, W2.drew.setRow w.heap.size CS.toArray = W3 := ⟨_, rfl⟩
  rw [hW3] at hr3
  have hg3 : W3.heap[w.heap.size]? = some (.cells CS.toArray 33 (0, 0)) := by rw [← hW3]; exact setRow_heap _ _ _ _ _ _ hg2
  have hgr3 : W2.grownBy W3 (some w.heap.size) := by rw [← hW3]; exact ⟨rfl, rfl, rfl, by simp, fun k _ h => setRow_other W2.drew _ k _ (fun e => h (by rw [e]))⟩
  have hlen3 := insL_len l k x (by omega)
  rw [hn] at hlen3
  have R : Hid (GotIns w B (some g) (insL l k x) (.returned (.slice (some ⟨w.heap.size, 0, none⟩) (k + m) G)) W3) := by
    refine ⟨_, G, by rw [hlen3, hm], ⟨?_, .inr ⟨w.heap.size, G, CS.toArray, rfl, hB, hg3, by rw [hlen3, hm]; exact hge, hmx, ?_, ?_⟩⟩, ?_, ?_⟩
    · rw [flat_len pnC 2 pnC_len]
    · rw [List.size_toArray, hfin, List.length_append, flat_len pnC 2 pnC_len, hlen3, List.length_drop, hZl]; omega
    · show CS.take _ = _
      rw [hfin]
      exact List.take_left' (flat_len pnC 2 pnC_len _)
    · refine ⟨?_, ?_, ?_, ?_, ?_⟩
      · exact (hgr3.os.trans hgr2.os).trans hb1.os
      · exact (hgr3.tape.trans hgr2.tape).trans hb1.tape
      · exact (hgr3.output.trans hgr2.output).trans hb1.output
      · exact Nat.le_trans hb1.size (Nat.le_trans hgr2.size hgr3.size)
      · intro j hj _
        have h1 := hb1.size
        have h2 := hgr2.size
        rw [hgr3.block j (by omega) (by simp; omega), hgr2.block j (by omega) (by simp; omega), hb1.block j hj]
    · intro q hq
      have : w.heap.size = q := by simpa using hq
      exact .inr (by omega)
  have hfa : fromA (some ⟨w.heap.size, 0, none⟩) G (k + 1) 2 = some ⟨w.heap.size, (k + 1) * 2, none⟩ := fromA_some (by omega)
  have hfb : fromA (some ⟨g, 0, none⟩) n k 2 = some ⟨g, k * 2, none⟩ := fromA_some (by omega)
  rw [← hfa, ← hfb] at hr3
  have HR1 := Lib.hid hr1
  have HR2 := Lib.hid hr2
  have HR3 := Lib.hid hr3
  have hmI : (n : Int) + 1 - (k : Int) = (m : Int) := by omega
  have hw1 : IntKind.i64.wrap ((n : Int) + 1) = (n : Int) + 1 := by rw [IntKind.wrap_i64]; omega
  have hw2 : IntKind.i64.wrap (m : Int) = (m : Int) := by rw [IntKind.wrap_i64]; omega
  have hkG : ¬ (G = k) := by omega
  have hkn : ¬ (n = k) := by omega
  have hkm : k + m - k = m := by omega
  have hG1 : k + m ≤ G := hge
  rw [hn]
  obtain ⟨G0, hG0⟩ : ∃ G0, w.heap.size = G0 := ⟨_, rfl⟩
  rw [hG0] at HR1 HR2 HR3 R
  clear hfa hfb hr1 hr2 hr3 hfo hfit hgr3 hgr2 hg3 hg2 hg1 hb1 hs1 hW1 hW2 hW3 hCS hfin hcells2 hl2 hlen3 hv1 hZZ hZl hmx hcells holds hi hz0 hz1 hz2 hflat hX1 hX2 e1 e2 hO hv hn
  go_enter Try.func57, Try.ntmps57
  go_wp2_with (at_builtin; first | refine wpList_exec _ rfl (exec_appendK (HR1.out)) ?_ | refine wpList_exec _ rfl (exec_copyK (fun ty => HR2.out ty _)) ?_)
  rw [HR2.out]
  go_wp2_with fail
  refine wp_region_held_drew (S := fun _ => True) (by kernel_rfl) trivial (fun hHeld => ?_)
  refine held_take 0 46 (.slice (some ⟨G0, 0, none⟩) (k + m) G) rfl rfl (by kernel_rfl) (by kernel_rfl) (by kernel_rfl) (fun _ _ _ h => h) rfl hHeld (fun w _ => rfl) ?_
  refine held_take 1 47 (.int .i64 (k : Int)) rfl rfl (by kernel_rfl) (by kernel_rfl) (by kernel_rfl) (fun _ _ _ h => h) rfl hHeld (fun w _ => rfl) ?_
  refine held_take 2 48 (.int .i64 1) rfl rfl (by kernel_rfl) (by kernel_rfl) (by kernel_rfl) (fun _ _ _ h => h) rfl hHeld (fun w _ => rfl) ?_
  simp only [Act.put, List.setIfInBounds_toArray, List.set_cons_zero, List.set_cons_succ]
  refine held_take 3 49 (.int .i64 ((k + 1 : Nat) : Int)) rfl rfl (by kernel_rfl) (by kernel_rfl) (by kernel_rfl) (fun _ _ _ h => h) rfl hHeld (fun w _ => exec_addI (k : Int) 1 _ w (by omega) (by omega) (by omega)) ?_
  refine held_take 4 50 (.slice (fromA (some ⟨G0, 0, none⟩) G (k + 1) 2) (k + m - (k + 1)) (G - (k + 1))) rfl rfl (by kernel_rfl) (by kernel_rfl) (by kernel_rfl) (fun _ _ _ h => h) rfl hHeld (fun w _ => exec_sliceFrom rowPin (some ⟨G0, 0, none⟩) (k + m) G (k + 1) w (by omega) (by omega) (fun h => by cases h)) ?_
  refine held_take 5 51 (.slice (some ⟨g, 0, none⟩) n n) rfl rfl (by kernel_rfl) (by kernel_rfl) (by kernel_rfl) (fun _ _ _ h => h) rfl hHeld (fun w _ => rfl) ?_
  simp only [Act.put, List.setIfInBounds_toArray, List.set_cons_zero, List.set_cons_succ]
  refine held_take 6 52 (.int .i64 (k : Int)) rfl rfl (by kernel_rfl) (by kernel_rfl) (by kernel_rfl) (fun _ _ _ h => h) rfl hHeld (fun w _ => rfl) ?_
  refine held_take 7 53 (.slice (fromA (some ⟨g, 0, none⟩) n k 2) (n - k) (n - k)) rfl rfl (by kernel_rfl) (by kernel_rfl) (by kernel_rfl) (fun _ _ _ h => h) rfl hHeld (fun w _ => exec_sliceFrom rowPin (some ⟨g, 0, none⟩) n n k w (by omega) (by omega) (fun h => by cases h)) ?_
  simp only [Act.put, List.setIfInBounds_toArray, List.set_cons_zero, List.set_cons_succ]
  refine held_op 8 54 (goInt ((n - k : Nat) : Int)) rfl rfl (by kernel_rfl) rfl (exec_copyK (fun ty => HR3.out ty _ _)) trivial ?_
  simp only [Act.put, List.setIfInBounds_toArray, List.set_cons_zero, List.set_cons_succ]
  refine wpAnyH_done (by kernel_rfl) ?_ _
  go_wp2
  go_ret
  exact R.out
set_option maxRecDepth 100000 in
set_option maxHeartbeats 3200000 in
theorem insert_room (g c B vb k : Nat) (l : List Pn) (x : Pn) (w : World) (hk : k < l.length) (hc : l.length + 1 ≤ c) (hl : l.length ≤ 1048577) (hB : B ≤ w.heap.size) (hO : w.ownsRow B 33 2 (.slice (some ⟨g, 0, none⟩) l.length c) l.length (l.flatMap pnC)) (hv : w.heap[vb]? = some (.cells #[.int .i64 x.at_, .int .i64 x.id] 33)) (hne : vb ≠ g) :
    Calls Try.prog 57 #[.slice (some ⟨g, 0, none⟩) l.length c, .int .i64 (k : Int), .slice (some ⟨vb, 0, none⟩) 1 1] w (GotIns w B (some g) (insL l k x)) := by
  obtain ⟨n, hn⟩ : ∃ n, l.length = n := ⟨_, rfl⟩
  have hcells := hO.cells (g := g) rfl
  have hflat : (l.flatMap pnC).length = l.length * 2 := flat_len pnC 2 pnC_len l
  have hX1 : ((l.take k).flatMap pnC).length = k * 2 := by rw [flat_len pnC 2 pnC_len, List.length_take, Nat.min_eq_left (by omega)]
  have hX2 : ((l.drop k).flatMap pnC).length = (n - k) * 2 := by rw [flat_len pnC 2 pnC_len, List.length_drop, hn]
  have e1 := flat_take pnC 2 pnC_len l k
  have e2 := flat_drop pnC 2 pnC_len l k
  have hgl : g < w.heap.size := (World.ownsRow.lt hO g rfl).2
  obtain ⟨cur, hgB, hg, hcm, hcs, ht⟩ : ∃ cur : Array Value, B ≤ g ∧ w.heap[g]? = some (.cells cur 33 (0, 0)) ∧ c ≤ maxLen ∧ cur.size = c * 2 ∧ cur.toList.take (l.length * 2) = l.flatMap pnC := by
    rcases hO.2 with ⟨h, _⟩ | ⟨g', cap, cur, e, h1, h2, _, h3, h4, h5⟩
    · cases h
    · injection e with e1 e2 e3; injection e1 with e1; injection e1 with e1
      subst e1 e3
      exact ⟨cur, h1, h2, h3, h4, h5⟩
  rw [hn] at hO hflat hk hl hc ht
  obtain ⟨RR, hRR⟩ : ∃ RR, cur.toList.drop (n * 2) = RR := ⟨_, rfl⟩
  have hRl : RR.length = (c - n) * 2 := by rw [← hRR, List.length_drop, Array.length_toList, hcs]; omega
  have hcur : cur.toList = ((l.take k).flatMap pnC) ++ (((l.drop k).flatMap pnC) ++ RR) := by
    rw [← List.append_assoc, ← List.flatMap_append, List.take_append_drop, ← ht, ← hRR, List.take_append_drop]
  have hg0 : w.drew.heap[g]? = some (.cells cur.toList.toArray 33 (0, 0)) := by show w.heap[g]? = _; simpa using hg
  have hcl : cur.toList.length = c * 2 := by simpa using hcs
  have hcells2 : ∀ j v, ((l.drop k).flatMap pnC)[j]? = some v → w.drew.cell? ((⟨g, k * 2, none⟩ : Addr).add j) = some v := fun j v hj => by
    rw [e2, List.getElem?_drop] at hj
    have h9 := hcells _ v hj
    rw [add_at] at h9 ⊢
    simp only [Nat.zero_add] at h9
    exact h9
  have hr3 := fun ty dc sc => run_copyK rowPin w.drew ty g ((k + 1) * 2) (n + 1 - (k + 1)) dc ⟨g, k * 2, none⟩ (n + 1 - k) sc (n - k) _ 33 ((l.drop k).flatMap pnC) hg0 (by show min _ _ = _; omega) hX2 hcells2 (by rw [hcl, hX2]; omega) (pnC_one _)
  obtain ⟨C1, hC1⟩ : ∃ C1, over cur.toList ((k + 1) * 2) ((l.drop k).flatMap pnC) = C1 := ⟨_, rfl⟩
  have hC1l : C1.length = c * 2 := by rw [← hC1, over_len _ _ _ (by rw [hcl, hX2]; omega), hcl]
  rw [hC1] at hr3
  obtain ⟨W2, hW2⟩ : ∃ W2, w.drew.setRow g C1.toArray = W2 := ⟨_, rfl⟩
  rw [hW2] at hr3
  have hg2 : W2.heap[g]? = some (.cells C1.toArray 33 (0, 0)) := by rw [← hW2]; exact setRow_heap _ _ _ _ _ _ hg0
  have hgr2 : w.grownBy W2 (some g) := by rw [← hW2]; exact ⟨rfl, rfl, rfl, by simp, fun k _ h => setRow_other w.drew _ k _ (fun e => h (by rw [e]))⟩
  have hv2 : W2.heap[vb]? = some (.cells #[.int .i64 x.at_, .int .i64 x.id] 33) := (hgr2.block vb (blk_lt hv) (by simp; exact hne)).trans hv
  have hr4 := fun ty dc => run_copyK rowPin W2 ty g (k * 2) (n + 1 - k) dc ⟨vb, 0, none⟩ 1 1 1 C1 33 (pnC x) hg2 (Nat.min_eq_left (by omega)) rfl (pin_cells hv2) (by rw [hC1l, pnC_len]; omega) (pnC_one1 x)
  obtain ⟨CS, hCS⟩ : ∃ CS, over C1 (k * 2) (pnC x) = CS := ⟨_, rfl⟩
  rw [hCS] at hr4
  have hfin : CS = (insL l k x).flatMap pnC ++ RR.drop 2 := by
    have h7 := over_in ((l.take k).flatMap pnC) (pnC x) ((l.drop k).flatMap pnC) RR (by rw [hRl, pnC_len]; omega) (by rw [hX2, pnC_len]; omega)
    rw [hX1, pnC_len, show k * 2 + 2 = (k + 1) * 2 by omega, ← hcur, hC1, hCS] at h7
    rw [h7]
    unfold insL
    simp [List.flatMap_append, List.append_assoc]
  obtain ⟨W3, hW3⟩ : ∃ W3, W2.setRow g CS.toArray = W3 := ⟨_, rfl⟩
  rw [hW3] at hr4
  have hg3 : W3.heap[g]? = some (.cells CS.toArray 33 (0, 0)) := by rw [← hW3]; exact setRow_heap _ _ _ _ _ _ hg2
  have hgr3 : W2.grownBy W3 (some g) := by rw [← hW3]; exact setRow_grown _ _ _
  have hlen3 := insL_len l k x (by omega)
  rw [hn] at hlen3
  have R : Hid (GotIns w B (some g) (insL l k x) (.returned (.slice (some ⟨g, 0, none⟩) (n + 1) c)) W3) := by
    refine ⟨_, c, by rw [hlen3], ⟨?_, .inr ⟨g, c, CS.toArray, rfl, hgB, hg3, by rw [hlen3]; exact hc, hcm, ?_, ?_⟩⟩, ?_, fun q hq => .inl (by simpa using hq)⟩
    · rw [flat_len pnC 2 pnC_len]
    · rw [List.size_toArray, hfin, List.length_append, flat_len pnC 2 pnC_len, hlen3, List.length_drop, hRl]; omega
    · show CS.take _ = _
      rw [hfin]
      exact List.take_left' (flat_len pnC 2 pnC_len _)
    · exact ⟨hgr3.os.trans hgr2.os, hgr3.tape.trans hgr2.tape, hgr3.output.trans hgr2.output, Nat.le_trans hgr2.size hgr3.size, fun j hj h => (hgr3.block j (Nat.lt_of_lt_of_le hj hgr2.size) h).trans (hgr2.block j hj h)⟩
  have hsv : w.shape? vb = some (33, 2) := by simp [World.shape?, hv]
  have hsg : w.shape? g = some (33, cur.size) := by simp [World.shape?, hg]
  have hov : ∀ off lb cb, (callFunc 86 #[.slice (some ⟨vb, 0, none⟩) 1 1, .slice (some ⟨g, off, none⟩) lb cb]).run Try.prog w = .ok (.value (.bool false)) w := fun off lb cb => by
    rw [run_callFunc_extern Try.func86 (by kernel_rfl) (by kernel_rfl) (by kernel_rfl) (e := Extern.SlicesOverlaps.overlaps #[29, 29] #[4]) (by kernel_rfl),
      Lib.run_overlaps_apart w 29 4 33 rowPin.ut 2 (fun w => size_run rowPin w) ⟨vb, 0, none⟩ ⟨g, off, none⟩ 1 1 lb cb hne 33 33 2 cur.size hsv hsg (by omega) (by simp [World.frozen?, hv]) (by simp [World.frozen?, hv])]
    rfl
  have hfa : fromA (some ⟨g, 0, none⟩) c (k + 1) 2 = some ⟨g, (k + 1) * 2, none⟩ := fromA_some (by omega)
  have hfb : fromA (some ⟨g, 0, none⟩) c k 2 = some ⟨g, k * 2, none⟩ := fromA_some (by omega)
  rw [← hfa, ← hfb] at hr3
  have HR3 := Lib.hid hr3
  have HR4 := Lib.hid hr4
  have HOV := Lib.hid hov
  have hw1 : IntKind.i64.wrap ((n : Int) + 1) = (n : Int) + 1 := by rw [IntKind.wrap_i64]; omega
  have hw2 : IntKind.i64.wrap ((k : Int) + 1) = (k : Int) + 1 := by rw [IntKind.wrap_i64]; omega
  have hkc : ¬ (c = k) := by omega
  have hkc1 : ¬ (c = k + 1) := by omega
  have hkn : ¬ (n = k) := by omega
  have hkI : ((k : Int) == (n : Int)) = false := by simp; omega
  have hcI : ¬ ((c : Int) < (n : Int) + 1) := by omega
  rw [hn]
  have hrow : (GotIns w B (some g) (insL l k x)) = (GotIns w B (some g) (insL l k x)) := rfl
  clear hrow hr3 hr4 hov hsv hsg hfa hfb hgr3 hgr2 hg3 hg2 hg0 hg hW2 hW3 hC1 hC1l hCS hfin hcells2 hlen3 hv2 hRR hRl hcur hcl hcs ht hcm hcells hflat hX1 hX2 e1 e2 hO hv hn
  go_enter Try.func57, Try.ntmps57
  go_wp2_with (simp only [HOV.out])
  refine wp_region_held_drew (S := fun _ => True) (by kernel_rfl) trivial (fun hHeld => ?_)
  refine held_take 0 69 (.slice (some ⟨g, 0, none⟩) (n + 1) c) rfl rfl (by kernel_rfl) (by kernel_rfl) (by kernel_rfl) (fun _ _ _ h => h) rfl hHeld (fun w _ => rfl) ?_
  refine held_take 1 70 (.int .i64 (k : Int)) rfl rfl (by kernel_rfl) (by kernel_rfl) (by kernel_rfl) (fun _ _ _ h => h) rfl hHeld (fun w _ => rfl) ?_
  refine held_take 2 71 (.int .i64 1) rfl rfl (by kernel_rfl) (by kernel_rfl) (by kernel_rfl) (fun _ _ _ h => h) rfl hHeld (fun w _ => rfl) ?_
  simp only [Act.put, List.setIfInBounds_toArray, List.set_cons_zero, List.set_cons_succ]
  refine held_take 3 72 (.int .i64 ((k + 1 : Nat) : Int)) rfl rfl (by kernel_rfl) (by kernel_rfl) (by kernel_rfl) (fun _ _ _ h => h) rfl hHeld (fun w _ => exec_addI (k : Int) 1 _ w (by omega) (by omega) (by omega)) ?_
  refine held_take 4 73 (.slice (fromA (some ⟨g, 0, none⟩) c (k + 1) 2) (n + 1 - (k + 1)) (c - (k + 1))) rfl rfl (by kernel_rfl) (by kernel_rfl) (by kernel_rfl) (fun _ _ _ h => h) rfl hHeld (fun w _ => exec_sliceFrom rowPin (some ⟨g, 0, none⟩) (n + 1) c (k + 1) w (by omega) (by omega) (fun h => by cases h)) ?_
  refine held_take 5 74 (.slice (some ⟨g, 0, none⟩) (n + 1) c) rfl rfl (by kernel_rfl) (by kernel_rfl) (by kernel_rfl) (fun _ _ _ h => h) rfl hHeld (fun w _ => rfl) ?_
  simp only [Act.put, List.setIfInBounds_toArray, List.set_cons_zero, List.set_cons_succ]
  refine held_take 6 75 (.int .i64 (k : Int)) rfl rfl (by kernel_rfl) (by kernel_rfl) (by kernel_rfl) (fun _ _ _ h => h) rfl hHeld (fun w _ => rfl) ?_
  refine held_take 7 76 (.slice (fromA (some ⟨g, 0, none⟩) c k 2) (n + 1 - k) (c - k)) rfl rfl (by kernel_rfl) (by kernel_rfl) (by kernel_rfl) (fun _ _ _ h => h) rfl hHeld (fun w _ => exec_sliceFrom rowPin (some ⟨g, 0, none⟩) (n + 1) c k w (by omega) (by omega) (fun h => by cases h)) ?_
  simp only [Act.put, List.setIfInBounds_toArray, List.set_cons_zero, List.set_cons_succ]
  refine held_op 8 77 (goInt ((n - k : Nat) : Int)) rfl rfl (by kernel_rfl) rfl (exec_copyK (fun ty => HR3.out ty _ _)) trivial ?_
  simp only [Act.put, List.setIfInBounds_toArray, List.set_cons_zero, List.set_cons_succ]
  refine wpAnyH_done (by kernel_rfl) ?_ _
  go_wp2
  rw [HR4.out]
  go_wp2
  go_ret
  exact R.out
set_option maxRecDepth 100000 in
set_option maxHeartbeats 800000 in
theorem insert_im (A : Option Addr) (c B vb k : Nat) (l : List Pn) (x : Pn) (w : World) (hk : k ≤ l.length) (hl : l.length ≤ 1048577) (hB : B ≤ w.heap.size) (hO : w.ownsRow B 33 2 (.slice A l.length c) l.length (l.flatMap pnC)) (hv : w.heap[vb]? = some (.cells #[.int .i64 x.at_, .int .i64 x.id] 33)) (hne : ∀ g, (Value.slice A l.length c).ownBlock = some g → vb ≠ g) :
    Calls Try.prog 57 #[.slice A l.length c, .int .i64 (k : Int), .slice (some ⟨vb, 0, none⟩) 1 1] w (GotIns w B (Value.slice A l.length c).ownBlock (insL l k x)) := by
  by_cases he : k = l.length
  · subst he; exact insert_end A c B vb l x w hl hB hO hv
  · have hcap := own_cap hO
    obtain ⟨g, rfl⟩ : ∃ g, A = some ⟨g, 0, none⟩ := by
      rcases hO.2 with ⟨h, h0⟩ | ⟨g, cap, cur, e, _⟩
      · omega
      · injection e with e; exact ⟨g, e⟩
    by_cases hc : l.length + 1 ≤ c
    · exact insert_room g c B vb k l x w (by omega) hc hl hB hO hv (hne g rfl)
    · obtain rfl : c = l.length := by omega
      exact insert_grow g B vb k l x w (by omega) hl hB hO hv
set_option maxRecDepth 100000 in
theorem exec_sliceFromE {t e sz bytes : Nat} {z : Value} (T : RowT t e sz bytes z) {ρ : Operand → Value} {o : Oper} {x y : Operand} (A : Option Addr) (n c k n' : Nat) (w : World) (hk : k ≤ n) (hc : n ≤ c) (hn : A = none → c = 0) (he : n - k = n') (ho : o.op = .slice t x (some y) none none := by rfl) (hx : ρ x = .slice A n c := by rfl) (hy : ρ y = .int .i64 (k : Int) := by rfl) :
    (execOp ρ o).run Try.prog w = .ok (.value (.slice (fromA A c k sz) n' (c - k))) w := by
  subst he; exact exec_sliceFrom T A n c k w hk hc hn ho hx hy
set_option maxRecDepth 100000 in
/-- clear of cells of a row. -/
theorem run_clearK {t e sz bytes : Nat} {z : Value} (T : RowT t e sz bytes z) (w : World) (ty : TypeId) (g o n c : Nat) (cur : List Value) (tc : TypeId) (hn : 0 < n) (hg : w.heap[g]? = some (.cells cur.toArray tc (0, 0))) (hfit : o + n * sz ≤ cur.length) (h1 : ∀ v ∈ (Builtin.zeroCells z.cells n).toList, v.oneCell' = true) :
    (Builtin.clear_ #[t] ty #[.slice (some ⟨g, o, none⟩) n c]).run Try.prog w = .ok (.tuple #[]) (w.setRow g (over cur o (Builtin.zeroCells z.cells n).toList).toArray) := by
  obtain ⟨i0, hi, hz0, hz1, hz2⟩ := info_parts T.inf
  have hl : (Builtin.zeroCells z.cells n).toList.length = n * sz := by rw [Array.length_toList, size_zeroCells, T.zc]
  have hst := run_storeCells_at Try.prog g o tc (Builtin.zeroCells z.cells n).toList 0 cur.toArray w hg (by rw [hl]; simpa using hfit) h1
  simp only [Nat.add_zero] at hst
  cases n with
  | zero => omega
  | succ n => simp [Builtin.clear_, run_underlying T.ut, zeroValue, hz0, typeInfo, hi, hst, over]
theorem over_keep (L : List Value) (o : Nat) (cs : List Value) (h : o ≤ L.length) : (over L o cs).take o = L.take o := by
  unfold over; rw [List.take_left' (by simp; omega)]
set_option maxRecDepth 100000 in
set_option maxHeartbeats 3200000 in
theorem delete_im (g c B k : Nat) (l : List Pn) (w : World) (hk : k < l.length) (hl : l.length ≤ 1048577) (hO : w.ownsRow B 33 2 (.slice (some ⟨g, 0, none⟩) l.length c) l.length (l.flatMap pnC)) :
    Calls Try.prog 60 #[.slice (some ⟨g, 0, none⟩) l.length c, .int .i64 (k : Int), .int .i64 ((k : Int) + 1)] w (GotIns w B (some g) (l.take k ++ l.drop (k + 1))) := by
  have hcells := hO.cells (g := g) rfl
  have hflat : (l.flatMap pnC).length = l.length * 2 := flat_len pnC 2 pnC_len l
  have hcap : l.length ≤ c := own_cap hO
  obtain ⟨m, hm⟩ : ∃ m, l.length = k + m + 1 := ⟨l.length - k - 1, by omega⟩
  have hX1 : ((l.take k).flatMap pnC).length = k * 2 := by rw [flat_len pnC 2 pnC_len, List.length_take, Nat.min_eq_left (by omega)]
  have hX2 : ((l.drop (k + 1)).flatMap pnC).length = m * 2 := by rw [flat_len pnC 2 pnC_len, List.length_drop]; omega
  have e1 := flat_take pnC 2 pnC_len l k
  have e2 := flat_drop pnC 2 pnC_len l (k + 1)
  obtain ⟨cur, hgB, hg, hcm, hcs, ht⟩ : ∃ cur : Array Value, B ≤ g ∧ w.heap[g]? = some (.cells cur 33 (0, 0)) ∧ c ≤ maxLen ∧ cur.size = c * 2 ∧ cur.toList.take (l.length * 2) = l.flatMap pnC := by
    rcases hO.2 with ⟨h, _⟩ | ⟨g', cap, cur, e, h1, h2, _, h3, h4, h5⟩
    · cases h
    · injection e with e1 e2 e3; injection e1 with e1; injection e1 with e1
      subst e1 e3
      exact ⟨cur, h1, h2, h3, h4, h5⟩
  obtain ⟨i0, hi, hz0, hz1, hz2⟩ := info_parts rowPin.inf
  obtain ⟨a, ha⟩ : ∃ a, fromA (some ⟨g, 0, none⟩) c (k + 1) 2 = some a := by unfold fromA; exact ⟨_, rfl⟩
  have hnews : ∀ j u, ((l.drop (k + 1)).flatMap pnC)[j]? = some u → w.drew.cell? (a.add j) = some u := fun j u hj => by
    by_cases hck : c = k + 1
    · have hm0 : m = 0 := by omega
      subst hm0
      have : ((l.drop (k + 1)).flatMap pnC) = [] := List.eq_nil_of_length_eq_zero (by rw [hX2])
      rw [this] at hj; simp at hj
    · rw [fromA_some hck] at ha
      injection ha with ha
      subst ha
      rw [e2, List.getElem?_drop] at hj
      have h9 := hcells _ u hj
      rw [add_at] at h9 ⊢
      simp only [Nat.zero_add] at h9
      exact h9
  have hr1 := fun ty cc => run_append_room (P := Try.prog) w.drew 29 ty 33 i0 rowPin.ut hi g k c cur hg a m cc ((l.drop (k + 1)).flatMap pnC) (by rw [hX2, hz1]) hnews (pnC_one _) (by omega) (by rw [hX2, hz1, hcs]; omega)
  rw [hz1] at hr1
  obtain ⟨C1, hC1⟩ : ∃ C1, cur.toList.take (k * 2) ++ ((l.drop (k + 1)).flatMap pnC) ++ cur.toList.drop (k * 2 + ((l.drop (k + 1)).flatMap pnC).length) = C1 := ⟨_, rfl⟩
  rw [hC1] at hr1
  have hC1l : C1.length = c * 2 := by
    rw [← hC1, List.length_append, List.length_append, List.length_take, List.length_drop, hX2, Array.length_toList, hcs]; omega
  obtain ⟨W1, hW1⟩ : ∃ W1, w.drew.setRow g C1.toArray = W1 := ⟨_, rfl⟩
  rw [hW1] at hr1
  have hg1 : W1.heap[g]? = some (.cells C1.toArray 33 (0, 0)) := by rw [← hW1]; exact setRow_heap _ _ cur _ _ _ hg
  have hgr1 : w.grownBy W1 (some g) := by rw [← hW1]; exact ⟨rfl, rfl, rfl, by simp, fun k _ h => setRow_other w.drew _ k _ (fun e => h (by rw [e]))⟩
  have hr2 := fun ty cc => run_clearK rowPin W1 ty g ((k + m) * 2) 1 cc C1 33 (by omega) hg1 (by rw [hC1l]; omega) (by decide +kernel)
  obtain ⟨CS, hCS⟩ : ∃ CS, over C1 ((k + m) * 2) (Builtin.zeroCells (Value.agg #[.int .i64 0, .int .i64 0]).cells 1).toList = CS := ⟨_, rfl⟩
  rw [hCS] at hr2
  obtain ⟨W2, hW2⟩ : ∃ W2, W1.setRow g CS.toArray = W2 := ⟨_, rfl⟩
  rw [hW2] at hr2
  have hg2 : W2.heap[g]? = some (.cells CS.toArray 33 (0, 0)) := by rw [← hW2]; exact setRow_heap _ _ _ _ _ _ hg1
  have hgr2 : W1.grownBy W2 (some g) := by rw [← hW2]; exact setRow_grown _ _ _
  have hlen : (l.take k ++ l.drop (k + 1)).length = k + m := by simp; omega
  have hzl : (Builtin.zeroCells (Value.agg #[.int .i64 0, .int .i64 0]).cells 1).toList.length = 2 := by rw [Array.length_toList, size_zeroCells]; rfl
  have hfin : CS.take ((k + m) * 2) = (l.take k ++ l.drop (k + 1)).flatMap pnC := by
    rw [← hCS, over_keep _ _ _ (by rw [hC1l]; omega), ← hC1, List.flatMap_append]
    have h5 : cur.toList.take (k * 2) = (l.take k).flatMap pnC := by rw [e1, ← ht, List.take_take, Nat.min_eq_left (by omega)]
    rw [h5]
    exact List.take_left' (by rw [List.length_append, hX1, hX2]; omega)
  have R : Hid (GotIns w B (some g) (l.take k ++ l.drop (k + 1)) (.returned (.slice (some ⟨g, 0, none⟩) (k + m) c)) W2) := by
    refine ⟨_, c, by rw [hlen], ⟨flat_len pnC 2 pnC_len _, .inr ⟨g, c, CS.toArray, rfl, hgB, hg2, by rw [hlen]; omega, hcm, ?_, by rw [hlen]; exact hfin⟩⟩, ?_, fun q hq => .inl (by simpa using hq)⟩
    · rw [List.size_toArray, ← hCS, over_len _ _ _ (by rw [hC1l, hzl]; omega), hC1l]
    · exact ⟨hgr2.os.trans hgr1.os, hgr2.tape.trans hgr1.tape, hgr2.output.trans hgr1.output, Nat.le_trans hgr1.size hgr2.size, fun j hj h => (hgr2.block j (Nat.lt_of_lt_of_le hj hgr1.size) h).trans (hgr1.block j hj h)⟩
  rw [← ha] at hr1
  have HR1 := Lib.hid hr1
  have HR2 := Lib.hid hr2
  have hkI : ((k : Int) == (k : Int) + 1) = false := by simp; omega
  have hw1 : IntKind.i64.wrap ((k : Int) + 1) = (k : Int) + 1 := by rw [IntKind.wrap_i64]; omega
  have hcn : k + m + 1 ≤ c := by omega
  rw [hm] at hl ⊢
  have hck : ¬ (c = k) := by omega
  have hckm : ¬ (c = k + m) := by omega
  have hkm0 : (k : Int) ≤ (k : Int) + m + 1 := by omega
  have hkm1 : (k : Int) + 1 ≤ (k : Int) + m + 1 := by omega
  have hkm2 : k + m + 1 - (k + m) = 1 := by omega
  clear hcells hflat hX1 hX2 e1 e2 hg hcs ht hi hz0 hz1 hz2 ha hnews hr1 hC1 hC1l hW1 hg1 hgr1 hr2 hCS hW2 hg2 hgr2 hlen hzl hfin hO hcm hcap hk hm
  go_enter Try.func60, Try.ntmps60
  go_wp2_with fail
  refine wp_region_held_drew (S := fun _ => True) (by kernel_rfl) trivial (fun hHeld => ?_)
  refine held_take 0 20 (.slice (some ⟨g, 0, none⟩) (k + m + 1) c) rfl rfl (by kernel_rfl) (by kernel_rfl) (by kernel_rfl) (fun _ _ _ h => h) rfl hHeld (fun w _ => rfl) ?_
  refine held_take 1 21 (.int .i64 (k : Int)) rfl rfl (by kernel_rfl) (by kernel_rfl) (by kernel_rfl) (fun _ _ _ h => h) rfl hHeld (fun w _ => rfl) ?_
  refine held_take 2 22 (.slice (some ⟨g, 0, none⟩) k c) rfl rfl (by kernel_rfl) (by kernel_rfl) (by kernel_rfl) (fun _ _ _ h => h) rfl hHeld (fun w _ => exec_sliceTo rowPin (some ⟨g, 0, none⟩) (k + m + 1) c k w (by omega) (by omega) (fun h => by cases h)) ?_
  simp only [Act.put, List.setIfInBounds_toArray, List.set_cons_zero, List.set_cons_succ]
  refine held_take 3 23 (.slice (some ⟨g, 0, none⟩) (k + m + 1) c) rfl rfl (by kernel_rfl) (by kernel_rfl) (by kernel_rfl) (fun _ _ _ h => h) rfl hHeld (fun w _ => rfl) ?_
  refine held_take 4 24 (.int .i64 ((k : Int) + 1)) rfl rfl (by kernel_rfl) (by kernel_rfl) (by kernel_rfl) (fun _ _ _ h => h) rfl hHeld (fun w _ => rfl) ?_
  refine held_take 5 25 (.slice (fromA (some ⟨g, 0, none⟩) c (k + 1) 2) m (c - (k + 1))) rfl rfl (by kernel_rfl) (by kernel_rfl) (by kernel_rfl) (fun _ _ _ h => h) rfl hHeld (fun w _ => exec_sliceFromE rowPin (some ⟨g, 0, none⟩) (k + m + 1) c (k + 1) m w (by omega) (by omega) (fun h => by cases h) (by omega)) ?_
  simp only [Act.put, List.setIfInBounds_toArray, List.set_cons_zero, List.set_cons_succ]
  refine held_op 6 26 (.slice (some ⟨g, 0, none⟩) (k + m) c) rfl rfl (by kernel_rfl) rfl (exec_appendK (fun ty => HR1.out ty _)) trivial ?_
  simp only [Act.put, List.setIfInBounds_toArray, List.set_cons_zero, List.set_cons_succ]
  refine held_op 7 0 (.slice (some ⟨g, 0, none⟩) (k + m) c) rfl rfl (by kernel_rfl) rfl rfl trivial ?_
  simp only [Act.put, List.setIfInBounds_toArray, List.set_cons_zero, List.set_cons_succ]
  refine wpAnyH_done (by kernel_rfl) ?_ _
  go_wp2
  rw [HR2.out]
  go_wp2
  go_ret
  exact R.out
end Go.Proofs.Ytflomkebgiemaaa
