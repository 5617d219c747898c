/- PinsOf, PinsDue, SameWheel of the model. -/
import Derived.Test.YtflomkebgiemaaaRows
import Derived.Test.YtflomkebgiemaaaHs16
import Derived.Test.YtflomkebgiemaaaWhL
namespace Go.Proofs.Ytflomkebgiemaaa
open Go.RowKit
set_option linter.unusedSimpArgs false
set_option linter.unusedVariables false
/-- Pins in their order. -/
def sortPn (l : List Pn) : List Pn := l.foldl pnPut []
theorem sort_take (l : List Pn) (k : Nat) (h : k < l.length) : sortPn (l.take (k + 1)) = pnPut (sortPn (l.take k)) (l.getD k pn0) := by
  unfold sortPn; rw [take_succ_getD l k pn0 h, List.foldl_append]; rfl
theorem foldPut_len (l : List Pn) : ∀ a : List Pn, (l.foldl pnPut a).length = a.length + l.length := by
  induction l with
  | nil => intro a; simp
  | cons x l ih => intro a; rw [List.foldl_cons, ih, pnPut_len, List.length_cons]; omega
theorem sort_len (l : List Pn) : (sortPn l).length = l.length := by unfold sortPn; rw [foldPut_len]; simp
/-- What PinsOf returns. -/
noncomputable def pinsW (ls : List (List Pn)) : List Pn := if wheelB ls = true then sortPn ls.flatten else []
theorem pinsW_len (ls : List (List Pn)) : (pinsW ls).length ≤ 10 := by
  unfold pinsW
  split
  · rename_i h; rw [sort_len]; exact (wheelB_iff h).2.1
  · simp
set_option maxRecDepth 100000 in
set_option maxHeartbeats 1600000 in
theorem pinsOf_spec (A : Option Addr) (sp : List Sp) (c : Nat) (w : World) (hn : sp.length ≤ 2097152) (hl : (allPn sp).length ≤ 2097152) (hA : Whl w A sp) :
    Calls Try.prog 17 #[.agg #[.slice A sp.length c]] w (NewR 33 2 w (pinsW (sp.map (fun s => s.l))).length ((pinsW (sp.map (fun s => s.l))).flatMap pnC)) := by
  obtain ⟨U, hU⟩ : ∃ U, (w.alloc (.cells #[.slice A sp.length c] 26)).alloc (.cells #[] 33) = U := ⟨_, rfl⟩
  have b0 : Hid (Below w.heap.size w U) := by
    show Below _ _ _
    rw [← hU]; exact ((Below.refl _ _).alloc (Nat.le_refl _) _).alloc (by simp) _
  have g0 : U.heap[w.heap.size]? = some (.cells #[.slice A sp.length c] 26) := by rw [← hU]; exact blk_alloc (heap_new _ _) _
  have o0 : U.ownsRow w.heap.size 33 2 (.slice (some ⟨w.heap.size + 1, 0, none⟩) 0 0) 0 [] := by
    have := own_empty (w.alloc (.cells #[.slice A sp.length c] 26)) w.heap.size 33 2 (by simp)
    rw [hU] at this
    simpa using this
  have CO := Lib.hid (wheelOk_spec A sp c U hn hl (hA.below b0.out))
  have CL := Lib.hid (fun u (b : Below w.heap.size w u) => l9All_spec A sp c u hn hl (hA.below b))
  obtain ⟨V, eV⟩ : ∃ V, pinsW (sp.map (fun s => s.l)) = V := ⟨_, rfl⟩
  have HF := ls_flat sp
  obtain ⟨ls, els⟩ : ∃ ls, sp.map (fun s => s.l) = ls := ⟨_, rfl⟩
  rw [els] at eV CO HF
  rw [els, eV]
  obtain ⟨B1, eB⟩ : ∃ B1, wheelB ls = B1 := ⟨_, rfl⟩
  rw [eB] at CO
  have HG := Lib.hid g0
  have HO := Lib.hid o0
  have HU := Lib.hid hU
  clear g0 o0 hU
  go_enter Try.func17, Try.ntmps17
  go_wp2_with fail
  rw [HU.out]
  refine CO.out.mono ?_
  rintro e u1 ⟨rfl, x1⟩
  have B1' : Hid (Below w.heap.size w u1) := b0.out.trans (x1.mono b0.out.size)
  have g1 := blk_call HG.out x1
  have c1 := cell_of_row _ _ 0 _ _ _ g1
  simp at c1
  have O1 := Lib.hid (own_below HO.out x1)
  clear x1 CO HU HG HO g1
  cases B1 with
  | false =>
    have hv : V = [] := by rw [← eV]; unfold pinsW; rw [if_neg (by rw [eB]; simp)]
    subst hv
    have R : Hid (NewR 33 2 w ([] : List Pn).length (([] : List Pn).flatMap pnC) (.returned (.slice (some ⟨w.heap.size + 1, 0, none⟩) 0 0)) u1) := NewR.of_own O1.out B1'.out
    clear eV
    go_wp2
    go_ret
    exact R.out
  | true =>
    have hv : V = sortPn (allPn sp) := by rw [← eV, ← HF]; unfold pinsW; rw [if_pos eB]
    have hten : (allPn sp).length ≤ 10 := by rw [← HF]; exact (wheelB_iff eB).2.1
    have CL := Lib.hid (CL.out u1 B1'.out)
    have HV := Lib.hid hv
    clear eV HF eB hv
    generalize allPn sp = q at *
    go_wp2_with fail
    refine CL.out.mono ?_
    rintro e u2 ⟨QA, qc, rfl, o2, x2⟩
    have HQ := Lib.hid o2
    have B2 : Hid (Below w.heap.size w u2) := B1'.out.trans (x2.mono B1'.out.size)
    have O2 := Lib.hid (own_below O1.out x2)
    have hz2 := B1'.out.size
    have hq0 := own_low o2
    clear o2 x2 CL O1 B1' c1
    go_wp2
    go_loopw [3, 5] (fun v i wr => ∃ k : Nat, k ≤ q.length ∧ i = .int .i64 k ∧ Hid (wr.ownsRow w.heap.size 33 2 v (sortPn (q.take k)).length ((sortPn (q.take k)).flatMap pnC)) ∧ Hid (Below u2.heap.size u2 wr)) (fun _ i _ => q.length - (intOf i).toNat)
    case atStart => exact ⟨0, by omega, rfl, O2, Below.refl _ _⟩
    case round =>
      obtain ⟨k, hk, rfl, ho, hb⟩ := hrel
      by_cases hlt : k < q.length
      · obtain ⟨b, off, rfl, hbB, hc⟩ := (rws_below (own_rws HQ.out) hb.out).pn hlt
        obtain ⟨D, d, rfl, hcap, hnil, _⟩ := own_form ho.out
        have HS := Lib.hid (sort_take q k hlt)
        have hsl : (sortPn (q.take k)).length ≤ 10 := by rw [sort_len, List.length_take]; omega
        generalize q.getD k pn0 = x at *
        have C := Lib.hid (l9Put_spec D (sortPn (q.take k)) d x wr (by omega) hcap hnil (own_rws ho.out))
        unfold pnA at C
        rw [← HS.out] at C
        obtain ⟨e0, e1⟩ := hc
        clear HS
        go_wp2_with fail
        refine C.out.mono ?_
        rintro e u3 ⟨E, e', rfl, o3, x3⟩
        have O3 := Lib.hid (own_weak o3 (Nat.le_trans B2.out.size hb.out.size))
        have B3 : Hid (Below u2.heap.size u2 u3) := hb.out.trans (x3.mono hb.out.size)
        clear o3 x3 C e0 e1 ho hb
        go_wp2
        go_roundw
        case rel => exact ⟨k + 1, by omega, by go_num, O3, B3⟩
        case measure => simp [intOf]; omega
      · obtain rfl : k = q.length := by omega
        rw [List.take_length] at ho
        have R := Lib.hid (NewR.of_own ho.out (B2.out.trans (hb.out.mono B2.out.size)))
        rw [← HV.out] at R
        clear ho hb
        go_wp2
        go_ret
        exact R.out
set_option maxRecDepth 100000 in
/-- append(v, q...) in a walk, and where the row lies then. -/
theorem wpList_appRb {t e sz bytes : Nat} {z : Value} (T : RowT t e sz bytes z) (w : World) {ops : Array Oper} {rest : List Oper} {o : Oper} {a : Act} {Q : Exit → Act → World → Prop} (hgd : o.guard = none) (s x : Operand)
    (ho : o.op = .call { callee := .builtin .append, args := #[s, x], argTypes := #[t, t] })
    (base : Nat) (v : Value) (n : Nat) (xs : List Value) (hs : a.eval s = v) (hown : w.ownsRow base e sz v n xs)
    (B : Nat) (ad : Addr) (m c : Nat) (news : List Value) (hx : a.eval x = .slice (some ad) m c) (hl : news.length = m * sz) (hR : Rws w B (some ad) news) (h1 : ∀ u ∈ news, u.oneCell' = true)
    (hlen : n + m ≤ 1073741824) (hbase : base ≤ w.heap.size)
    (h : ∀ v' w', w'.ownsRow base e sz v' (n + m) (xs ++ news) → w.grownBy w' v.ownBlock → (v'.ownBlock = v.ownBlock ∨ v'.ownBlock = some w.heap.size) → wpList Try.prog ops Q rest (a.put o.dst v') w') :
    wpList Try.prog ops Q (o :: rest) a w := by
  obtain ⟨i0, hi, hz0, hz1, hz2⟩ := info_parts T.inf
  have hb : (n + m) * bytes ≤ 140737488355328 := by
    have h2 := T.by_
    have : (n + m) * bytes ≤ 1073741824 * 1024 := Nat.mul_le_mul hlen h2
    omega
  obtain ⟨v', w', hr, h2, h3, _, h5⟩ := run_append_own_at (P := Try.prog) w base t o.type e i0 z sz bytes T.ut hi hz0 hz1 hz2 T.zc T.pos v n xs hown ad m c news hl
      (fun j u hj => by
        rcases hR with rfl | ⟨b, off, e1, _, hc⟩
        · simp at hj
        · injection e1 with e1
          subst e1
          have hjl : j < news.length := by
            rcases Nat.lt_or_ge j news.length with h | h
            · exact h
            · rw [List.getElem?_eq_none h] at hj; cases hj
          rw [add_at, hc j hjl]; exact hj) h1 (by unfold maxLen; omega) hb hbase
  have hrun : (execOp a.eval o).run Try.prog w = .ok (.value v') w' := by simp [execOp, ho, resolve, invoke, builtin, hs, hx, hr, Result.andThen]
  exact wpList_exec v' hgd hrun (h v' w' h2 h3 h5)
/-- What PinsDue returns. -/
noncomputable def dueV (ls : List (List Pn)) (now : Int) : List Pn := (pinsW ls).filter (fun x => decide (x.at_ ≤ now))
theorem filter_take (p : Pn → Bool) (l : List Pn) (k : Nat) (h : k < l.length) : (l.take (k + 1)).filter p = (l.take k).filter p ++ (if p (l.getD k pn0) = true then [l.getD k pn0] else []) := by
  rw [take_succ_getD l k pn0 h, List.filter_append]
  congr 1
  simp [List.filter_cons]
set_option maxRecDepth 100000 in
set_option maxHeartbeats 1600000 in
theorem pinsDue_spec (A : Option Addr) (sp : List Sp) (c : Nat) (now : Int) (w : World) (hn : sp.length ≤ 2097152) (hl : (allPn sp).length ≤ 2097152) (hA : Whl w A sp) :
    Calls Try.prog 42 #[.agg #[.slice A sp.length c], .int .i64 now] w (NewR 33 2 w (dueV (sp.map (fun s => s.l)) now).length ((dueV (sp.map (fun s => s.l)) now).flatMap pnC)) := by
  obtain ⟨U, hU⟩ : ∃ U, (w.alloc (.cells #[.slice A sp.length c] 26)).alloc (.cells #[] 33) = U := ⟨_, rfl⟩
  have b0 : Hid (Below w.heap.size w U) := by
    show Below _ _ _
    rw [← hU]; exact ((Below.refl _ _).alloc (Nat.le_refl _) _).alloc (by simp) _
  have o0 : U.ownsRow w.heap.size 33 2 (.slice (some ⟨w.heap.size + 1, 0, none⟩) 0 0) 0 [] := by
    have := own_empty (w.alloc (.cells #[.slice A sp.length c] 26)) w.heap.size 33 2 (by simp)
    rw [hU] at this
    simpa using this
  have CO := Lib.hid (pinsOf_spec A sp c U hn hl (hA.below b0.out))
  have hq := pinsW_len (sp.map (fun s => s.l))
  have HV : Hid (dueV (sp.map (fun s => s.l)) now = (pinsW (sp.map (fun s => s.l))).filter (fun x => decide (x.at_ ≤ now))) := rfl
  rw [HV.out]
  clear HV
  generalize pinsW (sp.map (fun s => s.l)) = q at *
  have HO := Lib.hid o0
  have HU := Lib.hid hU
  have HUs : Hid (U.heap.size = w.heap.size + 2) := by show _ = _; rw [← hU]; simp
  clear o0 hU
  go_enter Try.func42, Try.ntmps42
  go_wp2_with fail
  rw [HU.out]
  refine CO.out.mono ?_
  rintro e u2 ⟨QA, qc, rfl, o2, x2⟩
  rw [HUs.out] at o2
  have HQ := Lib.hid o2
  have B2 : Hid (Below w.heap.size w u2) := b0.out.trans (x2.mono b0.out.size)
  have O2 := Lib.hid (own_below HO.out x2)
  have HQL : Hid (∀ g, QA.map (·.block) = some g → w.heap.size + 2 ≤ g ∧ g < u2.heap.size) := fun g hg => World.ownsRow.lt o2 g (by rw [ownBlock_eq]; exact hg)
  clear o2 x2 CO HU HO HUs
  go_wp2
  go_loopw [5, 7] (fun v i wr => ∃ k : Nat, k ≤ q.length ∧ i = .int .i64 k ∧ Hid (wr.ownsRow w.heap.size 33 2 v ((q.take k).filter (fun x => decide (x.at_ ≤ now))).length (((q.take k).filter (fun x => decide (x.at_ ≤ now))).flatMap pnC)) ∧ Hid (Below w.heap.size w wr) ∧ Hid (wr.ownsRow (w.heap.size + 2) 33 2 (.slice QA q.length qc) q.length (q.flatMap pnC)) ∧ Hid (∀ g, v.ownBlock = some g → g = w.heap.size + 1 ∨ u2.heap.size ≤ g) ∧ u2.heap.size ≤ wr.heap.size) (fun _ i _ => q.length - (intOf i).toNat)
  case atStart => exact ⟨0, by omega, rfl, O2, B2, HQ, (fun g hg => .inl (by injection hg with hg; exact hg.symm)), Nat.le_refl _⟩
  case round =>
    obtain ⟨k, hk, rfl, ho, hb, hr, hv, hz⟩ := hrel
    obtain ⟨D, d, rfl, _, _, _⟩ := own_form ho.out
    by_cases hlt : k < q.length
    · obtain ⟨b, off, rfl, hbB, hc⟩ := (own_rws hr.out).pn hlt
      have HS := Lib.hid (filter_take (fun x => decide (x.at_ ≤ now)) q k hlt)
      have hsl : ((q.take k).filter (fun x => decide (x.at_ ≤ now))).length ≤ 10 := by
        have := List.length_filter_le (fun x => decide (x.at_ ≤ now)) (q.take k)
        rw [List.length_take] at this
        omega
      generalize q.getD k pn0 = x at *
      generalize (q.take k).filter (fun x => decide (x.at_ ≤ now)) = F at *
      obtain ⟨e0, e1⟩ := hc
      by_cases hx : x.at_ ≤ now
      · have HS : Hid ((q.take (k + 1)).filter (fun x => decide (x.at_ ≤ now)) = F ++ [x]) := by
          show _ = _
          rw [HS.out, if_pos (decide_eq_true hx)]
        have O1 := Lib.hid (ho.out.alloc (.cells #[.int .i64 x.at_, .int .i64 x.id] 33))
        have RN : Hid (Rws (wr.alloc (.cells #[.int .i64 x.at_, .int .i64 x.id] 33)) (wr.heap.size + 1) (some ⟨wr.heap.size, 0, none⟩) (pnC x)) := Rws.new wr (pnC x) 33
        have hbs := hb.out.size
        have B1 : Hid (Below w.heap.size w (wr.alloc (.cells #[.int .i64 x.at_, .int .i64 x.id] 33))) := hb.out.alloc hbs _
        go_wp2_with (at_builtin; refine wpList_appRb rowPin _ rfl (.tmp 24) (.tmp 29) rfl w.heap.size _ F.length (F.flatMap pnC) rfl O1.out _ ⟨wr.heap.size, 0, none⟩ 1 1 (pnC x) rfl rfl RN.out (by intro u hu; simp [pnC] at hu; rcases hu with rfl | rfl <;> rfl) (by omega) (by simp; omega) ?_)
        intro v2 w2 o2 g2 hblk
        have B2 := Lib.hid (B1.out.grown g2 (by simp; omega) (own_low O1.out))
        have hsz2 := g2.size
        simp only [World.size_alloc] at hsz2
        have R2 : Hid (w2.ownsRow (w.heap.size + 2) 33 2 (.slice (some ⟨b, off, none⟩) q.length qc) q.length (q.flatMap pnC)) := by
          show World.ownsRow _ _ _ _ _ _ _
          refine own_kept2 (hr.out.alloc _) g2 (fun g h1 h2 => ?_)
          have l1 := HQL.out g (by rw [ownBlock_eq] at h1; exact h1)
          rcases hv.out g h2 with l2 | l2 <;> omega
        have V2 : Hid (∀ g, v2.ownBlock = some g → g = w.heap.size + 1 ∨ u2.heap.size ≤ g) := fun g hg => by
          rcases hblk with h | h
          · exact hv.out g (by rw [← h]; exact hg)
          · rw [h] at hg; injection hg with hg; right; try simp only [World.size_alloc] at hg
            omega
        have O2 : Hid (w2.ownsRow w.heap.size 33 2 v2 ((q.take (k + 1)).filter (fun x => decide (x.at_ ≤ now))).length (((q.take (k + 1)).filter (fun x => decide (x.at_ ≤ now))).flatMap pnC)) := by
          show World.ownsRow _ _ _ _ _ _ _
          rw [HS.out, List.length_append, List.flatMap_append]
          have e : [x].flatMap pnC = pnC x := by simp
          rw [e]; exact o2
        clear o2 g2 O1 RN B1 ho hb hr e0 e1 HS hblk hv
        go_wp2
        go_roundw
        case rel => exact ⟨k + 1, by omega, by go_num, O2, B2, R2, V2, by omega⟩
        case measure => simp [intOf]; omega
      · have HS : Hid ((q.take (k + 1)).filter (fun x => decide (x.at_ ≤ now)) = F) := by
          show _ = _
          rw [HS.out, if_neg (by simp [hx]), List.append_nil]
        have O2 : Hid (wr.ownsRow w.heap.size 33 2 (.slice D F.length d) ((q.take (k + 1)).filter (fun x => decide (x.at_ ≤ now))).length (((q.take (k + 1)).filter (fun x => decide (x.at_ ≤ now))).flatMap pnC)) := by
          show World.ownsRow _ _ _ _ _ _ _
          rw [HS.out]; exact ho.out
        go_wp2
        go_roundw
        case rel => exact ⟨k + 1, by omega, by go_num, O2, hb, hr, hv, hz⟩
        case measure => simp [intOf]; omega
    · obtain rfl : k = q.length := by omega
      rw [List.take_length] at ho ⊢
      have R := Lib.hid (NewR.of_own ho.out hb.out)
      clear ho hb
      go_wp2
      go_ret
      exact R.out
set_option maxRecDepth 100000 in
theorem exec_loadWh {ρ : Operand → Value} {o : Oper} {x : Operand} (b : Nat) (B : Option Addr) (n c : Nat) (w : World) (h : w.cell? ⟨b, 0, none⟩ = some (.slice B n c)) (ho : o.op = .load 26 x := by rfl) (hx : ρ x = .pointer (some ⟨b, 0, none⟩) := by rfl) :
    (execOp ρ o).run Try.prog w = .ok (.value (.agg #[.slice B n c])) w := by
  unfold execOp
  rw [ho]
  simp [go_sem, hx, h]
instance : DecidableEq Pn := fun a b => by
  cases a; cases b
  rename_i a1 a2 b1 b2
  by_cases h : a1 = b1 ∧ a2 = b2
  · exact isTrue (by rw [h.1, h.2])
  · exact isFalse (fun e => h (by injection e with e1 e2; exact ⟨e1, e2⟩))
set_option maxRecDepth 100000 in
theorem exec_neqPn {ρ : Operand → Value} {o : Oper} {x y : Operand} (X Y : Pn) (w : World) (ho : o.op = .binOp .neq 33 x y 33 := by rfl) (hx : ρ x = pnA X := by rfl) (hy : ρ y = pnA Y := by rfl) :
    (execOp ρ o).run Try.prog w = .ok (.value (.bool (!decide (X = Y)))) w := by
  unfold execOp
  rw [ho]
  obtain ⟨x1, x2⟩ := X
  obtain ⟨y1, y2⟩ := Y
  simp [go_sem, hx, hy, pnA]
  by_cases h1 : x1 = y1 <;> by_cases h2 : x2 = y2 <;> simp [h1, h2]
set_option maxRecDepth 100000 in
theorem exec_eqlPn {ρ : Operand → Value} {o : Oper} {x y : Operand} (X Y : Pn) (w : World) (ho : o.op = .binOp .eql 33 x y 33 := by rfl) (hx : ρ x = pnA X := by rfl) (hy : ρ y = pnA Y := by rfl) :
    (execOp ρ o).run Try.prog w = .ok (.value (.bool (decide (X = Y)))) w := by
  unfold execOp
  rw [ho]
  obtain ⟨x1, x2⟩ := X
  obtain ⟨y1, y2⟩ := Y
  simp [go_sem, hx, hy, pnA]
  by_cases h1 : x1 = y1 <;> by_cases h2 : x2 = y2 <;> simp [h1, h2]
theorem list_ne_at {l m : List Pn} {k : Nat} (hk : k < l.length) (h : ¬ l.getD k pn0 = m.getD k pn0) : ¬ l = m := fun e => h (by rw [e])
theorem list_eq_all {l m : List Pn} (hl : l.length = m.length) (h : ∀ k, k < l.length → l.getD k pn0 = m.getD k pn0) : l = m := by
  apply List.ext_getElem hl
  intro i h1 h2
  have := h i h1
  simpa [List.getD_eq_getElem?_getD, h1, h2] using this
set_option maxRecDepth 100000 in
set_option maxHeartbeats 1600000 in
theorem l9SamePins_spec (A A' : Option Addr) (l m : List Pn) (c c' : Nat) (w : World) (hl : l.length ≤ 2097152) (hm : m.length ≤ 2097152) (hA : Rws w w.heap.size A (l.flatMap pnC)) (hA' : Rws w w.heap.size A' (m.flatMap pnC)) :
    Calls Try.prog 62 #[.slice A l.length c, .slice A' m.length c'] w fun e w' => e = .returned (.bool (decide (l = m))) ∧ Below w.heap.size w w' := by
  by_cases hle : l.length = m.length
  rotate_left
  · have HV : Hid (decide (l = m) = false) := decide_eq_false (fun e => hle (by rw [e]))
    have hne : ((l.length : Int) != (m.length : Int)) = true := by simp; omega
    go_enter Try.func62, Try.ntmps62
    go_wp2
    go_ret
    exact ⟨by rw [HV.out] <;> rfl, Below.refl _ _⟩
  rw [← hle]
  have HLE := Lib.hid hle
  rw [← hle] at hm
  clear hle
  have hne : ((l.length : Int) != (l.length : Int)) = false := by simp
  go_enter Try.func62, Try.ntmps62
  go_wp2
  go_loopw [5] (fun i wr => ∃ k : Nat, k ≤ l.length ∧ i = .int .i64 k ∧ Hid (∀ j, j < k → l.getD j pn0 = m.getD j pn0) ∧ Below w.heap.size w wr) (fun i _ => l.length - (intOf i).toNat)
  case atStart => exact ⟨0, by omega, rfl, (fun j hj => by omega), Below.refl _ _⟩
  case round =>
    obtain ⟨k, hk, rfl, hall, hb⟩ := hrel
    by_cases hlt : k < l.length
    · obtain ⟨b, off, rfl, hbB, c0⟩ := (hA.below hb).pn hlt
      obtain ⟨b', off', rfl, hbB', d0⟩ := (hA'.below hb).pn (i := k) (by have := HLE.out; omega)
      have HNE := Lib.hid (fun h => list_ne_at (m := m) hlt h)
      have HAL : Hid (l.getD k pn0 = m.getD k pn0 → ∀ j, j < k + 1 → l.getD j pn0 = m.getD j pn0) := fun h j hj => by
        by_cases e : j = k
        · subst e; exact h
        · exact hall.out j (by omega)
      have hbs := hb.size
      generalize l.getD k pn0 = x at *
      generalize m.getD k pn0 = y at *
      have K1 := Lib.hid (fun w' (h : Below wr.heap.size wr w') => Pn.here.below c0 h (by omega))
      have K2 := Lib.hid (fun w' (h : Below wr.heap.size wr w') => Pn.here.below d0 h (by omega))
      clear c0 d0
      go_wp2
      refine wp_region_held_drew (S := fun w' => Hid (Below wr.heap.size wr w')) (by kernel_rfl) (below_drawn (Below.refl _ _) 1) (fun hHeld => ?_)
      refine held_take 0 17 (.slice (some ⟨b, off, none⟩) l.length c) rfl rfl (by kernel_rfl) (by kernel_rfl) (by kernel_rfl) (fun _ _ _ h => h) rfl hHeld (fun w _ => rfl) ?_
      refine held_take 1 18 (.int .i64 (k : Int)) rfl rfl (by kernel_rfl) (by kernel_rfl) (by kernel_rfl) (fun _ _ _ h => h) rfl hHeld (fun w _ => rfl) ?_
      refine held_take 2 19 (.pointer (some ⟨b, off + k * 2, none⟩)) rfl rfl (by kernel_rfl) (by kernel_rfl) (by kernel_rfl) (fun _ _ _ h => h) rfl hHeld (fun w _ => exec_idx_pn b off l.length c k w hlt) ?_
      simp only [Act.put, List.setIfInBounds_toArray, List.set_cons_zero, List.set_cons_succ]
      refine held_take 3 20 (pnA x) rfl rfl (by kernel_rfl) (by kernel_rfl) (by kernel_rfl) (fun _ _ _ h => h) rfl hHeld (fun w h => exec_load_pn b (off + k * 2) x w (K1.out w h.out)) ?_
      refine held_take 4 21 (.slice (some ⟨b', off', none⟩) l.length c') rfl rfl (by kernel_rfl) (by kernel_rfl) (by kernel_rfl) (fun _ _ _ h => h) rfl hHeld (fun w _ => rfl) ?_
      refine held_take 5 22 (.int .i64 (k : Int)) rfl rfl (by kernel_rfl) (by kernel_rfl) (by kernel_rfl) (fun _ _ _ h => h) rfl hHeld (fun w _ => rfl) ?_
      simp only [Act.put, List.setIfInBounds_toArray, List.set_cons_zero, List.set_cons_succ]
      refine held_take 6 23 (.pointer (some ⟨b', off' + k * 2, none⟩)) rfl rfl (by kernel_rfl) (by kernel_rfl) (by kernel_rfl) (fun _ _ _ h => h) rfl hHeld (fun w _ => exec_idx_pn b' off' l.length c' k w hlt) ?_
      refine held_take 7 24 (pnA y) rfl rfl (by kernel_rfl) (by kernel_rfl) (by kernel_rfl) (fun _ _ _ h => h) rfl hHeld (fun w h => exec_load_pn b' (off' + k * 2) y w (K2.out w h.out)) ?_
      simp only [Act.put, List.setIfInBounds_toArray, List.set_cons_zero, List.set_cons_succ]
      refine held_take 8 25 (.bool (!decide (x = y))) rfl rfl (by kernel_rfl) (by kernel_rfl) (by kernel_rfl) (fun _ _ _ h => h) rfl hHeld (fun w _ => exec_neqPn x y w) ?_
      simp only [Act.put, List.setIfInBounds_toArray, List.set_cons_zero, List.set_cons_succ]
      refine wpAnyH_done (by kernel_rfl) ?_ _
      have b2 : Hid (Below w.heap.size w wr.drew) := hb.trans (hHeld.out.mono hbs)
      clear hHeld hb K1 K2
      by_cases hxy : x = y
      · have hd : (!decide (x = y)) = false := by simp [hxy]
        have HA := Lib.hid (HAL.out hxy)
        rw [hd]
        clear hd HAL HNE hxy hall
        go_wp2
        go_roundw
        case rel => exact ⟨k + 1, by omega, by go_num, HA, b2.out⟩
        case measure => simp [intOf]; omega
      · have hd : (!decide (x = y)) = true := by simp [hxy]
        have HV : Hid (decide (l = m) = false) := decide_eq_false (HNE.out hxy)
        rw [hd]
        clear hd HAL HNE hxy hall
        go_wp2
        go_ret
        exact ⟨by rw [HV.out] <;> rfl, b2.out⟩
    · obtain rfl : k = l.length := by omega
      have HV : Hid (decide (l = m) = true) := decide_eq_true (list_eq_all HLE.out hall.out)
      clear hall
      go_wp2
      go_ret
      exact ⟨by rw [HV.out] <;> rfl, hb⟩
/-- What SameWheel tells. -/
noncomputable def sameW (a b : List (List Pn)) : Bool := wheelB a && wheelB b && decide (pinsW a = pinsW b)
set_option maxRecDepth 100000 in
set_option maxHeartbeats 3200000 in
theorem sameWheel_spec (A A' : Option Addr) (sp sq : List Sp) (c c' : Nat) (w : World) (hn : sp.length ≤ 2097152) (hl : (allPn sp).length ≤ 2097152) (hn' : sq.length ≤ 2097152) (hl' : (allPn sq).length ≤ 2097152) (hA : Whl w A sp) (hA' : Whl w A' sq) :
    Calls Try.prog 24 #[.agg #[.slice A sp.length c], .agg #[.slice A' sq.length c']] w fun e w' => e = .returned (.bool (sameW (sp.map (fun s => s.l)) (sq.map (fun s => s.l)))) ∧ Below w.heap.size w w' := by
  obtain ⟨U, hU⟩ : ∃ U, (w.alloc (.cells #[.slice A sp.length c] 26)).alloc (.cells #[.slice A' sq.length c'] 26) = U := ⟨_, rfl⟩
  have b0 : Hid (Below w.heap.size w U) := by
    show Below _ _ _
    rw [← hU]; exact ((Below.refl _ _).alloc (Nat.le_refl _) _).alloc (by simp) _
  have g1 : U.heap[w.heap.size]? = some (.cells #[.slice A sp.length c] 26) := by rw [← hU]; exact blk_alloc (heap_new _ _) _
  have g2 : U.heap[w.heap.size + 1]? = some (.cells #[.slice A' sq.length c'] 26) := by
    rw [← hU]
    have := heap_new (w.alloc (.cells #[.slice A sp.length c] 26)) (.cells #[.slice A' sq.length c'] 26)
    simpa using this
  have KA := Lib.hid (fun w' (h : Below U.heap.size U w') => cell_of_row _ _ 0 _ _ _ (blk_call g1 h))
  have KB := Lib.hid (fun w' (h : Below U.heap.size U w') => cell_of_row _ _ 0 _ _ _ (blk_call g2 h))
  simp at KA KB
  have CA := Lib.hid (fun w' (h : Below U.heap.size U w') => wheelOk_spec A sp c w' hn hl ((hA.below b0.out).below h))
  have CB := Lib.hid (fun w' (h : Below U.heap.size U w') => wheelOk_spec A' sq c' w' hn' hl' ((hA'.below b0.out).below h))
  have PA := Lib.hid (fun w' (h : Below U.heap.size U w') => pinsOf_spec A sp c w' hn hl ((hA.below b0.out).below h))
  have PB := Lib.hid (fun w' (h : Below U.heap.size U w') => pinsOf_spec A' sq c' w' hn' hl' ((hA'.below b0.out).below h))
  obtain ⟨V, eV⟩ : ∃ V, sameW (sp.map (fun s => s.l)) (sq.map (fun s => s.l)) = V := ⟨_, rfl⟩
  rw [eV]
  unfold sameW at eV
  have hla : (pinsW (sp.map (fun s => s.l))).length ≤ 2097152 := by have := pinsW_len (sp.map (fun s => s.l)); omega
  have hlb : (pinsW (sq.map (fun s => s.l))).length ≤ 2097152 := by have := pinsW_len (sq.map (fun s => s.l)); omega
  generalize pinsW (sp.map (fun s => s.l)) = la at *
  generalize pinsW (sq.map (fun s => s.l)) = lb at *
  generalize wheelB (sp.map (fun s => s.l)) = oka at *
  generalize wheelB (sq.map (fun s => s.l)) = okb at *
  clear g1 g2
  have HU := Lib.hid hU
  clear hU
  go_enter Try.func24, Try.ntmps24
  go_wp2_with fail
  rw [HU.out]
  cases oka with
  | false =>
    have HV : Hid (V = false) := by show _ = _; rw [← eV]; rfl
    clear eV
    refine wp_region_held_drew (S := fun w' => Hid (Below U.heap.size U w')) (by kernel_rfl) (below_drawn (Below.refl _ _) 1) (fun hHeld => ?_)
    refine held_take 0 5 (.agg #[.slice A sp.length c]) rfl rfl (by kernel_rfl) (by kernel_rfl) (by kernel_rfl) (fun _ _ _ h => h) rfl hHeld (fun w h => exec_loadWh _ _ _ _ w (KA.out w h.out)) ?_
    simp only [Act.put, List.setIfInBounds_toArray, List.set_cons_zero, List.set_cons_succ]
    refine held_call 1 6 35 #[.agg #[.slice A sp.length c]] rfl rfl (by kernel_rfl) rfl (exec_call Try.func35 (by kernel_rfl) (by kernel_rfl) _) ?_
    refine (CA.out _ hHeld.out).mono ?_
    rintro e u1 ⟨rfl, x1⟩
    have hHeld : Hid (Below U.heap.size U u1) := hHeld.out.trans (x1.mono hHeld.out.size)
    refine ⟨_, rfl, hHeld, ?_⟩
    simp only [Act.put, List.setIfInBounds_toArray, List.set_cons_zero, List.set_cons_succ]
    refine held_take 2 7 (.bool false) rfl rfl (by kernel_rfl) (by kernel_rfl) (by kernel_rfl) (fun _ _ _ h => h) rfl hHeld (fun w _ => rfl) ?_
    refine held_skip 3 8 rfl rfl (by kernel_rfl) (by kernel_rfl) (by kernel_rfl) (fun _ _ _ h => h) rfl hHeld ?_
    simp only [Act.put, List.setIfInBounds_toArray, List.set_cons_zero, List.set_cons_succ]
    refine held_skip 4 9 rfl rfl (by kernel_rfl) (by kernel_rfl) (by kernel_rfl) (fun _ _ _ h => h) rfl hHeld ?_
    refine held_take 5 10 (.bool false) rfl rfl (by kernel_rfl) (by kernel_rfl) (by kernel_rfl) (fun _ _ _ h => h) rfl hHeld (fun w _ => exec_pickF _ w) ?_
    simp only [Act.put, List.setIfInBounds_toArray, List.set_cons_zero, List.set_cons_succ]
    refine held_take 6 11 (.bool false) rfl rfl (by kernel_rfl) (by kernel_rfl) (by kernel_rfl) (fun _ _ _ h => h) rfl hHeld (fun w _ => rfl) ?_
    refine held_skip 7 12 rfl rfl (by kernel_rfl) (by kernel_rfl) (by kernel_rfl) (fun _ _ _ h => h) rfl hHeld ?_
    simp only [Act.put, List.setIfInBounds_toArray, List.set_cons_zero, List.set_cons_succ]
    refine held_skip 8 13 rfl rfl (by kernel_rfl) (by kernel_rfl) (by kernel_rfl) (fun _ _ _ h => h) rfl hHeld ?_
    refine held_skip 9 14 rfl rfl (by kernel_rfl) (by kernel_rfl) (by kernel_rfl) (fun _ _ _ h => h) rfl hHeld ?_
    simp only [Act.put, List.setIfInBounds_toArray, List.set_cons_zero, List.set_cons_succ]
    refine held_skip 10 15 rfl rfl (by kernel_rfl) (by kernel_rfl) (by kernel_rfl) (fun _ _ _ h => h) rfl hHeld ?_
    refine held_skip 11 16 rfl rfl (by kernel_rfl) (by kernel_rfl) (by kernel_rfl) (fun _ _ _ h => h) rfl hHeld ?_
    simp only [Act.put, List.setIfInBounds_toArray, List.set_cons_zero, List.set_cons_succ]
    refine held_take 12 17 (.bool false) rfl rfl (by kernel_rfl) (by kernel_rfl) (by kernel_rfl) (fun _ _ _ h => h) rfl hHeld (fun w _ => exec_pickF _ w) ?_
    simp only [Act.put, List.setIfInBounds_toArray, List.set_cons_zero, List.set_cons_succ]
    refine held_op 13 4 (.bool false) rfl rfl (by kernel_rfl) rfl rfl hHeld ?_
    simp only [Act.put, List.setIfInBounds_toArray, List.set_cons_zero, List.set_cons_succ]
    refine wpAnyH_done (by kernel_rfl) ?_ _
    have BF := Lib.hid (b0.out.trans (hHeld.out.mono b0.out.size))
    clear hHeld
    go_wp2
    go_ret
    exact ⟨by rw [HV.out] <;> rfl, BF.out⟩
  | true =>
    cases okb with
    | false =>
      have HV : Hid (V = false) := by show _ = _; rw [← eV]; rfl
      clear eV
      refine wp_region_held_drew (S := fun w' => Hid (Below U.heap.size U w')) (by kernel_rfl) (below_drawn (Below.refl _ _) 1) (fun hHeld => ?_)
      refine held_take 0 5 (.agg #[.slice A sp.length c]) rfl rfl (by kernel_rfl) (by kernel_rfl) (by kernel_rfl) (fun _ _ _ h => h) rfl hHeld (fun w h => exec_loadWh _ _ _ _ w (KA.out w h.out)) ?_
      simp only [Act.put, List.setIfInBounds_toArray, List.set_cons_zero, List.set_cons_succ]
      refine held_call 1 6 35 #[.agg #[.slice A sp.length c]] rfl rfl (by kernel_rfl) rfl (exec_call Try.func35 (by kernel_rfl) (by kernel_rfl) _) ?_
      refine (CA.out _ hHeld.out).mono ?_
      rintro e u1 ⟨rfl, x1⟩
      have hHeld : Hid (Below U.heap.size U u1) := hHeld.out.trans (x1.mono hHeld.out.size)
      refine ⟨_, rfl, hHeld, ?_⟩
      simp only [Act.put, List.setIfInBounds_toArray, List.set_cons_zero, List.set_cons_succ]
      refine held_take 2 7 (.bool true) rfl rfl (by kernel_rfl) (by kernel_rfl) (by kernel_rfl) (fun _ _ _ h => h) rfl hHeld (fun w _ => rfl) ?_
      refine held_take 3 8 (.agg #[.slice A' sq.length c']) rfl rfl (by kernel_rfl) (by kernel_rfl) (by kernel_rfl) (fun _ _ _ h => h) rfl hHeld (fun w h => exec_loadWh _ _ _ _ w (KB.out w h.out)) ?_
      simp only [Act.put, List.setIfInBounds_toArray, List.set_cons_zero, List.set_cons_succ]
      refine held_call 4 9 35 #[.agg #[.slice A' sq.length c']] rfl rfl (by kernel_rfl) rfl (exec_call Try.func35 (by kernel_rfl) (by kernel_rfl) _) ?_
      refine (CB.out _ hHeld.out).mono ?_
      rintro e u2 ⟨rfl, x2⟩
      have hHeld : Hid (Below U.heap.size U u2) := hHeld.out.trans (x2.mono hHeld.out.size)
      refine ⟨_, rfl, hHeld, ?_⟩
      simp only [Act.put, List.setIfInBounds_toArray, List.set_cons_zero, List.set_cons_succ]
      refine held_take 5 10 (.bool false) rfl rfl (by kernel_rfl) (by kernel_rfl) (by kernel_rfl) (fun _ _ _ h => h) rfl hHeld (fun w _ => exec_pickT _ w) ?_
      refine held_take 6 11 (.bool false) rfl rfl (by kernel_rfl) (by kernel_rfl) (by kernel_rfl) (fun _ _ _ h => h) rfl hHeld (fun w _ => rfl) ?_
      simp only [Act.put, List.setIfInBounds_toArray, List.set_cons_zero, List.set_cons_succ]
      refine held_skip 7 12 rfl rfl (by kernel_rfl) (by kernel_rfl) (by kernel_rfl) (fun _ _ _ h => h) rfl hHeld ?_
      refine held_skip 8 13 rfl rfl (by kernel_rfl) (by kernel_rfl) (by kernel_rfl) (fun _ _ _ h => h) rfl hHeld ?_
      simp only [Act.put, List.setIfInBounds_toArray, List.set_cons_zero, List.set_cons_succ]
      refine held_skip 9 14 rfl rfl (by kernel_rfl) (by kernel_rfl) (by kernel_rfl) (fun _ _ _ h => h) rfl hHeld ?_
      refine held_skip 10 15 rfl rfl (by kernel_rfl) (by kernel_rfl) (by kernel_rfl) (fun _ _ _ h => h) rfl hHeld ?_
      simp only [Act.put, List.setIfInBounds_toArray, List.set_cons_zero, List.set_cons_succ]
      refine held_skip 11 16 rfl rfl (by kernel_rfl) (by kernel_rfl) (by kernel_rfl) (fun _ _ _ h => h) rfl hHeld ?_
      refine held_take 12 17 (.bool false) rfl rfl (by kernel_rfl) (by kernel_rfl) (by kernel_rfl) (fun _ _ _ h => h) rfl hHeld (fun w _ => exec_pickF _ w) ?_
      simp only [Act.put, List.setIfInBounds_toArray, List.set_cons_zero, List.set_cons_succ]
      refine held_op 13 4 (.bool false) rfl rfl (by kernel_rfl) rfl rfl hHeld ?_
      simp only [Act.put, List.setIfInBounds_toArray, List.set_cons_zero, List.set_cons_succ]
      refine wpAnyH_done (by kernel_rfl) ?_ _
      have BF := Lib.hid (b0.out.trans (hHeld.out.mono b0.out.size))
      clear hHeld
      go_wp2
      go_ret
      exact ⟨by rw [HV.out] <;> rfl, BF.out⟩
    | true =>
      have HV : Hid (V = decide (la = lb)) := by show _ = _; rw [← eV]; simp
      clear eV
      refine wp_region_held_drew (S := fun w' => Hid (Below U.heap.size U w')) (by kernel_rfl) (below_drawn (Below.refl _ _) 1) (fun hHeld => ?_)
      refine held_take 0 5 (.agg #[.slice A sp.length c]) rfl rfl (by kernel_rfl) (by kernel_rfl) (by kernel_rfl) (fun _ _ _ h => h) rfl hHeld (fun w h => exec_loadWh _ _ _ _ w (KA.out w h.out)) ?_
      simp only [Act.put, List.setIfInBounds_toArray, List.set_cons_zero, List.set_cons_succ]
      refine held_call 1 6 35 #[.agg #[.slice A sp.length c]] rfl rfl (by kernel_rfl) rfl (exec_call Try.func35 (by kernel_rfl) (by kernel_rfl) _) ?_
      refine (CA.out _ hHeld.out).mono ?_
      rintro e u1 ⟨rfl, x1⟩
      have hHeld : Hid (Below U.heap.size U u1) := hHeld.out.trans (x1.mono hHeld.out.size)
      refine ⟨_, rfl, hHeld, ?_⟩
      simp only [Act.put, List.setIfInBounds_toArray, List.set_cons_zero, List.set_cons_succ]
      refine held_take 2 7 (.bool true) rfl rfl (by kernel_rfl) (by kernel_rfl) (by kernel_rfl) (fun _ _ _ h => h) rfl hHeld (fun w _ => rfl) ?_
      refine held_take 3 8 (.agg #[.slice A' sq.length c']) rfl rfl (by kernel_rfl) (by kernel_rfl) (by kernel_rfl) (fun _ _ _ h => h) rfl hHeld (fun w h => exec_loadWh _ _ _ _ w (KB.out w h.out)) ?_
      simp only [Act.put, List.setIfInBounds_toArray, List.set_cons_zero, List.set_cons_succ]
      refine held_call 4 9 35 #[.agg #[.slice A' sq.length c']] rfl rfl (by kernel_rfl) rfl (exec_call Try.func35 (by kernel_rfl) (by kernel_rfl) _) ?_
      refine (CB.out _ hHeld.out).mono ?_
      rintro e u2 ⟨rfl, x2⟩
      have hHeld : Hid (Below U.heap.size U u2) := hHeld.out.trans (x2.mono hHeld.out.size)
      refine ⟨_, rfl, hHeld, ?_⟩
      simp only [Act.put, List.setIfInBounds_toArray, List.set_cons_zero, List.set_cons_succ]
      refine held_take 5 10 (.bool true) rfl rfl (by kernel_rfl) (by kernel_rfl) (by kernel_rfl) (fun _ _ _ h => h) rfl hHeld (fun w _ => exec_pickT _ w) ?_
      refine held_take 6 11 (.bool true) rfl rfl (by kernel_rfl) (by kernel_rfl) (by kernel_rfl) (fun _ _ _ h => h) rfl hHeld (fun w _ => rfl) ?_
      simp only [Act.put, List.setIfInBounds_toArray, List.set_cons_zero, List.set_cons_succ]
      refine held_take 7 12 (.agg #[.slice A sp.length c]) rfl rfl (by kernel_rfl) (by kernel_rfl) (by kernel_rfl) (fun _ _ _ h => h) rfl hHeld (fun w h => exec_loadWh _ _ _ _ w (KA.out w h.out)) ?_
      refine held_take 9 14 (.agg #[.slice A' sq.length c']) rfl rfl (by kernel_rfl) (by kernel_rfl) (by kernel_rfl) (fun _ _ _ h => h) rfl hHeld (fun w h => exec_loadWh _ _ _ _ w (KB.out w h.out)) ?_
      simp only [Act.put, List.setIfInBounds_toArray, List.set_cons_zero, List.set_cons_succ]
      refine held_call 8 13 17 #[.agg #[.slice A sp.length c]] rfl rfl (by kernel_rfl) rfl (exec_call Try.func17 (by kernel_rfl) (by kernel_rfl) _) ?_
      refine (PA.out _ hHeld.out).mono ?_
      rintro e u3 ⟨P1, d1, rfl, o1, x3⟩
      have hHeld : Hid (Below U.heap.size U u3) := hHeld.out.trans (x3.mono hHeld.out.size)
      refine ⟨_, rfl, hHeld, ?_⟩
      simp only [Act.put, List.setIfInBounds_toArray, List.set_cons_zero, List.set_cons_succ]
      refine held_call 10 15 17 #[.agg #[.slice A' sq.length c']] rfl rfl (by kernel_rfl) rfl (exec_call Try.func17 (by kernel_rfl) (by kernel_rfl) _) ?_
      refine (PB.out _ hHeld.out).mono ?_
      rintro e u4 ⟨P2, d2, rfl, o2, x4⟩
      have o1 := own_below o1 x4
      have hHeld : Hid (Below U.heap.size U u4) := hHeld.out.trans (x4.mono hHeld.out.size)
      refine ⟨_, rfl, hHeld, ?_⟩
      simp only [Act.put, List.setIfInBounds_toArray, List.set_cons_zero, List.set_cons_succ]
      refine held_call 11 16 62 #[.slice P1 la.length d1, .slice P2 lb.length d2] rfl rfl (by kernel_rfl) rfl (exec_call Try.func62 (by kernel_rfl) (by kernel_rfl) _) ?_
      refine (l9SamePins_spec P1 P2 la lb d1 d2 _ hla hlb (own_rws o1) (own_rws o2)).mono ?_
      rintro e u5 ⟨rfl, x5⟩
      have hHeld : Hid (Below U.heap.size U u5) := hHeld.out.trans (x5.mono hHeld.out.size)
      refine ⟨_, rfl, hHeld, ?_⟩
      simp only [Act.put, List.setIfInBounds_toArray, List.set_cons_zero, List.set_cons_succ]
      refine held_take 12 17 (.bool (decide (la = lb))) rfl rfl (by kernel_rfl) (by kernel_rfl) (by kernel_rfl) (fun _ _ _ h => h) rfl hHeld (fun w _ => exec_pickT _ w) ?_
      simp only [Act.put, List.setIfInBounds_toArray, List.set_cons_zero, List.set_cons_succ]
      refine held_op 13 4 (.bool (decide (la = lb))) rfl rfl (by kernel_rfl) rfl rfl hHeld ?_
      simp only [Act.put, List.setIfInBounds_toArray, List.set_cons_zero, List.set_cons_succ]
      refine wpAnyH_done (by kernel_rfl) ?_ _
      have BF := Lib.hid (b0.out.trans (hHeld.out.mono b0.out.size))
      clear hHeld
      go_wp2
      go_ret
      exact ⟨by rw [HV.out] <;> rfl, BF.out⟩
end Go.Proofs.Ytflomkebgiemaaa
