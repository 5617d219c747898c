/- Texts laid together: WhL, Wh2, Wh3, Wh4, WhB. -/
import Derived.Test.YtlflgflmlfileaaGreatRows
import Derived.Test.YtlflgflmlfileaaGreatJ1
import Derived.Test.YtlflgflmlfileaaGreatPnL
import Derived.Test.YtlflgflmlfileaaGreatHs16
import Derived.Deep.DeepCutAuto
namespace Go.Proofs.YtlflgflmlfileaaGreat
open Go.RowKit
set_option linter.unusedSimpArgs false
set_option linter.unusedVariables false
/-- What szPinSS returns. -/
def szV (q : Int) (sp : List Sp) : Int := if q - sp.length - (allPn sp).length < 0 then -1 else q - sp.length - (allPn sp).length
theorem map_l_at {sp sq : List Sp} (h : sp.map (·.l) = sq.map (·.l)) (i : Nat) : (sp.getD i sp0).l = (sq.getD i sp0).l := by
  have h1 := congrArg (fun L => L.getD i []) h
  simp only [List.getD_eq_getElem?_getD, List.getElem?_map] at h1 ⊢
  cases e1 : sp[i]? <;> cases e2 : sq[i]? <;> simp_all [sp0]
theorem map_l_all {sp sq : List Sp} (h : sp.map (·.l) = sq.map (·.l)) : allPn sp = allPn sq := by
  unfold allPn; rw [List.flatMap_def, List.flatMap_def, h]
theorem at_le_all (sp : List Sp) {i : Nat} (h : i < sp.length) : (sp.getD i sp0).l.length ≤ (allPn sp).length := by have := allPn_at_le sp i h; omega
/-- Where a slice lies. -/
def Sp.blk (s : Sp) : Option Nat := s.a.map (·.block)
theorem ownBlock_eq (A : Option Addr) (n c : Nat) : (Value.slice A n c).ownBlock = A.map (·.block) := by cases A <;> rfl
/-- Only blocks of P may have changed. -/
structure Tch (P : Nat → Prop) (w w' : World) : Prop where
  os : w'.os = w.os
  tape : w'.tape = w.tape
  output : w'.output = w.output
  size : w.heap.size ≤ w'.heap.size
  block : ∀ i, i < w.heap.size → ¬ P i → w'.heap[i]? = w.heap[i]?
theorem Tch.refl (P : Nat → Prop) (w : World) : Tch P w w := ⟨rfl, rfl, rfl, Nat.le_refl _, fun _ _ _ => rfl⟩
theorem Tch.trans {P : Nat → Prop} {a b c : World} (h : Tch P a b) (k : Tch P b c) : Tch P a c :=
  ⟨k.os.trans h.os, k.tape.trans h.tape, k.output.trans h.output, Nat.le_trans h.size k.size, fun i hi hp => (k.block i (Nat.lt_of_lt_of_le hi h.size) hp).trans (h.block i hi hp)⟩
theorem Tch.of_grown {P : Nat → Prop} {w w' : World} {row : Option Nat} (g : w.grownBy w' row) (h : ∀ i, row = some i → P i) : Tch P w w' :=
  ⟨g.os, g.tape, g.output, g.size, fun i hi hp => g.block i hi (fun e => hp (h i e.symm))⟩
theorem Tch.of_below {P : Nat → Prop} {w w' : World} (g : Below w.heap.size w w') : Tch P w w' := ⟨g.os, g.tape, g.output, g.size, fun i hi _ => g.block i hi⟩
theorem Tch.below {P : Nat → Prop} {w w' : World} {B : Nat} (t : Tch P w w') (hB : B ≤ w.heap.size) (h : ∀ i, P i → B ≤ i) : Below B w w' :=
  ⟨t.os, t.tape, t.output, t.size, fun i hi => t.block i (by omega) (fun hp => by have := h i hp; omega)⟩
theorem Tch.own {P : Nat → Prop} {w w' : World} {B e sz n : Nat} {v : Value} {cs : List Value} (t : Tch P w w') (h : w.ownsRow B e sz v n cs) (hp : ∀ g, v.ownBlock = some g → ¬ P g) : w'.ownsRow B e sz v n cs := by
  refine ⟨h.1, ?_⟩
  rcases h.2 with h2 | ⟨g, cap, cur, hv, hg, hh, r⟩
  · exact .inl h2
  · exact .inr ⟨g, cap, cur, hv, hg, by rw [t.block g (Array.getElem?_eq_some_iff.1 hh).1 (hp g (by rw [hv]; rfl))]; exact hh, r⟩
theorem Tch.blk {P : Nat → Prop} {w w' : World} {r : Nat} {o : Obj} (t : Tch P w w') (h : w.heap[r]? = some o) (hp : ¬ P r) : w'.heap[r]? = some o := by
  rw [t.block r (Array.getElem?_eq_some_iff.1 h).1 hp]; exact h
/-- The blocks of a wheel. -/
def InW (A : Option Addr) (sp : List Sp) (g : Nat) : Prop := A.map (·.block) = some g ∨ ∃ s ∈ sp, s.blk = some g
theorem Tch.wheel {P : Nat → Prop} {w w' : World} {B : Nat} {A : Option Addr} {c : Nat} {sp : List Sp} (t : Tch P w w') (h : OwnW w B A c sp) (hp : ∀ g, InW A sp g → ¬ P g) : OwnW w' B A c sp :=
  ⟨t.own h.row (fun g hg => hp g (.inl (by rw [ownBlock_eq] at hg; exact hg))), fun s hs => t.own (h.sp s hs) (fun g hg => hp g (.inr ⟨s, hs, by rw [ownBlock_eq] at hg; exact hg⟩))⟩
theorem OwnW.lo {w : World} {B : Nat} {A : Option Addr} {c : Nat} {sp : List Sp} (h : OwnW w B A c sp) : ∀ g, InW A sp g → B ≤ g ∧ g < w.heap.size := by
  rintro g (hg | ⟨s, hs, hg⟩)
  · exact World.ownsRow.lt h.row g (by rw [ownBlock_eq]; exact hg)
  · exact World.ownsRow.lt (h.sp s hs) g (by rw [ownBlock_eq]; exact hg)
/-- The spokes lie apart. -/
def ApartW (sp : List Sp) : Prop := ∀ i j, i < j → j < sp.length → ∀ g, (sp.getD i sp0).blk = some g → (sp.getD j sp0).blk ≠ some g
theorem ApartW.nil : ApartW [] := fun i j _ h => absurd h (by simp)
theorem ApartW.one {sp : List Sp} {s : Sp} (h : ApartW sp) (hn : ∀ x ∈ sp, ∀ g, x.blk = some g → s.blk ≠ some g) : ApartW (sp ++ [s]) := by
  intro i j hij hj g hg
  rw [List.length_append, List.length_singleton] at hj
  have hi : i < sp.length := by omega
  have e1 : (sp ++ [s]).getD i sp0 = sp.getD i sp0 := by simp [List.getD_eq_getElem?_getD, List.getElem?_append, hi]
  rw [e1] at hg
  by_cases hjl : j < sp.length
  · have e2 : (sp ++ [s]).getD j sp0 = sp.getD j sp0 := by simp [List.getD_eq_getElem?_getD, List.getElem?_append, hjl]
    rw [e2]; exact h i j hij hjl g hg
  · have : j = sp.length := by omega
    subst this
    have e2 : (sp ++ [s]).getD sp.length sp0 = s := by simp [List.getD_eq_getElem?_getD]
    rw [e2]
    exact hn _ (getD_mem sp i sp0 hi) g hg
/-- A spoke that is marked. -/
def mkSp (k : Nat) (sp : List Sp) (i : Nat) : Sp := ⟨(sp.getD i sp0).a, (sp.getD i sp0).c, marks_pn (k + (allPn (sp.take i)).length * 2) (sp.getD i sp0).l.length⟩
def marksW (k : Nat) (sp : List Sp) : List Sp := (List.range sp.length).map (mkSp k sp)
theorem marksW_length (k : Nat) (sp : List Sp) : (marksW k sp).length = sp.length := by simp [marksW]
theorem marksW_getD (k : Nat) (sp : List Sp) (i : Nat) (h : i < sp.length) : (marksW k sp).getD i sp0 = mkSp k sp i := by simp [marksW, h]
theorem marksW_spC (k : Nat) (sp : List Sp) : (marksW k sp).flatMap spC = sp.flatMap spC := by
  have e : ∀ l : List Sp, l.flatMap spC = l.map (fun s => Value.slice s.a s.l.length s.c) := fun l => by
    induction l with
    | nil => rfl
    | cons x l ih => rw [List.flatMap_cons, ih]; rfl
  rw [e, e]
  apply List.ext_getElem
  · simp [marksW]
  · intro i h1 h2
    have hi : i < sp.length := by simpa using h2
    simp [marksW, mkSp, marks_pn_length, List.getD_eq_getElem?_getD, hi]
theorem marksW_in (A : Option Addr) (k : Nat) (sp : List Sp) (g : Nat) : InW A (marksW k sp) g ↔ InW A sp g := by
  unfold InW
  constructor
  · rintro (h | ⟨s, hs, hg⟩)
    · exact .inl h
    · obtain ⟨i, hi, rfl⟩ := List.mem_map.1 hs
      exact .inr ⟨sp.getD i sp0, getD_mem sp i sp0 (List.mem_range.1 hi), hg⟩
  · rintro (h | ⟨s, hs, hg⟩)
    · exact .inl h
    · obtain ⟨i, hi, rfl⟩ := List.getElem_of_mem hs
      refine .inr ⟨mkSp k sp i, List.mem_map.2 ⟨i, List.mem_range.2 hi, rfl⟩, ?_⟩
      have e : sp.getD i sp0 = sp[i] := by simp [List.getD_eq_getElem?_getD, hi]
      show (sp.getD i sp0).blk = some g
      rw [e]; exact hg
theorem marksW_all (k : Nat) (sp : List Sp) : (allPn (marksW k sp)).length = (allPn sp).length := by
  unfold allPn
  rw [List.length_flatMap, List.length_flatMap]
  congr 1
  apply List.ext_getElem
  · simp [marksW]
  · intro i h1 h2
    have hi : i < sp.length := by simpa using h2
    simp [marksW, mkSp, marks_pn_length, List.getD_eq_getElem?_getD, hi]
/-- A wheel in new memory, its spokes apart. -/
def NewX (w : World) (ls : List (List Pn)) (e : Ending) (w' : World) : Prop :=
  ∃ A c sp, e = .returned (.agg #[.slice A sp.length c]) ∧ sp.map (·.l) = ls ∧ OwnW w' w.heap.size A c sp ∧ ApartW sp ∧ Below w.heap.size w w'
/-- A row of slices in new memory, its spokes apart. -/
def NewSp (w : World) (n : Nat) (ls : List (List Pn)) (e : Ending) (w' : World) : Prop :=
  ∃ B d sq, e = .returned (.slice B n d) ∧ sq.length = n ∧ sq.map (·.l) = ls ∧ OwnW w' w.heap.size B d sq ∧ ApartW sq ∧ Below w.heap.size w w'
/-- toPinSS halfway: the spokes sq are laid over the cells Z. -/
def halfS (Z : List Value) (sq : List Sp) : List Value := sq.flatMap spC ++ Z.drop sq.length
theorem spC_flat_len (sq : List Sp) : (sq.flatMap spC).length = sq.length := by have := flat_len spC 1 spC_len sq; omega
theorem halfS_set (Z : List Value) (sq : List Sp) (s : Sp) (h : sq.length < Z.length) : (halfS Z sq).set sq.length (.slice s.a s.l.length s.c) = halfS Z (sq ++ [s]) := by
  unfold halfS
  obtain ⟨x, r, hd⟩ : ∃ x r, Z.drop sq.length = x :: r := by
    have : 1 ≤ (Z.drop sq.length).length := by rw [List.length_drop]; omega
    match h : Z.drop sq.length, this with
    | x :: r, _ => exact ⟨x, r, rfl⟩
  have hd2 : Z.drop (sq ++ [s]).length = r := by
    rw [List.length_append, List.length_singleton, ← List.drop_drop, hd]; rfl
  rw [hd, hd2, List.flatMap_append, List.set_append_right _ _ (by rw [spC_flat_len]; omega), spC_flat_len, Nat.sub_self, List.set_cons_zero, List.append_assoc]
  rfl
theorem halfS_len (Z : List Value) (sq : List Sp) (h : sq.length ≤ Z.length) : (halfS Z sq).length = Z.length := by
  unfold halfS; rw [List.length_append, spC_flat_len, List.length_drop]; omega
/-- Pins in their order. -/
def sortPn (l : List Pn) : List Pn := l.foldl pnPut []
theorem sort_take (l : List Pn) (k : Nat) (h : k < l.length) : sortPn (l.take (k + 1)) = pnPut (sortPn (l.take k)) (l.getD k pn0) := by
  unfold sortPn; rw [take_succ_getD l k pn0 h, List.foldl_append]; rfl
theorem foldPut_len (l : List Pn) : ∀ a : List Pn, (l.foldl pnPut a).length = a.length + l.length := by
  induction l with
  | nil => intro a; simp
  | cons x l ih => intro a; rw [List.foldl_cons, ih, pnPut_len, List.length_cons]; omega
theorem sort_len (l : List Pn) : (sortPn l).length = l.length := by unfold sortPn; rw [foldPut_len]; simp
/-- What PinsOf returns. -/
noncomputable def pinsW (ls : List (List Pn)) : List Pn := if wheelB ls = true then sortPn ls.flatten else []
theorem pinsW_len (ls : List (List Pn)) : (pinsW ls).length ≤ 10 := by
  unfold pinsW
  split
  · rename_i h; rw [sort_len]; exact (wheelB_iff h).2.1
  · simp
set_option maxRecDepth 100000 in
/-- append(v, q...) in a walk, and where the row lies then. -/
theorem wpList_appRb {t e sz bytes : Nat} {z : Value} (T : RowT t e sz bytes z) (w : World) {ops : Array Oper} {rest : List Oper} {o : Oper} {a : Act} {Q : Exit → Act → World → Prop} (hgd : o.guard = none) (s x : Operand)
    (ho : o.op = .call { callee := .builtin .append, args := #[s, x], argTypes := #[t, t] })
    (base : Nat) (v : Value) (n : Nat) (xs : List Value) (hs : a.eval s = v) (hown : w.ownsRow base e sz v n xs)
    (B : Nat) (ad : Addr) (m c : Nat) (news : List Value) (hx : a.eval x = .slice (some ad) m c) (hl : news.length = m * sz) (hR : Rws w B (some ad) news) (h1 : ∀ u ∈ news, u.oneCell' = true)
    (hlen : n + m ≤ 1073741824) (hbase : base ≤ w.heap.size)
    (h : ∀ v' w', w'.ownsRow base e sz v' (n + m) (xs ++ news) → w.grownBy w' v.ownBlock → (v'.ownBlock = v.ownBlock ∨ v'.ownBlock = some w.heap.size) → wpList Tryz.prog ops Q rest (a.put o.dst v') w') :
    wpList Tryz.prog ops Q (o :: rest) a w := by
  obtain ⟨i0, hi, hz0, hz1, hz2⟩ := info_parts T.inf
  have hb : (n + m) * bytes ≤ 140737488355328 := by
    have h2 := T.by_
    have : (n + m) * bytes ≤ 1073741824 * 1024 := Nat.mul_le_mul hlen h2
    omega
  obtain ⟨v', w', hr, h2, h3, _, h5⟩ := run_append_own_at (P := Tryz.prog) w base t o.type e i0 z sz bytes T.ut hi hz0 hz1 hz2 T.zc T.pos v n xs hown ad m c news hl
      (fun j u hj => by
        rcases hR with rfl | ⟨b, off, e1, _, hc⟩
        · simp at hj
        · injection e1 with e1
          subst e1
          have hjl : j < news.length := by
            rcases Nat.lt_or_ge j news.length with h | h
            · exact h
            · rw [List.getElem?_eq_none h] at hj; cases hj
          rw [add_at, hc j hjl]; exact hj) h1 (by unfold maxLen; omega) hb hbase
  have hrun : (execOp a.eval o).run Tryz.prog w = .ok (.value v') w' := by simp [execOp, ho, resolve, invoke, builtin, hs, hx, hr, Result.andThen]
  exact wpList_exec v' hgd hrun (h v' w' h2 h3 h5)
/-- What PinsDue returns. -/
noncomputable def dueV (ls : List (List Pn)) (now : Int) : List Pn := (pinsW ls).filter (fun x => decide (x.at_ ≤ now))
theorem filter_take (p : Pn → Bool) (l : List Pn) (k : Nat) (h : k < l.length) : (l.take (k + 1)).filter p = (l.take k).filter p ++ (if p (l.getD k pn0) = true then [l.getD k pn0] else []) := by
  rw [take_succ_getD l k pn0 h, List.filter_append]
  congr 1
  simp [List.filter_cons]
set_option maxRecDepth 100000 in
theorem exec_loadWh {ρ : Operand → Value} {o : Oper} {x : Operand} (b : Nat) (B : Option Addr) (n c : Nat) (w : World) (h : w.cell? ⟨b, 0, none⟩ = some (.slice B n c)) (ho : o.op = .load 57 x := by rfl) (hx : ρ x = .pointer (some ⟨b, 0, none⟩) := by rfl) :
    (execOp ρ o).run Tryz.prog w = .ok (.value (.agg #[.slice B n c])) w := by
  unfold execOp
  rw [ho]
  simp [go_sem, hx, h]
instance : DecidableEq Pn := fun a b => by
  cases a; cases b
  rename_i a1 a2 b1 b2
  by_cases h : a1 = b1 ∧ a2 = b2
  · exact isTrue (by rw [h.1, h.2])
  · exact isFalse (fun e => h (by injection e with e1 e2; exact ⟨e1, e2⟩))
set_option maxRecDepth 100000 in
theorem exec_neqPn {ρ : Operand → Value} {o : Oper} {x y : Operand} (X Y : Pn) (w : World) (ho : o.op = .binOp .neq 95 x y 95 := by rfl) (hx : ρ x = pnA X := by rfl) (hy : ρ y = pnA Y := by rfl) :
    (execOp ρ o).run Tryz.prog w = .ok (.value (.bool (!decide (X = Y)))) w := by
  unfold execOp
  rw [ho]
  obtain ⟨x1, x2⟩ := X
  obtain ⟨y1, y2⟩ := Y
  simp [go_sem, hx, hy, pnA]
  by_cases h1 : x1 = y1 <;> by_cases h2 : x2 = y2 <;> simp [h1, h2]
set_option maxRecDepth 100000 in
theorem exec_eqlPn {ρ : Operand → Value} {o : Oper} {x y : Operand} (X Y : Pn) (w : World) (ho : o.op = .binOp .eql 95 x y 95 := by rfl) (hx : ρ x = pnA X := by rfl) (hy : ρ y = pnA Y := by rfl) :
    (execOp ρ o).run Tryz.prog w = .ok (.value (.bool (decide (X = Y)))) w := by
  unfold execOp
  rw [ho]
  obtain ⟨x1, x2⟩ := X
  obtain ⟨y1, y2⟩ := Y
  simp [go_sem, hx, hy, pnA]
  by_cases h1 : x1 = y1 <;> by_cases h2 : x2 = y2 <;> simp [h1, h2]
theorem list_ne_at {l m : List Pn} {k : Nat} (hk : k < l.length) (h : ¬ l.getD k pn0 = m.getD k pn0) : ¬ l = m := fun e => h (by rw [e])
theorem list_eq_all {l m : List Pn} (hl : l.length = m.length) (h : ∀ k, k < l.length → l.getD k pn0 = m.getD k pn0) : l = m := by
  apply List.ext_getElem hl
  intro i h1 h2
  have := h i h1
  simpa [List.getD_eq_getElem?_getD, h1, h2] using this
/-- What SameWheel tells. -/
noncomputable def sameW (a b : List (List Pn)) : Bool := wheelB a && wheelB b && decide (pinsW a = pinsW b)
noncomputable def wheelGo : List Pn → List (List Pn) → List (List Pn) × Bool
  | [], ls => (ls, true)
  | p :: r, ls => if (wheelPutV ls p).2 = true then wheelGo r (wheelPutV ls p).1 else ([], false)
/-- What WheelOf returns. -/
noncomputable def wheelOfV (l : List Pn) : List (List Pn) × Bool := wheelGo l nineW
theorem wheelGo_drop (l : List Pn) (k : Nat) (ls : List (List Pn)) (h : k < l.length) : wheelGo (l.drop k) ls = if (wheelPutV ls (l.getD k pn0)).2 = true then wheelGo (l.drop (k + 1)) (wheelPutV ls (l.getD k pn0)).1 else ([], false) := by
  rw [drop_getD l k pn0 h]; rfl
theorem wheelPutV_ok {ls : List (List Pn)} {p : Pn} (h : (wheelPutV ls p).2 = true) : wheelB (wheelPutV ls p).1 = true := by
  unfold wheelPutV at h ⊢
  split
  · split
    · assumption
    · rename_i h1 h2; rw [if_pos h1, if_neg h2] at h; cases h
  · rename_i h1; rw [if_neg h1] at h; cases h
set_option maxRecDepth 100000 in
theorem exec_allocWh {ρ : Operand → Value} {o : Oper} (w : World) (ho : o.op = .alloc 57 := by rfl) :
    (execOp ρ o).run Tryz.prog w = .ok (.value (.pointer (some ⟨w.heap.size, 0, none⟩))) (w.alloc (.cells #[.slice none 0 0] 57)) := by
  unfold execOp
  rw [ho]
  simp [go_sem]
set_option maxRecDepth 100000 in
theorem exec_storeWh {ρ : Operand → Value} {o : Oper} {x y : Operand} (b : Nat) (B : Option Addr) (n c : Nat) (u : Value) (w : World) (h : w.cell? ⟨b, 0, none⟩ = some u) (hz : w.frozen? ⟨b, 0, none⟩ = false) (ho : o.op = .store 57 x y := by rfl) (hx : ρ x = .pointer (some ⟨b, 0, none⟩) := by rfl) (hy : ρ y = .agg #[.slice B n c] := by rfl) :
    (execOp ρ o).run Tryz.prog w = .ok .skip (w.setCell ⟨b, 0, none⟩ (.slice B n c)) := by
  unfold execOp
  rw [ho]
  simp [go_sem, hx, hy, h, hz]
/-- What stands in a round of WheelOf. -/
structure WO (w u : World) (g : Nat) (Q : Option Addr) (qc : Nat) (sq : List Sp) : Prop where
  O : OwnW u (w.heap.size + 1) Q qc sq
  H : u.heap[g]? = some (.cells #[.slice Q sq.length qc] 57)
  Z : u.heap[w.heap.size]? = some (.cells #[.slice none 0 0] 57)
  B : Below w.heap.size w u
  g1 : w.heap.size < g
theorem WO.call {w u u' : World} {g : Nat} {Q : Option Addr} {qc : Nat} {sq : List Sp} (h : WO w u g Q qc sq) (b : Below u.heap.size u u') : WO w u' g Q qc sq :=
  ⟨h.O.below b, blk_call h.H b, blk_call h.Z b, h.B.trans (b.mono h.B.size), h.g1⟩
theorem WO.alloc {w u : World} {g : Nat} {Q : Option Addr} {qc : Nat} {sq : List Sp} (h : WO w u g Q qc sq) (o : Obj) : WO w (u.alloc o) g Q qc sq := h.call ((Below.refl _ _).alloc (Nat.le_refl _) _)
/-- The new wheel's block. -/
structure WN (w u : World) (g' : Nat) (N : Option Addr) (nc : Nat) (sn : List Sp) : Prop where
  O : OwnW u (w.heap.size + 1) N nc sn
  H : u.heap[g']? = some (.cells #[.slice N sn.length nc] 57)
theorem WO.store {w u : World} {g g' : Nat} {Q N : Option Addr} {qc nc : Nat} {sq sn : List Sp} {z : Value} (h : WO w u g Q qc sq) (hN : OwnW u (w.heap.size + 1) N nc sn) (hg : u.heap[g']? = some (.cells #[z] 57)) (hne : g ≠ g') (hz : w.heap.size < g') :
    WO w (u.setCell ⟨g', 0, none⟩ (.slice N sn.length nc)) g Q qc sq ∧ WN w (u.setCell ⟨g', 0, none⟩ (.slice N sn.length nc)) g' N nc sn := by
  refine ⟨⟨h.O.put hg (by decide) (by decide) 0 _, (heap_set_ne u g' _ _ hne).trans h.H, (heap_set_ne u g' _ _ (by omega)).trans h.Z, h.B.setCell (p := ⟨g', 0, none⟩) (by show _ ≤ g'; omega) _, h.g1⟩, ⟨hN.put hg (by decide) (by decide) 0 _, ?_⟩⟩
  have := heap_setCell_same u g' 0 #[z] 57 (.slice N sn.length nc) hg
  simpa using this
/-- A spoke without its first p. -/
def cutPn (l : List Pn) (p : Pn) : Option (List Pn) := (l.findIdx? fun x => decide (x = p)).map fun i => l.take i ++ l.drop (i + 1)
/-- What WheelCut returns. -/
noncomputable def wheelCutV (ls : List (List Pn)) (p : Pn) : List (List Pn) × Bool :=
  if wheelB ls = true ∧ 1 ≤ p.at_ then
    ((cutPn (ls.getD (p.at_.tmod 9).toNat []) p).map fun l => (ls.set (p.at_.tmod 9).toNat l, true)).getD (ls, false)
  else (ls, false)
/-- A wheel of the call's own and the box that holds it: all their blocks lie from lo to hi. -/
structure Bx (u : World) (g lo hi : Nat) (A : Option Addr) (c : Nat) (sp : List Sp) : Prop where
  H : u.heap[g]? = some (.cells #[.slice A sp.length c] 57)
  O : OwnW u lo A c sp
  rng : ∀ q, (q = g ∨ InW A sp q) → lo ≤ q ∧ q < hi
theorem Bx.call {u u' : World} {g lo hi : Nat} {A : Option Addr} {c : Nat} {sp : List Sp} (h : Bx u g lo hi A c sp) (b : Below u.heap.size u u') : Bx u' g lo hi A c sp :=
  ⟨blk_call h.H b, h.O.below b, h.rng⟩
theorem Bx.tch {P : Nat → Prop} {u u' : World} {g lo hi : Nat} {A : Option Addr} {c : Nat} {sp : List Sp} (h : Bx u g lo hi A c sp) (t : Tch P u u') (hd : ∀ q, lo ≤ q → q < hi → ¬ P q) : Bx u' g lo hi A c sp :=
  ⟨t.blk h.H (by have := h.rng g (.inl rfl); exact hd g this.1 this.2), t.wheel h.O (fun q hq => by have := h.rng q (.inr hq); exact hd q this.1 this.2), h.rng⟩
theorem Bx.top {u : World} {g lo hi : Nat} {A : Option Addr} {c : Nat} {sp : List Sp} (h : Bx u g lo hi A c sp) : g < u.heap.size := blk_lt h.H
theorem Bx.cell {u : World} {g lo hi : Nat} {A : Option Addr} {c : Nat} {sp : List Sp} (h : Bx u g lo hi A c sp) : u.cell? ⟨g, 0, none⟩ = some (.slice A sp.length c) := cell_of_one h.H
/-- A wheel just returned and laid in a box. -/
theorem Bx.new {u : World} {lo : Nat} {A : Option Addr} {c : Nat} {sp : List Sp} (h : OwnW u lo A c sp) (hl : lo ≤ u.heap.size) : Bx (u.alloc (.cells #[.slice A sp.length c] 57)) u.heap.size lo (u.heap.size + 1) A c sp :=
  ⟨heap_new _ _, h.alloc _, fun q hq => by
    rcases hq with rfl | hq
    · omega
    · have := h.lo q hq; omega⟩
/-- The box does not lie among the wheel's rows. -/
theorem Bx.out {u : World} {g lo hi : Nat} {A : Option Addr} {c : Nat} {sp : List Sp} (h : Bx u g lo hi A c sp) : ¬ InW A sp g := by
  rintro (hg | ⟨s, hs, hg⟩)
  · exact own_ne_type h.O.row h.H (by decide) (by rw [ownBlock_eq]; exact hg)
  · exact own_ne_type (h.O.sp s hs) h.H (by decide) (by rw [ownBlock_eq]; exact hg)
/-- The wheel is marked. -/
theorem Bx.mark {u u' : World} {g lo hi k : Nat} {A : Option Addr} {c : Nat} {sp : List Sp} (h : Bx u g lo hi A c sp) (o : OwnW u' lo A c (marksW k sp)) (t : Tch (InW A sp) u u') : Bx u' g lo hi A c (marksW k sp) :=
  ⟨by rw [marksW_length]; exact t.blk h.H h.out, o, fun q hq => h.rng q (hq.imp id (fun h => (marksW_in A k sp q).1 h))⟩
/-- A store into the box. -/
theorem Bx.put {u : World} {g lo hi : Nat} {A : Option Addr} {c : Nat} {sp : List Sp} {z : Value} (hO : OwnW u lo A c sp) (hg : u.heap[g]? = some (.cells #[z] 57)) (hr : ∀ q, (q = g ∨ InW A sp q) → lo ≤ q ∧ q < hi) : Bx (u.setCell ⟨g, 0, none⟩ (.slice A sp.length c)) g lo hi A c sp := by
  refine ⟨?_, hO.put hg (by decide) (by decide) 0 _, hr⟩
  have := heap_setCell_same u g 0 #[z] 57 (.slice A sp.length c) hg
  simpa using this
/-- A wheel in new memory, its spokes apart, and a bool. -/
def NewXB (w : World) (x : List (List Pn) × Bool) (e : Ending) (w' : World) : Prop :=
  ∃ A c sp, e = .returned (.tuple #[.agg #[.slice A sp.length c], .bool x.2]) ∧ sp.map (·.l) = x.1 ∧ OwnW w' w.heap.size A c sp ∧ ApartW sp ∧ Below w.heap.size w w'
/-- The numbers of a wheel are ints. -/
def FitL (ls : List (List Pn)) : Prop := ∀ l ∈ ls, ∀ x ∈ l, x.fits
/-- A wheel is not larger than the law allows. -/
def SzW (ls : List (List Pn)) : Prop := ls.length ≤ 1048577 ∧ ls.flatten.length ≤ 1048575
theorem SzW.of {sp : List Sp} {ls : List (List Pn)} (h : SzW ls) (e : sp.map (fun s => s.l) = ls) : sp.length ≤ 1048577 ∧ (allPn sp).length ≤ 1048575 := by
  have h1 := congrArg List.length e
  simp at h1
  refine ⟨by have := h.1; omega, ?_⟩
  rw [← ls_flat, e]; exact h.2
theorem szV_okq {sp : List Sp} {q : Int} (hq : q ≤ 1048576) (h : 0 ≤ szV q sp) : SzW (sp.map (fun s => s.l)) := by
  unfold szV at h
  by_cases h2 : q - sp.length - (allPn sp).length < 0
  · rw [if_pos h2] at h; omega
  · refine ⟨by simp; omega, ?_⟩
    rw [ls_flat]
    by_cases h0 : sp.length = 0
    · have : sp = [] := List.eq_nil_of_length_eq_zero h0
      subst this; simp [allPn]
    · omega
theorem szV_ok {sp : List Sp} (h : 0 ≤ szV 1048576 sp) : SzW (sp.map (fun s => s.l)) := szV_okq (by omega) h
theorem szV_le {sp : List Sp} {q : Int} (hq : 0 ≤ q) : szV q sp ≤ q := by
  unfold szV; split <;> omega
theorem nine_sz : SzW nineW := by constructor <;> simp [nineW]
theorem dueV_len (ls : List (List Pn)) (now : Int) : (dueV ls now).length ≤ 10 := Nat.le_trans (List.length_filter_le _ _) (pinsW_len ls)
theorem wheelB_sz {ls : List (List Pn)} (h : wheelB ls = true) : SzW ls := by have h2 := wheelB_iff h; exact ⟨by have := h2.1; omega, by have := h2.2.1; omega⟩
theorem putV_sz {ls : List (List Pn)} (p : Pn) (h : SzW ls) : SzW (wheelPutV ls p).1 := by
  unfold wheelPutV
  split
  · split
    · rename_i h2; exact wheelB_sz h2
    · exact h
  · exact h
theorem flat_set_le (ls : List (List Pn)) (k : Nat) (l : List Pn) : (ls.set k l).flatten.length ≤ ls.flatten.length + l.length := by
  induction ls generalizing k with
  | nil => simp
  | cons x r ih =>
    cases k with
    | zero => simp; omega
    | succ k => have := ih k; simp at this ⊢; omega
theorem cutV_sz {ls : List (List Pn)} (p : Pn) (h : SzW ls) : SzW (wheelCutV ls p).1 := by
  unfold wheelCutV
  split
  · rename_i h1
    have h2 := wheelB_iff h1.1
    unfold cutPn
    cases hi : (ls.getD (p.at_.tmod 9).toNat []).findIdx? fun x => decide (x = p) with
    | none => exact h
    | some i =>
      refine ⟨by simp; have := h2.1; omega, ?_⟩
      have h3 := flat_set_le ls (p.at_.tmod 9).toNat ((ls.getD (p.at_.tmod 9).toNat []).take i ++ (ls.getD (p.at_.tmod 9).toNat []).drop (i + 1))
      have h4 : (ls.getD (p.at_.tmod 9).toNat []).length ≤ 10 := by
        rcases Nat.lt_or_ge (p.at_.tmod 9).toNat ls.length with hl | hl
        · have := (List.sublist_flatten_of_mem (getD_mem ls _ [] hl)).length_le
          have := h2.2.1; omega
        · rw [List.getD_eq_getElem?_getD, List.getElem?_eq_none hl]; simp
      have h5 : ((ls.getD (p.at_.tmod 9).toNat []).take i ++ (ls.getD (p.at_.tmod 9).toNat []).drop (i + 1)).length ≤ 10 := by
        rw [List.length_append, List.length_take, List.length_drop]; omega
      have h6 := h2.2.1
      simp only [Option.map_some, Option.getD_some]
      omega
  · exact h
theorem go_sz : ∀ (l : List Pn) (ls : List (List Pn)), SzW ls → SzW (wheelGo l ls).1
  | [], ls, h => h
  | p :: r, ls, h => by
    unfold wheelGo
    split
    · exact go_sz r _ (putV_sz p h)
    · exact ⟨by simp, by simp⟩
theorem ofV_sz (l : List Pn) : SzW (wheelOfV l).1 := go_sz l _ nine_sz
end Go.Proofs.YtlflgflmlfileaaGreat
