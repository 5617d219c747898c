/- Collect over pinsInOrder; IsSortedFunc, ContainsFunc of the program. -/
import Derived.Test.YtflomkebgiemaaaRows
import Derived.Test.YtflomkebgiemaaaWiJ
import Derived.RangeFuncNested
import Derived.RangeFuncBox
import Derived.RangeFuncBound
import Derived.RangeFuncCalls
import Derived.RangeFuncLeaves
import Derived.Shelf.Abstract
import Derived.Shelf.RegionOpen
import Derived.OwnWalkIn
import Derived.TacticsInMore
import Derived.LoopNIn
import Derived.LoopIn
import Derived.Maps.AppendAt
namespace Go.Proofs.Ytflomkebgiemaaa
open Go.RowKit Go.Shelf
set_option linter.unusedSimpArgs false
set_option linter.unusedVariables false
attribute [local go_sem] Oper.semAt_some
/-- The cells of a pin stand there. -/
def PnAt (W : World) (b : Nat) (x : Pn) : Prop := W.cell? ⟨b, 0, none⟩ = some (.int .i64 x.at_) ∧ W.cell? ⟨b, 1, none⟩ = some (.int .i64 x.id)
theorem PnAt.kept {W W' : World} {b : Nat} {x : Pn} {row : Option Nat} (h : PnAt W b x) (hg : W.grownBy W' row) (hr : ∀ r, row = some r → ∃ o : Obj, W.heap[r]? = some o ∧ o.isCells = false) : PnAt W' b x := ⟨cell_kept h.1 hg hr, cell_kept h.2 hg hr⟩
theorem PnAt.new (W : World) (x : Pn) (t : TypeId) : PnAt (W.alloc (.cells #[.int .i64 x.at_, .int .i64 x.id] t)) W.heap.size x := by
  refine ⟨?_, ?_⟩ <;> rw [World.cell?_alloc_at _ _ _ _ rfl] <;> rfl
theorem PnAt.alloc {W : World} {b : Nat} {x : Pn} (h : PnAt W b x) (o : Obj) : PnAt (W.alloc o) b x := h.kept (World.grownBy_alloc W o none) (fun r e => by cases e)
/-- What the iterator asks of a wheel. -/
structure Mrg (n₀ : Nat) (w : World) (A : Option Addr) (sp : List Sp) : Prop where
  pos : 0 < sp.length
  len : sp.length ≤ 1048577
  ten : (allPn sp).length ≤ 10
  dis : Distinct (allPn sp)
  srt : ∀ s ∈ sp, s.l.Pairwise Pn.less
  row : Rws w n₀ A (sp.flatMap spC)
  sps : ∀ s ∈ sp, SpR n₀ w s
theorem Mrg.below {n₀ : Nat} {w w' : World} {A : Option Addr} {sp : List Sp} (h : Mrg n₀ w A sp) (hb : Below n₀ w w') : Mrg n₀ w' A sp := ⟨h.pos, h.len, h.ten, h.dis, h.srt, h.row.below hb, fun s hs => (h.sps s hs).below hb⟩
set_option maxRecDepth 100000 in
theorem inOrder_row (n : Nat) (hn : 1 ≤ n) (Bs n₀ c : Nat) (A : Option Addr) (sp : List Sp) (w : World) (hM : Mrg n₀ w A sp) (hn₀ : n₀ ≤ w.heap.size) (hBs : Bs < w.heap.size) (hc : w.cell? ⟨Bs, 0, none⟩ = some (.slice A sp.length c)) :
    SeqRow Fence.wide n Try.prog 79 #[.pointer (some ⟨Bs, 0, none⟩)] (fun x : Pn => #[pnA x]) n₀ 1 (fun ys => ys = sortPn (allPn sp)) (fun pre => pre <+: sortPn (allPn sp)) (allPn sp).length w := fun l J Jx W hW hJ hJx hY h0 => by
  have hM' := hM.below (hW.mono hn₀)
  refine (inOrder_in n hn l Bs n₀ c A sp hM.pos hM.len hM.ten hM.dis hM.srt W J Jx hJ hY (Nat.le_trans hn₀ hW.size) ((hW.cell (p := ⟨Bs, 0, none⟩) hBs).trans hc) hM'.row hM'.sps h0).mono ?_
  rintro e W' ⟨he, hj | ⟨pre, hp, hj⟩⟩
  · exact ⟨he, .inl ⟨_, rfl, hj⟩⟩
  · exact ⟨he, .inr ⟨_, hp, hj⟩⟩
theorem Tch.boxed {P : Nat → Prop} {W W' : World} {b : Nat} {t : TypeId} {v : Value} (t' : Tch P W W') (h : Boxed W b t v) (hn : ¬ P b) : Boxed W' b t v := (t'.block b h.lt hn).trans h
theorem PnAt.tch {P : Nat → Prop} {W W' : World} {b : Nat} {x : Pn} (h : PnAt W b x) (t' : Tch P W W') (hn : ¬ P b) (hl : b < W.heap.size) : PnAt W' b x :=
  ⟨(World.cell?_of_block (a := ⟨b, 0, none⟩) (t'.block b hl hn)).trans h.1, (World.cell?_of_block (a := ⟨b, 1, none⟩) (t'.block b hl hn)).trans h.2⟩
theorem pn_one_new (W : World) (x : Pn) (t : TypeId) : ∀ j u, ([.int .i64 x.at_, .int .i64 x.id] : List Value)[j]? = some u → (W.alloc (.cells #[.int .i64 x.at_, .int .i64 x.id] t)).cell? ((⟨W.heap.size, 0, none⟩ : Addr).add j) = some u := by
  intro j u h
  match j, h with
  | 0, h => simp at h; subst h; exact (PnAt.new W x t).1
  | 1, h => simp at h; subst h; exact (PnAt.new W x t).2
  | j + 2, h => simp at h
/-- The loop's variable in its box, and what it has collected. -/
def Coll (w W : World) (b r : Nat) (q : List Pn) : Prop := ∃ v, Boxed W b 29 v ∧ W.ownsRow r 33 2 v q.length (q.flatMap pnC)
theorem Coll.tch {P : Nat → Prop} {w W W' : World} {b r : Nat} {q : List Pn} (h : Coll w W b r q) (t : Tch P W W') (hb : ¬ P b) (hr : ∀ g, r ≤ g → ¬ P g) : Coll w W' b r q := by
  obtain ⟨v, h1, h2⟩ := h
  exact ⟨v, t.boxed h1 hb, t.own h2 (fun g hg => hr g (World.ownsRow.lt h2 g hg).1)⟩
/-- What an append into the box leaves. -/
theorem Coll.app {w W w1 : World} {n₀ B b r : Nat} {q : List Pn} {x : Pn} {v v' : Value} {tmp : Obj} (hv : Boxed W b 29 v) (hrow : W.ownsRow r 33 2 v q.length (q.flatMap pnC)) (hn₀ : n₀ ≤ W.heap.size) (hnb : n₀ ≤ b) (hbB : b < B) (hrB : B + 3 < r) (hrW : r ≤ W.heap.size)
    (hown' : w1.ownsRow r 33 2 v' (q.length + 1) (q.flatMap pnC ++ [.int .i64 x.at_, .int .i64 x.id])) (hg : (W.alloc tmp).grownBy w1 v.ownBlock) :
    Boxed w1 b 29 v ∧ RdT n₀ B 1 W (w1.setCell ⟨b, 0, none⟩ v') ∧ Coll w (w1.setCell ⟨b, 0, none⟩ v') b r (q ++ [x]) ∧ Below n₀ W (w1.setCell ⟨b, 0, none⟩ v') := by
  have hv1 : Boxed w1 b 29 v := (hv.alloc tmp).kept hg (hv.not_row (by decide) hrow)
  have t1 : RdT n₀ B 1 W (W.alloc tmp) := Tch.of_below ((Below.refl _ _).alloc (Nat.le_refl _) _)
  have t2 : RdT n₀ B 1 (W.alloc tmp) w1 := Tch.of_grown hg (fun i hi => by
    have h9 := (World.ownsRow.lt hrow i hi).1
    exact ⟨by omega, fun h => by have := h.2; omega⟩)
  have t3 : RdT n₀ B 1 w1 (w1.setCell ⟨b, 0, none⟩ v') := Tch.of_grown (grownBy_setCell' w1 b v') (fun i e => by cases e; exact ⟨hnb, fun h => by have := h.1; omega⟩)
  have ta := (t1.trans t2).trans t3
  refine ⟨hv1, ta, ⟨v', hv1.set v', ?_⟩, ta.below hn₀⟩
  have h8 := hown'.kept (grownBy_setCell' w1 b v') (.inr (hv1.not_row (by decide) hown').symm)
  rw [List.length_append, List.flatMap_append]
  simpa [pnC] using h8
set_option maxRecDepth 100000 in
set_option maxHeartbeats 8000000 in
theorem appendSeq_in (n : Nat) (hn : 3 ≤ n) (Bs c : Nat) (A : Option Addr) (sp : List Sp) (w : World) (hM : Mrg w.heap.size w A sp) (hBs : Bs < w.heap.size) (hc : w.cell? ⟨Bs, 0, none⟩ = some (.slice A sp.length c)) :
    CallsIn Fence.wide n Try.prog 88 #[.slice none 0 0, .func (.func 79) #[] #[.pointer (some ⟨Bs, 0, none⟩)]] w fun e W' => ∃ v, e = .returned v ∧ W'.ownsRow w.heap.size 33 2 v (sortPn (allPn sp)).length ((sortPn (allPn sp)).flatMap pnC) ∧ Below w.heap.size w W' := by
  have hro : Fence.wide.round = none := rfl
  have h0f : Fence.wide.fn 88 := trivial
  have h1f : Fence.wide.fn 79 := trivial
  have h1 : 1 ≤ n := by omega
  obtain ⟨i0, hi, hz0, hz1, hz2⟩ := info_parts rowPin.inf
  obtain ⟨U, hU⟩ : ∃ U, w.alloc (.cells #[.slice none 0 0] 29) = U := ⟨_, rfl⟩
  have hUs : U.heap.size = w.heap.size + 1 := by rw [← hU]; simp
  have bO : Boxed U w.heap.size 29 (.slice none 0 0) := by rw [← hU]; exact Boxed.new _ _ _
  have hBU : Below w.heap.size w U := by rw [← hU]; exact (Below.refl _ w).alloc (Nat.le_refl _) _
  have hcU : U.cell? ⟨Bs, 0, none⟩ = some (.slice A sp.length c) := (hBU.cell (p := ⟨Bs, 0, none⟩) hBs).trans hc
  have hten := hM.ten
  refine callsIn_of_wp_marks Try.func88 rfl h0f ?_ hro
  simp only [Try.ntmps88, List.size_toArray, List.length_cons, List.length_nil, Nat.reduceAdd, Nat.reduceSub, Array.replicate_succ, Array.replicate_zero, List.push_toArray, List.append_toArray, List.nil_append, List.cons_append]
  gi_wp2
  try rw [hU]
  clear hU
  have hrow := inOrder_row (n - 1) (by omega) Bs w.heap.size c A sp U (hM.below hBU) (by omega) (by omega) hcU
  refine wpIn_rangeFunc_row hro h1 (gf := 79) (lb := #[.pointer (some ⟨Bs, 0, none⟩)]) rfl h1f (enters_of Try.func79 (by kernel_rfl) rfl) hrow (by omega) (fun _ => rfl)
    (fun pre W => Coll w W w.heap.size (w.heap.size + 5) pre ∧ Below w.heap.size w W) (fun _ _ _ => False) ?hI (fun _ _ _ _ h _ => h) ⟨⟨_, bO, World.ownsRow_nil _ _ _ _⟩, hBU⟩
    (fun x a' W => ∃ Bx, w.heap.size + 4 < Bx ∧ Bx < W.heap.size ∧ PnAt W Bx x ∧ a' = { tmps := #[.slice none 0 0, .func (.func 79) #[] #[.pointer (some ⟨Bs, 0, none⟩)], .pointer (some ⟨w.heap.size, 0, none⟩), undef, .slice none 0 0, .pointer (some ⟨Bx, 0, none⟩), .func (.func 79) #[] #[.pointer (some ⟨Bs, 0, none⟩)], pnA x, undef, undef, undef, undef, undef], defers := [] })
    ?hAx ?assign ?body ?done ?stop
  case hI =>
    rintro s X Y ⟨h2, h3⟩ t
    exact ⟨h2.tch t (fun h => by have := h.1; omega) (fun g hg h => by have := h.2; omega), h3.trans (t.below h3.size (fun i hi => by have := hi.1; omega))⟩
  case hAx =>
    rintro x a' X Y ⟨Bx, q1, q2, q3, q4⟩ t
    exact ⟨Bx, q1, Nat.lt_of_lt_of_le q2 t.size, q3.tch t (fun h => by have := h.2; omega) q2, q4⟩
  case assign =>
    rintro l pre x W K ⟨h2, h3⟩ hbig hK
    have hz : (Array.zip (α := Tmp) (β := Value) #[7] #[pnA x]) = #[(7, pnA x)] := by simp
    rw [hz]
    simp only [List.foldl_toArray, List.foldl_cons, List.foldl_nil, List.setIfInBounds_toArray, List.set_cons_succ, List.set_cons_zero]
    unfold pnA at hK ⊢
    have ba : Below W.heap.size W (W.alloc (.cells #[.int .i64 x.at_, .int .i64 x.id] 33)) := (Below.refl _ _).alloc (Nat.le_refl _) _
    have HK := Lib.hid (hK _ _ (Tch.of_below ba) ⟨h2.tch (P := fun _ => False) (Tch.of_below ba) (fun h => h) (fun _ _ h => h), h3.alloc h3.size _⟩ ⟨W.heap.size, by omega, by simp, PnAt.new W x _, rfl⟩)
    clear hK
    gi_wp2
    exact HK.out
  case body =>
    rintro l pre x a' W ⟨⟨v, hv, hrw⟩, hB1⟩ ⟨Bx, q1, q2, q3, rfl⟩ hlt hbig
    obtain ⟨x0, x1⟩ := id q3
    have hc := hv.cell
    unfold pnA
    clear q3
    gi_wp2_with (gi_at_builtin; refine wpListIn_append_own _ rfl _ _ 29 rfl (w.heap.size + 5) 33 i0 (.agg #[.int .i64 0, .int .i64 0]) 2 16 rowPin.ut hi hz0 hz1 hz2 rowPin.zc rowPin.pos _ _ _ rfl (hrw.alloc _) ⟨W.heap.size, 0, none⟩ 1 1 [.int .i64 x.at_, .int .i64 x.id] rfl rfl (pn_one_new _ _ _) (by simp [Value.oneCell']) (by unfold maxLen; omega) (by omega) (by simp; omega) ?_; intro v' w1 hown' hgrow _; obtain ⟨g', cap', rfl⟩ := ownsRow_succ hown'; obtain ⟨hv1, hT, hC, hB2⟩ := Coll.app (w := w) (n₀ := w.heap.size) (B := U.heap.size) hv hrw hB1.size (Nat.le_refl _) (by omega) (by omega) (by omega) hown' hgrow; have hc1 := hv1.cell; have hf1 := hv1.frozen)
    exact ⟨hT, hC, hB1.trans hB2⟩
  case done =>
    rintro D ys W hD rfl ⟨⟨v, hv, hrw⟩, hB1⟩ hK
    have hc := hv.cell
    have HR : Hid (∃ v', v = v' ∧ (W.putObj D (.deferred none)).ownsRow w.heap.size 33 2 v' (sortPn (allPn sp)).length ((sortPn (allPn sp)).flatMap pnC) ∧ Below w.heap.size w (W.putObj D (.deferred none))) :=
      ⟨v, rfl, ownsRow_putObj (own_weak hrw (by omega)) _ hK rfl, hB1.trans (belowK_b (w := w) (Nat.le_refl _) W D _ (.deferred none) (by omega) hK rfl rfl)⟩
    clear hrw
    gi_wp2
    refine ⟨by simp, .inl ⟨_, _, rfl, run_takeDeferred hK, ?_⟩⟩
    obtain ⟨v', rfl, r1, r2⟩ := HR.out
    refine ⟨v, ?_, v, rfl, r1, r2⟩
    simp [results, Try.f88, go_sem]
  case stop =>
    rintro D cd pre W _ _ h _
    exact h.elim
set_option maxRecDepth 100000 in
set_option maxHeartbeats 2000000 in
theorem collect_in (n : Nat) (hn : 4 ≤ n) (Bs c : Nat) (A : Option Addr) (sp : List Sp) (w : World) (hM : Mrg w.heap.size w A sp) (hBs : Bs < w.heap.size) (hc : w.cell? ⟨Bs, 0, none⟩ = some (.slice A sp.length c)) :
    Calls Try.prog 63 #[.func (.func 79) #[] #[.pointer (some ⟨Bs, 0, none⟩)]] w (NewR 33 2 w (sortPn (allPn sp)).length ((sortPn (allPn sp)).flatMap pnC)) := by
  have C := Lib.hid (callsIn_wide.1 (appendSeq_in 3 (Nat.le_refl _) Bs c A sp w hM hBs hc))
  generalize (sortPn (allPn sp)).flatMap pnC = cs at *
  generalize (sortPn (allPn sp)).length = m at *
  clear hM hc
  go_enter Try.func63, Try.ntmps63
  go_wp2_with fail
  refine C.out.mono ?_
  rintro e w1 ⟨v, rfl, o1, b1⟩
  have R := Lib.hid (NewR.of_own o1 b1)
  clear o1 b1 C
  go_wp2
  go_ret
  exact R.out
set_option maxRecDepth 100000 in
set_option maxHeartbeats 800000 in
theorem index_im (A : Option Addr) (l : List Int) (c : Nat) (z : Int) (w : World) (hl : l.length ≤ 2097152) (hA : Rws w w.heap.size A (ints l)) :
    Calls Try.prog 90 #[.slice A l.length c, .int .i64 z] w fun e w' => (∃ r : Int, e = .returned (.int .i64 r) ∧ decide (0 ≤ r) = decide (z ∈ l)) ∧ w = w' := by
  go_enter Try.func90, Try.ntmps90
  go_wp2
  go_loop [8] (fun i => ∃ k : Nat, k ≤ l.length ∧ i = .int .i64 k ∧ (∀ j, j < k → l.getD j 0 ≠ z)) (fun i => l.length - (intOf i).toNat)
  case atStart => exact ⟨0, by omega, rfl, (fun j hj => by omega)⟩
  case round =>
    obtain ⟨k, hk, rfl, hall⟩ := hrel
    by_cases hlt : k < l.length
    · obtain ⟨b, off, rfl, hbB, hc⟩ := hA.int hlt
      by_cases hx : l.getD k 0 = z
      · have HY : Hid (decide (z ∈ l) = true) := by
          show _ = _
          refine decide_eq_true ?_
          rw [← hx]; exact getD_mem l k 0 hlt
        clear hall
        generalize l.getD k 0 = x at *
        have e0 : (z == x) = true := by simp [hx]
        clear hx
        go_wp2
        go_ret
        exact ⟨⟨(k : Int), rfl, ⟨fun _ => of_decide_eq_true HY.out, fun _ => by omega⟩⟩, rfl⟩
      · have hall' : ∀ j, j < k + 1 → l.getD j 0 ≠ z := by
          intro j hj
          by_cases e : j = k
          · subst e; exact hx
          · exact hall j (by omega)
        have HA := Lib.hid hall'
        clear hall hall'
        generalize l.getD k 0 = x at *
        have e0 : (z == x) = false := by simp [Ne.symm hx]
        go_wp2
        go_round
        case rel => exact ⟨k + 1, by omega, by go_num, HA.out⟩
        case measure => simp [intOf]; omega
    · have HN : Hid (decide (z ∈ l) = false) := by
        show _ = _
        refine decide_eq_false (fun h => ?_)
        obtain ⟨j, hj, e⟩ := List.getElem_of_mem h
        have := hall j (by omega)
        rw [List.getD_eq_getElem?_getD, List.getElem?_eq_getElem hj] at this
        exact this e
      clear hall
      go_wp2
      go_ret
      exact ⟨⟨-1, rfl, ⟨fun h => absurd h (by omega), fun h => absurd h (of_decide_eq_false HN.out)⟩⟩, rfl⟩
set_option maxRecDepth 100000 in
set_option maxHeartbeats 800000 in
theorem contains_im (A : Option Addr) (l : List Int) (c : Nat) (z : Int) (w : World) (hl : l.length ≤ 2097152) (hA : Rws w w.heap.size A (ints l)) :
    Calls Try.prog 73 #[.slice A l.length c, .int .i64 z] w fun e w' => e = .returned (.bool (decide (z ∈ l))) ∧ w = w' := by
  have C := Lib.hid (index_im A l c z w hl hA)
  go_enter Try.func73, Try.ntmps73
  go_wp2_with fail
  refine C.out.mono ?_
  rintro e w1 ⟨⟨r, rfl, hr⟩, rfl⟩
  have HR := Lib.hid hr
  clear hr C
  go_wp2
  go_ret
  exact ⟨by rw [← HR.out] <;> rfl, rfl⟩
/-- A call of a function value that captures nothing is entered. -/
theorem exec_callv {P : Program} {a : Act} {o : Oper} {f : FuncId} {x : Operand} {xs : Array Operand} {ats : Array TypeId} {args : Array Value} {fn : Func} (hf : P.funcs[f]? = some fn) (hn : (fn.name == "runtime.NumGoroutine") = false) (hb : fn.body.isNone = false) (w : World)
    (ho : o.op = .call { callee := .value x, args := xs, argTypes := ats } := by rfl) (ef : a.eval x = .func (.func f) #[] #[] := by rfl) (ha : xs.map a.eval = args := by (simp only [List.map_toArray, List.map_cons, List.map_nil]; rfl)) : (execOp a.eval o).run P w = .ok (.enter f args) w := by
  subst ha
  have h1 : fn.name ≠ "runtime.NumGoroutine" := by simpa using hn
  unfold execOp
  obtain ⟨c, hc⟩ : ∃ c, fn.body = some c := by
    cases h : fn.body with
    | none => rw [h] at hb; cases hb
    | some c => exact ⟨c, rfl⟩
  simp [ho, resolve, Deferred.ofValue, invoke, ef, callFunc, hf, h1, hc]
/-- No pin stands behind a greater one. -/
def Srt (l : List Pn) : Prop := ∀ i, 0 < i → i < l.length → ¬ Pn.less (l.getD i pn0) (l.getD (i - 1) pn0)
/-- The call tells p. -/
def TellB (p : Prop) (e : Ending) : Prop := ∃ q, e = .returned (.bool q) ∧ (q = true ↔ p)
theorem TellB.yes {p : Prop} (h : p) : TellB p (.returned (.bool true)) := ⟨true, rfl, by simp [h]⟩
theorem TellB.no {p : Prop} (h : ¬ p) : TellB p (.returned (.bool false)) := ⟨false, rfl, by simp [h]⟩
theorem TellB.of {p : Prop} {q : Bool} (h : q = true ↔ p) : TellB p (.returned (.bool q)) := ⟨q, rfl, h⟩
/-- The call returns a place just where p. -/
def TellZ (p : Prop) (e : Ending) : Prop := ∃ z : Int, e = .returned (.int .i64 z) ∧ (0 ≤ z ↔ p)
theorem TellZ.of {p : Prop} {z : Int} (h : 0 ≤ z ↔ p) : TellZ p (.returned (.int .i64 z)) := ⟨z, rfl, h⟩
set_option maxRecDepth 100000 in
set_option maxHeartbeats 3200000 in
theorem isSorted_im (A : Option Addr) (l : List Pn) (c : Nat) (w : World) (hl : l.length ≤ 1048577) (hA : Rws w w.heap.size A (l.flatMap pnC)) :
    Calls Try.prog 92 #[.slice A l.length c, .func (.func 56) #[] #[]] w fun e w' => TellB (Srt l) e ∧ Below w.heap.size w w' := by
  have HA := Lib.hid hA
  have hw1 : IntKind.i64.wrap ((l.length : Int) - 1) = (l.length : Int) - 1 := by rw [IntKind.wrap_i64]; omega
  clear hA
  go_enter Try.func92, Try.ntmps92
  go_wp2
  go_loopw [5] (fun i wr => ∃ (k : Nat) (z : Int), k ≤ l.length ∧ z = (k : Int) - 1 ∧ i = .int .i64 z ∧ Hid (∀ j, k ≤ j → 0 < j → j < l.length → ¬ Pn.less (l.getD j pn0) (l.getD (j - 1) pn0)) ∧ Hid (Below w.heap.size w wr)) (fun i _ => (intOf i + 1).toNat)
  case atStart => exact ⟨l.length, _, Nat.le_refl _, rfl, by go_num, (fun j h1 _ h2 => by omega), Below.refl _ _⟩
  case round =>
    obtain ⟨k, z, hk, hz, rfl, hall, hb⟩ := hrel
    by_cases h2 : 2 ≤ k
    rotate_left
    · have hz0 : ¬ (0 < z) := by omega
      have HY : Hid (Srt l) := fun i h1 h3 => hall.out i (by omega) h1 h3
      clear hz hall
      go_wp2
      go_ret
      exact ⟨TellB.yes HY.out, hb.out⟩
    · obtain ⟨i, hi⟩ : ∃ i : Nat, i = k - 1 := ⟨_, rfl⟩
      have hz2 : z = (i : Int) := by omega
      subst hz2
      have hi1 : 0 < i := by omega
      have hil : i < l.length := by omega
      have HRr := Lib.hid (rws_below HA.out hb.out)
      obtain ⟨b, off, rfl, hbB, hx⟩ := HRr.out.pn hil
      obtain ⟨b', off', e', _, hy⟩ := HRr.out.pn (i := i - 1) (by omega)
      obtain ⟨rfl, rfl⟩ : b' = b ∧ off' = off := by injection e' with e'; injection e' with e1 e2; exact ⟨e1.symm, e2.symm⟩
      have hall2 : Hid (¬ Pn.less (l.getD i pn0) (l.getD (i - 1) pn0) → ∀ j, i ≤ j → 0 < j → j < l.length → ¬ Pn.less (l.getD j pn0) (l.getD (j - 1) pn0)) := fun h j h3 h4 h5 => by
        by_cases e : j = i
        · subst e; exact h
        · exact hall.out j (by omega) h4 h5
      have hno : Hid (Pn.less (l.getD i pn0) (l.getD (i - 1) pn0) → ¬ Srt l) := fun h hs => hs i hi1 hil h
      clear hall e'
      generalize l.getD i pn0 = x at *
      generalize l.getD (i - 1) pn0 = y at *
      have KX := Lib.hid (fun w' (h : Below wr.heap.size wr w') => hx.below h hbB)
      have KY := Lib.hid (fun w' (h : Below wr.heap.size wr w') => hy.below h hbB)
      have HL := Lib.hid (ordP_less x y)
      have hiz : (0 : Int) < (i : Int) := by omega
      clear hx hy hz hi h2
      by_cases hless : Pn.less x y
      · have HO : Hid (decide (ordP x y < 0) = true) := HL.out.trans (decide_eq_true hless)
        have HN := Lib.hid (hno.out hless)
        clear hall2 hno HL hless
        go_wp2_with fail
        refine wp_region_held_drew (S := fun w' => Hid (Below wr.heap.size wr w')) (by kernel_rfl) (below_drawn (Below.refl _ _) 1) (fun hHeld => ?_)
        refine held_take 0 13 (.func (.func 56) #[] #[]) rfl rfl (by kernel_rfl) (by kernel_rfl) (by kernel_rfl) (fun _ _ _ h => h) rfl hHeld (fun w _ => rfl) ?_
        refine held_take 1 14 (.slice (some ⟨b', off', none⟩) l.length c) rfl rfl (by kernel_rfl) (by kernel_rfl) (by kernel_rfl) (fun _ _ _ h => h) rfl hHeld (fun w _ => rfl) ?_
        refine held_take 2 15 (.int .i64 (i : Int)) rfl rfl (by kernel_rfl) (by kernel_rfl) (by kernel_rfl) (fun _ _ _ h => h) rfl hHeld (fun w _ => rfl) ?_
        simp only [Act.put, List.setIfInBounds_toArray, List.set_cons_zero, List.set_cons_succ]
        refine held_take 3 16 (.pointer (some ⟨b', off' + i * 2, none⟩)) rfl rfl (by kernel_rfl) (by kernel_rfl) (by kernel_rfl) (fun _ _ _ h => h) rfl hHeld (fun w _ => exec_idx_pn b' off' l.length c i w (by omega)) ?_
        refine held_take 4 17 (pnA x) rfl rfl (by kernel_rfl) (by kernel_rfl) (by kernel_rfl) (fun _ _ _ h => h) rfl hHeld (fun w h => exec_load_pn b' (off' + i * 2) x w (KX.out w h.out)) ?_
        refine held_take 5 18 (.slice (some ⟨b', off', none⟩) l.length c) rfl rfl (by kernel_rfl) (by kernel_rfl) (by kernel_rfl) (fun _ _ _ h => h) rfl hHeld (fun w _ => rfl) ?_
        simp only [Act.put, List.setIfInBounds_toArray, List.set_cons_zero, List.set_cons_succ]
        refine held_take 6 19 (.int .i64 (i : Int)) rfl rfl (by kernel_rfl) (by kernel_rfl) (by kernel_rfl) (fun _ _ _ h => h) rfl hHeld (fun w _ => rfl) ?_
        refine held_take 7 20 (.int .i64 ((i - 1 : Nat) : Int)) rfl rfl (by kernel_rfl) (by kernel_rfl) (by kernel_rfl) (fun _ _ _ h => h) rfl hHeld (fun w _ => exec_subI (i : Int) 1 _ w (by omega) (by omega) (by omega)) ?_
        refine held_take 8 21 (.pointer (some ⟨b', off' + (i - 1) * 2, none⟩)) rfl rfl (by kernel_rfl) (by kernel_rfl) (by kernel_rfl) (fun _ _ _ h => h) rfl hHeld (fun w _ => exec_idx_pn b' off' l.length c (i - 1) w (by omega)) ?_
        simp only [Act.put, List.setIfInBounds_toArray, List.set_cons_zero, List.set_cons_succ]
        refine held_take 9 22 (pnA y) rfl rfl (by kernel_rfl) (by kernel_rfl) (by kernel_rfl) (fun _ _ _ h => h) rfl hHeld (fun w h => exec_load_pn b' (off' + (i - 1) * 2) y w (KY.out w h.out)) ?_
        simp only [Act.put, List.setIfInBounds_toArray, List.set_cons_zero, List.set_cons_succ]
        refine held_call 10 23 56 #[pnA x, pnA y] rfl rfl (by kernel_rfl) rfl (exec_callv Try.func56 (by kernel_rfl) (by kernel_rfl) _) ?_
        refine (pinOrder_im x y _).mono ?_
        rintro e u1 ⟨rfl, x1⟩
        have hHeld : Hid (Below wr.heap.size wr u1) := hHeld.out.trans (x1.mono hHeld.out.size)
        refine ⟨_, rfl, hHeld, ?_⟩
        simp only [Act.put, List.setIfInBounds_toArray, List.set_cons_zero, List.set_cons_succ]
        refine held_take 11 24 (.bool true) rfl rfl (by kernel_rfl) (by kernel_rfl) (by kernel_rfl) (fun _ _ _ h => h) rfl hHeld (fun w _ => exec_lssI (ordP x y) 0 _ w HO.out) ?_
        simp only [Act.put, List.setIfInBounds_toArray, List.set_cons_zero, List.set_cons_succ]
        refine wpAnyH_done (by kernel_rfl) ?_ _
        have BF := Lib.hid (hb.out.trans (hHeld.out.mono hb.out.size))
        clear hHeld x1
        go_wp2
        go_ret
        exact ⟨TellB.no HN.out, BF.out⟩
      · have HO : Hid (decide (ordP x y < 0) = false) := HL.out.trans (decide_eq_false hless)
        have HN := Lib.hid (hall2.out hless)
        clear hall2 hno HL hless
        go_wp2_with fail
        refine wp_region_held_drew (S := fun w' => Hid (Below wr.heap.size wr w')) (by kernel_rfl) (below_drawn (Below.refl _ _) 1) (fun hHeld => ?_)
        refine held_take 0 13 (.func (.func 56) #[] #[]) rfl rfl (by kernel_rfl) (by kernel_rfl) (by kernel_rfl) (fun _ _ _ h => h) rfl hHeld (fun w _ => rfl) ?_
        refine held_take 1 14 (.slice (some ⟨b', off', none⟩) l.length c) rfl rfl (by kernel_rfl) (by kernel_rfl) (by kernel_rfl) (fun _ _ _ h => h) rfl hHeld (fun w _ => rfl) ?_
        refine held_take 2 15 (.int .i64 (i : Int)) rfl rfl (by kernel_rfl) (by kernel_rfl) (by kernel_rfl) (fun _ _ _ h => h) rfl hHeld (fun w _ => rfl) ?_
        simp only [Act.put, List.setIfInBounds_toArray, List.set_cons_zero, List.set_cons_succ]
        refine held_take 3 16 (.pointer (some ⟨b', off' + i * 2, none⟩)) rfl rfl (by kernel_rfl) (by kernel_rfl) (by kernel_rfl) (fun _ _ _ h => h) rfl hHeld (fun w _ => exec_idx_pn b' off' l.length c i w (by omega)) ?_
        refine held_take 4 17 (pnA x) rfl rfl (by kernel_rfl) (by kernel_rfl) (by kernel_rfl) (fun _ _ _ h => h) rfl hHeld (fun w h => exec_load_pn b' (off' + i * 2) x w (KX.out w h.out)) ?_
        refine held_take 5 18 (.slice (some ⟨b', off', none⟩) l.length c) rfl rfl (by kernel_rfl) (by kernel_rfl) (by kernel_rfl) (fun _ _ _ h => h) rfl hHeld (fun w _ => rfl) ?_
        simp only [Act.put, List.setIfInBounds_toArray, List.set_cons_zero, List.set_cons_succ]
        refine held_take 6 19 (.int .i64 (i : Int)) rfl rfl (by kernel_rfl) (by kernel_rfl) (by kernel_rfl) (fun _ _ _ h => h) rfl hHeld (fun w _ => rfl) ?_
        refine held_take 7 20 (.int .i64 ((i - 1 : Nat) : Int)) rfl rfl (by kernel_rfl) (by kernel_rfl) (by kernel_rfl) (fun _ _ _ h => h) rfl hHeld (fun w _ => exec_subI (i : Int) 1 _ w (by omega) (by omega) (by omega)) ?_
        refine held_take 8 21 (.pointer (some ⟨b', off' + (i - 1) * 2, none⟩)) rfl rfl (by kernel_rfl) (by kernel_rfl) (by kernel_rfl) (fun _ _ _ h => h) rfl hHeld (fun w _ => exec_idx_pn b' off' l.length c (i - 1) w (by omega)) ?_
        simp only [Act.put, List.setIfInBounds_toArray, List.set_cons_zero, List.set_cons_succ]
        refine held_take 9 22 (pnA y) rfl rfl (by kernel_rfl) (by kernel_rfl) (by kernel_rfl) (fun _ _ _ h => h) rfl hHeld (fun w h => exec_load_pn b' (off' + (i - 1) * 2) y w (KY.out w h.out)) ?_
        simp only [Act.put, List.setIfInBounds_toArray, List.set_cons_zero, List.set_cons_succ]
        refine held_call 10 23 56 #[pnA x, pnA y] rfl rfl (by kernel_rfl) rfl (exec_callv Try.func56 (by kernel_rfl) (by kernel_rfl) _) ?_
        refine (pinOrder_im x y _).mono ?_
        rintro e u1 ⟨rfl, x1⟩
        have hHeld : Hid (Below wr.heap.size wr u1) := hHeld.out.trans (x1.mono hHeld.out.size)
        refine ⟨_, rfl, hHeld, ?_⟩
        simp only [Act.put, List.setIfInBounds_toArray, List.set_cons_zero, List.set_cons_succ]
        refine held_take 11 24 (.bool false) rfl rfl (by kernel_rfl) (by kernel_rfl) (by kernel_rfl) (fun _ _ _ h => h) rfl hHeld (fun w _ => exec_lssI (ordP x y) 0 _ w HO.out) ?_
        simp only [Act.put, List.setIfInBounds_toArray, List.set_cons_zero, List.set_cons_succ]
        refine wpAnyH_done (by kernel_rfl) ?_ _
        have BF := Lib.hid (hb.out.trans (hHeld.out.mono hb.out.size))
        clear hHeld x1
        go_wp2
        go_roundw
        case rel => exact ⟨i, (i : Int) - 1, by omega, rfl, by go_num, HN, BF⟩
        case measure => simp [intOf] <;> omega
set_option maxRecDepth 100000 in
set_option maxHeartbeats 800000 in
theorem isUnsorted_im (A : Option Addr) (l : List Pn) (c : Nat) (w : World) (hl : l.length ≤ 1048577) (hA : Rws w w.heap.size A (l.flatMap pnC)) :
    Calls Try.prog 75 #[.slice A l.length c] w fun e w' => TellB (¬ Srt l) e ∧ Below w.heap.size w w' := by
  have C := Lib.hid (isSorted_im A l c w hl hA)
  clear hA
  go_enter Try.func75, Try.ntmps75
  go_wp2_with fail
  refine C.out.mono ?_
  rintro e w1 ⟨⟨q, rfl, hq⟩, b1⟩
  have B1 := Lib.hid b1
  have HQ := Lib.hid hq
  clear b1 C hq
  go_wp2
  go_ret
  refine ⟨TellB.of (q := !q) ?_, B1.out⟩
  have := HQ.out
  cases q
  · simp at this ⊢; exact this
  · simp at this ⊢; exact this
set_option maxRecDepth 100000 in
set_option maxHeartbeats 1600000 in
theorem indexFuncS_im (A : Option Addr) (sp : List Sp) (c : Nat) (w : World) (hn : sp.length ≤ 1048577) (hl : (allPn sp).length ≤ 1048577) (hA : Whl w A sp) :
    Calls Try.prog 91 #[.slice A sp.length c, .func (.func 75) #[] #[]] w fun e w' => TellZ (∃ s ∈ sp, ¬ Srt s.l) e ∧ Below w.heap.size w w' := by
  have HA := Lib.hid hA
  clear hA
  go_enter Try.func91, Try.ntmps91
  go_wp2
  go_loopw [8] (fun i wr => ∃ k : Nat, k ≤ sp.length ∧ i = .int .i64 k ∧ Hid (∀ j, j < k → Srt (sp.getD j sp0).l) ∧ Hid (Below w.heap.size w wr)) (fun i _ => sp.length - (intOf i).toNat)
  case atStart => exact ⟨0, by omega, rfl, (fun j hj => by omega), Below.refl _ _⟩
  case round =>
    obtain ⟨k, hk, rfl, hall, hb⟩ := hrel
    by_cases hlt : k < sp.length
    · have hW := HA.out.below hb.out
      have hs := (hW.at_ hlt).row
      obtain ⟨b, off, rfl, hbB, hc⟩ := hW.row.sp hlt
      have hsl := at_le_all sp hlt
      have HI : Hid (¬ Srt (sp.getD k sp0).l → ∃ s ∈ sp, ¬ Srt s.l) := fun h => ⟨_, getD_mem sp k sp0 hlt, h⟩
      have HN : Hid (Srt (sp.getD k sp0).l → ∀ j, j < k + 1 → Srt (sp.getD j sp0).l) := fun h j hj => by
        by_cases e : j = k
        · subst e; exact h
        · exact hall.out j (by omega)
      clear hall hW
      generalize sp.getD k sp0 = s at *
      have C := Lib.hid (isUnsorted_im s.a s.l s.c wr (by omega) hs)
      clear hs
      obtain ⟨sa, sc, sl⟩ := s
      simp only at C hc HI HN hsl
      go_wp2_with fail
      refine C.out.mono ?_
      rintro e w1 ⟨⟨q, rfl, hq⟩, b1⟩
      have B1 := Lib.hid (hb.out.trans (b1.mono hb.out.size))
      have HQ := Lib.hid hq
      clear b1 C hc hq
      cases q with
      | true =>
        have HY := Lib.hid (HI.out (HQ.out.1 rfl))
        clear HI HN HQ
        go_wp2
        go_ret
        exact ⟨TellZ.of (z := (k : Int)) ⟨fun _ => HY.out, fun _ => by omega⟩, B1.out⟩
      | false =>
        have HZ := Lib.hid (HN.out (Classical.not_not.1 (fun h => by have := HQ.out.2 h; cases this)))
        clear HI HN HQ
        go_wp2
        go_roundw
        case rel => exact ⟨k + 1, by omega, by go_num, HZ, B1⟩
        case measure => simp [intOf]; omega
    · obtain rfl : k = sp.length := by omega
      have HN : Hid (¬ ∃ s ∈ sp, ¬ Srt s.l) := by
        rintro ⟨s, hs, h⟩
        obtain ⟨j, hj, rfl⟩ := List.getElem_of_mem hs
        have := hall.out j hj
        rw [List.getD_eq_getElem?_getD, List.getElem?_eq_getElem hj] at this
        exact h this
      clear hall
      go_wp2
      go_ret
      exact ⟨TellZ.of (z := -1) ⟨fun h => absurd h (by omega), fun h => absurd h HN.out⟩, hb.out⟩
set_option maxRecDepth 100000 in
set_option maxHeartbeats 800000 in
theorem containsFuncS_im (A : Option Addr) (sp : List Sp) (c : Nat) (w : World) (hn : sp.length ≤ 1048577) (hl : (allPn sp).length ≤ 1048577) (hA : Whl w A sp) :
    Calls Try.prog 74 #[.slice A sp.length c, .func (.func 75) #[] #[]] w fun e w' => TellB (∃ s ∈ sp, ¬ Srt s.l) e ∧ Below w.heap.size w w' := by
  have C := Lib.hid (indexFuncS_im A sp c w hn hl hA)
  clear hA
  go_enter Try.func74, Try.ntmps74
  go_wp2_with fail
  refine C.out.mono ?_
  rintro e w1 ⟨⟨z, rfl, hz⟩, b1⟩
  have B1 := Lib.hid b1
  have HZ := Lib.hid hz
  clear b1 C hz
  go_wp2
  go_ret
  exact ⟨TellB.of (q := decide (0 ≤ z)) (by rw [decide_eq_true_iff]; exact HZ.out), B1.out⟩
end Go.Proofs.Ytflomkebgiemaaa
