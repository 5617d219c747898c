/- Texts laid together: Hs17, Hs18, Hs19, Hs20. -/
import Derived.Test.YtlflgflmlfileaaGreatRows
import Derived.Test.YtlflgflmlfileaaGreatHs16
import Derived.Test.YtlflgflmlfileaaGreatLateF
namespace Go.Proofs.YtlflgflmlfileaaGreat
open Go.RowKit
set_option linter.unusedSimpArgs false
set_option linter.unusedVariables false
/-- A cabin's cells. -/
structure Cb where
  le : Le
  q : Option Addr
  qn : Nat
  qc : Nat
  p : Option Addr
  pn : Nat
  pc : Nat
def cbA (x : Cb) : Value := .agg #[.int .i64 x.le.total, .int .i64 x.le.free, .int .i64 x.le.held, .int .i64 x.le.sold, .int .i64 x.le.tied, .slice x.q x.qn x.qc, .slice x.p x.pn x.pc]
theorem sum_in (l : List Pt) (f : Pt → Int) (h : ∀ x, 0 ≤ f x ∧ f x ≤ 6) : 0 ≤ (l.map f).sum ∧ (l.map f).sum ≤ 6 * l.length := by
  induction l with
  | nil => simp
  | cons x l ih =>
    have := h x
    rw [List.map_cons, List.sum_cons, List.length_cons]
    omega
theorem held_in (l : List Pt) (cabin : Int) : 0 ≤ heldV l cabin ∧ heldV l cabin ≤ 6 * l.length := sum_in l _ (fun x => by split <;> omega)
theorem tied_in (l : List Pt) (cabin : Int) : 0 ≤ tiedV l cabin ∧ tiedV l cabin ≤ 6 * l.length := sum_in l _ (fun x => by split <;> omega)
theorem pinsV_len (l : List Pt) (cabin : Int) : (pinsV l cabin).length ≤ l.length := by
  unfold pinsV
  suffices ∀ (q : List Pn), (l.foldl (fun acc x => if x.state = 2 ∧ x.cabin = cabin then pnPut acc ⟨x.until_, x.id⟩ else acc) q).length ≤ q.length + l.length by simpa using this []
  induction l with
  | nil => intro q; simp
  | cons x l ih =>
    intro q
    rw [List.foldl_cons, List.length_cons]
    split
    · have := ih (pnPut q ⟨x.until_, x.id⟩); rw [pnPut_len] at this; omega
    · have := ih q; omega
/-- Few pins on nine spokes. -/
def Few (ls : List (List Pn)) : Prop := ls.length = 9 ∧ ls.flatten.length ≤ 10
theorem few_put {ls : List (List Pn)} (h : Few ls) (p : Pn) : Few (wheelPutV ls p).1 := by
  unfold wheelPutV
  split
  · split
    · rename_i h2
      have := wheelB_iff h2
      exact ⟨this.1, this.2.1⟩
    · exact h
  · exact h
set_option maxRecDepth 100000 in
theorem exec_build_cb {ρ : Operand → Value} {o : Oper} {x y z : Operand} (c : Cb) (w : World) (ho : o.op = .build 59 #[(0, x), (1, y), (2, z)] := by rfl) (hx : ρ x = leA c.le := by rfl) (hy : ρ y = .slice c.q c.qn c.qc := by rfl) (hz : ρ z = .agg #[.slice c.p c.pn c.pc] := by rfl) :
    (execOp ρ o).run Tryz.prog w = .ok (.value (cbA c)) w := by
  unfold execOp
  rw [ho]
  simp [go_sem, hx, hy, hz, leA, cbA]
set_option maxRecDepth 100000 in
theorem exec_build_le {ρ : Operand → Value} {o : Oper} {a b c d e : Operand} (l : Le) (w : World) (ho : o.op = .build 53 #[(0, a), (1, b), (2, c), (3, d), (4, e)] := by rfl) (h0 : ρ a = .int .i64 l.total := by rfl) (h1 : ρ b = .int .i64 l.free := by rfl) (h2 : ρ c = .int .i64 l.held := by rfl) (h3 : ρ d = .int .i64 l.sold := by rfl) (h4 : ρ e = .int .i64 l.tied := by rfl) :
    (execOp ρ o).run Tryz.prog w = .ok (.value (leA l)) w := by
  unfold execOp
  rw [ho]
  simp [go_sem, h0, h1, h2, h3, h4, leA]
set_option maxRecDepth 100000 in
theorem exec_loadW {ρ : Operand → Value} {o : Oper} {x : Operand} (b : Nat) (P : Option Addr) (n c : Nat) (w : World) (h : w.cell? ⟨b, 0, none⟩ = some (.slice P n c)) (ho : o.op = .load 57 x := by rfl) (hx : ρ x = .pointer (some ⟨b, 0, none⟩) := by rfl) :
    (execOp ρ o).run Tryz.prog w = .ok (.value (.agg #[.slice P n c])) w := by
  unfold execOp
  rw [ho]
  simp [go_sem, hx, h]
set_option maxRecDepth 100000 in
theorem exec_storeW {ρ : Operand → Value} {o : Oper} {x y : Operand} (b : Nat) (P : Option Addr) (n c : Nat) (u : Value) (w : World) (h : w.cell? ⟨b, 0, none⟩ = some u) (hz : w.frozen? ⟨b, 0, none⟩ = false) (ho : o.op = .store 57 x y := by rfl) (hx : ρ x = .pointer (some ⟨b, 0, none⟩) := by rfl) (hy : ρ y = .agg #[.slice P n c] := by rfl) :
    (execOp ρ o).run Tryz.prog w = .ok .skip (w.setCell ⟨b, 0, none⟩ (.slice P n c)) := by
  unfold execOp
  rw [ho]
  simp [go_sem, hx, hy, h, hz]
def putCb (w : World) (g : Nat) (x : Cb) : World := (((((((w.setCell ⟨g, 0, none⟩ (.int .i64 x.le.total)).setCell ⟨g, 1, none⟩ (.int .i64 x.le.free)).setCell ⟨g, 2, none⟩ (.int .i64 x.le.held)).setCell ⟨g, 3, none⟩ (.int .i64 x.le.sold)).setCell ⟨g, 4, none⟩ (.int .i64 x.le.tied)).setCell ⟨g, 5, none⟩ (.slice x.q x.qn x.qc)).setCell ⟨g, 6, none⟩ (.slice x.p x.pn x.pc))
theorem putCb_heap {w : World} {g : Nat} {x : Cb} {a0 a1 a2 a3 a4 a5 a6 : Value} {t : TypeId} (h : w.heap[g]? = some (.cells #[a0, a1, a2, a3, a4, a5, a6] t (0, 0))) : (putCb w g x).heap[g]? = some (.cells #[.int .i64 x.le.total, .int .i64 x.le.free, .int .i64 x.le.held, .int .i64 x.le.sold, .int .i64 x.le.tied, .slice x.q x.qn x.qc, .slice x.p x.pn x.pc] t (0, 0)) := by
  unfold putCb
  have h := Go.heap_setCell_same _ g 0 _ t (.int .i64 x.le.total) h
  have h := Go.heap_setCell_same _ g 1 _ t (.int .i64 x.le.free) h
  have h := Go.heap_setCell_same _ g 2 _ t (.int .i64 x.le.held) h
  have h := Go.heap_setCell_same _ g 3 _ t (.int .i64 x.le.sold) h
  have h := Go.heap_setCell_same _ g 4 _ t (.int .i64 x.le.tied) h
  have h := Go.heap_setCell_same _ g 5 _ t (.slice x.q x.qn x.qc) h
  have h := Go.heap_setCell_same _ g 6 _ t (.slice x.p x.pn x.pc) h
  simpa using h
theorem putCb_below {B : Nat} {w0 w : World} {g : Nat} {x : Cb} (h : Below B w0 w) (hg : B ≤ g) : Below B w0 (putCb w g x) := by
  unfold putCb
  exact ((((((h.setCell hg _).setCell hg _).setCell hg _).setCell hg _).setCell hg _).setCell hg _).setCell hg _
set_option maxRecDepth 100000 in
theorem exec_store_cb {ρ : Operand → Value} {o : Oper} {x y : Operand} (g : Nat) (c : Cb) (a0 a1 a2 a3 a4 a5 a6 : Value) (w : World) (h : w.heap[g]? = some (.cells #[a0, a1, a2, a3, a4, a5, a6] 59 (0, 0))) (ho : o.op = .store 59 x y := by rfl) (hx : ρ x = .pointer (some ⟨g, 0, none⟩) := by rfl) (hy : ρ y = cbA c := by rfl) :
    (execOp ρ o).run Tryz.prog w = .ok .skip (putCb w g c) := by
  have c0 := cell_of_row _ _ 0 _ _ _ h
  have z0 := frozen_of_row _ _ 0 _ _ h
  have c1 := cell_of_row _ _ 1 _ _ _ h
  have z1 := frozen_of_row _ _ 1 _ _ h
  have c2 := cell_of_row _ _ 2 _ _ _ h
  have z2 := frozen_of_row _ _ 2 _ _ h
  have c3 := cell_of_row _ _ 3 _ _ _ h
  have z3 := frozen_of_row _ _ 3 _ _ h
  have c4 := cell_of_row _ _ 4 _ _ _ h
  have z4 := frozen_of_row _ _ 4 _ _ h
  have c5 := cell_of_row _ _ 5 _ _ _ h
  have z5 := frozen_of_row _ _ 5 _ _ h
  have c6 := cell_of_row _ _ 6 _ _ _ h
  have z6 := frozen_of_row _ _ 6 _ _ h
  simp at c0 c1 c2 c3 c4 c5 c6
  unfold execOp
  rw [ho]
  simp [go_sem, hx, hy, cbA, c0, c1, c2, c3, c4, c5, c6, z0, z1, z2, z3, z4, z5, z6, putCb]
/-- What is kept of the first blocks of l10Made. -/
structure Mk (w u : World) (RA : Option Addr) (rc : Nat) (r : Ru) (g : Nat) (P : Option Addr) (cp : Nat) (sq : List Sp) : Prop where
  R : u.heap[w.heap.size]? = some (.cells #[.slice RA r.seats.length rc, .int .i64 r.tiers, .int .i64 r.room, .int .i64 r.size, .int .i64 r.period, .int .i64 r.window, .int .i64 r.rest, .int .i64 r.tries, .int .i64 r.crew] 34)
  C : u.heap[w.heap.size + 1]? = some (.cells #[.int .i64 0, .int .i64 0, .int .i64 0, .int .i64 0, .int .i64 0, .slice none 0 0, .slice none 0 0] 59)
  G : u.heap[g]? = some (.cells #[.slice P sq.length cp] 57)
  W : Whl u P sq
  B : Below w.heap.size w u
  F : Few (sq.map (fun s => s.l))
  lt : w.heap.size + 1 < g
theorem Mk.call {w u u' : World} {RA : Option Addr} {rc : Nat} {r : Ru} {g : Nat} {P : Option Addr} {cp : Nat} {sq : List Sp} (h : Mk w u RA rc r g P cp sq) (b : Below u.heap.size u u') : Mk w u' RA rc r g P cp sq :=
  ⟨blk_call h.R b, blk_call h.C b, blk_call h.G b, h.W.below b, h.B.trans (b.mono h.B.size), h.F, h.lt⟩
set_option maxRecDepth 100000 in
set_option maxHeartbeats 6400000 in
theorem l10Made_any (RA A : Option Addr) (rc : Nat) (r : Ru) (l : List Pt) (c k : Nat) (now free : Int) (w : World) (hr : RuOk r) (hk : k < r.seats.length) (hl : l.length ≤ 1000) (hfr : 0 ≤ free ∧ free ≤ 1000) (hRA : Rws w w.heap.size RA (ints r.seats)) (hA : Rws w w.heap.size A (l.flatMap ptC)) :
    Calls Tryz.prog 38 #[ruV RA rc r, .slice A l.length c, .int .i64 k, .int .i64 now, .int .i64 free] w fun e w' => (∃ x, e = .returned (cbA x)) ∧ Below w.heap.size w w' := by
  have CP := Lib.hid (fun u (b : Below w.heap.size w u) => pinsIn_spec A l c (k : Int) u (by omega) (rws_below hA b))
  have CH := Lib.hid (fun u (b : Below w.heap.size w u) => held_spec A l c (k : Int) u (by omega) (rws_below hA b))
  have CT := Lib.hid (fun u (b : Below w.heap.size w u) => tied_spec A l c (k : Int) u (by omega) (rws_below hA b))
  have CQ := Lib.hid (fun u (b : Below w.heap.size w u) => queueOf_spec RA A rc r l c (k : Int) now u hr.go.1 (by omega) (rws_below hRA b) (rws_below hA b))
  have hih := held_in l (k : Int)
  have hit := tied_in l (k : Int)
  have hsk := hr.seat k hk
  obtain ⟨sb, so, rfl, hsB, hsc⟩ := hRA.int hk
  generalize r.seats.getD k 0 = S0 at *
  generalize heldV l (k : Int) = H0 at *
  generalize tiedV l (k : Int) = T0 at *
  unfold ruV
  go_enter Tryz.func38, Tryz.ntmps38
  go_wp2_with fail
  refine (wheelNew_spec _).mono ?_
  rintro e u1 ⟨P, cp, sq, rfl, hm1, O1, x1⟩
  have T : Mk w (u1.alloc (.cells #[.slice P sq.length cp] 57)) (some ⟨sb, so, none⟩) rc r u1.heap.size P cp sq := by
    have T1 := two_at w u1 _ _ x1
    have lt := blk_lt T1.2.1
    refine ⟨blk_alloc T1.1 _, blk_alloc T1.2.1 _, heap_new _ _, (O1.alloc _).whl, T1.2.2.alloc T1.2.2.size _, ?_, lt⟩
    have : sq.map (fun s => s.l) = nineW := hm1
    rw [this]
    unfold Few nineW
    simp
  have TT := Lib.hid T
  have C1 := Lib.hid (CP.out _ T.B)
  clear T O1 x1 hm1
  go_wp2_with fail
  refine C1.out.mono ?_
  rintro e u2 ⟨L, cl, rfl, oL, x2⟩
  have T := TT.out.call x2
  have hpl := pinsV_len l (k : Int)
  generalize pinsV l (k : Int) = q at *
  generalize u1.heap.size = g at *
  have OL := Lib.hid (own_weak oL (Nat.zero_le _))
  clear C1 TT x2 CP oL
  have TT := Lib.hid T
  clear T
  go_wp2_with fail
  go_loopw [13] (fun vi wr => ∃ (i : Nat) (P : Option Addr) (cp : Nat) (sq : List Sp), i ≤ q.length ∧ vi = .int .i64 i ∧ Mk w wr (some ⟨sb, so, none⟩) rc r g P cp sq ∧ wr.ownsRow 0 95 2 (.slice L q.length cl) q.length (q.flatMap pnC)) (fun vi _ => q.length - (intOf vi).toNat)
  case atStart => exact ⟨0, P, cp, sq, by omega, rfl, TT.out, OL.out⟩
  case round =>
    clear TT OL
    obtain ⟨i, P, cp, sq, hi0, rfl, T, oL⟩ := hrel
    by_cases hi : i < q.length
    · obtain ⟨b, off, rfl, hbB, hy⟩ := (own_rws oL).pn hi
      generalize q.getD i pn0 = y at *
      have hF := T.F
      have hsq : sq.length = 9 := by have := hF.1; simpa using this
      have hal : (allPn sq).length ≤ 10 := by have := hF.2; rw [ls_flat] at this; exact this
      have KG := Lib.hid (fun w' (h : Below wr.heap.size wr w') => cell_of_row _ _ 0 _ _ _ (blk_call T.G h))
      have KY := Lib.hid (fun w' (h : Below wr.heap.size wr w') => Pn.here.below hy h hbB)
      have TT := Lib.hid T
      have OL := Lib.hid oL
      have HQ := Lib.hid hsq
      clear T oL hy hsq
      go_wp2_with fail
      refine wp_region_F 9 (fun w' => Hid (Below wr.heap.size wr w')) (by kernel_rfl) ?_
      have hH0 : Hid (Below wr.heap.size wr wr.drew) := below_drawn (Below.refl _ _) 1
      refine f_take 0 29 (.agg #[.slice P sq.length cp]) rfl rfl (by kernel_rfl) (by kernel_rfl) (by kernel_rfl) (by kernel_rfl) (fun _ _ _ h => h) rfl hH0 (fun w h => exec_loadW _ P sq.length cp w (KG.out w h.out)) ?_
      refine f_take 1 30 (.slice (some ⟨b, off, none⟩) q.length cl) rfl rfl (by kernel_rfl) (by kernel_rfl) (by kernel_rfl) (by kernel_rfl) (fun _ _ _ h => h) rfl hH0 (fun w _ => rfl) ?_
      simp only [Act.put, List.setIfInBounds_toArray, List.set_cons_zero, List.set_cons_succ]
      refine f_take 2 31 (.int .i64 (i : Int)) rfl rfl (by kernel_rfl) (by kernel_rfl) (by kernel_rfl) (by kernel_rfl) (fun _ _ _ h => h) rfl hH0 (fun w _ => rfl) ?_
      refine f_take 3 32 (.pointer (some ⟨b, off + i * 2, none⟩)) rfl rfl (by kernel_rfl) (by kernel_rfl) (by kernel_rfl) (by kernel_rfl) (fun _ _ _ h => h) rfl hH0 (fun w _ => exec_idx_pn b off q.length cl i w hi) ?_
      simp only [Act.put, List.setIfInBounds_toArray, List.set_cons_zero, List.set_cons_succ]
      refine f_take 4 33 (pnA y) rfl rfl (by kernel_rfl) (by kernel_rfl) (by kernel_rfl) (by kernel_rfl) (fun _ _ _ h => h) rfl hH0 (fun w h => exec_load_pn b (off + i * 2) y w (KY.out w h.out)) ?_
      simp only [Act.put, List.setIfInBounds_toArray, List.set_cons_zero, List.set_cons_succ]
      refine f_call 5 34 57 #[.agg #[.slice P sq.length cp], pnA y] rfl rfl (by kernel_rfl) rfl (exec_call Tryz.func57 (by kernel_rfl) (by kernel_rfl) _) ?_
      refine (wheelPut_spec P sq cp y wr.drew (by have := HQ.out; omega) (by omega) (TT.out.W.below hH0.out)).mono ?_
      rintro e u3 ⟨P3, cp3, sq3, rfl, hm3, O3, x3⟩
      have k3 := hH0.out.trans (x3.mono hH0.out.size)
      refine ⟨_, rfl, (fun _ _ => Lib.hid k3), ?_⟩
      simp only [Act.put, List.setIfInBounds_toArray, List.set_cons_zero, List.set_cons_succ]
      generalize (wheelPutV (sq.map fun s => s.l) y).2 = bb
      refine f_op 6 28 (.tuple #[.agg #[.slice P3 sq3.length cp3], .bool bb]) rfl rfl (by kernel_rfl) rfl rfl (fun _ _ => Lib.hid k3) ?_
      simp only [Act.put, List.setIfInBounds_toArray, List.set_cons_zero, List.set_cons_succ]
      refine f_take 7 35 (.agg #[.slice P3 sq3.length cp3]) rfl rfl (by kernel_rfl) (by kernel_rfl) (by kernel_rfl) (by kernel_rfl) (fun _ _ _ h => h) rfl (Lib.hid k3) (fun w _ => rfl) ?_
      simp only [Act.put, List.setIfInBounds_toArray, List.set_cons_zero, List.set_cons_succ]
      have T := TT.out.call k3
      refine f_ready2 8 9 (by kernel_rfl) (f_opw 8 36 (.bool bb) rfl rfl rfl rfl ⟨(fun _ _ => Lib.hid k3), ?_⟩) (f_storew 9 rfl rfl rfl (exec_storeW g P3 sq3.length cp3 _ u3 (cell_of_row _ _ 0 _ _ _ T.G) (frozen_of_row _ _ 0 _ _ T.G)) ⟨(fun h => absurd rfl h), ?_⟩)
      · simp only [Act.put, List.setIfInBounds_toArray, List.set_cons_zero, List.set_cons_succ]
        refine f_store 9 rfl rfl (by kernel_rfl) rfl (exec_storeW g P3 sq3.length cp3 _ u3 (cell_of_row _ _ 0 _ _ _ T.G) (frozen_of_row _ _ 0 _ _ T.G)) (fun h => absurd rfl h) ?_
        refine f_done (by kernel_rfl) ?_ _
        have lt := T.lt
        have T4 : Hid (Mk w (u3.setCell ⟨g, 0, none⟩ (.slice P3 sq3.length cp3)) (some ⟨sb, so, none⟩) rc r g P3 cp3 sq3) := by
          refine ⟨(heap_set_ne u3 _ 0 _ (by omega)).trans T.R, (heap_set_ne u3 _ 0 _ (by omega)).trans T.C, Go.heap_setCell_same _ _ 0 _ _ (.slice P3 sq3.length cp3) T.G, (O3.put T.G (by decide) (by decide) 0 _).whl, T.B.setCell (p := ⟨g, 0, none⟩) (by show _ ≤ g; omega) _, ?_, T.lt⟩
          have : sq3.map (fun s => s.l) = (wheelPutV (sq.map fun s => s.l) y).1 := hm3
          rw [this]
          exact few_put hF y
        have oL := own_below OL.out k3
        have O4 : Hid ((u3.setCell ⟨g, 0, none⟩ (.slice P3 sq3.length cp3)).ownsRow 0 95 2 (.slice (some ⟨b, off, none⟩) q.length cl) q.length (q.flatMap pnC)) :=
          oL.kept (Go.Lib.grownBy_setCell u3 g 0 _) (.inr (own_ne_type oL T.G (by decide)))
        clear T oL k3 x3 O3 hm3 hH0 TT OL KG KY hF
        go_wp2
        go_roundw
        case rel => exact ⟨i + 1, P3, cp3, sq3, by omega, by go_num, T4.out, O4.out⟩
        case measure => simp [intOf] <;> omega
      · refine f_op 8 36 (.bool bb) rfl rfl (by kernel_rfl) rfl rfl (fun _ h => absurd h (by simp)) ?_
        simp only [Act.put, List.setIfInBounds_toArray, List.set_cons_zero, List.set_cons_succ]
        refine f_done (by kernel_rfl) ?_ _
        have lt := T.lt
        have T4 : Hid (Mk w (u3.setCell ⟨g, 0, none⟩ (.slice P3 sq3.length cp3)) (some ⟨sb, so, none⟩) rc r g P3 cp3 sq3) := by
          refine ⟨(heap_set_ne u3 _ 0 _ (by omega)).trans T.R, (heap_set_ne u3 _ 0 _ (by omega)).trans T.C, Go.heap_setCell_same _ _ 0 _ _ (.slice P3 sq3.length cp3) T.G, (O3.put T.G (by decide) (by decide) 0 _).whl, T.B.setCell (p := ⟨g, 0, none⟩) (by show _ ≤ g; omega) _, ?_, T.lt⟩
          have : sq3.map (fun s => s.l) = (wheelPutV (sq.map fun s => s.l) y).1 := hm3
          rw [this]
          exact few_put hF y
        have oL := own_below OL.out k3
        have O4 : Hid ((u3.setCell ⟨g, 0, none⟩ (.slice P3 sq3.length cp3)).ownsRow 0 95 2 (.slice (some ⟨b, off, none⟩) q.length cl) q.length (q.flatMap pnC)) :=
          oL.kept (Go.Lib.grownBy_setCell u3 g 0 _) (.inr (own_ne_type oL T.G (by decide)))
        clear T oL k3 x3 O3 hm3 hH0 TT OL KG KY hF
        go_wp2
        go_roundw
        case rel => exact ⟨i + 1, P3, cp3, sq3, by omega, by go_num, T4.out, O4.out⟩
        case measure => simp [intOf] <;> omega
    · have TT := Lib.hid T
      have r0 := (T.B.cell (by exact hsB)).trans hsc
      have C1 := Lib.hid (CH.out _ T.B)
      have C2 := Lib.hid (CT.out _ T.B)
      have q0 := cell_of_row _ _ 0 _ _ _ T.R
      simp at q0
      clear T oL
      go_wp2_with fail
      refine C1.out.mono ?_
      rintro e _ ⟨rfl, rfl⟩
      go_wp2_with fail
      refine C2.out.mono ?_
      rintro e _ ⟨rfl, rfl⟩
      go_wp2_with fail
      refine (l1Max_any T0 (S0 - H0 - free) _).mono ?_
      rintro e _ ⟨rfl, rfl⟩
      obtain ⟨M, hM⟩ : ∃ M, (if S0 - H0 - free < T0 then T0 else S0 - H0 - free) = M := ⟨_, rfl⟩
      have hM1 : -10000 ≤ M ∧ M ≤ 10000 := by rw [← hM]; split <;> omega
      rw [hM]
      clear hM C1 C2 r0 q0
      have T := TT.out
      have KR := Lib.hid (fun w' (h : Below wr.heap.size wr w') => blk_call T.R h)
      have KG := Lib.hid (fun w' (h : Below wr.heap.size wr w') => cell_of_row _ _ 0 _ _ _ (blk_call T.G h))
      have KQ := Lib.hid (fun w' (h : Below wr.heap.size wr w') => CQ.out w' (T.B.trans (h.mono T.B.size)))
      clear T CH CT CQ
      go_wp2_with fail
      have hH0 : Hid (Below wr.heap.size wr wr.drew) := below_drawn (Below.refl _ _) 1
      refine wp_region_E 17 (fun w' => Hid (Below wr.heap.size wr w')) (by kernel_rfl) ?_
      refine e_take 0 55 (.int .i64 S0) rfl rfl (by kernel_rfl) (by kernel_rfl) (by kernel_rfl) (by kernel_rfl) (fun _ _ _ h => h) rfl hH0 (fun w _ => rfl) ?_
      refine e_take 1 56 (.int .i64 S0) rfl rfl (by kernel_rfl) (by kernel_rfl) (by kernel_rfl) (by kernel_rfl) (fun _ _ _ h => h) rfl hH0 (fun w _ => rfl) ?_
      refine e_take 2 57 (.int .i64 H0) rfl rfl (by kernel_rfl) (by kernel_rfl) (by kernel_rfl) (by kernel_rfl) (fun _ _ _ h => h) rfl hH0 (fun w _ => rfl) ?_
      simp only [Act.put, List.setIfInBounds_toArray, List.set_cons_zero, List.set_cons_succ]
      refine e_take 3 58 (.int .i64 (S0 - H0)) rfl rfl (by kernel_rfl) (by kernel_rfl) (by kernel_rfl) (by kernel_rfl) (fun _ _ _ h => h) rfl hH0 (fun w _ => exec_subI S0 H0 _ w rfl (by omega) (by omega)) ?_
      refine e_take 4 59 (.int .i64 M) rfl rfl (by kernel_rfl) (by kernel_rfl) (by kernel_rfl) (by kernel_rfl) (fun _ _ _ h => h) rfl hH0 (fun w _ => rfl) ?_
      refine e_take 5 60 (.int .i64 (S0 - H0 - M)) rfl rfl (by kernel_rfl) (by kernel_rfl) (by kernel_rfl) (by kernel_rfl) (fun _ _ _ h => h) rfl hH0 (fun w _ => exec_subI (S0 - H0) M _ w rfl (by omega) (by omega)) ?_
      simp only [Act.put, List.setIfInBounds_toArray, List.set_cons_zero, List.set_cons_succ]
      refine e_take 6 61 (.int .i64 H0) rfl rfl (by kernel_rfl) (by kernel_rfl) (by kernel_rfl) (by kernel_rfl) (fun _ _ _ h => h) rfl hH0 (fun w _ => rfl) ?_
      refine e_take 7 62 (.int .i64 M) rfl rfl (by kernel_rfl) (by kernel_rfl) (by kernel_rfl) (by kernel_rfl) (fun _ _ _ h => h) rfl hH0 (fun w _ => rfl) ?_
      refine e_take 8 63 (.int .i64 T0) rfl rfl (by kernel_rfl) (by kernel_rfl) (by kernel_rfl) (by kernel_rfl) (fun _ _ _ h => h) rfl hH0 (fun w _ => rfl) ?_
      simp only [Act.put, List.setIfInBounds_toArray, List.set_cons_zero, List.set_cons_succ]
      refine e_take 9 64 (leA ⟨S0, S0 - H0 - M, H0, M, T0⟩) rfl rfl (by kernel_rfl) (by kernel_rfl) (by kernel_rfl) (by kernel_rfl) (fun _ _ _ h => h) rfl hH0 (fun w _ => exec_build_le ⟨S0, S0 - H0 - M, H0, M, T0⟩ w) ?_
      refine e_take 10 65 (ruV (some ⟨sb, so, none⟩) rc r) rfl rfl (by kernel_rfl) (by kernel_rfl) (by kernel_rfl) (by kernel_rfl) (fun _ _ _ h => h) rfl hH0 (fun w h => exec_loadRi _ (some ⟨sb, so, none⟩) rc r w (KR.out w h.out)) ?_
      refine e_take 11 66 (.slice A l.length c) rfl rfl (by kernel_rfl) (by kernel_rfl) (by kernel_rfl) (by kernel_rfl) (fun _ _ _ h => h) rfl hH0 (fun w _ => rfl) ?_
      simp only [Act.put, List.setIfInBounds_toArray, List.set_cons_zero, List.set_cons_succ]
      refine e_take 12 67 (.int .i64 (k : Int)) rfl rfl (by kernel_rfl) (by kernel_rfl) (by kernel_rfl) (by kernel_rfl) (fun _ _ _ h => h) rfl hH0 (fun w _ => rfl) ?_
      refine e_take 13 68 (.int .i64 now) rfl rfl (by kernel_rfl) (by kernel_rfl) (by kernel_rfl) (by kernel_rfl) (fun _ _ _ h => h) rfl hH0 (fun w _ => rfl) ?_
      refine e_take 15 70 (.agg #[.slice P sq.length cp]) rfl rfl (by kernel_rfl) (by kernel_rfl) (by kernel_rfl) (by kernel_rfl) (fun _ _ _ h => h) rfl hH0 (fun w h => exec_loadW _ P sq.length cp w (KG.out w h.out)) ?_
      simp only [Act.put, List.setIfInBounds_toArray, List.set_cons_zero, List.set_cons_succ]
      refine e_call 14 69 59 #[ruV (some ⟨sb, so, none⟩) rc r, .slice A l.length c, .int .i64 (k : Int), .int .i64 now] rfl rfl (by kernel_rfl) rfl (exec_call Tryz.func59 (by kernel_rfl) (by kernel_rfl) _) ?_
      refine (KQ.out _ hH0.out).mono ?_
      rintro ee u3 ⟨Q3, cq3, rfl, o3, x3⟩
      have k3 := hH0.out.trans (x3.mono hH0.out.size)
      refine ⟨_, rfl, (fun _ => (Lib.hid k3)), ?_⟩
      simp only [Act.put, List.setIfInBounds_toArray, List.set_cons_zero, List.set_cons_succ]
      refine e_op 16 71 (cbA ⟨⟨S0, S0 - H0 - M, H0, M, T0⟩, Q3, (queueV r l (k : Int) now).length, cq3, P, sq.length, cp⟩) rfl rfl (by kernel_rfl) rfl (exec_build_cb ⟨⟨S0, S0 - H0 - M, H0, M, T0⟩, Q3, (queueV r l (k : Int) now).length, cq3, P, sq.length, cp⟩ _) (fun _ => (Lib.hid k3)) ?_
      simp only [Act.put, List.setIfInBounds_toArray, List.set_cons_zero, List.set_cons_succ]
      have T := TT.out.call k3
      refine e_store 17 rfl rfl (by kernel_rfl) rfl (exec_store_cb (w.heap.size + 1) ⟨⟨S0, S0 - H0 - M, H0, M, T0⟩, Q3, (queueV r l (k : Int) now).length, cq3, P, sq.length, cp⟩ _ _ _ _ _ _ _ u3 T.C) (fun h => absurd rfl h) ?_
      refine e_done (by kernel_rfl) ?_ _
      obtain ⟨X, eX⟩ : ∃ X : Cb, (⟨⟨S0, S0 - H0 - M, H0, M, T0⟩, Q3, (queueV r l (k : Int) now).length, cq3, P, sq.length, cp⟩ : Cb) = X := ⟨_, rfl⟩
      rw [eX]
      obtain ⟨U, eU⟩ : ∃ U, putCb u3 (w.heap.size + 1) X = U := ⟨_, rfl⟩
      rw [eU]
      have hU : U.heap[w.heap.size + 1]? = some (.cells #[.int .i64 X.le.total, .int .i64 X.le.free, .int .i64 X.le.held, .int .i64 X.le.sold, .int .i64 X.le.tied, .slice X.q X.qn X.qc, .slice X.p X.pn X.pc] 59) := by rw [← eU]; exact putCb_heap T.C
      have bU : Hid (Below w.heap.size w U) := by show Below _ _ _; rw [← eU]; exact putCb_below T.B (by omega)
      clear T eU eX o3 x3 k3 hH0 KR KG KQ TT
      have c0 := cell_of_row _ _ 0 _ _ _ hU
      have c1 := cell_of_row _ _ 1 _ _ _ hU
      have c2 := cell_of_row _ _ 2 _ _ _ hU
      have c3 := cell_of_row _ _ 3 _ _ _ hU
      have c4 := cell_of_row _ _ 4 _ _ _ hU
      have c5 := cell_of_row _ _ 5 _ _ _ hU
      have c6 := cell_of_row _ _ 6 _ _ _ hU
      simp at c0 c1 c2 c3 c4 c5 c6
      clear hU
      go_wp2
      simp [bodyPost, results, Tryz.results38, go_sem, c0, c1, c2, c3, c4, c5, c6]
      exact ⟨⟨X, rfl⟩, bU.out⟩
theorem rws_grown {w w' : World} {B : Nat} {A : Option Addr} {cs : List Value} {row : Option Nat} (h : Rws w B A cs) (g : w.grownBy w' row) (hne : ∀ j, row = some j → ∀ ad, A = some ad → ad.block ≠ j) : Rws w' B A cs := by
  rcases h with h | ⟨b, off, e, hb, hc⟩
  · exact .inl h
  · refine .inr ⟨b, off, e, hb, fun k hk => ?_⟩
    have h1 := hc k hk
    rw [List.getElem?_eq_getElem hk] at h1 ⊢
    exact World.grownBy.cell g h1 (fun q => hne b q.symm _ e rfl)
theorem own_emptyB {w0 X : World} (h : Below w0.heap.size w0 X) (e sz : Nat) : (X.alloc (.cells #[] e)).ownsRow w0.heap.size e sz (.slice (some ⟨X.heap.size, 0, none⟩) 0 0) 0 [] := own_empty X _ e sz h.size
theorem rws_newB {B : Nat} {w0 X : World} (h : Below B w0 X) (cs : List Value) (e : Nat) : Rws (X.alloc (.cells cs.toArray e)) (X.heap.size + 1) (some ⟨X.heap.size, 0, none⟩) cs := Rws.new X cs e
set_option maxRecDepth 100000 in
theorem exec_none_pt {ρ : Operand → Value} {o : Oper} (w : World) (ho : o.op = .buildSlice 24 0 #[] := by rfl) :
    (execOp ρ o).run Tryz.prog w = .ok (.value (.slice (some ⟨w.heap.size, 0, none⟩) 0 0)) (w.alloc (.cells #[] 26)) := by
  unfold execOp
  rw [ho]
  simp [go_sem]
set_option maxRecDepth 100000 in
theorem exec_one_pt {ρ : Operand → Value} {o : Oper} {y : Operand} (x : Pt) (w : World) (ho : o.op = .buildSlice 24 1 #[(0, y)] := by rfl) (hy : ρ y = ptA x := by rfl) :
    (execOp ρ o).run Tryz.prog w = .ok (.value (.slice (some ⟨w.heap.size, 0, none⟩) 1 1)) (w.alloc (.cells (ptC x).toArray 26)) := by
  unfold execOp
  rw [ho]
  simp [go_sem, hy, ptA, ptC]
/-- What PartyPut returns where the party is new. -/
def ptPut (l : List Pt) (p : Pt) : List Pt := insP (fun x => decide (x.id < p.id)) l p
theorem ptPut_len (l : List Pt) (x : Pt) : (ptPut l x).length = l.length + 1 := insP_len _ _ _
set_option maxRecDepth 100000 in
set_option maxHeartbeats 6400000 in
theorem partyPut_new (A : Option Addr) (l : List Pt) (c : Nat) (p : Pt) (w : World) (hl : l.length ≤ 2097152) (hc : l.length ≤ c) (hn : A = none → c = 0) (hA : Rws w w.heap.size A (l.flatMap ptC)) (hp : ptAt l p.id = -1) :
    Calls Tryz.prog 37 #[.slice A l.length c, ptA p] w (NewR 26 10 w (ptPut l p).length ((ptPut l p).flatMap ptC)) := by
  obtain ⟨W, hW⟩ : ∃ W, w.alloc (.cells #[.int .i64 p.id, .int .i64 p.cabin, .int .i64 p.from_, .int .i64 p.size, .int .i64 p.tier, .int .i64 p.since, .int .i64 p.turn, .int .i64 p.state, .int .i64 p.until_, .int .i64 p.asked] 26) = W := ⟨_, rfl⟩
  have bW : Hid (Below w.heap.size w W) := by show Below _ _ _; rw [← hW]; exact (Below.refl _ _).alloc (Nat.le_refl _) _
  have HX : Hid (W.heap[w.heap.size]? = some (.cells #[.int .i64 p.id, .int .i64 p.cabin, .int .i64 p.from_, .int .i64 p.size, .int .i64 p.tier, .int .i64 p.since, .int .i64 p.turn, .int .i64 p.state, .int .i64 p.until_, .int .i64 p.asked] 26)) := by show _ = _; rw [← hW]; exact heap_new _ _
  have CA := Lib.hid (l11At_spec A l c p.id W hl (rws_below hA bW.out))
  rw [hp] at CA
  have O1 := own_empty W W.heap.size 26 10 (Nat.le_refl _)
  have x1 : Below W.heap.size W (W.alloc (.cells #[] 26)) := (Below.refl _ _).alloc (Nat.le_refl _) _
  have R1 := rws_below (rws_below hA bW.out) x1
  obtain ⟨q0, _⟩ := Pt.here.blk HX.out
  clear hp
  unfold ptA
  go_enter Tryz.func37, Tryz.ntmps37
  go_wp2_with fail
  clear hW q0
  refine CA.out.mono ?_
  rintro e _ ⟨rfl, rfl⟩
  go_wp2_with (at_builtin; refine wpList_appR rowPty _ rfl (.tmp 11) (.tmp 12) rfl W.heap.size _ 0 [] rfl O1 _ A l.length c (l.flatMap ptC) rfl (flat_len ptC 10 ptC_len l) R1 hn (ptC_one _) (by omega) (by simp) ?_)
  intro v2 w2 o2 g2
  have B2 := Lib.hid (x1.grown g2 (by simp) (own_low O1))
  clear o2 g2 O1 x1 R1 CA
  go_wp2_with fail
  go_loopw [5] (fun i wr => ∃ (k : Nat), k ≤ l.length ∧ i = .int .i64 k ∧ (∀ j, j < k → decide ((l.getD j pt0).id < p.id) = true) ∧ Below W.heap.size W wr) (fun i _ => l.length - (intOf i).toNat)
  case atStart => exact ⟨0, by omega, rfl, (fun j hj => by omega), B2.out⟩
  case round =>
    clear B2
    obtain ⟨k, hk, rfl, hall, hb⟩ := hrel
    have hbs := hb.size
    obtain ⟨q0, _⟩ := Pt.here.blk (blk_call HX.out hb)
    by_cases hlt : k < l.length
    · obtain ⟨b, off, rfl, hbB, hy⟩ := (rws_below (rws_below hA bW.out) hb).pt hlt
      by_cases hp : (l.getD k pt0).id < p.id
      · have hall2 : ∀ j, j < k + 1 → decide ((l.getD j pt0).id < p.id) = true := by
          intro j hj
          by_cases e : j = k
          · subst e; exact decide_eq_true hp
          · exact hall j (by omega)
        have HA := Lib.hid hall2
        have HB := Lib.hid hb
        clear hall hall2 hb
        generalize l.getD k pt0 = y at *
        obtain ⟨y0, _⟩ := hy
        go_wp2_with fail
        go_quiet (fail)
        go_wp2
        go_roundw
        case rel => exact ⟨k + 1, by omega, by go_num, HA.out, below_drawn HB.out _⟩
        case measure => simp [intOf] <;> omega
      · have HI : Hid (ptPut l p = l.take k ++ [p] ++ l.drop k) := insP_at _ l p pt0 k hk hall (fun _ => decide_eq_false hp)
        have hp2 : decide ((l.getD k pt0).id < p.id) = false := decide_eq_false hp
        clear hall
        generalize l.getD k pt0 = y at *
        obtain ⟨y0, _⟩ := hy
        go_wp2_with fail
        go_quiet (fail)
        go_wp2_with fail
        have KX := Lib.hid (fun w' (h : Below W.heap.size W w') => Pt.here.blk (blk_call HX.out h))
        have HR : Hid (∀ w' (h : Below W.heap.size W w'), Rws w' w'.heap.size (some ⟨b, off, none⟩) ((l.take k).flatMap ptC)) := fun w' h => by
          rw [flat_take ptC 10 ptC_len]; exact Rws.to_ (k * 10) (rws_below (rws_below hA bW.out) h)
        have e1 : ((l.take k).flatMap ptC).length = k * 10 := by rw [flat_len ptC 10 ptC_len, List.length_take, Nat.min_eq_left hk]
        refine wp_region_held_drew (S := fun w' => Hid (Below W.heap.size W w')) (by kernel_rfl) (below_drawn (below_drawn hb _) 1) (fun hHeld => ?_)
        refine held_take 1 38 (.slice (some ⟨b, off, none⟩) l.length c) rfl rfl (by kernel_rfl) (by kernel_rfl) (by kernel_rfl) (fun _ _ _ h => h) rfl hHeld (fun w _ => rfl) ?_
        refine held_take 2 39 (.int .i64 (k : Int)) rfl rfl (by kernel_rfl) (by kernel_rfl) (by kernel_rfl) (fun _ _ _ h => h) rfl hHeld (fun w _ => rfl) ?_
        simp only [Act.put, List.setIfInBounds_toArray, List.set_cons_zero, List.set_cons_succ]
        refine held_take 3 40 (.slice (some ⟨b, off, none⟩) k c) rfl rfl (by kernel_rfl) (by kernel_rfl) (by kernel_rfl) (fun _ _ _ h => h) rfl hHeld (fun w _ => exec_sliceTo rowPty (some ⟨b, off, none⟩) l.length c k w hk hc hn) ?_
        refine held_take 5 42 (ptA p) rfl rfl (by kernel_rfl) (by kernel_rfl) (by kernel_rfl) (fun _ _ _ h => h) rfl hHeld (fun w hS => exec_load_pt _ 0 p w (KX.out w hS.out)) ?_
        simp only [Act.put, List.setIfInBounds_toArray, List.set_cons_zero, List.set_cons_succ]
        have bA := hHeld.out.alloc hHeld.out.size (.cells #[] 26)
        have bB := hHeld.out.alloc hHeld.out.size (.cells (ptC p).toArray 26)
        refine wpAnyH_ready (rs := [0, 6]) (by kernel_rfl) (by simp) (ready_op 0 37 _ rfl rfl rfl (exec_none_pt _) bA ?_ (ready_op 6 43 _ rfl rfl rfl (exec_one_pt p _) bB ?_ AllReadyH.nil))
        · skip
          simp only [Act.put, List.setIfInBounds_toArray, List.set_cons_zero, List.set_cons_succ]
          have oA := own_emptyB hHeld.out 26 10
          have bAB := bA.alloc bA.size (.cells (ptC p).toArray 26)
          refine wpAnyH_ready (rs := [4, 6]) (by kernel_rfl) (by simp) (ready_opx 4 41 rfl rfl rfl (exec_appR rowPty _ W.heap.size _ 0 [] oA _ (some ⟨b, off, none⟩) k c ((l.take k).flatMap ptC) e1 (HR.out _ bA) hn (ptC_one _) (by omega) (bA.size)) ?_ (ready_op 6 43 _ rfl rfl rfl (exec_one_pt p _) bAB ?_ AllReadyH.nil))
          · rintro v7 w7 ⟨o7, g7⟩
            have k7 := bA.grown g7 bA.size (own_low oA)
            refine ⟨k7, ?_⟩
            simp only [Act.put, List.setIfInBounds_toArray, List.set_cons_zero, List.set_cons_succ]
            rw [Nat.zero_add, List.nil_append] at o7
            refine held_op 6 43 (.slice (some ⟨w7.heap.size, 0, none⟩) 1 1) rfl rfl (by kernel_rfl) rfl (exec_one_pt p _) (k7.alloc k7.size _) ?_
            simp only [Act.put, List.setIfInBounds_toArray, List.set_cons_zero, List.set_cons_succ]
            have k8 := k7.alloc k7.size (.cells (ptC p).toArray 26)
            have o8 := o7.alloc (.cells (ptC p).toArray 26)
            refine held_opx 7 44 rfl rfl (by kernel_rfl) rfl (exec_appR rowPty _ W.heap.size _ k _ o8 _ _ 1 1 (ptC p) rfl (Rws.new w7 (ptC p) 26) (fun h => by cases h) (by intro z hz; exact ptC_one [p] z (by simpa using hz)) (by omega) (k8.size)) ?_
            rintro v9 w9 ⟨o9, g9⟩
            have k9 := k8.grown g9 k8.size (own_low o8)
            refine ⟨k9, ?_⟩
            simp only [Act.put, List.setIfInBounds_toArray, List.set_cons_zero, List.set_cons_succ]
            refine held_op 8 6 v9 rfl rfl (by kernel_rfl) rfl rfl k9 ?_
            simp only [Act.put, List.setIfInBounds_toArray, List.set_cons_zero, List.set_cons_succ]
            refine wpAnyH_done (by kernel_rfl) ?_ _
            clear o7 g7 k7 k8 o8 oA bA bB bAB
            have R5 := Rws.from_ (n := l.length) (c := c) (k := k) (sz := 10) (rws_below (rws_below hA bW.out) k9) (flat_len ptC 10 ptC_len l) hk hc
            rw [← flat_drop ptC 10 ptC_len] at R5
            have e5 : ((l.drop k).flatMap ptC).length = (l.length - k) * 10 := by rw [flat_len ptC 10 ptC_len, List.length_drop]
            have hs4 := k9.size
            clear g9 hHeld
            go_wp2_with (first | (refine wpList_exec (.slice (fromA (some ⟨b, off, none⟩) c k 10) (l.length - k) (c - k)) rfl (exec_sliceFrom rowPty (some ⟨b, off, none⟩) l.length c k _ hk hc hn) ?_) | (at_builtin; refine wpList_appR rowPty _ rfl (.tmp 45) (.tmp 48) rfl W.heap.size _ (k + 1) ((l.take k).flatMap ptC ++ ptC p) rfl o9 _ (fromA (some ⟨b, off, none⟩) c k 10) (l.length - k) (c - k) ((l.drop k).flatMap ptC) rfl e5 R5 (fromA_nil hn) (ptC_one _) (by omega) hs4 ?_))
            intro v6 w6 o6 g6
            have b6 := bW.out.trans ((k9.grown g6 hs4 (own_low o9)).mono bW.out.size)
            have e6 : (l.take k).flatMap ptC ++ (ptC p ++ (l.drop k).flatMap ptC) = (ptPut l p).flatMap ptC := by rw [HI.out]; simp
            have e7 : k + 1 + (l.length - k) = (ptPut l p).length := by rw [ptPut_len]; omega
            rw [e6, e7] at o6
            have HN := Lib.hid (NewR.of_own (own_weak o6 bW.out.size) b6)
            clear o9 o6 g6 k9 b6 R5 e5 e6 e7 hs4 HI
            go_wp2
            go_ret
            exact HN.out
          · skip
            simp only [Act.put, List.setIfInBounds_toArray, List.set_cons_zero, List.set_cons_succ]
            have RN := rws_newB bA (ptC p) 26
            have oB := oA.alloc (.cells (ptC p).toArray 26)
            refine held_opx 4 41 rfl rfl (by kernel_rfl) rfl (exec_appR rowPty _ W.heap.size _ 0 [] oB _ (some ⟨b, off, none⟩) k c ((l.take k).flatMap ptC) e1 (HR.out _ bAB) hn (ptC_one _) (by omega) (bAB.size)) ?_
            rintro v7 w7 ⟨o7, g7⟩
            have k7 := bAB.grown g7 bAB.size (own_low oB)
            refine ⟨k7, ?_⟩
            simp only [Act.put, List.setIfInBounds_toArray, List.set_cons_zero, List.set_cons_succ]
            rw [Nat.zero_add, List.nil_append] at o7
            have RN := rws_grown RN g7 (fun j h => by injection h with h; simp at h ⊢; omega)
            refine held_opx 7 44 rfl rfl (by kernel_rfl) rfl (exec_appR rowPty _ W.heap.size _ k _ o7 _ _ 1 1 (ptC p) rfl RN (fun h => by cases h) (by intro z hz; exact ptC_one [p] z (by simpa using hz)) (by omega) (k7.size)) ?_
            rintro v9 w9 ⟨o9, g9⟩
            have k9 := k7.grown g9 k7.size (own_low o7)
            refine ⟨k9, ?_⟩
            simp only [Act.put, List.setIfInBounds_toArray, List.set_cons_zero, List.set_cons_succ]
            refine held_op 8 6 v9 rfl rfl (by kernel_rfl) rfl rfl k9 ?_
            simp only [Act.put, List.setIfInBounds_toArray, List.set_cons_zero, List.set_cons_succ]
            refine wpAnyH_done (by kernel_rfl) ?_ _
            clear o7 g7 k7 RN oB oA bA bB bAB
            have R5 := Rws.from_ (n := l.length) (c := c) (k := k) (sz := 10) (rws_below (rws_below hA bW.out) k9) (flat_len ptC 10 ptC_len l) hk hc
            rw [← flat_drop ptC 10 ptC_len] at R5
            have e5 : ((l.drop k).flatMap ptC).length = (l.length - k) * 10 := by rw [flat_len ptC 10 ptC_len, List.length_drop]
            have hs4 := k9.size
            clear g9 hHeld
            go_wp2_with (first | (refine wpList_exec (.slice (fromA (some ⟨b, off, none⟩) c k 10) (l.length - k) (c - k)) rfl (exec_sliceFrom rowPty (some ⟨b, off, none⟩) l.length c k _ hk hc hn) ?_) | (at_builtin; refine wpList_appR rowPty _ rfl (.tmp 45) (.tmp 48) rfl W.heap.size _ (k + 1) ((l.take k).flatMap ptC ++ ptC p) rfl o9 _ (fromA (some ⟨b, off, none⟩) c k 10) (l.length - k) (c - k) ((l.drop k).flatMap ptC) rfl e5 R5 (fromA_nil hn) (ptC_one _) (by omega) hs4 ?_))
            intro v6 w6 o6 g6
            have b6 := bW.out.trans ((k9.grown g6 hs4 (own_low o9)).mono bW.out.size)
            have e6 : (l.take k).flatMap ptC ++ (ptC p ++ (l.drop k).flatMap ptC) = (ptPut l p).flatMap ptC := by rw [HI.out]; simp
            have e7 : k + 1 + (l.length - k) = (ptPut l p).length := by rw [ptPut_len]; omega
            rw [e6, e7] at o6
            have HN := Lib.hid (NewR.of_own (own_weak o6 bW.out.size) b6)
            clear o9 o6 g6 k9 b6 R5 e5 e6 e7 hs4 HI
            go_wp2
            go_ret
            exact HN.out
        · skip
          simp only [Act.put, List.setIfInBounds_toArray, List.set_cons_zero, List.set_cons_succ]
          have RN := rws_newB hHeld.out (ptC p) 26
          have bBA := bB.alloc bB.size (.cells #[] 26)
          refine held_op 0 37 _ rfl rfl (by kernel_rfl) rfl (exec_none_pt _) bBA ?_
          simp only [Act.put, List.setIfInBounds_toArray, List.set_cons_zero, List.set_cons_succ]
          have oA := own_emptyB bB 26 10
          have RN := RN.alloc (by simp) (.cells #[] 26)
          refine held_opx 4 41 rfl rfl (by kernel_rfl) rfl (exec_appR rowPty _ W.heap.size _ 0 [] oA _ (some ⟨b, off, none⟩) k c ((l.take k).flatMap ptC) e1 (HR.out _ bBA) hn (ptC_one _) (by omega) (bBA.size)) ?_
          rintro v7 w7 ⟨o7, g7⟩
          have k7 := bBA.grown g7 bBA.size (own_low oA)
          refine ⟨k7, ?_⟩
          simp only [Act.put, List.setIfInBounds_toArray, List.set_cons_zero, List.set_cons_succ]
          rw [Nat.zero_add, List.nil_append] at o7
          have RN := rws_grown RN g7 (fun j h => by injection h with h; simp at h ⊢; omega)
          refine held_opx 7 44 rfl rfl (by kernel_rfl) rfl (exec_appR rowPty _ W.heap.size _ k _ o7 _ _ 1 1 (ptC p) rfl RN (fun h => by cases h) (by intro z hz; exact ptC_one [p] z (by simpa using hz)) (by omega) (k7.size)) ?_
          rintro v9 w9 ⟨o9, g9⟩
          have k9 := k7.grown g9 k7.size (own_low o7)
          refine ⟨k9, ?_⟩
          simp only [Act.put, List.setIfInBounds_toArray, List.set_cons_zero, List.set_cons_succ]
          refine held_op 8 6 v9 rfl rfl (by kernel_rfl) rfl rfl k9 ?_
          simp only [Act.put, List.setIfInBounds_toArray, List.set_cons_zero, List.set_cons_succ]
          refine wpAnyH_done (by kernel_rfl) ?_ _
          clear o7 g7 k7 RN oA bA bB bBA
          have R5 := Rws.from_ (n := l.length) (c := c) (k := k) (sz := 10) (rws_below (rws_below hA bW.out) k9) (flat_len ptC 10 ptC_len l) hk hc
          rw [← flat_drop ptC 10 ptC_len] at R5
          have e5 : ((l.drop k).flatMap ptC).length = (l.length - k) * 10 := by rw [flat_len ptC 10 ptC_len, List.length_drop]
          have hs4 := k9.size
          clear g9 hHeld
          go_wp2_with (first | (refine wpList_exec (.slice (fromA (some ⟨b, off, none⟩) c k 10) (l.length - k) (c - k)) rfl (exec_sliceFrom rowPty (some ⟨b, off, none⟩) l.length c k _ hk hc hn) ?_) | (at_builtin; refine wpList_appR rowPty _ rfl (.tmp 45) (.tmp 48) rfl W.heap.size _ (k + 1) ((l.take k).flatMap ptC ++ ptC p) rfl o9 _ (fromA (some ⟨b, off, none⟩) c k 10) (l.length - k) (c - k) ((l.drop k).flatMap ptC) rfl e5 R5 (fromA_nil hn) (ptC_one _) (by omega) hs4 ?_))
          intro v6 w6 o6 g6
          have b6 := bW.out.trans ((k9.grown g6 hs4 (own_low o9)).mono bW.out.size)
          have e6 : (l.take k).flatMap ptC ++ (ptC p ++ (l.drop k).flatMap ptC) = (ptPut l p).flatMap ptC := by rw [HI.out]; simp
          have e7 : k + 1 + (l.length - k) = (ptPut l p).length := by rw [ptPut_len]; omega
          rw [e6, e7] at o6
          have HN := Lib.hid (NewR.of_own (own_weak o6 bW.out.size) b6)
          clear o9 o6 g6 k9 b6 R5 e5 e6 e7 hs4 HI
          go_wp2
          go_ret
          exact HN.out
    · have HI : Hid (ptPut l p = l.take k ++ [p] ++ l.drop k) := insP_at _ l p pt0 k hk hall (fun h => by omega)
      clear hall
      go_wp2_with fail
      go_quiet (fail)
      go_wp2_with fail
      have KX := Lib.hid (fun w' (h : Below W.heap.size W w') => Pt.here.blk (blk_call HX.out h))
      have HR : Hid (∀ w' (h : Below W.heap.size W w'), Rws w' w'.heap.size A ((l.take k).flatMap ptC)) := fun w' h => by
        rw [flat_take ptC 10 ptC_len]; exact Rws.to_ (k * 10) (rws_below (rws_below hA bW.out) h)
      have e1 : ((l.take k).flatMap ptC).length = k * 10 := by rw [flat_len ptC 10 ptC_len, List.length_take, Nat.min_eq_left hk]
      refine wp_region_held_drew (S := fun w' => Hid (Below W.heap.size W w')) (by kernel_rfl) (below_drawn (below_drawn hb _) 1) (fun hHeld => ?_)
      refine held_take 1 38 (.slice A l.length c) rfl rfl (by kernel_rfl) (by kernel_rfl) (by kernel_rfl) (fun _ _ _ h => h) rfl hHeld (fun w _ => rfl) ?_
      refine held_take 2 39 (.int .i64 (k : Int)) rfl rfl (by kernel_rfl) (by kernel_rfl) (by kernel_rfl) (fun _ _ _ h => h) rfl hHeld (fun w _ => rfl) ?_
      simp only [Act.put, List.setIfInBounds_toArray, List.set_cons_zero, List.set_cons_succ]
      refine held_take 3 40 (.slice A k c) rfl rfl (by kernel_rfl) (by kernel_rfl) (by kernel_rfl) (fun _ _ _ h => h) rfl hHeld (fun w _ => exec_sliceTo rowPty A l.length c k w hk hc hn) ?_
      refine held_take 5 42 (ptA p) rfl rfl (by kernel_rfl) (by kernel_rfl) (by kernel_rfl) (fun _ _ _ h => h) rfl hHeld (fun w hS => exec_load_pt _ 0 p w (KX.out w hS.out)) ?_
      simp only [Act.put, List.setIfInBounds_toArray, List.set_cons_zero, List.set_cons_succ]
      have bA := hHeld.out.alloc hHeld.out.size (.cells #[] 26)
      have bB := hHeld.out.alloc hHeld.out.size (.cells (ptC p).toArray 26)
      refine wpAnyH_ready (rs := [0, 6]) (by kernel_rfl) (by simp) (ready_op 0 37 _ rfl rfl rfl (exec_none_pt _) bA ?_ (ready_op 6 43 _ rfl rfl rfl (exec_one_pt p _) bB ?_ AllReadyH.nil))
      · skip
        simp only [Act.put, List.setIfInBounds_toArray, List.set_cons_zero, List.set_cons_succ]
        have oA := own_emptyB hHeld.out 26 10
        have bAB := bA.alloc bA.size (.cells (ptC p).toArray 26)
        refine wpAnyH_ready (rs := [4, 6]) (by kernel_rfl) (by simp) (ready_opx 4 41 rfl rfl rfl (exec_appR rowPty _ W.heap.size _ 0 [] oA _ A k c ((l.take k).flatMap ptC) e1 (HR.out _ bA) hn (ptC_one _) (by omega) (bA.size)) ?_ (ready_op 6 43 _ rfl rfl rfl (exec_one_pt p _) bAB ?_ AllReadyH.nil))
        · rintro v7 w7 ⟨o7, g7⟩
          have k7 := bA.grown g7 bA.size (own_low oA)
          refine ⟨k7, ?_⟩
          simp only [Act.put, List.setIfInBounds_toArray, List.set_cons_zero, List.set_cons_succ]
          rw [Nat.zero_add, List.nil_append] at o7
          refine held_op 6 43 (.slice (some ⟨w7.heap.size, 0, none⟩) 1 1) rfl rfl (by kernel_rfl) rfl (exec_one_pt p _) (k7.alloc k7.size _) ?_
          simp only [Act.put, List.setIfInBounds_toArray, List.set_cons_zero, List.set_cons_succ]
          have k8 := k7.alloc k7.size (.cells (ptC p).toArray 26)
          have o8 := o7.alloc (.cells (ptC p).toArray 26)
          refine held_opx 7 44 rfl rfl (by kernel_rfl) rfl (exec_appR rowPty _ W.heap.size _ k _ o8 _ _ 1 1 (ptC p) rfl (Rws.new w7 (ptC p) 26) (fun h => by cases h) (by intro z hz; exact ptC_one [p] z (by simpa using hz)) (by omega) (k8.size)) ?_
          rintro v9 w9 ⟨o9, g9⟩
          have k9 := k8.grown g9 k8.size (own_low o8)
          refine ⟨k9, ?_⟩
          simp only [Act.put, List.setIfInBounds_toArray, List.set_cons_zero, List.set_cons_succ]
          refine held_op 8 6 v9 rfl rfl (by kernel_rfl) rfl rfl k9 ?_
          simp only [Act.put, List.setIfInBounds_toArray, List.set_cons_zero, List.set_cons_succ]
          refine wpAnyH_done (by kernel_rfl) ?_ _
          clear o7 g7 k7 k8 o8 oA bA bB bAB
          have R5 := Rws.from_ (n := l.length) (c := c) (k := k) (sz := 10) (rws_below (rws_below hA bW.out) k9) (flat_len ptC 10 ptC_len l) hk hc
          rw [← flat_drop ptC 10 ptC_len] at R5
          have e5 : ((l.drop k).flatMap ptC).length = (l.length - k) * 10 := by rw [flat_len ptC 10 ptC_len, List.length_drop]
          have hs4 := k9.size
          clear g9 hHeld
          go_wp2_with (first | (refine wpList_exec (.slice (fromA A c k 10) (l.length - k) (c - k)) rfl (exec_sliceFrom rowPty A l.length c k _ hk hc hn) ?_) | (at_builtin; refine wpList_appR rowPty _ rfl (.tmp 45) (.tmp 48) rfl W.heap.size _ (k + 1) ((l.take k).flatMap ptC ++ ptC p) rfl o9 _ (fromA A c k 10) (l.length - k) (c - k) ((l.drop k).flatMap ptC) rfl e5 R5 (fromA_nil hn) (ptC_one _) (by omega) hs4 ?_))
          intro v6 w6 o6 g6
          have b6 := bW.out.trans ((k9.grown g6 hs4 (own_low o9)).mono bW.out.size)
          have e6 : (l.take k).flatMap ptC ++ (ptC p ++ (l.drop k).flatMap ptC) = (ptPut l p).flatMap ptC := by rw [HI.out]; simp
          have e7 : k + 1 + (l.length - k) = (ptPut l p).length := by rw [ptPut_len]; omega
          rw [e6, e7] at o6
          have HN := Lib.hid (NewR.of_own (own_weak o6 bW.out.size) b6)
          clear o9 o6 g6 k9 b6 R5 e5 e6 e7 hs4 HI
          go_wp2
          go_ret
          exact HN.out
        · skip
          simp only [Act.put, List.setIfInBounds_toArray, List.set_cons_zero, List.set_cons_succ]
          have RN := rws_newB bA (ptC p) 26
          have oB := oA.alloc (.cells (ptC p).toArray 26)
          refine held_opx 4 41 rfl rfl (by kernel_rfl) rfl (exec_appR rowPty _ W.heap.size _ 0 [] oB _ A k c ((l.take k).flatMap ptC) e1 (HR.out _ bAB) hn (ptC_one _) (by omega) (bAB.size)) ?_
          rintro v7 w7 ⟨o7, g7⟩
          have k7 := bAB.grown g7 bAB.size (own_low oB)
          refine ⟨k7, ?_⟩
          simp only [Act.put, List.setIfInBounds_toArray, List.set_cons_zero, List.set_cons_succ]
          rw [Nat.zero_add, List.nil_append] at o7
          have RN := rws_grown RN g7 (fun j h => by injection h with h; simp at h ⊢; omega)
          refine held_opx 7 44 rfl rfl (by kernel_rfl) rfl (exec_appR rowPty _ W.heap.size _ k _ o7 _ _ 1 1 (ptC p) rfl RN (fun h => by cases h) (by intro z hz; exact ptC_one [p] z (by simpa using hz)) (by omega) (k7.size)) ?_
          rintro v9 w9 ⟨o9, g9⟩
          have k9 := k7.grown g9 k7.size (own_low o7)
          refine ⟨k9, ?_⟩
          simp only [Act.put, List.setIfInBounds_toArray, List.set_cons_zero, List.set_cons_succ]
          refine held_op 8 6 v9 rfl rfl (by kernel_rfl) rfl rfl k9 ?_
          simp only [Act.put, List.setIfInBounds_toArray, List.set_cons_zero, List.set_cons_succ]
          refine wpAnyH_done (by kernel_rfl) ?_ _
          clear o7 g7 k7 RN oB oA bA bB bAB
          have R5 := Rws.from_ (n := l.length) (c := c) (k := k) (sz := 10) (rws_below (rws_below hA bW.out) k9) (flat_len ptC 10 ptC_len l) hk hc
          rw [← flat_drop ptC 10 ptC_len] at R5
          have e5 : ((l.drop k).flatMap ptC).length = (l.length - k) * 10 := by rw [flat_len ptC 10 ptC_len, List.length_drop]
          have hs4 := k9.size
          clear g9 hHeld
          go_wp2_with (first | (refine wpList_exec (.slice (fromA A c k 10) (l.length - k) (c - k)) rfl (exec_sliceFrom rowPty A l.length c k _ hk hc hn) ?_) | (at_builtin; refine wpList_appR rowPty _ rfl (.tmp 45) (.tmp 48) rfl W.heap.size _ (k + 1) ((l.take k).flatMap ptC ++ ptC p) rfl o9 _ (fromA A c k 10) (l.length - k) (c - k) ((l.drop k).flatMap ptC) rfl e5 R5 (fromA_nil hn) (ptC_one _) (by omega) hs4 ?_))
          intro v6 w6 o6 g6
          have b6 := bW.out.trans ((k9.grown g6 hs4 (own_low o9)).mono bW.out.size)
          have e6 : (l.take k).flatMap ptC ++ (ptC p ++ (l.drop k).flatMap ptC) = (ptPut l p).flatMap ptC := by rw [HI.out]; simp
          have e7 : k + 1 + (l.length - k) = (ptPut l p).length := by rw [ptPut_len]; omega
          rw [e6, e7] at o6
          have HN := Lib.hid (NewR.of_own (own_weak o6 bW.out.size) b6)
          clear o9 o6 g6 k9 b6 R5 e5 e6 e7 hs4 HI
          go_wp2
          go_ret
          exact HN.out
      · skip
        simp only [Act.put, List.setIfInBounds_toArray, List.set_cons_zero, List.set_cons_succ]
        have RN := rws_newB hHeld.out (ptC p) 26
        have bBA := bB.alloc bB.size (.cells #[] 26)
        refine held_op 0 37 _ rfl rfl (by kernel_rfl) rfl (exec_none_pt _) bBA ?_
        simp only [Act.put, List.setIfInBounds_toArray, List.set_cons_zero, List.set_cons_succ]
        have oA := own_emptyB bB 26 10
        have RN := RN.alloc (by simp) (.cells #[] 26)
        refine held_opx 4 41 rfl rfl (by kernel_rfl) rfl (exec_appR rowPty _ W.heap.size _ 0 [] oA _ A k c ((l.take k).flatMap ptC) e1 (HR.out _ bBA) hn (ptC_one _) (by omega) (bBA.size)) ?_
        rintro v7 w7 ⟨o7, g7⟩
        have k7 := bBA.grown g7 bBA.size (own_low oA)
        refine ⟨k7, ?_⟩
        simp only [Act.put, List.setIfInBounds_toArray, List.set_cons_zero, List.set_cons_succ]
        rw [Nat.zero_add, List.nil_append] at o7
        have RN := rws_grown RN g7 (fun j h => by injection h with h; simp at h ⊢; omega)
        refine held_opx 7 44 rfl rfl (by kernel_rfl) rfl (exec_appR rowPty _ W.heap.size _ k _ o7 _ _ 1 1 (ptC p) rfl RN (fun h => by cases h) (by intro z hz; exact ptC_one [p] z (by simpa using hz)) (by omega) (k7.size)) ?_
        rintro v9 w9 ⟨o9, g9⟩
        have k9 := k7.grown g9 k7.size (own_low o7)
        refine ⟨k9, ?_⟩
        simp only [Act.put, List.setIfInBounds_toArray, List.set_cons_zero, List.set_cons_succ]
        refine held_op 8 6 v9 rfl rfl (by kernel_rfl) rfl rfl k9 ?_
        simp only [Act.put, List.setIfInBounds_toArray, List.set_cons_zero, List.set_cons_succ]
        refine wpAnyH_done (by kernel_rfl) ?_ _
        clear o7 g7 k7 RN oA bA bB bBA
        have R5 := Rws.from_ (n := l.length) (c := c) (k := k) (sz := 10) (rws_below (rws_below hA bW.out) k9) (flat_len ptC 10 ptC_len l) hk hc
        rw [← flat_drop ptC 10 ptC_len] at R5
        have e5 : ((l.drop k).flatMap ptC).length = (l.length - k) * 10 := by rw [flat_len ptC 10 ptC_len, List.length_drop]
        have hs4 := k9.size
        clear g9 hHeld
        go_wp2_with (first | (refine wpList_exec (.slice (fromA A c k 10) (l.length - k) (c - k)) rfl (exec_sliceFrom rowPty A l.length c k _ hk hc hn) ?_) | (at_builtin; refine wpList_appR rowPty _ rfl (.tmp 45) (.tmp 48) rfl W.heap.size _ (k + 1) ((l.take k).flatMap ptC ++ ptC p) rfl o9 _ (fromA A c k 10) (l.length - k) (c - k) ((l.drop k).flatMap ptC) rfl e5 R5 (fromA_nil hn) (ptC_one _) (by omega) hs4 ?_))
        intro v6 w6 o6 g6
        have b6 := bW.out.trans ((k9.grown g6 hs4 (own_low o9)).mono bW.out.size)
        have e6 : (l.take k).flatMap ptC ++ (ptC p ++ (l.drop k).flatMap ptC) = (ptPut l p).flatMap ptC := by rw [HI.out]; simp
        have e7 : k + 1 + (l.length - k) = (ptPut l p).length := by rw [ptPut_len]; omega
        rw [e6, e7] at o6
        have HN := Lib.hid (NewR.of_own (own_weak o6 bW.out.size) b6)
        clear o9 o6 g6 k9 b6 R5 e5 e6 e7 hs4 HI
        go_wp2
        go_ret
        exact HN.out
/-- What TodoPut returns. -/
def todoV (l : List Int) (z : Int) : List Int := if z ∈ l then l else l ++ [z]
theorem todoV_len (l : List Int) (z : Int) : (todoV l z).length ≤ l.length + 1 := by unfold todoV; split <;> simp
set_option maxRecDepth 100000 in
set_option maxHeartbeats 1600000 in
theorem todoPut_spec (A : Option Addr) (l : List Int) (c : Nat) (z : Int) (w : World) (hl : l.length ≤ 2097152) (hn : A = none → c = 0) (hA : Rws w w.heap.size A (ints l)) :
    Calls Tryz.prog 39 #[.slice A l.length c, .int .i64 z] w (NewR 3 1 w (todoV l z).length (ints (todoV l z))) := by
  have O1 := own_empty w w.heap.size 3 1 (Nat.le_refl _)
  have x1 : Below w.heap.size w (w.alloc (.cells #[] 3)) := (Below.refl _ _).alloc (Nat.le_refl _) _
  have R1 := rws_below hA x1
  go_enter Tryz.func39, Tryz.ntmps39
  go_wp2_with (at_builtin; refine wpList_appR rowInt _ rfl (.tmp 6) (.tmp 7) rfl w.heap.size _ 0 [] rfl O1 _ A l.length c (ints l) rfl (by rw [ints_len]; omega) R1 hn (ints_one l) (by omega) (by simp) ?_)
  intro v2 w2 o2 g2
  have b2 := x1.grown g2 (by simp) (own_low O1)
  have o2' : w2.ownsRow w.heap.size 3 1 v2 l.length (ints l) := by simpa using o2
  have CH := Lib.hid (l1Has_spec A l c z w2 hl (rws_below hA b2))
  have O2 := Lib.hid o2'
  have B2 := Lib.hid b2
  clear o2 o2' g2 b2 O1 x1 R1
  go_wp2_with fail
  refine CH.out.mono ?_
  rintro e _ ⟨rfl, rfl⟩
  by_cases hz : z ∈ l
  · have HN := NewR.of_own O2.out B2.out
    have e1 : todoV l z = l := by unfold todoV; rw [if_pos hz]
    rw [← e1] at HN
    have HN := Lib.hid HN
    simp only [hz, decide_true]
    clear O2 B2 CH hz e1
    go_wp2
    go_ret
    exact HN.out
  · have e1 : todoV l z = l ++ [z] := by unfold todoV; rw [if_neg hz]
    simp only [hz, decide_false]
    have O3 := O2.out.alloc (.cells #[.int .i64 z] 3)
    have x3 : Below w2.heap.size w2 (w2.alloc (.cells #[.int .i64 z] 3)) := (Below.refl _ _).alloc (Nat.le_refl _) _
    have R3 : Rws (w2.alloc (.cells #[.int .i64 z] 3)) (w2.heap.size + 1) (some ⟨w2.heap.size, 0, none⟩) [.int .i64 z] := Rws.new w2 [.int .i64 z] 3
    have hs2 := B2.out.size
    clear hz
    go_wp2_with (at_builtin; refine wpList_appR rowInt _ rfl (.tmp 13) (.tmp 15) rfl w.heap.size _ l.length (ints l) rfl O3 _ _ 1 1 [.int .i64 z] rfl rfl R3 (fun h => by cases h) (fun u hu => by simp at hu; rw [hu]; rfl) (by omega) (by simp; omega) ?_)
    intro v4 w4 o4 g4
    have b4 := (B2.out.trans (x3.mono hs2)).grown g4 (by simp; omega) (own_low O3)
    have o4' : w4.ownsRow w.heap.size 3 1 v4 (todoV l z).length (ints (todoV l z)) := by rw [e1, List.length_append, ints_append]; exact o4
    have HN := Lib.hid (NewR.of_own o4' b4)
    clear o4 o4' g4 b4 O3 x3 R3 e1 O2 B2
    go_wp2
    go_ret
    exact HN.out
set_option maxRecDepth 100000 in
set_option maxHeartbeats 1600000 in
theorem l5Copy_spec (A : Option Addr) (c : Nat) (r : Ru) (w : World) (hl : r.seats.length ≤ 2097152) (hn : A = none → c = 0) (hA : Rws w w.heap.size A (ints r.seats)) :
    Calls Tryz.prog 51 #[ruV A c r] w (NewRu w r) := by
  obtain ⟨W, hW⟩ : ∃ W, (w.alloc (.cells #[.slice A r.seats.length c, .int .i64 r.tiers, .int .i64 r.room, .int .i64 r.size, .int .i64 r.period, .int .i64 r.window, .int .i64 r.rest, .int .i64 r.tries, .int .i64 r.crew] 34)).alloc (.cells #[.slice none 0 0, .int .i64 0, .int .i64 0, .int .i64 0, .int .i64 0, .int .i64 0, .int .i64 0, .int .i64 0, .int .i64 0] 34) = W := ⟨_, rfl⟩
  have T0 : W.heap[w.heap.size]? = some (.cells #[.slice A r.seats.length c, .int .i64 r.tiers, .int .i64 r.room, .int .i64 r.size, .int .i64 r.period, .int .i64 r.window, .int .i64 r.rest, .int .i64 r.tries, .int .i64 r.crew] 34) ∧ W.heap[w.heap.size + 1]? = some (.cells #[.slice none 0 0, .int .i64 0, .int .i64 0, .int .i64 0, .int .i64 0, .int .i64 0, .int .i64 0, .int .i64 0, .int .i64 0] 34) ∧ Below w.heap.size w W := by rw [← hW]; exact two_at w _ _ _ (Below.refl _ _)
  have ltW : w.heap.size + 1 < W.heap.size := blk_lt T0.2.1
  have O1 := own_empty W W.heap.size 3 1 (Nat.le_refl _)
  have x1 : Below W.heap.size W (W.alloc (.cells #[] 3)) := (Below.refl _ _).alloc (Nat.le_refl _) _
  have R1 := rws_below (rws_below hA T0.2.2) x1
  have q0 := cell_of_row _ _ 0 _ _ _ (blk_alloc T0.1 (.cells #[] 3))
  simp at q0
  have q00 := cell_of_row _ _ 0 _ _ _ T0.1
  simp at q00
  have HT := Lib.hid T0
  clear T0
  unfold ruV
  go_enter Tryz.func51, Tryz.ntmps51
  go_wp2_with (at_builtin; refine wpList_appR rowInt _ rfl (.tmp 3) (.tmp 5) rfl W.heap.size _ 0 [] rfl O1 _ A r.seats.length c (ints r.seats) rfl (by rw [ints_len]; omega) R1 hn (ints_one r.seats) (by omega) (by simp) ?_)
  intro v2 w2 o2 g2
  have T := HT.out
  have b2 := x1.grown g2 (by simp) (own_low O1)
  have h0 := blk_call T.1 b2
  have h1 := blk_call T.2.1 b2
  have o2' : w2.ownsRow W.heap.size 3 1 v2 r.seats.length (ints r.seats) := by simpa using o2
  obtain ⟨A2, c2, rfl, _⟩ := own_form o2'
  have h0' := Go.heap_setCell_same _ _ 0 _ _ (.slice A2 r.seats.length c2) h0
  have bw := T.2.2.trans (b2.mono T.2.2.size)
  have c00 := cell_of_row _ _ 0 _ _ _ h0
  have z00 := frozen_of_row _ _ 0 _ _ h0
  obtain ⟨U, eU⟩ : ∃ U, w2.setCell ⟨w.heap.size, 0, none⟩ (.slice A2 r.seats.length c2) = U := ⟨_, rfl⟩
  rw [eU] at h0'
  have h1' : U.heap[w.heap.size + 1]? = some (.cells #[.slice none 0 0, .int .i64 0, .int .i64 0, .int .i64 0, .int .i64 0, .int .i64 0, .int .i64 0, .int .i64 0, .int .i64 0] 34) := by rw [← eU]; exact (heap_set_ne w2 _ 0 _ (by omega)).trans h1
  have bU : Below w.heap.size w U := by rw [← eU]; exact bw.setCell (p := ⟨w.heap.size, 0, none⟩) (Nat.le_refl _) _
  have oU : U.ownsRow w.heap.size 3 1 (.slice A2 r.seats.length c2) r.seats.length (ints r.seats) := by rw [← eU]; exact own_weak (o2'.kept (Go.Lib.grownBy_setCell w2 _ 0 _) (.inr (own_ne_type o2' h0 (by decide)))) (by omega)
  have d0 := cell_of_row _ _ 0 _ _ _ h0'
  have d1 := cell_of_row _ _ 1 _ _ _ h0'
  have d2 := cell_of_row _ _ 2 _ _ _ h0'
  have d3 := cell_of_row _ _ 3 _ _ _ h0'
  have d4 := cell_of_row _ _ 4 _ _ _ h0'
  have d5 := cell_of_row _ _ 5 _ _ _ h0'
  have d6 := cell_of_row _ _ 6 _ _ _ h0'
  have d7 := cell_of_row _ _ 7 _ _ _ h0'
  have d8 := cell_of_row _ _ 8 _ _ _ h0'
  have e0 := cell_of_row _ _ 0 _ _ _ h1'
  have f0 := frozen_of_row _ _ 0 _ _ h1'
  have e1 := cell_of_row _ _ 1 _ _ _ h1'
  have f1 := frozen_of_row _ _ 1 _ _ h1'
  have e2 := cell_of_row _ _ 2 _ _ _ h1'
  have f2 := frozen_of_row _ _ 2 _ _ h1'
  have e3 := cell_of_row _ _ 3 _ _ _ h1'
  have f3 := frozen_of_row _ _ 3 _ _ h1'
  have e4 := cell_of_row _ _ 4 _ _ _ h1'
  have f4 := frozen_of_row _ _ 4 _ _ h1'
  have e5 := cell_of_row _ _ 5 _ _ _ h1'
  have f5 := frozen_of_row _ _ 5 _ _ h1'
  have e6 := cell_of_row _ _ 6 _ _ _ h1'
  have f6 := frozen_of_row _ _ 6 _ _ h1'
  have e7 := cell_of_row _ _ 7 _ _ _ h1'
  have f7 := frozen_of_row _ _ 7 _ _ h1'
  have e8 := cell_of_row _ _ 8 _ _ _ h1'
  have f8 := frozen_of_row _ _ 8 _ _ h1'
  simp at c00
  simp at d0 d1 d2 d3 d4 d5 d6 d7 d8 e0 e1 e2 e3 e4 e5 e6 e7 e8
  have HN : Hid (NewRu w r (.returned (ruV A2 c2 r)) (put9 U (w.heap.size + 1) A2 c2 r)) := ⟨A2, c2, rfl, put9_own oU (own_ne_type oU h1' (by decide)), put9_below bU (by omega)⟩
  clear o2 o2' g2 b2 h0 h1 h0' h1' bw bU oU T HT O1 x1 R1 q0 q00
  unfold ruV put9 at HN
  go_wp2
  simp [bodyPost, results, Tryz.results51, go_sem, e0, e1, e2, e3, e4, e5, e6, e7, e8]
  exact HN.out
set_option maxRecDepth 100000 in
theorem exec_load_le {ρ : Operand → Value} {o : Oper} {x : Operand} (b : Nat) (l : Le) (w : World) (h : Le.here w b 0 l) (ho : o.op = .load 53 x := by rfl) (hx : ρ x = .pointer (some ⟨b, 0, none⟩) := by rfl) :
    (execOp ρ o).run Tryz.prog w = .ok (.value (leA l)) w := by
  obtain ⟨h0, h1, h2, h3, h4⟩ := h
  unfold execOp
  rw [ho]
  simp at h0 h1 h2 h3 h4
  simp [go_sem, hx, h0, h1, h2, h3, h4, leA]
set_option maxRecDepth 100000 in
theorem exec_build_cb2 {ρ : Operand → Value} {o : Oper} {x z : Operand} (c : Cb) (w : World) (hq : c.q = none) (hq1 : c.qn = 0) (hq2 : c.qc = 0) (ho : o.op = .build 59 #[(0, x), (2, z)] := by rfl) (hx : ρ x = leA c.le := by rfl) (hz : ρ z = .agg #[.slice c.p c.pn c.pc] := by rfl) :
    (execOp ρ o).run Tryz.prog w = .ok (.value (cbA c)) w := by
  unfold execOp
  rw [ho]
  simp [go_sem, hx, hz, leA, cbA, hq, hq1, hq2]
def GotCb (w : World) (e : Ending) (w' : World) : Prop := (∃ x b, e = .returned (.tuple #[cbA x, .bool b])) ∧ Below w.heap.size w w'
set_option maxRecDepth 100000 in
set_option maxHeartbeats 3200000 in
theorem cabinNew_any (t : Int) (w : World) (ht : 1 ≤ t ∧ t ≤ 60) : Calls Tryz.prog 52 #[.int .i64 t] w (GotCb w) := by
  have b0 : Below w.heap.size w (w.alloc (.cells #[.int .i64 0, .int .i64 0, .int .i64 0, .int .i64 0, .int .i64 0, .slice none 0 0, .slice none 0 0] 59)) := (Below.refl _ _).alloc (Nat.le_refl _) _
  have CL := Lib.hid (ledgerNew_spec t (w.alloc (.cells #[.int .i64 0, .int .i64 0, .int .i64 0, .int .i64 0, .int .i64 0, .slice none 0 0, .slice none 0 0] 59)))
  obtain ⟨l, el⟩ : ∃ l, (ledgerNewV t).1 = l := ⟨_, rfl⟩
  have ed : (ledgerNewV t).2 = true := by unfold ledgerNewV; rw [if_pos ht]
  rw [el, ed] at CL
  clear el ed b0
  unfold leA at CL
  go_enter Tryz.func52, Tryz.ntmps52
  go_wp2_with fail
  refine CL.out.mono ?_
  rintro e w1 ⟨rfl, b1⟩
  have hC : w1.heap[w.heap.size]? = some (.cells #[.int .i64 0, .int .i64 0, .int .i64 0, .int .i64 0, .int .i64 0, .slice none 0 0, .slice none 0 0] 59) := blk_call (heap_new _ _) b1
  have bW := boxB _ _ _ b1
  have hC2 := blk_alloc hC (.cells #[.int .i64 l.total, .int .i64 l.free, .int .i64 l.held, .int .i64 l.sold, .int .i64 l.tied] 53)
  have hL2 := heap_new w1 (.cells #[.int .i64 l.total, .int .i64 l.free, .int .i64 l.held, .int .i64 l.sold, .int .i64 l.tied] 53)
  have bW2 := bW.alloc bW.size (.cells #[.int .i64 l.total, .int .i64 l.free, .int .i64 l.held, .int .i64 l.sold, .int .i64 l.tied] 53)
  obtain ⟨U, eU⟩ : ∃ U, w1.alloc (.cells #[.int .i64 l.total, .int .i64 l.free, .int .i64 l.held, .int .i64 l.sold, .int .i64 l.tied] 53) = U := ⟨_, rfl⟩
  rw [eU] at hC2 hL2 bW2
  have HU := Lib.hid eU
  have ltC : w.heap.size < w1.heap.size := blk_lt hC
  clear b1 CL eU
  have KL := Lib.hid (fun w' (h : Below U.heap.size U w') => Le.here.blk (blk_call hL2 h))
  have HC := Lib.hid hC2
  have HB := Lib.hid bW2
  clear hC bW hC2 hL2 bW2
  go_wp2_with fail
  rw [HU.out]
  refine wp_region_F 3 (fun w' => Hid (Below U.heap.size U w')) (by kernel_rfl) ?_
  have hH0 : Hid (Below U.heap.size U U.drew) := below_drawn (Below.refl _ _) 1
  refine f_take 0 14 (leA l) rfl rfl (by kernel_rfl) (by kernel_rfl) (by kernel_rfl) (by kernel_rfl) (fun _ _ _ h => h) rfl hH0 (fun w h => exec_load_le _ l w (KL.out w h.out)) ?_
  simp only [Act.put, List.setIfInBounds_toArray, List.set_cons_zero, List.set_cons_succ]
  refine f_call 1 15 55 #[] rfl rfl (by kernel_rfl) rfl (exec_call Tryz.func55 (by kernel_rfl) (by kernel_rfl) _ rfl (by simp)) ?_
  refine (wheelNew_spec _).mono ?_
  rintro e u3 ⟨P3, cp3, sq3, rfl, hm3, O3, x3⟩
  have k3 := hH0.out.trans (x3.mono hH0.out.size)
  refine ⟨_, rfl, (fun _ _ => Lib.hid k3), ?_⟩
  simp only [Act.put, List.setIfInBounds_toArray, List.set_cons_zero, List.set_cons_succ]
  refine f_op 2 16 (cbA ⟨l, none, 0, 0, P3, sq3.length, cp3⟩) rfl rfl (by kernel_rfl) rfl (exec_build_cb2 ⟨l, none, 0, 0, P3, sq3.length, cp3⟩ _ rfl rfl rfl) (fun _ _ => Lib.hid k3) ?_
  simp only [Act.put, List.setIfInBounds_toArray, List.set_cons_zero, List.set_cons_succ]
  have hC3 := blk_call HC.out k3
  have bU := HB.out.trans (k3.mono HB.out.size)
  refine f_store 3 rfl rfl (by kernel_rfl) rfl (exec_store_cb w.heap.size ⟨l, none, 0, 0, P3, sq3.length, cp3⟩ _ _ _ _ _ _ _ u3 hC3) (fun h => absurd rfl h) ?_
  refine f_op 4 3 (.bool true) rfl rfl (by kernel_rfl) rfl rfl (fun _ h => absurd h (by simp)) ?_
  simp only [Act.put, List.setIfInBounds_toArray, List.set_cons_zero, List.set_cons_succ]
  refine f_done (by kernel_rfl) ?_ _
  obtain ⟨X, eX⟩ : ∃ X : Cb, (⟨l, none, 0, 0, P3, sq3.length, cp3⟩ : Cb) = X := ⟨_, rfl⟩
  rw [eX]
  obtain ⟨V, eV⟩ : ∃ V, putCb u3 w.heap.size X = V := ⟨_, rfl⟩
  rw [eV]
  have hV : V.heap[w.heap.size]? = some (.cells #[.int .i64 X.le.total, .int .i64 X.le.free, .int .i64 X.le.held, .int .i64 X.le.sold, .int .i64 X.le.tied, .slice X.q X.qn X.qc, .slice X.p X.pn X.pc] 59) := by rw [← eV]; exact putCb_heap hC3
  have bV : Hid (Below w.heap.size w V) := by show Below _ _ _; rw [← eV]; exact putCb_below bU (Nat.le_refl _)
  clear eV eX hC3 bU k3 x3 O3 hm3 hH0 KL HC HB
  have c0 := cell_of_row _ _ 0 _ _ _ hV
  have c1 := cell_of_row _ _ 1 _ _ _ hV
  have c2 := cell_of_row _ _ 2 _ _ _ hV
  have c3 := cell_of_row _ _ 3 _ _ _ hV
  have c4 := cell_of_row _ _ 4 _ _ _ hV
  have c5 := cell_of_row _ _ 5 _ _ _ hV
  have c6 := cell_of_row _ _ 6 _ _ _ hV
  simp at c0 c1 c2 c3 c4 c5 c6
  clear hV
  go_wp2
  simp [bodyPost, results, Tryz.results52, go_sem, c0, c1, c2, c3, c4, c5, c6]
  exact ⟨⟨X, true, rfl⟩, bV.out⟩
end Go.Proofs.YtlflgflmlfileaaGreat
