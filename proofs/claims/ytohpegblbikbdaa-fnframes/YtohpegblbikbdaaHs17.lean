/- l10Made of the model: it returns. -/
import Derived.Test.YtohpegblbikbdaaRows
import Derived.Test.YtohpegblbikbdaaHs16
import Derived.Test.YtohpegblbikbdaaLateF
namespace Go.Proofs.Ytohpegblbikbdaa
open Go.RowKit
set_option linter.unusedSimpArgs false
set_option linter.unusedVariables false
/-- A cabin's cells. -/
structure Cb where
  le : Le
  q : Option Addr
  qn : Nat
  qc : Nat
  p : Option Addr
  pn : Nat
  pc : Nat
def cbA (x : Cb) : Value := .agg #[.int .i64 x.le.total, .int .i64 x.le.free, .int .i64 x.le.held, .int .i64 x.le.sold, .int .i64 x.le.tied, .slice x.q x.qn x.qc, .slice x.p x.pn x.pc]
theorem sum_in (l : List Pt) (f : Pt → Int) (h : ∀ x, 0 ≤ f x ∧ f x ≤ 6) : 0 ≤ (l.map f).sum ∧ (l.map f).sum ≤ 6 * l.length := by
  induction l with
  | nil => simp
  | cons x l ih =>
    have := h x
    rw [List.map_cons, List.sum_cons, List.length_cons]
    omega
theorem held_in (l : List Pt) (cabin : Int) : 0 ≤ heldV l cabin ∧ heldV l cabin ≤ 6 * l.length := sum_in l _ (fun x => by split <;> omega)
theorem tied_in (l : List Pt) (cabin : Int) : 0 ≤ tiedV l cabin ∧ tiedV l cabin ≤ 6 * l.length := sum_in l _ (fun x => by split <;> omega)
theorem pinsV_len (l : List Pt) (cabin : Int) : (pinsV l cabin).length ≤ l.length := by
  unfold pinsV
  suffices ∀ (q : List Pn), (l.foldl (fun acc x => if x.state = 2 ∧ x.cabin = cabin then pnPut acc ⟨x.until_, x.id⟩ else acc) q).length ≤ q.length + l.length by simpa using this []
  induction l with
  | nil => intro q; simp
  | cons x l ih =>
    intro q
    rw [List.foldl_cons, List.length_cons]
    split
    · have := ih (pnPut q ⟨x.until_, x.id⟩); rw [pnPut_len] at this; omega
    · have := ih q; omega
/-- Few pins on nine spokes. -/
def Few (ls : List (List Pn)) : Prop := ls.length = 9 ∧ ls.flatten.length ≤ 10
theorem few_put {ls : List (List Pn)} (h : Few ls) (p : Pn) : Few (wheelPutV ls p).1 := by
  unfold wheelPutV
  split
  · split
    · rename_i h2
      have := wheelB_iff h2
      exact ⟨this.1, this.2.1⟩
    · exact h
  · exact h
set_option maxRecDepth 100000 in
theorem exec_build_cb {ρ : Operand → Value} {o : Oper} {x y z : Operand} (c : Cb) (w : World) (ho : o.op = .build 89 #[(0, x), (1, y), (2, z)] := by rfl) (hx : ρ x = leA c.le := by rfl) (hy : ρ y = .slice c.q c.qn c.qc := by rfl) (hz : ρ z = .agg #[.slice c.p c.pn c.pc] := by rfl) :
    (execOp ρ o).run Try.prog w = .ok (.value (cbA c)) w := by
  unfold execOp
  rw [ho]
  simp [go_sem, hx, hy, hz, leA, cbA]
set_option maxRecDepth 100000 in
theorem exec_build_le {ρ : Operand → Value} {o : Oper} {a b c d e : Operand} (l : Le) (w : World) (ho : o.op = .build 83 #[(0, a), (1, b), (2, c), (3, d), (4, e)] := by rfl) (h0 : ρ a = .int .i64 l.total := by rfl) (h1 : ρ b = .int .i64 l.free := by rfl) (h2 : ρ c = .int .i64 l.held := by rfl) (h3 : ρ d = .int .i64 l.sold := by rfl) (h4 : ρ e = .int .i64 l.tied := by rfl) :
    (execOp ρ o).run Try.prog w = .ok (.value (leA l)) w := by
  unfold execOp
  rw [ho]
  simp [go_sem, h0, h1, h2, h3, h4, leA]
set_option maxRecDepth 100000 in
theorem exec_loadW {ρ : Operand → Value} {o : Oper} {x : Operand} (b : Nat) (P : Option Addr) (n c : Nat) (w : World) (h : w.cell? ⟨b, 0, none⟩ = some (.slice P n c)) (ho : o.op = .load 87 x := by rfl) (hx : ρ x = .pointer (some ⟨b, 0, none⟩) := by rfl) :
    (execOp ρ o).run Try.prog w = .ok (.value (.agg #[.slice P n c])) w := by
  unfold execOp
  rw [ho]
  simp [go_sem, hx, h]
set_option maxRecDepth 100000 in
theorem exec_storeW {ρ : Operand → Value} {o : Oper} {x y : Operand} (b : Nat) (P : Option Addr) (n c : Nat) (u : Value) (w : World) (h : w.cell? ⟨b, 0, none⟩ = some u) (hz : w.frozen? ⟨b, 0, none⟩ = false) (ho : o.op = .store 87 x y := by rfl) (hx : ρ x = .pointer (some ⟨b, 0, none⟩) := by rfl) (hy : ρ y = .agg #[.slice P n c] := by rfl) :
    (execOp ρ o).run Try.prog w = .ok .skip (w.setCell ⟨b, 0, none⟩ (.slice P n c)) := by
  unfold execOp
  rw [ho]
  simp [go_sem, hx, hy, h, hz]
def putCb (w : World) (g : Nat) (x : Cb) : World := (((((((w.setCell ⟨g, 0, none⟩ (.int .i64 x.le.total)).setCell ⟨g, 1, none⟩ (.int .i64 x.le.free)).setCell ⟨g, 2, none⟩ (.int .i64 x.le.held)).setCell ⟨g, 3, none⟩ (.int .i64 x.le.sold)).setCell ⟨g, 4, none⟩ (.int .i64 x.le.tied)).setCell ⟨g, 5, none⟩ (.slice x.q x.qn x.qc)).setCell ⟨g, 6, none⟩ (.slice x.p x.pn x.pc))
theorem putCb_heap {w : World} {g : Nat} {x : Cb} {a0 a1 a2 a3 a4 a5 a6 : Value} {t : TypeId} (h : w.heap[g]? = some (.cells #[a0, a1, a2, a3, a4, a5, a6] t (0, 0))) : (putCb w g x).heap[g]? = some (.cells #[.int .i64 x.le.total, .int .i64 x.le.free, .int .i64 x.le.held, .int .i64 x.le.sold, .int .i64 x.le.tied, .slice x.q x.qn x.qc, .slice x.p x.pn x.pc] t (0, 0)) := by
  unfold putCb
  have h := Go.heap_setCell_same _ g 0 _ t (.int .i64 x.le.total) h
  have h := Go.heap_setCell_same _ g 1 _ t (.int .i64 x.le.free) h
  have h := Go.heap_setCell_same _ g 2 _ t (.int .i64 x.le.held) h
  have h := Go.heap_setCell_same _ g 3 _ t (.int .i64 x.le.sold) h
  have h := Go.heap_setCell_same _ g 4 _ t (.int .i64 x.le.tied) h
  have h := Go.heap_setCell_same _ g 5 _ t (.slice x.q x.qn x.qc) h
  have h := Go.heap_setCell_same _ g 6 _ t (.slice x.p x.pn x.pc) h
  simpa using h
theorem putCb_below {B : Nat} {w0 w : World} {g : Nat} {x : Cb} (h : Below B w0 w) (hg : B ≤ g) : Below B w0 (putCb w g x) := by
  unfold putCb
  exact ((((((h.setCell hg _).setCell hg _).setCell hg _).setCell hg _).setCell hg _).setCell hg _).setCell hg _
set_option maxRecDepth 100000 in
theorem exec_store_cb {ρ : Operand → Value} {o : Oper} {x y : Operand} (g : Nat) (c : Cb) (a0 a1 a2 a3 a4 a5 a6 : Value) (w : World) (h : w.heap[g]? = some (.cells #[a0, a1, a2, a3, a4, a5, a6] 89 (0, 0))) (ho : o.op = .store 89 x y := by rfl) (hx : ρ x = .pointer (some ⟨g, 0, none⟩) := by rfl) (hy : ρ y = cbA c := by rfl) :
    (execOp ρ o).run Try.prog w = .ok .skip (putCb w g c) := by
  have c0 := cell_of_row _ _ 0 _ _ _ h
  have z0 := frozen_of_row _ _ 0 _ _ h
  have c1 := cell_of_row _ _ 1 _ _ _ h
  have z1 := frozen_of_row _ _ 1 _ _ h
  have c2 := cell_of_row _ _ 2 _ _ _ h
  have z2 := frozen_of_row _ _ 2 _ _ h
  have c3 := cell_of_row _ _ 3 _ _ _ h
  have z3 := frozen_of_row _ _ 3 _ _ h
  have c4 := cell_of_row _ _ 4 _ _ _ h
  have z4 := frozen_of_row _ _ 4 _ _ h
  have c5 := cell_of_row _ _ 5 _ _ _ h
  have z5 := frozen_of_row _ _ 5 _ _ h
  have c6 := cell_of_row _ _ 6 _ _ _ h
  have z6 := frozen_of_row _ _ 6 _ _ h
  simp at c0 c1 c2 c3 c4 c5 c6
  unfold execOp
  rw [ho]
  simp [go_sem, hx, hy, cbA, c0, c1, c2, c3, c4, c5, c6, z0, z1, z2, z3, z4, z5, z6, putCb]
/-- What is kept of the first blocks of l10Made. -/
structure Mk (w u : World) (RA : Option Addr) (rc : Nat) (r : Ru) (g : Nat) (P : Option Addr) (cp : Nat) (sq : List Sp) : Prop where
  R : u.heap[w.heap.size]? = some (.cells #[.slice RA r.seats.length rc, .int .i64 r.tiers, .int .i64 r.room, .int .i64 r.size, .int .i64 r.period, .int .i64 r.window, .int .i64 r.rest, .int .i64 r.tries, .int .i64 r.crew] 48)
  C : u.heap[w.heap.size + 1]? = some (.cells #[.int .i64 0, .int .i64 0, .int .i64 0, .int .i64 0, .int .i64 0, .slice none 0 0, .slice none 0 0] 89)
  G : u.heap[g]? = some (.cells #[.slice P sq.length cp] 87)
  W : Whl u P sq
  B : Below w.heap.size w u
  F : Few (sq.map (fun s => s.l))
  lt : w.heap.size + 1 < g
theorem Mk.call {w u u' : World} {RA : Option Addr} {rc : Nat} {r : Ru} {g : Nat} {P : Option Addr} {cp : Nat} {sq : List Sp} (h : Mk w u RA rc r g P cp sq) (b : Below u.heap.size u u') : Mk w u' RA rc r g P cp sq :=
  ⟨blk_call h.R b, blk_call h.C b, blk_call h.G b, h.W.below b, h.B.trans (b.mono h.B.size), h.F, h.lt⟩
set_option maxRecDepth 100000 in
set_option maxHeartbeats 6400000 in
theorem l10Made_any (RA A : Option Addr) (rc : Nat) (r : Ru) (l : List Pt) (c k : Nat) (now free : Int) (w : World) (hr : RuOk r) (hk : k < r.seats.length) (hl : l.length ≤ 1000) (hfr : 0 ≤ free ∧ free ≤ 1000) (hRA : Rws w w.heap.size RA (ints r.seats)) (hA : Rws w w.heap.size A (l.flatMap ptC)) :
    Calls Try.prog 44 #[ruV RA rc r, .slice A l.length c, .int .i64 k, .int .i64 now, .int .i64 free] w fun e w' => (∃ x, e = .returned (cbA x)) ∧ Below w.heap.size w w' := by
  have CP := Lib.hid (fun u (b : Below w.heap.size w u) => pinsIn_spec A l c (k : Int) u (by omega) (rws_below hA b))
  have CH := Lib.hid (fun u (b : Below w.heap.size w u) => held_spec A l c (k : Int) u (by omega) (rws_below hA b))
  have CT := Lib.hid (fun u (b : Below w.heap.size w u) => tied_spec A l c (k : Int) u (by omega) (rws_below hA b))
  have CQ := Lib.hid (fun u (b : Below w.heap.size w u) => queueOf_spec RA A rc r l c (k : Int) now u hr.go.1 (by omega) (rws_below hRA b) (rws_below hA b))
  have hih := held_in l (k : Int)
  have hit := tied_in l (k : Int)
  have hsk := hr.seat k hk
  obtain ⟨sb, so, rfl, hsB, hsc⟩ := hRA.int hk
  generalize r.seats.getD k 0 = S0 at *
  generalize heldV l (k : Int) = H0 at *
  generalize tiedV l (k : Int) = T0 at *
  unfold ruV
  go_enter Try.func44, Try.ntmps44
  go_wp2_with fail
  refine (wheelNew_spec _).mono ?_
  rintro e u1 ⟨P, cp, sq, rfl, hm1, O1, x1⟩
  have T : Mk w (u1.alloc (.cells #[.slice P sq.length cp] 87)) (some ⟨sb, so, none⟩) rc r u1.heap.size P cp sq := by
    have T1 := two_at w u1 _ _ x1
    have lt := blk_lt T1.2.1
    refine ⟨blk_alloc T1.1 _, blk_alloc T1.2.1 _, heap_new _ _, (O1.alloc _).whl, T1.2.2.alloc T1.2.2.size _, ?_, lt⟩
    have : sq.map (fun s => s.l) = nineW := hm1
    rw [this]
    unfold Few nineW
    simp
  have TT := Lib.hid T
  have C1 := Lib.hid (CP.out _ T.B)
  clear T O1 x1 hm1
  go_wp2_with fail
  refine C1.out.mono ?_
  rintro e u2 ⟨L, cl, rfl, oL, x2⟩
  have T := TT.out.call x2
  have hpl := pinsV_len l (k : Int)
  generalize pinsV l (k : Int) = q at *
  generalize u1.heap.size = g at *
  have OL := Lib.hid (own_weak oL (Nat.zero_le _))
  clear C1 TT x2 CP oL
  have TT := Lib.hid T
  clear T
  go_wp2_with fail
  go_loopw [13] (fun vi wr => ∃ (i : Nat) (P : Option Addr) (cp : Nat) (sq : List Sp), i ≤ q.length ∧ vi = .int .i64 i ∧ Mk w wr (some ⟨sb, so, none⟩) rc r g P cp sq ∧ wr.ownsRow 0 111 2 (.slice L q.length cl) q.length (q.flatMap pnC)) (fun vi _ => q.length - (intOf vi).toNat)
  case atStart => exact ⟨0, P, cp, sq, by omega, rfl, TT.out, OL.out⟩
  case round =>
    clear TT OL
    obtain ⟨i, P, cp, sq, hi0, rfl, T, oL⟩ := hrel
    by_cases hi : i < q.length
    · obtain ⟨b, off, rfl, hbB, hy⟩ := (own_rws oL).pn hi
      generalize q.getD i pn0 = y at *
      have hF := T.F
      have hsq : sq.length = 9 := by have := hF.1; simpa using this
      have hal : (allPn sq).length ≤ 10 := by have := hF.2; rw [ls_flat] at this; exact this
      have KG := Lib.hid (fun w' (h : Below wr.heap.size wr w') => cell_of_row _ _ 0 _ _ _ (blk_call T.G h))
      have KY := Lib.hid (fun w' (h : Below wr.heap.size wr w') => Pn.here.below hy h hbB)
      have TT := Lib.hid T
      have OL := Lib.hid oL
      have HQ := Lib.hid hsq
      clear T oL hy hsq
      go_wp2_with fail
      refine wp_region_F 9 (fun w' => Hid (Below wr.heap.size wr w')) (by kernel_rfl) ?_
      have hH0 : Hid (Below wr.heap.size wr wr.drew) := below_drawn (Below.refl _ _) 1
      refine f_take 0 29 (.agg #[.slice P sq.length cp]) rfl rfl (by kernel_rfl) (by kernel_rfl) (by kernel_rfl) (by kernel_rfl) (fun _ _ _ h => h) rfl hH0 (fun w h => exec_loadW _ P sq.length cp w (KG.out w h.out)) ?_
      refine f_take 1 30 (.slice (some ⟨b, off, none⟩) q.length cl) rfl rfl (by kernel_rfl) (by kernel_rfl) (by kernel_rfl) (by kernel_rfl) (fun _ _ _ h => h) rfl hH0 (fun w _ => rfl) ?_
      simp only [Act.put, List.setIfInBounds_toArray, List.set_cons_zero, List.set_cons_succ]
      refine f_take 2 31 (.int .i64 (i : Int)) rfl rfl (by kernel_rfl) (by kernel_rfl) (by kernel_rfl) (by kernel_rfl) (fun _ _ _ h => h) rfl hH0 (fun w _ => rfl) ?_
      refine f_take 3 32 (.pointer (some ⟨b, off + i * 2, none⟩)) rfl rfl (by kernel_rfl) (by kernel_rfl) (by kernel_rfl) (by kernel_rfl) (fun _ _ _ h => h) rfl hH0 (fun w _ => exec_idx_pn b off q.length cl i w hi) ?_
      simp only [Act.put, List.setIfInBounds_toArray, List.set_cons_zero, List.set_cons_succ]
      refine f_take 4 33 (pnA y) rfl rfl (by kernel_rfl) (by kernel_rfl) (by kernel_rfl) (by kernel_rfl) (fun _ _ _ h => h) rfl hH0 (fun w h => exec_load_pn b (off + i * 2) y w (KY.out w h.out)) ?_
      simp only [Act.put, List.setIfInBounds_toArray, List.set_cons_zero, List.set_cons_succ]
      refine f_call 5 34 61 #[.agg #[.slice P sq.length cp], pnA y] rfl rfl (by kernel_rfl) rfl (exec_call Try.func61 (by kernel_rfl) (by kernel_rfl) _) ?_
      refine (wheelPut_spec P sq cp y wr.drew (by have := HQ.out; omega) (by omega) (TT.out.W.below hH0.out)).mono ?_
      rintro e u3 ⟨P3, cp3, sq3, rfl, hm3, O3, x3⟩
      have k3 := hH0.out.trans (x3.mono hH0.out.size)
      refine ⟨_, rfl, (fun _ _ => Lib.hid k3), ?_⟩
      simp only [Act.put, List.setIfInBounds_toArray, List.set_cons_zero, List.set_cons_succ]
      generalize (wheelPutV (sq.map fun s => s.l) y).2 = bb
      refine f_op 6 28 (.tuple #[.agg #[.slice P3 sq3.length cp3], .bool bb]) rfl rfl (by kernel_rfl) rfl rfl (fun _ _ => Lib.hid k3) ?_
      simp only [Act.put, List.setIfInBounds_toArray, List.set_cons_zero, List.set_cons_succ]
      refine f_take 7 35 (.agg #[.slice P3 sq3.length cp3]) rfl rfl (by kernel_rfl) (by kernel_rfl) (by kernel_rfl) (by kernel_rfl) (fun _ _ _ h => h) rfl (Lib.hid k3) (fun w _ => rfl) ?_
      simp only [Act.put, List.setIfInBounds_toArray, List.set_cons_zero, List.set_cons_succ]
      have T := TT.out.call k3
      refine f_ready2 8 9 (by kernel_rfl) (f_opw 8 36 (.bool bb) rfl rfl rfl rfl ⟨(fun _ _ => Lib.hid k3), ?_⟩) (f_storew 9 rfl rfl rfl (exec_storeW g P3 sq3.length cp3 _ u3 (cell_of_row _ _ 0 _ _ _ T.G) (frozen_of_row _ _ 0 _ _ T.G)) ⟨(fun h => absurd rfl h), ?_⟩)
      · simp only [Act.put, List.setIfInBounds_toArray, List.set_cons_zero, List.set_cons_succ]
        refine f_store 9 rfl rfl (by kernel_rfl) rfl (exec_storeW g P3 sq3.length cp3 _ u3 (cell_of_row _ _ 0 _ _ _ T.G) (frozen_of_row _ _ 0 _ _ T.G)) (fun h => absurd rfl h) ?_
        refine f_done (by kernel_rfl) ?_ _
        have lt := T.lt
        have T4 : Hid (Mk w (u3.setCell ⟨g, 0, none⟩ (.slice P3 sq3.length cp3)) (some ⟨sb, so, none⟩) rc r g P3 cp3 sq3) := by
          refine ⟨(heap_set_ne u3 _ 0 _ (by omega)).trans T.R, (heap_set_ne u3 _ 0 _ (by omega)).trans T.C, Go.heap_setCell_same _ _ 0 _ _ (.slice P3 sq3.length cp3) T.G, (O3.put T.G (by decide) (by decide) 0 _).whl, T.B.setCell (p := ⟨g, 0, none⟩) (by show _ ≤ g; omega) _, ?_, T.lt⟩
          have : sq3.map (fun s => s.l) = (wheelPutV (sq.map fun s => s.l) y).1 := hm3
          rw [this]
          exact few_put hF y
        have oL := own_below OL.out k3
        have O4 : Hid ((u3.setCell ⟨g, 0, none⟩ (.slice P3 sq3.length cp3)).ownsRow 0 111 2 (.slice (some ⟨b, off, none⟩) q.length cl) q.length (q.flatMap pnC)) :=
          oL.kept (Go.Lib.grownBy_setCell u3 g 0 _) (.inr (own_ne_type oL T.G (by decide)))
        clear T oL k3 x3 O3 hm3 hH0 TT OL KG KY hF
        go_wp2
        go_roundw
        case rel => exact ⟨i + 1, P3, cp3, sq3, by omega, by go_num, T4.out, O4.out⟩
        case measure => simp [intOf] <;> omega
      · refine f_op 8 36 (.bool bb) rfl rfl (by kernel_rfl) rfl rfl (fun _ h => absurd h (by simp)) ?_
        simp only [Act.put, List.setIfInBounds_toArray, List.set_cons_zero, List.set_cons_succ]
        refine f_done (by kernel_rfl) ?_ _
        have lt := T.lt
        have T4 : Hid (Mk w (u3.setCell ⟨g, 0, none⟩ (.slice P3 sq3.length cp3)) (some ⟨sb, so, none⟩) rc r g P3 cp3 sq3) := by
          refine ⟨(heap_set_ne u3 _ 0 _ (by omega)).trans T.R, (heap_set_ne u3 _ 0 _ (by omega)).trans T.C, Go.heap_setCell_same _ _ 0 _ _ (.slice P3 sq3.length cp3) T.G, (O3.put T.G (by decide) (by decide) 0 _).whl, T.B.setCell (p := ⟨g, 0, none⟩) (by show _ ≤ g; omega) _, ?_, T.lt⟩
          have : sq3.map (fun s => s.l) = (wheelPutV (sq.map fun s => s.l) y).1 := hm3
          rw [this]
          exact few_put hF y
        have oL := own_below OL.out k3
        have O4 : Hid ((u3.setCell ⟨g, 0, none⟩ (.slice P3 sq3.length cp3)).ownsRow 0 111 2 (.slice (some ⟨b, off, none⟩) q.length cl) q.length (q.flatMap pnC)) :=
          oL.kept (Go.Lib.grownBy_setCell u3 g 0 _) (.inr (own_ne_type oL T.G (by decide)))
        clear T oL k3 x3 O3 hm3 hH0 TT OL KG KY hF
        go_wp2
        go_roundw
        case rel => exact ⟨i + 1, P3, cp3, sq3, by omega, by go_num, T4.out, O4.out⟩
        case measure => simp [intOf] <;> omega
    · have TT := Lib.hid T
      have r0 := (T.B.cell (by exact hsB)).trans hsc
      have C1 := Lib.hid (CH.out _ T.B)
      have C2 := Lib.hid (CT.out _ T.B)
      have q0 := cell_of_row _ _ 0 _ _ _ T.R
      simp at q0
      clear T oL
      go_wp2_with fail
      refine C1.out.mono ?_
      rintro e _ ⟨rfl, rfl⟩
      go_wp2_with fail
      refine C2.out.mono ?_
      rintro e _ ⟨rfl, rfl⟩
      go_wp2_with fail
      refine (l1Max_any T0 (S0 - H0 - free) _).mono ?_
      rintro e _ ⟨rfl, rfl⟩
      obtain ⟨M, hM⟩ : ∃ M, (if S0 - H0 - free < T0 then T0 else S0 - H0 - free) = M := ⟨_, rfl⟩
      have hM1 : -10000 ≤ M ∧ M ≤ 10000 := by rw [← hM]; split <;> omega
      rw [hM]
      clear hM C1 C2 r0 q0
      have T := TT.out
      have KR := Lib.hid (fun w' (h : Below wr.heap.size wr w') => blk_call T.R h)
      have KG := Lib.hid (fun w' (h : Below wr.heap.size wr w') => cell_of_row _ _ 0 _ _ _ (blk_call T.G h))
      have KQ := Lib.hid (fun w' (h : Below wr.heap.size wr w') => CQ.out w' (T.B.trans (h.mono T.B.size)))
      clear T CH CT CQ
      go_wp2_with fail
      have hH0 : Hid (Below wr.heap.size wr wr.drew) := below_drawn (Below.refl _ _) 1
      refine wp_region_E 17 (fun w' => Hid (Below wr.heap.size wr w')) (by kernel_rfl) ?_
      refine e_take 0 55 (.int .i64 S0) rfl rfl (by kernel_rfl) (by kernel_rfl) (by kernel_rfl) (by kernel_rfl) (fun _ _ _ h => h) rfl hH0 (fun w _ => rfl) ?_
      refine e_take 1 56 (.int .i64 S0) rfl rfl (by kernel_rfl) (by kernel_rfl) (by kernel_rfl) (by kernel_rfl) (fun _ _ _ h => h) rfl hH0 (fun w _ => rfl) ?_
      refine e_take 2 57 (.int .i64 H0) rfl rfl (by kernel_rfl) (by kernel_rfl) (by kernel_rfl) (by kernel_rfl) (fun _ _ _ h => h) rfl hH0 (fun w _ => rfl) ?_
      simp only [Act.put, List.setIfInBounds_toArray, List.set_cons_zero, List.set_cons_succ]
      refine e_take 3 58 (.int .i64 (S0 - H0)) rfl rfl (by kernel_rfl) (by kernel_rfl) (by kernel_rfl) (by kernel_rfl) (fun _ _ _ h => h) rfl hH0 (fun w _ => exec_subI S0 H0 _ w rfl (by omega) (by omega)) ?_
      refine e_take 4 59 (.int .i64 M) rfl rfl (by kernel_rfl) (by kernel_rfl) (by kernel_rfl) (by kernel_rfl) (fun _ _ _ h => h) rfl hH0 (fun w _ => rfl) ?_
      refine e_take 5 60 (.int .i64 (S0 - H0 - M)) rfl rfl (by kernel_rfl) (by kernel_rfl) (by kernel_rfl) (by kernel_rfl) (fun _ _ _ h => h) rfl hH0 (fun w _ => exec_subI (S0 - H0) M _ w rfl (by omega) (by omega)) ?_
      simp only [Act.put, List.setIfInBounds_toArray, List.set_cons_zero, List.set_cons_succ]
      refine e_take 6 61 (.int .i64 H0) rfl rfl (by kernel_rfl) (by kernel_rfl) (by kernel_rfl) (by kernel_rfl) (fun _ _ _ h => h) rfl hH0 (fun w _ => rfl) ?_
      refine e_take 7 62 (.int .i64 M) rfl rfl (by kernel_rfl) (by kernel_rfl) (by kernel_rfl) (by kernel_rfl) (fun _ _ _ h => h) rfl hH0 (fun w _ => rfl) ?_
      refine e_take 8 63 (.int .i64 T0) rfl rfl (by kernel_rfl) (by kernel_rfl) (by kernel_rfl) (by kernel_rfl) (fun _ _ _ h => h) rfl hH0 (fun w _ => rfl) ?_
      simp only [Act.put, List.setIfInBounds_toArray, List.set_cons_zero, List.set_cons_succ]
      refine e_take 9 64 (leA ⟨S0, S0 - H0 - M, H0, M, T0⟩) rfl rfl (by kernel_rfl) (by kernel_rfl) (by kernel_rfl) (by kernel_rfl) (fun _ _ _ h => h) rfl hH0 (fun w _ => exec_build_le ⟨S0, S0 - H0 - M, H0, M, T0⟩ w) ?_
      refine e_take 10 65 (ruV (some ⟨sb, so, none⟩) rc r) rfl rfl (by kernel_rfl) (by kernel_rfl) (by kernel_rfl) (by kernel_rfl) (fun _ _ _ h => h) rfl hH0 (fun w h => exec_loadRi _ (some ⟨sb, so, none⟩) rc r w (KR.out w h.out)) ?_
      refine e_take 11 66 (.slice A l.length c) rfl rfl (by kernel_rfl) (by kernel_rfl) (by kernel_rfl) (by kernel_rfl) (fun _ _ _ h => h) rfl hH0 (fun w _ => rfl) ?_
      simp only [Act.put, List.setIfInBounds_toArray, List.set_cons_zero, List.set_cons_succ]
      refine e_take 12 67 (.int .i64 (k : Int)) rfl rfl (by kernel_rfl) (by kernel_rfl) (by kernel_rfl) (by kernel_rfl) (fun _ _ _ h => h) rfl hH0 (fun w _ => rfl) ?_
      refine e_take 13 68 (.int .i64 now) rfl rfl (by kernel_rfl) (by kernel_rfl) (by kernel_rfl) (by kernel_rfl) (fun _ _ _ h => h) rfl hH0 (fun w _ => rfl) ?_
      refine e_take 15 70 (.agg #[.slice P sq.length cp]) rfl rfl (by kernel_rfl) (by kernel_rfl) (by kernel_rfl) (by kernel_rfl) (fun _ _ _ h => h) rfl hH0 (fun w h => exec_loadW _ P sq.length cp w (KG.out w h.out)) ?_
      simp only [Act.put, List.setIfInBounds_toArray, List.set_cons_zero, List.set_cons_succ]
      refine e_call 14 69 62 #[ruV (some ⟨sb, so, none⟩) rc r, .slice A l.length c, .int .i64 (k : Int), .int .i64 now] rfl rfl (by kernel_rfl) rfl (exec_call Try.func62 (by kernel_rfl) (by kernel_rfl) _) ?_
      refine (KQ.out _ hH0.out).mono ?_
      rintro ee u3 ⟨Q3, cq3, rfl, o3, x3⟩
      have k3 := hH0.out.trans (x3.mono hH0.out.size)
      refine ⟨_, rfl, (fun _ => (Lib.hid k3)), ?_⟩
      simp only [Act.put, List.setIfInBounds_toArray, List.set_cons_zero, List.set_cons_succ]
      refine e_op 16 71 (cbA ⟨⟨S0, S0 - H0 - M, H0, M, T0⟩, Q3, (queueV r l (k : Int) now).length, cq3, P, sq.length, cp⟩) rfl rfl (by kernel_rfl) rfl (exec_build_cb ⟨⟨S0, S0 - H0 - M, H0, M, T0⟩, Q3, (queueV r l (k : Int) now).length, cq3, P, sq.length, cp⟩ _) (fun _ => (Lib.hid k3)) ?_
      simp only [Act.put, List.setIfInBounds_toArray, List.set_cons_zero, List.set_cons_succ]
      have T := TT.out.call k3
      refine e_store 17 rfl rfl (by kernel_rfl) rfl (exec_store_cb (w.heap.size + 1) ⟨⟨S0, S0 - H0 - M, H0, M, T0⟩, Q3, (queueV r l (k : Int) now).length, cq3, P, sq.length, cp⟩ _ _ _ _ _ _ _ u3 T.C) (fun h => absurd rfl h) ?_
      refine e_done (by kernel_rfl) ?_ _
      obtain ⟨X, eX⟩ : ∃ X : Cb, (⟨⟨S0, S0 - H0 - M, H0, M, T0⟩, Q3, (queueV r l (k : Int) now).length, cq3, P, sq.length, cp⟩ : Cb) = X := ⟨_, rfl⟩
      rw [eX]
      obtain ⟨U, eU⟩ : ∃ U, putCb u3 (w.heap.size + 1) X = U := ⟨_, rfl⟩
      rw [eU]
      have hU : U.heap[w.heap.size + 1]? = some (.cells #[.int .i64 X.le.total, .int .i64 X.le.free, .int .i64 X.le.held, .int .i64 X.le.sold, .int .i64 X.le.tied, .slice X.q X.qn X.qc, .slice X.p X.pn X.pc] 89) := by rw [← eU]; exact putCb_heap T.C
      have bU : Hid (Below w.heap.size w U) := by show Below _ _ _; rw [← eU]; exact putCb_below T.B (by omega)
      clear T eU eX o3 x3 k3 hH0 KR KG KQ TT
      have c0 := cell_of_row _ _ 0 _ _ _ hU
      have c1 := cell_of_row _ _ 1 _ _ _ hU
      have c2 := cell_of_row _ _ 2 _ _ _ hU
      have c3 := cell_of_row _ _ 3 _ _ _ hU
      have c4 := cell_of_row _ _ 4 _ _ _ hU
      have c5 := cell_of_row _ _ 5 _ _ _ hU
      have c6 := cell_of_row _ _ 6 _ _ _ hU
      simp at c0 c1 c2 c3 c4 c5 c6
      clear hU
      go_wp2
      simp [bodyPost, results, Try.results44, go_sem, c0, c1, c2, c3, c4, c5, c6]
      exact ⟨⟨X, rfl⟩, bU.out⟩
end Go.Proofs.Ytohpegblbikbdaa
