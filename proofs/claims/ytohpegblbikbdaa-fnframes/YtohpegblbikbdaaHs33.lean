/- DrawLogOf of the model. -/
import Derived.Test.YtohpegblbikbdaaRows
import Derived.Test.YtohpegblbikbdaaHs32
import Derived.Test.YtohpegblbikbdaaHs25
import Derived.Test.YtohpegblbikbdaaG6
namespace Go.Proofs.Ytohpegblbikbdaa
open Go.RowKit
set_option linter.unusedSimpArgs false
set_option linter.unusedVariables false
set_option maxRecDepth 100000 in
/-- append(v, q...) as a step, and where the row lies then. -/
theorem exec_appR2 {t e sz bytes : Nat} {z : Value} (T : RowT t e sz bytes z) {o : Oper} {a : Act} {s x : Operand} (w : World)
    (base : Nat) (v : Value) (n : Nat) (xs : List Value) (hown : w.ownsRow base e sz v n xs)
    (B : Nat) (A : Option Addr) (m c : Nat) (news : List Value) (hl : news.length = m * sz) (hR : Rws w B A news) (hnil : A = none → c = 0) (h1 : ∀ u ∈ news, u.oneCell' = true)
    (hlen : n + m ≤ 1073741824) (hbase : base ≤ w.heap.size)
    (ho : o.op = .call { callee := .builtin .append, args := #[s, x], argTypes := #[t, t] } := by rfl) (hs : a.eval s = v := by rfl) (hx : a.eval x = .slice A m c := by rfl) :
    ∃ v' w', (execOp a.eval o).run Try.prog w = .ok (.value v') w' ∧ w'.ownsRow base e sz v' (n + m) (xs ++ news) ∧ w.grownBy w' v.ownBlock ∧ (v'.ownBlock = v.ownBlock ∨ v'.ownBlock = some w.heap.size) := by
  obtain ⟨i0, hi, hz0, hz1, hz2⟩ := info_parts T.inf
  rcases A with _ | ad
  · have h0 : news = [] := by
      rcases hR with h | ⟨_, _, h, _⟩
      · exact h
      · cases h
    subst h0
    have hm : m = 0 := by
      rcases Nat.eq_zero_or_pos m with h | h
      · exact h
      · have := Nat.mul_pos h T.pos; simp at hl; omega
    subst hm
    rw [hnil rfl] at hx
    have hrun := run_append_owned_none (P := Try.prog) (w := w) base t o.type e i0 sz T.ut hi v n xs hown
    refine ⟨v, w, ?_, by simpa using hown, World.grownBy.refl _ _, .inl rfl⟩
    simp [execOp, ho, resolve, invoke, builtin, hs, hx, hrun, Result.andThen]
  · have hb : (n + m) * bytes ≤ 140737488355328 := by
      have h2 := T.by_
      have : (n + m) * bytes ≤ 1073741824 * 1024 := Nat.mul_le_mul hlen h2
      omega
    obtain ⟨v', w', hr, h2, h3, _, h5⟩ := run_append_own_at (P := Try.prog) w base t o.type e i0 z sz bytes T.ut hi hz0 hz1 hz2 T.zc T.pos v n xs hown ad m c news hl
      (fun j u hj => by
        rcases hR with rfl | ⟨b, off, e1, _, hc⟩
        · simp at hj
        · injection e1 with e1
          subst e1
          have hjl : j < news.length := by
            rcases Nat.lt_or_ge j news.length with h | h
            · exact h
            · rw [List.getElem?_eq_none h] at hj; cases hj
          rw [add_at, hc j hjl]; exact hj) h1 (by unfold maxLen; omega) hb hbase
    refine ⟨v', w', ?_, h2, h3, h5⟩
    simp [execOp, ho, resolve, invoke, builtin, hs, hx, hr, Result.andThen]
set_option maxRecDepth 100000 in
theorem wpList_appR2 {t e sz bytes : Nat} {z : Value} (T : RowT t e sz bytes z) (w : World) {ops : Array Oper} {rest : List Oper} {o : Oper} {a : Act} {Q : Exit → Act → World → Prop} (hgd : o.guard = none) (s x : Operand)
    (ho : o.op = .call { callee := .builtin .append, args := #[s, x], argTypes := #[t, t] })
    (base : Nat) (v : Value) (n : Nat) (xs : List Value) (hs : a.eval s = v) (hown : w.ownsRow base e sz v n xs)
    (B : Nat) (A : Option Addr) (m c : Nat) (news : List Value) (hx : a.eval x = .slice A m c) (hl : news.length = m * sz) (hR : Rws w B A news) (hnil : A = none → c = 0) (h1 : ∀ u ∈ news, u.oneCell' = true)
    (hlen : n + m ≤ 1073741824) (hbase : base ≤ w.heap.size)
    (h : ∀ v' w', w'.ownsRow base e sz v' (n + m) (xs ++ news) → w.grownBy w' v.ownBlock → (v'.ownBlock = v.ownBlock ∨ v'.ownBlock = some w.heap.size) → wpList Try.prog ops Q rest (a.put o.dst v') w') :
    wpList Try.prog ops Q (o :: rest) a w := by
  obtain ⟨v', w', hr, h2, h3, h4⟩ := exec_appR2 T w base v n xs hown B A m c news hl hR hnil h1 hlen hbase ho hs hx
  refine wpList_plain hgd fun K hK => ?_
  unfold Oper.wp
  rw [hr, Oper.upon_value]
  exact hK _ _ (h v' w' h2 h3 h4)
theorem pts_small {w : World} {g B : Nat} {P : Option Addr} {pl : List Pt} {cs : Array Value} {t : TypeId} (hg : w.heap[g]? = some (.cells cs t (0, 0))) (hs : cs.size ≤ 3) (h : Rws w B P (pl.flatMap ptC)) (hp : 0 < pl.length) : ∀ ad, P = some ad → ad.block ≠ g := by
  have hlen : (pl.flatMap ptC).length = pl.length * 10 := flat_len ptC 10 ptC_len pl
  rcases h with h | ⟨b, off, e, hlt, hcc⟩
  · rw [h] at hlen
    simp at hlen
    omega
  · intro ad ea he
    rw [e] at ea
    injection ea with ea
    subst ea
    have h1 := hcc 3 (by omega)
    have he : b = g := he
    subst he
    rw [cell_of_row _ _ (off + 3) _ _ _ hg] at h1
    have h2 : (pl.flatMap ptC)[3]? = none := by rw [← h1]; simp; omega
    rw [List.getElem?_eq_none_iff] at h2
    omega
theorem pts_lt {w : World} {B : Nat} {P : Option Addr} {pl : List Pt} (h : Rws w B P (pl.flatMap ptC)) (hp : 0 < pl.length) : ∀ ad, P = some ad → ad.block < B := by
  have hlen : (pl.flatMap ptC).length = pl.length * 10 := flat_len ptC 10 ptC_len pl
  rcases h with h | ⟨b, off, e, hlt, hcc⟩
  · rw [h] at hlen
    simp at hlen
    omega
  · intro ad ea
    rw [e] at ea
    injection ea with ea
    subst ea
    exact hlt
theorem putRq_heap2 {w : World} {b : Nat} {q q2 : Rq} {t : TypeId} (h : w.heap[b]? = some (.cells #[.int .i64 q.kind, .int .i64 q.id, .int .i64 q.cabin, .int .i64 q.from_, .int .i64 q.size, .int .i64 q.tier] t (0, 0))) : (putRq w b q2).heap[b]? = some (.cells #[.int .i64 q2.kind, .int .i64 q2.id, .int .i64 q2.cabin, .int .i64 q2.from_, .int .i64 q2.size, .int .i64 q2.tier] t (0, 0)) := by
  unfold putRq
  have h := Go.heap_setCell_same _ b 0 _ t (.int .i64 q2.kind) h
  have h := Go.heap_setCell_same _ b 1 _ t (.int .i64 q2.id) h
  have h := Go.heap_setCell_same _ b 2 _ t (.int .i64 q2.cabin) h
  have h := Go.heap_setCell_same _ b 3 _ t (.int .i64 q2.from_) h
  have h := Go.heap_setCell_same _ b 4 _ t (.int .i64 q2.size) h
  have h := Go.heap_setCell_same _ b 5 _ t (.int .i64 q2.tier) h
  simpa using h
/-- What stands in a round of DrawLogOf. -/
structure Lg (w1 : World) (u : World) (g : Nat) (A : Option Addr) (l : List Nat) (c hb : Nat) (x : Ho) (pl : List Pt) (v : Value) (rq : List Rq) : Prop where
  cur : Cur u g A l c
  gr : w1.grownBy u (some g)
  H : u.heap[hb]? = some (.cells #[.slice x.ra x.r.seats.length x.rc, .int .i64 x.r.tiers, .int .i64 x.r.room, .int .i64 x.r.size, .int .i64 x.r.period, .int .i64 x.r.window, .int .i64 x.r.rest, .int .i64 x.r.tries, .int .i64 x.r.crew, .int .i64 x.now, .int .i64 x.turn, .slice x.p x.pn x.pc, .slice x.c x.cn x.cc, .slice x.t x.tn x.tc, .slice x.j x.jn x.jc] 52)
  P : Rws u u.heap.size x.p (pl.flatMap ptC)
  own : u.ownsRow w1.heap.size 30 6 v rq.length (rq.flatMap rqC)
  ob : ∀ j, v.ownBlock = some j → (0 < pl.length → ∀ ad, x.p = some ad → ad.block ≠ j)
  lg : g < w1.heap.size
  lb : w1.heap.size ≤ hb
theorem Lg.draw {w1 u : World} {g : Nat} {A : Option Addr} {l : List Nat} {c hb : Nat} {x : Ho} {pl : List Pt} {v : Value} {rq : List Rq} {u2 : World} (h : Lg w1 u g A l c hb x pl v rq) (gr : u.grownBy u2 (some g)) (hc : Cur u2 g A l c) : Lg w1 u2 g A l c hb x pl v rq := by
  have lg := h.lg
  have lb := h.lb
  exact ⟨hc, h.gr.trans gr, (gr.block _ (blk_lt h.H) (fun e => by injection e with e; omega)).trans h.H, pts_keep h.cur h.P gr, own_cur h.own gr (by omega), h.ob, lg, lb⟩
theorem Lg.alloc {w1 u : World} {g : Nat} {A : Option Addr} {l : List Nat} {c hb : Nat} {x : Ho} {pl : List Pt} {v : Value} {rq : List Rq} (h : Lg w1 u g A l c hb x pl v rq) (o : Obj) : Lg w1 (u.alloc o) g A l c hb x pl v rq := h.draw (World.grownBy_alloc u o (some g)) (h.cur.alloc o)
theorem Lg.app {w1 u : World} {g : Nat} {A : Option Addr} {l : List Nat} {c hb : Nat} {x : Ho} {pl : List Pt} {v : Value} {rq : List Rq} {u2 : World} {v2 : Value} {q : Rq} (h : Lg w1 u g A l c hb x pl v rq) (o2 : u2.ownsRow w1.heap.size 30 6 v2 (rq.length + 1) (rq.flatMap rqC ++ rqC q)) (gr : u.grownBy u2 v.ownBlock) (hob : v2.ownBlock = v.ownBlock ∨ v2.ownBlock = some u.heap.size) : Lg w1 u2 g A l c hb x pl v2 (rq ++ [q]) := by
  have lg := h.lg
  have lb := h.lb
  have low := own_low h.own
  have hne : v.ownBlock ≠ some hb := own_ne_type h.own h.H (by decide)
  refine ⟨h.cur.grown gr (fun j hj => by have := low j hj; omega), grown_step h.gr gr low, (gr.block _ (blk_lt h.H) (fun e => hne e.symm)).trans h.H, ?_, ?_, ?_, lg, lb⟩
  · by_cases hp : 0 < pl.length
    · exact Rws.more (rws_grown h.P gr (fun j hj => h.ob j hj hp)) gr.size
    · have : pl = [] := List.eq_nil_of_length_eq_zero (by omega)
      subst this
      exact .inl rfl
  · rw [List.length_append, List.flatMap_append]
    simpa using o2
  · intro j hj hp ad had
    rcases hob with e | e
    · exact h.ob j (e ▸ hj) hp ad had
    · have := pts_lt h.P hp ad had
      rw [e] at hj
      injection hj with hj
      omega
/-- What DrawLogOf hands out. -/
def GotLog (w : World) (e : Ending) (w' : World) : Prop :=
  ∃ (rq : List Rq) (v : Value) (z : Int), rq.length ≤ 4 ∧ e = .returned (.tuple #[v, .int .i64 z]) ∧ w'.ownsRow w.heap.size 30 6 v rq.length (rq.flatMap rqC) ∧ Below w.heap.size w w'
set_option maxRecDepth 100000 in
set_option maxHeartbeats 6400000 in
theorem drawLogOf_any (A : Option Addr) (l : List Nat) (c : Nat) (w : World) (hl : l.length ≤ 2097152) (hA : Bts w w.heap.size A l) (hb : AllB l) :
    Calls Try.prog 7 #[.slice A l.length c] w (GotLog w) := by
  have C0 := Lib.hid (l1New_any A l c w hl hA hb)
  unfold NewCur at C0
  go_enter Try.func7, Try.ntmps7
  go_wp2_with fail
  refine C0.out.mono ?_
  rintro e w1 ⟨rfl, hc1, b1⟩
  have lt1 := hc1.lt
  have HB1 := Lib.hid b1
  clear C0 b1
  obtain ⟨g, hg⟩ : ∃ g, w.heap.size = g := ⟨_, rfl⟩
  have HG := Lib.hid hg
  rw [hg] at hc1 lt1 ⊢
  have o1 := own_empty w1 w1.heap.size 30 6 (Nat.le_refl _)
  have e1 := heap_new w1 (.cells #[] 30)
  have gr1 := grown_made w1 (.cells #[] 30) g
  have CR := Lib.hid (l11Right_any A l c g (w1.alloc (.cells #[] 30)) hl hb (hc1.alloc _))
  have F1 : Hid (_ ∧ _ ∧ _) := ⟨o1, e1, gr1⟩
  clear o1 e1 gr1 hc1
  go_wp2_with fail
  refine CR.out.mono ?_
  rintro e w2 ⟨x, pl, rfl, hr, hpn, hpl, hP, hc2, gr2⟩
  have HPN := Lib.hid hpn
  clear hpn
  obtain ⟨o1, e1, gr1⟩ := F1.out
  have o2 := own_cur o1 gr2 lt1
  have e2 := (gr2.block _ (blk_lt e1) (fun e => by injection e with e; omega)).trans e1
  have g2 := gr1.trans gr2
  have lt2 := g2.size
  have ob2 : ∀ j, (Value.slice (some ⟨w1.heap.size, 0, none⟩) 0 0).ownBlock = some j → (0 < pl.length → ∀ ad, x.p = some ad → ad.block ≠ j) := by
    intro j hj hp
    injection hj with hj
    have hj : w1.heap.size = j := hj
    rw [← hj]
    exact pts_small e2 (by simp) hP hp
  have L3 : Lg w1 (w2.alloc (.cells #[.slice x.ra x.r.seats.length x.rc, .int .i64 x.r.tiers, .int .i64 x.r.room, .int .i64 x.r.size, .int .i64 x.r.period, .int .i64 x.r.window, .int .i64 x.r.rest, .int .i64 x.r.tries, .int .i64 x.r.crew, .int .i64 x.now, .int .i64 x.turn, .slice x.p x.pn x.pc, .slice x.c x.cn x.cc, .slice x.t x.tn x.tc, .slice x.j x.jn x.jc] 52)) g A l c w2.heap.size x pl (.slice (some ⟨w1.heap.size, 0, none⟩) 0 0) [] := ⟨hc2.alloc _, g2.trans (World.grownBy_alloc _ _ _), heap_new _ _, pts_keep hc2 hP (World.grownBy_alloc _ _ _), World.ownsRow.alloc o2 _, ob2, lt1, lt2⟩
  have HL3 := Lib.hid L3
  have hc3 := L3.cur
  clear F1 CR o1 e1 gr1 o2 e2 g2 ob2 hP hc2 gr2 L3
  unfold hoA
  go_wp2_with fail
  refine (l1Below_any A l c g 5 _ hl hb (by omega) (by omega) hc3).mono ?_
  rintro e w4 ⟨n, hn, rfl, hc4, gr4⟩
  have L4 := HL3.out.draw gr4 hc4
  clear HL3 hc3 hc4 gr4
  generalize w2.heap.size = hb' at *
  go_wp2
  go_loopw [5, 8] (fun v i wr => ∃ (k : Nat) (rq : List Rq), k ≤ n ∧ i = .int .i64 k ∧ rq.length = k ∧ Lg w1 wr g A l c hb' x pl v rq) (fun _ i _ => n - (intOf i).toNat)
  case atStart => exact ⟨0, [], by omega, rfl, rfl, L4⟩
  case round =>
    clear L4
    obtain ⟨k, rq, hk, rfl, hrk, L⟩ := hrel
    by_cases hk2 : k < n
    · have CR := Lib.hid (l12Right_any A l c g x pl wr hl hb L.cur hr HPN.out hpl L.P)
      unfold hoA at CR
      have k0 := cell_of_row _ _ 0 _ _ _ L.H
      have k1 := cell_of_row _ _ 1 _ _ _ L.H
      have k2 := cell_of_row _ _ 2 _ _ _ L.H
      have k3 := cell_of_row _ _ 3 _ _ _ L.H
      have k4 := cell_of_row _ _ 4 _ _ _ L.H
      have k5 := cell_of_row _ _ 5 _ _ _ L.H
      have k6 := cell_of_row _ _ 6 _ _ _ L.H
      have k7 := cell_of_row _ _ 7 _ _ _ L.H
      have k8 := cell_of_row _ _ 8 _ _ _ L.H
      have k9 := cell_of_row _ _ 9 _ _ _ L.H
      have k10 := cell_of_row _ _ 10 _ _ _ L.H
      have k11 := cell_of_row _ _ 11 _ _ _ L.H
      have k12 := cell_of_row _ _ 12 _ _ _ L.H
      have k13 := cell_of_row _ _ 13 _ _ _ L.H
      have k14 := cell_of_row _ _ 14 _ _ _ L.H
      simp at k0 k1 k2 k3 k4 k5 k6 k7 k8 k9 k10 k11 k12 k13 k14
      have HL := Lib.hid L
      clear L
      go_wp2_with fail
      clear k0 k1 k2 k3 k4 k5 k6 k7 k8 k9 k10 k11 k12 k13 k14
      refine CR.out.mono ?_
      rintro e w5 ⟨q, rfl, hc5, gr5⟩
      have L5 := HL.out.draw gr5 hc5
      clear CR hc5 gr5 HL
      have HL5 := Lib.hid L5
      have hq5 := heap_new w5 (.cells #[.int .i64 q.kind, .int .i64 q.id, .int .i64 q.cabin, .int .i64 q.from_, .int .i64 q.size, .int .i64 q.tier] 30)
      have hc5 := L5.cur.alloc (.cells #[.int .i64 q.kind, .int .i64 q.id, .int .i64 q.cabin, .int .i64 q.from_, .int .i64 q.size, .int .i64 q.tier] 30)
      have gr5 := World.grownBy_alloc w5 (.cells #[.int .i64 q.kind, .int .i64 q.id, .int .i64 q.cabin, .int .i64 q.from_, .int .i64 q.size, .int .i64 q.tier] 30) (some g)
      have lt5 := L5.cur.lt
      clear L5
      unfold rqA
      have HQ5 := Lib.hid hq5
      clear hq5
      go_wp2_with fail
      refine (l1Once_any A l c g 16 _ hl hb (by omega) (by omega) hc5).mono ?_
      rintro e w6 ⟨d, rfl, hc6, gr6⟩
      have g6 := gr5.trans gr6
      have hq6 := (gr6.block _ (blk_lt HQ5.out) (fun e => by injection e with e; omega)).trans HQ5.out
      have L6 := HL5.out.draw g6 hc6
      clear HQ5 hc5 gr5 gr6
      cases d
      · clear HL5 hc6 g6
        have a0 := cell_of_row _ _ 0 _ _ _ hq6
        have a1 := cell_of_row _ _ 1 _ _ _ hq6
        have a2 := cell_of_row _ _ 2 _ _ _ hq6
        have a3 := cell_of_row _ _ 3 _ _ _ hq6
        have a4 := cell_of_row _ _ 4 _ _ _ hq6
        have a5 := cell_of_row _ _ 5 _ _ _ hq6
        simp at a0 a1 a2 a3 a4 a5
        have L9 := L6.alloc (.cells #[.int .i64 q.kind, .int .i64 q.id, .int .i64 q.cabin, .int .i64 q.from_, .int .i64 q.size, .int .i64 q.tier] 30)
        have hR := Rws.new w6 (rqC q) 30
        have h1 : ∀ y ∈ rqC q, y.oneCell' = true := fun y hy => rqC_one [q] y (by simpa using hy)
        have hsz9 := L9.gr.size
        have HL := Lib.hid L9
        clear L6 hq6 L9
        go_wp2_with (at_builtin; refine wpList_appR2 rowReq _ rfl (.tmp 30) (.tmp 32) rfl w1.heap.size _ rq.length (rq.flatMap rqC) rfl HL.out.own (w6.heap.size + 1) (some ⟨w6.heap.size, 0, none⟩) 1 1 (rqC q) rfl rfl hR (fun h => by cases h) h1 (by omega) hsz9 ?_)
        intro v' w9 o9 gr9 ob9
        have L10 := HL.out.app (q := q) (by rw [hrk]; exact o9) gr9 (by rw [World.size_alloc]; exact ob9)
        clear o9 gr9 ob9 hR h1 HL hsz9 a0 a1 a2 a3 a4 a5
        go_wp2
        go_roundw
        case rel => exact ⟨k + 1, rq ++ [q], by omega, by go_num, by simp [hrk], L10⟩
        case measure => simp [intOf]; omega
      · have CB := Lib.hid (l12Bent_any l12Right_any A l c g x pl w6 hl hb L6.cur hr HPN.out hpl L6.P)
        unfold hoA at CB
        have k0 := cell_of_row _ _ 0 _ _ _ L6.H
        have k1 := cell_of_row _ _ 1 _ _ _ L6.H
        have k2 := cell_of_row _ _ 2 _ _ _ L6.H
        have k3 := cell_of_row _ _ 3 _ _ _ L6.H
        have k4 := cell_of_row _ _ 4 _ _ _ L6.H
        have k5 := cell_of_row _ _ 5 _ _ _ L6.H
        have k6 := cell_of_row _ _ 6 _ _ _ L6.H
        have k7 := cell_of_row _ _ 7 _ _ _ L6.H
        have k8 := cell_of_row _ _ 8 _ _ _ L6.H
        have k9 := cell_of_row _ _ 9 _ _ _ L6.H
        have k10 := cell_of_row _ _ 10 _ _ _ L6.H
        have k11 := cell_of_row _ _ 11 _ _ _ L6.H
        have k12 := cell_of_row _ _ 12 _ _ _ L6.H
        have k13 := cell_of_row _ _ 13 _ _ _ L6.H
        have k14 := cell_of_row _ _ 14 _ _ _ L6.H
        simp at k0 k1 k2 k3 k4 k5 k6 k7 k8 k9 k10 k11 k12 k13 k14
        have HQ6 := Lib.hid hq6
        clear hq6 L6
        go_wp2_with fail
        clear k0 k1 k2 k3 k4 k5 k6 k7 k8 k9 k10 k11 k12 k13 k14
        refine CB.out.mono ?_
        rintro e w7 ⟨q2, rfl, hc7, gr7⟩
        have g7 := g6.trans gr7
        have hq7 := (gr7.block _ (blk_lt HQ6.out) (fun e => by injection e with e; omega)).trans HQ6.out
        clear CB HQ6 gr7 hc6 g6
        have c8 := putRq_cur (q := q2) hc7 lt5
        have g8 := putRq_grown (q := q2) g7 (Nat.le_refl _)
        have L8 := HL5.out.draw g8 c8
        have hq8 := putRq_heap2 (q2 := q2) hq7
        obtain ⟨u8, e8⟩ : ∃ u, putRq w7 w5.heap.size q2 = u := ⟨_, rfl⟩
        rw [e8] at L8 hq8
        unfold putRq at e8
        have f0 := cell_of_row _ _ 0 _ _ _ hq7
        have f1 := cell_of_row _ _ 1 _ _ _ hq7
        have f2 := cell_of_row _ _ 2 _ _ _ hq7
        have f3 := cell_of_row _ _ 3 _ _ _ hq7
        have f4 := cell_of_row _ _ 4 _ _ _ hq7
        have f5 := cell_of_row _ _ 5 _ _ _ hq7
        have z0 := frozen_of_row _ _ 0 _ _ hq7
        have z1 := frozen_of_row _ _ 1 _ _ hq7
        have z2 := frozen_of_row _ _ 2 _ _ hq7
        have z3 := frozen_of_row _ _ 3 _ _ hq7
        have z4 := frozen_of_row _ _ 4 _ _ hq7
        have z5 := frozen_of_row _ _ 5 _ _ hq7
        simp at f0 f1 f2 f3 f4 f5
        clear HL5 c8 g8 hq7 hc7 g7
        unfold rqA
        go_upto_region 11 with fail
        try rw [e8]
        clear e8 f0 f1 f2 f3 f4 f5 z0 z1 z2 z3 z4 z5
        have a0 := cell_of_row _ _ 0 _ _ _ hq8
        have a1 := cell_of_row _ _ 1 _ _ _ hq8
        have a2 := cell_of_row _ _ 2 _ _ _ hq8
        have a3 := cell_of_row _ _ 3 _ _ _ hq8
        have a4 := cell_of_row _ _ 4 _ _ _ hq8
        have a5 := cell_of_row _ _ 5 _ _ _ hq8
        simp at a0 a1 a2 a3 a4 a5
        have L9 := L8.alloc (.cells #[.int .i64 q2.kind, .int .i64 q2.id, .int .i64 q2.cabin, .int .i64 q2.from_, .int .i64 q2.size, .int .i64 q2.tier] 30)
        have hR := Rws.new u8 (rqC q2) 30
        have h1 : ∀ y ∈ rqC q2, y.oneCell' = true := fun y hy => rqC_one [q2] y (by simpa using hy)
        have hsz9 := L9.gr.size
        have HL := Lib.hid L9
        clear L8 hq8 L9
        go_wp2_with (at_builtin; refine wpList_appR2 rowReq _ rfl (.tmp 30) (.tmp 32) rfl w1.heap.size _ rq.length (rq.flatMap rqC) rfl HL.out.own (u8.heap.size + 1) (some ⟨u8.heap.size, 0, none⟩) 1 1 (rqC q2) rfl rfl hR (fun h => by cases h) h1 (by omega) hsz9 ?_)
        intro v' w9 o9 gr9 ob9
        have L10 := HL.out.app (q := q2) (by rw [hrk]; exact o9) gr9 (by rw [World.size_alloc]; exact ob9)
        clear o9 gr9 ob9 hR h1 HL hsz9 a0 a1 a2 a3 a4 a5
        go_wp2
        go_roundw
        case rel => exact ⟨k + 1, rq ++ [q2], by omega, by go_num, by simp [hrk], L10⟩
        case measure => simp [intOf]; omega
    · have hlt := L.lg
      have hx := ints_new wr [1, 1, 2, 9, 999999, 1000000, 0, -1, 9223372036854775807, -9223372036854775808]
      have CP := Lib.hid (l1PickInt_any A l c g [1, 1, 2, 9, 999999, 1000000, 0, -1, 9223372036854775807, -9223372036854775808] wr.heap.size 10 10 _ hl hb (L.cur.alloc _) rfl (by simp) (by simp) (by have := L.cur.lt; omega) hx)
      have HL := Lib.hid (L.alloc (.cells (([1, 1, 2, 9, 999999, 1000000, 0, -1, 9223372036854775807, -9223372036854775808] : List Int).map (Value.int .i64)).toArray 3))
      clear L hx
      go_wp2_with fail
      refine CP.out.mono ?_
      rintro e w9 ⟨z, hz, rfl, hc9, gr9⟩
      have L9 := HL.out.draw gr9 hc9
      clear CP HL hz hc9 gr9
      have hfin : GotLog w (.returned (.tuple #[_, .int .i64 z])) w9 := ⟨rq, _, z, by omega, rfl, own_weak L9.own (by have := HG.out; omega), HB1.out.trans (below_grown L9.gr (by have := HG.out; omega) (by have := HG.out; omega))⟩
      have HF := Lib.hid hfin
      clear hfin L9
      go_wp2
      simp [bodyPost, results, Try.results7, go_sem]
      exact HF.out
end Go.Proofs.Ytohpegblbikbdaa
