/- l11Right of the model. -/
import Derived.Test.YtlflgflmlfileaaGreatRows
import Derived.Test.YtlflgflmlfileaaGreatJ3
namespace Go.Proofs.YtlflgflmlfileaaGreat
open Go.RowKit
set_option linter.unusedSimpArgs false
set_option linter.unusedVariables false
set_option maxRecDepth 100000 in
theorem exec_fldPt6 {ρ : Operand → Value} {o : Oper} {x : Operand} (b : Nat) (w : World) (ho : o.op = .fieldAddr 26 x 6 := by rfl) (hx : ρ x = .pointer (some ⟨b, 0, none⟩) := by rfl) :
    (execOp ρ o).run Tryz.prog w = .ok (.value (.pointer (some ⟨b, 6, none⟩))) w := by
  unfold execOp
  rw [ho]
  simp [go_sem, hx]
set_option maxRecDepth 100000 in
theorem exec_geqI {ρ : Operand → Value} {o : Oper} {x y : Operand} (X Y : Int) (d : Bool) (w : World) (hd : decide (Y ≤ X) = d) (ho : o.op = .binOp .geq 3 x y 3 := by rfl) (hx : ρ x = .int .i64 X := by rfl) (hy : ρ y = .int .i64 Y := by rfl) :
    (execOp ρ o).run Tryz.prog w = .ok (.value (.bool d)) w := by
  subst hd
  unfold execOp
  rw [ho]
  simp [go_sem, hx, hy]
set_option maxRecDepth 100000 in
theorem exec_load_ho {ρ : Operand → Value} {o : Oper} {y : Operand} (b : Nat) (x : Ho) (w : World) (h : w.heap[b]? = some (.cells #[.slice x.ra x.r.seats.length x.rc, .int .i64 x.r.tiers, .int .i64 x.r.room, .int .i64 x.r.size, .int .i64 x.r.period, .int .i64 x.r.window, .int .i64 x.r.rest, .int .i64 x.r.tries, .int .i64 x.r.crew, .int .i64 x.now, .int .i64 x.turn, .slice x.p x.pn x.pc, .slice x.c x.cn x.cc, .slice x.t x.tn x.tc, .slice x.j x.jn x.jc] 37)) (ho : o.op = .load 37 y := by rfl) (hx : ρ y = .pointer (some ⟨b, 0, none⟩) := by rfl) :
    (execOp ρ o).run Tryz.prog w = .ok (.value (hoA x)) w := by
  have c0 := cell_of_row _ _ 0 _ _ _ h
  have c1 := cell_of_row _ _ 1 _ _ _ h
  have c2 := cell_of_row _ _ 2 _ _ _ h
  have c3 := cell_of_row _ _ 3 _ _ _ h
  have c4 := cell_of_row _ _ 4 _ _ _ h
  have c5 := cell_of_row _ _ 5 _ _ _ h
  have c6 := cell_of_row _ _ 6 _ _ _ h
  have c7 := cell_of_row _ _ 7 _ _ _ h
  have c8 := cell_of_row _ _ 8 _ _ _ h
  have c9 := cell_of_row _ _ 9 _ _ _ h
  have c10 := cell_of_row _ _ 10 _ _ _ h
  have c11 := cell_of_row _ _ 11 _ _ _ h
  have c12 := cell_of_row _ _ 12 _ _ _ h
  have c13 := cell_of_row _ _ 13 _ _ _ h
  have c14 := cell_of_row _ _ 14 _ _ _ h
  simp at c0 c1 c2 c3 c4 c5 c6 c7 c8 c9 c10 c11 c12 c13 c14
  unfold execOp
  rw [ho]
  simp [go_sem, hx, c0, c1, c2, c3, c4, c5, c6, c7, c8, c9, c10, c11, c12, c13, c14, hoA]
/-- What l11Right hands out. -/
def GotHo (w : World) (g : Nat) (A : Option Addr) (l : List Nat) (c : Nat) (e : Ending) (w' : World) : Prop :=
  ∃ (x : Ho) (pl : List Pt), e = .returned (hoA x) ∧ RuOk x.r ∧ x.pn = pl.length ∧ pl.length ≤ 8 ∧ Rws w' w'.heap.size x.p (pl.flatMap ptC) ∧ Cur w' g A l c ∧ w.grownBy w' (some g)
/-- What l11Right hands out, its rows our own. -/
def GotHo2 (w : World) (g : Nat) (A : Option Addr) (l : List Nat) (c : Nat) (e : Ending) (w' : World) : Prop :=
  ∃ (x : Ho) (pl : List Pt) (cs ts js : List Value), e = .returned (hoA x) ∧ RuOk x.r ∧ x.pn = pl.length ∧ pl.length ≤ 8 ∧ (0 ≤ x.now ∧ x.now ≤ 1000) ∧ x.cn = x.r.seats.length ∧ x.tn ≤ 4 ∧ x.jn ≤ 3 ∧ w'.ownsRow (w.heap.size + 1) 26 10 (.slice x.p x.pn x.pc) x.pn (pl.flatMap ptC) ∧ w'.ownsRow (w.heap.size + 1) 59 7 (.slice x.c x.cn x.cc) x.cn cs ∧ w'.ownsRow (w.heap.size + 1) 3 1 (.slice x.t x.tn x.tc) x.tn ts ∧ w'.ownsRow (w.heap.size + 1) 3 1 (.slice x.j x.jn x.jc) x.jn js ∧ w'.ownsRow (w.heap.size + 1) 3 1 (.slice x.ra x.r.seats.length x.rc) x.r.seats.length (ints x.r.seats) ∧ Cur w' g A l c ∧ w.grownBy w' (some g)
set_option maxRecDepth 100000 in
set_option maxHeartbeats 12800000 in
theorem l11Right_own (A : Option Addr) (l : List Nat) (c g : Nat) (w : World) (hl : l.length ≤ 2097152) (hb : AllB l) (hcw : Cur w g A l c) :
    Calls Tryz.prog 19 #[.pointer (some ⟨g, 0, none⟩)] w (GotHo2 w g A l c) := by
  have hgw := hcw.lt
  have hc0 : Cur (w.alloc (.cells #[.slice none 0 0, .int .i64 0, .int .i64 0, .int .i64 0, .int .i64 0, .int .i64 0, .int .i64 0, .int .i64 0, .int .i64 0, .int .i64 0, .int .i64 0, .slice none 0 0, .slice none 0 0, .slice none 0 0, .slice none 0 0] 37)) g A l c := hcw.alloc _
  have gr0 : w.grownBy (w.alloc (.cells #[.slice none 0 0, .int .i64 0, .int .i64 0, .int .i64 0, .int .i64 0, .int .i64 0, .int .i64 0, .int .i64 0, .int .i64 0, .int .i64 0, .int .i64 0, .slice none 0 0, .slice none 0 0, .slice none 0 0, .slice none 0 0] 37)) (some g) := World.grownBy_alloc _ _ _
  have hz0 := heap_new w (.cells #[.slice none 0 0, .int .i64 0, .int .i64 0, .int .i64 0, .int .i64 0, .int .i64 0, .int .i64 0, .int .i64 0, .int .i64 0, .int .i64 0, .int .i64 0, .slice none 0 0, .slice none 0 0, .slice none 0 0, .slice none 0 0] 37)
  have hs0 : (w.alloc (.cells #[.slice none 0 0, .int .i64 0, .int .i64 0, .int .i64 0, .int .i64 0, .int .i64 0, .int .i64 0, .int .i64 0, .int .i64 0, .int .i64 0, .int .i64 0, .slice none 0 0, .slice none 0 0, .slice none 0 0, .slice none 0 0] 37)).heap.size = w.heap.size + 1 := by simp
  have HZ0 := Lib.hid hz0
  have HS0 := Lib.hid hs0
  clear hz0 hs0
  go_enter Tryz.func19, Tryz.ntmps19
  go_wp2_with fail
  refine (l5Right_any A l c g _ hl hb hc0).mono ?_
  rintro e w1 ⟨r, RB, rc, hr, rfl, oR, hc1, gr1⟩
  rw [HS0.out] at oR
  have hz1 := (gr1.block _ (blk_lt HZ0.out) (fun e => by injection e with e; omega)).trans HZ0.out
  have gw1 := gr0.trans gr1
  have oR1 := oR.alloc (.cells #[.slice RB r.seats.length rc, .int .i64 r.tiers, .int .i64 r.room, .int .i64 r.size, .int .i64 r.period, .int .i64 r.window, .int .i64 r.rest, .int .i64 r.tries, .int .i64 r.crew] 34)
  have hz2 := blk_alloc hz1 (.cells #[.slice RB r.seats.length rc, .int .i64 r.tiers, .int .i64 r.room, .int .i64 r.size, .int .i64 r.period, .int .i64 r.window, .int .i64 r.rest, .int .i64 r.tries, .int .i64 r.crew] 34)
  have hr2 := heap_new w1 (.cells #[.slice RB r.seats.length rc, .int .i64 r.tiers, .int .i64 r.room, .int .i64 r.size, .int .i64 r.period, .int .i64 r.window, .int .i64 r.rest, .int .i64 r.tries, .int .i64 r.crew] 34)
  have gw2 := grown_step gw1 (World.grownBy_alloc w1 (.cells #[.slice RB r.seats.length rc, .int .i64 r.tiers, .int .i64 r.room, .int .i64 r.size, .int .i64 r.period, .int .i64 r.window, .int .i64 r.rest, .int .i64 r.tries, .int .i64 r.crew] 34) none) (fun j h => by cases h)
  have hc2 := hc1.alloc (.cells #[.slice RB r.seats.length rc, .int .i64 r.tiers, .int .i64 r.room, .int .i64 r.size, .int .i64 r.period, .int .i64 r.window, .int .i64 r.rest, .int .i64 r.tries, .int .i64 r.crew] 34)
  have lt1 := blk_lt hz1
  have CH := Lib.hid (houseNew_any RB rc r (w1.alloc (.cells #[.slice RB r.seats.length rc, .int .i64 r.tiers, .int .i64 r.room, .int .i64 r.size, .int .i64 r.period, .int .i64 r.window, .int .i64 r.rest, .int .i64 r.tries, .int .i64 r.crew] 34)) hr (own_nil oR) (own_rws oR1))
  have F2 : Hid (_ ∧ _ ∧ _ ∧ _ ∧ _) := ⟨oR1, hz2, hr2, gw2, hc2⟩
  clear oR hz1 gw1 oR1 hz2 hr2 gw2 hc2 gr1 hc1 gr0 hc0
  unfold ruV at CH
  unfold ruV
  go_wp2_with fail
  refine CH.out.mono ?_
  rintro e w2 ⟨x, cs, js, rfl, e1, e2, e3, e4, e5, e6, e7, e8, e9, oA, e10, oC, e11, oJ, b2, hap⟩
  obtain ⟨xra, xrc, xr, xnow, xturn, xp, xpn, xpc, xc, xcn, xcc, xt, xtn, xtc, xj, xjn, xjc⟩ := x
  subst e1 e2 e3 e4 e5 e6 e7 e8 e9
  obtain ⟨f1, f2, f3, f4, f5⟩ := F2.out
  simp only at oA oC oJ e10 e11 hap
  have ltb : w.heap.size + 1 ≤ w1.heap.size + 1 := by omega
  have sz1 : (w1.alloc (.cells #[.slice RB xr.seats.length rc, .int .i64 xr.tiers, .int .i64 xr.room, .int .i64 xr.size, .int .i64 xr.period, .int .i64 xr.window, .int .i64 xr.rest, .int .i64 xr.tries, .int .i64 xr.crew] 34)).heap.size = w1.heap.size + 1 := by simp
  have hr : RuOk xr := hr
  have lt2 : w1.heap.size < w2.heap.size := by have := b2.size; rw [sz1] at this; omega
  have K0 : Rt w (w2.alloc (.cells #[.slice xra xr.seats.length xrc, .int .i64 xr.tiers, .int .i64 xr.room, .int .i64 xr.size, .int .i64 xr.period, .int .i64 xr.window, .int .i64 xr.rest, .int .i64 xr.tries, .int .i64 xr.crew, .int .i64 0, .int .i64 1, .slice none 0 0, .slice xc xcn xcc, .slice none 0 0, .slice xj xjn xjc] 37)) g A l c (w2.heap.size + 1) w1.heap.size w2.heap.size RB rc xr (⟨xra, xrc, xr, 0, 1, none, 0, 0, xc, xcn, xcc, none, 0, 0, xj, xjn, xjc⟩ : Ho) cs js [] [] := by
    have up : ∀ (e sz n : Nat) (v : Value) (q : List Value), w2.ownsRow (w1.alloc (.cells #[.slice RB xr.seats.length rc, .int .i64 xr.tiers, .int .i64 xr.room, .int .i64 xr.size, .int .i64 xr.period, .int .i64 xr.window, .int .i64 xr.rest, .int .i64 xr.tries, .int .i64 xr.crew] 34)).heap.size e sz v n q → (w2.alloc (.cells #[.slice xra xr.seats.length xrc, .int .i64 xr.tiers, .int .i64 xr.room, .int .i64 xr.size, .int .i64 xr.period, .int .i64 xr.window, .int .i64 xr.rest, .int .i64 xr.tries, .int .i64 xr.crew, .int .i64 0, .int .i64 1, .slice none 0 0, .slice xc xcn xcc, .slice none 0 0, .slice xj xjn xjc] 37)).ownsRow (w.heap.size + 1) e sz v n q ∧ ∀ j, v.ownBlock = some j → j < w2.heap.size + 1 := fun e sz n v q h =>
      ⟨(own_weak h (by rw [sz1]; omega)).alloc _, fun j hj => Nat.lt_succ_of_lt (World.ownsRow.lt h j hj).2⟩
    have q1 := own_below f1 b2
    have gg := grown_below f4 b2
    exact ⟨blk_alloc (blk_call f2 b2) _, blk_alloc (blk_call f3 b2) _, heap_new _ _, q1.alloc _, (up _ _ _ _ _ oA).1, (up _ _ _ _ _ oC).1, (up _ _ _ _ _ oJ).1, World.ownsRow_nil _ _ _ _, World.ownsRow_nil _ _ _ _,
      (fun j hj => Nat.lt_succ_of_lt (World.ownsRow.lt q1 j hj).2), (up _ _ _ _ _ oA).2, (up _ _ _ _ _ oC).2, (up _ _ _ _ _ oJ).2, (fun j hj => by cases hj), (fun j hj => by cases hj), rfl, rfl, rfl, e10, (f5.mem b2).alloc _, grown_step gg (World.grownBy_alloc _ _ none) (fun j h => by cases h), hgw, lt1, lt2, Nat.lt_succ_self _, by simp⟩
  have HK := Lib.hid K0
  have HE11 := Lib.hid e11
  have HAP := Lib.hid hap
  clear hap K0 e10 e11 oA oC oJ b2 f1 f2 f3 f4 f5 F2 CH sz1 ltb HZ0 HS0 hcw
  unfold hoA
  simp only
  go_wp2_with fail
  have K := HK.out
  clear HK
  generalize w1.heap.size = g3 at *
  generalize w2.heap.size = g4 at *
  refine (l1Below_any A l c g 20 _ hl hb (by omega) (by omega) K.cur).mono ?_
  rintro e v1 ⟨n0, hn0, rfl, hd1, gs1⟩
  have K1 := K.draw gs1 hd1
  clear K gs1 hd1
  have z9 := frozen_of_row _ _ 9 _ _ K1.H
  have c9 := cell_of_row _ _ 9 _ _ _ K1.H
  simp at c9
  have HK := Lib.hid (K1.now (n0 : Int))
  clear K1
  go_wp2_with fail
  have K := HK.out
  clear HK z9 c9
  refine (l1Below_any A l c g 9 _ hl hb (by omega) (by omega) K.cur).mono ?_
  rintro e v2 ⟨n1, hn1, rfl, hd2, gs2⟩
  have HK := Lib.hid (K.draw gs2 hd2)
  clear K gs2 hd2
  go_wp2_with fail
  go_loopw [7, 8] (fun v7 v8 wr => ∃ (i top pc : Nat) (s turn : Int) (P : Option Addr) (pl : List Pt), i ≤ n1 ∧ v8 = .int .i64 i ∧ v7 = .int .i64 s ∧ (0 ≤ s ∧ s ≤ 3 * i) ∧ (1 ≤ turn ∧ turn ≤ 1 + 2 * i) ∧ pl.length ≤ i ∧ Rt w wr g A l c top g3 g4 RB rc xr (⟨xra, xrc, xr, (n0 : Int), turn, P, pl.length, pc, xc, xcn, xcc, none, 0, 0, xj, xjn, xjc⟩ : Ho) cs js [] pl) (fun _ v8 _ => n1 - (intOf v8).toNat)
  case atStart => exact ⟨0, _, 0, 0, 1, none, [], by omega, rfl, rfl, by omega, by omega, by simp, HK.out⟩
  case round =>
    clear HK
    obtain ⟨i, top, pc, s, turn, P, pl, hi0, rfl, rfl, hs, ht, hpl, K⟩ := hrel
    by_cases hi : i < n1
    · have p0 := cell_of_row _ _ 0 _ _ _ K.R
      have p1 := cell_of_row _ _ 1 _ _ _ K.R
      have p2 := cell_of_row _ _ 2 _ _ _ K.R
      have p3 := cell_of_row _ _ 3 _ _ _ K.R
      have p4 := cell_of_row _ _ 4 _ _ _ K.R
      have p5 := cell_of_row _ _ 5 _ _ _ K.R
      have p6 := cell_of_row _ _ 6 _ _ _ K.R
      have p7 := cell_of_row _ _ 7 _ _ _ K.R
      have p8 := cell_of_row _ _ 8 _ _ _ K.R
      have c9 := cell_of_row _ _ 9 _ _ _ K.H
      simp at c9 p0 p1 p2 p3 p4 p5 p6 p7 p8
      have C6 := Lib.hid (l6Right_any A RB l c g rc xr (n0 : Int) wr hl hb K.cur hr (by omega))
      unfold ruV at C6
      have HK := Lib.hid K
      clear K
      go_wp2_with fail
      refine C6.out.mono ?_
      rintro e v3 ⟨p, rfl, hd3, gs3⟩
      have K := HK.out.draw gs3 hd3
      clear HK C6 gs3 hd3 c9 p0 p1 p2 p3 p4 p5 p6 p7 p8
      have ba : Below v3.heap.size v3 (v3.alloc (.cells #[.int .i64 p.id, .int .i64 p.cabin, .int .i64 p.from_, .int .i64 p.size, .int .i64 p.tier, .int .i64 p.since, .int .i64 p.turn, .int .i64 p.state, .int .i64 p.until_, .int .i64 p.asked] 26)) := (Below.refl _ _).alloc (Nat.le_refl _) _
      have hp := heap_new v3 (.cells #[.int .i64 p.id, .int .i64 p.cabin, .int .i64 p.from_, .int .i64 p.size, .int .i64 p.tier, .int .i64 p.since, .int .i64 p.turn, .int .i64 p.state, .int .i64 p.until_, .int .i64 p.asked] 26)
      have htop : top ≤ v3.heap.size := K.l6
      have K := K.call ba
      have HK := Lib.hid K
      have HP := Lib.hid hp
      clear K hp ba
      unfold ptA
      go_wp2_with fail
      have K := HK.out
      have hp := HP.out
      generalize v3.heap.size = g9 at *
      clear HK HP
      refine (l1Below_any A l c g 12 _ hl hb (by omega) (by omega) K.cur).mono ?_
      rintro e v4 ⟨y1, hy1, rfl, hd4, gs4⟩
      have lts : g < g9 := by have := K.lg; have := K.l3; have := K.l4; have := K.l5; omega
      have hp := (gs4.block _ (blk_lt hp) (fun e => by injection e with e; omega)).trans hp
      have K := K.draw gs4 hd4
      clear gs4 hd4
      have z0 := frozen_of_row _ _ 0 _ _ hp
      have d0 := cell_of_row _ _ 0 _ _ _ hp
      simp at d0
      have HK := Lib.hid (K.set g9 0 (.int .i64 (1 + (y1 : Int))) htop)
      have HP : Hid ((v4.setCell ⟨g9, 0, none⟩ (.int .i64 (1 + (y1 : Int)))).heap[g9]? = some (.cells #[.int .i64 (⟨1 + (y1 : Int), p.cabin, p.from_, p.size, p.tier, p.since, p.turn, p.state, p.until_, p.asked⟩ : Pt).id, .int .i64 (⟨1 + (y1 : Int), p.cabin, p.from_, p.size, p.tier, p.since, p.turn, p.state, p.until_, p.asked⟩ : Pt).cabin, .int .i64 (⟨1 + (y1 : Int), p.cabin, p.from_, p.size, p.tier, p.since, p.turn, p.state, p.until_, p.asked⟩ : Pt).from_, .int .i64 (⟨1 + (y1 : Int), p.cabin, p.from_, p.size, p.tier, p.since, p.turn, p.state, p.until_, p.asked⟩ : Pt).size, .int .i64 (⟨1 + (y1 : Int), p.cabin, p.from_, p.size, p.tier, p.since, p.turn, p.state, p.until_, p.asked⟩ : Pt).tier, .int .i64 (⟨1 + (y1 : Int), p.cabin, p.from_, p.size, p.tier, p.since, p.turn, p.state, p.until_, p.asked⟩ : Pt).since, .int .i64 (⟨1 + (y1 : Int), p.cabin, p.from_, p.size, p.tier, p.since, p.turn, p.state, p.until_, p.asked⟩ : Pt).turn, .int .i64 (⟨1 + (y1 : Int), p.cabin, p.from_, p.size, p.tier, p.since, p.turn, p.state, p.until_, p.asked⟩ : Pt).state, .int .i64 (⟨1 + (y1 : Int), p.cabin, p.from_, p.size, p.tier, p.since, p.turn, p.state, p.until_, p.asked⟩ : Pt).until_, .int .i64 (⟨1 + (y1 : Int), p.cabin, p.from_, p.size, p.tier, p.since, p.turn, p.state, p.until_, p.asked⟩ : Pt).asked] 26)) := Go.heap_setCell_same _ g9 0 _ _ _ hp
      clear K hp
      go_wp2_with fail
      have K := HK.out
      have hp := HP.out
      clear HK HP z0 d0
      obtain ⟨q, hp⟩ : ∃ q : Pt, (v4.setCell ⟨g9, 0, none⟩ (.int .i64 (1 + (y1 : Int)))).heap[g9]? = some (.cells #[.int .i64 q.id, .int .i64 q.cabin, .int .i64 q.from_, .int .i64 q.size, .int .i64 q.tier, .int .i64 q.since, .int .i64 q.turn, .int .i64 q.state, .int .i64 q.until_, .int .i64 q.asked] 26) := ⟨⟨1 + (y1 : Int), p.cabin, p.from_, p.size, p.tier, p.since, p.turn, p.state, p.until_, p.asked⟩, hp⟩
      generalize v4.setCell ⟨g9, 0, none⟩ (.int .i64 (1 + (y1 : Int))) = u4 at *
      have KT := Lib.hid (fun w' (h : u4.grownBy w' (some g)) => cell_of_row _ _ 10 _ _ _ ((h.block _ (blk_lt K.H) (fun e => by injection e with e; have := K.lg; have := K.l3; have := K.l4; omega)).trans K.H))
      refine wp_region_F 6 (fun w' => Hid (u4.grownBy w' (some g))) (by kernel_rfl) ?_
      have hH0 : Hid (u4.grownBy u4.drew (some g)) := grown_of_below (below_drawn (Below.refl u4.heap.size u4) 1) _
      refine f_take 0 38 (.pointer (some ⟨g4, 10, none⟩)) rfl rfl (by kernel_rfl) (by kernel_rfl) (by kernel_rfl) (by kernel_rfl) (fun _ _ _ h => h) rfl hH0 (fun w _ => exec_fldHo _ 2 10 w (by simp)) ?_
      refine f_take 1 39 (.int .i64 turn) rfl rfl (by kernel_rfl) (by kernel_rfl) (by kernel_rfl) (by kernel_rfl) (fun _ _ _ h => h) rfl hH0 (fun w h => exec_load1 3 g4 10 _ w (.inl rfl) (KT.out w h.out)) ?_
      simp only [Act.put, List.setIfInBounds_toArray, List.set_cons_zero, List.set_cons_succ]
      refine f_take 2 40 (.pointer (some ⟨g, 0, none⟩)) rfl rfl (by kernel_rfl) (by kernel_rfl) (by kernel_rfl) (by kernel_rfl) (fun _ _ _ h => h) rfl hH0 (fun w _ => rfl) ?_
      simp only [Act.put, List.setIfInBounds_toArray, List.set_cons_zero, List.set_cons_succ]
      refine f_call 3 41 21 #[.pointer (some ⟨g, 0, none⟩), .int .i64 2] rfl rfl (by kernel_rfl) rfl (exec_call Tryz.func21 (by kernel_rfl) (by kernel_rfl) _) ?_
      refine (l1Below_any A l c g 2 _ hl hb (by omega) (by omega) (K.cur.mem (below_drawn (Below.refl _ _) 1))).mono ?_
      rintro e v5 ⟨y2, hy2, rfl, hd5, gs5⟩
      have g5 := hH0.out.trans gs5
      refine ⟨_, rfl, (fun _ _ => Lib.hid g5), ?_⟩
      simp only [Act.put, List.setIfInBounds_toArray, List.set_cons_zero, List.set_cons_succ]
      refine f_op 4 42 (.int .i64 (turn + (y2 : Int))) rfl rfl (by kernel_rfl) rfl (exec_addI turn (y2 : Int) _ _ rfl (by omega) (by omega)) (fun _ _ => Lib.hid g5) ?_
      simp only [Act.put, List.setIfInBounds_toArray, List.set_cons_zero, List.set_cons_succ]
      refine f_op 5 43 (.pointer (some ⟨g9, 6, none⟩)) rfl rfl (by kernel_rfl) rfl (exec_fldPt6 _ _) (fun _ _ => Lib.hid g5) ?_
      simp only [Act.put, List.setIfInBounds_toArray, List.set_cons_zero, List.set_cons_succ]
      have hp := (g5.block _ (blk_lt hp) (fun e => by injection e with e; omega)).trans hp
      have K := K.draw g5 hd5
      refine f_store 6 rfl rfl (by kernel_rfl) rfl (exec_storeI 3 g9 6 .i64 (turn + (y2 : Int)) _ v5 (.inl rfl) (cell_of_row _ _ 6 _ _ _ hp) (frozen_of_row _ _ 6 _ _ hp)) (fun h => absurd rfl h) ?_
      refine f_done (by kernel_rfl) ?_ _
      obtain ⟨t2, et2⟩ : ∃ z, turn + (y2 : Int) = z := ⟨_, rfl⟩
      have ht2 : 1 ≤ t2 ∧ t2 ≤ 2 + 2 * i := by omega
      rw [et2]
      have HK := Lib.hid (K.set g9 6 (.int .i64 t2) htop)
      obtain ⟨q2, hq2, eq6⟩ : ∃ q2 : Pt, (v5.setCell ⟨g9, 6, none⟩ (.int .i64 t2)).heap[g9]? = some (.cells #[.int .i64 q2.id, .int .i64 q2.cabin, .int .i64 q2.from_, .int .i64 q2.size, .int .i64 q2.tier, .int .i64 q2.since, .int .i64 q2.turn, .int .i64 q2.state, .int .i64 q2.until_, .int .i64 q2.asked] 26) ∧ q2.turn = t2 := ⟨⟨q.id, q.cabin, q.from_, q.size, q.tier, q.since, t2, q.state, q.until_, q.asked⟩, Go.heap_setCell_same _ g9 6 _ _ _ hp, rfl⟩
      have HP := Lib.hid hq2
      have E6 := Lib.hid eq6
      clear K hp hq2 eq6 hd5 gs5 g5 hH0 KT et2
      generalize v5.setCell ⟨g9, 6, none⟩ (.int .i64 t2) = u5 at *
      go_wp2_with fail
      have K := HK.out
      have hp := HP.out
      clear HK HP
      refine (l1Below_any A l c g 4 _ hl hb (by omega) (by omega) K.cur).mono ?_
      rintro e v6 ⟨y3, hy3, rfl, hd6, gs6⟩
      have hp := (gs6.block _ (blk_lt hp) (fun e => by injection e with e; omega)).trans hp
      have K := K.draw gs6 hd6
      have c9 := cell_of_row _ _ 9 _ _ _ K.H
      simp at c9
      have HK := Lib.hid K
      have HP := Lib.hid hp
      clear K hp gs6 hd6
      go_wp2_with fail
      refine (l1Min_any (s + (y3 : Int)) (n0 : Int) _).mono ?_
      rintro e _ ⟨rfl, rfl⟩
      obtain ⟨m, em⟩ : ∃ m, (if s + (y3 : Int) < (n0 : Int) then s + (y3 : Int) else (n0 : Int)) = m := ⟨_, rfl⟩
      rw [em]
      clear em c9
      have K := HK.out
      have hp := HP.out
      clear HK HP
      have z5 := frozen_of_row _ _ 5 _ _ hp
      have d5 := cell_of_row _ _ 5 _ _ _ hp
      simp at d5
      have HK := Lib.hid (K.set g9 5 (.int .i64 m) htop)
      obtain ⟨q3, hq3, eq3⟩ : ∃ q3 : Pt, (v6.setCell ⟨g9, 5, none⟩ (.int .i64 m)).heap[g9]? = some (.cells #[.int .i64 q3.id, .int .i64 q3.cabin, .int .i64 q3.from_, .int .i64 q3.size, .int .i64 q3.tier, .int .i64 q3.since, .int .i64 q3.turn, .int .i64 q3.state, .int .i64 q3.until_, .int .i64 q3.asked] 26) ∧ q3.turn = q2.turn := ⟨⟨q2.id, q2.cabin, q2.from_, q2.size, q2.tier, m, q2.turn, q2.state, q2.until_, q2.asked⟩, Go.heap_setCell_same _ g9 5 _ _ _ hp, rfl⟩
      have HP := Lib.hid hq3
      have E3 := Lib.hid (eq3.trans E6.out)
      obtain ⟨s2, es2⟩ : ∃ z, s + (y3 : Int) = z := ⟨_, rfl⟩
      have hs2 : 0 ≤ s2 ∧ s2 ≤ 3 * (i + 1) := by omega
      obtain ⟨u6, eu6⟩ : ∃ u, v6.setCell ⟨g9, 5, none⟩ (.int .i64 m) = u := ⟨_, rfl⟩
      rw [es2]
      rw [eu6] at HK HP
      have f2 := cell_of_row _ _ 2 _ _ _ HP.out
      have f1 := cell_of_row _ _ 1 _ _ _ HP.out
      have y2f := frozen_of_row _ _ 2 _ _ HP.out
      simp at f1 f2
      clear K hp hq3 eq3 es2 E6
      by_cases gf : q3.from_ = q3.cabin
      · have ef : (q3.from_ == q3.cabin) = true := by simp [gf]
        have HK2 := Lib.hid (HK.out.set g9 2 (.int .i64 (-1)) htop)
        obtain ⟨q, hq, eqt⟩ : ∃ q : Pt, (u6.setCell ⟨g9, 2, none⟩ (.int .i64 (-1))).heap[g9]? = some (.cells #[.int .i64 q.id, .int .i64 q.cabin, .int .i64 q.from_, .int .i64 q.size, .int .i64 q.tier, .int .i64 q.since, .int .i64 q.turn, .int .i64 q.state, .int .i64 q.until_, .int .i64 q.asked] 26) ∧ q.turn = q3.turn := ⟨⟨q3.id, q3.cabin, -1, q3.size, q3.tier, q3.since, q3.turn, q3.state, q3.until_, q3.asked⟩, Go.heap_setCell_same _ g9 2 _ _ _ HP.out, rfl⟩
        have HQ := Lib.hid hq
        have ET := Lib.hid (eqt.trans E3.out)
        clear gf hq eqt HK HP E3
        go_wp2_with fail
        generalize u6.setCell ⟨g9, 2, none⟩ (.int .i64 (-1)) = u at *
        have K := HK2.out
        have hp := HQ.out
        clear HK2 HQ
        have KP := Lib.hid (fun w' (h : Below u.heap.size u w') => cell_of_row _ _ 11 _ _ _ (blk_call K.H h))
        have KH := Lib.hid (fun w' (h : Below u.heap.size u w') => blk_call K.H h)
        have KR := Lib.hid (fun w' (h : Below u.heap.size u w') => cell_of_row _ _ 2 _ _ _ (blk_call K.R h))
        have KX := Lib.hid (fun w' (h : Below u.heap.size u w') => Pt.here.blk (blk_call hp h))
        have RP := Lib.hid (fun w' (h : Below u.heap.size u w') => rws_below (own_rws K.oP) h)
        have RA := Lib.hid (fun w' (h : Below u.heap.size u w') => rws_below (own_rws K.oA) h)
        have CA := Lib.hid (fun w' (h : Below u.heap.size u w') => l11At_spec P pl pc q.id w' (by omega) (RP.out w' h))
        have CC := Lib.hid (fun w' (h : Below u.heap.size u w') => count_spec P pl pc q.cabin w' (by omega) (RP.out w' h))
        have CM := Lib.hid (fun w' (h : Below u.heap.size u w') => l11Room_any (⟨xra, xrc, xr, (n0 : Int), turn, P, pl.length, pc, xc, xcn, xcc, none, 0, 0, xj, xjn, xjc⟩ : Ho) pl q w' (by omega) rfl (own_nil K.oP) K.xc hr (RA.out w' h) (RP.out w' h))
        have ib := idxV_in (fun x => x.id == q.id) pl
        by_cases d1 : 0 ≤ ptAt pl q.id
        · have g1 : decide (0 ≤ ptAt pl q.id) = true := decide_eq_true d1
          refine wp_region_held_drew (S := fun w' => Hid (Below u.heap.size u w')) (by kernel_rfl) (below_drawn (Below.refl _ _) 1) (fun hHeld => ?_)
          refine held_take 0 59 (.pointer (some ⟨g4, 11, none⟩)) rfl rfl (by kernel_rfl) (by kernel_rfl) (by kernel_rfl) (fun _ _ _ h => h) rfl hHeld (fun w _ => exec_fldHo _ 3 11 w (by simp)) ?_
          refine held_take 1 60 (.slice P pl.length pc) rfl rfl (by kernel_rfl) (by kernel_rfl) (by kernel_rfl) (fun _ _ _ h => h) rfl hHeld (fun w h => exec_loadRow _ _ 11 _ _ _ w (.inl rfl) (KP.out w h.out)) ?_
          refine held_take 2 61 (.pointer (some ⟨g9, 0 + 0, none⟩)) rfl rfl (by kernel_rfl) (by kernel_rfl) (by kernel_rfl) (fun _ _ _ h => h) rfl hHeld (fun w _ => exec_fldPt g9 0 0 w (by omega)) ?_
          simp only [Act.put, List.setIfInBounds_toArray, List.set_cons_zero, List.set_cons_succ]
          refine held_take 3 62 (.int .i64 q.id) rfl rfl (by kernel_rfl) (by kernel_rfl) (by kernel_rfl) (fun _ _ _ h => h) rfl hHeld (fun w h => exec_load1 3 g9 (0 + 0) _ w (.inl rfl) (KX.out w h.out).1) ?_
          simp only [Act.put, List.setIfInBounds_toArray, List.set_cons_zero, List.set_cons_succ]
          refine held_call 4 63 18 #[.slice P pl.length pc, .int .i64 q.id] rfl rfl (by kernel_rfl) rfl (exec_call Tryz.func18 (by kernel_rfl) (by kernel_rfl) _) ?_
          refine (CA.out _ hHeld.out).mono ?_
          rintro e v7 ⟨rfl, rfl⟩
          refine ⟨_, rfl, hHeld.out, ?_⟩
          simp only [Act.put, List.setIfInBounds_toArray, List.set_cons_zero, List.set_cons_succ]
          refine held_take 5 64 (.bool true) rfl rfl (by kernel_rfl) (by kernel_rfl) (by kernel_rfl) (fun _ _ _ h => h) rfl hHeld.out (fun w _ => exec_geqI (ptAt pl q.id) 0 _ w g1) ?_
          refine held_take 6 65 (.bool true) rfl rfl (by kernel_rfl) (by kernel_rfl) (by kernel_rfl) (fun _ _ _ h => h) rfl hHeld.out (fun w _ => rfl) ?_
          refine held_skip 7 66 rfl rfl (by kernel_rfl) (by kernel_rfl) (by kernel_rfl) (fun _ _ _ h => h) rfl hHeld.out ?_
          simp only [Act.put, List.setIfInBounds_toArray, List.set_cons_zero, List.set_cons_succ]
          refine held_skip 8 67 rfl rfl (by kernel_rfl) (by kernel_rfl) (by kernel_rfl) (fun _ _ _ h => h) rfl hHeld.out ?_
          refine held_skip 9 68 rfl rfl (by kernel_rfl) (by kernel_rfl) (by kernel_rfl) (fun _ _ _ h => h) rfl hHeld.out ?_
          simp only [Act.put, List.setIfInBounds_toArray, List.set_cons_zero, List.set_cons_succ]
          refine held_skip 10 69 rfl rfl (by kernel_rfl) (by kernel_rfl) (by kernel_rfl) (fun _ _ _ h => h) rfl hHeld.out ?_
          refine held_skip 12 71 rfl rfl (by kernel_rfl) (by kernel_rfl) (by kernel_rfl) (fun _ _ _ h => h) rfl hHeld.out ?_
          simp only [Act.put, List.setIfInBounds_toArray, List.set_cons_zero, List.set_cons_succ]
          refine held_skip 13 72 rfl rfl (by kernel_rfl) (by kernel_rfl) (by kernel_rfl) (fun _ _ _ h => h) rfl hHeld.out ?_
          refine held_skip 11 70 rfl rfl (by kernel_rfl) (by kernel_rfl) (by kernel_rfl) (fun _ _ _ h => h) rfl hHeld.out ?_
          simp only [Act.put, List.setIfInBounds_toArray, List.set_cons_zero, List.set_cons_succ]
          refine held_skip 14 73 rfl rfl (by kernel_rfl) (by kernel_rfl) (by kernel_rfl) (fun _ _ _ h => h) rfl hHeld.out ?_
          refine held_take 15 74 (.bool true) rfl rfl (by kernel_rfl) (by kernel_rfl) (by kernel_rfl) (fun _ _ _ h => h) rfl hHeld.out (fun w _ => exec_pickT _ w) ?_
          refine held_take 16 75 (.bool true) rfl rfl (by kernel_rfl) (by kernel_rfl) (by kernel_rfl) (fun _ _ _ h => h) rfl hHeld.out (fun w _ => rfl) ?_
          simp only [Act.put, List.setIfInBounds_toArray, List.set_cons_zero, List.set_cons_succ]
          refine held_skip 17 76 rfl rfl (by kernel_rfl) (by kernel_rfl) (by kernel_rfl) (fun _ _ _ h => h) rfl hHeld.out ?_
          refine held_skip 18 77 rfl rfl (by kernel_rfl) (by kernel_rfl) (by kernel_rfl) (fun _ _ _ h => h) rfl hHeld.out ?_
          simp only [Act.put, List.setIfInBounds_toArray, List.set_cons_zero, List.set_cons_succ]
          refine held_skip 19 78 rfl rfl (by kernel_rfl) (by kernel_rfl) (by kernel_rfl) (fun _ _ _ h => h) rfl hHeld.out ?_
          refine held_skip 20 79 rfl rfl (by kernel_rfl) (by kernel_rfl) (by kernel_rfl) (fun _ _ _ h => h) rfl hHeld.out ?_
          simp only [Act.put, List.setIfInBounds_toArray, List.set_cons_zero, List.set_cons_succ]
          refine held_take 21 80 (.bool true) rfl rfl (by kernel_rfl) (by kernel_rfl) (by kernel_rfl) (fun _ _ _ h => h) rfl hHeld.out (fun w _ => exec_pickT _ w) ?_
          refine wpAnyH_done (by kernel_rfl) ?_ _
          have BF := hHeld.out
          have KF := Lib.hid (K.call BF)
          clear hHeld BF K
          go_wp2
          go_roundw
          case rel => exact ⟨i + 1, top, pc, s2, turn, P, pl, by omega, by go_num, rfl, by omega, by omega, by omega, KF.out⟩
          case measure => simp [intOf] <;> omega
        have g1 : decide (0 ≤ ptAt pl q.id) = false := decide_eq_false d1
        by_cases d2 : xr.room ≤ countV pl q.cabin
        · have g2 : decide (xr.room ≤ countV pl q.cabin) = true := decide_eq_true d2
          refine wp_region_held_drew (S := fun w' => Hid (Below u.heap.size u w')) (by kernel_rfl) (below_drawn (Below.refl _ _) 1) (fun hHeld => ?_)
          refine held_take 0 59 (.pointer (some ⟨g4, 11, none⟩)) rfl rfl (by kernel_rfl) (by kernel_rfl) (by kernel_rfl) (fun _ _ _ h => h) rfl hHeld (fun w _ => exec_fldHo _ 3 11 w (by simp)) ?_
          refine held_take 1 60 (.slice P pl.length pc) rfl rfl (by kernel_rfl) (by kernel_rfl) (by kernel_rfl) (fun _ _ _ h => h) rfl hHeld (fun w h => exec_loadRow _ _ 11 _ _ _ w (.inl rfl) (KP.out w h.out)) ?_
          refine held_take 2 61 (.pointer (some ⟨g9, 0 + 0, none⟩)) rfl rfl (by kernel_rfl) (by kernel_rfl) (by kernel_rfl) (fun _ _ _ h => h) rfl hHeld (fun w _ => exec_fldPt g9 0 0 w (by omega)) ?_
          simp only [Act.put, List.setIfInBounds_toArray, List.set_cons_zero, List.set_cons_succ]
          refine held_take 3 62 (.int .i64 q.id) rfl rfl (by kernel_rfl) (by kernel_rfl) (by kernel_rfl) (fun _ _ _ h => h) rfl hHeld (fun w h => exec_load1 3 g9 (0 + 0) _ w (.inl rfl) (KX.out w h.out).1) ?_
          simp only [Act.put, List.setIfInBounds_toArray, List.set_cons_zero, List.set_cons_succ]
          refine held_call 4 63 18 #[.slice P pl.length pc, .int .i64 q.id] rfl rfl (by kernel_rfl) rfl (exec_call Tryz.func18 (by kernel_rfl) (by kernel_rfl) _) ?_
          refine (CA.out _ hHeld.out).mono ?_
          rintro e v7 ⟨rfl, rfl⟩
          refine ⟨_, rfl, hHeld.out, ?_⟩
          simp only [Act.put, List.setIfInBounds_toArray, List.set_cons_zero, List.set_cons_succ]
          refine held_take 5 64 (.bool false) rfl rfl (by kernel_rfl) (by kernel_rfl) (by kernel_rfl) (fun _ _ _ h => h) rfl hHeld.out (fun w _ => exec_geqI (ptAt pl q.id) 0 _ w g1) ?_
          refine held_take 6 65 (.bool false) rfl rfl (by kernel_rfl) (by kernel_rfl) (by kernel_rfl) (fun _ _ _ h => h) rfl hHeld.out (fun w _ => rfl) ?_
          refine held_take 7 66 (.pointer (some ⟨g4, 11, none⟩)) rfl rfl (by kernel_rfl) (by kernel_rfl) (by kernel_rfl) (fun _ _ _ h => h) rfl hHeld.out (fun w _ => exec_fldHo _ 3 11 w (by simp)) ?_
          simp only [Act.put, List.setIfInBounds_toArray, List.set_cons_zero, List.set_cons_succ]
          refine held_take 8 67 (.slice P pl.length pc) rfl rfl (by kernel_rfl) (by kernel_rfl) (by kernel_rfl) (fun _ _ _ h => h) rfl hHeld.out (fun w h => exec_loadRow _ _ 11 _ _ _ w (.inl rfl) (KP.out w h.out)) ?_
          refine held_take 9 68 (.pointer (some ⟨g9, 0 + 1, none⟩)) rfl rfl (by kernel_rfl) (by kernel_rfl) (by kernel_rfl) (fun _ _ _ h => h) rfl hHeld.out (fun w _ => exec_fldPt g9 0 1 w (by omega)) ?_
          refine held_take 10 69 (.int .i64 q.cabin) rfl rfl (by kernel_rfl) (by kernel_rfl) (by kernel_rfl) (fun _ _ _ h => h) rfl hHeld.out (fun w h => exec_load1 3 g9 (0 + 1) _ w (.inl rfl) (KX.out w h.out).2.1) ?_
          simp only [Act.put, List.setIfInBounds_toArray, List.set_cons_zero, List.set_cons_succ]
          refine held_take 12 71 (.pointer (some ⟨g3, 2, none⟩)) rfl rfl (by kernel_rfl) (by kernel_rfl) (by kernel_rfl) (fun _ _ _ h => h) rfl hHeld.out (fun w _ => exec_fldRu g3 2 w (by omega)) ?_
          refine held_take 13 72 (.int .i64 xr.room) rfl rfl (by kernel_rfl) (by kernel_rfl) (by kernel_rfl) (fun _ _ _ h => h) rfl hHeld.out (fun w h => exec_load1 3 g3 2 _ w (.inl rfl) (KR.out w h.out)) ?_
          simp only [Act.put, List.setIfInBounds_toArray, List.set_cons_zero, List.set_cons_succ]
          refine held_call 11 70 35 #[.slice P pl.length pc, .int .i64 q.cabin] rfl rfl (by kernel_rfl) rfl (exec_call Tryz.func35 (by kernel_rfl) (by kernel_rfl) _) ?_
          refine (CC.out _ hHeld.out).mono ?_
          rintro e v7 ⟨rfl, rfl⟩
          refine ⟨_, rfl, hHeld.out, ?_⟩
          simp only [Act.put, List.setIfInBounds_toArray, List.set_cons_zero, List.set_cons_succ]
          refine held_take 14 73 (.bool true) rfl rfl (by kernel_rfl) (by kernel_rfl) (by kernel_rfl) (fun _ _ _ h => h) rfl hHeld.out (fun w _ => exec_geqI (countV pl q.cabin) xr.room _ w g2) ?_
          refine held_take 15 74 (.bool true) rfl rfl (by kernel_rfl) (by kernel_rfl) (by kernel_rfl) (fun _ _ _ h => h) rfl hHeld.out (fun w _ => exec_pickF _ w) ?_
          refine held_take 16 75 (.bool true) rfl rfl (by kernel_rfl) (by kernel_rfl) (by kernel_rfl) (fun _ _ _ h => h) rfl hHeld.out (fun w _ => rfl) ?_
          simp only [Act.put, List.setIfInBounds_toArray, List.set_cons_zero, List.set_cons_succ]
          refine held_skip 17 76 rfl rfl (by kernel_rfl) (by kernel_rfl) (by kernel_rfl) (fun _ _ _ h => h) rfl hHeld.out ?_
          refine held_skip 18 77 rfl rfl (by kernel_rfl) (by kernel_rfl) (by kernel_rfl) (fun _ _ _ h => h) rfl hHeld.out ?_
          simp only [Act.put, List.setIfInBounds_toArray, List.set_cons_zero, List.set_cons_succ]
          refine held_skip 19 78 rfl rfl (by kernel_rfl) (by kernel_rfl) (by kernel_rfl) (fun _ _ _ h => h) rfl hHeld.out ?_
          refine held_skip 20 79 rfl rfl (by kernel_rfl) (by kernel_rfl) (by kernel_rfl) (fun _ _ _ h => h) rfl hHeld.out ?_
          simp only [Act.put, List.setIfInBounds_toArray, List.set_cons_zero, List.set_cons_succ]
          refine held_take 21 80 (.bool true) rfl rfl (by kernel_rfl) (by kernel_rfl) (by kernel_rfl) (fun _ _ _ h => h) rfl hHeld.out (fun w _ => exec_pickT _ w) ?_
          refine wpAnyH_done (by kernel_rfl) ?_ _
          have BF := hHeld.out
          have KF := Lib.hid (K.call BF)
          clear hHeld BF K
          go_wp2
          go_roundw
          case rel => exact ⟨i + 1, top, pc, s2, turn, P, pl, by omega, by go_num, rfl, by omega, by omega, by omega, KF.out⟩
          case measure => simp [intOf] <;> omega
        have g2 : decide (xr.room ≤ countV pl q.cabin) = false := decide_eq_false d2
        refine wp_region_held_drew (S := fun w' => Hid (Below u.heap.size u w')) (by kernel_rfl) (below_drawn (Below.refl _ _) 1) (fun hHeld => ?_)
        refine held_take 0 59 (.pointer (some ⟨g4, 11, none⟩)) rfl rfl (by kernel_rfl) (by kernel_rfl) (by kernel_rfl) (fun _ _ _ h => h) rfl hHeld (fun w _ => exec_fldHo _ 3 11 w (by simp)) ?_
        refine held_take 1 60 (.slice P pl.length pc) rfl rfl (by kernel_rfl) (by kernel_rfl) (by kernel_rfl) (fun _ _ _ h => h) rfl hHeld (fun w h => exec_loadRow _ _ 11 _ _ _ w (.inl rfl) (KP.out w h.out)) ?_
        refine held_take 2 61 (.pointer (some ⟨g9, 0 + 0, none⟩)) rfl rfl (by kernel_rfl) (by kernel_rfl) (by kernel_rfl) (fun _ _ _ h => h) rfl hHeld (fun w _ => exec_fldPt g9 0 0 w (by omega)) ?_
        simp only [Act.put, List.setIfInBounds_toArray, List.set_cons_zero, List.set_cons_succ]
        refine held_take 3 62 (.int .i64 q.id) rfl rfl (by kernel_rfl) (by kernel_rfl) (by kernel_rfl) (fun _ _ _ h => h) rfl hHeld (fun w h => exec_load1 3 g9 (0 + 0) _ w (.inl rfl) (KX.out w h.out).1) ?_
        simp only [Act.put, List.setIfInBounds_toArray, List.set_cons_zero, List.set_cons_succ]
        refine held_call 4 63 18 #[.slice P pl.length pc, .int .i64 q.id] rfl rfl (by kernel_rfl) rfl (exec_call Tryz.func18 (by kernel_rfl) (by kernel_rfl) _) ?_
        refine (CA.out _ hHeld.out).mono ?_
        rintro e v7 ⟨rfl, rfl⟩
        refine ⟨_, rfl, hHeld.out, ?_⟩
        simp only [Act.put, List.setIfInBounds_toArray, List.set_cons_zero, List.set_cons_succ]
        refine held_take 5 64 (.bool false) rfl rfl (by kernel_rfl) (by kernel_rfl) (by kernel_rfl) (fun _ _ _ h => h) rfl hHeld.out (fun w _ => exec_geqI (ptAt pl q.id) 0 _ w g1) ?_
        refine held_take 6 65 (.bool false) rfl rfl (by kernel_rfl) (by kernel_rfl) (by kernel_rfl) (fun _ _ _ h => h) rfl hHeld.out (fun w _ => rfl) ?_
        refine held_take 7 66 (.pointer (some ⟨g4, 11, none⟩)) rfl rfl (by kernel_rfl) (by kernel_rfl) (by kernel_rfl) (fun _ _ _ h => h) rfl hHeld.out (fun w _ => exec_fldHo _ 3 11 w (by simp)) ?_
        simp only [Act.put, List.setIfInBounds_toArray, List.set_cons_zero, List.set_cons_succ]
        refine held_take 8 67 (.slice P pl.length pc) rfl rfl (by kernel_rfl) (by kernel_rfl) (by kernel_rfl) (fun _ _ _ h => h) rfl hHeld.out (fun w h => exec_loadRow _ _ 11 _ _ _ w (.inl rfl) (KP.out w h.out)) ?_
        refine held_take 9 68 (.pointer (some ⟨g9, 0 + 1, none⟩)) rfl rfl (by kernel_rfl) (by kernel_rfl) (by kernel_rfl) (fun _ _ _ h => h) rfl hHeld.out (fun w _ => exec_fldPt g9 0 1 w (by omega)) ?_
        refine held_take 10 69 (.int .i64 q.cabin) rfl rfl (by kernel_rfl) (by kernel_rfl) (by kernel_rfl) (fun _ _ _ h => h) rfl hHeld.out (fun w h => exec_load1 3 g9 (0 + 1) _ w (.inl rfl) (KX.out w h.out).2.1) ?_
        simp only [Act.put, List.setIfInBounds_toArray, List.set_cons_zero, List.set_cons_succ]
        refine held_take 12 71 (.pointer (some ⟨g3, 2, none⟩)) rfl rfl (by kernel_rfl) (by kernel_rfl) (by kernel_rfl) (fun _ _ _ h => h) rfl hHeld.out (fun w _ => exec_fldRu g3 2 w (by omega)) ?_
        refine held_take 13 72 (.int .i64 xr.room) rfl rfl (by kernel_rfl) (by kernel_rfl) (by kernel_rfl) (fun _ _ _ h => h) rfl hHeld.out (fun w h => exec_load1 3 g3 2 _ w (.inl rfl) (KR.out w h.out)) ?_
        simp only [Act.put, List.setIfInBounds_toArray, List.set_cons_zero, List.set_cons_succ]
        refine held_call 11 70 35 #[.slice P pl.length pc, .int .i64 q.cabin] rfl rfl (by kernel_rfl) rfl (exec_call Tryz.func35 (by kernel_rfl) (by kernel_rfl) _) ?_
        refine (CC.out _ hHeld.out).mono ?_
        rintro e v7 ⟨rfl, rfl⟩
        refine ⟨_, rfl, hHeld.out, ?_⟩
        simp only [Act.put, List.setIfInBounds_toArray, List.set_cons_zero, List.set_cons_succ]
        refine held_take 14 73 (.bool false) rfl rfl (by kernel_rfl) (by kernel_rfl) (by kernel_rfl) (fun _ _ _ h => h) rfl hHeld.out (fun w _ => exec_geqI (countV pl q.cabin) xr.room _ w g2) ?_
        refine held_take 15 74 (.bool false) rfl rfl (by kernel_rfl) (by kernel_rfl) (by kernel_rfl) (fun _ _ _ h => h) rfl hHeld.out (fun w _ => exec_pickF _ w) ?_
        refine held_take 16 75 (.bool false) rfl rfl (by kernel_rfl) (by kernel_rfl) (by kernel_rfl) (fun _ _ _ h => h) rfl hHeld.out (fun w _ => rfl) ?_
        simp only [Act.put, List.setIfInBounds_toArray, List.set_cons_zero, List.set_cons_succ]
        refine held_take 17 76 (hoA (⟨xra, xrc, xr, (n0 : Int), turn, P, pl.length, pc, xc, xcn, xcc, none, 0, 0, xj, xjn, xjc⟩ : Ho)) rfl rfl (by kernel_rfl) (by kernel_rfl) (by kernel_rfl) (fun _ _ _ h => h) rfl hHeld.out (fun w h => exec_load_ho g4 _ w (KH.out w h.out)) ?_
        refine held_take 18 77 (ptA q) rfl rfl (by kernel_rfl) (by kernel_rfl) (by kernel_rfl) (fun _ _ _ h => h) rfl hHeld.out (fun w h => exec_load_pt g9 0 q w (KX.out w h.out)) ?_
        simp only [Act.put, List.setIfInBounds_toArray, List.set_cons_zero, List.set_cons_succ]
        refine held_call 19 78 36 #[hoA (⟨xra, xrc, xr, (n0 : Int), turn, P, pl.length, pc, xc, xcn, xcc, none, 0, 0, xj, xjn, xjc⟩ : Ho), ptA q] rfl rfl (by kernel_rfl) rfl (exec_call Tryz.func36 (by kernel_rfl) (by kernel_rfl) _) ?_
        refine (CM.out _ hHeld.out).mono ?_
        rintro e v8 ⟨⟨b, rfl⟩, x8⟩
        have k8 := hHeld.out.trans (x8.mono hHeld.out.size)
        refine ⟨_, rfl, k8, ?_⟩
        simp only [Act.put, List.setIfInBounds_toArray, List.set_cons_zero, List.set_cons_succ]
        refine held_take 20 79 (.bool (!b)) rfl rfl (by kernel_rfl) (by kernel_rfl) (by kernel_rfl) (fun _ _ _ h => h) rfl k8 (fun w _ => rfl) ?_
        refine held_take 21 80 (.bool (!b)) rfl rfl (by kernel_rfl) (by kernel_rfl) (by kernel_rfl) (fun _ _ _ h => h) rfl k8 (fun w _ => exec_pickF _ w) ?_
        refine wpAnyH_done (by kernel_rfl) ?_ _
        cases b
        · simp only [Bool.not_false]
          have BF := k8
          have KF := Lib.hid (K.call BF)
          clear hHeld BF K x8 k8
          go_wp2
          go_roundw
          case rel => exact ⟨i + 1, top, pc, s2, turn, P, pl, by omega, by go_num, rfl, by omega, by omega, by omega, KF.out⟩
          case measure => simp [intOf] <;> omega
        simp only [Bool.not_true]
        have hat : ptAt pl q.id = -1 := by unfold ptAt at d1 ⊢; omega
        have hp := blk_call hp k8
        have K := K.call k8
        have f6 := cell_of_row _ _ 6 _ _ _ hp
        have h10 := cell_of_row _ _ 10 _ _ _ K.H
        have z10 := frozen_of_row _ _ 10 _ _ K.H
        simp at f6 h10
        rw [ET.out] at f6
        clear hHeld x8 k8 KP KH KR KX RP RA CA CC CM d1 d2 g1 g2
        have HK3 := Lib.hid (K.turn (t2 + 1))
        have HQ3 : Hid ((v8.setCell ⟨g4, 10, none⟩ (.int .i64 (t2 + 1))).heap[g9]? = some (.cells #[.int .i64 q.id, .int .i64 q.cabin, .int .i64 q.from_, .int .i64 q.size, .int .i64 q.tier, .int .i64 q.since, .int .i64 q.turn, .int .i64 q.state, .int .i64 q.until_, .int .i64 q.asked] 26)) := (heap_set_ne v8 g4 10 _ (by have := K.l5; omega)).trans hp
        obtain ⟨u9, eu9⟩ : ∃ z, v8.setCell ⟨g4, 10, none⟩ (.int .i64 (t2 + 1)) = z := ⟨_, rfl⟩
        rw [eu9] at HK3 HQ3
        have KK := HK3.out
        have CP := Lib.hid (partyPut_new P pl pc q u9 (by omega) (own_cap KK.oP) (own_nil KK.oP) (own_rws KK.oP) hat)
        have r0 := cell_of_row _ _ 0 _ _ _ HQ3.out
        have r1 := cell_of_row _ _ 1 _ _ _ HQ3.out
        have r2 := cell_of_row _ _ 2 _ _ _ HQ3.out
        have r3 := cell_of_row _ _ 3 _ _ _ HQ3.out
        have r4 := cell_of_row _ _ 4 _ _ _ HQ3.out
        have r5 := cell_of_row _ _ 5 _ _ _ HQ3.out
        have r6 := cell_of_row _ _ 6 _ _ _ HQ3.out
        have r7 := cell_of_row _ _ 7 _ _ _ HQ3.out
        have r8 := cell_of_row _ _ 8 _ _ _ HQ3.out
        have r9 := cell_of_row _ _ 9 _ _ _ HQ3.out
        have h11 := cell_of_row _ _ 11 _ _ _ KK.H
        simp at h11 r0 r1 r2 r3 r4 r5 r6 r7 r8 r9
        unfold ptA at CP
        clear K KK hp hat ib
        go_wp2_with fail
        refine CP.out.mono ?_
        rintro e v10 ⟨P2, pc2, rfl, o10, x10⟩
        have KK := (HK3.out.call x10).raise
        have b10 := HK3.out
        have ow := own_weak o10 (show w.heap.size + 1 ≤ u9.heap.size by have := b10.l6; have := b10.l5; have := b10.l4; have := b10.l3; omega)
        have K11 := KK.party P2 pc2 (ptPut pl q) ow (fun j hj => (World.ownsRow.lt o10 j hj).2)
        have HK4 := Lib.hid K11
        have h11 := cell_of_row _ _ 11 _ _ _ KK.H
        have z11 := frozen_of_row _ _ 11 _ _ KK.H
        simp at h11
        have hln : (ptPut pl q).length ≤ i + 1 := by rw [ptPut_len]; omega
        generalize ptPut pl q = pl2 at *
        clear CP HK3 HQ3 KK ow K11 o10 x10 b10 f6 h10 z10 eu9 r0 r1 r2 r3 r4 r5 r6 r7 r8 r9
        go_wp2
        go_roundw
        case rel => exact ⟨i + 1, _, pc2, s2, t2 + 1, P2, pl2, by omega, by go_num, rfl, by omega, by omega, hln, HK4.out⟩
        case measure => simp [intOf] <;> omega
      · have ef : (q3.from_ == q3.cabin) = false := by simp [gf]
        have HK2 := HK
        obtain ⟨q, eqq⟩ : ∃ q, q3 = q := ⟨_, rfl⟩
        subst eqq
        have HQ := HP
        have ET := E3
        clear gf HK HP E3
        go_wp2_with fail
        obtain ⟨u, euu⟩ : ∃ u, u6 = u := ⟨_, rfl⟩
        subst euu
        have K := HK2.out
        have hp := HQ.out
        clear HK2 HQ
        have KP := Lib.hid (fun w' (h : Below u6.heap.size u6 w') => cell_of_row _ _ 11 _ _ _ (blk_call K.H h))
        have KH := Lib.hid (fun w' (h : Below u6.heap.size u6 w') => blk_call K.H h)
        have KR := Lib.hid (fun w' (h : Below u6.heap.size u6 w') => cell_of_row _ _ 2 _ _ _ (blk_call K.R h))
        have KX := Lib.hid (fun w' (h : Below u6.heap.size u6 w') => Pt.here.blk (blk_call hp h))
        have RP := Lib.hid (fun w' (h : Below u6.heap.size u6 w') => rws_below (own_rws K.oP) h)
        have RA := Lib.hid (fun w' (h : Below u6.heap.size u6 w') => rws_below (own_rws K.oA) h)
        have CA := Lib.hid (fun w' (h : Below u6.heap.size u6 w') => l11At_spec P pl pc q3.id w' (by omega) (RP.out w' h))
        have CC := Lib.hid (fun w' (h : Below u6.heap.size u6 w') => count_spec P pl pc q3.cabin w' (by omega) (RP.out w' h))
        have CM := Lib.hid (fun w' (h : Below u6.heap.size u6 w') => l11Room_any (⟨xra, xrc, xr, (n0 : Int), turn, P, pl.length, pc, xc, xcn, xcc, none, 0, 0, xj, xjn, xjc⟩ : Ho) pl q3 w' (by omega) rfl (own_nil K.oP) K.xc hr (RA.out w' h) (RP.out w' h))
        have ib := idxV_in (fun x => x.id == q3.id) pl
        by_cases d1 : 0 ≤ ptAt pl q3.id
        · have g1 : decide (0 ≤ ptAt pl q3.id) = true := decide_eq_true d1
          refine wp_region_held_drew (S := fun w' => Hid (Below u6.heap.size u6 w')) (by kernel_rfl) (below_drawn (Below.refl _ _) 1) (fun hHeld => ?_)
          refine held_take 0 59 (.pointer (some ⟨g4, 11, none⟩)) rfl rfl (by kernel_rfl) (by kernel_rfl) (by kernel_rfl) (fun _ _ _ h => h) rfl hHeld (fun w _ => exec_fldHo _ 3 11 w (by simp)) ?_
          refine held_take 1 60 (.slice P pl.length pc) rfl rfl (by kernel_rfl) (by kernel_rfl) (by kernel_rfl) (fun _ _ _ h => h) rfl hHeld (fun w h => exec_loadRow _ _ 11 _ _ _ w (.inl rfl) (KP.out w h.out)) ?_
          refine held_take 2 61 (.pointer (some ⟨g9, 0 + 0, none⟩)) rfl rfl (by kernel_rfl) (by kernel_rfl) (by kernel_rfl) (fun _ _ _ h => h) rfl hHeld (fun w _ => exec_fldPt g9 0 0 w (by omega)) ?_
          simp only [Act.put, List.setIfInBounds_toArray, List.set_cons_zero, List.set_cons_succ]
          refine held_take 3 62 (.int .i64 q3.id) rfl rfl (by kernel_rfl) (by kernel_rfl) (by kernel_rfl) (fun _ _ _ h => h) rfl hHeld (fun w h => exec_load1 3 g9 (0 + 0) _ w (.inl rfl) (KX.out w h.out).1) ?_
          simp only [Act.put, List.setIfInBounds_toArray, List.set_cons_zero, List.set_cons_succ]
          refine held_call 4 63 18 #[.slice P pl.length pc, .int .i64 q3.id] rfl rfl (by kernel_rfl) rfl (exec_call Tryz.func18 (by kernel_rfl) (by kernel_rfl) _) ?_
          refine (CA.out _ hHeld.out).mono ?_
          rintro e v7 ⟨rfl, rfl⟩
          refine ⟨_, rfl, hHeld.out, ?_⟩
          simp only [Act.put, List.setIfInBounds_toArray, List.set_cons_zero, List.set_cons_succ]
          refine held_take 5 64 (.bool true) rfl rfl (by kernel_rfl) (by kernel_rfl) (by kernel_rfl) (fun _ _ _ h => h) rfl hHeld.out (fun w _ => exec_geqI (ptAt pl q3.id) 0 _ w g1) ?_
          refine held_take 6 65 (.bool true) rfl rfl (by kernel_rfl) (by kernel_rfl) (by kernel_rfl) (fun _ _ _ h => h) rfl hHeld.out (fun w _ => rfl) ?_
          refine held_skip 7 66 rfl rfl (by kernel_rfl) (by kernel_rfl) (by kernel_rfl) (fun _ _ _ h => h) rfl hHeld.out ?_
          simp only [Act.put, List.setIfInBounds_toArray, List.set_cons_zero, List.set_cons_succ]
          refine held_skip 8 67 rfl rfl (by kernel_rfl) (by kernel_rfl) (by kernel_rfl) (fun _ _ _ h => h) rfl hHeld.out ?_
          refine held_skip 9 68 rfl rfl (by kernel_rfl) (by kernel_rfl) (by kernel_rfl) (fun _ _ _ h => h) rfl hHeld.out ?_
          simp only [Act.put, List.setIfInBounds_toArray, List.set_cons_zero, List.set_cons_succ]
          refine held_skip 10 69 rfl rfl (by kernel_rfl) (by kernel_rfl) (by kernel_rfl) (fun _ _ _ h => h) rfl hHeld.out ?_
          refine held_skip 12 71 rfl rfl (by kernel_rfl) (by kernel_rfl) (by kernel_rfl) (fun _ _ _ h => h) rfl hHeld.out ?_
          simp only [Act.put, List.setIfInBounds_toArray, List.set_cons_zero, List.set_cons_succ]
          refine held_skip 13 72 rfl rfl (by kernel_rfl) (by kernel_rfl) (by kernel_rfl) (fun _ _ _ h => h) rfl hHeld.out ?_
          refine held_skip 11 70 rfl rfl (by kernel_rfl) (by kernel_rfl) (by kernel_rfl) (fun _ _ _ h => h) rfl hHeld.out ?_
          simp only [Act.put, List.setIfInBounds_toArray, List.set_cons_zero, List.set_cons_succ]
          refine held_skip 14 73 rfl rfl (by kernel_rfl) (by kernel_rfl) (by kernel_rfl) (fun _ _ _ h => h) rfl hHeld.out ?_
          refine held_take 15 74 (.bool true) rfl rfl (by kernel_rfl) (by kernel_rfl) (by kernel_rfl) (fun _ _ _ h => h) rfl hHeld.out (fun w _ => exec_pickT _ w) ?_
          refine held_take 16 75 (.bool true) rfl rfl (by kernel_rfl) (by kernel_rfl) (by kernel_rfl) (fun _ _ _ h => h) rfl hHeld.out (fun w _ => rfl) ?_
          simp only [Act.put, List.setIfInBounds_toArray, List.set_cons_zero, List.set_cons_succ]
          refine held_skip 17 76 rfl rfl (by kernel_rfl) (by kernel_rfl) (by kernel_rfl) (fun _ _ _ h => h) rfl hHeld.out ?_
          refine held_skip 18 77 rfl rfl (by kernel_rfl) (by kernel_rfl) (by kernel_rfl) (fun _ _ _ h => h) rfl hHeld.out ?_
          simp only [Act.put, List.setIfInBounds_toArray, List.set_cons_zero, List.set_cons_succ]
          refine held_skip 19 78 rfl rfl (by kernel_rfl) (by kernel_rfl) (by kernel_rfl) (fun _ _ _ h => h) rfl hHeld.out ?_
          refine held_skip 20 79 rfl rfl (by kernel_rfl) (by kernel_rfl) (by kernel_rfl) (fun _ _ _ h => h) rfl hHeld.out ?_
          simp only [Act.put, List.setIfInBounds_toArray, List.set_cons_zero, List.set_cons_succ]
          refine held_take 21 80 (.bool true) rfl rfl (by kernel_rfl) (by kernel_rfl) (by kernel_rfl) (fun _ _ _ h => h) rfl hHeld.out (fun w _ => exec_pickT _ w) ?_
          refine wpAnyH_done (by kernel_rfl) ?_ _
          have BF := hHeld.out
          have KF := Lib.hid (K.call BF)
          clear hHeld BF K
          go_wp2
          go_roundw
          case rel => exact ⟨i + 1, top, pc, s2, turn, P, pl, by omega, by go_num, rfl, by omega, by omega, by omega, KF.out⟩
          case measure => simp [intOf] <;> omega
        have g1 : decide (0 ≤ ptAt pl q3.id) = false := decide_eq_false d1
        by_cases d2 : xr.room ≤ countV pl q3.cabin
        · have g2 : decide (xr.room ≤ countV pl q3.cabin) = true := decide_eq_true d2
          refine wp_region_held_drew (S := fun w' => Hid (Below u6.heap.size u6 w')) (by kernel_rfl) (below_drawn (Below.refl _ _) 1) (fun hHeld => ?_)
          refine held_take 0 59 (.pointer (some ⟨g4, 11, none⟩)) rfl rfl (by kernel_rfl) (by kernel_rfl) (by kernel_rfl) (fun _ _ _ h => h) rfl hHeld (fun w _ => exec_fldHo _ 3 11 w (by simp)) ?_
          refine held_take 1 60 (.slice P pl.length pc) rfl rfl (by kernel_rfl) (by kernel_rfl) (by kernel_rfl) (fun _ _ _ h => h) rfl hHeld (fun w h => exec_loadRow _ _ 11 _ _ _ w (.inl rfl) (KP.out w h.out)) ?_
          refine held_take 2 61 (.pointer (some ⟨g9, 0 + 0, none⟩)) rfl rfl (by kernel_rfl) (by kernel_rfl) (by kernel_rfl) (fun _ _ _ h => h) rfl hHeld (fun w _ => exec_fldPt g9 0 0 w (by omega)) ?_
          simp only [Act.put, List.setIfInBounds_toArray, List.set_cons_zero, List.set_cons_succ]
          refine held_take 3 62 (.int .i64 q3.id) rfl rfl (by kernel_rfl) (by kernel_rfl) (by kernel_rfl) (fun _ _ _ h => h) rfl hHeld (fun w h => exec_load1 3 g9 (0 + 0) _ w (.inl rfl) (KX.out w h.out).1) ?_
          simp only [Act.put, List.setIfInBounds_toArray, List.set_cons_zero, List.set_cons_succ]
          refine held_call 4 63 18 #[.slice P pl.length pc, .int .i64 q3.id] rfl rfl (by kernel_rfl) rfl (exec_call Tryz.func18 (by kernel_rfl) (by kernel_rfl) _) ?_
          refine (CA.out _ hHeld.out).mono ?_
          rintro e v7 ⟨rfl, rfl⟩
          refine ⟨_, rfl, hHeld.out, ?_⟩
          simp only [Act.put, List.setIfInBounds_toArray, List.set_cons_zero, List.set_cons_succ]
          refine held_take 5 64 (.bool false) rfl rfl (by kernel_rfl) (by kernel_rfl) (by kernel_rfl) (fun _ _ _ h => h) rfl hHeld.out (fun w _ => exec_geqI (ptAt pl q3.id) 0 _ w g1) ?_
          refine held_take 6 65 (.bool false) rfl rfl (by kernel_rfl) (by kernel_rfl) (by kernel_rfl) (fun _ _ _ h => h) rfl hHeld.out (fun w _ => rfl) ?_
          refine held_take 7 66 (.pointer (some ⟨g4, 11, none⟩)) rfl rfl (by kernel_rfl) (by kernel_rfl) (by kernel_rfl) (fun _ _ _ h => h) rfl hHeld.out (fun w _ => exec_fldHo _ 3 11 w (by simp)) ?_
          simp only [Act.put, List.setIfInBounds_toArray, List.set_cons_zero, List.set_cons_succ]
          refine held_take 8 67 (.slice P pl.length pc) rfl rfl (by kernel_rfl) (by kernel_rfl) (by kernel_rfl) (fun _ _ _ h => h) rfl hHeld.out (fun w h => exec_loadRow _ _ 11 _ _ _ w (.inl rfl) (KP.out w h.out)) ?_
          refine held_take 9 68 (.pointer (some ⟨g9, 0 + 1, none⟩)) rfl rfl (by kernel_rfl) (by kernel_rfl) (by kernel_rfl) (fun _ _ _ h => h) rfl hHeld.out (fun w _ => exec_fldPt g9 0 1 w (by omega)) ?_
          refine held_take 10 69 (.int .i64 q3.cabin) rfl rfl (by kernel_rfl) (by kernel_rfl) (by kernel_rfl) (fun _ _ _ h => h) rfl hHeld.out (fun w h => exec_load1 3 g9 (0 + 1) _ w (.inl rfl) (KX.out w h.out).2.1) ?_
          simp only [Act.put, List.setIfInBounds_toArray, List.set_cons_zero, List.set_cons_succ]
          refine held_take 12 71 (.pointer (some ⟨g3, 2, none⟩)) rfl rfl (by kernel_rfl) (by kernel_rfl) (by kernel_rfl) (fun _ _ _ h => h) rfl hHeld.out (fun w _ => exec_fldRu g3 2 w (by omega)) ?_
          refine held_take 13 72 (.int .i64 xr.room) rfl rfl (by kernel_rfl) (by kernel_rfl) (by kernel_rfl) (fun _ _ _ h => h) rfl hHeld.out (fun w h => exec_load1 3 g3 2 _ w (.inl rfl) (KR.out w h.out)) ?_
          simp only [Act.put, List.setIfInBounds_toArray, List.set_cons_zero, List.set_cons_succ]
          refine held_call 11 70 35 #[.slice P pl.length pc, .int .i64 q3.cabin] rfl rfl (by kernel_rfl) rfl (exec_call Tryz.func35 (by kernel_rfl) (by kernel_rfl) _) ?_
          refine (CC.out _ hHeld.out).mono ?_
          rintro e v7 ⟨rfl, rfl⟩
          refine ⟨_, rfl, hHeld.out, ?_⟩
          simp only [Act.put, List.setIfInBounds_toArray, List.set_cons_zero, List.set_cons_succ]
          refine held_take 14 73 (.bool true) rfl rfl (by kernel_rfl) (by kernel_rfl) (by kernel_rfl) (fun _ _ _ h => h) rfl hHeld.out (fun w _ => exec_geqI (countV pl q3.cabin) xr.room _ w g2) ?_
          refine held_take 15 74 (.bool true) rfl rfl (by kernel_rfl) (by kernel_rfl) (by kernel_rfl) (fun _ _ _ h => h) rfl hHeld.out (fun w _ => exec_pickF _ w) ?_
          refine held_take 16 75 (.bool true) rfl rfl (by kernel_rfl) (by kernel_rfl) (by kernel_rfl) (fun _ _ _ h => h) rfl hHeld.out (fun w _ => rfl) ?_
          simp only [Act.put, List.setIfInBounds_toArray, List.set_cons_zero, List.set_cons_succ]
          refine held_skip 17 76 rfl rfl (by kernel_rfl) (by kernel_rfl) (by kernel_rfl) (fun _ _ _ h => h) rfl hHeld.out ?_
          refine held_skip 18 77 rfl rfl (by kernel_rfl) (by kernel_rfl) (by kernel_rfl) (fun _ _ _ h => h) rfl hHeld.out ?_
          simp only [Act.put, List.setIfInBounds_toArray, List.set_cons_zero, List.set_cons_succ]
          refine held_skip 19 78 rfl rfl (by kernel_rfl) (by kernel_rfl) (by kernel_rfl) (fun _ _ _ h => h) rfl hHeld.out ?_
          refine held_skip 20 79 rfl rfl (by kernel_rfl) (by kernel_rfl) (by kernel_rfl) (fun _ _ _ h => h) rfl hHeld.out ?_
          simp only [Act.put, List.setIfInBounds_toArray, List.set_cons_zero, List.set_cons_succ]
          refine held_take 21 80 (.bool true) rfl rfl (by kernel_rfl) (by kernel_rfl) (by kernel_rfl) (fun _ _ _ h => h) rfl hHeld.out (fun w _ => exec_pickT _ w) ?_
          refine wpAnyH_done (by kernel_rfl) ?_ _
          have BF := hHeld.out
          have KF := Lib.hid (K.call BF)
          clear hHeld BF K
          go_wp2
          go_roundw
          case rel => exact ⟨i + 1, top, pc, s2, turn, P, pl, by omega, by go_num, rfl, by omega, by omega, by omega, KF.out⟩
          case measure => simp [intOf] <;> omega
        have g2 : decide (xr.room ≤ countV pl q3.cabin) = false := decide_eq_false d2
        refine wp_region_held_drew (S := fun w' => Hid (Below u6.heap.size u6 w')) (by kernel_rfl) (below_drawn (Below.refl _ _) 1) (fun hHeld => ?_)
        refine held_take 0 59 (.pointer (some ⟨g4, 11, none⟩)) rfl rfl (by kernel_rfl) (by kernel_rfl) (by kernel_rfl) (fun _ _ _ h => h) rfl hHeld (fun w _ => exec_fldHo _ 3 11 w (by simp)) ?_
        refine held_take 1 60 (.slice P pl.length pc) rfl rfl (by kernel_rfl) (by kernel_rfl) (by kernel_rfl) (fun _ _ _ h => h) rfl hHeld (fun w h => exec_loadRow _ _ 11 _ _ _ w (.inl rfl) (KP.out w h.out)) ?_
        refine held_take 2 61 (.pointer (some ⟨g9, 0 + 0, none⟩)) rfl rfl (by kernel_rfl) (by kernel_rfl) (by kernel_rfl) (fun _ _ _ h => h) rfl hHeld (fun w _ => exec_fldPt g9 0 0 w (by omega)) ?_
        simp only [Act.put, List.setIfInBounds_toArray, List.set_cons_zero, List.set_cons_succ]
        refine held_take 3 62 (.int .i64 q3.id) rfl rfl (by kernel_rfl) (by kernel_rfl) (by kernel_rfl) (fun _ _ _ h => h) rfl hHeld (fun w h => exec_load1 3 g9 (0 + 0) _ w (.inl rfl) (KX.out w h.out).1) ?_
        simp only [Act.put, List.setIfInBounds_toArray, List.set_cons_zero, List.set_cons_succ]
        refine held_call 4 63 18 #[.slice P pl.length pc, .int .i64 q3.id] rfl rfl (by kernel_rfl) rfl (exec_call Tryz.func18 (by kernel_rfl) (by kernel_rfl) _) ?_
        refine (CA.out _ hHeld.out).mono ?_
        rintro e v7 ⟨rfl, rfl⟩
        refine ⟨_, rfl, hHeld.out, ?_⟩
        simp only [Act.put, List.setIfInBounds_toArray, List.set_cons_zero, List.set_cons_succ]
        refine held_take 5 64 (.bool false) rfl rfl (by kernel_rfl) (by kernel_rfl) (by kernel_rfl) (fun _ _ _ h => h) rfl hHeld.out (fun w _ => exec_geqI (ptAt pl q3.id) 0 _ w g1) ?_
        refine held_take 6 65 (.bool false) rfl rfl (by kernel_rfl) (by kernel_rfl) (by kernel_rfl) (fun _ _ _ h => h) rfl hHeld.out (fun w _ => rfl) ?_
        refine held_take 7 66 (.pointer (some ⟨g4, 11, none⟩)) rfl rfl (by kernel_rfl) (by kernel_rfl) (by kernel_rfl) (fun _ _ _ h => h) rfl hHeld.out (fun w _ => exec_fldHo _ 3 11 w (by simp)) ?_
        simp only [Act.put, List.setIfInBounds_toArray, List.set_cons_zero, List.set_cons_succ]
        refine held_take 8 67 (.slice P pl.length pc) rfl rfl (by kernel_rfl) (by kernel_rfl) (by kernel_rfl) (fun _ _ _ h => h) rfl hHeld.out (fun w h => exec_loadRow _ _ 11 _ _ _ w (.inl rfl) (KP.out w h.out)) ?_
        refine held_take 9 68 (.pointer (some ⟨g9, 0 + 1, none⟩)) rfl rfl (by kernel_rfl) (by kernel_rfl) (by kernel_rfl) (fun _ _ _ h => h) rfl hHeld.out (fun w _ => exec_fldPt g9 0 1 w (by omega)) ?_
        refine held_take 10 69 (.int .i64 q3.cabin) rfl rfl (by kernel_rfl) (by kernel_rfl) (by kernel_rfl) (fun _ _ _ h => h) rfl hHeld.out (fun w h => exec_load1 3 g9 (0 + 1) _ w (.inl rfl) (KX.out w h.out).2.1) ?_
        simp only [Act.put, List.setIfInBounds_toArray, List.set_cons_zero, List.set_cons_succ]
        refine held_take 12 71 (.pointer (some ⟨g3, 2, none⟩)) rfl rfl (by kernel_rfl) (by kernel_rfl) (by kernel_rfl) (fun _ _ _ h => h) rfl hHeld.out (fun w _ => exec_fldRu g3 2 w (by omega)) ?_
        refine held_take 13 72 (.int .i64 xr.room) rfl rfl (by kernel_rfl) (by kernel_rfl) (by kernel_rfl) (fun _ _ _ h => h) rfl hHeld.out (fun w h => exec_load1 3 g3 2 _ w (.inl rfl) (KR.out w h.out)) ?_
        simp only [Act.put, List.setIfInBounds_toArray, List.set_cons_zero, List.set_cons_succ]
        refine held_call 11 70 35 #[.slice P pl.length pc, .int .i64 q3.cabin] rfl rfl (by kernel_rfl) rfl (exec_call Tryz.func35 (by kernel_rfl) (by kernel_rfl) _) ?_
        refine (CC.out _ hHeld.out).mono ?_
        rintro e v7 ⟨rfl, rfl⟩
        refine ⟨_, rfl, hHeld.out, ?_⟩
        simp only [Act.put, List.setIfInBounds_toArray, List.set_cons_zero, List.set_cons_succ]
        refine held_take 14 73 (.bool false) rfl rfl (by kernel_rfl) (by kernel_rfl) (by kernel_rfl) (fun _ _ _ h => h) rfl hHeld.out (fun w _ => exec_geqI (countV pl q3.cabin) xr.room _ w g2) ?_
        refine held_take 15 74 (.bool false) rfl rfl (by kernel_rfl) (by kernel_rfl) (by kernel_rfl) (fun _ _ _ h => h) rfl hHeld.out (fun w _ => exec_pickF _ w) ?_
        refine held_take 16 75 (.bool false) rfl rfl (by kernel_rfl) (by kernel_rfl) (by kernel_rfl) (fun _ _ _ h => h) rfl hHeld.out (fun w _ => rfl) ?_
        simp only [Act.put, List.setIfInBounds_toArray, List.set_cons_zero, List.set_cons_succ]
        refine held_take 17 76 (hoA (⟨xra, xrc, xr, (n0 : Int), turn, P, pl.length, pc, xc, xcn, xcc, none, 0, 0, xj, xjn, xjc⟩ : Ho)) rfl rfl (by kernel_rfl) (by kernel_rfl) (by kernel_rfl) (fun _ _ _ h => h) rfl hHeld.out (fun w h => exec_load_ho g4 _ w (KH.out w h.out)) ?_
        refine held_take 18 77 (ptA q3) rfl rfl (by kernel_rfl) (by kernel_rfl) (by kernel_rfl) (fun _ _ _ h => h) rfl hHeld.out (fun w h => exec_load_pt g9 0 q3 w (KX.out w h.out)) ?_
        simp only [Act.put, List.setIfInBounds_toArray, List.set_cons_zero, List.set_cons_succ]
        refine held_call 19 78 36 #[hoA (⟨xra, xrc, xr, (n0 : Int), turn, P, pl.length, pc, xc, xcn, xcc, none, 0, 0, xj, xjn, xjc⟩ : Ho), ptA q3] rfl rfl (by kernel_rfl) rfl (exec_call Tryz.func36 (by kernel_rfl) (by kernel_rfl) _) ?_
        refine (CM.out _ hHeld.out).mono ?_
        rintro e v8 ⟨⟨b, rfl⟩, x8⟩
        have k8 := hHeld.out.trans (x8.mono hHeld.out.size)
        refine ⟨_, rfl, k8, ?_⟩
        simp only [Act.put, List.setIfInBounds_toArray, List.set_cons_zero, List.set_cons_succ]
        refine held_take 20 79 (.bool (!b)) rfl rfl (by kernel_rfl) (by kernel_rfl) (by kernel_rfl) (fun _ _ _ h => h) rfl k8 (fun w _ => rfl) ?_
        refine held_take 21 80 (.bool (!b)) rfl rfl (by kernel_rfl) (by kernel_rfl) (by kernel_rfl) (fun _ _ _ h => h) rfl k8 (fun w _ => exec_pickF _ w) ?_
        refine wpAnyH_done (by kernel_rfl) ?_ _
        cases b
        · simp only [Bool.not_false]
          have BF := k8
          have KF := Lib.hid (K.call BF)
          clear hHeld BF K x8 k8
          go_wp2
          go_roundw
          case rel => exact ⟨i + 1, top, pc, s2, turn, P, pl, by omega, by go_num, rfl, by omega, by omega, by omega, KF.out⟩
          case measure => simp [intOf] <;> omega
        simp only [Bool.not_true]
        have hat : ptAt pl q3.id = -1 := by unfold ptAt at d1 ⊢; omega
        have hp := blk_call hp k8
        have K := K.call k8
        have f6 := cell_of_row _ _ 6 _ _ _ hp
        have h10 := cell_of_row _ _ 10 _ _ _ K.H
        have z10 := frozen_of_row _ _ 10 _ _ K.H
        simp at f6 h10
        rw [ET.out] at f6
        clear hHeld x8 k8 KP KH KR KX RP RA CA CC CM d1 d2 g1 g2
        have HK3 := Lib.hid (K.turn (t2 + 1))
        have HQ3 : Hid ((v8.setCell ⟨g4, 10, none⟩ (.int .i64 (t2 + 1))).heap[g9]? = some (.cells #[.int .i64 q3.id, .int .i64 q3.cabin, .int .i64 q3.from_, .int .i64 q3.size, .int .i64 q3.tier, .int .i64 q3.since, .int .i64 q3.turn, .int .i64 q3.state, .int .i64 q3.until_, .int .i64 q3.asked] 26)) := (heap_set_ne v8 g4 10 _ (by have := K.l5; omega)).trans hp
        obtain ⟨u9, eu9⟩ : ∃ z, v8.setCell ⟨g4, 10, none⟩ (.int .i64 (t2 + 1)) = z := ⟨_, rfl⟩
        rw [eu9] at HK3 HQ3
        have KK := HK3.out
        have CP := Lib.hid (partyPut_new P pl pc q3 u9 (by omega) (own_cap KK.oP) (own_nil KK.oP) (own_rws KK.oP) hat)
        have r0 := cell_of_row _ _ 0 _ _ _ HQ3.out
        have r1 := cell_of_row _ _ 1 _ _ _ HQ3.out
        have r2 := cell_of_row _ _ 2 _ _ _ HQ3.out
        have r3 := cell_of_row _ _ 3 _ _ _ HQ3.out
        have r4 := cell_of_row _ _ 4 _ _ _ HQ3.out
        have r5 := cell_of_row _ _ 5 _ _ _ HQ3.out
        have r6 := cell_of_row _ _ 6 _ _ _ HQ3.out
        have r7 := cell_of_row _ _ 7 _ _ _ HQ3.out
        have r8 := cell_of_row _ _ 8 _ _ _ HQ3.out
        have r9 := cell_of_row _ _ 9 _ _ _ HQ3.out
        have h11 := cell_of_row _ _ 11 _ _ _ KK.H
        simp at h11 r0 r1 r2 r3 r4 r5 r6 r7 r8 r9
        unfold ptA at CP
        clear K KK hp hat ib
        go_wp2_with fail
        refine CP.out.mono ?_
        rintro e v10 ⟨P2, pc2, rfl, o10, x10⟩
        have KK := (HK3.out.call x10).raise
        have b10 := HK3.out
        have ow := own_weak o10 (show w.heap.size + 1 ≤ u9.heap.size by have := b10.l6; have := b10.l5; have := b10.l4; have := b10.l3; omega)
        have K11 := KK.party P2 pc2 (ptPut pl q3) ow (fun j hj => (World.ownsRow.lt o10 j hj).2)
        have HK4 := Lib.hid K11
        have h11 := cell_of_row _ _ 11 _ _ _ KK.H
        have z11 := frozen_of_row _ _ 11 _ _ KK.H
        simp at h11
        have hln : (ptPut pl q3).length ≤ i + 1 := by rw [ptPut_len]; omega
        generalize ptPut pl q3 = pl2 at *
        clear CP HK3 HQ3 KK ow K11 o10 x10 b10 f6 h10 z10 eu9 r0 r1 r2 r3 r4 r5 r6 r7 r8 r9
        go_wp2
        go_roundw
        case rel => exact ⟨i + 1, _, pc2, s2, t2 + 1, P2, pl2, by omega, by go_num, rfl, by omega, by omega, hln, HK4.out⟩
        case measure => simp [intOf] <;> omega
    · obtain ⟨b, eb⟩ : ∃ b, xc = some ⟨b, 0, none⟩ := by
        obtain ⟨_, _, eC, _, _, hC⟩ := own_form K.oC
        obtain ⟨b, eb, _⟩ := hC (show 0 < xcn by rw [show xcn = xr.seats.length from K.xc]; exact hr.n1)
        injection eC with eC1
        exact ⟨b, eC1.trans eb⟩
      subst eb
      have HK := Lib.hid K
      clear K
      go_wp2_with fail
      go_loopw [10] (fun v10 wr => ∃ (k top tc : Nat) (T : Option Addr) (ts : List Int) (cs : List Value), k ≤ xcn ∧ v10 = .int .i64 k ∧ ts.length ≤ k ∧ Rt w wr g A l c top g3 g4 RB rc xr (⟨xra, xrc, xr, (n0 : Int), turn, P, pl.length, pc, (some ⟨b, 0, none⟩), xcn, xcc, T, ts.length, tc, xj, xjn, xjc⟩ : Ho) cs js ts pl) (fun v10 _ => xcn - (intOf v10).toNat)
      case atStart => exact ⟨0, top, 0, none, [], cs, by omega, rfl, by simp, HK.out⟩
      case round =>
        clear HK
        obtain ⟨k, top, tc, T, ts, cs, hk0, rfl, hts, K⟩ := hrel
        have n2 := hr.n2
        have xcc0 := K.xc
        have hxc : xcn ≤ 4 := by rw [show xcn = xr.seats.length from xcc0]; exact n2
        have hkr : k < xcn → k < xr.seats.length := fun h => by rw [← show xcn = xr.seats.length from xcc0]; exact h
        clear xcc0
        have c12 := cell_of_row _ _ 12 _ _ _ K.H
        simp at c12
        by_cases hk : k < xcn
        · skip
          have hHg := Lib.hid (fun w' (h : wr.grownBy w' (some g)) => (h.block _ (blk_lt K.H) (fun e => by injection e with e; have := K.lg; have := K.l3; have := K.l4; omega)).trans K.H)
          have hRg := Lib.hid (fun w' (h : wr.grownBy w' (some g)) => (h.block _ (blk_lt K.R) (fun e => by injection e with e; have := K.lg; have := K.l3; omega)).trans K.R)
          have K12 := Lib.hid (fun w' (h : wr.grownBy w' (some g)) => cell_of_row _ _ 12 _ _ _ (hHg.out w' h))
          have K11 := Lib.hid (fun w' (h : wr.grownBy w' (some g)) => cell_of_row _ _ 11 _ _ _ (hHg.out w' h))
          have K9 := Lib.hid (fun w' (h : wr.grownBy w' (some g)) => cell_of_row _ _ 9 _ _ _ (hHg.out w' h))
          have HK := Lib.hid K
          clear K
          go_wp2_with fail
          have K := HK.out
          refine wp_region_F 13 (fun w' => Hid (wr.grownBy w' (some g))) (by kernel_rfl) ?_
          have hH0 : Hid (wr.grownBy wr.drew (some g)) := grown_of_below (below_drawn (Below.refl wr.heap.size wr) 1) _
          refine f_take 0 97 (.pointer (some ⟨g4, 12, none⟩)) rfl rfl (by kernel_rfl) (by kernel_rfl) (by kernel_rfl) (by kernel_rfl) (fun _ _ _ h => h) rfl hH0 (fun w _ => exec_fldHo _ 4 12 w (by simp)) ?_
          refine f_take 1 98 (.slice (some ⟨b, 0, none⟩) xcn xcc) rfl rfl (by kernel_rfl) (by kernel_rfl) (by kernel_rfl) (by kernel_rfl) (fun _ _ _ h => h) rfl hH0 (fun w h => exec_loadRow _ _ 12 _ _ _ w (.inr rfl) (K12.out w h.out)) ?_
          simp only [Act.put, List.setIfInBounds_toArray, List.set_cons_zero, List.set_cons_succ]
          refine f_take 2 99 (.int .i64 (k : Int)) rfl rfl (by kernel_rfl) (by kernel_rfl) (by kernel_rfl) (by kernel_rfl) (fun _ _ _ h => h) rfl hH0 (fun w _ => rfl) ?_
          refine f_take 3 100 (ruV RB rc xr) rfl rfl (by kernel_rfl) (by kernel_rfl) (by kernel_rfl) (by kernel_rfl) (fun _ _ _ h => h) rfl hH0 (fun w h => exec_loadRi _ RB rc xr w (hRg.out w h.out)) ?_
          simp only [Act.put, List.setIfInBounds_toArray, List.set_cons_zero, List.set_cons_succ]
          refine f_take 4 101 (.pointer (some ⟨g4, 11, none⟩)) rfl rfl (by kernel_rfl) (by kernel_rfl) (by kernel_rfl) (by kernel_rfl) (fun _ _ _ h => h) rfl hH0 (fun w _ => exec_fldHo _ 3 11 w (by simp)) ?_
          refine f_take 5 102 (.slice P pl.length pc) rfl rfl (by kernel_rfl) (by kernel_rfl) (by kernel_rfl) (by kernel_rfl) (fun _ _ _ h => h) rfl hH0 (fun w h => exec_loadRow _ _ 11 _ _ _ w (.inl rfl) (K11.out w h.out)) ?_
          simp only [Act.put, List.setIfInBounds_toArray, List.set_cons_zero, List.set_cons_succ]
          refine f_take 6 103 (.int .i64 (k : Int)) rfl rfl (by kernel_rfl) (by kernel_rfl) (by kernel_rfl) (by kernel_rfl) (fun _ _ _ h => h) rfl hH0 (fun w _ => rfl) ?_
          refine f_take 7 104 (.pointer (some ⟨g4, 9, none⟩)) rfl rfl (by kernel_rfl) (by kernel_rfl) (by kernel_rfl) (by kernel_rfl) (fun _ _ _ h => h) rfl hH0 (fun w _ => exec_fldHo _ 1 9 w (by simp)) ?_
          simp only [Act.put, List.setIfInBounds_toArray, List.set_cons_zero, List.set_cons_succ]
          refine f_take 8 105 (.int .i64 (n0 : Int)) rfl rfl (by kernel_rfl) (by kernel_rfl) (by kernel_rfl) (by kernel_rfl) (fun _ _ _ h => h) rfl hH0 (fun w h => exec_load1 3 g4 9 _ w (.inl rfl) (K9.out w h.out)) ?_
          refine f_take 9 106 (.pointer (some ⟨g, 0, none⟩)) rfl rfl (by kernel_rfl) (by kernel_rfl) (by kernel_rfl) (by kernel_rfl) (fun _ _ _ h => h) rfl hH0 (fun w _ => rfl) ?_
          simp only [Act.put, List.setIfInBounds_toArray, List.set_cons_zero, List.set_cons_succ]
          refine f_call 10 107 21 #[.pointer (some ⟨g, 0, none⟩), .int .i64 6] rfl rfl (by kernel_rfl) rfl (exec_call Tryz.func21 (by kernel_rfl) (by kernel_rfl) _) ?_
          refine (l1Below_any A l c g 6 _ hl hb (by omega) (by omega) (K.cur.mem (below_drawn (Below.refl _ _) 1))).mono ?_
          rintro e v5 ⟨y2, hy2, rfl, hd5, gs5⟩
          have g5 := hH0.out.trans gs5
          refine ⟨_, rfl, (fun _ _ => Lib.hid g5), ?_⟩
          simp only [Act.put, List.setIfInBounds_toArray, List.set_cons_zero, List.set_cons_succ]
          have K5 := K.draw g5 hd5
          refine f_call 11 108 38 #[ruV RB rc xr, .slice P pl.length pc, .int .i64 (k : Int), .int .i64 (n0 : Int), .int .i64 (y2 : Int)] rfl rfl (by kernel_rfl) rfl (exec_call Tryz.func38 (by kernel_rfl) (by kernel_rfl) _) ?_
          refine (l10Made_any RB P rc xr pl pc k (n0 : Int) (y2 : Int) v5 hr (hkr hk) (by omega) (by omega) (own_rws K5.oR) (own_rws K5.oP)).mono ?_
          rintro e v6 ⟨⟨y, rfl⟩, x6⟩
          have g6 := g5.trans (grown_of_below x6 _)
          have K6 := K5.call x6
          refine ⟨_, rfl, (fun _ _ => Lib.hid g6), ?_⟩
          simp only [Act.put, List.setIfInBounds_toArray, List.set_cons_zero, List.set_cons_succ]
          refine f_op 12 109 (.pointer (some ⟨b, 0 + k * 7, none⟩)) rfl rfl (by kernel_rfl) rfl (exec_idxCab b 0 xcn xcc k _ hk) (fun _ _ => Lib.hid g6) ?_
          simp only [Act.put, List.setIfInBounds_toArray, List.set_cons_zero, List.set_cons_succ]
          have cl7 : cs.length = xcn * 7 := K6.oC.1
          refine f_store 13 rfl rfl (by kernel_rfl) rfl (exec_store_cbAt b (0 + k * 7) y v6 (fun j hj => ⟨_, (K6.oC.cellAt (0 + k * 7 + j) (show 0 + k * 7 + j < xcn * 7 by omega)).trans (List.getElem?_eq_getElem (by rw [cl7]; omega))⟩) (fun j => K6.oC.frozenAt j)) (fun h => absurd rfl h) ?_
          refine f_done (by kernel_rfl) ?_ _
          obtain ⟨cs2, K7⟩ := K6.cabin (b := b) rfl (0 + k * 7) y
          generalize putCbAt v6 b (0 + k * 7) y = u7 at *
          have HK7 := Lib.hid K7
          clear K K5 K6 K7 g5 g6 gs5 hd5 x6 hH0 hHg hRg K12 K11 K9 HK cl7 c12
          go_wp2_with fail
          refine (l1Once_any A l c g 2 _ hl hb (by omega) (by omega) HK7.out.cur).mono ?_
          rintro e v8 ⟨d8, rfl, hd8, gs8⟩
          have K8 := HK7.out.draw gs8 hd8
          clear HK7 gs8 hd8
          cases d8
          · have HK8 := Lib.hid K8
            clear K8
            go_wp2
            go_roundw
            case rel => exact ⟨k + 1, top, tc, T, ts, cs2, by omega, by go_num, by omega, HK8.out⟩
            case measure => simp [intOf] <;> omega
          · have c13 := cell_of_row _ _ 13 _ _ _ K8.H
            simp at c13
            have CT := Lib.hid (todoPut_spec T ts tc (k : Int) v8 (by omega) (own_nil K8.oT) (own_rws K8.oT))
            have HK8 := Lib.hid K8
            clear K8
            go_wp2_with fail
            refine CT.out.mono ?_
            rintro e v9 ⟨T9, tc9, rfl, o9, x9⟩
            have K8 := HK8.out
            have K9 := (K8.call x9).raise
            have ow := own_weak o9 (show w.heap.size + 1 ≤ v8.heap.size by have := K8.l6; have := K8.l5; have := K8.l4; have := K8.l3; omega)
            have K10 := K9.todo T9 tc9 (todoV ts (k : Int)) ow (fun j hj => (World.ownsRow.lt o9 j hj).2)
            have HK10 := Lib.hid K10
            clear c13
            have c13 := cell_of_row _ _ 13 _ _ _ K9.H
            have z13 := frozen_of_row _ _ 13 _ _ K9.H
            simp at c13
            have hln := todoV_len ts (k : Int)
            generalize todoV ts (k : Int) = ts2 at *
            clear K8 K9 K10 ow o9 x9 CT HK8
            go_wp2
            go_roundw
            case rel => exact ⟨k + 1, _, tc9, T9, ts2, cs2, by omega, by go_num, by omega, HK10.out⟩
            case measure => simp [intOf] <;> omega
        · obtain ⟨bj, ebj⟩ : ∃ bj, xj = some ⟨bj, 0, none⟩ := by
            obtain ⟨_, _, eC, _, _, hC⟩ := own_form K.oJ
            obtain ⟨b, eb, _⟩ := hC (show 0 < xjn by have := HE11.out; have := hr.crew; omega)
            injection eC with eC1
            exact ⟨b, eC1.trans eb⟩
          subst ebj
          have HK := Lib.hid (K.to3 HAP.out)
          have htn : ts.length ≤ 4 := by omega
          have hxj : xjn ≤ 3 := by have := HE11.out; have := hr.crew; omega
          have n1s := hr.n1
          clear K
          go_wp2_with fail
          go_loopw [11] (fun v11 wr => ∃ (k : Nat) (js : List Value), k ≤ xjn ∧ v11 = .int .i64 k ∧ Rt3 w wr g A l c g3 g4 RB rc xr (⟨xra, xrc, xr, (n0 : Int), turn, P, pl.length, pc, (some ⟨b, 0, none⟩), xcn, xcc, T, ts.length, tc, (some ⟨bj, 0, none⟩), xjn, xjc⟩ : Ho) js pl) (fun v11 _ => xjn - (intOf v11).toNat)
          case atStart => exact ⟨0, js, by omega, rfl, HK.out⟩
          case round =>
            clear HK c12
            obtain ⟨k3, js, hk3, rfl, K⟩ := hrel
            have c14 := cell_of_row _ _ 14 _ _ _ K.H
            simp at c14
            by_cases hlt3 : k3 < xjn
            · have HK := Lib.hid K
              clear K
              go_wp2_with fail
              refine (l1Once_any A l c g 3 _ hl hb (by omega) (by omega) HK.out.cur).mono ?_
              rintro e v8 ⟨d8, rfl, hd8, gs8⟩
              have K := HK.out.draw gs8 hd8
              clear HK gs8 hd8 c14
              cases d8
              · have HK := Lib.hid K
                clear K
                go_wp2
                go_roundw
                case rel => exact ⟨k3 + 1, js, by omega, by go_num, HK.out⟩
                case measure => simp [intOf] <;> omega
              · have hHg := Lib.hid (fun w' (h : v8.grownBy w' (some g)) => cell_of_row _ _ 14 _ _ _ ((h.block _ (blk_lt K.H) (fun e => by injection e with e; have := K.lg; have := K.l3; have := K.l4; omega)).trans K.H))
                have hRg := Lib.hid (fun w' (h : v8.grownBy w' (some g)) => cell_of_row _ _ 0 _ _ _ ((h.block _ (blk_lt K.R) (fun e => by injection e with e; have := K.lg; have := K.l3; omega)).trans K.R))
                have HK := Lib.hid K
                clear K
                go_wp2_with fail
                have K := HK.out
                refine wp_region_F 9 (fun w' => Hid (v8.grownBy w' (some g))) (by kernel_rfl) ?_
                have hH0 : Hid (v8.grownBy v8.drew (some g)) := grown_of_below (below_drawn (Below.refl v8.heap.size v8) 1) _
                refine f_take 0 126 (.pointer (some ⟨g4, 14, none⟩)) rfl rfl (by kernel_rfl) (by kernel_rfl) (by kernel_rfl) (by kernel_rfl) (fun _ _ _ h => h) rfl hH0 (fun w _ => exec_fldHo _ 6 14 w (by simp)) ?_
                refine f_take 1 127 (.slice (some ⟨bj, 0, none⟩) xjn xjc) rfl rfl (by kernel_rfl) (by kernel_rfl) (by kernel_rfl) (by kernel_rfl) (fun _ _ _ h => h) rfl hH0 (fun w h => exec_loadSl _ _ 14 _ _ _ w rfl (hHg.out w h.out)) ?_
                simp only [Act.put, List.setIfInBounds_toArray, List.set_cons_zero, List.set_cons_succ]
                refine f_take 2 128 (.int .i64 (k3 : Int)) rfl rfl (by kernel_rfl) (by kernel_rfl) (by kernel_rfl) (by kernel_rfl) (fun _ _ _ h => h) rfl hH0 (fun w _ => rfl) ?_
                refine f_take 3 129 (.pointer (some ⟨g, 0, none⟩)) rfl rfl (by kernel_rfl) (by kernel_rfl) (by kernel_rfl) (by kernel_rfl) (fun _ _ _ h => h) rfl hH0 (fun w _ => rfl) ?_
                simp only [Act.put, List.setIfInBounds_toArray, List.set_cons_zero, List.set_cons_succ]
                refine f_take 4 130 (.pointer (some ⟨g3, 0, none⟩)) rfl rfl (by kernel_rfl) (by kernel_rfl) (by kernel_rfl) (by kernel_rfl) (fun _ _ _ h => h) rfl hH0 (fun w _ => exec_fldRu g3 0 w (by omega)) ?_
                refine f_take 5 131 (.slice RB xr.seats.length rc) rfl rfl (by kernel_rfl) (by kernel_rfl) (by kernel_rfl) (by kernel_rfl) (fun _ _ _ h => h) rfl hH0 (fun w h => exec_loadSl _ _ 0 _ _ _ w rfl (hRg.out w h.out)) ?_
                simp only [Act.put, List.setIfInBounds_toArray, List.set_cons_zero, List.set_cons_succ]
                refine f_take 6 132 (.int .i64 (xr.seats.length : Nat)) rfl rfl (by kernel_rfl) (by kernel_rfl) (by kernel_rfl) (by kernel_rfl) (fun _ _ _ h => h) rfl hH0 (fun w _ => exec_lenT rowInt _ _ _ w) ?_
                simp only [Act.put, List.setIfInBounds_toArray, List.set_cons_zero, List.set_cons_succ]
                refine f_call 7 133 21 #[.pointer (some ⟨g, 0, none⟩), .int .i64 (xr.seats.length : Nat)] rfl rfl (by kernel_rfl) rfl (exec_call Tryz.func21 (by kernel_rfl) (by kernel_rfl) _) ?_
                refine (l1Below_any A l c g xr.seats.length _ hl hb (by omega) (by omega) (K.cur.mem (below_drawn (Below.refl _ _) 1))).mono ?_
                rintro e v5 ⟨y2, hy2, rfl, hd5, gs5⟩
                have g5 := hH0.out.trans gs5
                refine ⟨_, rfl, (fun _ _ => Lib.hid g5), ?_⟩
                simp only [Act.put, List.setIfInBounds_toArray, List.set_cons_zero, List.set_cons_succ]
                have K5 := K.draw g5 hd5
                refine f_op 8 134 (.pointer (some ⟨bj, 0 + k3, none⟩)) rfl rfl (by kernel_rfl) rfl (exec_idxIv bj 0 xjn xjc k3 _ hlt3) (fun _ _ => Lib.hid g5) ?_
                simp only [Act.put, List.setIfInBounds_toArray, List.set_cons_zero, List.set_cons_succ]
                have jl : js.length = xjn * 1 := K5.oJ.1
                refine f_store 9 rfl rfl (by kernel_rfl) rfl (exec_storeI 3 bj (0 + k3) .i64 (y2 : Int) _ v5 (.inl rfl) ((K5.oJ.cellAt (0 + k3) (show 0 + k3 < xjn * 1 by omega)).trans (List.getElem?_eq_getElem (by rw [jl]; omega))) (K5.oJ.frozenAt _)) (fun h => absurd rfl h) ?_
                refine f_done (by kernel_rfl) ?_ _
                have K7 := K5.job (b := bj) rfl (0 + k3) (.int .i64 (y2 : Int))
                rw [Nat.zero_add] at K7
                have HK7 := Lib.hid K7
                clear K7
                clear K K5 g5 gs5 hd5 hH0 hHg hRg HK jl
                go_wp2
                go_roundw
                case rel => exact ⟨k3 + 1, _, by omega, by go_num, HK7.out⟩
                case measure => simp [intOf] <;> omega
            · have lgw := K.lg
              have d0 := cell_of_row _ _ 0 _ _ _ K.H
              have d1 := cell_of_row _ _ 1 _ _ _ K.H
              have d2 := cell_of_row _ _ 2 _ _ _ K.H
              have d3 := cell_of_row _ _ 3 _ _ _ K.H
              have d4 := cell_of_row _ _ 4 _ _ _ K.H
              have d5 := cell_of_row _ _ 5 _ _ _ K.H
              have d6 := cell_of_row _ _ 6 _ _ _ K.H
              have d7 := cell_of_row _ _ 7 _ _ _ K.H
              have d8 := cell_of_row _ _ 8 _ _ _ K.H
              have d9 := cell_of_row _ _ 9 _ _ _ K.H
              have d10 := cell_of_row _ _ 10 _ _ _ K.H
              have d11 := cell_of_row _ _ 11 _ _ _ K.H
              have d12 := cell_of_row _ _ 12 _ _ _ K.H
              have d13 := cell_of_row _ _ 13 _ _ _ K.H
              have d14 := cell_of_row _ _ 14 _ _ _ K.H
              have e0 := cell_of_row _ _ 0 _ _ _ K.Z
              have f0 := frozen_of_row _ _ 0 _ _ K.Z
              have e1 := cell_of_row _ _ 1 _ _ _ K.Z
              have f1 := frozen_of_row _ _ 1 _ _ K.Z
              have e2 := cell_of_row _ _ 2 _ _ _ K.Z
              have f2 := frozen_of_row _ _ 2 _ _ K.Z
              have e3 := cell_of_row _ _ 3 _ _ _ K.Z
              have f3 := frozen_of_row _ _ 3 _ _ K.Z
              have e4 := cell_of_row _ _ 4 _ _ _ K.Z
              have f4 := frozen_of_row _ _ 4 _ _ K.Z
              have e5 := cell_of_row _ _ 5 _ _ _ K.Z
              have f5 := frozen_of_row _ _ 5 _ _ K.Z
              have e6 := cell_of_row _ _ 6 _ _ _ K.Z
              have f6 := frozen_of_row _ _ 6 _ _ K.Z
              have e7 := cell_of_row _ _ 7 _ _ _ K.Z
              have f7 := frozen_of_row _ _ 7 _ _ K.Z
              have e8 := cell_of_row _ _ 8 _ _ _ K.Z
              have f8 := frozen_of_row _ _ 8 _ _ K.Z
              have e9 := cell_of_row _ _ 9 _ _ _ K.Z
              have f9 := frozen_of_row _ _ 9 _ _ K.Z
              have e10 := cell_of_row _ _ 10 _ _ _ K.Z
              have f10 := frozen_of_row _ _ 10 _ _ K.Z
              have e11 := cell_of_row _ _ 11 _ _ _ K.Z
              have f11 := frozen_of_row _ _ 11 _ _ K.Z
              have e12 := cell_of_row _ _ 12 _ _ _ K.Z
              have f12 := frozen_of_row _ _ 12 _ _ K.Z
              have e13 := cell_of_row _ _ 13 _ _ _ K.Z
              have f13 := frozen_of_row _ _ 13 _ _ K.Z
              have e14 := cell_of_row _ _ 14 _ _ _ K.Z
              have f14 := frozen_of_row _ _ 14 _ _ K.Z
              simp at d0 d1 d2 d3 d4 d5 d6 d7 d8 d9 d10 d11 d12 d13 d14 e0 e1 e2 e3 e4 e5 e6 e7 e8 e9 e10 e11 e12 e13 e14
              have HN : Hid (GotHo2 w g A l c (.returned (hoA (⟨xra, xrc, xr, (n0 : Int), turn, P, pl.length, pc, (some ⟨b, 0, none⟩), xcn, xcc, T, ts.length, tc, (some ⟨bj, 0, none⟩), xjn, xjc⟩ : Ho))) (putHo wr w.heap.size (⟨xra, xrc, xr, (n0 : Int), turn, P, pl.length, pc, (some ⟨b, 0, none⟩), xcn, xcc, T, ts.length, tc, (some ⟨bj, 0, none⟩), xjn, xjc⟩ : Ho))) := by
                have oP2 : (putHo wr w.heap.size (⟨xra, xrc, xr, (n0 : Int), turn, P, pl.length, pc, (some ⟨b, 0, none⟩), xcn, xcc, T, ts.length, tc, (some ⟨bj, 0, none⟩), xjn, xjc⟩ : Ho)).ownsRow (w.heap.size + 1) 26 10 (.slice P pl.length pc) pl.length (pl.flatMap ptC) := putHo_own K.oP (own_ne_type K.oP K.Z (by decide))
                obtain ⟨cs9, oC9⟩ := K.oC
                obtain ⟨ts9, oT9⟩ := K.oT
                exact ⟨_, pl, cs9, ts9, _, rfl, hr, rfl, by omega, ⟨by show (0 : Int) ≤ (n0 : Int); omega, by show (n0 : Int) ≤ 1000; omega⟩, K.xc, htn, hxj, oP2, putHo_own oC9 (own_ne_type oC9 K.Z (by decide)), putHo_own oT9 (own_ne_type oT9 K.Z (by decide)), putHo_own K.oJ (own_ne_type K.oJ K.Z (by decide)), putHo_own K.oA (own_ne_type K.oA K.Z (by decide)), putHo_cur K.cur K.lg, putHo_grown K.gr (Nat.le_refl _)⟩
              clear K
              unfold hoA putHo at HN
              go_wp2
              simp [bodyPost, results, Tryz.results19, go_sem, e0, e1, e2, e3, e4, e5, e6, e7, e8, e9, e10, e11, e12, e13, e14]
              exact HN.out
set_option maxRecDepth 100000 in
theorem l11Right_any (A : Option Addr) (l : List Nat) (c g : Nat) (w : World) (hl : l.length ≤ 2097152) (hb : AllB l) (hcw : Cur w g A l c) :
    Calls Tryz.prog 19 #[.pointer (some ⟨g, 0, none⟩)] w (GotHo w g A l c) := by
  refine (l11Right_own A l c g w hl hb hcw).mono ?_
  rintro e w1 ⟨x, pl, cs, ts, js, h1, h2, h3, h4, _, _, _, _, oP, _, _, _, _, hc, gr⟩
  exact ⟨x, pl, h1, h2, h3, h4, by rw [h3] at oP; exact own_rws oP, hc, gr⟩
end Go.Proofs.YtlflgflmlfileaaGreat
