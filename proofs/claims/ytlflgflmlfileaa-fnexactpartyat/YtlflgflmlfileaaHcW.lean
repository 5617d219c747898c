/- The walk of the exact law over PartyAt. -/
import Derived.Test.YtlflgflmlfileaaRows
import Derived.Test.YtlflgflmlfileaaHcB
import Derived.Test.YtlflgflmlfileaaHoA
import Derived.Test.YtlflgflmlfileaaHs4
namespace Go.Proofs.Ytlflgflmlfileaa
open Go.RowKit
set_option linter.unusedSimpArgs false
set_option linter.unusedVariables false
theorem Hv.like.trans {a b c : Hv} (h : a.like b) (k : b.like c) : a.like c := ⟨h.r.trans k.r, h.now.trans k.now, h.turn.trans k.turn, h.p.trans k.p, h.c.trans k.c, h.t.trans k.t, h.j.trans k.j⟩
theorem Hv.like.symm {a b : Hv} (h : a.like b) : b.like a := ⟨h.r.symm, h.now.symm, h.turn.symm, h.p.symm, h.c.symm, h.t.symm, h.j.symm⟩
theorem Hv.small.of {a b : Hv} (h : a.small) (k : b.like a) : b.small := ⟨by rw [k.r]; exact h.r, by rw [k.p]; exact h.p, h.c.of k.c, by rw [k.t]; exact h.t, by rw [k.j]; exact h.j⟩
set_option maxRecDepth 100000 in
set_option maxHeartbeats 1600000 in
theorem partyAt_spec (h : Hv) (id : Int) (w : World) (hl : h.pl.length ≤ 2097152) (hr : Rws w w.heap.size h.PA (h.pl.flatMap ptC)) :
    Calls Try.prog 15 #[hvA h, .int .i64 id] w fun e w' => e = .returned (.int .i64 (ptAt h.pl id)) ∧ Below w.heap.size w w' := by
  obtain ⟨W, hW⟩ : ∃ W, w.alloc (.cells #[.slice h.RA h.r.seats.length h.rc, .int .i64 h.r.tiers, .int .i64 h.r.room, .int .i64 h.r.size, .int .i64 h.r.period, .int .i64 h.r.window, .int .i64 h.r.rest, .int .i64 h.r.tries, .int .i64 h.r.crew, .int .i64 h.now, .int .i64 h.turn, .slice h.PA h.pl.length h.pc, .slice h.CA h.vs.length h.cc, .slice h.TA h.tl.length h.tc, .slice h.JA h.jl.length h.jc] 45) = W := ⟨_, rfl⟩
  have b0 : Below w.heap.size w W := by rw [← hW]; exact (Below.refl _ _).alloc (Nat.le_refl _) _
  have C := Lib.hid (l11At_spec h.PA h.pl h.pc id W hl (rws_below hr b0))
  have HB := Lib.hid b0
  have HW := Lib.hid hW
  clear b0 hW hr
  generalize ptAt h.pl id = z at *
  unfold hvA
  go_enter Try.func15, Try.ntmps15
  go_wp2_with fail
  rw [HW.out]
  refine C.out.mono ?_
  rintro e _ ⟨rfl, rfl⟩
  have B1 := HB
  clear C HW
  go_wp2
  go_ret
  exact ⟨rfl, B1.out⟩
set_option maxRecDepth 100000 in
set_option maxHeartbeats 1600000 in
theorem partyAt_impl (h : Hv) (id : Int) (w : World) (hl : h.pl.length ≤ 2097152) (hr : Rws w w.heap.size h.PA (h.pl.flatMap ptC)) :
    Calls Try.prog 17 #[hvA h, .int .i64 id] w fun e w' => e = .returned (.int .i64 (ptAt h.pl id)) ∧ Below w.heap.size w w' := by
  obtain ⟨W, hW⟩ : ∃ W, w.alloc (.cells #[.slice h.RA h.r.seats.length h.rc, .int .i64 h.r.tiers, .int .i64 h.r.room, .int .i64 h.r.size, .int .i64 h.r.period, .int .i64 h.r.window, .int .i64 h.r.rest, .int .i64 h.r.tries, .int .i64 h.r.crew, .int .i64 h.now, .int .i64 h.turn, .slice h.PA h.pl.length h.pc, .slice h.CA h.vs.length h.cc, .slice h.TA h.tl.length h.tc, .slice h.JA h.jl.length h.jc] 45) = W := ⟨_, rfl⟩
  have b0 : Below w.heap.size w W := by rw [← hW]; exact (Below.refl _ _).alloc (Nat.le_refl _) _
  have C := Lib.hid (firstWithId_im h.PA h.pl h.pc id W hl (rws_below hr b0))
  have HB := Lib.hid b0
  have HW := Lib.hid hW
  clear b0 hW hr
  generalize ptAt h.pl id = z at *
  unfold hvA
  go_enter Try.func17, Try.ntmps17
  go_wp2_with fail
  rw [HW.out]
  refine C.out.mono ?_
  rintro e w1 ⟨rfl, b1⟩
  have B1 := Lib.hid (HB.out.trans (b1.mono HB.out.size))
  clear b1
  clear C HW
  go_wp2
  go_ret
  exact ⟨rfl, B1.out⟩
set_option maxRecDepth 100000 in
theorem exec_load_lho {ρ : Operand → Value} {o : Oper} {x : Operand} (b : Nat) (h : Hv) (w : World) (hb : w.heap[b]? = some (.cells #[.slice h.RA h.r.seats.length h.rc, .int .i64 h.r.tiers, .int .i64 h.r.room, .int .i64 h.r.size, .int .i64 h.r.period, .int .i64 h.r.window, .int .i64 h.r.rest, .int .i64 h.r.tries, .int .i64 h.r.crew, .int .i64 h.now, .int .i64 h.turn, .slice h.PA h.pl.length h.pc, .slice h.CA h.vs.length h.cc, .slice h.TA h.tl.length h.tc, .slice h.JA h.jl.length h.jc] 38)) (ho : o.op = .load 38 x := by rfl) (hx : ρ x = .pointer (some ⟨b, 0, none⟩) := by rfl) :
    (execOp ρ o).run Try.prog w = .ok (.value (hvA h)) w := by
  have a0 := cell_of_row _ _ 0 _ _ _ hb
  have a1 := cell_of_row _ _ 1 _ _ _ hb
  have a2 := cell_of_row _ _ 2 _ _ _ hb
  have a3 := cell_of_row _ _ 3 _ _ _ hb
  have a4 := cell_of_row _ _ 4 _ _ _ hb
  have a5 := cell_of_row _ _ 5 _ _ _ hb
  have a6 := cell_of_row _ _ 6 _ _ _ hb
  have a7 := cell_of_row _ _ 7 _ _ _ hb
  have a8 := cell_of_row _ _ 8 _ _ _ hb
  have a9 := cell_of_row _ _ 9 _ _ _ hb
  have a10 := cell_of_row _ _ 10 _ _ _ hb
  have a11 := cell_of_row _ _ 11 _ _ _ hb
  have a12 := cell_of_row _ _ 12 _ _ _ hb
  have a13 := cell_of_row _ _ 13 _ _ _ hb
  have a14 := cell_of_row _ _ 14 _ _ _ hb
  simp at a0 a1 a2 a3 a4 a5 a6 a7 a8 a9 a10 a11 a12 a13 a14
  unfold execOp
  rw [ho]
  simp [go_sem, hx, a0, a1, a2, a3, a4, a5, a6, a7, a8, a9, a10, a11, a12, a13, a14, hvA]
set_option maxRecDepth 100000 in
theorem exec_load_iho {ρ : Operand → Value} {o : Oper} {x : Operand} (b : Nat) (h : Hv) (w : World) (hb : w.heap[b]? = some (.cells #[.slice h.RA h.r.seats.length h.rc, .int .i64 h.r.tiers, .int .i64 h.r.room, .int .i64 h.r.size, .int .i64 h.r.period, .int .i64 h.r.window, .int .i64 h.r.rest, .int .i64 h.r.tries, .int .i64 h.r.crew, .int .i64 h.now, .int .i64 h.turn, .slice h.PA h.pl.length h.pc, .slice h.CA h.vs.length h.cc, .slice h.TA h.tl.length h.tc, .slice h.JA h.jl.length h.jc] 45)) (ho : o.op = .load 45 x := by rfl) (hx : ρ x = .pointer (some ⟨b, 0, none⟩) := by rfl) :
    (execOp ρ o).run Try.prog w = .ok (.value (hvA h)) w := by
  have a0 := cell_of_row _ _ 0 _ _ _ hb
  have a1 := cell_of_row _ _ 1 _ _ _ hb
  have a2 := cell_of_row _ _ 2 _ _ _ hb
  have a3 := cell_of_row _ _ 3 _ _ _ hb
  have a4 := cell_of_row _ _ 4 _ _ _ hb
  have a5 := cell_of_row _ _ 5 _ _ _ hb
  have a6 := cell_of_row _ _ 6 _ _ _ hb
  have a7 := cell_of_row _ _ 7 _ _ _ hb
  have a8 := cell_of_row _ _ 8 _ _ _ hb
  have a9 := cell_of_row _ _ 9 _ _ _ hb
  have a10 := cell_of_row _ _ 10 _ _ _ hb
  have a11 := cell_of_row _ _ 11 _ _ _ hb
  have a12 := cell_of_row _ _ 12 _ _ _ hb
  have a13 := cell_of_row _ _ 13 _ _ _ hb
  have a14 := cell_of_row _ _ 14 _ _ _ hb
  simp at a0 a1 a2 a3 a4 a5 a6 a7 a8 a9 a10 a11 a12 a13 a14
  unfold execOp
  rw [ho]
  simp [go_sem, hx, a0, a1, a2, a3, a4, a5, a6, a7, a8, a9, a10, a11, a12, a13, a14, hvA]
set_option maxRecDepth 100000 in
set_option maxHeartbeats 6400000 in
theorem FnExactPartyAt_walk (h : Hv) (id : Int) (w : World) (hv : h.came) (hr : h.reads w) :
    Calls Try.prog 4 #[hvA h, .int .i64 id] w fun e w' => e = .returned (.bool true) ∧ Below w.heap.size w w' := by
  obtain ⟨W, hW⟩ : ∃ W, w.alloc (.cells #[.slice h.RA h.r.seats.length h.rc, .int .i64 h.r.tiers, .int .i64 h.r.room, .int .i64 h.r.size, .int .i64 h.r.period, .int .i64 h.r.window, .int .i64 h.r.rest, .int .i64 h.r.tries, .int .i64 h.r.crew, .int .i64 h.now, .int .i64 h.turn, .slice h.PA h.pl.length h.pc, .slice h.CA h.vs.length h.cc, .slice h.TA h.tl.length h.tc, .slice h.JA h.jl.length h.jc] 38) = W := ⟨_, rfl⟩
  have b0 : Below w.heap.size w W := by rw [← hW]; exact (Below.refl _ _).alloc (Nat.le_refl _) _
  have g0 : W.heap[w.heap.size]? = some (.cells #[.slice h.RA h.r.seats.length h.rc, .int .i64 h.r.tiers, .int .i64 h.r.room, .int .i64 h.r.size, .int .i64 h.r.period, .int .i64 h.r.window, .int .i64 h.r.rest, .int .i64 h.r.tries, .int .i64 h.r.crew, .int .i64 h.now, .int .i64 h.turn, .slice h.PA h.pl.length h.pc, .slice h.CA h.vs.length h.cc, .slice h.TA h.tl.length h.tc, .slice h.JA h.jl.length h.jc] 38) := by rw [← hW]; exact heap_new _ _
  have CS := Lib.hid (szHouse_any h W hv (hr.below b0))
  have HR := Lib.hid (fun w' (k : Below W.heap.size W w') => (hr.below b0).below k)
  have HB := Lib.hid b0
  have HG := Lib.hid (fun w' (k : Below W.heap.size W w') => blk_call g0 k)
  have HW := Lib.hid hW
  clear b0 hW g0 hr hv
  unfold hvA
  go_enter Try.func4, Try.ntmps4
  go_wp2_with fail
  rw [HW.out]
  have eH : hvA h = .agg #[.slice h.RA h.r.seats.length h.rc, .int .i64 h.r.tiers, .int .i64 h.r.room, .int .i64 h.r.size, .int .i64 h.r.period, .int .i64 h.r.window, .int .i64 h.r.rest, .int .i64 h.r.tries, .int .i64 h.r.crew, .int .i64 h.now, .int .i64 h.turn, .slice h.PA h.pl.length h.pc, .slice h.CA h.vs.length h.cc, .slice h.TA h.tl.length h.tc, .slice h.JA h.jl.length h.jc] := rfl
  refine CS.out.mono ?_
  rintro e w1 ⟨⟨z, rfl, hz⟩, b1⟩
  have B1 := Lib.hid b1
  clear CS b1 HW
  by_cases hz0 : z < 0
  · clear hz
    go_wp2
    go_ret
    exact ⟨rfl, HB.out.trans (B1.out.mono HB.out.size)⟩
  have hs := hz (by omega)
  have hl : h.pl.length ≤ 2097152 := by have := hs.p; omega
  have CT := Lib.hid (fun w' (k : Below W.heap.size W w') => toHouse_any h w' hs (HR.out w' k))
  obtain ⟨R, hR⟩ : ∃ R, ptAt h.pl id = R := ⟨_, rfl⟩
  have C1 : Hid (∀ (y : Hv) w', y.like h → y.reads w' → Calls Try.prog 15 #[hvA y, .int .i64 id] w' fun e u => e = .returned (.int .i64 R) ∧ Below w'.heap.size w' u) := fun y w' hy ry => by
    have := partyAt_spec y id w' (by rw [hy.p]; exact hl) ry.p
    rw [hy.p, hR] at this; exact this
  have C2 : Hid (∀ (y : Hv) w', y.like h → y.reads w' → Calls Try.prog 17 #[hvA y, .int .i64 id] w' fun e u => e = .returned (.int .i64 R) ∧ Below w'.heap.size w' u) := fun y w' hy ry => by
    have := partyAt_impl y id w' (by rw [hy.p]; exact hl) ry.p
    rw [hy.p, hR] at this; exact this
  have HS := Lib.hid hs
  have nB : (R != R) = false := by simp
  rw [eH] at CT
  clear hz hs hR eH
  have a0 := cell_of_row _ _ 0 _ _ _ (HG.out w1 B1.out)
  have a1 := cell_of_row _ _ 1 _ _ _ (HG.out w1 B1.out)
  have a2 := cell_of_row _ _ 2 _ _ _ (HG.out w1 B1.out)
  have a3 := cell_of_row _ _ 3 _ _ _ (HG.out w1 B1.out)
  have a4 := cell_of_row _ _ 4 _ _ _ (HG.out w1 B1.out)
  have a5 := cell_of_row _ _ 5 _ _ _ (HG.out w1 B1.out)
  have a6 := cell_of_row _ _ 6 _ _ _ (HG.out w1 B1.out)
  have a7 := cell_of_row _ _ 7 _ _ _ (HG.out w1 B1.out)
  have a8 := cell_of_row _ _ 8 _ _ _ (HG.out w1 B1.out)
  have a9 := cell_of_row _ _ 9 _ _ _ (HG.out w1 B1.out)
  have a10 := cell_of_row _ _ 10 _ _ _ (HG.out w1 B1.out)
  have a11 := cell_of_row _ _ 11 _ _ _ (HG.out w1 B1.out)
  have a12 := cell_of_row _ _ 12 _ _ _ (HG.out w1 B1.out)
  have a13 := cell_of_row _ _ 13 _ _ _ (HG.out w1 B1.out)
  have a14 := cell_of_row _ _ 14 _ _ _ (HG.out w1 B1.out)
  simp at a0 a1 a2 a3 a4 a5 a6 a7 a8 a9 a10 a11 a12 a13 a14
  have CT1 := Lib.hid (CT.out w1 B1.out)
  go_wp2_with fail
  refine CT1.out.mono ?_
  rintro e w2 ⟨y, rfl, hy, ry, b2⟩
  have B2 := Lib.hid (B1.out.trans (b2.mono B1.out.size))
  have CA := Lib.hid (C1.out y w2 hy ry)
  clear CT1 b2 a0 a1 a2 a3 a4 a5 a6 a7 a8 a9 a10 a11 a12 a13 a14 hy ry C1
  go_wp2_with fail
  refine CA.out.mono ?_
  rintro e w3 ⟨rfl, b3⟩
  have B3 := Lib.hid (B2.out.trans (b3.mono B2.out.size))
  clear CA b3
  have a0 := cell_of_row _ _ 0 _ _ _ (HG.out w3 B3.out)
  have a1 := cell_of_row _ _ 1 _ _ _ (HG.out w3 B3.out)
  have a2 := cell_of_row _ _ 2 _ _ _ (HG.out w3 B3.out)
  have a3 := cell_of_row _ _ 3 _ _ _ (HG.out w3 B3.out)
  have a4 := cell_of_row _ _ 4 _ _ _ (HG.out w3 B3.out)
  have a5 := cell_of_row _ _ 5 _ _ _ (HG.out w3 B3.out)
  have a6 := cell_of_row _ _ 6 _ _ _ (HG.out w3 B3.out)
  have a7 := cell_of_row _ _ 7 _ _ _ (HG.out w3 B3.out)
  have a8 := cell_of_row _ _ 8 _ _ _ (HG.out w3 B3.out)
  have a9 := cell_of_row _ _ 9 _ _ _ (HG.out w3 B3.out)
  have a10 := cell_of_row _ _ 10 _ _ _ (HG.out w3 B3.out)
  have a11 := cell_of_row _ _ 11 _ _ _ (HG.out w3 B3.out)
  have a12 := cell_of_row _ _ 12 _ _ _ (HG.out w3 B3.out)
  have a13 := cell_of_row _ _ 13 _ _ _ (HG.out w3 B3.out)
  have a14 := cell_of_row _ _ 14 _ _ _ (HG.out w3 B3.out)
  simp at a0 a1 a2 a3 a4 a5 a6 a7 a8 a9 a10 a11 a12 a13 a14
  have CT1 := Lib.hid (CT.out w3 B3.out)
  go_wp2_with fail
  refine CT1.out.mono ?_
  rintro e w4 ⟨x, rfl, hx, rx, b4⟩
  have B4 := Lib.hid (B3.out.trans (b4.mono B3.out.size))
  obtain ⟨U, hU⟩ : ∃ U, w4.alloc (.cells #[.slice x.RA x.r.seats.length x.rc, .int .i64 x.r.tiers, .int .i64 x.r.room, .int .i64 x.r.size, .int .i64 x.r.period, .int .i64 x.r.window, .int .i64 x.r.rest, .int .i64 x.r.tries, .int .i64 x.r.crew, .int .i64 x.now, .int .i64 x.turn, .slice x.PA x.pl.length x.pc, .slice x.CA x.vs.length x.cc, .slice x.TA x.tl.length x.tc, .slice x.JA x.jl.length x.jc] 45) = U := ⟨_, rfl⟩
  have bU : Below w4.heap.size w4 U := by rw [← hU]; exact (Below.refl _ _).alloc (Nat.le_refl _) _
  have gU : U.heap[w4.heap.size]? = some (.cells #[.slice x.RA x.r.seats.length x.rc, .int .i64 x.r.tiers, .int .i64 x.r.room, .int .i64 x.r.size, .int .i64 x.r.period, .int .i64 x.r.window, .int .i64 x.r.rest, .int .i64 x.r.tries, .int .i64 x.r.crew, .int .i64 x.now, .int .i64 x.turn, .slice x.PA x.pl.length x.pc, .slice x.CA x.vs.length x.cc, .slice x.TA x.tl.length x.tc, .slice x.JA x.jl.length x.jc] 45) := by rw [← hU]; exact heap_new _ _
  have BU := Lib.hid (B4.out.trans (bU.mono B4.out.size))
  have CA := Lib.hid (C2.out x U hx (rx.below bU))
  have RX := Lib.hid (rx.below bU)
  have GU := Lib.hid gU
  have HX := Lib.hid hx
  have HU := Lib.hid hU
  clear CT1 b4 a0 a1 a2 a3 a4 a5 a6 a7 a8 a9 a10 a11 a12 a13 a14 hx rx C2 bU gU hU
  have eX : hvA x = .agg #[.slice x.RA x.r.seats.length x.rc, .int .i64 x.r.tiers, .int .i64 x.r.room, .int .i64 x.r.size, .int .i64 x.r.period, .int .i64 x.r.window, .int .i64 x.r.rest, .int .i64 x.r.tries, .int .i64 x.r.crew, .int .i64 x.now, .int .i64 x.turn, .slice x.PA x.pl.length x.pc, .slice x.CA x.vs.length x.cc, .slice x.TA x.tl.length x.tc, .slice x.JA x.jl.length x.jc] := rfl
  rw [eX] at CA ⊢
  go_wp2_with fail
  rw [HU.out]
  refine CA.out.mono ?_
  rintro e w5 ⟨rfl, b5⟩
  have B5 := Lib.hid (BU.out.trans (b5.mono BU.out.size))
  have G5 := Lib.hid (fun w' (k : Below w5.heap.size w5 w') => blk_call (blk_call GU.out b5) k)
  have R5 := Lib.hid (fun w' (k : Below w5.heap.size w5 w') => (RX.out.below b5).below k)
  clear CA b5 HU GU RX
  go_wp2_with fail
  refine wp_region_held_drew (S := fun w' => Hid (Below w5.heap.size w5 w')) (by kernel_rfl) (below_drawn (Below.refl _ _) 1) (fun hHeld => ?_)
  refine held_take 0 26 (hvA x) rfl rfl (by kernel_rfl) (by kernel_rfl) (by kernel_rfl) (fun _ _ _ h => h) rfl hHeld (fun w' k => exec_load_iho _ x w' (G5.out w' k.out)) ?_
  refine held_take 1 27 (hvA h) rfl rfl (by kernel_rfl) (by kernel_rfl) (by kernel_rfl) (fun _ _ _ h => h) rfl hHeld (fun w' k => exec_load_lho _ h w' (HG.out w' (B5.out.trans (k.out.mono B5.out.size)))) ?_
  simp only [Act.put, List.setIfInBounds_toArray, List.set_cons_zero, List.set_cons_succ]
  refine held_call 2 28 16 #[hvA h] rfl rfl (by kernel_rfl) rfl (exec_call Try.func16 (by kernel_rfl) (by kernel_rfl) _) ?_
  refine (CT.out _ (B5.out.trans (hHeld.out.mono B5.out.size))).mono ?_
  rintro e w6 ⟨u, rfl, hu, ru, b6⟩
  have k1 : Hid (Below w5.heap.size w5 w6) := hHeld.out.trans (b6.mono hHeld.out.size)
  refine ⟨_, rfl, k1, ?_⟩
  simp only [Act.put, List.setIfInBounds_toArray, List.set_cons_zero, List.set_cons_succ]
  refine held_call 3 29 18 #[hvA x, hvA u] rfl rfl (by kernel_rfl) rfl (exec_call Try.func18 (by kernel_rfl) (by kernel_rfl) _) ?_
  refine (eqHouse_same x u _ (HS.out.of HX.out) (HX.out.trans hu.symm) (R5.out _ k1.out) ru).mono ?_
  rintro e w7 ⟨rfl, b7⟩
  have k2 : Hid (Below w5.heap.size w5 w7) := k1.out.trans (b7.mono k1.out.size)
  refine ⟨_, rfl, k2, ?_⟩
  simp only [Act.put, List.setIfInBounds_toArray, List.set_cons_zero, List.set_cons_succ]
  refine held_op 4 30 (.bool false) rfl rfl (by kernel_rfl) rfl rfl k2 ?_
  simp only [Act.put, List.setIfInBounds_toArray, List.set_cons_zero, List.set_cons_succ]
  refine wpAnyH_done (by kernel_rfl) ?_ _
  have BB : Hid (Below w.heap.size w w7) := HB.out.trans ((B5.out.trans (k2.out.mono B5.out.size)).mono HB.out.size)
  clear k1 k2 b6 b7 hu ru hHeld G5 R5 HG HR CT HS HX
  go_wp2
  go_ret
  exact ⟨rfl, BB.out⟩
end Go.Proofs.Ytlflgflmlfileaa
