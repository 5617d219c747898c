/- HouseNew of the model. -/
import Derived.Test.YtohpegblbikbdaaRows
import Derived.Test.YtohpegblbikbdaaHs20
namespace Go.Proofs.Ytohpegblbikbdaa
open Go.RowKit
set_option linter.unusedSimpArgs false
set_option linter.unusedVariables false
/-- A house's cells. -/
structure Ho where
  ra : Option Addr
  rc : Nat
  r : Ru
  now : Int
  turn : Int
  p : Option Addr
  pn : Nat
  pc : Nat
  c : Option Addr
  cn : Nat
  cc : Nat
  t : Option Addr
  tn : Nat
  tc : Nat
  j : Option Addr
  jn : Nat
  jc : Nat
def hoA (x : Ho) : Value := .agg #[.slice x.ra x.r.seats.length x.rc, .int .i64 x.r.tiers, .int .i64 x.r.room, .int .i64 x.r.size, .int .i64 x.r.period, .int .i64 x.r.window, .int .i64 x.r.rest, .int .i64 x.r.tries, .int .i64 x.r.crew, .int .i64 x.now, .int .i64 x.turn, .slice x.p x.pn x.pc, .slice x.c x.cn x.cc, .slice x.t x.tn x.tc, .slice x.j x.jn x.jc]
def putHo (w : World) (g : Nat) (x : Ho) : World := (((((((((((((((w.setCell ⟨g, 0, none⟩ (.slice x.ra x.r.seats.length x.rc)).setCell ⟨g, 1, none⟩ (.int .i64 x.r.tiers)).setCell ⟨g, 2, none⟩ (.int .i64 x.r.room)).setCell ⟨g, 3, none⟩ (.int .i64 x.r.size)).setCell ⟨g, 4, none⟩ (.int .i64 x.r.period)).setCell ⟨g, 5, none⟩ (.int .i64 x.r.window)).setCell ⟨g, 6, none⟩ (.int .i64 x.r.rest)).setCell ⟨g, 7, none⟩ (.int .i64 x.r.tries)).setCell ⟨g, 8, none⟩ (.int .i64 x.r.crew)).setCell ⟨g, 9, none⟩ (.int .i64 x.now)).setCell ⟨g, 10, none⟩ (.int .i64 x.turn)).setCell ⟨g, 11, none⟩ (.slice x.p x.pn x.pc)).setCell ⟨g, 12, none⟩ (.slice x.c x.cn x.cc)).setCell ⟨g, 13, none⟩ (.slice x.t x.tn x.tc)).setCell ⟨g, 14, none⟩ (.slice x.j x.jn x.jc))
theorem putHo_below {B : Nat} {w0 w : World} {g : Nat} {x : Ho} (h : Below B w0 w) (hg : B ≤ g) : Below B w0 (putHo w g x) := by
  unfold putHo
  exact (((((((((((((((h.setCell hg _).setCell hg _).setCell hg _).setCell hg _).setCell hg _).setCell hg _).setCell hg _).setCell hg _).setCell hg _).setCell hg _).setCell hg _).setCell hg _).setCell hg _).setCell hg _).setCell hg _)
theorem putHo_own {w : World} {B e sz n g : Nat} {v : Value} {cs : List Value} {x : Ho} (h : w.ownsRow B e sz v n cs) (hg : v.ownBlock ≠ some g) : (putHo w g x).ownsRow B e sz v n cs := by
  have k : ∀ (w : World) i u, w.ownsRow B e sz v n cs → (w.setCell ⟨g, i, none⟩ u).ownsRow B e sz v n cs := fun w i u h => h.kept (Go.Lib.grownBy_setCell w g i u) (.inr hg)
  unfold putHo
  exact k _ _ _ (k _ _ _ (k _ _ _ (k _ _ _ (k _ _ _ (k _ _ _ (k _ _ _ (k _ _ _ (k _ _ _ (k _ _ _ (k _ _ _ (k _ _ _ (k _ _ _ (k _ _ _ (k _ _ _ (h)))))))))))))))
def cbL (x : Cb) : List Value := [.int .i64 x.le.total, .int .i64 x.le.free, .int .i64 x.le.held, .int .i64 x.le.sold, .int .i64 x.le.tied, .slice x.q x.qn x.qc, .slice x.p x.pn x.pc]
theorem cbL_one (x : Cb) : ∀ u ∈ cbL x, u.oneCell' = true := by
  intro u hu
  simp [cbL] at hu
  rcases hu with rfl | rfl | rfl | rfl | rfl | rfl | rfl <;> rfl
/-- What HouseNew hands out. -/
def NewHo (w : World) (r : Ru) (e : Ending) (w' : World) : Prop :=
  ∃ (x : Ho) (cs : List Value) (js : List Value), e = .returned (.tuple #[hoA x, .bool true]) ∧ x.r = r ∧ x.now = 0 ∧ x.turn = 1 ∧ x.p = none ∧ x.pn = 0 ∧ x.pc = 0 ∧ x.t = none ∧ x.tn = 0 ∧ x.tc = 0 ∧
    w'.ownsRow w.heap.size 3 1 (.slice x.ra r.seats.length x.rc) r.seats.length (ints r.seats) ∧ x.cn = r.seats.length ∧ w'.ownsRow w.heap.size 89 7 (.slice x.c x.cn x.cc) x.cn cs ∧ (x.jn : Int) = r.crew ∧ w'.ownsRow w.heap.size 3 1 (.slice x.j x.jn x.jc) x.jn js ∧ Below w.heap.size w w'
/-- What is kept of the blocks of HouseNew. -/
structure Hk (w u : World) (A : Option Addr) (c : Nat) (r : Ru) (g : Nat) (A2 : Option Addr) (c2 : Nat) (H : Array Value) : Prop where
  R : u.heap[w.heap.size]? = some (.cells #[.slice A r.seats.length c, .int .i64 r.tiers, .int .i64 r.room, .int .i64 r.size, .int .i64 r.period, .int .i64 r.window, .int .i64 r.rest, .int .i64 r.tries, .int .i64 r.crew] 48)
  Z : u.heap[w.heap.size + 1]? = some (.cells #[.slice none 0 0, .int .i64 0, .int .i64 0, .int .i64 0, .int .i64 0, .int .i64 0, .int .i64 0, .int .i64 0, .int .i64 0, .int .i64 0, .int .i64 0, .slice none 0 0, .slice none 0 0, .slice none 0 0, .slice none 0 0] 52)
  G : u.heap[g]? = some (.cells H 52)
  O : u.ownsRow w.heap.size 3 1 (.slice A2 r.seats.length c2) r.seats.length (ints r.seats)
  B : Below w.heap.size w u
  lt : w.heap.size + 1 < g
  lo : ∀ j, (Value.slice A2 r.seats.length c2).ownBlock = some j → j ≤ g
  gt : g < u.heap.size
theorem Hk.call {w u u' : World} {A : Option Addr} {c : Nat} {r : Ru} {g : Nat} {A2 : Option Addr} {c2 : Nat} {H : Array Value} (h : Hk w u A c r g A2 c2 H) (b : Below u.heap.size u u') : Hk w u' A c r g A2 c2 H :=
  ⟨blk_call h.R b, blk_call h.Z b, blk_call h.G b, own_below h.O b, h.B.trans (b.mono h.B.size), h.lt, h.lo, Nat.lt_of_lt_of_le h.gt b.size⟩
/-- A row beyond g grows. -/
theorem Hk.grow {w u u' : World} {A : Option Addr} {c : Nat} {r : Ru} {g : Nat} {A2 : Option Addr} {c2 : Nat} {H : Array Value} {row : Option Nat} (h : Hk w u A c r g A2 c2 H) (gr : u.grownBy u' row) (hr : ∀ j, row = some j → g < j) : Hk w u' A c r g A2 c2 H := by
  have lt := h.lt
  exact ⟨(gr.block _ (blk_lt h.R) (fun e => by have := hr _ e.symm; omega)).trans h.R, (gr.block _ (blk_lt h.Z) (fun e => by have := hr _ e.symm; omega)).trans h.Z, (gr.block _ (blk_lt h.G) (fun e => by have := hr _ e.symm; omega)).trans h.G,
    own_kept2 h.O gr (fun k h1 h2 => by have := hr _ h2; have := h.lo k h1; omega), h.B.grown gr h.B.size (fun j hj => by have := hr j hj; omega), h.lt, h.lo, Nat.lt_of_lt_of_le h.gt gr.size⟩
/-- A cell of g is stored. -/
theorem Hk.put {w u : World} {A : Option Addr} {c : Nat} {r : Ru} {g : Nat} {A2 : Option Addr} {c2 : Nat} {H : Array Value} (h : Hk w u A c r g A2 c2 H) (i : Nat) (v : Value) : Hk w (u.setCell ⟨g, i, none⟩ v) A c r g A2 c2 (H.setIfInBounds i v) := by
  have lt := h.lt
  exact ⟨(heap_set_ne u _ i _ (by omega)).trans h.R, (heap_set_ne u _ i _ (by omega)).trans h.Z, Go.heap_setCell_same _ _ i _ _ v h.G, h.O.kept (Go.Lib.grownBy_setCell u g i v) (.inr (own_ne_type h.O h.G (by decide))), h.B.setCell (p := ⟨g, i, none⟩) (by show _ ≤ g; omega) _, h.lt, h.lo, by rw [World.size_setCell]; exact h.gt⟩
set_option maxRecDepth 100000 in
set_option maxHeartbeats 6400000 in
theorem houseNew_any (A : Option Addr) (c : Nat) (r : Ru) (w : World) (hr : RuOk r) (hn : A = none → c = 0) (hA : Rws w w.heap.size A (ints r.seats)) :
    Calls Try.prog 37 #[ruV A c r] w (NewHo w r) := by
  have T0 := two_at w ((w.alloc (.cells #[.slice A r.seats.length c, .int .i64 r.tiers, .int .i64 r.room, .int .i64 r.size, .int .i64 r.period, .int .i64 r.window, .int .i64 r.rest, .int .i64 r.tries, .int .i64 r.crew] 48)).alloc (.cells #[.slice none 0 0, .int .i64 0, .int .i64 0, .int .i64 0, .int .i64 0, .int .i64 0, .int .i64 0, .int .i64 0, .int .i64 0, .int .i64 0, .int .i64 0, .slice none 0 0, .slice none 0 0, .slice none 0 0, .slice none 0 0] 52)) _ _ (Below.refl _ _)
  have CR := Lib.hid (rulesOk_yes A c r ((w.alloc (.cells #[.slice A r.seats.length c, .int .i64 r.tiers, .int .i64 r.room, .int .i64 r.size, .int .i64 r.period, .int .i64 r.window, .int .i64 r.rest, .int .i64 r.tries, .int .i64 r.crew] 48)).alloc (.cells #[.slice none 0 0, .int .i64 0, .int .i64 0, .int .i64 0, .int .i64 0, .int .i64 0, .int .i64 0, .int .i64 0, .int .i64 0, .int .i64 0, .int .i64 0, .slice none 0 0, .slice none 0 0, .slice none 0 0, .slice none 0 0] 52)) hr (rws_below hA T0.2.2))
  have HT := Lib.hid T0
  clear T0
  unfold ruV at CR
  unfold ruV
  go_enter Try.func37, Try.ntmps37
  go_wp2_with fail
  refine CR.out.mono ?_
  rintro e w1 ⟨rfl, b1⟩
  have T1 := two_at w w1 _ _ b1
  have p0 := cell_of_row _ _ 0 _ _ _ T1.1
  have p1 := cell_of_row _ _ 1 _ _ _ T1.1
  have p2 := cell_of_row _ _ 2 _ _ _ T1.1
  have p3 := cell_of_row _ _ 3 _ _ _ T1.1
  have p4 := cell_of_row _ _ 4 _ _ _ T1.1
  have p5 := cell_of_row _ _ 5 _ _ _ T1.1
  have p6 := cell_of_row _ _ 6 _ _ _ T1.1
  have p7 := cell_of_row _ _ 7 _ _ _ T1.1
  have p8 := cell_of_row _ _ 8 _ _ _ T1.1
  simp at p0 p1 p2 p3 p4 p5 p6 p7 p8
  have CC := Lib.hid (l5Copy_spec A c r w1 (by have := hr.n2; omega) hn (rws_below hA T1.2.2))
  unfold ruV at CC
  have TT := Lib.hid T1
  clear T1 b1 CR HT
  go_wp2_with fail
  refine CC.out.mono ?_
  rintro e w2 ⟨A2, c2, rfl, o2, b2⟩
  have K : Hk w (w2.alloc (.cells #[.slice A2 r.seats.length c2, .int .i64 r.tiers, .int .i64 r.room, .int .i64 r.size, .int .i64 r.period, .int .i64 r.window, .int .i64 r.rest, .int .i64 r.tries, .int .i64 r.crew, .int .i64 0, .int .i64 1, .slice none 0 0, .slice none 0 0, .slice none 0 0, .slice none 0 0] 52)) A c r w2.heap.size A2 c2 #[.slice A2 r.seats.length c2, .int .i64 r.tiers, .int .i64 r.room, .int .i64 r.size, .int .i64 r.period, .int .i64 r.window, .int .i64 r.rest, .int .i64 r.tries, .int .i64 r.crew, .int .i64 0, .int .i64 1, .slice none 0 0, .slice none 0 0, .slice none 0 0, .slice none 0 0] := by
    have T := TT.out
    have bw := T.2.2.trans (b2.mono T.2.2.size)
    refine ⟨blk_alloc (blk_call T.1 b2) _, blk_alloc (blk_call T.2.1 b2) _, heap_new _ _, (own_weak o2 T.2.2.size).alloc _, bw.alloc bw.size _, blk_lt (blk_call T.2.1 b2), fun j hj => ?_, by simp⟩
    exact Nat.le_of_lt (World.ownsRow.lt o2 j hj).2
  have KK := Lib.hid K
  clear K o2 b2 TT CC p0 p1 p2 p3 p4 p5 p6 p7 p8
  unfold ruV
  go_wp2_with fail
  have n2 := hr.n2
  have O0 : Hid ((w2.alloc (.cells #[.slice A2 r.seats.length c2, .int .i64 r.tiers, .int .i64 r.room, .int .i64 r.size, .int .i64 r.period, .int .i64 r.window, .int .i64 r.rest, .int .i64 r.tries, .int .i64 r.crew, .int .i64 0, .int .i64 1, .slice none 0 0, .slice none 0 0, .slice none 0 0, .slice none 0 0] 52)).ownsRow (w2.heap.size + 1) 89 7 (.slice none 0 0) 0 []) := World.ownsRow_nil _ _ _ _
  generalize w2.alloc (.cells #[.slice A2 r.seats.length c2, .int .i64 r.tiers, .int .i64 r.room, .int .i64 r.size, .int .i64 r.period, .int .i64 r.window, .int .i64 r.rest, .int .i64 r.tries, .int .i64 r.crew, .int .i64 0, .int .i64 1, .slice none 0 0, .slice none 0 0, .slice none 0 0, .slice none 0 0] 52) = W3 at *
  generalize w2.heap.size = g at *
  clear w2
  go_loopw [5] (fun vi wr => ∃ (k : Nat) (C : Option Addr) (cc : Nat) (cs : List Value), k ≤ r.seats.length ∧ vi = .int .i64 k ∧ Hk w wr A c r g A2 c2 #[.slice A2 r.seats.length c2, .int .i64 r.tiers, .int .i64 r.room, .int .i64 r.size, .int .i64 r.period, .int .i64 r.window, .int .i64 r.rest, .int .i64 r.tries, .int .i64 r.crew, .int .i64 0, .int .i64 1, .slice none 0 0, .slice C k cc, .slice none 0 0, .slice none 0 0] ∧ wr.ownsRow (g + 1) 89 7 (.slice C k cc) k cs) (fun vi _ => r.seats.length - (intOf vi).toNat)
  case atStart => exact ⟨0, none, 0, [], by omega, rfl, KK.out, O0.out⟩
  case round =>
    clear KK O0
    obtain ⟨k, C, cc, cs, hk, rfl, K, oC⟩ := hrel
    have q0 := cell_of_row _ _ 0 _ _ _ K.R
    simp at q0
    by_cases hlt : k < r.seats.length
    · have hsk := hr.seat k hlt
      obtain ⟨sb, so, rfl, hsB, hsc⟩ := hA.int hlt
      have s0 := (K.B.cell (by exact hsB)).trans hsc
      generalize r.seats.getD k 0 = S0 at *
      have KK := Lib.hid K
      have OC := Lib.hid oC
      clear K oC hsc
      go_wp2_with fail
      refine (cabinNew_any S0 wr hsk).mono ?_
      rintro e u1 ⟨⟨x, bb, rfl⟩, b1⟩
      have K1 := KK.out.call b1
      have oC1 := own_below OC.out b1
      obtain ⟨U, hU⟩ : ∃ U, u1.alloc (.cells #[.int .i64 x.le.total, .int .i64 x.le.free, .int .i64 x.le.held, .int .i64 x.le.sold, .int .i64 x.le.tied, .slice x.q x.qn x.qc, .slice x.p x.pn x.pc] 89) = U := ⟨_, rfl⟩
      have bU : Below u1.heap.size u1 U := by rw [← hU]; exact (Below.refl _ _).alloc (Nat.le_refl _) _
      have hx : U.heap[u1.heap.size]? = some (.cells #[.int .i64 x.le.total, .int .i64 x.le.free, .int .i64 x.le.held, .int .i64 x.le.sold, .int .i64 x.le.tied, .slice x.q x.qn x.qc, .slice x.p x.pn x.pc] 89) := by rw [← hU]; exact heap_new _ _
      have K2 := K1.call bU
      have oC2 := own_below oC1 bU
      have e0 := cell_of_row _ _ 0 _ _ _ hx
      have e1 := cell_of_row _ _ 1 _ _ _ hx
      have e2 := cell_of_row _ _ 2 _ _ _ hx
      have e3 := cell_of_row _ _ 3 _ _ _ hx
      have e4 := cell_of_row _ _ 4 _ _ _ hx
      have e5 := cell_of_row _ _ 5 _ _ _ hx
      have e6 := cell_of_row _ _ 6 _ _ _ hx
      have d12 := cell_of_row _ _ 12 _ _ _ K2.G
      simp at d12 e0 e1 e2 e3 e4 e5 e6
      have O3 := oC2.alloc (.cells (cbL x).toArray 89)
      have RN := Rws.new U (cbL x) 89
      have bV : Below U.heap.size U (U.alloc (.cells (cbL x).toArray 89)) := (Below.refl _ _).alloc (Nat.le_refl _) _
      have K3 := Lib.hid (K2.call bV)
      have gt3 := K2.gt
      clear KK OC K1 oC1 b1 bU hx K2 oC2 bV q0 s0
      unfold cbA
      go_wp2_with (at_builtin; refine wpList_appR rowCab _ rfl (.tmp 33) (.tmp 35) rfl (g + 1) _ k cs rfl O3 _ _ 1 1 (cbL x) rfl rfl RN (fun h => by cases h) (cbL_one x) (by omega) (by simp; omega) ?_)
      intro v3 w3 o3 g3
      obtain ⟨C3, cc3, rfl, _⟩ := own_form o3
      have K4 := K3.out.grow g3 (fun j hj => by have := own_low O3 j hj; omega)
      have c12 := cell_of_row _ _ 12 _ _ _ K4.G
      have z12 := frozen_of_row _ _ 12 _ _ K4.G
      simp at c12
      have K5 : Hk w (w3.setCell ⟨g, 12, none⟩ (.slice C3 (k + 1) cc3)) (some ⟨sb, so, none⟩) c r g A2 c2 #[.slice A2 r.seats.length c2, .int .i64 r.tiers, .int .i64 r.room, .int .i64 r.size, .int .i64 r.period, .int .i64 r.window, .int .i64 r.rest, .int .i64 r.tries, .int .i64 r.crew, .int .i64 0, .int .i64 1, .slice none 0 0, .slice C3 (k + 1) cc3, .slice none 0 0, .slice none 0 0] := by
        have := K4.put 12 (.slice C3 (k + 1) cc3)
        simpa using this
      have K5 := Lib.hid K5
      have o5 : Hid ((w3.setCell ⟨g, 12, none⟩ (.slice C3 (k + 1) cc3)).ownsRow (g + 1) 89 7 (.slice C3 (k + 1) cc3) (k + 1) (cs ++ cbL x)) := o3.kept (Go.Lib.grownBy_setCell w3 g 12 _) (.inr (own_ne_type o3 K4.G (by decide)))
      clear K3 K4 o3 g3 O3 RN d12 e0 e1 e2 e3 e4 e5 e6 hU
      go_wp2
      go_roundw
      case rel => exact ⟨k + 1, C3, cc3, _, by omega, by go_num, K5.out, o5.out⟩
      case measure => simp [intOf] <;> omega
    · obtain rfl : k = r.seats.length := by omega
      have KK := Lib.hid K
      have OC := Lib.hid oC
      clear K oC
      have cr := hr.crew
      go_wp2_with fail
      go_loopw [8] (fun vi wr => ∃ (k : Nat) (J : Option Addr) (jc : Nat) (js : List Value), (k : Int) ≤ r.crew ∧ vi = .int .i64 k ∧ Hk w wr A c r g A2 c2 #[.slice A2 r.seats.length c2, .int .i64 r.tiers, .int .i64 r.room, .int .i64 r.size, .int .i64 r.period, .int .i64 r.window, .int .i64 r.rest, .int .i64 r.tries, .int .i64 r.crew, .int .i64 0, .int .i64 1, .slice none 0 0, .slice C r.seats.length cc, .slice none 0 0, .slice J k jc] ∧ wr.ownsRow (g + 1) 89 7 (.slice C r.seats.length cc) r.seats.length cs ∧ wr.ownsRow (g + 1) 3 1 (.slice J k jc) k js) (fun vi _ => (r.crew - intOf vi).toNat)
      case atStart => exact ⟨0, none, 0, [], by omega, rfl, KK.out, OC.out, World.ownsRow_nil _ _ _ _⟩
      case round =>
        clear KK OC q0
        obtain ⟨k, J, jc, js, hk, rfl, K, oC, oJ⟩ := hrel
        have q8 := cell_of_row _ _ 8 _ _ _ K.R
        have d14 := cell_of_row _ _ 14 _ _ _ K.G
        simp at q8 d14
        by_cases hlt : (k : Int) < r.crew
        · have O3 := oJ.alloc (.cells #[.int .i64 (-1)] 3)
          have RN : Rws (wr.alloc (.cells #[.int .i64 (-1)] 3)) (wr.heap.size + 1) (some ⟨wr.heap.size, 0, none⟩) [.int .i64 (-1)] := Rws.new wr [.int .i64 (-1)] 3
          have bV : Below wr.heap.size wr (wr.alloc (.cells #[.int .i64 (-1)] 3)) := (Below.refl _ _).alloc (Nat.le_refl _) _
          have K3 := Lib.hid (K.call bV)
          have oC3 := Lib.hid (oC.alloc (.cells #[.int .i64 (-1)] 3))
          have gt3 := K.gt
          clear K oC oJ bV
          go_wp2_with (at_builtin; refine wpList_appR rowInt _ rfl (.tmp 45) (.tmp 46) rfl (g + 1) _ k js rfl O3 _ _ 1 1 [.int .i64 (-1)] rfl rfl RN (fun h => by cases h) (fun u hu => by simp at hu; rw [hu]; rfl) (by omega) (by simp; omega) ?_)
          intro v3 w3 o3 g3
          obtain ⟨J3, jc3, rfl, _⟩ := own_form o3
          have K4 := K3.out.grow g3 (fun j hj => by have := own_low O3 j hj; omega)
          have c14 := cell_of_row _ _ 14 _ _ _ K4.G
          have z14 := frozen_of_row _ _ 14 _ _ K4.G
          simp at c14
          have oC4 := own_kept2 oC3.out g3 (fun j h1 h2 => by obtain ⟨cur, hcur⟩ := own_typed2 O3 j h2; exact own_ne_type oC3.out hcur (by decide) h1)
          have K5 : Hk w (w3.setCell ⟨g, 14, none⟩ (.slice J3 (k + 1) jc3)) A c r g A2 c2 #[.slice A2 r.seats.length c2, .int .i64 r.tiers, .int .i64 r.room, .int .i64 r.size, .int .i64 r.period, .int .i64 r.window, .int .i64 r.rest, .int .i64 r.tries, .int .i64 r.crew, .int .i64 0, .int .i64 1, .slice none 0 0, .slice C r.seats.length cc, .slice none 0 0, .slice J3 (k + 1) jc3] := by
            have := K4.put 14 (.slice J3 (k + 1) jc3)
            simpa using this
          have K5 := Lib.hid K5
          have oC5 := Lib.hid (oC4.kept (Go.Lib.grownBy_setCell w3 g 14 (.slice J3 (k + 1) jc3)) (.inr (own_ne_type oC4 K4.G (by decide))))
          have o5 := Lib.hid (o3.kept (Go.Lib.grownBy_setCell w3 g 14 (.slice J3 (k + 1) jc3)) (.inr (own_ne_type o3 K4.G (by decide))))
          clear K3 K4 o3 g3 O3 RN d14 oC4 oC3 q8
          go_wp2
          go_roundw
          case rel => exact ⟨k + 1, J3, jc3, _, by omega, by go_num, K5.out, oC5.out, o5.out⟩
          case measure => simp [intOf] <;> omega
        · have ek : (k : Int) = r.crew := by omega
          have d0 := cell_of_row _ _ 0 _ _ _ K.G
          have d1 := cell_of_row _ _ 1 _ _ _ K.G
          have d2 := cell_of_row _ _ 2 _ _ _ K.G
          have d3 := cell_of_row _ _ 3 _ _ _ K.G
          have d4 := cell_of_row _ _ 4 _ _ _ K.G
          have d5 := cell_of_row _ _ 5 _ _ _ K.G
          have d6 := cell_of_row _ _ 6 _ _ _ K.G
          have d7 := cell_of_row _ _ 7 _ _ _ K.G
          have d8 := cell_of_row _ _ 8 _ _ _ K.G
          have d9 := cell_of_row _ _ 9 _ _ _ K.G
          have d10 := cell_of_row _ _ 10 _ _ _ K.G
          have d11 := cell_of_row _ _ 11 _ _ _ K.G
          have d12 := cell_of_row _ _ 12 _ _ _ K.G
          have d13 := cell_of_row _ _ 13 _ _ _ K.G
          have e0 := cell_of_row _ _ 0 _ _ _ K.Z
          have f0 := frozen_of_row _ _ 0 _ _ K.Z
          have e1 := cell_of_row _ _ 1 _ _ _ K.Z
          have f1 := frozen_of_row _ _ 1 _ _ K.Z
          have e2 := cell_of_row _ _ 2 _ _ _ K.Z
          have f2 := frozen_of_row _ _ 2 _ _ K.Z
          have e3 := cell_of_row _ _ 3 _ _ _ K.Z
          have f3 := frozen_of_row _ _ 3 _ _ K.Z
          have e4 := cell_of_row _ _ 4 _ _ _ K.Z
          have f4 := frozen_of_row _ _ 4 _ _ K.Z
          have e5 := cell_of_row _ _ 5 _ _ _ K.Z
          have f5 := frozen_of_row _ _ 5 _ _ K.Z
          have e6 := cell_of_row _ _ 6 _ _ _ K.Z
          have f6 := frozen_of_row _ _ 6 _ _ K.Z
          have e7 := cell_of_row _ _ 7 _ _ _ K.Z
          have f7 := frozen_of_row _ _ 7 _ _ K.Z
          have e8 := cell_of_row _ _ 8 _ _ _ K.Z
          have f8 := frozen_of_row _ _ 8 _ _ K.Z
          have e9 := cell_of_row _ _ 9 _ _ _ K.Z
          have f9 := frozen_of_row _ _ 9 _ _ K.Z
          have e10 := cell_of_row _ _ 10 _ _ _ K.Z
          have f10 := frozen_of_row _ _ 10 _ _ K.Z
          have e11 := cell_of_row _ _ 11 _ _ _ K.Z
          have f11 := frozen_of_row _ _ 11 _ _ K.Z
          have e12 := cell_of_row _ _ 12 _ _ _ K.Z
          have f12 := frozen_of_row _ _ 12 _ _ K.Z
          have e13 := cell_of_row _ _ 13 _ _ _ K.Z
          have f13 := frozen_of_row _ _ 13 _ _ K.Z
          have e14 := cell_of_row _ _ 14 _ _ _ K.Z
          have f14 := frozen_of_row _ _ 14 _ _ K.Z
          simp at d0 d1 d2 d3 d4 d5 d6 d7 d8 d9 d10 d11 d12 d13 e0 e1 e2 e3 e4 e5 e6 e7 e8 e9 e10 e11 e12 e13 e14
          have lt := K.lt
          have HN : Hid (NewHo w r (.returned (.tuple #[hoA ⟨A2, c2, r, 0, 1, none, 0, 0, C, r.seats.length, cc, none, 0, 0, J, k, jc⟩, .bool true])) (putHo wr (w.heap.size + 1) ⟨A2, c2, r, 0, 1, none, 0, 0, C, r.seats.length, cc, none, 0, 0, J, k, jc⟩)) := by
            refine ⟨_, cs, js, rfl, rfl, rfl, rfl, rfl, rfl, rfl, rfl, rfl, rfl, putHo_own K.O (own_ne_type K.O K.Z (by decide)), rfl, putHo_own (own_weak oC (by omega)) (own_ne_type oC K.Z (by decide)), ek, putHo_own (own_weak oJ (by omega)) (own_ne_type oJ K.Z (by decide)), putHo_below K.B (by omega)⟩
          clear K oC oJ ek
          unfold hoA putHo at HN
          go_wp2
          simp [bodyPost, results, Try.results37, go_sem, e0, e1, e2, e3, e4, e5, e6, e7, e8, e9, e10, e11, e12, e13, e14]
          exact HN.out
end Go.Proofs.Ytohpegblbikbdaa
