/- Texts laid together: Hs21, Hs22, Hs23, Hs24, Hs26, Hs27. -/
import Derived.Test.YtlflgflmlfileaaGreatRows
import Derived.Test.YtlflgflmlfileaaGreatJ2
import Derived.Deep.DeepCutAuto
namespace Go.Proofs.YtlflgflmlfileaaGreat
open Go.RowKit
set_option linter.unusedSimpArgs false
set_option linter.unusedVariables false
/-- A house's cells. -/
structure Ho where
  ra : Option Addr
  rc : Nat
  r : Ru
  now : Int
  turn : Int
  p : Option Addr
  pn : Nat
  pc : Nat
  c : Option Addr
  cn : Nat
  cc : Nat
  t : Option Addr
  tn : Nat
  tc : Nat
  j : Option Addr
  jn : Nat
  jc : Nat
def hoA (x : Ho) : Value := .agg #[.slice x.ra x.r.seats.length x.rc, .int .i64 x.r.tiers, .int .i64 x.r.room, .int .i64 x.r.size, .int .i64 x.r.period, .int .i64 x.r.window, .int .i64 x.r.rest, .int .i64 x.r.tries, .int .i64 x.r.crew, .int .i64 x.now, .int .i64 x.turn, .slice x.p x.pn x.pc, .slice x.c x.cn x.cc, .slice x.t x.tn x.tc, .slice x.j x.jn x.jc]
def putHo (w : World) (g : Nat) (x : Ho) : World := (((((((((((((((w.setCell ⟨g, 0, none⟩ (.slice x.ra x.r.seats.length x.rc)).setCell ⟨g, 1, none⟩ (.int .i64 x.r.tiers)).setCell ⟨g, 2, none⟩ (.int .i64 x.r.room)).setCell ⟨g, 3, none⟩ (.int .i64 x.r.size)).setCell ⟨g, 4, none⟩ (.int .i64 x.r.period)).setCell ⟨g, 5, none⟩ (.int .i64 x.r.window)).setCell ⟨g, 6, none⟩ (.int .i64 x.r.rest)).setCell ⟨g, 7, none⟩ (.int .i64 x.r.tries)).setCell ⟨g, 8, none⟩ (.int .i64 x.r.crew)).setCell ⟨g, 9, none⟩ (.int .i64 x.now)).setCell ⟨g, 10, none⟩ (.int .i64 x.turn)).setCell ⟨g, 11, none⟩ (.slice x.p x.pn x.pc)).setCell ⟨g, 12, none⟩ (.slice x.c x.cn x.cc)).setCell ⟨g, 13, none⟩ (.slice x.t x.tn x.tc)).setCell ⟨g, 14, none⟩ (.slice x.j x.jn x.jc))
theorem putHo_below {B : Nat} {w0 w : World} {g : Nat} {x : Ho} (h : Below B w0 w) (hg : B ≤ g) : Below B w0 (putHo w g x) := by
  unfold putHo
  exact (((((((((((((((h.setCell hg _).setCell hg _).setCell hg _).setCell hg _).setCell hg _).setCell hg _).setCell hg _).setCell hg _).setCell hg _).setCell hg _).setCell hg _).setCell hg _).setCell hg _).setCell hg _).setCell hg _)
theorem putHo_own {w : World} {B e sz n g : Nat} {v : Value} {cs : List Value} {x : Ho} (h : w.ownsRow B e sz v n cs) (hg : v.ownBlock ≠ some g) : (putHo w g x).ownsRow B e sz v n cs := by
  have k : ∀ (w : World) i u, w.ownsRow B e sz v n cs → (w.setCell ⟨g, i, none⟩ u).ownsRow B e sz v n cs := fun w i u h => h.kept (Go.Lib.grownBy_setCell w g i u) (.inr hg)
  unfold putHo
  exact k _ _ _ (k _ _ _ (k _ _ _ (k _ _ _ (k _ _ _ (k _ _ _ (k _ _ _ (k _ _ _ (k _ _ _ (k _ _ _ (k _ _ _ (k _ _ _ (k _ _ _ (k _ _ _ (k _ _ _ (h)))))))))))))))
def cbL (x : Cb) : List Value := [.int .i64 x.le.total, .int .i64 x.le.free, .int .i64 x.le.held, .int .i64 x.le.sold, .int .i64 x.le.tied, .slice x.q x.qn x.qc, .slice x.p x.pn x.pc]
theorem cbL_one (x : Cb) : ∀ u ∈ cbL x, u.oneCell' = true := by
  intro u hu
  simp [cbL] at hu
  rcases hu with rfl | rfl | rfl | rfl | rfl | rfl | rfl <;> rfl
/-- What HouseNew hands out. -/
def NewHo (w : World) (r : Ru) (e : Ending) (w' : World) : Prop :=
  ∃ (x : Ho) (cs : List Value) (js : List Value), e = .returned (.tuple #[hoA x, .bool true]) ∧ x.r = r ∧ x.now = 0 ∧ x.turn = 1 ∧ x.p = none ∧ x.pn = 0 ∧ x.pc = 0 ∧ x.t = none ∧ x.tn = 0 ∧ x.tc = 0 ∧
    w'.ownsRow w.heap.size 3 1 (.slice x.ra r.seats.length x.rc) r.seats.length (ints r.seats) ∧ x.cn = r.seats.length ∧ w'.ownsRow w.heap.size 59 7 (.slice x.c x.cn x.cc) x.cn cs ∧ (x.jn : Int) = r.crew ∧ w'.ownsRow w.heap.size 3 1 (.slice x.j x.jn x.jc) x.jn js ∧ Below w.heap.size w w' ∧ ∀ i j, (Value.slice x.ra r.seats.length x.rc).ownBlock = some i → (Value.slice x.j x.jn x.jc).ownBlock = some j → i < j
/-- What is kept of the blocks of HouseNew. -/
structure Hk (w u : World) (A : Option Addr) (c : Nat) (r : Ru) (g : Nat) (A2 : Option Addr) (c2 : Nat) (H : Array Value) : Prop where
  R : u.heap[w.heap.size]? = some (.cells #[.slice A r.seats.length c, .int .i64 r.tiers, .int .i64 r.room, .int .i64 r.size, .int .i64 r.period, .int .i64 r.window, .int .i64 r.rest, .int .i64 r.tries, .int .i64 r.crew] 34)
  Z : u.heap[w.heap.size + 1]? = some (.cells #[.slice none 0 0, .int .i64 0, .int .i64 0, .int .i64 0, .int .i64 0, .int .i64 0, .int .i64 0, .int .i64 0, .int .i64 0, .int .i64 0, .int .i64 0, .slice none 0 0, .slice none 0 0, .slice none 0 0, .slice none 0 0] 37)
  G : u.heap[g]? = some (.cells H 37)
  O : u.ownsRow w.heap.size 3 1 (.slice A2 r.seats.length c2) r.seats.length (ints r.seats)
  B : Below w.heap.size w u
  lt : w.heap.size + 1 < g
  lo : ∀ j, (Value.slice A2 r.seats.length c2).ownBlock = some j → j ≤ g
  gt : g < u.heap.size
theorem Hk.call {w u u' : World} {A : Option Addr} {c : Nat} {r : Ru} {g : Nat} {A2 : Option Addr} {c2 : Nat} {H : Array Value} (h : Hk w u A c r g A2 c2 H) (b : Below u.heap.size u u') : Hk w u' A c r g A2 c2 H :=
  ⟨blk_call h.R b, blk_call h.Z b, blk_call h.G b, own_below h.O b, h.B.trans (b.mono h.B.size), h.lt, h.lo, Nat.lt_of_lt_of_le h.gt b.size⟩
/-- A row beyond g grows. -/
theorem Hk.grow {w u u' : World} {A : Option Addr} {c : Nat} {r : Ru} {g : Nat} {A2 : Option Addr} {c2 : Nat} {H : Array Value} {row : Option Nat} (h : Hk w u A c r g A2 c2 H) (gr : u.grownBy u' row) (hr : ∀ j, row = some j → g < j) : Hk w u' A c r g A2 c2 H := by
  have lt := h.lt
  exact ⟨(gr.block _ (blk_lt h.R) (fun e => by have := hr _ e.symm; omega)).trans h.R, (gr.block _ (blk_lt h.Z) (fun e => by have := hr _ e.symm; omega)).trans h.Z, (gr.block _ (blk_lt h.G) (fun e => by have := hr _ e.symm; omega)).trans h.G,
    own_kept2 h.O gr (fun k h1 h2 => by have := hr _ h2; have := h.lo k h1; omega), h.B.grown gr h.B.size (fun j hj => by have := hr j hj; omega), h.lt, h.lo, Nat.lt_of_lt_of_le h.gt gr.size⟩
/-- A cell of g is stored. -/
theorem Hk.put {w u : World} {A : Option Addr} {c : Nat} {r : Ru} {g : Nat} {A2 : Option Addr} {c2 : Nat} {H : Array Value} (h : Hk w u A c r g A2 c2 H) (i : Nat) (v : Value) : Hk w (u.setCell ⟨g, i, none⟩ v) A c r g A2 c2 (H.setIfInBounds i v) := by
  have lt := h.lt
  exact ⟨(heap_set_ne u _ i _ (by omega)).trans h.R, (heap_set_ne u _ i _ (by omega)).trans h.Z, Go.heap_setCell_same _ _ i _ _ v h.G, h.O.kept (Go.Lib.grownBy_setCell u g i v) (.inr (own_ne_type h.O h.G (by decide))), h.B.setCell (p := ⟨g, i, none⟩) (by show _ ≤ g; omega) _, h.lt, h.lo, by rw [World.size_setCell]; exact h.gt⟩
set_option maxRecDepth 100000 in
set_option maxHeartbeats 6400000 in
theorem houseNew_any (A : Option Addr) (c : Nat) (r : Ru) (w : World) (hr : RuOk r) (hn : A = none → c = 0) (hA : Rws w w.heap.size A (ints r.seats)) :
    Calls Tryz.prog 33 #[ruV A c r] w (NewHo w r) := by
  have T0 := two_at w ((w.alloc (.cells #[.slice A r.seats.length c, .int .i64 r.tiers, .int .i64 r.room, .int .i64 r.size, .int .i64 r.period, .int .i64 r.window, .int .i64 r.rest, .int .i64 r.tries, .int .i64 r.crew] 34)).alloc (.cells #[.slice none 0 0, .int .i64 0, .int .i64 0, .int .i64 0, .int .i64 0, .int .i64 0, .int .i64 0, .int .i64 0, .int .i64 0, .int .i64 0, .int .i64 0, .slice none 0 0, .slice none 0 0, .slice none 0 0, .slice none 0 0] 37)) _ _ (Below.refl _ _)
  have CR := Lib.hid (rulesOk_yes A c r ((w.alloc (.cells #[.slice A r.seats.length c, .int .i64 r.tiers, .int .i64 r.room, .int .i64 r.size, .int .i64 r.period, .int .i64 r.window, .int .i64 r.rest, .int .i64 r.tries, .int .i64 r.crew] 34)).alloc (.cells #[.slice none 0 0, .int .i64 0, .int .i64 0, .int .i64 0, .int .i64 0, .int .i64 0, .int .i64 0, .int .i64 0, .int .i64 0, .int .i64 0, .int .i64 0, .slice none 0 0, .slice none 0 0, .slice none 0 0, .slice none 0 0] 37)) hr (rws_below hA T0.2.2))
  have HT := Lib.hid T0
  clear T0
  unfold ruV at CR
  unfold ruV
  go_enter Tryz.func33, Tryz.ntmps33
  go_wp2_with fail
  refine CR.out.mono ?_
  rintro e w1 ⟨rfl, b1⟩
  have T1 := two_at w w1 _ _ b1
  have p0 := cell_of_row _ _ 0 _ _ _ T1.1
  have p1 := cell_of_row _ _ 1 _ _ _ T1.1
  have p2 := cell_of_row _ _ 2 _ _ _ T1.1
  have p3 := cell_of_row _ _ 3 _ _ _ T1.1
  have p4 := cell_of_row _ _ 4 _ _ _ T1.1
  have p5 := cell_of_row _ _ 5 _ _ _ T1.1
  have p6 := cell_of_row _ _ 6 _ _ _ T1.1
  have p7 := cell_of_row _ _ 7 _ _ _ T1.1
  have p8 := cell_of_row _ _ 8 _ _ _ T1.1
  simp at p0 p1 p2 p3 p4 p5 p6 p7 p8
  have CC := Lib.hid (l5Copy_spec A c r w1 (by have := hr.n2; omega) hn (rws_below hA T1.2.2))
  unfold ruV at CC
  have TT := Lib.hid T1
  clear T1 b1 CR HT
  go_wp2_with fail
  refine CC.out.mono ?_
  rintro e w2 ⟨A2, c2, rfl, o2, b2⟩
  have K : Hk w (w2.alloc (.cells #[.slice A2 r.seats.length c2, .int .i64 r.tiers, .int .i64 r.room, .int .i64 r.size, .int .i64 r.period, .int .i64 r.window, .int .i64 r.rest, .int .i64 r.tries, .int .i64 r.crew, .int .i64 0, .int .i64 1, .slice none 0 0, .slice none 0 0, .slice none 0 0, .slice none 0 0] 37)) A c r w2.heap.size A2 c2 #[.slice A2 r.seats.length c2, .int .i64 r.tiers, .int .i64 r.room, .int .i64 r.size, .int .i64 r.period, .int .i64 r.window, .int .i64 r.rest, .int .i64 r.tries, .int .i64 r.crew, .int .i64 0, .int .i64 1, .slice none 0 0, .slice none 0 0, .slice none 0 0, .slice none 0 0] := by
    have T := TT.out
    have bw := T.2.2.trans (b2.mono T.2.2.size)
    refine ⟨blk_alloc (blk_call T.1 b2) _, blk_alloc (blk_call T.2.1 b2) _, heap_new _ _, (own_weak o2 T.2.2.size).alloc _, bw.alloc bw.size _, blk_lt (blk_call T.2.1 b2), fun j hj => ?_, by simp⟩
    exact Nat.le_of_lt (World.ownsRow.lt o2 j hj).2
  have KK := Lib.hid K
  clear K o2 b2 TT CC p0 p1 p2 p3 p4 p5 p6 p7 p8
  unfold ruV
  go_wp2_with fail
  have n2 := hr.n2
  have O0 : Hid ((w2.alloc (.cells #[.slice A2 r.seats.length c2, .int .i64 r.tiers, .int .i64 r.room, .int .i64 r.size, .int .i64 r.period, .int .i64 r.window, .int .i64 r.rest, .int .i64 r.tries, .int .i64 r.crew, .int .i64 0, .int .i64 1, .slice none 0 0, .slice none 0 0, .slice none 0 0, .slice none 0 0] 37)).ownsRow (w2.heap.size + 1) 59 7 (.slice none 0 0) 0 []) := World.ownsRow_nil _ _ _ _
  generalize w2.alloc (.cells #[.slice A2 r.seats.length c2, .int .i64 r.tiers, .int .i64 r.room, .int .i64 r.size, .int .i64 r.period, .int .i64 r.window, .int .i64 r.rest, .int .i64 r.tries, .int .i64 r.crew, .int .i64 0, .int .i64 1, .slice none 0 0, .slice none 0 0, .slice none 0 0, .slice none 0 0] 37) = W3 at *
  generalize w2.heap.size = g at *
  clear w2
  go_loopw [5] (fun vi wr => ∃ (k : Nat) (C : Option Addr) (cc : Nat) (cs : List Value), k ≤ r.seats.length ∧ vi = .int .i64 k ∧ Hk w wr A c r g A2 c2 #[.slice A2 r.seats.length c2, .int .i64 r.tiers, .int .i64 r.room, .int .i64 r.size, .int .i64 r.period, .int .i64 r.window, .int .i64 r.rest, .int .i64 r.tries, .int .i64 r.crew, .int .i64 0, .int .i64 1, .slice none 0 0, .slice C k cc, .slice none 0 0, .slice none 0 0] ∧ wr.ownsRow (g + 1) 59 7 (.slice C k cc) k cs) (fun vi _ => r.seats.length - (intOf vi).toNat)
  case atStart => exact ⟨0, none, 0, [], by omega, rfl, KK.out, O0.out⟩
  case round =>
    clear KK O0
    obtain ⟨k, C, cc, cs, hk, rfl, K, oC⟩ := hrel
    have q0 := cell_of_row _ _ 0 _ _ _ K.R
    simp at q0
    by_cases hlt : k < r.seats.length
    · have hsk := hr.seat k hlt
      obtain ⟨sb, so, rfl, hsB, hsc⟩ := hA.int hlt
      have s0 := (K.B.cell (by exact hsB)).trans hsc
      generalize r.seats.getD k 0 = S0 at *
      have KK := Lib.hid K
      have OC := Lib.hid oC
      clear K oC hsc
      go_wp2_with fail
      refine (cabinNew_any S0 wr hsk).mono ?_
      rintro e u1 ⟨⟨x, bb, rfl⟩, b1⟩
      have K1 := KK.out.call b1
      have oC1 := own_below OC.out b1
      obtain ⟨U, hU⟩ : ∃ U, u1.alloc (.cells #[.int .i64 x.le.total, .int .i64 x.le.free, .int .i64 x.le.held, .int .i64 x.le.sold, .int .i64 x.le.tied, .slice x.q x.qn x.qc, .slice x.p x.pn x.pc] 59) = U := ⟨_, rfl⟩
      have bU : Below u1.heap.size u1 U := by rw [← hU]; exact (Below.refl _ _).alloc (Nat.le_refl _) _
      have hx : U.heap[u1.heap.size]? = some (.cells #[.int .i64 x.le.total, .int .i64 x.le.free, .int .i64 x.le.held, .int .i64 x.le.sold, .int .i64 x.le.tied, .slice x.q x.qn x.qc, .slice x.p x.pn x.pc] 59) := by rw [← hU]; exact heap_new _ _
      have K2 := K1.call bU
      have oC2 := own_below oC1 bU
      have e0 := cell_of_row _ _ 0 _ _ _ hx
      have e1 := cell_of_row _ _ 1 _ _ _ hx
      have e2 := cell_of_row _ _ 2 _ _ _ hx
      have e3 := cell_of_row _ _ 3 _ _ _ hx
      have e4 := cell_of_row _ _ 4 _ _ _ hx
      have e5 := cell_of_row _ _ 5 _ _ _ hx
      have e6 := cell_of_row _ _ 6 _ _ _ hx
      have d12 := cell_of_row _ _ 12 _ _ _ K2.G
      simp at d12 e0 e1 e2 e3 e4 e5 e6
      have O3 := oC2.alloc (.cells (cbL x).toArray 59)
      have RN := Rws.new U (cbL x) 59
      have bV : Below U.heap.size U (U.alloc (.cells (cbL x).toArray 59)) := (Below.refl _ _).alloc (Nat.le_refl _) _
      have K3 := Lib.hid (K2.call bV)
      have gt3 := K2.gt
      clear KK OC K1 oC1 b1 bU hx K2 oC2 bV q0 s0
      unfold cbA
      go_wp2_with (at_builtin; refine wpList_appR rowCab _ rfl (.tmp 33) (.tmp 35) rfl (g + 1) _ k cs rfl O3 _ _ 1 1 (cbL x) rfl rfl RN (fun h => by cases h) (cbL_one x) (by omega) (by simp; omega) ?_)
      intro v3 w3 o3 g3
      obtain ⟨C3, cc3, rfl, _⟩ := own_form o3
      have K4 := K3.out.grow g3 (fun j hj => by have := own_low O3 j hj; omega)
      have c12 := cell_of_row _ _ 12 _ _ _ K4.G
      have z12 := frozen_of_row _ _ 12 _ _ K4.G
      simp at c12
      have K5 : Hk w (w3.setCell ⟨g, 12, none⟩ (.slice C3 (k + 1) cc3)) (some ⟨sb, so, none⟩) c r g A2 c2 #[.slice A2 r.seats.length c2, .int .i64 r.tiers, .int .i64 r.room, .int .i64 r.size, .int .i64 r.period, .int .i64 r.window, .int .i64 r.rest, .int .i64 r.tries, .int .i64 r.crew, .int .i64 0, .int .i64 1, .slice none 0 0, .slice C3 (k + 1) cc3, .slice none 0 0, .slice none 0 0] := by
        have := K4.put 12 (.slice C3 (k + 1) cc3)
        simpa using this
      have K5 := Lib.hid K5
      have o5 : Hid ((w3.setCell ⟨g, 12, none⟩ (.slice C3 (k + 1) cc3)).ownsRow (g + 1) 59 7 (.slice C3 (k + 1) cc3) (k + 1) (cs ++ cbL x)) := o3.kept (Go.Lib.grownBy_setCell w3 g 12 _) (.inr (own_ne_type o3 K4.G (by decide)))
      clear K3 K4 o3 g3 O3 RN d12 e0 e1 e2 e3 e4 e5 e6 hU
      go_wp2
      go_roundw
      case rel => exact ⟨k + 1, C3, cc3, _, by omega, by go_num, K5.out, o5.out⟩
      case measure => simp [intOf] <;> omega
    · obtain rfl : k = r.seats.length := by omega
      have KK := Lib.hid K
      have OC := Lib.hid oC
      clear K oC
      have cr := hr.crew
      go_wp2_with fail
      go_loopw [8] (fun vi wr => ∃ (k : Nat) (J : Option Addr) (jc : Nat) (js : List Value), (k : Int) ≤ r.crew ∧ vi = .int .i64 k ∧ Hk w wr A c r g A2 c2 #[.slice A2 r.seats.length c2, .int .i64 r.tiers, .int .i64 r.room, .int .i64 r.size, .int .i64 r.period, .int .i64 r.window, .int .i64 r.rest, .int .i64 r.tries, .int .i64 r.crew, .int .i64 0, .int .i64 1, .slice none 0 0, .slice C r.seats.length cc, .slice none 0 0, .slice J k jc] ∧ wr.ownsRow (g + 1) 59 7 (.slice C r.seats.length cc) r.seats.length cs ∧ wr.ownsRow (g + 1) 3 1 (.slice J k jc) k js) (fun vi _ => (r.crew - intOf vi).toNat)
      case atStart => exact ⟨0, none, 0, [], by omega, rfl, KK.out, OC.out, World.ownsRow_nil _ _ _ _⟩
      case round =>
        clear KK OC q0
        obtain ⟨k, J, jc, js, hk, rfl, K, oC, oJ⟩ := hrel
        have q8 := cell_of_row _ _ 8 _ _ _ K.R
        have d14 := cell_of_row _ _ 14 _ _ _ K.G
        simp at q8 d14
        by_cases hlt : (k : Int) < r.crew
        · have O3 := oJ.alloc (.cells #[.int .i64 (-1)] 3)
          have RN : Rws (wr.alloc (.cells #[.int .i64 (-1)] 3)) (wr.heap.size + 1) (some ⟨wr.heap.size, 0, none⟩) [.int .i64 (-1)] := Rws.new wr [.int .i64 (-1)] 3
          have bV : Below wr.heap.size wr (wr.alloc (.cells #[.int .i64 (-1)] 3)) := (Below.refl _ _).alloc (Nat.le_refl _) _
          have K3 := Lib.hid (K.call bV)
          have oC3 := Lib.hid (oC.alloc (.cells #[.int .i64 (-1)] 3))
          have gt3 := K.gt
          clear K oC oJ bV
          go_wp2_with (at_builtin; refine wpList_appR rowInt _ rfl (.tmp 45) (.tmp 46) rfl (g + 1) _ k js rfl O3 _ _ 1 1 [.int .i64 (-1)] rfl rfl RN (fun h => by cases h) (fun u hu => by simp at hu; rw [hu]; rfl) (by omega) (by simp; omega) ?_)
          intro v3 w3 o3 g3
          obtain ⟨J3, jc3, rfl, _⟩ := own_form o3
          have K4 := K3.out.grow g3 (fun j hj => by have := own_low O3 j hj; omega)
          have c14 := cell_of_row _ _ 14 _ _ _ K4.G
          have z14 := frozen_of_row _ _ 14 _ _ K4.G
          simp at c14
          have oC4 := own_kept2 oC3.out g3 (fun j h1 h2 => by obtain ⟨cur, hcur⟩ := own_typed2 O3 j h2; exact own_ne_type oC3.out hcur (by decide) h1)
          have K5 : Hk w (w3.setCell ⟨g, 14, none⟩ (.slice J3 (k + 1) jc3)) A c r g A2 c2 #[.slice A2 r.seats.length c2, .int .i64 r.tiers, .int .i64 r.room, .int .i64 r.size, .int .i64 r.period, .int .i64 r.window, .int .i64 r.rest, .int .i64 r.tries, .int .i64 r.crew, .int .i64 0, .int .i64 1, .slice none 0 0, .slice C r.seats.length cc, .slice none 0 0, .slice J3 (k + 1) jc3] := by
            have := K4.put 14 (.slice J3 (k + 1) jc3)
            simpa using this
          have K5 := Lib.hid K5
          have oC5 := Lib.hid (oC4.kept (Go.Lib.grownBy_setCell w3 g 14 (.slice J3 (k + 1) jc3)) (.inr (own_ne_type oC4 K4.G (by decide))))
          have o5 := Lib.hid (o3.kept (Go.Lib.grownBy_setCell w3 g 14 (.slice J3 (k + 1) jc3)) (.inr (own_ne_type o3 K4.G (by decide))))
          clear K3 K4 o3 g3 O3 RN d14 oC4 oC3 q8
          go_wp2
          go_roundw
          case rel => exact ⟨k + 1, J3, jc3, _, by omega, by go_num, K5.out, oC5.out, o5.out⟩
          case measure => simp [intOf] <;> omega
        · have ek : (k : Int) = r.crew := by omega
          have d0 := cell_of_row _ _ 0 _ _ _ K.G
          have d1 := cell_of_row _ _ 1 _ _ _ K.G
          have d2 := cell_of_row _ _ 2 _ _ _ K.G
          have d3 := cell_of_row _ _ 3 _ _ _ K.G
          have d4 := cell_of_row _ _ 4 _ _ _ K.G
          have d5 := cell_of_row _ _ 5 _ _ _ K.G
          have d6 := cell_of_row _ _ 6 _ _ _ K.G
          have d7 := cell_of_row _ _ 7 _ _ _ K.G
          have d8 := cell_of_row _ _ 8 _ _ _ K.G
          have d9 := cell_of_row _ _ 9 _ _ _ K.G
          have d10 := cell_of_row _ _ 10 _ _ _ K.G
          have d11 := cell_of_row _ _ 11 _ _ _ K.G
          have d12 := cell_of_row _ _ 12 _ _ _ K.G
          have d13 := cell_of_row _ _ 13 _ _ _ K.G
          have e0 := cell_of_row _ _ 0 _ _ _ K.Z
          have f0 := frozen_of_row _ _ 0 _ _ K.Z
          have e1 := cell_of_row _ _ 1 _ _ _ K.Z
          have f1 := frozen_of_row _ _ 1 _ _ K.Z
          have e2 := cell_of_row _ _ 2 _ _ _ K.Z
          have f2 := frozen_of_row _ _ 2 _ _ K.Z
          have e3 := cell_of_row _ _ 3 _ _ _ K.Z
          have f3 := frozen_of_row _ _ 3 _ _ K.Z
          have e4 := cell_of_row _ _ 4 _ _ _ K.Z
          have f4 := frozen_of_row _ _ 4 _ _ K.Z
          have e5 := cell_of_row _ _ 5 _ _ _ K.Z
          have f5 := frozen_of_row _ _ 5 _ _ K.Z
          have e6 := cell_of_row _ _ 6 _ _ _ K.Z
          have f6 := frozen_of_row _ _ 6 _ _ K.Z
          have e7 := cell_of_row _ _ 7 _ _ _ K.Z
          have f7 := frozen_of_row _ _ 7 _ _ K.Z
          have e8 := cell_of_row _ _ 8 _ _ _ K.Z
          have f8 := frozen_of_row _ _ 8 _ _ K.Z
          have e9 := cell_of_row _ _ 9 _ _ _ K.Z
          have f9 := frozen_of_row _ _ 9 _ _ K.Z
          have e10 := cell_of_row _ _ 10 _ _ _ K.Z
          have f10 := frozen_of_row _ _ 10 _ _ K.Z
          have e11 := cell_of_row _ _ 11 _ _ _ K.Z
          have f11 := frozen_of_row _ _ 11 _ _ K.Z
          have e12 := cell_of_row _ _ 12 _ _ _ K.Z
          have f12 := frozen_of_row _ _ 12 _ _ K.Z
          have e13 := cell_of_row _ _ 13 _ _ _ K.Z
          have f13 := frozen_of_row _ _ 13 _ _ K.Z
          have e14 := cell_of_row _ _ 14 _ _ _ K.Z
          have f14 := frozen_of_row _ _ 14 _ _ K.Z
          simp at d0 d1 d2 d3 d4 d5 d6 d7 d8 d9 d10 d11 d12 d13 e0 e1 e2 e3 e4 e5 e6 e7 e8 e9 e10 e11 e12 e13 e14
          have lt := K.lt
          have HN : Hid (NewHo w r (.returned (.tuple #[hoA ⟨A2, c2, r, 0, 1, none, 0, 0, C, r.seats.length, cc, none, 0, 0, J, k, jc⟩, .bool true])) (putHo wr (w.heap.size + 1) ⟨A2, c2, r, 0, 1, none, 0, 0, C, r.seats.length, cc, none, 0, 0, J, k, jc⟩)) := by
            refine ⟨_, cs, js, rfl, rfl, rfl, rfl, rfl, rfl, rfl, rfl, rfl, rfl, putHo_own K.O (own_ne_type K.O K.Z (by decide)), rfl, putHo_own (own_weak oC (by omega)) (own_ne_type oC K.Z (by decide)), ek, putHo_own (own_weak oJ (by omega)) (own_ne_type oJ K.Z (by decide)), putHo_below K.B (by omega), fun i j h1 h2 => by have := K.lo i h1; have := own_low oJ j h2; omega⟩
          clear K oC oJ ek
          unfold hoA putHo at HN
          go_wp2
          simp [bodyPost, results, Tryz.results33, go_sem, e0, e1, e2, e3, e4, e5, e6, e7, e8, e9, e10, e11, e12, e13, e14]
          exact HN.out
set_option maxRecDepth 100000 in
theorem exec_fldHo {ρ : Operand → Value} {o : Oper} {x : Operand} (b f off : Nat) (w : World) (hf : (f = 0 ∧ off = 0) ∨ (f = 1 ∧ off = 9) ∨ (f = 2 ∧ off = 10) ∨ (f = 3 ∧ off = 11) ∨ (f = 4 ∧ off = 12) ∨ (f = 5 ∧ off = 13) ∨ (f = 6 ∧ off = 14)) (ho : o.op = .fieldAddr 37 x f := by rfl) (hx : ρ x = .pointer (some ⟨b, 0, none⟩) := by rfl) :
    (execOp ρ o).run Tryz.prog w = .ok (.value (.pointer (some ⟨b, off, none⟩))) w := by
  unfold execOp
  rw [ho]
  rcases hf with ⟨rfl, rfl⟩ | ⟨rfl, rfl⟩ | ⟨rfl, rfl⟩ | ⟨rfl, rfl⟩ | ⟨rfl, rfl⟩ | ⟨rfl, rfl⟩ | ⟨rfl, rfl⟩ <;> simp [go_sem, hx]
set_option maxRecDepth 100000 in
theorem exec_loadRow {ρ : Operand → Value} {o : Oper} {x : Operand} (t : TypeId) (b off : Nat) (B : Option Addr) (n c : Nat) (w : World) (ht : t = 24 ∨ t = 35) (h : w.cell? ⟨b, off, none⟩ = some (.slice B n c)) (ho : o.op = .load t x := by rfl) (hx : ρ x = .pointer (some ⟨b, off, none⟩) := by rfl) :
    (execOp ρ o).run Tryz.prog w = .ok (.value (.slice B n c)) w := by
  unfold execOp
  rw [ho]
  rcases ht with rfl | rfl <;> simp [go_sem, hx, h]
set_option maxRecDepth 100000 in
theorem exec_idxIv {ρ : Operand → Value} {o : Oper} {x y : Operand} (b off n c k : Nat) (w : World) (h : k < n) (ho : o.op = .indexAddr 32 x y := by rfl) (hx : ρ x = .slice (some ⟨b, off, none⟩) n c := by rfl) (hy : ρ y = .int .i64 (k : Int) := by rfl) :
    (execOp ρ o).run Tryz.prog w = .ok (.value (.pointer (some ⟨b, off + k, none⟩))) w := by
  have h1 : (k : Int) < (n : Int) := by omega
  unfold execOp
  rw [ho]
  simp [go_sem, hx, hy, h]
set_option maxRecDepth 100000 in
set_option maxHeartbeats 6400000 in
theorem l11Room_any (x : Ho) (l : List Pt) (p : Pt) (w : World) (hl : l.length ≤ 1000) (hpn : x.pn = l.length) (hnil : x.p = none → x.pc = 0) (hcn : x.cn = x.r.seats.length) (hr : RuOk x.r) (hRA : Rws w w.heap.size x.ra (ints x.r.seats)) (hA : Rws w w.heap.size x.p (l.flatMap ptC)) :
    Calls Tryz.prog 36 #[hoA x, ptA p] w fun e w' => (∃ b, e = .returned (.bool b)) ∧ Below w.heap.size w w' := by
  obtain ⟨W, hW⟩ : ∃ W, (w.alloc (.cells #[.slice x.ra x.r.seats.length x.rc, .int .i64 x.r.tiers, .int .i64 x.r.room, .int .i64 x.r.size, .int .i64 x.r.period, .int .i64 x.r.window, .int .i64 x.r.rest, .int .i64 x.r.tries, .int .i64 x.r.crew, .int .i64 x.now, .int .i64 x.turn, .slice x.p x.pn x.pc, .slice x.c x.cn x.cc, .slice x.t x.tn x.tc, .slice x.j x.jn x.jc] 37)).alloc (.cells #[.int .i64 p.id, .int .i64 p.cabin, .int .i64 p.from_, .int .i64 p.size, .int .i64 p.tier, .int .i64 p.since, .int .i64 p.turn, .int .i64 p.state, .int .i64 p.until_, .int .i64 p.asked] 26) = W := ⟨_, rfl⟩
  have T0 : W.heap[w.heap.size]? = some (.cells #[.slice x.ra x.r.seats.length x.rc, .int .i64 x.r.tiers, .int .i64 x.r.room, .int .i64 x.r.size, .int .i64 x.r.period, .int .i64 x.r.window, .int .i64 x.r.rest, .int .i64 x.r.tries, .int .i64 x.r.crew, .int .i64 x.now, .int .i64 x.turn, .slice x.p x.pn x.pc, .slice x.c x.cn x.cc, .slice x.t x.tn x.tc, .slice x.j x.jn x.jc] 37) ∧ W.heap[w.heap.size + 1]? = some (.cells #[.int .i64 p.id, .int .i64 p.cabin, .int .i64 p.from_, .int .i64 p.size, .int .i64 p.tier, .int .i64 p.since, .int .i64 p.turn, .int .i64 p.state, .int .i64 p.until_, .int .i64 p.asked] 26) ∧ Below w.heap.size w W := by rw [← hW]; exact two_at w _ _ _ (Below.refl _ _)
  have HT := Lib.hid T0
  have n2 := hr.n2
  have HP := Lib.hid hpn
  have HC := Lib.hid hcn
  clear T0 hpn hcn
  unfold hoA ptA
  go_enter Tryz.func36, Tryz.ntmps36
  go_wp2_with fail
  clear hW
  have KH := Lib.hid (fun w' (h : Below W.heap.size W w') => cell_of_row _ _ 11 _ _ _ (blk_call HT.out.1 h))
  have KX := Lib.hid (fun w' (h : Below W.heap.size W w') => Pt.here.blk (blk_call HT.out.2.1 h))
  have HR : Hid (∀ w' (h : Below W.heap.size W w'), Rws w' w'.heap.size x.p (l.flatMap ptC)) := fun w' h => rws_below (rws_below hA HT.out.2.2) h
  have e1 : (l.flatMap ptC).length = x.pn * 10 := by rw [HP.out]; exact flat_len ptC 10 ptC_len l
  have hpl : x.pn ≤ 1000 := by rw [HP.out]; exact hl
  go_cut [5] (fun s5 wx => ∃ M mc, s5 = .slice M (l.length + 1) mc ∧ wx.ownsRow W.heap.size 26 10 (.slice M (l.length + 1) mc) (l.length + 1) ((l ++ [p]).flatMap ptC) ∧ Below W.heap.size W wx)
  case first =>
    refine wp_region_held_drew (S := fun w' => Hid (Below W.heap.size W w')) (by kernel_rfl) (below_drawn (Below.refl _ _) 1) (fun hHeld => ?_)
    refine held_take 1 8 (.pointer (some ⟨w.heap.size, 11, none⟩)) rfl rfl (by kernel_rfl) (by kernel_rfl) (by kernel_rfl) (fun _ _ _ h => h) rfl hHeld (fun w _ => exec_fldHo _ 3 11 w (by simp)) ?_
    refine held_take 2 9 (.slice x.p x.pn x.pc) rfl rfl (by kernel_rfl) (by kernel_rfl) (by kernel_rfl) (fun _ _ _ h => h) rfl hHeld (fun w hS => exec_loadRow _ _ 11 _ _ _ w (.inl rfl) (KH.out w hS.out)) ?_
    simp only [Act.put, List.setIfInBounds_toArray, List.set_cons_zero, List.set_cons_succ]
    refine held_take 4 11 (ptA p) rfl rfl (by kernel_rfl) (by kernel_rfl) (by kernel_rfl) (fun _ _ _ h => h) rfl hHeld (fun w hS => exec_load_pt _ 0 p w (KX.out w hS.out)) ?_
    simp only [Act.put, List.setIfInBounds_toArray, List.set_cons_zero, List.set_cons_succ]
    have bA := hHeld.out.alloc hHeld.out.size (.cells #[] 26)
    have bB := hHeld.out.alloc hHeld.out.size (.cells (ptC p).toArray 26)
    refine wpAnyH_ready (rs := [0, 5]) (by kernel_rfl) (by simp) (ready_op 0 7 _ rfl rfl rfl (exec_none_pt _) bA ?_ (ready_op 5 12 _ rfl rfl rfl (exec_one_pt p _) bB ?_ AllReadyH.nil))
    · skip
      simp only [Act.put, List.setIfInBounds_toArray, List.set_cons_zero, List.set_cons_succ]
      have oA := own_emptyB hHeld.out 26 10
      have bAB := bA.alloc bA.size (.cells (ptC p).toArray 26)
      refine wpAnyH_ready (rs := [3, 5]) (by kernel_rfl) (by simp) (ready_opx 3 10 rfl rfl rfl (exec_appR rowPty _ W.heap.size _ 0 [] oA _ x.p x.pn x.pc (l.flatMap ptC) e1 (HR.out _ bA) hnil (ptC_one _) (by omega) (bA.size)) ?_ (ready_op 5 12 _ rfl rfl rfl (exec_one_pt p _) bAB ?_ AllReadyH.nil))
      · rintro v7 w7 ⟨o7, g7⟩
        have k7 := bA.grown g7 bA.size (own_low oA)
        refine ⟨k7, ?_⟩
        simp only [Act.put, List.setIfInBounds_toArray, List.set_cons_zero, List.set_cons_succ]
        rw [Nat.zero_add, List.nil_append] at o7
        refine held_op 5 12 (.slice (some ⟨w7.heap.size, 0, none⟩) 1 1) rfl rfl (by kernel_rfl) rfl (exec_one_pt p _) (k7.alloc k7.size _) ?_
        simp only [Act.put, List.setIfInBounds_toArray, List.set_cons_zero, List.set_cons_succ]
        have k8 := k7.alloc k7.size (.cells (ptC p).toArray 26)
        have o8 := o7.alloc (.cells (ptC p).toArray 26)
        refine held_opx 6 13 rfl rfl (by kernel_rfl) rfl (exec_appR rowPty _ W.heap.size _ x.pn _ o8 _ _ 1 1 (ptC p) rfl (Rws.new w7 (ptC p) 26) (fun h => by cases h) (by intro z hz; exact ptC_one [p] z (by simpa using hz)) (by omega) (k8.size)) ?_
        rintro v9 w9 ⟨o9, g9⟩
        have k9 := k8.grown g9 k8.size (own_low o8)
        refine ⟨k9, ?_⟩
        simp only [Act.put, List.setIfInBounds_toArray, List.set_cons_zero, List.set_cons_succ]
        refine held_op 7 5 v9 rfl rfl (by kernel_rfl) rfl rfl k9 ?_
        simp only [Act.put, List.setIfInBounds_toArray, List.set_cons_zero, List.set_cons_succ]
        refine wpAnyH_done (by kernel_rfl) ?_ _
        rw [HP.out] at o9
        obtain ⟨M9, mc9, rfl, _⟩ := own_form o9
        have e9 : (l ++ [p]).flatMap ptC = l.flatMap ptC ++ ptC p := by simp
        rw [← e9] at o9
        go_wp2_with fail
        go_meet
        exact ⟨M9, mc9, rfl, o9, k9⟩
      · skip
        simp only [Act.put, List.setIfInBounds_toArray, List.set_cons_zero, List.set_cons_succ]
        have RN := rws_newB bA (ptC p) 26
        have oB := oA.alloc (.cells (ptC p).toArray 26)
        refine held_opx 3 10 rfl rfl (by kernel_rfl) rfl (exec_appR rowPty _ W.heap.size _ 0 [] oB _ x.p x.pn x.pc (l.flatMap ptC) e1 (HR.out _ bAB) hnil (ptC_one _) (by omega) (bAB.size)) ?_
        rintro v7 w7 ⟨o7, g7⟩
        have k7 := bAB.grown g7 bAB.size (own_low oB)
        refine ⟨k7, ?_⟩
        simp only [Act.put, List.setIfInBounds_toArray, List.set_cons_zero, List.set_cons_succ]
        rw [Nat.zero_add, List.nil_append] at o7
        have RN := rws_grown RN g7 (fun j h => by injection h with h; simp at h ⊢; omega)
        refine held_opx 6 13 rfl rfl (by kernel_rfl) rfl (exec_appR rowPty _ W.heap.size _ x.pn _ o7 _ _ 1 1 (ptC p) rfl RN (fun h => by cases h) (by intro z hz; exact ptC_one [p] z (by simpa using hz)) (by omega) (k7.size)) ?_
        rintro v9 w9 ⟨o9, g9⟩
        have k9 := k7.grown g9 k7.size (own_low o7)
        refine ⟨k9, ?_⟩
        simp only [Act.put, List.setIfInBounds_toArray, List.set_cons_zero, List.set_cons_succ]
        refine held_op 7 5 v9 rfl rfl (by kernel_rfl) rfl rfl k9 ?_
        simp only [Act.put, List.setIfInBounds_toArray, List.set_cons_zero, List.set_cons_succ]
        refine wpAnyH_done (by kernel_rfl) ?_ _
        rw [HP.out] at o9
        obtain ⟨M9, mc9, rfl, _⟩ := own_form o9
        have e9 : (l ++ [p]).flatMap ptC = l.flatMap ptC ++ ptC p := by simp
        rw [← e9] at o9
        go_wp2_with fail
        go_meet
        exact ⟨M9, mc9, rfl, o9, k9⟩
    · skip
      simp only [Act.put, List.setIfInBounds_toArray, List.set_cons_zero, List.set_cons_succ]
      have RN := rws_newB hHeld.out (ptC p) 26
      have bBA := bB.alloc bB.size (.cells #[] 26)
      refine held_op 0 7 _ rfl rfl (by kernel_rfl) rfl (exec_none_pt _) bBA ?_
      simp only [Act.put, List.setIfInBounds_toArray, List.set_cons_zero, List.set_cons_succ]
      have oA := own_emptyB bB 26 10
      have RN := RN.alloc (by simp) (.cells #[] 26)
      refine held_opx 3 10 rfl rfl (by kernel_rfl) rfl (exec_appR rowPty _ W.heap.size _ 0 [] oA _ x.p x.pn x.pc (l.flatMap ptC) e1 (HR.out _ bBA) hnil (ptC_one _) (by omega) (bBA.size)) ?_
      rintro v7 w7 ⟨o7, g7⟩
      have k7 := bBA.grown g7 bBA.size (own_low oA)
      refine ⟨k7, ?_⟩
      simp only [Act.put, List.setIfInBounds_toArray, List.set_cons_zero, List.set_cons_succ]
      rw [Nat.zero_add, List.nil_append] at o7
      have RN := rws_grown RN g7 (fun j h => by injection h with h; simp at h ⊢; omega)
      refine held_opx 6 13 rfl rfl (by kernel_rfl) rfl (exec_appR rowPty _ W.heap.size _ x.pn _ o7 _ _ 1 1 (ptC p) rfl RN (fun h => by cases h) (by intro z hz; exact ptC_one [p] z (by simpa using hz)) (by omega) (k7.size)) ?_
      rintro v9 w9 ⟨o9, g9⟩
      have k9 := k7.grown g9 k7.size (own_low o7)
      refine ⟨k9, ?_⟩
      simp only [Act.put, List.setIfInBounds_toArray, List.set_cons_zero, List.set_cons_succ]
      refine held_op 7 5 v9 rfl rfl (by kernel_rfl) rfl rfl k9 ?_
      simp only [Act.put, List.setIfInBounds_toArray, List.set_cons_zero, List.set_cons_succ]
      refine wpAnyH_done (by kernel_rfl) ?_ _
      rw [HP.out] at o9
      obtain ⟨M9, mc9, rfl, _⟩ := own_form o9
      have e9 : (l ++ [p]).flatMap ptC = l.flatMap ptC ++ ptC p := by simp
      rw [← e9] at o9
      go_wp2_with fail
      go_meet
      exact ⟨M9, mc9, rfl, o9, k9⟩
  case rest =>
    obtain ⟨M, mc, rfl, oM, bM⟩ := hcut
    have RM := own_rws oM
    have T := HT.out
    have bw := T.2.2.trans (bM.mono T.2.2.size)
    have h0 := blk_call T.1 bM
    have HH := Lib.hid h0
    have BW := Lib.hid bw
    have len1 : (l ++ [p]).length = l.length + 1 := by simp
    have CH0 := Lib.hid (fun (i : Nat) u (b : Below wc.heap.size wc u) => held_spec M (l ++ [p]) mc (i : Int) u (by simp; omega) (rws_below RM b))
    have CT0 := Lib.hid (fun (i : Nat) u (b : Below wc.heap.size wc u) => tied_spec M (l ++ [p]) mc (i : Int) u (by simp; omega) (rws_below RM b))
    rw [len1] at CH0 CT0
    have RS := Lib.hid (rws_below hRA bw)
    clear oM RM T h0 bw HT KH KX HR bM
    go_wp2_with fail
    go_loopw [6] (fun vi wr => ∃ i : Nat, i ≤ x.r.seats.length ∧ vi = .int .i64 i ∧ Below wc.heap.size wc wr) (fun vi _ => x.r.seats.length - (intOf vi).toNat)
    case atStart => exact ⟨0, by omega, rfl, Below.refl _ _⟩
    case round =>
      obtain ⟨i, hi0, rfl, hb⟩ := hrel
      have hh := blk_call HH.out hb
      have c12 := cell_of_row _ _ 12 _ _ _ hh
      simp at c12
      by_cases hi : i < x.r.seats.length
      · obtain ⟨sb, so, es, hsB, hsc⟩ := (rws_below RS.out hb).int hi
        have CH := Lib.hid (fun u (b : Below wr.heap.size wr u) => CH0.out i u (hb.trans (b.mono hb.size)))
        have CT := Lib.hid (fun u (b : Below wr.heap.size wr u) => CT0.out i u (hb.trans (b.mono hb.size)))
        have hih := held_in (l ++ [p]) (i : Int)
        have hit := tied_in (l ++ [p]) (i : Int)
        rw [len1] at hih hit
        generalize heldV (l ++ [p]) (i : Int) = H0 at *
        generalize tiedV (l ++ [p]) (i : Int) = T0 at *
        generalize x.r.seats.getD i 0 = S0 at *
        have KR := Lib.hid (fun w' (h : Below wr.heap.size wr w') => (by have := cell_of_row _ _ 0 _ _ _ (blk_call hh h); rw [es] at this; exact this : w'.cell? ⟨w.heap.size, 0, none⟩ = some (.slice (some ⟨sb, so, none⟩) x.r.seats.length x.rc)))
        have KS := Lib.hid (fun w' (h : Below wr.heap.size wr w') => (h.cell (by exact hsB)).trans hsc)
        have HB := Lib.hid hb
        clear hh hsc hb
        by_cases hd : S0 < H0 + T0
        · have ed : decide (S0 < H0 + T0) = true := decide_eq_true hd
          clear hd
          rw [HC.out] at c12
          go_wp2_with fail
          refine wp_region_held_drew (S := fun w' => Hid (Below wr.heap.size wr w')) (by kernel_rfl) (below_drawn (Below.refl _ _) 1) (fun hHeld => ?_)
          refine held_take 0 21 (.slice M (l.length + 1) mc) rfl rfl (by kernel_rfl) (by kernel_rfl) (by kernel_rfl) (fun _ _ _ h => h) rfl hHeld (fun w _ => rfl) ?_
          refine held_take 1 22 (.int .i64 (i : Int)) rfl rfl (by kernel_rfl) (by kernel_rfl) (by kernel_rfl) (fun _ _ _ h => h) rfl hHeld (fun w _ => rfl) ?_
          refine held_take 3 24 (.slice M (l.length + 1) mc) rfl rfl (by kernel_rfl) (by kernel_rfl) (by kernel_rfl) (fun _ _ _ h => h) rfl hHeld (fun w _ => rfl) ?_
          simp only [Act.put, List.setIfInBounds_toArray, List.set_cons_zero, List.set_cons_succ]
          refine held_take 4 25 (.int .i64 (i : Int)) rfl rfl (by kernel_rfl) (by kernel_rfl) (by kernel_rfl) (fun _ _ _ h => h) rfl hHeld (fun w _ => rfl) ?_
          refine held_take 7 28 (.pointer (some ⟨w.heap.size, 0, none⟩)) rfl rfl (by kernel_rfl) (by kernel_rfl) (by kernel_rfl) (fun _ _ _ h => h) rfl hHeld (fun w _ => exec_fldHo _ 0 0 w (.inl ⟨rfl, rfl⟩)) ?_
          refine held_take 8 29 (.pointer (some ⟨w.heap.size, 0, none⟩)) rfl rfl (by kernel_rfl) (by kernel_rfl) (by kernel_rfl) (fun _ _ _ h => h) rfl hHeld (fun w _ => exec_fld0 _ w) ?_
          simp only [Act.put, List.setIfInBounds_toArray, List.set_cons_zero, List.set_cons_succ]
          refine held_take 9 30 (.slice (some ⟨sb, so, none⟩) x.r.seats.length x.rc) rfl rfl (by kernel_rfl) (by kernel_rfl) (by kernel_rfl) (fun _ _ _ h => h) rfl hHeld (fun w hS => exec_loadSl _ _ 0 _ _ _ w rfl (KR.out w hS.out)) ?_
          refine held_take 10 31 (.int .i64 (i : Int)) rfl rfl (by kernel_rfl) (by kernel_rfl) (by kernel_rfl) (fun _ _ _ h => h) rfl hHeld (fun w _ => rfl) ?_
          refine held_take 11 32 (.pointer (some ⟨sb, so + i, none⟩)) rfl rfl (by kernel_rfl) (by kernel_rfl) (by kernel_rfl) (fun _ _ _ h => h) rfl hHeld (fun w _ => exec_idxIv sb so x.r.seats.length x.rc i w hi) ?_
          simp only [Act.put, List.setIfInBounds_toArray, List.set_cons_zero, List.set_cons_succ]
          refine held_take 12 33 (.int .i64 S0) rfl rfl (by kernel_rfl) (by kernel_rfl) (by kernel_rfl) (fun _ _ _ h => h) rfl hHeld (fun w hS => exec_load1 3 sb (so + i) _ w (.inl rfl) (KS.out w hS.out)) ?_
          simp only [Act.put, List.setIfInBounds_toArray, List.set_cons_zero, List.set_cons_succ]
          refine held_call 2 23 53 #[.slice M (l.length + 1) mc, .int .i64 (i : Int)] rfl rfl (by kernel_rfl) rfl (exec_call Tryz.func53 (by kernel_rfl) (by kernel_rfl) _) ?_
          refine (CH.out _ hHeld.out).mono ?_
          rintro e u1 ⟨rfl, rfl⟩
          refine ⟨_, rfl, hHeld, ?_⟩
          simp only [Act.put, List.setIfInBounds_toArray, List.set_cons_zero, List.set_cons_succ]
          refine held_call 5 26 54 #[.slice M (l.length + 1) mc, .int .i64 (i : Int)] rfl rfl (by kernel_rfl) rfl (exec_call Tryz.func54 (by kernel_rfl) (by kernel_rfl) _) ?_
          refine (CT.out _ hHeld.out).mono ?_
          rintro e u1 ⟨rfl, rfl⟩
          refine ⟨_, rfl, hHeld, ?_⟩
          simp only [Act.put, List.setIfInBounds_toArray, List.set_cons_zero, List.set_cons_succ]
          refine held_op 6 27 (.int .i64 (H0 + T0)) rfl rfl (by kernel_rfl) rfl (exec_addI H0 T0 _ _ rfl (by omega) (by omega)) hHeld ?_
          simp only [Act.put, List.setIfInBounds_toArray, List.set_cons_zero, List.set_cons_succ]
          refine held_op 13 34 (.bool true) rfl rfl (by kernel_rfl) rfl (exec_gtrI (H0 + T0) S0 _ _ ed) hHeld ?_
          simp only [Act.put, List.setIfInBounds_toArray, List.set_cons_zero, List.set_cons_succ]
          refine wpAnyH_done (by kernel_rfl) ?_ _
          have bF := Lib.hid (BW.out.trans ((HB.out.trans (hHeld.out.mono HB.out.size)).mono BW.out.size))
          clear hHeld
          go_wp2
          go_ret
          exact ⟨⟨_, rfl⟩, bF.out⟩
        · have ed : decide (S0 < H0 + T0) = false := decide_eq_false hd
          clear hd
          rw [HC.out] at c12
          go_wp2_with fail
          refine wp_region_held_drew (S := fun w' => Hid (Below wr.heap.size wr w')) (by kernel_rfl) (below_drawn (Below.refl _ _) 1) (fun hHeld => ?_)
          refine held_take 0 21 (.slice M (l.length + 1) mc) rfl rfl (by kernel_rfl) (by kernel_rfl) (by kernel_rfl) (fun _ _ _ h => h) rfl hHeld (fun w _ => rfl) ?_
          refine held_take 1 22 (.int .i64 (i : Int)) rfl rfl (by kernel_rfl) (by kernel_rfl) (by kernel_rfl) (fun _ _ _ h => h) rfl hHeld (fun w _ => rfl) ?_
          refine held_take 3 24 (.slice M (l.length + 1) mc) rfl rfl (by kernel_rfl) (by kernel_rfl) (by kernel_rfl) (fun _ _ _ h => h) rfl hHeld (fun w _ => rfl) ?_
          simp only [Act.put, List.setIfInBounds_toArray, List.set_cons_zero, List.set_cons_succ]
          refine held_take 4 25 (.int .i64 (i : Int)) rfl rfl (by kernel_rfl) (by kernel_rfl) (by kernel_rfl) (fun _ _ _ h => h) rfl hHeld (fun w _ => rfl) ?_
          refine held_take 7 28 (.pointer (some ⟨w.heap.size, 0, none⟩)) rfl rfl (by kernel_rfl) (by kernel_rfl) (by kernel_rfl) (fun _ _ _ h => h) rfl hHeld (fun w _ => exec_fldHo _ 0 0 w (.inl ⟨rfl, rfl⟩)) ?_
          refine held_take 8 29 (.pointer (some ⟨w.heap.size, 0, none⟩)) rfl rfl (by kernel_rfl) (by kernel_rfl) (by kernel_rfl) (fun _ _ _ h => h) rfl hHeld (fun w _ => exec_fld0 _ w) ?_
          simp only [Act.put, List.setIfInBounds_toArray, List.set_cons_zero, List.set_cons_succ]
          refine held_take 9 30 (.slice (some ⟨sb, so, none⟩) x.r.seats.length x.rc) rfl rfl (by kernel_rfl) (by kernel_rfl) (by kernel_rfl) (fun _ _ _ h => h) rfl hHeld (fun w hS => exec_loadSl _ _ 0 _ _ _ w rfl (KR.out w hS.out)) ?_
          refine held_take 10 31 (.int .i64 (i : Int)) rfl rfl (by kernel_rfl) (by kernel_rfl) (by kernel_rfl) (fun _ _ _ h => h) rfl hHeld (fun w _ => rfl) ?_
          refine held_take 11 32 (.pointer (some ⟨sb, so + i, none⟩)) rfl rfl (by kernel_rfl) (by kernel_rfl) (by kernel_rfl) (fun _ _ _ h => h) rfl hHeld (fun w _ => exec_idxIv sb so x.r.seats.length x.rc i w hi) ?_
          simp only [Act.put, List.setIfInBounds_toArray, List.set_cons_zero, List.set_cons_succ]
          refine held_take 12 33 (.int .i64 S0) rfl rfl (by kernel_rfl) (by kernel_rfl) (by kernel_rfl) (fun _ _ _ h => h) rfl hHeld (fun w hS => exec_load1 3 sb (so + i) _ w (.inl rfl) (KS.out w hS.out)) ?_
          simp only [Act.put, List.setIfInBounds_toArray, List.set_cons_zero, List.set_cons_succ]
          refine held_call 2 23 53 #[.slice M (l.length + 1) mc, .int .i64 (i : Int)] rfl rfl (by kernel_rfl) rfl (exec_call Tryz.func53 (by kernel_rfl) (by kernel_rfl) _) ?_
          refine (CH.out _ hHeld.out).mono ?_
          rintro e u1 ⟨rfl, rfl⟩
          refine ⟨_, rfl, hHeld, ?_⟩
          simp only [Act.put, List.setIfInBounds_toArray, List.set_cons_zero, List.set_cons_succ]
          refine held_call 5 26 54 #[.slice M (l.length + 1) mc, .int .i64 (i : Int)] rfl rfl (by kernel_rfl) rfl (exec_call Tryz.func54 (by kernel_rfl) (by kernel_rfl) _) ?_
          refine (CT.out _ hHeld.out).mono ?_
          rintro e u1 ⟨rfl, rfl⟩
          refine ⟨_, rfl, hHeld, ?_⟩
          simp only [Act.put, List.setIfInBounds_toArray, List.set_cons_zero, List.set_cons_succ]
          refine held_op 6 27 (.int .i64 (H0 + T0)) rfl rfl (by kernel_rfl) rfl (exec_addI H0 T0 _ _ rfl (by omega) (by omega)) hHeld ?_
          simp only [Act.put, List.setIfInBounds_toArray, List.set_cons_zero, List.set_cons_succ]
          refine held_op 13 34 (.bool false) rfl rfl (by kernel_rfl) rfl (exec_gtrI (H0 + T0) S0 _ _ ed) hHeld ?_
          simp only [Act.put, List.setIfInBounds_toArray, List.set_cons_zero, List.set_cons_succ]
          refine wpAnyH_done (by kernel_rfl) ?_ _
          have bF := Lib.hid (HB.out.trans (hHeld.out.mono HB.out.size))
          clear hHeld
          go_wp2
          go_roundw
          case rel => exact ⟨i + 1, by omega, by go_num, bF.out⟩
          case measure => simp [intOf] <;> omega
      · rw [HC.out] at c12
        have bF := Lib.hid (BW.out.trans (hb.mono BW.out.size))
        clear hh hb
        go_wp2
        go_ret
        exact ⟨⟨_, rfl⟩, bF.out⟩
set_option maxRecDepth 100000 in
theorem exec_alloc_pt {ρ : Operand → Value} {o : Oper} (w : World) (ho : o.op = .alloc 26 := by rfl) :
    (execOp ρ o).run Tryz.prog w = .ok (.value (.pointer (some ⟨w.heap.size, 0, none⟩))) (w.alloc (.cells #[.int .i64 0, .int .i64 0, .int .i64 0, .int .i64 0, .int .i64 0, .int .i64 0, .int .i64 0, .int .i64 0, .int .i64 0, .int .i64 0] 26)) := by
  unfold execOp
  rw [ho]
  simp [go_sem]
theorem heap_newB {a X : World} {row : Option Nat} (h : a.grownBy X row) (o : Obj) : (X.alloc o).heap[X.heap.size]? = some o := heap_new X o
def putPt (w : World) (b : Nat) (p : Pt) : World := ((((((((((w.setCell ⟨b, 0, none⟩ (.int .i64 p.id)).setCell ⟨b, 1, none⟩ (.int .i64 p.cabin)).setCell ⟨b, 2, none⟩ (.int .i64 p.from_)).setCell ⟨b, 3, none⟩ (.int .i64 p.size)).setCell ⟨b, 4, none⟩ (.int .i64 p.tier)).setCell ⟨b, 5, none⟩ (.int .i64 p.since)).setCell ⟨b, 6, none⟩ (.int .i64 p.turn)).setCell ⟨b, 7, none⟩ (.int .i64 p.state)).setCell ⟨b, 8, none⟩ (.int .i64 p.until_)).setCell ⟨b, 9, none⟩ (.int .i64 p.asked))
theorem putPt_heap {w : World} {b : Nat} {p : Pt} {t : TypeId} (h : w.heap[b]? = some (.cells #[.int .i64 0, .int .i64 0, .int .i64 0, .int .i64 0, .int .i64 0, .int .i64 0, .int .i64 0, .int .i64 0, .int .i64 0, .int .i64 0] t (0, 0))) : (putPt w b p).heap[b]? = some (.cells #[.int .i64 p.id, .int .i64 p.cabin, .int .i64 p.from_, .int .i64 p.size, .int .i64 p.tier, .int .i64 p.since, .int .i64 p.turn, .int .i64 p.state, .int .i64 p.until_, .int .i64 p.asked] t (0, 0)) := by
  unfold putPt
  have h := Go.heap_setCell_same _ b 0 _ t (.int .i64 p.id) h
  have h := Go.heap_setCell_same _ b 1 _ t (.int .i64 p.cabin) h
  have h := Go.heap_setCell_same _ b 2 _ t (.int .i64 p.from_) h
  have h := Go.heap_setCell_same _ b 3 _ t (.int .i64 p.size) h
  have h := Go.heap_setCell_same _ b 4 _ t (.int .i64 p.tier) h
  have h := Go.heap_setCell_same _ b 5 _ t (.int .i64 p.since) h
  have h := Go.heap_setCell_same _ b 6 _ t (.int .i64 p.turn) h
  have h := Go.heap_setCell_same _ b 7 _ t (.int .i64 p.state) h
  have h := Go.heap_setCell_same _ b 8 _ t (.int .i64 p.until_) h
  have h := Go.heap_setCell_same _ b 9 _ t (.int .i64 p.asked) h
  simpa using h
theorem putPt_grown {a w : World} {g b : Nat} {p : Pt} (h : a.grownBy w (some g)) (hb : a.heap.size ≤ b) : a.grownBy (putPt w b p) (some g) := by
  unfold putPt
  exact grown_setD (grown_setD (grown_setD (grown_setD (grown_setD (grown_setD (grown_setD (grown_setD (grown_setD (grown_setD (h) b 0 _ hb) b 1 _ hb) b 2 _ hb) b 3 _ hb) b 4 _ hb) b 5 _ hb) b 6 _ hb) b 7 _ hb) b 8 _ hb) b 9 _ hb
theorem putPt_cur {w : World} {g : Nat} {A : Option Addr} {l : List Nat} {c b : Nat} {p : Pt} (h : Cur w g A l c) (hb : g < b) : Cur (putPt w b p) g A l c := by
  unfold putPt
  exact Cur.setCell (Cur.setCell (Cur.setCell (Cur.setCell (Cur.setCell (Cur.setCell (Cur.setCell (Cur.setCell (Cur.setCell (Cur.setCell (h) b 0 _ hb) b 1 _ hb) b 2 _ hb) b 3 _ hb) b 4 _ hb) b 5 _ hb) b 6 _ hb) b 7 _ hb) b 8 _ hb) b 9 _ hb
set_option maxRecDepth 100000 in
theorem exec_store_pt {ρ : Operand → Value} {o : Oper} {x y : Operand} (b : Nat) (p : Pt) (w : World) (h : w.heap[b]? = some (.cells #[.int .i64 0, .int .i64 0, .int .i64 0, .int .i64 0, .int .i64 0, .int .i64 0, .int .i64 0, .int .i64 0, .int .i64 0, .int .i64 0] 26 (0, 0))) (ho : o.op = .store 26 x y := by rfl) (hx : ρ x = .pointer (some ⟨b, 0, none⟩) := by rfl) (hy : ρ y = ptA p := by rfl) :
    (execOp ρ o).run Tryz.prog w = .ok .skip (putPt w b p) := by
  have c0 := cell_of_row _ _ 0 _ _ _ h
  have z0 := frozen_of_row _ _ 0 _ _ h
  have c1 := cell_of_row _ _ 1 _ _ _ h
  have z1 := frozen_of_row _ _ 1 _ _ h
  have c2 := cell_of_row _ _ 2 _ _ _ h
  have z2 := frozen_of_row _ _ 2 _ _ h
  have c3 := cell_of_row _ _ 3 _ _ _ h
  have z3 := frozen_of_row _ _ 3 _ _ h
  have c4 := cell_of_row _ _ 4 _ _ _ h
  have z4 := frozen_of_row _ _ 4 _ _ h
  have c5 := cell_of_row _ _ 5 _ _ _ h
  have z5 := frozen_of_row _ _ 5 _ _ h
  have c6 := cell_of_row _ _ 6 _ _ _ h
  have z6 := frozen_of_row _ _ 6 _ _ h
  have c7 := cell_of_row _ _ 7 _ _ _ h
  have z7 := frozen_of_row _ _ 7 _ _ h
  have c8 := cell_of_row _ _ 8 _ _ _ h
  have z8 := frozen_of_row _ _ 8 _ _ h
  have c9 := cell_of_row _ _ 9 _ _ _ h
  have z9 := frozen_of_row _ _ 9 _ _ h
  simp at c0 c1 c2 c3 c4 c5 c6 c7 c8 c9
  unfold execOp
  rw [ho]
  simp [go_sem, hx, hy, ptA, c0, c1, c2, c3, c4, c5, c6, c7, c8, c9, z0, z1, z2, z3, z4, z5, z6, z7, z8, z9, putPt]
set_option maxRecDepth 100000 in
theorem exec_build_pt {ρ : Operand → Value} {o : Oper} {a b c d e f : Operand} (p : Pt) (w : World) (hs : p.since = 0) (hu : p.until_ = 0) (ho : o.op = .build 26 #[(0, a), (1, b), (2, .const (.int .i64 (-1))), (3, c), (4, d), (6, e), (7, .const (.int .i64 1)), (9, f)] := by rfl) (h0 : ρ a = .int .i64 p.id := by rfl) (h1 : ρ b = .int .i64 p.cabin := by rfl) (h2 : ρ (.const (.int .i64 (-1))) = .int .i64 p.from_ := by rfl) (h3 : ρ c = .int .i64 p.size := by rfl) (h4 : ρ d = .int .i64 p.tier := by rfl) (h6 : ρ e = .int .i64 p.turn := by rfl) (h7 : ρ (.const (.int .i64 1)) = .int .i64 p.state := by rfl) (h9 : ρ f = .int .i64 p.asked := by rfl) :
    (execOp ρ o).run Tryz.prog w = .ok (.value (ptA p)) w := by
  unfold execOp
  rw [ho]
  simp [go_sem, h0, h1, h2, h3, h4, h6, h7, h9, ptA, hs, hu]
set_option maxRecDepth 100000 in
theorem exec_fldRu {ρ : Operand → Value} {o : Oper} {x : Operand} (b f : Nat) (w : World) (hf : f < 9) (ho : o.op = .fieldAddr 34 x f := by rfl) (hx : ρ x = .pointer (some ⟨b, 0, none⟩) := by rfl) :
    (execOp ρ o).run Tryz.prog w = .ok (.value (.pointer (some ⟨b, f, none⟩))) w := by
  unfold execOp
  rw [ho]
  match f, hf with
  | 0, _ | 1, _ | 2, _ | 3, _ | 4, _ | 5, _ | 6, _ | 7, _ | 8, _ => simp [go_sem, hx]
/-- What l6Right hands out. -/
def GotPt (w : World) (g : Nat) (A : Option Addr) (l : List Nat) (c : Nat) (e : Ending) (w' : World) : Prop := ∃ p : Pt, e = .returned (ptA p) ∧ Cur w' g A l c ∧ w.grownBy w' (some g)
set_option maxRecDepth 100000 in
set_option maxHeartbeats 12800000 in
theorem l6Right_any (A RA : Option Addr) (l : List Nat) (c g rc : Nat) (r : Ru) (now : Int) (w : World) (hl : l.length ≤ 2097152) (hb : AllB l) (hcw : Cur w g A l c) (hr : RuOk r) (hnow : 0 ≤ now ∧ now ≤ 1000) :
    Calls Tryz.prog 12 #[.pointer (some ⟨g, 0, none⟩), ruV RA rc r, .int .i64 now] w (GotPt w g A l c) := by
  obtain ⟨W, hW⟩ : ∃ W, (w.alloc (.cells #[.slice RA r.seats.length rc, .int .i64 r.tiers, .int .i64 r.room, .int .i64 r.size, .int .i64 r.period, .int .i64 r.window, .int .i64 r.rest, .int .i64 r.tries, .int .i64 r.crew] 34)).alloc (.cells #[.int .i64 0, .int .i64 0, .int .i64 0, .int .i64 0, .int .i64 0, .int .i64 0, .int .i64 0, .int .i64 0, .int .i64 0, .int .i64 0] 26) = W := ⟨_, rfl⟩
  have T0 : W.heap[w.heap.size]? = some (.cells #[.slice RA r.seats.length rc, .int .i64 r.tiers, .int .i64 r.room, .int .i64 r.size, .int .i64 r.period, .int .i64 r.window, .int .i64 r.rest, .int .i64 r.tries, .int .i64 r.crew] 34) ∧ W.heap[w.heap.size + 1]? = some (.cells #[.int .i64 0, .int .i64 0, .int .i64 0, .int .i64 0, .int .i64 0, .int .i64 0, .int .i64 0, .int .i64 0, .int .i64 0, .int .i64 0] 26) ∧ Below w.heap.size w W := by rw [← hW]; exact two_at w _ _ _ (Below.refl _ _)
  have hgw := hcw.lt
  have hcW : Cur W g A l c := by rw [← hW]; exact (hcw.alloc _).alloc _
  have gW : Hid (w.grownBy W (some g)) := by show World.grownBy _ _ _; rw [← hW]; exact grown_step (World.grownBy_alloc _ _ _) (World.grownBy_alloc _ _ none) (fun j h => by cases h)
  have hgW : g < W.heap.size := hcW.lt
  obtain ⟨n1, n2, seat, t, ro, s, p, wi, re, tr, cr⟩ := hr
  obtain ⟨NS, eS⟩ : ∃ n : Nat, r.size = (n : Int) := ⟨r.size.toNat, by omega⟩
  obtain ⟨NT, eT⟩ : ∃ n : Nat, r.tiers = (n : Int) := ⟨r.tiers.toNat, by omega⟩
  obtain ⟨NR, eR⟩ : ∃ n : Nat, r.tries = (n : Int) := ⟨r.tries.toNat, by omega⟩
  have ES := Lib.hid eS
  have ET := Lib.hid eT
  have ER := Lib.hid eR
  have hNS : 1 ≤ NS ∧ NS ≤ 6 := by omega
  have hNT : 1 ≤ NT ∧ NT ≤ 5 := by omega
  have hNR : 1 ≤ NR ∧ NR ≤ 4 := by omega
  clear eS eT eR
  have KR := Lib.hid (fun w' (h : W.grownBy w' (some g)) => (h.block _ (blk_lt T0.1) (fun e => by injection e with e; omega)).trans T0.1)
  have KZ := Lib.hid (fun w' (h : W.grownBy w' (some g)) => (h.block _ (blk_lt T0.2.1) (fun e => by injection e with e; omega)).trans T0.2.1)
  have ltW : w.heap.size + 1 < W.heap.size := blk_lt T0.2.1
  have HC := Lib.hid hcW
  clear T0 hcW hcw
  unfold ruV
  go_enter Tryz.func12, Tryz.ntmps12
  go_wp2_with fail
  clear hW
  have K0 := Lib.hid (fun w' (h : W.grownBy w' (some g)) => cell_of_row _ _ 0 _ _ _ (KR.out w' h))
  have K3 : Hid (∀ w', W.grownBy w' (some g) → w'.cell? ⟨w.heap.size, 3, none⟩ = some (.int .i64 (NS : Int))) := fun w' h => by have := cell_of_row _ _ 3 _ _ _ (KR.out w' h); simp at this; rw [this, ES.out]
  have K1 : Hid (∀ w', W.grownBy w' (some g) → w'.cell? ⟨w.heap.size, 1, none⟩ = some (.int .i64 (NT : Int))) := fun w' h => by have := cell_of_row _ _ 1 _ _ _ (KR.out w' h); simp at this; rw [this, ET.out]
  have K7 : Hid (∀ w', W.grownBy w' (some g) → w'.cell? ⟨w.heap.size, 7, none⟩ = some (.int .i64 (NR : Int))) := fun w' h => by have := cell_of_row _ _ 7 _ _ _ (KR.out w' h); simp at this; rw [this, ER.out]
  go_cut [7] (fun s7 wx => ∃ (gp : Nat) (p : Pt), s7 = .pointer (some ⟨gp, 0, none⟩) ∧ wx.heap[gp]? = some (.cells #[.int .i64 p.id, .int .i64 p.cabin, .int .i64 p.from_, .int .i64 p.size, .int .i64 p.tier, .int .i64 p.since, .int .i64 p.turn, .int .i64 p.state, .int .i64 p.until_, .int .i64 p.asked] 26) ∧ W.heap.size ≤ gp ∧ Cur wx g A l c ∧ W.grownBy wx (some g))
  case first =>
    refine wp_region_held_drew (S := fun w' => Hid (W.grownBy w' (some g))) (by kernel_rfl) (grown_of_below (below_drawn (Below.refl W.heap.size W) 1) _) (fun hHeld => ?_)
    have b0 := hHeld.out
    have hc0 : Cur W.drew g A l c := HC.out.mem (below_drawn (Below.refl _ _) 1)
    refine held_take 0 8 (.pointer (some ⟨g, 0, none⟩)) rfl rfl (by kernel_rfl) (by kernel_rfl) (by kernel_rfl) (fun _ _ _ h => h) rfl b0 (fun w _ => rfl) ?_
    refine held_take 3 11 (.pointer (some ⟨g, 0, none⟩)) rfl rfl (by kernel_rfl) (by kernel_rfl) (by kernel_rfl) (fun _ _ _ h => h) rfl b0 (fun w _ => rfl) ?_
    simp only [Act.put, List.setIfInBounds_toArray, List.set_cons_zero, List.set_cons_succ]
    refine held_take 8 16 (.pointer (some ⟨g, 0, none⟩)) rfl rfl (by kernel_rfl) (by kernel_rfl) (by kernel_rfl) (fun _ _ _ h => h) rfl b0 (fun w _ => rfl) ?_
    refine held_take 13 21 (.pointer (some ⟨g, 0, none⟩)) rfl rfl (by kernel_rfl) (by kernel_rfl) (by kernel_rfl) (fun _ _ _ h => h) rfl b0 (fun w _ => rfl) ?_
    simp only [Act.put, List.setIfInBounds_toArray, List.set_cons_zero, List.set_cons_succ]
    refine held_take 17 25 (.pointer (some ⟨g, 0, none⟩)) rfl rfl (by kernel_rfl) (by kernel_rfl) (by kernel_rfl) (fun _ _ _ h => h) rfl b0 (fun w _ => rfl) ?_
    refine held_take 20 28 (.pointer (some ⟨g, 0, none⟩)) rfl rfl (by kernel_rfl) (by kernel_rfl) (by kernel_rfl) (fun _ _ _ h => h) rfl b0 (fun w _ => rfl) ?_
    simp only [Act.put, List.setIfInBounds_toArray, List.set_cons_zero, List.set_cons_succ]
    refine held_take 4 12 (.pointer (some ⟨w.heap.size, 0, none⟩)) rfl rfl (by kernel_rfl) (by kernel_rfl) (by kernel_rfl) (fun _ _ _ h => h) rfl b0 (fun w _ => exec_fldRu _ 0 w (by omega)) ?_
    refine held_take 5 13 (.slice RA r.seats.length rc) rfl rfl (by kernel_rfl) (by kernel_rfl) (by kernel_rfl) (fun _ _ _ h => h) rfl b0 (fun w h => exec_loadSl _ _ 0 _ _ _ w rfl (K0.out w h.out)) ?_
    simp only [Act.put, List.setIfInBounds_toArray, List.set_cons_zero, List.set_cons_succ]
    refine held_take 6 14 (.int .i64 (r.seats.length : Nat)) rfl rfl (by kernel_rfl) (by kernel_rfl) (by kernel_rfl) (fun _ _ _ h => h) rfl b0 (fun w _ => exec_lenT rowInt _ _ _ w) ?_
    refine held_take 9 17 (.pointer (some ⟨w.heap.size, 3, none⟩)) rfl rfl (by kernel_rfl) (by kernel_rfl) (by kernel_rfl) (fun _ _ _ h => h) rfl b0 (fun w _ => exec_fldRu _ 3 w (by omega)) ?_
    simp only [Act.put, List.setIfInBounds_toArray, List.set_cons_zero, List.set_cons_succ]
    refine held_take 10 18 (.int .i64 (NS : Nat)) rfl rfl (by kernel_rfl) (by kernel_rfl) (by kernel_rfl) (fun _ _ _ h => h) rfl b0 (fun w h => exec_load1 3 _ 3 _ w (.inl rfl) (K3.out w h.out)) ?_
    refine held_take 14 22 (.pointer (some ⟨w.heap.size, 1, none⟩)) rfl rfl (by kernel_rfl) (by kernel_rfl) (by kernel_rfl) (fun _ _ _ h => h) rfl b0 (fun w _ => exec_fldRu _ 1 w (by omega)) ?_
    simp only [Act.put, List.setIfInBounds_toArray, List.set_cons_zero, List.set_cons_succ]
    refine held_take 15 23 (.int .i64 (NT : Nat)) rfl rfl (by kernel_rfl) (by kernel_rfl) (by kernel_rfl) (fun _ _ _ h => h) rfl b0 (fun w h => exec_load1 3 _ 1 _ w (.inl rfl) (K1.out w h.out)) ?_
    refine held_take 21 29 (.pointer (some ⟨w.heap.size, 7, none⟩)) rfl rfl (by kernel_rfl) (by kernel_rfl) (by kernel_rfl) (fun _ _ _ h => h) rfl b0 (fun w _ => exec_fldRu _ 7 w (by omega)) ?_
    simp only [Act.put, List.setIfInBounds_toArray, List.set_cons_zero, List.set_cons_succ]
    refine held_take 22 30 (.int .i64 (NR : Nat)) rfl rfl (by kernel_rfl) (by kernel_rfl) (by kernel_rfl) (fun _ _ _ h => h) rfl b0 (fun w h => exec_load1 3 _ 7 _ w (.inl rfl) (K7.out w h.out)) ?_
    simp only [Act.put, List.setIfInBounds_toArray, List.set_cons_zero, List.set_cons_succ]
    refine wpAnyH_ready (rs := [1, 25]) (by kernel_rfl) (by simp) (ready_call 1 9 21 #[.pointer (some ⟨g, 0, none⟩), .int .i64 (12 : Int)] rfl rfl rfl (exec_call Tryz.func21 (by kernel_rfl) (by kernel_rfl) _) ?_ (ready_op 25 7 _ rfl rfl rfl (exec_alloc_pt _) (grown_step b0 (World.grownBy_alloc _ _ none) (fun j h => by cases h)) ?_ AllReadyH.nil))
    · skip
      refine (l1Below_any A l c g 12 _ hl hb (by omega) (by omega) hc0).mono ?_
      rintro e v1 ⟨x1, hx1, rfl, hc1, gr1⟩
      have b1 := b0.trans gr1
      refine ⟨_, rfl, b1, ?_⟩
      simp only [Act.put, List.setIfInBounds_toArray, List.set_cons_zero, List.set_cons_succ]
      refine held_take 2 10 (.int .i64 (1 + (x1 : Int))) rfl rfl (by kernel_rfl) (by kernel_rfl) (by kernel_rfl) (fun _ _ _ h => h) rfl b1 (fun w _ => exec_addI 1 (x1 : Int) _ w rfl (by omega) (by omega)) ?_
      simp only [Act.put, List.setIfInBounds_toArray, List.set_cons_zero, List.set_cons_succ]
      refine wpAnyH_ready (rs := [7, 25]) (by kernel_rfl) (by simp) (ready_call 7 15 21 #[.pointer (some ⟨g, 0, none⟩), .int .i64 ((r.seats.length : Nat) : Int)] rfl rfl rfl (exec_call Tryz.func21 (by kernel_rfl) (by kernel_rfl) _) ?_ (ready_op 25 7 _ rfl rfl rfl (exec_alloc_pt _) (grown_step b1 (World.grownBy_alloc _ _ none) (fun j h => by cases h)) ?_ AllReadyH.nil))
      · skip
        refine (l1Below_any A l c g r.seats.length _ hl hb (by omega) (by omega) hc1).mono ?_
        rintro e v2 ⟨x2, hx2, rfl, hc2, gr2⟩
        have b2 := b1.trans gr2
        refine ⟨_, rfl, b2, ?_⟩
        simp only [Act.put, List.setIfInBounds_toArray, List.set_cons_zero, List.set_cons_succ]
        refine wpAnyH_ready (rs := [11, 25]) (by kernel_rfl) (by simp) (ready_call 11 19 21 #[.pointer (some ⟨g, 0, none⟩), .int .i64 ((NS : Nat) : Int)] rfl rfl rfl (exec_call Tryz.func21 (by kernel_rfl) (by kernel_rfl) _) ?_ (ready_op 25 7 _ rfl rfl rfl (exec_alloc_pt _) (grown_step b2 (World.grownBy_alloc _ _ none) (fun j h => by cases h)) ?_ AllReadyH.nil))
        · skip
          refine (l1Below_any A l c g NS _ hl hb (by omega) (by omega) hc2).mono ?_
          rintro e v3 ⟨x3, hx3, rfl, hc3, gr3⟩
          have b3 := b2.trans gr3
          refine ⟨_, rfl, b3, ?_⟩
          simp only [Act.put, List.setIfInBounds_toArray, List.set_cons_zero, List.set_cons_succ]
          refine held_take 12 20 (.int .i64 (1 + (x3 : Int))) rfl rfl (by kernel_rfl) (by kernel_rfl) (by kernel_rfl) (fun _ _ _ h => h) rfl b3 (fun w _ => exec_addI 1 (x3 : Int) _ w rfl (by omega) (by omega)) ?_
          simp only [Act.put, List.setIfInBounds_toArray, List.set_cons_zero, List.set_cons_succ]
          refine wpAnyH_ready (rs := [16, 25]) (by kernel_rfl) (by simp) (ready_call 16 24 21 #[.pointer (some ⟨g, 0, none⟩), .int .i64 ((NT : Nat) : Int)] rfl rfl rfl (exec_call Tryz.func21 (by kernel_rfl) (by kernel_rfl) _) ?_ (ready_op 25 7 _ rfl rfl rfl (exec_alloc_pt _) (grown_step b3 (World.grownBy_alloc _ _ none) (fun j h => by cases h)) ?_ AllReadyH.nil))
          · skip
            refine (l1Below_any A l c g NT _ hl hb (by omega) (by omega) hc3).mono ?_
            rintro e v4 ⟨x4, hx4, rfl, hc4, gr4⟩
            have b4 := b3.trans gr4
            refine ⟨_, rfl, b4, ?_⟩
            simp only [Act.put, List.setIfInBounds_toArray, List.set_cons_zero, List.set_cons_succ]
            refine wpAnyH_ready (rs := [18, 25]) (by kernel_rfl) (by simp) (ready_call 18 26 21 #[.pointer (some ⟨g, 0, none⟩), .int .i64 (40 : Int)] rfl rfl rfl (exec_call Tryz.func21 (by kernel_rfl) (by kernel_rfl) _) ?_ (ready_op 25 7 _ rfl rfl rfl (exec_alloc_pt _) (grown_step b4 (World.grownBy_alloc _ _ none) (fun j h => by cases h)) ?_ AllReadyH.nil))
            · skip
              refine (l1Below_any A l c g 40 _ hl hb (by omega) (by omega) hc4).mono ?_
              rintro e v5 ⟨x5, hx5, rfl, hc5, gr5⟩
              have b5 := b4.trans gr5
              refine ⟨_, rfl, b5, ?_⟩
              simp only [Act.put, List.setIfInBounds_toArray, List.set_cons_zero, List.set_cons_succ]
              refine held_take 19 27 (.int .i64 (1 + (x5 : Int))) rfl rfl (by kernel_rfl) (by kernel_rfl) (by kernel_rfl) (fun _ _ _ h => h) rfl b5 (fun w _ => exec_addI 1 (x5 : Int) _ w rfl (by omega) (by omega)) ?_
              simp only [Act.put, List.setIfInBounds_toArray, List.set_cons_zero, List.set_cons_succ]
              refine wpAnyH_ready (rs := [23, 25]) (by kernel_rfl) (by simp) (ready_call 23 31 21 #[.pointer (some ⟨g, 0, none⟩), .int .i64 ((NR : Nat) : Int)] rfl rfl rfl (exec_call Tryz.func21 (by kernel_rfl) (by kernel_rfl) _) ?_ (ready_op 25 7 _ rfl rfl rfl (exec_alloc_pt _) (grown_step b5 (World.grownBy_alloc _ _ none) (fun j h => by cases h)) ?_ AllReadyH.nil))
              · skip
                refine (l1Below_any A l c g NR _ hl hb (by omega) (by omega) hc5).mono ?_
                rintro e v6 ⟨x6, hx6, rfl, hc6, gr6⟩
                have b6 := b5.trans gr6
                refine ⟨_, rfl, b6, ?_⟩
                simp only [Act.put, List.setIfInBounds_toArray, List.set_cons_zero, List.set_cons_succ]
                refine held_take 24 32 (ptA (⟨1 + (x1 : Int), (x2 : Int), -1, 1 + (x3 : Int), (x4 : Int), 0, 1 + (x5 : Int), 1, 0, (x6 : Int)⟩ : Pt)) rfl rfl (by kernel_rfl) (by kernel_rfl) (by kernel_rfl) (fun _ _ _ h => h) rfl b6 (fun w _ => exec_build_pt (⟨1 + (x1 : Int), (x2 : Int), -1, 1 + (x3 : Int), (x4 : Int), 0, 1 + (x5 : Int), 1, 0, (x6 : Int)⟩ : Pt) w rfl rfl) ?_
                simp only [Act.put, List.setIfInBounds_toArray, List.set_cons_zero, List.set_cons_succ]
                refine held_op 25 7 _ rfl rfl (by kernel_rfl) rfl (exec_alloc_pt _) (grown_step b6 (World.grownBy_alloc _ _ none) (fun j h => by cases h)) ?_
                simp only [Act.put, List.setIfInBounds_toArray, List.set_cons_zero, List.set_cons_succ]
                have l7 := b6.size
                have b7 := grown_step b6 (World.grownBy_alloc _ (.cells #[.int .i64 0, .int .i64 0, .int .i64 0, .int .i64 0, .int .i64 0, .int .i64 0, .int .i64 0, .int .i64 0, .int .i64 0, .int .i64 0] 26) none) (fun j h => by cases h)
                have hc7 := hc6.alloc (.cells #[.int .i64 0, .int .i64 0, .int .i64 0, .int .i64 0, .int .i64 0, .int .i64 0, .int .i64 0, .int .i64 0, .int .i64 0, .int .i64 0] 26)
                have g7 := heap_newB b6 (.cells #[.int .i64 0, .int .i64 0, .int .i64 0, .int .i64 0, .int .i64 0, .int .i64 0, .int .i64 0, .int .i64 0, .int .i64 0, .int .i64 0] 26)
                refine held_store 26 rfl rfl (by kernel_rfl) rfl (exec_store_pt _ (⟨1 + (x1 : Int), (x2 : Int), -1, 1 + (x3 : Int), (x4 : Int), 0, 1 + (x5 : Int), 1, 0, (x6 : Int)⟩ : Pt) _ g7) (putPt_grown (p := (⟨1 + (x1 : Int), (x2 : Int), -1, 1 + (x3 : Int), (x4 : Int), 0, 1 + (x5 : Int), 1, 0, (x6 : Int)⟩ : Pt)) b7 l7) ?_
                refine wpAnyH_done (by kernel_rfl) ?_ _
                have h9 := putPt_heap (p := (⟨1 + (x1 : Int), (x2 : Int), -1, 1 + (x3 : Int), (x4 : Int), 0, 1 + (x5 : Int), 1, 0, (x6 : Int)⟩ : Pt)) g7
                have c9 := putPt_cur (p := (⟨1 + (x1 : Int), (x2 : Int), -1, 1 + (x3 : Int), (x4 : Int), 0, 1 + (x5 : Int), 1, 0, (x6 : Int)⟩ : Pt)) hc7 (Nat.lt_of_lt_of_le hgW l7)
                have b9 := putPt_grown (p := (⟨1 + (x1 : Int), (x2 : Int), -1, 1 + (x3 : Int), (x4 : Int), 0, 1 + (x5 : Int), 1, 0, (x6 : Int)⟩ : Pt)) b7 l7
                go_wp2_with fail
                go_meet
                exact ⟨_, (⟨1 + (x1 : Int), (x2 : Int), -1, 1 + (x3 : Int), (x4 : Int), 0, 1 + (x5 : Int), 1, 0, (x6 : Int)⟩ : Pt), rfl, h9, l7, c9, b9⟩
              · skip
                simp only [Act.put, List.setIfInBounds_toArray, List.set_cons_zero, List.set_cons_succ]
                have l8 := b5.size
                have b8 := grown_step b5 (World.grownBy_alloc _ (.cells #[.int .i64 0, .int .i64 0, .int .i64 0, .int .i64 0, .int .i64 0, .int .i64 0, .int .i64 0, .int .i64 0, .int .i64 0, .int .i64 0] 26) none) (fun j h => by cases h)
                have hc8 := hc5.alloc (.cells #[.int .i64 0, .int .i64 0, .int .i64 0, .int .i64 0, .int .i64 0, .int .i64 0, .int .i64 0, .int .i64 0, .int .i64 0, .int .i64 0] 26)
                have g8 := heap_newB b5 (.cells #[.int .i64 0, .int .i64 0, .int .i64 0, .int .i64 0, .int .i64 0, .int .i64 0, .int .i64 0, .int .i64 0, .int .i64 0, .int .i64 0] 26)
                refine held_call 23 31 21 #[.pointer (some ⟨g, 0, none⟩), .int .i64 ((NR : Nat) : Int)] rfl rfl (by kernel_rfl) rfl (exec_call Tryz.func21 (by kernel_rfl) (by kernel_rfl) _) ?_
                refine (l1Below_any A l c g NR _ hl hb (by omega) (by omega) hc8).mono ?_
                rintro e v9 ⟨x6, hx6, rfl, hc9, gr9⟩
                have b9 := b8.trans gr9
                have g9 := (gr9.block _ (blk_lt g8) (fun e => by injection e with e; omega)).trans g8
                refine ⟨_, rfl, b9, ?_⟩
                simp only [Act.put, List.setIfInBounds_toArray, List.set_cons_zero, List.set_cons_succ]
                refine held_take 24 32 (ptA (⟨1 + (x1 : Int), (x2 : Int), -1, 1 + (x3 : Int), (x4 : Int), 0, 1 + (x5 : Int), 1, 0, (x6 : Int)⟩ : Pt)) rfl rfl (by kernel_rfl) (by kernel_rfl) (by kernel_rfl) (fun _ _ _ h => h) rfl b9 (fun w _ => exec_build_pt (⟨1 + (x1 : Int), (x2 : Int), -1, 1 + (x3 : Int), (x4 : Int), 0, 1 + (x5 : Int), 1, 0, (x6 : Int)⟩ : Pt) w rfl rfl) ?_
                simp only [Act.put, List.setIfInBounds_toArray, List.set_cons_zero, List.set_cons_succ]
                refine held_store 26 rfl rfl (by kernel_rfl) rfl (exec_store_pt _ (⟨1 + (x1 : Int), (x2 : Int), -1, 1 + (x3 : Int), (x4 : Int), 0, 1 + (x5 : Int), 1, 0, (x6 : Int)⟩ : Pt) _ g9) (putPt_grown (p := (⟨1 + (x1 : Int), (x2 : Int), -1, 1 + (x3 : Int), (x4 : Int), 0, 1 + (x5 : Int), 1, 0, (x6 : Int)⟩ : Pt)) b9 l8) ?_
                refine wpAnyH_done (by kernel_rfl) ?_ _
                have h9 := putPt_heap (p := (⟨1 + (x1 : Int), (x2 : Int), -1, 1 + (x3 : Int), (x4 : Int), 0, 1 + (x5 : Int), 1, 0, (x6 : Int)⟩ : Pt)) g9
                have c9 := putPt_cur (p := (⟨1 + (x1 : Int), (x2 : Int), -1, 1 + (x3 : Int), (x4 : Int), 0, 1 + (x5 : Int), 1, 0, (x6 : Int)⟩ : Pt)) hc9 (Nat.lt_of_lt_of_le hgW l8)
                have b9 := putPt_grown (p := (⟨1 + (x1 : Int), (x2 : Int), -1, 1 + (x3 : Int), (x4 : Int), 0, 1 + (x5 : Int), 1, 0, (x6 : Int)⟩ : Pt)) b9 l8
                go_wp2_with fail
                go_meet
                exact ⟨_, (⟨1 + (x1 : Int), (x2 : Int), -1, 1 + (x3 : Int), (x4 : Int), 0, 1 + (x5 : Int), 1, 0, (x6 : Int)⟩ : Pt), rfl, h9, l8, c9, b9⟩
            · skip
              simp only [Act.put, List.setIfInBounds_toArray, List.set_cons_zero, List.set_cons_succ]
              have l10 := b4.size
              have b10 := grown_step b4 (World.grownBy_alloc _ (.cells #[.int .i64 0, .int .i64 0, .int .i64 0, .int .i64 0, .int .i64 0, .int .i64 0, .int .i64 0, .int .i64 0, .int .i64 0, .int .i64 0] 26) none) (fun j h => by cases h)
              have hc10 := hc4.alloc (.cells #[.int .i64 0, .int .i64 0, .int .i64 0, .int .i64 0, .int .i64 0, .int .i64 0, .int .i64 0, .int .i64 0, .int .i64 0, .int .i64 0] 26)
              have g10 := heap_newB b4 (.cells #[.int .i64 0, .int .i64 0, .int .i64 0, .int .i64 0, .int .i64 0, .int .i64 0, .int .i64 0, .int .i64 0, .int .i64 0, .int .i64 0] 26)
              refine held_call 18 26 21 #[.pointer (some ⟨g, 0, none⟩), .int .i64 (40 : Int)] rfl rfl (by kernel_rfl) rfl (exec_call Tryz.func21 (by kernel_rfl) (by kernel_rfl) _) ?_
              refine (l1Below_any A l c g 40 _ hl hb (by omega) (by omega) hc10).mono ?_
              rintro e v11 ⟨x5, hx5, rfl, hc11, gr11⟩
              have b11 := b10.trans gr11
              have g11 := (gr11.block _ (blk_lt g10) (fun e => by injection e with e; omega)).trans g10
              refine ⟨_, rfl, b11, ?_⟩
              simp only [Act.put, List.setIfInBounds_toArray, List.set_cons_zero, List.set_cons_succ]
              refine held_take 19 27 (.int .i64 (1 + (x5 : Int))) rfl rfl (by kernel_rfl) (by kernel_rfl) (by kernel_rfl) (fun _ _ _ h => h) rfl b11 (fun w _ => exec_addI 1 (x5 : Int) _ w rfl (by omega) (by omega)) ?_
              simp only [Act.put, List.setIfInBounds_toArray, List.set_cons_zero, List.set_cons_succ]
              refine held_call 23 31 21 #[.pointer (some ⟨g, 0, none⟩), .int .i64 ((NR : Nat) : Int)] rfl rfl (by kernel_rfl) rfl (exec_call Tryz.func21 (by kernel_rfl) (by kernel_rfl) _) ?_
              refine (l1Below_any A l c g NR _ hl hb (by omega) (by omega) hc11).mono ?_
              rintro e v12 ⟨x6, hx6, rfl, hc12, gr12⟩
              have b12 := b11.trans gr12
              have g12 := (gr12.block _ (blk_lt g11) (fun e => by injection e with e; omega)).trans g11
              refine ⟨_, rfl, b12, ?_⟩
              simp only [Act.put, List.setIfInBounds_toArray, List.set_cons_zero, List.set_cons_succ]
              refine held_take 24 32 (ptA (⟨1 + (x1 : Int), (x2 : Int), -1, 1 + (x3 : Int), (x4 : Int), 0, 1 + (x5 : Int), 1, 0, (x6 : Int)⟩ : Pt)) rfl rfl (by kernel_rfl) (by kernel_rfl) (by kernel_rfl) (fun _ _ _ h => h) rfl b12 (fun w _ => exec_build_pt (⟨1 + (x1 : Int), (x2 : Int), -1, 1 + (x3 : Int), (x4 : Int), 0, 1 + (x5 : Int), 1, 0, (x6 : Int)⟩ : Pt) w rfl rfl) ?_
              simp only [Act.put, List.setIfInBounds_toArray, List.set_cons_zero, List.set_cons_succ]
              refine held_store 26 rfl rfl (by kernel_rfl) rfl (exec_store_pt _ (⟨1 + (x1 : Int), (x2 : Int), -1, 1 + (x3 : Int), (x4 : Int), 0, 1 + (x5 : Int), 1, 0, (x6 : Int)⟩ : Pt) _ g12) (putPt_grown (p := (⟨1 + (x1 : Int), (x2 : Int), -1, 1 + (x3 : Int), (x4 : Int), 0, 1 + (x5 : Int), 1, 0, (x6 : Int)⟩ : Pt)) b12 l10) ?_
              refine wpAnyH_done (by kernel_rfl) ?_ _
              have h9 := putPt_heap (p := (⟨1 + (x1 : Int), (x2 : Int), -1, 1 + (x3 : Int), (x4 : Int), 0, 1 + (x5 : Int), 1, 0, (x6 : Int)⟩ : Pt)) g12
              have c9 := putPt_cur (p := (⟨1 + (x1 : Int), (x2 : Int), -1, 1 + (x3 : Int), (x4 : Int), 0, 1 + (x5 : Int), 1, 0, (x6 : Int)⟩ : Pt)) hc12 (Nat.lt_of_lt_of_le hgW l10)
              have b9 := putPt_grown (p := (⟨1 + (x1 : Int), (x2 : Int), -1, 1 + (x3 : Int), (x4 : Int), 0, 1 + (x5 : Int), 1, 0, (x6 : Int)⟩ : Pt)) b12 l10
              go_wp2_with fail
              go_meet
              exact ⟨_, (⟨1 + (x1 : Int), (x2 : Int), -1, 1 + (x3 : Int), (x4 : Int), 0, 1 + (x5 : Int), 1, 0, (x6 : Int)⟩ : Pt), rfl, h9, l10, c9, b9⟩
          · skip
            simp only [Act.put, List.setIfInBounds_toArray, List.set_cons_zero, List.set_cons_succ]
            have l13 := b3.size
            have b13 := grown_step b3 (World.grownBy_alloc _ (.cells #[.int .i64 0, .int .i64 0, .int .i64 0, .int .i64 0, .int .i64 0, .int .i64 0, .int .i64 0, .int .i64 0, .int .i64 0, .int .i64 0] 26) none) (fun j h => by cases h)
            have hc13 := hc3.alloc (.cells #[.int .i64 0, .int .i64 0, .int .i64 0, .int .i64 0, .int .i64 0, .int .i64 0, .int .i64 0, .int .i64 0, .int .i64 0, .int .i64 0] 26)
            have g13 := heap_newB b3 (.cells #[.int .i64 0, .int .i64 0, .int .i64 0, .int .i64 0, .int .i64 0, .int .i64 0, .int .i64 0, .int .i64 0, .int .i64 0, .int .i64 0] 26)
            refine held_call 16 24 21 #[.pointer (some ⟨g, 0, none⟩), .int .i64 ((NT : Nat) : Int)] rfl rfl (by kernel_rfl) rfl (exec_call Tryz.func21 (by kernel_rfl) (by kernel_rfl) _) ?_
            refine (l1Below_any A l c g NT _ hl hb (by omega) (by omega) hc13).mono ?_
            rintro e v14 ⟨x4, hx4, rfl, hc14, gr14⟩
            have b14 := b13.trans gr14
            have g14 := (gr14.block _ (blk_lt g13) (fun e => by injection e with e; omega)).trans g13
            refine ⟨_, rfl, b14, ?_⟩
            simp only [Act.put, List.setIfInBounds_toArray, List.set_cons_zero, List.set_cons_succ]
            refine held_call 18 26 21 #[.pointer (some ⟨g, 0, none⟩), .int .i64 (40 : Int)] rfl rfl (by kernel_rfl) rfl (exec_call Tryz.func21 (by kernel_rfl) (by kernel_rfl) _) ?_
            refine (l1Below_any A l c g 40 _ hl hb (by omega) (by omega) hc14).mono ?_
            rintro e v15 ⟨x5, hx5, rfl, hc15, gr15⟩
            have b15 := b14.trans gr15
            have g15 := (gr15.block _ (blk_lt g14) (fun e => by injection e with e; omega)).trans g14
            refine ⟨_, rfl, b15, ?_⟩
            simp only [Act.put, List.setIfInBounds_toArray, List.set_cons_zero, List.set_cons_succ]
            refine held_take 19 27 (.int .i64 (1 + (x5 : Int))) rfl rfl (by kernel_rfl) (by kernel_rfl) (by kernel_rfl) (fun _ _ _ h => h) rfl b15 (fun w _ => exec_addI 1 (x5 : Int) _ w rfl (by omega) (by omega)) ?_
            simp only [Act.put, List.setIfInBounds_toArray, List.set_cons_zero, List.set_cons_succ]
            refine held_call 23 31 21 #[.pointer (some ⟨g, 0, none⟩), .int .i64 ((NR : Nat) : Int)] rfl rfl (by kernel_rfl) rfl (exec_call Tryz.func21 (by kernel_rfl) (by kernel_rfl) _) ?_
            refine (l1Below_any A l c g NR _ hl hb (by omega) (by omega) hc15).mono ?_
            rintro e v16 ⟨x6, hx6, rfl, hc16, gr16⟩
            have b16 := b15.trans gr16
            have g16 := (gr16.block _ (blk_lt g15) (fun e => by injection e with e; omega)).trans g15
            refine ⟨_, rfl, b16, ?_⟩
            simp only [Act.put, List.setIfInBounds_toArray, List.set_cons_zero, List.set_cons_succ]
            refine held_take 24 32 (ptA (⟨1 + (x1 : Int), (x2 : Int), -1, 1 + (x3 : Int), (x4 : Int), 0, 1 + (x5 : Int), 1, 0, (x6 : Int)⟩ : Pt)) rfl rfl (by kernel_rfl) (by kernel_rfl) (by kernel_rfl) (fun _ _ _ h => h) rfl b16 (fun w _ => exec_build_pt (⟨1 + (x1 : Int), (x2 : Int), -1, 1 + (x3 : Int), (x4 : Int), 0, 1 + (x5 : Int), 1, 0, (x6 : Int)⟩ : Pt) w rfl rfl) ?_
            simp only [Act.put, List.setIfInBounds_toArray, List.set_cons_zero, List.set_cons_succ]
            refine held_store 26 rfl rfl (by kernel_rfl) rfl (exec_store_pt _ (⟨1 + (x1 : Int), (x2 : Int), -1, 1 + (x3 : Int), (x4 : Int), 0, 1 + (x5 : Int), 1, 0, (x6 : Int)⟩ : Pt) _ g16) (putPt_grown (p := (⟨1 + (x1 : Int), (x2 : Int), -1, 1 + (x3 : Int), (x4 : Int), 0, 1 + (x5 : Int), 1, 0, (x6 : Int)⟩ : Pt)) b16 l13) ?_
            refine wpAnyH_done (by kernel_rfl) ?_ _
            have h9 := putPt_heap (p := (⟨1 + (x1 : Int), (x2 : Int), -1, 1 + (x3 : Int), (x4 : Int), 0, 1 + (x5 : Int), 1, 0, (x6 : Int)⟩ : Pt)) g16
            have c9 := putPt_cur (p := (⟨1 + (x1 : Int), (x2 : Int), -1, 1 + (x3 : Int), (x4 : Int), 0, 1 + (x5 : Int), 1, 0, (x6 : Int)⟩ : Pt)) hc16 (Nat.lt_of_lt_of_le hgW l13)
            have b9 := putPt_grown (p := (⟨1 + (x1 : Int), (x2 : Int), -1, 1 + (x3 : Int), (x4 : Int), 0, 1 + (x5 : Int), 1, 0, (x6 : Int)⟩ : Pt)) b16 l13
            go_wp2_with fail
            go_meet
            exact ⟨_, (⟨1 + (x1 : Int), (x2 : Int), -1, 1 + (x3 : Int), (x4 : Int), 0, 1 + (x5 : Int), 1, 0, (x6 : Int)⟩ : Pt), rfl, h9, l13, c9, b9⟩
        · skip
          simp only [Act.put, List.setIfInBounds_toArray, List.set_cons_zero, List.set_cons_succ]
          have l17 := b2.size
          have b17 := grown_step b2 (World.grownBy_alloc _ (.cells #[.int .i64 0, .int .i64 0, .int .i64 0, .int .i64 0, .int .i64 0, .int .i64 0, .int .i64 0, .int .i64 0, .int .i64 0, .int .i64 0] 26) none) (fun j h => by cases h)
          have hc17 := hc2.alloc (.cells #[.int .i64 0, .int .i64 0, .int .i64 0, .int .i64 0, .int .i64 0, .int .i64 0, .int .i64 0, .int .i64 0, .int .i64 0, .int .i64 0] 26)
          have g17 := heap_newB b2 (.cells #[.int .i64 0, .int .i64 0, .int .i64 0, .int .i64 0, .int .i64 0, .int .i64 0, .int .i64 0, .int .i64 0, .int .i64 0, .int .i64 0] 26)
          refine held_call 11 19 21 #[.pointer (some ⟨g, 0, none⟩), .int .i64 ((NS : Nat) : Int)] rfl rfl (by kernel_rfl) rfl (exec_call Tryz.func21 (by kernel_rfl) (by kernel_rfl) _) ?_
          refine (l1Below_any A l c g NS _ hl hb (by omega) (by omega) hc17).mono ?_
          rintro e v18 ⟨x3, hx3, rfl, hc18, gr18⟩
          have b18 := b17.trans gr18
          have g18 := (gr18.block _ (blk_lt g17) (fun e => by injection e with e; omega)).trans g17
          refine ⟨_, rfl, b18, ?_⟩
          simp only [Act.put, List.setIfInBounds_toArray, List.set_cons_zero, List.set_cons_succ]
          refine held_take 12 20 (.int .i64 (1 + (x3 : Int))) rfl rfl (by kernel_rfl) (by kernel_rfl) (by kernel_rfl) (fun _ _ _ h => h) rfl b18 (fun w _ => exec_addI 1 (x3 : Int) _ w rfl (by omega) (by omega)) ?_
          simp only [Act.put, List.setIfInBounds_toArray, List.set_cons_zero, List.set_cons_succ]
          refine held_call 16 24 21 #[.pointer (some ⟨g, 0, none⟩), .int .i64 ((NT : Nat) : Int)] rfl rfl (by kernel_rfl) rfl (exec_call Tryz.func21 (by kernel_rfl) (by kernel_rfl) _) ?_
          refine (l1Below_any A l c g NT _ hl hb (by omega) (by omega) hc18).mono ?_
          rintro e v19 ⟨x4, hx4, rfl, hc19, gr19⟩
          have b19 := b18.trans gr19
          have g19 := (gr19.block _ (blk_lt g18) (fun e => by injection e with e; omega)).trans g18
          refine ⟨_, rfl, b19, ?_⟩
          simp only [Act.put, List.setIfInBounds_toArray, List.set_cons_zero, List.set_cons_succ]
          refine held_call 18 26 21 #[.pointer (some ⟨g, 0, none⟩), .int .i64 (40 : Int)] rfl rfl (by kernel_rfl) rfl (exec_call Tryz.func21 (by kernel_rfl) (by kernel_rfl) _) ?_
          refine (l1Below_any A l c g 40 _ hl hb (by omega) (by omega) hc19).mono ?_
          rintro e v20 ⟨x5, hx5, rfl, hc20, gr20⟩
          have b20 := b19.trans gr20
          have g20 := (gr20.block _ (blk_lt g19) (fun e => by injection e with e; omega)).trans g19
          refine ⟨_, rfl, b20, ?_⟩
          simp only [Act.put, List.setIfInBounds_toArray, List.set_cons_zero, List.set_cons_succ]
          refine held_take 19 27 (.int .i64 (1 + (x5 : Int))) rfl rfl (by kernel_rfl) (by kernel_rfl) (by kernel_rfl) (fun _ _ _ h => h) rfl b20 (fun w _ => exec_addI 1 (x5 : Int) _ w rfl (by omega) (by omega)) ?_
          simp only [Act.put, List.setIfInBounds_toArray, List.set_cons_zero, List.set_cons_succ]
          refine held_call 23 31 21 #[.pointer (some ⟨g, 0, none⟩), .int .i64 ((NR : Nat) : Int)] rfl rfl (by kernel_rfl) rfl (exec_call Tryz.func21 (by kernel_rfl) (by kernel_rfl) _) ?_
          refine (l1Below_any A l c g NR _ hl hb (by omega) (by omega) hc20).mono ?_
          rintro e v21 ⟨x6, hx6, rfl, hc21, gr21⟩
          have b21 := b20.trans gr21
          have g21 := (gr21.block _ (blk_lt g20) (fun e => by injection e with e; omega)).trans g20
          refine ⟨_, rfl, b21, ?_⟩
          simp only [Act.put, List.setIfInBounds_toArray, List.set_cons_zero, List.set_cons_succ]
          refine held_take 24 32 (ptA (⟨1 + (x1 : Int), (x2 : Int), -1, 1 + (x3 : Int), (x4 : Int), 0, 1 + (x5 : Int), 1, 0, (x6 : Int)⟩ : Pt)) rfl rfl (by kernel_rfl) (by kernel_rfl) (by kernel_rfl) (fun _ _ _ h => h) rfl b21 (fun w _ => exec_build_pt (⟨1 + (x1 : Int), (x2 : Int), -1, 1 + (x3 : Int), (x4 : Int), 0, 1 + (x5 : Int), 1, 0, (x6 : Int)⟩ : Pt) w rfl rfl) ?_
          simp only [Act.put, List.setIfInBounds_toArray, List.set_cons_zero, List.set_cons_succ]
          refine held_store 26 rfl rfl (by kernel_rfl) rfl (exec_store_pt _ (⟨1 + (x1 : Int), (x2 : Int), -1, 1 + (x3 : Int), (x4 : Int), 0, 1 + (x5 : Int), 1, 0, (x6 : Int)⟩ : Pt) _ g21) (putPt_grown (p := (⟨1 + (x1 : Int), (x2 : Int), -1, 1 + (x3 : Int), (x4 : Int), 0, 1 + (x5 : Int), 1, 0, (x6 : Int)⟩ : Pt)) b21 l17) ?_
          refine wpAnyH_done (by kernel_rfl) ?_ _
          have h9 := putPt_heap (p := (⟨1 + (x1 : Int), (x2 : Int), -1, 1 + (x3 : Int), (x4 : Int), 0, 1 + (x5 : Int), 1, 0, (x6 : Int)⟩ : Pt)) g21
          have c9 := putPt_cur (p := (⟨1 + (x1 : Int), (x2 : Int), -1, 1 + (x3 : Int), (x4 : Int), 0, 1 + (x5 : Int), 1, 0, (x6 : Int)⟩ : Pt)) hc21 (Nat.lt_of_lt_of_le hgW l17)
          have b9 := putPt_grown (p := (⟨1 + (x1 : Int), (x2 : Int), -1, 1 + (x3 : Int), (x4 : Int), 0, 1 + (x5 : Int), 1, 0, (x6 : Int)⟩ : Pt)) b21 l17
          go_wp2_with fail
          go_meet
          exact ⟨_, (⟨1 + (x1 : Int), (x2 : Int), -1, 1 + (x3 : Int), (x4 : Int), 0, 1 + (x5 : Int), 1, 0, (x6 : Int)⟩ : Pt), rfl, h9, l17, c9, b9⟩
      · skip
        simp only [Act.put, List.setIfInBounds_toArray, List.set_cons_zero, List.set_cons_succ]
        have l22 := b1.size
        have b22 := grown_step b1 (World.grownBy_alloc _ (.cells #[.int .i64 0, .int .i64 0, .int .i64 0, .int .i64 0, .int .i64 0, .int .i64 0, .int .i64 0, .int .i64 0, .int .i64 0, .int .i64 0] 26) none) (fun j h => by cases h)
        have hc22 := hc1.alloc (.cells #[.int .i64 0, .int .i64 0, .int .i64 0, .int .i64 0, .int .i64 0, .int .i64 0, .int .i64 0, .int .i64 0, .int .i64 0, .int .i64 0] 26)
        have g22 := heap_newB b1 (.cells #[.int .i64 0, .int .i64 0, .int .i64 0, .int .i64 0, .int .i64 0, .int .i64 0, .int .i64 0, .int .i64 0, .int .i64 0, .int .i64 0] 26)
        refine held_call 7 15 21 #[.pointer (some ⟨g, 0, none⟩), .int .i64 ((r.seats.length : Nat) : Int)] rfl rfl (by kernel_rfl) rfl (exec_call Tryz.func21 (by kernel_rfl) (by kernel_rfl) _) ?_
        refine (l1Below_any A l c g r.seats.length _ hl hb (by omega) (by omega) hc22).mono ?_
        rintro e v23 ⟨x2, hx2, rfl, hc23, gr23⟩
        have b23 := b22.trans gr23
        have g23 := (gr23.block _ (blk_lt g22) (fun e => by injection e with e; omega)).trans g22
        refine ⟨_, rfl, b23, ?_⟩
        simp only [Act.put, List.setIfInBounds_toArray, List.set_cons_zero, List.set_cons_succ]
        refine held_call 11 19 21 #[.pointer (some ⟨g, 0, none⟩), .int .i64 ((NS : Nat) : Int)] rfl rfl (by kernel_rfl) rfl (exec_call Tryz.func21 (by kernel_rfl) (by kernel_rfl) _) ?_
        refine (l1Below_any A l c g NS _ hl hb (by omega) (by omega) hc23).mono ?_
        rintro e v24 ⟨x3, hx3, rfl, hc24, gr24⟩
        have b24 := b23.trans gr24
        have g24 := (gr24.block _ (blk_lt g23) (fun e => by injection e with e; omega)).trans g23
        refine ⟨_, rfl, b24, ?_⟩
        simp only [Act.put, List.setIfInBounds_toArray, List.set_cons_zero, List.set_cons_succ]
        refine held_take 12 20 (.int .i64 (1 + (x3 : Int))) rfl rfl (by kernel_rfl) (by kernel_rfl) (by kernel_rfl) (fun _ _ _ h => h) rfl b24 (fun w _ => exec_addI 1 (x3 : Int) _ w rfl (by omega) (by omega)) ?_
        simp only [Act.put, List.setIfInBounds_toArray, List.set_cons_zero, List.set_cons_succ]
        refine held_call 16 24 21 #[.pointer (some ⟨g, 0, none⟩), .int .i64 ((NT : Nat) : Int)] rfl rfl (by kernel_rfl) rfl (exec_call Tryz.func21 (by kernel_rfl) (by kernel_rfl) _) ?_
        refine (l1Below_any A l c g NT _ hl hb (by omega) (by omega) hc24).mono ?_
        rintro e v25 ⟨x4, hx4, rfl, hc25, gr25⟩
        have b25 := b24.trans gr25
        have g25 := (gr25.block _ (blk_lt g24) (fun e => by injection e with e; omega)).trans g24
        refine ⟨_, rfl, b25, ?_⟩
        simp only [Act.put, List.setIfInBounds_toArray, List.set_cons_zero, List.set_cons_succ]
        refine held_call 18 26 21 #[.pointer (some ⟨g, 0, none⟩), .int .i64 (40 : Int)] rfl rfl (by kernel_rfl) rfl (exec_call Tryz.func21 (by kernel_rfl) (by kernel_rfl) _) ?_
        refine (l1Below_any A l c g 40 _ hl hb (by omega) (by omega) hc25).mono ?_
        rintro e v26 ⟨x5, hx5, rfl, hc26, gr26⟩
        have b26 := b25.trans gr26
        have g26 := (gr26.block _ (blk_lt g25) (fun e => by injection e with e; omega)).trans g25
        refine ⟨_, rfl, b26, ?_⟩
        simp only [Act.put, List.setIfInBounds_toArray, List.set_cons_zero, List.set_cons_succ]
        refine held_take 19 27 (.int .i64 (1 + (x5 : Int))) rfl rfl (by kernel_rfl) (by kernel_rfl) (by kernel_rfl) (fun _ _ _ h => h) rfl b26 (fun w _ => exec_addI 1 (x5 : Int) _ w rfl (by omega) (by omega)) ?_
        simp only [Act.put, List.setIfInBounds_toArray, List.set_cons_zero, List.set_cons_succ]
        refine held_call 23 31 21 #[.pointer (some ⟨g, 0, none⟩), .int .i64 ((NR : Nat) : Int)] rfl rfl (by kernel_rfl) rfl (exec_call Tryz.func21 (by kernel_rfl) (by kernel_rfl) _) ?_
        refine (l1Below_any A l c g NR _ hl hb (by omega) (by omega) hc26).mono ?_
        rintro e v27 ⟨x6, hx6, rfl, hc27, gr27⟩
        have b27 := b26.trans gr27
        have g27 := (gr27.block _ (blk_lt g26) (fun e => by injection e with e; omega)).trans g26
        refine ⟨_, rfl, b27, ?_⟩
        simp only [Act.put, List.setIfInBounds_toArray, List.set_cons_zero, List.set_cons_succ]
        refine held_take 24 32 (ptA (⟨1 + (x1 : Int), (x2 : Int), -1, 1 + (x3 : Int), (x4 : Int), 0, 1 + (x5 : Int), 1, 0, (x6 : Int)⟩ : Pt)) rfl rfl (by kernel_rfl) (by kernel_rfl) (by kernel_rfl) (fun _ _ _ h => h) rfl b27 (fun w _ => exec_build_pt (⟨1 + (x1 : Int), (x2 : Int), -1, 1 + (x3 : Int), (x4 : Int), 0, 1 + (x5 : Int), 1, 0, (x6 : Int)⟩ : Pt) w rfl rfl) ?_
        simp only [Act.put, List.setIfInBounds_toArray, List.set_cons_zero, List.set_cons_succ]
        refine held_store 26 rfl rfl (by kernel_rfl) rfl (exec_store_pt _ (⟨1 + (x1 : Int), (x2 : Int), -1, 1 + (x3 : Int), (x4 : Int), 0, 1 + (x5 : Int), 1, 0, (x6 : Int)⟩ : Pt) _ g27) (putPt_grown (p := (⟨1 + (x1 : Int), (x2 : Int), -1, 1 + (x3 : Int), (x4 : Int), 0, 1 + (x5 : Int), 1, 0, (x6 : Int)⟩ : Pt)) b27 l22) ?_
        refine wpAnyH_done (by kernel_rfl) ?_ _
        have h9 := putPt_heap (p := (⟨1 + (x1 : Int), (x2 : Int), -1, 1 + (x3 : Int), (x4 : Int), 0, 1 + (x5 : Int), 1, 0, (x6 : Int)⟩ : Pt)) g27
        have c9 := putPt_cur (p := (⟨1 + (x1 : Int), (x2 : Int), -1, 1 + (x3 : Int), (x4 : Int), 0, 1 + (x5 : Int), 1, 0, (x6 : Int)⟩ : Pt)) hc27 (Nat.lt_of_lt_of_le hgW l22)
        have b9 := putPt_grown (p := (⟨1 + (x1 : Int), (x2 : Int), -1, 1 + (x3 : Int), (x4 : Int), 0, 1 + (x5 : Int), 1, 0, (x6 : Int)⟩ : Pt)) b27 l22
        go_wp2_with fail
        go_meet
        exact ⟨_, (⟨1 + (x1 : Int), (x2 : Int), -1, 1 + (x3 : Int), (x4 : Int), 0, 1 + (x5 : Int), 1, 0, (x6 : Int)⟩ : Pt), rfl, h9, l22, c9, b9⟩
    · skip
      simp only [Act.put, List.setIfInBounds_toArray, List.set_cons_zero, List.set_cons_succ]
      have l28 := b0.size
      have b28 := grown_step b0 (World.grownBy_alloc _ (.cells #[.int .i64 0, .int .i64 0, .int .i64 0, .int .i64 0, .int .i64 0, .int .i64 0, .int .i64 0, .int .i64 0, .int .i64 0, .int .i64 0] 26) none) (fun j h => by cases h)
      have hc28 := hc0.alloc (.cells #[.int .i64 0, .int .i64 0, .int .i64 0, .int .i64 0, .int .i64 0, .int .i64 0, .int .i64 0, .int .i64 0, .int .i64 0, .int .i64 0] 26)
      have g28 := heap_newB b0 (.cells #[.int .i64 0, .int .i64 0, .int .i64 0, .int .i64 0, .int .i64 0, .int .i64 0, .int .i64 0, .int .i64 0, .int .i64 0, .int .i64 0] 26)
      refine held_call 1 9 21 #[.pointer (some ⟨g, 0, none⟩), .int .i64 (12 : Int)] rfl rfl (by kernel_rfl) rfl (exec_call Tryz.func21 (by kernel_rfl) (by kernel_rfl) _) ?_
      refine (l1Below_any A l c g 12 _ hl hb (by omega) (by omega) hc28).mono ?_
      rintro e v29 ⟨x1, hx1, rfl, hc29, gr29⟩
      have b29 := b28.trans gr29
      have g29 := (gr29.block _ (blk_lt g28) (fun e => by injection e with e; omega)).trans g28
      refine ⟨_, rfl, b29, ?_⟩
      simp only [Act.put, List.setIfInBounds_toArray, List.set_cons_zero, List.set_cons_succ]
      refine held_take 2 10 (.int .i64 (1 + (x1 : Int))) rfl rfl (by kernel_rfl) (by kernel_rfl) (by kernel_rfl) (fun _ _ _ h => h) rfl b29 (fun w _ => exec_addI 1 (x1 : Int) _ w rfl (by omega) (by omega)) ?_
      simp only [Act.put, List.setIfInBounds_toArray, List.set_cons_zero, List.set_cons_succ]
      refine held_call 7 15 21 #[.pointer (some ⟨g, 0, none⟩), .int .i64 ((r.seats.length : Nat) : Int)] rfl rfl (by kernel_rfl) rfl (exec_call Tryz.func21 (by kernel_rfl) (by kernel_rfl) _) ?_
      refine (l1Below_any A l c g r.seats.length _ hl hb (by omega) (by omega) hc29).mono ?_
      rintro e v30 ⟨x2, hx2, rfl, hc30, gr30⟩
      have b30 := b29.trans gr30
      have g30 := (gr30.block _ (blk_lt g29) (fun e => by injection e with e; omega)).trans g29
      refine ⟨_, rfl, b30, ?_⟩
      simp only [Act.put, List.setIfInBounds_toArray, List.set_cons_zero, List.set_cons_succ]
      refine held_call 11 19 21 #[.pointer (some ⟨g, 0, none⟩), .int .i64 ((NS : Nat) : Int)] rfl rfl (by kernel_rfl) rfl (exec_call Tryz.func21 (by kernel_rfl) (by kernel_rfl) _) ?_
      refine (l1Below_any A l c g NS _ hl hb (by omega) (by omega) hc30).mono ?_
      rintro e v31 ⟨x3, hx3, rfl, hc31, gr31⟩
      have b31 := b30.trans gr31
      have g31 := (gr31.block _ (blk_lt g30) (fun e => by injection e with e; omega)).trans g30
      refine ⟨_, rfl, b31, ?_⟩
      simp only [Act.put, List.setIfInBounds_toArray, List.set_cons_zero, List.set_cons_succ]
      refine held_take 12 20 (.int .i64 (1 + (x3 : Int))) rfl rfl (by kernel_rfl) (by kernel_rfl) (by kernel_rfl) (fun _ _ _ h => h) rfl b31 (fun w _ => exec_addI 1 (x3 : Int) _ w rfl (by omega) (by omega)) ?_
      simp only [Act.put, List.setIfInBounds_toArray, List.set_cons_zero, List.set_cons_succ]
      refine held_call 16 24 21 #[.pointer (some ⟨g, 0, none⟩), .int .i64 ((NT : Nat) : Int)] rfl rfl (by kernel_rfl) rfl (exec_call Tryz.func21 (by kernel_rfl) (by kernel_rfl) _) ?_
      refine (l1Below_any A l c g NT _ hl hb (by omega) (by omega) hc31).mono ?_
      rintro e v32 ⟨x4, hx4, rfl, hc32, gr32⟩
      have b32 := b31.trans gr32
      have g32 := (gr32.block _ (blk_lt g31) (fun e => by injection e with e; omega)).trans g31
      refine ⟨_, rfl, b32, ?_⟩
      simp only [Act.put, List.setIfInBounds_toArray, List.set_cons_zero, List.set_cons_succ]
      refine held_call 18 26 21 #[.pointer (some ⟨g, 0, none⟩), .int .i64 (40 : Int)] rfl rfl (by kernel_rfl) rfl (exec_call Tryz.func21 (by kernel_rfl) (by kernel_rfl) _) ?_
      refine (l1Below_any A l c g 40 _ hl hb (by omega) (by omega) hc32).mono ?_
      rintro e v33 ⟨x5, hx5, rfl, hc33, gr33⟩
      have b33 := b32.trans gr33
      have g33 := (gr33.block _ (blk_lt g32) (fun e => by injection e with e; omega)).trans g32
      refine ⟨_, rfl, b33, ?_⟩
      simp only [Act.put, List.setIfInBounds_toArray, List.set_cons_zero, List.set_cons_succ]
      refine held_take 19 27 (.int .i64 (1 + (x5 : Int))) rfl rfl (by kernel_rfl) (by kernel_rfl) (by kernel_rfl) (fun _ _ _ h => h) rfl b33 (fun w _ => exec_addI 1 (x5 : Int) _ w rfl (by omega) (by omega)) ?_
      simp only [Act.put, List.setIfInBounds_toArray, List.set_cons_zero, List.set_cons_succ]
      refine held_call 23 31 21 #[.pointer (some ⟨g, 0, none⟩), .int .i64 ((NR : Nat) : Int)] rfl rfl (by kernel_rfl) rfl (exec_call Tryz.func21 (by kernel_rfl) (by kernel_rfl) _) ?_
      refine (l1Below_any A l c g NR _ hl hb (by omega) (by omega) hc33).mono ?_
      rintro e v34 ⟨x6, hx6, rfl, hc34, gr34⟩
      have b34 := b33.trans gr34
      have g34 := (gr34.block _ (blk_lt g33) (fun e => by injection e with e; omega)).trans g33
      refine ⟨_, rfl, b34, ?_⟩
      simp only [Act.put, List.setIfInBounds_toArray, List.set_cons_zero, List.set_cons_succ]
      refine held_take 24 32 (ptA (⟨1 + (x1 : Int), (x2 : Int), -1, 1 + (x3 : Int), (x4 : Int), 0, 1 + (x5 : Int), 1, 0, (x6 : Int)⟩ : Pt)) rfl rfl (by kernel_rfl) (by kernel_rfl) (by kernel_rfl) (fun _ _ _ h => h) rfl b34 (fun w _ => exec_build_pt (⟨1 + (x1 : Int), (x2 : Int), -1, 1 + (x3 : Int), (x4 : Int), 0, 1 + (x5 : Int), 1, 0, (x6 : Int)⟩ : Pt) w rfl rfl) ?_
      simp only [Act.put, List.setIfInBounds_toArray, List.set_cons_zero, List.set_cons_succ]
      refine held_store 26 rfl rfl (by kernel_rfl) rfl (exec_store_pt _ (⟨1 + (x1 : Int), (x2 : Int), -1, 1 + (x3 : Int), (x4 : Int), 0, 1 + (x5 : Int), 1, 0, (x6 : Int)⟩ : Pt) _ g34) (putPt_grown (p := (⟨1 + (x1 : Int), (x2 : Int), -1, 1 + (x3 : Int), (x4 : Int), 0, 1 + (x5 : Int), 1, 0, (x6 : Int)⟩ : Pt)) b34 l28) ?_
      refine wpAnyH_done (by kernel_rfl) ?_ _
      have h9 := putPt_heap (p := (⟨1 + (x1 : Int), (x2 : Int), -1, 1 + (x3 : Int), (x4 : Int), 0, 1 + (x5 : Int), 1, 0, (x6 : Int)⟩ : Pt)) g34
      have c9 := putPt_cur (p := (⟨1 + (x1 : Int), (x2 : Int), -1, 1 + (x3 : Int), (x4 : Int), 0, 1 + (x5 : Int), 1, 0, (x6 : Int)⟩ : Pt)) hc34 (Nat.lt_of_lt_of_le hgW l28)
      have b9 := putPt_grown (p := (⟨1 + (x1 : Int), (x2 : Int), -1, 1 + (x3 : Int), (x4 : Int), 0, 1 + (x5 : Int), 1, 0, (x6 : Int)⟩ : Pt)) b34 l28
      go_wp2_with fail
      go_meet
      exact ⟨_, (⟨1 + (x1 : Int), (x2 : Int), -1, 1 + (x3 : Int), (x4 : Int), 0, 1 + (x5 : Int), 1, 0, (x6 : Int)⟩ : Pt), rfl, h9, l28, c9, b9⟩
  case rest =>
    obtain ⟨gp, p, rfl, hp, hgp, hc, gr⟩ := hcut
    clear K0 K1 K3 K7 HC
    go_wp2_with (go_at_call 24; (refine (l1In_yes _ _ _ _ (by omega)).mono ?_; rintro e w' ⟨rfl, rfl⟩))
    have C1 := l1Below_any A l c g ((now + 1)).toNat _ hl hb (by omega) (by omega) hc
    rw [Int.toNat_of_nonneg (show 0 ≤ (now + 1) by omega)] at C1
    refine C1.mono ?_
    rintro e v1 ⟨y1, hy1, rfl, hd1, gs1⟩
    clear C1
    have gr1 := gr.trans gs1
    have hp1 := (gs1.block _ (blk_lt hp) (fun e => by injection e with e; omega)).trans hp
    clear hp hc gr gs1
    have c2 := cell_of_row _ _ 5 _ _ _ hp1
    have z2 := frozen_of_row _ _ 5 _ _ hp1
    simp at c2
    have hq2 : Hid ((World.setCell _ ⟨gp, 5, none⟩ (.int .i64 (y1 : Int))).heap[gp]? = some (Obj.cells #[.int .i64 p.id, .int .i64 p.cabin, .int .i64 p.from_, .int .i64 p.size, .int .i64 p.tier, .int .i64 (y1 : Int), .int .i64 p.turn, .int .i64 p.state, .int .i64 p.until_, .int .i64 p.asked] 26)) := Go.heap_setCell_same _ gp 5 _ _ (.int .i64 (y1 : Int)) hp1
    have hk2 := Lib.hid (Cur.setCell hd1 gp 5 (.int .i64 (y1 : Int)) (by omega))
    have hr2 := Lib.hid (grown_setD gr1 gp 5 (.int .i64 (y1 : Int)) hgp)
    clear hp1 hd1 gr1
    go_wp2_with fail
    clear c2 z2
    have hp3 := hq2.out
    have hd3 := hk2.out
    have gr3 := hr2.out
    clear hq2 hk2 hr2
    refine (l1Once_any A l c g 3 _ hl hb (by omega) (by omega) hd3).mono ?_
    rintro e v4 ⟨d4, rfl, hd4, gs4⟩
    have gr4 := gr3.trans gs4
    have hp4 := (gs4.block _ (blk_lt hp3) (fun e => by injection e with e; omega)).trans hp3
    clear hp3 hd3 gr3 gs4
    cases d4
    · skip
      have HP5 := Lib.hid hp4
      have HD5 := Lib.hid hd4
      have HG5 := Lib.hid gr4
      clear hp4 hd4 gr4
      go_wp2_with fail
      have hp6 := HP5.out
      have hd6 := HD5.out
      have gr6 := HG5.out
      clear HP5 HD5 HG5
      refine (l1Once_any A l c g 3 _ hl hb (by omega) (by omega) hd6).mono ?_
      rintro e v7 ⟨d7, rfl, hd7, gs7⟩
      have gr7 := gr6.trans gs7
      have hp7 := (gs7.block _ (blk_lt hp6) (fun e => by injection e with e; omega)).trans hp6
      clear hp6 hd6 gr6 gs7
      cases d7
      · skip
        have HP8 := Lib.hid hp7
        have HD8 := Lib.hid hd7
        have HG8 := Lib.hid gr7
        clear hp7 hd7 gr7
        go_wp2_with fail
        have hp9 := HP8.out
        have hd9 := HD8.out
        have gr9 := HG8.out
        clear HP8 HD8 HG8
        refine (l1Once_any A l c g 4 _ hl hb (by omega) (by omega) hd9).mono ?_
        rintro e v10 ⟨d10, rfl, hd10, gs10⟩
        have gr10 := gr9.trans gs10
        have hp10 := (gs10.block _ (blk_lt hp9) (fun e => by injection e with e; omega)).trans hp9
        clear hp9 hd9 gr9 gs10
        cases d10
        · skip
          have a0 := cell_of_row _ _ 0 _ _ _ (hp10)
          have a1 := cell_of_row _ _ 1 _ _ _ (hp10)
          have a2 := cell_of_row _ _ 2 _ _ _ (hp10)
          have a3 := cell_of_row _ _ 3 _ _ _ (hp10)
          have a4 := cell_of_row _ _ 4 _ _ _ (hp10)
          have a5 := cell_of_row _ _ 5 _ _ _ (hp10)
          have a6 := cell_of_row _ _ 6 _ _ _ (hp10)
          have a7 := cell_of_row _ _ 7 _ _ _ (hp10)
          have a8 := cell_of_row _ _ 8 _ _ _ (hp10)
          have a9 := cell_of_row _ _ 9 _ _ _ (hp10)
          have hz := KZ.out _ (gr10)
          have e0 := cell_of_row _ _ 0 _ _ _ hz
          have f0 := frozen_of_row _ _ 0 _ _ hz
          have e1 := cell_of_row _ _ 1 _ _ _ hz
          have f1 := frozen_of_row _ _ 1 _ _ hz
          have e2 := cell_of_row _ _ 2 _ _ _ hz
          have f2 := frozen_of_row _ _ 2 _ _ hz
          have e3 := cell_of_row _ _ 3 _ _ _ hz
          have f3 := frozen_of_row _ _ 3 _ _ hz
          have e4 := cell_of_row _ _ 4 _ _ _ hz
          have f4 := frozen_of_row _ _ 4 _ _ hz
          have e5 := cell_of_row _ _ 5 _ _ _ hz
          have f5 := frozen_of_row _ _ 5 _ _ hz
          have e6 := cell_of_row _ _ 6 _ _ _ hz
          have f6 := frozen_of_row _ _ 6 _ _ hz
          have e7 := cell_of_row _ _ 7 _ _ _ hz
          have f7 := frozen_of_row _ _ 7 _ _ hz
          have e8 := cell_of_row _ _ 8 _ _ _ hz
          have f8 := frozen_of_row _ _ 8 _ _ hz
          have e9 := cell_of_row _ _ 9 _ _ _ hz
          have f9 := frozen_of_row _ _ 9 _ _ hz
          simp at a0 a1 a2 a3 a4 a5 a6 a7 a8 a9 e0 e1 e2 e3 e4 e5 e6 e7 e8 e9
          have HN : Hid (GotPt w g A l c (.returned (ptA (⟨p.id, p.cabin, p.from_, p.size, p.tier, (y1 : Int), p.turn, p.state, p.until_, p.asked⟩ : Pt))) (putPt _ (w.heap.size + 1) (⟨p.id, p.cabin, p.from_, p.size, p.tier, (y1 : Int), p.turn, p.state, p.until_, p.asked⟩ : Pt))) := ⟨_, rfl, putPt_cur (hd10) (by omega), putPt_grown (gW.out.trans (gr10)) (by omega)⟩
          clear hz
          unfold ptA putPt at HN
          go_wp2
          simp [bodyPost, results, Tryz.results12, go_sem, e0, e1, e2, e3, e4, e5, e6, e7, e8, e9]
          exact HN.out
        · skip
          have k11 := cell_of_row _ _ 0 _ _ _ (KR.out _ gr10)
          simp at k11
          have HP12 := Lib.hid hp10
          have HD12 := Lib.hid hd10
          have HG12 := Lib.hid gr10
          clear hp10 hd10 gr10
          go_wp2_with fail
          have hp13 := HP12.out
          have hd13 := HD12.out
          have gr13 := HG12.out
          clear HP12 HD12 HG12
          clear k11
          refine (l1Below_any A l c g r.seats.length _ hl hb (by omega) (by omega) hd13).mono ?_
          rintro e v14 ⟨y14, hy14, rfl, hd14, gs14⟩
          have gr14 := gr13.trans gs14
          have hp14 := (gs14.block _ (blk_lt hp13) (fun e => by injection e with e; omega)).trans hp13
          clear hp13 hd13 gr13 gs14
          have c15 := cell_of_row _ _ 2 _ _ _ hp14
          have z15 := frozen_of_row _ _ 2 _ _ hp14
          simp at c15
          have hq15 : Hid ((World.setCell _ ⟨gp, 2, none⟩ (.int .i64 (y14 : Int))).heap[gp]? = some (Obj.cells #[.int .i64 p.id, .int .i64 p.cabin, .int .i64 (y14 : Int), .int .i64 p.size, .int .i64 p.tier, .int .i64 (y1 : Int), .int .i64 p.turn, .int .i64 p.state, .int .i64 p.until_, .int .i64 p.asked] 26)) := Go.heap_setCell_same _ gp 2 _ _ (.int .i64 (y14 : Int)) hp14
          have hk15 := Lib.hid (Cur.setCell hd14 gp 2 (.int .i64 (y14 : Int)) (by omega))
          have hr15 := Lib.hid (grown_setD gr14 gp 2 (.int .i64 (y14 : Int)) hgp)
          clear hp14 hd14 gr14
          obtain ⟨U, eU⟩ : ∃ U, v14.setCell ⟨gp, 2, none⟩ (.int .i64 (y14 : Int)) = U := ⟨_, rfl⟩
          rw [eU] at hq15 hk15 hr15
          have a0 := cell_of_row _ _ 0 _ _ _ (hq15.out)
          have a1 := cell_of_row _ _ 1 _ _ _ (hq15.out)
          have a2 := cell_of_row _ _ 2 _ _ _ (hq15.out)
          have a3 := cell_of_row _ _ 3 _ _ _ (hq15.out)
          have a4 := cell_of_row _ _ 4 _ _ _ (hq15.out)
          have a5 := cell_of_row _ _ 5 _ _ _ (hq15.out)
          have a6 := cell_of_row _ _ 6 _ _ _ (hq15.out)
          have a7 := cell_of_row _ _ 7 _ _ _ (hq15.out)
          have a8 := cell_of_row _ _ 8 _ _ _ (hq15.out)
          have a9 := cell_of_row _ _ 9 _ _ _ (hq15.out)
          have hz := KZ.out _ (hr15.out)
          have e0 := cell_of_row _ _ 0 _ _ _ hz
          have f0 := frozen_of_row _ _ 0 _ _ hz
          have e1 := cell_of_row _ _ 1 _ _ _ hz
          have f1 := frozen_of_row _ _ 1 _ _ hz
          have e2 := cell_of_row _ _ 2 _ _ _ hz
          have f2 := frozen_of_row _ _ 2 _ _ hz
          have e3 := cell_of_row _ _ 3 _ _ _ hz
          have f3 := frozen_of_row _ _ 3 _ _ hz
          have e4 := cell_of_row _ _ 4 _ _ _ hz
          have f4 := frozen_of_row _ _ 4 _ _ hz
          have e5 := cell_of_row _ _ 5 _ _ _ hz
          have f5 := frozen_of_row _ _ 5 _ _ hz
          have e6 := cell_of_row _ _ 6 _ _ _ hz
          have f6 := frozen_of_row _ _ 6 _ _ hz
          have e7 := cell_of_row _ _ 7 _ _ _ hz
          have f7 := frozen_of_row _ _ 7 _ _ hz
          have e8 := cell_of_row _ _ 8 _ _ _ hz
          have f8 := frozen_of_row _ _ 8 _ _ hz
          have e9 := cell_of_row _ _ 9 _ _ _ hz
          have f9 := frozen_of_row _ _ 9 _ _ hz
          simp at a0 a1 a2 a3 a4 a5 a6 a7 a8 a9 e0 e1 e2 e3 e4 e5 e6 e7 e8 e9
          have HN : Hid (GotPt w g A l c (.returned (ptA (⟨p.id, p.cabin, (y14 : Int), p.size, p.tier, (y1 : Int), p.turn, p.state, p.until_, p.asked⟩ : Pt))) (putPt _ (w.heap.size + 1) (⟨p.id, p.cabin, (y14 : Int), p.size, p.tier, (y1 : Int), p.turn, p.state, p.until_, p.asked⟩ : Pt))) := ⟨_, rfl, putPt_cur (hk15.out) (by omega), putPt_grown (gW.out.trans (hr15.out)) (by omega)⟩
          clear hz
          unfold ptA putPt at HN
          go_wp2
          simp [bodyPost, results, Tryz.results12, go_sem, e0, e1, e2, e3, e4, e5, e6, e7, e8, e9]
          exact HN.out
      · skip
        have k16 := cell_of_row _ _ 5 _ _ _ (KR.out _ gr7)
        simp at k16
        have c17 := cell_of_row _ _ 7 _ _ _ hp7
        have z17 := frozen_of_row _ _ 7 _ _ hp7
        simp at c17
        have hq17 : Hid ((World.setCell _ ⟨gp, 7, none⟩ (.int .i64 2)).heap[gp]? = some (Obj.cells #[.int .i64 p.id, .int .i64 p.cabin, .int .i64 p.from_, .int .i64 p.size, .int .i64 p.tier, .int .i64 (y1 : Int), .int .i64 p.turn, .int .i64 2, .int .i64 p.until_, .int .i64 p.asked] 26)) := Go.heap_setCell_same _ gp 7 _ _ (.int .i64 2) hp7
        have hk17 := Lib.hid (Cur.setCell hd7 gp 7 (.int .i64 2) (by omega))
        have hr17 := Lib.hid (grown_setD gr7 gp 7 (.int .i64 2) hgp)
        clear hp7 hd7 gr7
        have k2 := cell_of_row _ _ 5 _ _ _ (KR.out _ hr17.out)
        simp at k2
        go_wp2_with fail
        clear c17 z17
        have hp18 := hq17.out
        have hd18 := hk17.out
        have gr18 := hr17.out
        clear hq17 hk17 hr17
        clear k2 k16
        have C19 := l1Below_any A l c g ((now + r.window)).toNat _ hl hb (by omega) (by omega) hd18
        rw [Int.toNat_of_nonneg (show 0 ≤ (now + r.window) by omega)] at C19
        refine C19.mono ?_
        rintro e v19 ⟨y19, hy19, rfl, hd19, gs19⟩
        clear C19
        have gr19 := gr18.trans gs19
        have hp19 := (gs19.block _ (blk_lt hp18) (fun e => by injection e with e; omega)).trans hp18
        clear hp18 hd18 gr18 gs19
        have c20 := cell_of_row _ _ 8 _ _ _ hp19
        have z20 := frozen_of_row _ _ 8 _ _ hp19
        simp at c20
        have hq20 : Hid ((World.setCell _ ⟨gp, 8, none⟩ (.int .i64 (1 + (y19 : Int)))).heap[gp]? = some (Obj.cells #[.int .i64 p.id, .int .i64 p.cabin, .int .i64 p.from_, .int .i64 p.size, .int .i64 p.tier, .int .i64 (y1 : Int), .int .i64 p.turn, .int .i64 2, .int .i64 (1 + (y19 : Int)), .int .i64 p.asked] 26)) := Go.heap_setCell_same _ gp 8 _ _ (.int .i64 (1 + (y19 : Int))) hp19
        have hk20 := Lib.hid (Cur.setCell hd19 gp 8 (.int .i64 (1 + (y19 : Int))) (by omega))
        have hr20 := Lib.hid (grown_setD gr19 gp 8 (.int .i64 (1 + (y19 : Int))) hgp)
        clear hp19 hd19 gr19
        go_wp2_with fail
        clear c20 z20
        have hp21 := hq20.out
        have hd21 := hk20.out
        have gr21 := hr20.out
        clear hq20 hk20 hr20
        refine (l1Once_any A l c g 4 _ hl hb (by omega) (by omega) hd21).mono ?_
        rintro e v22 ⟨d22, rfl, hd22, gs22⟩
        have gr22 := gr21.trans gs22
        have hp22 := (gs22.block _ (blk_lt hp21) (fun e => by injection e with e; omega)).trans hp21
        clear hp21 hd21 gr21 gs22
        cases d22
        · skip
          have a0 := cell_of_row _ _ 0 _ _ _ (hp22)
          have a1 := cell_of_row _ _ 1 _ _ _ (hp22)
          have a2 := cell_of_row _ _ 2 _ _ _ (hp22)
          have a3 := cell_of_row _ _ 3 _ _ _ (hp22)
          have a4 := cell_of_row _ _ 4 _ _ _ (hp22)
          have a5 := cell_of_row _ _ 5 _ _ _ (hp22)
          have a6 := cell_of_row _ _ 6 _ _ _ (hp22)
          have a7 := cell_of_row _ _ 7 _ _ _ (hp22)
          have a8 := cell_of_row _ _ 8 _ _ _ (hp22)
          have a9 := cell_of_row _ _ 9 _ _ _ (hp22)
          have hz := KZ.out _ (gr22)
          have e0 := cell_of_row _ _ 0 _ _ _ hz
          have f0 := frozen_of_row _ _ 0 _ _ hz
          have e1 := cell_of_row _ _ 1 _ _ _ hz
          have f1 := frozen_of_row _ _ 1 _ _ hz
          have e2 := cell_of_row _ _ 2 _ _ _ hz
          have f2 := frozen_of_row _ _ 2 _ _ hz
          have e3 := cell_of_row _ _ 3 _ _ _ hz
          have f3 := frozen_of_row _ _ 3 _ _ hz
          have e4 := cell_of_row _ _ 4 _ _ _ hz
          have f4 := frozen_of_row _ _ 4 _ _ hz
          have e5 := cell_of_row _ _ 5 _ _ _ hz
          have f5 := frozen_of_row _ _ 5 _ _ hz
          have e6 := cell_of_row _ _ 6 _ _ _ hz
          have f6 := frozen_of_row _ _ 6 _ _ hz
          have e7 := cell_of_row _ _ 7 _ _ _ hz
          have f7 := frozen_of_row _ _ 7 _ _ hz
          have e8 := cell_of_row _ _ 8 _ _ _ hz
          have f8 := frozen_of_row _ _ 8 _ _ hz
          have e9 := cell_of_row _ _ 9 _ _ _ hz
          have f9 := frozen_of_row _ _ 9 _ _ hz
          simp at a0 a1 a2 a3 a4 a5 a6 a7 a8 a9 e0 e1 e2 e3 e4 e5 e6 e7 e8 e9
          have HN : Hid (GotPt w g A l c (.returned (ptA (⟨p.id, p.cabin, p.from_, p.size, p.tier, (y1 : Int), p.turn, 2, (1 + (y19 : Int)), p.asked⟩ : Pt))) (putPt _ (w.heap.size + 1) (⟨p.id, p.cabin, p.from_, p.size, p.tier, (y1 : Int), p.turn, 2, (1 + (y19 : Int)), p.asked⟩ : Pt))) := ⟨_, rfl, putPt_cur (hd22) (by omega), putPt_grown (gW.out.trans (gr22)) (by omega)⟩
          clear hz
          unfold ptA putPt at HN
          go_wp2
          simp [bodyPost, results, Tryz.results12, go_sem, e0, e1, e2, e3, e4, e5, e6, e7, e8, e9]
          exact HN.out
        · skip
          have k23 := cell_of_row _ _ 0 _ _ _ (KR.out _ gr22)
          simp at k23
          have HP24 := Lib.hid hp22
          have HD24 := Lib.hid hd22
          have HG24 := Lib.hid gr22
          clear hp22 hd22 gr22
          go_wp2_with fail
          have hp25 := HP24.out
          have hd25 := HD24.out
          have gr25 := HG24.out
          clear HP24 HD24 HG24
          clear k23
          refine (l1Below_any A l c g r.seats.length _ hl hb (by omega) (by omega) hd25).mono ?_
          rintro e v26 ⟨y26, hy26, rfl, hd26, gs26⟩
          have gr26 := gr25.trans gs26
          have hp26 := (gs26.block _ (blk_lt hp25) (fun e => by injection e with e; omega)).trans hp25
          clear hp25 hd25 gr25 gs26
          have c27 := cell_of_row _ _ 2 _ _ _ hp26
          have z27 := frozen_of_row _ _ 2 _ _ hp26
          simp at c27
          have hq27 : Hid ((World.setCell _ ⟨gp, 2, none⟩ (.int .i64 (y26 : Int))).heap[gp]? = some (Obj.cells #[.int .i64 p.id, .int .i64 p.cabin, .int .i64 (y26 : Int), .int .i64 p.size, .int .i64 p.tier, .int .i64 (y1 : Int), .int .i64 p.turn, .int .i64 2, .int .i64 (1 + (y19 : Int)), .int .i64 p.asked] 26)) := Go.heap_setCell_same _ gp 2 _ _ (.int .i64 (y26 : Int)) hp26
          have hk27 := Lib.hid (Cur.setCell hd26 gp 2 (.int .i64 (y26 : Int)) (by omega))
          have hr27 := Lib.hid (grown_setD gr26 gp 2 (.int .i64 (y26 : Int)) hgp)
          clear hp26 hd26 gr26
          obtain ⟨U, eU⟩ : ∃ U, v26.setCell ⟨gp, 2, none⟩ (.int .i64 (y26 : Int)) = U := ⟨_, rfl⟩
          rw [eU] at hq27 hk27 hr27
          have a0 := cell_of_row _ _ 0 _ _ _ (hq27.out)
          have a1 := cell_of_row _ _ 1 _ _ _ (hq27.out)
          have a2 := cell_of_row _ _ 2 _ _ _ (hq27.out)
          have a3 := cell_of_row _ _ 3 _ _ _ (hq27.out)
          have a4 := cell_of_row _ _ 4 _ _ _ (hq27.out)
          have a5 := cell_of_row _ _ 5 _ _ _ (hq27.out)
          have a6 := cell_of_row _ _ 6 _ _ _ (hq27.out)
          have a7 := cell_of_row _ _ 7 _ _ _ (hq27.out)
          have a8 := cell_of_row _ _ 8 _ _ _ (hq27.out)
          have a9 := cell_of_row _ _ 9 _ _ _ (hq27.out)
          have hz := KZ.out _ (hr27.out)
          have e0 := cell_of_row _ _ 0 _ _ _ hz
          have f0 := frozen_of_row _ _ 0 _ _ hz
          have e1 := cell_of_row _ _ 1 _ _ _ hz
          have f1 := frozen_of_row _ _ 1 _ _ hz
          have e2 := cell_of_row _ _ 2 _ _ _ hz
          have f2 := frozen_of_row _ _ 2 _ _ hz
          have e3 := cell_of_row _ _ 3 _ _ _ hz
          have f3 := frozen_of_row _ _ 3 _ _ hz
          have e4 := cell_of_row _ _ 4 _ _ _ hz
          have f4 := frozen_of_row _ _ 4 _ _ hz
          have e5 := cell_of_row _ _ 5 _ _ _ hz
          have f5 := frozen_of_row _ _ 5 _ _ hz
          have e6 := cell_of_row _ _ 6 _ _ _ hz
          have f6 := frozen_of_row _ _ 6 _ _ hz
          have e7 := cell_of_row _ _ 7 _ _ _ hz
          have f7 := frozen_of_row _ _ 7 _ _ hz
          have e8 := cell_of_row _ _ 8 _ _ _ hz
          have f8 := frozen_of_row _ _ 8 _ _ hz
          have e9 := cell_of_row _ _ 9 _ _ _ hz
          have f9 := frozen_of_row _ _ 9 _ _ hz
          simp at a0 a1 a2 a3 a4 a5 a6 a7 a8 a9 e0 e1 e2 e3 e4 e5 e6 e7 e8 e9
          have HN : Hid (GotPt w g A l c (.returned (ptA (⟨p.id, p.cabin, (y26 : Int), p.size, p.tier, (y1 : Int), p.turn, 2, (1 + (y19 : Int)), p.asked⟩ : Pt))) (putPt _ (w.heap.size + 1) (⟨p.id, p.cabin, (y26 : Int), p.size, p.tier, (y1 : Int), p.turn, 2, (1 + (y19 : Int)), p.asked⟩ : Pt))) := ⟨_, rfl, putPt_cur (hk27.out) (by omega), putPt_grown (gW.out.trans (hr27.out)) (by omega)⟩
          clear hz
          unfold ptA putPt at HN
          go_wp2
          simp [bodyPost, results, Tryz.results12, go_sem, e0, e1, e2, e3, e4, e5, e6, e7, e8, e9]
          exact HN.out
    · skip
      have k28 := cell_of_row _ _ 6 _ _ _ (KR.out _ gr4)
      simp at k28
      have HP29 := Lib.hid hp4
      have HD29 := Lib.hid hd4
      have HG29 := Lib.hid gr4
      clear hp4 hd4 gr4
      go_wp2_with fail
      have hp30 := HP29.out
      have hd30 := HD29.out
      have gr30 := HG29.out
      clear HP29 HD29 HG29
      clear k28
      have C31 := l1Below_any A l c g ((now + r.rest + 1)).toNat _ hl hb (by omega) (by omega) hd30
      rw [Int.toNat_of_nonneg (show 0 ≤ (now + r.rest + 1) by omega)] at C31
      refine C31.mono ?_
      rintro e v31 ⟨y31, hy31, rfl, hd31, gs31⟩
      clear C31
      have gr31 := gr30.trans gs31
      have hp31 := (gs31.block _ (blk_lt hp30) (fun e => by injection e with e; omega)).trans hp30
      clear hp30 hd30 gr30 gs31
      have c32 := cell_of_row _ _ 8 _ _ _ hp31
      have z32 := frozen_of_row _ _ 8 _ _ hp31
      simp at c32
      have hq32 : Hid ((World.setCell _ ⟨gp, 8, none⟩ (.int .i64 (y31 : Int))).heap[gp]? = some (Obj.cells #[.int .i64 p.id, .int .i64 p.cabin, .int .i64 p.from_, .int .i64 p.size, .int .i64 p.tier, .int .i64 (y1 : Int), .int .i64 p.turn, .int .i64 p.state, .int .i64 (y31 : Int), .int .i64 p.asked] 26)) := Go.heap_setCell_same _ gp 8 _ _ (.int .i64 (y31 : Int)) hp31
      have hk32 := Lib.hid (Cur.setCell hd31 gp 8 (.int .i64 (y31 : Int)) (by omega))
      have hr32 := Lib.hid (grown_setD gr31 gp 8 (.int .i64 (y31 : Int)) hgp)
      clear hp31 hd31 gr31
      go_wp2_with fail
      clear c32 z32
      have hp33 := hq32.out
      have hd33 := hk32.out
      have gr33 := hr32.out
      clear hq32 hk32 hr32
      refine (l1Once_any A l c g 3 _ hl hb (by omega) (by omega) hd33).mono ?_
      rintro e v34 ⟨d34, rfl, hd34, gs34⟩
      have gr34 := gr33.trans gs34
      have hp34 := (gs34.block _ (blk_lt hp33) (fun e => by injection e with e; omega)).trans hp33
      clear hp33 hd33 gr33 gs34
      cases d34
      · skip
        have HP35 := Lib.hid hp34
        have HD35 := Lib.hid hd34
        have HG35 := Lib.hid gr34
        clear hp34 hd34 gr34
        go_wp2_with fail
        have hp36 := HP35.out
        have hd36 := HD35.out
        have gr36 := HG35.out
        clear HP35 HD35 HG35
        refine (l1Once_any A l c g 4 _ hl hb (by omega) (by omega) hd36).mono ?_
        rintro e v37 ⟨d37, rfl, hd37, gs37⟩
        have gr37 := gr36.trans gs37
        have hp37 := (gs37.block _ (blk_lt hp36) (fun e => by injection e with e; omega)).trans hp36
        clear hp36 hd36 gr36 gs37
        cases d37
        · skip
          have a0 := cell_of_row _ _ 0 _ _ _ (hp37)
          have a1 := cell_of_row _ _ 1 _ _ _ (hp37)
          have a2 := cell_of_row _ _ 2 _ _ _ (hp37)
          have a3 := cell_of_row _ _ 3 _ _ _ (hp37)
          have a4 := cell_of_row _ _ 4 _ _ _ (hp37)
          have a5 := cell_of_row _ _ 5 _ _ _ (hp37)
          have a6 := cell_of_row _ _ 6 _ _ _ (hp37)
          have a7 := cell_of_row _ _ 7 _ _ _ (hp37)
          have a8 := cell_of_row _ _ 8 _ _ _ (hp37)
          have a9 := cell_of_row _ _ 9 _ _ _ (hp37)
          have hz := KZ.out _ (gr37)
          have e0 := cell_of_row _ _ 0 _ _ _ hz
          have f0 := frozen_of_row _ _ 0 _ _ hz
          have e1 := cell_of_row _ _ 1 _ _ _ hz
          have f1 := frozen_of_row _ _ 1 _ _ hz
          have e2 := cell_of_row _ _ 2 _ _ _ hz
          have f2 := frozen_of_row _ _ 2 _ _ hz
          have e3 := cell_of_row _ _ 3 _ _ _ hz
          have f3 := frozen_of_row _ _ 3 _ _ hz
          have e4 := cell_of_row _ _ 4 _ _ _ hz
          have f4 := frozen_of_row _ _ 4 _ _ hz
          have e5 := cell_of_row _ _ 5 _ _ _ hz
          have f5 := frozen_of_row _ _ 5 _ _ hz
          have e6 := cell_of_row _ _ 6 _ _ _ hz
          have f6 := frozen_of_row _ _ 6 _ _ hz
          have e7 := cell_of_row _ _ 7 _ _ _ hz
          have f7 := frozen_of_row _ _ 7 _ _ hz
          have e8 := cell_of_row _ _ 8 _ _ _ hz
          have f8 := frozen_of_row _ _ 8 _ _ hz
          have e9 := cell_of_row _ _ 9 _ _ _ hz
          have f9 := frozen_of_row _ _ 9 _ _ hz
          simp at a0 a1 a2 a3 a4 a5 a6 a7 a8 a9 e0 e1 e2 e3 e4 e5 e6 e7 e8 e9
          have HN : Hid (GotPt w g A l c (.returned (ptA (⟨p.id, p.cabin, p.from_, p.size, p.tier, (y1 : Int), p.turn, p.state, (y31 : Int), p.asked⟩ : Pt))) (putPt _ (w.heap.size + 1) (⟨p.id, p.cabin, p.from_, p.size, p.tier, (y1 : Int), p.turn, p.state, (y31 : Int), p.asked⟩ : Pt))) := ⟨_, rfl, putPt_cur (hd37) (by omega), putPt_grown (gW.out.trans (gr37)) (by omega)⟩
          clear hz
          unfold ptA putPt at HN
          go_wp2
          simp [bodyPost, results, Tryz.results12, go_sem, e0, e1, e2, e3, e4, e5, e6, e7, e8, e9]
          exact HN.out
        · skip
          have k38 := cell_of_row _ _ 0 _ _ _ (KR.out _ gr37)
          simp at k38
          have HP39 := Lib.hid hp37
          have HD39 := Lib.hid hd37
          have HG39 := Lib.hid gr37
          clear hp37 hd37 gr37
          go_wp2_with fail
          have hp40 := HP39.out
          have hd40 := HD39.out
          have gr40 := HG39.out
          clear HP39 HD39 HG39
          clear k38
          refine (l1Below_any A l c g r.seats.length _ hl hb (by omega) (by omega) hd40).mono ?_
          rintro e v41 ⟨y41, hy41, rfl, hd41, gs41⟩
          have gr41 := gr40.trans gs41
          have hp41 := (gs41.block _ (blk_lt hp40) (fun e => by injection e with e; omega)).trans hp40
          clear hp40 hd40 gr40 gs41
          have c42 := cell_of_row _ _ 2 _ _ _ hp41
          have z42 := frozen_of_row _ _ 2 _ _ hp41
          simp at c42
          have hq42 : Hid ((World.setCell _ ⟨gp, 2, none⟩ (.int .i64 (y41 : Int))).heap[gp]? = some (Obj.cells #[.int .i64 p.id, .int .i64 p.cabin, .int .i64 (y41 : Int), .int .i64 p.size, .int .i64 p.tier, .int .i64 (y1 : Int), .int .i64 p.turn, .int .i64 p.state, .int .i64 (y31 : Int), .int .i64 p.asked] 26)) := Go.heap_setCell_same _ gp 2 _ _ (.int .i64 (y41 : Int)) hp41
          have hk42 := Lib.hid (Cur.setCell hd41 gp 2 (.int .i64 (y41 : Int)) (by omega))
          have hr42 := Lib.hid (grown_setD gr41 gp 2 (.int .i64 (y41 : Int)) hgp)
          clear hp41 hd41 gr41
          obtain ⟨U, eU⟩ : ∃ U, v41.setCell ⟨gp, 2, none⟩ (.int .i64 (y41 : Int)) = U := ⟨_, rfl⟩
          rw [eU] at hq42 hk42 hr42
          have a0 := cell_of_row _ _ 0 _ _ _ (hq42.out)
          have a1 := cell_of_row _ _ 1 _ _ _ (hq42.out)
          have a2 := cell_of_row _ _ 2 _ _ _ (hq42.out)
          have a3 := cell_of_row _ _ 3 _ _ _ (hq42.out)
          have a4 := cell_of_row _ _ 4 _ _ _ (hq42.out)
          have a5 := cell_of_row _ _ 5 _ _ _ (hq42.out)
          have a6 := cell_of_row _ _ 6 _ _ _ (hq42.out)
          have a7 := cell_of_row _ _ 7 _ _ _ (hq42.out)
          have a8 := cell_of_row _ _ 8 _ _ _ (hq42.out)
          have a9 := cell_of_row _ _ 9 _ _ _ (hq42.out)
          have hz := KZ.out _ (hr42.out)
          have e0 := cell_of_row _ _ 0 _ _ _ hz
          have f0 := frozen_of_row _ _ 0 _ _ hz
          have e1 := cell_of_row _ _ 1 _ _ _ hz
          have f1 := frozen_of_row _ _ 1 _ _ hz
          have e2 := cell_of_row _ _ 2 _ _ _ hz
          have f2 := frozen_of_row _ _ 2 _ _ hz
          have e3 := cell_of_row _ _ 3 _ _ _ hz
          have f3 := frozen_of_row _ _ 3 _ _ hz
          have e4 := cell_of_row _ _ 4 _ _ _ hz
          have f4 := frozen_of_row _ _ 4 _ _ hz
          have e5 := cell_of_row _ _ 5 _ _ _ hz
          have f5 := frozen_of_row _ _ 5 _ _ hz
          have e6 := cell_of_row _ _ 6 _ _ _ hz
          have f6 := frozen_of_row _ _ 6 _ _ hz
          have e7 := cell_of_row _ _ 7 _ _ _ hz
          have f7 := frozen_of_row _ _ 7 _ _ hz
          have e8 := cell_of_row _ _ 8 _ _ _ hz
          have f8 := frozen_of_row _ _ 8 _ _ hz
          have e9 := cell_of_row _ _ 9 _ _ _ hz
          have f9 := frozen_of_row _ _ 9 _ _ hz
          simp at a0 a1 a2 a3 a4 a5 a6 a7 a8 a9 e0 e1 e2 e3 e4 e5 e6 e7 e8 e9
          have HN : Hid (GotPt w g A l c (.returned (ptA (⟨p.id, p.cabin, (y41 : Int), p.size, p.tier, (y1 : Int), p.turn, p.state, (y31 : Int), p.asked⟩ : Pt))) (putPt _ (w.heap.size + 1) (⟨p.id, p.cabin, (y41 : Int), p.size, p.tier, (y1 : Int), p.turn, p.state, (y31 : Int), p.asked⟩ : Pt))) := ⟨_, rfl, putPt_cur (hk42.out) (by omega), putPt_grown (gW.out.trans (hr42.out)) (by omega)⟩
          clear hz
          unfold ptA putPt at HN
          go_wp2
          simp [bodyPost, results, Tryz.results12, go_sem, e0, e1, e2, e3, e4, e5, e6, e7, e8, e9]
          exact HN.out
      · skip
        have k43 := cell_of_row _ _ 5 _ _ _ (KR.out _ gr34)
        simp at k43
        have c44 := cell_of_row _ _ 7 _ _ _ hp34
        have z44 := frozen_of_row _ _ 7 _ _ hp34
        simp at c44
        have hq44 : Hid ((World.setCell _ ⟨gp, 7, none⟩ (.int .i64 2)).heap[gp]? = some (Obj.cells #[.int .i64 p.id, .int .i64 p.cabin, .int .i64 p.from_, .int .i64 p.size, .int .i64 p.tier, .int .i64 (y1 : Int), .int .i64 p.turn, .int .i64 2, .int .i64 (y31 : Int), .int .i64 p.asked] 26)) := Go.heap_setCell_same _ gp 7 _ _ (.int .i64 2) hp34
        have hk44 := Lib.hid (Cur.setCell hd34 gp 7 (.int .i64 2) (by omega))
        have hr44 := Lib.hid (grown_setD gr34 gp 7 (.int .i64 2) hgp)
        clear hp34 hd34 gr34
        have k2 := cell_of_row _ _ 5 _ _ _ (KR.out _ hr44.out)
        simp at k2
        go_wp2_with fail
        clear c44 z44
        have hp45 := hq44.out
        have hd45 := hk44.out
        have gr45 := hr44.out
        clear hq44 hk44 hr44
        clear k2 k43
        have C46 := l1Below_any A l c g ((now + r.window)).toNat _ hl hb (by omega) (by omega) hd45
        rw [Int.toNat_of_nonneg (show 0 ≤ (now + r.window) by omega)] at C46
        refine C46.mono ?_
        rintro e v46 ⟨y46, hy46, rfl, hd46, gs46⟩
        clear C46
        have gr46 := gr45.trans gs46
        have hp46 := (gs46.block _ (blk_lt hp45) (fun e => by injection e with e; omega)).trans hp45
        clear hp45 hd45 gr45 gs46
        have c47 := cell_of_row _ _ 8 _ _ _ hp46
        have z47 := frozen_of_row _ _ 8 _ _ hp46
        simp at c47
        have hq47 : Hid ((World.setCell _ ⟨gp, 8, none⟩ (.int .i64 (1 + (y46 : Int)))).heap[gp]? = some (Obj.cells #[.int .i64 p.id, .int .i64 p.cabin, .int .i64 p.from_, .int .i64 p.size, .int .i64 p.tier, .int .i64 (y1 : Int), .int .i64 p.turn, .int .i64 2, .int .i64 (1 + (y46 : Int)), .int .i64 p.asked] 26)) := Go.heap_setCell_same _ gp 8 _ _ (.int .i64 (1 + (y46 : Int))) hp46
        have hk47 := Lib.hid (Cur.setCell hd46 gp 8 (.int .i64 (1 + (y46 : Int))) (by omega))
        have hr47 := Lib.hid (grown_setD gr46 gp 8 (.int .i64 (1 + (y46 : Int))) hgp)
        clear hp46 hd46 gr46
        go_wp2_with fail
        clear c47 z47
        have hp48 := hq47.out
        have hd48 := hk47.out
        have gr48 := hr47.out
        clear hq47 hk47 hr47
        refine (l1Once_any A l c g 4 _ hl hb (by omega) (by omega) hd48).mono ?_
        rintro e v49 ⟨d49, rfl, hd49, gs49⟩
        have gr49 := gr48.trans gs49
        have hp49 := (gs49.block _ (blk_lt hp48) (fun e => by injection e with e; omega)).trans hp48
        clear hp48 hd48 gr48 gs49
        cases d49
        · skip
          have a0 := cell_of_row _ _ 0 _ _ _ (hp49)
          have a1 := cell_of_row _ _ 1 _ _ _ (hp49)
          have a2 := cell_of_row _ _ 2 _ _ _ (hp49)
          have a3 := cell_of_row _ _ 3 _ _ _ (hp49)
          have a4 := cell_of_row _ _ 4 _ _ _ (hp49)
          have a5 := cell_of_row _ _ 5 _ _ _ (hp49)
          have a6 := cell_of_row _ _ 6 _ _ _ (hp49)
          have a7 := cell_of_row _ _ 7 _ _ _ (hp49)
          have a8 := cell_of_row _ _ 8 _ _ _ (hp49)
          have a9 := cell_of_row _ _ 9 _ _ _ (hp49)
          have hz := KZ.out _ (gr49)
          have e0 := cell_of_row _ _ 0 _ _ _ hz
          have f0 := frozen_of_row _ _ 0 _ _ hz
          have e1 := cell_of_row _ _ 1 _ _ _ hz
          have f1 := frozen_of_row _ _ 1 _ _ hz
          have e2 := cell_of_row _ _ 2 _ _ _ hz
          have f2 := frozen_of_row _ _ 2 _ _ hz
          have e3 := cell_of_row _ _ 3 _ _ _ hz
          have f3 := frozen_of_row _ _ 3 _ _ hz
          have e4 := cell_of_row _ _ 4 _ _ _ hz
          have f4 := frozen_of_row _ _ 4 _ _ hz
          have e5 := cell_of_row _ _ 5 _ _ _ hz
          have f5 := frozen_of_row _ _ 5 _ _ hz
          have e6 := cell_of_row _ _ 6 _ _ _ hz
          have f6 := frozen_of_row _ _ 6 _ _ hz
          have e7 := cell_of_row _ _ 7 _ _ _ hz
          have f7 := frozen_of_row _ _ 7 _ _ hz
          have e8 := cell_of_row _ _ 8 _ _ _ hz
          have f8 := frozen_of_row _ _ 8 _ _ hz
          have e9 := cell_of_row _ _ 9 _ _ _ hz
          have f9 := frozen_of_row _ _ 9 _ _ hz
          simp at a0 a1 a2 a3 a4 a5 a6 a7 a8 a9 e0 e1 e2 e3 e4 e5 e6 e7 e8 e9
          have HN : Hid (GotPt w g A l c (.returned (ptA (⟨p.id, p.cabin, p.from_, p.size, p.tier, (y1 : Int), p.turn, 2, (1 + (y46 : Int)), p.asked⟩ : Pt))) (putPt _ (w.heap.size + 1) (⟨p.id, p.cabin, p.from_, p.size, p.tier, (y1 : Int), p.turn, 2, (1 + (y46 : Int)), p.asked⟩ : Pt))) := ⟨_, rfl, putPt_cur (hd49) (by omega), putPt_grown (gW.out.trans (gr49)) (by omega)⟩
          clear hz
          unfold ptA putPt at HN
          go_wp2
          simp [bodyPost, results, Tryz.results12, go_sem, e0, e1, e2, e3, e4, e5, e6, e7, e8, e9]
          exact HN.out
        · skip
          have k50 := cell_of_row _ _ 0 _ _ _ (KR.out _ gr49)
          simp at k50
          have HP51 := Lib.hid hp49
          have HD51 := Lib.hid hd49
          have HG51 := Lib.hid gr49
          clear hp49 hd49 gr49
          go_wp2_with fail
          have hp52 := HP51.out
          have hd52 := HD51.out
          have gr52 := HG51.out
          clear HP51 HD51 HG51
          clear k50
          refine (l1Below_any A l c g r.seats.length _ hl hb (by omega) (by omega) hd52).mono ?_
          rintro e v53 ⟨y53, hy53, rfl, hd53, gs53⟩
          have gr53 := gr52.trans gs53
          have hp53 := (gs53.block _ (blk_lt hp52) (fun e => by injection e with e; omega)).trans hp52
          clear hp52 hd52 gr52 gs53
          have c54 := cell_of_row _ _ 2 _ _ _ hp53
          have z54 := frozen_of_row _ _ 2 _ _ hp53
          simp at c54
          have hq54 : Hid ((World.setCell _ ⟨gp, 2, none⟩ (.int .i64 (y53 : Int))).heap[gp]? = some (Obj.cells #[.int .i64 p.id, .int .i64 p.cabin, .int .i64 (y53 : Int), .int .i64 p.size, .int .i64 p.tier, .int .i64 (y1 : Int), .int .i64 p.turn, .int .i64 2, .int .i64 (1 + (y46 : Int)), .int .i64 p.asked] 26)) := Go.heap_setCell_same _ gp 2 _ _ (.int .i64 (y53 : Int)) hp53
          have hk54 := Lib.hid (Cur.setCell hd53 gp 2 (.int .i64 (y53 : Int)) (by omega))
          have hr54 := Lib.hid (grown_setD gr53 gp 2 (.int .i64 (y53 : Int)) hgp)
          clear hp53 hd53 gr53
          obtain ⟨U, eU⟩ : ∃ U, v53.setCell ⟨gp, 2, none⟩ (.int .i64 (y53 : Int)) = U := ⟨_, rfl⟩
          rw [eU] at hq54 hk54 hr54
          have a0 := cell_of_row _ _ 0 _ _ _ (hq54.out)
          have a1 := cell_of_row _ _ 1 _ _ _ (hq54.out)
          have a2 := cell_of_row _ _ 2 _ _ _ (hq54.out)
          have a3 := cell_of_row _ _ 3 _ _ _ (hq54.out)
          have a4 := cell_of_row _ _ 4 _ _ _ (hq54.out)
          have a5 := cell_of_row _ _ 5 _ _ _ (hq54.out)
          have a6 := cell_of_row _ _ 6 _ _ _ (hq54.out)
          have a7 := cell_of_row _ _ 7 _ _ _ (hq54.out)
          have a8 := cell_of_row _ _ 8 _ _ _ (hq54.out)
          have a9 := cell_of_row _ _ 9 _ _ _ (hq54.out)
          have hz := KZ.out _ (hr54.out)
          have e0 := cell_of_row _ _ 0 _ _ _ hz
          have f0 := frozen_of_row _ _ 0 _ _ hz
          have e1 := cell_of_row _ _ 1 _ _ _ hz
          have f1 := frozen_of_row _ _ 1 _ _ hz
          have e2 := cell_of_row _ _ 2 _ _ _ hz
          have f2 := frozen_of_row _ _ 2 _ _ hz
          have e3 := cell_of_row _ _ 3 _ _ _ hz
          have f3 := frozen_of_row _ _ 3 _ _ hz
          have e4 := cell_of_row _ _ 4 _ _ _ hz
          have f4 := frozen_of_row _ _ 4 _ _ hz
          have e5 := cell_of_row _ _ 5 _ _ _ hz
          have f5 := frozen_of_row _ _ 5 _ _ hz
          have e6 := cell_of_row _ _ 6 _ _ _ hz
          have f6 := frozen_of_row _ _ 6 _ _ hz
          have e7 := cell_of_row _ _ 7 _ _ _ hz
          have f7 := frozen_of_row _ _ 7 _ _ hz
          have e8 := cell_of_row _ _ 8 _ _ _ hz
          have f8 := frozen_of_row _ _ 8 _ _ hz
          have e9 := cell_of_row _ _ 9 _ _ _ hz
          have f9 := frozen_of_row _ _ 9 _ _ hz
          simp at a0 a1 a2 a3 a4 a5 a6 a7 a8 a9 e0 e1 e2 e3 e4 e5 e6 e7 e8 e9
          have HN : Hid (GotPt w g A l c (.returned (ptA (⟨p.id, p.cabin, (y53 : Int), p.size, p.tier, (y1 : Int), p.turn, 2, (1 + (y46 : Int)), p.asked⟩ : Pt))) (putPt _ (w.heap.size + 1) (⟨p.id, p.cabin, (y53 : Int), p.size, p.tier, (y1 : Int), p.turn, 2, (1 + (y46 : Int)), p.asked⟩ : Pt))) := ⟨_, rfl, putPt_cur (hk54.out) (by omega), putPt_grown (gW.out.trans (hr54.out)) (by omega)⟩
          clear hz
          unfold ptA putPt at HN
          go_wp2
          simp [bodyPost, results, Tryz.results12, go_sem, e0, e1, e2, e3, e4, e5, e6, e7, e8, e9]
          exact HN.out
structure Rt (w u : World) (g : Nat) (A : Option Addr) (l : List Nat) (c top g3 g4 : Nat) (RB : Option Addr) (rc : Nat) (r : Ru) (x : Ho) (cs js : List Value) (ts : List Int) (pl : List Pt) : Prop where
  Z : u.heap[w.heap.size]? = some (.cells #[.slice none 0 0, .int .i64 0, .int .i64 0, .int .i64 0, .int .i64 0, .int .i64 0, .int .i64 0, .int .i64 0, .int .i64 0, .int .i64 0, .int .i64 0, .slice none 0 0, .slice none 0 0, .slice none 0 0, .slice none 0 0] 37)
  R : u.heap[g3]? = some (.cells #[.slice RB r.seats.length rc, .int .i64 r.tiers, .int .i64 r.room, .int .i64 r.size, .int .i64 r.period, .int .i64 r.window, .int .i64 r.rest, .int .i64 r.tries, .int .i64 r.crew] 34)
  H : u.heap[g4]? = some (.cells #[.slice x.ra x.r.seats.length x.rc, .int .i64 x.r.tiers, .int .i64 x.r.room, .int .i64 x.r.size, .int .i64 x.r.period, .int .i64 x.r.window, .int .i64 x.r.rest, .int .i64 x.r.tries, .int .i64 x.r.crew, .int .i64 x.now, .int .i64 x.turn, .slice x.p x.pn x.pc, .slice x.c x.cn x.cc, .slice x.t x.tn x.tc, .slice x.j x.jn x.jc] 37)
  oR : u.ownsRow (w.heap.size + 1) 3 1 (.slice RB r.seats.length rc) r.seats.length (ints r.seats)
  oA : u.ownsRow (w.heap.size + 1) 3 1 (.slice x.ra x.r.seats.length x.rc) x.r.seats.length (ints x.r.seats)
  oC : u.ownsRow (w.heap.size + 1) 59 7 (.slice x.c x.cn x.cc) x.cn cs
  oJ : u.ownsRow (w.heap.size + 1) 3 1 (.slice x.j x.jn x.jc) x.jn js
  oT : u.ownsRow (w.heap.size + 1) 3 1 (.slice x.t x.tn x.tc) x.tn (ints ts)
  oP : u.ownsRow (w.heap.size + 1) 26 10 (.slice x.p x.pn x.pc) x.pn (pl.flatMap ptC)
  boR : ∀ j, (Value.slice RB r.seats.length rc).ownBlock = some j → j < top
  boA : ∀ j, (Value.slice x.ra x.r.seats.length x.rc).ownBlock = some j → j < top
  boC : ∀ j, (Value.slice x.c x.cn x.cc).ownBlock = some j → j < top
  boJ : ∀ j, (Value.slice x.j x.jn x.jc).ownBlock = some j → j < top
  boT : ∀ j, (Value.slice x.t x.tn x.tc).ownBlock = some j → j < top
  boP : ∀ j, (Value.slice x.p x.pn x.pc).ownBlock = some j → j < top
  xr : x.r = r
  xp : x.pn = pl.length
  xt : x.tn = ts.length
  xc : x.cn = r.seats.length
  cur : Cur u g A l c
  gr : w.grownBy u (some g)
  lg : g < w.heap.size
  l3 : w.heap.size < g3
  l4 : g3 < g4
  l5 : g4 < top
  l6 : top ≤ u.heap.size
theorem rt_gr {a b c : World} {g : Nat} {row : Option Nat} (h : a.grownBy b (some g)) (k : b.grownBy c row) (hr : ∀ j, row = some j → j = g ∨ a.heap.size ≤ j) : a.grownBy c (some g) := by
  refine h.andThen k (fun j hj => ?_)
  rcases hr j hj with e | e
  · right; rw [e]
  · left; exact e
theorem Rt.step {w u u2 : World} {g : Nat} {A : Option Addr} {l : List Nat} {c top g3 g4 : Nat} {RB : Option Addr} {rc : Nat} {r : Ru} {x : Ho} {cs js : List Value} {ts : List Int} {pl : List Pt} {row : Option Nat} (h : Rt w u g A l c top g3 g4 RB rc r x cs js ts pl) (gr : u.grownBy u2 row) (hrow : ∀ j, row = some j → j = g ∨ top ≤ j) (hc : Cur u2 g A l c) : Rt w u2 g A l c top g3 g4 RB rc r x cs js ts pl := by
  have lg := h.lg
  have l3 := h.l3
  have l4 := h.l4
  have l5 := h.l5
  exact ⟨(gr.block _ (blk_lt h.Z) (fun e => by have := hrow _ e.symm; omega)).trans h.Z, (gr.block _ (blk_lt h.R) (fun e => by have := hrow _ e.symm; omega)).trans h.R, (gr.block _ (blk_lt h.H) (fun e => by have := hrow _ e.symm; omega)).trans h.H, own_kept2 h.oR gr (fun j h1 h2 => by have := hrow _ h2; have := h.boR j h1; have := (own_low h.oR) j h1; omega), own_kept2 h.oA gr (fun j h1 h2 => by have := hrow _ h2; have := h.boA j h1; have := (own_low h.oA) j h1; omega), own_kept2 h.oC gr (fun j h1 h2 => by have := hrow _ h2; have := h.boC j h1; have := (own_low h.oC) j h1; omega), own_kept2 h.oJ gr (fun j h1 h2 => by have := hrow _ h2; have := h.boJ j h1; have := (own_low h.oJ) j h1; omega), own_kept2 h.oT gr (fun j h1 h2 => by have := hrow _ h2; have := h.boT j h1; have := (own_low h.oT) j h1; omega), own_kept2 h.oP gr (fun j h1 h2 => by have := hrow _ h2; have := h.boP j h1; have := (own_low h.oP) j h1; omega), h.boR, h.boA, h.boC, h.boJ, h.boT, h.boP, h.xr, h.xp, h.xt, h.xc, hc, rt_gr h.gr gr (fun j hj => by have := hrow j hj; omega), h.lg, h.l3, h.l4, h.l5, Nat.le_trans h.l6 gr.size⟩
theorem Rt.draw {w u u2 : World} {g : Nat} {A : Option Addr} {l : List Nat} {c top g3 g4 : Nat} {RB : Option Addr} {rc : Nat} {r : Ru} {x : Ho} {cs js : List Value} {ts : List Int} {pl : List Pt} (h : Rt w u g A l c top g3 g4 RB rc r x cs js ts pl) (gr : u.grownBy u2 (some g)) (hc : Cur u2 g A l c) : Rt w u2 g A l c top g3 g4 RB rc r x cs js ts pl := h.step gr (fun j hj => by injection hj with hj; exact .inl hj.symm) hc
theorem Rt.call {w u u2 : World} {g : Nat} {A : Option Addr} {l : List Nat} {c top g3 g4 : Nat} {RB : Option Addr} {rc : Nat} {r : Ru} {x : Ho} {cs js : List Value} {ts : List Int} {pl : List Pt} (h : Rt w u g A l c top g3 g4 RB rc r x cs js ts pl) (b : Below u.heap.size u u2) : Rt w u2 g A l c top g3 g4 RB rc r x cs js ts pl := h.step (grown_of_below b none) (fun j hj => by cases hj) (h.cur.mem b)
theorem Rt.set {w u : World} {g : Nat} {A : Option Addr} {l : List Nat} {c top g3 g4 : Nat} {RB : Option Addr} {rc : Nat} {r : Ru} {x : Ho} {cs js : List Value} {ts : List Int} {pl : List Pt} (h : Rt w u g A l c top g3 g4 RB rc r x cs js ts pl) (b i : Nat) (v : Value) (hb : top ≤ b) : Rt w (u.setCell ⟨b, i, none⟩ v) g A l c top g3 g4 RB rc r x cs js ts pl :=
  h.step (grown_setCell u b i v) (fun j hj => by injection hj with hj; right; omega) (h.cur.setCell b i v (by have := h.lg; have := h.l3; have := h.l4; have := h.l5; omega))
theorem Rt.raise {w u : World} {g : Nat} {A : Option Addr} {l : List Nat} {c top g3 g4 : Nat} {RB : Option Addr} {rc : Nat} {r : Ru} {x : Ho} {cs js : List Value} {ts : List Int} {pl : List Pt} (h : Rt w u g A l c top g3 g4 RB rc r x cs js ts pl) : Rt w u g A l c u.heap.size g3 g4 RB rc r x cs js ts pl := by
  have l6 := h.l6
  exact ⟨h.Z, h.R, h.H, h.oR, h.oA, h.oC, h.oJ, h.oT, h.oP, fun j hj => Nat.lt_of_lt_of_le (h.boR j hj) l6, fun j hj => Nat.lt_of_lt_of_le (h.boA j hj) l6, fun j hj => Nat.lt_of_lt_of_le (h.boC j hj) l6, fun j hj => Nat.lt_of_lt_of_le (h.boJ j hj) l6, fun j hj => Nat.lt_of_lt_of_le (h.boT j hj) l6, fun j hj => Nat.lt_of_lt_of_le (h.boP j hj) l6, h.xr, h.xp, h.xt, h.xc, h.cur, h.gr, h.lg, h.l3, h.l4, Nat.lt_of_lt_of_le h.l5 l6, Nat.le_refl _⟩
theorem Rt.now {w u : World} {g : Nat} {A : Option Addr} {l : List Nat} {c top g3 g4 : Nat} {RB : Option Addr} {rc : Nat} {r : Ru} {x : Ho} {cs js : List Value} {ts : List Int} {pl : List Pt} (h : Rt w u g A l c top g3 g4 RB rc r x cs js ts pl) (z : Int) : Rt w (u.setCell ⟨g4, 9, none⟩ (.int .i64 z)) g A l c top g3 g4 RB rc r (⟨x.ra, x.rc, x.r, z, x.turn, x.p, x.pn, x.pc, x.c, x.cn, x.cc, x.t, x.tn, x.tc, x.j, x.jn, x.jc⟩ : Ho) cs js ts pl := by
  have lg := h.lg
  have l3 := h.l3
  have l4 := h.l4
  have l5 := h.l5
  exact ⟨(heap_set_ne u g4 9 _ (by omega)).trans h.Z, (heap_set_ne u g4 9 _ (by omega)).trans h.R, by have := Go.heap_setCell_same u g4 9 _ _ (.int .i64 z) h.H; simpa using this, h.oR.kept (Go.Lib.grownBy_setCell u g4 9 _) (.inr (own_ne_type h.oR h.H (by decide))), h.oA.kept (Go.Lib.grownBy_setCell u g4 9 _) (.inr (own_ne_type h.oA h.H (by decide))), h.oC.kept (Go.Lib.grownBy_setCell u g4 9 _) (.inr (own_ne_type h.oC h.H (by decide))), h.oJ.kept (Go.Lib.grownBy_setCell u g4 9 _) (.inr (own_ne_type h.oJ h.H (by decide))), h.oT.kept (Go.Lib.grownBy_setCell u g4 9 _) (.inr (own_ne_type h.oT h.H (by decide))), h.oP.kept (Go.Lib.grownBy_setCell u g4 9 _) (.inr (own_ne_type h.oP h.H (by decide))), h.boR, h.boA, h.boC, h.boJ, h.boT, h.boP, h.xr, h.xp, h.xt, h.xc, h.cur.setCell g4 9 _ (by omega), grown_setD h.gr g4 9 _ (by omega), h.lg, h.l3, h.l4, h.l5, by rw [World.size_setCell]; exact h.l6⟩
theorem Rt.turn {w u : World} {g : Nat} {A : Option Addr} {l : List Nat} {c top g3 g4 : Nat} {RB : Option Addr} {rc : Nat} {r : Ru} {x : Ho} {cs js : List Value} {ts : List Int} {pl : List Pt} (h : Rt w u g A l c top g3 g4 RB rc r x cs js ts pl) (z : Int) : Rt w (u.setCell ⟨g4, 10, none⟩ (.int .i64 z)) g A l c top g3 g4 RB rc r (⟨x.ra, x.rc, x.r, x.now, z, x.p, x.pn, x.pc, x.c, x.cn, x.cc, x.t, x.tn, x.tc, x.j, x.jn, x.jc⟩ : Ho) cs js ts pl := by
  have lg := h.lg
  have l3 := h.l3
  have l4 := h.l4
  have l5 := h.l5
  exact ⟨(heap_set_ne u g4 10 _ (by omega)).trans h.Z, (heap_set_ne u g4 10 _ (by omega)).trans h.R, by have := Go.heap_setCell_same u g4 10 _ _ (.int .i64 z) h.H; simpa using this, h.oR.kept (Go.Lib.grownBy_setCell u g4 10 _) (.inr (own_ne_type h.oR h.H (by decide))), h.oA.kept (Go.Lib.grownBy_setCell u g4 10 _) (.inr (own_ne_type h.oA h.H (by decide))), h.oC.kept (Go.Lib.grownBy_setCell u g4 10 _) (.inr (own_ne_type h.oC h.H (by decide))), h.oJ.kept (Go.Lib.grownBy_setCell u g4 10 _) (.inr (own_ne_type h.oJ h.H (by decide))), h.oT.kept (Go.Lib.grownBy_setCell u g4 10 _) (.inr (own_ne_type h.oT h.H (by decide))), h.oP.kept (Go.Lib.grownBy_setCell u g4 10 _) (.inr (own_ne_type h.oP h.H (by decide))), h.boR, h.boA, h.boC, h.boJ, h.boT, h.boP, h.xr, h.xp, h.xt, h.xc, h.cur.setCell g4 10 _ (by omega), grown_setD h.gr g4 10 _ (by omega), h.lg, h.l3, h.l4, h.l5, by rw [World.size_setCell]; exact h.l6⟩
theorem Rt.party {w u : World} {g : Nat} {A : Option Addr} {l : List Nat} {c top g3 g4 : Nat} {RB : Option Addr} {rc : Nat} {r : Ru} {x : Ho} {cs js : List Value} {ts : List Int} {pl : List Pt} (h : Rt w u g A l c top g3 g4 RB rc r x cs js ts pl) (P : Option Addr) (pc : Nat) (q : List Pt) (hP : u.ownsRow (w.heap.size + 1) 26 10 (.slice P q.length pc) q.length (q.flatMap ptC)) (hb : ∀ j, (Value.slice P q.length pc).ownBlock = some j → j < top) : Rt w (u.setCell ⟨g4, 11, none⟩ (.slice P q.length pc)) g A l c top g3 g4 RB rc r (⟨x.ra, x.rc, x.r, x.now, x.turn, P, q.length, pc, x.c, x.cn, x.cc, x.t, x.tn, x.tc, x.j, x.jn, x.jc⟩ : Ho) cs js ts q := by
  have lg := h.lg
  have l3 := h.l3
  have l4 := h.l4
  have l5 := h.l5
  exact ⟨(heap_set_ne u g4 11 _ (by omega)).trans h.Z, (heap_set_ne u g4 11 _ (by omega)).trans h.R, by have := Go.heap_setCell_same u g4 11 _ _ (.slice P q.length pc) h.H; simpa using this, h.oR.kept (Go.Lib.grownBy_setCell u g4 11 _) (.inr (own_ne_type h.oR h.H (by decide))), h.oA.kept (Go.Lib.grownBy_setCell u g4 11 _) (.inr (own_ne_type h.oA h.H (by decide))), h.oC.kept (Go.Lib.grownBy_setCell u g4 11 _) (.inr (own_ne_type h.oC h.H (by decide))), h.oJ.kept (Go.Lib.grownBy_setCell u g4 11 _) (.inr (own_ne_type h.oJ h.H (by decide))), h.oT.kept (Go.Lib.grownBy_setCell u g4 11 _) (.inr (own_ne_type h.oT h.H (by decide))), hP.kept (Go.Lib.grownBy_setCell u g4 11 _) (.inr (own_ne_type hP h.H (by decide))), h.boR, h.boA, h.boC, h.boJ, h.boT, hb, h.xr, rfl, h.xt, h.xc, h.cur.setCell g4 11 _ (by omega), grown_setD h.gr g4 11 _ (by omega), h.lg, h.l3, h.l4, h.l5, by rw [World.size_setCell]; exact h.l6⟩
theorem Rt.todo {w u : World} {g : Nat} {A : Option Addr} {l : List Nat} {c top g3 g4 : Nat} {RB : Option Addr} {rc : Nat} {r : Ru} {x : Ho} {cs js : List Value} {ts : List Int} {pl : List Pt} (h : Rt w u g A l c top g3 g4 RB rc r x cs js ts pl) (P : Option Addr) (pc : Nat) (q : List Int) (hP : u.ownsRow (w.heap.size + 1) 3 1 (.slice P q.length pc) q.length (ints q)) (hb : ∀ j, (Value.slice P q.length pc).ownBlock = some j → j < top) : Rt w (u.setCell ⟨g4, 13, none⟩ (.slice P q.length pc)) g A l c top g3 g4 RB rc r (⟨x.ra, x.rc, x.r, x.now, x.turn, x.p, x.pn, x.pc, x.c, x.cn, x.cc, P, q.length, pc, x.j, x.jn, x.jc⟩ : Ho) cs js q pl := by
  have lg := h.lg
  have l3 := h.l3
  have l4 := h.l4
  have l5 := h.l5
  exact ⟨(heap_set_ne u g4 13 _ (by omega)).trans h.Z, (heap_set_ne u g4 13 _ (by omega)).trans h.R, by have := Go.heap_setCell_same u g4 13 _ _ (.slice P q.length pc) h.H; simpa using this, h.oR.kept (Go.Lib.grownBy_setCell u g4 13 _) (.inr (own_ne_type h.oR h.H (by decide))), h.oA.kept (Go.Lib.grownBy_setCell u g4 13 _) (.inr (own_ne_type h.oA h.H (by decide))), h.oC.kept (Go.Lib.grownBy_setCell u g4 13 _) (.inr (own_ne_type h.oC h.H (by decide))), h.oJ.kept (Go.Lib.grownBy_setCell u g4 13 _) (.inr (own_ne_type h.oJ h.H (by decide))), hP.kept (Go.Lib.grownBy_setCell u g4 13 _) (.inr (own_ne_type hP h.H (by decide))), h.oP.kept (Go.Lib.grownBy_setCell u g4 13 _) (.inr (own_ne_type h.oP h.H (by decide))), h.boR, h.boA, h.boC, h.boJ, hb, h.boP, h.xr, h.xp, rfl, h.xc, h.cur.setCell g4 13 _ (by omega), grown_setD h.gr g4 13 _ (by omega), h.lg, h.l3, h.l4, h.l5, by rw [World.size_setCell]; exact h.l6⟩
theorem Rt.cell {w u : World} {g : Nat} {A : Option Addr} {l : List Nat} {c top g3 g4 : Nat} {RB : Option Addr} {rc : Nat} {r : Ru} {x : Ho} {cs js : List Value} {ts : List Int} {pl : List Pt} (h : Rt w u g A l c top g3 g4 RB rc r x cs js ts pl) {b : Nat} (hb : x.c = some ⟨b, 0, none⟩) (j : Nat) (v : Value) : Rt w (u.setCell ⟨b, j, none⟩ v) g A l c top g3 g4 RB rc r x (cs.set j v) js ts pl := by
  have hob : (Value.slice x.c x.cn x.cc).ownBlock = some b := by rw [hb]; rfl
  obtain ⟨cur, hcur⟩ := own_typed2 h.oC b hob
  have hlo := own_low h.oC b hob
  have lg := h.lg
  obtain ⟨xra, xrc, xr, xnow, xturn, xp, xpn, xpc, xc, xcn, xcc, xt, xtn, xtc, xj, xjn, xjc⟩ := x
  simp only at hb
  subst hb
  exact ⟨(heap_set_ne u b j _ (fun e => by have h1 := h.Z; rw [e, hcur] at h1; injection h1 with h1; injection h1 with _ h2; revert h2; decide)).trans h.Z, (heap_set_ne u b j _ (fun e => by have h1 := h.R; rw [e, hcur] at h1; injection h1 with h1; injection h1 with _ h2; revert h2; decide)).trans h.R, (heap_set_ne u b j _ (fun e => by have h1 := h.H; rw [e, hcur] at h1; injection h1 with h1; injection h1 with _ h2; revert h2; decide)).trans h.H, h.oR.kept (Go.Lib.grownBy_setCell u b j _) (.inr (own_ne_type h.oR hcur (by decide))), h.oA.kept (Go.Lib.grownBy_setCell u b j _) (.inr (own_ne_type h.oA hcur (by decide))), (h.oC.stored j v).1, h.oJ.kept (Go.Lib.grownBy_setCell u b j _) (.inr (own_ne_type h.oJ hcur (by decide))), h.oT.kept (Go.Lib.grownBy_setCell u b j _) (.inr (own_ne_type h.oT hcur (by decide))), h.oP.kept (Go.Lib.grownBy_setCell u b j _) (.inr (own_ne_type h.oP hcur (by decide))), h.boR, h.boA, h.boC, h.boJ, h.boT, h.boP, h.xr, h.xp, h.xt, h.xc, h.cur.setCell b j _ (by omega), grown_setD h.gr b j _ (by omega), h.lg, h.l3, h.l4, h.l5, by rw [World.size_setCell]; exact h.l6⟩
def putCbAt (w : World) (b o : Nat) (y : Cb) : World := (((((((w.setCell ⟨b, o, none⟩ (.int .i64 y.le.total)).setCell ⟨b, o + 1, none⟩ (.int .i64 y.le.free)).setCell ⟨b, o + 2, none⟩ (.int .i64 y.le.held)).setCell ⟨b, o + 3, none⟩ (.int .i64 y.le.sold)).setCell ⟨b, o + 4, none⟩ (.int .i64 y.le.tied)).setCell ⟨b, o + 5, none⟩ (.slice y.q y.qn y.qc)).setCell ⟨b, o + 6, none⟩ (.slice y.p y.pn y.pc))
theorem Rt.cabin {w u : World} {g : Nat} {A : Option Addr} {l : List Nat} {c top g3 g4 : Nat} {RB : Option Addr} {rc : Nat} {r : Ru} {x : Ho} {cs js : List Value} {ts : List Int} {pl : List Pt} (h : Rt w u g A l c top g3 g4 RB rc r x cs js ts pl) {b : Nat} (hb : x.c = some ⟨b, 0, none⟩) (o : Nat) (y : Cb) : ∃ cs2, Rt w (putCbAt u b o y) g A l c top g3 g4 RB rc r x cs2 js ts pl := by
  unfold putCbAt
  exact ⟨_, (((((((h.cell hb (o) (.int .i64 y.le.total)).cell hb (o + 1) (.int .i64 y.le.free)).cell hb (o + 2) (.int .i64 y.le.held)).cell hb (o + 3) (.int .i64 y.le.sold)).cell hb (o + 4) (.int .i64 y.le.tied)).cell hb (o + 5) (.slice y.q y.qn y.qc)).cell hb (o + 6) (.slice y.p y.pn y.pc))⟩
set_option maxRecDepth 100000 in
theorem exec_store_cbAt {ρ : Operand → Value} {o : Oper} {x y : Operand} (b off : Nat) (c : Cb) (w : World) (h : ∀ j, j < 7 → ∃ u, w.cell? ⟨b, off + j, none⟩ = some u) (hz : ∀ j, w.frozen? ⟨b, j, none⟩ = false) (ho : o.op = .store 59 x y := by rfl) (hx : ρ x = .pointer (some ⟨b, off, none⟩) := by rfl) (hy : ρ y = cbA c := by rfl) :
    (execOp ρ o).run Tryz.prog w = .ok .skip (putCbAt w b off c) := by
  obtain ⟨u0, c0⟩ := h 0 (by omega)
  have z0 := hz (off + 0)
  obtain ⟨u1, c1⟩ := h 1 (by omega)
  have z1 := hz (off + 1)
  obtain ⟨u2, c2⟩ := h 2 (by omega)
  have z2 := hz (off + 2)
  obtain ⟨u3, c3⟩ := h 3 (by omega)
  have z3 := hz (off + 3)
  obtain ⟨u4, c4⟩ := h 4 (by omega)
  have z4 := hz (off + 4)
  obtain ⟨u5, c5⟩ := h 5 (by omega)
  have z5 := hz (off + 5)
  obtain ⟨u6, c6⟩ := h 6 (by omega)
  have z6 := hz (off + 6)
  simp at c0 z0
  unfold execOp
  rw [ho]
  simp [go_sem, hx, hy, cbA, c0, c1, c2, c3, c4, c5, c6, z0, z1, z2, z3, z4, z5, z6, putCbAt]
set_option maxRecDepth 100000 in
theorem exec_idxCab {ρ : Operand → Value} {o : Oper} {x y : Operand} (b off n c k : Nat) (w : World) (h : k < n) (ho : o.op = .indexAddr 35 x y := by rfl) (hx : ρ x = .slice (some ⟨b, off, none⟩) n c := by rfl) (hy : ρ y = .int .i64 (k : Int) := by rfl) :
    (execOp ρ o).run Tryz.prog w = .ok (.value (.pointer (some ⟨b, off + k * 7, none⟩))) w := by
  have h1 : (k : Int) < (n : Int) := by omega
  unfold execOp
  rw [ho]
  simp [go_sem, hx, hy, h]
theorem putHo_cur {w : World} {g : Nat} {A : Option Addr} {l : List Nat} {c b : Nat} {x : Ho} (h : Cur w g A l c) (hb : g < b) : Cur (putHo w b x) g A l c := by
  unfold putHo
  exact Cur.setCell (Cur.setCell (Cur.setCell (Cur.setCell (Cur.setCell (Cur.setCell (Cur.setCell (Cur.setCell (Cur.setCell (Cur.setCell (Cur.setCell (Cur.setCell (Cur.setCell (Cur.setCell (Cur.setCell (h) b 0 _ hb) b 1 _ hb) b 2 _ hb) b 3 _ hb) b 4 _ hb) b 5 _ hb) b 6 _ hb) b 7 _ hb) b 8 _ hb) b 9 _ hb) b 10 _ hb) b 11 _ hb) b 12 _ hb) b 13 _ hb) b 14 _ hb
theorem putHo_grown {a w : World} {g b : Nat} {x : Ho} (h : a.grownBy w (some g)) (hb : a.heap.size ≤ b) : a.grownBy (putHo w b x) (some g) := by
  unfold putHo
  exact grown_setD (grown_setD (grown_setD (grown_setD (grown_setD (grown_setD (grown_setD (grown_setD (grown_setD (grown_setD (grown_setD (grown_setD (grown_setD (grown_setD (grown_setD (h) b 0 _ hb) b 1 _ hb) b 2 _ hb) b 3 _ hb) b 4 _ hb) b 5 _ hb) b 6 _ hb) b 7 _ hb) b 8 _ hb) b 9 _ hb) b 10 _ hb) b 11 _ hb) b 12 _ hb) b 13 _ hb) b 14 _ hb
structure Rt3 (w u : World) (g : Nat) (A : Option Addr) (l : List Nat) (c g3 g4 : Nat) (RB : Option Addr) (rc : Nat) (r : Ru) (x : Ho) (js : List Value) (pl : List Pt) : Prop where
  Z : u.heap[w.heap.size]? = some (.cells #[.slice none 0 0, .int .i64 0, .int .i64 0, .int .i64 0, .int .i64 0, .int .i64 0, .int .i64 0, .int .i64 0, .int .i64 0, .int .i64 0, .int .i64 0, .slice none 0 0, .slice none 0 0, .slice none 0 0, .slice none 0 0] 37)
  R : u.heap[g3]? = some (.cells #[.slice RB r.seats.length rc, .int .i64 r.tiers, .int .i64 r.room, .int .i64 r.size, .int .i64 r.period, .int .i64 r.window, .int .i64 r.rest, .int .i64 r.tries, .int .i64 r.crew] 34)
  H : u.heap[g4]? = some (.cells #[.slice x.ra x.r.seats.length x.rc, .int .i64 x.r.tiers, .int .i64 x.r.room, .int .i64 x.r.size, .int .i64 x.r.period, .int .i64 x.r.window, .int .i64 x.r.rest, .int .i64 x.r.tries, .int .i64 x.r.crew, .int .i64 x.now, .int .i64 x.turn, .slice x.p x.pn x.pc, .slice x.c x.cn x.cc, .slice x.t x.tn x.tc, .slice x.j x.jn x.jc] 37)
  oJ : u.ownsRow (w.heap.size + 1) 3 1 (.slice x.j x.jn x.jc) x.jn js
  oP : u.ownsRow (w.heap.size + 1) 26 10 (.slice x.p x.pn x.pc) x.pn (pl.flatMap ptC)
  cur : Cur u g A l c
  gr : w.grownBy u (some g)
  lg : g < w.heap.size
  l3 : w.heap.size < g3
  l4 : g3 < g4
  oC : ∃ cs, u.ownsRow (w.heap.size + 1) 59 7 (.slice x.c x.cn x.cc) x.cn cs
  oT : ∃ ts, u.ownsRow (w.heap.size + 1) 3 1 (.slice x.t x.tn x.tc) x.tn ts
  oA : u.ownsRow (w.heap.size + 1) 3 1 (.slice x.ra x.r.seats.length x.rc) x.r.seats.length (ints x.r.seats)
  ap : ∀ i j, (Value.slice x.ra x.r.seats.length x.rc).ownBlock = some i → (Value.slice x.j x.jn x.jc).ownBlock = some j → i < j
  xc : x.cn = r.seats.length
  xr : x.r = r
/-- A row stays a row where a cell of a block of its type is stored. -/
theorem own_stays {w : World} {B e sz n b : Nat} {v : Value} {cs : List Value} (h : w.ownsRow B e sz v n cs) (j : Nat) (u : Value) : ∃ cs2, (w.setCell ⟨b, j, none⟩ u).ownsRow B e sz v n cs2 := by
  by_cases hb : v.ownBlock = some b
  · obtain ⟨A, c, rfl, _, _⟩ := own_form h
    have hA : A = some ⟨b, 0, none⟩ := by
      rcases h.2 with ⟨h1, _⟩ | ⟨k, cap, cur, h1, _⟩
      · rw [h1] at hb; cases hb
      · rw [h1] at hb
        injection h1 with h1
        rw [h1]
        have hk : some k = some b := hb
        injection hk with hk
        rw [hk]
    subst hA
    exact ⟨_, (h.stored j u).1⟩
  · exact ⟨cs, h.kept (Go.Lib.grownBy_setCell w b j u) (.inr hb)⟩
theorem Rt.to3 {w u : World} {g : Nat} {A : Option Addr} {l : List Nat} {c top g3 g4 : Nat} {RB : Option Addr} {rc : Nat} {r : Ru} {x : Ho} {cs js : List Value} {ts : List Int} {pl : List Pt} (h : Rt w u g A l c top g3 g4 RB rc r x cs js ts pl) (ap : ∀ i j, (Value.slice x.ra x.r.seats.length x.rc).ownBlock = some i → (Value.slice x.j x.jn x.jc).ownBlock = some j → i < j) : Rt3 w u g A l c g3 g4 RB rc r x js pl := ⟨h.Z, h.R, h.H, h.oJ, h.oP, h.cur, h.gr, h.lg, h.l3, h.l4, ⟨_, h.oC⟩, ⟨_, h.oT⟩, h.oA, ap, h.xc, h.xr⟩
theorem Rt3.draw {w u u2 : World} {g : Nat} {A : Option Addr} {l : List Nat} {c g3 g4 : Nat} {RB : Option Addr} {rc : Nat} {r : Ru} {x : Ho} {js : List Value} {pl : List Pt} (h : Rt3 w u g A l c g3 g4 RB rc r x js pl) (gr : u.grownBy u2 (some g)) (hc : Cur u2 g A l c) : Rt3 w u2 g A l c g3 g4 RB rc r x js pl := by
  have lg := h.lg
  have l3 := h.l3
  have l4 := h.l4
  exact ⟨(gr.block _ (blk_lt h.Z) (fun e => by injection e with e; omega)).trans h.Z, (gr.block _ (blk_lt h.R) (fun e => by injection e with e; omega)).trans h.R, (gr.block _ (blk_lt h.H) (fun e => by injection e with e; omega)).trans h.H, own_cur h.oJ gr (by omega), own_cur h.oP gr (by omega), hc, h.gr.trans gr, lg, l3, l4, (let ⟨cs, o⟩ := h.oC; ⟨cs, own_cur o gr (by omega)⟩), (let ⟨ts, o⟩ := h.oT; ⟨ts, own_cur o gr (by omega)⟩), own_cur h.oA gr (by omega), h.ap, h.xc, h.xr⟩
theorem Rt3.job {w u : World} {g : Nat} {A : Option Addr} {l : List Nat} {c g3 g4 : Nat} {RB : Option Addr} {rc : Nat} {r : Ru} {x : Ho} {js : List Value} {pl : List Pt} (h : Rt3 w u g A l c g3 g4 RB rc r x js pl) {b : Nat} (hb : x.j = some ⟨b, 0, none⟩) (j : Nat) (v : Value) : Rt3 w (u.setCell ⟨b, j, none⟩ v) g A l c g3 g4 RB rc r x (js.set j v) pl := by
  have hob : (Value.slice x.j x.jn x.jc).ownBlock = some b := by rw [hb]; rfl
  obtain ⟨cur, hcur⟩ := own_typed2 h.oJ b hob
  have hlo := own_low h.oJ b hob
  have lg := h.lg
  obtain ⟨xra, xrc, xr, xnow, xturn, xp, xpn, xpc, xc, xcn, xcc, xt, xtn, xtc, xj, xjn, xjc⟩ := x
  simp only at hb
  subst hb
  exact ⟨(heap_set_ne u b j _ (fun e => by have h1 := h.Z; rw [e, hcur] at h1; injection h1 with h1; injection h1 with _ h2; revert h2; decide)).trans h.Z, (heap_set_ne u b j _ (fun e => by have h1 := h.R; rw [e, hcur] at h1; injection h1 with h1; injection h1 with _ h2; revert h2; decide)).trans h.R, (heap_set_ne u b j _ (fun e => by have h1 := h.H; rw [e, hcur] at h1; injection h1 with h1; injection h1 with _ h2; revert h2; decide)).trans h.H, (h.oJ.stored j v).1, h.oP.kept (Go.Lib.grownBy_setCell u b j _) (.inr (own_ne_type h.oP hcur (by decide))), h.cur.setCell b j _ (by omega), grown_setD h.gr b j _ (by omega), lg, h.l3, h.l4, (let ⟨cs, o⟩ := h.oC; own_stays o j v), (let ⟨ts, o⟩ := h.oT; own_stays o j v), h.oA.kept (Go.Lib.grownBy_setCell u b j _) (.inr (fun e => by have := h.ap b b e rfl; omega)), h.ap, h.xc, h.xr⟩
end Go.Proofs.YtlflgflmlfileaaGreat
