/- The walk of the exact law over CabinNew. -/
import Derived.Test.YtdjglbmcpfaofaaRows
import Derived.Test.YtdjglbmcpfaofaaCbN
namespace Go.Proofs.Ytdjglbmcpfaofaa
open Go.RowKit
set_option linter.unusedSimpArgs false
set_option linter.unusedVariables false
/-- A cabin of the call's own, with no entries, and the box that holds it. -/
structure Bc (u : World) (g lo hi : Nat) (l : Le) (A : Option Addr) (c : Nat) (sp : List Sp) : Prop where
  H : u.heap[g]? = some (.cells #[.int .i64 l.total, .int .i64 l.free, .int .i64 l.held, .int .i64 l.sold, .int .i64 l.tied, .slice none 0 0, .slice A sp.length c] 38)
  O : OwnW u lo A c sp
  rng : ∀ q, (q = g ∨ InW A sp q) → lo ≤ q ∧ q < hi
theorem Bc.call {u u' : World} {g lo hi : Nat} {l : Le} {A : Option Addr} {c : Nat} {sp : List Sp} (h : Bc u g lo hi l A c sp) (b : Below u.heap.size u u') : Bc u' g lo hi l A c sp :=
  ⟨blk_call h.H b, h.O.below b, h.rng⟩
theorem Bc.tch {P : Nat → Prop} {u u' : World} {g lo hi : Nat} {l : Le} {A : Option Addr} {c : Nat} {sp : List Sp} (h : Bc u g lo hi l A c sp) (t : Tch P u u') (hd : ∀ q, lo ≤ q → q < hi → ¬ P q) : Bc u' g lo hi l A c sp :=
  ⟨t.blk h.H (by have := h.rng g (.inl rfl); exact hd g this.1 this.2), t.wheel h.O (fun q hq => by have := h.rng q (.inr hq); exact hd q this.1 this.2), h.rng⟩
theorem Bc.new {u : World} {lo : Nat} {l : Le} {A : Option Addr} {c : Nat} {sp : List Sp} (h : OwnW u lo A c sp) (hl : lo ≤ u.heap.size) : Bc (u.alloc (.cells #[.int .i64 l.total, .int .i64 l.free, .int .i64 l.held, .int .i64 l.sold, .int .i64 l.tied, .slice none 0 0, .slice A sp.length c] 38)) u.heap.size lo (u.heap.size + 1) l A c sp :=
  ⟨heap_new _ _, h.alloc _, fun q hq => by
    rcases hq with rfl | hq
    · omega
    · have := h.lo q hq; omega⟩
theorem Bc.out {u : World} {g lo hi : Nat} {l : Le} {A : Option Addr} {c : Nat} {sp : List Sp} (h : Bc u g lo hi l A c sp) : ¬ InW A sp g := by
  rintro (hg | ⟨s, hs, hg⟩)
  · exact own_ne_type h.O.row h.H (by decide) (by rw [ownBlock_eq]; exact hg)
  · exact own_ne_type (h.O.sp s hs) h.H (by decide) (by rw [ownBlock_eq]; exact hg)
theorem Bc.mark {u u' : World} {g lo hi k : Nat} {l : Le} {A : Option Addr} {c : Nat} {sp : List Sp} (h : Bc u g lo hi l A c sp) (o : OwnW u' lo A c (marksW k sp)) (t : Tch (InW A sp) u u') : Bc u' g lo hi l A c (marksW k sp) :=
  ⟨by rw [marksW_length]; exact t.blk h.H h.out, o, fun q hq => h.rng q (hq.imp id (fun h => (marksW_in A k sp q).1 h))⟩
theorem Bc.reads {u : World} {g lo hi : Nat} {l : Le} {A : Option Addr} {c : Nat} {sp : List Sp} (h : Bc u g lo hi l A c sp) : (⟨l, none, 0, [], A, c, sp⟩ : Cv).reads u := ⟨.inl rfl, h.O.whl⟩
theorem cabNew_sz (t : Int) : SzW (cabNewV t).2.1 := by
  unfold cabNewV
  split
  · exact nine_sz
  · constructor <;> simp
set_option maxRecDepth 100000 in
set_option maxHeartbeats 6400000 in
theorem FnExactCabinNew_walk (t : Int) (w : World) (ht : inI t) : Calls Try.prog 4 #[.int .i64 t] w fun e w' => e = .returned (.bool true) ∧ Below w.heap.size w w' := by
  obtain ⟨⟨L, ls, b⟩, hX⟩ : ∃ X, cabNewV t = X := ⟨_, rfl⟩
  have hS := cabNew_sz t
  have C1 := Lib.hid (fun w => cabinNew_spec t w ht)
  have C2 := Lib.hid (fun w => cabinNew_impl t w ht)
  rw [hX] at hS C1 C2
  have HS := Lib.hid hS
  have nB : (b != b) = false := by simp
  clear hX hS ht
  have bW := Below.refl w.heap.size w
  go_enter Try.func4, Try.ntmps4
  have HbW := Lib.hid bW
  clear bW
  go_wp2_with fail
  have bW := HbW.out
  clear HbW
  refine (C1.out _).mono ?_
  rintro e u1 ⟨Q, qc, sq, rfl, hmq, oq, x1⟩
  have bW := bW.trans (x1.mono bW.size)
  have Z1 := x1.size
  try simp only [World.size_alloc] at Z1
  have B1 := Bc.new (l := L) oq x1.size
  try simp only [World.size_alloc] at B1
  clear x1 oq
  unfold cvA
  have xa : Below u1.heap.size u1 (u1.alloc (.cells #[.int .i64 L.total, .int .i64 L.free, .int .i64 L.held, .int .i64 L.sold, .int .i64 L.tied, .slice none 0 0, .slice Q sq.length qc] 38)) := (Below.refl _ _).alloc (Nat.le_refl _) _
  have bW := bW.trans (xa.mono bW.size)
  have Z2 := xa.size
  try simp only [World.size_alloc] at Z2
  clear xa
  have HB1 := Lib.hid B1
  have HbW := Lib.hid bW
  clear B1 bW
  go_wp2_with fail
  have B1 := HB1.out
  have bW := HbW.out
  clear HB1 HbW
  refine (C2.out _).mono ?_
  rintro e u2 ⟨G, gc, sg, rfl, hmg, og, apG, x2⟩
  have B1 := B1.call x2
  have bW := bW.trans (x2.mono bW.size)
  have Z3 := x2.size
  try simp only [World.size_alloc] at Z3
  have B2 := Bc.new (l := L) og x2.size
  try simp only [World.size_alloc] at B2
  clear x2 og
  unfold cvA
  have xa : Below u2.heap.size u2 (u2.alloc (.cells #[.int .i64 L.total, .int .i64 L.free, .int .i64 L.held, .int .i64 L.sold, .int .i64 L.tied, .slice none 0 0, .slice G sg.length gc] 38)) := (Below.refl _ _).alloc (Nat.le_refl _) _
  have B1 := B1.call xa
  have bW := bW.trans (xa.mono bW.size)
  have Z4 := xa.size
  try simp only [World.size_alloc] at Z4
  clear xa
  have HAP := Lib.hid apG
  clear apG
  have HMQ := Lib.hid hmq
  have HMG := Lib.hid hmg
  clear hmq hmg
  have qB10 := cell_of_row _ _ 0 _ _ _ B1.H
  have qB11 := cell_of_row _ _ 1 _ _ _ B1.H
  have qB12 := cell_of_row _ _ 2 _ _ _ B1.H
  have qB13 := cell_of_row _ _ 3 _ _ _ B1.H
  have qB14 := cell_of_row _ _ 4 _ _ _ B1.H
  have qB15 := cell_of_row _ _ 5 _ _ _ B1.H
  have qB16 := cell_of_row _ _ 6 _ _ _ B1.H
  have qB20 := cell_of_row _ _ 0 _ _ _ B2.H
  have qB21 := cell_of_row _ _ 1 _ _ _ B2.H
  have qB22 := cell_of_row _ _ 2 _ _ _ B2.H
  have qB23 := cell_of_row _ _ 3 _ _ _ B2.H
  have qB24 := cell_of_row _ _ 4 _ _ _ B2.H
  have qB25 := cell_of_row _ _ 5 _ _ _ B2.H
  have qB26 := cell_of_row _ _ 6 _ _ _ B2.H
  simp at qB10 qB11 qB12 qB13 qB14 qB15 qB16 qB20 qB21 qB22 qB23 qB24 qB25 qB26
  have HB1 := Lib.hid B1
  have HB2 := Lib.hid B2
  have HbW := Lib.hid bW
  clear B1 B2 bW
  go_wp2_with fail
  have B1 := HB1.out
  have B2 := HB2.out
  have bW := HbW.out
  clear HB1 HB2 HbW
  clear qB10 qB11 qB12 qB13 qB14 qB15 qB16 qB20 qB21 qB22 qB23 qB24 qB25 qB26
  refine (eqCabin_same ⟨L, none, 0, [], G, gc, sg⟩ ⟨L, none, 0, [], Q, qc, sq⟩ _ ⟨by simp, by show SzW (List.map _ _); rw [HMG.out]; exact HS.out⟩ ⟨rfl, rfl, HMG.out.trans HMQ.out.symm⟩ B2.reads B1.reads).mono ?_
  rintro e u3 ⟨rfl, x3⟩
  have B1 := B1.call x3
  have B2 := B2.call x3
  have bW := bW.trans (x3.mono bW.size)
  have Z5 := x3.size
  try simp only [World.size_alloc] at Z5
  clear x3
  obtain ⟨hng, hlg⟩ := SzW.of HS.out HMG.out
  obtain ⟨M, hM⟩ : ∃ M : Nat, 1 + (allPn sg).length * 2 = M := ⟨_, rfl⟩
  have CM := Lib.hid (fun w' lo (h : OwnW w' lo G gc sg) => markCabin_any L G gc sg lo w' (by omega) (by omega) h HAP.out)
  have CH := Lib.hid (fun w' (h : Whl w' G (marksW 1 sg)) => heldCabin_any L G gc sg w' (by omega) (by omega) h)
  rw [hM] at CM CH
  have nK : decide ((M : Int) < 0) = false := by simp
  have nQ : ((M : Int) != (M : Int)) = false := by simp
  clear hM hng hlg
  have qB20 := cell_of_row _ _ 0 _ _ _ B2.H
  have qB21 := cell_of_row _ _ 1 _ _ _ B2.H
  have qB22 := cell_of_row _ _ 2 _ _ _ B2.H
  have qB23 := cell_of_row _ _ 3 _ _ _ B2.H
  have qB24 := cell_of_row _ _ 4 _ _ _ B2.H
  have qB25 := cell_of_row _ _ 5 _ _ _ B2.H
  have qB26 := cell_of_row _ _ 6 _ _ _ B2.H
  simp at qB20 qB21 qB22 qB23 qB24 qB25 qB26
  have HB1 := Lib.hid B1
  have HB2 := Lib.hid B2
  have HbW := Lib.hid bW
  clear B1 B2 bW
  go_wp2_with fail
  have B1 := HB1.out
  have B2 := HB2.out
  have bW := HbW.out
  clear HB1 HB2 HbW
  clear qB20 qB21 qB22 qB23 qB24 qB25 qB26
  refine (CM.out _ _ B2.O).mono ?_
  rintro e u4 ⟨rfl, om, tm⟩
  have B1 := B1.tch tm (fun q h1 h2 h3 => by have := B2.rng _ (.inr h3); omega)
  have bW := bW.trans (tm.below bW.size (fun q h => by have := B2.rng _ (.inr h); omega))
  have Z6 := tm.size
  try simp only [World.size_alloc] at Z6
  have B2 := B2.mark om tm
  clear om tm
  have qB20 := cell_of_row _ _ 0 _ _ _ B2.H
  have qB21 := cell_of_row _ _ 1 _ _ _ B2.H
  have qB22 := cell_of_row _ _ 2 _ _ _ B2.H
  have qB23 := cell_of_row _ _ 3 _ _ _ B2.H
  have qB24 := cell_of_row _ _ 4 _ _ _ B2.H
  have qB25 := cell_of_row _ _ 5 _ _ _ B2.H
  have qB26 := cell_of_row _ _ 6 _ _ _ B2.H
  simp at qB20 qB21 qB22 qB23 qB24 qB25 qB26
  try rw [marksW_length] at qB26
  have HB1 := Lib.hid B1
  have HB2 := Lib.hid B2
  have HbW := Lib.hid bW
  clear B1 B2 bW
  go_wp2_with fail
  have B1 := HB1.out
  have B2 := HB2.out
  have bW := HbW.out
  clear HB1 HB2 HbW
  clear qB20 qB21 qB22 qB23 qB24 qB25 qB26
  refine (CH.out _ B2.O.whl).mono ?_
  rintro e u5 ⟨rfl, x5⟩
  have B1 := B1.call x5
  have B2 := B2.call x5
  have bW := bW.trans (x5.mono bW.size)
  have Z7 := x5.size
  try simp only [World.size_alloc] at Z7
  clear x5
  have HB1 := Lib.hid B1
  have HB2 := Lib.hid B2
  have HbW := Lib.hid bW
  clear B1 B2 bW
  go_wp2_with fail
  have B1 := HB1.out
  have B2 := HB2.out
  have bW := HbW.out
  clear HB1 HB2 HbW
  refine (C2.out _).mono ?_
  rintro e u6 ⟨H, hc, sh, rfl, hmh, oh, apH, x6⟩
  have B1 := B1.call x6
  have B2 := B2.call x6
  have bW := bW.trans (x6.mono bW.size)
  have Z8 := x6.size
  try simp only [World.size_alloc] at Z8
  have B5 := Bc.new (l := L) oh x6.size
  try simp only [World.size_alloc] at B5
  clear x6 oh
  unfold cvA
  have xa : Below u6.heap.size u6 (u6.alloc (.cells #[.int .i64 L.total, .int .i64 L.free, .int .i64 L.held, .int .i64 L.sold, .int .i64 L.tied, .slice none 0 0, .slice H sh.length hc] 38)) := (Below.refl _ _).alloc (Nat.le_refl _) _
  have B1 := B1.call xa
  have B2 := B2.call xa
  have bW := bW.trans (xa.mono bW.size)
  have Z9 := xa.size
  try simp only [World.size_alloc] at Z9
  clear xa
  have HMH := Lib.hid hmh
  clear hmh apH
  have qB10 := cell_of_row _ _ 0 _ _ _ B1.H
  have qB11 := cell_of_row _ _ 1 _ _ _ B1.H
  have qB12 := cell_of_row _ _ 2 _ _ _ B1.H
  have qB13 := cell_of_row _ _ 3 _ _ _ B1.H
  have qB14 := cell_of_row _ _ 4 _ _ _ B1.H
  have qB15 := cell_of_row _ _ 5 _ _ _ B1.H
  have qB16 := cell_of_row _ _ 6 _ _ _ B1.H
  have qB50 := cell_of_row _ _ 0 _ _ _ B5.H
  have qB51 := cell_of_row _ _ 1 _ _ _ B5.H
  have qB52 := cell_of_row _ _ 2 _ _ _ B5.H
  have qB53 := cell_of_row _ _ 3 _ _ _ B5.H
  have qB54 := cell_of_row _ _ 4 _ _ _ B5.H
  have qB55 := cell_of_row _ _ 5 _ _ _ B5.H
  have qB56 := cell_of_row _ _ 6 _ _ _ B5.H
  simp at qB10 qB11 qB12 qB13 qB14 qB15 qB16 qB50 qB51 qB52 qB53 qB54 qB55 qB56
  have HB1 := Lib.hid B1
  have HB2 := Lib.hid B2
  have HB5 := Lib.hid B5
  have HbW := Lib.hid bW
  clear B1 B2 B5 bW
  go_wp2_with fail
  have B1 := HB1.out
  have B2 := HB2.out
  have B5 := HB5.out
  have bW := HbW.out
  clear HB1 HB2 HB5 HbW
  clear qB10 qB11 qB12 qB13 qB14 qB15 qB16 qB50 qB51 qB52 qB53 qB54 qB55 qB56
  refine (eqCabin_same ⟨L, none, 0, [], H, hc, sh⟩ ⟨L, none, 0, [], Q, qc, sq⟩ _ ⟨by simp, by show SzW (List.map _ _); rw [HMH.out]; exact HS.out⟩ ⟨rfl, rfl, HMH.out.trans HMQ.out.symm⟩ B5.reads B1.reads).mono ?_
  rintro e u7 ⟨rfl, x7⟩
  have B1 := B1.call x7
  have B2 := B2.call x7
  have B5 := B5.call x7
  have bW := bW.trans (x7.mono bW.size)
  have Z10 := x7.size
  try simp only [World.size_alloc] at Z10
  clear x7
  have qB20 := cell_of_row _ _ 0 _ _ _ B2.H
  have qB21 := cell_of_row _ _ 1 _ _ _ B2.H
  have qB22 := cell_of_row _ _ 2 _ _ _ B2.H
  have qB23 := cell_of_row _ _ 3 _ _ _ B2.H
  have qB24 := cell_of_row _ _ 4 _ _ _ B2.H
  have qB25 := cell_of_row _ _ 5 _ _ _ B2.H
  have qB26 := cell_of_row _ _ 6 _ _ _ B2.H
  simp at qB20 qB21 qB22 qB23 qB24 qB25 qB26
  try rw [marksW_length] at qB26
  have HB1 := Lib.hid B1
  have HB2 := Lib.hid B2
  have HB5 := Lib.hid B5
  have HbW := Lib.hid bW
  clear B1 B2 B5 bW
  go_wp2_with fail
  have B1 := HB1.out
  have B2 := HB2.out
  have B5 := HB5.out
  have bW := HbW.out
  clear HB1 HB2 HB5 HbW
  clear qB20 qB21 qB22 qB23 qB24 qB25 qB26
  refine (CH.out _ B2.O.whl).mono ?_
  rintro e u8 ⟨rfl, x8⟩
  have B1 := B1.call x8
  have B2 := B2.call x8
  have B5 := B5.call x8
  have bW := bW.trans (x8.mono bW.size)
  have Z11 := x8.size
  try simp only [World.size_alloc] at Z11
  clear x8
  have HB := Lib.hid bW
  clear B1 B2 B5 bW
  go_wp2
  go_ret
  exact ⟨rfl, HB.out⟩
end Go.Proofs.Ytdjglbmcpfaofaa
