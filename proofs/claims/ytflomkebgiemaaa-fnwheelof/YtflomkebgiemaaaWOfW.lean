/- The walk of the law FnWheelOf. -/
import Derived.Test.YtflomkebgiemaaaRows
import Derived.Test.YtflomkebgiemaaaWiS
import Derived.Test.YtflomkebgiemaaaWhMa
namespace Go.Proofs.Ytflomkebgiemaaa
open Go.RowKit
set_option linter.unusedSimpArgs false
set_option linter.unusedVariables false
theorem rev_take (el : List Pn) (j : Nat) (h : j < el.length) : el.reverse.take (j + 1) = el.reverse.take j ++ [el.getD (el.length - 1 - j) pn0] := by
  rw [take_succ_getD el.reverse j pn0 (by simpa using h)]
  congr 2
  simp [List.getD_eq_getElem?_getD, List.getElem?_reverse h]
set_option maxRecDepth 100000 in
set_option maxHeartbeats 6400000 in
theorem FnWheelOf_walk (A : Option Addr) (l : List Nat) (cap : Nat) (w : World) (hA : Bts w w.heap.size A l) (hb : AllB l) (hm : l.length ≤ maxLen) :
    Calls Try.prog 5 #[.slice A l.length cap] w fun e w' => e = .returned (.bool true) ∧ Below w.heap.size w w' := by
  by_cases hbig : 1048576 < l.length
  · go_enter Try.func5, Try.ntmps5
    go_wp2_with fail
    refine (big_yes _ _ _ _ hbig).mono ?_
    rintro e w' ⟨rfl, rfl⟩
    go_wp2
    go_ret
    exact ⟨rfl, Below.refl _ _⟩
  have hl : l.length ≤ 1048576 := by omega
  clear hbig hm
  have CD := Lib.hid (drawWheelOf_any A l cap w (by omega) hA hb)
  go_enter Try.func5, Try.ntmps5
  go_wp2_with fail
  refine (big_no _ _ _ _ hl).mono ?_
  rintro e w' ⟨rfl, rfl⟩
  go_wp2_with fail
  refine CD.out.mono ?_
  rintro e w2 ⟨el, LA, lc, hel, hef, rfl, hR, bW⟩
  have bX := Below.refl w2.heap.size w2
  have hww2 : w.heap.size ≤ w2.heap.size := bW.size
  have C1 : Hid (∀ w', Unit → Rws w' w'.heap.size LA (el.flatMap pnC) → Calls Try.prog 27 #[.slice LA el.length lc] w' (NewXB w' (wheelOfV el))) := fun w' _ h => wheelOf_impl LA el lc w' (by omega) hef h
  have C2 := Lib.hid (fun w' h => wheelOf_spec LA el lc w' (by omega) h)
  have C3 : Hid (∀ w' X xc, Rws w' w'.heap.size X (el.reverse.flatMap pnC) → Calls Try.prog 27 #[.slice X el.length xc] w' (NewXB w' (wheelOfV el.reverse))) := fun w' X xc h => by
    have := wheelOf_impl X el.reverse xc w' (by simp; omega) (fun x hx => hef x (by simpa using hx)) h
    rw [List.length_reverse] at this; exact this
  obtain ⟨hr1, hr2, hr3⟩ := of_rev el
  have hs1 := ofV_sz el
  have hs2 := ofV_sz el.reverse
  have hf1 := ofV_fits hef
  have hf2 := ofV_fits (l := el.reverse) (fun x hx => hef x (by simpa using hx))
  obtain ⟨r, er⟩ : ∃ r, wheelOfV el = r := ⟨_, rfl⟩
  obtain ⟨s, es⟩ : ∃ s, wheelOfV el.reverse = s := ⟨_, rfl⟩
  rw [er] at C1 C2 hr1 hr2 hr3 hs1 hf1
  rw [es] at C3 hr1 hr2 hs2 hf2
  obtain ⟨s1, s2⟩ := s
  simp only at hr1
  subst hr1
  have CS := Lib.hid (fun w' X Y sx sy xc yc h1 h2 h h' => sameWheel_impl X Y sx sy xc yc w' r.1 s1 h1 h2 hs1 hs2 hf1 hf2 h h')
  have CP : Hid (∀ w' X (sx : List Sp) xc, sx.map (fun s => s.l) = r.1 → Whl w' X sx → Calls Try.prog 17 #[.agg #[.slice X sx.length xc]] w' (NewR 33 2 w' (pinsW r.1).length ((pinsW r.1).flatMap pnC))) := fun w' X sx xc h1 h => by
    obtain ⟨a1, a2⟩ := SzW.of hs1 h1
    have := pinsOf_spec X sx xc w' (by omega) (by omega) h
    rw [h1] at this; exact this
  have HR2 := Lib.hid hr2
  have HR3 := Lib.hid hr3
  have nB : (r.2 != r.2) = false := by simp
  clear CD er es hr2 hr3 hs1 hs2 hf1 hf2
  go_wp2_with fail
  refine (C1.out _ () (rws_below hR bX)).mono ?_
  rintro e u3 ⟨G, gc, sg, rfl, hmg, oG, apG, x3⟩
  have bX := bX.trans (x3.mono bX.size)
  have bW := bW.trans (x3.mono bW.size)
  have Z1 := x3.size
  try simp only [World.size_alloc] at Z1
  have B4 := Bx.new oG x3.size
  try simp only [World.size_alloc] at B4
  clear x3 oG apG
  have xa : Below u3.heap.size u3 (u3.alloc (.cells #[.slice G sg.length gc] 26)) := (Below.refl _ _).alloc (Nat.le_refl _) _
  have bX := bX.trans (xa.mono bX.size)
  have bW := bW.trans (xa.mono bW.size)
  have Z2 := xa.size
  try simp only [World.size_alloc] at Z2
  clear xa
  have r0 := B4.cell
  go_wp2_with fail
  refine (C2.out _ (rws_below hR bX)).mono ?_
  rintro e u4 ⟨Q, qc, sq, rfl, hmq, oQ, x4⟩
  clear r0
  have bX := bX.trans (x4.mono bX.size)
  have B4 := B4.call x4
  have bW := bW.trans (x4.mono bW.size)
  have Z3 := x4.size
  try simp only [World.size_alloc] at Z3
  have B6 := Bx.new oQ x4.size
  try simp only [World.size_alloc] at B6
  clear x4 oQ
  have xa : Below u4.heap.size u4 (u4.alloc (.cells #[.slice Q sq.length qc] 26)) := (Below.refl _ _).alloc (Nat.le_refl _) _
  have bX := bX.trans (xa.mono bX.size)
  have B4 := B4.call xa
  have bW := bW.trans (xa.mono bW.size)
  have Z4 := xa.size
  try simp only [World.size_alloc] at Z4
  clear xa
  have O0 := own_empty (u4.alloc (.cells #[.slice Q sq.length qc] 26)) (u4.alloc (.cells #[.slice Q sq.length qc] 26)).heap.size 33 2 (Nat.le_refl _)
  have xb : Below (u4.alloc (.cells #[.slice Q sq.length qc] 26)).heap.size (u4.alloc (.cells #[.slice Q sq.length qc] 26)) ((u4.alloc (.cells #[.slice Q sq.length qc] 26)).alloc (.cells #[] 33)) := (Below.refl _ _).alloc (Nat.le_refl _) _
  have B4 := B4.call xb
  have bX := bX.trans (xb.mono bX.size)
  have bW := bW.trans (xb.mono bW.size)
  have Zb := xb.size
  simp only [World.size_alloc] at O0 Zb
  have hN4 : u3.heap.size + 1 ≤ u4.heap.size + 1 := by omega
  have hN2 : w2.heap.size ≤ u4.heap.size + 1 := by omega
  have HB4 := Lib.hid B4
  have HbX := Lib.hid bX
  have HbW := Lib.hid bW
  have HO0 := Lib.hid O0
  clear B4 B6 bX bW O0 xb
  go_wp2
  go_loopw [8, 9] (fun v i wr => ∃ j : Nat, j ≤ el.length ∧ i = .int .i64 ((el.length : Int) - 1 - j) ∧ Hid (wr.ownsRow (u4.heap.size + 1) 33 2 v (el.reverse.take j).length ((el.reverse.take j).flatMap pnC)) ∧ Hid (Bx wr u3.heap.size w2.heap.size (u3.heap.size + 1) G gc sg) ∧ Hid (Below w2.heap.size w2 wr) ∧ Hid (Below w.heap.size w wr) ∧ u4.heap.size + 1 ≤ wr.heap.size) (fun _ i _ => (intOf i + 1).toNat)
  case atStart => exact ⟨0, by omega, by simp, HO0, HB4, HbX, HbW, by simp⟩
  case round =>
    clear HO0 HB4 HbX HbW
    obtain ⟨j, hj, rfl, ho, hB4, hbX, hbW, hz⟩ := hrel
    obtain ⟨OA, oc, rfl, _⟩ := own_form ho.out
    by_cases hlt : j < el.length
    · have hjr := rev_take el j hlt
      have hidx : el.length - 1 - j < el.length := by omega
      obtain ⟨i, hi⟩ : ∃ i, i = el.length - 1 - j := ⟨_, rfl⟩
      have hin : (el.length : Int) - 1 - j = (i : Int) := by omega
      rw [← hi] at hjr hidx
      obtain ⟨b, off, rfl, hbB, hc⟩ := (rws_below hR hbX.out).pn hidx
      have HJ := Lib.hid hjr
      have hjl : (el.reverse.take j).length ≤ 7 := by rw [List.length_take]; simp; omega
      generalize el.getD i pn0 = x at *
      obtain ⟨c0, c1⟩ := hc
      have O1 := Lib.hid (ho.out.alloc (.cells #[.int .i64 x.at_, .int .i64 x.id] 33))
      have RN : Hid (Rws (wr.alloc (.cells #[.int .i64 x.at_, .int .i64 x.id] 33)) (wr.heap.size + 1) (some ⟨wr.heap.size, 0, none⟩) (pnC x)) := Rws.new wr (pnC x) 33
      have ba : Below wr.heap.size wr (wr.alloc (.cells #[.int .i64 x.at_, .int .i64 x.id] 33)) := (Below.refl _ _).alloc (Nat.le_refl _) _
      have B1 := Lib.hid (hB4.out.call ba)
      have X1 := Lib.hid (hbX.out.trans (ba.mono hbX.out.size))
      have W1 := Lib.hid (hbW.out.trans (ba.mono hbW.out.size))
      have HI := Lib.hid hi
      rw [hin]
      clear hjr ba hi
      generalize hF : el.reverse.take j = F at *
      clear hF
      go_wp2_with (at_builtin; refine wpList_appR rowPin _ rfl (.tmp 37) (.tmp 42) rfl (u4.heap.size + 1) _ F.length (F.flatMap pnC) rfl O1.out _ (some ⟨wr.heap.size, 0, none⟩) 1 1 (pnC x) rfl rfl RN.out (by simp) (by intro u hu; simp [pnC] at hu; rcases hu with rfl | rfl <;> rfl) (by omega) (by simp; omega) ?_)
      intro v2 w5 o2 g2
      have hs2 := g2.size
      simp only [World.size_alloc] at hs2
      have lo := own_low O1.out
      have tm := Tch.of_grown (P := fun i => u4.heap.size + 1 ≤ i) g2 lo
      have B2 := Lib.hid (B1.out.tch tm (fun q h1 h2 h3 => by omega))
      have X2 := Lib.hid (X1.out.trans (tm.below X1.out.size (fun q h => by omega)))
      have hww := W1.out.size
      have hw2 : w.heap.size ≤ u4.heap.size + 1 := by omega
      have W2' := Lib.hid (W1.out.trans (tm.below W1.out.size (fun q h => by omega)))
      have O2 : Hid (w5.ownsRow (u4.heap.size + 1) 33 2 v2 (el.reverse.take (j + 1)).length ((el.reverse.take (j + 1)).flatMap pnC)) := by
        show World.ownsRow _ _ _ _ _ _ _
        rw [HJ.out, List.length_append, List.flatMap_append]
        have e : [x].flatMap pnC = pnC x := by simp
        rw [e]; exact o2
      clear o2 g2 lo tm O1 RN B1 X1 W1 ho hB4 hbX hbW c0 c1
      go_wp2
      go_roundw
      case rel => exact ⟨j + 1, by omega, by have := HI.out; go_num, O2, B2, X2, W2', by omega⟩
      case measure => simp [intOf] <;> omega
    obtain rfl : j = el.length := by omega
    have htk : el.reverse.take el.length = el.reverse := List.take_of_length_le (by simp)
    rw [htk] at ho ⊢
    simp only [List.length_reverse] at ho ⊢
    have hi9 : ((el.length : Int) - 1 - (el.length : Int)) = -1 := by omega
    rw [hi9]
    have B4 := hB4.out
    have bX := hbX.out
    have bW := hbW.out
    clear hB4 hbX hbW
    have r0 := B4.cell
    go_wp2_with fail
    refine (C3.out _ OA oc (own_rws ho.out)).mono ?_
    rintro e u5 ⟨V, vc, sv, rfl, hmv, oV, apV, x5⟩
    clear r0
    have bX := bX.trans (x5.mono bX.size)
    have B4 := B4.call x5
    have bW := bW.trans (x5.mono bW.size)
    have Z1 := x5.size
    try simp only [World.size_alloc] at Z1
    have B10 := Bx.new oV x5.size
    try simp only [World.size_alloc] at B10
    clear x5 oV apV
    have xa : Below u5.heap.size u5 (u5.alloc (.cells #[.slice V sv.length vc] 26)) := (Below.refl _ _).alloc (Nat.le_refl _) _
    have bX := bX.trans (xa.mono bX.size)
    have B4 := B4.call xa
    have bW := bW.trans (xa.mono bW.size)
    have Z2 := xa.size
    try simp only [World.size_alloc] at Z2
    clear xa
    obtain ⟨r1, r2⟩ := r
    cases r2 with
    | false =>
      have h0 : sg = [] := by
        have h1 : sg.map (fun s => s.l) = r1 := hmg
        have h9 : r1 = [] := HR3.out rfl
        rw [h9] at h1
        exact List.map_eq_nil_iff.1 h1
      have HB := Lib.hid bW
      have q4 := B4.cell
      have hsl : sg.length = 0 := by rw [h0]; rfl
      rw [hsl] at q4
      clear HR2 HR3 h0 hsl
      go_wp2
      go_ret
      exact ⟨rfl, HB.out⟩
    | true =>
      obtain ⟨hsame, hplen⟩ := HR2.out rfl
      rw [hsame] at CS
      simp only at hplen
      rw [hplen] at CP
      clear hsame hplen HR2 HR3
      have r0 := B4.cell
      have r1 := B10.cell
      go_wp2_with fail
      refine (CS.out _ G V sg sv gc vc hmg hmv B4.O.whl B10.O.whl).mono ?_
      rintro e u6 ⟨rfl, x6⟩
      clear r0 r1
      have bX := bX.trans (x6.mono bX.size)
      have B4 := B4.call x6
      have B10 := B10.call x6
      have bW := bW.trans (x6.mono bW.size)
      have Z1 := x6.size
      try simp only [World.size_alloc] at Z1
      clear x6
      have r0 := B4.cell
      have r1 := B10.cell
      go_wp2_with fail
      refine (CP.out _ G sg gc hmg B4.O.whl).mono ?_
      rintro e u7 ⟨R, rc, rfl, oR, x7⟩
      clear r0 r1
      have bX := bX.trans (x7.mono bX.size)
      have B4 := B4.call x7
      have B10 := B10.call x7
      have bW := bW.trans (x7.mono bW.size)
      have Z2 := x7.size
      try simp only [World.size_alloc] at Z2
      have oR_rg0 := fun q h => World.ownsRow.lt oR q h
      try simp only [World.size_alloc] at oR oR_rg0
      have oR_rg := Lib.hid oR_rg0
      clear x7 oR_rg0
      have r0 := B4.cell
      have r1 := B10.cell
      have HB := Lib.hid bW
      have e9 : ((el.length : Int) == (el.length : Int)) = true := by simp
      go_wp2
      go_ret
      exact ⟨rfl, HB.out⟩
end Go.Proofs.Ytflomkebgiemaaa
