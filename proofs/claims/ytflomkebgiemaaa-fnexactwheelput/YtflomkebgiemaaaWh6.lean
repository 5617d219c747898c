/- l9Right of the model. -/
import Derived.Test.YtflomkebgiemaaaRows
import Derived.Test.YtflomkebgiemaaaWh7
import Derived.Test.YtflomkebgiemaaaLateF
import Derived.Deep.DeepCutAuto
namespace Go.Proofs.Ytflomkebgiemaaa
open Go.RowKit
set_option linter.unusedSimpArgs false
set_option linter.unusedVariables false
theorem pnPut_mem {l : List Pn} {x f : Pn} (h : f ∈ pnPut l x) : f ∈ l ∨ f = x := by
  unfold pnPut insP at h
  rcases List.mem_append.1 h with h | h
  · exact .inl ((List.takeWhile_sublist _).mem h)
  · rcases List.mem_cons.1 h with h | h
    · exact .inr h
    · exact .inl ((List.dropWhile_sublist _).mem h)
theorem putV_fits {ls : List (List Pn)} {p : Pn} (h : FitL ls) (hp : p.fits) : FitL (wheelPutV ls p).1 := by
  unfold wheelPutV
  split
  · split
    · intro l hl x hx
      rcases List.mem_or_eq_of_mem_set hl with hm | rfl
      · exact h l hm x hx
      · rcases pnPut_mem hx with hm | rfl
        · rcases Nat.lt_or_ge (p.at_.tmod 9).toNat ls.length with hk | hk
          · exact h _ (getD_mem ls _ [] hk) x hm
          · rw [List.getD_eq_getElem?_getD, List.getElem?_eq_none hk] at hm; simp at hm
        · exact hp
    · exact h
  · exact h
theorem putV_len (ls : List (List Pn)) (p : Pn) : (wheelPutV ls p).1.length = ls.length := by
  unfold wheelPutV
  split
  · split
    · simp
    · rfl
  · rfl
theorem putV_ten {ls : List (List Pn)} {p : Pn} {n : Nat} (h : ls.flatten.length ≤ n) (hn : 10 ≤ n) : (wheelPutV ls p).1.flatten.length ≤ n := by
  unfold wheelPutV
  split
  · split
    · rename_i h2; exact Nat.le_trans (wheelB_iff h2).2.1 hn
    · exact h
  · exact h
/-- A wheel that was drawn. -/
def GotWh (w : World) (g : Nat) (A : Option Addr) (l : List Nat) (c : Nat) (e : Ending) (w' : World) : Prop :=
  ∃ B d sq, e = .returned (.agg #[.slice B sq.length d]) ∧ sq.length ≤ 10 ∧ (allPn sq).length ≤ 30 ∧ FitL (sq.map (fun s => s.l)) ∧ OwnW w' w.heap.size B d sq ∧ Cur w' g A l c ∧ w.grownBy w' (some g)
/-- A right wheel that was drawn: its spokes lie apart. -/
def GotWr (w : World) (g : Nat) (A : Option Addr) (l : List Nat) (c : Nat) (e : Ending) (w' : World) : Prop :=
  ∃ B d sq, e = .returned (.agg #[.slice B sq.length d]) ∧ sq.length = 9 ∧ (allPn sq).length ≤ 10 ∧ FitL (sq.map (fun s => s.l)) ∧ OwnW w' w.heap.size B d sq ∧ ApartW sq ∧ Cur w' g A l c ∧ w.grownBy w' (some g)
/-- What stands in a round of l9Right. -/
structure RW (w u : World) (g : Nat) (A : Option Addr) (l : List Nat) (c g3 : Nat) (Q : Option Addr) (qc : Nat) (sq : List Sp) : Prop where
  O : OwnW u (w.heap.size + 1) Q qc sq
  H : u.heap[g3]? = some (.cells #[.slice Q sq.length qc] 26)
  Z : u.heap[w.heap.size]? = some (.cells #[.slice none 0 0] 26)
  C : Cur u g A l c
  G : w.grownBy u (some g)
  F : FitL (sq.map (fun s => s.l))
  n9 : sq.length = 9
  n10 : (allPn sq).length ≤ 10
  ap : ApartW sq
  g1 : w.heap.size < g3
  g0 : g < w.heap.size
theorem RW.call {w u u' : World} {g : Nat} {A : Option Addr} {l : List Nat} {c g3 : Nat} {Q : Option Addr} {qc : Nat} {sq : List Sp} (h : RW w u g A l c g3 Q qc sq) (b : Below u.heap.size u u') : RW w u' g A l c g3 Q qc sq :=
  ⟨h.O.below b, blk_call h.H b, blk_call h.Z b, h.C.mem b, grown_below h.G b, h.F, h.n9, h.n10, h.ap, h.g1, h.g0⟩
theorem RW.draw {w u u' : World} {g : Nat} {A : Option Addr} {l : List Nat} {c g3 : Nat} {Q : Option Addr} {qc : Nat} {sq : List Sp} (h : RW w u g A l c g3 Q qc sq) (b : u.grownBy u' (some g)) (hc : Cur u' g A l c) : RW w u' g A l c g3 Q qc sq := by
  have h0 := h.g0
  have h1 := h.g1
  have t : Tch (fun i => i = g) u u' := Tch.of_grown b (fun i hi => by injection hi with hi; exact hi.symm)
  exact ⟨t.wheel h.O (fun q hq hp => by have := h.O.lo q hq; omega), t.blk h.H (by omega), t.blk h.Z (by omega), hc, h.G.trans b, h.F, h.n9, h.n10, h.ap, h.g1, h.g0⟩
theorem RW.row {w u u' : World} {g : Nat} {A : Option Addr} {l : List Nat} {c g3 : Nat} {Q : Option Addr} {qc : Nat} {sq : List Sp} {row : Option Nat} {B : Nat} (h : RW w u g A l c g3 Q qc sq) (b : u.grownBy u' row) (hr : ∀ j, row = some j → B ≤ j) (hB : g3 < B) (hq : ∀ q, InW Q sq q → q < B) : RW w u' g A l c g3 Q qc sq := by
  have h0 := h.g0
  have h1 := h.g1
  have t : Tch (fun i => B ≤ i) u u' := Tch.of_grown b (fun i hi => hr i hi)
  exact ⟨t.wheel h.O (fun q hx hp => by have := hq q hx; omega), t.blk h.H (by omega), t.blk h.Z (by omega), h.C.grown b (fun j hj => by have := hr j hj; omega), grown_step h.G b (fun j hj => by have := hr j hj; omega), h.F, h.n9, h.n10, h.ap, h.g1, h.g0⟩
set_option maxRecDepth 100000 in
set_option maxHeartbeats 3200000 in
theorem l9Right_any (A : Option Addr) (l : List Nat) (c g : Nat) (w : World) (hl : l.length ≤ 2097152) (hb : AllB l) (hcw : Cur w g A l c) :
    Calls Try.prog 77 #[.pointer (some ⟨g, 0, none⟩)] w (GotWr w g A l c) := by
  have hlt := hcw.lt
  have C0 := Lib.hid (wheelNew_ap (w.alloc (.cells #[.slice none 0 0] 26)))
  have HZ0 := Lib.hid (heap_new w (.cells #[.slice none 0 0] 26))
  have HC0 := Lib.hid (hcw.alloc (.cells #[.slice none 0 0] 26))
  have HG0 := Lib.hid (grown_made w (.cells #[.slice none 0 0] 26) g)
  go_enter Try.func77, Try.ntmps77
  go_wp2_with fail
  refine C0.out.mono ?_
  rintro e u1 ⟨Q, qc, sq, rfl, hm, hO, apq, x1⟩
  have hz1 := x1.size
  simp only [World.size_alloc] at hO hz1
  obtain ⟨U, hU⟩ : ∃ U, u1.alloc (.cells #[.slice Q sq.length qc] 26) = U := ⟨_, rfl⟩
  have T0 : RW w U g A l c u1.heap.size Q qc sq := by
    have ba : Below u1.heap.size u1 U := by rw [← hU]; exact (Below.refl _ _).alloc (Nat.le_refl _) _
    have hm' : (sq.map fun s => s.l) = nineW := hm
    refine ⟨by rw [← hU]; exact hO.alloc _, by rw [← hU]; exact heap_new _ _, blk_call (blk_call HZ0.out x1) ba, (HC0.out.mem x1).mem ba, grown_below (grown_below HG0.out x1) ba, ?_, ?_, ?_, apq, by omega, hlt⟩
    · rw [hm']; intro l hl x hx; have := List.eq_of_mem_replicate hl; subst this; cases hx
    · have := congrArg List.length hm'; simpa [nineW] using this
    · rw [← ls_flat, hm']; simp [nineW]
  have hUs : u1.heap.size < U.heap.size := by rw [← hU]; simp
  have HI : Hid (∀ q, InW Q sq q → q < U.heap.size) := fun q hq => (T0.O.lo q hq).2
  have HT := Lib.hid T0
  have HU := Lib.hid hU
  clear C0 HZ0 HC0 HG0 hm hO x1 T0 hU
  go_wp2_with fail
  rw [HU.out]
  refine (l9Pins_any A l c g _ hl hb HT.out.C).mono ?_
  rintro e u2 ⟨el, v, hel, hef, rfl, o2, c2, g2⟩
  have T2 := Lib.hid (HT.out.draw g2 c2)
  have lt2 := g2.size
  have hgU : g < U.heap.size := by omega
  have O2 := Lib.hid o2
  clear o2 g2 HT HU c2
  go_wp2_with fail
  refine (l1Once_any A l c g 10 _ hl hb (by omega) (by omega) T2.out.C).mono ?_
  rintro e u3 ⟨d, rfl, c3, g3⟩
  have T3 := Lib.hid (T2.out.draw g3 c3)
  have O3 := Lib.hid (own_cur O2.out g3 hgU)
  have lt3 := g3.size
  clear T2 O2 g3 c3
  go_upto_if 11 with fail
  go_cut [4] from 5 to 23 (fun s4 wx => ∃ el' : List Pn, el'.length ≤ 17 ∧ Hid (∀ f ∈ el', f.fits) ∧ Hid (wx.ownsRow U.heap.size 33 2 s4 el'.length (el'.flatMap pnC)) ∧ Hid (RW w wx g A l c u1.heap.size Q qc sq))
  case first =>
    cases d
    · go_wp2_with fail
      go_meet
      exact ⟨el, by omega, hef, O3, T3⟩
    · go_wp2
      go_loopw [4, 5] (fun s4 i wr => ∃ (k : Nat) (el' : List Pn), k ≤ 10 ∧ i = .int .i64 k ∧ Hid (el'.length = el.length + k) ∧ Hid (∀ f ∈ el', f.fits) ∧ Hid (wr.ownsRow U.heap.size 33 2 s4 el'.length (el'.flatMap pnC)) ∧ Hid (RW w wr g A l c u1.heap.size Q qc sq) ∧ U.heap.size ≤ wr.heap.size) (fun _ i _ => 10 - (intOf i).toNat)
      case atStart => exact ⟨0, el, by omega, rfl, rfl, hef, O3, T3, by omega⟩
      case round =>
        clear T3 O3
        obtain ⟨k, el', hk, rfl, hkl, hef', ho, hT, hz⟩ := hrel
        obtain ⟨OA, oc, rfl, _⟩ := own_form ho.out
        by_cases hk2 : k < 10
        · have O1 := Lib.hid (ho.out.alloc (.cells #[.int .i64 (3 + (k : Int)), .int .i64 (100 + (k : Int))] 33))
          have RN : Hid (Rws (wr.alloc (.cells #[.int .i64 (3 + (k : Int)), .int .i64 (100 + (k : Int))] 33)) (wr.heap.size + 1) (some ⟨wr.heap.size, 0, none⟩) (pnC ⟨3 + (k : Int), 100 + (k : Int)⟩)) := Rws.new wr (pnC ⟨3 + (k : Int), 100 + (k : Int)⟩) 33
          have T1 : Hid (RW w (wr.alloc (.cells #[.int .i64 (3 + (k : Int)), .int .i64 (100 + (k : Int))] 33)) g A l c u1.heap.size Q qc sq) := hT.out.call ((Below.refl _ _).alloc (Nat.le_refl _) _)
          go_wp2_with (at_builtin; refine wpList_appR rowPin _ rfl (.tmp 16) (.tmp 22) rfl U.heap.size _ el'.length (el'.flatMap pnC) rfl O1.out _ (some ⟨wr.heap.size, 0, none⟩) 1 1 (pnC ⟨3 + (k : Int), 100 + (k : Int)⟩) rfl rfl RN.out (by simp) (by intro u hu; simp [pnC] at hu; rcases hu with rfl | rfl <;> rfl) (by have := hkl.out; omega) (by simp; omega) ?_)
          intro v2 w2 o2 gg2
          have hs2 := gg2.size
          simp only [World.size_alloc] at hs2
          have T2 := Lib.hid (T1.out.row gg2 (own_low O1.out) (by omega) HI.out)
          have O2 : Hid (w2.ownsRow U.heap.size 33 2 v2 (el' ++ [(⟨3 + (k : Int), 100 + (k : Int)⟩ : Pn)]).length ((el' ++ [(⟨3 + (k : Int), 100 + (k : Int)⟩ : Pn)]).flatMap pnC)) := by
            show World.ownsRow _ _ _ _ _ _ _
            rw [List.length_append, List.flatMap_append]
            have e : [(⟨3 + (k : Int), 100 + (k : Int)⟩ : Pn)].flatMap pnC = pnC ⟨3 + (k : Int), 100 + (k : Int)⟩ := by simp
            rw [e]; exact o2
          have F2 : Hid (∀ f ∈ el' ++ [(⟨3 + (k : Int), 100 + (k : Int)⟩ : Pn)], f.fits) := fun f hf => by
            rcases List.mem_append.1 hf with h | h
            · exact hef'.out f h
            · have : f = ⟨3 + (k : Int), 100 + (k : Int)⟩ := by simpa using h
              rw [this]; unfold Pn.fits inI; simp; omega
          clear o2 gg2 O1 RN T1 hT ho
          go_wp2
          go_roundw
          case rel => exact ⟨k + 1, _, by omega, by go_num, (by show _ = _; have := hkl.out; rw [List.length_append, this]; simp; omega), F2, O2, T2, by omega⟩
          case measure => simp [intOf]; omega
        · have hkl2 : el'.length ≤ 17 := by have := hkl.out; omega
          go_wp2_with fail
          go_meet
          exact ⟨el', hkl2, hef', ho, hT⟩
  case rest =>
    clear O3 T3 hef hel
    obtain ⟨el', hel, hef, ho, hT⟩ := hcut
    obtain ⟨OA, oc, rfl, _⟩ := own_form ho.out
    go_wp2
    go_loopw [6] (fun i wr => ∃ (k : Nat) (Q : Option Addr) (qc : Nat) (sq : List Sp), k ≤ el'.length ∧ i = .int .i64 k ∧ Hid (wr.ownsRow U.heap.size 33 2 (.slice OA el'.length oc) el'.length (el'.flatMap pnC)) ∧ Hid (RW w wr g A l c u1.heap.size Q qc sq)) (fun i _ => el'.length - (intOf i).toNat)
    case atStart => exact ⟨0, Q, qc, sq, by omega, rfl, ho, hT⟩
    case round =>
      clear ho hT HI
      obtain ⟨k, Q, qc, sq, hk, rfl, ho, hT⟩ := hrel
      have q3 := cell_of_one hT.out.H
      have f3 := free_of_one hT.out.H
      have q2 := cell_of_one hT.out.Z
      have f2 := free_of_one hT.out.Z
      have hg1 := hT.out.g1
      have lt3 := blk_lt hT.out.H
      by_cases hlt2 : k < el'.length
      rotate_left
      · have R : Hid (GotWr w g A l c (.returned (.agg #[.slice Q sq.length qc])) (wr.setCell ⟨w.heap.size, 0, none⟩ (.slice Q sq.length qc))) :=
          ⟨Q, qc, sq, rfl, hT.out.n9, hT.out.n10, hT.out.F, (hT.out.O.put hT.out.Z (by decide) (by decide) 0 _).weak (by omega), hT.out.ap, hT.out.C.setCell _ 0 _ hlt, grown_setD hT.out.G _ 0 _ (Nat.le_refl _)⟩
        clear hT ho
        go_wp2
        simp [bodyPost, results, Try.results77, go_sem, q2]
        exact R.out
      obtain ⟨b, off, rfl, hbB, hc⟩ := (own_rws ho.out).pn hlt2
      have hxf : (el'.getD k pn0).fits := hef.out _ (getD_mem el' k pn0 hlt2)
      generalize el'.getD k pn0 = x at *
      have CW := Lib.hid (fun w' (h : Below wr.heap.size wr w') => wheelPut_ap Q sq qc x w' (by have := hT.out.n9; omega) (by have := hT.out.n10; omega) ((hT.out.call h).O.whl))
      have HF1 := Lib.hid (putV_fits hT.out.F hxf)
      have HF2 : Hid ((wheelPutV (sq.map (fun s => s.l)) x).1.length = 9) := by show _ = _; rw [putV_len]; simp; exact hT.out.n9
      have HF3 : Hid ((wheelPutV (sq.map (fun s => s.l)) x).1.flatten.length ≤ 10) := putV_ten (by rw [ls_flat]; exact hT.out.n10) (Nat.le_refl _)
      generalize wheelPutV (sq.map (fun s => s.l)) x = R at *
      have KX := Lib.hid (fun w' (h : Below wr.heap.size wr w') => Pn.here.below hc h hbB)
      have K3 := Lib.hid (fun w' (h : Below wr.heap.size wr w') => (h.cell (by exact lt3)).trans q3)
      clear hc q2 q3 f2 f3
      go_wp2_with fail
      refine wp_region_F 9 (fun w' => Hid (Below wr.heap.size wr w')) (by kernel_rfl) ?_
      have hH0 : Hid (Below wr.heap.size wr wr.drew) := below_drawn (Below.refl _ _) 1
      refine f_take 0 31 (.agg #[.slice Q sq.length qc]) rfl rfl (by kernel_rfl) (by kernel_rfl) (by kernel_rfl) (by kernel_rfl) (fun _ _ _ h => h) rfl hH0 (fun w h => exec_loadWh _ _ _ _ w (K3.out w h.out)) ?_
      refine f_take 1 32 (.slice (some ⟨b, off, none⟩) el'.length oc) rfl rfl (by kernel_rfl) (by kernel_rfl) (by kernel_rfl) (by kernel_rfl) (fun _ _ _ h => h) rfl hH0 (fun w _ => rfl) ?_
      simp only [Act.put, List.setIfInBounds_toArray, List.set_cons_zero, List.set_cons_succ]
      refine f_take 2 33 (.int .i64 (k : Int)) rfl rfl (by kernel_rfl) (by kernel_rfl) (by kernel_rfl) (by kernel_rfl) (fun _ _ _ h => h) rfl hH0 (fun w _ => rfl) ?_
      refine f_take 3 34 (.pointer (some ⟨b, off + k * 2, none⟩)) rfl rfl (by kernel_rfl) (by kernel_rfl) (by kernel_rfl) (by kernel_rfl) (fun _ _ _ h => h) rfl hH0 (fun w _ => exec_idx_pn b off el'.length oc k w hlt2) ?_
      simp only [Act.put, List.setIfInBounds_toArray, List.set_cons_zero, List.set_cons_succ]
      refine f_take 4 35 (pnA x) rfl rfl (by kernel_rfl) (by kernel_rfl) (by kernel_rfl) (by kernel_rfl) (fun _ _ _ h => h) rfl hH0 (fun w h => exec_load_pn b (off + k * 2) x w (KX.out w h.out)) ?_
      simp only [Act.put, List.setIfInBounds_toArray, List.set_cons_zero, List.set_cons_succ]
      refine f_call 5 36 20 #[.agg #[.slice Q sq.length qc], pnA x] rfl rfl (by kernel_rfl) rfl (exec_call Try.func20 (by kernel_rfl) (by kernel_rfl) _) ?_
      refine (CW.out _ hH0.out).mono ?_
      rintro e u5 ⟨N, nc, sn, rfl, hmn, on, apn, x5⟩
      have k5 := hH0.out.trans (x5.mono hH0.out.size)
      refine ⟨_, rfl, (fun _ _ => Lib.hid k5), ?_⟩
      simp only [Act.put, List.setIfInBounds_toArray, List.set_cons_zero, List.set_cons_succ]
      have hH5 := Lib.hid k5
      refine f_op 6 30 (.tuple #[.agg #[.slice N sn.length nc], .bool R.2]) rfl rfl (by kernel_rfl) rfl rfl (fun _ _ => hH5) ?_
      simp only [Act.put, List.setIfInBounds_toArray, List.set_cons_zero, List.set_cons_succ]
      refine f_take 7 37 (.agg #[.slice N sn.length nc]) rfl rfl (by kernel_rfl) (by kernel_rfl) (by kernel_rfl) (by kernel_rfl) (fun _ _ _ h => h) rfl hH5 (fun w _ => rfl) ?_
      simp only [Act.put, List.setIfInBounds_toArray, List.set_cons_zero, List.set_cons_succ]
      have T5 := hT.out.call k5
      have cz := cell_of_one T5.H
      have fz := free_of_one T5.H
      have hsz := T5.G.size
      have hws : w.heap.size + 1 ≤ wr.drew.heap.size := by have h1 := hT.out.g1; have h2 := hH0.out.size; omega
      have on := on.weak hws
      have hmn' : sn.map (fun s => s.l) = R.1 := hmn
      have T6 : Hid (RW w (u5.setCell ⟨u1.heap.size, 0, none⟩ (.slice N sn.length nc)) g A l c u1.heap.size N nc sn) := by
        have hs := heap_setCell_same u5 u1.heap.size 0 _ _ (.slice N sn.length nc) T5.H
        refine ⟨on.put T5.H (by decide) (by decide) 0 _, by simpa using hs, (heap_set_ne u5 u1.heap.size _ _ (by omega)).trans T5.Z, T5.C.setCell _ 0 _ (by omega), grown_setD T5.G _ 0 _ (by omega), by rw [hmn']; exact HF1.out, ?_, ?_, apn, hg1, hlt⟩
        · have := congrArg List.length hmn'; have h2 := HF2.out; simp at this; omega
        · rw [← ls_flat, hmn']; exact HF3.out
      have O6 : Hid ((u5.setCell ⟨u1.heap.size, 0, none⟩ (.slice N sn.length nc)).ownsRow U.heap.size 33 2 (.slice (some ⟨b, off, none⟩) el'.length oc) el'.length (el'.flatMap pnC)) := by
        have h1 := own_below ho.out k5
        exact h1.kept (Go.Lib.grownBy_setCell u5 u1.heap.size 0 _) (.inr (own_ne_type h1 T5.H (by decide)))
      refine f_ready2 8 9 (by kernel_rfl) (f_opw 8 38 (.bool R.2) rfl rfl rfl rfl ⟨(fun _ _ => hH5), ?_⟩) (f_storew 9 rfl rfl rfl (exec_storeWh _ N sn.length nc _ _ cz fz) ⟨(fun h => absurd rfl h), ?_⟩)
      · simp only [Act.put, List.setIfInBounds_toArray, List.set_cons_zero, List.set_cons_succ]
        refine f_store 9 rfl rfl (by kernel_rfl) rfl (exec_storeWh _ N sn.length nc _ _ cz fz) (fun h => absurd rfl h) ?_
        refine f_done (by kernel_rfl) ?_ _
        clear T5 cz fz on apn hmn hmn' k5 hH5 hH0 x5 ho hT CW K3 KX HF1 HF2 HF3
        go_wp2
        go_roundw
        case rel => exact ⟨k + 1, N, nc, sn, by omega, by go_num, O6, T6⟩
        case measure => simp [intOf]; omega
      · refine f_op 8 38 (.bool R.2) rfl rfl (by kernel_rfl) rfl rfl (fun _ h => absurd h (by simp)) ?_
        simp only [Act.put, List.setIfInBounds_toArray, List.set_cons_zero, List.set_cons_succ]
        refine f_done (by kernel_rfl) ?_ _
        clear T5 cz fz on apn hmn hmn' k5 hH5 hH0 x5 ho hT CW K3 KX HF1 HF2 HF3
        go_wp2
        go_roundw
        case rel => exact ⟨k + 1, N, nc, sn, by omega, by go_num, O6, T6⟩
        case measure => simp [intOf]; omega
end Go.Proofs.Ytflomkebgiemaaa
