/- WheelPut of the model. -/
import Derived.Test.YtlflgflmlfileaaGreatRows
import Derived.Test.YtlflgflmlfileaaGreatJ1
import Derived.Test.YtlflgflmlfileaaGreatHs11
namespace Go.Proofs.YtlflgflmlfileaaGreat
open Go.RowKit
set_option linter.unusedSimpArgs false
set_option linter.unusedVariables false
/-- A wheel in new memory, and a bool. -/
def NewWB (w : World) (x : List (List Pn) × Bool) (e : Ending) (w' : World) : Prop :=
  ∃ A c sp, e = .returned (.tuple #[.agg #[.slice A sp.length c], .bool x.2]) ∧ sp.map (·.l) = x.1 ∧ OwnW w' w.heap.size A c sp ∧ Below w.heap.size w w'
/-- What WheelPut returns. -/
noncomputable def wheelPutV (ls : List (List Pn)) (p : Pn) : List (List Pn) × Bool :=
  if wheelB ls = true ∧ 1 ≤ p.at_ then
    (if wheelB (ls.set (p.at_.tmod 9).toNat (pnPut (ls.getD (p.at_.tmod 9).toNat []) p)) = true then (ls.set (p.at_.tmod 9).toNat (pnPut (ls.getD (p.at_.tmod 9).toNat []) p), true) else (ls, false))
  else (ls, false)
theorem flat_set (sq : List Sp) (k : Nat) (s : Sp) : (sq.flatMap spC).set k (.slice s.a s.l.length s.c) = (sq.set k s).flatMap spC := by
  have e : ∀ l : List Sp, l.flatMap spC = l.map (fun s => Value.slice s.a s.l.length s.c) := fun l => by
    induction l with
    | nil => rfl
    | cons x l ih => rw [List.flatMap_cons, ih]; rfl
  rw [e, e, List.map_set]
theorem allPn_set (sq : List Sp) (k : Nat) (s : Sp) (h : k < sq.length) : (allPn (sq.set k s)).length ≤ (allPn sq).length + s.l.length := by
  have e1 : sq.set k s = sq.take k ++ s :: sq.drop (k + 1) := List.set_eq_take_append_cons_drop .. |>.trans (by rw [if_pos h])
  have e2 : allPn sq = allPn (sq.take k) ++ allPn (sq.drop k) := by unfold allPn; rw [← List.flatMap_append, List.take_append_drop]
  have e3 : allPn (sq.drop k) = (sq.getD k sp0).l ++ allPn (sq.drop (k + 1)) := by unfold allPn; rw [drop_getD sq k sp0 h, List.flatMap_cons]
  rw [e2, e3, e1]
  unfold allPn
  simp only [List.flatMap_append, List.flatMap_cons, List.length_append]
  omega
structure WP (w u : World) (A : Option Addr) (c : Nat) (sp : List Sp) (p : Pn) (g : Nat) (P : Option Addr) (cp : Nat) (sq : List Sp) : Prop where
  T : Three w u (.cells #[.slice A sp.length c] 57) (.cells #[.int .i64 p.at_, .int .i64 p.id] 95) (.cells #[.slice none 0 0] 57)
  H : u.heap[g]? = some (.cells #[.slice P sq.length cp] 57)
  O : OwnW u (w.heap.size + 3) P cp sq
theorem WP.call {w u u' : World} {A : Option Addr} {c : Nat} {sp : List Sp} {p : Pn} {g : Nat} {P : Option Addr} {cp : Nat} {sq : List Sp} (h : WP w u A c sp p g P cp sq) (b : Below u.heap.size u u') : WP w u' A c sp p g P cp sq :=
  ⟨h.T.call b, blk_call h.H b, h.O.below b⟩
set_option maxRecDepth 100000 in
set_option maxHeartbeats 6400000 in
theorem wheelPut_spec (A : Option Addr) (sp : List Sp) (c : Nat) (p : Pn) (w : World) (hn : sp.length ≤ 1048577) (hl : (allPn sp).length ≤ 1048575) (hA : Whl w A sp) :
    Calls Tryz.prog 57 #[.agg #[.slice A sp.length c], pnA p] w (NewWB w (wheelPutV (sp.map (fun s => s.l)) p)) := by
  have T0 : Three w (((w.alloc (.cells #[.slice A sp.length c] 57)).alloc (.cells #[.int .i64 p.at_, .int .i64 p.id] 95)).alloc (.cells #[.slice none 0 0] 57)) (.cells #[.slice A sp.length c] 57) (.cells #[.int .i64 p.at_, .int .i64 p.id] 95) (.cells #[.slice none 0 0] 57) := Three.make _ _ _ _
  have hs0 : (((w.alloc (.cells #[.slice A sp.length c] 57)).alloc (.cells #[.int .i64 p.at_, .int .i64 p.id] 95)).alloc (.cells #[.slice none 0 0] 57)).heap.size = w.heap.size + 3 := by simp
  have CC := Lib.hid (l9Copy_spec A sp c _ (by omega) (by omega) (hA.below T0.2.2.2))
  have CC2 := Lib.hid (fun u (b : Below w.heap.size w u) => l9Copy_spec A sp c u (by omega) (by omega) (hA.below b))
  have CO := Lib.hid (fun u (b : Below w.heap.size w u) => wheelOk_spec A sp c u (by omega) (by omega) (hA.below b))
  obtain ⟨ls, els⟩ : ∃ ls, sp.map (fun s => s.l) = ls := ⟨_, rfl⟩
  obtain ⟨V, eV⟩ : ∃ V, wheelPutV ls p = V := ⟨_, rfl⟩
  rw [els, eV]
  rw [els] at CC CC2 CO
  have HV := Lib.hid eV
  have HL := Lib.hid els
  have HT := Lib.hid T0
  have HS0 := Lib.hid hs0
  clear eV els T0 hs0
  unfold pnA
  go_enter Tryz.func57, Tryz.ntmps57
  go_wp2_with fail
  refine CC.out.mono ?_
  rintro e u1 ⟨P, cp, sq, rfl, hm1, O1, x1⟩
  have T : WP w (u1.alloc (.cells #[.slice P sq.length cp] 57)) A c sp p u1.heap.size P cp sq := by
    have ba : Below u1.heap.size u1 (u1.alloc (.cells #[.slice P sq.length cp] 57)) := (Below.refl _ _).alloc (Nat.le_refl _) _
    refine ⟨(HT.out.call x1).call ba, heap_new _ _, ?_⟩
    rw [HS0.out] at O1
    exact O1.alloc _
  have hg6 : w.heap.size + 3 ≤ u1.heap.size := by have := x1.size; rw [HS0.out] at this; exact this
  have HM := Lib.hid hm1
  have hsq : Hid (sq.length = sp.length) := by show _ = _; have h1 := congrArg List.length hm1; have h2 := congrArg List.length HL.out; simp at h1 h2; omega
  have hlq : Hid (allPn sq = allPn sp) := by show _ = _; rw [← ls_flat, ← ls_flat, hm1, HL.out]
  clear O1 x1 hm1 CC HT
  have c1 := cell_of_row _ _ 0 _ _ _ T.T.1
  obtain ⟨p0, p1⟩ := Pn.here.blk T.T.2.1
  have c3 := cell_of_row _ _ 0 _ _ _ T.T.2.2.1
  have z3 := frozen_of_row _ _ 0 _ _ T.T.2.2.1
  have c6 := cell_of_row _ _ 0 _ _ _ T.H
  simp at c1 p0 p1 c3 c6
  have C1 := Lib.hid (CO.out _ T.T.2.2.2)
  have TT := Lib.hid T
  obtain ⟨B1, eB⟩ : ∃ B1, wheelB ls = B1 := ⟨_, rfl⟩
  rw [eB] at C1
  have EB := Lib.hid eB
  clear T eB
  go_wp2_with fail
  refine C1.out.mono ?_
  rintro e u2 ⟨rfl, x2⟩
  have T := TT.out.call x2
  have ltg := blk_lt T.H
  clear x2 TT C1 c1 p0 p1 c3 z3 c6
  have c1 := cell_of_row _ _ 0 _ _ _ T.T.1
  obtain ⟨p0, p1⟩ := Pn.here.blk T.T.2.1
  have c3 := cell_of_row _ _ 0 _ _ _ T.T.2.2.1
  have z3 := frozen_of_row _ _ 0 _ _ T.T.2.2.1
  have c6 := cell_of_row _ _ 0 _ _ _ T.H
  simp at c1 p0 p1 c3 c6
  cases B1
  · skip
    have HN : Hid (NewWB w V (.returned (.tuple #[.agg #[.slice P sq.length cp], .bool false])) (u2.setCell ⟨w.heap.size + 2, 0, none⟩ (.slice P sq.length cp))) := by
      have eV : V = (ls, false) := by rw [← HV.out]; unfold wheelPutV; rw [if_neg (fun h => by rw [EB.out] at h; cases h.1)]
      refine ⟨P, cp, sq, by rw [eV], by rw [eV]; exact HM.out, (T.O.put T.T.2.2.1 (by decide) (by decide) 0 _).weak (by omega), T.T.2.2.2.setCell (p := ⟨w.heap.size + 2, 0, none⟩) (by show _ ≤ _ + 2; omega) _⟩
    clear T
    go_wp2
    simp [bodyPost, results, Tryz.results57, go_sem, c3]
    exact HN.out
  by_cases ga : 1 ≤ p.at_
  rotate_left
  · skip
    have HN : Hid (NewWB w V (.returned (.tuple #[.agg #[.slice P sq.length cp], .bool false])) (u2.setCell ⟨w.heap.size + 2, 0, none⟩ (.slice P sq.length cp))) := by
      have eV : V = (ls, false) := by rw [← HV.out]; unfold wheelPutV; rw [if_neg (fun h => ga h.2)]
      refine ⟨P, cp, sq, by rw [eV], by rw [eV]; exact HM.out, (T.O.put T.T.2.2.1 (by decide) (by decide) 0 _).weak (by omega), T.T.2.2.2.setCell (p := ⟨w.heap.size + 2, 0, none⟩) (by show _ ≤ _ + 2; omega) _⟩
    clear T
    go_wp2
    simp [bodyPost, results, Tryz.results57, go_sem, c3]
    exact HN.out
  obtain ⟨k, hk⟩ : ∃ k : Nat, p.at_.tmod 9 = (k : Int) := ⟨(p.at_.tmod 9).toNat, by have := Int.tmod_nonneg 9 (a := p.at_) (by omega); omega⟩
  have hk9 : k < 9 := by have := Int.tmod_lt_of_pos p.at_ (b := 9) (by omega); omega
  have hwr : IntKind.i64.wrap (p.at_.tmod 9) = (k : Int) := by rw [IntKind.wrap_i64]; omega
  have hwr2 : IntKind.i64.wrap (k : Int) = (k : Int) := by rw [IntKind.wrap_i64]; omega
  have HK : Hid ((p.at_.tmod 9).toNat = k) := by show _ = _; rw [hk]; simp
  have W9 := wheelB_iff EB.out
  have hq9 : sq.length = 9 := by have h1 := W9.1; have h2 := congrArg List.length HM.out; simp at h2; omega
  have hkq : k < sq.length := by omega
  have HQ9 := Lib.hid hq9
  clear hq9 W9
  have TT := Lib.hid T
  clear T
  go_wp2_with fail
  have T := TT.out
  obtain ⟨_, _, eP, _, _, hP⟩ := own_form T.O.row
  obtain ⟨g, eg, hg3⟩ := hP (by omega)
  injection eP with eP1 _ eP3
  rw [← eP1] at eg
  subst eg
  clear eP1 eP3
  obtain ⟨b', off', he, hbB, hc⟩ := (own_rws T.O.row).sp hkq
  obtain ⟨rfl, rfl⟩ : g = b' ∧ 0 = off' := by injection he with he; injection he with h1 h2; exact ⟨h1, h2⟩
  have hsm : sq.getD k sp0 ∈ sq := getD_mem sq k sp0 hkq
  have hsl : (sq.getD k sp0).l.length ≤ 1048575 := by have := allPn_at_le sq k hkq; have h2 := hlq.out; rw [h2] at this; omega
  obtain ⟨s, es⟩ : ∃ s, sq.getD k sp0 = s := ⟨_, rfl⟩
  rw [es] at hc hsm hsl
  have hso := (T.O.sp s hsm).ok
  have KH := Lib.hid (fun w' (h : Below u2.heap.size u2 w') => cell_of_row _ _ 0 _ _ _ (blk_call T.H h))
  have KC := Lib.hid (fun w' (h : Below u2.heap.size u2 w') => (h.cell (by exact hbB)).trans hc)
  have KP := Lib.hid (fun w' (h : Below u2.heap.size u2 w') => Pn.here.blk (blk_call T.T.2.1 h))
  have ES := Lib.hid es
  clear es he hc T c1 p0 p1 c3 z3 c6
  refine wp_region_E 11 (fun w' => Hid (Below u2.heap.size u2 w')) (by kernel_rfl) ?_
  have hH0 : Hid (Below u2.heap.size u2 u2.drew) := below_drawn (Below.refl _ _) 1
  refine e_take 0 22 (.pointer (some ⟨u1.heap.size, 0, none⟩)) rfl rfl (by kernel_rfl) (by kernel_rfl) (by kernel_rfl) (by kernel_rfl) (fun _ _ _ h => h) rfl hH0 (fun w _ => exec_fldW _ w) ?_
  refine e_take 1 23 (.slice (some ⟨g, 0, none⟩) sq.length cp) rfl rfl (by kernel_rfl) (by kernel_rfl) (by kernel_rfl) (by kernel_rfl) (fun _ _ _ h => h) rfl hH0 (fun w h => exec_loadSp _ _ 0 _ _ _ w (.inr rfl) (KH.out w h.out)) ?_
  simp only [Act.put, List.setIfInBounds_toArray, List.set_cons_zero, List.set_cons_succ]
  refine e_take 2 24 (.int .i64 (k : Int)) rfl rfl (by kernel_rfl) (by kernel_rfl) (by kernel_rfl) (by kernel_rfl) (fun _ _ _ h => h) rfl hH0 (fun w _ => rfl) ?_
  refine e_take 3 25 (.pointer (some ⟨u1.heap.size, 0, none⟩)) rfl rfl (by kernel_rfl) (by kernel_rfl) (by kernel_rfl) (by kernel_rfl) (fun _ _ _ h => h) rfl hH0 (fun w _ => exec_fldW _ w) ?_
  simp only [Act.put, List.setIfInBounds_toArray, List.set_cons_zero, List.set_cons_succ]
  refine e_take 4 26 (.slice (some ⟨g, 0, none⟩) sq.length cp) rfl rfl (by kernel_rfl) (by kernel_rfl) (by kernel_rfl) (by kernel_rfl) (fun _ _ _ h => h) rfl hH0 (fun w h => exec_loadSp _ _ 0 _ _ _ w (.inr rfl) (KH.out w h.out)) ?_
  refine e_take 5 27 (.int .i64 (k : Int)) rfl rfl (by kernel_rfl) (by kernel_rfl) (by kernel_rfl) (by kernel_rfl) (fun _ _ _ h => h) rfl hH0 (fun w _ => rfl) ?_
  simp only [Act.put, List.setIfInBounds_toArray, List.set_cons_zero, List.set_cons_succ]
  refine e_take 6 28 (.pointer (some ⟨g, 0 + k, none⟩)) rfl rfl (by kernel_rfl) (by kernel_rfl) (by kernel_rfl) (by kernel_rfl) (fun _ _ _ h => h) rfl hH0 (fun w _ => exec_idxSp g 0 sq.length cp k w hkq) ?_
  refine e_take 7 29 (.slice s.a s.l.length s.c) rfl rfl (by kernel_rfl) (by kernel_rfl) (by kernel_rfl) (by kernel_rfl) (fun _ _ _ h => h) rfl hH0 (fun w h => exec_loadSp _ g (0 + k) _ _ _ w (.inl rfl) (KC.out w h.out)) ?_
  simp only [Act.put, List.setIfInBounds_toArray, List.set_cons_zero, List.set_cons_succ]
  refine e_take 8 30 (pnA p) rfl rfl (by kernel_rfl) (by kernel_rfl) (by kernel_rfl) (by kernel_rfl) (fun _ _ _ h => h) rfl hH0 (fun w h => exec_load_pn _ 0 p w (KP.out w h.out)) ?_
  simp only [Act.put, List.setIfInBounds_toArray, List.set_cons_zero, List.set_cons_succ]
  have hs1 := hso.below hH0.out
  refine e_call 9 31 71 #[.slice s.a s.l.length s.c, pnA p] rfl rfl (by kernel_rfl) rfl (exec_call Tryz.func71 (by kernel_rfl) (by kernel_rfl) _) ?_
  refine (l9Put_spec s.a s.l s.c p u2.drew (by omega) hs1.cap hs1.nil hs1.row).mono ?_
  rintro e u3 ⟨P2, cp2, rfl, o3, x3⟩
  have k3 := hH0.out.trans (x3.mono hH0.out.size)
  refine ⟨_, rfl, (fun _ => Lib.hid k3), ?_⟩
  simp only [Act.put, List.setIfInBounds_toArray, List.set_cons_zero, List.set_cons_succ]
  refine e_op 10 32 (.pointer (some ⟨g, 0 + k, none⟩)) rfl rfl (by kernel_rfl) rfl (exec_idxSp g 0 sq.length cp k u3 hkq) (fun _ => Lib.hid k3) ?_
  simp only [Act.put, List.setIfInBounds_toArray, List.set_cons_zero, List.set_cons_succ]
  have T := TT.out.call k3
  have hfz := T.O.row.frozenAt (0 + k)
  refine e_store 11 rfl rfl (by kernel_rfl) rfl (exec_storeSp _ g (0 + k) P2 (pnPut s.l p).length cp2 _ u3 (.inl rfl) (KC.out _ k3) hfz) (fun h => absurd rfl h) ?_
  refine e_done (by kernel_rfl) ?_ _
  obtain ⟨U, eU⟩ : ∃ U, u3.setCell ⟨g, 0 + k, none⟩ (.slice P2 (pnPut s.l p).length cp2) = U := ⟨_, rfl⟩
  have hU : ∀ j, j ≠ g → U.heap[j]? = u3.heap[j]? := fun j hj => by rw [← eU]; exact heap_set_ne u3 g _ _ hj
  obtain ⟨curg, hcg⟩ := own_typed2 T.O.row g rfl
  have st := T.O.row.stored (0 + k) (.slice P2 (pnPut s.l p).length cp2)
  rw [eU] at st
  have T2 : WP w U A c sp p u1.heap.size (some ⟨g, 0, none⟩) cp (sq.set k ⟨P2, cp2, pnPut s.l p⟩) := by
    have n0 : w.heap.size ≠ g := by omega
    have n1 : w.heap.size + 1 ≠ g := by omega
    have n2 : w.heap.size + 2 ≠ g := by omega
    have n6 : u1.heap.size ≠ g := fun h => by
      have := T.H
      rw [h, hcg] at this
      injection this with this
      injection this with _ h2
      revert h2
      decide
    refine ⟨⟨(hU _ n0).trans T.T.1, (hU _ n1).trans T.T.2.1, (hU _ n2).trans T.T.2.2.1, ?_⟩, ?_, ⟨?_, ?_⟩⟩
    · rw [← eU]; exact T.T.2.2.2.setCell (p := ⟨g, 0 + k, none⟩) (by show _ ≤ g; omega) _
    · rw [List.length_set]; exact (hU _ n6).trans T.H
    · have := st.1
      rw [Nat.zero_add] at this
      rw [List.length_set, ← flat_set sq k ⟨P2, cp2, pnPut s.l p⟩]
      exact this
    · intro t ht
      have kt : Sp.own u3 (w.heap.size + 3) t := by
        rcases List.mem_or_eq_of_mem_set ht with h | h
        · exact T.O.sp t h
        · subst h; exact own_weak o3 (Nat.le_trans hg6 (Nat.le_trans (Nat.le_of_lt ltg) hH0.out.size))
      rw [← eU]
      exact kt.kept (Go.Lib.grownBy_setCell u3 g (0 + k) _) (.inr (own_ne_type kt hcg (by decide)))
  have HM2 : Hid ((sq.set k ⟨P2, cp2, pnPut s.l p⟩).map (fun x => x.l) = ls.set k (pnPut (ls.getD k []) p)) := by
    show _ = _
    rw [List.map_set, HM.out]
    congr 2
    have := ls_at sq k
    rw [ES.out] at this
    have h2 : (sq.map fun s => s.l) = ls := HM.out
    rw [h2] at this
    rw [this]
  rw [eU]
  obtain ⟨sq2, es2⟩ : ∃ sq2, sq.set k ⟨P2, cp2, pnPut s.l p⟩ = sq2 := ⟨_, rfl⟩
  have hl2 : (allPn sq2).length ≤ 2097152 := by
    have h1 := allPn_set sq k ⟨P2, cp2, pnPut s.l p⟩ hkq
    have h2 := pnPut_len s.l p
    rw [hlq.out] at h1
    rw [es2] at h1
    have h3 : (Sp.mk P2 cp2 (pnPut s.l p)).l.length = (pnPut s.l p).length := rfl
    omega
  have hn2 : sq2.length = sq.length := by rw [← es2, List.length_set]
  rw [es2] at T2 HM2
  have HN2 := Lib.hid hn2
  have T2 : WP w U A c sp p u1.heap.size (some ⟨g, 0, none⟩) cp sq2 := T2
  have CU := wheelOk_spec (some ⟨g, 0, none⟩) sq2 cp U (by have := hsq.out; omega) hl2 T2.O.whl
  have eL : sq2.map (fun s => s.l) = ls.set k (pnPut (ls.getD k []) p) := HM2.out
  rw [eL] at CU
  obtain ⟨B2, eB2⟩ : ∃ B2, wheelB (ls.set k (pnPut (ls.getD k []) p)) = B2 := ⟨_, rfl⟩
  rw [eB2] at CU
  have EB2 := Lib.hid eB2
  have HEL := Lib.hid eL
  have C2 := Lib.hid CU
  have TT2 := Lib.hid T2
  have b2s : Hid (sq2.length = sq.length) := hn2
  clear T eU hU st hcg T2 HM2 eL CU eB2 es2 hn2 hl2 o3 x3 k3 hfz hs1 hH0 KH KC KP hso hsm TT
  have T := TT2.out
  have c1 := cell_of_row _ _ 0 _ _ _ T.T.1
  obtain ⟨p0, p1⟩ := Pn.here.blk T.T.2.1
  have c3 := cell_of_row _ _ 0 _ _ _ T.T.2.2.1
  have z3 := frozen_of_row _ _ 0 _ _ T.T.2.2.1
  have c6 := cell_of_row _ _ 0 _ _ _ T.H
  simp at c1 p0 p1 c3 c6
  clear T
  rw [show sq.length = sq2.length from HN2.out.symm] at *
  go_wp2_with fail
  refine C2.out.mono ?_
  rintro e u5 ⟨rfl, x5⟩
  have T := TT2.out.call x5
  clear x5 TT2 C2 c1 p0 p1 c3 z3 c6
  have c1 := cell_of_row _ _ 0 _ _ _ T.T.1
  obtain ⟨p0, p1⟩ := Pn.here.blk T.T.2.1
  have c3 := cell_of_row _ _ 0 _ _ _ T.T.2.2.1
  have z3 := frozen_of_row _ _ 0 _ _ T.T.2.2.1
  have c6 := cell_of_row _ _ 0 _ _ _ T.H
  simp at c1 p0 p1 c3 c6
  cases B2
  rotate_left
  · have HN : Hid (NewWB w V (.returned (.tuple #[.agg #[.slice (some ⟨g, 0, none⟩) sq2.length cp], .bool true])) (u5.setCell ⟨w.heap.size + 2, 0, none⟩ (.slice (some ⟨g, 0, none⟩) sq2.length cp))) := by
      have eV : V = (ls.set k (pnPut (ls.getD k []) p), true) := by rw [← HV.out]; unfold wheelPutV; rw [if_pos ⟨EB.out, ga⟩, HK.out, if_pos EB2.out]
      refine ⟨_, cp, sq2, by rw [eV], by rw [eV]; exact HEL.out, (T.O.put T.T.2.2.1 (by decide) (by decide) 0 _).weak (by omega), T.T.2.2.2.setCell (p := ⟨w.heap.size + 2, 0, none⟩) (by show _ ≤ _ + 2; omega) _⟩
    clear T
    go_wp2
    simp [bodyPost, results, Tryz.results57, go_sem, c3]
    exact HN.out
  · have C7 := Lib.hid (CC2.out u5 T.T.2.2.2)
    have TT := Lib.hid T
    clear T
    go_wp2_with fail
    refine C7.out.mono ?_
    rintro e u7 ⟨P7, cp7, sq7, rfl, hm7, O7, x7⟩
    have T := TT.out.call x7
    have ws : w.heap.size ≤ u5.heap.size := TT.out.T.2.2.2.size
    have HN : Hid (NewWB w V (.returned (.tuple #[.agg #[.slice P7 sq7.length cp7], .bool false])) (u7.setCell ⟨w.heap.size + 2, 0, none⟩ (.slice P7 sq7.length cp7))) := by
      have eV : V = (ls, false) := by rw [← HV.out]; unfold wheelPutV; rw [if_pos ⟨EB.out, ga⟩, HK.out, if_neg (by rw [EB2.out]; intro h; cases h)]
      refine ⟨P7, cp7, sq7, by rw [eV], by rw [eV]; exact hm7, ((O7.weak ws).put T.T.2.2.1 (by decide) (by decide) 0 _), T.T.2.2.2.setCell (p := ⟨w.heap.size + 2, 0, none⟩) (by show _ ≤ _ + 2; omega) _⟩
    clear c1 p0 p1 c3 z3 c6 TT C7
    have c3 := cell_of_row _ _ 0 _ _ _ T.T.2.2.1
    have z3 := frozen_of_row _ _ 0 _ _ T.T.2.2.1
    simp at c3
    clear T O7 x7 hm7
    go_wp2
    simp [bodyPost, results, Tryz.results57, go_sem, c3]
    exact HN.out
end Go.Proofs.YtlflgflmlfileaaGreat
