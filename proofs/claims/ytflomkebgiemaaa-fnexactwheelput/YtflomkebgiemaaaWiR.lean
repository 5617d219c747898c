/- WheelPut, WheelCut of the program. -/
import Derived.Test.YtflomkebgiemaaaRows
import Derived.Test.YtflomkebgiemaaaWiN
import Derived.Test.YtflomkebgiemaaaWiQ
namespace Go.Proofs.Ytflomkebgiemaaa
open Go.RowKit
set_option linter.unusedSimpArgs false
set_option linter.unusedVariables false
theorem putV_no {ls : List (List Pn)} {p : Pn} (h : (wheelPutV ls p).2 = false) : wheelPutV ls p = (ls, false) := by
  unfold wheelPutV at h ⊢
  by_cases h1 : wheelB ls = true ∧ 1 ≤ p.at_
  · rw [if_pos h1] at h ⊢
    by_cases h2 : wheelB (ls.set (p.at_.tmod 9).toNat (pnPut (ls.getD (p.at_.tmod 9).toNat []) p)) = true
    · rw [if_pos h2] at h; cases h
    · rw [if_neg h2]
  · rw [if_neg h1]
theorem wheelPutV_bad {ls : List (List Pn)} {p : Pn} (h : ¬ p.inn) : wheelPutV ls p = (ls, false) := by
  refine putV_no ?_
  cases e : (wheelPutV ls p).2 with
  | false => rfl
  | true => exact absurd (put_no e).1 h
theorem wheelCutV_bad {ls : List (List Pn)} {p : Pn} (h : ¬ p.inn) : wheelCutV ls p = (ls, false) := by
  unfold wheelCutV
  by_cases h1 : wheelB ls = true ∧ 1 ≤ p.at_
  · rw [if_pos h1]
    have hf := wheelB_iff h1.1
    have : cutPn (ls.getD (p.at_.tmod 9).toNat []) p = none := by
      unfold cutPn
      rw [Option.map_eq_none_iff, List.findIdx?_eq_none_iff]
      intro x hx
      refine decide_eq_false (fun e => h ?_)
      subst e
      have hk := tmod_lt x.at_ h1.2
      have hm : x ∈ ls.flatten := List.mem_flatten.2 ⟨_, getD_mem ls _ [] (by have := hf.1; omega), hx⟩
      exact ((pnsOk_iff _).1 hf.2.2.1).1 x hm
    rw [this]; rfl
  · rw [if_neg h1]
theorem set_mem {α : Type} {l : List α} {k : Nat} {x d t : α} (h : t ∈ l.set k x) : t = x ∨ ∃ i, i < l.length ∧ i ≠ k ∧ t = l.getD i d := by
  obtain ⟨i, hi, rfl⟩ := List.getElem_of_mem h
  rw [List.length_set] at hi
  by_cases e : k = i
  · subst e; exact .inl (by simp)
  · refine .inr ⟨i, hi, Ne.symm e, ?_⟩
    rw [List.getElem_set_ne e, List.getD_eq_getElem?_getD, List.getElem?_eq_getElem hi, Option.getD_some]
theorem ApartW.set2 {sp : List Sp} (h : ApartW sp) (k : Nat) (s : Sp) (hn : ∀ i, i < sp.length → i ≠ k → ∀ q, (sp.getD i sp0).blk = some q → s.blk ≠ some q) : ApartW (sp.set k s) := by
  intro i j hij hj q hq
  rw [List.length_set] at hj
  have gi : ∀ i, i < sp.length → (sp.set k s).getD i sp0 = if k = i then s else sp.getD i sp0 := fun i hi => by
    simp only [List.getD_eq_getElem?_getD, List.getElem?_set]
    by_cases e : k = i
    · subst e; simp [hi]
    · simp [e]
  rw [gi i (by omega)] at hq
  rw [gi j hj]
  by_cases e1 : k = i
  · rw [if_pos e1] at hq
    rw [if_neg (by omega)]
    intro h2
    exact hn j hj (by omega) q h2 hq
  · rw [if_neg e1] at hq
    by_cases e2 : k = j
    · rw [if_pos e2]; exact hn i (by omega) (Ne.symm e1) q hq
    · rw [if_neg e2]; exact h i j hij hj q hq
/-- A spoke has been changed in place or laid anew, and stored. -/
theorem WP.stored {w u u2 u3 : World} {A : Option Addr} {c : Nat} {sp : List Sp} {p : Pn} {ga g cp k : Nat} {sq : List Sp} {s : Sp} {A' : Option Addr} {c' : Nat} {l' : List Pn} (T : WP w u A c sp p ga (some ⟨g, 0, none⟩) cp sq) (hk : k < sq.length) (es : sq.getD k sp0 = s) (hap : ApartW sq) (x : Below u.heap.size u u2) (hg6 : w.heap.size + 3 ≤ u.heap.size)
    (o : u3.ownsRow (w.heap.size + 3) 33 2 (.slice A' l'.length c') l'.length (l'.flatMap pnC)) (gr : u2.grownBy u3 (Value.slice s.a s.l.length s.c).ownBlock) (loc : ∀ q, A'.map (fun a => a.block) = some q → (Value.slice s.a s.l.length s.c).ownBlock = some q ∨ u2.heap.size ≤ q) :
    WP w (u3.setCell ⟨g, 0 + k, none⟩ (.slice A' l'.length c')) A c sp p ga (some ⟨g, 0, none⟩) cp (sq.set k ⟨A', c', l'⟩) ∧ ApartW (sq.set k ⟨A', c', l'⟩) ∧ (∃ v, u3.cell? ⟨g, 0 + k, none⟩ = some v) ∧ u3.frozen? ⟨g, 0 + k, none⟩ = false := by
  have T2 := T.call x
  have hsm : s ∈ sq := by rw [← es]; exact getD_mem sq k sp0 hk
  have hso := T2.O.sp s hsm
  have hrow : (Value.slice s.a s.l.length s.c).ownBlock = s.blk := ownBlock_eq _ _ _
  obtain ⟨curg, hcg⟩ := own_typed2 T2.O.row g rfl
  have hgs : s.blk ≠ some g := by rw [← hrow]; exact own_ne_type hso hcg (by decide)
  have hlo : ∀ q, s.blk = some q → w.heap.size + 3 ≤ q := fun q hq => (World.ownsRow.lt hso q (by rw [hrow]; exact hq)).1
  rw [hrow] at gr loc
  have hbk : ∀ i, i < u2.heap.size → s.blk ≠ some i → u3.heap[i]? = u2.heap[i]? := fun i hi h => gr.block i hi (fun e => h e.symm)
  have e0 := T2.T
  have l0 := blk_lt e0.1
  have l1 := blk_lt e0.2.1
  have l2 := blk_lt e0.2.2.1
  have lga := blk_lt T2.H
  have lg := blk_lt hcg
  have n0 : s.blk ≠ some w.heap.size := fun h => by have := hlo _ h; omega
  have n1 : s.blk ≠ some (w.heap.size + 1) := fun h => by have := hlo _ h; omega
  have n2 : s.blk ≠ some (w.heap.size + 2) := fun h => by have := hlo _ h; omega
  have n6 : s.blk ≠ some ga := by rw [← hrow]; exact own_ne_type hso T2.H (by decide)
  have hg3 : w.heap.size + 3 ≤ g := (World.ownsRow.lt T2.O.row g rfl).1
  have hgga : ga ≠ g := fun h => by
    have := T2.H
    rw [h, hcg] at this
    injection this with this
    injection this with _ h2
    revert h2
    decide
  have R3 : u3.ownsRow (w.heap.size + 3) 29 1 (.slice (some ⟨g, 0, none⟩) sq.length cp) sq.length (sq.flatMap spC) := own_same T2.O.row (fun q hq => by
    have : g = q := by simpa [Value.ownBlock] using hq
    subst this; exact hbk g lg hgs)
  obtain ⟨U, eU⟩ : ∃ U, u3.setCell ⟨g, 0 + k, none⟩ (.slice A' l'.length c') = U := ⟨_, rfl⟩
  have hU : ∀ j, j ≠ g → U.heap[j]? = u3.heap[j]? := fun j hj => by rw [← eU]; exact heap_set_ne u3 g _ _ hj
  have st := R3.stored (0 + k) (.slice A' l'.length c')
  have hfl := spC_flat_len sq
  refine ⟨?_, ?_, ?_, R3.frozenAt (0 + k)⟩
  · rw [eU] at st ⊢
    refine ⟨⟨((hU _ (by omega)).trans (hbk _ l0 n0)).trans e0.1, ((hU _ (by omega)).trans (hbk _ l1 n1)).trans e0.2.1, ((hU _ (by omega)).trans (hbk _ l2 n2)).trans e0.2.2.1, ?_⟩, ?_, ⟨?_, ?_⟩⟩
    · rw [← eU]
      exact ((e0.2.2.2).grown gr e0.2.2.2.size (fun q hq => by have := hlo q hq; omega)).setCell (p := ⟨g, 0 + k, none⟩) (by show _ ≤ g; omega) _
    · rw [List.length_set]; exact ((hU _ hgga).trans (hbk _ lga n6)).trans T2.H
    · have := st.1
      rw [Nat.zero_add] at this
      rw [List.length_set, ← flat_set sq k ⟨A', c', l'⟩]
      exact this
    · intro t ht
      have kt : Sp.own u3 (w.heap.size + 3) t := by
        rcases set_mem (d := sp0) ht with rfl | ⟨i, hi, hik, rfl⟩
        · exact o
        · refine own_same (T2.O.sp _ (getD_mem sq i sp0 hi)) (fun q hq => ?_)
          have hq2 : (sq.getD i sp0).blk = some q := by rw [← hq]; exact (ownBlock_eq _ _ _).symm
          have hql := (World.ownsRow.lt (T2.O.sp _ (getD_mem sq i sp0 hi)) q hq).2
          refine hbk q hql (fun h => ?_)
          rw [← es] at h
          rcases Nat.lt_or_gt_of_ne hik with h9 | h9
          · exact hap i k h9 hk q hq2 h
          · exact hap k i h9 hi q h hq2
      rw [← eU]
      obtain ⟨curg3, hcg3⟩ := own_typed2 R3 g rfl
      exact kt.kept (Go.Lib.grownBy_setCell u3 g (0 + k) _) (.inr (own_ne_type kt hcg3 (by decide)))
  · refine ApartW.set2 hap k _ (fun i hi hik q hq h2 => ?_)
    rcases loc q h2 with h3 | h3
    · rw [← es] at h3
      rcases Nat.lt_or_gt_of_ne hik with h9 | h9
      · exact hap i k h9 hk q hq h3
      · exact hap k i h9 hi q h3 hq
    · have hql := (World.ownsRow.lt (T.O.sp _ (getD_mem sq i sp0 hi)) q (by rw [← hq]; exact ownBlock_eq _ _ _)).2
      have := x.size
      omega
  · rw [R3.cellAt _ (by omega)]
    exact ⟨_, List.getElem?_eq_getElem (by omega)⟩
theorem WP.out {w u : World} {A : Option Addr} {c : Nat} {sp : List Sp} {p : Pn} {ga g cp : Nat} {sq : List Sp} {s : Sp} (T : WP w u A c sp p ga (some ⟨g, 0, none⟩) cp sq) (hsm : s ∈ sq) : (s.blk ≠ some ga ∧ ga ≠ g) ∧ (s.blk ≠ some (w.heap.size + 1) ∧ w.heap.size + 1 ≠ g) := by
  have hso := T.O.sp s hsm
  have hrow : (Value.slice s.a s.l.length s.c).ownBlock = s.blk := ownBlock_eq _ _ _
  obtain ⟨curg, hcg⟩ := own_typed2 T.O.row g rfl
  have hg3 : w.heap.size + 3 ≤ g := (World.ownsRow.lt T.O.row g rfl).1
  refine ⟨⟨by rw [← hrow]; exact own_ne_type hso T.H (by decide), fun h => ?_⟩, fun h => ?_, by omega⟩
  · have := T.H
    rw [h, hcg] at this
    injection this with this
    injection this with _ h2
    revert h2
    decide
  · have := (World.ownsRow.lt hso (w.heap.size + 1) (by rw [hrow]; exact h)).1
    omega
set_option maxRecDepth 100000 in
theorem exec_one_pnP {ρ : Operand → Value} {o : Oper} {y : Operand} (x : Pn) (w : World) (ho : o.op = .buildSlice 29 1 #[(0, y)] := by rfl) (hy : ρ y = pnA x := by rfl) :
    (execOp ρ o).run Try.prog w = .ok (.value (.slice (some ⟨w.heap.size, 0, none⟩) 1 1)) (w.alloc (.cells #[.int .i64 x.at_, .int .i64 x.id] 33)) := by
  unfold execOp
  rw [ho]
  simp [go_sem, hy, pnA]
set_option maxRecDepth 100000 in
theorem wheelOk_sz (A : Option Addr) (sp : List Sp) (c : Nat) (w : World) (h1 : sp.length ≤ 1048577) (h2 : (allPn sp).length ≤ 1048577) (hA : Whl w A sp) :
    Calls Try.prog 37 #[.agg #[.slice A sp.length c]] w fun e w' => e = .returned (.bool (wheelB (sp.map (fun s => s.l)))) ∧ Below w.heap.size w w' := by
  refine (callsIn_wide.1 (wheelOk_in A sp c w h1 h2 hA)).mono ?_
  rintro e w' ⟨⟨q, rfl, hq⟩, b⟩
  refine ⟨?_, b⟩
  by_cases h : wheelFine (sp.map (fun s => s.l))
  · rw [wheelB_yes h, hq.2 h]
  · rw [wheelB_no h]
    cases q with
    | false => rfl
    | true => exact absurd (hq.1 rfl) h
set_option maxRecDepth 100000 in
set_option maxHeartbeats 12800000 in
theorem wheelPut_impl (A : Option Addr) (sp : List Sp) (c : Nat) (p : Pn) (w : World) (ls : List (List Pn)) (hm : sp.map (fun s => s.l) = ls) (hs : SzW ls) (hf : FitL ls) (hp : p.fits) (hA : Whl w A sp) :
    Calls Try.prog 19 #[.agg #[.slice A sp.length c], pnA p] w (NewXB w (wheelPutV ls p)) := by
  obtain ⟨hn, hl⟩ := hs.of hm
  have T0 : Three w (((w.alloc (.cells #[.slice A sp.length c] 26)).alloc (.cells #[.int .i64 p.at_, .int .i64 p.id] 33)).alloc (.cells #[.slice none 0 0] 26)) (.cells #[.slice A sp.length c] 26) (.cells #[.int .i64 p.at_, .int .i64 p.id] 33) (.cells #[.slice none 0 0] 26) := Three.make _ _ _ _
  have hs0 : (((w.alloc (.cells #[.slice A sp.length c] 26)).alloc (.cells #[.int .i64 p.at_, .int .i64 p.id] 33)).alloc (.cells #[.slice none 0 0] 26)).heap.size = w.heap.size + 3 := by simp
  have CC := Lib.hid (copied_im A sp c _ (by omega) (by omega) (hA.below T0.2.2.2))
  have CC2 := Lib.hid (fun u (b : Below w.heap.size w u) => copied_im A sp c u (by omega) (by omega) (hA.below b))
  have CO := Lib.hid (fun u (b : Below w.heap.size w u) => wheelOk_impl A sp c u ls hm hs hf (hA.below b))
  obtain ⟨V, eV⟩ : ∃ V, wheelPutV ls p = V := ⟨_, rfl⟩
  have els : sp.map (fun s => s.l) = ls := hm
  rw [eV]
  rw [els] at CC CC2
  have HV := Lib.hid eV
  have HL := Lib.hid els
  have HT := Lib.hid T0
  have HS0 := Lib.hid hs0
  clear eV els T0 hs0 hA
  unfold pnA
  go_enter Try.func19, Try.ntmps19
  go_wp2_with fail
  refine CC.out.mono ?_
  rintro e u1 ⟨P, cp, sq, rfl, hm1, O1, ap1, x1⟩
  have T : WP w (u1.alloc (.cells #[.slice P sq.length cp] 26)) A c sp p u1.heap.size P cp sq := by
    have ba : Below u1.heap.size u1 (u1.alloc (.cells #[.slice P sq.length cp] 26)) := (Below.refl _ _).alloc (Nat.le_refl _) _
    refine ⟨(HT.out.call x1).call ba, heap_new _ _, ?_⟩
    rw [HS0.out] at O1
    exact O1.alloc _
  have hg6 : w.heap.size + 3 ≤ u1.heap.size := by have := x1.size; rw [HS0.out] at this; exact this
  have HM := Lib.hid hm1
  have HAP := Lib.hid ap1
  clear ap1
  have hsq : Hid (sq.length = sp.length) := by show _ = _; have h1 := congrArg List.length hm1; have h2 := congrArg List.length HL.out; simp at h1 h2; omega
  have hlq : Hid (allPn sq = allPn sp) := by show _ = _; rw [← ls_flat, ← ls_flat, hm1, HL.out]
  clear O1 x1 hm1 CC HT
  have c1 := cell_of_row _ _ 0 _ _ _ T.T.1
  obtain ⟨p0, p1⟩ := Pn.here.blk T.T.2.1
  have c3 := cell_of_row _ _ 0 _ _ _ T.T.2.2.1
  have z3 := frozen_of_row _ _ 0 _ _ T.T.2.2.1
  have c6 := cell_of_row _ _ 0 _ _ _ T.H
  simp at c1 p0 p1 c3 c6
  have C1 := Lib.hid (CO.out _ T.T.2.2.2)
  have TT := Lib.hid T
  obtain ⟨B1, eB⟩ : ∃ B1, wheelB ls = B1 := ⟨_, rfl⟩
  rw [eB] at C1
  have EB := Lib.hid eB
  clear T eB
  go_wp2_with fail
  refine C1.out.mono ?_
  rintro e u2 ⟨rfl, x2⟩
  have T := TT.out.call x2
  have ltg := blk_lt T.H
  clear x2 TT C1
  clear c1 p0 p1 c3 z3 c6
  have c1 := cell_of_row _ _ 0 _ _ _ T.T.1
  obtain ⟨p0, p1⟩ := Pn.here.blk T.T.2.1
  have c3 := cell_of_row _ _ 0 _ _ _ T.T.2.2.1
  have z3 := frozen_of_row _ _ 0 _ _ T.T.2.2.1
  have c6 := cell_of_row _ _ 0 _ _ _ T.H
  simp at c1 p0 p1 c3 c6
  cases B1
  · skip
    have HN : Hid (NewXB w V (.returned (.tuple #[.agg #[.slice P sq.length cp], .bool false])) (u2.setCell ⟨w.heap.size + 2, 0, none⟩ (.slice P sq.length cp))) := by
      have eV : V = (ls, false) := by rw [← HV.out]; unfold wheelPutV; rw [if_neg (fun h => by rw [EB.out] at h; cases h.1)]
      refine ⟨P, cp, sq, by rw [eV], by rw [eV]; exact HM.out, (T.O.put T.T.2.2.1 (by decide) (by decide) 0 _).weak (by omega), HAP.out, T.T.2.2.2.setCell (p := ⟨w.heap.size + 2, 0, none⟩) (by show _ ≤ _ + 2; omega) _⟩
    clear T
    go_wp2
    simp [bodyPost, results, Try.results19, go_sem, c3]
    exact HN.out
  by_cases gin : p.inn
  rotate_left
  · have HPO := Lib.hid (fun w' => pinOk_no p w' gin)
    unfold pnA at HPO
    have HVN : Hid (V = (ls, false)) := by show _ = _; rw [← HV.out]; exact wheelPutV_bad gin
    have TT := Lib.hid T
    clear T
    go_wp2_with fail
    refine (HPO.out _).mono ?_
    rintro e u3 ⟨rfl, x3⟩
    have T := TT.out.call x3
    clear x3 TT HPO
    clear c1 p0 p1 c3 z3 c6
    have c1 := cell_of_row _ _ 0 _ _ _ T.T.1
    obtain ⟨p0, p1⟩ := Pn.here.blk T.T.2.1
    have c3 := cell_of_row _ _ 0 _ _ _ T.T.2.2.1
    have z3 := frozen_of_row _ _ 0 _ _ T.T.2.2.1
    have c6 := cell_of_row _ _ 0 _ _ _ T.H
    simp at c1 p0 p1 c3 c6

    have HN : Hid (NewXB w V (.returned (.tuple #[.agg #[.slice P sq.length cp], .bool false])) (u3.setCell ⟨w.heap.size + 2, 0, none⟩ (.slice P sq.length cp))) := by
      refine ⟨_, cp, sq, by rw [HVN.out], by rw [HVN.out]; exact HM.out, (T.O.put T.T.2.2.1 (by decide) (by decide) 0 _).weak (by omega), HAP.out, T.T.2.2.2.setCell (p := ⟨w.heap.size + 2, 0, none⟩) (by show _ ≤ _ + 2; omega) _⟩
    clear T
    go_wp2
    simp [bodyPost, results, Try.results19, go_sem, c3]
    exact HN.out
  have HPO := Lib.hid (fun w' => pinOk_yes p w' gin)
  unfold pnA at HPO
  have TT := Lib.hid T
  clear T
  go_wp2_with fail
  refine (HPO.out _).mono ?_
  rintro e u3 ⟨rfl, x3⟩
  have T := TT.out.call x3
  have ltg3 := blk_lt T.H
  clear x3 TT HPO
  clear c1 p0 p1 c3 z3 c6
  have ga : 1 ≤ p.at_ := gin.1.1
  obtain ⟨k, hk⟩ : ∃ k : Nat, p.at_.tmod 9 = (k : Int) := ⟨(p.at_.tmod 9).toNat, by have := Int.tmod_nonneg 9 (a := p.at_) (by omega); omega⟩
  have hk9 : k < 9 := by have := Int.tmod_lt_of_pos p.at_ (b := 9) (by omega); omega
  have HK : Hid ((p.at_.tmod 9).toNat = k) := by show _ = _; rw [hk]; simp
  have HSO := Lib.hid (fun w' => by have h := spokeOf_im p w'; rw [hk] at h; exact h)
  have W9 := wheelB_iff EB.out
  have hq9 : sq.length = 9 := by have h1 := W9.1; have h2 := congrArg List.length HM.out; simp at h2; omega
  have hkq : k < sq.length := by omega
  have HQ9 := Lib.hid hq9
  have hsk := W9.2.2.2 k (by have := W9.1; omega)
  clear hq9
  obtain ⟨_, _, eP, _, _, hP⟩ := own_form T.O.row
  obtain ⟨g, eg, hg3⟩ := hP (by omega)
  injection eP with eP1 _ eP3
  rw [← eP1] at eg
  subst eg
  clear eP1 eP3
  obtain ⟨b', off', he, hbB, hc⟩ := (own_rws T.O.row).sp hkq
  obtain ⟨rfl, rfl⟩ : g = b' ∧ 0 = off' := by injection he with he; injection he with h1 h2; exact ⟨h1, h2⟩
  have hsm : sq.getD k sp0 ∈ sq := getD_mem sq k sp0 hkq
  have hsl : (sq.getD k sp0).l.length ≤ 1048575 := by have := allPn_at_le sq k hkq; have h2 := hlq.out; rw [h2] at this; omega
  have hlsk : ls.getD k [] = (sq.getD k sp0).l := by
    have h2 : (sq.map fun s => s.l) = ls := HM.out
    rw [← h2]; exact ls_at sq k
  obtain ⟨s, es⟩ : ∃ s, sq.getD k sp0 = s := ⟨_, rfl⟩
  rw [es] at hc hsm hsl hlsk
  rw [hlsk, spokeOk_iff] at hsk
  have HSRT := Lib.hid hsk.2
  have HLK := Lib.hid hlsk
  have KH := Lib.hid (fun w' (h : Below u3.heap.size u3 w') => cell_of_one (blk_call T.H h))
  have KC := Lib.hid (fun w' (h : Below u3.heap.size u3 w') => (h.cell (by exact hbB)).trans hc)
  have KP := Lib.hid (fun w' (h : Below u3.heap.size u3 w') => Pn.here.blk (blk_call T.T.2.1 h))
  have ES := Lib.hid es
  have TT := Lib.hid T
  have c6 := cell_of_one T.H
  obtain ⟨p0, p1⟩ := Pn.here.blk T.T.2.1
  clear es he hc T W9 hsk hlsk hP
  go_wp2_with fail
  clear c6 p0 p1
  refine wp_region_held_drew (S := fun w' => Hid (Below u3.heap.size u3 w')) (by kernel_rfl) (below_drawn (Below.refl _ _) 1) (fun hHeld => ?_)
  refine held_take 0 21 (.pointer (some ⟨u1.heap.size, 0, none⟩)) rfl rfl (by kernel_rfl) (by kernel_rfl) (by kernel_rfl) (fun _ _ _ h => h) rfl hHeld (fun w _ => exec_fldW _ w) ?_
  refine held_take 1 22 (.slice (some ⟨g, 0, none⟩) sq.length cp) rfl rfl (by kernel_rfl) (by kernel_rfl) (by kernel_rfl) (fun _ _ _ h => h) rfl hHeld (fun w h => exec_loadSp _ _ 0 _ _ _ w (.inr rfl) (KH.out w h.out)) ?_
  simp only [Act.put, List.setIfInBounds_toArray, List.set_cons_zero, List.set_cons_succ]
  refine held_take 2 23 (pnA p) rfl rfl (by kernel_rfl) (by kernel_rfl) (by kernel_rfl) (fun _ _ _ h => h) rfl hHeld (fun w h => exec_load_pn _ 0 p w (KP.out w h.out)) ?_
  simp only [Act.put, List.setIfInBounds_toArray, List.set_cons_zero, List.set_cons_succ]
  refine held_call 3 24 54 #[pnA p] rfl rfl (by kernel_rfl) rfl (exec_call Try.func54 (by kernel_rfl) (by kernel_rfl) _) ?_
  refine (HSO.out _).mono ?_
  rintro e u4 ⟨rfl, x4⟩
  have hHeld : Hid (Below u3.heap.size u3 u4) := hHeld.out.trans (x4.mono hHeld.out.size)
  refine ⟨_, rfl, hHeld, ?_⟩
  simp only [Act.put, List.setIfInBounds_toArray, List.set_cons_zero, List.set_cons_succ]
  refine held_take 4 25 (.pointer (some ⟨g, 0 + k, none⟩)) rfl rfl (by kernel_rfl) (by kernel_rfl) (by kernel_rfl) (fun _ _ _ h => h) rfl hHeld (fun w _ => exec_idxSp g 0 sq.length cp k w hkq) ?_
  refine held_take 5 26 (.slice s.a s.l.length s.c) rfl rfl (by kernel_rfl) (by kernel_rfl) (by kernel_rfl) (fun _ _ _ h => h) rfl hHeld (fun w h => exec_loadSp _ g (0 + k) _ _ _ w (.inl rfl) (KC.out w h.out)) ?_
  simp only [Act.put, List.setIfInBounds_toArray, List.set_cons_zero, List.set_cons_succ]
  refine held_op 6 7 (.slice s.a s.l.length s.c) rfl rfl (by kernel_rfl) rfl rfl hHeld ?_
  simp only [Act.put, List.setIfInBounds_toArray, List.set_cons_zero, List.set_cons_succ]
  refine wpAnyH_done (by kernel_rfl) ?_ _
  have T := TT.out.call hHeld.out
  have hso := (T.O.sp s hsm).ok
  clear KH KC KP TT hHeld x4
  have CB := Lib.hid (bsearch_im s.a s.l s.c p u4 (by omega) HSRT.out hso.row)
  unfold pnA at CB
  obtain ⟨p0, p1⟩ := Pn.here.blk T.T.2.1
  have TT := Lib.hid T
  clear T hso
  go_wp2_with fail
  refine CB.out.mono ?_
  rintro e u5 ⟨⟨q, rfl⟩, x5⟩
  have T := TT.out.call x5
  clear p0 p1 CB x5 TT
  have TT := Lib.hid T
  clear T
  go_wp2_with fail
  obtain ⟨⟨m1, m2⟩, m3, m4⟩ := TT.out.out hsm
  have HNG : Hid (¬ (s.blk = some u1.heap.size ∨ u1.heap.size = g)) := fun h => h.elim m1 m2
  have HNP : Hid (¬ (s.blk = some (w.heap.size + 1) ∨ w.heap.size + 1 = g)) := fun h => h.elim m3 m4
  clear m1 m2 m3 m4
  have KH := Lib.hid (fun w' (h : Tch (fun i => s.blk = some i ∨ i = g) u5 w') => cell_of_one (h.blk TT.out.H HNG.out))
  have KP := Lib.hid (fun w' (h : Tch (fun i => s.blk = some i ∨ i = g) u5 w') => Pn.here.blk (h.blk TT.out.T.2.1 HNP.out))
  have h10 : (allPn sq).length ≤ 10 := by
    have h2 := (wheelB_iff EB.out).2.1
    have h3 : (sq.map fun s => s.l) = ls := HM.out
    rw [← h3, ls_flat] at h2; exact h2
  have hpl := placeP_le s.l p
  have HPP := Lib.hid (pnPut_place s.l p)
  have HLEN := Lib.hid (insL_len s.l (placeP s.l p) p hpl)
  have CI := Lib.hid (fun vb v2 hB hO hv hne => insert_im s.a s.c (w.heap.size + 3) vb (placeP s.l p) s.l p v2 hpl (by omega) hB hO hv hne)
  have h5w : w.heap.size + 3 ≤ u5.heap.size := by have h1 := blk_lt TT.out.H; omega
  generalize insL s.l (placeP s.l p) p = L' at *
  generalize placeP s.l p = pl at *
  refine wp_region_held_drew (S := fun w' => Hid (Tch (fun i => s.blk = some i ∨ i = g) u5 w')) (by kernel_rfl) (show Hid _ from Tch.of_below (below_drawn (Below.refl _ _) 1)) (fun hHeld => ?_)
  refine held_take 0 33 (.pointer (some ⟨u1.heap.size, 0, none⟩)) rfl rfl (by kernel_rfl) (by kernel_rfl) (by kernel_rfl) (fun _ _ _ h => h) rfl hHeld (fun w _ => exec_fldW _ w) ?_
  refine held_take 1 34 (.slice (some ⟨g, 0, none⟩) sq.length cp) rfl rfl (by kernel_rfl) (by kernel_rfl) (by kernel_rfl) (fun _ _ _ h => h) rfl hHeld (fun w h => exec_loadSp _ _ 0 _ _ _ w (.inr rfl) (KH.out w h.out)) ?_
  simp only [Act.put, List.setIfInBounds_toArray, List.set_cons_zero, List.set_cons_succ]
  refine held_take 2 35 (pnA p) rfl rfl (by kernel_rfl) (by kernel_rfl) (by kernel_rfl) (fun _ _ _ h => h) rfl hHeld (fun w h => exec_load_pn _ 0 p w (KP.out w h.out)) ?_
  refine held_take 4 37 (.slice s.a s.l.length s.c) rfl rfl (by kernel_rfl) (by kernel_rfl) (by kernel_rfl) (fun _ _ _ h => h) rfl hHeld (fun w _ => rfl) ?_
  simp only [Act.put, List.setIfInBounds_toArray, List.set_cons_zero, List.set_cons_succ]
  refine held_take 5 38 (.int .i64 (pl : Int)) rfl rfl (by kernel_rfl) (by kernel_rfl) (by kernel_rfl) (fun _ _ _ h => h) rfl hHeld (fun w _ => rfl) ?_
  refine held_take 6 39 (pnA p) rfl rfl (by kernel_rfl) (by kernel_rfl) (by kernel_rfl) (fun _ _ _ h => h) rfl hHeld (fun w h => exec_load_pn _ 0 p w (KP.out w h.out)) ?_
  simp only [Act.put, List.setIfInBounds_toArray, List.set_cons_zero, List.set_cons_succ]
  have X0 : Below u5.heap.size u5 u5.drew := below_drawn (Below.refl _ _) 1
  refine wpAnyH_ready (rs := [3, 7]) (by kernel_rfl) (by simp) (ready_call 3 36 54 #[pnA p] rfl rfl rfl (exec_call Try.func54 (by kernel_rfl) (by kernel_rfl) _) ?_ (ready_op 7 40 (.slice (some ⟨u5.drew.heap.size, 0, none⟩) 1 1) rfl rfl rfl (exec_one_pnP p _) (show Hid _ from Tch.of_below (X0.alloc X0.size _)) ?_ AllReadyH.nil))
  · refine (HSO.out _).mono ?_
    rintro e v1 ⟨rfl, y1⟩
    have X1 := X0.trans (y1.mono X0.size)
    refine ⟨_, rfl, Tch.of_below X1, ?_⟩
    simp only [Act.put, List.setIfInBounds_toArray, List.set_cons_zero, List.set_cons_succ]
    have X2 := X1.alloc X1.size (.cells #[.int .i64 p.at_, .int .i64 p.id] 33)
    have hHeld : Hid (Tch (fun i => s.blk = some i ∨ i = g) u5 (v1.alloc (.cells #[.int .i64 p.at_, .int .i64 p.id] 33))) := Tch.of_below X2
    refine held_op 7 40 (.slice (some ⟨v1.heap.size, 0, none⟩) 1 1) rfl rfl (by kernel_rfl) rfl (exec_one_pnP p _) hHeld ?_
    simp only [Act.put, List.setIfInBounds_toArray, List.set_cons_zero, List.set_cons_succ]
    have hv := heap_new v1 (.cells #[.int .i64 p.at_, .int .i64 p.id] 33)
    have hvb : u5.heap.size ≤ v1.heap.size := X1.size
    generalize v1.alloc (.cells #[.int .i64 p.at_, .int .i64 p.id] 33) = v2 at *
    generalize v1.heap.size = vb at *
    clear y1 X1
    have hx2 := X2.size
    refine held_call 8 41 57 #[.slice s.a s.l.length s.c, .int .i64 (pl : Int), .slice (some ⟨vb, 0, none⟩) 1 1] rfl rfl (by kernel_rfl) rfl (exec_call Try.func57 (by kernel_rfl) (by kernel_rfl) _) ?_
    refine (CI.out vb v2 (by omega) (own_below (TT.out.O.sp s hsm) X2) hv (fun q hq => by have := (World.ownsRow.lt (TT.out.O.sp s hsm) q hq).2; omega)).mono ?_
    rintro e u6 ⟨A', c', rfl, o6, gr6, loc6⟩
    have hHeld : Hid (Tch (fun i => s.blk = some i ∨ i = g) u5 u6) := hHeld.out.trans (Tch.of_grown gr6 (fun i e => .inl (by rw [← e]; exact (ownBlock_eq _ _ _).symm)))
    refine ⟨_, rfl, hHeld, ?_⟩
    simp only [Act.put, List.setIfInBounds_toArray, List.set_cons_zero, List.set_cons_succ]
    obtain ⟨T2, AP2, ⟨vv, hvc⟩, hfz⟩ := WP.stored TT.out hkq ES.out HAP.out X2 h5w o6 gr6 loc6
    refine held_take 9 42 (.pointer (some ⟨g, 0 + k, none⟩)) rfl rfl (by kernel_rfl) (by kernel_rfl) (by kernel_rfl) (fun _ _ _ h => h) rfl hHeld (fun w _ => exec_idxSp g 0 sq.length cp k w hkq) ?_
    simp only [Act.put, List.setIfInBounds_toArray, List.set_cons_zero, List.set_cons_succ]
    refine held_store 10 rfl rfl (by kernel_rfl) rfl (exec_storeSp _ g (0 + k) A' L'.length c' _ u6 (.inl rfl) hvc hfz) (show Hid _ from hHeld.out.trans (Tch.of_grown (Go.Lib.grownBy_setCell u6 g (0 + k) _) (fun i e => .inr (by cases e; rfl)))) ?_
    refine wpAnyH_done (by kernel_rfl) ?_ _
    generalize u6.setCell ⟨g, 0 + k, none⟩ (.slice A' L'.length c') = U at *
    obtain ⟨sq2, es2⟩ : ∃ sq2, sq.set k ⟨A', c', L'⟩ = sq2 := ⟨_, rfl⟩
    have hn2 : sq2.length = sq.length := by rw [← es2, List.length_set]
    have hl2 : (allPn sq2).length ≤ 1048577 := by
      have h1 := allPn_set sq k ⟨A', c', L'⟩ hkq
      rw [es2] at h1
      have h3 : (Sp.mk A' c' L').l.length = L'.length := rfl
      have h4 := allPn_at_le sq k hkq
      rw [ES.out] at h4
      have h5 := HLEN.out
      omega
    have HEL : Hid (sq2.map (fun s => s.l) = ls.set k (pnPut (ls.getD k []) p)) := by
      show _ = _
      have h2 : (sq.map fun s => s.l) = ls := HM.out
      rw [← es2, List.map_set, h2, HLK.out, HPP.out]
    rw [es2] at T2 AP2
    clear es2 hHeld hvc hfz o6 gr6 loc6 X2 hv hvb hx2 X0 KH KP TT hsm CI
    have HAP2 := Lib.hid AP2
    have hsq9 := HQ9.out
    have CU := wheelOk_sz (some ⟨g, 0, none⟩) sq2 cp U (by omega) hl2 T2.O.whl
    rw [HEL.out] at CU
    obtain ⟨B2, eB2⟩ : ∃ B2, wheelB (ls.set k (pnPut (ls.getD k []) p)) = B2 := ⟨_, rfl⟩
    rw [eB2] at CU
    have EB2 := Lib.hid eB2
    have C2 := Lib.hid CU
    have TT2 := Lib.hid T2
    have HN2 := Lib.hid hn2
    clear hsq9 hl2 CU eB2 AP2 T2 hn2
    have T := TT2.out
    have c1 := cell_of_row _ _ 0 _ _ _ T.T.1
    obtain ⟨p0, p1⟩ := Pn.here.blk T.T.2.1
    have c3 := cell_of_row _ _ 0 _ _ _ T.T.2.2.1
    have z3 := frozen_of_row _ _ 0 _ _ T.T.2.2.1
    have c6 := cell_of_row _ _ 0 _ _ _ T.H
    simp at c1 p0 p1 c3 c6
    clear T
    rw [show sq.length = sq2.length from HN2.out.symm] at *
    go_wp2_with fail
    refine C2.out.mono ?_
    rintro e u7 ⟨rfl, x7⟩
    have T := TT2.out.call x7
    clear x7 TT2 C2
    clear c1 p0 p1 c3 z3 c6
    have c1 := cell_of_row _ _ 0 _ _ _ T.T.1
    obtain ⟨p0, p1⟩ := Pn.here.blk T.T.2.1
    have c3 := cell_of_row _ _ 0 _ _ _ T.T.2.2.1
    have z3 := frozen_of_row _ _ 0 _ _ T.T.2.2.1
    have c6 := cell_of_row _ _ 0 _ _ _ T.H
    simp at c1 p0 p1 c3 c6
    cases B2
    rotate_left
    · have HN : Hid (NewXB w V (.returned (.tuple #[.agg #[.slice (some ⟨g, 0, none⟩) sq2.length cp], .bool true])) (u7.setCell ⟨w.heap.size + 2, 0, none⟩ (.slice (some ⟨g, 0, none⟩) sq2.length cp))) := by
        have eV : V = (ls.set k (pnPut (ls.getD k []) p), true) := by rw [← HV.out]; unfold wheelPutV; rw [if_pos ⟨EB.out, ga⟩, HK.out, if_pos EB2.out]
        refine ⟨_, cp, sq2, by rw [eV], by rw [eV]; exact HEL.out, (T.O.put T.T.2.2.1 (by decide) (by decide) 0 _).weak (by omega), HAP2.out, T.T.2.2.2.setCell (p := ⟨w.heap.size + 2, 0, none⟩) (by show _ ≤ _ + 2; omega) _⟩
      clear T
      go_wp2
      simp [bodyPost, results, Try.results19, go_sem, c3]
      exact HN.out
    · have C7 := Lib.hid (CC2.out u7 T.T.2.2.2)
      have TT := Lib.hid T
      clear T
      go_wp2_with fail
      refine C7.out.mono ?_
      rintro e u8 ⟨P7, cp7, sq7, rfl, hm7, O7, ap7, x8⟩
      have T := TT.out.call x8
      have ws : w.heap.size ≤ u7.heap.size := TT.out.T.2.2.2.size
      have HN : Hid (NewXB w V (.returned (.tuple #[.agg #[.slice P7 sq7.length cp7], .bool false])) (u8.setCell ⟨w.heap.size + 2, 0, none⟩ (.slice P7 sq7.length cp7))) := by
        have eV : V = (ls, false) := by rw [← HV.out]; unfold wheelPutV; rw [if_pos ⟨EB.out, ga⟩, HK.out, if_neg (by rw [EB2.out]; intro h; cases h)]
        refine ⟨P7, cp7, sq7, by rw [eV], by rw [eV]; exact hm7, ((O7.weak ws).put T.T.2.2.1 (by decide) (by decide) 0 _), ap7, T.T.2.2.2.setCell (p := ⟨w.heap.size + 2, 0, none⟩) (by show _ ≤ _ + 2; omega) _⟩
      clear c1 p0 p1 c3 z3 c6
      clear TT C7
      have c3 := cell_of_row _ _ 0 _ _ _ T.T.2.2.1
      have z3 := frozen_of_row _ _ 0 _ _ T.T.2.2.1
      simp at c3
      clear T O7 x8 hm7
      go_wp2
      simp [bodyPost, results, Try.results19, go_sem, c3]
      exact HN.out
  · simp only [Act.put, List.setIfInBounds_toArray, List.set_cons_zero, List.set_cons_succ]
    have X1 := X0.alloc X0.size (.cells #[.int .i64 p.at_, .int .i64 p.id] 33)
    have hv1 := heap_new u5.drew (.cells #[.int .i64 p.at_, .int .i64 p.id] 33)
    have hvb : u5.heap.size ≤ u5.drew.heap.size := X0.size
    generalize u5.drew.alloc (.cells #[.int .i64 p.at_, .int .i64 p.id] 33) = v1 at *
    generalize u5.drew.heap.size = vb at *
    refine held_call 3 36 54 #[pnA p] rfl rfl (by kernel_rfl) rfl (exec_call Try.func54 (by kernel_rfl) (by kernel_rfl) _) ?_
    refine (HSO.out _).mono ?_
    rintro e v2 ⟨rfl, y1⟩
    have X2 := X1.trans (y1.mono X1.size)
    have hHeld : Hid (Tch (fun i => s.blk = some i ∨ i = g) u5 v2) := Tch.of_below X2
    refine ⟨_, rfl, hHeld, ?_⟩
    simp only [Act.put, List.setIfInBounds_toArray, List.set_cons_zero, List.set_cons_succ]
    have hv := blk_call hv1 y1
    clear y1 X1 hv1
    have hx2 := X2.size
    refine held_call 8 41 57 #[.slice s.a s.l.length s.c, .int .i64 (pl : Int), .slice (some ⟨vb, 0, none⟩) 1 1] rfl rfl (by kernel_rfl) rfl (exec_call Try.func57 (by kernel_rfl) (by kernel_rfl) _) ?_
    refine (CI.out vb v2 (by omega) (own_below (TT.out.O.sp s hsm) X2) hv (fun q hq => by have := (World.ownsRow.lt (TT.out.O.sp s hsm) q hq).2; omega)).mono ?_
    rintro e u6 ⟨A', c', rfl, o6, gr6, loc6⟩
    have hHeld : Hid (Tch (fun i => s.blk = some i ∨ i = g) u5 u6) := hHeld.out.trans (Tch.of_grown gr6 (fun i e => .inl (by rw [← e]; exact (ownBlock_eq _ _ _).symm)))
    refine ⟨_, rfl, hHeld, ?_⟩
    simp only [Act.put, List.setIfInBounds_toArray, List.set_cons_zero, List.set_cons_succ]
    obtain ⟨T2, AP2, ⟨vv, hvc⟩, hfz⟩ := WP.stored TT.out hkq ES.out HAP.out X2 h5w o6 gr6 loc6
    refine held_take 9 42 (.pointer (some ⟨g, 0 + k, none⟩)) rfl rfl (by kernel_rfl) (by kernel_rfl) (by kernel_rfl) (fun _ _ _ h => h) rfl hHeld (fun w _ => exec_idxSp g 0 sq.length cp k w hkq) ?_
    simp only [Act.put, List.setIfInBounds_toArray, List.set_cons_zero, List.set_cons_succ]
    refine held_store 10 rfl rfl (by kernel_rfl) rfl (exec_storeSp _ g (0 + k) A' L'.length c' _ u6 (.inl rfl) hvc hfz) (show Hid _ from hHeld.out.trans (Tch.of_grown (Go.Lib.grownBy_setCell u6 g (0 + k) _) (fun i e => .inr (by cases e; rfl)))) ?_
    refine wpAnyH_done (by kernel_rfl) ?_ _
    generalize u6.setCell ⟨g, 0 + k, none⟩ (.slice A' L'.length c') = U at *
    obtain ⟨sq2, es2⟩ : ∃ sq2, sq.set k ⟨A', c', L'⟩ = sq2 := ⟨_, rfl⟩
    have hn2 : sq2.length = sq.length := by rw [← es2, List.length_set]
    have hl2 : (allPn sq2).length ≤ 1048577 := by
      have h1 := allPn_set sq k ⟨A', c', L'⟩ hkq
      rw [es2] at h1
      have h3 : (Sp.mk A' c' L').l.length = L'.length := rfl
      have h4 := allPn_at_le sq k hkq
      rw [ES.out] at h4
      have h5 := HLEN.out
      omega
    have HEL : Hid (sq2.map (fun s => s.l) = ls.set k (pnPut (ls.getD k []) p)) := by
      show _ = _
      have h2 : (sq.map fun s => s.l) = ls := HM.out
      rw [← es2, List.map_set, h2, HLK.out, HPP.out]
    rw [es2] at T2 AP2
    clear es2 hHeld hvc hfz o6 gr6 loc6 X2 hv hvb hx2 X0 KH KP TT hsm CI
    have HAP2 := Lib.hid AP2
    have hsq9 := HQ9.out
    have CU := wheelOk_sz (some ⟨g, 0, none⟩) sq2 cp U (by omega) hl2 T2.O.whl
    rw [HEL.out] at CU
    obtain ⟨B2, eB2⟩ : ∃ B2, wheelB (ls.set k (pnPut (ls.getD k []) p)) = B2 := ⟨_, rfl⟩
    rw [eB2] at CU
    have EB2 := Lib.hid eB2
    have C2 := Lib.hid CU
    have TT2 := Lib.hid T2
    have HN2 := Lib.hid hn2
    clear hsq9 hl2 CU eB2 AP2 T2 hn2
    have T := TT2.out
    have c1 := cell_of_row _ _ 0 _ _ _ T.T.1
    obtain ⟨p0, p1⟩ := Pn.here.blk T.T.2.1
    have c3 := cell_of_row _ _ 0 _ _ _ T.T.2.2.1
    have z3 := frozen_of_row _ _ 0 _ _ T.T.2.2.1
    have c6 := cell_of_row _ _ 0 _ _ _ T.H
    simp at c1 p0 p1 c3 c6
    clear T
    rw [show sq.length = sq2.length from HN2.out.symm] at *
    go_wp2_with fail
    refine C2.out.mono ?_
    rintro e u7 ⟨rfl, x7⟩
    have T := TT2.out.call x7
    clear x7 TT2 C2
    clear c1 p0 p1 c3 z3 c6
    have c1 := cell_of_row _ _ 0 _ _ _ T.T.1
    obtain ⟨p0, p1⟩ := Pn.here.blk T.T.2.1
    have c3 := cell_of_row _ _ 0 _ _ _ T.T.2.2.1
    have z3 := frozen_of_row _ _ 0 _ _ T.T.2.2.1
    have c6 := cell_of_row _ _ 0 _ _ _ T.H
    simp at c1 p0 p1 c3 c6
    cases B2
    rotate_left
    · have HN : Hid (NewXB w V (.returned (.tuple #[.agg #[.slice (some ⟨g, 0, none⟩) sq2.length cp], .bool true])) (u7.setCell ⟨w.heap.size + 2, 0, none⟩ (.slice (some ⟨g, 0, none⟩) sq2.length cp))) := by
        have eV : V = (ls.set k (pnPut (ls.getD k []) p), true) := by rw [← HV.out]; unfold wheelPutV; rw [if_pos ⟨EB.out, ga⟩, HK.out, if_pos EB2.out]
        refine ⟨_, cp, sq2, by rw [eV], by rw [eV]; exact HEL.out, (T.O.put T.T.2.2.1 (by decide) (by decide) 0 _).weak (by omega), HAP2.out, T.T.2.2.2.setCell (p := ⟨w.heap.size + 2, 0, none⟩) (by show _ ≤ _ + 2; omega) _⟩
      clear T
      go_wp2
      simp [bodyPost, results, Try.results19, go_sem, c3]
      exact HN.out
    · have C7 := Lib.hid (CC2.out u7 T.T.2.2.2)
      have TT := Lib.hid T
      clear T
      go_wp2_with fail
      refine C7.out.mono ?_
      rintro e u8 ⟨P7, cp7, sq7, rfl, hm7, O7, ap7, x8⟩
      have T := TT.out.call x8
      have ws : w.heap.size ≤ u7.heap.size := TT.out.T.2.2.2.size
      have HN : Hid (NewXB w V (.returned (.tuple #[.agg #[.slice P7 sq7.length cp7], .bool false])) (u8.setCell ⟨w.heap.size + 2, 0, none⟩ (.slice P7 sq7.length cp7))) := by
        have eV : V = (ls, false) := by rw [← HV.out]; unfold wheelPutV; rw [if_pos ⟨EB.out, ga⟩, HK.out, if_neg (by rw [EB2.out]; intro h; cases h)]
        refine ⟨P7, cp7, sq7, by rw [eV], by rw [eV]; exact hm7, ((O7.weak ws).put T.T.2.2.1 (by decide) (by decide) 0 _), ap7, T.T.2.2.2.setCell (p := ⟨w.heap.size + 2, 0, none⟩) (by show _ ≤ _ + 2; omega) _⟩
      clear c1 p0 p1 c3 z3 c6
      clear TT C7
      have c3 := cell_of_row _ _ 0 _ _ _ T.T.2.2.1
      have z3 := frozen_of_row _ _ 0 _ _ T.T.2.2.1
      simp at c3
      clear T O7 x8 hm7
      go_wp2
      simp [bodyPost, results, Try.results19, go_sem, c3]
      exact HN.out
set_option maxRecDepth 100000 in
set_option maxHeartbeats 12800000 in
theorem wheelCut_impl (A : Option Addr) (sp : List Sp) (c : Nat) (p : Pn) (w : World) (ls : List (List Pn)) (hm : sp.map (fun s => s.l) = ls) (hs : SzW ls) (hf : FitL ls) (hp : p.fits) (hA : Whl w A sp) :
    Calls Try.prog 21 #[.agg #[.slice A sp.length c], pnA p] w (NewXB w (wheelCutV ls p)) := by
  obtain ⟨hn, hl⟩ := hs.of hm
  have T0 : Three w (((w.alloc (.cells #[.slice A sp.length c] 26)).alloc (.cells #[.int .i64 p.at_, .int .i64 p.id] 33)).alloc (.cells #[.slice none 0 0] 26)) (.cells #[.slice A sp.length c] 26) (.cells #[.int .i64 p.at_, .int .i64 p.id] 33) (.cells #[.slice none 0 0] 26) := Three.make _ _ _ _
  have hs0 : (((w.alloc (.cells #[.slice A sp.length c] 26)).alloc (.cells #[.int .i64 p.at_, .int .i64 p.id] 33)).alloc (.cells #[.slice none 0 0] 26)).heap.size = w.heap.size + 3 := by simp
  have CC := Lib.hid (copied_im A sp c _ (by omega) (by omega) (hA.below T0.2.2.2))
  have CC2 := Lib.hid (fun u (b : Below w.heap.size w u) => copied_im A sp c u (by omega) (by omega) (hA.below b))
  have CO := Lib.hid (fun u (b : Below w.heap.size w u) => wheelOk_impl A sp c u ls hm hs hf (hA.below b))
  obtain ⟨V, eV⟩ : ∃ V, wheelCutV ls p = V := ⟨_, rfl⟩
  have els : sp.map (fun s => s.l) = ls := hm
  rw [eV]
  rw [els] at CC CC2
  have HV := Lib.hid eV
  have HL := Lib.hid els
  have HT := Lib.hid T0
  have HS0 := Lib.hid hs0
  clear eV els T0 hs0 hA
  unfold pnA
  go_enter Try.func21, Try.ntmps21
  go_wp2_with fail
  refine CC.out.mono ?_
  rintro e u1 ⟨P, cp, sq, rfl, hm1, O1, ap1, x1⟩
  have T : WP w (u1.alloc (.cells #[.slice P sq.length cp] 26)) A c sp p u1.heap.size P cp sq := by
    have ba : Below u1.heap.size u1 (u1.alloc (.cells #[.slice P sq.length cp] 26)) := (Below.refl _ _).alloc (Nat.le_refl _) _
    refine ⟨(HT.out.call x1).call ba, heap_new _ _, ?_⟩
    rw [HS0.out] at O1
    exact O1.alloc _
  have hg6 : w.heap.size + 3 ≤ u1.heap.size := by have := x1.size; rw [HS0.out] at this; exact this
  have HM := Lib.hid hm1
  have HAP := Lib.hid ap1
  clear ap1
  have hsq : Hid (sq.length = sp.length) := by show _ = _; have h1 := congrArg List.length hm1; have h2 := congrArg List.length HL.out; simp at h1 h2; omega
  have hlq : Hid (allPn sq = allPn sp) := by show _ = _; rw [← ls_flat, ← ls_flat, hm1, HL.out]
  clear O1 x1 hm1 CC HT
  have c1 := cell_of_row _ _ 0 _ _ _ T.T.1
  obtain ⟨p0, p1⟩ := Pn.here.blk T.T.2.1
  have c3 := cell_of_row _ _ 0 _ _ _ T.T.2.2.1
  have z3 := frozen_of_row _ _ 0 _ _ T.T.2.2.1
  have c6 := cell_of_row _ _ 0 _ _ _ T.H
  simp at c1 p0 p1 c3 c6
  have C1 := Lib.hid (CO.out _ T.T.2.2.2)
  have TT := Lib.hid T
  obtain ⟨B1, eB⟩ : ∃ B1, wheelB ls = B1 := ⟨_, rfl⟩
  rw [eB] at C1
  have EB := Lib.hid eB
  clear T eB
  go_wp2_with fail
  refine C1.out.mono ?_
  rintro e u2 ⟨rfl, x2⟩
  have T := TT.out.call x2
  have ltg := blk_lt T.H
  clear x2 TT C1
  clear c1 p0 p1 c3 z3 c6
  have c1 := cell_of_row _ _ 0 _ _ _ T.T.1
  obtain ⟨p0, p1⟩ := Pn.here.blk T.T.2.1
  have c3 := cell_of_row _ _ 0 _ _ _ T.T.2.2.1
  have z3 := frozen_of_row _ _ 0 _ _ T.T.2.2.1
  have c6 := cell_of_row _ _ 0 _ _ _ T.H
  simp at c1 p0 p1 c3 c6
  cases B1
  · skip
    have HN : Hid (NewXB w V (.returned (.tuple #[.agg #[.slice P sq.length cp], .bool false])) (u2.setCell ⟨w.heap.size + 2, 0, none⟩ (.slice P sq.length cp))) := by
      have eV : V = (ls, false) := by rw [← HV.out]; unfold wheelCutV; rw [if_neg (fun h => by rw [EB.out] at h; cases h.1)]
      refine ⟨P, cp, sq, by rw [eV], by rw [eV]; exact HM.out, (T.O.put T.T.2.2.1 (by decide) (by decide) 0 _).weak (by omega), HAP.out, T.T.2.2.2.setCell (p := ⟨w.heap.size + 2, 0, none⟩) (by show _ ≤ _ + 2; omega) _⟩
    clear T
    go_wp2
    simp [bodyPost, results, Try.results21, go_sem, c3]
    exact HN.out
  by_cases gin : p.inn
  rotate_left
  · have HPO := Lib.hid (fun w' => pinOk_no p w' gin)
    unfold pnA at HPO
    have HVN : Hid (V = (ls, false)) := by show _ = _; rw [← HV.out]; exact wheelCutV_bad gin
    have TT := Lib.hid T
    clear T
    go_wp2_with fail
    refine (HPO.out _).mono ?_
    rintro e u3 ⟨rfl, x3⟩
    have T := TT.out.call x3
    clear x3 TT HPO
    clear c1 p0 p1 c3 z3 c6
    have c1 := cell_of_row _ _ 0 _ _ _ T.T.1
    obtain ⟨p0, p1⟩ := Pn.here.blk T.T.2.1
    have c3 := cell_of_row _ _ 0 _ _ _ T.T.2.2.1
    have z3 := frozen_of_row _ _ 0 _ _ T.T.2.2.1
    have c6 := cell_of_row _ _ 0 _ _ _ T.H
    simp at c1 p0 p1 c3 c6

    have HN : Hid (NewXB w V (.returned (.tuple #[.agg #[.slice P sq.length cp], .bool false])) (u3.setCell ⟨w.heap.size + 2, 0, none⟩ (.slice P sq.length cp))) := by
      refine ⟨_, cp, sq, by rw [HVN.out], by rw [HVN.out]; exact HM.out, (T.O.put T.T.2.2.1 (by decide) (by decide) 0 _).weak (by omega), HAP.out, T.T.2.2.2.setCell (p := ⟨w.heap.size + 2, 0, none⟩) (by show _ ≤ _ + 2; omega) _⟩
    clear T
    go_wp2
    simp [bodyPost, results, Try.results21, go_sem, c3]
    exact HN.out
  have HPO := Lib.hid (fun w' => pinOk_yes p w' gin)
  unfold pnA at HPO
  have TT := Lib.hid T
  clear T
  go_wp2_with fail
  refine (HPO.out _).mono ?_
  rintro e u3 ⟨rfl, x3⟩
  have T := TT.out.call x3
  have ltg3 := blk_lt T.H
  clear x3 TT HPO
  clear c1 p0 p1 c3 z3 c6
  have ga : 1 ≤ p.at_ := gin.1.1
  obtain ⟨k, hk⟩ : ∃ k : Nat, p.at_.tmod 9 = (k : Int) := ⟨(p.at_.tmod 9).toNat, by have := Int.tmod_nonneg 9 (a := p.at_) (by omega); omega⟩
  have hk9 : k < 9 := by have := Int.tmod_lt_of_pos p.at_ (b := 9) (by omega); omega
  have HK : Hid ((p.at_.tmod 9).toNat = k) := by show _ = _; rw [hk]; simp
  have HSO := Lib.hid (fun w' => by have h := spokeOf_im p w'; rw [hk] at h; exact h)
  have W9 := wheelB_iff EB.out
  have hq9 : sq.length = 9 := by have h1 := W9.1; have h2 := congrArg List.length HM.out; simp at h2; omega
  have hkq : k < sq.length := by omega
  have HQ9 := Lib.hid hq9
  have hsk := W9.2.2.2 k (by have := W9.1; omega)
  clear hq9
  obtain ⟨_, _, eP, _, _, hP⟩ := own_form T.O.row
  obtain ⟨g, eg, hg3⟩ := hP (by omega)
  injection eP with eP1 _ eP3
  rw [← eP1] at eg
  subst eg
  clear eP1 eP3
  obtain ⟨b', off', he, hbB, hc⟩ := (own_rws T.O.row).sp hkq
  obtain ⟨rfl, rfl⟩ : g = b' ∧ 0 = off' := by injection he with he; injection he with h1 h2; exact ⟨h1, h2⟩
  have hsm : sq.getD k sp0 ∈ sq := getD_mem sq k sp0 hkq
  have hsl : (sq.getD k sp0).l.length ≤ 1048575 := by have := allPn_at_le sq k hkq; have h2 := hlq.out; rw [h2] at this; omega
  have hlsk : ls.getD k [] = (sq.getD k sp0).l := by
    have h2 : (sq.map fun s => s.l) = ls := HM.out
    rw [← h2]; exact ls_at sq k
  obtain ⟨s, es⟩ : ∃ s, sq.getD k sp0 = s := ⟨_, rfl⟩
  rw [es] at hc hsm hsl hlsk
  rw [hlsk, spokeOk_iff] at hsk
  have HSRT := Lib.hid hsk.2
  have HLK := Lib.hid hlsk
  have KH := Lib.hid (fun w' (h : Below u3.heap.size u3 w') => cell_of_one (blk_call T.H h))
  have KC := Lib.hid (fun w' (h : Below u3.heap.size u3 w') => (h.cell (by exact hbB)).trans hc)
  have KP := Lib.hid (fun w' (h : Below u3.heap.size u3 w') => Pn.here.blk (blk_call T.T.2.1 h))
  have ES := Lib.hid es
  have TT := Lib.hid T
  have c6 := cell_of_one T.H
  obtain ⟨p0, p1⟩ := Pn.here.blk T.T.2.1
  clear es he hc T W9 hsk hlsk hP
  go_wp2_with fail
  clear c6 p0 p1
  refine wp_region_held_drew (S := fun w' => Hid (Below u3.heap.size u3 w')) (by kernel_rfl) (below_drawn (Below.refl _ _) 1) (fun hHeld => ?_)
  refine held_take 0 20 (.pointer (some ⟨u1.heap.size, 0, none⟩)) rfl rfl (by kernel_rfl) (by kernel_rfl) (by kernel_rfl) (fun _ _ _ h => h) rfl hHeld (fun w _ => exec_fldW _ w) ?_
  refine held_take 1 21 (.slice (some ⟨g, 0, none⟩) sq.length cp) rfl rfl (by kernel_rfl) (by kernel_rfl) (by kernel_rfl) (fun _ _ _ h => h) rfl hHeld (fun w h => exec_loadSp _ _ 0 _ _ _ w (.inr rfl) (KH.out w h.out)) ?_
  simp only [Act.put, List.setIfInBounds_toArray, List.set_cons_zero, List.set_cons_succ]
  refine held_take 2 22 (pnA p) rfl rfl (by kernel_rfl) (by kernel_rfl) (by kernel_rfl) (fun _ _ _ h => h) rfl hHeld (fun w h => exec_load_pn _ 0 p w (KP.out w h.out)) ?_
  simp only [Act.put, List.setIfInBounds_toArray, List.set_cons_zero, List.set_cons_succ]
  refine held_call 3 23 54 #[pnA p] rfl rfl (by kernel_rfl) rfl (exec_call Try.func54 (by kernel_rfl) (by kernel_rfl) _) ?_
  refine (HSO.out _).mono ?_
  rintro e u4 ⟨rfl, x4⟩
  have hHeld : Hid (Below u3.heap.size u3 u4) := hHeld.out.trans (x4.mono hHeld.out.size)
  refine ⟨_, rfl, hHeld, ?_⟩
  simp only [Act.put, List.setIfInBounds_toArray, List.set_cons_zero, List.set_cons_succ]
  refine held_take 4 24 (.pointer (some ⟨g, 0 + k, none⟩)) rfl rfl (by kernel_rfl) (by kernel_rfl) (by kernel_rfl) (fun _ _ _ h => h) rfl hHeld (fun w _ => exec_idxSp g 0 sq.length cp k w hkq) ?_
  refine held_take 5 25 (.slice s.a s.l.length s.c) rfl rfl (by kernel_rfl) (by kernel_rfl) (by kernel_rfl) (fun _ _ _ h => h) rfl hHeld (fun w h => exec_loadSp _ g (0 + k) _ _ _ w (.inl rfl) (KC.out w h.out)) ?_
  simp only [Act.put, List.setIfInBounds_toArray, List.set_cons_zero, List.set_cons_succ]
  refine held_op 6 7 (.slice s.a s.l.length s.c) rfl rfl (by kernel_rfl) rfl rfl hHeld ?_
  simp only [Act.put, List.setIfInBounds_toArray, List.set_cons_zero, List.set_cons_succ]
  refine wpAnyH_done (by kernel_rfl) ?_ _
  have T := TT.out.call hHeld.out
  have hso := (T.O.sp s hsm).ok
  clear KH KC KP TT hHeld x4
  have CB := Lib.hid (indexP_im s.a s.l s.c p u4 (by omega) hso.row)
  unfold pnA at CB
  have HCV : Hid (V = ((cutPn s.l p).map fun l => (ls.set k l, true)).getD (ls, false)) := by
    show _ = _
    rw [← HV.out]
    unfold wheelCutV
    rw [if_pos ⟨EB.out, ga⟩, HK.out, HLK.out]
  obtain ⟨p0, p1⟩ := Pn.here.blk T.T.2.1
  have TT := Lib.hid T
  clear T hso
  cases hfi : s.l.findIdx? fun x => decide (x = p) with
  | none =>
    have HVN : Hid (V = (ls, false)) := by
      show _ = _
      rw [HCV.out]; unfold cutPn; rw [hfi]; rfl
    rw [hfi] at CB
    have hz : idxV none = -1 := rfl
    rw [hz] at CB
    clear hfi hz
    go_wp2_with fail
    refine CB.out.mono ?_
    rintro e u5 ⟨rfl, x5⟩
    have T := TT.out.call x5
    clear p0 p1 CB x5 TT
    have c1 := cell_of_row _ _ 0 _ _ _ T.T.1
    obtain ⟨p0, p1⟩ := Pn.here.blk T.T.2.1
    have c3 := cell_of_row _ _ 0 _ _ _ T.T.2.2.1
    have z3 := frozen_of_row _ _ 0 _ _ T.T.2.2.1
    have c6 := cell_of_row _ _ 0 _ _ _ T.H
    simp at c1 p0 p1 c3 c6

    have HN : Hid (NewXB w V (.returned (.tuple #[.agg #[.slice (some ⟨g, 0, none⟩) sq.length cp], .bool false])) (u5.setCell ⟨w.heap.size + 2, 0, none⟩ (.slice (some ⟨g, 0, none⟩) sq.length cp))) := by
      refine ⟨_, cp, sq, by rw [HVN.out], by rw [HVN.out]; exact HM.out, (T.O.put T.T.2.2.1 (by decide) (by decide) 0 _).weak (by omega), HAP.out, T.T.2.2.2.setCell (p := ⟨w.heap.size + 2, 0, none⟩) (by show _ ≤ _ + 2; omega) _⟩
    clear T
    go_wp2
    simp [bodyPost, results, Try.results21, go_sem, c3]
    exact HN.out
  | some i =>
    have hil : i < s.l.length := (List.findIdx?_eq_some_iff_getElem.1 hfi).1
    have HVC : Hid (V = (ls.set k (s.l.take i ++ s.l.drop (i + 1)), true)) := by
      show _ = _
      rw [HCV.out]; unfold cutPn; rw [hfi]; rfl
    rw [hfi] at CB
    have hz : idxV (some i) = (i : Int) := rfl
    rw [hz] at CB
    have hi0 : ¬ ((i : Int) < 0) := by omega
    clear hfi hz
    go_wp2_with fail
    refine CB.out.mono ?_
    rintro e u5 ⟨rfl, x5⟩
    have T := TT.out.call x5
    clear p0 p1 CB x5 TT
    have TT := Lib.hid T
    clear T
    go_wp2_with fail
    obtain ⟨⟨m1, m2⟩, m3, m4⟩ := TT.out.out hsm
    have HNG : Hid (¬ (s.blk = some u1.heap.size ∨ u1.heap.size = g)) := fun h => h.elim m1 m2
    have HNP : Hid (¬ (s.blk = some (w.heap.size + 1) ∨ w.heap.size + 1 = g)) := fun h => h.elim m3 m4
    clear m1 m2 m3 m4
    have KH := Lib.hid (fun w' (h : Tch (fun i => s.blk = some i ∨ i = g) u5 w') => cell_of_one (h.blk TT.out.H HNG.out))
    have KP := Lib.hid (fun w' (h : Tch (fun i => s.blk = some i ∨ i = g) u5 w') => Pn.here.blk (h.blk TT.out.T.2.1 HNP.out))
    have h5w : w.heap.size + 3 ≤ u5.heap.size := by have h1 := blk_lt TT.out.H; omega
    obtain ⟨_, _, eS, _, _, hS⟩ := own_form (TT.out.O.sp s hsm)
    obtain ⟨gs, egs, _⟩ := hS (by omega)
    injection eS with eS1 _ eS3
    rw [← eS1] at egs
    clear eS1 eS3 hS
    have CI := Lib.hid (fun v2 (hO : v2.ownsRow (w.heap.size + 3) 33 2 (.slice (some ⟨gs, 0, none⟩) s.l.length s.c) s.l.length (s.l.flatMap pnC)) => delete_im gs s.c (w.heap.size + 3) i s.l v2 hil (by omega) hO)
    have hdl : (s.l.take i ++ s.l.drop (i + 1)).length ≤ s.l.length := by simp; omega
    generalize s.l.take i ++ s.l.drop (i + 1) = L' at *
    refine wp_region_held_drew (S := fun w' => Hid (Tch (fun i => s.blk = some i ∨ i = g) u5 w')) (by kernel_rfl) (show Hid _ from Tch.of_below (below_drawn (Below.refl _ _) 1)) (fun hHeld => ?_)
    refine held_take 0 32 (.pointer (some ⟨u1.heap.size, 0, none⟩)) rfl rfl (by kernel_rfl) (by kernel_rfl) (by kernel_rfl) (fun _ _ _ h => h) rfl hHeld (fun w _ => exec_fldW _ w) ?_
    refine held_take 1 33 (.slice (some ⟨g, 0, none⟩) sq.length cp) rfl rfl (by kernel_rfl) (by kernel_rfl) (by kernel_rfl) (fun _ _ _ h => h) rfl hHeld (fun w h => exec_loadSp _ _ 0 _ _ _ w (.inr rfl) (KH.out w h.out)) ?_
    simp only [Act.put, List.setIfInBounds_toArray, List.set_cons_zero, List.set_cons_succ]
    refine held_take 2 34 (pnA p) rfl rfl (by kernel_rfl) (by kernel_rfl) (by kernel_rfl) (fun _ _ _ h => h) rfl hHeld (fun w h => exec_load_pn _ 0 p w (KP.out w h.out)) ?_
    refine held_take 4 36 (.slice s.a s.l.length s.c) rfl rfl (by kernel_rfl) (by kernel_rfl) (by kernel_rfl) (fun _ _ _ h => h) rfl hHeld (fun w _ => rfl) ?_
    simp only [Act.put, List.setIfInBounds_toArray, List.set_cons_zero, List.set_cons_succ]
    refine held_take 5 37 (.int .i64 (i : Int)) rfl rfl (by kernel_rfl) (by kernel_rfl) (by kernel_rfl) (fun _ _ _ h => h) rfl hHeld (fun w _ => rfl) ?_
    refine held_take 6 38 (.int .i64 (i : Int)) rfl rfl (by kernel_rfl) (by kernel_rfl) (by kernel_rfl) (fun _ _ _ h => h) rfl hHeld (fun w _ => rfl) ?_
    simp only [Act.put, List.setIfInBounds_toArray, List.set_cons_zero, List.set_cons_succ]
    refine held_take 7 39 (.int .i64 ((i : Int) + 1)) rfl rfl (by kernel_rfl) (by kernel_rfl) (by kernel_rfl) (fun _ _ _ h => h) rfl hHeld (fun w _ => exec_addI (i : Int) 1 _ w rfl (by omega) (by omega)) ?_
    simp only [Act.put, List.setIfInBounds_toArray, List.set_cons_zero, List.set_cons_succ]
    have X0 : Below u5.heap.size u5 u5.drew := below_drawn (Below.refl _ _) 1
    refine held_call 3 35 54 #[pnA p] rfl rfl (by kernel_rfl) rfl (exec_call Try.func54 (by kernel_rfl) (by kernel_rfl) _) ?_
    refine (HSO.out _).mono ?_
    rintro e v2 ⟨rfl, y1⟩
    have X2 := X0.trans (y1.mono X0.size)
    have hHeld : Hid (Tch (fun i => s.blk = some i ∨ i = g) u5 v2) := Tch.of_below X2
    refine ⟨_, rfl, hHeld, ?_⟩
    simp only [Act.put, List.setIfInBounds_toArray, List.set_cons_zero, List.set_cons_succ]
    have hO2 := own_below (TT.out.O.sp s hsm) X2
    have HEG : Hid (s.a = some ⟨gs, 0, none⟩) := egs
    rw [egs] at hO2
    refine held_call 8 40 60 #[.slice s.a s.l.length s.c, .int .i64 (i : Int), .int .i64 ((i : Int) + 1)] rfl rfl (by kernel_rfl) rfl (exec_call Try.func60 (by kernel_rfl) (by kernel_rfl) _) ?_
    rw [HEG.out]
    refine (CI.out v2 hO2).mono ?_
    rintro e u6 ⟨A', c', rfl, o6, gr6, loc6⟩
    have hsb : (Value.slice s.a s.l.length s.c).ownBlock = some gs := by rw [HEG.out]; rfl
    rw [← hsb] at gr6 loc6
    have hHeld : Hid (Tch (fun i => s.blk = some i ∨ i = g) u5 u6) := hHeld.out.trans (Tch.of_grown gr6 (fun i e => .inl (by rw [← e]; exact (ownBlock_eq _ _ _).symm)))
    refine ⟨_, rfl, hHeld, ?_⟩
    simp only [Act.put, List.setIfInBounds_toArray, List.set_cons_zero, List.set_cons_succ]
    obtain ⟨T2, AP2, ⟨vv, hvc⟩, hfz⟩ := WP.stored TT.out hkq ES.out HAP.out X2 h5w o6 gr6 loc6
    refine held_take 9 41 (.pointer (some ⟨g, 0 + k, none⟩)) rfl rfl (by kernel_rfl) (by kernel_rfl) (by kernel_rfl) (fun _ _ _ h => h) rfl hHeld (fun w _ => exec_idxSp g 0 sq.length cp k w hkq) ?_
    simp only [Act.put, List.setIfInBounds_toArray, List.set_cons_zero, List.set_cons_succ]
    refine held_store 10 rfl rfl (by kernel_rfl) rfl (exec_storeSp _ g (0 + k) A' L'.length c' _ u6 (.inl rfl) hvc hfz) (show Hid _ from hHeld.out.trans (Tch.of_grown (Go.Lib.grownBy_setCell u6 g (0 + k) _) (fun i e => .inr (by cases e; rfl)))) ?_
    refine wpAnyH_done (by kernel_rfl) ?_ _
    generalize u6.setCell ⟨g, 0 + k, none⟩ (.slice A' L'.length c') = U at *
    obtain ⟨sq2, es2⟩ : ∃ sq2, sq.set k ⟨A', c', L'⟩ = sq2 := ⟨_, rfl⟩
    have hn2 : sq2.length = sq.length := by rw [← es2, List.length_set]
    have HEL : Hid (sq2.map (fun s => s.l) = ls.set k L') := by
      show _ = _
      have h2 : (sq.map fun s => s.l) = ls := HM.out
      rw [← es2, List.map_set, h2]
    rw [es2] at T2 AP2
    have HN2 := Lib.hid hn2
    clear es2 hHeld hvc hfz o6 gr6 loc6 X2 X0 KH KP TT hsm CI hn2 hO2 hsb egs y1
    have T := T2
    clear T2
    have c1 := cell_of_row _ _ 0 _ _ _ T.T.1
    obtain ⟨p0, p1⟩ := Pn.here.blk T.T.2.1
    have c3 := cell_of_row _ _ 0 _ _ _ T.T.2.2.1
    have z3 := frozen_of_row _ _ 0 _ _ T.T.2.2.1
    have c6 := cell_of_row _ _ 0 _ _ _ T.H
    simp at c1 p0 p1 c3 c6

    rw [show sq.length = sq2.length from HN2.out.symm] at *
    have HN : Hid (NewXB w V (.returned (.tuple #[.agg #[.slice (some ⟨g, 0, none⟩) sq2.length cp], .bool true])) (U.setCell ⟨w.heap.size + 2, 0, none⟩ (.slice (some ⟨g, 0, none⟩) sq2.length cp))) := by
      refine ⟨_, cp, sq2, by rw [HVC.out], by rw [HVC.out]; exact HEL.out, (T.O.put T.T.2.2.1 (by decide) (by decide) 0 _).weak (by omega), AP2, T.T.2.2.2.setCell (p := ⟨w.heap.size + 2, 0, none⟩) (by show _ ≤ _ + 2; omega) _⟩
    clear T AP2
    go_wp2
    simp [bodyPost, results, Try.results21, go_sem, c3]
    exact HN.out
end Go.Proofs.Ytflomkebgiemaaa
