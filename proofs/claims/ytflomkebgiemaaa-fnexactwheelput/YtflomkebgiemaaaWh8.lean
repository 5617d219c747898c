/- l9Draw of the model. -/
import Derived.Test.YtflomkebgiemaaaRows
import Derived.Test.YtflomkebgiemaaaWh6
namespace Go.Proofs.Ytflomkebgiemaaa
open Go.RowKit
set_option linter.unusedSimpArgs false
set_option linter.unusedVariables false
theorem own_take {w : World} {B e n c k : Nat} {A : Option Addr} {cs : List Value} (h : w.ownsRow B e 1 (.slice A n c) n cs) (hk : k ≤ n) (hn : A = none → False) : w.ownsRow B e 1 (.slice A k c) k (cs.take k) := by
  rcases h.2 with ⟨hv, _⟩ | ⟨g, cap, cur, hv, hb, hg, hnc, hm, hs, ht⟩
  · injection hv with h1 _ _
    exact absurd h1 hn
  · injection hv with h1 _ h3
    subst h1 h3
    refine ⟨by have := h.1; rw [List.length_take]; omega, .inr ⟨g, c, cur, rfl, hb, hg, by omega, hm, hs, ?_⟩⟩
    rw [← ht, List.take_take]
    congr 1; omega
set_option maxRecDepth 100000 in
theorem exec_one_pn {ρ : Operand → Value} {o : Oper} {y : Operand} (x : Pn) (w : World) (ho : o.op = .buildSlice 29 1 #[(0, y)] := by rfl) (hy : ρ y = pnA x := by rfl) :
    (execOp ρ o).run Try.prog w = .ok (.value (.slice (some ⟨w.heap.size, 0, none⟩) 1 1)) (w.alloc (.cells (pnC x).toArray 33)) := by
  unfold execOp
  rw [ho]
  simp [go_sem, hy, pnA, pnC]
theorem spC_take (sq : List Sp) (k : Nat) : (sq.flatMap spC).take k = (sq.take k).flatMap spC := by have := flat_take spC 1 spC_len sq k; rw [Nat.mul_one] at this; exact this.symm
/-- The end of l9Draw. -/
theorem wheel_got {w u : World} {g : Nat} {A : Option Addr} {l : List Nat} {c : Nat} {Q : Option Addr} {qc : Nat} {sq : List Sp} (hO : OwnW u (w.heap.size + 1) Q qc sq) (hZ : u.heap[w.heap.size]? = some (.cells #[.slice none 0 0] 26)) (hC : Cur u g A l c) (hG : w.grownBy u (some g)) (hF : FitL (sq.map (fun s => s.l))) (hn : sq.length ≤ 10) (h30 : (allPn sq).length ≤ 30) (hlt : g < w.heap.size) :
    GotWh w g A l c (.returned (.agg #[.slice Q sq.length qc])) (u.setCell ⟨w.heap.size, 0, none⟩ (.slice Q sq.length qc)) :=
  ⟨Q, qc, sq, rfl, hn, h30, hF, (hO.put hZ (by decide) (by decide) 0 _).weak (by omega), hC.setCell _ 0 _ hlt, grown_setD hG _ 0 _ (Nat.le_refl _)⟩
set_option maxRecDepth 100000 in
set_option maxHeartbeats 3200000 in
theorem l9Draw_any (A : Option Addr) (l : List Nat) (c g : Nat) (w : World) (hl : l.length ≤ 2097152) (hb : AllB l) (hcw : Cur w g A l c) :
    Calls Try.prog 46 #[.pointer (some ⟨g, 0, none⟩)] w (GotWh w g A l c) := by
  have hlt := hcw.lt
  have HZ0 := Lib.hid (heap_new w (.cells #[.slice none 0 0] 26))
  have hc0 := hcw.alloc (.cells #[.slice none 0 0] 26)
  have HG0 := Lib.hid (grown_made w (.cells #[.slice none 0 0] 26) g)
  go_enter Try.func46, Try.ntmps46
  go_wp2_with fail
  refine (l9Right_any A l c g _ hl hb hc0).mono ?_
  rintro e u1 ⟨Q, qc, sq, rfl, h9, h10, hF, hO, hap, c1, g1⟩
  have hz1 := g1.size
  simp only [World.size_alloc] at hO hz1
  obtain ⟨U, hU⟩ : ∃ U, u1.alloc (.cells #[.slice Q sq.length qc] 26) = U := ⟨_, rfl⟩
  have T0 : RW w U g A l c u1.heap.size Q qc sq := by
    have ba : Below u1.heap.size u1 U := by rw [← hU]; exact (Below.refl _ _).alloc (Nat.le_refl _) _
    have hZ1 := (g1.block _ (blk_lt HZ0.out) (fun e => by injection e with e; omega)).trans HZ0.out
    exact ⟨by rw [← hU]; exact hO.alloc _, by rw [← hU]; exact heap_new _ _, blk_call hZ1 ba, c1.mem ba, grown_below (HG0.out.trans g1) ba, hF, h9, h10, hap, by omega, hlt⟩
  have HU := Lib.hid hU
  have HT := Lib.hid T0
  have H9 := Lib.hid h9
  clear hU T0 HZ0 HG0 hc0 hO hF hap c1 g1 h9 h10
  go_wp2_with fail
  rw [HU.out]
  refine (l1Below_any A l c g 10 _ hl hb (by omega) (by omega) HT.out.C).mono ?_
  rintro e u2 ⟨y, hy, rfl, c2, g2⟩
  have hT := Lib.hid (HT.out.draw g2 c2)
  clear HT HU c2 g2
  have q3 := cell_of_one hT.out.H
  have f3 := free_of_one hT.out.H
  have q2 := cell_of_one hT.out.Z
  have f2 := free_of_one hT.out.Z
  have hg1 := hT.out.g1
  have lt3 := blk_lt hT.out.H
  rcases (show y = 0 ∨ y = 1 ∨ y = 2 ∨ 3 ≤ y by omega) with rfl | rfl | rfl | hy3
  · clear q2 q3 f2 f3
    go_wp2_with fail
    refine (l1Below_any A l c g 9 _ hl hb (by omega) (by omega) hT.out.C).mono ?_
    rintro e u3 ⟨k, hk, rfl, c3, g3⟩
    have hT3 := Lib.hid (hT.out.draw g3 c3)
    clear hT c3 g3 lt3
    have T := hT3.out
    have hkq : k < sq.length := by have := H9.out; omega
    have lt3 := blk_lt T.H
    obtain ⟨Q', c', eQ, _, _, hQ⟩ := own_form T.O.row
    obtain ⟨gq, eg, hgq⟩ := hQ (by omega)
    injection eQ with e1 _ e3
    subst e3
    rw [← e1] at eg
    subst eg
    clear e1
    obtain ⟨b', off', he, hbB, hc⟩ := (own_rws T.O.row).sp hkq
    obtain ⟨rfl, rfl⟩ : gq = b' ∧ 0 = off' := by injection he with he; injection he with h1 h2; exact ⟨h1, h2⟩
    have hsm : sq.getD k sp0 ∈ sq := getD_mem sq k sp0 hkq
    have hfs : ∀ x ∈ (sq.getD k sp0).l, x.fits := fun x hx => T.F _ (List.mem_map.2 ⟨_, hsm, rfl⟩) x hx
    have hsl := at_le_all sq hkq
    have HAPK : Hid (∀ i, i < sq.length → i ≠ k → ∀ q, (sq.getD i sp0).blk = some q → (sq.getD k sp0).blk ≠ some q) := fun i hi hne q hq => by
      rcases Nat.lt_or_gt_of_ne hne with h | h
      · exact T.ap i k h hkq q hq
      · intro h2; exact T.ap k i h hi q h2 hq
    obtain ⟨s, es⟩ : ∃ s, sq.getD k sp0 = s := ⟨_, rfl⟩
    rw [es] at hc hsm hfs hsl HAPK
    have hso := T.O.sp s hsm
    have S0 : Hid (u3.heap[u1.heap.size]? = some (.cells #[.slice (some ⟨gq, 0, none⟩) sq.length qc] 26) ∧ u3.cell? ⟨gq, 0 + k, none⟩ = some (.slice s.a s.l.length s.c)) := ⟨T.H, hc⟩
    have hgne : gq ≠ g := by omega
    have HCN := Lib.hid T.C
    clear T hc he hQ
    go_wp2_with fail
    refine wp_region_F 13 (fun w' => Hid (w'.heap[u1.heap.size]? = some (.cells #[.slice (some ⟨gq, 0, none⟩) sq.length qc] 26) ∧ w'.cell? ⟨gq, 0 + k, none⟩ = some (.slice s.a s.l.length s.c))) (by kernel_rfl) ?_
    have hH0 : Hid (u3.drew.heap[u1.heap.size]? = some (.cells #[.slice (some ⟨gq, 0, none⟩) sq.length qc] 26) ∧ u3.drew.cell? ⟨gq, 0 + k, none⟩ = some (.slice s.a s.l.length s.c)) := S0
    refine f_take 0 13 (.pointer (some ⟨u1.heap.size, 0, none⟩)) rfl rfl (by kernel_rfl) (by kernel_rfl) (by kernel_rfl) (by kernel_rfl) (fun _ _ _ h => h) rfl hH0 (fun w _ => exec_fldW _ w) ?_
    refine f_take 1 14 (.slice (some ⟨gq, 0, none⟩) sq.length qc) rfl rfl (by kernel_rfl) (by kernel_rfl) (by kernel_rfl) (by kernel_rfl) (fun _ _ _ h => h) rfl hH0 (fun w h => exec_loadSp _ _ 0 _ _ _ w (.inr rfl) (cell_of_one h.out.1)) ?_
    simp only [Act.put, List.setIfInBounds_toArray, List.set_cons_zero, List.set_cons_succ]
    refine f_take 2 15 (.int .i64 (k : Int)) rfl rfl (by kernel_rfl) (by kernel_rfl) (by kernel_rfl) (by kernel_rfl) (fun _ _ _ h => h) rfl hH0 (fun w _ => rfl) ?_
    refine f_take 3 16 (.pointer (some ⟨u1.heap.size, 0, none⟩)) rfl rfl (by kernel_rfl) (by kernel_rfl) (by kernel_rfl) (by kernel_rfl) (fun _ _ _ h => h) rfl hH0 (fun w _ => exec_fldW _ w) ?_
    simp only [Act.put, List.setIfInBounds_toArray, List.set_cons_zero, List.set_cons_succ]
    refine f_take 4 17 (.slice (some ⟨gq, 0, none⟩) sq.length qc) rfl rfl (by kernel_rfl) (by kernel_rfl) (by kernel_rfl) (by kernel_rfl) (fun _ _ _ h => h) rfl hH0 (fun w h => exec_loadSp _ _ 0 _ _ _ w (.inr rfl) (cell_of_one h.out.1)) ?_
    refine f_take 5 18 (.int .i64 (k : Int)) rfl rfl (by kernel_rfl) (by kernel_rfl) (by kernel_rfl) (by kernel_rfl) (fun _ _ _ h => h) rfl hH0 (fun w _ => rfl) ?_
    simp only [Act.put, List.setIfInBounds_toArray, List.set_cons_zero, List.set_cons_succ]
    refine f_take 6 19 (.pointer (some ⟨gq, 0 + k, none⟩)) rfl rfl (by kernel_rfl) (by kernel_rfl) (by kernel_rfl) (by kernel_rfl) (fun _ _ _ h => h) rfl hH0 (fun w _ => exec_idxSp gq 0 sq.length qc k w hkq) ?_
    refine f_take 7 20 (.slice s.a s.l.length s.c) rfl rfl (by kernel_rfl) (by kernel_rfl) (by kernel_rfl) (by kernel_rfl) (fun _ _ _ h => h) rfl hH0 (fun w h => exec_loadSp _ gq (0 + k) _ _ _ w (.inl rfl) h.out.2) ?_
    simp only [Act.put, List.setIfInBounds_toArray, List.set_cons_zero, List.set_cons_succ]
    refine f_take 8 21 (.pointer (some ⟨g, 0, none⟩)) rfl rfl (by kernel_rfl) (by kernel_rfl) (by kernel_rfl) (by kernel_rfl) (fun _ _ _ h => h) rfl hH0 (fun w _ => rfl) ?_
    simp only [Act.put, List.setIfInBounds_toArray, List.set_cons_zero, List.set_cons_succ]
    refine f_call 9 22 51 #[.pointer (some ⟨g, 0, none⟩)] rfl rfl (by kernel_rfl) rfl (exec_call Try.func51 (by kernel_rfl) (by kernel_rfl) _) ?_
    refine (l9Pin_any A l c g _ hl hb (HCN.out.mem (below_drawn (Below.refl _ _) 1))).mono ?_
    rintro e u4 ⟨x, hxf, rfl, c4, g4⟩
    have G4 : u3.grownBy u4 (some g) := (grown_of_below (below_drawn (Below.refl _ _) 1) (some g)).trans g4
    have T4 := hT3.out.draw G4 c4
    have hS4 : u4.heap[u1.heap.size]? = some (.cells #[.slice (some ⟨gq, 0, none⟩) sq.length qc] 26) ∧ u4.cell? ⟨gq, 0 + k, none⟩ = some (.slice s.a s.l.length s.c) := ⟨T4.H, by
      have := (own_rws T4.O.row).sp hkq
      obtain ⟨b2, o2, he, _, hc2⟩ := this
      obtain ⟨rfl, rfl⟩ : gq = b2 ∧ 0 = o2 := by injection he with he; injection he with h1 h2; exact ⟨h1, h2⟩
      rw [es] at hc2; exact hc2⟩
    refine ⟨_, rfl, (fun _ _ => Lib.hid hS4), ?_⟩
    simp only [Act.put, List.setIfInBounds_toArray, List.set_cons_zero, List.set_cons_succ]
    have bal : Below u4.heap.size u4 (u4.alloc (.cells (pnC x).toArray 33)) := (Below.refl _ _).alloc (Nat.le_refl _) _
    have T5 := T4.call bal
    have lt4 := blk_lt T4.H
    have ltq := (World.ownsRow.lt T4.O.row gq rfl).2
    have hS5 : (u4.alloc (.cells (pnC x).toArray 33)).heap[u1.heap.size]? = some (.cells #[.slice (some ⟨gq, 0, none⟩) sq.length qc] 26) ∧ (u4.alloc (.cells (pnC x).toArray 33)).cell? ⟨gq, 0 + k, none⟩ = some (.slice s.a s.l.length s.c) := ⟨T5.H, (bal.cell (by exact ltq)).trans hS4.2⟩
    refine f_op 10 23 (.slice (some ⟨u4.heap.size, 0, none⟩) 1 1) rfl rfl (by kernel_rfl) rfl (exec_one_pn x _) (fun _ _ => Lib.hid hS5) ?_
    simp only [Act.put, List.setIfInBounds_toArray, List.set_cons_zero, List.set_cons_succ]
    have o5 := T5.O.sp s hsm
    have hr5 := T5.O.row
    have hKeep : ∀ w', (u4.alloc (.cells (pnC x).toArray 33)).grownBy w' (Value.slice s.a s.l.length s.c).ownBlock → w'.heap[u1.heap.size]? = some (.cells #[.slice (some ⟨gq, 0, none⟩) sq.length qc] 26) ∧ w'.cell? ⟨gq, 0 + k, none⟩ = some (.slice s.a s.l.length s.c) := fun w' h => by
      refine ⟨(h.block _ (blk_lt hS5.1) (fun e => own_ne_type o5 hS5.1 (by decide) e.symm)).trans hS5.1, ?_⟩
      obtain ⟨cur, hcur⟩ := own_typed2 hr5 gq rfl
      exact (World.cell?_of_block (h.block _ (blk_lt hcur) (fun e => own_ne_type o5 hcur (by decide) e.symm))).trans hS5.2
    refine f_opx 11 24 rfl rfl (by kernel_rfl) rfl (exec_appR rowPin _ (w.heap.size + 1) _ s.l.length _ o5 _ (some ⟨u4.heap.size, 0, none⟩) 1 1 (pnC x) rfl (Rws.new u4 (pnC x) 33) (fun h => by cases h) (by intro u hu; simp [pnC] at hu; rcases hu with rfl | rfl <;> rfl) (by have := T5.n10; omega) (by simp; omega)) (fun v w' h _ _ => Lib.hid (hKeep w' h.2)) ?_
    rintro v6 u6 ⟨o6, g6⟩
    simp only [Act.put, List.setIfInBounds_toArray, List.set_cons_zero, List.set_cons_succ]
    have hS6 := hKeep u6 g6
    refine f_op 12 25 (.pointer (some ⟨gq, 0 + k, none⟩)) rfl rfl (by kernel_rfl) rfl (exec_idxSp gq 0 sq.length qc k u6 hkq) (fun _ _ => Lib.hid hS6) ?_
    simp only [Act.put, List.setIfInBounds_toArray, List.set_cons_zero, List.set_cons_succ]
    obtain ⟨L, eL⟩ : ∃ L, s.l ++ [x] = L := ⟨_, rfl⟩
    have o6' : u6.ownsRow (w.heap.size + 1) 33 2 v6 L.length (L.flatMap pnC) := by
      rw [← eL, List.length_append, List.flatMap_append]
      have e : [x].flatMap pnC = pnC x := by simp
      rw [e]; exact o6
    obtain ⟨P2, cp2, rfl, _, _, _⟩ := own_form o6'
    have hr6 : u6.ownsRow (w.heap.size + 1) 29 1 (.slice (some ⟨gq, 0, none⟩) sq.length qc) sq.length (sq.flatMap spC) := own_kept2 hr5 g6 (fun q h1 h2 => by
      obtain ⟨cur, hcur⟩ := own_typed2 hr5 q h1
      exact own_ne_type o5 hcur (by decide) h2)
    have hfz := hr6.frozenAt (0 + k)
    refine f_store 13 rfl rfl (by kernel_rfl) rfl (exec_storeSp _ gq (0 + k) P2 L.length cp2 _ u6 (.inl rfl) hS6.2 hfz) (fun h => absurd rfl h) ?_
    refine f_done (by kernel_rfl) ?_ _
    obtain ⟨U7, eU⟩ : ∃ U, u6.setCell ⟨gq, 0 + k, none⟩ (.slice P2 L.length cp2) = U := ⟨_, rfl⟩
    obtain ⟨curg, hcg⟩ := own_typed2 hr6 gq rfl
    have st := hr6.stored (0 + k) (.slice P2 L.length cp2)
    rw [eU] at st
    have O7 : OwnW U7 (w.heap.size + 1) (some ⟨gq, 0, none⟩) qc (sq.set k ⟨P2, cp2, L⟩) := by
      refine ⟨?_, ?_⟩
      · have := st.1
        rw [Nat.zero_add] at this
        rw [List.length_set, ← flat_set sq k ⟨P2, cp2, L⟩]
        exact this
      · intro t ht
        have kt : Sp.own u6 (w.heap.size + 1) t := by
          obtain ⟨i, hi, rfl⟩ := List.getElem_of_mem ht
          rw [List.length_set] at hi
          rw [List.getElem_set]
          by_cases e : k = i
          · rw [if_pos e]; exact o6'
          · rw [if_neg e]
            have e2 : sq.getD i sp0 = sq[i] := by simp [List.getD_eq_getElem?_getD, hi]
            rw [← e2]
            refine own_kept2 (T5.O.sp _ (getD_mem sq i sp0 hi)) g6 (fun q h1 h2 => ?_)
            rw [ownBlock_eq] at h1 h2
            exact HAPK.out i hi (fun h => e h.symm) q h1 h2
        rw [← eU]
        exact kt.kept (Go.Lib.grownBy_setCell u6 gq (0 + k) _) (.inr (own_ne_type kt hcg (by decide)))
    have hlen2 : (sq.set k ⟨P2, cp2, L⟩).length = sq.length := List.length_set
    have n3 : u1.heap.size ≠ gq := fun h => by
      have := hS6.1
      rw [h, hcg] at this
      injection this with this
      injection this with _ h2
      revert h2
      decide
    have hZ6 : u6.heap[w.heap.size]? = some (.cells #[.slice none 0 0] 26) := (g6.block _ (blk_lt T5.Z) (fun e => own_ne_type o5 T5.Z (by decide) e.symm)).trans T5.Z
    have hZ7 : U7.heap[w.heap.size]? = some (.cells #[.slice none 0 0] 26) := by rw [← eU]; exact (heap_set_ne u6 gq _ _ (by omega)).trans hZ6
    have hH7 : U7.heap[u1.heap.size]? = some (.cells #[.slice (some ⟨gq, 0, none⟩) sq.length qc] 26) := by rw [← eU]; exact (heap_set_ne u6 gq _ _ n3).trans hS6.1
    have hC7 : Cur U7 g A l c := by
      rw [← eU]
      exact (T5.C.grown g6 (fun j hj => by have := own_low o5 j hj; omega)).setCell _ _ _ (by omega)
    have hG7 : w.grownBy U7 (some g) := by
      rw [← eU]
      exact grown_setD (grown_step T5.G g6 (fun j hj => by have := own_low o5 j hj; omega)) _ _ _ (by omega)
    have hF7 : FitL ((sq.set k ⟨P2, cp2, L⟩).map (fun s => s.l)) := fun a ha y hy => by
      rw [List.map_set] at ha
      rcases List.mem_or_eq_of_mem_set ha with h | h
      · exact T5.F a h y hy
      · have h' : a = L := h
        rw [h', ← eL] at hy
        rcases List.mem_append.1 hy with h2 | h2
        · exact hfs y h2
        · have : y = x := by simpa using h2
          rw [this]; exact hxf
    have hall : (allPn (sq.set k ⟨P2, cp2, L⟩)).length ≤ 30 := by
      have h1 := allPn_set sq k ⟨P2, cp2, L⟩ hkq
      have h2 : L.length = s.l.length + 1 := by rw [← eL]; simp
      have h3 := T5.n10
      have h4 : (Sp.mk P2 cp2 L).l.length = L.length := rfl
      omega
    have R := wheel_got (l := l) O7 hZ7 hC7 hG7 hF7 (by rw [hlen2]; have := H9.out; omega) hall hlt
    rw [hlen2] at R
    have HR := Lib.hid R
    have q3 := cell_of_one hH7
    have q2 := cell_of_one hZ7
    have f2 := free_of_one hZ7
    rw [eU]
    clear R O7 hZ7 hH7 hC7 hG7 hF7 hall hZ6 n3 hlen2 st eU hfz hr6 o6' o6 g6 hS6 hS5 hS4 hKeep hr5 o5 T5 T4 bal G4 g4 c4 hH0 S0 hso HAPK hT3 hcg eL
    go_wp2
    simp [bodyPost, results, Try.results46, go_sem, q2]
    exact HR.out
  · clear q2 q3 f2 f3
    go_wp2_with fail
    have K3 := Lib.hid (fun w' (h : u2.grownBy w' (some g)) => cell_of_one ((h.block _ lt3 (fun e => by injection e with e; omega)).trans hT.out.H))
    refine wp_region_F 6 (fun w' => Hid (u2.grownBy w' (some g))) (by kernel_rfl) ?_
    have hH0 : Hid (u2.grownBy u2.drew (some g)) := grown_of_below (below_drawn (Below.refl _ _) 1) _
    refine f_take 0 28 (.pointer (some ⟨u1.heap.size, 0, none⟩)) rfl rfl (by kernel_rfl) (by kernel_rfl) (by kernel_rfl) (by kernel_rfl) (fun _ _ _ h => h) rfl hH0 (fun w _ => exec_fldW _ w) ?_
    refine f_take 1 29 (.slice Q sq.length qc) rfl rfl (by kernel_rfl) (by kernel_rfl) (by kernel_rfl) (by kernel_rfl) (fun _ _ _ h => h) rfl hH0 (fun w h => exec_loadSp _ _ 0 _ _ _ w (.inr rfl) (K3.out w h.out)) ?_
    simp only [Act.put, List.setIfInBounds_toArray, List.set_cons_zero, List.set_cons_succ]
    refine f_take 2 30 (.pointer (some ⟨g, 0, none⟩)) rfl rfl (by kernel_rfl) (by kernel_rfl) (by kernel_rfl) (by kernel_rfl) (fun _ _ _ h => h) rfl hH0 (fun w _ => rfl) ?_
    simp only [Act.put, List.setIfInBounds_toArray, List.set_cons_zero, List.set_cons_succ]
    refine f_call 3 31 78 #[.pointer (some ⟨g, 0, none⟩), .int .i64 10] rfl rfl (by kernel_rfl) rfl (exec_call Try.func78 (by kernel_rfl) (by kernel_rfl) _) ?_
    refine (l1Below_any A l c g 10 _ hl hb (by omega) (by omega) (hT.out.C.mem (below_drawn (Below.refl _ _) 1))).mono ?_
    rintro e u3 ⟨n, hn, rfl, c3, g3⟩
    have k3 : Hid (u2.grownBy u3 (some g)) := hH0.out.trans g3
    have T3 := hT.out.draw k3.out c3
    refine ⟨_, rfl, (fun _ _ => k3), ?_⟩
    simp only [Act.put, List.setIfInBounds_toArray, List.set_cons_zero, List.set_cons_succ]
    obtain ⟨Q', c', eQ, hcap, _, hQ⟩ := own_form T3.O.row
    have hQs : Q = none → False := fun h => by
      obtain ⟨q, hq, _⟩ := hQ (by have := H9.out; omega)
      injection eQ with e1 _ _
      rw [← e1, h] at hq; cases hq
    have hcap2 : sq.length ≤ qc := own_cap T3.O.row
    refine f_op 4 32 (.slice Q n qc) rfl rfl (by kernel_rfl) rfl (exec_sliceTo rowSpk Q sq.length qc n _ (by have := H9.out; omega) hcap2 (fun h => absurd h (fun h => hQs h))) (fun _ _ => k3) ?_
    simp only [Act.put, List.setIfInBounds_toArray, List.set_cons_zero, List.set_cons_succ]
    refine f_op 5 33 (.pointer (some ⟨u1.heap.size, 0, none⟩)) rfl rfl (by kernel_rfl) rfl (exec_fldW _ _) (fun _ _ => k3) ?_
    simp only [Act.put, List.setIfInBounds_toArray, List.set_cons_zero, List.set_cons_succ]
    refine f_store 6 rfl rfl (by kernel_rfl) rfl (exec_storeSp _ _ 0 Q n qc _ u3 (.inr rfl) (cell_of_one T3.H) (free_of_one T3.H)) (fun h => absurd rfl h) ?_
    refine f_done (by kernel_rfl) ?_ _
    have hnl : (sq.take n).length = n := by rw [List.length_take]; have := H9.out; omega
    have O4 : OwnW (u3.setCell ⟨u1.heap.size, 0, none⟩ (.slice Q n qc)) (w.heap.size + 1) Q qc (sq.take n) := by
      have h1 := T3.O.put T3.H (by decide) (by decide) 0 (.slice Q n qc)
      refine ⟨?_, fun s hs => h1.sp s (List.mem_of_mem_take hs)⟩
      have h2 := own_take h1.row (k := n) (by have := H9.out; omega) hQs
      rw [spC_take] at h2
      rw [hnl]; exact h2
    have hs3 := heap_setCell_same u3 u1.heap.size 0 _ _ (.slice Q n qc) T3.H
    simp at hs3
    have hZ4 := (heap_set_ne u3 u1.heap.size 0 (.slice Q n qc) (show w.heap.size ≠ u1.heap.size by omega)).trans T3.Z
    have hF4 : FitL ((sq.take n).map (fun s => s.l)) := fun a ha x hx => T3.F a (by rw [List.map_take] at ha; exact List.mem_of_mem_take ha) x hx
    have R := wheel_got (l := l) O4 hZ4 (T3.C.setCell _ 0 _ (by omega)) (grown_setD T3.G _ 0 _ (by omega)) hF4 (by rw [hnl]; omega) (by have := allPn_take_le sq n; have := T3.n10; omega) hlt
    rw [hnl] at R
    have HR := Lib.hid R
    obtain ⟨V, eV⟩ : ∃ V, u3.setCell ⟨u1.heap.size, 0, none⟩ (.slice Q n qc) = V := ⟨_, rfl⟩
    rw [eV] at hs3 hZ4 HR
    have q3 := cell_of_one hs3
    have q2 := cell_of_one hZ4
    have f2 := free_of_one hZ4
    rw [eV]
    clear R O4 hs3 hZ4 hF4 T3 k3 K3 hH0 c3 g3 hT eV hQ eQ
    go_wp2
    simp [bodyPost, results, Try.results46, go_sem, q2]
    exact HR.out
  · have O1 := Lib.hid ((hT.out.O.row.alloc (.cells #[] 33)).alloc (.cells #[.slice (some ⟨u2.heap.size, 0, none⟩) 0 0] 29))
    have RN : Hid (Rws ((u2.alloc (.cells #[] 33)).alloc (.cells #[.slice (some ⟨u2.heap.size, 0, none⟩) 0 0] 29)) (u2.heap.size + 1 + 1) (some ⟨u2.heap.size + 1, 0, none⟩) (spC ⟨some ⟨u2.heap.size, 0, none⟩, 0, []⟩)) := by
      have := Rws.new (u2.alloc (.cells #[] 33)) (spC ⟨some ⟨u2.heap.size, 0, none⟩, 0, []⟩) 29
      rw [World.size_alloc] at this
      exact this
    have bal : Below u2.heap.size u2 ((u2.alloc (.cells #[] 33)).alloc (.cells #[.slice (some ⟨u2.heap.size, 0, none⟩) 0 0] 29)) := ((Below.refl _ _).alloc (Nat.le_refl _) _).alloc (by simp) _
    have T1 := Lib.hid (hT.out.call bal)
    have I1 : Hid (∀ s ∈ sq ++ [⟨some ⟨u2.heap.size, 0, none⟩, 0, []⟩], Sp.own ((u2.alloc (.cells #[] 33)).alloc (.cells #[.slice (some ⟨u2.heap.size, 0, none⟩) 0 0] 29)) (w.heap.size + 1) s) := by
      intro s hs2
      rcases List.mem_append.1 hs2 with h | h
      · exact T1.out.O.sp s h
      · have : s = ⟨some ⟨u2.heap.size, 0, none⟩, 0, []⟩ := by simpa using h
        subst this
        exact (own_empty u2 (w.heap.size + 1) 33 2 (by omega)).alloc _
    have h9 := H9.out
    have lo := own_low O1.out
    clear bal h9
    go_wp2_with (at_builtin; refine wpList_appR rowSpk _ rfl (.tmp 37) (.tmp 39) rfl (w.heap.size + 1) _ sq.length (sq.flatMap spC) rfl O1.out _ _ 1 1 (spC ⟨some ⟨u2.heap.size, 0, none⟩, 0, []⟩) rfl rfl RN.out (fun h => by cases h) (by intro u hu; exact spC_one [⟨some ⟨u2.heap.size, 0, none⟩, 0, []⟩] u (by simpa using hu)) (by have := H9.out; omega) (by simp; omega) ?_)
    intro v3 u3 o3 g3
    obtain ⟨A3, c3, rfl, _⟩ := own_form o3
    have hne : ∀ (j : Nat) (t : TypeId) (fr : Nat × Nat) (cs : Array Value), ((u2.alloc (Obj.cells #[] 33)).alloc (Obj.cells #[Value.slice (some ⟨u2.heap.size, 0, none⟩) 0 0] 29)).heap[j]? = some (Obj.cells cs t fr) → t ≠ 29 → u3.heap[j]? = some (Obj.cells cs t fr) := fun j t fr cs h ht => (g3.block _ (blk_lt h) (fun e => own_ne_type O1.out h ht e.symm)).trans h
    have hH3 := hne _ _ _ _ T1.out.H (by decide)
    have hZ3 := hne _ _ _ _ T1.out.Z (by decide)
    have hC3 : Cur u3 g A l c := T1.out.C.grown g3 (fun j hj => by have := lo j hj; omega)
    have hG3 : w.grownBy u3 (some g) := grown_step T1.out.G g3 (fun j hj => by have := lo j hj; omega)
    have O3 : OwnW u3 (w.heap.size + 1) A3 c3 (sq ++ [⟨some ⟨u2.heap.size, 0, none⟩, 0, []⟩]) := by
      refine ⟨?_, OwnW.grow I1.out O1.out g3⟩
      rw [List.length_append, List.flatMap_append]
      simpa using o3
    have hn3 : (sq ++ [(⟨some ⟨u2.heap.size, 0, none⟩, 0, []⟩ : Sp)]).length = sq.length + 1 := by simp
    have O4 := O3.put hH3 (by decide) (by decide) 0 (.slice A3 (sq.length + 1) c3)
    have hs3 := heap_setCell_same u3 u1.heap.size 0 _ _ (.slice A3 (sq.length + 1) c3) hH3
    simp at hs3
    have hZ4 := (heap_set_ne u3 u1.heap.size 0 (.slice A3 (sq.length + 1) c3) (show w.heap.size ≠ u1.heap.size by omega)).trans hZ3
    have hF4 : FitL ((sq ++ [(⟨some ⟨u2.heap.size, 0, none⟩, 0, []⟩ : Sp)]).map (fun s => s.l)) := fun a ha x hx => by
      rw [List.map_append] at ha
      rcases List.mem_append.1 ha with h | h
      · exact T1.out.F a h x hx
      · have : a = [] := by simpa using h
        subst this; cases hx
    have hall : (allPn (sq ++ [(⟨some ⟨u2.heap.size, 0, none⟩, 0, []⟩ : Sp)])).length ≤ 30 := by
      have h1 := T1.out.n10
      have h2 : allPn (sq ++ [(⟨some ⟨u2.heap.size, 0, none⟩, 0, []⟩ : Sp)]) = allPn sq := by unfold allPn; rw [List.flatMap_append]; simp
      rw [h2]; omega
    have R := wheel_got (l := l) O4 hZ4 (hC3.setCell _ 0 _ (by omega)) (grown_setD hG3 _ 0 _ (by omega)) hF4 (by rw [hn3]; have := H9.out; omega) hall hlt
    rw [hn3] at R
    have HR := Lib.hid R
    have qh := cell_of_one hH3
    have fh := free_of_one hH3
    have Q4 := Lib.hid (cell_of_one hs3)
    have Q2 := Lib.hid (And.intro (cell_of_one hZ4) (free_of_one hZ4))
    clear q2 q3 f2 f3
    obtain ⟨V, eV⟩ : ∃ V, u3.setCell ⟨u1.heap.size, 0, none⟩ (.slice A3 (sq.length + 1) c3) = V := ⟨_, rfl⟩
    rw [eV] at Q4 Q2 HR
    have q4 := Q4.out
    have q2 := Q2.out.1
    have f2 := Q2.out.2
    clear R O4 O3 hs3 hZ4 hF4 hall o3 g3 hH3 hZ3 hC3 hG3 T1 I1 O1 RN hT lo hne Q4 Q2
    go_wp2
    simp [bodyPost, results, Try.results46, go_sem, q2]
    exact HR.out
  · have y0 : ((y : Int) == 0) = false := by simp; omega
    have y1 : ((y : Int) == 1) = false := by simp; omega
    have y2 : ((y : Int) == 2) = false := by simp; omega
    have R := Lib.hid (wheel_got (l := l) hT.out.O hT.out.Z hT.out.C hT.out.G hT.out.F (by have := H9.out; omega) (by have := hT.out.n10; omega) hlt)
    clear hT
    go_wp2
    simp [bodyPost, results, Try.results46, go_sem, q2]
    exact R.out
end Go.Proofs.Ytflomkebgiemaaa
