/- Texts laid together: Hs2, Bent. -/
import Derived.Test.YtlflgflmlfileaaGreatRows
import Derived.Test.YtlflgflmlfileaaGreatG6
import Derived.Test.YtlflgflmlfileaaGreatG5
namespace Go.Proofs.YtlflgflmlfileaaGreat
open Go.RowKit
set_option linter.unusedSimpArgs false
set_option linter.unusedVariables false
def GotRules (w : World) (g : Nat) (A : Option Addr) (l : List Nat) (c : Nat) (e : Ending) (w' : World) : Prop :=
  ∃ (r : Ru) (B : Option Addr) (cb : Nat), RuOk r ∧ e = .returned (ruV B cb r) ∧ w'.ownsRow w.heap.size 3 1 (.slice B r.seats.length cb) r.seats.length (ints r.seats) ∧ Cur w' g A l c ∧ w.grownBy w' (some g)
theorem heap_set_ne (w : World) (b off : Nat) (v : Value) {k : Nat} (h : k ≠ b) : (w.setCell ⟨b, off, none⟩ v).heap[k]? = w.heap[k]? := by
  unfold World.setCell
  simp
  rw [Array.getElem?_modify, if_neg (Ne.symm h)]
theorem grown_setCell (w : World) (b off : Nat) (v : Value) : w.grownBy (w.setCell ⟨b, off, none⟩ v) (some b) :=
  ⟨rfl, rfl, rfl, by simp [World.setCell], fun k _ hk => heap_set_ne w b off v (fun e => hk (by rw [e]))⟩
theorem grown_setD {a w : World} {g : Nat} (h : a.grownBy w (some g)) (b off : Nat) (v : Value) (hb : a.heap.size ≤ b) : a.grownBy (w.setCell ⟨b, off, none⟩ v) (some g) :=
  grown_step h (grown_setCell w b off v) (fun j hj => by injection hj with hj; omega)
theorem Cur.setCell {w : World} {g : Nat} {A : Option Addr} {l : List Nat} {c : Nat} (h : Cur w g A l c) (b off : Nat) (v : Value) (hb : g < b) : Cur (w.setCell ⟨b, off, none⟩ v) g A l c :=
  h.grown (grown_setCell w b off v) (fun k hk => by injection hk with hk; omega)
set_option maxRecDepth 100000 in
theorem exec_fld0 {ρ : Operand → Value} {o : Oper} {x : Operand} (b : Nat) (w : World) (ho : o.op = .fieldAddr 34 x 0 := by rfl) (hx : ρ x = .pointer (some ⟨b, 0, none⟩) := by rfl) :
    (execOp ρ o).run Tryz.prog w = .ok (.value (.pointer (some ⟨b, 0, none⟩))) w := by
  unfold execOp
  rw [ho]
  simp [go_sem, hx]
set_option maxRecDepth 100000 in
theorem exec_loadSl {ρ : Operand → Value} {o : Oper} {x : Operand} (t : TypeId) (b off : Nat) (B : Option Addr) (n c : Nat) (w : World) (ht : t = 32) (h : w.cell? ⟨b, off, none⟩ = some (.slice B n c)) (ho : o.op = .load t x := by rfl) (hx : ρ x = .pointer (some ⟨b, off, none⟩) := by rfl) :
    (execOp ρ o).run Tryz.prog w = .ok (.value (.slice B n c)) w := by
  subst ht
  unfold execOp
  rw [ho]
  simp [go_sem, hx, h]
set_option maxRecDepth 100000 in
theorem exec_storeSl {ρ : Operand → Value} {o : Oper} {x y : Operand} (t : TypeId) (b off : Nat) (B : Option Addr) (n c : Nat) (u : Value) (w : World) (ht : t = 32) (h : w.cell? ⟨b, off, none⟩ = some u) (hz : w.frozen? ⟨b, off, none⟩ = false) (ho : o.op = .store t x y := by rfl) (hx : ρ x = .pointer (some ⟨b, off, none⟩) := by rfl) (hy : ρ y = .slice B n c := by rfl) :
    (execOp ρ o).run Tryz.prog w = .ok .skip (w.setCell ⟨b, off, none⟩ (.slice B n c)) := by
  subst ht
  unfold execOp
  rw [ho]
  simp [go_sem, hx, hy, h, hz]
set_option maxRecDepth 100000 in
theorem exec_one {ρ : Operand → Value} {o : Oper} {x : Operand} (z : Int) (w : World) (ho : o.op = .buildSlice 32 1 #[(0, x)] := by rfl) (hx : ρ x = .int .i64 z := by rfl) :
    (execOp ρ o).run Tryz.prog w = .ok (.value (.slice (some ⟨w.heap.size, 0, none⟩) 1 1)) (w.alloc (.cells #[.int .i64 z] 3)) := by
  unfold execOp
  rw [ho]
  simp [go_sem, hx]
set_option maxRecDepth 100000 in
set_option maxHeartbeats 1600000 in
theorem l5Right_any (A : Option Addr) (l : List Nat) (c g : Nat) (w : World) (hl : l.length ≤ 2097152) (hb : AllB l) (hcw : Cur w g A l c) :
    Calls Tryz.prog 13 #[.pointer (some ⟨g, 0, none⟩)] w (GotRules w g A l c) := by
  have hgw := hcw.lt
  have hc0 : Cur (w.alloc (.cells #[.slice none 0 0, .int .i64 0, .int .i64 0, .int .i64 0, .int .i64 0, .int .i64 0, .int .i64 0, .int .i64 0, .int .i64 0] 34)) g A l c := hcw.alloc _
  have gr0 : w.grownBy (w.alloc (.cells #[.slice none 0 0, .int .i64 0, .int .i64 0, .int .i64 0, .int .i64 0, .int .i64 0, .int .i64 0, .int .i64 0, .int .i64 0] 34)) (some g) := World.grownBy_alloc _ _ _
  have hb0 := heap_alloc_new w (.cells #[.slice none 0 0, .int .i64 0, .int .i64 0, .int .i64 0, .int .i64 0, .int .i64 0, .int .i64 0, .int .i64 0, .int .i64 0] 34)
  have hzk : ∀ w', (w.alloc (.cells #[.slice none 0 0, .int .i64 0, .int .i64 0, .int .i64 0, .int .i64 0, .int .i64 0, .int .i64 0, .int .i64 0, .int .i64 0] 34)).grownBy w' (some g) → w'.heap[w.heap.size]? = some (.cells #[.slice none 0 0, .int .i64 0, .int .i64 0, .int .i64 0, .int .i64 0, .int .i64 0, .int .i64 0, .int .i64 0, .int .i64 0] 34 (0, 0)) := fun w' h => by rw [h.block _ (by simp) (by simp; omega)]; exact hb0
  have gr00 : (w.alloc (.cells #[.slice none 0 0, .int .i64 0, .int .i64 0, .int .i64 0, .int .i64 0, .int .i64 0, .int .i64 0, .int .i64 0, .int .i64 0] 34)).grownBy (w.alloc (.cells #[.slice none 0 0, .int .i64 0, .int .i64 0, .int .i64 0, .int .i64 0, .int .i64 0, .int .i64 0, .int .i64 0, .int .i64 0] 34)) (some g) := World.grownBy.refl _ _
  have HZK := Lib.hid hzk
  clear hzk hb0
  go_enter Tryz.func13, Tryz.ntmps13
  go_wp2_with fail
  refine (l1Below_any A l c g 5 _ hl hb (by omega) (by omega) hc0).mono ?_
  rintro e w1 ⟨x1, hx1, rfl, hc1, gr1'⟩
  have gr1 := gr0.trans gr1'
  have gz1 := gr00.trans gr1'
  clear gr1' hc0 gr0 gr00
  go_wp2_with fail
  refine (l1Below_any A l c g 9 _ hl hb (by omega) (by omega) hc1).mono ?_
  rintro e w2 ⟨x2, hx2, rfl, hc2, gr2'⟩
  have gr2 := gr1.trans gr2'
  have gz2 := gz1.trans gr2'
  clear gr2' hc1 gr1 gz1
  go_wp2_with fail
  refine (l1Below_any A l c g 6 _ hl hb (by omega) (by omega) hc2).mono ?_
  rintro e w3 ⟨x3, hx3, rfl, hc3, gr3'⟩
  have gr3 := gr2.trans gr3'
  have gz3 := gz2.trans gr3'
  clear gr3' hc2 gr2 gz2
  go_wp2_with fail
  refine (l1Below_any A l c g 5 _ hl hb (by omega) (by omega) hc3).mono ?_
  rintro e w4 ⟨x4, hx4, rfl, hc4, gr4'⟩
  have gr4 := gr3.trans gr4'
  have gz4 := gz3.trans gr4'
  clear gr4' hc3 gr3 gz3
  go_wp2_with fail
  refine (l1Below_any A l c g 4 _ hl hb (by omega) (by omega) hc4).mono ?_
  rintro e w5 ⟨x5, hx5, rfl, hc5, gr5'⟩
  have gr5 := gr4.trans gr5'
  have gz5 := gz4.trans gr5'
  clear gr5' hc4 gr4 gz4
  go_wp2_with fail
  refine (l1Below_any A l c g 4 _ hl hb (by omega) (by omega) hc5).mono ?_
  rintro e w6 ⟨x6, hx6, rfl, hc6, gr6'⟩
  have gr6 := gr5.trans gr6'
  have gz6 := gz5.trans gr6'
  clear gr6' hc5 gr5 gz5
  go_wp2_with fail
  refine (l1Below_any A l c g 4 _ hl hb (by omega) (by omega) hc6).mono ?_
  rintro e w7 ⟨x7, hx7, rfl, hc7, gr7'⟩
  have gr7 := gr6.trans gr7'
  have gz7 := gz6.trans gr7'
  clear gr7' hc6 gr6 gz6
  go_wp2_with fail
  refine (l1Below_any A l c g 3 _ hl hb (by omega) (by omega) hc7).mono ?_
  rintro e w8 ⟨x8, hx8, rfl, hc8, gr8'⟩
  have gr8 := gr7.trans gr8'
  have gz8 := gz7.trans gr8'
  clear gr8' hc7 gr7 gz7
  have hzr := HZK.out _ gz8
  clear gz8
  have hwr := gr8.size
  have hzer8 : w8.heap[w.heap.size]? = some (.cells #[.slice none 0 0, .int .i64 0, .int .i64 0, .int .i64 0, .int .i64 0, .int .i64 0, .int .i64 0, .int .i64 0, .int .i64 0] 34 (0, 0)) := hzr
  have hwr2 : w.heap.size < w8.heap.size := (Array.getElem?_eq_some_iff.1 hzer8).1
  have hblk8 := heap_alloc_new w8 (.cells #[.slice none 0 0, .int .i64 (1 + (x1 : Int)), .int .i64 (2 + (x2 : Int)), .int .i64 (1 + (x3 : Int)), .int .i64 (1 + (x4 : Int)), .int .i64 (1 + (x5 : Int)), .int .i64 (x6 : Int), .int .i64 (1 + (x7 : Int)), .int .i64 (1 + (x8 : Int))] 34)
  have gr8a : w.grownBy (w8.alloc (.cells #[.slice none 0 0, .int .i64 (1 + (x1 : Int)), .int .i64 (2 + (x2 : Int)), .int .i64 (1 + (x3 : Int)), .int .i64 (1 + (x4 : Int)), .int .i64 (1 + (x5 : Int)), .int .i64 (x6 : Int), .int .i64 (1 + (x7 : Int)), .int .i64 (1 + (x8 : Int))] 34)) (some g) := grown_step gr8 (World.grownBy_alloc _ _ none) (fun k hk => by cases hk)
  have hc8a := hc8.alloc (.cells #[.slice none 0 0, .int .i64 (1 + (x1 : Int)), .int .i64 (2 + (x2 : Int)), .int .i64 (1 + (x3 : Int)), .int .i64 (1 + (x4 : Int)), .int .i64 (1 + (x5 : Int)), .int .i64 (x6 : Int), .int .i64 (1 + (x7 : Int)), .int .i64 (1 + (x8 : Int))] 34)
  go_wp2_with fail
  refine (l1Below_any A l c g 3 _ hl hb (by omega) (by omega) hc8a).mono ?_
  rintro e w9 ⟨x9, hx9, rfl, hc9, gr9'⟩
  have gr9 := gr8a.trans gr9'
  have hs9 := gr9'.size
  simp at hs9
  have hzer9 : w9.heap[w.heap.size]? = some (.cells #[.slice none 0 0, .int .i64 0, .int .i64 0, .int .i64 0, .int .i64 0, .int .i64 0, .int .i64 0, .int .i64 0, .int .i64 0] 34 (0, 0)) := by
    rw [gr9'.block _ (by simp; omega) (by simp; omega), (World.grownBy_alloc w8 _ none).block _ (by omega) (by simp)]; exact hzer8
  have hblk9 : w9.heap[w8.heap.size]? = some (.cells #[.slice none 0 0, .int .i64 (1 + (x1 : Int)), .int .i64 (2 + (x2 : Int)), .int .i64 (1 + (x3 : Int)), .int .i64 (1 + (x4 : Int)), .int .i64 (1 + (x5 : Int)), .int .i64 (x6 : Int), .int .i64 (1 + (x7 : Int)), .int .i64 (1 + (x8 : Int))] 34 (0, 0)) := by
    rw [gr9'.block _ (by simp) (by simp; omega)]; exact hblk8
  clear gr9' gr8a hc8a hblk8 hzer8 hc8 gr8 hzr
  generalize w8.heap.size = r2 at *
  go_wp2
  go_loopw [5] (fun vi wr => ∃ (ss : List Int) (V : Option Addr) (cv : Nat), ss.length ≤ 1 + x9 ∧ vi = .int .i64 ss.length ∧ (∀ i, i < ss.length → 1 ≤ ss.getD i 0 ∧ ss.getD i 0 ≤ 60) ∧ wr.heap[r2]? = some (.cells #[.slice V ss.length cv, .int .i64 (1 + (x1 : Int)), .int .i64 (2 + (x2 : Int)), .int .i64 (1 + (x3 : Int)), .int .i64 (1 + (x4 : Int)), .int .i64 (1 + (x5 : Int)), .int .i64 (x6 : Int), .int .i64 (1 + (x7 : Int)), .int .i64 (1 + (x8 : Int))] 34 (0, 0)) ∧ wr.heap[w.heap.size]? = some (.cells #[.slice none 0 0, .int .i64 0, .int .i64 0, .int .i64 0, .int .i64 0, .int .i64 0, .int .i64 0, .int .i64 0, .int .i64 0] 34 (0, 0)) ∧ wr.ownsRow (r2 + 1) 3 1 (.slice V ss.length cv) ss.length (ints ss) ∧ Cur wr g A l c ∧ w.grownBy wr (some g)) (fun vi _ => 1 + x9 - (intOf vi).toNat)
  case atStart => exact ⟨[], none, 0, by simp, rfl, (fun i hi => by cases hi), hblk9, hzer9, World.ownsRow_nil _ _ _ _, hc9, gr9⟩
  case round =>
    obtain ⟨ss, V, cv, hk, rfl, hseat, hblk, hzer, hown, hcr, hgr⟩ := hrel
    clear hblk9 hzer9 hc9 gr9
    have hr2 : r2 < wr.heap.size := (Array.getElem?_eq_some_iff.1 hblk).1
    by_cases hlt : ss.length < 1 + x9
    · have hS0 : wr.drew.cell? ⟨r2, 0, none⟩ = some (.slice V ss.length cv) := cell_of_row wr r2 0 _ 34 (0, 0) hblk
      have hlt2 : (ss.length : Int) < 1 + (x9 : Int) := by omega
      go_wp2
      refine wp_region_E 8 (fun w' => w'.cell? ⟨r2, 0, none⟩ = some (.slice V ss.length cv)) (by kernel_rfl) ?_
      refine e_take 0 38 (.pointer (some ⟨r2, 0, none⟩)) rfl rfl (by kernel_rfl) (by kernel_rfl) (by kernel_rfl) (by kernel_rfl) (fun _ _ _ h => h) rfl hS0 (fun w _ => exec_fld0 r2 w) ?_
      refine e_take 1 39 (.slice V ss.length cv) rfl rfl (by kernel_rfl) (by kernel_rfl) (by kernel_rfl) (by kernel_rfl) (fun _ _ _ h => h) rfl hS0 (fun w h => exec_loadSl 32 r2 0 V ss.length cv w rfl h) ?_
      refine e_take 2 40 (.pointer (some ⟨g, 0, none⟩)) rfl rfl (by kernel_rfl) (by kernel_rfl) (by kernel_rfl) (by kernel_rfl) (fun _ _ _ h => h) rfl hS0 (fun w _ => rfl) ?_
      simp only [Act.put, List.setIfInBounds_toArray, List.set_cons_zero, List.set_cons_succ]
      refine e_call 3 41 21 #[.pointer (some ⟨g, 0, none⟩), .int .i64 12] rfl rfl (by kernel_rfl) rfl (exec_call Tryz.func21 (by kernel_rfl) (by kernel_rfl) _) ?_
      refine (l1Below_any A l c g 12 wr.drew hl hb (by omega) (by omega) hcr).mono ?_
      rintro e w3 ⟨y, hy, rfl, hc3, gr3'⟩
      have gr3 : wr.grownBy w3 (some g) := (grown_of_below (below_drawn (Below.refl wr.heap.size wr) 1) _).trans gr3'
      have own3 := own_cur hown gr3 (by omega)
      have blk3 : w3.heap[r2]? = _ := (gr3.block r2 hr2 (by simp; omega)).trans hblk
      have zer3 : w3.heap[w.heap.size]? = _ := (gr3.block w.heap.size (by omega) (by simp; omega)).trans hzer
      have hS3 : w3.cell? ⟨r2, 0, none⟩ = some (.slice V ss.length cv) := cell_of_row w3 r2 0 _ 34 (0, 0) blk3
      have hsz3 := gr3.size
      refine ⟨_, rfl, (fun _ => hS3), ?_⟩
      simp only [Act.put, List.setIfInBounds_toArray, List.set_cons_zero, List.set_cons_succ]
      refine e_op 4 42 (.int .i64 (2 + (y : Int))) rfl rfl (by kernel_rfl) rfl (exec_addI 2 y (2 + (y : Int)) w3 rfl (by omega) (by omega)) (fun _ => hS3) ?_
      simp only [Act.put, List.setIfInBounds_toArray, List.set_cons_zero, List.set_cons_succ]
      refine e_op 5 43 (.slice (some ⟨w3.heap.size, 0, none⟩) 1 1) rfl rfl (by kernel_rfl) rfl (exec_one (2 + (y : Int)) w3) (fun _ => (World.grownBy.cell (World.grownBy_alloc w3 _ none) hS3 (by simp))) ?_
      simp only [Act.put, List.setIfInBounds_toArray, List.set_cons_zero, List.set_cons_succ]
      refine e_opx 6 44 rfl rfl (by kernel_rfl) rfl (exec_appR rowInt _ (r2 + 1) (.slice V ss.length cv) ss.length (ints ss) (World.ownsRow.alloc own3 _) (w3.heap.size + 1) (some ⟨w3.heap.size, 0, none⟩) 1 1 [.int .i64 (2 + (y : Int))] rfl (Rws.new w3 [.int .i64 (2 + (y : Int))] 3) (fun h => by cases h) (fun u hu => by simp at hu; rw [hu]; rfl) (by omega) (by simp; omega)) (fun v w' h _ => World.grownBy.cell h.2 (World.grownBy.cell (World.grownBy_alloc w3 _ none) hS3 (by simp)) (fun e => by have := own_low own3 r2 e.symm; omega)) (fun v4 w4 h4 => ?_)
      obtain ⟨o4, g4⟩ := h4
      simp only [Act.put, List.setIfInBounds_toArray, List.set_cons_zero, List.set_cons_succ]
      obtain ⟨V4, cv4, rfl, _⟩ := own_form o4
      have hlo := own_low own3
      have g34 : w3.grownBy w4 (Value.ownBlock (.slice V ss.length cv)) := (World.grownBy_alloc w3 _ _).trans g4
      have blk4 : w4.heap[r2]? = _ := (g34.block r2 (by omega) (fun e => by have := hlo r2 e.symm; omega)).trans blk3
      have zer4 : w4.heap[w.heap.size]? = _ := (g34.block w.heap.size (by omega) (fun e => by have := hlo _ e.symm; omega)).trans zer3
      have hc4 := hc3.grown g34 (fun k hk => by have := hlo k hk; omega)
      have gr4 := grown_step (hgr.trans gr3) g34 (fun k hk => by have := hlo k hk; omega)
      have hS4 : w4.cell? ⟨r2, 0, none⟩ = some (.slice V ss.length cv) := cell_of_row w4 r2 0 _ 34 (0, 0) blk4
      have hz4 : w4.frozen? ⟨r2, 0, none⟩ = false := frozen_of_row w4 r2 0 _ 34 blk4
      refine e_op 7 45 (.pointer (some ⟨r2, 0, none⟩)) rfl rfl (by kernel_rfl) rfl (exec_fld0 r2 w4) (fun _ => hS4) ?_
      simp only [Act.put, List.setIfInBounds_toArray, List.set_cons_zero, List.set_cons_succ]
      refine e_store 8 rfl rfl (by kernel_rfl) rfl (exec_storeSl 32 r2 0 V4 (ss.length + 1) cv4 _ w4 rfl hS4 hz4) (fun h => absurd rfl h) ?_
      refine e_done (by kernel_rfl) ?_ _
      have blk5 := heap_setCell_same w4 r2 0 _ 34 (.slice V4 (ss.length + 1) cv4) blk4
      have R : Hid (∃ s', s' = ss ++ [2 + (y : Int)] ∧ (w4.setCell ⟨r2, 0, none⟩ (.slice V4 (ss.length + 1) cv4)).ownsRow (r2 + 1) 3 1 (.slice V4 s'.length cv4) s'.length (ints s') ∧ (∀ i, i < s'.length → 1 ≤ s'.getD i 0 ∧ s'.getD i 0 ≤ 60) ∧ s'.length = ss.length + 1) := by
        refine ⟨_, rfl, ?_, ?_, by simp⟩
        · rw [List.length_append, ints_append]
          exact ownsRow_setCell_below o4 (by show r2 < r2 + 1; omega) _
        · intro i hi
          simp at hi
          rcases Nat.lt_or_ge i ss.length with h | h
          · rw [List.getD_eq_getElem?_getD, List.getElem?_append_left h, ← List.getD_eq_getElem?_getD]; exact hseat i h
          · obtain rfl : i = ss.length := by omega
            simp; omega
      have hc5 := hc4.setCell r2 0 (.slice V4 (ss.length + 1) cv4) (by omega)
      have gr5 := grown_setD gr4 r2 0 (.slice V4 (ss.length + 1) cv4) (by omega)
      have zer5 : (w4.setCell ⟨r2, 0, none⟩ (.slice V4 (ss.length + 1) cv4)).heap[w.heap.size]? = _ := (heap_set_ne w4 r2 0 _ (by omega)).trans zer4
      clear hS0 hS3 hS4 hz4 blk4 zer4 hc4 gr4 o4 g4 g34 blk3 zer3 own3 gr3 gr3' hblk hzer hown hcr hgr hc3
      obtain ⟨s', hs', ho', hse', hle'⟩ := R.out
      go_wp2
      go_roundw
      case rel => exact ⟨s', V4, cv4, by omega, by rw [hle']; go_num, hse', by rw [hle']; exact blk5, zer5, ho', hc5, gr5⟩
      case measure => simp [intOf]; omega
    · have hn1 : 1 ≤ ss.length := by omega
      have hn2 : ss.length ≤ 4 := by omega
      have hlt3 : ¬ (ss.length : Int) < 1 + (x9 : Int) := by omega
      obtain ⟨T1, hT1⟩ : ∃ T : Int, 1 + (x1 : Int) = T := ⟨_, rfl⟩
      have hB1 : 1 ≤ T1 ∧ T1 ≤ 5 := by omega
      obtain ⟨T2, hT2⟩ : ∃ T : Int, 2 + (x2 : Int) = T := ⟨_, rfl⟩
      have hB2 : 1 ≤ T2 ∧ T2 ≤ 10 := by omega
      obtain ⟨T3, hT3⟩ : ∃ T : Int, 1 + (x3 : Int) = T := ⟨_, rfl⟩
      have hB3 : 1 ≤ T3 ∧ T3 ≤ 6 := by omega
      obtain ⟨T4, hT4⟩ : ∃ T : Int, 1 + (x4 : Int) = T := ⟨_, rfl⟩
      have hB4 : 1 ≤ T4 ∧ T4 ≤ 12 := by omega
      obtain ⟨T5, hT5⟩ : ∃ T : Int, 1 + (x5 : Int) = T := ⟨_, rfl⟩
      have hB5 : 1 ≤ T5 ∧ T5 ≤ 8 := by omega
      obtain ⟨T6, hT6⟩ : ∃ T : Int, (x6 : Int) = T := ⟨_, rfl⟩
      have hB6 : 0 ≤ T6 ∧ T6 ≤ 8 := by omega
      obtain ⟨T7, hT7⟩ : ∃ T : Int, 1 + (x7 : Int) = T := ⟨_, rfl⟩
      have hB7 : 1 ≤ T7 ∧ T7 ≤ 4 := by omega
      obtain ⟨T8, hT8⟩ : ∃ T : Int, 1 + (x8 : Int) = T := ⟨_, rfl⟩
      have hB8 : 1 ≤ T8 ∧ T8 ≤ 3 := by omega
      rw [hT1, hT2, hT3, hT4, hT5, hT6, hT7, hT8] at hblk
      clear hT1 hT2 hT3 hT4 hT5 hT6 hT7 hT8
      have hlo := own_low hown
      have hg9 : wr.grownBy (put9 wr w.heap.size V cv ⟨ss, T1, T2, T3, T4, T5, T6, T7, T8⟩) (some w.heap.size) := by
        unfold put9
        exact (((((((((grown_setCell _ _ _ _).trans (grown_setCell _ _ _ _)).trans (grown_setCell _ _ _ _)).trans (grown_setCell _ _ _ _)).trans (grown_setCell _ _ _ _)).trans (grown_setCell _ _ _ _)).trans (grown_setCell _ _ _ _)).trans (grown_setCell _ _ _ _)).trans (grown_setCell _ _ _ _))
      have hws : w.heap.size < wr.heap.size := by omega
      have R : Hid (GotRules w g A l c (.returned (ruV V cv ⟨ss, T1, T2, T3, T4, T5, T6, T7, T8⟩)) (put9 wr w.heap.size V cv ⟨ss, T1, T2, T3, T4, T5, T6, T7, T8⟩)) :=
        ⟨⟨ss, T1, T2, T3, T4, T5, T6, T7, T8⟩, V, cv, ⟨hn1, hn2, hseat, hB1, hB2, hB3, hB4, hB5, hB6, hB7, hB8⟩, rfl, put9_own (own_weak hown (by omega)) (fun h => by have := hlo _ h; omega), hcr.grown hg9 (fun k hk => by injection hk with hk; omega), grown_step hgr hg9 (fun k hk => by injection hk with hk; omega)⟩
      have k0 := cell_of_row wr r2 0 _ 34 (0, 0) hblk
      have z0 := cell_of_row wr w.heap.size 0 _ 34 (0, 0) hzer
      have f0 := frozen_of_row wr w.heap.size 0 _ 34 hzer
      have k1 := cell_of_row wr r2 1 _ 34 (0, 0) hblk
      have z1 := cell_of_row wr w.heap.size 1 _ 34 (0, 0) hzer
      have f1 := frozen_of_row wr w.heap.size 1 _ 34 hzer
      have k2 := cell_of_row wr r2 2 _ 34 (0, 0) hblk
      have z2 := cell_of_row wr w.heap.size 2 _ 34 (0, 0) hzer
      have f2 := frozen_of_row wr w.heap.size 2 _ 34 hzer
      have k3 := cell_of_row wr r2 3 _ 34 (0, 0) hblk
      have z3 := cell_of_row wr w.heap.size 3 _ 34 (0, 0) hzer
      have f3 := frozen_of_row wr w.heap.size 3 _ 34 hzer
      have k4 := cell_of_row wr r2 4 _ 34 (0, 0) hblk
      have z4 := cell_of_row wr w.heap.size 4 _ 34 (0, 0) hzer
      have f4 := frozen_of_row wr w.heap.size 4 _ 34 hzer
      have k5 := cell_of_row wr r2 5 _ 34 (0, 0) hblk
      have z5 := cell_of_row wr w.heap.size 5 _ 34 (0, 0) hzer
      have f5 := frozen_of_row wr w.heap.size 5 _ 34 hzer
      have k6 := cell_of_row wr r2 6 _ 34 (0, 0) hblk
      have z6 := cell_of_row wr w.heap.size 6 _ 34 (0, 0) hzer
      have f6 := frozen_of_row wr w.heap.size 6 _ 34 hzer
      have k7 := cell_of_row wr r2 7 _ 34 (0, 0) hblk
      have z7 := cell_of_row wr w.heap.size 7 _ 34 (0, 0) hzer
      have f7 := frozen_of_row wr w.heap.size 7 _ 34 hzer
      have k8 := cell_of_row wr r2 8 _ 34 (0, 0) hblk
      have z8 := cell_of_row wr w.heap.size 8 _ 34 (0, 0) hzer
      have f8 := frozen_of_row wr w.heap.size 8 _ 34 hzer
      simp at k0 z0 k1 z1 k2 z2 k3 z3 k4 z4 k5 z5 k6 z6 k7 z7 k8 z8
      clear hblk hzer hown hcr hgr hg9 hlo hseat
      unfold put9 ruV at R
      have HN1 := Lib.hid hn1
      clear hn1 hn2
      go_wp2
      simp [bodyPost, results, Tryz.results13, go_sem, k0, z0, k1, z1, k2, z2, k3, z3, k4, z4, k5, z5, k6, z6, k7, z7, k8, z8]
      exact R.out
/-- The draw hands out rules, right or wrong. -/
def GotRu (w : World) (g : Nat) (A : Option Addr) (l : List Nat) (c : Nat) (e : Ending) (w' : World) : Prop :=
  ∃ (r : Ru) (B : Option Addr) (cb : Nat), (r.go ∧ r.seats.length ≤ 5) ∧ e = .returned (ruV B cb r) ∧ w'.ownsRow w.heap.size 3 1 (.slice B r.seats.length cb) r.seats.length (ints r.seats) ∧ Cur w' g A l c ∧ w.grownBy w' (some g)
theorem RuOk.go {r : Ru} (h : RuOk r) : r.go ∧ r.seats.length ≤ 4 := by
  obtain ⟨n1, n2, seat, t, ro, s, p, wi, re, tr, cr⟩ := h
  refine ⟨⟨?_, ?_, ?_, ?_, ?_, ?_, ?_, ?_, ?_, by omega⟩, n2⟩
  · intro z hz
    obtain ⟨j, hj, rfl⟩ := List.mem_iff_getElem.1 hz
    have := seat j hj
    rw [List.getD_eq_getElem?_getD, List.getElem?_eq_getElem hj] at this
    unfold inI; simp at this; omega
  all_goals (unfold inI; omega)
theorem own_cut {w : World} {base n m : Nat} {A : Option Addr} {c : Nat} {cs : List Value} (h : w.ownsRow base 3 1 (.slice A n c) n cs) (hm : m ≤ n) (hA : A ≠ none) : w.ownsRow base 3 1 (.slice A m c) m (cs.take m) := by
  refine ⟨by rw [List.length_take, h.1]; omega, ?_⟩
  rcases h.2 with ⟨h2, _⟩ | ⟨g, cap, cur, hv, hb, hg, hnc, hmx, hs, ht⟩
  · injection h2 with h2 _ _; exact absurd h2 hA
  · injection hv with h1 h2 h3
    subst h3
    refine .inr ⟨g, c, cur, by rw [h1], hb, hg, by omega, hmx, hs, ?_⟩
    rw [← ht, List.take_take]
    congr 1; omega
/-- What stands ahead of the last statement. -/
theorem got_bent {w w5 : World} {g : Nat} {A : Option Addr} {l : List Nat} {c : Nat} {B : Option Addr} {cb : Nat} {r : Ru} (hg : r.go) (hs : r.seats.length ≤ 5) (ho : w5.ownsRow (w.heap.size + 1) 3 1 (.slice B r.seats.length cb) r.seats.length (ints r.seats)) (hc : Cur w5 g A l c) (gr : w.grownBy w5 (some g)) (hlt : g < w.heap.size) :
    GotRu w g A l c (.returned (ruV B cb r)) (put9 w5 w.heap.size B cb r) := by
  have hlo := own_low ho
  have hg9 : w5.grownBy (put9 w5 w.heap.size B cb r) (some w.heap.size) := by
    unfold put9
    exact (((((((((grown_setCell _ _ _ _).trans (grown_setCell _ _ _ _)).trans (grown_setCell _ _ _ _)).trans (grown_setCell _ _ _ _)).trans (grown_setCell _ _ _ _)).trans (grown_setCell _ _ _ _)).trans (grown_setCell _ _ _ _)).trans (grown_setCell _ _ _ _)).trans (grown_setCell _ _ _ _))
  exact ⟨r, B, cb, ⟨hg, hs⟩, rfl, put9_own (own_weak ho (by omega)) (fun h => by have := hlo _ h; omega), hc.grown hg9 (fun k hk => by injection hk with hk; omega), grown_step gr hg9 (fun k hk => by injection hk with hk; omega)⟩
end Go.Proofs.YtlflgflmlfileaaGreat
