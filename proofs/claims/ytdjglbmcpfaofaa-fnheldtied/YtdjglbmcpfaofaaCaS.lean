/- slices.SortFunc of pins, at every length. -/
import Derived.Test.YtdjglbmcpfaofaaRows
import Derived.Test.YtdjglbmcpfaofaaCmpI
import Derived.Test.YtdjglbmcpfaofaaCaM
import Derived.Test.YtdjglbmcpfaofaaSort
import Derived.Shelf.SlSortCmp.NoneTotal
namespace Go.Proofs.Ytdjglbmcpfaofaa
open Go.RowKit
set_option linter.unusedSimpArgs false
set_option linter.unusedVariables false
def cmpPn (x y : Pn) : Int := orV (cmpV x.at_ y.at_) (cmpV x.id y.id)
set_option maxRecDepth 100000 in
theorem exec_fldPn {ρ : Operand → Value} {o : Oper} {x : Operand} (b off f : Nat) (w : World) (hf : f < 2) (ho : o.op = .fieldAddr 70 x f := by rfl) (hx : ρ x = .pointer (some ⟨b, off, none⟩) := by rfl) :
    (execOp ρ o).run Try.prog w = .ok (.value (.pointer (some ⟨b, off + f, none⟩))) w := by
  unfold execOp
  rw [ho]
  rcases (show f = 0 ∨ f = 1 by omega) with rfl | rfl <;> simp [go_sem, hx]
set_option maxRecDepth 100000 in
set_option maxHeartbeats 1600000 in
theorem pinOrder_grow (a b : Pn) (w : World) : Calls Try.prog 47 #[pnA a, pnA b] w fun e w' => e = .returned (.int .i64 (cmpPn a b)) ∧ ∃ q os', w' = Sort.grow (w.drewN q) os' := by
  obtain ⟨W, hW⟩ : ∃ W, (w.alloc (.cells #[.int .i64 a.at_, .int .i64 a.id] 70)).alloc (.cells #[.int .i64 b.at_, .int .i64 b.id] 70) = W := ⟨_, rfl⟩
  have b0 : Hid (Below w.heap.size w W) := by
    show Below _ _ _
    rw [← hW]; exact ((Below.refl _ _).alloc (Nat.le_refl _) _).alloc (by simp) _
  have hWs : W.heap.size = w.heap.size + 2 := by rw [← hW]; simp
  have g1 : W.heap[w.heap.size]? = some (.cells #[.int .i64 a.at_, .int .i64 a.id] 70) := by rw [← hW]; exact blk_alloc (heap_new _ _) _
  have g2 : W.heap[w.heap.size + 1]? = some (.cells #[.int .i64 b.at_, .int .i64 b.id] 70) := by
    rw [← hW]
    have := heap_new (w.alloc (.cells #[.int .i64 a.at_, .int .i64 a.id] 70)) (.cells #[.int .i64 b.at_, .int .i64 b.id] 70)
    simpa using this
  have HA := Lib.hid (fun w' (h : Below W.heap.size W w') => Pn.here.blk (blk_call g1 h))
  have HB := Lib.hid (fun w' (h : Below W.heap.size W w') => Pn.here.blk (blk_call g2 h))
  clear g1 g2
  unfold pnA
  go_enter Try.func47, Try.ntmps47
  go_wp2_with fail
  have HW := Lib.hid hW
  clear hW
  refine wp_region_held_drew (S := fun w' => Hid (Below W.heap.size W w')) (by kernel_rfl) (below_drawn (Below.refl _ _) 1) (fun hHeld => ?_)
  refine held_take 0 5 (.pointer (some ⟨w.heap.size, 0, none⟩)) rfl rfl (by kernel_rfl) (by kernel_rfl) (by kernel_rfl) (fun _ _ _ h => h) rfl hHeld (fun w _ => exec_fldPn _ 0 0 w (by omega)) ?_
  refine held_take 1 6 (.int .i64 a.at_) rfl rfl (by kernel_rfl) (by kernel_rfl) (by kernel_rfl) (fun _ _ _ h => h) rfl hHeld (fun w h => exec_load1 3 _ 0 _ w (.inl rfl) (HA.out w h.out).1) ?_
  simp only [Act.put, List.setIfInBounds_toArray, List.set_cons_zero, List.set_cons_succ]
  refine held_take 2 7 (.pointer (some ⟨w.heap.size + 1, 0, none⟩)) rfl rfl (by kernel_rfl) (by kernel_rfl) (by kernel_rfl) (fun _ _ _ h => h) rfl hHeld (fun w _ => exec_fldPn _ 0 0 w (by omega)) ?_
  refine held_take 3 8 (.int .i64 b.at_) rfl rfl (by kernel_rfl) (by kernel_rfl) (by kernel_rfl) (fun _ _ _ h => h) rfl hHeld (fun w h => exec_load1 3 _ 0 _ w (.inl rfl) (HB.out w h.out).1) ?_
  simp only [Act.put, List.setIfInBounds_toArray, List.set_cons_zero, List.set_cons_succ]
  refine held_take 5 10 (.pointer (some ⟨w.heap.size, 1, none⟩)) rfl rfl (by kernel_rfl) (by kernel_rfl) (by kernel_rfl) (fun _ _ _ h => h) rfl hHeld (fun w _ => exec_fldPn _ 0 1 w (by omega)) ?_
  refine held_take 6 11 (.int .i64 a.id) rfl rfl (by kernel_rfl) (by kernel_rfl) (by kernel_rfl) (fun _ _ _ h => h) rfl hHeld (fun w h => exec_load1 3 _ 1 _ w (.inl rfl) (HA.out w h.out).2) ?_
  simp only [Act.put, List.setIfInBounds_toArray, List.set_cons_zero, List.set_cons_succ]
  refine held_take 7 12 (.pointer (some ⟨w.heap.size + 1, 1, none⟩)) rfl rfl (by kernel_rfl) (by kernel_rfl) (by kernel_rfl) (fun _ _ _ h => h) rfl hHeld (fun w _ => exec_fldPn _ 0 1 w (by omega)) ?_
  refine held_take 8 13 (.int .i64 b.id) rfl rfl (by kernel_rfl) (by kernel_rfl) (by kernel_rfl) (fun _ _ _ h => h) rfl hHeld (fun w h => exec_load1 3 _ 1 _ w (.inl rfl) (HB.out w h.out).2) ?_
  simp only [Act.put, List.setIfInBounds_toArray, List.set_cons_zero, List.set_cons_succ]
  refine held_call 4 9 83 #[.int .i64 a.at_, .int .i64 b.at_] rfl rfl (by kernel_rfl) rfl (exec_call Try.func83 (by kernel_rfl) (by kernel_rfl) _) ?_
  refine (compare_im _ _ _).mono ?_
  rintro e u ⟨rfl, rfl⟩
  refine ⟨_, rfl, hHeld, ?_⟩
  simp only [Act.put, List.setIfInBounds_toArray, List.set_cons_zero, List.set_cons_succ]
  refine held_call 9 14 83 #[.int .i64 a.id, .int .i64 b.id] rfl rfl (by kernel_rfl) rfl (exec_call Try.func83 (by kernel_rfl) (by kernel_rfl) _) ?_
  refine (compare_im _ _ _).mono ?_
  rintro e u ⟨rfl, rfl⟩
  refine ⟨_, rfl, hHeld, ?_⟩
  have k1 := hHeld.out.alloc hHeld.out.size (.cells #[.int .i64 (cmpV a.at_ b.at_), .int .i64 (cmpV a.id b.id)] 3)
  simp only [Act.put, List.setIfInBounds_toArray, List.set_cons_zero, List.set_cons_succ]
  refine held_op 10 15 (.slice (some ⟨W.drew.heap.size, 0, none⟩) 2 2) rfl rfl (by kernel_rfl) rfl (exec_two_int _ _ _) (Lib.hid k1) ?_
  simp only [Act.put, List.setIfInBounds_toArray, List.set_cons_zero, List.set_cons_succ]
  refine held_call 11 16 82 #[.slice (some ⟨W.drew.heap.size, 0, none⟩) 2 2] rfl rfl (by kernel_rfl) rfl (exec_call Try.func82 (by kernel_rfl) (by kernel_rfl) _) ?_
  refine (or_im _ 0 _ _ _ (cell_new2 _ _ _ _ 0 (by omega)) (cell_new2 _ _ _ _ 1 (by omega))).mono ?_
  rintro e u ⟨rfl, rfl⟩
  refine ⟨_, rfl, Lib.hid k1, ?_⟩
  simp only [Act.put, List.setIfInBounds_toArray, List.set_cons_zero, List.set_cons_succ]
  refine held_op 12 4 (.int .i64 (orV (cmpV a.at_ b.at_) (cmpV a.id b.id))) rfl rfl (by kernel_rfl) rfl rfl (Lib.hid k1) ?_
  simp only [Act.put, List.setIfInBounds_toArray, List.set_cons_zero, List.set_cons_succ]
  refine wpAnyH_done (by kernel_rfl) ?_ _
  go_wp2
  go_ret
  refine ⟨rfl, 1, #[.cells #[.int .i64 a.at_, .int .i64 a.id] 70, .cells #[.int .i64 b.at_, .int .i64 b.id] 70, .cells #[.int .i64 (cmpV a.at_ b.at_), .int .i64 (cmpV a.id b.id)] 3], ?_⟩
  rw [← HW.out, Sort.alloc_eq_grow, Sort.alloc_eq_grow, Sort.alloc_eq_grow]
  show Sort.grow (Sort.grow (Sort.grow (w.drewN 1) _) _) _ = _
  rw [Sort.grow_grow, Sort.grow_grow]
  rfl
def pnZ : Pn := pn0
instance : Inhabited Pn := ⟨pnZ⟩
theorem flatK_flat (l : List Pn) : Sort.flatK pnC 2 l.toArray = (l.flatMap pnC).toArray := by
  apply Array.ext
  · simp [flat_len pnC 2 pnC_len]
  · intro t h1 h2
    have ht : t < l.length * 2 := by simpa using h1
    have e := Sort.get_flatK pnC 2 l.toArray t (by simpa using ht)
    rw [getElem!_pos (Sort.flatK pnC 2 l.toArray) t h1] at e
    rw [e]
    have hd : t / 2 < l.length := by omega
    have hm : t % 2 < 2 := Nat.mod_lt _ (by omega)
    have f := flat_get pnC 2 pnC_len l (t / 2) (t % 2) pn0 hd hm
    rw [show t / 2 * 2 + t % 2 = t from by omega] at f
    have g : (l.flatMap pnC)[t]? = some (l.flatMap pnC).toArray[t] := by simp
    rw [g] at f
    have e1 : l.toArray[t / 2]! = l.getD (t / 2) pn0 := by
      rw [getElem!_pos l.toArray (t / 2) (by simpa using hd)]
      simp [List.getD_eq_getElem?_getD, hd]
    rw [e1]
    have hlen : t % 2 < (pnC (l.getD (t / 2) pn0)).length := by rw [pnC_len]; exact hm
    rw [List.getElem?_eq_getElem hlen] at f
    rw [getElem!_pos (pnC (l.getD (t / 2) pn0)) (t % 2) hlen]
    exact (Option.some.inj f).symm
theorem heap_sortedV {w : World} {g n : Nat} {os : Array Obj} {cur : Array Value} {e : TypeId} {fr : Nat × Nat} (d : Array Value) (hb : w.heap[g]? = some (.cells cur e fr)) :
    (Sort.grow (Sort.putRow id (Sort.ahead w n) g 0 d) os).heap[g]? = some (.cells (Sort.putCells id 0 d cur) e fr) := by
  have hg : g < w.heap.size := (Array.getElem?_eq_some_iff.1 hb).1
  rw [Sort.heap_grow_old _ _ (by simpa using hg)]
  simp [Sort.putRow, Sort.mapBlock, Sort.ahead, Array.getElem?_modify, hb, Sort.onCells]
theorem grownBy_sortedV {w : World} {g n : Nat} {os : Array Obj} (d : Array Value) : w.grownBy (Sort.grow (Sort.putRow id (Sort.ahead w n) g 0 d) os) (some g) := by
  refine ⟨rfl, rfl, rfl, by simp, fun k hk hne => ?_⟩
  rw [Sort.heap_grow_old _ _ (by simpa using hk)]
  have : g ≠ k := fun e => hne (by rw [e])
  simp [Sort.putRow, Sort.mapBlock, Sort.ahead, Array.getElem?_modify, this]
theorem take_putCellsV (cur : Array Value) (ts : List Value) (h : ts.length ≤ cur.size) : (Sort.putCells id 0 ts.toArray cur).toList.take ts.length = ts := by
  apply List.ext_getElem?
  intro j
  by_cases hj : j < ts.length
  · rw [List.getElem?_take_of_lt hj, Array.getElem?_toList]
    simp [Sort.putCells, hj, show j < cur.size by omega]
  · rw [List.getElem?_take_eq_none (by omega), List.getElem?_eq_none (by omega)]
theorem ownsRow_sortedV {w : World} {base g cap n m sz : Nat} {e : TypeId} {os : Array Obj} {cur : Array Value} {vs : List Value} (hv : vs.length = m * sz) (hbase : base ≤ g) (hb : w.heap[g]? = some (.cells cur e (0, 0)))
    (h1 : m ≤ cap) (h2 : cap ≤ maxLen) (h3 : cur.size = cap * sz) :
    (Sort.grow (Sort.putRow id (Sort.ahead w n) g 0 vs.toArray) os).ownsRow base e sz (.slice (some ⟨g, 0, none⟩) m cap) m vs :=
  ⟨hv, .inr ⟨g, cap, _, rfl, hbase, heap_sortedV _ hb, h1, h2, by simp [Sort.putCells, h3], by rw [← hv]; exact take_putCellsV cur vs (by rw [hv, h3]; exact Nat.mul_le_mul_right _ h1)⟩⟩
theorem holds_ownV {w : World} {base g cap m sz : Nat} {e : TypeId} {vs : List Value} (h : w.ownsRow base e sz (.slice (some ⟨g, 0, none⟩) m cap) m vs) : Sort.Holds id w g 0 vs.toArray := by
  intro j hj
  have hj' : j < vs.length := by simpa using hj
  refine ⟨?_, ?_⟩
  · rw [Nat.zero_add, h.cellAt j (by rw [← h.1]; exact hj')]; simp [hj']
  · rw [Nat.zero_add]; exact h.frozenAt j
theorem cmpPn_lt (a b : Pn) : ltOf cmpPn a b = decide (a.at_ < b.at_ ∨ (a.at_ = b.at_ ∧ a.id < b.id)) := by
  unfold ltOf cmpPn orV cmpV
  by_cases h1 : a.at_ < b.at_
  · simp [h1]
  · by_cases h2 : b.at_ < a.at_
    · have h3 : ¬ a.at_ = b.at_ := by omega
      simp [h1, h2, h3]
    · have h3 : a.at_ = b.at_ := by omega
      by_cases h4 : a.id < b.id
      · simp [h3, h4]
      · by_cases h5 : b.id < a.id
        · simp [h3, h4, h5]
        · simp [h3, h4, h5]
theorem cmpPn_swo : Sort.SWO (ltOf cmpPn) := by
  constructor
  · intro x; rw [cmpPn_lt]; simp
  · intro x y z h1 h2; rw [cmpPn_lt] at *; simp at *; omega
  · intro x y z h1 h2; rw [cmpPn_lt] at *; simp at *; omega
set_option maxRecDepth 100000 in
set_option maxHeartbeats 1600000 in
theorem sortPins_impl (l : List Pn) (base g cap : Nat) (w : World) (hl62 : l.length ≤ 2097152) (hown : w.ownsRow base 70 2 (.slice (some ⟨g, 0, none⟩) l.length cap) l.length (l.flatMap pnC)) :
    Calls Try.prog 46 #[.slice (some ⟨g, 0, none⟩) l.length cap, .func (.func 47) #[] #[]] w fun e w' => e = .returned (.tuple #[]) ∧ ∃ l' : List Pn, l'.Perm l ∧ (∀ i j, i < j → j < l'.length → ¬ ((l'.getD j pn0).at_ < (l'.getD i pn0).at_ ∨ ((l'.getD j pn0).at_ = (l'.getD i pn0).at_ ∧ (l'.getD j pn0).id < (l'.getD i pn0).id))) ∧ w'.ownsRow base 70 2 (.slice (some ⟨g, 0, none⟩) l.length cap) l.length (l'.flatMap pnC) ∧ w.grownBy w' (some g) := by
  have hlt : g < w.heap.size ∧ ∃ cur, w.heap[g]? = some (.cells cur 70 (0, 0)) ∧ base ≤ g ∧ l.length ≤ cap ∧ cap ≤ maxLen ∧ cur.size = cap * 2 := by
    rcases hown.2 with ⟨h0, _⟩ | ⟨g', cap', cur, he, hb, hgb, hnc, hm, hs, hty⟩
    · cases h0
    · cases he
      exact ⟨(Array.getElem?_eq_some_iff.1 hgb).1, cur, hgb, hb, hnc, hm, hs⟩
  obtain ⟨hlt, cur, hgb, hbase, hnc, hm, hs⟩ := hlt
  have eg : ∀ args w, (callFunc 47 args).run Try.prog w = .ok (.enter 47 args) w := enters_of Try.func47 (by kernel_rfl) rfl
  have hH : Sort.HoldsK pnC 2 w g 0 l.toArray := by
    unfold Sort.HoldsK
    rw [flatK_flat]
    exact holds_ownV hown
  have C := AnyQ.slices_SortFunc Try.sortPin 2 Try.isAgg70 Try.sizeOf70 pnC pnC_len (fun x v hv => by simp [pnC] at hv; rcases hv with rfl | rfl <;> rfl) cmpPn cmpPn_swo 47 #[] g 0 cap l.toArray w eg (fun _ _ _ _ x y => pinOrder_grow x y _) hH hlt (by rw [show l.toArray.size = l.length by simp]; omega)
  refine C.mono ?_
  rintro e w' ⟨rfl, d', n, os, ⟨p1, -, p2⟩, p3, rfl⟩
  have hsz : d'.size = l.length := by simpa using p1
  have hd : d' = d'.toList.toArray := by simp
  refine ⟨rfl, d'.toList, ?_, ?_, ?_, ?_⟩
  · simp at p2
    rwa [List.take_of_length_le (by simp [hsz])] at p2
  · intro i j hij hj
    have hj' : j < d'.size := by simpa using hj
    have := p3 i j (Nat.zero_le _) hij (by simpa [hsz] using hj')
    rw [cmpPn_lt] at this
    have := of_decide_eq_false this
    rw [getElem!_pos d' j hj', getElem!_pos d' i (by omega)] at this
    simpa [List.getD_eq_getElem?_getD, hj', show i < d'.size by omega] using this
  · unfold sortWorldK Sort.putRowK
    rw [hd, flatK_flat]
    have hlen : (d'.toList.flatMap pnC).length = l.length * 2 := by rw [flat_len pnC 2 pnC_len]; simp [hsz]
    simpa using ownsRow_sortedV (n := n) (os := os) hlen hbase hgb hnc hm hs
  · unfold sortWorldK Sort.putRowK
    exact grownBy_sortedV _
end Go.Proofs.Ytdjglbmcpfaofaa
