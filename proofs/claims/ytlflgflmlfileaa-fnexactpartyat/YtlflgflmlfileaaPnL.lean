/- The laws' helpers over pins. -/
import Derived.Test.YtlflgflmlfileaaRows
import Derived.Test.YtlflgflmlfileaaRowX
namespace Go.Proofs.Ytlflgflmlfileaa
open Go.RowKit
set_option linter.unusedSimpArgs false
set_option linter.unusedVariables false
/-- Its numbers are ints. -/
def Pn.fits (x : Pn) : Prop := inI x.at_ ∧ inI x.id
set_option maxRecDepth 100000 in
theorem eqPin_same (x : Pn) (w : World) : Calls Try.prog 136 #[pnA x, pnA x] w fun e w' => e = .returned (.bool true) ∧ Below w.heap.size w w' := by
  obtain ⟨x0, x1⟩ := x
  unfold pnA
  have n0 : (x0 != x0) = false := by simp
  have n1 : (x1 != x1) = false := by simp
  go_enter Try.func136, Try.ntmps136
  go_wp2
  go_ret
  exact ⟨rfl, ((Below.refl _ _).alloc (Nat.le_refl _) _).alloc (by simp) _⟩
set_option maxRecDepth 100000 in
set_option maxHeartbeats 1600000 in
theorem toPin_any (x : Pn) (w : World) : Calls Try.prog 135 #[pnA x] w fun e w' => e = .returned (pnA x) ∧ Below w.heap.size w w' := by
  obtain ⟨x0, x1⟩ := x
  unfold pnA
  go_enter Try.func135, Try.ntmps135
  go_wp2
  simp [bodyPost, results, Try.results135, go_sem]
  exact (((Below.refl _ _).alloc (Nat.le_refl _) _).alloc (by simp) _).alloc (by simp; omega) _
set_option maxRecDepth 100000 in
theorem szPinS_any (B : Option Addr) (n c : Nat) (q : Int) (w : World) (hn : n ≤ 9223372036854775807) (hq : 0 ≤ q) (hq2 : q ≤ 1048576) :
    Calls Try.prog 121 #[.slice B n c, .int .i64 q] w fun e w' => (∃ r : Int, e = .returned (.int .i64 r) ∧ r ≤ 1048576 ∧ -1 ≤ r ∧ (0 ≤ r → n ≤ 1048576)) ∧ Below w.heap.size w w' := by
  by_cases h : q - n < 0
  · go_enter Try.func121, Try.ntmps121
    go_wp2
    go_ret
    exact ⟨⟨_, rfl, by omega, by omega, fun h => by omega⟩, Below.refl _ _⟩
  · go_enter Try.func121, Try.ntmps121
    go_wp2
    go_ret
    exact ⟨⟨_, rfl, by omega, by omega, fun h => by omega⟩, Below.refl _ _⟩
/-- toPinS halfway: k are copied over the cells Z. -/
def half_pn (Z : List Value) (l : List Pn) (k : Nat) : List Value := (l.take k).flatMap pnC ++ Z.drop (k * 2)
theorem half_pn_zero (Z : List Value) (l : List Pn) : half_pn Z l 0 = Z := by simp [half_pn]
theorem half_pn_all (Z : List Value) (l : List Pn) (hZ : Z.length = l.length * 2) : half_pn Z l l.length = l.flatMap pnC := by
  unfold half_pn; rw [List.take_length, List.drop_of_length_le (by omega), List.append_nil]
theorem half_pn_len (Z : List Value) (l : List Pn) (k : Nat) (hZ : Z.length = l.length * 2) (hk : k ≤ l.length) : (half_pn Z l k).length = l.length * 2 := by
  unfold half_pn
  rw [List.length_append, flat_len pnC 2 pnC_len, List.length_take, List.length_drop, hZ, Nat.min_eq_left hk]; omega
theorem half_pn_set (Z : List Value) (l : List Pn) (k : Nat) (hZ : Z.length = l.length * 2) (hk : k < l.length) :
    ((half_pn Z l k).set (k * 2) (.int .i64 (l.getD k pn0).at_)).set (k * 2 + 1) (.int .i64 (l.getD k pn0).id) = half_pn Z l (k + 1) := by
  have hlen : ((l.take k).flatMap pnC).length = k * 2 := by rw [flat_len pnC 2 pnC_len, List.length_take, Nat.min_eq_left (by omega)]
  obtain ⟨x0, x1, r, hd⟩ : ∃ x0 x1 r, Z.drop (k * 2) = x0 :: x1 :: r := by
    have : 2 ≤ (Z.drop (k * 2)).length := by rw [List.length_drop, hZ]; omega
    match h : Z.drop (k * 2), this with
    | x0 :: x1 :: r, _ => exact ⟨x0, x1, r, rfl⟩
  have hd3 : Z.drop ((k + 1) * 2) = r := by
    rw [show (k + 1) * 2 = 2 + k * 2 by omega, Nat.add_comm, ← List.drop_drop, hd]; rfl
  unfold half_pn
  rw [hd, hd3, take_snoc l k pn0 hk, List.flatMap_append, List.append_assoc]
  rw [List.set_append_right _ _ (by omega), hlen, Nat.sub_self, List.set_cons_zero]
  rw [List.set_append_right _ _ (by omega), hlen, show k * 2 + 1 - k * 2 = 1 by omega]
  rfl
set_option maxRecDepth 100000 in
set_option maxHeartbeats 1600000 in
theorem toPinS_any (A : Option Addr) (l : List Pn) (c : Nat) (w : World) (hl : l.length ≤ 2097152) (hA : Rws w w.heap.size A (l.flatMap pnC)) :
    Calls Try.prog 122 #[.slice A l.length c] w (NewR 177 2 w l.length (l.flatMap pnC)) := by
  obtain ⟨i0, hi, hz0, hz1, hz2⟩ := info_parts rowPin.inf
  obtain ⟨w1, hmk, o1, g1⟩ := run_make_full (P := Try.prog) w w.heap.size 160 177 i0 _ 2 Try.underlying160 hi hz0 hz1 .i64 .i64 l.length (by rw [hz2]; omega) (by unfold maxLen; omega) (Nat.le_refl _)
  have b1 : Below w.heap.size w w1 := (Below.refl _ _).grown g1 (Nat.le_refl _) (fun k hk => by cases hk)
  have hZ := o1.1
  generalize hZe : (madeCells (Value.cells (.agg #[.int .i64 0, .int .i64 0])) (l.length * 2)).toList = Z at *
  clear hi hz0 hz1 hz2 g1 hZe
  go_enter Try.func122, Try.ntmps122
  go_wp2
  go_loopw [4] (fun i wr => ∃ k : Nat, k ≤ l.length ∧ i = .int .i64 k ∧ wr.ownsRow w.heap.size 177 2 (.slice (some ⟨w.heap.size, 0, none⟩) l.length l.length) l.length (half_pn Z l k) ∧ Below w.heap.size w wr) (fun i _ => l.length - (intOf i).toNat)
  case atStart => exact ⟨0, by omega, rfl, by rw [half_pn_zero]; exact o1, b1⟩
  case round =>
    clear hmk o1 b1
    obtain ⟨k, hk, rfl, hown, hb⟩ := hrel
    by_cases hlt : k < l.length
    · obtain ⟨b, off, rfl, hbB, c0, c1⟩ := (hA.below hb).pn hlt
      have HS := Lib.hid (half_pn_set Z l k hZ hlt)
      have hln := half_pn_len Z l k hZ hk
      have C := Lib.hid (fun w => toPin_any (l.getD k pn0) w)
      unfold pnA at C
      generalize hx : l.getD k pn0 = x at *
      clear hx
      generalize hcs : half_pn Z l k = cs at *
      clear hcs
      have HO := Lib.hid hown
      clear hown
      go_wp2_with fail
      refine (C.out _).mono ?_
      rintro e w2 ⟨rfl, b2⟩
      have own1 := own_below HO.out b2
      have b3 : Below w.heap.size w w2 := hb.trans (b2.mono hb.size)
      obtain ⟨u0, hu0⟩ : ∃ u, w2.cell? ⟨w.heap.size, k * 2, none⟩ = some u := by rw [own1.cellAt _ (by omega)]; exact ⟨_, List.getElem?_eq_getElem (by omega)⟩
      have hf0 := own1.frozenAt (k * 2)
      obtain ⟨u1, hu1⟩ : ∃ u, w2.cell? ⟨w.heap.size, k * 2 + 1, none⟩ = some u := by rw [own1.cellAt _ (by omega)]; exact ⟨_, List.getElem?_eq_getElem (by omega)⟩
      have hf1 := own1.frozenAt (k * 2 + 1)
      have S0 := own1.stored (k * 2) (.int .i64 x.at_)
      have S1 := S0.1.stored (k * 2 + 1) (.int .i64 x.id)
      have SN := Lib.hid S1
      have BN := Lib.hid ((b3.setCell (p := ⟨w.heap.size, k * 2, none⟩) (by simp) (.int .i64 x.at_)).setCell (p := ⟨w.heap.size, k * 2 + 1, none⟩) (by simp) (.int .i64 x.id))
      clear S0 S1 own1 b2 b3 hb
      go_wp2
      go_roundw
      case rel => exact ⟨k + 1, by omega, by go_num, by rw [← HS.out]; exact SN.out.1, BN.out⟩
      case measure => simp [intOf]; omega
    · obtain rfl : k = l.length := by omega
      rw [half_pn_all Z l hZ] at hown
      have R := Lib.hid (NewR.of_own hown hb)
      clear hown hb
      go_wp2
      go_ret
      exact R.out
set_option maxRecDepth 100000 in
set_option maxHeartbeats 800000 in
/-- eqPinS on two slices that read alike. -/
theorem eqPinS_same (A A' : Option Addr) (l : List Pn) (c c' : Nat) (w : World) (hl : l.length ≤ 2097152) (hA : Rws w w.heap.size A (l.flatMap pnC)) (hA' : Rws w w.heap.size A' (l.flatMap pnC)) :
    Calls Try.prog 123 #[.slice A l.length c, .slice A' l.length c'] w fun e w' => e = .returned (.bool true) ∧ Below w.heap.size w w' := by
  have hne : ((l.length : Int) != (l.length : Int)) = false := by simp
  go_enter Try.func123, Try.ntmps123
  go_wp2
  go_loopw [5] (fun i wr => ∃ k : Nat, k ≤ l.length ∧ i = .int .i64 k ∧ Below w.heap.size w wr) (fun i _ => l.length - (intOf i).toNat)
  case atStart => exact ⟨0, by omega, rfl, Below.refl _ _⟩
  case round =>
    obtain ⟨k, hk, rfl, hb⟩ := hrel
    by_cases hlt : k < l.length
    · obtain ⟨b, off, rfl, hbB, c0⟩ := (hA.below hb).pn hlt
      obtain ⟨b', off', rfl, hbB', d0⟩ := (hA'.below hb).pn hlt
      generalize l.getD k pn0 = x at *
      have hbs := hb.size
      have K1 := Lib.hid (fun w' (h : Below wr.heap.size wr w') => Pn.here.below c0 h (by omega))
      have K2 := Lib.hid (fun w' (h : Below wr.heap.size wr w') => Pn.here.below d0 h (by omega))
      clear c0 d0
      go_wp2
      refine wp_region_held_drew (S := fun w' => Hid (Below wr.heap.size wr w')) (by kernel_rfl) (below_drawn (Below.refl _ _) 1) (fun hHeld => ?_)
      refine held_take 0 17 (.slice (some ⟨b, off, none⟩) l.length c) rfl rfl (by kernel_rfl) (by kernel_rfl) (by kernel_rfl) (fun _ _ _ h => h) rfl hHeld (fun w _ => rfl) ?_
      refine held_take 1 18 (.int .i64 (k : Int)) rfl rfl (by kernel_rfl) (by kernel_rfl) (by kernel_rfl) (fun _ _ _ h => h) rfl hHeld (fun w _ => rfl) ?_
      simp only [Act.put, List.setIfInBounds_toArray, List.set_cons_zero, List.set_cons_succ]
      refine held_take 2 19 (.pointer (some ⟨b, off + k * 2, none⟩)) rfl rfl (by kernel_rfl) (by kernel_rfl) (by kernel_rfl) (fun _ _ _ h => h) rfl hHeld (fun w _ => exec_idx_pn b off l.length c k w hlt) ?_
      refine held_take 3 20 (pnA x) rfl rfl (by kernel_rfl) (by kernel_rfl) (by kernel_rfl) (fun _ _ _ h => h) rfl hHeld (fun w h => exec_load_pn b (off + k * 2) x w (K1.out w h.out)) ?_
      simp only [Act.put, List.setIfInBounds_toArray, List.set_cons_zero, List.set_cons_succ]
      refine held_take 4 21 (.slice (some ⟨b', off', none⟩) l.length c') rfl rfl (by kernel_rfl) (by kernel_rfl) (by kernel_rfl) (fun _ _ _ h => h) rfl hHeld (fun w _ => rfl) ?_
      refine held_take 5 22 (.int .i64 (k : Int)) rfl rfl (by kernel_rfl) (by kernel_rfl) (by kernel_rfl) (fun _ _ _ h => h) rfl hHeld (fun w _ => rfl) ?_
      simp only [Act.put, List.setIfInBounds_toArray, List.set_cons_zero, List.set_cons_succ]
      refine held_take 6 23 (.pointer (some ⟨b', off' + k * 2, none⟩)) rfl rfl (by kernel_rfl) (by kernel_rfl) (by kernel_rfl) (fun _ _ _ h => h) rfl hHeld (fun w _ => exec_idx_pn b' off' l.length c' k w hlt) ?_
      refine held_take 7 24 (pnA x) rfl rfl (by kernel_rfl) (by kernel_rfl) (by kernel_rfl) (fun _ _ _ h => h) rfl hHeld (fun w h => exec_load_pn b' (off' + k * 2) x w (K2.out w h.out)) ?_
      simp only [Act.put, List.setIfInBounds_toArray, List.set_cons_zero, List.set_cons_succ]
      refine held_call 8 25 136 #[pnA x, pnA x] rfl rfl (by kernel_rfl) rfl (exec_call Try.func136 (by kernel_rfl) (by kernel_rfl) _) ?_
      refine (eqPin_same x _).mono ?_
      rintro e w1 ⟨rfl, b1'⟩
      have b1 : Hid (Below wr.heap.size wr w1) := hHeld.out.trans (b1'.mono hHeld.out.size)
      refine ⟨_, rfl, b1, ?_⟩
      simp only [Act.put, List.setIfInBounds_toArray, List.set_cons_zero, List.set_cons_succ]
      refine held_op 9 26 (.bool false) rfl rfl (by kernel_rfl) rfl rfl b1 ?_
      simp only [Act.put, List.setIfInBounds_toArray, List.set_cons_zero, List.set_cons_succ]
      refine wpAnyH_done (by kernel_rfl) ?_ _
      have b2 : Hid (Below w.heap.size w w1) := hb.trans (b1.out.mono hbs)
      clear b1 b1' hb K1 K2
      go_wp2
      go_roundw
      case rel => exact ⟨k + 1, by omega, by go_num, b2.out⟩
      case measure => simp [intOf]; omega
    · go_wp2
      go_ret
      exact ⟨rfl, hb⟩
/-- The marks from q on. -/
def mark_pn (q : Nat) : Pn := ⟨(q : Int), ((q + 1 : Nat) : Int)⟩
def marks_pn (k n : Nat) : List Pn := (List.range n).map fun i => mark_pn (k + i * 2)
theorem marks_pn_length (k n : Nat) : (marks_pn k n).length = n := by simp [marks_pn]
theorem marks_pn_getD (k n i : Nat) (h : i < n) : (marks_pn k n).getD i pn0 = mark_pn (k + i * 2) := by simp [marks_pn, h]
theorem marks_pn_succ (k j : Nat) : marks_pn k (j + 1) = marks_pn k j ++ [mark_pn (k + j * 2)] := by simp [marks_pn, List.range_succ]
def marked_pn (l : List Pn) (k j : Nat) : List Value := (marks_pn k j).flatMap pnC ++ (l.flatMap pnC).drop (j * 2)
theorem marked_pn_zero (l : List Pn) (k : Nat) : marked_pn l k 0 = l.flatMap pnC := by simp [marked_pn, marks_pn]
theorem marked_pn_all (l : List Pn) (k : Nat) : marked_pn l k l.length = (marks_pn k l.length).flatMap pnC := by
  unfold marked_pn; rw [List.drop_of_length_le (by rw [flat_len pnC 2 pnC_len]; omega), List.append_nil]
theorem marked_pn_len (l : List Pn) (k j : Nat) (hj : j ≤ l.length) : (marked_pn l k j).length = l.length * 2 := by
  unfold marked_pn
  rw [List.length_append, flat_len pnC 2 pnC_len, marks_pn_length, List.length_drop, flat_len pnC 2 pnC_len]; omega
theorem marked_pn_set (l : List Pn) (k j : Nat) (hj : j < l.length) :
    ((marked_pn l k j).set (j * 2) (.int .i64 ((k + j * 2 : Nat) : Int))).set (j * 2 + 1) (.int .i64 ((k + j * 2 + 1 : Nat) : Int)) = marked_pn l k (j + 1) := by
  have hlen : ((marks_pn k j).flatMap pnC).length = j * 2 := by rw [flat_len pnC 2 pnC_len, marks_pn_length]
  have hl : (l.flatMap pnC).length = l.length * 2 := flat_len pnC 2 pnC_len l
  obtain ⟨x0, x1, r, hd⟩ : ∃ x0 x1 r, (l.flatMap pnC).drop (j * 2) = x0 :: x1 :: r := by
    have : 2 ≤ ((l.flatMap pnC).drop (j * 2)).length := by rw [List.length_drop, hl]; omega
    match h : (l.flatMap pnC).drop (j * 2), this with
    | x0 :: x1 :: r, _ => exact ⟨x0, x1, r, rfl⟩
  have hd3 : (l.flatMap pnC).drop ((j + 1) * 2) = r := by
    rw [show (j + 1) * 2 = 2 + j * 2 by omega, Nat.add_comm, ← List.drop_drop, hd]; rfl
  unfold marked_pn
  rw [hd, hd3, marks_pn_succ, List.flatMap_append, List.append_assoc]
  rw [List.set_append_right _ _ (by omega), hlen, Nat.sub_self, List.set_cons_zero]
  rw [List.set_append_right _ _ (by omega), hlen, show j * 2 + 1 - j * 2 = 1 by omega]
  rfl
end Go.Proofs.Ytlflgflmlfileaa
