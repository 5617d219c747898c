/- The laws' helpers over parties. -/
import Derived.Test.YtlflgflmlfileaaRows
import Derived.Test.YtlflgflmlfileaaRowX
import Derived.Test.YtlflgflmlfileaaPtW
namespace Go.Proofs.Ytlflgflmlfileaa
open Go.RowKit
set_option linter.unusedSimpArgs false
set_option linter.unusedVariables false
/-- Its numbers are ints. -/
def Pt.fits (x : Pt) : Prop := inI x.id ∧ inI x.cabin ∧ inI x.from_ ∧ inI x.size ∧ inI x.tier ∧ inI x.since ∧ inI x.turn ∧ inI x.state ∧ inI x.until_ ∧ inI x.asked
set_option maxRecDepth 100000 in
theorem eqParty_same (x : Pt) (w : World) : Calls Try.prog 65 #[ptA x, ptA x] w fun e w' => e = .returned (.bool true) ∧ Below w.heap.size w w' := by
  obtain ⟨x0, x1, x2, x3, x4, x5, x6, x7, x8, x9⟩ := x
  unfold ptA
  have n0 : (x0 != x0) = false := by simp
  have n1 : (x1 != x1) = false := by simp
  have n2 : (x2 != x2) = false := by simp
  have n3 : (x3 != x3) = false := by simp
  have n4 : (x4 != x4) = false := by simp
  have n5 : (x5 != x5) = false := by simp
  have n6 : (x6 != x6) = false := by simp
  have n7 : (x7 != x7) = false := by simp
  have n8 : (x8 != x8) = false := by simp
  have n9 : (x9 != x9) = false := by simp
  go_enter Try.func65, Try.ntmps65
  go_wp2
  go_ret
  exact ⟨rfl, ((Below.refl _ _).alloc (Nat.le_refl _) _).alloc (by simp) _⟩
set_option maxRecDepth 100000 in
theorem szPartyS_any (B : Option Addr) (n c : Nat) (q : Int) (w : World) (hn : n ≤ 9223372036854775807) (hq : 0 ≤ q) (hq2 : q ≤ 1048576) :
    Calls Try.prog 19 #[.slice B n c, .int .i64 q] w fun e w' => (∃ r : Int, e = .returned (.int .i64 r) ∧ r ≤ 1048576 ∧ -1 ≤ r ∧ (0 ≤ r → n ≤ 1048576)) ∧ Below w.heap.size w w' := by
  by_cases h : q - n < 0
  · go_enter Try.func19, Try.ntmps19
    go_wp2
    go_ret
    exact ⟨⟨_, rfl, by omega, by omega, fun h => by omega⟩, Below.refl _ _⟩
  · go_enter Try.func19, Try.ntmps19
    go_wp2
    go_ret
    exact ⟨⟨_, rfl, by omega, by omega, fun h => by omega⟩, Below.refl _ _⟩
/-- toPartyS halfway: k are copied over the cells Z. -/
def half_pt (Z : List Value) (l : List Pt) (k : Nat) : List Value := (l.take k).flatMap ptC ++ Z.drop (k * 10)
theorem half_pt_zero (Z : List Value) (l : List Pt) : half_pt Z l 0 = Z := by simp [half_pt]
theorem half_pt_all (Z : List Value) (l : List Pt) (hZ : Z.length = l.length * 10) : half_pt Z l l.length = l.flatMap ptC := by
  unfold half_pt; rw [List.take_length, List.drop_of_length_le (by omega), List.append_nil]
theorem half_pt_len (Z : List Value) (l : List Pt) (k : Nat) (hZ : Z.length = l.length * 10) (hk : k ≤ l.length) : (half_pt Z l k).length = l.length * 10 := by
  unfold half_pt
  rw [List.length_append, flat_len ptC 10 ptC_len, List.length_take, List.length_drop, hZ, Nat.min_eq_left hk]; omega
theorem half_pt_set (Z : List Value) (l : List Pt) (k : Nat) (hZ : Z.length = l.length * 10) (hk : k < l.length) :
    ((((((((((half_pt Z l k).set (k * 10) (.int .i64 (l.getD k pt0).id)).set (k * 10 + 1) (.int .i64 (l.getD k pt0).cabin)).set (k * 10 + 2) (.int .i64 (l.getD k pt0).from_)).set (k * 10 + 3) (.int .i64 (l.getD k pt0).size)).set (k * 10 + 4) (.int .i64 (l.getD k pt0).tier)).set (k * 10 + 5) (.int .i64 (l.getD k pt0).since)).set (k * 10 + 6) (.int .i64 (l.getD k pt0).turn)).set (k * 10 + 7) (.int .i64 (l.getD k pt0).state)).set (k * 10 + 8) (.int .i64 (l.getD k pt0).until_)).set (k * 10 + 9) (.int .i64 (l.getD k pt0).asked) = half_pt Z l (k + 1) := by
  have hlen : ((l.take k).flatMap ptC).length = k * 10 := by rw [flat_len ptC 10 ptC_len, List.length_take, Nat.min_eq_left (by omega)]
  obtain ⟨x0, x1, x2, x3, x4, x5, x6, x7, x8, x9, r, hd⟩ : ∃ x0 x1 x2 x3 x4 x5 x6 x7 x8 x9 r, Z.drop (k * 10) = x0 :: x1 :: x2 :: x3 :: x4 :: x5 :: x6 :: x7 :: x8 :: x9 :: r := by
    have : 10 ≤ (Z.drop (k * 10)).length := by rw [List.length_drop, hZ]; omega
    match h : Z.drop (k * 10), this with
    | x0 :: x1 :: x2 :: x3 :: x4 :: x5 :: x6 :: x7 :: x8 :: x9 :: r, _ => exact ⟨x0, x1, x2, x3, x4, x5, x6, x7, x8, x9, r, rfl⟩
  have hd3 : Z.drop ((k + 1) * 10) = r := by
    rw [show (k + 1) * 10 = 10 + k * 10 by omega, Nat.add_comm, ← List.drop_drop, hd]; rfl
  unfold half_pt
  rw [hd, hd3, take_snoc l k pt0 hk, List.flatMap_append, List.append_assoc]
  rw [List.set_append_right _ _ (by omega), hlen, Nat.sub_self, List.set_cons_zero]
  rw [List.set_append_right _ _ (by omega), hlen, show k * 10 + 1 - k * 10 = 1 by omega]
  rw [List.set_append_right _ _ (by omega), hlen, show k * 10 + 2 - k * 10 = 2 by omega]
  rw [List.set_append_right _ _ (by omega), hlen, show k * 10 + 3 - k * 10 = 3 by omega]
  rw [List.set_append_right _ _ (by omega), hlen, show k * 10 + 4 - k * 10 = 4 by omega]
  rw [List.set_append_right _ _ (by omega), hlen, show k * 10 + 5 - k * 10 = 5 by omega]
  rw [List.set_append_right _ _ (by omega), hlen, show k * 10 + 6 - k * 10 = 6 by omega]
  rw [List.set_append_right _ _ (by omega), hlen, show k * 10 + 7 - k * 10 = 7 by omega]
  rw [List.set_append_right _ _ (by omega), hlen, show k * 10 + 8 - k * 10 = 8 by omega]
  rw [List.set_append_right _ _ (by omega), hlen, show k * 10 + 9 - k * 10 = 9 by omega]
  rfl
set_option maxRecDepth 100000 in
set_option maxHeartbeats 1600000 in
theorem toPartyS_any (A : Option Addr) (l : List Pt) (c : Nat) (w : World) (hl : l.length ≤ 2097152) (hA : Rws w w.heap.size A (l.flatMap ptC)) :
    Calls Try.prog 21 #[.slice A l.length c] w (NewR 54 10 w l.length (l.flatMap ptC)) := by
  obtain ⟨i0, hi, hz0, hz1, hz2⟩ := info_parts rowPty.inf
  obtain ⟨w1, hmk, o1, g1⟩ := run_make_full (P := Try.prog) w w.heap.size 42 54 i0 _ 10 Try.underlying42 hi hz0 hz1 .i64 .i64 l.length (by rw [hz2]; omega) (by unfold maxLen; omega) (Nat.le_refl _)
  have b1 : Below w.heap.size w w1 := (Below.refl _ _).grown g1 (Nat.le_refl _) (fun k hk => by cases hk)
  have hZ := o1.1
  generalize hZe : (madeCells (Value.cells (.agg #[.int .i64 0, .int .i64 0, .int .i64 0, .int .i64 0, .int .i64 0, .int .i64 0, .int .i64 0, .int .i64 0, .int .i64 0, .int .i64 0])) (l.length * 10)).toList = Z at *
  clear hi hz0 hz1 hz2 g1 hZe
  go_enter Try.func21, Try.ntmps21
  go_wp2
  go_loopw [4] (fun i wr => ∃ k : Nat, k ≤ l.length ∧ i = .int .i64 k ∧ wr.ownsRow w.heap.size 54 10 (.slice (some ⟨w.heap.size, 0, none⟩) l.length l.length) l.length (half_pt Z l k) ∧ Below w.heap.size w wr) (fun i _ => l.length - (intOf i).toNat)
  case atStart => exact ⟨0, by omega, rfl, by rw [half_pt_zero]; exact o1, b1⟩
  case round =>
    clear hmk o1 b1
    obtain ⟨k, hk, rfl, hown, hb⟩ := hrel
    by_cases hlt : k < l.length
    · obtain ⟨b, off, rfl, hbB, c0, c1, c2, c3, c4, c5, c6, c7, c8, c9⟩ := (hA.below hb).pt hlt
      have HS := Lib.hid (half_pt_set Z l k hZ hlt)
      have hln := half_pt_len Z l k hZ hk
      have C := Lib.hid (fun w => toParty_any (l.getD k pt0) w)
      unfold ptA at C
      generalize hx : l.getD k pt0 = x at *
      clear hx
      generalize hcs : half_pt Z l k = cs at *
      clear hcs
      have HO := Lib.hid hown
      clear hown
      go_wp2_with fail
      refine (C.out _).mono ?_
      rintro e w2 ⟨rfl, b2⟩
      have own1 := own_below HO.out b2
      have b3 : Below w.heap.size w w2 := hb.trans (b2.mono hb.size)
      obtain ⟨u0, hu0⟩ : ∃ u, w2.cell? ⟨w.heap.size, k * 10, none⟩ = some u := by rw [own1.cellAt _ (by omega)]; exact ⟨_, List.getElem?_eq_getElem (by omega)⟩
      have hf0 := own1.frozenAt (k * 10)
      obtain ⟨u1, hu1⟩ : ∃ u, w2.cell? ⟨w.heap.size, k * 10 + 1, none⟩ = some u := by rw [own1.cellAt _ (by omega)]; exact ⟨_, List.getElem?_eq_getElem (by omega)⟩
      have hf1 := own1.frozenAt (k * 10 + 1)
      obtain ⟨u2, hu2⟩ : ∃ u, w2.cell? ⟨w.heap.size, k * 10 + 2, none⟩ = some u := by rw [own1.cellAt _ (by omega)]; exact ⟨_, List.getElem?_eq_getElem (by omega)⟩
      have hf2 := own1.frozenAt (k * 10 + 2)
      obtain ⟨u3, hu3⟩ : ∃ u, w2.cell? ⟨w.heap.size, k * 10 + 3, none⟩ = some u := by rw [own1.cellAt _ (by omega)]; exact ⟨_, List.getElem?_eq_getElem (by omega)⟩
      have hf3 := own1.frozenAt (k * 10 + 3)
      obtain ⟨u4, hu4⟩ : ∃ u, w2.cell? ⟨w.heap.size, k * 10 + 4, none⟩ = some u := by rw [own1.cellAt _ (by omega)]; exact ⟨_, List.getElem?_eq_getElem (by omega)⟩
      have hf4 := own1.frozenAt (k * 10 + 4)
      obtain ⟨u5, hu5⟩ : ∃ u, w2.cell? ⟨w.heap.size, k * 10 + 5, none⟩ = some u := by rw [own1.cellAt _ (by omega)]; exact ⟨_, List.getElem?_eq_getElem (by omega)⟩
      have hf5 := own1.frozenAt (k * 10 + 5)
      obtain ⟨u6, hu6⟩ : ∃ u, w2.cell? ⟨w.heap.size, k * 10 + 6, none⟩ = some u := by rw [own1.cellAt _ (by omega)]; exact ⟨_, List.getElem?_eq_getElem (by omega)⟩
      have hf6 := own1.frozenAt (k * 10 + 6)
      obtain ⟨u7, hu7⟩ : ∃ u, w2.cell? ⟨w.heap.size, k * 10 + 7, none⟩ = some u := by rw [own1.cellAt _ (by omega)]; exact ⟨_, List.getElem?_eq_getElem (by omega)⟩
      have hf7 := own1.frozenAt (k * 10 + 7)
      obtain ⟨u8, hu8⟩ : ∃ u, w2.cell? ⟨w.heap.size, k * 10 + 8, none⟩ = some u := by rw [own1.cellAt _ (by omega)]; exact ⟨_, List.getElem?_eq_getElem (by omega)⟩
      have hf8 := own1.frozenAt (k * 10 + 8)
      obtain ⟨u9, hu9⟩ : ∃ u, w2.cell? ⟨w.heap.size, k * 10 + 9, none⟩ = some u := by rw [own1.cellAt _ (by omega)]; exact ⟨_, List.getElem?_eq_getElem (by omega)⟩
      have hf9 := own1.frozenAt (k * 10 + 9)
      have S0 := own1.stored (k * 10) (.int .i64 x.id)
      have S1 := S0.1.stored (k * 10 + 1) (.int .i64 x.cabin)
      have S2 := S1.1.stored (k * 10 + 2) (.int .i64 x.from_)
      have S3 := S2.1.stored (k * 10 + 3) (.int .i64 x.size)
      have S4 := S3.1.stored (k * 10 + 4) (.int .i64 x.tier)
      have S5 := S4.1.stored (k * 10 + 5) (.int .i64 x.since)
      have S6 := S5.1.stored (k * 10 + 6) (.int .i64 x.turn)
      have S7 := S6.1.stored (k * 10 + 7) (.int .i64 x.state)
      have S8 := S7.1.stored (k * 10 + 8) (.int .i64 x.until_)
      have S9 := S8.1.stored (k * 10 + 9) (.int .i64 x.asked)
      have SN := Lib.hid S9
      have BN := Lib.hid ((((((((((b3.setCell (p := ⟨w.heap.size, k * 10, none⟩) (by simp) (.int .i64 x.id)).setCell (p := ⟨w.heap.size, k * 10 + 1, none⟩) (by simp) (.int .i64 x.cabin)).setCell (p := ⟨w.heap.size, k * 10 + 2, none⟩) (by simp) (.int .i64 x.from_)).setCell (p := ⟨w.heap.size, k * 10 + 3, none⟩) (by simp) (.int .i64 x.size)).setCell (p := ⟨w.heap.size, k * 10 + 4, none⟩) (by simp) (.int .i64 x.tier)).setCell (p := ⟨w.heap.size, k * 10 + 5, none⟩) (by simp) (.int .i64 x.since)).setCell (p := ⟨w.heap.size, k * 10 + 6, none⟩) (by simp) (.int .i64 x.turn)).setCell (p := ⟨w.heap.size, k * 10 + 7, none⟩) (by simp) (.int .i64 x.state)).setCell (p := ⟨w.heap.size, k * 10 + 8, none⟩) (by simp) (.int .i64 x.until_)).setCell (p := ⟨w.heap.size, k * 10 + 9, none⟩) (by simp) (.int .i64 x.asked))
      clear S0 S1 S2 S3 S4 S5 S6 S7 S8 S9 own1 b2 b3 hb
      go_wp2
      go_roundw
      case rel => exact ⟨k + 1, by omega, by go_num, by rw [← HS.out]; exact SN.out.1, BN.out⟩
      case measure => simp [intOf]; omega
    · obtain rfl : k = l.length := by omega
      rw [half_pt_all Z l hZ] at hown
      have R := Lib.hid (NewR.of_own hown hb)
      clear hown hb
      go_wp2
      go_ret
      exact R.out
set_option maxRecDepth 100000 in
set_option maxHeartbeats 800000 in
/-- eqPartyS on two slices that read alike. -/
theorem eqPartyS_same (A A' : Option Addr) (l : List Pt) (c c' : Nat) (w : World) (hl : l.length ≤ 2097152) (hA : Rws w w.heap.size A (l.flatMap ptC)) (hA' : Rws w w.heap.size A' (l.flatMap ptC)) :
    Calls Try.prog 24 #[.slice A l.length c, .slice A' l.length c'] w fun e w' => e = .returned (.bool true) ∧ Below w.heap.size w w' := by
  have hne : ((l.length : Int) != (l.length : Int)) = false := by simp
  go_enter Try.func24, Try.ntmps24
  go_wp2
  go_loopw [5] (fun i wr => ∃ k : Nat, k ≤ l.length ∧ i = .int .i64 k ∧ Below w.heap.size w wr) (fun i _ => l.length - (intOf i).toNat)
  case atStart => exact ⟨0, by omega, rfl, Below.refl _ _⟩
  case round =>
    obtain ⟨k, hk, rfl, hb⟩ := hrel
    by_cases hlt : k < l.length
    · obtain ⟨b, off, rfl, hbB, c0⟩ := (hA.below hb).pt hlt
      obtain ⟨b', off', rfl, hbB', d0⟩ := (hA'.below hb).pt hlt
      generalize l.getD k pt0 = x at *
      have hbs := hb.size
      have K1 := Lib.hid (fun w' (h : Below wr.heap.size wr w') => Pt.here.below c0 h (by omega))
      have K2 := Lib.hid (fun w' (h : Below wr.heap.size wr w') => Pt.here.below d0 h (by omega))
      clear c0 d0
      go_wp2
      refine wp_region_held_drew (S := fun w' => Hid (Below wr.heap.size wr w')) (by kernel_rfl) (below_drawn (Below.refl _ _) 1) (fun hHeld => ?_)
      refine held_take 0 17 (.slice (some ⟨b, off, none⟩) l.length c) rfl rfl (by kernel_rfl) (by kernel_rfl) (by kernel_rfl) (fun _ _ _ h => h) rfl hHeld (fun w _ => rfl) ?_
      refine held_take 1 18 (.int .i64 (k : Int)) rfl rfl (by kernel_rfl) (by kernel_rfl) (by kernel_rfl) (fun _ _ _ h => h) rfl hHeld (fun w _ => rfl) ?_
      simp only [Act.put, List.setIfInBounds_toArray, List.set_cons_zero, List.set_cons_succ]
      refine held_take 2 19 (.pointer (some ⟨b, off + k * 10, none⟩)) rfl rfl (by kernel_rfl) (by kernel_rfl) (by kernel_rfl) (fun _ _ _ h => h) rfl hHeld (fun w _ => exec_idx_pt b off l.length c k w hlt) ?_
      refine held_take 3 20 (ptA x) rfl rfl (by kernel_rfl) (by kernel_rfl) (by kernel_rfl) (fun _ _ _ h => h) rfl hHeld (fun w h => exec_load_pt b (off + k * 10) x w (K1.out w h.out)) ?_
      simp only [Act.put, List.setIfInBounds_toArray, List.set_cons_zero, List.set_cons_succ]
      refine held_take 4 21 (.slice (some ⟨b', off', none⟩) l.length c') rfl rfl (by kernel_rfl) (by kernel_rfl) (by kernel_rfl) (fun _ _ _ h => h) rfl hHeld (fun w _ => rfl) ?_
      refine held_take 5 22 (.int .i64 (k : Int)) rfl rfl (by kernel_rfl) (by kernel_rfl) (by kernel_rfl) (fun _ _ _ h => h) rfl hHeld (fun w _ => rfl) ?_
      simp only [Act.put, List.setIfInBounds_toArray, List.set_cons_zero, List.set_cons_succ]
      refine held_take 6 23 (.pointer (some ⟨b', off' + k * 10, none⟩)) rfl rfl (by kernel_rfl) (by kernel_rfl) (by kernel_rfl) (fun _ _ _ h => h) rfl hHeld (fun w _ => exec_idx_pt b' off' l.length c' k w hlt) ?_
      refine held_take 7 24 (ptA x) rfl rfl (by kernel_rfl) (by kernel_rfl) (by kernel_rfl) (fun _ _ _ h => h) rfl hHeld (fun w h => exec_load_pt b' (off' + k * 10) x w (K2.out w h.out)) ?_
      simp only [Act.put, List.setIfInBounds_toArray, List.set_cons_zero, List.set_cons_succ]
      refine held_call 8 25 65 #[ptA x, ptA x] rfl rfl (by kernel_rfl) rfl (exec_call Try.func65 (by kernel_rfl) (by kernel_rfl) _) ?_
      refine (eqParty_same x _).mono ?_
      rintro e w1 ⟨rfl, b1'⟩
      have b1 : Hid (Below wr.heap.size wr w1) := hHeld.out.trans (b1'.mono hHeld.out.size)
      refine ⟨_, rfl, b1, ?_⟩
      simp only [Act.put, List.setIfInBounds_toArray, List.set_cons_zero, List.set_cons_succ]
      refine held_op 9 26 (.bool false) rfl rfl (by kernel_rfl) rfl rfl b1 ?_
      simp only [Act.put, List.setIfInBounds_toArray, List.set_cons_zero, List.set_cons_succ]
      refine wpAnyH_done (by kernel_rfl) ?_ _
      have b2 : Hid (Below w.heap.size w w1) := hb.trans (b1.out.mono hbs)
      clear b1 b1' hb K1 K2
      go_wp2
      go_roundw
      case rel => exact ⟨k + 1, by omega, by go_num, b2.out⟩
      case measure => simp [intOf]; omega
    · go_wp2
      go_ret
      exact ⟨rfl, hb⟩
/-- The marks from q on. -/
def mark_pt (q : Nat) : Pt := ⟨(q : Int), ((q + 1 : Nat) : Int), ((q + 2 : Nat) : Int), ((q + 3 : Nat) : Int), ((q + 4 : Nat) : Int), ((q + 5 : Nat) : Int), ((q + 6 : Nat) : Int), ((q + 7 : Nat) : Int), ((q + 8 : Nat) : Int), ((q + 9 : Nat) : Int)⟩
def marks_pt (k n : Nat) : List Pt := (List.range n).map fun i => mark_pt (k + i * 10)
theorem marks_pt_length (k n : Nat) : (marks_pt k n).length = n := by simp [marks_pt]
theorem marks_pt_getD (k n i : Nat) (h : i < n) : (marks_pt k n).getD i pt0 = mark_pt (k + i * 10) := by simp [marks_pt, h]
theorem marks_pt_succ (k j : Nat) : marks_pt k (j + 1) = marks_pt k j ++ [mark_pt (k + j * 10)] := by simp [marks_pt, List.range_succ]
def marked_pt (l : List Pt) (k j : Nat) : List Value := (marks_pt k j).flatMap ptC ++ (l.flatMap ptC).drop (j * 10)
theorem marked_pt_zero (l : List Pt) (k : Nat) : marked_pt l k 0 = l.flatMap ptC := by simp [marked_pt, marks_pt]
theorem marked_pt_all (l : List Pt) (k : Nat) : marked_pt l k l.length = (marks_pt k l.length).flatMap ptC := by
  unfold marked_pt; rw [List.drop_of_length_le (by rw [flat_len ptC 10 ptC_len]; omega), List.append_nil]
theorem marked_pt_len (l : List Pt) (k j : Nat) (hj : j ≤ l.length) : (marked_pt l k j).length = l.length * 10 := by
  unfold marked_pt
  rw [List.length_append, flat_len ptC 10 ptC_len, marks_pt_length, List.length_drop, flat_len ptC 10 ptC_len]; omega
theorem marked_pt_set (l : List Pt) (k j : Nat) (hj : j < l.length) :
    ((((((((((marked_pt l k j).set (j * 10) (.int .i64 ((k + j * 10 : Nat) : Int))).set (j * 10 + 1) (.int .i64 ((k + j * 10 + 1 : Nat) : Int))).set (j * 10 + 2) (.int .i64 ((k + j * 10 + 2 : Nat) : Int))).set (j * 10 + 3) (.int .i64 ((k + j * 10 + 3 : Nat) : Int))).set (j * 10 + 4) (.int .i64 ((k + j * 10 + 4 : Nat) : Int))).set (j * 10 + 5) (.int .i64 ((k + j * 10 + 5 : Nat) : Int))).set (j * 10 + 6) (.int .i64 ((k + j * 10 + 6 : Nat) : Int))).set (j * 10 + 7) (.int .i64 ((k + j * 10 + 7 : Nat) : Int))).set (j * 10 + 8) (.int .i64 ((k + j * 10 + 8 : Nat) : Int))).set (j * 10 + 9) (.int .i64 ((k + j * 10 + 9 : Nat) : Int)) = marked_pt l k (j + 1) := by
  have hlen : ((marks_pt k j).flatMap ptC).length = j * 10 := by rw [flat_len ptC 10 ptC_len, marks_pt_length]
  have hl : (l.flatMap ptC).length = l.length * 10 := flat_len ptC 10 ptC_len l
  obtain ⟨x0, x1, x2, x3, x4, x5, x6, x7, x8, x9, r, hd⟩ : ∃ x0 x1 x2 x3 x4 x5 x6 x7 x8 x9 r, (l.flatMap ptC).drop (j * 10) = x0 :: x1 :: x2 :: x3 :: x4 :: x5 :: x6 :: x7 :: x8 :: x9 :: r := by
    have : 10 ≤ ((l.flatMap ptC).drop (j * 10)).length := by rw [List.length_drop, hl]; omega
    match h : (l.flatMap ptC).drop (j * 10), this with
    | x0 :: x1 :: x2 :: x3 :: x4 :: x5 :: x6 :: x7 :: x8 :: x9 :: r, _ => exact ⟨x0, x1, x2, x3, x4, x5, x6, x7, x8, x9, r, rfl⟩
  have hd3 : (l.flatMap ptC).drop ((j + 1) * 10) = r := by
    rw [show (j + 1) * 10 = 10 + j * 10 by omega, Nat.add_comm, ← List.drop_drop, hd]; rfl
  unfold marked_pt
  rw [hd, hd3, marks_pt_succ, List.flatMap_append, List.append_assoc]
  rw [List.set_append_right _ _ (by omega), hlen, Nat.sub_self, List.set_cons_zero]
  rw [List.set_append_right _ _ (by omega), hlen, show j * 10 + 1 - j * 10 = 1 by omega]
  rw [List.set_append_right _ _ (by omega), hlen, show j * 10 + 2 - j * 10 = 2 by omega]
  rw [List.set_append_right _ _ (by omega), hlen, show j * 10 + 3 - j * 10 = 3 by omega]
  rw [List.set_append_right _ _ (by omega), hlen, show j * 10 + 4 - j * 10 = 4 by omega]
  rw [List.set_append_right _ _ (by omega), hlen, show j * 10 + 5 - j * 10 = 5 by omega]
  rw [List.set_append_right _ _ (by omega), hlen, show j * 10 + 6 - j * 10 = 6 by omega]
  rw [List.set_append_right _ _ (by omega), hlen, show j * 10 + 7 - j * 10 = 7 by omega]
  rw [List.set_append_right _ _ (by omega), hlen, show j * 10 + 8 - j * 10 = 8 by omega]
  rw [List.set_append_right _ _ (by omega), hlen, show j * 10 + 9 - j * 10 = 9 by omega]
  rfl
set_option maxRecDepth 100000 in
set_option maxHeartbeats 1600000 in
/-- markPartyS on a row of the call's own. -/
theorem markPartyS_any (A : Option Addr) (l : List Pt) (k c base : Nat) (w : World) (hl : l.length ≤ 2097152) (hk : k ≤ 2100000) (hA : w.ownsRow base 54 10 (.slice A l.length c) l.length (l.flatMap ptC)) :
    Calls Try.prog 25 #[.slice A l.length c, .int .i64 k] w fun e w' => e = .returned (.int .i64 ((k + l.length * 10 : Nat) : Int)) ∧
      w'.ownsRow base 54 10 (.slice A l.length c) l.length ((marks_pt k l.length).flatMap ptC) ∧ w.grownBy w' (Value.ownBlock (.slice A l.length c)) := by
  go_enter Try.func25, Try.ntmps25
  go_wp2
  go_loopw [1, 5] (fun q i wr => ∃ j : Nat, j ≤ l.length ∧ i = .int .i64 j ∧ q = .int .i64 ((k + j * 10 : Nat) : Int) ∧
      wr.ownsRow base 54 10 (.slice A l.length c) l.length (marked_pt l k j) ∧ w.grownBy wr (Value.ownBlock (.slice A l.length c))) (fun _ i _ => l.length - (intOf i).toNat)
  case atStart => exact ⟨0, by omega, rfl, by simp, by rw [marked_pt_zero]; exact hA, World.grownBy.refl _ _⟩
  case round =>
    obtain ⟨j, hj, rfl, rfl, hown, hgr⟩ := hrel
    by_cases hlt : j < l.length
    · obtain ⟨A', c', he, _, _, hp⟩ := own_form hA
      obtain ⟨g, rfl, hg⟩ := hp (by omega)
      obtain ⟨rfl, rfl⟩ : A = some ⟨g, 0, none⟩ ∧ c' = c := by injection he with h1 h2 h3; exact ⟨h1, h3.symm⟩
      have HS := Lib.hid (marked_pt_set l k j hlt)
      have hln := marked_pt_len l k j hj
      obtain ⟨q, hq⟩ : ∃ q, q = k + j * 10 := ⟨_, rfl⟩
      rw [← hq] at HS
      rw [← hq]
      have hql : q ≤ 23100000 := by omega
      have HQ := Lib.hid hq
      generalize hn : l.length = n at *
      generalize marked_pt l k j = cs at *
      obtain ⟨u0, hu0⟩ : ∃ u, wr.cell? ⟨g, j * 10, none⟩ = some u := by rw [hown.cellAt _ (by omega)]; exact ⟨_, List.getElem?_eq_getElem (by omega)⟩
      have hf0 := hown.frozenAt (j * 10)
      obtain ⟨u1, hu1⟩ : ∃ u, wr.cell? ⟨g, j * 10 + 1, none⟩ = some u := by rw [hown.cellAt _ (by omega)]; exact ⟨_, List.getElem?_eq_getElem (by omega)⟩
      have hf1 := hown.frozenAt (j * 10 + 1)
      obtain ⟨u2, hu2⟩ : ∃ u, wr.cell? ⟨g, j * 10 + 2, none⟩ = some u := by rw [hown.cellAt _ (by omega)]; exact ⟨_, List.getElem?_eq_getElem (by omega)⟩
      have hf2 := hown.frozenAt (j * 10 + 2)
      obtain ⟨u3, hu3⟩ : ∃ u, wr.cell? ⟨g, j * 10 + 3, none⟩ = some u := by rw [hown.cellAt _ (by omega)]; exact ⟨_, List.getElem?_eq_getElem (by omega)⟩
      have hf3 := hown.frozenAt (j * 10 + 3)
      obtain ⟨u4, hu4⟩ : ∃ u, wr.cell? ⟨g, j * 10 + 4, none⟩ = some u := by rw [hown.cellAt _ (by omega)]; exact ⟨_, List.getElem?_eq_getElem (by omega)⟩
      have hf4 := hown.frozenAt (j * 10 + 4)
      obtain ⟨u5, hu5⟩ : ∃ u, wr.cell? ⟨g, j * 10 + 5, none⟩ = some u := by rw [hown.cellAt _ (by omega)]; exact ⟨_, List.getElem?_eq_getElem (by omega)⟩
      have hf5 := hown.frozenAt (j * 10 + 5)
      obtain ⟨u6, hu6⟩ : ∃ u, wr.cell? ⟨g, j * 10 + 6, none⟩ = some u := by rw [hown.cellAt _ (by omega)]; exact ⟨_, List.getElem?_eq_getElem (by omega)⟩
      have hf6 := hown.frozenAt (j * 10 + 6)
      obtain ⟨u7, hu7⟩ : ∃ u, wr.cell? ⟨g, j * 10 + 7, none⟩ = some u := by rw [hown.cellAt _ (by omega)]; exact ⟨_, List.getElem?_eq_getElem (by omega)⟩
      have hf7 := hown.frozenAt (j * 10 + 7)
      obtain ⟨u8, hu8⟩ : ∃ u, wr.cell? ⟨g, j * 10 + 8, none⟩ = some u := by rw [hown.cellAt _ (by omega)]; exact ⟨_, List.getElem?_eq_getElem (by omega)⟩
      have hf8 := hown.frozenAt (j * 10 + 8)
      obtain ⟨u9, hu9⟩ : ∃ u, wr.cell? ⟨g, j * 10 + 9, none⟩ = some u := by rw [hown.cellAt _ (by omega)]; exact ⟨_, List.getElem?_eq_getElem (by omega)⟩
      have hf9 := hown.frozenAt (j * 10 + 9)
      have S0 := hown.stored (j * 10) (.int .i64 (q : Int))
      have S1 := S0.1.stored (j * 10 + 1) (.int .i64 ((q : Int) + 1))
      have S2 := S1.1.stored (j * 10 + 2) (.int .i64 ((q : Int) + 2))
      have S3 := S2.1.stored (j * 10 + 3) (.int .i64 ((q : Int) + 3))
      have S4 := S3.1.stored (j * 10 + 4) (.int .i64 ((q : Int) + 4))
      have S5 := S4.1.stored (j * 10 + 5) (.int .i64 ((q : Int) + 5))
      have S6 := S5.1.stored (j * 10 + 6) (.int .i64 ((q : Int) + 6))
      have S7 := S6.1.stored (j * 10 + 7) (.int .i64 ((q : Int) + 7))
      have S8 := S7.1.stored (j * 10 + 8) (.int .i64 ((q : Int) + 8))
      have S9 := S8.1.stored (j * 10 + 9) (.int .i64 ((q : Int) + 9))
      have SN := Lib.hid S9.1
      have G := Lib.hid ((((((((((hgr.trans S0.2).trans S1.2).trans S2.2).trans S3.2).trans S4.2).trans S5.2).trans S6.2).trans S7.2).trans S8.2).trans S9.2)
      clear S0 S1 S2 S3 S4 S5 S6 S7 S8 S9 hq hown hgr he hA hp
      go_wp2
      go_roundw
      case rel => exact ⟨j + 1, by omega, by go_num, by have := HQ.out; go_num, by rw [← HS.out]; exact SN.out, G.out⟩
      case measure => simp [intOf]; omega
    · obtain rfl : j = l.length := by omega
      rw [marked_pt_all] at hown
      go_wp2
      go_ret
      exact ⟨rfl, hown, hgr⟩
set_option maxRecDepth 100000 in
set_option maxHeartbeats 1600000 in
/-- heldPartyS on a row of marks. -/
theorem heldPartyS_any (A : Option Addr) (k n c : Nat) (w : World) (hn : n ≤ 2097152) (hk : k ≤ 2100000) (hA : Rws w w.heap.size A ((marks_pt k n).flatMap ptC)) :
    Calls Try.prog 26 #[.slice A n c, .int .i64 k] w fun e w' => e = .returned (.int .i64 ((k + n * 10 : Nat) : Int)) ∧ w = w' := by
  go_enter Try.func26, Try.ntmps26
  go_wp2
  go_loop [1, 5] (fun q i => ∃ j : Nat, j ≤ n ∧ i = .int .i64 j ∧ q = .int .i64 ((k + j * 10 : Nat) : Int)) (fun _ i => n - (intOf i).toNat)
  case atStart => exact ⟨0, by omega, rfl, by simp⟩
  case round =>
    obtain ⟨j, hj, rfl, rfl⟩ := hrel
    by_cases hlt : j < n
    · obtain ⟨b, off, rfl, hbB, d0, d1, d2, d3, d4, d5, d6, d7, d8, d9⟩ := hA.pt (i := j) (by rw [marks_pt_length]; exact hlt)
      rw [marks_pt_getD k n j hlt] at d0 d1 d2 d3 d4 d5 d6 d7 d8 d9
      obtain ⟨q, hq⟩ : ∃ q, q = k + j * 10 := ⟨_, rfl⟩
      rw [← hq] at d0 d1 d2 d3 d4 d5 d6 d7 d8 d9
      rw [← hq]
      have c0 : w.cell? ⟨b, off + j * 10, none⟩ = some (.int .i64 (q : Int)) := d0
      have c1 : w.cell? ⟨b, off + j * 10 + 1, none⟩ = some (.int .i64 ((q : Int) + 1)) := d1
      have c2 : w.cell? ⟨b, off + j * 10 + 2, none⟩ = some (.int .i64 ((q : Int) + 2)) := d2
      have c3 : w.cell? ⟨b, off + j * 10 + 3, none⟩ = some (.int .i64 ((q : Int) + 3)) := d3
      have c4 : w.cell? ⟨b, off + j * 10 + 4, none⟩ = some (.int .i64 ((q : Int) + 4)) := d4
      have c5 : w.cell? ⟨b, off + j * 10 + 5, none⟩ = some (.int .i64 ((q : Int) + 5)) := d5
      have c6 : w.cell? ⟨b, off + j * 10 + 6, none⟩ = some (.int .i64 ((q : Int) + 6)) := d6
      have c7 : w.cell? ⟨b, off + j * 10 + 7, none⟩ = some (.int .i64 ((q : Int) + 7)) := d7
      have c8 : w.cell? ⟨b, off + j * 10 + 8, none⟩ = some (.int .i64 ((q : Int) + 8)) := d8
      have c9 : w.cell? ⟨b, off + j * 10 + 9, none⟩ = some (.int .i64 ((q : Int) + 9)) := d9
      clear d0 d1 d2 d3 d4 d5 d6 d7 d8 d9
      have hql : q ≤ 23100000 := by omega
      have HQ := Lib.hid hq
      have n0 : ((q : Int) != (q : Int)) = false := by simp
      have n1 : (((q : Int) + 1) != ((q : Int) + 1)) = false := by simp
      have n2 : (((q : Int) + 2) != ((q : Int) + 2)) = false := by simp
      have n3 : (((q : Int) + 3) != ((q : Int) + 3)) = false := by simp
      have n4 : (((q : Int) + 4) != ((q : Int) + 4)) = false := by simp
      have n5 : (((q : Int) + 5) != ((q : Int) + 5)) = false := by simp
      have n6 : (((q : Int) + 6) != ((q : Int) + 6)) = false := by simp
      have n7 : (((q : Int) + 7) != ((q : Int) + 7)) = false := by simp
      have n8 : (((q : Int) + 8) != ((q : Int) + 8)) = false := by simp
      have n9 : (((q : Int) + 9) != ((q : Int) + 9)) = false := by simp
      clear hq
      go_wp2
      go_round
      case rel => exact ⟨j + 1, by omega, by go_num, by have := HQ.out; go_num⟩
      case measure => simp [intOf]; omega
    · obtain rfl : j = n := by omega
      go_wp2
      go_ret
      exact ⟨rfl, rfl⟩
end Go.Proofs.Ytlflgflmlfileaa
