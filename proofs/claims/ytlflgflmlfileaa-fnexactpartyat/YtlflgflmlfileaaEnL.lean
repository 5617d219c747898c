/- The laws' helpers over entries. -/
import Derived.Test.YtlflgflmlfileaaRows
import Derived.Test.YtlflgflmlfileaaRowX
namespace Go.Proofs.Ytlflgflmlfileaa
open Go.RowKit
set_option linter.unusedSimpArgs false
set_option linter.unusedVariables false
/-- Its numbers are ints. -/
def En.fits (x : En) : Prop := inI x.lev ∧ inI x.turn ∧ inI x.id ∧ inI x.size
set_option maxRecDepth 100000 in
theorem eqEntry_same (x : En) (w : World) : Calls Try.prog 69 #[enA x, enA x] w fun e w' => e = .returned (.bool true) ∧ Below w.heap.size w w' := by
  obtain ⟨x0, x1, x2, x3⟩ := x
  unfold enA
  have n0 : (x0 != x0) = false := by simp
  have n1 : (x1 != x1) = false := by simp
  have n2 : (x2 != x2) = false := by simp
  have n3 : (x3 != x3) = false := by simp
  go_enter Try.func69, Try.ntmps69
  go_wp2
  go_ret
  exact ⟨rfl, ((Below.refl _ _).alloc (Nat.le_refl _) _).alloc (by simp) _⟩
set_option maxRecDepth 100000 in
set_option maxHeartbeats 1600000 in
theorem toEntry_any (x : En) (w : World) : Calls Try.prog 37 #[enA x] w fun e w' => e = .returned (enA x) ∧ Below w.heap.size w w' := by
  obtain ⟨x0, x1, x2, x3⟩ := x
  unfold enA
  go_enter Try.func37, Try.ntmps37
  go_wp2
  simp [bodyPost, results, Try.results37, go_sem]
  exact (((Below.refl _ _).alloc (Nat.le_refl _) _).alloc (by simp) _).alloc (by simp; omega) _
set_option maxRecDepth 100000 in
theorem szEntryS_any (B : Option Addr) (n c : Nat) (q : Int) (w : World) (hn : n ≤ 9223372036854775807) (hq : 0 ≤ q) (hq2 : q ≤ 1048576) :
    Calls Try.prog 35 #[.slice B n c, .int .i64 q] w fun e w' => (∃ r : Int, e = .returned (.int .i64 r) ∧ r ≤ 1048576 ∧ -1 ≤ r ∧ (0 ≤ r → n ≤ 1048576)) ∧ Below w.heap.size w w' := by
  by_cases h : q - n < 0
  · go_enter Try.func35, Try.ntmps35
    go_wp2
    go_ret
    exact ⟨⟨_, rfl, by omega, by omega, fun h => by omega⟩, Below.refl _ _⟩
  · go_enter Try.func35, Try.ntmps35
    go_wp2
    go_ret
    exact ⟨⟨_, rfl, by omega, by omega, fun h => by omega⟩, Below.refl _ _⟩
/-- toEntryS halfway: k are copied over the cells Z. -/
def half_en (Z : List Value) (l : List En) (k : Nat) : List Value := (l.take k).flatMap enC ++ Z.drop (k * 4)
theorem half_en_zero (Z : List Value) (l : List En) : half_en Z l 0 = Z := by simp [half_en]
theorem half_en_all (Z : List Value) (l : List En) (hZ : Z.length = l.length * 4) : half_en Z l l.length = l.flatMap enC := by
  unfold half_en; rw [List.take_length, List.drop_of_length_le (by omega), List.append_nil]
theorem half_en_len (Z : List Value) (l : List En) (k : Nat) (hZ : Z.length = l.length * 4) (hk : k ≤ l.length) : (half_en Z l k).length = l.length * 4 := by
  unfold half_en
  rw [List.length_append, flat_len enC 4 enC_len, List.length_take, List.length_drop, hZ, Nat.min_eq_left hk]; omega
theorem half_en_set (Z : List Value) (l : List En) (k : Nat) (hZ : Z.length = l.length * 4) (hk : k < l.length) :
    ((((half_en Z l k).set (k * 4) (.int .i64 (l.getD k en0).lev)).set (k * 4 + 1) (.int .i64 (l.getD k en0).turn)).set (k * 4 + 2) (.int .i64 (l.getD k en0).id)).set (k * 4 + 3) (.int .i64 (l.getD k en0).size) = half_en Z l (k + 1) := by
  have hlen : ((l.take k).flatMap enC).length = k * 4 := by rw [flat_len enC 4 enC_len, List.length_take, Nat.min_eq_left (by omega)]
  obtain ⟨x0, x1, x2, x3, r, hd⟩ : ∃ x0 x1 x2 x3 r, Z.drop (k * 4) = x0 :: x1 :: x2 :: x3 :: r := by
    have : 4 ≤ (Z.drop (k * 4)).length := by rw [List.length_drop, hZ]; omega
    match h : Z.drop (k * 4), this with
    | x0 :: x1 :: x2 :: x3 :: r, _ => exact ⟨x0, x1, x2, x3, r, rfl⟩
  have hd3 : Z.drop ((k + 1) * 4) = r := by
    rw [show (k + 1) * 4 = 4 + k * 4 by omega, Nat.add_comm, ← List.drop_drop, hd]; rfl
  unfold half_en
  rw [hd, hd3, take_snoc l k en0 hk, List.flatMap_append, List.append_assoc]
  rw [List.set_append_right _ _ (by omega), hlen, Nat.sub_self, List.set_cons_zero]
  rw [List.set_append_right _ _ (by omega), hlen, show k * 4 + 1 - k * 4 = 1 by omega]
  rw [List.set_append_right _ _ (by omega), hlen, show k * 4 + 2 - k * 4 = 2 by omega]
  rw [List.set_append_right _ _ (by omega), hlen, show k * 4 + 3 - k * 4 = 3 by omega]
  rfl
set_option maxRecDepth 100000 in
set_option maxHeartbeats 1600000 in
theorem toEntryS_any (A : Option Addr) (l : List En) (c : Nat) (w : World) (hl : l.length ≤ 2097152) (hA : Rws w w.heap.size A (l.flatMap enC)) :
    Calls Try.prog 36 #[.slice A l.length c] w (NewR 26 4 w l.length (l.flatMap enC)) := by
  obtain ⟨i0, hi, hz0, hz1, hz2⟩ := info_parts rowEnt.inf
  obtain ⟨w1, hmk, o1, g1⟩ := run_make_full (P := Try.prog) w w.heap.size 24 26 i0 _ 4 Try.underlying24 hi hz0 hz1 .i64 .i64 l.length (by rw [hz2]; omega) (by unfold maxLen; omega) (Nat.le_refl _)
  have b1 : Below w.heap.size w w1 := (Below.refl _ _).grown g1 (Nat.le_refl _) (fun k hk => by cases hk)
  have hZ := o1.1
  generalize hZe : (madeCells (Value.cells (.agg #[.int .i64 0, .int .i64 0, .int .i64 0, .int .i64 0])) (l.length * 4)).toList = Z at *
  clear hi hz0 hz1 hz2 g1 hZe
  go_enter Try.func36, Try.ntmps36
  go_wp2
  go_loopw [4] (fun i wr => ∃ k : Nat, k ≤ l.length ∧ i = .int .i64 k ∧ wr.ownsRow w.heap.size 26 4 (.slice (some ⟨w.heap.size, 0, none⟩) l.length l.length) l.length (half_en Z l k) ∧ Below w.heap.size w wr) (fun i _ => l.length - (intOf i).toNat)
  case atStart => exact ⟨0, by omega, rfl, by rw [half_en_zero]; exact o1, b1⟩
  case round =>
    clear hmk o1 b1
    obtain ⟨k, hk, rfl, hown, hb⟩ := hrel
    by_cases hlt : k < l.length
    · obtain ⟨b, off, rfl, hbB, c0, c1, c2, c3⟩ := (hA.below hb).en hlt
      have HS := Lib.hid (half_en_set Z l k hZ hlt)
      have hln := half_en_len Z l k hZ hk
      have C := Lib.hid (fun w => toEntry_any (l.getD k en0) w)
      unfold enA at C
      generalize hx : l.getD k en0 = x at *
      clear hx
      generalize hcs : half_en Z l k = cs at *
      clear hcs
      have HO := Lib.hid hown
      clear hown
      go_wp2_with fail
      refine (C.out _).mono ?_
      rintro e w2 ⟨rfl, b2⟩
      have own1 := own_below HO.out b2
      have b3 : Below w.heap.size w w2 := hb.trans (b2.mono hb.size)
      obtain ⟨u0, hu0⟩ : ∃ u, w2.cell? ⟨w.heap.size, k * 4, none⟩ = some u := by rw [own1.cellAt _ (by omega)]; exact ⟨_, List.getElem?_eq_getElem (by omega)⟩
      have hf0 := own1.frozenAt (k * 4)
      obtain ⟨u1, hu1⟩ : ∃ u, w2.cell? ⟨w.heap.size, k * 4 + 1, none⟩ = some u := by rw [own1.cellAt _ (by omega)]; exact ⟨_, List.getElem?_eq_getElem (by omega)⟩
      have hf1 := own1.frozenAt (k * 4 + 1)
      obtain ⟨u2, hu2⟩ : ∃ u, w2.cell? ⟨w.heap.size, k * 4 + 2, none⟩ = some u := by rw [own1.cellAt _ (by omega)]; exact ⟨_, List.getElem?_eq_getElem (by omega)⟩
      have hf2 := own1.frozenAt (k * 4 + 2)
      obtain ⟨u3, hu3⟩ : ∃ u, w2.cell? ⟨w.heap.size, k * 4 + 3, none⟩ = some u := by rw [own1.cellAt _ (by omega)]; exact ⟨_, List.getElem?_eq_getElem (by omega)⟩
      have hf3 := own1.frozenAt (k * 4 + 3)
      have S0 := own1.stored (k * 4) (.int .i64 x.lev)
      have S1 := S0.1.stored (k * 4 + 1) (.int .i64 x.turn)
      have S2 := S1.1.stored (k * 4 + 2) (.int .i64 x.id)
      have S3 := S2.1.stored (k * 4 + 3) (.int .i64 x.size)
      have SN := Lib.hid S3
      have BN := Lib.hid ((((b3.setCell (p := ⟨w.heap.size, k * 4, none⟩) (by simp) (.int .i64 x.lev)).setCell (p := ⟨w.heap.size, k * 4 + 1, none⟩) (by simp) (.int .i64 x.turn)).setCell (p := ⟨w.heap.size, k * 4 + 2, none⟩) (by simp) (.int .i64 x.id)).setCell (p := ⟨w.heap.size, k * 4 + 3, none⟩) (by simp) (.int .i64 x.size))
      clear S0 S1 S2 S3 own1 b2 b3 hb
      go_wp2
      go_roundw
      case rel => exact ⟨k + 1, by omega, by go_num, by rw [← HS.out]; exact SN.out.1, BN.out⟩
      case measure => simp [intOf]; omega
    · obtain rfl : k = l.length := by omega
      rw [half_en_all Z l hZ] at hown
      have R := Lib.hid (NewR.of_own hown hb)
      clear hown hb
      go_wp2
      go_ret
      exact R.out
set_option maxRecDepth 100000 in
set_option maxHeartbeats 800000 in
/-- eqEntryS on two slices that read alike. -/
theorem eqEntryS_same (A A' : Option Addr) (l : List En) (c c' : Nat) (w : World) (hl : l.length ≤ 2097152) (hA : Rws w w.heap.size A (l.flatMap enC)) (hA' : Rws w w.heap.size A' (l.flatMap enC)) :
    Calls Try.prog 38 #[.slice A l.length c, .slice A' l.length c'] w fun e w' => e = .returned (.bool true) ∧ Below w.heap.size w w' := by
  have hne : ((l.length : Int) != (l.length : Int)) = false := by simp
  go_enter Try.func38, Try.ntmps38
  go_wp2
  go_loopw [5] (fun i wr => ∃ k : Nat, k ≤ l.length ∧ i = .int .i64 k ∧ Below w.heap.size w wr) (fun i _ => l.length - (intOf i).toNat)
  case atStart => exact ⟨0, by omega, rfl, Below.refl _ _⟩
  case round =>
    obtain ⟨k, hk, rfl, hb⟩ := hrel
    by_cases hlt : k < l.length
    · obtain ⟨b, off, rfl, hbB, c0⟩ := (hA.below hb).en hlt
      obtain ⟨b', off', rfl, hbB', d0⟩ := (hA'.below hb).en hlt
      generalize l.getD k en0 = x at *
      have hbs := hb.size
      have K1 := Lib.hid (fun w' (h : Below wr.heap.size wr w') => En.here.below c0 h (by omega))
      have K2 := Lib.hid (fun w' (h : Below wr.heap.size wr w') => En.here.below d0 h (by omega))
      clear c0 d0
      go_wp2
      refine wp_region_held_drew (S := fun w' => Hid (Below wr.heap.size wr w')) (by kernel_rfl) (below_drawn (Below.refl _ _) 1) (fun hHeld => ?_)
      refine held_take 0 17 (.slice (some ⟨b, off, none⟩) l.length c) rfl rfl (by kernel_rfl) (by kernel_rfl) (by kernel_rfl) (fun _ _ _ h => h) rfl hHeld (fun w _ => rfl) ?_
      refine held_take 1 18 (.int .i64 (k : Int)) rfl rfl (by kernel_rfl) (by kernel_rfl) (by kernel_rfl) (fun _ _ _ h => h) rfl hHeld (fun w _ => rfl) ?_
      simp only [Act.put, List.setIfInBounds_toArray, List.set_cons_zero, List.set_cons_succ]
      refine held_take 2 19 (.pointer (some ⟨b, off + k * 4, none⟩)) rfl rfl (by kernel_rfl) (by kernel_rfl) (by kernel_rfl) (fun _ _ _ h => h) rfl hHeld (fun w _ => exec_idx_en b off l.length c k w hlt) ?_
      refine held_take 3 20 (enA x) rfl rfl (by kernel_rfl) (by kernel_rfl) (by kernel_rfl) (fun _ _ _ h => h) rfl hHeld (fun w h => exec_load_en b (off + k * 4) x w (K1.out w h.out)) ?_
      simp only [Act.put, List.setIfInBounds_toArray, List.set_cons_zero, List.set_cons_succ]
      refine held_take 4 21 (.slice (some ⟨b', off', none⟩) l.length c') rfl rfl (by kernel_rfl) (by kernel_rfl) (by kernel_rfl) (fun _ _ _ h => h) rfl hHeld (fun w _ => rfl) ?_
      refine held_take 5 22 (.int .i64 (k : Int)) rfl rfl (by kernel_rfl) (by kernel_rfl) (by kernel_rfl) (fun _ _ _ h => h) rfl hHeld (fun w _ => rfl) ?_
      simp only [Act.put, List.setIfInBounds_toArray, List.set_cons_zero, List.set_cons_succ]
      refine held_take 6 23 (.pointer (some ⟨b', off' + k * 4, none⟩)) rfl rfl (by kernel_rfl) (by kernel_rfl) (by kernel_rfl) (fun _ _ _ h => h) rfl hHeld (fun w _ => exec_idx_en b' off' l.length c' k w hlt) ?_
      refine held_take 7 24 (enA x) rfl rfl (by kernel_rfl) (by kernel_rfl) (by kernel_rfl) (fun _ _ _ h => h) rfl hHeld (fun w h => exec_load_en b' (off' + k * 4) x w (K2.out w h.out)) ?_
      simp only [Act.put, List.setIfInBounds_toArray, List.set_cons_zero, List.set_cons_succ]
      refine held_call 8 25 69 #[enA x, enA x] rfl rfl (by kernel_rfl) rfl (exec_call Try.func69 (by kernel_rfl) (by kernel_rfl) _) ?_
      refine (eqEntry_same x _).mono ?_
      rintro e w1 ⟨rfl, b1'⟩
      have b1 : Hid (Below wr.heap.size wr w1) := hHeld.out.trans (b1'.mono hHeld.out.size)
      refine ⟨_, rfl, b1, ?_⟩
      simp only [Act.put, List.setIfInBounds_toArray, List.set_cons_zero, List.set_cons_succ]
      refine held_op 9 26 (.bool false) rfl rfl (by kernel_rfl) rfl rfl b1 ?_
      simp only [Act.put, List.setIfInBounds_toArray, List.set_cons_zero, List.set_cons_succ]
      refine wpAnyH_done (by kernel_rfl) ?_ _
      have b2 : Hid (Below w.heap.size w w1) := hb.trans (b1.out.mono hbs)
      clear b1 b1' hb K1 K2
      go_wp2
      go_roundw
      case rel => exact ⟨k + 1, by omega, by go_num, b2.out⟩
      case measure => simp [intOf]; omega
    · go_wp2
      go_ret
      exact ⟨rfl, hb⟩
/-- The marks from q on. -/
def mark_en (q : Nat) : En := ⟨(q : Int), ((q + 1 : Nat) : Int), ((q + 2 : Nat) : Int), ((q + 3 : Nat) : Int)⟩
def marks_en (k n : Nat) : List En := (List.range n).map fun i => mark_en (k + i * 4)
theorem marks_en_length (k n : Nat) : (marks_en k n).length = n := by simp [marks_en]
theorem marks_en_getD (k n i : Nat) (h : i < n) : (marks_en k n).getD i en0 = mark_en (k + i * 4) := by simp [marks_en, h]
theorem marks_en_succ (k j : Nat) : marks_en k (j + 1) = marks_en k j ++ [mark_en (k + j * 4)] := by simp [marks_en, List.range_succ]
def marked_en (l : List En) (k j : Nat) : List Value := (marks_en k j).flatMap enC ++ (l.flatMap enC).drop (j * 4)
theorem marked_en_zero (l : List En) (k : Nat) : marked_en l k 0 = l.flatMap enC := by simp [marked_en, marks_en]
theorem marked_en_all (l : List En) (k : Nat) : marked_en l k l.length = (marks_en k l.length).flatMap enC := by
  unfold marked_en; rw [List.drop_of_length_le (by rw [flat_len enC 4 enC_len]; omega), List.append_nil]
theorem marked_en_len (l : List En) (k j : Nat) (hj : j ≤ l.length) : (marked_en l k j).length = l.length * 4 := by
  unfold marked_en
  rw [List.length_append, flat_len enC 4 enC_len, marks_en_length, List.length_drop, flat_len enC 4 enC_len]; omega
theorem marked_en_set (l : List En) (k j : Nat) (hj : j < l.length) :
    ((((marked_en l k j).set (j * 4) (.int .i64 ((k + j * 4 : Nat) : Int))).set (j * 4 + 1) (.int .i64 ((k + j * 4 + 1 : Nat) : Int))).set (j * 4 + 2) (.int .i64 ((k + j * 4 + 2 : Nat) : Int))).set (j * 4 + 3) (.int .i64 ((k + j * 4 + 3 : Nat) : Int)) = marked_en l k (j + 1) := by
  have hlen : ((marks_en k j).flatMap enC).length = j * 4 := by rw [flat_len enC 4 enC_len, marks_en_length]
  have hl : (l.flatMap enC).length = l.length * 4 := flat_len enC 4 enC_len l
  obtain ⟨x0, x1, x2, x3, r, hd⟩ : ∃ x0 x1 x2 x3 r, (l.flatMap enC).drop (j * 4) = x0 :: x1 :: x2 :: x3 :: r := by
    have : 4 ≤ ((l.flatMap enC).drop (j * 4)).length := by rw [List.length_drop, hl]; omega
    match h : (l.flatMap enC).drop (j * 4), this with
    | x0 :: x1 :: x2 :: x3 :: r, _ => exact ⟨x0, x1, x2, x3, r, rfl⟩
  have hd3 : (l.flatMap enC).drop ((j + 1) * 4) = r := by
    rw [show (j + 1) * 4 = 4 + j * 4 by omega, Nat.add_comm, ← List.drop_drop, hd]; rfl
  unfold marked_en
  rw [hd, hd3, marks_en_succ, List.flatMap_append, List.append_assoc]
  rw [List.set_append_right _ _ (by omega), hlen, Nat.sub_self, List.set_cons_zero]
  rw [List.set_append_right _ _ (by omega), hlen, show j * 4 + 1 - j * 4 = 1 by omega]
  rw [List.set_append_right _ _ (by omega), hlen, show j * 4 + 2 - j * 4 = 2 by omega]
  rw [List.set_append_right _ _ (by omega), hlen, show j * 4 + 3 - j * 4 = 3 by omega]
  rfl
set_option maxRecDepth 100000 in
set_option maxHeartbeats 1600000 in
/-- markEntryS on a row of the call's own. -/
theorem markEntryS_any (A : Option Addr) (l : List En) (k c base : Nat) (w : World) (hl : l.length ≤ 2097152) (hk : k ≤ 2097152) (hA : w.ownsRow base 26 4 (.slice A l.length c) l.length (l.flatMap enC)) :
    Calls Try.prog 39 #[.slice A l.length c, .int .i64 k] w fun e w' => e = .returned (.int .i64 ((k + l.length * 4 : Nat) : Int)) ∧
      w'.ownsRow base 26 4 (.slice A l.length c) l.length ((marks_en k l.length).flatMap enC) ∧ w.grownBy w' (Value.ownBlock (.slice A l.length c)) := by
  go_enter Try.func39, Try.ntmps39
  go_wp2
  go_loopw [1, 5] (fun q i wr => ∃ j : Nat, j ≤ l.length ∧ i = .int .i64 j ∧ q = .int .i64 ((k + j * 4 : Nat) : Int) ∧
      wr.ownsRow base 26 4 (.slice A l.length c) l.length (marked_en l k j) ∧ w.grownBy wr (Value.ownBlock (.slice A l.length c))) (fun _ i _ => l.length - (intOf i).toNat)
  case atStart => exact ⟨0, by omega, rfl, by simp, by rw [marked_en_zero]; exact hA, World.grownBy.refl _ _⟩
  case round =>
    obtain ⟨j, hj, rfl, rfl, hown, hgr⟩ := hrel
    by_cases hlt : j < l.length
    · obtain ⟨A', c', he, _, _, hp⟩ := own_form hA
      obtain ⟨g, rfl, hg⟩ := hp (by omega)
      obtain ⟨rfl, rfl⟩ : A = some ⟨g, 0, none⟩ ∧ c' = c := by injection he with h1 h2 h3; exact ⟨h1, h3.symm⟩
      have HS := Lib.hid (marked_en_set l k j hlt)
      have hln := marked_en_len l k j hj
      obtain ⟨q, hq⟩ : ∃ q, q = k + j * 4 := ⟨_, rfl⟩
      rw [← hq] at HS
      rw [← hq]
      have hql : q ≤ 23100000 := by omega
      have HQ := Lib.hid hq
      generalize hn : l.length = n at *
      generalize marked_en l k j = cs at *
      obtain ⟨u0, hu0⟩ : ∃ u, wr.cell? ⟨g, j * 4, none⟩ = some u := by rw [hown.cellAt _ (by omega)]; exact ⟨_, List.getElem?_eq_getElem (by omega)⟩
      have hf0 := hown.frozenAt (j * 4)
      obtain ⟨u1, hu1⟩ : ∃ u, wr.cell? ⟨g, j * 4 + 1, none⟩ = some u := by rw [hown.cellAt _ (by omega)]; exact ⟨_, List.getElem?_eq_getElem (by omega)⟩
      have hf1 := hown.frozenAt (j * 4 + 1)
      obtain ⟨u2, hu2⟩ : ∃ u, wr.cell? ⟨g, j * 4 + 2, none⟩ = some u := by rw [hown.cellAt _ (by omega)]; exact ⟨_, List.getElem?_eq_getElem (by omega)⟩
      have hf2 := hown.frozenAt (j * 4 + 2)
      obtain ⟨u3, hu3⟩ : ∃ u, wr.cell? ⟨g, j * 4 + 3, none⟩ = some u := by rw [hown.cellAt _ (by omega)]; exact ⟨_, List.getElem?_eq_getElem (by omega)⟩
      have hf3 := hown.frozenAt (j * 4 + 3)
      have S0 := hown.stored (j * 4) (.int .i64 (q : Int))
      have S1 := S0.1.stored (j * 4 + 1) (.int .i64 ((q : Int) + 1))
      have S2 := S1.1.stored (j * 4 + 2) (.int .i64 ((q : Int) + 2))
      have S3 := S2.1.stored (j * 4 + 3) (.int .i64 ((q : Int) + 3))
      have SN := Lib.hid S3.1
      have G := Lib.hid ((((hgr.trans S0.2).trans S1.2).trans S2.2).trans S3.2)
      clear S0 S1 S2 S3 hq hown hgr he hA hp
      go_wp2
      go_roundw
      case rel => exact ⟨j + 1, by omega, by go_num, by have := HQ.out; go_num, by rw [← HS.out]; exact SN.out, G.out⟩
      case measure => simp [intOf]; omega
    · obtain rfl : j = l.length := by omega
      rw [marked_en_all] at hown
      go_wp2
      go_ret
      exact ⟨rfl, hown, hgr⟩
set_option maxRecDepth 100000 in
set_option maxHeartbeats 1600000 in
/-- heldEntryS on a row of marks. -/
theorem heldEntryS_any (A : Option Addr) (k n c : Nat) (w : World) (hn : n ≤ 2097152) (hk : k ≤ 2097152) (hA : Rws w w.heap.size A ((marks_en k n).flatMap enC)) :
    Calls Try.prog 40 #[.slice A n c, .int .i64 k] w fun e w' => e = .returned (.int .i64 ((k + n * 4 : Nat) : Int)) ∧ w = w' := by
  go_enter Try.func40, Try.ntmps40
  go_wp2
  go_loop [1, 5] (fun q i => ∃ j : Nat, j ≤ n ∧ i = .int .i64 j ∧ q = .int .i64 ((k + j * 4 : Nat) : Int)) (fun _ i => n - (intOf i).toNat)
  case atStart => exact ⟨0, by omega, rfl, by simp⟩
  case round =>
    obtain ⟨j, hj, rfl, rfl⟩ := hrel
    by_cases hlt : j < n
    · obtain ⟨b, off, rfl, hbB, d0, d1, d2, d3⟩ := hA.en (i := j) (by rw [marks_en_length]; exact hlt)
      rw [marks_en_getD k n j hlt] at d0 d1 d2 d3
      obtain ⟨q, hq⟩ : ∃ q, q = k + j * 4 := ⟨_, rfl⟩
      rw [← hq] at d0 d1 d2 d3
      rw [← hq]
      have c0 : w.cell? ⟨b, off + j * 4, none⟩ = some (.int .i64 (q : Int)) := d0
      have c1 : w.cell? ⟨b, off + j * 4 + 1, none⟩ = some (.int .i64 ((q : Int) + 1)) := d1
      have c2 : w.cell? ⟨b, off + j * 4 + 2, none⟩ = some (.int .i64 ((q : Int) + 2)) := d2
      have c3 : w.cell? ⟨b, off + j * 4 + 3, none⟩ = some (.int .i64 ((q : Int) + 3)) := d3
      clear d0 d1 d2 d3
      have hql : q ≤ 23100000 := by omega
      have HQ := Lib.hid hq
      have n0 : ((q : Int) != (q : Int)) = false := by simp
      have n1 : (((q : Int) + 1) != ((q : Int) + 1)) = false := by simp
      have n2 : (((q : Int) + 2) != ((q : Int) + 2)) = false := by simp
      have n3 : (((q : Int) + 3) != ((q : Int) + 3)) = false := by simp
      clear hq
      go_wp2
      go_round
      case rel => exact ⟨j + 1, by omega, by go_num, by have := HQ.out; go_num⟩
      case measure => simp [intOf]; omega
    · obtain rfl : j = n := by omega
      go_wp2
      go_ret
      exact ⟨rfl, rfl⟩
end Go.Proofs.Ytlflgflmlfileaa
