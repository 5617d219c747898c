/- What the small functions tell. -/
import Derived.Test.YtlflgflmlfileaaGreatRows
import Derived.Test.YtlflgflmlfileaaGreatHs3
namespace Go.Proofs.YtlflgflmlfileaaGreat
open Go.RowKit
set_option linter.unusedSimpArgs false
set_option linter.unusedVariables false
theorem take_succ_getD {α : Type} (l : List α) (k : Nat) (d : α) (h : k < l.length) : l.take (k + 1) = l.take k ++ [l.getD k d] := by
  rw [List.take_add_one, List.getElem?_eq_getElem h, List.getD_eq_getElem?_getD, List.getElem?_eq_getElem h]; rfl
theorem findIdx_at {α : Type} (p : α → Bool) (l : List α) (d : α) (k : Nat) (hk : k < l.length) (hn : ∀ j, j < k → p (l.getD j d) = false) (hp : p (l.getD k d) = true) : l.findIdx? p = some k := by
  rw [List.findIdx?_eq_some_iff_getElem]
  refine ⟨hk, ?_, fun j hj => ?_⟩
  · rw [List.getD_eq_getElem?_getD, List.getElem?_eq_getElem hk] at hp; exact hp
  · have := hn j hj
    rw [List.getD_eq_getElem?_getD, List.getElem?_eq_getElem (by omega)] at this
    simpa using this
theorem findIdx_no {α : Type} (p : α → Bool) (l : List α) (d : α) (hn : ∀ j, j < l.length → p (l.getD j d) = false) : l.findIdx? p = none := by
  rw [List.findIdx?_eq_none_iff]
  intro x hx
  obtain ⟨j, hj, rfl⟩ := List.getElem_of_mem hx
  have := hn j hj
  rw [List.getD_eq_getElem?_getD, List.getElem?_eq_getElem hj] at this
  exact this
def idxV (o : Option Nat) : Int := match o with | some k => k | none => -1
theorem idxV_in {α : Type} (p : α → Bool) (l : List α) : -1 ≤ idxV (l.findIdx? p) ∧ idxV (l.findIdx? p) < l.length := by
  unfold idxV
  split
  · rename_i k h
    have := (List.findIdx?_eq_some_iff_getElem.1 h).1
    omega
  · omega
set_option maxRecDepth 100000 in
set_option maxHeartbeats 800000 in
theorem l1Has_spec (A : Option Addr) (l : List Int) (c : Nat) (z : Int) (w : World) (hl : l.length ≤ 2097152) (hA : Rws w w.heap.size A (ints l)) :
    Calls Tryz.prog 60 #[.slice A l.length c, .int .i64 z] w fun e w' => e = .returned (.bool (decide (z ∈ l))) ∧ w = w' := by
  go_enter Tryz.func60, Tryz.ntmps60
  go_wp2
  go_loop [5] (fun i => ∃ k : Nat, k ≤ l.length ∧ i = .int .i64 k ∧ (∀ j, j < k → l.getD j 0 ≠ z)) (fun i => l.length - (intOf i).toNat)
  case atStart => exact ⟨0, by omega, rfl, (fun j hj => by omega)⟩
  case round =>
    obtain ⟨k, hk, rfl, hall⟩ := hrel
    by_cases hlt : k < l.length
    · obtain ⟨b, off, rfl, hbB, hc⟩ := hA.int hlt
      by_cases hx : l.getD k 0 = z
      · have HY : Hid (decide (z ∈ l) = true) := by
          show _ = _
          refine decide_eq_true ?_
          rw [← hx]; exact getD_mem l k 0 hlt
        clear hall
        generalize l.getD k 0 = x at *
        have e0 : (x == z) = true := by simp [hx]
        clear hx
        go_wp2
        go_ret
        exact ⟨by rw [HY.out] <;> rfl, rfl⟩
      · have hall' : ∀ j, j < k + 1 → l.getD j 0 ≠ z := by
          intro j hj
          by_cases e : j = k
          · subst e; exact hx
          · exact hall j (by omega)
        have HA := Lib.hid hall'
        clear hall hall'
        generalize l.getD k 0 = x at *
        have e0 : (x == z) = false := by simp [hx]
        go_wp2
        go_round
        case rel => exact ⟨k + 1, by omega, by go_num, HA.out⟩
        case measure => simp [intOf]; omega
    · have HN : Hid (decide (z ∈ l) = false) := by
        show _ = _
        refine decide_eq_false (fun h => ?_)
        obtain ⟨j, hj, e⟩ := List.getElem_of_mem h
        have := hall j (by omega)
        rw [List.getD_eq_getElem?_getD, List.getElem?_eq_getElem hj] at this
        exact this e
      clear hall
      go_wp2
      go_ret
      exact ⟨by rw [HN.out] <;> rfl, rfl⟩
/-- Where a party stands in the list. -/
def ptAt (l : List Pt) (id : Int) : Int := idxV (l.findIdx? fun x => x.id == id)
set_option maxRecDepth 100000 in
set_option maxHeartbeats 800000 in
theorem l11At_spec (A : Option Addr) (l : List Pt) (c : Nat) (id : Int) (w : World) (hl : l.length ≤ 2097152) (hA : Rws w w.heap.size A (l.flatMap ptC)) :
    Calls Tryz.prog 18 #[.slice A l.length c, .int .i64 id] w fun e w' => e = .returned (.int .i64 (ptAt l id)) ∧ w = w' := by
  go_enter Tryz.func18, Tryz.ntmps18
  go_wp2
  go_loop [5] (fun i => ∃ k : Nat, k ≤ l.length ∧ i = .int .i64 k ∧ (∀ j, j < k → ((l.getD j pt0).id == id) = false)) (fun i => l.length - (intOf i).toNat)
  case atStart => exact ⟨0, by omega, rfl, (fun j hj => by omega)⟩
  case round =>
    obtain ⟨k, hk, rfl, hall⟩ := hrel
    by_cases hlt : k < l.length
    · obtain ⟨b, off, rfl, hbB, hc⟩ := hA.pt hlt
      by_cases hx : ((l.getD k pt0).id == id) = true
      · have HY : Hid (ptAt l id = (k : Int)) := by
          show _ = _
          unfold ptAt; rw [findIdx_at _ l pt0 k hlt hall hx]; rfl
        clear hall
        generalize l.getD k pt0 = x at *
        obtain ⟨c0, _⟩ := hc
        go_wp2
        go_ret
        exact ⟨by rw [HY.out] <;> rfl, rfl⟩
      · have hx : ((l.getD k pt0).id == id) = false := by simpa using hx
        have hall' : ∀ j, j < k + 1 → ((l.getD j pt0).id == id) = false := by
          intro j hj
          by_cases e : j = k
          · subst e; exact hx
          · exact hall j (by omega)
        have HA := Lib.hid hall'
        clear hall hall'
        generalize l.getD k pt0 = x at *
        obtain ⟨c0, _⟩ := hc
        go_wp2
        go_round
        case rel => exact ⟨k + 1, by omega, by go_num, HA.out⟩
        case measure => simp [intOf]; omega
    · obtain rfl : k = l.length := by omega
      have HN : Hid (ptAt l id = -1) := by
        show _ = _
        unfold ptAt; rw [findIdx_no _ l pt0 hall]; rfl
      clear hall
      go_wp2
      go_ret
      exact ⟨by rw [HN.out] <;> rfl, rfl⟩
/-- How many parties of a cabin there are. -/
def countV (l : List Pt) (cabin : Int) : Int := (l.map fun x => if x.cabin = cabin then 1 else 0).sum
set_option maxRecDepth 100000 in
set_option maxHeartbeats 800000 in
theorem count_spec (A : Option Addr) (l : List Pt) (c : Nat) (cabin : Int) (w : World) (hl : l.length ≤ 2097152) (hA : Rws w w.heap.size A (l.flatMap ptC)) :
    Calls Tryz.prog 35 #[.slice A l.length c, .int .i64 cabin] w fun e w' => e = .returned (.int .i64 (countV l cabin)) ∧ w = w' := by
  go_enter Tryz.func35, Tryz.ntmps35
  go_wp2
  go_loop [5, 6] (fun q i => ∃ (k : Nat) (z : Int), k ≤ l.length ∧ i = .int .i64 k ∧ q = .int .i64 z ∧ z = countV (l.take k) cabin ∧ 0 ≤ z ∧ z ≤ 6 * k) (fun _ i => l.length - (intOf i).toNat)
  case atStart => exact ⟨0, 0, by omega, rfl, rfl, by simp [countV], by omega, by omega⟩
  case round =>
    obtain ⟨k, z, hk, rfl, rfl, hz, hz0, hz1⟩ := hrel
    by_cases hlt : k < l.length
    · obtain ⟨b, off, rfl, hbB, hc⟩ := hA.pt hlt
      have hs : countV (l.take (k + 1)) cabin = z + (let x := l.getD k pt0; if x.cabin = cabin then 1 else 0) := by
        rw [hz]; unfold countV; rw [take_succ_getD l k pt0 hlt]; simp
      generalize l.getD k pt0 = x at *
      obtain ⟨c0, c1, c2, c3, c4, c5, c6, c7, c8, c9⟩ := hc
      simp only [] at hs
      have HZ := Lib.hid hs
      clear hs hz
      by_cases g0 : x.cabin = cabin
      rotate_left
      · have e0 : (x.cabin == cabin) = false := by simp [g0]
        have HZ : Hid (countV (l.take (k + 1)) cabin = z + 0) := by show _ = _; rw [HZ.out, if_neg (by exact g0)]
        go_wp2_with (go_at_call 24; first | (refine (l1In_yes _ _ _ _ (by omega)).mono ?_; rintro e w' ⟨rfl, rfl⟩) | (refine (l1In_no _ _ _ _ (by omega)).mono ?_; rintro e w' ⟨rfl, rfl⟩))
        go_round
        case rel => exact ⟨k + 1, z + 0, by omega, by go_num, by go_num, HZ.out.symm, by omega, by omega⟩
        case measure => simp [intOf]; omega
      have e0 : (x.cabin == cabin) = true := by simp [g0]
      have HZ : Hid (countV (l.take (k + 1)) cabin = z + 1) := by show _ = _; rw [HZ.out, if_pos (by exact g0)]
      go_wp2_with (go_at_call 24; first | (refine (l1In_yes _ _ _ _ (by omega)).mono ?_; rintro e w' ⟨rfl, rfl⟩) | (refine (l1In_no _ _ _ _ (by omega)).mono ?_; rintro e w' ⟨rfl, rfl⟩))
      go_round
      case rel => exact ⟨k + 1, z + 1, by omega, by go_num, by go_num, HZ.out.symm, by omega, by omega⟩
      case measure => simp [intOf]; omega
    · obtain rfl : k = l.length := by omega
      have HZ : Hid (z = countV l cabin) := by show _ = _; rw [hz, List.take_length]
      clear hz
      go_wp2
      go_ret
      exact ⟨by rw [HZ.out] <;> rfl, rfl⟩
/-- The seats that are held. -/
def heldV (l : List Pt) (cabin : Int) : Int := (l.map fun x => if x.state = 2 ∧ x.cabin = cabin ∧ (1 ≤ x.size ∧ x.size ≤ 6) then x.size else 0).sum
set_option maxRecDepth 100000 in
set_option maxHeartbeats 800000 in
theorem held_spec (A : Option Addr) (l : List Pt) (c : Nat) (cabin : Int) (w : World) (hl : l.length ≤ 2097152) (hA : Rws w w.heap.size A (l.flatMap ptC)) :
    Calls Tryz.prog 53 #[.slice A l.length c, .int .i64 cabin] w fun e w' => e = .returned (.int .i64 (heldV l cabin)) ∧ w = w' := by
  go_enter Tryz.func53, Tryz.ntmps53
  go_wp2
  go_loop [5, 6] (fun q i => ∃ (k : Nat) (z : Int), k ≤ l.length ∧ i = .int .i64 k ∧ q = .int .i64 z ∧ z = heldV (l.take k) cabin ∧ 0 ≤ z ∧ z ≤ 6 * k) (fun _ i => l.length - (intOf i).toNat)
  case atStart => exact ⟨0, 0, by omega, rfl, rfl, by simp [heldV], by omega, by omega⟩
  case round =>
    obtain ⟨k, z, hk, rfl, rfl, hz, hz0, hz1⟩ := hrel
    by_cases hlt : k < l.length
    · obtain ⟨b, off, rfl, hbB, hc⟩ := hA.pt hlt
      have hs : heldV (l.take (k + 1)) cabin = z + (let x := l.getD k pt0; if x.state = 2 ∧ x.cabin = cabin ∧ (1 ≤ x.size ∧ x.size ≤ 6) then x.size else 0) := by
        rw [hz]; unfold heldV; rw [take_succ_getD l k pt0 hlt]; simp
      generalize l.getD k pt0 = x at *
      obtain ⟨c0, c1, c2, c3, c4, c5, c6, c7, c8, c9⟩ := hc
      simp only [] at hs
      have HZ := Lib.hid hs
      clear hs hz
      by_cases g0 : x.state = 2
      rotate_left
      · have e0 : (x.state == 2) = false := by simp [g0]
        have HZ : Hid (heldV (l.take (k + 1)) cabin = z + 0) := by show _ = _; rw [HZ.out, if_neg (by rintro ⟨x0, x1, x2⟩; exact g0 x0)]
        go_wp2_with (go_at_call 24; first | (refine (l1In_yes _ _ _ _ (by omega)).mono ?_; rintro e w' ⟨rfl, rfl⟩) | (refine (l1In_no _ _ _ _ (by omega)).mono ?_; rintro e w' ⟨rfl, rfl⟩))
        go_round
        case rel => exact ⟨k + 1, z + 0, by omega, by go_num, by go_num, HZ.out.symm, by omega, by omega⟩
        case measure => simp [intOf]; omega
      have e0 : (x.state == 2) = true := by simp [g0]
      by_cases g1 : x.cabin = cabin
      rotate_left
      · have e1 : (x.cabin == cabin) = false := by simp [g1]
        have HZ : Hid (heldV (l.take (k + 1)) cabin = z + 0) := by show _ = _; rw [HZ.out, if_neg (by rintro ⟨x0, x1, x2⟩; exact g1 x1)]
        go_wp2_with (go_at_call 24; first | (refine (l1In_yes _ _ _ _ (by omega)).mono ?_; rintro e w' ⟨rfl, rfl⟩) | (refine (l1In_no _ _ _ _ (by omega)).mono ?_; rintro e w' ⟨rfl, rfl⟩))
        go_round
        case rel => exact ⟨k + 1, z + 0, by omega, by go_num, by go_num, HZ.out.symm, by omega, by omega⟩
        case measure => simp [intOf]; omega
      have e1 : (x.cabin == cabin) = true := by simp [g1]
      by_cases g2 : (1 ≤ x.size ∧ x.size ≤ 6)
      rotate_left
      · have HZ : Hid (heldV (l.take (k + 1)) cabin = z + 0) := by show _ = _; rw [HZ.out, if_neg (by rintro ⟨x0, x1, x2⟩; exact g2 x2)]
        go_wp2_with (go_at_call 24; first | (refine (l1In_yes _ _ _ _ (by omega)).mono ?_; rintro e w' ⟨rfl, rfl⟩) | (refine (l1In_no _ _ _ _ (by omega)).mono ?_; rintro e w' ⟨rfl, rfl⟩))
        go_round
        case rel => exact ⟨k + 1, z + 0, by omega, by go_num, by go_num, HZ.out.symm, by omega, by omega⟩
        case measure => simp [intOf]; omega
      have HZ : Hid (heldV (l.take (k + 1)) cabin = z + x.size) := by show _ = _; rw [HZ.out, if_pos (by exact ⟨g0, g1, g2⟩)]
      go_wp2_with (go_at_call 24; first | (refine (l1In_yes _ _ _ _ (by omega)).mono ?_; rintro e w' ⟨rfl, rfl⟩) | (refine (l1In_no _ _ _ _ (by omega)).mono ?_; rintro e w' ⟨rfl, rfl⟩))
      go_round
      case rel => exact ⟨k + 1, z + x.size, by omega, by go_num, by go_num, HZ.out.symm, by omega, by omega⟩
      case measure => simp [intOf]; omega
    · obtain rfl : k = l.length := by omega
      have HZ : Hid (z = heldV l cabin) := by show _ = _; rw [hz, List.take_length]
      clear hz
      go_wp2
      go_ret
      exact ⟨by rw [HZ.out] <;> rfl, rfl⟩
/-- The seats that are tied. -/
def tiedV (l : List Pt) (cabin : Int) : Int := (l.map fun x => if x.from_ = cabin ∧ (1 ≤ x.size ∧ x.size ≤ 6) then x.size else 0).sum
set_option maxRecDepth 100000 in
set_option maxHeartbeats 800000 in
theorem tied_spec (A : Option Addr) (l : List Pt) (c : Nat) (cabin : Int) (w : World) (hl : l.length ≤ 2097152) (hA : Rws w w.heap.size A (l.flatMap ptC)) :
    Calls Tryz.prog 54 #[.slice A l.length c, .int .i64 cabin] w fun e w' => e = .returned (.int .i64 (tiedV l cabin)) ∧ w = w' := by
  go_enter Tryz.func54, Tryz.ntmps54
  go_wp2
  go_loop [5, 6] (fun q i => ∃ (k : Nat) (z : Int), k ≤ l.length ∧ i = .int .i64 k ∧ q = .int .i64 z ∧ z = tiedV (l.take k) cabin ∧ 0 ≤ z ∧ z ≤ 6 * k) (fun _ i => l.length - (intOf i).toNat)
  case atStart => exact ⟨0, 0, by omega, rfl, rfl, by simp [tiedV], by omega, by omega⟩
  case round =>
    obtain ⟨k, z, hk, rfl, rfl, hz, hz0, hz1⟩ := hrel
    by_cases hlt : k < l.length
    · obtain ⟨b, off, rfl, hbB, hc⟩ := hA.pt hlt
      have hs : tiedV (l.take (k + 1)) cabin = z + (let x := l.getD k pt0; if x.from_ = cabin ∧ (1 ≤ x.size ∧ x.size ≤ 6) then x.size else 0) := by
        rw [hz]; unfold tiedV; rw [take_succ_getD l k pt0 hlt]; simp
      generalize l.getD k pt0 = x at *
      obtain ⟨c0, c1, c2, c3, c4, c5, c6, c7, c8, c9⟩ := hc
      simp only [] at hs
      have HZ := Lib.hid hs
      clear hs hz
      by_cases g0 : x.from_ = cabin
      rotate_left
      · have e0 : (x.from_ == cabin) = false := by simp [g0]
        have HZ : Hid (tiedV (l.take (k + 1)) cabin = z + 0) := by show _ = _; rw [HZ.out, if_neg (by rintro ⟨x0, x1⟩; exact g0 x0)]
        go_wp2_with (go_at_call 24; first | (refine (l1In_yes _ _ _ _ (by omega)).mono ?_; rintro e w' ⟨rfl, rfl⟩) | (refine (l1In_no _ _ _ _ (by omega)).mono ?_; rintro e w' ⟨rfl, rfl⟩))
        go_round
        case rel => exact ⟨k + 1, z + 0, by omega, by go_num, by go_num, HZ.out.symm, by omega, by omega⟩
        case measure => simp [intOf]; omega
      have e0 : (x.from_ == cabin) = true := by simp [g0]
      by_cases g1 : (1 ≤ x.size ∧ x.size ≤ 6)
      rotate_left
      · have HZ : Hid (tiedV (l.take (k + 1)) cabin = z + 0) := by show _ = _; rw [HZ.out, if_neg (by rintro ⟨x0, x1⟩; exact g1 x1)]
        go_wp2_with (go_at_call 24; first | (refine (l1In_yes _ _ _ _ (by omega)).mono ?_; rintro e w' ⟨rfl, rfl⟩) | (refine (l1In_no _ _ _ _ (by omega)).mono ?_; rintro e w' ⟨rfl, rfl⟩))
        go_round
        case rel => exact ⟨k + 1, z + 0, by omega, by go_num, by go_num, HZ.out.symm, by omega, by omega⟩
        case measure => simp [intOf]; omega
      have HZ : Hid (tiedV (l.take (k + 1)) cabin = z + x.size) := by show _ = _; rw [HZ.out, if_pos (by exact ⟨g0, g1⟩)]
      go_wp2_with (go_at_call 24; first | (refine (l1In_yes _ _ _ _ (by omega)).mono ?_; rintro e w' ⟨rfl, rfl⟩) | (refine (l1In_no _ _ _ _ (by omega)).mono ?_; rintro e w' ⟨rfl, rfl⟩))
      go_round
      case rel => exact ⟨k + 1, z + x.size, by omega, by go_num, by go_num, HZ.out.symm, by omega, by omega⟩
      case measure => simp [intOf]; omega
    · obtain rfl : k = l.length := by omega
      have HZ : Hid (z = tiedV l cabin) := by show _ = _; rw [hz, List.take_length]
      clear hz
      go_wp2
      go_ret
      exact ⟨by rw [HZ.out] <;> rfl, rfl⟩
end Go.Proofs.YtlflgflmlfileaaGreat
