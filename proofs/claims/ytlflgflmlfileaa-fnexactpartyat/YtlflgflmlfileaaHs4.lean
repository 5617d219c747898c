/- What the small functions tell. -/
import Derived.Test.YtlflgflmlfileaaRows
import Derived.Test.YtlflgflmlfileaaHs3
namespace Go.Proofs.Ytlflgflmlfileaa
open Go.RowKit
set_option linter.unusedSimpArgs false
set_option linter.unusedVariables false
theorem take_succ_getD {α : Type} (l : List α) (k : Nat) (d : α) (h : k < l.length) : l.take (k + 1) = l.take k ++ [l.getD k d] := by
  rw [List.take_add_one, List.getElem?_eq_getElem h, List.getD_eq_getElem?_getD, List.getElem?_eq_getElem h]; rfl
theorem findIdx_at {α : Type} (p : α → Bool) (l : List α) (d : α) (k : Nat) (hk : k < l.length) (hn : ∀ j, j < k → p (l.getD j d) = false) (hp : p (l.getD k d) = true) : l.findIdx? p = some k := by
  rw [List.findIdx?_eq_some_iff_getElem]
  refine ⟨hk, ?_, fun j hj => ?_⟩
  · rw [List.getD_eq_getElem?_getD, List.getElem?_eq_getElem hk] at hp; exact hp
  · have := hn j hj
    rw [List.getD_eq_getElem?_getD, List.getElem?_eq_getElem (by omega)] at this
    simpa using this
theorem findIdx_no {α : Type} (p : α → Bool) (l : List α) (d : α) (hn : ∀ j, j < l.length → p (l.getD j d) = false) : l.findIdx? p = none := by
  rw [List.findIdx?_eq_none_iff]
  intro x hx
  obtain ⟨j, hj, rfl⟩ := List.getElem_of_mem hx
  have := hn j hj
  rw [List.getD_eq_getElem?_getD, List.getElem?_eq_getElem hj] at this
  exact this
def idxV (o : Option Nat) : Int := match o with | some k => k | none => -1
theorem idxV_in {α : Type} (p : α → Bool) (l : List α) : -1 ≤ idxV (l.findIdx? p) ∧ idxV (l.findIdx? p) < l.length := by
  unfold idxV
  split
  · rename_i k h
    have := (List.findIdx?_eq_some_iff_getElem.1 h).1
    omega
  · omega
set_option maxRecDepth 100000 in
set_option maxHeartbeats 800000 in
theorem l1Has_spec (A : Option Addr) (l : List Int) (c : Nat) (z : Int) (w : World) (hl : l.length ≤ 2097152) (hA : Rws w w.heap.size A (ints l)) :
    Calls Try.prog 66 #[.slice A l.length c, .int .i64 z] w fun e w' => e = .returned (.bool (decide (z ∈ l))) ∧ w = w' := by
  go_enter Try.func66, Try.ntmps66
  go_wp2
  go_loop [5] (fun i => ∃ k : Nat, k ≤ l.length ∧ i = .int .i64 k ∧ (∀ j, j < k → l.getD j 0 ≠ z)) (fun i => l.length - (intOf i).toNat)
  case atStart => exact ⟨0, by omega, rfl, (fun j hj => by omega)⟩
  case round =>
    obtain ⟨k, hk, rfl, hall⟩ := hrel
    by_cases hlt : k < l.length
    · obtain ⟨b, off, rfl, hbB, hc⟩ := hA.int hlt
      by_cases hx : l.getD k 0 = z
      · have HY : Hid (decide (z ∈ l) = true) := by
          show _ = _
          refine decide_eq_true ?_
          rw [← hx]; exact getD_mem l k 0 hlt
        clear hall
        generalize l.getD k 0 = x at *
        have e0 : (x == z) = true := by simp [hx]
        clear hx
        go_wp2
        go_ret
        exact ⟨by rw [HY.out] <;> rfl, rfl⟩
      · have hall' : ∀ j, j < k + 1 → l.getD j 0 ≠ z := by
          intro j hj
          by_cases e : j = k
          · subst e; exact hx
          · exact hall j (by omega)
        have HA := Lib.hid hall'
        clear hall hall'
        generalize l.getD k 0 = x at *
        have e0 : (x == z) = false := by simp [hx]
        go_wp2
        go_round
        case rel => exact ⟨k + 1, by omega, by go_num, HA.out⟩
        case measure => simp [intOf]; omega
    · have HN : Hid (decide (z ∈ l) = false) := by
        show _ = _
        refine decide_eq_false (fun h => ?_)
        obtain ⟨j, hj, e⟩ := List.getElem_of_mem h
        have := hall j (by omega)
        rw [List.getD_eq_getElem?_getD, List.getElem?_eq_getElem hj] at this
        exact this e
      clear hall
      go_wp2
      go_ret
      exact ⟨by rw [HN.out] <;> rfl, rfl⟩
/-- Where a party stands in the list. -/
def ptAt (l : List Pt) (id : Int) : Int := idxV (l.findIdx? fun x => x.id == id)
set_option maxRecDepth 100000 in
set_option maxHeartbeats 800000 in
theorem l11At_spec (A : Option Addr) (l : List Pt) (c : Nat) (id : Int) (w : World) (hl : l.length ≤ 2097152) (hA : Rws w w.heap.size A (l.flatMap ptC)) :
    Calls Try.prog 56 #[.slice A l.length c, .int .i64 id] w fun e w' => e = .returned (.int .i64 (ptAt l id)) ∧ w = w' := by
  go_enter Try.func56, Try.ntmps56
  go_wp2
  go_loop [5] (fun i => ∃ k : Nat, k ≤ l.length ∧ i = .int .i64 k ∧ (∀ j, j < k → ((l.getD j pt0).id == id) = false)) (fun i => l.length - (intOf i).toNat)
  case atStart => exact ⟨0, by omega, rfl, (fun j hj => by omega)⟩
  case round =>
    obtain ⟨k, hk, rfl, hall⟩ := hrel
    by_cases hlt : k < l.length
    · obtain ⟨b, off, rfl, hbB, hc⟩ := hA.pt hlt
      by_cases hx : ((l.getD k pt0).id == id) = true
      · have HY : Hid (ptAt l id = (k : Int)) := by
          show _ = _
          unfold ptAt; rw [findIdx_at _ l pt0 k hlt hall hx]; rfl
        clear hall
        generalize l.getD k pt0 = x at *
        obtain ⟨c0, _⟩ := hc
        go_wp2
        go_ret
        exact ⟨by rw [HY.out] <;> rfl, rfl⟩
      · have hx : ((l.getD k pt0).id == id) = false := by simpa using hx
        have hall' : ∀ j, j < k + 1 → ((l.getD j pt0).id == id) = false := by
          intro j hj
          by_cases e : j = k
          · subst e; exact hx
          · exact hall j (by omega)
        have HA := Lib.hid hall'
        clear hall hall'
        generalize l.getD k pt0 = x at *
        obtain ⟨c0, _⟩ := hc
        go_wp2
        go_round
        case rel => exact ⟨k + 1, by omega, by go_num, HA.out⟩
        case measure => simp [intOf]; omega
    · obtain rfl : k = l.length := by omega
      have HN : Hid (ptAt l id = -1) := by
        show _ = _
        unfold ptAt; rw [findIdx_no _ l pt0 hall]; rfl
      clear hall
      go_wp2
      go_ret
      exact ⟨by rw [HN.out] <;> rfl, rfl⟩
/-- How many parties of a cabin there are. -/
def countV (l : List Pt) (cabin : Int) : Int := (l.map fun x => if x.cabin = cabin then 1 else 0).sum
/-- The seats that are held. -/
def heldV (l : List Pt) (cabin : Int) : Int := (l.map fun x => if x.state = 2 ∧ x.cabin = cabin ∧ (1 ≤ x.size ∧ x.size ≤ 6) then x.size else 0).sum
/-- The seats that are tied. -/
def tiedV (l : List Pt) (cabin : Int) : Int := (l.map fun x => if x.from_ = cabin ∧ (1 ≤ x.size ∧ x.size ≤ 6) then x.size else 0).sum
end Go.Proofs.Ytlflgflmlfileaa
