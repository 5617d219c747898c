/- The search for a party. -/
import Derived.Test.YtlflgflmlfileaaGreatRows
import Derived.Test.YtlflgflmlfileaaGreatRowX
import Derived.Test.YtlflgflmlfileaaGreatCmpI
namespace Go.Proofs.YtlflgflmlfileaaGreat
open Go.RowKit
set_option linter.unusedSimpArgs false
set_option linter.unusedVariables false
theorem cell_lt {w : World} {g o : Nat} {v : Value} (h : w.cell? ⟨g, o, none⟩ = some v) : g < w.heap.size := by
  rcases Nat.lt_or_ge g w.heap.size with h1 | h1
  · exact h1
  · have : w.heap[g]? = none := Array.getElem?_eq_none h1
    simp [World.cell?, this] at h
set_option maxRecDepth 100000 in
set_option maxHeartbeats 1600000 in
theorem indexFuncP_id (p : Pt → Bool) (g : Nat) (A : Option Addr) (l : List Pt) (c : Nat) (w : World) (hl : l.length ≤ 2097152) (hA : Rws w w.heap.size A (l.flatMap ptC))
    (hp : ∀ x w', Below w.heap.size w w' → Calls Tryz.prog 27 #[ptA x, .pointer (some ⟨g, 0, none⟩)] w' fun e w'' => e = .returned (.bool (p x)) ∧ Below w'.heap.size w' w'') :
    Calls Tryz.prog 46 #[.slice A l.length c, .func (.func 27) #[] #[.pointer (some ⟨g, 0, none⟩)]] w fun e w' => e = .returned (.int .i64 (idxV (l.findIdx? p))) ∧ Below w.heap.size w w' := by
  have HP := Lib.hid hp
  clear hp
  go_enter Tryz.func46, Tryz.ntmps46
  go_wp2
  go_loopw [8] (fun i wr => ∃ k : Nat, k ≤ l.length ∧ i = .int .i64 k ∧ Hid (∀ j, j < k → p (l.getD j pt0) = false) ∧ Hid (Below w.heap.size w wr)) (fun i _ => l.length - (intOf i).toNat)
  case atStart => exact ⟨0, by omega, rfl, (fun j hj => by omega), Below.refl _ _⟩
  case round =>
    obtain ⟨k, hk, rfl, hall, hb⟩ := hrel
    by_cases hlt : k < l.length
    · have hR := rws_below hA hb.out
      obtain ⟨b, off, rfl, hbB, hx⟩ := hR.pt hlt
      clear hR
      have C := Lib.hid (HP.out (l.getD k pt0) wr hb.out)
      have HI : Hid (p (l.getD k pt0) = true → idxV (l.findIdx? p) = (k : Int)) := fun h => by rw [findIdx_at _ l pt0 k hlt hall.out h]; rfl
      have HN : Hid (p (l.getD k pt0) = false → ∀ j, j < k + 1 → p (l.getD j pt0) = false) := fun h j hj => by
        by_cases e : j = k
        · subst e; exact h
        · exact hall.out j (by omega)
      clear hall
      generalize l.getD k pt0 = x at *
      obtain ⟨c0, c1, c2, c3, c4, c5, c6, c7, c8, c9⟩ := hx
      unfold ptA at C
      obtain ⟨q, hq⟩ : ∃ q, p x = q := ⟨_, rfl⟩
      rw [hq] at C HI HN
      clear hq
      go_wp2_with fail
      refine C.out.mono ?_
      rintro e w1 ⟨rfl, b1⟩
      have B1 := Lib.hid (hb.out.trans (b1.mono hb.out.size))
      clear b1 C c0 c1 c2 c3 c4 c5 c6 c7 c8 c9
      cases q with
      | true =>
        have HY := Lib.hid (HI.out rfl)
        clear HI HN
        go_wp2
        go_ret
        exact ⟨by rw [HY.out] <;> rfl, B1.out⟩
      | false =>
        have HA := Lib.hid (HN.out rfl)
        clear HI HN
        go_wp2
        go_roundw
        case rel => exact ⟨k + 1, by omega, by go_num, HA, B1⟩
        case measure => simp [intOf]; omega
    · obtain rfl : k = l.length := by omega
      have HN : Hid (idxV (l.findIdx? p) = -1) := by
        show _ = _
        rw [findIdx_no _ l pt0 hall.out]; rfl
      clear hall
      go_wp2
      go_ret
      exact ⟨by rw [HN.out] <;> rfl, hb.out⟩
set_option maxRecDepth 100000 in
set_option maxHeartbeats 800000 in
theorem firstP_id (p : Pt → Bool) (g : Nat) (A : Option Addr) (l : List Pt) (c : Nat) (w : World) (hl : l.length ≤ 2097152) (hA : Rws w w.heap.size A (l.flatMap ptC))
    (hp : ∀ x w', Below w.heap.size w w' → Calls Tryz.prog 27 #[ptA x, .pointer (some ⟨g, 0, none⟩)] w' fun e w'' => e = .returned (.bool (p x)) ∧ Below w'.heap.size w' w'') :
    Calls Tryz.prog 26 #[.slice A l.length c, .func (.func 27) #[] #[.pointer (some ⟨g, 0, none⟩)]] w fun e w' => e = .returned (.int .i64 (idxV (l.findIdx? p))) ∧ Below w.heap.size w w' := by
  have C := Lib.hid (indexFuncP_id p g A l c w hl hA hp)
  clear hp
  generalize idxV (l.findIdx? p) = z at *
  go_enter Tryz.func26, Tryz.ntmps26
  go_wp2_with fail
  refine C.out.mono ?_
  rintro e w1 ⟨rfl, b1⟩
  have B1 := Lib.hid b1
  clear b1 C
  go_wp2
  go_ret
  exact ⟨rfl, B1.out⟩
set_option maxRecDepth 100000 in
set_option maxHeartbeats 1600000 in
theorem indexFuncP_put (p : Pt → Bool) (g : Nat) (A : Option Addr) (l : List Pt) (c : Nat) (w : World) (hl : l.length ≤ 2097152) (hA : Rws w w.heap.size A (l.flatMap ptC))
    (hp : ∀ x w', Below w.heap.size w w' → Calls Tryz.prog 30 #[ptA x, .pointer (some ⟨g, 0, none⟩)] w' fun e w'' => e = .returned (.bool (p x)) ∧ Below w'.heap.size w' w'') :
    Calls Tryz.prog 46 #[.slice A l.length c, .func (.func 30) #[] #[.pointer (some ⟨g, 0, none⟩)]] w fun e w' => e = .returned (.int .i64 (idxV (l.findIdx? p))) ∧ Below w.heap.size w w' := by
  have HP := Lib.hid hp
  clear hp
  go_enter Tryz.func46, Tryz.ntmps46
  go_wp2
  go_loopw [8] (fun i wr => ∃ k : Nat, k ≤ l.length ∧ i = .int .i64 k ∧ Hid (∀ j, j < k → p (l.getD j pt0) = false) ∧ Hid (Below w.heap.size w wr)) (fun i _ => l.length - (intOf i).toNat)
  case atStart => exact ⟨0, by omega, rfl, (fun j hj => by omega), Below.refl _ _⟩
  case round =>
    obtain ⟨k, hk, rfl, hall, hb⟩ := hrel
    by_cases hlt : k < l.length
    · have hR := rws_below hA hb.out
      obtain ⟨b, off, rfl, hbB, hx⟩ := hR.pt hlt
      clear hR
      have C := Lib.hid (HP.out (l.getD k pt0) wr hb.out)
      have HI : Hid (p (l.getD k pt0) = true → idxV (l.findIdx? p) = (k : Int)) := fun h => by rw [findIdx_at _ l pt0 k hlt hall.out h]; rfl
      have HN : Hid (p (l.getD k pt0) = false → ∀ j, j < k + 1 → p (l.getD j pt0) = false) := fun h j hj => by
        by_cases e : j = k
        · subst e; exact h
        · exact hall.out j (by omega)
      clear hall
      generalize l.getD k pt0 = x at *
      obtain ⟨c0, c1, c2, c3, c4, c5, c6, c7, c8, c9⟩ := hx
      unfold ptA at C
      obtain ⟨q, hq⟩ : ∃ q, p x = q := ⟨_, rfl⟩
      rw [hq] at C HI HN
      clear hq
      go_wp2_with fail
      refine C.out.mono ?_
      rintro e w1 ⟨rfl, b1⟩
      have B1 := Lib.hid (hb.out.trans (b1.mono hb.out.size))
      clear b1 C c0 c1 c2 c3 c4 c5 c6 c7 c8 c9
      cases q with
      | true =>
        have HY := Lib.hid (HI.out rfl)
        clear HI HN
        go_wp2
        go_ret
        exact ⟨by rw [HY.out] <;> rfl, B1.out⟩
      | false =>
        have HA := Lib.hid (HN.out rfl)
        clear HI HN
        go_wp2
        go_roundw
        case rel => exact ⟨k + 1, by omega, by go_num, HA, B1⟩
        case measure => simp [intOf]; omega
    · obtain rfl : k = l.length := by omega
      have HN : Hid (idxV (l.findIdx? p) = -1) := by
        show _ = _
        rw [findIdx_no _ l pt0 hall.out]; rfl
      clear hall
      go_wp2
      go_ret
      exact ⟨by rw [HN.out] <;> rfl, hb.out⟩
set_option maxRecDepth 100000 in
set_option maxHeartbeats 800000 in
theorem firstP_put (p : Pt → Bool) (g : Nat) (A : Option Addr) (l : List Pt) (c : Nat) (w : World) (hl : l.length ≤ 2097152) (hA : Rws w w.heap.size A (l.flatMap ptC))
    (hp : ∀ x w', Below w.heap.size w w' → Calls Tryz.prog 30 #[ptA x, .pointer (some ⟨g, 0, none⟩)] w' fun e w'' => e = .returned (.bool (p x)) ∧ Below w'.heap.size w' w'') :
    Calls Tryz.prog 26 #[.slice A l.length c, .func (.func 30) #[] #[.pointer (some ⟨g, 0, none⟩)]] w fun e w' => e = .returned (.int .i64 (idxV (l.findIdx? p))) ∧ Below w.heap.size w w' := by
  have C := Lib.hid (indexFuncP_put p g A l c w hl hA hp)
  clear hp
  generalize idxV (l.findIdx? p) = z at *
  go_enter Tryz.func26, Tryz.ntmps26
  go_wp2_with fail
  refine C.out.mono ?_
  rintro e w1 ⟨rfl, b1⟩
  have B1 := Lib.hid b1
  clear b1 C
  go_wp2
  go_ret
  exact ⟨rfl, B1.out⟩
set_option maxRecDepth 100000 in
set_option maxHeartbeats 800000 in
theorem firstOrEndP_put (p : Pt → Bool) (g : Nat) (A : Option Addr) (l : List Pt) (c : Nat) (w : World) (hl : l.length ≤ 2097152) (hA : Rws w w.heap.size A (l.flatMap ptC))
    (hp : ∀ x w', Below w.heap.size w w' → Calls Tryz.prog 30 #[ptA x, .pointer (some ⟨g, 0, none⟩)] w' fun e w'' => e = .returned (.bool (p x)) ∧ Below w'.heap.size w' w'') :
    Calls Tryz.prog 29 #[.slice A l.length c, .func (.func 30) #[] #[.pointer (some ⟨g, 0, none⟩)]] w fun e w' => e = .returned (.int .i64 (endV p l : Nat)) ∧ Below w.heap.size w w' := by
  have C := Lib.hid (firstP_put p g A l c w hl hA hp)
  clear hp
  by_cases h : idxV (l.findIdx? p) < 0
  · have HE : Hid ((l.length : Int) = (endV p l : Int)) := (endV_no p l h).symm
    generalize endV p l = n at *
    generalize idxV (l.findIdx? p) = z at *
    have HV := True.intro
    clear HV
    go_enter Tryz.func29, Tryz.ntmps29
    go_wp2_with fail
    refine C.out.mono ?_
    rintro e w1 ⟨rfl, b1⟩
    have B1 := Lib.hid b1
    clear b1 C
    go_wp2
    go_ret
    exact ⟨by rw [← HE.out] <;> rfl, B1.out⟩
  · have HE := endV_yes p l h
    generalize endV p l = n at *
    generalize idxV (l.findIdx? p) = z at *
    subst HE
    have HV := True.intro
    clear HV
    go_enter Tryz.func29, Tryz.ntmps29
    go_wp2_with fail
    refine C.out.mono ?_
    rintro e w1 ⟨rfl, b1⟩
    have B1 := Lib.hid b1
    clear b1 C
    go_wp2
    go_ret
    exact ⟨rfl, B1.out⟩
set_option maxRecDepth 100000 in
set_option maxHeartbeats 800000 in
theorem id_test (x : Pt) (id : Int) (g : Nat) (w : World) (hg : w.cell? ⟨g, 0, none⟩ = some (.int .i64 id)) :
    Calls Tryz.prog 27 #[ptA x, .pointer (some ⟨g, 0, none⟩)] w fun e w' => e = .returned (.bool (x.id == id)) ∧ Below w.heap.size w w' := by
  have b0 : Hid (Below w.heap.size w (w.alloc (.cells #[.int .i64 x.id, .int .i64 x.cabin, .int .i64 x.from_, .int .i64 x.size, .int .i64 x.tier, .int .i64 x.since, .int .i64 x.turn, .int .i64 x.state, .int .i64 x.until_, .int .i64 x.asked] 26))) := (Below.refl _ _).alloc (Nat.le_refl _) _
  have hg' : (w.alloc (.cells #[.int .i64 x.id, .int .i64 x.cabin, .int .i64 x.from_, .int .i64 x.size, .int .i64 x.tier, .int .i64 x.since, .int .i64 x.turn, .int .i64 x.state, .int .i64 x.until_, .int .i64 x.asked] 26)).cell? ⟨g, 0, none⟩ = some (.int .i64 id) := (b0.out.cell (cell_lt hg)).trans hg
  unfold ptA
  go_enter Tryz.func27, Tryz.ntmps27
  go_wp2
  go_ret
  exact ⟨rfl, b0.out⟩
set_option maxRecDepth 100000 in
set_option maxHeartbeats 800000 in
theorem firstWithId_im (A : Option Addr) (l : List Pt) (c : Nat) (id : Int) (w : World) (hl : l.length ≤ 2097152) (hA : Rws w w.heap.size A (l.flatMap ptC)) :
    Calls Tryz.prog 14 #[.slice A l.length c, .int .i64 id] w fun e w' => e = .returned (.int .i64 (ptAt l id)) ∧ Below w.heap.size w w' := by
  have hmf : ∀ (fn : Fn) (first cap : Array Value) (w : World), (Instr.makeFunc fn first cap).run Tryz.prog w = .ok (.func fn first cap) w := fun _ _ _ _ => rfl
  have b0 : Hid (Below w.heap.size w (w.alloc (.cells #[.int .i64 id] 3))) := (Below.refl _ _).alloc (Nat.le_refl _) _
  have g0 : (w.alloc (.cells #[.int .i64 id] 3)).cell? ⟨w.heap.size, 0, none⟩ = some (.int .i64 id) := by simp
  have C := Lib.hid (firstP_id (fun x => x.id == id) w.heap.size A l c (w.alloc (.cells #[.int .i64 id] 3)) hl (rws_below hA b0.out) (fun x w' h => id_test x id w.heap.size w' ((h.cell (by simp)).trans g0)))
  have HE : Hid (idxV (l.findIdx? fun x => x.id == id) = ptAt l id) := rfl
  rw [HE.out] at C
  clear HE g0
  generalize ptAt l id = z at *
  go_enter Tryz.func14, Tryz.ntmps14
  go_wp2_with fail
  refine C.out.mono ?_
  rintro e w1 ⟨rfl, b1⟩
  have B1 := Lib.hid (b0.out.trans (b1.mono b0.out.size))
  clear b1 C
  go_wp2
  go_ret
  exact ⟨rfl, B1.out⟩
set_option maxRecDepth 100000 in
set_option maxHeartbeats 800000 in
theorem put_test (x y : Pt) (g : Nat) (w : World) (hg : Pt.here w g 0 y) :
    Calls Tryz.prog 30 #[ptA x, .pointer (some ⟨g, 0, none⟩)] w fun e w' => e = .returned (.bool (decide (y.id < x.id))) ∧ Below w.heap.size w w' := by
  have b0 : Hid (Below w.heap.size w (w.alloc (.cells #[.int .i64 x.id, .int .i64 x.cabin, .int .i64 x.from_, .int .i64 x.size, .int .i64 x.tier, .int .i64 x.since, .int .i64 x.turn, .int .i64 x.state, .int .i64 x.until_, .int .i64 x.asked] 26))) := (Below.refl _ _).alloc (Nat.le_refl _) _
  obtain ⟨c0, c1, c2, c3, c4, c5, c6, c7, c8, c9⟩ := hg.below b0.out (cell_lt hg.1)
  clear hg c1 c2 c3 c4 c5 c6 c7 c8 c9
  obtain ⟨q, hq⟩ : ∃ q, decide (y.id < x.id) = q := ⟨_, rfl⟩
  rw [hq]
  unfold ptA
  go_enter Tryz.func30, Tryz.ntmps30
  go_wp2
  go_ret
  exact ⟨by rw [← hq] <;> rfl, b0.out⟩
end Go.Proofs.YtlflgflmlfileaaGreat
