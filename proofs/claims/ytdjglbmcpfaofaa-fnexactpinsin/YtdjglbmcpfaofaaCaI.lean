/- HeldIn, TiedIn, CountIn of the program. -/
import Derived.Test.YtdjglbmcpfaofaaRows
import Derived.Test.YtdjglbmcpfaofaaPtyL
import Derived.Test.YtdjglbmcpfaofaaHs4
import Derived.Test.YtdjglbmcpfaofaaCmpI
namespace Go.Proofs.Ytdjglbmcpfaofaa
open Go.RowKit
set_option linter.unusedSimpArgs false
set_option linter.unusedVariables false
set_option maxRecDepth 100000 in
set_option maxHeartbeats 800000 in
theorem isOffered_im (x : Pt) (cabin : Int) (w : World) : Calls Try.prog 43 #[ptA x, .int .i64 cabin] w fun e w' => e = .returned (.bool (decide (x.state = 2 ∧ x.cabin = cabin))) ∧ Below w.heap.size w w' := by
  have b0 : Hid (Below w.heap.size w (w.alloc (.cells #[.int .i64 x.id, .int .i64 x.cabin, .int .i64 x.from_, .int .i64 x.size, .int .i64 x.tier, .int .i64 x.since, .int .i64 x.turn, .int .i64 x.state, .int .i64 x.until_, .int .i64 x.asked] 65))) := (Below.refl _ _).alloc (Nat.le_refl _) _
  unfold ptA
  by_cases h0 : x.state = 2
  rotate_left
  · have e0 : (x.state == 2) = false := by simp [h0]
    have HF : Hid (decide (x.state = 2 ∧ x.cabin = cabin) = false) := decide_eq_false (fun h => h0 h.1)
    clear h0
    go_enter Try.func43, Try.ntmps43
    go_wp2
    go_ret
    exact ⟨by rw [HF.out] <;> rfl, b0.out⟩
  have e0 : (x.state == 2) = true := by simp [h0]
  by_cases h1 : x.cabin = cabin
  rotate_left
  · have e1 : (x.cabin == cabin) = false := by simp [h1]
    have HF : Hid (decide (x.state = 2 ∧ x.cabin = cabin) = false) := decide_eq_false (fun h => h1 h.2)
    clear h0 h1
    go_enter Try.func43, Try.ntmps43
    go_wp2
    go_ret
    exact ⟨by rw [HF.out] <;> rfl, b0.out⟩
  · have e1 : (x.cabin == cabin) = true := by simp [h1]
    have HF : Hid (decide (x.state = 2 ∧ x.cabin = cabin) = true) := decide_eq_true ⟨h0, h1⟩
    clear h0 h1
    go_enter Try.func43, Try.ntmps43
    go_wp2
    go_ret
    exact ⟨by rw [HF.out] <;> rfl, b0.out⟩
set_option maxRecDepth 100000 in
set_option maxHeartbeats 800000 in
theorem heldTest_im (x : Pt) (cabin : Int) (g : Nat) (w : World) (hg : w.cell? ⟨g, 0, none⟩ = some (.int .i64 cabin)) (hl : g < w.heap.size) : Calls Try.prog 42 #[ptA x, .pointer (some ⟨g, 0, none⟩)] w fun e w' => e = .returned (.bool (decide (x.state = 2 ∧ x.cabin = cabin))) ∧ Below w.heap.size w w' := by
  have b0 : Hid (Below w.heap.size w (w.alloc (.cells #[.int .i64 x.id, .int .i64 x.cabin, .int .i64 x.from_, .int .i64 x.size, .int .i64 x.tier, .int .i64 x.since, .int .i64 x.turn, .int .i64 x.state, .int .i64 x.until_, .int .i64 x.asked] 65))) := (Below.refl _ _).alloc (Nat.le_refl _) _
  have C := Lib.hid (isOffered_im x cabin (w.alloc (.cells #[.int .i64 x.id, .int .i64 x.cabin, .int .i64 x.from_, .int .i64 x.size, .int .i64 x.tier, .int .i64 x.since, .int .i64 x.turn, .int .i64 x.state, .int .i64 x.until_, .int .i64 x.asked] 65)))
  have hc : (w.alloc (.cells #[.int .i64 x.id, .int .i64 x.cabin, .int .i64 x.from_, .int .i64 x.size, .int .i64 x.tier, .int .i64 x.since, .int .i64 x.turn, .int .i64 x.state, .int .i64 x.until_, .int .i64 x.asked] 65)).cell? ⟨g, 0, none⟩ = some (.int .i64 cabin) := (b0.out.cell (p := ⟨g, 0, none⟩) hl).trans hg
  generalize decide (x.state = 2 ∧ x.cabin = cabin) = q at *
  clear hg
  unfold ptA at *
  go_enter Try.func42, Try.ntmps42
  go_wp2_with fail
  refine C.out.mono ?_
  rintro e w1 ⟨rfl, b1⟩
  have B1 := Lib.hid (b0.out.trans (b1.mono b0.out.size))
  clear b1 C hc
  go_wp2
  go_ret
  exact ⟨rfl, B1.out⟩
set_option maxRecDepth 100000 in
set_option maxHeartbeats 800000 in
theorem tiedTest_im (x : Pt) (cabin : Int) (g : Nat) (w : World) (hg : w.cell? ⟨g, 0, none⟩ = some (.int .i64 cabin)) (hl : g < w.heap.size) : Calls Try.prog 44 #[ptA x, .pointer (some ⟨g, 0, none⟩)] w fun e w' => e = .returned (.bool (decide (x.from_ = cabin))) ∧ Below w.heap.size w w' := by
  have b0 : Hid (Below w.heap.size w (w.alloc (.cells #[.int .i64 x.id, .int .i64 x.cabin, .int .i64 x.from_, .int .i64 x.size, .int .i64 x.tier, .int .i64 x.since, .int .i64 x.turn, .int .i64 x.state, .int .i64 x.until_, .int .i64 x.asked] 65))) := (Below.refl _ _).alloc (Nat.le_refl _) _
  have hc : (w.alloc (.cells #[.int .i64 x.id, .int .i64 x.cabin, .int .i64 x.from_, .int .i64 x.size, .int .i64 x.tier, .int .i64 x.since, .int .i64 x.turn, .int .i64 x.state, .int .i64 x.until_, .int .i64 x.asked] 65)).cell? ⟨g, 0, none⟩ = some (.int .i64 cabin) := (b0.out.cell (p := ⟨g, 0, none⟩) hl).trans hg
  obtain ⟨q, hq⟩ : ∃ q, (x.from_ == cabin) = q := ⟨_, rfl⟩
  have HQ : Hid (decide (x.from_ = cabin) = q) := by show _ = _; rw [← hq]; by_cases h : x.from_ = cabin <;> simp [h]
  clear hg
  unfold ptA at *
  go_enter Try.func44, Try.ntmps44
  go_wp2
  go_ret
  exact ⟨by rw [HQ.out] <;> rfl, b0.out⟩
/-- The seats of the parties that a test picks. -/
def seatsV (p : Pt → Bool) (l : List Pt) : Int := (l.map fun x => if p x = true ∧ (1 ≤ x.size ∧ x.size ≤ 6) then x.size else 0).sum
theorem seatsV_take (p : Pt → Bool) (l : List Pt) (k : Nat) (h : k < l.length) : seatsV p (l.take (k + 1)) = seatsV p (l.take k) + (if p (l.getD k pt0) = true ∧ (1 ≤ (l.getD k pt0).size ∧ (l.getD k pt0).size ≤ 6) then (l.getD k pt0).size else 0) := by
  unfold seatsV; rw [take_succ_getD l k pt0 h]; simp
theorem seatsV_held (l : List Pt) (cabin : Int) : seatsV (fun x => decide (x.state = 2 ∧ x.cabin = cabin)) l = heldV l cabin := by
  unfold seatsV heldV
  congr 1
  apply List.map_congr_left
  intro x _
  by_cases h1 : x.state = 2 <;> by_cases h2 : x.cabin = cabin <;> simp [h1, h2]
theorem seatsV_tied (l : List Pt) (cabin : Int) : seatsV (fun x => decide (x.from_ = cabin)) l = tiedV l cabin := by
  unfold seatsV tiedV
  congr 1
  apply List.map_congr_left
  intro x _
  by_cases h1 : x.from_ = cabin <;> simp [h1]
set_option maxRecDepth 100000 in
set_option maxHeartbeats 3200000 in
theorem seatsOf_held (p : Pt → Bool) (g : Nat) (A : Option Addr) (l : List Pt) (c : Nat) (w : World) (hl : l.length ≤ 2097152) (hA : Rws w w.heap.size A (l.flatMap ptC))
    (hp : ∀ x w', Below w.heap.size w w' → Calls Try.prog 42 #[ptA x, .pointer (some ⟨g, 0, none⟩)] w' fun e w'' => e = .returned (.bool (p x)) ∧ Below w'.heap.size w' w'') :
    Calls Try.prog 41 #[.slice A l.length c, .func (.func 42) #[] #[.pointer (some ⟨g, 0, none⟩)]] w fun e w' => e = .returned (.int .i64 (seatsV p l)) ∧ Below w.heap.size w w' := by
  have HP := Lib.hid hp
  clear hp
  go_enter Try.func41, Try.ntmps41
  go_wp2
  go_loopw [5, 10] (fun n i wr => ∃ (k : Nat) (z : Int), k ≤ l.length ∧ i = .int .i64 k ∧ n = .int .i64 z ∧ Hid (seatsV p (l.take k) = z) ∧ 0 ≤ z ∧ z ≤ 6 * k ∧ Hid (Below w.heap.size w wr)) (fun _ i _ => l.length - (intOf i).toNat)
  case atStart => exact ⟨0, 0, by omega, rfl, rfl, by simp [seatsV, Lib.hid], by omega, by omega, Below.refl _ _⟩
  case round =>
    obtain ⟨k, z, hk, rfl, rfl, hz, hz0, hz1, hb⟩ := hrel
    by_cases hlt : k < l.length
    · have hR := rws_below hA hb.out
      obtain ⟨b, off, rfl, hbB, hx⟩ := hR.pt hlt
      clear hR
      have HZ0 := Lib.hid (seatsV_take p l k hlt)
      generalize l.getD k pt0 = x at *
      obtain ⟨W, hW⟩ : ∃ W, wr.alloc (.cells #[.int .i64 x.id, .int .i64 x.cabin, .int .i64 x.from_, .int .i64 x.size, .int .i64 x.tier, .int .i64 x.since, .int .i64 x.turn, .int .i64 x.state, .int .i64 x.until_, .int .i64 x.asked] 65) = W := ⟨_, rfl⟩
      have xa : Below wr.heap.size wr W := by rw [← hW]; exact (Below.refl _ _).alloc (Nat.le_refl _) _
      have g0 : W.heap[wr.heap.size]? = some (.cells #[.int .i64 x.id, .int .i64 x.cabin, .int .i64 x.from_, .int .i64 x.size, .int .i64 x.tier, .int .i64 x.since, .int .i64 x.turn, .int .i64 x.state, .int .i64 x.until_, .int .i64 x.asked] 65) := by rw [← hW]; exact heap_new _ _
      have bW : Below w.heap.size w W := hb.out.trans (xa.mono hb.out.size)
      have C := Lib.hid (HP.out x W bW)
      have KX := Lib.hid (fun w' (h : Below W.heap.size W w') => Pt.here.blk (blk_call g0 h))
      have HW := Lib.hid hW
      have BW := Lib.hid bW
      obtain ⟨c0, c1, c2, c3, c4, c5, c6, c7, c8, c9⟩ := hx
      obtain ⟨q, hq⟩ : ∃ q, p x = q := ⟨_, rfl⟩
      rw [hq] at C HZ0
      unfold ptA at C
      clear hq hW xa g0 bW
      go_wp2_with fail
      rw [HW.out]
      refine C.out.mono ?_
      rintro e w1 ⟨rfl, b1⟩
      have B2 := Lib.hid (BW.out.trans (b1.mono BW.out.size))
      have K1 := KX.out w1 b1
      clear b1 C c0 c1 c2 c3 c4 c5 c6 c7 c8 c9 HW BW KX
      obtain ⟨d0, d1, d2, d3, d4, d5, d6, d7, d8, d9⟩ := K1
      clear d0 d1 d2 d4 d5 d6 d7 d8 d9
      cases q with
      | false =>
        have HZ : Hid (seatsV p (l.take (k + 1)) = z) := by show _ = _; rw [HZ0.out, if_neg (fun h => by cases h.1), hz.out]; omega
        clear HZ0 hz
        have HR := Lib.hid (And.intro HZ.out B2)
        clear HZ
        go_wp2
        go_roundw
        case rel => exact ⟨k + 1, z, by omega, by go_num, rfl, HR.out.1, by omega, by omega, HR.out.2⟩
        case measure => simp [intOf]; omega
      | true =>
        by_cases hs : 1 ≤ x.size ∧ x.size ≤ 6
        · have HZ : Hid (seatsV p (l.take (k + 1)) = z + x.size) := by show _ = _; rw [HZ0.out, if_pos ⟨rfl, hs⟩, hz.out]
          have hwr : IntKind.i64.wrap (z + x.size) = z + x.size := by rw [IntKind.wrap_i64]; omega
          obtain ⟨y, hy⟩ : ∃ y, z + x.size = y := ⟨_, rfl⟩
          have hy0 : 0 ≤ y := by omega
          have hy1 : y ≤ 6 * (k + 1) := by omega
          rw [hy] at hwr HZ
          clear HZ0 hz
          go_wp2_with (go_at_call 79; refine (within_yes _ _ _ _ hs).mono ?_; rintro e w' ⟨rfl, rfl⟩)
          have HR := Lib.hid (And.intro HZ.out B2)
          clear HZ
          go_roundw
          case rel => exact ⟨k + 1, y, by omega, by go_num, by first | rfl | (rw [hy]; rfl) | simp [hy], HR.out.1, by omega, by omega, HR.out.2⟩
          case measure => simp [intOf]; omega
        · have HZ : Hid (seatsV p (l.take (k + 1)) = z) := by show _ = _; rw [HZ0.out, if_neg (fun h => hs h.2), hz.out]; omega
          clear HZ0 hz
          go_wp2_with (go_at_call 79; refine (within_no _ _ _ _ hs).mono ?_; rintro e w' ⟨rfl, rfl⟩)
          have HR := Lib.hid (And.intro HZ.out B2)
          clear HZ
          go_roundw
          case rel => exact ⟨k + 1, z, by omega, by go_num, rfl, HR.out.1, by omega, by omega, HR.out.2⟩
          case measure => simp [intOf]; omega
    · obtain rfl : k = l.length := by omega
      have HZ : Hid (seatsV p l = z) := by show _ = _; rw [← hz.out, List.take_length]
      clear hz
      go_wp2
      go_ret
      exact ⟨by rw [HZ.out] <;> rfl, hb.out⟩
set_option maxRecDepth 100000 in
set_option maxHeartbeats 3200000 in
theorem seatsOf_tied (p : Pt → Bool) (g : Nat) (A : Option Addr) (l : List Pt) (c : Nat) (w : World) (hl : l.length ≤ 2097152) (hA : Rws w w.heap.size A (l.flatMap ptC))
    (hp : ∀ x w', Below w.heap.size w w' → Calls Try.prog 44 #[ptA x, .pointer (some ⟨g, 0, none⟩)] w' fun e w'' => e = .returned (.bool (p x)) ∧ Below w'.heap.size w' w'') :
    Calls Try.prog 41 #[.slice A l.length c, .func (.func 44) #[] #[.pointer (some ⟨g, 0, none⟩)]] w fun e w' => e = .returned (.int .i64 (seatsV p l)) ∧ Below w.heap.size w w' := by
  have HP := Lib.hid hp
  clear hp
  go_enter Try.func41, Try.ntmps41
  go_wp2
  go_loopw [5, 10] (fun n i wr => ∃ (k : Nat) (z : Int), k ≤ l.length ∧ i = .int .i64 k ∧ n = .int .i64 z ∧ Hid (seatsV p (l.take k) = z) ∧ 0 ≤ z ∧ z ≤ 6 * k ∧ Hid (Below w.heap.size w wr)) (fun _ i _ => l.length - (intOf i).toNat)
  case atStart => exact ⟨0, 0, by omega, rfl, rfl, by simp [seatsV, Lib.hid], by omega, by omega, Below.refl _ _⟩
  case round =>
    obtain ⟨k, z, hk, rfl, rfl, hz, hz0, hz1, hb⟩ := hrel
    by_cases hlt : k < l.length
    · have hR := rws_below hA hb.out
      obtain ⟨b, off, rfl, hbB, hx⟩ := hR.pt hlt
      clear hR
      have HZ0 := Lib.hid (seatsV_take p l k hlt)
      generalize l.getD k pt0 = x at *
      obtain ⟨W, hW⟩ : ∃ W, wr.alloc (.cells #[.int .i64 x.id, .int .i64 x.cabin, .int .i64 x.from_, .int .i64 x.size, .int .i64 x.tier, .int .i64 x.since, .int .i64 x.turn, .int .i64 x.state, .int .i64 x.until_, .int .i64 x.asked] 65) = W := ⟨_, rfl⟩
      have xa : Below wr.heap.size wr W := by rw [← hW]; exact (Below.refl _ _).alloc (Nat.le_refl _) _
      have g0 : W.heap[wr.heap.size]? = some (.cells #[.int .i64 x.id, .int .i64 x.cabin, .int .i64 x.from_, .int .i64 x.size, .int .i64 x.tier, .int .i64 x.since, .int .i64 x.turn, .int .i64 x.state, .int .i64 x.until_, .int .i64 x.asked] 65) := by rw [← hW]; exact heap_new _ _
      have bW : Below w.heap.size w W := hb.out.trans (xa.mono hb.out.size)
      have C := Lib.hid (HP.out x W bW)
      have KX := Lib.hid (fun w' (h : Below W.heap.size W w') => Pt.here.blk (blk_call g0 h))
      have HW := Lib.hid hW
      have BW := Lib.hid bW
      obtain ⟨c0, c1, c2, c3, c4, c5, c6, c7, c8, c9⟩ := hx
      obtain ⟨q, hq⟩ : ∃ q, p x = q := ⟨_, rfl⟩
      rw [hq] at C HZ0
      unfold ptA at C
      clear hq hW xa g0 bW
      go_wp2_with fail
      rw [HW.out]
      refine C.out.mono ?_
      rintro e w1 ⟨rfl, b1⟩
      have B2 := Lib.hid (BW.out.trans (b1.mono BW.out.size))
      have K1 := KX.out w1 b1
      clear b1 C c0 c1 c2 c3 c4 c5 c6 c7 c8 c9 HW BW KX
      obtain ⟨d0, d1, d2, d3, d4, d5, d6, d7, d8, d9⟩ := K1
      clear d0 d1 d2 d4 d5 d6 d7 d8 d9
      cases q with
      | false =>
        have HZ : Hid (seatsV p (l.take (k + 1)) = z) := by show _ = _; rw [HZ0.out, if_neg (fun h => by cases h.1), hz.out]; omega
        clear HZ0 hz
        have HR := Lib.hid (And.intro HZ.out B2)
        clear HZ
        go_wp2
        go_roundw
        case rel => exact ⟨k + 1, z, by omega, by go_num, rfl, HR.out.1, by omega, by omega, HR.out.2⟩
        case measure => simp [intOf]; omega
      | true =>
        by_cases hs : 1 ≤ x.size ∧ x.size ≤ 6
        · have HZ : Hid (seatsV p (l.take (k + 1)) = z + x.size) := by show _ = _; rw [HZ0.out, if_pos ⟨rfl, hs⟩, hz.out]
          have hwr : IntKind.i64.wrap (z + x.size) = z + x.size := by rw [IntKind.wrap_i64]; omega
          obtain ⟨y, hy⟩ : ∃ y, z + x.size = y := ⟨_, rfl⟩
          have hy0 : 0 ≤ y := by omega
          have hy1 : y ≤ 6 * (k + 1) := by omega
          rw [hy] at hwr HZ
          clear HZ0 hz
          go_wp2_with (go_at_call 79; refine (within_yes _ _ _ _ hs).mono ?_; rintro e w' ⟨rfl, rfl⟩)
          have HR := Lib.hid (And.intro HZ.out B2)
          clear HZ
          go_roundw
          case rel => exact ⟨k + 1, y, by omega, by go_num, by first | rfl | (rw [hy]; rfl) | simp [hy], HR.out.1, by omega, by omega, HR.out.2⟩
          case measure => simp [intOf]; omega
        · have HZ : Hid (seatsV p (l.take (k + 1)) = z) := by show _ = _; rw [HZ0.out, if_neg (fun h => hs h.2), hz.out]; omega
          clear HZ0 hz
          go_wp2_with (go_at_call 79; refine (within_no _ _ _ _ hs).mono ?_; rintro e w' ⟨rfl, rfl⟩)
          have HR := Lib.hid (And.intro HZ.out B2)
          clear HZ
          go_roundw
          case rel => exact ⟨k + 1, z, by omega, by go_num, rfl, HR.out.1, by omega, by omega, HR.out.2⟩
          case measure => simp [intOf]; omega
    · obtain rfl : k = l.length := by omega
      have HZ : Hid (seatsV p l = z) := by show _ = _; rw [← hz.out, List.take_length]
      clear hz
      go_wp2
      go_ret
      exact ⟨by rw [HZ.out] <;> rfl, hb.out⟩
set_option maxRecDepth 100000 in
set_option maxHeartbeats 1600000 in
theorem heldIn_impl (A : Option Addr) (l : List Pt) (c : Nat) (cabin : Int) (w : World) (hl : l.length ≤ 2097152) (hA : Rws w w.heap.size A (l.flatMap ptC)) (hf : ∀ f ∈ l, f.fits) (hc : inI cabin) :
    Calls Try.prog 14 #[.slice A l.length c, .int .i64 cabin] w fun e w' => e = .returned (.int .i64 (heldV l cabin)) ∧ Below w.heap.size w w' := by
  obtain ⟨W, hW⟩ : ∃ W, w.alloc (.cells #[.int .i64 cabin] 3) = W := ⟨_, rfl⟩
  have b0 : Below w.heap.size w W := by rw [← hW]; exact (Below.refl _ _).alloc (Nat.le_refl _) _
  have g0 : W.heap[w.heap.size]? = some (.cells #[.int .i64 cabin] 3) := by rw [← hW]; exact heap_new _ _
  have C := Lib.hid (seatsOf_held (fun x => decide (x.state = 2 ∧ x.cabin = cabin)) w.heap.size A l c W hl (rws_below hA b0) (fun x w' h => heldTest_im x cabin w.heap.size w' (cell_of_one (blk_call g0 h)) (blk_lt (blk_call g0 h))))
  rw [seatsV_held] at C
  have HB := Lib.hid b0
  have HW := Lib.hid hW
  clear b0 g0 hW
  generalize heldV l cabin = z at *
  go_enter Try.func14, Try.ntmps14
  go_wp2_with fail
  rw [HW.out]
  refine C.out.mono ?_
  rintro e w1 ⟨rfl, b1⟩
  have B1 := Lib.hid (HB.out.trans (b1.mono HB.out.size))
  clear b1 C HB HW
  go_wp2
  go_ret
  exact ⟨rfl, B1.out⟩
set_option maxRecDepth 100000 in
set_option maxHeartbeats 1600000 in
theorem tiedIn_impl (A : Option Addr) (l : List Pt) (c : Nat) (cabin : Int) (w : World) (hl : l.length ≤ 2097152) (hA : Rws w w.heap.size A (l.flatMap ptC)) (hf : ∀ f ∈ l, f.fits) (hc : inI cabin) :
    Calls Try.prog 15 #[.slice A l.length c, .int .i64 cabin] w fun e w' => e = .returned (.int .i64 (tiedV l cabin)) ∧ Below w.heap.size w w' := by
  obtain ⟨W, hW⟩ : ∃ W, w.alloc (.cells #[.int .i64 cabin] 3) = W := ⟨_, rfl⟩
  have b0 : Below w.heap.size w W := by rw [← hW]; exact (Below.refl _ _).alloc (Nat.le_refl _) _
  have g0 : W.heap[w.heap.size]? = some (.cells #[.int .i64 cabin] 3) := by rw [← hW]; exact heap_new _ _
  have C := Lib.hid (seatsOf_tied (fun x => decide (x.from_ = cabin)) w.heap.size A l c W hl (rws_below hA b0) (fun x w' h => tiedTest_im x cabin w.heap.size w' (cell_of_one (blk_call g0 h)) (blk_lt (blk_call g0 h))))
  rw [seatsV_tied] at C
  have HB := Lib.hid b0
  have HW := Lib.hid hW
  clear b0 g0 hW
  generalize tiedV l cabin = z at *
  go_enter Try.func15, Try.ntmps15
  go_wp2_with fail
  rw [HW.out]
  refine C.out.mono ?_
  rintro e w1 ⟨rfl, b1⟩
  have B1 := Lib.hid (HB.out.trans (b1.mono HB.out.size))
  clear b1 C HB HW
  go_wp2
  go_ret
  exact ⟨rfl, B1.out⟩
theorem countV_take (l : List Pt) (cabin : Int) (k : Nat) (h : k < l.length) : countV (l.take (k + 1)) cabin = countV (l.take k) cabin + (if (l.getD k pt0).cabin = cabin then 1 else 0) := by
  unfold countV; rw [take_succ_getD l k pt0 h]; simp
set_option maxRecDepth 100000 in
set_option maxHeartbeats 1600000 in
theorem countIn_impl (A : Option Addr) (l : List Pt) (c : Nat) (cabin : Int) (w : World) (hl : l.length ≤ 2097152) (hA : Rws w w.heap.size A (l.flatMap ptC)) (hf : ∀ f ∈ l, f.fits) (hc : inI cabin) :
    Calls Try.prog 17 #[.slice A l.length c, .int .i64 cabin] w fun e w' => e = .returned (.int .i64 (countV l cabin)) ∧ Below w.heap.size w w' := by
  go_enter Try.func17, Try.ntmps17
  go_wp2
  go_loopw [5, 10] (fun n i wr => ∃ (k : Nat) (z : Int), k ≤ l.length ∧ i = .int .i64 k ∧ n = .int .i64 z ∧ Hid (countV (l.take k) cabin = z) ∧ 0 ≤ z ∧ z ≤ k ∧ Hid (Below w.heap.size w wr)) (fun _ i _ => l.length - (intOf i).toNat)
  case atStart => exact ⟨0, 0, by omega, rfl, rfl, by simp [countV, Lib.hid], by omega, by omega, Below.refl _ _⟩
  case round =>
    obtain ⟨k, z, hk, rfl, rfl, hz, hz0, hz1, hb⟩ := hrel
    by_cases hlt : k < l.length
    · have hR := rws_below hA hb.out
      obtain ⟨b, off, rfl, hbB, hx⟩ := hR.pt hlt
      clear hR
      have HZ0 := Lib.hid (countV_take l cabin k hlt)
      generalize l.getD k pt0 = x at *
      have bW : Hid (Below w.heap.size w (wr.alloc (.cells #[.int .i64 x.id, .int .i64 x.cabin, .int .i64 x.from_, .int .i64 x.size, .int .i64 x.tier, .int .i64 x.since, .int .i64 x.turn, .int .i64 x.state, .int .i64 x.until_, .int .i64 x.asked] 65))) := hb.out.alloc hb.out.size _
      obtain ⟨c0, c1, c2, c3, c4, c5, c6, c7, c8, c9⟩ := hx
      by_cases h : x.cabin = cabin
      · have e0 : (x.cabin == cabin) = true := by simp [h]
        have HZ : Hid (countV (l.take (k + 1)) cabin = z + 1) := by show _ = _; rw [HZ0.out, if_pos h, hz.out]
        clear HZ0 hz h
        go_wp2
        go_roundw
        case rel => exact ⟨k + 1, z + 1, by omega, by go_num, by go_num, HZ, by omega, by omega, bW⟩
        case measure => simp [intOf]; omega
      · have e0 : (x.cabin == cabin) = false := by simp [h]
        have HZ : Hid (countV (l.take (k + 1)) cabin = z) := by show _ = _; rw [HZ0.out, if_neg h, hz.out]; omega
        clear HZ0 hz h
        go_wp2
        go_roundw
        case rel => exact ⟨k + 1, z, by omega, by go_num, rfl, HZ, by omega, by omega, bW⟩
        case measure => simp [intOf]; omega
    · obtain rfl : k = l.length := by omega
      have HZ : Hid (countV l cabin = z) := by show _ = _; rw [← hz.out, List.take_length]
      clear hz
      go_wp2
      go_ret
      exact ⟨by rw [HZ.out] <;> rfl, hb.out⟩
end Go.Proofs.Ytdjglbmcpfaofaa
