/- Texts laid together: Rul, Rul2, Rul3, Rul4, Rul5, Rul6, Keep. -/
import Derived.Test.YtlflgflmlfileaaRows
import Derived.Test.YtlflgflmlfileaaG5
import Derived.Test.YtlflgflmlfileaaG3
import Derived.Deep.DeepCutAuto
namespace Go.Proofs.Ytlflgflmlfileaa
open Go.RowKit
set_option linter.unusedSimpArgs false
set_option linter.unusedVariables false
/-- The numbers are values of Go. -/
structure Ru.go (r : Ru) : Prop where
  seats : ∀ z ∈ r.seats, inI z
  tiers : inI r.tiers
  room : inI r.room
  size : inI r.size
  period : inI r.period
  window : inI r.window
  rest : inI r.rest
  tries : inI r.tries
  crew : inI r.crew
  len : r.seats.length ≤ 9223372036854775807
def seatsIn (l : List Int) : Prop := ∀ z ∈ l, 1 ≤ z ∧ z ≤ 60
instance (l : List Int) : Decidable (seatsIn l) := by unfold seatsIn; infer_instance
/-- What RulesOk tells. -/
def Ru.fine (r : Ru) : Prop := ((1 ≤ r.seats.length ∧ r.seats.length ≤ 4) ∧ (1 ≤ r.tiers ∧ r.tiers ≤ 5) ∧ (1 ≤ r.room ∧ r.room ≤ 10) ∧ (1 ≤ r.size ∧ r.size ≤ 6) ∧ (1 ≤ r.period ∧ r.period ≤ 12)) ∧ seatsIn r.seats ∧ (1 ≤ r.window ∧ r.window ≤ 8) ∧ (0 ≤ r.rest ∧ r.rest ≤ 8) ∧ (1 ≤ r.tries ∧ r.tries ≤ 4) ∧ (1 ≤ r.crew ∧ r.crew ≤ 3)
instance (r : Ru) : Decidable r.fine := by unfold Ru.fine; infer_instance
/-- The level of one who has waited k ticks. -/
def levN (r : Ru) (tier k : Int) : Int := max 0 (tier - k.tdiv r.period)
/-- The ticks to a level. -/
def ticksN (r : Ru) (tier level : Int) : Int := max 0 ((tier - level) * r.period)
def levelV (r : Ru) (tier k : Int) : Int := if r.fine ∧ (0 ≤ tier ∧ tier ≤ r.tiers - 1) ∧ 0 ≤ k then levN r tier k else -1
def ticksV (r : Ru) (tier level : Int) : Int := if r.fine ∧ (0 ≤ tier ∧ tier ≤ r.tiers - 1) ∧ 0 ≤ level then ticksN r tier level else -1
theorem lev_gt (r : Ru) (tier level k : Int) (hp : 1 ≤ r.period) (hl : 0 ≤ level) (hk : 0 ≤ k) : level < levN r tier k ↔ k < ticksN r tier level := by
  have e1 : k.tdiv r.period = k / r.period := Int.tdiv_eq_ediv_of_nonneg hk
  have e2 : (tier - level ≤ k / r.period) ↔ (tier - level) * r.period ≤ k := Int.le_ediv_iff_mul_le (by omega)
  unfold levN ticksN
  rw [e1]
  constructor
  · intro h
    have h1 : ¬ (tier - level ≤ k / r.period) := by omega
    rw [e2] at h1
    omega
  · intro h
    have h1 : ¬ ((tier - level) * r.period ≤ k) := by omega
    rw [← e2] at h1
    omega
theorem ticks_le (r : Ru) (tier level : Int) (hp : 1 ≤ r.period ∧ r.period ≤ 12) (ht : tier ≤ 4) (hl : 0 ≤ level) : 0 ≤ ticksN r tier level ∧ ticksN r tier level ≤ 48 := by
  have h : (tier - level) * r.period ≤ 4 * 12 := by
    rcases Int.lt_or_le (tier - level) 0 with h0 | h0
    · have : (tier - level) * r.period ≤ 0 * r.period := Int.mul_le_mul_of_nonneg_right (by omega) (by omega)
      omega
    · exact Int.mul_le_mul (by omega) (by omega) (by omega) (by omega)
  unfold ticksN
  omega
theorem tdiv_in (k p : Int) (hk : 0 ≤ k) (hp : 1 ≤ p) : 0 ≤ k.tdiv p ∧ k.tdiv p ≤ k := by
  rw [Int.tdiv_eq_ediv_of_nonneg hk]
  exact ⟨Int.ediv_nonneg hk (by omega), Int.ediv_le_self _ hk⟩
/-- n marks from k on. -/
def marksI (k n : Nat) : List Int := (List.range n).map fun i => ((k + i : Nat) : Int)
theorem marksI_length (k n : Nat) : (marksI k n).length = n := by simp [marksI]
theorem marksI_getD (k n i : Nat) (h : i < n) : (marksI k n).getD i 0 = ((k + i : Nat) : Int) := by simp [marksI, h]
def markedI (l : List Int) (k j : Nat) : List Value := ints (marksI k j) ++ (ints l).drop j
theorem markedI_zero (l : List Int) (k : Nat) : markedI l k 0 = ints l := by simp [markedI, marksI, ints]
theorem markedI_all (l : List Int) (k : Nat) : markedI l k l.length = ints (marksI k l.length) := by
  unfold markedI; rw [List.drop_of_length_le (by rw [ints_len]; omega), List.append_nil]
theorem markedI_set (l : List Int) (k j : Nat) (hj : j < l.length) : (markedI l k j).set j (.int .i64 ((k + j : Nat) : Int)) = markedI l k (j + 1) := by
  unfold markedI
  have hlen : (ints (marksI k j)).length = j := by rw [ints_len, marksI_length]
  rw [List.set_append_right _ _ (by omega), hlen, Nat.sub_self]
  have hd : (ints l).drop j = (ints l)[j]'(by rw [ints_len]; exact hj) :: (ints l).drop (j + 1) := List.drop_eq_getElem_cons _
  rw [hd, List.set_cons_zero]
  have hm : marksI k (j + 1) = marksI k j ++ [((k + j : Nat) : Int)] := by simp [marksI, List.range_succ]
  rw [hm, ints_append, List.append_assoc]
  rfl
set_option maxRecDepth 100000 in
set_option maxHeartbeats 400000 in
theorem heldInt_any (A : Option Addr) (k n c B : Nat) (w : World) (hn : n ≤ 2097152) (hk : k ≤ 2097152) (hA : Rws w B A (ints (marksI k n))) :
    Calls Try.prog 34 #[.slice A n c, .int .i64 k] w fun e w' => e = .returned (.int .i64 ((k + n : Nat) : Int)) ∧ w = w' := by
  go_enter Try.func34, Try.ntmps34
  go_wp2
  go_loop [1, 5] (fun q i => ∃ j : Nat, j ≤ n ∧ i = .int .i64 j ∧ q = .int .i64 ((k + j : Nat) : Int)) (fun _ i => n - (intOf i).toNat)
  case atStart => exact ⟨0, by omega, rfl, rfl⟩
  case round =>
    obtain ⟨j, hj, rfl, rfl⟩ := hrel
    by_cases hlt : j < n
    · obtain ⟨b, off, rfl, hbB, hc⟩ := hA.int (i := j) (by rw [marksI_length]; exact hlt)
      rw [marksI_getD k n j hlt] at hc
      have hne : ((((k + j : Nat)) : Int) != (((k + j : Nat)) : Int)) = false := by simp
      generalize hq : k + j = q at *
      have HQ := Lib.hid hq
      have hql : q ≤ 4194304 := by omega
      clear hq
      go_wp2
      go_round
      case rel => exact ⟨j + 1, by omega, by go_num, by have := HQ.out; go_num⟩
      case measure => simp [intOf]; omega
    · obtain rfl : j = n := by omega
      go_wp2
      go_ret
      exact ⟨rfl, rfl⟩
set_option maxRecDepth 100000 in
set_option maxHeartbeats 400000 in
theorem markInt_any (A : Option Addr) (l : List Int) (k c base : Nat) (w : World) (hl : l.length ≤ 2097152) (hk : k ≤ 2097152) (hA : w.ownsRow base 3 1 (.slice A l.length c) l.length (ints l)) :
    Calls Try.prog 33 #[.slice A l.length c, .int .i64 k] w fun e w' => e = .returned (.int .i64 ((k + l.length : Nat) : Int)) ∧
      w'.ownsRow base 3 1 (.slice A l.length c) l.length (ints (marksI k l.length)) ∧ w.grownBy w' (Value.ownBlock (.slice A l.length c)) := by
  go_enter Try.func33, Try.ntmps33
  go_wp2
  go_loopw [1, 5] (fun q i wr => ∃ j : Nat, j ≤ l.length ∧ i = .int .i64 j ∧ q = .int .i64 ((k + j : Nat) : Int) ∧
      wr.ownsRow base 3 1 (.slice A l.length c) l.length (markedI l k j) ∧ w.grownBy wr (Value.ownBlock (.slice A l.length c))) (fun _ i _ => l.length - (intOf i).toNat)
  case atStart => exact ⟨0, by omega, rfl, rfl, by rw [markedI_zero]; exact hA, World.grownBy.refl _ _⟩
  case round =>
    obtain ⟨j, hj, rfl, rfl, hown, hgr⟩ := hrel
    by_cases hlt : j < l.length
    · obtain ⟨A', c', he, _, _, hp⟩ := own_form hA
      obtain ⟨g, rfl, hg⟩ := hp (by omega)
      obtain ⟨rfl, rfl⟩ : A = some ⟨g, 0, none⟩ ∧ c' = c := by injection he with h1 h2 h3; exact ⟨h1, h3.symm⟩
      have hcell := hown.cellAt j (by omega)
      have hsz : (markedI l k j).length = l.length := by simp [markedI, ints_len, marksI_length]; omega
      obtain ⟨u, hu⟩ : ∃ u, wr.cell? ⟨g, j, none⟩ = some u := by
        rw [hcell]; exact ⟨_, List.getElem?_eq_getElem (by omega)⟩
      have hfz := hown.frozenAt j
      have HST := Lib.hid (hown.stored j (.int .i64 ((k + j : Nat) : Int)))
      have HS := Lib.hid (markedI_set l k j hlt)
      have HG := Lib.hid hgr
      generalize hq : k + j = q at *
      have HQ := Lib.hid hq
      have hql : q ≤ 4194304 := by omega
      clear hq hown hgr hcell he hA hsz hp
      go_wp2
      go_roundw
      case rel => exact ⟨j + 1, by omega, by go_num, by have := HQ.out; go_num, by rw [← HS.out]; exact HST.out.1, HG.out.trans HST.out.2⟩
      case measure => simp [intOf]; omega
    · obtain rfl : j = l.length := by omega
      rw [markedI_all] at hown
      go_wp2
      go_ret
      exact ⟨rfl, hown, hgr⟩
theorem own_ints (w : World) (base : Nat) (l : List Int) (hb : base ≤ w.heap.size) (hl : l.length ≤ 2097152) :
    (w.alloc (.cells (ints l).toArray 3)).ownsRow base 3 1 (.slice (some ⟨w.heap.size, 0, none⟩) l.length l.length) l.length (ints l) := by
  refine ⟨by simp [ints_len], .inr ⟨_, _, _, rfl, hb, heap_alloc_new _ _, Nat.le_refl _, by unfold maxLen; omega, by simp [ints_len], ?_⟩⟩
  rw [Nat.mul_one, ← ints_len l]
  exact List.take_length
set_option maxRecDepth 100000 in
theorem szInt_any (A : Option Addr) (n c : Nat) (q : Int) (w : World) (hn : n ≤ 9223372036854775807) (hq : 0 ≤ q ∧ q ≤ 1048576) :
    Calls Try.prog 55 #[.slice A n c, .int .i64 q] w fun e w' => (∃ r : Int, e = .returned (.int .i64 r) ∧ (0 ≤ r → r = q - n)) ∧ Below w.heap.size w w' := by
  by_cases h : q - n < 0
  · go_enter Try.func55, Try.ntmps55
    go_wp2
    go_ret
    exact ⟨⟨_, rfl, by omega⟩, Below.refl _ _⟩
  · go_enter Try.func55, Try.ntmps55
    go_wp2
    go_ret
    exact ⟨⟨_, rfl, by omega⟩, Below.refl _ _⟩
set_option maxRecDepth 100000 in
theorem szRules_any (A : Option Addr) (c : Nat) (r : Ru) (q : Int) (w : World) (hn : r.seats.length ≤ 9223372036854775807) (hq : 0 ≤ q ∧ q ≤ 1048576) :
    Calls Try.prog 53 #[ruV A c r, .int .i64 q] w fun e w' => (∃ z : Int, e = .returned (.int .i64 z) ∧ (0 ≤ z → z = q - r.seats.length)) ∧ Below w.heap.size w w' := by
  have C := Lib.hid (fun w => szInt_any A r.seats.length c q w hn hq)
  unfold ruV
  go_enter Try.func53, Try.ntmps53
  go_wp2_with fail
  refine (C.out _).mono ?_
  rintro e w1 ⟨⟨z, rfl, hz⟩, b1⟩
  by_cases h0 : z < 0
  · clear hz
    go_wp2
    go_ret
    exact ⟨⟨_, rfl, by omega⟩, boxB _ _ _ b1⟩
  · have HZ := Lib.hid hz
    clear hz
    go_wp2
    go_ret
    exact ⟨⟨_, rfl, HZ.out⟩, boxB _ _ _ b1⟩
theorem own_weak {w : World} {base B e sz n : Nat} {v : Value} {cs : List Value} (h : w.ownsRow base e sz v n cs) (hB : B ≤ base) : w.ownsRow B e sz v n cs := by
  refine ⟨h.1, ?_⟩
  rcases h.2 with h2 | ⟨g, cap, cur, hv, hg, r⟩
  · exact .inl h2
  · exact .inr ⟨g, cap, cur, hv, by omega, r⟩
theorem own_set {w : World} {B e sz n q i : Nat} {v u : Value} {cs : List Value} (h : w.ownsRow B e sz v n cs) (hq : q < B) : (w.setCell ⟨q, i, none⟩ u).ownsRow B e sz v n cs :=
  own_cur h (Go.Lib.grownBy_setCell w q i u) hq
/-- Rules in new memory. -/
def NewRu (w : World) (r : Ru) (e : Ending) (w' : World) : Prop :=
  ∃ (B : Option Addr) (cb : Nat), e = .returned (ruV B cb r) ∧ w'.ownsRow w.heap.size 3 1 (.slice B r.seats.length cb) r.seats.length (ints r.seats) ∧ Below w.heap.size w w'
set_option maxRecDepth 100000 in
set_option maxHeartbeats 1600000 in
theorem toRules_any (A : Option Addr) (c : Nat) (r : Ru) (w : World) (hl : r.seats.length ≤ 2097152) (hA : Rws w w.heap.size A (ints r.seats)) : Calls Try.prog 57 #[ruV A c r] w (NewRu w r) := by
  obtain ⟨W3, hW3⟩ : ∃ W3, ((w.alloc (.cells #[.slice A r.seats.length c, .int .i64 r.tiers, .int .i64 r.room, .int .i64 r.size, .int .i64 r.period, .int .i64 r.window, .int .i64 r.rest, .int .i64 r.tries, .int .i64 r.crew] 34)).alloc (.cells #[.slice none 0 0, .int .i64 0, .int .i64 0, .int .i64 0, .int .i64 0, .int .i64 0, .int .i64 0, .int .i64 0, .int .i64 0] 41)).alloc (.cells #[.slice none 0 0, .int .i64 0, .int .i64 0, .int .i64 0, .int .i64 0, .int .i64 0, .int .i64 0, .int .i64 0, .int .i64 0] 41) = W3 := ⟨_, rfl⟩
  have hs3 : W3.heap.size = w.heap.size + 1 + 1 + 1 := by rw [← hW3]; simp
  have b3 : Below w.heap.size w W3 := by rw [← hW3]; exact (((Below.refl _ _).alloc (Nat.le_refl _) _).alloc (by simp) _).alloc (by simp; omega) _
  have C := Lib.hid (toInt_any A r.seats c W3.heap.size W3 hl ((hA.below b3).more b3.size) (Nat.le_refl _))
  have T3 : Three w W3 (.cells #[.slice A r.seats.length c, .int .i64 r.tiers, .int .i64 r.room, .int .i64 r.size, .int .i64 r.period, .int .i64 r.window, .int .i64 r.rest, .int .i64 r.tries, .int .i64 r.crew] 34) (.cells #[.slice none 0 0, .int .i64 0, .int .i64 0, .int .i64 0, .int .i64 0, .int .i64 0, .int .i64 0, .int .i64 0, .int .i64 0] 41) (.cells #[.slice none 0 0, .int .i64 0, .int .i64 0, .int .i64 0, .int .i64 0, .int .i64 0, .int .i64 0, .int .i64 0, .int .i64 0] 41) := by rw [← hW3]; exact Three.make w _ _ _
  have O := own_ints W3 W3.heap.size r.seats (Nat.le_refl _) hl
  rw [hs3] at C O
  have b4 : Below W3.heap.size W3 (W3.alloc (.cells (ints r.seats).toArray 3)) := (Below.refl _ _).alloc (Nat.le_refl _) _
  have T4 := Three.call T3 b4
  clear b3 T3 b4 hA
  obtain ⟨W4, hW4⟩ : ∃ W4, W3.alloc (.cells (ints r.seats).toArray 3) = W4 := ⟨_, rfl⟩
  rw [hW4] at C O T4
  have a0 := cell_of_row _ _ 0 _ _ _ T4.1
  have c0 := cell_of_row _ _ 0 _ _ _ T4.2.2.1
  have d0 := frozen_of_row _ _ 0 _ _ T4.2.2.1
  have r0 := cell_of_row _ _ 0 _ _ _ T4.2.1
  have z0 := frozen_of_row _ _ 0 _ _ T4.2.1
  have a1 := cell_of_row _ _ 1 _ _ _ T4.1
  have c1 := cell_of_row _ _ 1 _ _ _ T4.2.2.1
  have d1 := frozen_of_row _ _ 1 _ _ T4.2.2.1
  have r1 := cell_of_row _ _ 1 _ _ _ T4.2.1
  have z1 := frozen_of_row _ _ 1 _ _ T4.2.1
  have a2 := cell_of_row _ _ 2 _ _ _ T4.1
  have c2 := cell_of_row _ _ 2 _ _ _ T4.2.2.1
  have d2 := frozen_of_row _ _ 2 _ _ T4.2.2.1
  have r2 := cell_of_row _ _ 2 _ _ _ T4.2.1
  have z2 := frozen_of_row _ _ 2 _ _ T4.2.1
  have a3 := cell_of_row _ _ 3 _ _ _ T4.1
  have c3 := cell_of_row _ _ 3 _ _ _ T4.2.2.1
  have d3 := frozen_of_row _ _ 3 _ _ T4.2.2.1
  have r3 := cell_of_row _ _ 3 _ _ _ T4.2.1
  have z3 := frozen_of_row _ _ 3 _ _ T4.2.1
  have a4 := cell_of_row _ _ 4 _ _ _ T4.1
  have c4 := cell_of_row _ _ 4 _ _ _ T4.2.2.1
  have d4 := frozen_of_row _ _ 4 _ _ T4.2.2.1
  have r4 := cell_of_row _ _ 4 _ _ _ T4.2.1
  have z4 := frozen_of_row _ _ 4 _ _ T4.2.1
  have a5 := cell_of_row _ _ 5 _ _ _ T4.1
  have c5 := cell_of_row _ _ 5 _ _ _ T4.2.2.1
  have d5 := frozen_of_row _ _ 5 _ _ T4.2.2.1
  have r5 := cell_of_row _ _ 5 _ _ _ T4.2.1
  have z5 := frozen_of_row _ _ 5 _ _ T4.2.1
  have a6 := cell_of_row _ _ 6 _ _ _ T4.1
  have c6 := cell_of_row _ _ 6 _ _ _ T4.2.2.1
  have d6 := frozen_of_row _ _ 6 _ _ T4.2.2.1
  have r6 := cell_of_row _ _ 6 _ _ _ T4.2.1
  have z6 := frozen_of_row _ _ 6 _ _ T4.2.1
  have a7 := cell_of_row _ _ 7 _ _ _ T4.1
  have c7 := cell_of_row _ _ 7 _ _ _ T4.2.2.1
  have d7 := frozen_of_row _ _ 7 _ _ T4.2.2.1
  have r7 := cell_of_row _ _ 7 _ _ _ T4.2.1
  have z7 := frozen_of_row _ _ 7 _ _ T4.2.1
  have a8 := cell_of_row _ _ 8 _ _ _ T4.1
  have c8 := cell_of_row _ _ 8 _ _ _ T4.2.2.1
  have d8 := frozen_of_row _ _ 8 _ _ T4.2.2.1
  have r8 := cell_of_row _ _ 8 _ _ _ T4.2.1
  have z8 := frozen_of_row _ _ 8 _ _ T4.2.1
  have bW := Lib.hid T4.2.2.2
  have HO := Lib.hid O
  clear T4 O hW4
  rw [← hW3] at C
  clear hW3 hs3
  simp at a0 a1 a2 a3 a4 a5 a6 a7 a8 c0 c1 c2 c3 c4 c5 c6 c7 c8 r0 r1 r2 r3 r4 r5 r6 r7 r8
  unfold ruV
  go_enter Try.func57, Try.ntmps57
  go_wp2_with fail
  refine C.out.mono ?_
  rintro e w' ⟨rfl, rfl⟩
  go_wp2
  simp [bodyPost, results, Try.results57, go_sem, c0, c1, c2, c3, c4, c5, c6, c7, c8, r0, r1, r2, r3, r4, r5, r6, r7, r8]
  refine ⟨_, _, rfl, own_weak (B := w.heap.size) (base := w.heap.size + 1 + 1 + 1) ?_ (by omega), ?_⟩
  · repeat refine own_set ?_ (by omega)
    exact HO.out
  · repeat refine Below.setCell ?_ (by simp <;> omega) _
    exact bW.out
theorem rws_below {w w' : World} {A : Option Addr} {cs : List Value} (h : Rws w w.heap.size A cs) (hb : Below w.heap.size w w') : Rws w' w'.heap.size A cs := (h.below hb).more hb.size
set_option maxRecDepth 100000 in
set_option maxHeartbeats 800000 in
theorem eqRules_same (A A' : Option Addr) (c c' : Nat) (r : Ru) (w : World) (hl : r.seats.length ≤ 2097152) (hA : Rws w w.heap.size A (ints r.seats)) (hA' : Rws w w.heap.size A' (ints r.seats)) :
    Calls Try.prog 60 #[ruV A c r, ruV A' c' r] w fun e w' => e = .returned (.bool true) ∧ Below w.heap.size w w' := by
  have C := Lib.hid (fun w (h : Rws w w.heap.size A (ints r.seats)) (h' : Rws w w.heap.size A' (ints r.seats)) => eqInt_same A A' r.seats c c' _ _ w hl h h')
  have b0 : Below w.heap.size w ((w.alloc (.cells #[.slice A r.seats.length c, .int .i64 r.tiers, .int .i64 r.room, .int .i64 r.size, .int .i64 r.period, .int .i64 r.window, .int .i64 r.rest, .int .i64 r.tries, .int .i64 r.crew] 41)).alloc (.cells #[.slice A' r.seats.length c', .int .i64 r.tiers, .int .i64 r.room, .int .i64 r.size, .int .i64 r.period, .int .i64 r.window, .int .i64 r.rest, .int .i64 r.tries, .int .i64 r.crew] 41)) := ((Below.refl _ _).alloc (Nat.le_refl _) _).alloc (by simp) _
  have R1 := (hA.below b0).more b0.size
  have R2 := (hA'.below b0).more b0.size
  have n0 : (r.tiers != r.tiers) = false := by simp
  have n1 : (r.room != r.room) = false := by simp
  have n2 : (r.size != r.size) = false := by simp
  have n3 : (r.period != r.period) = false := by simp
  have n4 : (r.window != r.window) = false := by simp
  have n5 : (r.rest != r.rest) = false := by simp
  have n6 : (r.tries != r.tries) = false := by simp
  have n7 : (r.crew != r.crew) = false := by simp
  unfold ruV
  go_enter Try.func60, Try.ntmps60
  go_wp2_with fail
  refine (C.out _ R1 R2).mono ?_
  rintro e w1 ⟨rfl, b1⟩
  have q0 := boxk _ w1 _ _ b1 0 _ rfl
  have p0 := boxk w w1 _ _ (boxB _ w1 _ b1) 0 _ rfl
  have q1 := boxk _ w1 _ _ b1 1 _ rfl
  have p1 := boxk w w1 _ _ (boxB _ w1 _ b1) 1 _ rfl
  have q2 := boxk _ w1 _ _ b1 2 _ rfl
  have p2 := boxk w w1 _ _ (boxB _ w1 _ b1) 2 _ rfl
  have q3 := boxk _ w1 _ _ b1 3 _ rfl
  have p3 := boxk w w1 _ _ (boxB _ w1 _ b1) 3 _ rfl
  have q4 := boxk _ w1 _ _ b1 4 _ rfl
  have p4 := boxk w w1 _ _ (boxB _ w1 _ b1) 4 _ rfl
  have q5 := boxk _ w1 _ _ b1 5 _ rfl
  have p5 := boxk w w1 _ _ (boxB _ w1 _ b1) 5 _ rfl
  have q6 := boxk _ w1 _ _ b1 6 _ rfl
  have p6 := boxk w w1 _ _ (boxB _ w1 _ b1) 6 _ rfl
  have q7 := boxk _ w1 _ _ b1 7 _ rfl
  have p7 := boxk w w1 _ _ (boxB _ w1 _ b1) 7 _ rfl
  have q8 := boxk _ w1 _ _ b1 8 _ rfl
  have p8 := boxk w w1 _ _ (boxB _ w1 _ b1) 8 _ rfl
  simp only [World.size_alloc] at q0 q1 q2 q3 q4 q5 q6 q7 q8
  have bW := boxB w w1 _ (boxB _ w1 _ b1)
  clear b1 R1 R2 b0
  go_wp2
  go_ret
  exact ⟨rfl, bW⟩
/-- What RulesNums returns. -/
def numsR (r : Ru) : List Int := if r.fine then [r.tiers, r.room, r.size, r.period, r.window, r.rest, r.tries, r.crew] ++ r.seats else []
/-- What SameRules tells. -/
def sameR (a b : Ru) : Prop := a.seats = b.seats ∧ a.tiers = b.tiers ∧ a.room = b.room ∧ a.size = b.size ∧ a.period = b.period ∧ a.window = b.window ∧ a.rest = b.rest ∧ a.tries = b.tries ∧ a.crew = b.crew
instance (a b : Ru) : Decidable (sameR a b) := by unfold sameR; infer_instance
/-- One of those that may come up yields something that is told. -/
theorem ready_opx {P : Program} {md : Region.Mode} {ops : Array Oper} {Q : Exit → Act → World → Prop} {S : World → Prop} {fuel : Nat} {listed : Array Bool} {a : Act} {w : World} {R : Value → World → Prop} (i d : Nat) {oi : Oper} {rs : List Nat}
    (hi : ops[i]? = some oi) (hd : oi.dst = some d) (hw : Region.wanted oi (yielded ops a.tmps) = true)
    (he : ∃ v w', (execOp a.eval oi).run P w = .ok (.value v) w' ∧ R v w')
    (h : ∀ v w', R v w' → S w' ∧ wpAnyH P md ops Q S fuel (listed.setIfInBounds i true) (a.put (some d) v) w') (hrs : AllReadyH P md ops Q S fuel listed a w rs) : AllReadyH P md ops Q S fuel listed a w (i :: rs) := by
  obtain ⟨v, w', he, hR⟩ := he
  exact ready_op i d v hi hd hw he (h v w' hR).1 (h v w' hR).2 hrs
theorem held_opx {P : Program} {md : Region.Mode} {ops : Array Oper} {Q : Exit → Act → World → Prop} {S : World → Prop} {fuel : Nat} {listed : Array Bool} {a : Act} {w : World} {R : Value → World → Prop} (i d : Nat) {oi : Oper}
    (hi : ops[i]? = some oi) (hd : oi.dst = some d) (hr : Region.ready md ops listed = [i]) (hw : Region.wanted oi (yielded ops a.tmps) = true)
    (he : ∃ v w', (execOp a.eval oi).run P w = .ok (.value v) w' ∧ R v w')
    (h : ∀ v w', R v w' → S w' ∧ wpAnyH P md ops Q S fuel (listed.setIfInBounds i true) (a.put (some d) v) w') : wpAnyH P md ops Q S (fuel + 1) listed a w := by
  obtain ⟨v, w', he, hR⟩ := he
  exact held_op i d v hi hd hr hw he (h v w' hR).1 (h v w' hR).2
theorem own_ne_type {w : World} {B e sz n g : Nat} {v : Value} {cs : List Value} {cs2 : Array Value} {t : TypeId} {fr : Nat × Nat} (h : w.ownsRow B e sz v n cs) (hg : w.heap[g]? = some (.cells cs2 t fr)) (hte : t ≠ e) : v.ownBlock ≠ some g := by
  rcases h.2 with ⟨rfl, _⟩ | ⟨k, cap, cur, rfl, _, hk, _⟩
  · intro hh; cases hh
  · intro hh
    injection hh with hh
    have hh : k = g := hh
    subst hh
    rw [hg] at hk
    injection hk with hk
    injection hk with _ h2 _
    exact hte h2
set_option maxRecDepth 100000 in
theorem exec_idxI {ρ : Operand → Value} {o : Oper} {x : Operand} (b off n c k : Nat) (w : World) (h : k < n) (ho : o.op = .indexAddr 32 x (.const (.int .i64 (k : Int))) := by rfl) (hx : ρ x = .slice (some ⟨b, off, none⟩) n c := by rfl) (hc : ρ (.const (.int .i64 (k : Int))) = .int .i64 (k : Int) := by rfl) :
    (execOp ρ o).run Try.prog w = .ok (.value (.pointer (some ⟨b, off + k, none⟩))) w := by
  have h1 : (k : Int) < (n : Int) := by omega
  unfold execOp
  rw [ho]
  simp [go_sem, hx, hc, h]
set_option maxRecDepth 100000 in
theorem exec_fromI {ρ : Operand → Value} {o : Oper} {x : Operand} (b off n c : Nat) (w : World) (h : 9 ≤ n) (hnc : n ≤ c) (ho : o.op = .slice 32 x (some (.const (.int .i64 8))) none none := by rfl) (hx : ρ x = .slice (some ⟨b, off, none⟩) n c := by rfl) (hc : ρ (.const (.int .i64 8)) = .int .i64 8 := by rfl) :
    (execOp ρ o).run Try.prog w = .ok (.value (.slice (some ⟨b, off + 8, none⟩) (n - 8) (c - 8))) w := by
  have h1 : (8 : Int) ≤ (n : Int) := by omega
  have h2 : (8 : Int) ≤ (c : Int) := by omega
  have h3 : 8 ≤ n := by omega
  have h4 : ¬ c = 8 := by omega
  unfold execOp
  rw [ho]
  simp [go_sem, hx, hc, h1, h3, h4, hnc, Instr.sliceAt, Try.underlying32]
set_option maxRecDepth 100000 in
theorem exec_none {ρ : Operand → Value} {o : Oper} (w : World) (ho : o.op = .buildSlice 32 0 #[] := by rfl) :
    (execOp ρ o).run Try.prog w = .ok (.value (.slice (some ⟨w.heap.size, 0, none⟩) 0 0)) (w.alloc (.cells #[] 3)) := by
  unfold execOp
  rw [ho]
  simp [go_sem]
set_option maxRecDepth 100000 in
theorem exec_allocR {ρ : Operand → Value} {o : Oper} (w : World) (ho : o.op = .alloc 41 := by rfl) :
    (execOp ρ o).run Try.prog w = .ok (.value (.pointer (some ⟨w.heap.size, 0, none⟩))) (w.alloc (.cells #[.slice none 0 0, .int .i64 0, .int .i64 0, .int .i64 0, .int .i64 0, .int .i64 0, .int .i64 0, .int .i64 0, .int .i64 0] 41)) := by
  unfold execOp
  rw [ho]
  simp [go_sem]
/-- Rules laid into a block of nine cells. -/
def put9 (w : World) (g : Nat) (A : Option Addr) (c : Nat) (r : Ru) : World :=
  ((((((((w.setCell ⟨g, 0, none⟩ (.slice A r.seats.length c)).setCell ⟨g, 1, none⟩ (.int .i64 r.tiers)).setCell ⟨g, 2, none⟩ (.int .i64 r.room)).setCell ⟨g, 3, none⟩ (.int .i64 r.size)).setCell ⟨g, 4, none⟩ (.int .i64 r.period)).setCell ⟨g, 5, none⟩ (.int .i64 r.window)).setCell ⟨g, 6, none⟩ (.int .i64 r.rest)).setCell ⟨g, 7, none⟩ (.int .i64 r.tries)).setCell ⟨g, 8, none⟩ (.int .i64 r.crew)
theorem put9_heap {w : World} {g : Nat} {A : Option Addr} {c : Nat} {r : Ru} {t : TypeId} (h : w.heap[g]? = some (.cells #[.slice none 0 0, .int .i64 0, .int .i64 0, .int .i64 0, .int .i64 0, .int .i64 0, .int .i64 0, .int .i64 0, .int .i64 0] t (0, 0))) : (put9 w g A c r).heap[g]? = some (.cells #[.slice A r.seats.length c, .int .i64 r.tiers, .int .i64 r.room, .int .i64 r.size, .int .i64 r.period, .int .i64 r.window, .int .i64 r.rest, .int .i64 r.tries, .int .i64 r.crew] t (0, 0)) := by
  unfold put9
  have h := Go.heap_setCell_same _ g 0 _ t (.slice A r.seats.length c) h
  have h := Go.heap_setCell_same _ g 1 _ t (.int .i64 r.tiers) h
  have h := Go.heap_setCell_same _ g 2 _ t (.int .i64 r.room) h
  have h := Go.heap_setCell_same _ g 3 _ t (.int .i64 r.size) h
  have h := Go.heap_setCell_same _ g 4 _ t (.int .i64 r.period) h
  have h := Go.heap_setCell_same _ g 5 _ t (.int .i64 r.window) h
  have h := Go.heap_setCell_same _ g 6 _ t (.int .i64 r.rest) h
  have h := Go.heap_setCell_same _ g 7 _ t (.int .i64 r.tries) h
  have h := Go.heap_setCell_same _ g 8 _ t (.int .i64 r.crew) h
  simpa using h
theorem put9_below {B : Nat} {w0 w : World} {g : Nat} {A : Option Addr} {c : Nat} {r : Ru} (h : Below B w0 w) (hg : B ≤ g) : Below B w0 (put9 w g A c r) := by
  unfold put9
  repeat refine Below.setCell ?_ hg _
  exact h
theorem put9_own {w : World} {B e sz n g : Nat} {v : Value} {cs : List Value} {A : Option Addr} {c : Nat} {r : Ru} (h : w.ownsRow B e sz v n cs) (hg : v.ownBlock ≠ some g) : (put9 w g A c r).ownsRow B e sz v n cs := by
  have k : ∀ (w : World) i u, w.ownsRow B e sz v n cs → (w.setCell ⟨g, i, none⟩ u).ownsRow B e sz v n cs := fun w i u h => h.kept (Go.Lib.grownBy_setCell w g i u) (.inr hg)
  unfold put9
  exact k _ _ _ (k _ _ _ (k _ _ _ (k _ _ _ (k _ _ _ (k _ _ _ (k _ _ _ (k _ _ _ (k _ _ _ (h)))))))))
set_option maxRecDepth 100000 in
theorem exec_store9 {ρ : Operand → Value} {o : Oper} {x y : Operand} (g : Nat) (A : Option Addr) (c : Nat) (r : Ru) (w : World) (h : w.heap[g]? = some (.cells #[.slice none 0 0, .int .i64 0, .int .i64 0, .int .i64 0, .int .i64 0, .int .i64 0, .int .i64 0, .int .i64 0, .int .i64 0] 41 (0, 0))) (ho : o.op = .store 41 x y := by rfl) (hx : ρ x = .pointer (some ⟨g, 0, none⟩) := by rfl) (hy : ρ y = ruV A c r := by rfl) :
    (execOp ρ o).run Try.prog w = .ok .skip (put9 w g A c r) := by
  have c0 := cell_of_row _ _ 0 _ _ _ h
  have z0 := frozen_of_row _ _ 0 _ _ h
  have c1 := cell_of_row _ _ 1 _ _ _ h
  have z1 := frozen_of_row _ _ 1 _ _ h
  have c2 := cell_of_row _ _ 2 _ _ _ h
  have z2 := frozen_of_row _ _ 2 _ _ h
  have c3 := cell_of_row _ _ 3 _ _ _ h
  have z3 := frozen_of_row _ _ 3 _ _ h
  have c4 := cell_of_row _ _ 4 _ _ _ h
  have z4 := frozen_of_row _ _ 4 _ _ h
  have c5 := cell_of_row _ _ 5 _ _ _ h
  have z5 := frozen_of_row _ _ 5 _ _ h
  have c6 := cell_of_row _ _ 6 _ _ _ h
  have z6 := frozen_of_row _ _ 6 _ _ h
  have c7 := cell_of_row _ _ 7 _ _ _ h
  have z7 := frozen_of_row _ _ 7 _ _ h
  have c8 := cell_of_row _ _ 8 _ _ _ h
  have z8 := frozen_of_row _ _ 8 _ _ h
  simp at c0 c1 c2 c3 c4 c5 c6 c7 c8
  unfold execOp
  rw [ho]
  simp [go_sem, hx, hy, ruV, c0, c1, c2, c3, c4, c5, c6, c7, c8, z0, z1, z2, z3, z4, z5, z6, z7, z8, put9]
set_option maxRecDepth 100000 in
theorem exec_buildR {ρ : Operand → Value} {o : Oper} {x1 x2 x3 x4 x5 x6 x7 x8 x0 : Operand} (A : Option Addr) (c : Nat) (r : Ru) (w : World) (ho : o.op = .build 41 #[(1, x1), (2, x2), (3, x3), (4, x4), (5, x5), (6, x6), (7, x7), (8, x8), (0, x0)] := by rfl)
    (h0 : ρ x0 = .slice A r.seats.length c := by rfl) (h1 : ρ x1 = .int .i64 r.tiers := by rfl) (h2 : ρ x2 = .int .i64 r.room := by rfl) (h3 : ρ x3 = .int .i64 r.size := by rfl) (h4 : ρ x4 = .int .i64 r.period := by rfl) (h5 : ρ x5 = .int .i64 r.window := by rfl) (h6 : ρ x6 = .int .i64 r.rest := by rfl) (h7 : ρ x7 = .int .i64 r.tries := by rfl) (h8 : ρ x8 = .int .i64 r.crew := by rfl) :
    (execOp ρ o).run Try.prog w = .ok (.value (ruV A c r)) w := by
  unfold execOp
  rw [ho]
  simp [go_sem, h0, h1, h2, h3, h4, h5, h6, h7, h8, ruV]
/-- The rules that a list of numbers makes. -/
def ruOf (l : List Int) : Ru := ⟨l.drop 8, l.getD 0 0, l.getD 1 0, l.getD 2 0, l.getD 3 0, l.getD 4 0, l.getD 5 0, l.getD 6 0, l.getD 7 0⟩
/-- New rules lie in a block made since. -/
def MadeRu (u : World) (r : Ru) (g : Nat) (w : World) : Prop := ∃ (B : Option Addr) (cb : Nat), Below u.heap.size u w ∧ u.heap.size ≤ g ∧ w.heap[g]? = some (.cells #[.slice B r.seats.length cb, .int .i64 r.tiers, .int .i64 r.room, .int .i64 r.size, .int .i64 r.period, .int .i64 r.window, .int .i64 r.rest, .int .i64 r.tries, .int .i64 r.crew] 41 (0, 0)) ∧ w.ownsRow u.heap.size 3 1 (.slice B r.seats.length cb) r.seats.length (ints r.seats)
def ru0 : Ru := ⟨[], 0, 0, 0, 0, 0, 0, 0, 0⟩
def rulesInV (l : List Int) : Ru × Bool := if 9 ≤ l.length ∧ (ruOf l).fine then (ruOf l, true) else (ru0, false)
/-- Rules in new memory, with a bool. -/
def NewRI (w : World) (x : Ru × Bool) (e : Ending) (w' : World) : Prop :=
  ∃ (B : Option Addr) (cb : Nat), e = .returned (.tuple #[ruV B cb x.1, .bool x.2]) ∧ w'.ownsRow w.heap.size 3 1 (.slice B x.1.seats.length cb) x.1.seats.length (ints x.1.seats) ∧ Below w.heap.size w w'
theorem ruOf_go {l : List Int} (hl : l.length ≤ 2097152) (h9 : 9 ≤ l.length) (hi : ∀ z ∈ l, inI z) : (ruOf l).go := by
  have k : ∀ j, j < 9 → inI (l.getD j 0) := fun j hj => by
    rw [List.getD_eq_getElem?_getD, List.getElem?_eq_getElem (by omega)]; exact hi _ (List.getElem_mem _)
  exact ⟨fun z hz => hi z (List.mem_of_mem_drop hz), k 0 (by omega), k 1 (by omega), k 2 (by omega), k 3 (by omega), k 4 (by omega), k 5 (by omega), k 6 (by omega), k 7 (by omega), by show (l.drop 8).length ≤ _; rw [List.length_drop]; omega⟩
theorem own_kept2 {w w' : World} {B e sz n : Nat} {v : Value} {cs : List Value} {row : Option Nat} (h : w.ownsRow B e sz v n cs) (g : w.grownBy w' row) (hne : ∀ k, v.ownBlock = some k → row = some k → False) : w'.ownsRow B e sz v n cs := by
  refine h.kept g ?_
  rcases hv : v.ownBlock with _ | k
  · exact .inl rfl
  · exact .inr fun q => hne k hv q.symm
set_option maxRecDepth 100000 in
theorem toInt_new (A : Option Addr) (l : List Int) (c B : Nat) (w : World) (hl : l.length ≤ 2097152) (hA : Rws w B A (ints l)) (hB : B ≤ w.heap.size) :
    Calls Try.prog 30 #[.slice A l.length c] w (NewR 3 1 w l.length (ints l)) := by
  refine (toInt_any A l c B w hl hA hB).mono ?_
  rintro e w' ⟨rfl, rfl⟩
  exact ⟨_, _, rfl, own_ints w _ l (Nat.le_refl _) hl, (Below.refl _ _).alloc (Nat.le_refl _) _⟩
theorem own_cap {w : World} {B e sz n m c : Nat} {A : Option Addr} {cs : List Value} (h : w.ownsRow B e sz (.slice A n c) m cs) : m ≤ c := by
  obtain ⟨_, _, he, h2, _⟩ := own_form h
  injection he with _ _ h3
  rw [h3]; exact h2
theorem rulesInV_len (l : List Int) : (rulesInV l).1.seats.length ≤ 4 := by
  unfold rulesInV
  split
  · rename_i h
    exact h.2.1.1.2
  · simp [ru0]
end Go.Proofs.Ytlflgflmlfileaa
