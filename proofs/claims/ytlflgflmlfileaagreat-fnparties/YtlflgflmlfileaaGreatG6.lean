/- Texts laid together: Rul, Rul2, Rul3, Rul4, Rul5, Rul6, Keep. -/
import Derived.Test.YtlflgflmlfileaaGreatRows
import Derived.Test.YtlflgflmlfileaaGreatG5
import Derived.Test.YtlflgflmlfileaaGreatG3
import Derived.Deep.DeepCutAuto
namespace Go.Proofs.YtlflgflmlfileaaGreat
open Go.RowKit
set_option linter.unusedSimpArgs false
set_option linter.unusedVariables false
/-- The numbers are values of Go. -/
structure Ru.go (r : Ru) : Prop where
  seats : ∀ z ∈ r.seats, inI z
  tiers : inI r.tiers
  room : inI r.room
  size : inI r.size
  period : inI r.period
  window : inI r.window
  rest : inI r.rest
  tries : inI r.tries
  crew : inI r.crew
  len : r.seats.length ≤ 9223372036854775807
def seatsIn (l : List Int) : Prop := ∀ z ∈ l, 1 ≤ z ∧ z ≤ 60
instance (l : List Int) : Decidable (seatsIn l) := by unfold seatsIn; infer_instance
/-- What RulesOk tells. -/
def Ru.fine (r : Ru) : Prop := ((1 ≤ r.seats.length ∧ r.seats.length ≤ 4) ∧ (1 ≤ r.tiers ∧ r.tiers ≤ 5) ∧ (1 ≤ r.room ∧ r.room ≤ 10) ∧ (1 ≤ r.size ∧ r.size ≤ 6) ∧ (1 ≤ r.period ∧ r.period ≤ 12)) ∧ seatsIn r.seats ∧ (1 ≤ r.window ∧ r.window ≤ 8) ∧ (0 ≤ r.rest ∧ r.rest ≤ 8) ∧ (1 ≤ r.tries ∧ r.tries ≤ 4) ∧ (1 ≤ r.crew ∧ r.crew ≤ 3)
instance (r : Ru) : Decidable r.fine := by unfold Ru.fine; infer_instance
set_option maxRecDepth 100000 in
set_option maxHeartbeats 3200000 in
theorem rulesOk_spec (A : Option Addr) (c : Nat) (r : Ru) (w : World) (hg : r.go) (hA : Rws w w.heap.size A (ints r.seats)) :
    Calls Tryz.prog 41 #[ruV A c r] w fun e w' => e = .returned (.bool (decide r.fine)) ∧ Below w.heap.size w w' := by
  have hlen := hg.len
  clear hg
  unfold ruV
  have bx : Below w.heap.size w (w.alloc (.cells #[.slice A r.seats.length c, .int .i64 r.tiers, .int .i64 r.room, .int .i64 r.size, .int .i64 r.period, .int .i64 r.window, .int .i64 r.rest, .int .i64 r.tries, .int .i64 r.crew] 34)) := (Below.refl _ _).alloc (Nat.le_refl _) _
  by_cases h0 : (1 ≤ r.seats.length ∧ r.seats.length ≤ 4)
  rotate_left
  · have hno : decide r.fine = false := by simp only [decide_eq_false_iff_not]; intro h; exact h0 h.1.1
    rw [hno]
    clear hno
    go_enter Tryz.func41, Tryz.ntmps41
    go_wp2_with (go_at_call 24; first | (refine (l1In_yes _ _ _ _ (by omega)).mono ?_; rintro e w' ⟨rfl, rfl⟩) | (refine (l1In_no _ _ _ _ (by omega)).mono ?_; rintro e w' ⟨rfl, rfl⟩))
    go_ret
    exact ⟨rfl, bx⟩
  by_cases h1 : (1 ≤ r.tiers ∧ r.tiers ≤ 5)
  rotate_left
  · have hno : decide r.fine = false := by simp only [decide_eq_false_iff_not]; intro h; exact h1 h.1.2.1
    rw [hno]
    clear hno
    go_enter Tryz.func41, Tryz.ntmps41
    go_wp2_with (go_at_call 24; first | (refine (l1In_yes _ _ _ _ (by omega)).mono ?_; rintro e w' ⟨rfl, rfl⟩) | (refine (l1In_no _ _ _ _ (by omega)).mono ?_; rintro e w' ⟨rfl, rfl⟩))
    go_ret
    exact ⟨rfl, bx⟩
  by_cases h2 : (1 ≤ r.room ∧ r.room ≤ 10)
  rotate_left
  · have hno : decide r.fine = false := by simp only [decide_eq_false_iff_not]; intro h; exact h2 h.1.2.2.1
    rw [hno]
    clear hno
    go_enter Tryz.func41, Tryz.ntmps41
    go_wp2_with (go_at_call 24; first | (refine (l1In_yes _ _ _ _ (by omega)).mono ?_; rintro e w' ⟨rfl, rfl⟩) | (refine (l1In_no _ _ _ _ (by omega)).mono ?_; rintro e w' ⟨rfl, rfl⟩))
    go_ret
    exact ⟨rfl, bx⟩
  by_cases h3 : (1 ≤ r.size ∧ r.size ≤ 6)
  rotate_left
  · have hno : decide r.fine = false := by simp only [decide_eq_false_iff_not]; intro h; exact h3 h.1.2.2.2.1
    rw [hno]
    clear hno
    go_enter Tryz.func41, Tryz.ntmps41
    go_wp2_with (go_at_call 24; first | (refine (l1In_yes _ _ _ _ (by omega)).mono ?_; rintro e w' ⟨rfl, rfl⟩) | (refine (l1In_no _ _ _ _ (by omega)).mono ?_; rintro e w' ⟨rfl, rfl⟩))
    go_ret
    exact ⟨rfl, bx⟩
  by_cases h4 : (1 ≤ r.period ∧ r.period ≤ 12)
  rotate_left
  · have hno : decide r.fine = false := by simp only [decide_eq_false_iff_not]; intro h; exact h4 h.1.2.2.2.2
    rw [hno]
    clear hno
    go_enter Tryz.func41, Tryz.ntmps41
    go_wp2_with (go_at_call 24; first | (refine (l1In_yes _ _ _ _ (by omega)).mono ?_; rintro e w' ⟨rfl, rfl⟩) | (refine (l1In_no _ _ _ _ (by omega)).mono ?_; rintro e w' ⟨rfl, rfl⟩))
    go_ret
    exact ⟨rfl, bx⟩
  go_enter Tryz.func41, Tryz.ntmps41
  go_wp2_with (go_at_call 24; first | (refine (l1In_yes _ _ _ _ (by omega)).mono ?_; rintro e w' ⟨rfl, rfl⟩) | (refine (l1In_no _ _ _ _ (by omega)).mono ?_; rintro e w' ⟨rfl, rfl⟩))
  go_loopw [3] (fun vi wr => ∃ i : Nat, i ≤ r.seats.length ∧ vi = .int .i64 i ∧ (∀ j, j < i → 1 ≤ r.seats.getD j 0 ∧ r.seats.getD j 0 ≤ 60) ∧ wr = w.alloc (.cells #[.slice A r.seats.length c, .int .i64 r.tiers, .int .i64 r.room, .int .i64 r.size, .int .i64 r.period, .int .i64 r.window, .int .i64 r.rest, .int .i64 r.tries, .int .i64 r.crew] 34)) (fun vi _ => r.seats.length - (intOf vi).toNat)
  case atStart => exact ⟨0, by omega, rfl, (fun j hj => by omega), rfl⟩
  case round =>
    obtain ⟨i, hi, rfl, hall, rfl⟩ := hrel
    by_cases hlt : i < r.seats.length
    · obtain ⟨b, off, rfl, hbB, c0⟩ := hA.int hlt
      by_cases hs : 1 ≤ r.seats.getD i 0 ∧ r.seats.getD i 0 ≤ 60
      · have hall' : ∀ j, j < i + 1 → 1 ≤ r.seats.getD j 0 ∧ r.seats.getD j 0 ≤ 60 := by
          intro j hj
          by_cases e : j = i
          · subst e; exact hs
          · exact hall j (by omega)
        have HA := Lib.hid hall'
        clear hall hall'
        generalize r.seats.getD i 0 = x at *
        go_wp2_with (go_at_call 24; first | (refine (l1In_yes _ _ _ _ (by omega)).mono ?_; rintro e w' ⟨rfl, rfl⟩) | (refine (l1In_no _ _ _ _ (by omega)).mono ?_; rintro e w' ⟨rfl, rfl⟩))
        go_roundw
        case rel => exact ⟨i + 1, by omega, by go_num, HA.out, by first | rfl | trivial⟩
        case measure => simp [intOf]; omega
      · have hno : decide r.fine = false := by
          simp only [decide_eq_false_iff_not]
          intro h
          refine hs (h.2.1 _ ?_)
          rw [List.getD_eq_getElem?_getD, List.getElem?_eq_getElem hlt]; exact List.getElem_mem hlt
        have HN := Lib.hid hno
        clear hno hall
        generalize r.seats.getD i 0 = x at *
        go_wp2_with (go_at_call 24; first | (refine (l1In_yes _ _ _ _ (by omega)).mono ?_; rintro e w' ⟨rfl, rfl⟩) | (refine (l1In_no _ _ _ _ (by omega)).mono ?_; rintro e w' ⟨rfl, rfl⟩))
        go_ret
        exact ⟨by rw [HN.out] <;> rfl, bx⟩
    · have hseats : seatsIn r.seats := by
        intro z hz
        obtain ⟨j, hj, rfl⟩ := List.mem_iff_getElem.1 hz
        have := hall j (by omega)
        rwa [List.getD_eq_getElem?_getD, List.getElem?_eq_getElem hj] at this
      have hfin : decide r.fine = decide ((1 ≤ r.window ∧ r.window ≤ 8) ∧ (0 ≤ r.rest ∧ r.rest ≤ 8) ∧ (1 ≤ r.tries ∧ r.tries ≤ 4) ∧ (1 ≤ r.crew ∧ r.crew ≤ 3)) := by
        unfold Ru.fine
        simp only [h0, h1, h2, h3, h4, hseats, true_and, and_self]
      have HF := Lib.hid hfin
      clear hfin hall hseats
      by_cases g0 : (1 ≤ r.window ∧ r.window ≤ 8)
      rotate_left
      · have HN : Hid (decide r.fine = false) := by show _ = _; rw [HF.out]; exact decide_eq_false (by omega)
        go_wp2_with (go_at_call 24; first | (refine (l1In_yes _ _ _ _ (by omega)).mono ?_; rintro e w' ⟨rfl, rfl⟩) | (refine (l1In_no _ _ _ _ (by omega)).mono ?_; rintro e w' ⟨rfl, rfl⟩))
        go_ret
        exact ⟨by rw [HN.out] <;> rfl, bx⟩
      by_cases g1 : (0 ≤ r.rest ∧ r.rest ≤ 8)
      rotate_left
      · have HN : Hid (decide r.fine = false) := by show _ = _; rw [HF.out]; exact decide_eq_false (by omega)
        go_wp2_with (go_at_call 24; first | (refine (l1In_yes _ _ _ _ (by omega)).mono ?_; rintro e w' ⟨rfl, rfl⟩) | (refine (l1In_no _ _ _ _ (by omega)).mono ?_; rintro e w' ⟨rfl, rfl⟩))
        go_ret
        exact ⟨by rw [HN.out] <;> rfl, bx⟩
      by_cases g2 : (1 ≤ r.tries ∧ r.tries ≤ 4)
      rotate_left
      · have HN : Hid (decide r.fine = false) := by show _ = _; rw [HF.out]; exact decide_eq_false (by omega)
        go_wp2_with (go_at_call 24; first | (refine (l1In_yes _ _ _ _ (by omega)).mono ?_; rintro e w' ⟨rfl, rfl⟩) | (refine (l1In_no _ _ _ _ (by omega)).mono ?_; rintro e w' ⟨rfl, rfl⟩))
        go_ret
        exact ⟨by rw [HN.out] <;> rfl, bx⟩
      by_cases g3 : (1 ≤ r.crew ∧ r.crew ≤ 3)
      rotate_left
      · have HN : Hid (decide r.fine = false) := by show _ = _; rw [HF.out]; exact decide_eq_false (by omega)
        go_wp2_with (go_at_call 24; first | (refine (l1In_yes _ _ _ _ (by omega)).mono ?_; rintro e w' ⟨rfl, rfl⟩) | (refine (l1In_no _ _ _ _ (by omega)).mono ?_; rintro e w' ⟨rfl, rfl⟩))
        go_ret
        exact ⟨by rw [HN.out] <;> rfl, bx⟩
      have HN : Hid (decide r.fine = true) := by show _ = _; rw [HF.out]; exact decide_eq_true ⟨g0, g1, g2, g3⟩
      go_wp2_with (go_at_call 24; first | (refine (l1In_yes _ _ _ _ (by omega)).mono ?_; rintro e w' ⟨rfl, rfl⟩) | (refine (l1In_no _ _ _ _ (by omega)).mono ?_; rintro e w' ⟨rfl, rfl⟩))
      go_ret
      exact ⟨by rw [HN.out] <;> rfl, bx⟩
/-- The level of one who has waited k ticks. -/
def levN (r : Ru) (tier k : Int) : Int := max 0 (tier - k.tdiv r.period)
/-- The ticks to a level. -/
def ticksN (r : Ru) (tier level : Int) : Int := max 0 ((tier - level) * r.period)
def levelV (r : Ru) (tier k : Int) : Int := if r.fine ∧ (0 ≤ tier ∧ tier ≤ r.tiers - 1) ∧ 0 ≤ k then levN r tier k else -1
def ticksV (r : Ru) (tier level : Int) : Int := if r.fine ∧ (0 ≤ tier ∧ tier ≤ r.tiers - 1) ∧ 0 ≤ level then ticksN r tier level else -1
theorem lev_gt (r : Ru) (tier level k : Int) (hp : 1 ≤ r.period) (hl : 0 ≤ level) (hk : 0 ≤ k) : level < levN r tier k ↔ k < ticksN r tier level := by
  have e1 : k.tdiv r.period = k / r.period := Int.tdiv_eq_ediv_of_nonneg hk
  have e2 : (tier - level ≤ k / r.period) ↔ (tier - level) * r.period ≤ k := Int.le_ediv_iff_mul_le (by omega)
  unfold levN ticksN
  rw [e1]
  constructor
  · intro h
    have h1 : ¬ (tier - level ≤ k / r.period) := by omega
    rw [e2] at h1
    omega
  · intro h
    have h1 : ¬ ((tier - level) * r.period ≤ k) := by omega
    rw [← e2] at h1
    omega
theorem ticks_le (r : Ru) (tier level : Int) (hp : 1 ≤ r.period ∧ r.period ≤ 12) (ht : tier ≤ 4) (hl : 0 ≤ level) : 0 ≤ ticksN r tier level ∧ ticksN r tier level ≤ 48 := by
  have h : (tier - level) * r.period ≤ 4 * 12 := by
    rcases Int.lt_or_le (tier - level) 0 with h0 | h0
    · have : (tier - level) * r.period ≤ 0 * r.period := Int.mul_le_mul_of_nonneg_right (by omega) (by omega)
      omega
    · exact Int.mul_le_mul (by omega) (by omega) (by omega) (by omega)
  unfold ticksN
  omega
theorem tdiv_in (k p : Int) (hk : 0 ≤ k) (hp : 1 ≤ p) : 0 ≤ k.tdiv p ∧ k.tdiv p ≤ k := by
  rw [Int.tdiv_eq_ediv_of_nonneg hk]
  exact ⟨Int.ediv_nonneg hk (by omega), Int.ediv_le_self _ hk⟩
set_option maxRecDepth 100000 in
set_option maxHeartbeats 400000 in
theorem level1_spec (A : Option Addr) (c : Nat) (r : Ru) (tier k : Int) (w : World) (hp : 1 ≤ r.period ∧ r.period ≤ 12) (ht : 0 ≤ tier ∧ tier ≤ 4) (hk : 0 ≤ k ∧ k ≤ 9223372036854775807) :
    Calls Tryz.prog 103 #[ruV A c r, .int .i64 tier, .int .i64 k] w fun e w' => e = .returned (.int .i64 (levN r tier k)) ∧ Below w.heap.size w w' := by
  have hd := tdiv_in k r.period hk.1 hp.1
  unfold ruV
  have h0 : ¬ r.period = 0 := by omega
  have h1 : ¬ r.period = -1 := by omega
  obtain ⟨q, hq⟩ : ∃ q, k.tdiv r.period = q := ⟨_, rfl⟩
  have HR : Hid (levN r tier k = max 0 (tier - q)) := by show _ = _; unfold levN; rw [hq]
  rw [hq] at hd
  have hw : IntKind.i64.wrap q = q := by rw [IntKind.wrap_i64]; omega
  generalize levN r tier k = L at *
  go_enter Tryz.func103, Tryz.ntmps103
  go_wp2_with fail
  refine (l1Max_any 0 (tier - q) _).mono ?_
  rintro e w2 ⟨rfl, rfl⟩
  rw [max_if]
  go_wp2
  go_ret
  exact ⟨by rw [HR.out] <;> rfl, (Below.refl _ _).alloc (Nat.le_refl _) _⟩
/-- n marks from k on. -/
def marksI (k n : Nat) : List Int := (List.range n).map fun i => ((k + i : Nat) : Int)
theorem marksI_length (k n : Nat) : (marksI k n).length = n := by simp [marksI]
theorem marksI_getD (k n i : Nat) (h : i < n) : (marksI k n).getD i 0 = ((k + i : Nat) : Int) := by simp [marksI, h]
def markedI (l : List Int) (k j : Nat) : List Value := ints (marksI k j) ++ (ints l).drop j
theorem markedI_zero (l : List Int) (k : Nat) : markedI l k 0 = ints l := by simp [markedI, marksI, ints]
theorem markedI_all (l : List Int) (k : Nat) : markedI l k l.length = ints (marksI k l.length) := by
  unfold markedI; rw [List.drop_of_length_le (by rw [ints_len]; omega), List.append_nil]
theorem markedI_set (l : List Int) (k j : Nat) (hj : j < l.length) : (markedI l k j).set j (.int .i64 ((k + j : Nat) : Int)) = markedI l k (j + 1) := by
  unfold markedI
  have hlen : (ints (marksI k j)).length = j := by rw [ints_len, marksI_length]
  rw [List.set_append_right _ _ (by omega), hlen, Nat.sub_self]
  have hd : (ints l).drop j = (ints l)[j]'(by rw [ints_len]; exact hj) :: (ints l).drop (j + 1) := List.drop_eq_getElem_cons _
  rw [hd, List.set_cons_zero]
  have hm : marksI k (j + 1) = marksI k j ++ [((k + j : Nat) : Int)] := by simp [marksI, List.range_succ]
  rw [hm, ints_append, List.append_assoc]
  rfl
theorem own_ints (w : World) (base : Nat) (l : List Int) (hb : base ≤ w.heap.size) (hl : l.length ≤ 2097152) :
    (w.alloc (.cells (ints l).toArray 3)).ownsRow base 3 1 (.slice (some ⟨w.heap.size, 0, none⟩) l.length l.length) l.length (ints l) := by
  refine ⟨by simp [ints_len], .inr ⟨_, _, _, rfl, hb, heap_alloc_new _ _, Nat.le_refl _, by unfold maxLen; omega, by simp [ints_len], ?_⟩⟩
  rw [Nat.mul_one, ← ints_len l]
  exact List.take_length
theorem own_weak {w : World} {base B e sz n : Nat} {v : Value} {cs : List Value} (h : w.ownsRow base e sz v n cs) (hB : B ≤ base) : w.ownsRow B e sz v n cs := by
  refine ⟨h.1, ?_⟩
  rcases h.2 with h2 | ⟨g, cap, cur, hv, hg, r⟩
  · exact .inl h2
  · exact .inr ⟨g, cap, cur, hv, by omega, r⟩
theorem own_set {w : World} {B e sz n q i : Nat} {v u : Value} {cs : List Value} (h : w.ownsRow B e sz v n cs) (hq : q < B) : (w.setCell ⟨q, i, none⟩ u).ownsRow B e sz v n cs :=
  own_cur h (Go.Lib.grownBy_setCell w q i u) hq
/-- Rules in new memory. -/
def NewRu (w : World) (r : Ru) (e : Ending) (w' : World) : Prop :=
  ∃ (B : Option Addr) (cb : Nat), e = .returned (ruV B cb r) ∧ w'.ownsRow w.heap.size 3 1 (.slice B r.seats.length cb) r.seats.length (ints r.seats) ∧ Below w.heap.size w w'
theorem rws_below {w w' : World} {A : Option Addr} {cs : List Value} (h : Rws w w.heap.size A cs) (hb : Below w.heap.size w w') : Rws w' w'.heap.size A cs := (h.below hb).more hb.size
/-- What RulesNums returns. -/
def numsR (r : Ru) : List Int := if r.fine then [r.tiers, r.room, r.size, r.period, r.window, r.rest, r.tries, r.crew] ++ r.seats else []
/-- What SameRules tells. -/
def sameR (a b : Ru) : Prop := a.seats = b.seats ∧ a.tiers = b.tiers ∧ a.room = b.room ∧ a.size = b.size ∧ a.period = b.period ∧ a.window = b.window ∧ a.rest = b.rest ∧ a.tries = b.tries ∧ a.crew = b.crew
instance (a b : Ru) : Decidable (sameR a b) := by unfold sameR; infer_instance
/-- One of those that may come up yields something that is told. -/
theorem ready_opx {P : Program} {md : Region.Mode} {ops : Array Oper} {Q : Exit → Act → World → Prop} {S : World → Prop} {fuel : Nat} {listed : Array Bool} {a : Act} {w : World} {R : Value → World → Prop} (i d : Nat) {oi : Oper} {rs : List Nat}
    (hi : ops[i]? = some oi) (hd : oi.dst = some d) (hw : Region.wanted oi (yielded ops a.tmps) = true)
    (he : ∃ v w', (execOp a.eval oi).run P w = .ok (.value v) w' ∧ R v w')
    (h : ∀ v w', R v w' → S w' ∧ wpAnyH P md ops Q S fuel (listed.setIfInBounds i true) (a.put (some d) v) w') (hrs : AllReadyH P md ops Q S fuel listed a w rs) : AllReadyH P md ops Q S fuel listed a w (i :: rs) := by
  obtain ⟨v, w', he, hR⟩ := he
  exact ready_op i d v hi hd hw he (h v w' hR).1 (h v w' hR).2 hrs
theorem held_opx {P : Program} {md : Region.Mode} {ops : Array Oper} {Q : Exit → Act → World → Prop} {S : World → Prop} {fuel : Nat} {listed : Array Bool} {a : Act} {w : World} {R : Value → World → Prop} (i d : Nat) {oi : Oper}
    (hi : ops[i]? = some oi) (hd : oi.dst = some d) (hr : Region.ready md ops listed = [i]) (hw : Region.wanted oi (yielded ops a.tmps) = true)
    (he : ∃ v w', (execOp a.eval oi).run P w = .ok (.value v) w' ∧ R v w')
    (h : ∀ v w', R v w' → S w' ∧ wpAnyH P md ops Q S fuel (listed.setIfInBounds i true) (a.put (some d) v) w') : wpAnyH P md ops Q S (fuel + 1) listed a w := by
  obtain ⟨v, w', he, hR⟩ := he
  exact held_op i d v hi hd hr hw he (h v w' hR).1 (h v w' hR).2
theorem own_ne_type {w : World} {B e sz n g : Nat} {v : Value} {cs : List Value} {cs2 : Array Value} {t : TypeId} {fr : Nat × Nat} (h : w.ownsRow B e sz v n cs) (hg : w.heap[g]? = some (.cells cs2 t fr)) (hte : t ≠ e) : v.ownBlock ≠ some g := by
  rcases h.2 with ⟨rfl, _⟩ | ⟨k, cap, cur, rfl, _, hk, _⟩
  · intro hh; cases hh
  · intro hh
    injection hh with hh
    have hh : k = g := hh
    subst hh
    rw [hg] at hk
    injection hk with hk
    injection hk with _ h2 _
    exact hte h2
set_option maxRecDepth 100000 in
theorem exec_idxI {ρ : Operand → Value} {o : Oper} {x : Operand} (b off n c k : Nat) (w : World) (h : k < n) (ho : o.op = .indexAddr 32 x (.const (.int .i64 (k : Int))) := by rfl) (hx : ρ x = .slice (some ⟨b, off, none⟩) n c := by rfl) (hc : ρ (.const (.int .i64 (k : Int))) = .int .i64 (k : Int) := by rfl) :
    (execOp ρ o).run Tryz.prog w = .ok (.value (.pointer (some ⟨b, off + k, none⟩))) w := by
  have h1 : (k : Int) < (n : Int) := by omega
  unfold execOp
  rw [ho]
  simp [go_sem, hx, hc, h]
set_option maxRecDepth 100000 in
theorem exec_fromI {ρ : Operand → Value} {o : Oper} {x : Operand} (b off n c : Nat) (w : World) (h : 9 ≤ n) (hnc : n ≤ c) (ho : o.op = .slice 32 x (some (.const (.int .i64 8))) none none := by rfl) (hx : ρ x = .slice (some ⟨b, off, none⟩) n c := by rfl) (hc : ρ (.const (.int .i64 8)) = .int .i64 8 := by rfl) :
    (execOp ρ o).run Tryz.prog w = .ok (.value (.slice (some ⟨b, off + 8, none⟩) (n - 8) (c - 8))) w := by
  have h1 : (8 : Int) ≤ (n : Int) := by omega
  have h2 : (8 : Int) ≤ (c : Int) := by omega
  have h3 : 8 ≤ n := by omega
  have h4 : ¬ c = 8 := by omega
  unfold execOp
  rw [ho]
  simp [go_sem, hx, hc, h1, h3, h4, hnc, Instr.sliceAt, Tryz.underlying32]
set_option maxRecDepth 100000 in
theorem exec_none {ρ : Operand → Value} {o : Oper} (w : World) (ho : o.op = .buildSlice 32 0 #[] := by rfl) :
    (execOp ρ o).run Tryz.prog w = .ok (.value (.slice (some ⟨w.heap.size, 0, none⟩) 0 0)) (w.alloc (.cells #[] 3)) := by
  unfold execOp
  rw [ho]
  simp [go_sem]
set_option maxRecDepth 100000 in
theorem exec_allocR {ρ : Operand → Value} {o : Oper} (w : World) (ho : o.op = .alloc 34 := by rfl) :
    (execOp ρ o).run Tryz.prog w = .ok (.value (.pointer (some ⟨w.heap.size, 0, none⟩))) (w.alloc (.cells #[.slice none 0 0, .int .i64 0, .int .i64 0, .int .i64 0, .int .i64 0, .int .i64 0, .int .i64 0, .int .i64 0, .int .i64 0] 34)) := by
  unfold execOp
  rw [ho]
  simp [go_sem]
/-- Rules laid into a block of nine cells. -/
def put9 (w : World) (g : Nat) (A : Option Addr) (c : Nat) (r : Ru) : World :=
  ((((((((w.setCell ⟨g, 0, none⟩ (.slice A r.seats.length c)).setCell ⟨g, 1, none⟩ (.int .i64 r.tiers)).setCell ⟨g, 2, none⟩ (.int .i64 r.room)).setCell ⟨g, 3, none⟩ (.int .i64 r.size)).setCell ⟨g, 4, none⟩ (.int .i64 r.period)).setCell ⟨g, 5, none⟩ (.int .i64 r.window)).setCell ⟨g, 6, none⟩ (.int .i64 r.rest)).setCell ⟨g, 7, none⟩ (.int .i64 r.tries)).setCell ⟨g, 8, none⟩ (.int .i64 r.crew)
theorem put9_heap {w : World} {g : Nat} {A : Option Addr} {c : Nat} {r : Ru} {t : TypeId} (h : w.heap[g]? = some (.cells #[.slice none 0 0, .int .i64 0, .int .i64 0, .int .i64 0, .int .i64 0, .int .i64 0, .int .i64 0, .int .i64 0, .int .i64 0] t (0, 0))) : (put9 w g A c r).heap[g]? = some (.cells #[.slice A r.seats.length c, .int .i64 r.tiers, .int .i64 r.room, .int .i64 r.size, .int .i64 r.period, .int .i64 r.window, .int .i64 r.rest, .int .i64 r.tries, .int .i64 r.crew] t (0, 0)) := by
  unfold put9
  have h := Go.heap_setCell_same _ g 0 _ t (.slice A r.seats.length c) h
  have h := Go.heap_setCell_same _ g 1 _ t (.int .i64 r.tiers) h
  have h := Go.heap_setCell_same _ g 2 _ t (.int .i64 r.room) h
  have h := Go.heap_setCell_same _ g 3 _ t (.int .i64 r.size) h
  have h := Go.heap_setCell_same _ g 4 _ t (.int .i64 r.period) h
  have h := Go.heap_setCell_same _ g 5 _ t (.int .i64 r.window) h
  have h := Go.heap_setCell_same _ g 6 _ t (.int .i64 r.rest) h
  have h := Go.heap_setCell_same _ g 7 _ t (.int .i64 r.tries) h
  have h := Go.heap_setCell_same _ g 8 _ t (.int .i64 r.crew) h
  simpa using h
theorem put9_below {B : Nat} {w0 w : World} {g : Nat} {A : Option Addr} {c : Nat} {r : Ru} (h : Below B w0 w) (hg : B ≤ g) : Below B w0 (put9 w g A c r) := by
  unfold put9
  repeat refine Below.setCell ?_ hg _
  exact h
theorem put9_own {w : World} {B e sz n g : Nat} {v : Value} {cs : List Value} {A : Option Addr} {c : Nat} {r : Ru} (h : w.ownsRow B e sz v n cs) (hg : v.ownBlock ≠ some g) : (put9 w g A c r).ownsRow B e sz v n cs := by
  have k : ∀ (w : World) i u, w.ownsRow B e sz v n cs → (w.setCell ⟨g, i, none⟩ u).ownsRow B e sz v n cs := fun w i u h => h.kept (Go.Lib.grownBy_setCell w g i u) (.inr hg)
  unfold put9
  exact k _ _ _ (k _ _ _ (k _ _ _ (k _ _ _ (k _ _ _ (k _ _ _ (k _ _ _ (k _ _ _ (k _ _ _ (h)))))))))
set_option maxRecDepth 100000 in
theorem exec_store9 {ρ : Operand → Value} {o : Oper} {x y : Operand} (g : Nat) (A : Option Addr) (c : Nat) (r : Ru) (w : World) (h : w.heap[g]? = some (.cells #[.slice none 0 0, .int .i64 0, .int .i64 0, .int .i64 0, .int .i64 0, .int .i64 0, .int .i64 0, .int .i64 0, .int .i64 0] 34 (0, 0))) (ho : o.op = .store 34 x y := by rfl) (hx : ρ x = .pointer (some ⟨g, 0, none⟩) := by rfl) (hy : ρ y = ruV A c r := by rfl) :
    (execOp ρ o).run Tryz.prog w = .ok .skip (put9 w g A c r) := by
  have c0 := cell_of_row _ _ 0 _ _ _ h
  have z0 := frozen_of_row _ _ 0 _ _ h
  have c1 := cell_of_row _ _ 1 _ _ _ h
  have z1 := frozen_of_row _ _ 1 _ _ h
  have c2 := cell_of_row _ _ 2 _ _ _ h
  have z2 := frozen_of_row _ _ 2 _ _ h
  have c3 := cell_of_row _ _ 3 _ _ _ h
  have z3 := frozen_of_row _ _ 3 _ _ h
  have c4 := cell_of_row _ _ 4 _ _ _ h
  have z4 := frozen_of_row _ _ 4 _ _ h
  have c5 := cell_of_row _ _ 5 _ _ _ h
  have z5 := frozen_of_row _ _ 5 _ _ h
  have c6 := cell_of_row _ _ 6 _ _ _ h
  have z6 := frozen_of_row _ _ 6 _ _ h
  have c7 := cell_of_row _ _ 7 _ _ _ h
  have z7 := frozen_of_row _ _ 7 _ _ h
  have c8 := cell_of_row _ _ 8 _ _ _ h
  have z8 := frozen_of_row _ _ 8 _ _ h
  simp at c0 c1 c2 c3 c4 c5 c6 c7 c8
  unfold execOp
  rw [ho]
  simp [go_sem, hx, hy, ruV, c0, c1, c2, c3, c4, c5, c6, c7, c8, z0, z1, z2, z3, z4, z5, z6, z7, z8, put9]
set_option maxRecDepth 100000 in
theorem exec_buildR {ρ : Operand → Value} {o : Oper} {x1 x2 x3 x4 x5 x6 x7 x8 x0 : Operand} (A : Option Addr) (c : Nat) (r : Ru) (w : World) (ho : o.op = .build 34 #[(1, x1), (2, x2), (3, x3), (4, x4), (5, x5), (6, x6), (7, x7), (8, x8), (0, x0)] := by rfl)
    (h0 : ρ x0 = .slice A r.seats.length c := by rfl) (h1 : ρ x1 = .int .i64 r.tiers := by rfl) (h2 : ρ x2 = .int .i64 r.room := by rfl) (h3 : ρ x3 = .int .i64 r.size := by rfl) (h4 : ρ x4 = .int .i64 r.period := by rfl) (h5 : ρ x5 = .int .i64 r.window := by rfl) (h6 : ρ x6 = .int .i64 r.rest := by rfl) (h7 : ρ x7 = .int .i64 r.tries := by rfl) (h8 : ρ x8 = .int .i64 r.crew := by rfl) :
    (execOp ρ o).run Tryz.prog w = .ok (.value (ruV A c r)) w := by
  unfold execOp
  rw [ho]
  simp [go_sem, h0, h1, h2, h3, h4, h5, h6, h7, h8, ruV]
/-- The rules that a list of numbers makes. -/
def ruOf (l : List Int) : Ru := ⟨l.drop 8, l.getD 0 0, l.getD 1 0, l.getD 2 0, l.getD 3 0, l.getD 4 0, l.getD 5 0, l.getD 6 0, l.getD 7 0⟩
/-- New rules lie in a block made since. -/
def MadeRu (u : World) (r : Ru) (g : Nat) (w : World) : Prop := ∃ (B : Option Addr) (cb : Nat), Below u.heap.size u w ∧ u.heap.size ≤ g ∧ w.heap[g]? = some (.cells #[.slice B r.seats.length cb, .int .i64 r.tiers, .int .i64 r.room, .int .i64 r.size, .int .i64 r.period, .int .i64 r.window, .int .i64 r.rest, .int .i64 r.tries, .int .i64 r.crew] 34 (0, 0)) ∧ w.ownsRow u.heap.size 3 1 (.slice B r.seats.length cb) r.seats.length (ints r.seats)
def ru0 : Ru := ⟨[], 0, 0, 0, 0, 0, 0, 0, 0⟩
def rulesInV (l : List Int) : Ru × Bool := if 9 ≤ l.length ∧ (ruOf l).fine then (ruOf l, true) else (ru0, false)
/-- Rules in new memory, with a bool. -/
def NewRI (w : World) (x : Ru × Bool) (e : Ending) (w' : World) : Prop :=
  ∃ (B : Option Addr) (cb : Nat), e = .returned (.tuple #[ruV B cb x.1, .bool x.2]) ∧ w'.ownsRow w.heap.size 3 1 (.slice B x.1.seats.length cb) x.1.seats.length (ints x.1.seats) ∧ Below w.heap.size w w'
theorem ruOf_go {l : List Int} (hl : l.length ≤ 2097152) (h9 : 9 ≤ l.length) (hi : ∀ z ∈ l, inI z) : (ruOf l).go := by
  have k : ∀ j, j < 9 → inI (l.getD j 0) := fun j hj => by
    rw [List.getD_eq_getElem?_getD, List.getElem?_eq_getElem (by omega)]; exact hi _ (List.getElem_mem _)
  exact ⟨fun z hz => hi z (List.mem_of_mem_drop hz), k 0 (by omega), k 1 (by omega), k 2 (by omega), k 3 (by omega), k 4 (by omega), k 5 (by omega), k 6 (by omega), k 7 (by omega), by show (l.drop 8).length ≤ _; rw [List.length_drop]; omega⟩
theorem own_kept2 {w w' : World} {B e sz n : Nat} {v : Value} {cs : List Value} {row : Option Nat} (h : w.ownsRow B e sz v n cs) (g : w.grownBy w' row) (hne : ∀ k, v.ownBlock = some k → row = some k → False) : w'.ownsRow B e sz v n cs := by
  refine h.kept g ?_
  rcases hv : v.ownBlock with _ | k
  · exact .inl rfl
  · exact .inr fun q => hne k hv q.symm
theorem own_cap {w : World} {B e sz n m c : Nat} {A : Option Addr} {cs : List Value} (h : w.ownsRow B e sz (.slice A n c) m cs) : m ≤ c := by
  obtain ⟨_, _, he, h2, _⟩ := own_form h
  injection he with _ _ h3
  rw [h3]; exact h2
theorem rulesInV_len (l : List Int) : (rulesInV l).1.seats.length ≤ 4 := by
  unfold rulesInV
  split
  · rename_i h
    exact h.2.1.1.2
  · simp [ru0]
end Go.Proofs.YtlflgflmlfileaaGreat
