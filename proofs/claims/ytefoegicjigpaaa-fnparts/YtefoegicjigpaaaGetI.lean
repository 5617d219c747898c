/- GetNum of the program: what it returns, its panics recovered. -/
import Derived.Test.YtefoegicjigpaaaGet
import Derived.Defers
import Derived.Recover
namespace Go.Proofs.Ytefoegicjigpaaa
open Go.RowKit

/-- The panic that the readers raise. -/
def badEnd : Ending := .panicked [{ v := .iface 62 (.agg #[]), recovered := false }]

set_option maxHeartbeats 400000 in
theorem shortest_yes (n sz : Nat) (w : World) (h : (encI n).length = sz) :
    Calls Try.prog 46 #[.int .i64 n, .int .i64 sz] w fun e w' => e = .returned (.int .i64 n) ∧ Below w.heap.size w w' := by
  have c2 := putNum_impl n
  have hne : (((encI n).length : Int) != sz) = false := by simp [h]
  generalize encI n = l at *
  have C2 := Lib.hid c2
  clear c2 h
  go_enter Try.func46, Try.ntmps46
  go_wp2_with fail
  refine (C2.out _).mono ?_
  rintro e w1 ⟨A1, a1, rfl, o1, b1⟩
  go_wp2
  go_ret
  exact ⟨rfl, b1⟩
set_option maxHeartbeats 400000 in
theorem shortest_no (n sz : Nat) (w : World) (h : ¬ (encI n).length = sz) :
    Calls Try.prog 46 #[.int .i64 n, .int .i64 sz] w fun e w' => e = .panicked [{ v := .iface 62 (.agg #[]), recovered := false }] ∧ Below w.heap.size w w' := by
  have c2 := putNum_impl n
  have hne : (((encI n).length : Int) != sz) = true := by simp; omega
  generalize encI n = l at *
  have C2 := Lib.hid c2
  clear c2 h
  go_enter Try.func46, Try.ntmps46
  go_wp2_with fail
  refine (C2.out _).mono ?_
  rintro e w1 ⟨A1, a1, rfl, o1, b1⟩
  go_wp2
  exact ⟨rfl, rfl, b1⟩

/-- How mustNum ends. -/
def mustEnd (o : Option (Nat × Nat)) (at_ : Nat) : Ending :=
  match o with
  | some (n, c) => .returned (.tuple #[.int .i64 (n : Int), .int .i64 ((at_ + c : Nat) : Int)])
  | none => badEnd
theorem must_no {o : Option (Nat × Nat)} {a : Nat} (h : o = none) : badEnd = mustEnd o a := by rw [h]; rfl
theorem must_yes {o : Option (Nat × Nat)} {a n c : Nat} {x y : Int} (h : o = some (n, c)) (hx : x = n) (hy : y = ((a + c : Nat) : Int)) :
    Ending.returned (.tuple #[.int .i64 x, .int .i64 y]) = mustEnd o a := by rw [h, hx, hy]; rfl

set_option maxHeartbeats 1600000 in
set_option maxRecDepth 100000 in
theorem mustNum_in (A : Option Addr) (l : List Nat) (c B : Nat) (at_ : Nat) (w : World) (hl : l.length ≤ 2097152) (hc : l.length ≤ c) (hA : Bts w B A l) (hb : AllB l) (hat : at_ < l.length) :
    Calls Try.prog 38 #[.slice A l.length c, .int .i64 at_] w fun e w' => e = mustEnd (getN l at_) at_ ∧ Below w.heap.size w w' := by
  have ha0 : decide ((at_ : Int) < 0) = false := by simp
  have ha1 : decide (l.length ≤ at_) = false := by simp; omega
  obtain ⟨o, ho⟩ : ∃ o, o = getN l at_ := ⟨_, rfl⟩
  have HO : Hid (o = getF 5 0 0 (l.drop at_)) := by
    show o = _
    rw [ho]; unfold getN; rw [if_neg (by omega), Int.toNat_natCast]
  rw [← ho]
  clear ho
  obtain ⟨b, off, rfl, hbB, _⟩ := hA.at_ hat
  by_cases hm : at_ + 5 ≤ l.length
  all_goals
    go_enter Try.func38, Try.ntmps38
    go_wp2
    go_loop [6, 28] (fun q i => ∃ n k : Nat, k ≤ 5 ∧ at_ + k ≤ l.length ∧ n < 128 ^ k ∧ i = .int .i64 k ∧ q = .int .i64 n ∧ o = getF (5 - k) k n (l.drop (at_ + k))) (fun _ i => 5 - (intOf i).toNat)
    case atStart => exact ⟨0, 0, by omega, by omega, by omega, rfl, rfl, HO.out⟩
    case round =>
      obtain ⟨n, k, hk, hk2, hn, rfl, rfl, hrel⟩ := hrel
      clear HO
      have HR := Lib.hid hrel
      have HN := Lib.hid hn
      clear hrel hn
      by_cases hin : k < 5 ∧ at_ + k < l.length
      · have e5 : 5 - k = (4 - k) + 1 := by omega
        obtain ⟨b', off', he, hbB', hc⟩ := hA.at_ hin.2
        obtain ⟨rfl, rfl⟩ : b' = b ∧ off' = off := by injection he with he; injection he with h1 h2 _; exact ⟨h1.symm, h2.symm⟩
        rw [← Nat.add_assoc] at hc
        have hd := hb.getD (at_ + k)
        have HB : Hid (∀ f n, l.getD (at_ + k) 0 < 128 → ((0 < k ∧ l.getD (at_ + k) 0 = 0) ∨ 2147483647 < n + l.getD (at_ + k) 0 * 128 ^ k) → getF (f + 1) k n (l.drop (at_ + k)) = none) :=
          fun f n h1 h2 => getF_bad f k n l _ hin.2 h1 h2
        have HG : Hid (∀ f n, l.getD (at_ + k) 0 < 128 → ¬ ((0 < k ∧ l.getD (at_ + k) 0 = 0) ∨ 2147483647 < n + l.getD (at_ + k) 0 * 128 ^ k) → getF (f + 1) k n (l.drop (at_ + k)) = some (n + l.getD (at_ + k) 0 * 128 ^ k, k + 1)) :=
          fun f n h1 h2 => getF_good f k n l _ hin.2 h1 h2
        have HM : Hid (∀ f n, 128 ≤ l.getD (at_ + k) 0 → getF (f + 1) k n (l.drop (at_ + k)) = getF f (k + 1) (n + l.getD (at_ + k) 0 % 128 * 128 ^ k) (l.drop (at_ + k + 1))) :=
          fun f n h1 => getF_more f k n l _ hin.2 h1
        obtain ⟨h5, hin⟩ := hin
        generalize l.getD (at_ + k) 0 = d at *
        obtain ⟨hor, hlt, hle⟩ := or_group n (d % 128) k HN.out (by omega) (by omega)
        obtain ⟨m, hm⟩ : ∃ m, m = n + d % 128 * 128 ^ k := ⟨_, rfl⟩
        rw [← hm] at hor hlt
        have hml : m < 34359738368 := by omega
        have e1 : (((d % 128 : Nat) : Int)) = (d : Int) % 128 := by omega
        rw [e1] at hor
        have HMM := Lib.hid hm
        have HLT := Lib.hid hlt
        have E5 := Lib.hid e5
        clear hm hlt hle e1 e5 he
        by_cases hbig : 128 ≤ d
        · go_wp2
          go_round
          case rel =>
            refine ⟨m, k + 1, by omega, by omega, HLT.out, by go_num, rfl, ?_⟩
            rw [HR.out, E5.out, HM.out _ _ hbig, ← HMM.out, show 5 - (k + 1) = 4 - k from by omega]; rfl
          case measure => simp [intOf]; omega
        · have hd128 : d % 128 = d := by omega
          have HMM2 : Hid (m = n + d * 128 ^ k) := by show m = _; rw [HMM.out, hd128]
          clear hd128
          have HI : Hid ((encI (m : Int)).length = k + 1 ↔ ¬ ((0 < k ∧ d = 0) ∨ 2147483647 < m)) := by
            have h := encI_len_iff n d k HN.out (by omega) (by omega)
            rw [← HMM2.out] at h; exact h
          by_cases hok : (encI (m : Int)).length = k + 1
          · have HOK := Lib.hid hok
            clear hok
            go_wp2_with (go_at_call 46; refine (shortest_yes m (k + 1) _ HOK.out).mono ?_; rintro e w1 ⟨rfl, b1⟩)
            go_ret2
            refine ⟨must_yes (n := m) (c := k + 1) ?_ rfl (by omega), b1⟩
            rw [HR.out, E5.out, HMM2.out]
            exact HG.out _ _ (by omega) (by rw [← HMM2.out]; exact HI.out.1 HOK.out)
          · have HOK := Lib.hid hok
            clear hok
            go_wp2_with (go_at_call 46; refine (shortest_no m (k + 1) _ HOK.out).mono ?_; rintro e w1 ⟨rfl, b1⟩)
            refine ⟨rfl, must_no ?_, b1⟩
            rw [HR.out, E5.out]
            refine HB.out _ _ (by omega) ?_
            rw [← HMM2.out]
            exact Classical.byContradiction fun hh => HOK.out (HI.out.2 hh)
      · go_wp2
        refine ⟨rfl, must_no ?_, Below.refl _ _⟩
        rw [HR.out]
        by_cases h5 : k < 5
        · exact getF_end _ _ _ _ _ (by omega)
        · rw [show 5 - k = 0 from by omega]; rfl
end Go.Proofs.Ytefoegicjigpaaa
