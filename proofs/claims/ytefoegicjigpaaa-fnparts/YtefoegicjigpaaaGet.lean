/- GetNum of the model: what it returns. -/
import Derived.Test.YtefoegicjigpaaaGetM
namespace Go.Proofs.Ytefoegicjigpaaa
open Go.RowKit

theorem or_i64 (a b : Nat) (ha : a < 34359738368) (hb : b < 34359738368) : bits .or .i64 (a : Int) (b : Int) = ((a ||| b : Nat) : Int) := by
  have hx : a ||| b < 2 ^ 35 := Nat.or_lt_two_pow (by omega) (by omega)
  have e : ∀ n : Nat, n < 34359738368 → (BitVec.ofInt 64 (n : Int)).toNat = n := fun n hn => by
    rw [BitVec.ofInt_natCast, BitVec.toNat_ofNat]; exact Nat.mod_eq_of_lt (by omega)
  show IntKind.i64.wrap ((BitVec.ofInt 64 (a : Int) ||| BitVec.ofInt 64 (b : Int)).toNat : Int) = _
  rw [BitVec.toNat_or, e a ha, e b hb, IntKind.wrap_i64]
  omega
theorem pow_128 (k : Nat) : 128 ^ k = 2 ^ (7 * k) := by rw [Nat.pow_mul]
/-- One group more. -/
theorem or_group (n x k : Nat) (hn : n < 128 ^ k) (hk : k ≤ 4) (hx : x < 128) :
    bits .or .i64 (n : Int) (wrap64 ((x : Int) * 2 ^ (7 * k))) = ((n + x * 128 ^ k : Nat) : Int) ∧ n + x * 128 ^ k < 128 ^ (k + 1) ∧ 128 ^ (k + 1) ≤ 34359738368 := by
  have h5 : 128 ^ (k + 1) ≤ 34359738368 := by
    have : 128 ^ (k + 1) ≤ 128 ^ 5 := Nat.pow_le_pow_right (by omega) (by omega)
    omega
  have hup : n + x * 128 ^ k < 128 ^ (k + 1) := by
    rw [Nat.pow_succ]
    have : x * 128 ^ k ≤ 127 * 128 ^ k := Nat.mul_le_mul_right _ (by omega)
    omega
  refine ⟨?_, hup, h5⟩
  have e : (x : Int) * 2 ^ (7 * k) = ((x * 128 ^ k : Nat) : Int) := by rw [pow_128]; push_cast; rfl
  have hw : wrap64 ((x * 128 ^ k : Nat) : Int) = ((x * 128 ^ k : Nat) : Int) := by
    have hsm : x * 128 ^ k < 34359738368 := by omega
    exact IntWalk.wrap64_in _ (by omega)
  rw [e, hw, or_i64 n _ (by omega) (by omega), Nat.or_comm, nat_join (7 * k) _ n, Nat.add_comm]
  · rw [pow_128]; exact Nat.mul_mod_left _ _
  · rw [← pow_128]; exact hn

/-- What GetNum hands back. -/
def gotV (o : Option (Nat × Nat)) (at_ : Nat) : Value :=
  match o with
  | some (n, c) => .tuple #[.int .i64 (n : Int), .int .i64 ((at_ + c : Nat) : Int), .bool true]
  | none => .tuple #[.int .i64 0, .int .i64 0, .bool false]
theorem ret_no {o : Option (Nat × Nat)} {a : Nat} (h : o = none) : Ending.returned (.tuple #[.int .i64 0, .int .i64 0, .bool false]) = .returned (gotV o a) := by rw [h]; rfl
theorem ret_yes {o : Option (Nat × Nat)} {a n c : Nat} {x y : Int} (h : o = some (n, c)) (hx : x = n) (hy : y = ((a + c : Nat) : Int)) :
    Ending.returned (.tuple #[.int .i64 x, .int .i64 y, .bool true]) = .returned (gotV o a) := by rw [h, hx, hy]; rfl

set_option maxHeartbeats 1600000 in
set_option maxRecDepth 100000 in
theorem getNum_spec_in (A : Option Addr) (l : List Nat) (c B : Nat) (at_ : Nat) (w : World) (hl : l.length ≤ 2097152) (hA : Bts w B A l) (hb : AllB l) (hat : at_ ≤ 9223372036854775807) :
    Calls Try.prog 27 #[.slice A l.length c, .int .i64 at_] w fun e w' => e = .returned (gotV (getN l at_) at_) ∧ w = w' := by
  have ha0 : decide ((at_ : Int) < 0) = false := by simp
  obtain ⟨o, ho⟩ : ∃ o, o = getN l at_ := ⟨_, rfl⟩
  have HO : Hid (o = getF 5 0 0 (l.drop at_)) := by
    show o = _
    rw [ho]; unfold getN; rw [if_neg (by omega), Int.toNat_natCast]
  rw [← ho]
  clear ho
  go_enter Try.func27, Try.ntmps27
  go_wp2
  go_loop [7, 8] (fun q i => ∃ n k : Nat, k ≤ 5 ∧ n < 128 ^ k ∧ i = .int .i64 k ∧ q = .int .i64 n ∧ o = getF (5 - k) k n (l.drop (at_ + k))) (fun _ i => 5 - (intOf i).toNat)
  case atStart => exact ⟨0, 0, by omega, by omega, rfl, rfl, HO.out⟩
  case round =>
    obtain ⟨n, k, hk, hn, rfl, rfl, hrel⟩ := hrel
    clear HO
    have HR := Lib.hid hrel
    have HN := Lib.hid hn
    clear hrel hn
    by_cases h5 : k < 5
    · have e5 : 5 - k = (4 - k) + 1 := by omega
      by_cases hin : at_ + k < l.length
      · obtain ⟨b, off, rfl, hbB, hc⟩ := hA.at_ hin
        have hge : decide ((l.length : Int) - k ≤ at_) = false := by simp; omega
        have hd := hb.getD (at_ + k)
        have HB : Hid (∀ f n, l.getD (at_ + k) 0 < 128 → ((0 < k ∧ l.getD (at_ + k) 0 = 0) ∨ 2147483647 < n + l.getD (at_ + k) 0 * 128 ^ k) → getF (f + 1) k n (l.drop (at_ + k)) = none) :=
          fun f n h1 h2 => getF_bad f k n l _ hin h1 h2
        have HG : Hid (∀ f n, l.getD (at_ + k) 0 < 128 → ¬ ((0 < k ∧ l.getD (at_ + k) 0 = 0) ∨ 2147483647 < n + l.getD (at_ + k) 0 * 128 ^ k) → getF (f + 1) k n (l.drop (at_ + k)) = some (n + l.getD (at_ + k) 0 * 128 ^ k, k + 1)) :=
          fun f n h1 h2 => getF_good f k n l _ hin h1 h2
        have HM : Hid (∀ f n, 128 ≤ l.getD (at_ + k) 0 → getF (f + 1) k n (l.drop (at_ + k)) = getF f (k + 1) (n + l.getD (at_ + k) 0 % 128 * 128 ^ k) (l.drop (at_ + k + 1))) :=
          fun f n h1 => getF_more f k n l _ hin h1
        generalize l.getD (at_ + k) 0 = d at *
        obtain ⟨hor, hlt, hle⟩ := or_group n (d % 128) k HN.out (by omega) (by omega)
        obtain ⟨m, hm⟩ : ∃ m, m = n + d % 128 * 128 ^ k := ⟨_, rfl⟩
        rw [← hm] at hor hlt
        have hml : m < 34359738368 := by omega
        have e1 : (((d % 128 : Nat) : Int)) = (d : Int) % 128 := by omega
        rw [e1] at hor
        have HMM := Lib.hid hm
        have HLT := Lib.hid hlt
        have E5 := Lib.hid e5
        clear hm hlt hle e1 e5
        by_cases hbig : 128 ≤ d
        · go_wp2
          go_round
          case rel =>
            refine ⟨m, k + 1, by omega, HLT.out, by go_num, rfl, ?_⟩
            rw [HR.out, E5.out, HM.out _ _ hbig, ← HMM.out, show 5 - (k + 1) = 4 - k from by omega]; rfl
          case measure => simp [intOf]; omega
        · have hd128 : d % 128 = d := by omega
          have HMM2 : Hid (m = n + d * 128 ^ k) := by show m = _; rw [HMM.out, hd128]
          clear hd128
          by_cases hk0 : 0 < k <;> by_cases hd0 : d = 0 <;> by_cases hmb : 2147483647 < m
          all_goals
            first
            | (have hz : ((d : Int) == 0) = true := by simp; omega)
            | (have hz : ((d : Int) == 0) = false := by simp; omega)
            have HD0 := Lib.hid hd0
            clear hd0
            go_wp2
            go_ret3
          all_goals
            have hd0 := HD0.out
            first
            | exact ⟨ret_no (by rw [HR.out, E5.out]; exact HB.out _ _ (by omega) (by rw [← HMM2.out]; omega)), rfl⟩
            | exact ⟨ret_yes (n := m) (c := k + 1) (by rw [HR.out, E5.out, HMM2.out]; exact HG.out _ _ (by omega) (by rw [← HMM2.out]; omega)) rfl (by omega), rfl⟩
      · have hge : decide ((l.length : Int) - k ≤ at_) = true := by simp; omega
        go_wp2
        go_ret3
        exact ⟨ret_no (by rw [HR.out]; exact getF_end _ _ _ _ _ (by omega)), rfl⟩
    · obtain rfl : k = 5 := by omega
      go_wp2
      go_ret3
      exact ⟨ret_no (by rw [HR.out]; rfl), rfl⟩
theorem getNum_spec (A : Option Addr) (l : List Nat) (c B : Nat) (at_ : Int) (w : World) (hl : l.length ≤ 2097152) (hA : Bts w B A l) (hb : AllB l) (hat : at_ ≤ 9223372036854775807) :
    Calls Try.prog 27 #[.slice A l.length c, .int .i64 at_] w fun e w' => e = .returned (gotV (getN l at_) at_.toNat) ∧ w = w' := by
  by_cases h0 : 0 ≤ at_
  · obtain ⟨m, rfl⟩ := Int.eq_ofNat_of_zero_le h0
    rw [Int.toNat_natCast]
    exact getNum_spec_in A l c B m w hl hA hb (by omega)
  · have hno : getN l at_ = none := by unfold getN; rw [if_pos (by omega)]
    have HF := Lib.hid (ret_no (a := at_.toNat) hno)
    clear hno
    have ha0 : decide (at_ < 0) = true := by simp; omega
    go_enter Try.func27, Try.ntmps27
    go_wp2
    refine wp_loop_rounds 1 ?_
    rw [rounds_succ]
    go_wp2
    go_ret3
    exact ⟨HF.out, rfl⟩
end Go.Proofs.Ytefoegicjigpaaa
