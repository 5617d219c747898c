/- GetNum of the model, mustNum of the program. -/
import Derived.Test.YtcapioiigfldoaaRows
import Derived.Test.YtcapioiigfldoaaApp
import Derived.Defers
import Derived.Recover
namespace Go.Proofs.Ytcapioiigfldoaa
open Go.RowKit
set_option linter.unusedSimpArgs false
set_option linter.unusedVariables false
/-- Reading a varint: k bytes are read, n is their number; f bytes more may come. -/
def getF : Nat → Nat → Nat → List Nat → Option (Nat × Nat)
  | 0, _, _, _ => none
  | _ + 1, _, _, [] => none
  | f + 1, k, n, d :: r =>
    if 128 ≤ d then getF f (k + 1) (n + d % 128 * 128 ^ k) r
    else if (0 < k ∧ d = 0) ∨ 2147483647 < n + d * 128 ^ k then none else some (n + d * 128 ^ k, k + 1)
def getN (l : List Nat) (at_ : Int) : Option (Nat × Nat) := if at_ < 0 then none else getF 5 0 0 (l.drop at_.toNat)
theorem drop_cons (l : List Nat) (k : Nat) (h : k < l.length) : l.drop k = l.getD k 0 :: l.drop (k + 1) := by
  rw [List.drop_eq_getElem_cons h, List.getD_eq_getElem?_getD, List.getElem?_eq_getElem h]; rfl
theorem getF_end (f k n : Nat) (l : List Nat) (j : Nat) (h : l.length ≤ j) : getF f k n (l.drop j) = none := by
  rw [List.drop_of_length_le h]; cases f <;> rfl
theorem getF_more (f k n : Nat) (l : List Nat) (j : Nat) (h : j < l.length) (hd : 128 ≤ l.getD j 0) :
    getF (f + 1) k n (l.drop j) = getF f (k + 1) (n + l.getD j 0 % 128 * 128 ^ k) (l.drop (j + 1)) := by
  rw [drop_cons l j h]; simp only [getF]; rw [if_pos hd]
theorem getF_bad (f k n : Nat) (l : List Nat) (j : Nat) (h : j < l.length) (hd : l.getD j 0 < 128) (hb : (0 < k ∧ l.getD j 0 = 0) ∨ 2147483647 < n + l.getD j 0 * 128 ^ k) :
    getF (f + 1) k n (l.drop j) = none := by
  rw [drop_cons l j h]; simp only [getF]; rw [if_neg (by omega), if_pos hb]
theorem getF_good (f k n : Nat) (l : List Nat) (j : Nat) (h : j < l.length) (hd : l.getD j 0 < 128) (hb : ¬ ((0 < k ∧ l.getD j 0 = 0) ∨ 2147483647 < n + l.getD j 0 * 128 ^ k)) :
    getF (f + 1) k n (l.drop j) = some (n + l.getD j 0 * 128 ^ k, k + 1) := by
  rw [drop_cons l j h]; simp only [getF]; rw [if_neg (by omega), if_neg hb]
theorem encF_len_lo (f n : Nat) : ∀ k, k ≤ f → 128 ^ k ≤ n → k + 1 ≤ (encF f n).length := by
  induction f generalizing n with
  | zero => intro k hk _; obtain rfl : k = 0 := by omega
            simp [encF]
  | succ f ih =>
    intro k hk hn
    by_cases h : n < 128
    · have : k = 0 := by
        rcases Nat.eq_zero_or_pos k with h0 | h0
        · exact h0
        · have h2 : 128 ^ 1 ≤ 128 ^ k := Nat.pow_le_pow_right (by omega) h0
          omega
      subst this
      rw [encF_small _ _ h]; simp
    · rw [encF_step f n (by omega), List.length_cons]
      rcases k with _ | k
      · omega
      · have : 128 ^ k ≤ n / 128 := by
          rw [Nat.le_div_iff_mul_le (by omega)]; rw [Nat.pow_succ] at hn; exact hn
        have := ih (n / 128) k (by omega) this
        omega
theorem encF_len_hi (f n : Nat) : ∀ k, n < 128 ^ k → 0 < k → (encF f n).length ≤ k := by
  induction f generalizing n with
  | zero => intro k hk h0; simp [encF]; omega
  | succ f ih =>
    intro k hk h0
    by_cases h : n < 128
    · rw [encF_small _ _ h]; simp; omega
    · rw [encF_step f n (by omega), List.length_cons]
      rcases k with _ | k
      · omega
      · have h1 : n / 128 < 128 ^ k := by rw [Nat.div_lt_iff_lt_mul (by omega)]; rw [Nat.pow_succ] at hk; exact hk
        rcases Nat.eq_zero_or_pos k with hz | hz
        · subst hz; simp at hk; omega
        · have := ih (n / 128) k h1 hz
          omega
/-- The shortest encoding has k + 1 bytes just where the last group is not empty. -/
theorem encI_len_iff (n d k : Nat) (hn : n < 128 ^ k) (hk : k ≤ 4) (hd : d < 128) :
    (encI ((n + d * 128 ^ k : Nat) : Int)).length = k + 1 ↔ ¬ ((0 < k ∧ d = 0) ∨ 2147483647 < n + d * 128 ^ k) := by
  unfold encI
  by_cases hb : 2147483647 < n + d * 128 ^ k
  · rw [if_neg (by omega)]
    simp [hb]
  · rw [if_pos (by omega)]
    have e : ((n + d * 128 ^ k : Nat) : Int).toNat = n + d * 128 ^ k := Int.toNat_natCast _
    rw [e]
    have hup : n + d * 128 ^ k < 128 ^ (k + 1) := by
      rw [Nat.pow_succ]
      have : d * 128 ^ k ≤ 127 * 128 ^ k := Nat.mul_le_mul_right _ (by omega)
      omega
    have hhi := encF_len_hi 4 _ (k + 1) hup (by omega)
    by_cases hd0 : d = 0
    · subst hd0
      simp only [Nat.zero_mul, Nat.add_zero] at *
      rcases Nat.eq_zero_or_pos k with hz | hz
      · subst hz
        have := (encF_len 4 n).2
        unfold encN
        constructor
        · intro _; omega
        · intro _; omega
      · have := encF_len_hi 4 n k hn hz
        unfold encN
        constructor
        · intro _; omega
        · intro h; exact absurd (Or.inl ⟨hz, trivial⟩) h
    · have hlo : 128 ^ k ≤ n + d * 128 ^ k := by
        have : 1 * 128 ^ k ≤ d * 128 ^ k := Nat.mul_le_mul_right _ (by omega)
        omega
      have := encF_len_lo 4 _ k hk hlo
      unfold encN
      constructor
      · intro _ h
        rcases h with h | h
        · exact hd0 h.2
        · exact hb h
      · intro _; omega
theorem or_i64 (a b : Nat) (ha : a < 34359738368) (hb : b < 34359738368) : bits .or .i64 (a : Int) (b : Int) = ((a ||| b : Nat) : Int) := by
  have hx : a ||| b < 2 ^ 35 := Nat.or_lt_two_pow (by omega) (by omega)
  have e : ∀ n : Nat, n < 34359738368 → (BitVec.ofInt 64 (n : Int)).toNat = n := fun n hn => by
    rw [BitVec.ofInt_natCast, BitVec.toNat_ofNat]; exact Nat.mod_eq_of_lt (by omega)
  show IntKind.i64.wrap ((BitVec.ofInt 64 (a : Int) ||| BitVec.ofInt 64 (b : Int)).toNat : Int) = _
  rw [BitVec.toNat_or, e a ha, e b hb, IntKind.wrap_i64]
  omega
theorem pow_128 (k : Nat) : 128 ^ k = 2 ^ (7 * k) := by rw [Nat.pow_mul]
/-- One group more. -/
theorem or_group (n x k : Nat) (hn : n < 128 ^ k) (hk : k ≤ 4) (hx : x < 128) :
    bits .or .i64 (n : Int) (wrap64 ((x : Int) * 2 ^ (7 * k))) = ((n + x * 128 ^ k : Nat) : Int) ∧ n + x * 128 ^ k < 128 ^ (k + 1) ∧ 128 ^ (k + 1) ≤ 34359738368 := by
  have h5 : 128 ^ (k + 1) ≤ 34359738368 := by
    have : 128 ^ (k + 1) ≤ 128 ^ 5 := Nat.pow_le_pow_right (by omega) (by omega)
    omega
  have hup : n + x * 128 ^ k < 128 ^ (k + 1) := by
    rw [Nat.pow_succ]
    have : x * 128 ^ k ≤ 127 * 128 ^ k := Nat.mul_le_mul_right _ (by omega)
    omega
  refine ⟨?_, hup, h5⟩
  have e : (x : Int) * 2 ^ (7 * k) = ((x * 128 ^ k : Nat) : Int) := by rw [pow_128]; push_cast; rfl
  have hw : wrap64 ((x * 128 ^ k : Nat) : Int) = ((x * 128 ^ k : Nat) : Int) := by
    have hsm : x * 128 ^ k < 34359738368 := by omega
    exact IntWalk.wrap64_in _ (by omega)
  rw [e, hw, or_i64 n _ (by omega) (by omega), Nat.or_comm, nat_join (7 * k) _ n, Nat.add_comm]
  · rw [pow_128]; exact Nat.mul_mod_left _ _
  · rw [← pow_128]; exact hn
/-- What GetNum hands back. -/
def gotV (o : Option (Nat × Nat)) (at_ : Nat) : Value :=
  match o with
  | some (n, c) => .tuple #[.int .i64 (n : Int), .int .i64 ((at_ + c : Nat) : Int), .bool true]
  | none => .tuple #[.int .i64 0, .int .i64 0, .bool false]
theorem ret_no {o : Option (Nat × Nat)} {a : Nat} (h : o = none) : Ending.returned (.tuple #[.int .i64 0, .int .i64 0, .bool false]) = .returned (gotV o a) := by rw [h]; rfl
theorem ret_yes {o : Option (Nat × Nat)} {a n c : Nat} {x y : Int} (h : o = some (n, c)) (hx : x = n) (hy : y = ((a + c : Nat) : Int)) :
    Ending.returned (.tuple #[.int .i64 x, .int .i64 y, .bool true]) = .returned (gotV o a) := by rw [h, hx, hy]; rfl
theorem got_form (o : Option (Nat × Nat)) (a : Nat) : ∃ (x y : Int) (t : Bool), gotV o a = .tuple #[.int .i64 x, .int .i64 y, .bool t] := by
  rcases o with _ | ⟨n, k⟩
  · exact ⟨0, 0, false, rfl⟩
  · exact ⟨_, _, true, rfl⟩
end Go.Proofs.Ytcapioiigfldoaa
