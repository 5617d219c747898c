/- GetNum of the model, mustNum of the program. -/
import Derived.Test.YtelpeoaffgafgaaRows
import Derived.Test.YtelpeoaffgafgaaApp
import Derived.Defers
import Derived.Recover
namespace Go.Proofs.Ytelpeoaffgafgaa
open Go.RowKit
/-- Reading a varint: k bytes are read, n is their number; f bytes more may come. -/
def getF : Nat → Nat → Nat → List Nat → Option (Nat × Nat)
  | 0, _, _, _ => none
  | _ + 1, _, _, [] => none
  | f + 1, k, n, d :: r =>
    if 128 ≤ d then getF f (k + 1) (n + d % 128 * 128 ^ k) r
    else if (0 < k ∧ d = 0) ∨ 2147483647 < n + d * 128 ^ k then none else some (n + d * 128 ^ k, k + 1)
def getN (l : List Nat) (at_ : Int) : Option (Nat × Nat) := if at_ < 0 then none else getF 5 0 0 (l.drop at_.toNat)
theorem drop_cons (l : List Nat) (k : Nat) (h : k < l.length) : l.drop k = l.getD k 0 :: l.drop (k + 1) := by
  rw [List.drop_eq_getElem_cons h, List.getD_eq_getElem?_getD, List.getElem?_eq_getElem h]; rfl
theorem getF_end (f k n : Nat) (l : List Nat) (j : Nat) (h : l.length ≤ j) : getF f k n (l.drop j) = none := by
  rw [List.drop_of_length_le h]; cases f <;> rfl
theorem getF_more (f k n : Nat) (l : List Nat) (j : Nat) (h : j < l.length) (hd : 128 ≤ l.getD j 0) :
    getF (f + 1) k n (l.drop j) = getF f (k + 1) (n + l.getD j 0 % 128 * 128 ^ k) (l.drop (j + 1)) := by
  rw [drop_cons l j h]; simp only [getF]; rw [if_pos hd]
theorem getF_bad (f k n : Nat) (l : List Nat) (j : Nat) (h : j < l.length) (hd : l.getD j 0 < 128) (hb : (0 < k ∧ l.getD j 0 = 0) ∨ 2147483647 < n + l.getD j 0 * 128 ^ k) :
    getF (f + 1) k n (l.drop j) = none := by
  rw [drop_cons l j h]; simp only [getF]; rw [if_neg (by omega), if_pos hb]
theorem getF_good (f k n : Nat) (l : List Nat) (j : Nat) (h : j < l.length) (hd : l.getD j 0 < 128) (hb : ¬ ((0 < k ∧ l.getD j 0 = 0) ∨ 2147483647 < n + l.getD j 0 * 128 ^ k)) :
    getF (f + 1) k n (l.drop j) = some (n + l.getD j 0 * 128 ^ k, k + 1) := by
  rw [drop_cons l j h]; simp only [getF]; rw [if_neg (by omega), if_neg hb]
theorem encF_len_lo (f n : Nat) : ∀ k, k ≤ f → 128 ^ k ≤ n → k + 1 ≤ (encF f n).length := by
  induction f generalizing n with
  | zero => intro k hk _; obtain rfl : k = 0 := by omega
            simp [encF]
  | succ f ih =>
    intro k hk hn
    by_cases h : n < 128
    · have : k = 0 := by
        rcases Nat.eq_zero_or_pos k with h0 | h0
        · exact h0
        · have h2 : 128 ^ 1 ≤ 128 ^ k := Nat.pow_le_pow_right (by omega) h0
          omega
      subst this
      rw [encF_small _ _ h]; simp
    · rw [encF_step f n (by omega), List.length_cons]
      rcases k with _ | k
      · omega
      · have : 128 ^ k ≤ n / 128 := by
          rw [Nat.le_div_iff_mul_le (by omega)]; rw [Nat.pow_succ] at hn; exact hn
        have := ih (n / 128) k (by omega) this
        omega
theorem encF_len_hi (f n : Nat) : ∀ k, n < 128 ^ k → 0 < k → (encF f n).length ≤ k := by
  induction f generalizing n with
  | zero => intro k hk h0; simp [encF]; omega
  | succ f ih =>
    intro k hk h0
    by_cases h : n < 128
    · rw [encF_small _ _ h]; simp; omega
    · rw [encF_step f n (by omega), List.length_cons]
      rcases k with _ | k
      · omega
      · have h1 : n / 128 < 128 ^ k := by rw [Nat.div_lt_iff_lt_mul (by omega)]; rw [Nat.pow_succ] at hk; exact hk
        rcases Nat.eq_zero_or_pos k with hz | hz
        · subst hz; simp at hk; omega
        · have := ih (n / 128) k h1 hz
          omega
/-- The shortest encoding has k + 1 bytes just where the last group is not empty. -/
theorem encI_len_iff (n d k : Nat) (hn : n < 128 ^ k) (hk : k ≤ 4) (hd : d < 128) :
    (encI ((n + d * 128 ^ k : Nat) : Int)).length = k + 1 ↔ ¬ ((0 < k ∧ d = 0) ∨ 2147483647 < n + d * 128 ^ k) := by
  unfold encI
  by_cases hb : 2147483647 < n + d * 128 ^ k
  · rw [if_neg (by omega)]
    simp [hb]
  · rw [if_pos (by omega)]
    have e : ((n + d * 128 ^ k : Nat) : Int).toNat = n + d * 128 ^ k := Int.toNat_natCast _
    rw [e]
    have hup : n + d * 128 ^ k < 128 ^ (k + 1) := by
      rw [Nat.pow_succ]
      have : d * 128 ^ k ≤ 127 * 128 ^ k := Nat.mul_le_mul_right _ (by omega)
      omega
    have hhi := encF_len_hi 4 _ (k + 1) hup (by omega)
    by_cases hd0 : d = 0
    · subst hd0
      simp only [Nat.zero_mul, Nat.add_zero] at *
      rcases Nat.eq_zero_or_pos k with hz | hz
      · subst hz
        have := (encF_len 4 n).2
        unfold encN
        constructor
        · intro _; omega
        · intro _; omega
      · have := encF_len_hi 4 n k hn hz
        unfold encN
        constructor
        · intro _; omega
        · intro h; exact absurd (Or.inl ⟨hz, trivial⟩) h
    · have hlo : 128 ^ k ≤ n + d * 128 ^ k := by
        have : 1 * 128 ^ k ≤ d * 128 ^ k := Nat.mul_le_mul_right _ (by omega)
        omega
      have := encF_len_lo 4 _ k hk hlo
      unfold encN
      constructor
      · intro _ h
        rcases h with h | h
        · exact hd0 h.2
        · exact hb h
      · intro _; omega
theorem or_i64 (a b : Nat) (ha : a < 34359738368) (hb : b < 34359738368) : bits .or .i64 (a : Int) (b : Int) = ((a ||| b : Nat) : Int) := by
  have hx : a ||| b < 2 ^ 35 := Nat.or_lt_two_pow (by omega) (by omega)
  have e : ∀ n : Nat, n < 34359738368 → (BitVec.ofInt 64 (n : Int)).toNat = n := fun n hn => by
    rw [BitVec.ofInt_natCast, BitVec.toNat_ofNat]; exact Nat.mod_eq_of_lt (by omega)
  show IntKind.i64.wrap ((BitVec.ofInt 64 (a : Int) ||| BitVec.ofInt 64 (b : Int)).toNat : Int) = _
  rw [BitVec.toNat_or, e a ha, e b hb, IntKind.wrap_i64]
  omega
theorem pow_128 (k : Nat) : 128 ^ k = 2 ^ (7 * k) := by rw [Nat.pow_mul]
/-- One group more. -/
theorem or_group (n x k : Nat) (hn : n < 128 ^ k) (hk : k ≤ 4) (hx : x < 128) :
    bits .or .i64 (n : Int) (wrap64 ((x : Int) * 2 ^ (7 * k))) = ((n + x * 128 ^ k : Nat) : Int) ∧ n + x * 128 ^ k < 128 ^ (k + 1) ∧ 128 ^ (k + 1) ≤ 34359738368 := by
  have h5 : 128 ^ (k + 1) ≤ 34359738368 := by
    have : 128 ^ (k + 1) ≤ 128 ^ 5 := Nat.pow_le_pow_right (by omega) (by omega)
    omega
  have hup : n + x * 128 ^ k < 128 ^ (k + 1) := by
    rw [Nat.pow_succ]
    have : x * 128 ^ k ≤ 127 * 128 ^ k := Nat.mul_le_mul_right _ (by omega)
    omega
  refine ⟨?_, hup, h5⟩
  have e : (x : Int) * 2 ^ (7 * k) = ((x * 128 ^ k : Nat) : Int) := by rw [pow_128]; push_cast; rfl
  have hw : wrap64 ((x * 128 ^ k : Nat) : Int) = ((x * 128 ^ k : Nat) : Int) := by
    have hsm : x * 128 ^ k < 34359738368 := by omega
    exact IntWalk.wrap64_in _ (by omega)
  rw [e, hw, or_i64 n _ (by omega) (by omega), Nat.or_comm, nat_join (7 * k) _ n, Nat.add_comm]
  · rw [pow_128]; exact Nat.mul_mod_left _ _
  · rw [← pow_128]; exact hn
/-- What GetNum hands back. -/
def gotV (o : Option (Nat × Nat)) (at_ : Nat) : Value :=
  match o with
  | some (n, c) => .tuple #[.int .i64 (n : Int), .int .i64 ((at_ + c : Nat) : Int), .bool true]
  | none => .tuple #[.int .i64 0, .int .i64 0, .bool false]
theorem ret_no {o : Option (Nat × Nat)} {a : Nat} (h : o = none) : Ending.returned (.tuple #[.int .i64 0, .int .i64 0, .bool false]) = .returned (gotV o a) := by rw [h]; rfl
theorem ret_yes {o : Option (Nat × Nat)} {a n c : Nat} {x y : Int} (h : o = some (n, c)) (hx : x = n) (hy : y = ((a + c : Nat) : Int)) :
    Ending.returned (.tuple #[.int .i64 x, .int .i64 y, .bool true]) = .returned (gotV o a) := by rw [h, hx, hy]; rfl
set_option maxHeartbeats 1600000 in
set_option maxRecDepth 100000 in
theorem getNum_spec_in (A : Option Addr) (l : List Nat) (c B : Nat) (at_ : Nat) (w : World) (hl : l.length ≤ 2097152) (hA : Bts w B A l) (hb : AllB l) (hat : at_ ≤ 9223372036854775807) :
    Calls Try.prog 53 #[.slice A l.length c, .int .i64 at_] w fun e w' => e = .returned (gotV (getN l at_) at_) ∧ w = w' := by
  have ha0 : decide ((at_ : Int) < 0) = false := by simp
  obtain ⟨o, ho⟩ : ∃ o, o = getN l at_ := ⟨_, rfl⟩
  have HO : Hid (o = getF 5 0 0 (l.drop at_)) := by
    show o = _
    rw [ho]; unfold getN; rw [if_neg (by omega), Int.toNat_natCast]
  rw [← ho]
  clear ho
  go_enter Try.func53, Try.ntmps53
  go_wp2
  go_loop [7, 8] (fun q i => ∃ n k : Nat, k ≤ 5 ∧ n < 128 ^ k ∧ i = .int .i64 k ∧ q = .int .i64 n ∧ o = getF (5 - k) k n (l.drop (at_ + k))) (fun _ i => 5 - (intOf i).toNat)
  case atStart => exact ⟨0, 0, by omega, by omega, rfl, rfl, HO.out⟩
  case round =>
    obtain ⟨n, k, hk, hn, rfl, rfl, hrel⟩ := hrel
    clear HO
    have HR := Lib.hid hrel
    have HN := Lib.hid hn
    clear hrel hn
    by_cases h5 : k < 5
    · have e5 : 5 - k = (4 - k) + 1 := by omega
      by_cases hin : at_ + k < l.length
      · obtain ⟨b, off, rfl, hbB, hc⟩ := hA.at_ hin
        have hge : decide ((l.length : Int) - k ≤ at_) = false := by simp; omega
        have hd := hb.getD (at_ + k)
        have HB : Hid (∀ f n, l.getD (at_ + k) 0 < 128 → ((0 < k ∧ l.getD (at_ + k) 0 = 0) ∨ 2147483647 < n + l.getD (at_ + k) 0 * 128 ^ k) → getF (f + 1) k n (l.drop (at_ + k)) = none) :=
          fun f n h1 h2 => getF_bad f k n l _ hin h1 h2
        have HG : Hid (∀ f n, l.getD (at_ + k) 0 < 128 → ¬ ((0 < k ∧ l.getD (at_ + k) 0 = 0) ∨ 2147483647 < n + l.getD (at_ + k) 0 * 128 ^ k) → getF (f + 1) k n (l.drop (at_ + k)) = some (n + l.getD (at_ + k) 0 * 128 ^ k, k + 1)) :=
          fun f n h1 h2 => getF_good f k n l _ hin h1 h2
        have HM : Hid (∀ f n, 128 ≤ l.getD (at_ + k) 0 → getF (f + 1) k n (l.drop (at_ + k)) = getF f (k + 1) (n + l.getD (at_ + k) 0 % 128 * 128 ^ k) (l.drop (at_ + k + 1))) :=
          fun f n h1 => getF_more f k n l _ hin h1
        generalize l.getD (at_ + k) 0 = d at *
        obtain ⟨hor, hlt, hle⟩ := or_group n (d % 128) k HN.out (by omega) (by omega)
        obtain ⟨m, hm⟩ : ∃ m, m = n + d % 128 * 128 ^ k := ⟨_, rfl⟩
        rw [← hm] at hor hlt
        have hml : m < 34359738368 := by omega
        have e1 : (((d % 128 : Nat) : Int)) = (d : Int) % 128 := by omega
        rw [e1] at hor
        have HMM := Lib.hid hm
        have HLT := Lib.hid hlt
        have E5 := Lib.hid e5
        clear hm hlt hle e1 e5
        by_cases hbig : 128 ≤ d
        · go_wp2
          go_round
          case rel =>
            refine ⟨m, k + 1, by omega, HLT.out, by go_num, rfl, ?_⟩
            rw [HR.out, E5.out, HM.out _ _ hbig, ← HMM.out, show 5 - (k + 1) = 4 - k from by omega]; rfl
          case measure => simp [intOf]; omega
        · have hd128 : d % 128 = d := by omega
          have HMM2 : Hid (m = n + d * 128 ^ k) := by show m = _; rw [HMM.out, hd128]
          clear hd128
          by_cases hk0 : 0 < k <;> by_cases hd0 : d = 0 <;> by_cases hmb : 2147483647 < m
          all_goals
            first
            | (have hz : ((d : Int) == 0) = true := by simp; omega)
            | (have hz : ((d : Int) == 0) = false := by simp; omega)
            have HD0 := Lib.hid hd0
            clear hd0
            go_wp2
            go_ret3
          all_goals
            have hd0 := HD0.out
            first
            | exact ⟨ret_no (by rw [HR.out, E5.out]; exact HB.out _ _ (by omega) (by rw [← HMM2.out]; omega)), rfl⟩
            | exact ⟨ret_yes (n := m) (c := k + 1) (by rw [HR.out, E5.out, HMM2.out]; exact HG.out _ _ (by omega) (by rw [← HMM2.out]; omega)) rfl (by omega), rfl⟩
      · have hge : decide ((l.length : Int) - k ≤ at_) = true := by simp; omega
        go_wp2
        go_ret3
        exact ⟨ret_no (by rw [HR.out]; exact getF_end _ _ _ _ _ (by omega)), rfl⟩
    · obtain rfl : k = 5 := by omega
      go_wp2
      go_ret3
      exact ⟨ret_no (by rw [HR.out]; rfl), rfl⟩
set_option maxRecDepth 100000 in
theorem getNum_spec (A : Option Addr) (l : List Nat) (c B : Nat) (at_ : Int) (w : World) (hl : l.length ≤ 2097152) (hA : Bts w B A l) (hb : AllB l) (hat : at_ ≤ 9223372036854775807) :
    Calls Try.prog 53 #[.slice A l.length c, .int .i64 at_] w fun e w' => e = .returned (gotV (getN l at_) at_.toNat) ∧ w = w' := by
  by_cases h0 : 0 ≤ at_
  · obtain ⟨m, rfl⟩ := Int.eq_ofNat_of_zero_le h0
    rw [Int.toNat_natCast]
    exact getNum_spec_in A l c B m w hl hA hb (by omega)
  · have hno : getN l at_ = none := by unfold getN; rw [if_pos (by omega)]
    have HF := Lib.hid (ret_no (a := at_.toNat) hno)
    clear hno
    have ha0 : decide (at_ < 0) = true := by simp; omega
    go_enter Try.func53, Try.ntmps53
    go_wp2
    refine wp_loop_rounds 1 ?_
    rw [rounds_succ]
    go_wp2
    go_ret3
    exact ⟨HF.out, rfl⟩
theorem got_form (o : Option (Nat × Nat)) (a : Nat) : ∃ (x y : Int) (t : Bool), gotV o a = .tuple #[.int .i64 x, .int .i64 y, .bool t] := by
  rcases o with _ | ⟨n, k⟩
  · exact ⟨0, 0, false, rfl⟩
  · exact ⟨_, _, true, rfl⟩
/-- The panic that the readers raise. -/
def badEnd : Ending := .panicked [{ v := .iface 128 (.agg #[]), recovered := false }]
set_option maxRecDepth 100000 in
set_option maxHeartbeats 400000 in
theorem shortest_yes (n sz : Nat) (w : World) (h : (encI n).length = sz) :
    Calls Try.prog 88 #[.int .i64 n, .int .i64 sz] w fun e w' => e = .returned (.int .i64 n) ∧ Below w.heap.size w w' := by
  have c2 := putNum_impl n
  have hne : (((encI n).length : Int) != sz) = false := by simp [h]
  generalize encI n = l at *
  have C2 := Lib.hid c2
  clear c2 h
  go_enter Try.func88, Try.ntmps88
  go_wp2_with fail
  refine (C2.out _).mono ?_
  rintro e w1 ⟨A1, a1, rfl, o1, b1⟩
  go_wp2
  go_ret
  exact ⟨rfl, b1⟩
set_option maxRecDepth 100000 in
set_option maxHeartbeats 400000 in
theorem shortest_no (n sz : Nat) (w : World) (h : ¬ (encI n).length = sz) :
    Calls Try.prog 88 #[.int .i64 n, .int .i64 sz] w fun e w' => e = .panicked [{ v := .iface 128 (.agg #[]), recovered := false }] ∧ Below w.heap.size w w' := by
  have c2 := putNum_impl n
  have hne : (((encI n).length : Int) != sz) = true := by simp; omega
  generalize encI n = l at *
  have C2 := Lib.hid c2
  clear c2 h
  go_enter Try.func88, Try.ntmps88
  go_wp2_with fail
  refine (C2.out _).mono ?_
  rintro e w1 ⟨A1, a1, rfl, o1, b1⟩
  go_wp2
  exact ⟨rfl, rfl, b1⟩
/-- How mustNum ends. -/
def mustEnd (o : Option (Nat × Nat)) (at_ : Nat) : Ending :=
  match o with
  | some (n, c) => .returned (.tuple #[.int .i64 (n : Int), .int .i64 ((at_ + c : Nat) : Int)])
  | none => badEnd
theorem must_no {o : Option (Nat × Nat)} {a : Nat} (h : o = none) : badEnd = mustEnd o a := by rw [h]; rfl
theorem must_yes {o : Option (Nat × Nat)} {a n c : Nat} {x y : Int} (h : o = some (n, c)) (hx : x = n) (hy : y = ((a + c : Nat) : Int)) :
    Ending.returned (.tuple #[.int .i64 x, .int .i64 y]) = mustEnd o a := by rw [h, hx, hy]; rfl
set_option maxHeartbeats 1600000 in
set_option maxRecDepth 100000 in
theorem mustNum_in (A : Option Addr) (l : List Nat) (c B : Nat) (at_ : Nat) (w : World) (hl : l.length ≤ 2097152) (hc : l.length ≤ c) (hA : Bts w B A l) (hb : AllB l) (hat : at_ < l.length) :
    Calls Try.prog 77 #[.slice A l.length c, .int .i64 at_] w fun e w' => e = mustEnd (getN l at_) at_ ∧ Below w.heap.size w w' := by
  have ha0 : decide ((at_ : Int) < 0) = false := by simp
  have ha1 : decide (l.length ≤ at_) = false := by simp; omega
  obtain ⟨o, ho⟩ : ∃ o, o = getN l at_ := ⟨_, rfl⟩
  have HO : Hid (o = getF 5 0 0 (l.drop at_)) := by
    show o = _
    rw [ho]; unfold getN; rw [if_neg (by omega), Int.toNat_natCast]
  rw [← ho]
  clear ho
  obtain ⟨b, off, rfl, hbB, _⟩ := hA.at_ hat
  by_cases hm : at_ + 5 ≤ l.length
  all_goals
    go_enter Try.func77, Try.ntmps77
    go_wp2
    go_loop [6, 28] (fun q i => ∃ n k : Nat, k ≤ 5 ∧ at_ + k ≤ l.length ∧ n < 128 ^ k ∧ i = .int .i64 k ∧ q = .int .i64 n ∧ o = getF (5 - k) k n (l.drop (at_ + k))) (fun _ i => 5 - (intOf i).toNat)
    case atStart => exact ⟨0, 0, by omega, by omega, by omega, rfl, rfl, HO.out⟩
    case round =>
      obtain ⟨n, k, hk, hk2, hn, rfl, rfl, hrel⟩ := hrel
      clear HO
      have HR := Lib.hid hrel
      have HN := Lib.hid hn
      clear hrel hn
      by_cases hin : k < 5 ∧ at_ + k < l.length
      · have e5 : 5 - k = (4 - k) + 1 := by omega
        obtain ⟨b', off', he, hbB', hc⟩ := hA.at_ hin.2
        obtain ⟨rfl, rfl⟩ : b' = b ∧ off' = off := by injection he with he; injection he with h1 h2 _; exact ⟨h1.symm, h2.symm⟩
        rw [← Nat.add_assoc] at hc
        have hd := hb.getD (at_ + k)
        have HB : Hid (∀ f n, l.getD (at_ + k) 0 < 128 → ((0 < k ∧ l.getD (at_ + k) 0 = 0) ∨ 2147483647 < n + l.getD (at_ + k) 0 * 128 ^ k) → getF (f + 1) k n (l.drop (at_ + k)) = none) :=
          fun f n h1 h2 => getF_bad f k n l _ hin.2 h1 h2
        have HG : Hid (∀ f n, l.getD (at_ + k) 0 < 128 → ¬ ((0 < k ∧ l.getD (at_ + k) 0 = 0) ∨ 2147483647 < n + l.getD (at_ + k) 0 * 128 ^ k) → getF (f + 1) k n (l.drop (at_ + k)) = some (n + l.getD (at_ + k) 0 * 128 ^ k, k + 1)) :=
          fun f n h1 h2 => getF_good f k n l _ hin.2 h1 h2
        have HM : Hid (∀ f n, 128 ≤ l.getD (at_ + k) 0 → getF (f + 1) k n (l.drop (at_ + k)) = getF f (k + 1) (n + l.getD (at_ + k) 0 % 128 * 128 ^ k) (l.drop (at_ + k + 1))) :=
          fun f n h1 => getF_more f k n l _ hin.2 h1
        obtain ⟨h5, hin⟩ := hin
        generalize l.getD (at_ + k) 0 = d at *
        obtain ⟨hor, hlt, hle⟩ := or_group n (d % 128) k HN.out (by omega) (by omega)
        obtain ⟨m, hm⟩ : ∃ m, m = n + d % 128 * 128 ^ k := ⟨_, rfl⟩
        rw [← hm] at hor hlt
        have hml : m < 34359738368 := by omega
        have e1 : (((d % 128 : Nat) : Int)) = (d : Int) % 128 := by omega
        rw [e1] at hor
        have HMM := Lib.hid hm
        have HLT := Lib.hid hlt
        have E5 := Lib.hid e5
        clear hm hlt hle e1 e5 he
        by_cases hbig : 128 ≤ d
        · go_wp2
          go_round
          case rel =>
            refine ⟨m, k + 1, by omega, by omega, HLT.out, by go_num, rfl, ?_⟩
            rw [HR.out, E5.out, HM.out _ _ hbig, ← HMM.out, show 5 - (k + 1) = 4 - k from by omega]; rfl
          case measure => simp [intOf]; omega
        · have hd128 : d % 128 = d := by omega
          have HMM2 : Hid (m = n + d * 128 ^ k) := by show m = _; rw [HMM.out, hd128]
          clear hd128
          have HI : Hid ((encI (m : Int)).length = k + 1 ↔ ¬ ((0 < k ∧ d = 0) ∨ 2147483647 < m)) := by
            have h := encI_len_iff n d k HN.out (by omega) (by omega)
            rw [← HMM2.out] at h; exact h
          by_cases hok : (encI (m : Int)).length = k + 1
          · have HOK := Lib.hid hok
            clear hok
            go_wp2_with (go_at_call 88; refine (shortest_yes m (k + 1) _ HOK.out).mono ?_; rintro e w1 ⟨rfl, b1⟩)
            go_ret2
            refine ⟨must_yes (n := m) (c := k + 1) ?_ rfl (by omega), b1⟩
            rw [HR.out, E5.out, HMM2.out]
            exact HG.out _ _ (by omega) (by rw [← HMM2.out]; exact HI.out.1 HOK.out)
          · have HOK := Lib.hid hok
            clear hok
            go_wp2_with (go_at_call 88; refine (shortest_no m (k + 1) _ HOK.out).mono ?_; rintro e w1 ⟨rfl, b1⟩)
            refine ⟨rfl, must_no ?_, b1⟩
            rw [HR.out, E5.out]
            refine HB.out _ _ (by omega) ?_
            rw [← HMM2.out]
            exact Classical.byContradiction fun hh => HOK.out (HI.out.2 hh)
      · go_wp2
        refine ⟨rfl, must_no ?_, Below.refl _ _⟩
        rw [HR.out]
        by_cases h5 : k < 5
        · exact getF_end _ _ _ _ _ (by omega)
        · rw [show 5 - k = 0 from by omega]; rfl
end Go.Proofs.Ytelpeoaffgafgaa
