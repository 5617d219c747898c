/- Plain mathematics for the number encodings and the checksum: no Go text is named here. -/
import Derived.Laws.BitsAllLaws
namespace Go.Proofs.YtlflgflmlfileaaGreat.M

/-- One bit of the checksum. -/
def bit1 (x : Nat) : Nat := if x % 2 = 1 then (x / 2) ^^^ 3988292384 else x / 2
def bitN : Nat → Nat → Nat
  | 0, x => x
  | k + 1, x => bit1 (bitN k x)
def step (x b : Nat) : Nat := bitN 8 (x ^^^ b)
def crcTo (l : List Nat) : Nat := l.foldl step 4294967295
def crc (l : List Nat) : Nat := crcTo l ^^^ 4294967295

theorem xor_cancel {a b c : Nat} (h : a ^^^ c = b ^^^ c) : a = b := by
  have h2 : (a ^^^ c) ^^^ c = (b ^^^ c) ^^^ c := by rw [h]
  simpa [Nat.xor_assoc] using h2
theorem xor_cancel_left {a b c : Nat} (h : c ^^^ a = c ^^^ b) : a = b := xor_cancel (c := c) (by rw [Nat.xor_comm a, Nat.xor_comm b]; exact h)
theorem xor_lt {a b : Nat} (ha : a < 4294967296) (hb : b < 4294967296) : a ^^^ b < 4294967296 :=
  Nat.xor_lt_two_pow (n := 32) ha hb
theorem bit1_lt {x : Nat} (h : x < 4294967296) : bit1 x < 4294967296 := by
  unfold bit1
  split
  · exact xor_lt (by omega) (by omega)
  · omega
theorem bitN_lt (k : Nat) {x : Nat} (h : x < 4294967296) : bitN k x < 4294967296 := by
  induction k with
  | zero => exact h
  | succ k ih => exact bit1_lt ih
theorem step_lt {x b : Nat} (h : x < 4294967296) (hb : b < 256) : step x b < 4294967296 := bitN_lt 8 (xor_lt h (by omega))
theorem foldl_step_lt (l : List Nat) (x : Nat) (h : x < 4294967296) (hl : ∀ b ∈ l, b < 256) : l.foldl step x < 4294967296 := by
  induction l generalizing x with
  | nil => exact h
  | cons b r ih => exact ih _ (step_lt h (hl b (by simp))) (fun c hc => hl c (by simp [hc]))
theorem crcTo_lt (l : List Nat) (hl : ∀ b ∈ l, b < 256) : crcTo l < 4294967296 := foldl_step_lt l _ (by omega) hl
theorem crc_lt (l : List Nat) (hl : ∀ b ∈ l, b < 256) : crc l < 4294967296 := xor_lt (crcTo_lt l hl) (by omega)

/-- The bit's step loses nothing. -/
theorem bit1_inj {x y : Nat} (hx : x < 4294967296) (hy : y < 4294967296) (h : bit1 x = bit1 y) : x = y := by
  have top : ∀ a b : Nat, a < 2147483648 → b < 2147483648 → a ^^^ 3988292384 = b → False := by
    intro a b ha hb e
    have h1 : (a ^^^ 3988292384).testBit 31 = true := by
      rw [Nat.testBit_xor, Nat.testBit_lt_two_pow (x := a) (i := 31) (by omega)]; decide
    rw [e, Nat.testBit_lt_two_pow (x := b) (i := 31) (by omega)] at h1
    cases h1
  unfold bit1 at h
  by_cases h1 : x % 2 = 1 <;> by_cases h2 : y % 2 = 1 <;> simp only [h1, h2, if_true, if_false] at h
  · have := xor_cancel h
    omega
  · exact (top _ _ (by omega) (by omega) h).elim
  · exact (top _ _ (by omega) (by omega) h.symm).elim
  · omega
theorem bitN_inj (k : Nat) {x y : Nat} (hx : x < 4294967296) (hy : y < 4294967296) (h : bitN k x = bitN k y) : x = y := by
  induction k with
  | zero => exact h
  | succ k ih => exact ih (bit1_inj (bitN_lt k hx) (bitN_lt k hy) h)
theorem step_inj_left {x y b : Nat} (hx : x < 4294967296) (hy : y < 4294967296) (hb : b < 256) (h : step x b = step y b) : x = y := by
  have := bitN_inj 8 (xor_lt hx (by omega)) (xor_lt hy (by omega)) h
  exact xor_cancel this
theorem step_inj_right {x b c : Nat} (hx : x < 4294967296) (hb : b < 256) (hc : c < 256) (h : step x b = step x c) : b = c := by
  have := bitN_inj 8 (xor_lt hx (by omega)) (xor_lt hx (by omega)) h
  exact xor_cancel_left this
theorem foldl_inj (l : List Nat) {x y : Nat} (hx : x < 4294967296) (hy : y < 4294967296) (hl : ∀ b ∈ l, b < 256) (h : l.foldl step x = l.foldl step y) : x = y := by
  induction l generalizing x y with
  | nil => exact h
  | cons b r ih =>
    have hb := hl b (by simp)
    exact step_inj_left hx hy hb (ih (step_lt hx hb) (step_lt hy hb) (fun c hc => hl c (by simp [hc])) h)
/-- ONE BYTE CHANGED CHANGES THE CHECKSUM. -/
theorem crc_changed (l r : List Nat) {b c : Nat} (hl : ∀ x ∈ l, x < 256) (hr : ∀ x ∈ r, x < 256) (hb : b < 256) (hc : c < 256) (hne : b ≠ c) : crc (l ++ b :: r) ≠ crc (l ++ c :: r) := by
  intro h
  have h1 : crcTo (l ++ b :: r) = crcTo (l ++ c :: r) := xor_cancel h
  unfold crcTo at h1
  rw [List.foldl_append, List.foldl_append, List.foldl_cons, List.foldl_cons] at h1
  have hx := crcTo_lt l hl
  unfold crcTo at hx
  have h2 := foldl_inj r (step_lt hx hb) (step_lt hx hc) hr h1
  exact hne (step_inj_right hx hb hc h2)
theorem crcTo_snoc (l : List Nat) (b : Nat) : crcTo (l ++ [b]) = step (crcTo l) b := by unfold crcTo; rw [List.foldl_append]; rfl
end Go.Proofs.YtlflgflmlfileaaGreat.M
