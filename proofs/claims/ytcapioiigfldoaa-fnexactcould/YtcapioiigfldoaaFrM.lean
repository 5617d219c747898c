/- What FrameAt reads, as mathematics. -/
import Derived.Test.YtcapioiigfldoaaRows
import Derived.Test.YtcapioiigfldoaaFrOf
namespace Go.Proofs.Ytcapioiigfldoaa
open Go.RowKit
set_option linter.unusedSimpArgs false
set_option linter.unusedVariables false
theorem encF_len3 (n : Nat) (h : n < 2097152) : (encF 4 n).length ≤ 3 := by
  by_cases h1 : n < 128
  · rw [encF_small _ _ h1]; simp
  rw [encF_step 3 n (by omega)]
  by_cases h2 : n / 128 < 128
  · rw [encF_small _ _ h2]; simp
  rw [encF_step 2 _ (by omega), encF_small _ _ (by omega)]; simp
theorem encI_pos (n : Nat) (h : n ≤ 2147483647) : encI (n : Int) = encN n := by unfold encI; rw [if_pos (by omega), Int.toNat_natCast]
theorem encN_pos (n : Nat) : 0 < (encN n).length := (encF_len 4 n).2
/-- A right frame. -/
def FrOk (seq : Nat) (b : List Nat) : Prop := 1 ≤ seq ∧ seq ≤ 1000000 ∧ 1 ≤ b.length ∧ b.length ≤ 60
/-- The part behind the length. -/
def fRest (seq : Nat) (b : List Nat) : List Nat := four (M.crc (encN seq ++ b)) ++ (encN seq ++ b)
theorem four_len (n : Nat) : (four n).length = 4 := rfl
theorem fRest_len (seq : Nat) (b : List Nat) : (fRest seq b).length = 4 + (encN seq).length + b.length := by
  unfold fRest; rw [List.length_append, List.length_append, four_len]; omega
theorem frameOf_eq {seq : Nat} {b : List Nat} (h : FrOk seq b) : frameOf seq b = encN (fRest seq b).length ++ fRest seq b := by
  have h3 := encF_len3 seq (by unfold FrOk at h; omega)
  have hl := fRest_len seq b
  unfold frameOf
  rw [encI_pos seq (by unfold FrOk at h; omega)]
  show encI ((fRest seq b).length : Int) ++ fRest seq b = _
  rw [encI_pos _ (by rw [hl]; unfold FrOk at h; unfold encN; omega)]
theorem frameOf_one {seq : Nat} {b : List Nat} (h : FrOk seq b) : encN (fRest seq b).length = [(fRest seq b).length] := by
  have h3 := encF_len3 seq (by unfold FrOk at h; omega)
  exact encF_small 4 _ (by rw [fRest_len]; unfold FrOk at h; unfold encN; omega)
theorem frameOf_len {seq : Nat} {b : List Nat} (h : FrOk seq b) : (frameOf seq b).length = 5 + (encN seq).length + b.length := by
  rw [frameOf_eq h, List.length_append, frameOf_one h, fRest_len]; simp; omega
theorem frameOf_le {seq : Nat} {b : List Nat} (h : FrOk seq b) : (frameOf seq b).length ≤ 68 := by
  have h3 := encF_len3 seq (by unfold FrOk at h; omega)
  rw [frameOf_len h]; unfold FrOk at h; unfold encN; omega
theorem fOf_ok {seq : Nat} {b : List Nat} (h : FrOk seq b) : fOf (seq : Int) b = frameOf seq b := by
  unfold fOf; unfold FrOk at h; rw [if_pos (by omega), Int.toNat_natCast]
theorem fOf_ne {seq : Nat} {b : List Nat} (h : fOf (seq : Int) b ≠ []) : FrOk seq b := by
  unfold fOf at h
  split at h
  · unfold FrOk; omega
  · exact absurd rfl h
/-- What the model reads at the start of a window. -/
def specF (u : List Nat) : Option (Nat × List Nat × Nat) :=
  match getN u 0 with
  | none => none
  | some (n, k) =>
    if u.length < k + n ∨ n < 5 then none else
    match getN u ((k + 4 : Nat) : Int) with
    | none => none
    | some (seq, j) =>
      if k + n < k + 4 + j then none else
      if fOf (seq : Int) ((u.drop (k + 4 + j)).take (k + n - (k + 4 + j))) = u.take (k + n) ∧ (u.drop (k + 4 + j)).take (k + n - (k + 4 + j)) ≠ [] then some (seq, (u.drop (k + 4 + j)).take (k + n - (k + 4 + j)), k + n) else none
theorem specF_sound {u b : List Nat} {seq sz : Nat} (h : specF u = some (seq, b, sz)) : FrOk seq b ∧ frameOf seq b = u.take sz ∧ sz = (frameOf seq b).length := by
  unfold specF at h
  split at h
  · cases h
  · rename_i n k hg
    obtain ⟨_, _, hk, _, _⟩ := getN_some hg
    split at h
    · cases h
    · rename_i hl
      split at h
      · cases h
      · split at h
        · cases h
        · split at h
          · rename_i he
            simp only [Option.some.injEq, Prod.mk.injEq] at h
            obtain ⟨rfl, rfl, rfl⟩ := h
            have hne := fOf_ne (by rw [he.1]; intro e; have := congrArg List.length e; rw [List.length_take, List.length_nil] at this; omega)
            have h1 := he.1
            rw [fOf_ok hne] at h1
            refine ⟨hne, h1, ?_⟩
            rw [h1, List.length_take]; omega
          · cases h
theorem getN_frame {seq : Nat} {b : List Nat} (h : FrOk seq b) (rest : List Nat) :
    getN (frameOf seq b ++ rest) 0 = some ((fRest seq b).length, 1) ∧ getN (frameOf seq b ++ rest) 5 = some (seq, (encN seq).length) := by
  have h3 := encF_len3 seq (by unfold FrOk at h; omega)
  constructor
  · have h1 := getN_encN [] (fRest seq b ++ rest) (fRest seq b).length (by rw [fRest_len]; unfold FrOk at h; unfold encN; omega)
    rw [frameOf_eq h, List.append_assoc]
    rw [frameOf_one h] at h1 ⊢
    exact h1
  · have h1 := getN_encN ([(fRest seq b).length] ++ four (M.crc (encN seq ++ b))) (b ++ rest) seq (by unfold FrOk at h; omega)
    rw [frameOf_eq h, frameOf_one h]
    have e : [(fRest seq b).length] ++ fRest seq b ++ rest = ([(fRest seq b).length] ++ four (M.crc (encN seq ++ b))) ++ (encN seq ++ (b ++ rest)) := by
      unfold fRest; simp only [List.append_assoc]
    rw [e]
    rw [show ((([(fRest seq b).length] ++ four (M.crc (encN seq ++ b))).length : Nat) : Int) = 5 by rw [List.length_append, four_len]; rfl] at h1
    exact h1
theorem frame_body {seq : Nat} {b : List Nat} (h : FrOk seq b) (rest : List Nat) : ((frameOf seq b ++ rest).drop (5 + (encN seq).length)).take b.length = b := by
  rw [frameOf_eq h, frameOf_one h]
  have e : [(fRest seq b).length] ++ fRest seq b ++ rest = ([(fRest seq b).length] ++ four (M.crc (encN seq ++ b)) ++ encN seq) ++ (b ++ rest) := by
    unfold fRest; simp only [List.append_assoc]
  rw [e, List.drop_left' (by rw [List.length_append, List.length_append, four_len]; simp only [List.length_cons, List.length_nil])]
  exact List.take_left' rfl
theorem specF_made {u b : List Nat} {n seq j : Nat} (g1 : getN u 0 = some (n, 1)) (g2 : getN u 5 = some (seq, j)) (hl : 1 + n ≤ u.length) (hn : n = 4 + j + b.length) (hj : 0 < j) (hb : 1 ≤ b.length)
    (hd : (u.drop (5 + j)).take b.length = b) (he : fOf (seq : Int) b = u.take (1 + n)) : specF u = some (seq, b, 1 + n) := by
  have hd2 : (u.drop (1 + 4 + j)).take (1 + n - (1 + 4 + j)) = b := by
    rw [show 1 + 4 + j = 5 + j by omega, show 1 + n - (5 + j) = b.length by omega]; exact hd
  have g2' : getN u ((1 + 4 : Nat) : Int) = some (seq, j) := g2
  unfold specF
  rw [g1]
  simp only
  rw [if_neg (by omega), g2']
  simp only
  rw [if_neg (by omega), hd2, if_pos ⟨he, by rintro rfl; simp at hb⟩]
theorem specF_complete {seq : Nat} {b : List Nat} (h : FrOk seq b) (rest : List Nat) : specF (frameOf seq b ++ rest) = some (seq, b, (frameOf seq b).length) := by
  obtain ⟨g1, g2⟩ := getN_frame h rest
  have hl := frameOf_len h
  have hr := fRest_len seq b
  have hp := encN_pos seq
  have e2 : 1 + (fRest seq b).length = (frameOf seq b).length := by rw [hr, hl]; omega
  have := specF_made g1 g2 (by rw [List.length_append]; omega) hr hp h.2.2.1 (frame_body h rest) (by rw [fOf_ok h, e2]; exact (List.take_left' rfl).symm)
  rw [e2] at this
  exact this
/-- What the program reads at the start of a window. -/
def implF (u : List Nat) : Option (Nat × List Nat × Nat) :=
  match getT u 0 with
  | none => none
  | some (r, y) =>
    match getN r 4 with
    | none => none
    | some (seq, j) => if fOf (seq : Int) (r.drop (4 + j)) = u.take y then some (seq, r.drop (4 + j), y) else none
theorem getT_some {l t : List Nat} {at_ : Int} {y : Nat} (h : getT l at_ = some (t, y)) : ∃ n k, getN l at_ = some (n, k) ∧ t = (l.drop (at_.toNat + k)).take n ∧ y = at_.toNat + k + n ∧ y ≤ l.length := by
  unfold getT at h
  split at h
  · cases h
  · rename_i n k hg
    split at h
    · cases h
    · simp only [Option.some.injEq, Prod.mk.injEq] at h
      exact ⟨n, k, hg, h.1.symm, h.2.symm, by omega⟩
theorem implF_sound {u b : List Nat} {seq sz : Nat} (h : implF u = some (seq, b, sz)) : FrOk seq b ∧ frameOf seq b = u.take sz ∧ sz = (frameOf seq b).length := by
  unfold implF at h
  split at h
  · cases h
  · rename_i r y hg
    obtain ⟨n, k, hg1, _, hy, hyl⟩ := getT_some hg
    obtain ⟨_, _, hk, _, _⟩ := getN_some hg1
    split at h
    · cases h
    · split at h
      · rename_i he
        simp only [Option.some.injEq, Prod.mk.injEq] at h
        obtain ⟨rfl, rfl, rfl⟩ := h
        have hne := fOf_ne (by rw [he]; intro e; have := congrArg List.length e; rw [List.length_take, List.length_nil] at this; omega)
        rw [fOf_ok hne] at he
        refine ⟨hne, he, ?_⟩
        rw [he, List.length_take]; omega
      · cases h
theorem implF_made {u b r : List Nat} {seq j y : Nat} (g1 : getT u 0 = some (r, y)) (g2 : getN r 4 = some (seq, j)) (hd : r.drop (4 + j) = b) (he : fOf (seq : Int) b = u.take y) : implF u = some (seq, b, y) := by
  unfold implF
  rw [g1]
  simp only
  rw [g2]
  simp only
  rw [hd, if_pos he]
theorem implF_complete {seq : Nat} {b : List Nat} (h : FrOk seq b) (rest : List Nat) : implF (frameOf seq b ++ rest) = some (seq, b, (frameOf seq b).length) := by
  obtain ⟨g1, _⟩ := getN_frame h rest
  have hl := frameOf_len h
  have hr := fRest_len seq b
  have e : (frameOf seq b ++ rest).drop 1 = fRest seq b ++ rest := by
    rw [frameOf_eq h, frameOf_one h]
    exact List.drop_one
  have ht : getT (frameOf seq b ++ rest) 0 = some (fRest seq b, (frameOf seq b).length) := by
    have h1 := getT_yes g1 (by rw [List.length_append, Int.toNat_zero]; omega)
    rw [Int.toNat_zero, Nat.zero_add, e, List.take_left' rfl] at h1
    rw [show 1 + (fRest seq b).length = (frameOf seq b).length by omega] at h1
    exact h1
  have g2 : getN (fRest seq b) 4 = some (seq, (encN seq).length) := by
    have h1 := getN_encN (four (M.crc (encN seq ++ b))) b seq (by unfold FrOk at h; omega)
    rw [four_len] at h1
    exact h1
  have ed : (fRest seq b).drop (4 + (encN seq).length) = b := by
    unfold fRest
    rw [← List.append_assoc]
    exact List.drop_left' (by rw [List.length_append, four_len])
  exact implF_made ht g2 ed (by rw [fOf_ok h]; exact (List.take_left' rfl).symm)
theorem take_split {l p : List Nat} {n m : Nat} (h : p = (l.take n).take m) (hp : p.length ≤ n) (hm : m = p.length) : ∃ r, l = p ++ r := by
  refine ⟨l.drop p.length, ?_⟩
  have : p = l.take p.length := by
    have h2 := h
    rw [List.take_take, hm, Nat.min_eq_left hp] at h2
    exact h2
  conv => lhs; rw [← List.take_append_drop p.length l, ← this]
set_option maxRecDepth 100000 in
/-- The program and the model read the same. -/
theorem implF_eq (t : List Nat) : implF (t.take 68) = specF (t.take 80) := by
  have two : ∀ seq b, FrOk seq b → (∃ r, t = frameOf seq b ++ r) → implF (t.take 68) = some (seq, b, (frameOf seq b).length) ∧ specF (t.take 80) = some (seq, b, (frameOf seq b).length) := by
    intro seq b h ⟨r, ht⟩
    have hl := frameOf_le h
    have e : ∀ n, 68 ≤ n → t.take n = frameOf seq b ++ r.take (n - (frameOf seq b).length) := fun n hn => by
      rw [ht, List.take_append, List.take_of_length_le (by omega)]
    rw [e 68 (by omega), e 80 (by omega)]
    exact ⟨implF_complete h _, specF_complete h _⟩
  rcases h1 : implF (t.take 68) with _ | ⟨seq, b, sz⟩
  · rcases h2 : specF (t.take 80) with _ | ⟨seq, b, sz⟩
    · rfl
    · obtain ⟨ok, e, hsz⟩ := specF_sound h2
      have := (two seq b ok (take_split e (by have := frameOf_le ok; omega) hsz)).1
      rw [h1] at this; cases this
  · obtain ⟨ok, e, hsz⟩ := implF_sound h1
    rw [(two seq b ok (take_split e (by have := frameOf_le ok; omega) hsz)).2, hsz]
/-- What FrameAt reads. -/
def fAt (l : List Nat) (at_ : Int) : Option (Nat × List Nat × Nat) := if 0 ≤ at_ ∧ at_ ≤ l.length then specF ((l.drop at_.toNat).take 80) else none
end Go.Proofs.Ytcapioiigfldoaa
