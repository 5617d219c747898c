/- The law FnNumbers: just the numbers that may be told are read from their digits. -/
import Derived.Test.YtefoegicjigpaaaDoorNum
namespace Go.Proofs.YtefoegicjigpaaaDoor
open Go.RowKit

theorem val_app (l : List Nat) (c : Nat) : val (l ++ [c]) = val l * 10 + (c - 48) := by unfold val; rw [List.foldl_append]; rfl
theorem dec_val (u : Nat) : val ((Lib.decDigits u).map UInt8.toNat) = u ∧ ((Lib.decDigits u).map UInt8.toNat).all isDig = true := by
  induction u using Nat.strongRecOn with
  | _ u ih =>
    rw [Lib.decDigits]
    have hc : ∀ d : Nat, d < 10 → (UInt8.ofNat (48 + d)).toNat = 48 + d := fun d hd => by
      rw [UInt8.toNat_ofNat']; omega
    split
    · rename_i h
      simp only [List.map_cons, List.map_nil, hc u h]
      constructor
      · show 0 * 10 + (48 + u - 48) = u; omega
      · simp [isDig]; omega
    · rename_i h
      obtain ⟨h1, h2⟩ := ih (u / 10) (by omega)
      rw [List.map_append, List.map_cons, List.map_nil, hc _ (by omega), val_app, h1, List.all_append, h2]
      constructor
      · omega
      · simp [isDig]; omega
theorem strN_dig (u : Nat) : strN (digS (u : Int)) = (Lib.decDigits u).map UInt8.toNat := by
  unfold strN digS Lib.itoa
  rw [if_neg (by omega), Int.toNat_natCast]
theorem numR_dig (u : Nat) (h : u ≤ 999999) : numR (digS (u : Int)) = some u := by
  obtain ⟨h1, h2⟩ := dec_val u
  rw [← strN_dig] at h1 h2
  rw [numR_some _ h2 (by rw [h1]; exact h) (by rw [h1]), h1]
theorem numR_dig_no (n : Int) (h : ¬ (0 ≤ n ∧ n ≤ 999999)) : numR (digS n) = none := by
  by_cases h0 : 0 ≤ n
  · obtain ⟨u, rfl⟩ := Int.eq_ofNat_of_zero_le h0
    obtain ⟨h1, h2⟩ := dec_val u
    rw [← strN_dig] at h1
    refine numR_big _ (strN (digS (u : Int))).length ?_
    rw [List.take_length, h1]
    omega
  · have hs : strN (digS n) = 45 :: (Lib.decDigits n.natAbs).map UInt8.toNat := by
      unfold strN digS Lib.itoa
      rw [if_pos (by omega)]
      rfl
    refine numR_char _ 0 ?_ (by rw [hs]; rfl)
    rw [← strN_length, hs]; simp
def sixInts : List Int := [0, 7, -12, 100000, 9223372036854775807, -9223372036854775808]
def GotN (w : World) (e : Ending) (w' : World) : Prop := ∃ n ∈ sixInts, e = .returned (.int .i64 n) ∧ Below w.heap.size w w'
set_option maxHeartbeats 400000 in
theorem drawDigits_any (A : Option Addr) (l : List Nat) (c : Nat) (w : World) (hl : l.length ≤ 2097152) (hA : Bts w w.heap.size A l) (hb : AllB l) :
    Calls Tryd.prog 7 #[.slice A l.length c] w (GotN w) := by
  go_enter Tryd.func7, Tryd.ntmps7
  go_wp2_with fail
  refine (l1New_any A l c _ hl hA hb).mono ?_
  rintro e w1 ⟨rfl, hc1, b1⟩
  have hlt := hc1.lt
  have b2 : Below w1.heap.size w1 (w1.alloc (.cells (sixInts.map (Value.int .i64)).toArray 3)) := (Below.refl _ _).alloc (Nat.le_refl _) _
  have hx := ints_new w1 sixInts
  go_wp2_with fail
  refine (l1PickInt_any A l c w.heap.size sixInts w1.heap.size 6 6 _ hl hb (hc1.below b2 hlt) rfl (by decide) (by decide) (by omega) hx).mono ?_
  rintro e w2 ⟨n, hn, rfl, hc2, gr2⟩
  go_wp2
  go_ret
  exact ⟨n, hn, rfl, (b1.trans (b2.mono b1.size)).grown gr2 (by simp; omega) (by simp)⟩

set_option maxHeartbeats 800000 in
theorem FnNumbers_walk (A : Option Addr) (l : List Nat) (cap : Nat) (w : World) (hA : Bts w w.heap.size A l) (hb : AllB l) (hm : l.length ≤ maxLen) (ht : Tab w) :
    Calls Tryd.prog 3 #[.slice A l.length cap] w fun e w' => e = .returned (.bool true) ∧ Below w.heap.size w w' := by
  unfold maxLen at hm
  by_cases hbig : 1048576 < l.length
  · go_enter Tryd.func3, Tryd.ntmps3
    go_wp2_with (go_at_call 6; refine (big_yes _ _ _ _ hbig).mono ?_; rintro e w' ⟨rfl, rfl⟩)
    go_ret
    exact ⟨rfl, Below.refl _ _⟩
  have hle : l.length ≤ 1048576 := by omega
  go_enter Tryd.func3, Tryd.ntmps3
  go_wp2_with fail
  refine (big_no _ _ _ _ hle).mono ?_
  rintro e w' ⟨rfl, rfl⟩
  go_wp2_with fail
  refine (drawDigits_any A l cap _ (by omega) hA hb).mono ?_
  rintro e w1 ⟨n, hn, rfl, b1⟩
  have hn1 : -9223372036854775808 ≤ n ∧ n ≤ 9223372036854775807 := by
    simp only [sixInts, List.mem_cons, List.not_mem_nil, or_false] at hn
    omega
  clear hn
  have t1 := ht.below b1 ht.2
  have CD := Lib.hid (fun w h => digits_impl n w hn1.1 hn1.2 h)
  have CS := Lib.hid (fun w => digits_spec n w hn1.1 hn1.2)
  have hsz : (digS n).size ≤ 30 := by
    have h := decDigits_len 20 n.natAbs (by omega)
    unfold digS Lib.itoa
    split
    · show (45 :: Lib.decDigits n.natAbs).length ≤ 30; simp; omega
    · rename_i hh
      have e : n.natAbs = n.toNat := by omega
      rw [e] at h
      show (Lib.decDigits n.toNat).length ≤ 30
      omega
  have CN := Lib.hid (fun w h => number_impl (digS n) w (by omega) h)
  by_cases hin : 0 ≤ n ∧ n ≤ 999999
  · obtain ⟨u, hu⟩ := Int.eq_ofNat_of_zero_le hin.1
    subst hu
    have hr : numR (digS (u : Int)) = some u := numR_dig u (by omega)
    rw [hr] at CN
    have CN2 : Hid (∀ w : World, Tab w → Calls Tryd.prog 8 #[.string (digS (u : Int))] w (Ret w (.tuple #[.int .i64 (u : Int), .bool true]))) := CN.out
    clear hr CN
    generalize digS (u : Int) = S at *
    have h1 : decide ((0 : Int) ≤ (u : Int)) = true := by simp
    have h2 : decide ((u : Int) ≤ 999999) = true := by simp; omega
    go_wp2_with fail
    refine (CD.out _ t1).mono ?_
    rintro e w2 ⟨rfl, b2⟩
    have t2 := t1.below b2 t1.2
    go_wp2_with fail
    refine (CN2.out _ t2).mono ?_
    rintro e w3 ⟨rfl, b3⟩
    have t3 := t2.below b3 t2.2
    go_wp2_with fail
    refine (CD.out _ t3).mono ?_
    rintro e w4 ⟨rfl, b4⟩
    go_wp2_with fail
    refine (CS.out _).mono ?_
    rintro e w5 ⟨rfl, b5⟩
    go_wp2
    go_ret
    exact ⟨rfl, b1.trans ((b2.trans ((b3.trans ((b4.trans (b5.mono b4.size)).mono b3.size)).mono b2.size)).mono b1.size)⟩
  · have hr : numR (digS n) = none := numR_dig_no n hin
    rw [hr] at CN
    have CN2 : Hid (∀ w : World, Tab w → Calls Tryd.prog 8 #[.string (digS n)] w (Ret w (.tuple #[.int .i64 0, .bool false]))) := CN.out
    clear hr CN
    generalize digS n = S at *
    by_cases h0 : 0 ≤ n
    · have h1 : decide ((0 : Int) ≤ n) = true := by simpa using h0
      have h2 : decide (n ≤ 999999) = false := by simp; omega
      go_wp2_with fail
      refine (CD.out _ t1).mono ?_
      rintro e w2 ⟨rfl, b2⟩
      have t2 := t1.below b2 t1.2
      go_wp2_with fail
      refine (CN2.out _ t2).mono ?_
      rintro e w3 ⟨rfl, b3⟩
      have t3 := t2.below b3 t2.2
      go_wp2_with fail
      refine (CD.out _ t3).mono ?_
      rintro e w4 ⟨rfl, b4⟩
      go_wp2_with fail
      refine (CS.out _).mono ?_
      rintro e w5 ⟨rfl, b5⟩
      go_wp2
      go_ret
      exact ⟨rfl, b1.trans ((b2.trans ((b3.trans ((b4.trans (b5.mono b4.size)).mono b3.size)).mono b2.size)).mono b1.size)⟩
    · have h1 : decide ((0 : Int) ≤ n) = false := by simpa using h0
      go_wp2_with fail
      refine (CD.out _ t1).mono ?_
      rintro e w2 ⟨rfl, b2⟩
      have t2 := t1.below b2 t1.2
      go_wp2_with fail
      refine (CN2.out _ t2).mono ?_
      rintro e w3 ⟨rfl, b3⟩
      have t3 := t2.below b3 t2.2
      go_wp2_with fail
      refine (CD.out _ t3).mono ?_
      rintro e w4 ⟨rfl, b4⟩
      go_wp2_with fail
      refine (CS.out _).mono ?_
      rintro e w5 ⟨rfl, b5⟩
      go_wp2
      go_ret
      exact ⟨rfl, b1.trans ((b2.trans ((b3.trans ((b4.trans (b5.mono b4.size)).mono b3.size)).mono b2.size)).mono b1.size)⟩
end Go.Proofs.YtefoegicjigpaaaDoor
