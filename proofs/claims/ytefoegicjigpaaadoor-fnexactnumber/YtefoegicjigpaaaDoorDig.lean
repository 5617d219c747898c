/- Digits: what the program and the model return. -/
import Derived.Test.YtefoegicjigpaaaDoorWords
import Derived.Test.YtefoegicjigpaaaDoorShelf
import Derived.Lib.AppendIntMem
import Derived.Lib.LaidTab
namespace Go.Proofs.YtefoegicjigpaaaDoor
open Go.RowKit

/-- The table of powers of ten is as it was laid. -/
def Tab (w : World) : Prop := Lib.TabIs Tryd.prog w "internal/strconv.uint64pow10" .u64 Lib.pow10Tab ∧ 0 < w.heap.size
theorem gPow : Tryd.prog.globalNamed "internal/strconv.uint64pow10" = some 0 := by kernel_rfl
theorem Tab.below {w w' : World} {B : Nat} (h : Tab w) (hb : Below B w w') (hB : 0 < B) : Tab w' :=
  ⟨var?_below hb gPow (by omega) h.1, Nat.lt_of_lt_of_le h.2 hb.size⟩
/-- The digits of an int. -/
def digS (n : Int) : ByteArray := ⟨(Lib.itoa n).toArray⟩
def Ret (w : World) (v : Value) (e : Ending) (w' : World) : Prop := e = .returned v ∧ Below w.heap.size w w'

theorem digits_impl (n : Int) (w : World) (h0 : -9223372036854775808 ≤ n) (h1 : n ≤ 9223372036854775807) (ht : Tab w) : Calls Tryd.prog 9 #[.int .i64 n] w (Ret w (.string (digS n))) := by
  have C := Lib.hid (fun w h => Tryd.strconv_Itoa n h0 h1 w h)
  clear h0 h1
  have HD : Hid (digS n = ⟨(Lib.itoa n).toArray⟩) := rfl
  generalize (⟨(Lib.itoa n).toArray⟩ : ByteArray) = S at *
  go_enter Tryd.func9, Tryd.ntmps9
  go_wp2_with fail
  refine (C.out _ ht.1).mono ?_
  rintro e w1 ⟨rfl, k, os, rfl⟩
  go_wp2
  go_ret
  exact ⟨by rw [HD.out]; rfl, Lib.below_grow _ _ (Nat.le_refl _) _ _⟩

/-- Where the model's loop stands: m is left, S is out. -/
def ddS (m : Nat) (S : ByteArray) : ByteArray := if m = 0 then S else ⟨(Lib.decDigits m).toArray⟩ ++ S
theorem ddS_zero (S : ByteArray) : ddS 0 S = S := rfl
theorem strB_one (c : Nat) : strB [c] = ⟨[UInt8.ofNat c].toArray⟩ := by unfold strB strOfNums; simp
theorem ddS_step (m : Nat) (S : ByteArray) (h : 0 < m) : ddS m S = ddS (m / 10) (strB [48 + m % 10] ++ S) := by
  unfold ddS
  rw [if_neg (by omega), Lib.decDigits]
  by_cases h10 : m < 10
  · rw [dif_pos h10, if_pos (by omega), strB_one, Nat.mod_eq_of_lt h10]
  · rw [dif_neg h10, if_neg (by omega), strB_one, ← ByteArray.append_assoc]
    exact congrArg (· ++ S) (ByteArray.mk_append_mk (Lib.decDigits (m / 10)) [UInt8.ofNat (48 + m % 10)]).symm
theorem digS_zero : digS 0 = ⟨#[48]⟩ := by unfold digS Lib.itoa; rw [if_neg (by omega), Lib.decDigits, dif_pos (by simp)]; rfl
theorem digS_pos (m : Nat) (h : 0 < m) : digS (m : Int) = ddS m ⟨#[]⟩ := by
  unfold digS Lib.itoa ddS
  rw [if_neg (by omega), if_neg (by omega), Int.toNat_natCast]
  exact (ByteArray.append_empty).symm
theorem digS_neg (m : Nat) (h : 0 < m) : digS (-(m : Int)) = ⟨#[45]⟩ ++ ddS m ⟨#[]⟩ := by
  unfold digS Lib.itoa ddS
  rw [if_pos (by omega), if_neg (by omega), Int.natAbs_neg, Int.natAbs_natCast]
  have e : (⟨(Lib.decDigits m).toArray⟩ : ByteArray) ++ ⟨#[]⟩ = ⟨(Lib.decDigits m).toArray⟩ := ByteArray.append_empty
  rw [e]
  exact (ByteArray.mk_append_mk [45] _).symm
set_option maxHeartbeats 400000 in
set_option maxRecDepth 100000 in
theorem digits_spec_pos (m0 : Nat) (w : World) (h0 : 0 < m0) (h1 : m0 ≤ 9223372036854775807) : Calls Tryd.prog 10 #[.int .i64 m0] w (Ret w (.string (digS m0))) := by
  have hz : ((m0 : Int) == 0) = false := by rw [beq_eq_false_iff_ne]; omega
  have hneg : decide ((m0 : Int) < 0) = false := by simp
  rw [digS_pos m0 h0]
  obtain ⟨R, hR⟩ : ∃ R, R = ddS m0 ⟨#[]⟩ := ⟨_, rfl⟩
  rw [← hR]
  have HR := Lib.hid hR
  clear hR
  go_enter Tryd.func10, Tryd.ntmps10
  go_wp2
  go_loopw [0, 4] (fun q s wr => ∃ (f m : Nat) (S : ByteArray), m < 10 ^ f ∧ m ≤ m0 ∧ S.size + f ≤ 30 ∧ q = .int .i64 m ∧ s = .string S ∧ Below w.heap.size w wr ∧ ddS m S = R) (fun q _ _ => (intOf q).toNat)
  case atStart => exact ⟨30, m0, _, by omega, Nat.le_refl _, by show 0 + 30 ≤ 30; omega, rfl, rfl, Below.refl _ _, HR.out.symm⟩
  case round =>
    obtain ⟨f, m, S, hf, hm, hS, rfl, rfl, b, hd⟩ := hrel
    have HF := Lib.hid hd
    have HP := Lib.hid hf
    clear hd hf
    by_cases h : 0 < m
    · have hn : ((m : Int) != 0) = true := by rw [bne_iff_ne]; omega
      obtain ⟨f', hff⟩ : ∃ f', f = f' + 1 := by
        cases f with
        | zero => have := HP.out; simp at this; omega
        | succ f => exact ⟨f, rfl⟩
      subst hff
      have hcv := conv_bytes (wr.alloc (.cells #[.int .u8 (48 + (m : Int) % 10)] 5)) wr.heap.size 0 1 1 [48 + m % 10] rfl (one_new wr (48 + m % 10) _ (by omega))
      have HF2 : Hid (ddS (m / 10) (strB [48 + m % 10] ++ S) = R) := by show _ = _; rw [← ddS_step _ _ h]; exact HF.out
      have hcs : (strB [48 + m % 10]).size = 1 := strB_size _
      have HP2 : Hid (m / 10 < 10 ^ f') := by show _ < _; have := HP.out; rw [Nat.pow_succ] at this; omega
      generalize strB [48 + m % 10] = ch at *
      have hcs1 : ch.size ≤ 1 := by omega
      have hsum : ch.size + S.size ≤ 9223372036854775807 := by omega
      clear hcs
      go_wp2
      go_roundw
      case rel => exact ⟨f', m / 10, ch ++ S, HP2.out, by omega, by rw [ByteArray.size_append]; omega, rfl, rfl, b.alloc b.size _, HF2.out⟩
      case measure => simp [intOf]; omega
    · obtain rfl : m = 0 := by omega
      go_wp2
      go_ret
      exact ⟨by rw [← HF.out]; rfl, b⟩
set_option maxHeartbeats 400000 in
set_option maxRecDepth 100000 in
theorem digits_spec_neg (m0 : Nat) (w : World) (h0 : 0 < m0) (h1 : m0 ≤ 9223372036854775808) : Calls Tryd.prog 10 #[.int .i64 (-(m0 : Int))] w (Ret w (.string (digS (-(m0 : Int))))) := by
  have hz : ((-(m0 : Int)) == 0) = false := by rw [beq_eq_false_iff_ne]; omega
  have hneg : decide (-(m0 : Int) < 0) = true := by simp; omega
  rw [digS_neg m0 h0]
  obtain ⟨R, hR⟩ : ∃ R, R = ddS m0 ⟨#[]⟩ := ⟨_, rfl⟩
  rw [← hR]
  have HR := Lib.hid hR
  clear hR
  go_enter Tryd.func10, Tryd.ntmps10
  go_wp2
  go_loopw [0, 4] (fun q s wr => ∃ (f m : Nat) (S : ByteArray), m < 10 ^ f ∧ m ≤ m0 ∧ S.size + f ≤ 30 ∧ q = .int .i64 (-(m : Int)) ∧ s = .string S ∧ Below w.heap.size w wr ∧ ddS m S = R) (fun q _ _ => (intOf q).natAbs)
  case atStart => exact ⟨30, m0, _, by omega, Nat.le_refl _, by show 0 + 30 ≤ 30; omega, rfl, rfl, Below.refl _ _, HR.out.symm⟩
  case round =>
    obtain ⟨f, m, S, hf, hm, hS, rfl, rfl, b, hd⟩ := hrel
    have HF := Lib.hid hd
    have HP := Lib.hid hf
    clear hd hf
    by_cases h : 0 < m
    · have hn : ((-(m : Int)) != 0) = true := by rw [bne_iff_ne]; omega
      obtain ⟨f', hff⟩ : ∃ f', f = f' + 1 := by
        cases f with
        | zero => have := HP.out; simp at this; omega
        | succ f => exact ⟨f, rfl⟩
      subst hff
      have HF2 : Hid (ddS (m / 10) (strB [48 + m % 10] ++ S) = R) := by show _ = _; rw [← ddS_step _ _ h]; exact HF.out
      have hcs : (strB [48 + m % 10]).size = 1 := strB_size _
      have HP2 : Hid (m / 10 < 10 ^ f') := by show _ < _; have := HP.out; rw [Nat.pow_succ] at this; omega
      by_cases hd0 : 0 < (m : Int) % 10
      · have hcv := conv_bytes (wr.alloc (.cells #[.int .u8 (48 + (m : Int) % 10)] 5)) wr.heap.size 0 1 1 [48 + m % 10] rfl (one_new wr (48 + m % 10) _ (by omega))
        generalize strB [48 + m % 10] = ch at *
        have hcs1 : ch.size ≤ 1 := by omega
        have hsum : ch.size + S.size ≤ 9223372036854775807 := by omega
        clear hcs
        go_wp2
        go_roundw
        case rel => exact ⟨f', m / 10, ch ++ S, HP2.out, by omega, by rw [ByteArray.size_append]; omega, rfl, rfl, b.alloc b.size _, HF2.out⟩
        case measure => simp [intOf]; omega
      · have hcv := conv_bytes (wr.alloc (.cells #[.int .u8 (48 + -((m : Int) % 10))] 5)) wr.heap.size 0 1 1 [48 + m % 10] rfl (one_new wr (48 + m % 10) _ (by omega))
        generalize strB [48 + m % 10] = ch at *
        have hcs1 : ch.size ≤ 1 := by omega
        have hsum : ch.size + S.size ≤ 9223372036854775807 := by omega
        clear hcs
        go_wp2
        go_roundw
        case rel => exact ⟨f', m / 10, ch ++ S, HP2.out, by omega, by rw [ByteArray.size_append]; omega, rfl, rfl, b.alloc b.size _, HF2.out⟩
        case measure => simp [intOf]; omega
    · obtain rfl : m = 0 := by omega
      have hsum : (⟨#[45]⟩ : ByteArray).size + S.size ≤ 9223372036854775807 := by show 1 + S.size ≤ _; omega
      go_wp2
      go_ret
      exact ⟨by rw [← HF.out]; rfl, b⟩
theorem digits_spec (n : Int) (w : World) (h0 : -9223372036854775808 ≤ n) (h1 : n ≤ 9223372036854775807) : Calls Tryd.prog 10 #[.int .i64 n] w (Ret w (.string (digS n))) := by
  rcases (show n = 0 ∨ 0 < n ∨ n < 0 from by omega) with h | h | h
  · subst h
    rw [digS_zero]
    go_enter Tryd.func10, Tryd.ntmps10
    go_wp2
    go_ret
    exact ⟨rfl, Below.refl _ _⟩
  · obtain ⟨m, rfl⟩ := Int.eq_ofNat_of_zero_le (show 0 ≤ n by omega)
    exact digits_spec_pos m w (by omega) (by omega)
  · obtain ⟨m, hm⟩ := Int.eq_ofNat_of_zero_le (show 0 ≤ -n by omega)
    obtain rfl : n = -(m : Int) := by omega
    exact digits_spec_neg m w (by omega) (by omega)

theorem FnExactDigits_walk (n : Int) (w : World) (h0 : -9223372036854775808 ≤ n) (h1 : n ≤ 9223372036854775807) (ht : Tab w) :
    Calls Tryd.prog 4 #[.int .i64 n] w fun e w' => e = .returned (.bool true) ∧ Below w.heap.size w w' := by
  have C1 := Lib.hid (fun w => digits_spec n w h0 h1)
  have C2 := Lib.hid (fun w h => digits_impl n w h0 h1 h)
  generalize digS n = S at *
  go_enter Tryd.func4, Tryd.ntmps4
  go_wp2_with fail
  refine (C1.out _).mono ?_
  rintro e w1 ⟨rfl, b1⟩
  go_wp2_with fail
  refine (C2.out _ (ht.below b1 ht.2)).mono ?_
  rintro e w2 ⟨rfl, b2⟩
  go_wp2
  go_ret
  exact ⟨rfl, b1.trans (b2.mono b1.size)⟩
end Go.Proofs.YtefoegicjigpaaaDoor
