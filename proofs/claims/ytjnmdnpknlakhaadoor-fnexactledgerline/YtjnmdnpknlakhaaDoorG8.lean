/- Texts laid together: Parts, Dig, Num, LineS, Laid, LineM. -/
import Derived.Test.YtjnmdnpknlakhaaDoorRows
import Derived.Test.YtjnmdnpknlakhaaDoorG6
import Derived.Test.YtjnmdnpknlakhaaDoorShelf
import Derived.Lib.AppendIntMem
import Derived.Lib.LaidTab
import Derived.Defers
import Derived.Recover
import Derived.LaidSub
namespace Go.Proofs.YtjnmdnpknlakhaaDoor
open Go.RowKit
set_option linter.unusedSimpArgs false
set_option linter.unusedVariables false
/-- The parts behind k bytes, and where the next one begins. -/
def pst (s : ByteArray) (c : Nat) : Nat → List ByteArray × Nat
  | 0 => ([], 0)
  | k + 1 => if (strN s).getD k 0 = c then ((pst s c k).1 ++ [s.extract (pst s c k).2 k], k + 1) else pst s c k
def partsOf (s : ByteArray) (c : Nat) : List ByteArray := (pst s c s.size).1 ++ [s.extract (pst s c s.size).2 s.size]
theorem pst_bounds (s : ByteArray) (c k : Nat) : (pst s c k).2 ≤ k ∧ (pst s c k).1.length ≤ k := by
  induction k with
  | zero => simp [pst]
  | succ k ih =>
    simp only [pst]
    split
    · simp; omega
    · omega
theorem pst_hit (s : ByteArray) (c k : Nat) (h : (strN s).getD k 0 = c) : pst s c (k + 1) = ((pst s c k).1 ++ [s.extract (pst s c k).2 k], k + 1) := by simp only [pst]; rw [if_pos h]
theorem pst_miss (s : ByteArray) (c k : Nat) (h : ¬ (strN s).getD k 0 = c) : pst s c (k + 1) = pst s c k := by simp only [pst]; rw [if_neg h]
theorem strN_at (s : ByteArray) (k : Nat) (h : k < s.size) : (strN s).getD k 0 = (s[k]'h).toNat := strN_getD s k h
theorem one_newS (w : World) (t : ByteArray) : (w.alloc (.cells #[.string t] 9)).cell? ⟨w.heap.size, 0, none⟩ = some (.string t) := by
  rw [World.cell?_alloc_at _ _ _ _ rfl]; rfl
theorem owns_alloc {w : World} {base : Nat} {v : Value} {l : List ByteArray} (h : OwnS w base v l) (o : Obj) : OwnS (w.alloc o) base v l := World.ownsRow.alloc h o
theorem ownS_empty (w : World) (base : Nat) (h : base ≤ w.heap.size) : OwnS (w.alloc (.cells #[] 9)) base (.slice (some ⟨w.heap.size, 0, none⟩) 0 0) [] :=
  ⟨by simp [scells], .inr ⟨_, _, _, rfl, h, heap_alloc_new _ _, Nat.le_refl _, by simp, by simp, by simp [scells]⟩⟩
/-- The table of powers of ten is as it was laid. -/
def Tab (w : World) : Prop := Lib.TabIs Tryd.prog w "internal/strconv.uint64pow10" .u64 Lib.pow10Tab ∧ 1 < w.heap.size
set_option maxRecDepth 100000 in
theorem gPow : Tryd.prog.globalNamed "internal/strconv.uint64pow10" = some 1 := by kernel_rfl
theorem Tab.below {w w' : World} {B : Nat} (h : Tab w) (hb : Below B w w') (hB : 1 < B) : Tab w' :=
  ⟨var?_below hb gPow (by omega) h.1, Nat.lt_of_lt_of_le h.2 hb.size⟩
/-- The digits of an int. -/
def digS (n : Int) : ByteArray := ⟨(Lib.itoa n).toArray⟩
def Ret (w : World) (v : Value) (e : Ending) (w' : World) : Prop := e = .returned v ∧ Below w.heap.size w w'
set_option maxRecDepth 100000 in
theorem digits_impl (n : Int) (w : World) (h0 : -9223372036854775808 ≤ n) (h1 : n ≤ 9223372036854775807) (ht : Tab w) : Calls Tryd.prog 11 #[.int .i64 n] w (Ret w (.string (digS n))) := by
  have C := Lib.hid (fun w h => Tryd.strconv_Itoa n h0 h1 w h)
  clear h0 h1
  have HD : Hid (digS n = ⟨(Lib.itoa n).toArray⟩) := rfl
  generalize (⟨(Lib.itoa n).toArray⟩ : ByteArray) = S at *
  go_enter Tryd.func11, Tryd.ntmps11
  go_wp2_with fail
  refine (C.out _ ht.1).mono ?_
  rintro e w1 ⟨rfl, k, os, rfl⟩
  go_wp2
  go_ret
  exact ⟨by rw [HD.out]; rfl, Lib.below_grow _ _ (Nat.le_refl _) _ _⟩
/-- Where the model's loop stands: m is left, S is out. -/
def ddS (m : Nat) (S : ByteArray) : ByteArray := if m = 0 then S else ⟨(Lib.decDigits m).toArray⟩ ++ S
theorem ddS_zero (S : ByteArray) : ddS 0 S = S := rfl
theorem strB_one (c : Nat) : strB [c] = ⟨[UInt8.ofNat c].toArray⟩ := by unfold strB strOfNums; simp
theorem ddS_step (m : Nat) (S : ByteArray) (h : 0 < m) : ddS m S = ddS (m / 10) (strB [48 + m % 10] ++ S) := by
  unfold ddS
  rw [if_neg (by omega), Lib.decDigits]
  by_cases h10 : m < 10
  · rw [dif_pos h10, if_pos (by omega), strB_one, Nat.mod_eq_of_lt h10]
  · rw [dif_neg h10, if_neg (by omega), strB_one, ← ByteArray.append_assoc]
    exact congrArg (· ++ S) (ByteArray.mk_append_mk (Lib.decDigits (m / 10)) [UInt8.ofNat (48 + m % 10)]).symm
theorem digS_zero : digS 0 = ⟨#[48]⟩ := by unfold digS Lib.itoa; rw [if_neg (by omega), Lib.decDigits, dif_pos (by simp)]; rfl
theorem digS_pos (m : Nat) (h : 0 < m) : digS (m : Int) = ddS m ⟨#[]⟩ := by
  unfold digS Lib.itoa ddS
  rw [if_neg (by omega), if_neg (by omega), Int.toNat_natCast]
  exact (ByteArray.append_empty).symm
theorem digS_neg (m : Nat) (h : 0 < m) : digS (-(m : Int)) = ⟨#[45]⟩ ++ ddS m ⟨#[]⟩ := by
  unfold digS Lib.itoa ddS
  rw [if_pos (by omega), if_neg (by omega), Int.natAbs_neg, Int.natAbs_natCast]
  have e : (⟨(Lib.decDigits m).toArray⟩ : ByteArray) ++ ⟨#[]⟩ = ⟨(Lib.decDigits m).toArray⟩ := ByteArray.append_empty
  rw [e]
  exact (ByteArray.mk_append_mk [45] _).symm
set_option maxHeartbeats 400000 in
set_option maxRecDepth 100000 in
theorem digits_spec_pos (m0 : Nat) (w : World) (h0 : 0 < m0) (h1 : m0 ≤ 9223372036854775807) : Calls Tryd.prog 8 #[.int .i64 m0] w (Ret w (.string (digS m0))) := by
  have hz : ((m0 : Int) == 0) = false := by rw [beq_eq_false_iff_ne]; omega
  have hneg : decide ((m0 : Int) < 0) = false := by simp
  rw [digS_pos m0 h0]
  obtain ⟨R, hR⟩ : ∃ R, R = ddS m0 ⟨#[]⟩ := ⟨_, rfl⟩
  rw [← hR]
  have HR := Lib.hid hR
  clear hR
  go_enter Tryd.func8, Tryd.ntmps8
  go_wp2
  go_loopw [0, 4] (fun q s wr => ∃ (f m : Nat) (S : ByteArray), m < 10 ^ f ∧ m ≤ m0 ∧ S.size + f ≤ 30 ∧ q = .int .i64 m ∧ s = .string S ∧ Below w.heap.size w wr ∧ ddS m S = R) (fun q _ _ => (intOf q).toNat)
  case atStart => exact ⟨30, m0, _, by omega, Nat.le_refl _, by show 0 + 30 ≤ 30; omega, rfl, rfl, Below.refl _ _, HR.out.symm⟩
  case round =>
    obtain ⟨f, m, S, hf, hm, hS, rfl, rfl, b, hd⟩ := hrel
    have HF := Lib.hid hd
    have HP := Lib.hid hf
    clear hd hf
    by_cases h : 0 < m
    · have hn : ((m : Int) != 0) = true := by rw [bne_iff_ne]; omega
      obtain ⟨f', hff⟩ : ∃ f', f = f' + 1 := by
        cases f with
        | zero => have := HP.out; simp at this; omega
        | succ f => exact ⟨f, rfl⟩
      subst hff
      have hcv := conv_bytes (wr.alloc (.cells #[.int .u8 (48 + (m : Int) % 10)] 5)) wr.heap.size 0 1 1 [48 + m % 10] rfl (one_new wr (48 + m % 10) _ (by omega))
      have HF2 : Hid (ddS (m / 10) (strB [48 + m % 10] ++ S) = R) := by show _ = _; rw [← ddS_step _ _ h]; exact HF.out
      have hcs : (strB [48 + m % 10]).size = 1 := strB_size _
      have HP2 : Hid (m / 10 < 10 ^ f') := by show _ < _; have := HP.out; rw [Nat.pow_succ] at this; omega
      generalize strB [48 + m % 10] = ch at *
      have hcs1 : ch.size ≤ 1 := by omega
      have hsum : ch.size + S.size ≤ 9223372036854775807 := by omega
      clear hcs
      go_wp2
      go_roundw
      case rel => exact ⟨f', m / 10, ch ++ S, HP2.out, by omega, by rw [ByteArray.size_append]; omega, rfl, rfl, b.alloc b.size _, HF2.out⟩
      case measure => simp [intOf]; omega
    · obtain rfl : m = 0 := by omega
      go_wp2
      go_ret
      exact ⟨by rw [← HF.out]; rfl, b⟩
set_option maxHeartbeats 400000 in
set_option maxRecDepth 100000 in
theorem digits_spec_neg (m0 : Nat) (w : World) (h0 : 0 < m0) (h1 : m0 ≤ 9223372036854775808) : Calls Tryd.prog 8 #[.int .i64 (-(m0 : Int))] w (Ret w (.string (digS (-(m0 : Int))))) := by
  have hz : ((-(m0 : Int)) == 0) = false := by rw [beq_eq_false_iff_ne]; omega
  have hneg : decide (-(m0 : Int) < 0) = true := by simp; omega
  rw [digS_neg m0 h0]
  obtain ⟨R, hR⟩ : ∃ R, R = ddS m0 ⟨#[]⟩ := ⟨_, rfl⟩
  rw [← hR]
  have HR := Lib.hid hR
  clear hR
  go_enter Tryd.func8, Tryd.ntmps8
  go_wp2
  go_loopw [0, 4] (fun q s wr => ∃ (f m : Nat) (S : ByteArray), m < 10 ^ f ∧ m ≤ m0 ∧ S.size + f ≤ 30 ∧ q = .int .i64 (-(m : Int)) ∧ s = .string S ∧ Below w.heap.size w wr ∧ ddS m S = R) (fun q _ _ => (intOf q).natAbs)
  case atStart => exact ⟨30, m0, _, by omega, Nat.le_refl _, by show 0 + 30 ≤ 30; omega, rfl, rfl, Below.refl _ _, HR.out.symm⟩
  case round =>
    obtain ⟨f, m, S, hf, hm, hS, rfl, rfl, b, hd⟩ := hrel
    have HF := Lib.hid hd
    have HP := Lib.hid hf
    clear hd hf
    by_cases h : 0 < m
    · have hn : ((-(m : Int)) != 0) = true := by rw [bne_iff_ne]; omega
      obtain ⟨f', hff⟩ : ∃ f', f = f' + 1 := by
        cases f with
        | zero => have := HP.out; simp at this; omega
        | succ f => exact ⟨f, rfl⟩
      subst hff
      have HF2 : Hid (ddS (m / 10) (strB [48 + m % 10] ++ S) = R) := by show _ = _; rw [← ddS_step _ _ h]; exact HF.out
      have hcs : (strB [48 + m % 10]).size = 1 := strB_size _
      have HP2 : Hid (m / 10 < 10 ^ f') := by show _ < _; have := HP.out; rw [Nat.pow_succ] at this; omega
      by_cases hd0 : 0 < (m : Int) % 10
      · have hcv := conv_bytes (wr.alloc (.cells #[.int .u8 (48 + (m : Int) % 10)] 5)) wr.heap.size 0 1 1 [48 + m % 10] rfl (one_new wr (48 + m % 10) _ (by omega))
        generalize strB [48 + m % 10] = ch at *
        have hcs1 : ch.size ≤ 1 := by omega
        have hsum : ch.size + S.size ≤ 9223372036854775807 := by omega
        clear hcs
        go_wp2
        go_roundw
        case rel => exact ⟨f', m / 10, ch ++ S, HP2.out, by omega, by rw [ByteArray.size_append]; omega, rfl, rfl, b.alloc b.size _, HF2.out⟩
        case measure => simp [intOf]; omega
      · have hcv := conv_bytes (wr.alloc (.cells #[.int .u8 (48 + -((m : Int) % 10))] 5)) wr.heap.size 0 1 1 [48 + m % 10] rfl (one_new wr (48 + m % 10) _ (by omega))
        generalize strB [48 + m % 10] = ch at *
        have hcs1 : ch.size ≤ 1 := by omega
        have hsum : ch.size + S.size ≤ 9223372036854775807 := by omega
        clear hcs
        go_wp2
        go_roundw
        case rel => exact ⟨f', m / 10, ch ++ S, HP2.out, by omega, by rw [ByteArray.size_append]; omega, rfl, rfl, b.alloc b.size _, HF2.out⟩
        case measure => simp [intOf]; omega
    · obtain rfl : m = 0 := by omega
      have hsum : (⟨#[45]⟩ : ByteArray).size + S.size ≤ 9223372036854775807 := by show 1 + S.size ≤ _; omega
      go_wp2
      go_ret
      exact ⟨by rw [← HF.out]; rfl, b⟩
set_option maxRecDepth 100000 in
theorem digits_spec (n : Int) (w : World) (h0 : -9223372036854775808 ≤ n) (h1 : n ≤ 9223372036854775807) : Calls Tryd.prog 8 #[.int .i64 n] w (Ret w (.string (digS n))) := by
  rcases (show n = 0 ∨ 0 < n ∨ n < 0 from by omega) with h | h | h
  · subst h
    rw [digS_zero]
    go_enter Tryd.func8, Tryd.ntmps8
    go_wp2
    go_ret
    exact ⟨rfl, Below.refl _ _⟩
  · obtain ⟨m, rfl⟩ := Int.eq_ofNat_of_zero_le (show 0 ≤ n by omega)
    exact digits_spec_pos m w (by omega) (by omega)
  · obtain ⟨m, hm⟩ := Int.eq_ofNat_of_zero_le (show 0 ≤ -n by omega)
    obtain rfl : n = -(m : Int) := by omega
    exact digits_spec_neg m w (by omega) (by omega)
def dstep (n b : Nat) : Nat := n * 10 + (b - 48)
def val (l : List Nat) : Nat := l.foldl dstep 0
def isDig (b : Nat) : Bool := decide (48 ≤ b) && decide (b ≤ 57)
theorem foldl_ge (l : List Nat) (n : Nat) : n ≤ l.foldl dstep n := by
  induction l generalizing n with
  | nil => exact Nat.le_refl _
  | cons b r ih => exact Nat.le_trans (by unfold dstep; omega) (ih (dstep n b))
theorem val_take (l : List Nat) (k : Nat) : val (l.take k) ≤ val l := by
  have h : val l = (l.drop k).foldl dstep (val (l.take k)) := by
    unfold val
    rw [← List.foldl_append, List.take_append_drop]
  rw [h]
  exact foldl_ge _ _
theorem val_snoc (l : List Nat) (k : Nat) (h : k < l.length) : val (l.take (k + 1)) = val (l.take k) * 10 + (l.getD k 0 - 48) := by
  rw [take_snoc l k 0 h]
  unfold val
  rw [List.foldl_append]
  rfl
/-- What Number reads. -/
def numR (s : ByteArray) : Option Nat :=
  if ((strN s).all isDig = true ∧ val (strN s) ≤ 999999) ∧ digS (val (strN s) : Int) = s then some (val (strN s)) else none
theorem numR_char (s : ByteArray) (k : Nat) (hk : k < s.size) (h : isDig ((strN s).getD k 0) = false) : numR s = none := by
  unfold numR
  rw [if_neg]
  rintro ⟨⟨h1, _⟩, _⟩
  rw [List.all_eq_true] at h1
  have := h1 _ (getD_mem (strN s) k 0 (by rw [strN_length]; exact hk))
  rw [this] at h; cases h
theorem numR_big (s : ByteArray) (k : Nat) (h : 999999 < val ((strN s).take k)) : numR s = none := by
  unfold numR
  rw [if_neg]
  rintro ⟨⟨_, h1⟩, _⟩
  have := val_take (strN s) k
  omega
theorem numR_other (s : ByteArray) (h : ¬ digS (val (strN s) : Int) = s) : numR s = none := by unfold numR; rw [if_neg fun hh => h hh.2]
theorem numR_some (s : ByteArray) (h1 : (strN s).all isDig = true) (h2 : val (strN s) ≤ 999999) (h3 : digS (val (strN s) : Int) = s) : numR s = some (val (strN s)) := by unfold numR; rw [if_pos ⟨⟨h1, h2⟩, h3⟩]
theorem decDigits_len (k : Nat) : ∀ u, u < 10 ^ (k + 1) → (Lib.decDigits u).length ≤ k + 1 ∧ 0 < (Lib.decDigits u).length := by
  induction k with
  | zero => intro u h; rw [Lib.decDigits, dif_pos (by simpa using h)]; simp
  | succ k ih =>
    intro u h
    rw [Lib.decDigits]
    split
    · simp
    · have h2 : u / 10 < 10 ^ (k + 1) := by rw [Nat.pow_succ] at h; omega
      have := ih (u / 10) h2
      simp only [List.length_append, List.length_cons, List.length_nil]
      omega
theorem digS_size (v : Nat) (h : v ≤ 999999) : (digS (v : Int)).size ≤ 6 ∧ 0 < (digS (v : Int)).size := by
  have := decDigits_len 5 v (by omega)
  unfold digS Lib.itoa
  rw [if_neg (by omega), Int.toNat_natCast]
  simpa [ByteArray.size] using this
theorem numR_size (s : ByteArray) (h : s.size < 1 ∨ 6 < s.size) : numR s = none := by
  unfold numR
  rw [if_neg]
  rintro ⟨⟨_, h1⟩, h2⟩
  have := digS_size _ h1
  rw [h2] at this
  omega
def numV (o : Option Nat) : Value := match o with | some n => .tuple #[.int .i64 (n : Int), .bool true] | none => .tuple #[.int .i64 0, .bool false]
theorem numV_no {o : Option Nat} (h : o = none) : Ending.returned (.tuple #[.int .i64 0, .bool false]) = .returned (numV o) := by rw [h]; rfl
theorem numV_yes {o : Option Nat} {n : Nat} (h : o = some n) : Ending.returned (.tuple #[.int .i64 (n : Int), .bool true]) = .returned (numV o) := by rw [h]; rfl
theorem all_take (l : List Nat) (k : Nat) (h : k < l.length) (h1 : (l.take k).all isDig = true) (h2 : isDig (l.getD k 0) = true) : (l.take (k + 1)).all isDig = true := by
  rw [take_snoc l k 0 h, List.all_append, h1]; simpa using h2
theorem val_lt (l : List Nat) (k : Nat) (hk : k ≤ l.length) (h : (l.take k).all isDig = true) : val (l.take k) < 10 ^ k := by
  induction k with
  | zero => simp [val]
  | succ k ih =>
    rw [take_snoc l k 0 (by omega), List.all_append, Bool.and_eq_true] at h
    have h1 := ih (by omega) h.1
    have h2 : isDig (l.getD k 0) = true := by simpa using h.2
    unfold isDig at h2
    simp only [Bool.and_eq_true, decide_eq_true_eq] at h2
    rw [val_snoc l k (by omega), Nat.pow_succ]
    omega
theorem numV_form (o : Option Nat) : ∃ (x : Int) (t : Bool), numV o = .tuple #[.int .i64 x, .bool t] := by
  rcases o with _ | n
  · exact ⟨_, _, rfl⟩
  · exact ⟨_, _, rfl⟩
/-- The first k numbers in decimal, parted by spaces. -/
def linN (l : List Int) : Nat → ByteArray
  | 0 => ⟨#[]⟩
  | k + 1 => (if k = 0 then ⟨#[]⟩ else linN l k ++ ⟨#[32]⟩) ++ digS (l.getD k 0)
/-- The numbers in decimal, parted by spaces. -/
def lineOf (l : List Int) : ByteArray := linN l l.length
theorem sz_none : (⟨#[]⟩ : ByteArray).size = 0 := rfl
theorem sz_one (x : UInt8) : (⟨#[x]⟩ : ByteArray).size = 1 := rfl
theorem digS_len (n : Int) (h : inI n) : (digS n).size ≤ 20 := by
  obtain ⟨h0, h1⟩ := h
  show (Lib.itoa n).toArray.size ≤ 20
  rw [List.size_toArray]
  unfold Lib.itoa
  have p : (10 : Nat) ^ (18 + 1) = 10000000000000000000 := by decide
  split
  · have := (decDigits_len 18 n.natAbs (by rw [p]; omega)).1
    rw [List.length_cons]; omega
  · have := (decDigits_len 18 n.toNat (by rw [p]; omega)).1
    omega
theorem linN_len (l : List Int) (hi : ∀ z ∈ l, inI z) : ∀ k, (linN l k).size ≤ 21 * k
  | 0 => by show (⟨#[]⟩ : ByteArray).size ≤ _; rw [sz_none]; omega
  | k + 1 => by
    have ih := linN_len l hi k
    have hd : (digS (l.getD k 0)).size ≤ 20 := by
      refine digS_len _ ?_
      rw [List.getD_eq_getElem?_getD]
      by_cases h : k < l.length
      · rw [List.getElem?_eq_getElem h]; exact hi _ (List.getElem_mem h)
      · rw [List.getElem?_eq_none (by omega)]; exact ⟨by simp, by simp⟩
    unfold linN
    split
    · rw [ByteArray.size_append, sz_none]; omega
    · rw [ByteArray.size_append, ByteArray.size_append, sz_one]; omega
/-- What RulesLine returns. -/
def lineR (r : Ru) : ByteArray := lineOf (numsR r)
theorem numsR_in {r : Ru} (h : r.go) : ∀ z ∈ numsR r, inI z := by
  obtain ⟨hs, h0, h1, h2, h3, h4, h5, h6, h7, _⟩ := h
  intro z hz
  unfold numsR at hz
  split at hz
  · rcases List.mem_append.1 hz with hz | hz
    · simp only [List.mem_cons, List.not_mem_nil, or_false] at hz
      rcases hz with rfl | rfl | rfl | rfl | rfl | rfl | rfl | rfl <;> assumption
    · exact hs z hz
  · cases hz
theorem numsR_len (r : Ru) : (numsR r).length ≤ 12 := by
  unfold numsR
  split
  · rename_i h
    have := h.1.1.2
    simp; omega
  · simp
/-- What is read off parts: none, if one of them is no number. -/
def readAll : List ByteArray → Option (List Int)
  | [] => some []
  | p :: t => match numR p with
    | none => none
    | some n => match readAll t with
      | none => none
      | some l => some ((n : Int) :: l)
theorem readAll_no (p : ByteArray) (t : List ByteArray) (h : numR p = none) : readAll (p :: t) = none := by simp [readAll, h]
theorem readAll_snoc (P : List ByteArray) (p : ByteArray) : readAll (P ++ [p]) = match readAll P with
    | none => none
    | some l => match numR p with
      | none => none
      | some n => some (l ++ [(n : Int)]) := by
  induction P with
  | nil => cases h : numR p <;> simp [readAll, h]
  | cons a t ih =>
    rw [List.cons_append]
    unfold readAll
    rw [ih]
    cases numR a with
    | none => rfl
    | some n =>
      cases readAll t with
      | none => rfl
      | some l => cases numR p <;> rfl
theorem readAll_bad (P Q : List ByteArray) (h : readAll P = none) : readAll (P ++ Q) = none := by
  induction P with
  | nil => cases h
  | cons a t ih =>
    rw [List.cons_append]
    unfold readAll at h ⊢
    cases ha : numR a with
    | none => rfl
    | some n =>
      rw [ha] at h
      cases ht : readAll t with
      | none => rw [ih ht]
      | some l => rw [ht] at h; cases h
theorem readAll_len : ∀ (P : List ByteArray) (l : List Int), readAll P = some l → l.length = P.length
  | [], l, h => by cases h; rfl
  | p :: t, l, h => by
    unfold readAll at h
    cases hp : numR p with
    | none => rw [hp] at h; cases h
    | some n =>
      rw [hp] at h
      cases ht : readAll t with
      | none => rw [ht] at h; cases h
      | some q =>
        rw [ht] at h
        cases h
        have := readAll_len t q ht
        simp [this]
theorem numR_lt {s : ByteArray} {n : Nat} (h : numR s = some n) : n ≤ 999999 := by
  unfold numR at h
  split at h
  · rename_i hh
    cases h
    exact hh.1.2
  · cases h
theorem readAll_in : ∀ (P : List ByteArray) (l : List Int), readAll P = some l → ∀ z ∈ l, inI z
  | [], l, h, z, hz => by cases h; cases hz
  | p :: t, l, h, z, hz => by
    unfold readAll at h
    cases hp : numR p with
    | none => rw [hp] at h; cases h
    | some n =>
      rw [hp] at h
      cases ht : readAll t with
      | none => rw [ht] at h; cases h
      | some q =>
        rw [ht] at h
        cases h
        rcases List.mem_cons.1 hz with rfl | hz
        · have := numR_lt hp
          exact ⟨by omega, by omega⟩
        · exact readAll_in t q ht z hz
theorem pst_sizes (s : ByteArray) (c : Nat) : ∀ k, ∀ p ∈ (pst s c k).1, p.size ≤ s.size
  | 0, p, h => by cases h
  | k + 1, p, h => by
    unfold pst at h
    split at h
    · rcases List.mem_append.1 h with h | h
      · exact pst_sizes s c k p h
      · rw [List.mem_singleton] at h
        subst h
        rw [ByteArray.size_extract]; omega
    · exact pst_sizes s c k p h
theorem parts_sizes (s : ByteArray) (c : Nat) : ∀ p ∈ partsOf s c, p.size ≤ s.size := by
  intro p h
  rcases List.mem_append.1 h with h | h
  · exact pst_sizes s c _ p h
  · rw [List.mem_singleton] at h
    subst h
    rw [ByteArray.size_extract]; omega
theorem parts_len (s : ByteArray) (c : Nat) : (partsOf s c).length ≤ s.size + 1 := by
  have := (pst_bounds s c s.size).2
  unfold partsOf
  simp; omega
/-- What l5Read reads. -/
def readV (s : ByteArray) : Option (List Int) := if 2000 < s.size then none else readAll (partsOf s 32)
def readP (s : ByteArray) : List Int × Bool := match readV s with
  | none => ([], false)
  | some l => (l, true)
/-- Numbers in new memory, with a bool. -/
def NewLB (w : World) (x : List Int × Bool) (e : Ending) (w' : World) : Prop :=
  ∃ (B : Option Addr) (cb : Nat), e = .returned (.tuple #[.slice B x.1.length cb, .bool x.2]) ∧ w'.ownsRow w.heap.size 3 1 (.slice B x.1.length cb) x.1.length (ints x.1) ∧ Below w.heap.size w w'
/-- A row stays where a row of another type is written. -/
theorem own_typed {w w' : World} {B e sz n B' e' sz' n' : Nat} {v v' : Value} {cs cs' : List Value} (h : w.ownsRow B e sz v n cs) (h2 : w.ownsRow B' e' sz' v' n' cs') (hte : e ≠ e') (g : w.grownBy w' v'.ownBlock) : w'.ownsRow B e sz v n cs := by
  refine h.kept g ?_
  rcases h.2 with ⟨rfl, _⟩ | ⟨k, cap, cur, rfl, _, hk, _⟩
  · exact .inl rfl
  · exact .inr fun q => own_ne_type h2 hk hte q.symm
/-- What ReadRules returns. -/
def readR (s : ByteArray) : Ru × Bool := match readV s with
  | none => (ru0, false)
  | some l => rulesInV l
theorem readV_len {s : ByteArray} {l : List Int} (h : readV s = some l) : l.length ≤ 2001 ∧ ∀ z ∈ l, inI z := by
  unfold readV at h
  split at h
  · cases h
  · have h1 := readAll_len _ _ h
    have h2 := parts_len s 32
    exact ⟨by omega, readAll_in _ _ h⟩
set_option maxRecDepth 100000 in
theorem gPowType : (Tryd.prog.globals[1]?).map (·.type) = some 61 := by kernel_rfl
set_option maxRecDepth 100000 in
theorem cellsPow : Tryd.prog.cellsOf 61 = 20 := by kernel_rfl
set_option maxRecDepth 100000 in
theorem cellsU64 : Tryd.prog.cellsOf 54 = 1 := by kernel_rfl
set_option maxRecDepth 100000 in
/-- The listed table that the program reads. -/
theorem tab_of {W : World} {L : List (String × DataW Unit)} (h : laidMetH Tryd.prog L W) (e : L.filter (fun x => x.1 == "internal/strconv.uint64pow10") = [("internal/strconv.uint64pow10", Lib.tabData .u64 Lib.pow10Tab)]) : Tab W := by
  have h2 := h.filter (fun x => x.1 == "internal/strconv.uint64pow10")
  rw [e] at h2
  have h2 : laidMet Tryd.prog [("internal/strconv.uint64pow10", Lib.tabData .u64 Lib.pow10Tab)] W := h2
  have h3 : Lib.TabIs Tryd.prog W "internal/strconv.uint64pow10" .u64 Lib.pow10Tab := Lib.tabIs_of_head gPow gPowType Tryd.underlying61 Tryd.underlying54 cellsU64 cellsPow h2
  exact ⟨h3, by simpa using World.block_lt_of_cell? W _ (h3.cell gPow 0 (by decide))⟩
/-- The settled world with the three tables laid. -/
noncomputable def laidWorld (os : Os) : World :=
  let w := World.holding Tryd.prog os ⟨#[], #[], []⟩
  { w with heap := ((w.heap.modify 1 fun
      | .cells _ t frozen => .cells (Lib.pow10Tab.map (Value.int .u64)).toArray t frozen
      | o => o).modify 2 fun
      | .cells _ t frozen => .cells ([0, 1, 28, 2, 29, 14, 24, 3, 30, 22, 20, 15, 25, 17, 4, 8, 31, 27, 13, 23, 21, 19, 16, 7, 26, 12, 18, 6, 11, 5, 10, 9].map (Value.int .u8)).toArray t frozen
      | o => o).modify 3 fun
      | .cells _ t frozen => .cells ([0, 1, 56, 2, 57, 49, 28, 3, 61, 58, 42, 50, 38, 29, 17, 4, 62, 47, 59, 36, 45, 43, 51, 22, 53, 39, 33, 30, 24, 18, 12, 5, 63, 55, 48, 27, 60, 41, 37, 16, 46, 35, 44, 21, 52, 32, 23, 11, 54, 26, 40, 15, 34, 20, 31, 10, 25, 14, 19, 9, 13, 8, 7, 6].map (Value.int .u8)).toArray t frozen
      | o => o }
theorem val_app (l : List Nat) (c : Nat) : val (l ++ [c]) = val l * 10 + (c - 48) := by unfold val; rw [List.foldl_append]; rfl
theorem dec_val (u : Nat) : val ((Lib.decDigits u).map UInt8.toNat) = u ∧ ((Lib.decDigits u).map UInt8.toNat).all isDig = true := by
  induction u using Nat.strongRecOn with
  | _ u ih =>
    rw [Lib.decDigits]
    have hc : ∀ d : Nat, d < 10 → (UInt8.ofNat (48 + d)).toNat = 48 + d := fun d hd => by
      rw [UInt8.toNat_ofNat']; omega
    split
    · rename_i h
      simp only [List.map_cons, List.map_nil, hc u h]
      constructor
      · show 0 * 10 + (48 + u - 48) = u; omega
      · simp [isDig]; omega
    · rename_i h
      obtain ⟨h1, h2⟩ := ih (u / 10) (by omega)
      rw [List.map_append, List.map_cons, List.map_nil, hc _ (by omega), val_app, h1, List.all_append, h2]
      constructor
      · omega
      · simp [isDig]; omega
theorem strN_dig (u : Nat) : strN (digS (u : Int)) = (Lib.decDigits u).map UInt8.toNat := by
  unfold strN digS Lib.itoa
  rw [if_neg (by omega), Int.toNat_natCast]
theorem numR_dig (u : Nat) (h : u ≤ 999999) : numR (digS (u : Int)) = some u := by
  obtain ⟨h1, h2⟩ := dec_val u
  rw [← strN_dig] at h1 h2
  rw [numR_some _ h2 (by rw [h1]; exact h) (by rw [h1]), h1]
theorem strN_inj {a b : ByteArray} (h : strN a = strN b) : a = b := by rw [← strB_strN a, ← strB_strN b, h]
theorem strN_app (a b : ByteArray) : strN (a ++ b) = strN a ++ strN b := by
  unfold strN
  rw [ByteArray.data_append, Array.toList_append, List.map_append]
theorem ext_app {X Y : ByteArray} {a b : Nat} (h : b ≤ X.size) : (X ++ Y).extract a b = X.extract a b := by
  apply strN_inj
  rw [strN_extract, strN_extract, strN_app]
  have hl : (strN X).length = X.size := strN_length X
  by_cases ha : a ≤ X.size
  · rw [List.drop_append_of_le_length (by omega), List.take_append_of_le_length (by rw [List.length_drop]; omega)]
  · rw [show b - a = 0 by omega, List.take_zero, List.take_zero]
theorem ext_mid {X Y : ByteArray} {n : Nat} (h : n = X.size) : (X ++ Y).extract n (X ++ Y).size = Y := by
  subst h
  exact ext_right X Y
theorem getD_left {X Y : ByteArray} {k : Nat} (h : k < X.size) : (strN (X ++ Y)).getD k 0 = (strN X).getD k 0 := by
  rw [strN_app, List.getD_eq_getElem?_getD, List.getD_eq_getElem?_getD, List.getElem?_append_left (by rw [strN_length]; exact h)]
theorem getD_right {X Y : ByteArray} {k : Nat} : (strN (X ++ Y)).getD (X.size + k) 0 = (strN Y).getD k 0 := by
  rw [strN_app, List.getD_eq_getElem?_getD, List.getD_eq_getElem?_getD, List.getElem?_append_right (by rw [strN_length]; omega), strN_length]
  congr 2
  omega
theorem pst_same (s : ByteArray) (c i : Nat) : ∀ j, (∀ k, i ≤ k → k < i + j → (strN s).getD k 0 ≠ c) → pst s c (i + j) = pst s c i
  | 0, _ => rfl
  | j + 1, h => by
    rw [← Nat.add_assoc, pst_miss s c (i + j) (h (i + j) (by omega) (by omega)), pst_same s c i j (fun k h1 h2 => h k h1 (by omega))]
theorem pst_app (X Y : ByteArray) (c : Nat) : ∀ k, k ≤ X.size → pst (X ++ Y) c k = pst X c k
  | 0, _ => rfl
  | k + 1, h => by
    have ih := pst_app X Y c k (by omega)
    by_cases hc : (strN X).getD k 0 = c
    · rw [pst_hit X c k hc, pst_hit (X ++ Y) c k (by rw [getD_left (by omega)]; exact hc), ih, ext_app (by omega)]
    · rw [pst_miss X c k hc, pst_miss (X ++ Y) c k (by rw [getD_left (by omega)]; exact hc), ih]
theorem parts_one (D : ByteArray) (c : Nat) (h : ∀ k, k < D.size → (strN D).getD k 0 ≠ c) : partsOf D c = [D] := by
  have e : pst D c D.size = ([], 0) := by
    have := pst_same D c 0 D.size (fun k _ hk => h k (by omega))
    rw [Nat.zero_add] at this
    rw [this]; rfl
  unfold partsOf
  rw [e]
  show [D.extract 0 D.size] = [D]
  congr 1
  apply strN_inj
  rw [strN_extract, List.drop_zero, Nat.sub_zero, ← strN_length, List.take_length]
theorem parts_snoc (X D : ByteArray) (x : UInt8) (h : ∀ k, k < D.size → (strN D).getD k 0 ≠ x.toNat) : partsOf ((X ++ ⟨#[x]⟩) ++ D) x.toNat = partsOf X x.toNat ++ [D] := by
  have e1 : pst ((X ++ ⟨#[x]⟩) ++ D) x.toNat X.size = pst X x.toNat X.size := by
    rw [ByteArray.append_assoc]; exact pst_app X _ _ _ (Nat.le_refl _)
  have hx : (strN ((X ++ ⟨#[x]⟩) ++ D)).getD X.size 0 = x.toNat := by
    rw [ByteArray.append_assoc]
    have := getD_right (X := X) (Y := ⟨#[x]⟩ ++ D) (k := 0)
    rw [Nat.add_zero] at this
    rw [this, getD_left (by rw [sz_one]; omega)]
    rfl
  have hz : ((X ++ ⟨#[x]⟩) ++ D).size = (X.size + 1) + D.size := by rw [ByteArray.size_append, ByteArray.size_append, sz_one]
  have hz1 : X.size + 1 = (X ++ ⟨#[x]⟩).size := by rw [ByteArray.size_append, sz_one]
  have e2 := pst_hit ((X ++ ⟨#[x]⟩) ++ D) x.toNat X.size hx
  have e3 := pst_same ((X ++ ⟨#[x]⟩) ++ D) x.toNat (X.size + 1) D.size (fun k h1 h2 => by
    obtain ⟨j, rfl⟩ : ∃ j, k = X.size + 1 + j := ⟨k - (X.size + 1), by omega⟩
    rw [hz1, getD_right]
    exact h j (by omega))
  have e4 : ((X ++ ⟨#[x]⟩) ++ D).extract (pst X x.toNat X.size).2 X.size = X.extract (pst X x.toNat X.size).2 X.size := by
    rw [ByteArray.append_assoc]; exact ext_app (Nat.le_refl _)
  have e5 : ((X ++ ⟨#[x]⟩) ++ D).extract (X.size + 1) ((X ++ ⟨#[x]⟩) ++ D).size = D := ext_mid hz1
  rw [e1, e4] at e2
  rw [e2, ← hz] at e3
  unfold partsOf
  rw [e3]
  show _ ++ [((X ++ ⟨#[x]⟩) ++ D).extract (X.size + 1) ((X ++ ⟨#[x]⟩) ++ D).size] = _
  rw [e5]
theorem dig_no (u k : Nat) (h : k < (digS (u : Int)).size) : (strN (digS (u : Int))).getD k 0 ≠ 32 := by
  have h2 := (dec_val u).2
  rw [← strN_dig] at h2
  rw [List.all_eq_true] at h2
  have hk : k < (strN (digS (u : Int))).length := by rw [strN_length]; exact h
  have := h2 ((strN (digS (u : Int))).getD k 0) (by rw [List.getD_eq_getElem?_getD, List.getElem?_eq_getElem hk]; exact List.getElem_mem hk)
  intro e
  rw [e] at this
  simp [isDig] at this
theorem parts_lin (l : List Int) (h : ∀ z ∈ l, 0 ≤ z) : ∀ k, k < l.length → partsOf (linN l (k + 1)) 32 = (l.take (k + 1)).map digS
  | 0, hk => by
    have h0 : 0 ≤ l.getD 0 0 := by rw [List.getD_eq_getElem?_getD, List.getElem?_eq_getElem hk]; exact h _ (List.getElem_mem hk)
    obtain ⟨u, hu⟩ := Int.eq_ofNat_of_zero_le h0
    have e : linN l (0 + 1) = digS (l.getD 0 0) := by
      show ⟨#[]⟩ ++ digS (l.getD 0 0) = _
      exact ByteArray.empty_append
    rw [e, hu, parts_one _ _ (dig_no u)]
    cases l with
    | nil => simp at hk
    | cons a t =>
      have : a = u := hu
      rw [this]; rfl
  | k + 1, hk => by
    have h0 : 0 ≤ l.getD (k + 1) 0 := by rw [List.getD_eq_getElem?_getD, List.getElem?_eq_getElem hk]; exact h _ (List.getElem_mem hk)
    obtain ⟨u, hu⟩ := Int.eq_ofNat_of_zero_le h0
    have e : linN l (k + 1 + 1) = (linN l (k + 1) ++ ⟨#[32]⟩) ++ digS (l.getD (k + 1) 0) := by
      conv => { lhs; unfold linN }
      rw [if_neg (by omega)]
    have e2 : l.take (k + 1 + 1) = l.take (k + 1) ++ [l.getD (k + 1) 0] := by
      rw [List.take_add_one, List.getElem?_eq_getElem hk, List.getD_eq_getElem?_getD, List.getElem?_eq_getElem hk]; rfl
    have e3 := parts_snoc (linN l (k + 1)) (digS (u : Int)) 32 (dig_no u)
    rw [e, e2, hu, List.map_append, ← parts_lin l h k (by omega)]
    exact e3
theorem readAll_dig : ∀ (l : List Int), (∀ z ∈ l, 0 ≤ z ∧ z ≤ 999999) → readAll (l.map digS) = some l
  | [], _ => rfl
  | a :: t, h => by
    obtain ⟨u, hu⟩ := Int.eq_ofNat_of_zero_le (h a (by simp)).1
    have hb := (h a (by simp)).2
    rw [List.map_cons]
    unfold readAll
    rw [hu, numR_dig u (by omega), readAll_dig t (fun z hz => h z (by simp [hz]))]
theorem readV_line (l : List Int) (hn : 0 < l.length) (hl : l.length ≤ 90) (h : ∀ z ∈ l, 0 ≤ z ∧ z ≤ 999999) : readV (lineOf l) = some l := by
  have hs := linN_len l (fun z hz => ⟨by have := h z hz; omega, by have := h z hz; omega⟩) l.length
  have hp := parts_lin l (fun z hz => (h z hz).1) (l.length - 1) (by omega)
  rw [show l.length - 1 + 1 = l.length by omega, List.take_length] at hp
  unfold readV lineOf
  rw [if_neg (by omega), hp]
  exact readAll_dig l h
theorem numsR_fine {r : Ru} (hf : r.fine) : numsR r = [r.tiers, r.room, r.size, r.period, r.window, r.rest, r.tries, r.crew] ++ r.seats := by unfold numsR; rw [if_pos hf]
theorem rulesIn_nums {r : Ru} (hf : r.fine) : rulesInV (numsR r) = (r, true) := by
  have e : ruOf (numsR r) = r := by rw [numsR_fine hf]; rfl
  unfold rulesInV
  rw [e, if_pos ⟨by rw [numsR_fine hf]; have := hf.1.1.1; simp; omega, hf⟩]
theorem rulesIn_not {r : Ru} (hf : ¬ r.fine) : rulesInV (numsR r) = (ru0, false) := by
  have e : numsR r = [] := by unfold numsR; rw [if_neg hf]
  unfold rulesInV
  rw [e, if_neg (by simp)]
theorem read_line {r : Ru} (hf : r.fine) : readR (lineR r) = (r, true) := by
  have e := numsR_fine hf
  obtain ⟨⟨⟨n1, n2⟩, t1, r1, s1, p1⟩, hs, w1, re1, tr1, c1⟩ := id hf
  have h : ∀ z ∈ numsR r, 0 ≤ z ∧ z ≤ 999999 := by
    intro z hz
    rw [e] at hz
    rcases List.mem_append.1 hz with hz | hz
    · simp only [List.mem_cons, List.not_mem_nil, or_false] at hz
      rcases hz with rfl | rfl | rfl | rfl | rfl | rfl | rfl | rfl <;> omega
    · have := hs z hz; omega
  have hv := readV_line (numsR r) (by rw [e]; simp) (by have := numsR_len r; omega) h
  unfold readR lineR
  rw [hv]
  exact rulesIn_nums hf
theorem line_not {r : Ru} (hf : ¬ r.fine) : lineR r = ⟨#[]⟩ := by
  have e : numsR r = [] := by unfold numsR; rw [if_neg hf]
  unfold lineR
  rw [e]; rfl
theorem read_not {r : Ru} (hf : ¬ r.fine) : readR (lineR r) = (ru0, false) := by
  have e : readV ⟨#[]⟩ = none := by
    unfold readV
    rw [if_neg (by rw [sz_none]; omega), parts_one _ _ (fun k hk => by rw [sz_none] at hk; omega)]
    exact readAll_no _ _ (numR_size _ (.inl (by rw [sz_none]; omega)))
  rw [line_not hf]
  unfold readR
  rw [e]
end Go.Proofs.YtjnmdnpknlakhaaDoor
