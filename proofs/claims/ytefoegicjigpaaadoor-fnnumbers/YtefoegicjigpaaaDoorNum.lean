/- Number: plain mathematics, and what the model and the program return. -/
import Derived.Test.YtefoegicjigpaaaDoorDig
import Derived.Defers
import Derived.Recover
namespace Go.Proofs.YtefoegicjigpaaaDoor
open Go.RowKit

def dstep (n b : Nat) : Nat := n * 10 + (b - 48)
def val (l : List Nat) : Nat := l.foldl dstep 0
def isDig (b : Nat) : Bool := decide (48 ≤ b) && decide (b ≤ 57)
theorem foldl_ge (l : List Nat) (n : Nat) : n ≤ l.foldl dstep n := by
  induction l generalizing n with
  | nil => exact Nat.le_refl _
  | cons b r ih => exact Nat.le_trans (by unfold dstep; omega) (ih (dstep n b))
theorem val_take (l : List Nat) (k : Nat) : val (l.take k) ≤ val l := by
  have h : val l = (l.drop k).foldl dstep (val (l.take k)) := by
    unfold val
    rw [← List.foldl_append, List.take_append_drop]
  rw [h]
  exact foldl_ge _ _
theorem val_snoc (l : List Nat) (k : Nat) (h : k < l.length) : val (l.take (k + 1)) = val (l.take k) * 10 + (l.getD k 0 - 48) := by
  rw [take_snoc l k 0 h]
  unfold val
  rw [List.foldl_append]
  rfl
/-- What Number reads. -/
def numR (s : ByteArray) : Option Nat :=
  if ((strN s).all isDig = true ∧ val (strN s) ≤ 999999) ∧ digS (val (strN s) : Int) = s then some (val (strN s)) else none
theorem numR_char (s : ByteArray) (k : Nat) (hk : k < s.size) (h : isDig ((strN s).getD k 0) = false) : numR s = none := by
  unfold numR
  rw [if_neg]
  rintro ⟨⟨h1, _⟩, _⟩
  rw [List.all_eq_true] at h1
  have := h1 _ (getD_mem (strN s) k 0 (by rw [strN_length]; exact hk))
  rw [this] at h; cases h
theorem numR_big (s : ByteArray) (k : Nat) (h : 999999 < val ((strN s).take k)) : numR s = none := by
  unfold numR
  rw [if_neg]
  rintro ⟨⟨_, h1⟩, _⟩
  have := val_take (strN s) k
  omega
theorem numR_other (s : ByteArray) (h : ¬ digS (val (strN s) : Int) = s) : numR s = none := by unfold numR; rw [if_neg fun hh => h hh.2]
theorem numR_some (s : ByteArray) (h1 : (strN s).all isDig = true) (h2 : val (strN s) ≤ 999999) (h3 : digS (val (strN s) : Int) = s) : numR s = some (val (strN s)) := by unfold numR; rw [if_pos ⟨⟨h1, h2⟩, h3⟩]
theorem decDigits_len (k : Nat) : ∀ u, u < 10 ^ (k + 1) → (Lib.decDigits u).length ≤ k + 1 ∧ 0 < (Lib.decDigits u).length := by
  induction k with
  | zero => intro u h; rw [Lib.decDigits, dif_pos (by simpa using h)]; simp
  | succ k ih =>
    intro u h
    rw [Lib.decDigits]
    split
    · simp
    · have h2 : u / 10 < 10 ^ (k + 1) := by rw [Nat.pow_succ] at h; omega
      have := ih (u / 10) h2
      simp only [List.length_append, List.length_cons, List.length_nil]
      omega
theorem digS_size (v : Nat) (h : v ≤ 999999) : (digS (v : Int)).size ≤ 6 ∧ 0 < (digS (v : Int)).size := by
  have := decDigits_len 5 v (by omega)
  unfold digS Lib.itoa
  rw [if_neg (by omega), Int.toNat_natCast]
  simpa [ByteArray.size] using this
theorem numR_size (s : ByteArray) (h : s.size < 1 ∨ 6 < s.size) : numR s = none := by
  unfold numR
  rw [if_neg]
  rintro ⟨⟨_, h1⟩, h2⟩
  have := digS_size _ h1
  rw [h2] at this
  omega
def numV (o : Option Nat) : Value := match o with | some n => .tuple #[.int .i64 (n : Int), .bool true] | none => .tuple #[.int .i64 0, .bool false]
theorem numV_no {o : Option Nat} (h : o = none) : Ending.returned (.tuple #[.int .i64 0, .bool false]) = .returned (numV o) := by rw [h]; rfl
theorem numV_yes {o : Option Nat} {n : Nat} (h : o = some n) : Ending.returned (.tuple #[.int .i64 (n : Int), .bool true]) = .returned (numV o) := by rw [h]; rfl
theorem all_take (l : List Nat) (k : Nat) (h : k < l.length) (h1 : (l.take k).all isDig = true) (h2 : isDig (l.getD k 0) = true) : (l.take (k + 1)).all isDig = true := by
  rw [take_snoc l k 0 h, List.all_append, h1]; simpa using h2

theorem str_ne {S s : ByteArray} (h : ¬ S = s) : (S.toList == s.toList) = false := by
  rw [beq_eq_false_iff_ne]
  intro e
  rw [ByteArray.toList_eq, ByteArray.toList_eq] at e
  exact h (ByteArray.ext (Array.toList_inj.mp e))
theorem val_lt (l : List Nat) (k : Nat) (hk : k ≤ l.length) (h : (l.take k).all isDig = true) : val (l.take k) < 10 ^ k := by
  induction k with
  | zero => simp [val]
  | succ k ih =>
    rw [take_snoc l k 0 (by omega), List.all_append, Bool.and_eq_true] at h
    have h1 := ih (by omega) h.1
    have h2 : isDig (l.getD k 0) = true := by simpa using h.2
    unfold isDig at h2
    simp only [Bool.and_eq_true, decide_eq_true_eq] at h2
    rw [val_snoc l k (by omega), Nat.pow_succ]
    omega
set_option maxHeartbeats 800000 in
set_option maxRecDepth 100000 in
theorem number_spec (s : ByteArray) (w : World) (hs : s.size ≤ 2097152) : Calls Tryd.prog 11 #[.string s] w (Ret w (numV (numR s))) := by
  by_cases hsz : s.size < 1 ∨ 6 < s.size
  · have HF := Lib.hid (numV_no (numR_size s hsz))
    by_cases h1 : s.size < 1
    · have hd : decide ((s.size : Int) < 1) = true := by simp; omega
      go_enter Tryd.func11, Tryd.ntmps11
      go_wp2
      all_goals go_ret2
      all_goals exact ⟨HF.out, Below.refl _ _⟩
    · have hd : decide ((s.size : Int) < 1) = false := by simp; omega
      have hd2 : decide ((6 : Int) < (s.size : Int)) = true := by simp; omega
      go_enter Tryd.func11, Tryd.ntmps11
      go_wp2
      all_goals go_ret2
      all_goals exact ⟨HF.out, Below.refl _ _⟩
  have hd : decide ((s.size : Int) < 1) = false := by simp; omega
  have hd2 : decide ((6 : Int) < (s.size : Int)) = false := by simp; omega
  go_enter Tryd.func11, Tryd.ntmps11
  go_wp2
  go_loop [4, 5] (fun q i => ∃ k : Nat, k ≤ s.size ∧ i = .int .i64 k ∧ q = .int .i64 ((val ((strN s).take k) : Nat) : Int) ∧ ((strN s).take k).all isDig = true) (fun _ i => s.size - (intOf i).toNat)
  case atStart => exact ⟨0, by omega, rfl, rfl, rfl⟩
  case round =>
    obtain ⟨k, hk, rfl, rfl, hall⟩ := hrel
    have hv := val_lt (strN s) k (by rw [strN_length]; exact hk) hall
    have hv2 : val ((strN s).take k) ≤ 999999 := by
      have : 10 ^ k ≤ 10 ^ 6 := Nat.pow_le_pow_right (by omega) (by omega)
      omega
    have HALL := Lib.hid hall
    clear hall hv
    by_cases hlt : k < s.size
    · have hat := strN_at s k hlt
      have hl : k < (strN s).length := by rw [strN_length]; exact hlt
      have HS := Lib.hid (val_snoc (strN s) k hl)
      have HB := Lib.hid (numR_char s k hlt)
      have HA := Lib.hid (all_take (strN s) k hl HALL.out)
      have hc : (s[k]'hlt).toNat < 256 := (s[k]'hlt).toNat_lt
      rw [hat] at HS HB HA
      generalize val ((strN s).take k) = n at *
      generalize hcc : (s[k]'hlt).toNat = c at *
      clear hat hl HALL
      by_cases h1 : c < 48
      · have e1 : decide ((c : Int) < 48) = true := by simp; omega
        have HF := Lib.hid (numV_no (HB.out (by unfold isDig; simp; omega)))
        go_wp2
        go_ret2
        exact ⟨HF.out, Below.refl _ _⟩
      · have e1 : decide ((c : Int) < 48) = false := by simp; omega
        by_cases h2 : 57 < c
        · have e2 : decide ((57 : Int) < (c : Int)) = true := by simp; omega
          have HF := Lib.hid (numV_no (HB.out (by unfold isDig; simp; omega)))
          go_wp2
          go_ret2
          exact ⟨HF.out, Below.refl _ _⟩
        · have e2 : decide ((57 : Int) < (c : Int)) = false := by simp; omega
          go_wp2
          go_round
          case rel => exact ⟨k + 1, by omega, by go_num, by rw [HS.out]; go_num, HA.out (by unfold isDig; simp; omega)⟩
          case measure => simp [intOf]; omega
    · obtain rfl : k = s.size := by omega
      have ht : (strN s).take s.size = strN s := by rw [← strN_length s, List.take_length]
      rw [ht] at hv2 HALL ⊢
      clear ht
      by_cases he : digS (val (strN s) : Int) = s
      · have HF := Lib.hid (numV_yes (numR_some s HALL.out hv2 he))
        have HE := Lib.hid he
        clear he
        generalize val (strN s) = n at *
        have C := Lib.hid (fun w => digits_spec (n : Int) w (by omega) (by omega))
        rw [HE.out] at C
        go_wp2_with fail
        refine (C.out _).mono ?_
        rintro e w1 ⟨rfl, b1⟩
        go_wp2
        go_ret2
        exact ⟨HF.out, b1⟩
      · have HF := Lib.hid (numV_no (numR_other s he))
        have HE := Lib.hid he
        clear he
        generalize val (strN s) = n at *
        have C := Lib.hid (fun w => digits_spec (n : Int) w (by omega) (by omega))
        generalize digS (n : Int) = S at *
        go_wp2_with fail
        refine (C.out _).mono ?_
        rintro e w1 ⟨rfl, b1⟩
        have hne := str_ne HE.out
        go_wp2
        go_ret2
        exact ⟨HF.out, b1⟩

theorem mustDigit_yes (c : Nat) (w : World) (h1 : 48 ≤ c) (h2 : c ≤ 57) : Calls Tryd.prog 18 #[.int .u8 c] w fun e w' => e = .returned (.int .i64 ((c - 48 : Nat) : Int)) ∧ w = w' := by
  have e1 : decide ((c : Int) < 48) = false := by simp; omega
  have e2 : decide ((57 : Int) < (c : Int)) = false := by simp; omega
  go_enter Tryd.func18, Tryd.ntmps18
  go_wp2
  go_ret
  exact ⟨ret_int (by omega), rfl⟩
theorem mustDigit_no (c : Nat) (w : World) (h : c < 48 ∨ 57 < c) : Calls Tryd.prog 18 #[.int .u8 c] w fun e w' => e = .panicked [{ v := .iface 40 (.agg #[]), recovered := false }] ∧ w = w' := by
  by_cases h1 : c < 48
  · have e1 : decide ((c : Int) < 48) = true := by simp; omega
    go_enter Tryd.func18, Tryd.ntmps18
    go_wp2
    exact ⟨rfl, rfl, rfl⟩
  · have e1 : decide ((c : Int) < 48) = false := by simp; omega
    have e2 : decide ((57 : Int) < (c : Int)) = true := by simp; omega
    go_enter Tryd.func18, Tryd.ntmps18
    go_wp2
    exact ⟨rfl, rfl, rfl⟩
def mustNumEnd (o : Option Nat) : Ending := match o with | some n => .returned (.int .i64 (n : Int)) | none => .panicked [{ v := .iface 40 (.agg #[]), recovered := false }]
theorem mn_no {o : Option Nat} (h : o = none) : Ending.panicked [{ v := .iface 40 (.agg #[]), recovered := false }] = mustNumEnd o := by rw [h]; rfl
theorem mn_yes {o : Option Nat} {n : Nat} (h : o = some n) : Ending.returned (.int .i64 (n : Int)) = mustNumEnd o := by rw [h]; rfl
set_option maxHeartbeats 800000 in
set_option maxRecDepth 100000 in
theorem mustNumber_any (s : ByteArray) (w : World) (hs : s.size ≤ 2097152) (ht : Tab w) : Calls Tryd.prog 15 #[.string s] w fun e w' => e = mustNumEnd (numR s) ∧ Below w.heap.size w w' := by
  go_enter Tryd.func15, Tryd.ntmps15
  go_wp2
  go_loop [3, 4] (fun q i => ∃ k : Nat, k ≤ s.size ∧ i = .int .i64 k ∧ q = .int .i64 ((val ((strN s).take k) : Nat) : Int) ∧ ((strN s).take k).all isDig = true ∧ val ((strN s).take k) ≤ 999999) (fun _ i => s.size - (intOf i).toNat)
  case atStart => exact ⟨0, by omega, rfl, rfl, rfl, by show 0 ≤ 999999; omega⟩
  case round =>
    obtain ⟨k, hk, rfl, rfl, hall, hv2⟩ := hrel
    have HALL := Lib.hid hall
    clear hall
    by_cases hlt : k < s.size
    · have hat := strN_at s k hlt
      have hl : k < (strN s).length := by rw [strN_length]; exact hlt
      have HS := Lib.hid (val_snoc (strN s) k hl)
      have HB := Lib.hid (numR_char s k hlt)
      have HBIG := Lib.hid (numR_big s (k + 1))
      have HA := Lib.hid (all_take (strN s) k hl HALL.out)
      have hc : (s[k]'hlt).toNat < 256 := (s[k]'hlt).toNat_lt
      rw [hat] at HS HB HA
      generalize val ((strN s).take k) = n at *
      generalize hcc : (s[k]'hlt).toNat = c at *
      clear hat hl HALL
      by_cases h1 : c < 48 ∨ 57 < c
      · have HF := Lib.hid (mn_no (HB.out (by unfold isDig; simp; omega)))
        go_wp2_with (go_at_call 18; refine (mustDigit_no c _ h1).mono ?_; rintro e w' ⟨rfl, rfl⟩)
        exact ⟨rfl, HF.out, Below.refl _ _⟩
      · by_cases hbig : 999999 < n * 10 + (c - 48)
        · have HF := Lib.hid (mn_no (HBIG.out (by rw [HS.out]; exact hbig)))
          go_wp2_with (go_at_call 18; refine (mustDigit_yes c _ (by omega) (by omega)).mono ?_; rintro e w' ⟨rfl, rfl⟩)
          exact ⟨rfl, HF.out, Below.refl _ _⟩
        · go_wp2_with (go_at_call 18; refine (mustDigit_yes c _ (by omega) (by omega)).mono ?_; rintro e w' ⟨rfl, rfl⟩)
          go_round
          case rel => exact ⟨k + 1, by omega, by go_num, by rw [HS.out]; go_num, HA.out (by unfold isDig; simp; omega), by rw [HS.out]; omega⟩
          case measure => simp [intOf]; omega
    · obtain rfl : k = s.size := by omega
      have htk : (strN s).take s.size = strN s := by rw [← strN_length s, List.take_length]
      rw [htk] at hv2 HALL ⊢
      clear htk
      by_cases he : digS (val (strN s) : Int) = s
      · have HF := Lib.hid (mn_yes (numR_some s HALL.out hv2 he))
        have HE := Lib.hid he
        clear he
        generalize val (strN s) = n at *
        have C := Lib.hid (fun w h => digits_impl (n : Int) w (by omega) (by omega) h)
        rw [HE.out] at C
        go_wp2_with fail
        refine (C.out _ ht).mono ?_
        rintro e w1 ⟨rfl, b1⟩
        go_wp2
        go_ret
        exact ⟨HF.out, b1⟩
      · have HF := Lib.hid (mn_no (numR_other s he))
        have HE := Lib.hid he
        clear he
        generalize val (strN s) = n at *
        have C := Lib.hid (fun w h => digits_impl (n : Int) w (by omega) (by omega) h)
        generalize digS (n : Int) = S at *
        go_wp2_with fail
        refine (C.out _ ht).mono ?_
        rintro e w1 ⟨rfl, b1⟩
        have hne := str_ne HE.out
        go_wp2
        exact ⟨rfl, HF.out, b1⟩

theorem catchN_panic (p q : Addr) (x y : Value) (u : TypeId) (pv : Value) (older : List PanicEntry) (w : World) (hp : w.cell? p = some x) (hpz : w.frozen? p = false)
    (hq : (w.setCell p (.int .i64 0)).cell? q = some y) (hqz : (w.setCell p (.int .i64 0)).frozen? q = false) :
    CallsD Tryd.prog 14 #[.pointer (some p), .pointer (some q)] (.panicking ({ v := .iface u pv, recovered := false } :: older)) w fun e u' w' =>
      e = .returned (.tuple #[]) ∧ u' = .panicking ({ v := .iface u pv, recovered := true } :: older) ∧ w' = (w.setCell p (.int .i64 0)).setCell q (.bool false) := by
  refine callsD_of_wpS Tryd.func14 rfl fun c₀ cs hu => ?_
  apply wpS_seq
  apply wpS_region
  simp [wpOpsS, go_sem, recoverD, hu, Tryd.ntmps14, Exit.thenS]
  refine wpS_cond (t := true) (by simp [Act.eval, Array.replicate]) ?_
  simp only [if_true]
  apply wpS_region
  simp [wpOpsS, go_sem, hp, hpz, hq, hqz, bodyPostS, results, Tryd.results14]
theorem catchN_idle (p q : Addr) (w : World) :
    CallsD Tryd.prog 14 #[.pointer (some p), .pointer (some q)] .returning w fun e u' w' => e = .returned (.tuple #[]) ∧ u' = .returning ∧ w' = w := by
  refine callsD_of_wpS Tryd.func14 rfl fun c₀ cs hu => ?_
  apply wpS_seq
  apply wpS_region
  simp [wpOpsS, go_sem, recoverD, hu, Tryd.ntmps14, Exit.thenS]
  refine wpS_cond (t := false) (by simp [Act.eval, Array.replicate]) ?_
  simp only [Bool.false_eq_true, if_false]
  refine wpS_of_wp (wp_skip ?_)
  cases c₀
  simp_all [bodyPostS, results, Tryd.results14]
set_option maxHeartbeats 800000 in
set_option maxRecDepth 100000 in
theorem number_impl (s : ByteArray) (w : World) (hs : s.size ≤ 2097152) (ht : Tab w) : Calls Tryd.prog 8 #[.string s] w (Ret w (numV (numR s))) := by
  have hmf : ∀ (fn : Fn) (first cap : Array Value) (w : World), (Instr.makeFunc fn first cap).run Tryd.prog w = .ok (.func fn first cap) w := fun _ _ _ _ => rfl
  have HC := Lib.hid (fun w h => mustNumber_any s w hs h)
  have bW : Below w.heap.size w ((w.alloc (.cells #[.int .i64 0] 3)).alloc (.cells #[.bool false] 4)) :=
    ((Below.refl _ _).alloc (Nat.le_refl _) _).alloc (by simp) _
  have htW := ht.below bW ht.2
  rcases hn : numR s with _ | n
  · have HC2 : Hid (∀ w : World, Tab w → Calls Tryd.prog 15 #[.string s] w fun e w' => e = .panicked [{ v := .iface 40 (.agg #[]), recovered := false }] ∧ Below w.heap.size w w') := by
      have h := HC.out; rw [hn] at h; exact h
    clear HC hn
    go_enter_defers Tryd.func8, Tryd.ntmps8
    go_wp2_with fail
    refine (HC2.out _ htW).mono ?_
    rintro e w1 ⟨rfl, b1⟩
    have p1 := b1.cell (p := ⟨w.heap.size, 0, none⟩) (by simp; omega)
    have p2 := b1.cell (p := ⟨w.heap.size + 1, 0, none⟩) (by simp)
    have f1 := b1.frozen (p := ⟨w.heap.size, 0, none⟩) (by simp; omega)
    have f2 := b1.frozen (p := ⟨w.heap.size + 1, 0, none⟩) (by simp)
    simp [go_sem] at p1 p2 f1 f2
    go_wp2
    refine leaves_cons (f := 14) (args := #[.pointer (some ⟨w.heap.size, 0, none⟩), .pointer (some ⟨w.heap.size + 1, 0, none⟩)]) (by simp) (by simp [go_sem]) ?_
    refine (catchN_panic ⟨w.heap.size, 0, none⟩ ⟨w.heap.size + 1, 0, none⟩ (.int .i64 0) (.bool false) 40 _ [] _ p1 f1 ?_ ?_).mono ?_
    · simp [go_sem, p2]
    · simp [go_sem, f2]
    rintro e u' w'' ⟨rfl, rfl, rfl⟩
    simp [Leaves, settle, results, Tryd.results8, go_sem, p1, p2]
    have b2 : Below w.heap.size w w1 := bW.trans (b1.mono bW.size)
    exact ⟨rfl, (b2.setCell (by simp) _).setCell (by simp) _⟩
  · have HC2 : Hid (∀ w : World, Tab w → Calls Tryd.prog 15 #[.string s] w fun e w' => e = .returned (.int .i64 (n : Int)) ∧ Below w.heap.size w w') := by
      have h := HC.out; rw [hn] at h; exact h
    clear HC hn
    go_enter_defers Tryd.func8, Tryd.ntmps8
    go_wp2_with fail
    refine (HC2.out _ htW).mono ?_
    rintro e w1 ⟨rfl, b1⟩
    have p1 := b1.cell (p := ⟨w.heap.size, 0, none⟩) (by simp; omega)
    have p2 := b1.cell (p := ⟨w.heap.size + 1, 0, none⟩) (by simp)
    have f1 := b1.frozen (p := ⟨w.heap.size, 0, none⟩) (by simp; omega)
    have f2 := b1.frozen (p := ⟨w.heap.size + 1, 0, none⟩) (by simp)
    simp [go_sem] at p1 p2 f1 f2
    go_wp2
    refine leaves_cons (f := 14) (args := #[.pointer (some ⟨w.heap.size, 0, none⟩), .pointer (some ⟨w.heap.size + 1, 0, none⟩)]) (by simp) (by simp [go_sem]) ?_
    refine (catchN_idle _ _ _).mono ?_
    rintro e u' w'' ⟨rfl, rfl, rfl⟩
    simp [Leaves, settle, results, Tryd.results8, go_sem, p1, p2]
    have b2 : Below w.heap.size w w1 := bW.trans (b1.mono bW.size)
    exact ⟨rfl, (b2.setCell (by simp) _).setCell (by simp) _⟩

theorem numV_form (o : Option Nat) : ∃ (x : Int) (t : Bool), numV o = .tuple #[.int .i64 x, .bool t] := by
  rcases o with _ | n
  · exact ⟨_, _, rfl⟩
  · exact ⟨_, _, rfl⟩
theorem FnExactNumber_walk (s : ByteArray) (w : World) (hm : s.size ≤ maxLen) (ht : Tab w) :
    Calls Tryd.prog 5 #[.string s] w fun e w' => e = .returned (.bool true) ∧ Below w.heap.size w w' := by
  unfold maxLen at hm
  by_cases hbig : 1048576 < s.size
  · go_enter Tryd.func5, Tryd.ntmps5
    go_wp2
    go_ret
    exact ⟨rfl, Below.refl _ _⟩
  have C1 := Lib.hid (fun w => number_spec s w (by omega))
  have C2 := Lib.hid (fun w h => number_impl s w (by omega) h)
  obtain ⟨x, t, hV⟩ := numV_form (numR s)
  rw [hV] at C1 C2
  clear hV
  have n1 : (x != x) = false := by simp
  have n2 : (t != t) = false := by simp
  go_enter Tryd.func5, Tryd.ntmps5
  go_wp2_with fail
  refine (C1.out _).mono ?_
  rintro e w1 ⟨rfl, b1⟩
  go_wp2_with fail
  refine (C2.out _ (ht.below b1 ht.2)).mono ?_
  rintro e w2 ⟨rfl, b2⟩
  go_wp2
  go_ret
  exact ⟨rfl, b1.trans (b2.mono b1.size)⟩
end Go.Proofs.YtefoegicjigpaaaDoor
