/- append onto a byte row of the call's own, in our words. -/
import Derived.Test.YtefoegicjigpaaaHelp
import Derived.Laws.AppendOwnNone
namespace Go.Proofs.Ytefoegicjigpaaa
open Go.RowKit

theorem add_at (b off k : Nat) : (⟨b, off, none⟩ : Addr).add k = ⟨b, off + k, none⟩ := by unfold Addr.add; split <;> simp_all

/-- append(v, q...) where v is the call's own and q lies anywhere. -/
theorem wpList_appB (w : World) {ops : Array Oper} {rest : List Oper} {o : Oper} {a : Act} {Q : Exit → Act → World → Prop} (hgd : o.guard = none) (s x : Operand)
    (ho : o.op = .call { callee := .builtin .append, args := #[s, x], argTypes := #[22, 22] })
    (base : Nat) (v : Value) (p : List Nat) (hs : a.eval s = v) (hown : OwnB w base v p)
    (b off c : Nat) (q : List Nat) (m : Nat) (hm : m = q.length) (hx : a.eval x = .slice (some ⟨b, off, none⟩) m c) (hq : ∀ k, k < q.length → w.cell? ⟨b, off + k, none⟩ = some (.int .u8 (q.getD k 0)))
    (hlen : p.length + q.length ≤ 1099511627776) (hbase : base ≤ w.heap.size)
    (h : ∀ v' w', OwnB w' base v' (p ++ q) → w.grownBy w' v.ownBlock → (v'.ownBlock = v.ownBlock ∨ v'.ownBlock = some w.heap.size) → wpList Try.prog ops Q rest (a.put o.dst v') w') :
    wpList Try.prog ops Q (o :: rest) a w := by
  subst hm
  obtain ⟨i0, hi, hz0, hz1, hz2⟩ := info_parts info5
  refine wpList_append_own_at (P := Try.prog) w hgd s x 22 ho base 5 i0 (.int .u8 0) 1 1 Try.underlying22 hi hz0 hz1 hz2 rfl (by decide) v p.length (bcells p) hs hown
    ⟨b, off, none⟩ q.length c (bcells q) hx (by simp [bcells_length]) ?_ (bcells_one q) (by unfold maxLen; omega) (by omega) hbase ?_
  · intro j u hj
    have hj' : j < q.length := by
      rcases Nat.lt_or_ge j q.length with h | h
      · exact h
      · rw [List.getElem?_eq_none (by rw [bcells_length]; exact h)] at hj; cases hj
    rw [add_at, hq j hj', ← hj, bcells_get q j hj']
  · intro v' w' h1 h2 _ h4
    exact h v' w' (by unfold OwnB; rw [List.length_append, bcells_append]; exact h1) h2 h4
/-- append(v, nil...). -/
theorem wpList_appB_nil (w : World) {ops : Array Oper} {rest : List Oper} {o : Oper} {a : Act} {Q : Exit → Act → World → Prop} (hgd : o.guard = none) (s x : Operand)
    (ho : o.op = .call { callee := .builtin .append, args := #[s, x], argTypes := #[22, 22] })
    (base : Nat) (v : Value) (p : List Nat) (hs : a.eval s = v) (hown : OwnB w base v p) (hx : a.eval x = .slice none 0 0)
    (h : wpList Try.prog ops Q rest (a.put o.dst v) w) : wpList Try.prog ops Q (o :: rest) a w := by
  obtain ⟨i0, hi, hz0, hz1, hz2⟩ := info_parts info5
  exact wpList_append_own_none (P := Try.prog) hgd s x 22 ho base 5 i0 1 Try.underlying22 hi v p.length (bcells p) hs hown hx h
theorem one_new (w : World) (b : Nat) (z : Int) (h : z = b) : ∀ k, k < [b].length → (w.alloc (.cells #[.int .u8 z] 5)).cell? ⟨w.heap.size, 0 + k, none⟩ = some (.int .u8 (([b].getD k 0 : Nat) : Int)) := by
  intro k hk
  simp at hk
  subst hk
  simp [h]
/-- What a new byte slice is, as a function returns it. -/
def NewB (w : World) (l : List Nat) (e : Ending) (w' : World) : Prop :=
  ∃ A c, e = .returned (.slice A l.length c) ∧ OwnB w' w.heap.size (.slice A l.length c) l ∧ Below w.heap.size w w'
theorem NewB.of_own {w w' : World} {l : List Nat} {v : Value} (h : OwnB w' w.heap.size v l) (hb : Below w.heap.size w w') : NewB w l (.returned v) w' := by
  obtain ⟨A, c, rfl, _, _⟩ := OwnB.form h
  exact ⟨A, c, rfl, h, hb⟩
theorem own_alloc {w : World} {base : Nat} {v : Value} {l : List Nat} (h : OwnB w base v l) (o : Obj) : OwnB (w.alloc o) base v l := World.ownsRow.alloc h o
theorem own_lo {w : World} {base : Nat} {v : Value} {l : List Nat} (h : OwnB w base v l) : ∀ k, v.ownBlock = some k → base ≤ k := fun k hk => (World.ownsRow.lt h k hk).1

/-- The varint of a number, with fuel. -/
def encF : Nat → Nat → List Nat
  | 0, n => [n]
  | f + 1, n => if n < 128 then [n] else (n % 128 + 128) :: encF f (n / 128)
def encN (n : Nat) : List Nat := encF 4 n
theorem encF_small (f n : Nat) (h : n < 128) : encF f n = [n] := by cases f <;> simp [encF, h]
theorem encF_step (f n : Nat) (h : 128 ≤ n) : encF (f + 1) n = (n % 128 + 128) :: encF f (n / 128) := by simp only [encF]; rw [if_neg (by omega)]
theorem encF_len (f n : Nat) : (encF f n).length ≤ f + 1 ∧ 0 < (encF f n).length := by
  induction f generalizing n with
  | zero => simp [encF]
  | succ f ih => simp only [encF]; split <;> simp; have := ih (n / 128); omega
/-- Where PutNum's loop stands: the bytes p are out, m is left. -/
def Enc (n m : Nat) (p : List Nat) : Prop := ∃ f, m < 128 ^ (f + 1) ∧ p ++ encF f m = encN n ∧ p.length + f = 4
theorem Enc.start {n : Nat} (h : n ≤ 2147483647) : Enc n n [] := ⟨4, by omega, rfl, rfl⟩
theorem Enc.step {n m : Nat} {p : List Nat} (h : Enc n m p) (hm : 128 ≤ m) : Enc n (m / 128) (p ++ [m % 128 + 128]) := by
  obtain ⟨f, h1, h2, h3⟩ := h
  cases f with
  | zero => simp at h1; omega
  | succ f =>
    refine ⟨f, ?_, ?_, by simp; omega⟩
    · rw [Nat.pow_succ] at h1; omega
    · rw [← h2, encF_step f m hm, List.append_assoc]; rfl
theorem Enc.last {n m : Nat} {p : List Nat} (h : Enc n m p) (hm : m < 128) : p ++ [m] = encN n := by
  obtain ⟨f, _, h2, _⟩ := h
  rw [← h2, encF_small f m hm]
theorem Enc.len {n m : Nat} {p : List Nat} (h : Enc n m p) : p.length ≤ 4 := by obtain ⟨f, _, _, h3⟩ := h; omega
def encI (n : Int) : List Nat := if 0 ≤ n ∧ n ≤ 2147483647 then encN n.toNat else []

/-- What a round of PutNum does. -/
theorem putNum_step {w wr w1 : World} {v v' : Value} {n k : Nat} {p : List Nat} {o : Obj} (hown : OwnB wr w.heap.size v p) (henc : Enc n k p) (hk : 128 ≤ k) (hbel : Below w.heap.size w wr)
    (h1 : OwnB w1 w.heap.size v' (p ++ [k % 128 + 128])) (hg : (wr.alloc o).grownBy w1 v.ownBlock) :
    OwnB w1 w.heap.size v' (p ++ [k % 128 + 128]) ∧ Enc n (k / 128) (p ++ [k % 128 + 128]) ∧ Below w.heap.size w w1 :=
  ⟨h1, henc.step hk, (hbel.alloc hbel.size o).grown hg (by have := hbel.size; simp; omega) (own_lo hown)⟩

set_option maxHeartbeats 400000 in
set_option maxRecDepth 100000 in
theorem putNum_impl_in (n : Nat) (w : World) (hn : n ≤ 2147483647) : Calls Try.prog 15 #[.int .i64 n] w (NewB w (encN n)) := by
  have h1 : decide ((n : Int) < 0) = false := by simp
  have h2 : decide (2147483647 < (n : Int)) = false := by simp; omega
  go_enter Try.func15, Try.ntmps15
  go_wp2
  go_loopw [0, 3] (fun m v wr => ∃ (k : Nat) (p : List Nat), m = .int .i64 k ∧ OwnB wr w.heap.size v p ∧ Enc n k p ∧ k ≤ 2147483647 ∧ Below w.heap.size w wr) (fun m _ _ => (intOf m).toNat)
  case atStart => exact ⟨n, [], rfl, World.ownsRow_nil _ _ _ _, Enc.start hn, hn, Below.refl _ _⟩
  case round =>
    obtain ⟨k, p, rfl, hown, henc, hkk, hbel⟩ := hrel
    have hp := henc.len
    have hsz := hbel.size
    by_cases hlt : 128 ≤ k
    · go_wp2_with (at_builtin; refine wpList_appB _ rfl (.tmp 12) (.tmp 17) rfl w.heap.size _ p rfl (own_alloc hown _) wr.heap.size 0 1 [k % 128 + 128] 1 rfl rfl (one_new _ _ _ (by omega)) (by simp; omega) (by simp; omega) ?_)
      intro v' w1 o1 g1 _
      have R := Lib.hid (putNum_step hown henc hlt hbel o1 g1)
      clear hown henc o1 g1 hbel
      go_wp2
      go_roundw
      case rel => exact ⟨k / 128, _, rfl, R.out.1, R.out.2.1, by omega, R.out.2.2⟩
      case measure => simp [intOf]; omega
    · go_wp2_with (at_builtin; refine wpList_appB _ rfl (.tmp 21) (.tmp 24) rfl w.heap.size _ p rfl (own_alloc hown _) wr.heap.size 0 1 [k] 1 rfl rfl (one_new _ _ _ (by omega)) (by simp; omega) (by simp; omega) ?_)
      intro v' w1 o1 g1 _
      rw [henc.last (by omega)] at o1
      have R := Lib.hid (NewB.of_own o1 ((hbel.alloc hbel.size _).grown g1 (by simp; omega) (own_lo hown)))
      clear hown henc o1 g1 hbel
      go_wp2
      go_ret
      exact R.out
theorem putNum_impl (n : Int) (w : World) : Calls Try.prog 15 #[.int .i64 n] w (NewB w (encI n)) := by
  by_cases h : 0 ≤ n ∧ n ≤ 2147483647
  · obtain ⟨m, rfl⟩ := Int.eq_ofNat_of_zero_le h.1
    unfold encI
    rw [if_pos h]
    exact putNum_impl_in m w (by omega)
  · unfold encI
    rw [if_neg h]
    have R : NewB w [] (.returned (.slice none 0 0)) w := NewB.of_own (World.ownsRow_nil _ _ _ _) (Below.refl _ _)
    by_cases h0 : n < 0
    · have h1 : decide (n < 0) = true := by simpa using h0
      go_enter Try.func15, Try.ntmps15
      go_wp2
      go_ret
      exact R
    · have h1 : decide (n < 0) = false := by simpa using h0
      have h2 : decide (2147483647 < n) = true := by simp; omega
      go_enter Try.func15, Try.ntmps15
      go_wp2
      go_ret
      exact R

theorem l1In_any (x a b : Int) (w : World) : Calls Try.prog 41 #[.int .i64 x, .int .i64 a, .int .i64 b] w fun e w' => e = .returned (.bool (decide (a ≤ x ∧ x ≤ b))) ∧ w = w' := by
  by_cases h1 : a ≤ x <;> by_cases h2 : x ≤ b
  all_goals
    go_enter Try.func41, Try.ntmps41
    go_wp2
    go_ret
    exact ⟨by simp [h1, h2], rfl⟩
theorem l1In_yes (x a b : Int) (w : World) (h : a ≤ x ∧ x ≤ b) : Calls Try.prog 41 #[.int .i64 x, .int .i64 a, .int .i64 b] w fun e w' => e = .returned (.bool true) ∧ w = w' :=
  (l1In_any x a b w).mono fun e w' ⟨he, hw⟩ => ⟨by rw [he]; simp [h], hw⟩
theorem l1In_no (x a b : Int) (w : World) (h : ¬ (a ≤ x ∧ x ≤ b)) : Calls Try.prog 41 #[.int .i64 x, .int .i64 a, .int .i64 b] w fun e w' => e = .returned (.bool false) ∧ w = w' :=
  (l1In_any x a b w).mono fun e w' ⟨he, hw⟩ => ⟨by rw [he]; simp only [h, decide_false], hw⟩
set_option maxHeartbeats 400000 in
set_option maxRecDepth 100000 in
theorem putNum_spec_in (n : Nat) (w : World) (hn : n ≤ 2147483647) : Calls Try.prog 19 #[.int .i64 n] w (NewB w (encN n)) := by
  go_enter Try.func19, Try.ntmps19
  go_wp2_with (go_at_call 41; refine (l1In_yes _ _ _ _ (by omega)).mono ?_; rintro e w' ⟨rfl, rfl⟩)
  go_loopw [0, 3] (fun m v wr => ∃ (k : Nat) (p : List Nat), m = .int .i64 k ∧ OwnB wr w.heap.size v p ∧ Enc n k p ∧ k ≤ 2147483647 ∧ Below w.heap.size w wr) (fun m _ _ => (intOf m).toNat)
  case atStart => exact ⟨n, [], rfl, Own_new w _ [] (Nat.le_refl _) (by simp), Enc.start hn, hn, (Below.refl _ _).alloc (Nat.le_refl _) _⟩
  case round =>
    obtain ⟨k, p, rfl, hown, henc, hkk, hbel⟩ := hrel
    have hp := henc.len
    have hsz := hbel.size
    by_cases hlt : 128 ≤ k
    · go_wp2_with (at_builtin; refine wpList_appB _ rfl (.tmp 11) (.tmp 16) rfl w.heap.size _ p rfl (own_alloc hown _) wr.heap.size 0 1 [k % 128 + 128] 1 rfl rfl (one_new _ _ _ (by omega)) (by simp; omega) (by simp; omega) ?_)
      intro v' w1 o1 g1 _
      have R := Lib.hid (putNum_step hown henc hlt hbel o1 g1)
      clear hown henc o1 g1 hbel
      go_wp2
      go_roundw
      case rel => exact ⟨k / 128, _, rfl, R.out.1, R.out.2.1, by omega, R.out.2.2⟩
      case measure => simp [intOf]; omega
    · go_wp2_with (at_builtin; refine wpList_appB _ rfl (.tmp 20) (.tmp 23) rfl w.heap.size _ p rfl (own_alloc hown _) wr.heap.size 0 1 [k] 1 rfl rfl (one_new _ _ _ (by omega)) (by simp; omega) (by simp; omega) ?_)
      intro v' w1 o1 g1 _
      rw [henc.last (by omega)] at o1
      have R := Lib.hid (NewB.of_own o1 ((hbel.alloc hbel.size _).grown g1 (by simp; omega) (own_lo hown)))
      clear hown henc o1 g1 hbel
      go_wp2
      go_ret
      exact R.out
theorem putNum_spec (n : Int) (w : World) : Calls Try.prog 19 #[.int .i64 n] w (NewB w (encI n)) := by
  by_cases h : 0 ≤ n ∧ n ≤ 2147483647
  · obtain ⟨m, rfl⟩ := Int.eq_ofNat_of_zero_le h.1
    unfold encI
    rw [if_pos h]
    exact putNum_spec_in m w (by omega)
  · unfold encI
    rw [if_neg h]
    have R := Lib.hid (NewB.of_own (l := []) (Own_new w w.heap.size [] (Nat.le_refl _) (by simp)) ((Below.refl _ _).alloc (Nat.le_refl _) _))
    go_enter Try.func19, Try.ntmps19
    go_wp2_with (go_at_call 41; refine (l1In_no _ _ _ _ h).mono ?_; rintro e w' ⟨rfl, rfl⟩)
    go_ret
    exact R.out
end Go.Proofs.Ytefoegicjigpaaa
