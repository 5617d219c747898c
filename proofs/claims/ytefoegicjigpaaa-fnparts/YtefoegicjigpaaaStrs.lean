/- Rows of strings in our words, and the laws' helpers over them. -/
import Derived.Test.YtefoegicjigpaaaLawW
import Derived.Deep.RegionHeld3
namespace Go.Proofs.Ytefoegicjigpaaa
open Go.RowKit

theorem strB_size (l : List Nat) : (strB l).size = l.length := by unfold strB; rw [strOfNums_size, List.length_map]
/-- The digits that markText lays. -/
def mfin : Nat → Nat → ByteArray → ByteArray
  | 0, _, S => S
  | f + 1, n, S => if n = 0 then S else mfin f (n / 10) (strB [48 + n % 10] ++ S)
def markT (k : Nat) : ByteArray := if k = 0 then ⟨#[109, 48]⟩ else ⟨#[109]⟩ ++ mfin 20 k ⟨#[]⟩
theorem mfin_zero (f : Nat) (S : ByteArray) : mfin f 0 S = S := by cases f <;> simp [mfin]
theorem mfin_step (f n : Nat) (S : ByteArray) (h : 0 < n) : mfin (f + 1) n S = mfin f (n / 10) (strB [48 + n % 10] ++ S) := by simp only [mfin]; rw [if_neg (by omega)]
def Marked (w : World) (s : ByteArray) (e : Ending) (w' : World) : Prop := e = .returned (.string s) ∧ Below w.heap.size w w'

set_option maxHeartbeats 400000 in
set_option maxRecDepth 100000 in
theorem markText_any (k : Nat) (w : World) (hk2 : k ≤ 10000000) : Calls Try.prog 44 #[.int .i64 k] w (Marked w (markT k)) := by
  by_cases hk : k = 0
  · subst hk
    go_enter Try.func44, Try.ntmps44
    go_wp2
    go_ret
    exact ⟨rfl, Below.refl _ _⟩
  have hk0 : decide (k = 0) = false := by simpa using hk
  have HM : Hid (∀ S, mfin 20 k ⟨#[]⟩ = S → Ending.returned (.string (⟨#[109]⟩ ++ S)) = .returned (.string (markT k))) := by
    intro S hS
    unfold markT
    rw [if_neg hk, hS]
  have HK := Lib.hid hk
  clear hk
  go_enter Try.func44, Try.ntmps44
  go_wp2
  go_loopw [0, 3] (fun q s wr => ∃ (f n : Nat) (S : ByteArray), n < 10 ^ f ∧ f ≤ 20 ∧ n ≤ 10000000 ∧ S.size + f ≤ 20 ∧ q = .int .i64 n ∧ s = .string S ∧ Below w.heap.size w wr ∧ mfin f n S = mfin 20 k ⟨#[]⟩) (fun q _ _ => (intOf q).toNat)
  case atStart => exact ⟨20, k, _, by omega, by omega, hk2, by show 0 + 20 ≤ 20; omega, rfl, rfl, Below.refl _ _, rfl⟩
  case round =>
    obtain ⟨f, n, S, hf, hf2, hn, hS, rfl, rfl, b, hm⟩ := hrel
    have HF := Lib.hid hm
    have HP := Lib.hid hf
    clear hm hf
    by_cases h : 0 < n
    · obtain ⟨f', hff⟩ : ∃ f', f = f' + 1 := by
        cases f with
        | zero => have := HP.out; simp at this; omega
        | succ f => exact ⟨f, rfl⟩
      subst hff
      have hcv := conv_bytes (wr.alloc (.cells #[.int .u8 (48 + (n : Int) % 10)] 5)) wr.heap.size 0 1 1 [48 + n % 10] rfl (one_new wr (48 + n % 10) _ (by omega))
      have HF2 : Hid (mfin f' (n / 10) (strB [48 + n % 10] ++ S) = mfin 20 k ⟨#[]⟩) := by show _ = _; rw [← mfin_step _ _ _ h]; exact HF.out
      have hcs : (strB [48 + n % 10]).size = 1 := strB_size _
      have HP2 : Hid (n / 10 < 10 ^ f') := by show _ < _; have := HP.out; rw [Nat.pow_succ] at this; omega
      generalize strB [48 + n % 10] = ch at *
      have hcs1 : ch.size ≤ 1 := by omega
      have hsum : ch.size + S.size ≤ 9223372036854775807 := by omega
      clear hcs
      go_wp2
      go_roundw
      case rel => exact ⟨f', n / 10, ch ++ S, HP2.out, by omega, by omega, by rw [ByteArray.size_append]; omega, rfl, rfl, b.alloc b.size _, HF2.out⟩
      case measure => simp [intOf]; omega
    · have hsum : (⟨#[109]⟩ : ByteArray).size + S.size ≤ 9223372036854775807 := by show 1 + S.size ≤ _; omega
      obtain rfl : n = 0 := by omega
      go_wp2
      go_ret
      exact ⟨HM.out S (by rw [← HF.out, mfin_zero]), b⟩

/-- The cells of a row of strings. -/
def scells (l : List ByteArray) : List Value := l.map Value.string
theorem scells_length (l : List ByteArray) : (scells l).length = l.length := by simp [scells]
theorem scells_append (a b : List ByteArray) : scells (a ++ b) = scells a ++ scells b := by simp [scells]
theorem scells_get (l : List ByteArray) (k : Nat) (h : k < l.length) : (scells l)[k]? = some (.string (l.getD k ByteArray.empty)) := by simp [scells, h]
theorem scells_one (l : List ByteArray) : ∀ u ∈ scells l, u.oneCell' = true := by
  intro u hu
  simp only [scells, List.mem_map] at hu
  obtain ⟨b, _, rfl⟩ := hu
  rfl
/-- The slice at A reads as the strings l, and lies below block B. -/
def Sts (w : World) (B : Nat) (A : Option Addr) (l : List ByteArray) : Prop :=
  l = [] ∨ ∃ b off, A = some ⟨b, off, none⟩ ∧ b < B ∧ ∀ k, k < l.length → w.cell? ⟨b, off + k, none⟩ = some (.string (l.getD k ByteArray.empty))
theorem Sts.at_ {w : World} {B : Nat} {A : Option Addr} {l : List ByteArray} (h : Sts w B A l) {k : Nat} (hk : k < l.length) :
    ∃ b off, A = some ⟨b, off, none⟩ ∧ b < B ∧ w.cell? ⟨b, off + k, none⟩ = some (.string (l.getD k ByteArray.empty)) := by
  rcases h with rfl | ⟨b, off, e, hb, hc⟩
  · simp at hk
  · exact ⟨b, off, e, hb, hc k hk⟩
theorem Sts.below {w w' : World} {B : Nat} {A : Option Addr} {l : List ByteArray} (h : Sts w B A l) (hb : Below B w w') : Sts w' B A l := by
  rcases h with h | ⟨b, off, e, hlt, hc⟩
  · exact .inl h
  · exact .inr ⟨b, off, e, hlt, fun k hk => (hb.cell (by exact hlt)).trans (hc k hk)⟩
theorem Sts.more {w : World} {B B' : Nat} {A : Option Addr} {l : List ByteArray} (h : Sts w B A l) (hB : B ≤ B') : Sts w B' A l := by
  rcases h with h | ⟨b, off, e, hlt, hc⟩
  · exact .inl h
  · exact .inr ⟨b, off, e, by omega, hc⟩
def OwnS (w : World) (base : Nat) (v : Value) (l : List ByteArray) : Prop := w.ownsRow base 9 1 v l.length (scells l)
theorem OwnS.form {w : World} {base : Nat} {v : Value} {l : List ByteArray} (h : OwnS w base v l) :
    ∃ A cap, v = .slice A l.length cap ∧ Sts w w.heap.size A l ∧ (l ≠ [] → ∃ g, A = some ⟨g, 0, none⟩ ∧ base ≤ g) := by
  rcases h.2 with ⟨rfl, hn⟩ | ⟨g, cap, cur, rfl, hb, hg, hnc, hm, hs, ht⟩
  · have : l = [] := List.eq_nil_of_length_eq_zero hn
    subst this
    exact ⟨none, 0, rfl, .inl rfl, fun h => absurd rfl h⟩
  · refine ⟨_, cap, rfl, .inr ⟨g, 0, rfl, (Array.getElem?_eq_some_iff.1 hg).1, fun k hk => ?_⟩, fun _ => ⟨g, rfl, hb⟩⟩
    have := World.ownsRow.cellAt (g := g) (cap := cap) h k (by omega)
    rw [Nat.zero_add, this, scells_get l k hk]
theorem OwnS.below {w w' : World} {base : Nat} {v : Value} {l : List ByteArray} (h : OwnS w base v l) (hb : Below w.heap.size w w') : OwnS w' base v l := by
  refine ⟨h.1, ?_⟩
  rcases h.2 with h2 | ⟨g, cap, cur, hv, hg, hh, r⟩
  · exact .inl h2
  · exact .inr ⟨g, cap, cur, hv, hg, by rw [hb.block g (Array.getElem?_eq_some_iff.1 hh).1]; exact hh, r⟩
theorem OwnS.drewN {w : World} {base : Nat} {v : Value} {l : List ByteArray} (h : OwnS w base v l) (n : Nat) : OwnS (w.drewN n) base v l := h
theorem OwnS.sts {w : World} {base n : Nat} {A : Option Addr} {c : Nat} {l : List ByteArray} (h : OwnS w base (.slice A n c) l) : Sts w w.heap.size A l := by
  obtain ⟨A', c', he, hb, _⟩ := OwnS.form h
  injection he with h1 _ _
  rw [h1]; exact hb
theorem owns_lo {w : World} {base : Nat} {v : Value} {l : List ByteArray} (h : OwnS w base v l) : ∀ k, v.ownBlock = some k → base ≤ k := fun k hk => (World.ownsRow.lt h k hk).1
def NewS (w : World) (l : List ByteArray) (e : Ending) (w' : World) : Prop :=
  ∃ A c, e = .returned (.slice A l.length c) ∧ OwnS w' w.heap.size (.slice A l.length c) l ∧ Below w.heap.size w w'
theorem NewS.of_own {w w' : World} {l : List ByteArray} {v : Value} (h : OwnS w' w.heap.size v l) (hb : Below w.heap.size w w') : NewS w l (.returned v) w' := by
  obtain ⟨A, c, rfl, _, _⟩ := OwnS.form h
  exact ⟨A, c, rfl, h, hb⟩
theorem info9 : (Try.prog.info? 9).map (fun i => (i.zero, i.size, i.bytes)) = some (some (.string ⟨#[]⟩), 1, 16) := by kernel_rfl
/-- append(v, s) of one string. -/
theorem wpList_app1S (w : World) {ops : Array Oper} {rest : List Oper} {o : Oper} {a : Act} {Q : Exit → Act → World → Prop} (hgd : o.guard = none) (s x : Operand)
    (ho : o.op = .call { callee := .builtin .append, args := #[s, x], argTypes := #[34, 34] })
    (base : Nat) (v : Value) (p : List ByteArray) (hs : a.eval s = v) (hown : OwnS w base v p)
    (b : Nat) (t : ByteArray) (hx : a.eval x = .slice (some ⟨b, 0, none⟩) 1 1) (hq : w.cell? ⟨b, 0, none⟩ = some (.string t))
    (hlen : p.length ≤ 1099511627776) (hbase : base ≤ w.heap.size)
    (h : ∀ v' w', OwnS w' base v' (p ++ [t]) → w.grownBy w' v.ownBlock → wpList Try.prog ops Q rest (a.put o.dst v') w') :
    wpList Try.prog ops Q (o :: rest) a w := by
  obtain ⟨i0, hi, hz0, hz1, hz2⟩ := info_parts info9
  refine wpList_append_own_at (P := Try.prog) w hgd s x 34 ho base 9 i0 (.string ⟨#[]⟩) 1 16 Try.underlying34 hi hz0 hz1 hz2 rfl (by decide) v p.length (scells p) hs hown
    ⟨b, 0, none⟩ 1 1 (scells [t]) hx (by simp [scells_length]) ?_ (scells_one _) (by unfold maxLen; omega) (by omega) hbase ?_
  · intro j u hj
    match j, hj with
    | 0, hj =>
      simp [scells] at hj
      subst hj
      rw [add_at]; exact hq
    | j + 1, hj => simp [scells] at hj
  · intro v' w' h1 h2 _ h4
    exact h v' w' (by unfold OwnS; rw [List.length_append, scells_append]; exact h1) h2

set_option maxHeartbeats 400000 in
/-- eqStringS on two slices that read alike. -/
theorem eqS_same (A A' : Option Addr) (l : List ByteArray) (c c' B B' : Nat) (w : World) (hl : l.length ≤ 2097152) (hA : Sts w B A l) (hA' : Sts w B' A' l) :
    Calls Try.prog 32 #[.slice A l.length c, .slice A' l.length c'] w fun e w' => e = .returned (.bool true) ∧ ∃ n, w' = w.drewN n := by
  have hne : ((l.length : Int) != (l.length : Int)) = false := by simp
  go_enter Try.func32, Try.ntmps32
  go_wp2
  go_loopw [5] (fun i wr => ∃ k n : Nat, k ≤ l.length ∧ i = .int .i64 k ∧ wr = w.drewN n) (fun i _ => l.length - (intOf i).toNat)
  case atStart => exact ⟨0, 0, by omega, rfl, rfl⟩
  case round =>
    obtain ⟨k, n, hk, rfl, rfl⟩ := hrel
    by_cases hlt : k < l.length
    · obtain ⟨b, off, rfl, hbB, hc⟩ := hA.at_ hlt
      obtain ⟨b', off', rfl, hbB', hc'⟩ := hA'.at_ hlt
      generalize l.getD k ByteArray.empty = v at *
      go_wp2
      go_quiet (fail)
      go_wp2
      go_roundw
      case rel => exact ⟨k + 1, _, by omega, by go_num, rfl⟩
      case measure => simp [intOf]; omega
    · go_wp2
      go_ret
      exact ⟨rfl, n, rfl⟩

/-- n marks from k on. -/
def marksS (k n : Nat) : List ByteArray := (List.range n).map fun i => markT (k + i)
theorem marksS_length (k n : Nat) : (marksS k n).length = n := by simp [marksS]
theorem marksS_getD (k n i : Nat) (h : i < n) : (marksS k n).getD i ByteArray.empty = markT (k + i) := by simp [marksS, h]
def markedS (l : List ByteArray) (k j : Nat) : List Value := scells (marksS k j) ++ (scells l).drop j
theorem markedS_zero (l : List ByteArray) (k : Nat) : markedS l k 0 = scells l := by simp [markedS, marksS, scells]
theorem markedS_all (l : List ByteArray) (k : Nat) : markedS l k l.length = scells (marksS k l.length) := by
  unfold markedS; rw [List.drop_of_length_le (by rw [scells_length]; omega), List.append_nil]
theorem markedS_set (l : List ByteArray) (k j : Nat) (hj : j < l.length) : (markedS l k j).set j (.string (markT (k + j))) = markedS l k (j + 1) := by
  unfold markedS
  have hlen : (scells (marksS k j)).length = j := by rw [scells_length, marksS_length]
  rw [List.set_append_right _ _ (by omega), hlen, Nat.sub_self]
  have hd : (scells l).drop j = (scells l)[j]'(by rw [scells_length]; exact hj) :: (scells l).drop (j + 1) := List.drop_eq_getElem_cons _
  rw [hd, List.set_cons_zero]
  have hm : marksS k (j + 1) = marksS k j ++ [markT (k + j)] := by simp [marksS, List.range_succ]
  rw [hm, scells_append, List.append_assoc]
  rfl
end Go.Proofs.Ytefoegicjigpaaa
