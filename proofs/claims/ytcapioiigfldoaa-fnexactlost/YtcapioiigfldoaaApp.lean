/- Byte rows of our own, append, PutNum, PutText. -/
import Derived.Test.YtcapioiigfldoaaRows
import Derived.Test.YtcapioiigfldoaaCrc
import Derived.Maps.AppendAt
import Derived.Laws.AppendOwnNone
import Derived.Lib.AppendStr
import Derived.Laws.IdiomStrings
import Derived.OpenShut
namespace Go.Proofs.Ytcapioiigfldoaa
open Go.RowKit
set_option linter.unusedSimpArgs false
set_option linter.unusedVariables false
set_option maxRecDepth 100000 in
theorem info5 : (Try.prog.info? 5).map (fun i => (i.zero, i.size, i.bytes)) = some (some (.int .u8 0), 1, 1) := by kernel_rfl
/-- A new block that holds just these bytes. -/
theorem Bts_new (w : World) (l : List Nat) : Bts (w.alloc (.cells (bcells l).toArray 5)) (w.heap.size + 1) (some ⟨w.heap.size, 0, none⟩) l := by
  refine .inr ⟨_, 0, rfl, by omega, fun k hk => ?_⟩
  rw [World.cell?_alloc_at _ _ _ _ rfl, Nat.zero_add]
  simpa using bcells_get l k hk
theorem Own_new (w : World) (base : Nat) (l : List Nat) (hb : base ≤ w.heap.size) (hl : l.length ≤ 2097152) :
    OwnB (w.alloc (.cells (bcells l).toArray 5)) base (.slice (some ⟨w.heap.size, 0, none⟩) l.length l.length) l := by
  refine ⟨by simp [bcells_length], .inr ⟨_, _, _, rfl, hb, heap_alloc_new _ _, Nat.le_refl _, by unfold maxLen; omega, by simp [bcells_length], ?_⟩⟩
  rw [Nat.mul_one, ← bcells_length l]
  exact List.take_length
/-- What a copy holds behind k rounds. -/
def halfway (l : List Nat) (k : Nat) : List Value := bcells (l.take k) ++ List.replicate (l.length - k) (.int .u8 0)
theorem halfway_zero (l : List Nat) : (madeCells #[Value.int .u8 0] l.length).toList = halfway l 0 := by
  rw [toList_madeCells_one]; simp [halfway, bcells]
theorem halfway_all (l : List Nat) : halfway l l.length = bcells l := by simp [halfway]
theorem halfway_set (l : List Nat) (k : Nat) (hk : k < l.length) : (halfway l k).set k (.int .u8 ((l.getD k 0 : Nat) : Int)) = halfway l (k + 1) := by
  unfold halfway
  have hlen : (bcells (l.take k)).length = k := by rw [bcells_length, List.length_take]; omega
  rw [List.set_append_right _ _ (by omega), hlen, Nat.sub_self, take_snoc l k 0 hk, bcells_append, List.append_assoc]
  congr 1
  obtain ⟨m, hm⟩ : ∃ m, l.length - k = m + 1 := ⟨l.length - k - 1, by omega⟩
  rw [hm, show l.length - (k + 1) = m from by omega]
  rfl
/-- n marks from k on. -/
def marks (k n : Nat) : List Nat := (List.range n).map fun i => (k + i) % 256
theorem marks_length (k n : Nat) : (marks k n).length = n := by simp [marks]
theorem marks_getD (k n i : Nat) (h : i < n) : (marks k n).getD i 0 = (k + i) % 256 := by simp [marks, h]
/-- What a row holds behind j marks. -/
def marked (l : List Nat) (k j : Nat) : List Value := bcells (marks k j) ++ (bcells l).drop j
theorem marked_zero (l : List Nat) (k : Nat) : marked l k 0 = bcells l := by simp [marked, marks, bcells]
theorem marked_all (l : List Nat) (k : Nat) : marked l k l.length = bcells (marks k l.length) := by
  unfold marked; rw [List.drop_of_length_le (by rw [bcells_length]; omega), List.append_nil]
theorem marked_set (l : List Nat) (k j : Nat) (hj : j < l.length) : (marked l k j).set j (.int .u8 (((k + j) % 256 : Nat) : Int)) = marked l k (j + 1) := by
  unfold marked
  have hlen : (bcells (marks k j)).length = j := by rw [bcells_length, marks_length]
  rw [List.set_append_right _ _ (by omega), hlen, Nat.sub_self]
  have hd : (bcells l).drop j = (bcells l)[j]'(by rw [bcells_length]; exact hj) :: (bcells l).drop (j + 1) := List.drop_eq_getElem_cons _
  rw [hd, List.set_cons_zero]
  have hm : marks k (j + 1) = marks k j ++ [(k + j) % 256] := by simp [marks, List.range_succ]
  rw [hm, bcells_append, List.append_assoc]
  rfl
theorem byte_of (q : Nat) : IntKind.u8.wrap (q : Int) = ((q % 256 : Nat) : Int) := by rw [IntKind.wrap_u8]; omega
/-- A slice of bytes that came in, as a list. -/
theorem bytes_in (w : World) (a : Option Addr) (len cap : Nat) (zs : List Int)
    (h : (a = none ∧ len = 0 ∧ cap = 0 ∧ zs = []) ∨
      ∃ x, a = some x ∧ len ≤ cap ∧ cap ≤ maxLen ∧ zs.length = cap ∧ (∀ i, i < zs.length → w.cell? (x.add i) = some (.int .u8 (zs.getD i 0))) ∧ ∀ n ∈ zs, (Lit.int .u8 n).wf = true) :
    ∃ l : List Nat, len = l.length ∧ Bts w w.heap.size a l ∧ AllB l ∧ l.length ≤ maxLen ∧ len ≤ cap := by
  rcases h with ⟨rfl, rfl, rfl, rfl⟩ | ⟨x, rfl, hl, hm, hz, hc, hwf⟩
  · exact ⟨[], rfl, .inl rfl, fun b hb => by simp at hb, by simp, by omega⟩
  · have hb : ∀ n ∈ zs, 0 ≤ n ∧ n < 256 := fun n hn => by
      have := bounds_u8 (hwf n hn); omega
    refine ⟨(zs.take len).map Int.toNat, by simp; omega, ?_, ?_, by simp; omega, hl⟩
    · rcases Nat.eq_zero_or_pos len with h0 | h0
      · subst h0; exact .inl (by simp)
      · obtain ⟨b, off, spot⟩ := x
        have h1 := hc 0 (by omega)
        have hspot : spot = none := by simpa [Addr.add] using World.cell?_spot h1
        subst hspot
        refine .inr ⟨b, off, rfl, ?_, fun k hk => ?_⟩
        · have := World.block_lt_of_cell? w _ h1; simpa [Addr.add] using this
        · have hk' : k < len := by simp at hk; omega
          have := hc k (by omega)
          have ha : (⟨b, off, none⟩ : Addr).add k = ⟨b, off + k, none⟩ := by unfold Addr.add; split <;> simp_all
          rw [ha] at this
          rw [this]
          have hbk := hb (zs.getD k 0) (by rw [List.getD_eq_getElem?_getD, List.getElem?_eq_getElem (by omega)]; exact List.getElem_mem _)
          have e : ((zs.take len).map Int.toNat).getD k 0 = (zs.getD k 0).toNat := by
            simp [hk']
            rw [List.getElem?_eq_getElem (by omega)]; rfl
          rw [e, Int.toNat_of_nonneg hbk.1]
    · intro b hb'
      simp only [List.mem_map] at hb'
      obtain ⟨n, hn, rfl⟩ := hb'
      have := hb n (List.mem_of_mem_take hn)
      omega
theorem OwnB.bts {w : World} {base : Nat} {A : Option Addr} {c : Nat} {l : List Nat} (h : OwnB w base (.slice A l.length c) l) : Bts w w.heap.size A l := by
  obtain ⟨A', c', he, hb, _⟩ := OwnB.form h
  injection he with h1 _ _
  rw [h1]; exact hb
theorem add_at (b off k : Nat) : (⟨b, off, none⟩ : Addr).add k = ⟨b, off + k, none⟩ := by unfold Addr.add; split <;> simp_all
set_option maxRecDepth 100000 in
/-- append(v, q...) where v is the call's own and q lies anywhere. -/
theorem wpList_appB (w : World) {ops : Array Oper} {rest : List Oper} {o : Oper} {a : Act} {Q : Exit → Act → World → Prop} (hgd : o.guard = none) (s x : Operand)
    (ho : o.op = .call { callee := .builtin .append, args := #[s, x], argTypes := #[22, 22] })
    (base : Nat) (v : Value) (p : List Nat) (hs : a.eval s = v) (hown : OwnB w base v p)
    (b off c : Nat) (q : List Nat) (m : Nat) (hm : m = q.length) (hx : a.eval x = .slice (some ⟨b, off, none⟩) m c) (hq : ∀ k, k < q.length → w.cell? ⟨b, off + k, none⟩ = some (.int .u8 (q.getD k 0)))
    (hlen : p.length + q.length ≤ 1099511627776) (hbase : base ≤ w.heap.size)
    (h : ∀ v' w', OwnB w' base v' (p ++ q) → w.grownBy w' v.ownBlock → (v'.ownBlock = v.ownBlock ∨ v'.ownBlock = some w.heap.size) → wpList Try.prog ops Q rest (a.put o.dst v') w') :
    wpList Try.prog ops Q (o :: rest) a w := by
  subst hm
  obtain ⟨i0, hi, hz0, hz1, hz2⟩ := info_parts info5
  refine wpList_append_own_at (P := Try.prog) w hgd s x 22 ho base 5 i0 (.int .u8 0) 1 1 Try.underlying22 hi hz0 hz1 hz2 rfl (by decide) v p.length (bcells p) hs hown
    ⟨b, off, none⟩ q.length c (bcells q) hx (by simp [bcells_length]) ?_ (bcells_one q) (by unfold maxLen; omega) (by omega) hbase ?_
  · intro j u hj
    have hj' : j < q.length := by
      rcases Nat.lt_or_ge j q.length with h | h
      · exact h
      · rw [List.getElem?_eq_none (by rw [bcells_length]; exact h)] at hj; cases hj
    rw [add_at, hq j hj', ← hj, bcells_get q j hj']
  · intro v' w' h1 h2 _ h4
    exact h v' w' (by unfold OwnB; rw [List.length_append, bcells_append]; exact h1) h2 h4
set_option maxRecDepth 100000 in
/-- append(v, nil...). -/
theorem wpList_appB_nil (w : World) {ops : Array Oper} {rest : List Oper} {o : Oper} {a : Act} {Q : Exit → Act → World → Prop} (hgd : o.guard = none) (s x : Operand)
    (ho : o.op = .call { callee := .builtin .append, args := #[s, x], argTypes := #[22, 22] })
    (base : Nat) (v : Value) (p : List Nat) (hs : a.eval s = v) (hown : OwnB w base v p) (hx : a.eval x = .slice none 0 0)
    (h : wpList Try.prog ops Q rest (a.put o.dst v) w) : wpList Try.prog ops Q (o :: rest) a w := by
  obtain ⟨i0, hi, hz0, hz1, hz2⟩ := info_parts info5
  exact wpList_append_own_none (P := Try.prog) hgd s x 22 ho base 5 i0 1 Try.underlying22 hi v p.length (bcells p) hs hown hx h
theorem one_new (w : World) (b : Nat) (z : Int) (h : z = b) : ∀ k, k < [b].length → (w.alloc (.cells #[.int .u8 z] 5)).cell? ⟨w.heap.size, 0 + k, none⟩ = some (.int .u8 (([b].getD k 0 : Nat) : Int)) := by
  intro k hk
  simp at hk
  subst hk
  simp [h]
/-- What a new byte slice is, as a function returns it. -/
def NewB (w : World) (l : List Nat) (e : Ending) (w' : World) : Prop :=
  ∃ A c, e = .returned (.slice A l.length c) ∧ OwnB w' w.heap.size (.slice A l.length c) l ∧ Below w.heap.size w w'
theorem NewB.of_own {w w' : World} {l : List Nat} {v : Value} (h : OwnB w' w.heap.size v l) (hb : Below w.heap.size w w') : NewB w l (.returned v) w' := by
  obtain ⟨A, c, rfl, _, _⟩ := OwnB.form h
  exact ⟨A, c, rfl, h, hb⟩
theorem own_alloc {w : World} {base : Nat} {v : Value} {l : List Nat} (h : OwnB w base v l) (o : Obj) : OwnB (w.alloc o) base v l := World.ownsRow.alloc h o
theorem own_lo {w : World} {base : Nat} {v : Value} {l : List Nat} (h : OwnB w base v l) : ∀ k, v.ownBlock = some k → base ≤ k := fun k hk => (World.ownsRow.lt h k hk).1
/-- The varint of a number, with fuel. -/
def encF : Nat → Nat → List Nat
  | 0, n => [n]
  | f + 1, n => if n < 128 then [n] else (n % 128 + 128) :: encF f (n / 128)
def encN (n : Nat) : List Nat := encF 4 n
theorem encF_small (f n : Nat) (h : n < 128) : encF f n = [n] := by cases f <;> simp [encF, h]
theorem encF_step (f n : Nat) (h : 128 ≤ n) : encF (f + 1) n = (n % 128 + 128) :: encF f (n / 128) := by simp only [encF]; rw [if_neg (by omega)]
theorem encF_len (f n : Nat) : (encF f n).length ≤ f + 1 ∧ 0 < (encF f n).length := by
  induction f generalizing n with
  | zero => simp [encF]
  | succ f ih => simp only [encF]; split <;> simp; have := ih (n / 128); omega
/-- Where PutNum's loop stands: the bytes p are out, m is left. -/
def Enc (n m : Nat) (p : List Nat) : Prop := ∃ f, m < 128 ^ (f + 1) ∧ p ++ encF f m = encN n ∧ p.length + f = 4
theorem Enc.start {n : Nat} (h : n ≤ 2147483647) : Enc n n [] := ⟨4, by omega, rfl, rfl⟩
theorem Enc.step {n m : Nat} {p : List Nat} (h : Enc n m p) (hm : 128 ≤ m) : Enc n (m / 128) (p ++ [m % 128 + 128]) := by
  obtain ⟨f, h1, h2, h3⟩ := h
  cases f with
  | zero => simp at h1; omega
  | succ f =>
    refine ⟨f, ?_, ?_, by simp; omega⟩
    · rw [Nat.pow_succ] at h1; omega
    · rw [← h2, encF_step f m hm, List.append_assoc]; rfl
theorem Enc.last {n m : Nat} {p : List Nat} (h : Enc n m p) (hm : m < 128) : p ++ [m] = encN n := by
  obtain ⟨f, _, h2, _⟩ := h
  rw [← h2, encF_small f m hm]
theorem Enc.len {n m : Nat} {p : List Nat} (h : Enc n m p) : p.length ≤ 4 := by obtain ⟨f, _, _, h3⟩ := h; omega
def encI (n : Int) : List Nat := if 0 ≤ n ∧ n ≤ 2147483647 then encN n.toNat else []
/-- What a round of PutNum does. -/
theorem putNum_step {w wr w1 : World} {v v' : Value} {n k : Nat} {p : List Nat} {o : Obj} (hown : OwnB wr w.heap.size v p) (henc : Enc n k p) (hk : 128 ≤ k) (hbel : Below w.heap.size w wr)
    (h1 : OwnB w1 w.heap.size v' (p ++ [k % 128 + 128])) (hg : (wr.alloc o).grownBy w1 v.ownBlock) :
    OwnB w1 w.heap.size v' (p ++ [k % 128 + 128]) ∧ Enc n (k / 128) (p ++ [k % 128 + 128]) ∧ Below w.heap.size w w1 :=
  ⟨h1, henc.step hk, (hbel.alloc hbel.size o).grown hg (by have := hbel.size; simp; omega) (own_lo hown)⟩
set_option maxRecDepth 100000 in
theorem l1In_any (x a b : Int) (w : World) : Calls Try.prog 48 #[.int .i64 x, .int .i64 a, .int .i64 b] w fun e w' => e = .returned (.bool (decide (a ≤ x ∧ x ≤ b))) ∧ w = w' := by
  by_cases h1 : a ≤ x <;> by_cases h2 : x ≤ b
  all_goals
    go_enter Try.func48, Try.ntmps48
    go_wp2
    go_ret
    exact ⟨by simp [h1, h2], rfl⟩
set_option maxRecDepth 100000 in
theorem l1In_yes (x a b : Int) (w : World) (h : a ≤ x ∧ x ≤ b) : Calls Try.prog 48 #[.int .i64 x, .int .i64 a, .int .i64 b] w fun e w' => e = .returned (.bool true) ∧ w = w' :=
  (l1In_any x a b w).mono fun e w' ⟨he, hw⟩ => ⟨by rw [he]; simp [h], hw⟩
set_option maxRecDepth 100000 in
theorem l1In_no (x a b : Int) (w : World) (h : ¬ (a ≤ x ∧ x ≤ b)) : Calls Try.prog 48 #[.int .i64 x, .int .i64 a, .int .i64 b] w fun e w' => e = .returned (.bool false) ∧ w = w' :=
  (l1In_any x a b w).mono fun e w' ⟨he, hw⟩ => ⟨by rw [he]; simp only [h, decide_false], hw⟩
set_option maxHeartbeats 400000 in
set_option maxRecDepth 100000 in
theorem putNum_spec_in (n : Nat) (w : World) (hn : n ≤ 2147483647) : Calls Try.prog 66 #[.int .i64 n] w (NewB w (encN n)) := by
  go_enter Try.func66, Try.ntmps66
  go_wp2_with (go_at_call 48; refine (l1In_yes _ _ _ _ (by omega)).mono ?_; rintro e w' ⟨rfl, rfl⟩)
  go_loopw [0, 3] (fun m v wr => ∃ (k : Nat) (p : List Nat), m = .int .i64 k ∧ OwnB wr w.heap.size v p ∧ Enc n k p ∧ k ≤ 2147483647 ∧ Below w.heap.size w wr) (fun m _ _ => (intOf m).toNat)
  case atStart => exact ⟨n, [], rfl, Own_new w _ [] (Nat.le_refl _) (by simp), Enc.start hn, hn, (Below.refl _ _).alloc (Nat.le_refl _) _⟩
  case round =>
    obtain ⟨k, p, rfl, hown, henc, hkk, hbel⟩ := hrel
    have hp := henc.len
    have hsz := hbel.size
    by_cases hlt : 128 ≤ k
    · go_wp2_with (at_builtin; refine wpList_appB _ rfl (.tmp 11) (.tmp 16) rfl w.heap.size _ p rfl (own_alloc hown _) wr.heap.size 0 1 [k % 128 + 128] 1 rfl rfl (one_new _ _ _ (by omega)) (by simp; omega) (by simp; omega) ?_)
      intro v' w1 o1 g1 _
      have R := Lib.hid (putNum_step hown henc hlt hbel o1 g1)
      clear hown henc o1 g1 hbel
      go_wp2
      go_roundw
      case rel => exact ⟨k / 128, _, rfl, R.out.1, R.out.2.1, by omega, R.out.2.2⟩
      case measure => simp [intOf]; omega
    · go_wp2_with (at_builtin; refine wpList_appB _ rfl (.tmp 20) (.tmp 23) rfl w.heap.size _ p rfl (own_alloc hown _) wr.heap.size 0 1 [k] 1 rfl rfl (one_new _ _ _ (by omega)) (by simp; omega) (by simp; omega) ?_)
      intro v' w1 o1 g1 _
      rw [henc.last (by omega)] at o1
      have R := Lib.hid (NewB.of_own o1 ((hbel.alloc hbel.size _).grown g1 (by simp; omega) (own_lo hown)))
      clear hown henc o1 g1 hbel
      go_wp2
      go_ret
      exact R.out
set_option maxRecDepth 100000 in
theorem putNum_spec (n : Int) (w : World) : Calls Try.prog 66 #[.int .i64 n] w (NewB w (encI n)) := by
  by_cases h : 0 ≤ n ∧ n ≤ 2147483647
  · obtain ⟨m, rfl⟩ := Int.eq_ofNat_of_zero_le h.1
    unfold encI
    rw [if_pos h]
    exact putNum_spec_in m w (by omega)
  · unfold encI
    rw [if_neg h]
    have R := Lib.hid (NewB.of_own (l := []) (Own_new w w.heap.size [] (Nat.le_refl _) (by simp)) ((Below.refl _ _).alloc (Nat.le_refl _) _))
    go_enter Try.func66, Try.ntmps66
    go_wp2_with (go_at_call 48; refine (l1In_no _ _ _ _ h).mono ?_; rintro e w' ⟨rfl, rfl⟩)
    go_ret
    exact R.out
/-- The bytes of a string, as numbers. -/
def strN (s : ByteArray) : List Nat := s.data.toList.map UInt8.toNat
theorem strN_length (s : ByteArray) : (strN s).length = s.size := by rw [strN, List.length_map, Array.length_toList]; rfl
theorem strN_all (s : ByteArray) : AllB (strN s) := by
  intro b hb
  simp only [strN, List.mem_map] at hb
  obtain ⟨c, _, rfl⟩ := hb
  exact c.toNat_lt
theorem strCells_eq (s : ByteArray) : Lib.strCells s = bcells (strN s) := by
  unfold Lib.strCells bcells strN
  rw [List.map_map]
  rfl
theorem strN_getD (s : ByteArray) (k : Nat) (h : k < s.data.size) : (strN s).getD k 0 = s.data[k].toNat := by
  simp [strN]
  rw [Array.getElem?_eq_getElem h]; rfl
set_option maxRecDepth 100000 in
/-- append(v, s...) for a string s. -/
theorem wpList_appS (w : World) {ops : Array Oper} {rest : List Oper} {o : Oper} {a : Act} {Q : Exit → Act → World → Prop} (hgd : o.guard = none) (sl x : Operand)
    (ho : o.op = .call { callee := .builtin .append, args := #[sl, x], argTypes := #[22, 9] })
    (base : Nat) (v : Value) (p : List Nat) (hs : a.eval sl = v) (hown : OwnB w base v p) (s : ByteArray) (hx : a.eval x = .string s)
    (hlen : p.length + s.size ≤ 1099511627776) (hbase : base ≤ w.heap.size)
    (h : ∀ v' w', OwnB w' base v' (p ++ strN s) → w.grownBy w' v.ownBlock → wpList Try.prog ops Q rest (a.put o.dst v') w') :
    wpList Try.prog ops Q (o :: rest) a w := by
  obtain ⟨i0, hi, hz0, hz1, hz2⟩ := info_parts info5
  refine Lib.wpList_append_own_string (P := Try.prog) w hgd sl x 22 9 ho base 5 i0 Try.underlying22 Try.underlying9 hi hz0 hz1 hz2 v p.length (bcells p) hs hown s hx (by unfold maxLen; omega) (by omega) hbase ?_
  intro v' w' h1 h2 _
  exact h v' w' (by unfold OwnB; rw [List.length_append, bcells_append, strN_length, ← strCells_eq]; exact h1) h2
theorem row_cells (w : World) (s : ByteArray) (cap : Nat) (fr : Nat × Nat) : ∀ k, k < (strN s).length → (w.alloc (.cells (bytesRow s cap) 5 fr)).cell? ⟨w.heap.size, 0 + k, none⟩ = some (.int .u8 (((strN s).getD k 0 : Nat) : Int)) := by
  intro k hk
  rw [strN_length] at hk
  rw [Nat.zero_add, World.cell?_alloc_mark, bytesRow_at s cap k hk, strN_getD s k hk]
theorem encI_len (n : Int) : (encI n).length ≤ 5 := by
  unfold encI
  split
  · exact (encF_len 4 _).1
  · simp
theorem OwnB.cap {w : World} {base : Nat} {A : Option Addr} {c n : Nat} {l : List Nat} (h : OwnB w base (.slice A n c) l) : n = l.length ∧ l.length ≤ c := by
  rcases h.2 with ⟨hv, hn⟩ | ⟨g, cap, cur, hv, _, _, hnc, _⟩
  · injection hv with _ h2 h3; omega
  · injection hv with _ h2 h3; omega
end Go.Proofs.Ytcapioiigfldoaa
