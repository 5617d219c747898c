/- Texts laid together: Words, Crc, App, Get, GetD, GetU, Cur, Strs. -/
import Derived.Test.YtlflgflmlfileaaGreatRows
import Derived.Test.YtlflgflmlfileaaGreatMath
import Derived.WalkKit
import Derived.WalkSpells
import Derived.WalkLawsBesides
import Derived.Outline
import Derived.Lib.Hide
import Derived.IntWalk
import Derived.BigQuiet
import Derived.Deep.QuietTactic
import Derived.Deep.Draws
import Derived.Maps.AppendAt
import Derived.Laws.AppendOwnNone
import Derived.Lib.AppendStr
import Derived.Laws.IdiomStrings
import Derived.OpenShut
import Derived.Defers
import Derived.Recover
import Derived.Laws.BytesArg
import Derived.RegionTactic
import Derived.Deep.RegionWith
import Derived.Deep.RegionHeld3
import Derived.StillTailTactics
namespace Go.Proofs.YtlflgflmlfileaaGreat
open Go.RowKit
set_option linter.unusedSimpArgs false
set_option linter.unusedVariables false
/-- Every number of the list is a byte. -/
def AllB (l : List Nat) : Prop := ∀ b ∈ l, b < 256
theorem AllB.getD {l : List Nat} (h : AllB l) (k : Nat) : l.getD k 0 < 256 := by
  rcases Nat.lt_or_ge k l.length with hk | hk
  · rw [List.getD_eq_getElem?_getD, List.getElem?_eq_getElem hk]; exact h _ (List.getElem_mem hk)
  · rw [List.getD_eq_getElem?_getD, List.getElem?_eq_none hk]; simp
theorem AllB.take {l : List Nat} (h : AllB l) (k : Nat) : AllB (l.take k) := fun b hb => h b (List.mem_of_mem_take hb)
theorem AllB.drop {l : List Nat} (h : AllB l) (k : Nat) : AllB (l.drop k) := fun b hb => h b (List.mem_of_mem_drop hb)
theorem take_snoc {α : Type} (l : List α) (k : Nat) (d : α) (h : k < l.length) : l.take (k + 1) = l.take k ++ [l.getD k d] := by
  rw [List.take_succ_eq_append_getElem h, List.getD_eq_getElem?_getD, List.getElem?_eq_getElem h]; rfl
/-- The slice at A reads as the bytes l, and lies below block B. -/
def Bts (w : World) (B : Nat) (A : Option Addr) (l : List Nat) : Prop :=
  l = [] ∨ ∃ b off, A = some ⟨b, off, none⟩ ∧ b < B ∧ ∀ k, k < l.length → w.cell? ⟨b, off + k, none⟩ = some (.int .u8 (l.getD k 0))
theorem Bts.at_ {w : World} {B : Nat} {A : Option Addr} {l : List Nat} (h : Bts w B A l) {k : Nat} (hk : k < l.length) :
    ∃ b off, A = some ⟨b, off, none⟩ ∧ b < B ∧ w.cell? ⟨b, off + k, none⟩ = some (.int .u8 (l.getD k 0)) := by
  rcases h with rfl | ⟨b, off, e, hb, hc⟩
  · simp at hk
  · exact ⟨b, off, e, hb, hc k hk⟩
theorem Bts.below {w w' : World} {B : Nat} {A : Option Addr} {l : List Nat} (h : Bts w B A l) (hb : Below B w w') : Bts w' B A l := by
  rcases h with h | ⟨b, off, e, hlt, hc⟩
  · exact .inl h
  · exact .inr ⟨b, off, e, hlt, fun k hk => (hb.cell (by exact hlt)).trans (hc k hk)⟩
theorem Bts.more {w : World} {B B' : Nat} {A : Option Addr} {l : List Nat} (h : Bts w B A l) (hB : B ≤ B') : Bts w B' A l := by
  rcases h with h | ⟨b, off, e, hlt, hc⟩
  · exact .inl h
  · exact .inr ⟨b, off, e, by omega, hc⟩
theorem Bts.drewN {w : World} {B : Nat} {A : Option Addr} {l : List Nat} (h : Bts w B A l) (n : Nat) : Bts (w.drewN n) B A l := h
theorem below_drawn {B : Nat} {a w : World} (h : Below B a w) (n : Nat) : Below B a (w.drewN n) := ⟨h.os, h.tape, h.output, h.size, h.block⟩
/-- Ints of equal value are equal endings. -/
theorem ret_int {k : IntKind} {a b : Int} (h : a = b) : Ending.returned (.int k a) = .returned (.int k b) := by rw [h]
theorem xor_i64 (a b : Nat) (ha : a < 4294967296) (hb : b < 4294967296) : bits .xor .i64 (a : Int) (b : Int) = ((a ^^^ b : Nat) : Int) := by
  have hx : a ^^^ b < 2 ^ 32 := Nat.xor_lt_two_pow (by omega) (by omega)
  have e : ∀ n : Nat, n < 4294967296 → (BitVec.ofInt 64 (n : Int)).toNat = n := fun n hn => by
    rw [BitVec.ofInt_natCast, BitVec.toNat_ofNat]; exact Nat.mod_eq_of_lt (by omega)
  show IntKind.i64.wrap ((BitVec.ofInt 64 (a : Int) ^^^ BitVec.ofInt 64 (b : Int)).toNat : Int) = _
  rw [BitVec.toNat_xor, e a ha, e b hb, IntKind.wrap_i64]
  omega
/-- The cells of a row of bytes. -/
def bcells (l : List Nat) : List Value := l.map fun b : Nat => .int .u8 (b : Int)
theorem bcells_length (l : List Nat) : (bcells l).length = l.length := by simp [bcells]
theorem bcells_append (a b : List Nat) : bcells (a ++ b) = bcells a ++ bcells b := by simp [bcells]
theorem bcells_get (l : List Nat) (k : Nat) (h : k < l.length) : (bcells l)[k]? = some (.int .u8 ((l.getD k 0 : Nat) : Int)) := by
  simp [bcells, h]
theorem bcells_one (l : List Nat) : ∀ u ∈ bcells l, u.oneCell' = true := by
  intro u hu
  simp only [bcells, List.mem_map] at hu
  obtain ⟨b, _, rfl⟩ := hu
  rfl
/-- The call owns the slice v, and it reads as the bytes l. -/
def OwnB (w : World) (base : Nat) (v : Value) (l : List Nat) : Prop := w.ownsRow base 5 1 v l.length (bcells l)
theorem OwnB.form {w : World} {base : Nat} {v : Value} {l : List Nat} (h : OwnB w base v l) :
    ∃ A cap, v = .slice A l.length cap ∧ Bts w w.heap.size A l ∧ (l ≠ [] → ∃ g, A = some ⟨g, 0, none⟩ ∧ base ≤ g) := by
  rcases h.2 with ⟨rfl, hn⟩ | ⟨g, cap, cur, rfl, hb, hg, hnc, hm, hs, ht⟩
  · have : l = [] := List.eq_nil_of_length_eq_zero hn
    subst this
    exact ⟨none, 0, rfl, .inl rfl, fun h => absurd rfl h⟩
  · refine ⟨_, cap, rfl, .inr ⟨g, 0, rfl, (Array.getElem?_eq_some_iff.1 hg).1, fun k hk => ?_⟩, fun _ => ⟨g, rfl, hb⟩⟩
    have := World.ownsRow.cellAt (g := g) (cap := cap) h k (by omega)
    rw [Nat.zero_add, this, bcells_get l k hk]
theorem OwnB.below {w w' : World} {base : Nat} {v : Value} {l : List Nat} (h : OwnB w base v l) (hb : Below w.heap.size w w') : OwnB w' base v l := by
  refine ⟨h.1, ?_⟩
  rcases h.2 with h2 | ⟨g, cap, cur, hv, hg, hh, r⟩
  · exact .inl h2
  · exact .inr ⟨g, cap, cur, hv, hg, by rw [hb.block g (Array.getElem?_eq_some_iff.1 hh).1]; exact hh, r⟩
theorem OwnB.drewN {w : World} {base : Nat} {v : Value} {l : List Nat} (h : OwnB w base v l) (n : Nat) : OwnB (w.drewN n) base v l := h
theorem bit_odd (y k z : Nat) (hy : M.bitN k z = y) (h : y % 2 = 1) : (y / 2) ^^^ 3988292384 = M.bitN (k + 1) z := by
  show _ = M.bit1 (M.bitN k z); rw [hy]; unfold M.bit1; rw [if_pos h]
theorem bit_even (y k z : Nat) (hy : M.bitN k z = y) (h : y % 2 = 0) : y / 2 = M.bitN (k + 1) z := by
  show _ = M.bit1 (M.bitN k z); rw [hy]; unfold M.bit1; rw [if_neg (by omega)]
set_option maxRecDepth 100000 in
theorem info5 : (Tryz.prog.info? 5).map (fun i => (i.zero, i.size, i.bytes)) = some (some (.int .u8 0), 1, 1) := by kernel_rfl
/-- A new block that holds just these bytes. -/
theorem Bts_new (w : World) (l : List Nat) : Bts (w.alloc (.cells (bcells l).toArray 5)) (w.heap.size + 1) (some ⟨w.heap.size, 0, none⟩) l := by
  refine .inr ⟨_, 0, rfl, by omega, fun k hk => ?_⟩
  rw [World.cell?_alloc_at _ _ _ _ rfl, Nat.zero_add]
  simpa using bcells_get l k hk
theorem Own_new (w : World) (base : Nat) (l : List Nat) (hb : base ≤ w.heap.size) (hl : l.length ≤ 2097152) :
    OwnB (w.alloc (.cells (bcells l).toArray 5)) base (.slice (some ⟨w.heap.size, 0, none⟩) l.length l.length) l := by
  refine ⟨by simp [bcells_length], .inr ⟨_, _, _, rfl, hb, heap_alloc_new _ _, Nat.le_refl _, by unfold maxLen; omega, by simp [bcells_length], ?_⟩⟩
  rw [Nat.mul_one, ← bcells_length l]
  exact List.take_length
/-- What a copy holds behind k rounds. -/
def halfway (l : List Nat) (k : Nat) : List Value := bcells (l.take k) ++ List.replicate (l.length - k) (.int .u8 0)
theorem halfway_zero (l : List Nat) : (madeCells #[Value.int .u8 0] l.length).toList = halfway l 0 := by
  rw [toList_madeCells_one]; simp [halfway, bcells]
theorem halfway_all (l : List Nat) : halfway l l.length = bcells l := by simp [halfway]
theorem halfway_set (l : List Nat) (k : Nat) (hk : k < l.length) : (halfway l k).set k (.int .u8 ((l.getD k 0 : Nat) : Int)) = halfway l (k + 1) := by
  unfold halfway
  have hlen : (bcells (l.take k)).length = k := by rw [bcells_length, List.length_take]; omega
  rw [List.set_append_right _ _ (by omega), hlen, Nat.sub_self, take_snoc l k 0 hk, bcells_append, List.append_assoc]
  congr 1
  obtain ⟨m, hm⟩ : ∃ m, l.length - k = m + 1 := ⟨l.length - k - 1, by omega⟩
  rw [hm, show l.length - (k + 1) = m from by omega]
  rfl
/-- n marks from k on. -/
def marks (k n : Nat) : List Nat := (List.range n).map fun i => (k + i) % 256
theorem marks_length (k n : Nat) : (marks k n).length = n := by simp [marks]
theorem marks_getD (k n i : Nat) (h : i < n) : (marks k n).getD i 0 = (k + i) % 256 := by simp [marks, h]
/-- What a row holds behind j marks. -/
def marked (l : List Nat) (k j : Nat) : List Value := bcells (marks k j) ++ (bcells l).drop j
theorem marked_zero (l : List Nat) (k : Nat) : marked l k 0 = bcells l := by simp [marked, marks, bcells]
theorem marked_all (l : List Nat) (k : Nat) : marked l k l.length = bcells (marks k l.length) := by
  unfold marked; rw [List.drop_of_length_le (by rw [bcells_length]; omega), List.append_nil]
theorem marked_set (l : List Nat) (k j : Nat) (hj : j < l.length) : (marked l k j).set j (.int .u8 (((k + j) % 256 : Nat) : Int)) = marked l k (j + 1) := by
  unfold marked
  have hlen : (bcells (marks k j)).length = j := by rw [bcells_length, marks_length]
  rw [List.set_append_right _ _ (by omega), hlen, Nat.sub_self]
  have hd : (bcells l).drop j = (bcells l)[j]'(by rw [bcells_length]; exact hj) :: (bcells l).drop (j + 1) := List.drop_eq_getElem_cons _
  rw [hd, List.set_cons_zero]
  have hm : marks k (j + 1) = marks k j ++ [(k + j) % 256] := by simp [marks, List.range_succ]
  rw [hm, bcells_append, List.append_assoc]
  rfl
theorem byte_of (q : Nat) : IntKind.u8.wrap (q : Int) = ((q % 256 : Nat) : Int) := by rw [IntKind.wrap_u8]; omega
/-- A slice of bytes that came in, as a list. -/
theorem bytes_in (w : World) (a : Option Addr) (len cap : Nat) (zs : List Int)
    (h : (a = none ∧ len = 0 ∧ cap = 0 ∧ zs = []) ∨
      ∃ x, a = some x ∧ len ≤ cap ∧ cap ≤ maxLen ∧ zs.length = cap ∧ (∀ i, i < zs.length → w.cell? (x.add i) = some (.int .u8 (zs.getD i 0))) ∧ ∀ n ∈ zs, (Lit.int .u8 n).wf = true) :
    ∃ l : List Nat, len = l.length ∧ Bts w w.heap.size a l ∧ AllB l ∧ l.length ≤ maxLen ∧ len ≤ cap := by
  rcases h with ⟨rfl, rfl, rfl, rfl⟩ | ⟨x, rfl, hl, hm, hz, hc, hwf⟩
  · exact ⟨[], rfl, .inl rfl, fun b hb => by simp at hb, by simp, by omega⟩
  · have hb : ∀ n ∈ zs, 0 ≤ n ∧ n < 256 := fun n hn => by
      have := bounds_u8 (hwf n hn); omega
    refine ⟨(zs.take len).map Int.toNat, by simp; omega, ?_, ?_, by simp; omega, hl⟩
    · rcases Nat.eq_zero_or_pos len with h0 | h0
      · subst h0; exact .inl (by simp)
      · obtain ⟨b, off, spot⟩ := x
        have h1 := hc 0 (by omega)
        have hspot : spot = none := by simpa [Addr.add] using World.cell?_spot h1
        subst hspot
        refine .inr ⟨b, off, rfl, ?_, fun k hk => ?_⟩
        · have := World.block_lt_of_cell? w _ h1; simpa [Addr.add] using this
        · have hk' : k < len := by simp at hk; omega
          have := hc k (by omega)
          have ha : (⟨b, off, none⟩ : Addr).add k = ⟨b, off + k, none⟩ := by unfold Addr.add; split <;> simp_all
          rw [ha] at this
          rw [this]
          have hbk := hb (zs.getD k 0) (by rw [List.getD_eq_getElem?_getD, List.getElem?_eq_getElem (by omega)]; exact List.getElem_mem _)
          have e : ((zs.take len).map Int.toNat).getD k 0 = (zs.getD k 0).toNat := by
            simp [hk']
            rw [List.getElem?_eq_getElem (by omega)]; rfl
          rw [e, Int.toNat_of_nonneg hbk.1]
    · intro b hb'
      simp only [List.mem_map] at hb'
      obtain ⟨n, hn, rfl⟩ := hb'
      have := hb n (List.mem_of_mem_take hn)
      omega
theorem OwnB.bts {w : World} {base : Nat} {A : Option Addr} {c : Nat} {l : List Nat} (h : OwnB w base (.slice A l.length c) l) : Bts w w.heap.size A l := by
  obtain ⟨A', c', he, hb, _⟩ := OwnB.form h
  injection he with h1 _ _
  rw [h1]; exact hb
theorem add_at (b off k : Nat) : (⟨b, off, none⟩ : Addr).add k = ⟨b, off + k, none⟩ := by unfold Addr.add; split <;> simp_all
set_option maxRecDepth 100000 in
/-- append(v, q...) where v is the call's own and q lies anywhere. -/
theorem wpList_appB (w : World) {ops : Array Oper} {rest : List Oper} {o : Oper} {a : Act} {Q : Exit → Act → World → Prop} (hgd : o.guard = none) (s x : Operand)
    (ho : o.op = .call { callee := .builtin .append, args := #[s, x], argTypes := #[22, 22] })
    (base : Nat) (v : Value) (p : List Nat) (hs : a.eval s = v) (hown : OwnB w base v p)
    (b off c : Nat) (q : List Nat) (m : Nat) (hm : m = q.length) (hx : a.eval x = .slice (some ⟨b, off, none⟩) m c) (hq : ∀ k, k < q.length → w.cell? ⟨b, off + k, none⟩ = some (.int .u8 (q.getD k 0)))
    (hlen : p.length + q.length ≤ 1099511627776) (hbase : base ≤ w.heap.size)
    (h : ∀ v' w', OwnB w' base v' (p ++ q) → w.grownBy w' v.ownBlock → (v'.ownBlock = v.ownBlock ∨ v'.ownBlock = some w.heap.size) → wpList Tryz.prog ops Q rest (a.put o.dst v') w') :
    wpList Tryz.prog ops Q (o :: rest) a w := by
  subst hm
  obtain ⟨i0, hi, hz0, hz1, hz2⟩ := info_parts info5
  refine wpList_append_own_at (P := Tryz.prog) w hgd s x 22 ho base 5 i0 (.int .u8 0) 1 1 Tryz.underlying22 hi hz0 hz1 hz2 rfl (by decide) v p.length (bcells p) hs hown
    ⟨b, off, none⟩ q.length c (bcells q) hx (by simp [bcells_length]) ?_ (bcells_one q) (by unfold maxLen; omega) (by omega) hbase ?_
  · intro j u hj
    have hj' : j < q.length := by
      rcases Nat.lt_or_ge j q.length with h | h
      · exact h
      · rw [List.getElem?_eq_none (by rw [bcells_length]; exact h)] at hj; cases hj
    rw [add_at, hq j hj', ← hj, bcells_get q j hj']
  · intro v' w' h1 h2 _ h4
    exact h v' w' (by unfold OwnB; rw [List.length_append, bcells_append]; exact h1) h2 h4
set_option maxRecDepth 100000 in
/-- append(v, nil...). -/
theorem wpList_appB_nil (w : World) {ops : Array Oper} {rest : List Oper} {o : Oper} {a : Act} {Q : Exit → Act → World → Prop} (hgd : o.guard = none) (s x : Operand)
    (ho : o.op = .call { callee := .builtin .append, args := #[s, x], argTypes := #[22, 22] })
    (base : Nat) (v : Value) (p : List Nat) (hs : a.eval s = v) (hown : OwnB w base v p) (hx : a.eval x = .slice none 0 0)
    (h : wpList Tryz.prog ops Q rest (a.put o.dst v) w) : wpList Tryz.prog ops Q (o :: rest) a w := by
  obtain ⟨i0, hi, hz0, hz1, hz2⟩ := info_parts info5
  exact wpList_append_own_none (P := Tryz.prog) hgd s x 22 ho base 5 i0 1 Tryz.underlying22 hi v p.length (bcells p) hs hown hx h
theorem one_new (w : World) (b : Nat) (z : Int) (h : z = b) : ∀ k, k < [b].length → (w.alloc (.cells #[.int .u8 z] 5)).cell? ⟨w.heap.size, 0 + k, none⟩ = some (.int .u8 (([b].getD k 0 : Nat) : Int)) := by
  intro k hk
  simp at hk
  subst hk
  simp [h]
/-- What a new byte slice is, as a function returns it. -/
def NewB (w : World) (l : List Nat) (e : Ending) (w' : World) : Prop :=
  ∃ A c, e = .returned (.slice A l.length c) ∧ OwnB w' w.heap.size (.slice A l.length c) l ∧ Below w.heap.size w w'
theorem NewB.of_own {w w' : World} {l : List Nat} {v : Value} (h : OwnB w' w.heap.size v l) (hb : Below w.heap.size w w') : NewB w l (.returned v) w' := by
  obtain ⟨A, c, rfl, _, _⟩ := OwnB.form h
  exact ⟨A, c, rfl, h, hb⟩
theorem own_alloc {w : World} {base : Nat} {v : Value} {l : List Nat} (h : OwnB w base v l) (o : Obj) : OwnB (w.alloc o) base v l := World.ownsRow.alloc h o
theorem own_lo {w : World} {base : Nat} {v : Value} {l : List Nat} (h : OwnB w base v l) : ∀ k, v.ownBlock = some k → base ≤ k := fun k hk => (World.ownsRow.lt h k hk).1
/-- The varint of a number, with fuel. -/
def encF : Nat → Nat → List Nat
  | 0, n => [n]
  | f + 1, n => if n < 128 then [n] else (n % 128 + 128) :: encF f (n / 128)
def encN (n : Nat) : List Nat := encF 4 n
theorem encF_small (f n : Nat) (h : n < 128) : encF f n = [n] := by cases f <;> simp [encF, h]
theorem encF_step (f n : Nat) (h : 128 ≤ n) : encF (f + 1) n = (n % 128 + 128) :: encF f (n / 128) := by simp only [encF]; rw [if_neg (by omega)]
theorem encF_len (f n : Nat) : (encF f n).length ≤ f + 1 ∧ 0 < (encF f n).length := by
  induction f generalizing n with
  | zero => simp [encF]
  | succ f ih => simp only [encF]; split <;> simp; have := ih (n / 128); omega
/-- Where PutNum's loop stands: the bytes p are out, m is left. -/
def Enc (n m : Nat) (p : List Nat) : Prop := ∃ f, m < 128 ^ (f + 1) ∧ p ++ encF f m = encN n ∧ p.length + f = 4
theorem Enc.start {n : Nat} (h : n ≤ 2147483647) : Enc n n [] := ⟨4, by omega, rfl, rfl⟩
theorem Enc.step {n m : Nat} {p : List Nat} (h : Enc n m p) (hm : 128 ≤ m) : Enc n (m / 128) (p ++ [m % 128 + 128]) := by
  obtain ⟨f, h1, h2, h3⟩ := h
  cases f with
  | zero => simp at h1; omega
  | succ f =>
    refine ⟨f, ?_, ?_, by simp; omega⟩
    · rw [Nat.pow_succ] at h1; omega
    · rw [← h2, encF_step f m hm, List.append_assoc]; rfl
theorem Enc.last {n m : Nat} {p : List Nat} (h : Enc n m p) (hm : m < 128) : p ++ [m] = encN n := by
  obtain ⟨f, _, h2, _⟩ := h
  rw [← h2, encF_small f m hm]
theorem Enc.len {n m : Nat} {p : List Nat} (h : Enc n m p) : p.length ≤ 4 := by obtain ⟨f, _, _, h3⟩ := h; omega
def encI (n : Int) : List Nat := if 0 ≤ n ∧ n ≤ 2147483647 then encN n.toNat else []
/-- What a round of PutNum does. -/
theorem putNum_step {w wr w1 : World} {v v' : Value} {n k : Nat} {p : List Nat} {o : Obj} (hown : OwnB wr w.heap.size v p) (henc : Enc n k p) (hk : 128 ≤ k) (hbel : Below w.heap.size w wr)
    (h1 : OwnB w1 w.heap.size v' (p ++ [k % 128 + 128])) (hg : (wr.alloc o).grownBy w1 v.ownBlock) :
    OwnB w1 w.heap.size v' (p ++ [k % 128 + 128]) ∧ Enc n (k / 128) (p ++ [k % 128 + 128]) ∧ Below w.heap.size w w1 :=
  ⟨h1, henc.step hk, (hbel.alloc hbel.size o).grown hg (by have := hbel.size; simp; omega) (own_lo hown)⟩
set_option maxRecDepth 100000 in
theorem l1In_any (x a b : Int) (w : World) : Calls Tryz.prog 24 #[.int .i64 x, .int .i64 a, .int .i64 b] w fun e w' => e = .returned (.bool (decide (a ≤ x ∧ x ≤ b))) ∧ w = w' := by
  by_cases h1 : a ≤ x <;> by_cases h2 : x ≤ b
  all_goals
    go_enter Tryz.func24, Tryz.ntmps24
    go_wp2
    go_ret
    exact ⟨by simp [h1, h2], rfl⟩
set_option maxRecDepth 100000 in
theorem l1In_yes (x a b : Int) (w : World) (h : a ≤ x ∧ x ≤ b) : Calls Tryz.prog 24 #[.int .i64 x, .int .i64 a, .int .i64 b] w fun e w' => e = .returned (.bool true) ∧ w = w' :=
  (l1In_any x a b w).mono fun e w' ⟨he, hw⟩ => ⟨by rw [he]; simp [h], hw⟩
set_option maxRecDepth 100000 in
theorem l1In_no (x a b : Int) (w : World) (h : ¬ (a ≤ x ∧ x ≤ b)) : Calls Tryz.prog 24 #[.int .i64 x, .int .i64 a, .int .i64 b] w fun e w' => e = .returned (.bool false) ∧ w = w' :=
  (l1In_any x a b w).mono fun e w' ⟨he, hw⟩ => ⟨by rw [he]; simp only [h, decide_false], hw⟩
/-- The bytes of a string, as numbers. -/
def strN (s : ByteArray) : List Nat := s.data.toList.map UInt8.toNat
theorem strN_length (s : ByteArray) : (strN s).length = s.size := by rw [strN, List.length_map, Array.length_toList]; rfl
theorem strN_all (s : ByteArray) : AllB (strN s) := by
  intro b hb
  simp only [strN, List.mem_map] at hb
  obtain ⟨c, _, rfl⟩ := hb
  exact c.toNat_lt
theorem strCells_eq (s : ByteArray) : Lib.strCells s = bcells (strN s) := by
  unfold Lib.strCells bcells strN
  rw [List.map_map]
  rfl
theorem strN_getD (s : ByteArray) (k : Nat) (h : k < s.data.size) : (strN s).getD k 0 = s.data[k].toNat := by
  simp [strN]
  rw [Array.getElem?_eq_getElem h]; rfl
set_option maxRecDepth 100000 in
/-- append(v, s...) for a string s. -/
theorem wpList_appS (w : World) {ops : Array Oper} {rest : List Oper} {o : Oper} {a : Act} {Q : Exit → Act → World → Prop} (hgd : o.guard = none) (sl x : Operand)
    (ho : o.op = .call { callee := .builtin .append, args := #[sl, x], argTypes := #[22, 9] })
    (base : Nat) (v : Value) (p : List Nat) (hs : a.eval sl = v) (hown : OwnB w base v p) (s : ByteArray) (hx : a.eval x = .string s)
    (hlen : p.length + s.size ≤ 1099511627776) (hbase : base ≤ w.heap.size)
    (h : ∀ v' w', OwnB w' base v' (p ++ strN s) → w.grownBy w' v.ownBlock → wpList Tryz.prog ops Q rest (a.put o.dst v') w') :
    wpList Tryz.prog ops Q (o :: rest) a w := by
  obtain ⟨i0, hi, hz0, hz1, hz2⟩ := info_parts info5
  refine Lib.wpList_append_own_string (P := Tryz.prog) w hgd sl x 22 9 ho base 5 i0 Tryz.underlying22 Tryz.underlying9 hi hz0 hz1 hz2 v p.length (bcells p) hs hown s hx (by unfold maxLen; omega) (by omega) hbase ?_
  intro v' w' h1 h2 _
  exact h v' w' (by unfold OwnB; rw [List.length_append, bcells_append, strN_length, ← strCells_eq]; exact h1) h2
theorem row_cells (w : World) (s : ByteArray) (cap : Nat) (fr : Nat × Nat) : ∀ k, k < (strN s).length → (w.alloc (.cells (bytesRow s cap) 5 fr)).cell? ⟨w.heap.size, 0 + k, none⟩ = some (.int .u8 (((strN s).getD k 0 : Nat) : Int)) := by
  intro k hk
  rw [strN_length] at hk
  rw [Nat.zero_add, World.cell?_alloc_mark, bytesRow_at s cap k hk, strN_getD s k hk]
theorem encI_len (n : Int) : (encI n).length ≤ 5 := by
  unfold encI
  split
  · exact (encF_len 4 _).1
  · simp
theorem OwnB.cap {w : World} {base : Nat} {A : Option Addr} {c n : Nat} {l : List Nat} (h : OwnB w base (.slice A n c) l) : n = l.length ∧ l.length ≤ c := by
  rcases h.2 with ⟨hv, hn⟩ | ⟨g, cap, cur, hv, _, _, hnc, _⟩
  · injection hv with _ h2 h3; omega
  · injection hv with _ h2 h3; omega
/-- Reading a varint: k bytes are read, n is their number; f bytes more may come. -/
def getF : Nat → Nat → Nat → List Nat → Option (Nat × Nat)
  | 0, _, _, _ => none
  | _ + 1, _, _, [] => none
  | f + 1, k, n, d :: r =>
    if 128 ≤ d then getF f (k + 1) (n + d % 128 * 128 ^ k) r
    else if (0 < k ∧ d = 0) ∨ 2147483647 < n + d * 128 ^ k then none else some (n + d * 128 ^ k, k + 1)
def getN (l : List Nat) (at_ : Int) : Option (Nat × Nat) := if at_ < 0 then none else getF 5 0 0 (l.drop at_.toNat)
theorem drop_cons (l : List Nat) (k : Nat) (h : k < l.length) : l.drop k = l.getD k 0 :: l.drop (k + 1) := by
  rw [List.drop_eq_getElem_cons h, List.getD_eq_getElem?_getD, List.getElem?_eq_getElem h]; rfl
theorem getF_end (f k n : Nat) (l : List Nat) (j : Nat) (h : l.length ≤ j) : getF f k n (l.drop j) = none := by
  rw [List.drop_of_length_le h]; cases f <;> rfl
theorem getF_more (f k n : Nat) (l : List Nat) (j : Nat) (h : j < l.length) (hd : 128 ≤ l.getD j 0) :
    getF (f + 1) k n (l.drop j) = getF f (k + 1) (n + l.getD j 0 % 128 * 128 ^ k) (l.drop (j + 1)) := by
  rw [drop_cons l j h]; simp only [getF]; rw [if_pos hd]
theorem getF_bad (f k n : Nat) (l : List Nat) (j : Nat) (h : j < l.length) (hd : l.getD j 0 < 128) (hb : (0 < k ∧ l.getD j 0 = 0) ∨ 2147483647 < n + l.getD j 0 * 128 ^ k) :
    getF (f + 1) k n (l.drop j) = none := by
  rw [drop_cons l j h]; simp only [getF]; rw [if_neg (by omega), if_pos hb]
theorem getF_good (f k n : Nat) (l : List Nat) (j : Nat) (h : j < l.length) (hd : l.getD j 0 < 128) (hb : ¬ ((0 < k ∧ l.getD j 0 = 0) ∨ 2147483647 < n + l.getD j 0 * 128 ^ k)) :
    getF (f + 1) k n (l.drop j) = some (n + l.getD j 0 * 128 ^ k, k + 1) := by
  rw [drop_cons l j h]; simp only [getF]; rw [if_neg (by omega), if_neg hb]
theorem encF_len_lo (f n : Nat) : ∀ k, k ≤ f → 128 ^ k ≤ n → k + 1 ≤ (encF f n).length := by
  induction f generalizing n with
  | zero => intro k hk _; obtain rfl : k = 0 := by omega
            simp [encF]
  | succ f ih =>
    intro k hk hn
    by_cases h : n < 128
    · have : k = 0 := by
        rcases Nat.eq_zero_or_pos k with h0 | h0
        · exact h0
        · have h2 : 128 ^ 1 ≤ 128 ^ k := Nat.pow_le_pow_right (by omega) h0
          omega
      subst this
      rw [encF_small _ _ h]; simp
    · rw [encF_step f n (by omega), List.length_cons]
      rcases k with _ | k
      · omega
      · have : 128 ^ k ≤ n / 128 := by
          rw [Nat.le_div_iff_mul_le (by omega)]; rw [Nat.pow_succ] at hn; exact hn
        have := ih (n / 128) k (by omega) this
        omega
theorem encF_len_hi (f n : Nat) : ∀ k, n < 128 ^ k → 0 < k → (encF f n).length ≤ k := by
  induction f generalizing n with
  | zero => intro k hk h0; simp [encF]; omega
  | succ f ih =>
    intro k hk h0
    by_cases h : n < 128
    · rw [encF_small _ _ h]; simp; omega
    · rw [encF_step f n (by omega), List.length_cons]
      rcases k with _ | k
      · omega
      · have h1 : n / 128 < 128 ^ k := by rw [Nat.div_lt_iff_lt_mul (by omega)]; rw [Nat.pow_succ] at hk; exact hk
        rcases Nat.eq_zero_or_pos k with hz | hz
        · subst hz; simp at hk; omega
        · have := ih (n / 128) k h1 hz
          omega
/-- The shortest encoding has k + 1 bytes just where the last group is not empty. -/
theorem encI_len_iff (n d k : Nat) (hn : n < 128 ^ k) (hk : k ≤ 4) (hd : d < 128) :
    (encI ((n + d * 128 ^ k : Nat) : Int)).length = k + 1 ↔ ¬ ((0 < k ∧ d = 0) ∨ 2147483647 < n + d * 128 ^ k) := by
  unfold encI
  by_cases hb : 2147483647 < n + d * 128 ^ k
  · rw [if_neg (by omega)]
    simp [hb]
  · rw [if_pos (by omega)]
    have e : ((n + d * 128 ^ k : Nat) : Int).toNat = n + d * 128 ^ k := Int.toNat_natCast _
    rw [e]
    have hup : n + d * 128 ^ k < 128 ^ (k + 1) := by
      rw [Nat.pow_succ]
      have : d * 128 ^ k ≤ 127 * 128 ^ k := Nat.mul_le_mul_right _ (by omega)
      omega
    have hhi := encF_len_hi 4 _ (k + 1) hup (by omega)
    by_cases hd0 : d = 0
    · subst hd0
      simp only [Nat.zero_mul, Nat.add_zero] at *
      rcases Nat.eq_zero_or_pos k with hz | hz
      · subst hz
        have := (encF_len 4 n).2
        unfold encN
        constructor
        · intro _; omega
        · intro _; omega
      · have := encF_len_hi 4 n k hn hz
        unfold encN
        constructor
        · intro _; omega
        · intro h; exact absurd (Or.inl ⟨hz, trivial⟩) h
    · have hlo : 128 ^ k ≤ n + d * 128 ^ k := by
        have : 1 * 128 ^ k ≤ d * 128 ^ k := Nat.mul_le_mul_right _ (by omega)
        omega
      have := encF_len_lo 4 _ k hk hlo
      unfold encN
      constructor
      · intro _ h
        rcases h with h | h
        · exact hd0 h.2
        · exact hb h
      · intro _; omega
theorem or_i64 (a b : Nat) (ha : a < 34359738368) (hb : b < 34359738368) : bits .or .i64 (a : Int) (b : Int) = ((a ||| b : Nat) : Int) := by
  have hx : a ||| b < 2 ^ 35 := Nat.or_lt_two_pow (by omega) (by omega)
  have e : ∀ n : Nat, n < 34359738368 → (BitVec.ofInt 64 (n : Int)).toNat = n := fun n hn => by
    rw [BitVec.ofInt_natCast, BitVec.toNat_ofNat]; exact Nat.mod_eq_of_lt (by omega)
  show IntKind.i64.wrap ((BitVec.ofInt 64 (a : Int) ||| BitVec.ofInt 64 (b : Int)).toNat : Int) = _
  rw [BitVec.toNat_or, e a ha, e b hb, IntKind.wrap_i64]
  omega
theorem pow_128 (k : Nat) : 128 ^ k = 2 ^ (7 * k) := by rw [Nat.pow_mul]
/-- One group more. -/
theorem or_group (n x k : Nat) (hn : n < 128 ^ k) (hk : k ≤ 4) (hx : x < 128) :
    bits .or .i64 (n : Int) (wrap64 ((x : Int) * 2 ^ (7 * k))) = ((n + x * 128 ^ k : Nat) : Int) ∧ n + x * 128 ^ k < 128 ^ (k + 1) ∧ 128 ^ (k + 1) ≤ 34359738368 := by
  have h5 : 128 ^ (k + 1) ≤ 34359738368 := by
    have : 128 ^ (k + 1) ≤ 128 ^ 5 := Nat.pow_le_pow_right (by omega) (by omega)
    omega
  have hup : n + x * 128 ^ k < 128 ^ (k + 1) := by
    rw [Nat.pow_succ]
    have : x * 128 ^ k ≤ 127 * 128 ^ k := Nat.mul_le_mul_right _ (by omega)
    omega
  refine ⟨?_, hup, h5⟩
  have e : (x : Int) * 2 ^ (7 * k) = ((x * 128 ^ k : Nat) : Int) := by rw [pow_128]; push_cast; rfl
  have hw : wrap64 ((x * 128 ^ k : Nat) : Int) = ((x * 128 ^ k : Nat) : Int) := by
    have hsm : x * 128 ^ k < 34359738368 := by omega
    exact IntWalk.wrap64_in _ (by omega)
  rw [e, hw, or_i64 n _ (by omega) (by omega), Nat.or_comm, nat_join (7 * k) _ n, Nat.add_comm]
  · rw [pow_128]; exact Nat.mul_mod_left _ _
  · rw [← pow_128]; exact hn
/-- What GetNum hands back. -/
def gotV (o : Option (Nat × Nat)) (at_ : Nat) : Value :=
  match o with
  | some (n, c) => .tuple #[.int .i64 (n : Int), .int .i64 ((at_ + c : Nat) : Int), .bool true]
  | none => .tuple #[.int .i64 0, .int .i64 0, .bool false]
theorem ret_no {o : Option (Nat × Nat)} {a : Nat} (h : o = none) : Ending.returned (.tuple #[.int .i64 0, .int .i64 0, .bool false]) = .returned (gotV o a) := by rw [h]; rfl
theorem ret_yes {o : Option (Nat × Nat)} {a n c : Nat} {x y : Int} (h : o = some (n, c)) (hx : x = n) (hy : y = ((a + c : Nat) : Int)) :
    Ending.returned (.tuple #[.int .i64 x, .int .i64 y, .bool true]) = .returned (gotV o a) := by rw [h, hx, hy]; rfl
theorem got_form (o : Option (Nat × Nat)) (a : Nat) : ∃ (x y : Int) (t : Bool), gotV o a = .tuple #[.int .i64 x, .int .i64 y, .bool t] := by
  rcases o with _ | ⟨n, k⟩
  · exact ⟨0, 0, false, rfl⟩
  · exact ⟨_, _, true, rfl⟩
/-- The second of two boxes, each written twice. -/
theorem boxes (w : World) (g : Nat) (b x y : Value) (hb : w.cell? ⟨g + 1, 0, none⟩ = some b) :
    ((((w.setCell ⟨g, 0, none⟩ x).setCell ⟨g + 1, 0, none⟩ y).setCell ⟨g, 0, none⟩ x).setCell ⟨g + 1, 0, none⟩ y).cell? ⟨g + 1, 0, none⟩ = some y := by
  have hne : (⟨g, 0, none⟩ : Addr) ≠ ⟨g + 1, 0, none⟩ := by simp
  have h1 : (w.setCell ⟨g, 0, none⟩ x).cell? ⟨g + 1, 0, none⟩ = some b := by rw [World.cell?_setCell_other _ _ _ _ hne]; exact hb
  have h2 := World.cell?_setCell_same _ _ y h1
  have h3 : (((w.setCell ⟨g, 0, none⟩ x).setCell ⟨g + 1, 0, none⟩ y).setCell ⟨g, 0, none⟩ x).cell? ⟨g + 1, 0, none⟩ = some y := by rw [World.cell?_setCell_other _ _ _ _ hne]; exact h2
  exact World.cell?_setCell_same _ _ y h3
theorem getF_some (f k n : Nat) (l : List Nat) {v c : Nat} (h : getF f k n l = some (v, c)) : v ≤ 2147483647 ∧ k < c ∧ c ≤ k + f ∧ c ≤ k + l.length := by
  induction f generalizing k n l with
  | zero => cases h
  | succ f ih =>
    cases l with
    | nil => cases h
    | cons d r =>
      simp only [getF] at h
      split at h
      · have := ih _ _ _ h
        simp only [List.length_cons]; omega
      · split at h
        · cases h
        · injection h with h
          injection h with h1 h2
          simp only [List.length_cons]; omega
theorem getN_some {l : List Nat} {at_ : Int} {v c : Nat} (h : getN l at_ = some (v, c)) : 0 ≤ at_ ∧ v ≤ 2147483647 ∧ 0 < c ∧ c ≤ 5 ∧ at_.toNat + c ≤ l.length := by
  unfold getN at h
  split at h
  · cases h
  · have := getF_some _ _ _ _ h
    rw [List.length_drop] at this
    omega
/-- What GetText reads. -/
def getT (l : List Nat) (at_ : Int) : Option (List Nat × Nat) :=
  match getN l at_ with
  | none => none
  | some (n, k) => if l.length < at_.toNat + k + n then none else some ((l.drop (at_.toNat + k)).take n, at_.toNat + k + n)
/-- The string of these bytes. -/
def strB (l : List Nat) : ByteArray := strOfNums (l.map fun b : Nat => (b : Int))
def gotT (o : Option (List Nat × Nat)) : Value :=
  match o with
  | some (t, y) => .tuple #[.string (strB t), .int .i64 (y : Int), .bool true]
  | none => .tuple #[.string ⟨#[]⟩, .int .i64 0, .bool false]
set_option maxRecDepth 100000 in
theorem conv_bytes (w : World) (b off len cap : Nat) (t : List Nat) (hlen : t.length = len) (hc : ∀ k, k < t.length → w.cell? ⟨b, off + k, none⟩ = some (.int .u8 ((t.getD k 0 : Nat) : Int))) :
    (convert 22 9 (.slice (some ⟨b, off, none⟩) len cap)).run Tryz.prog w = .ok (.string (strB t)) w := by
  refine run_convert_bytes_arg w 22 5 Tryz.underlying22 Tryz.underlying5 b off len cap _ (by simpa using hlen) (fun i hi => ?_) 9 Tryz.underlying9
  rw [hc i (by omega)]
  simp [List.getD_eq_getElem?_getD]
  rw [List.getElem?_eq_getElem (by omega)]; rfl
set_option maxRecDepth 100000 in
/-- The slice that GetText turns into a string, at whatever place. -/
theorem conv_part (w : World) (b off : Nat) (l : List Nat) (y n cap len : Nat) (hlen : len = n) (hy : y + n ≤ l.length)
    (hc : ∀ k, k < l.length → w.cell? ⟨b, off + k, none⟩ = some (.int .u8 ((l.getD k 0 : Nat) : Int))) :
    (convert 22 9 (.slice (some ⟨b, off + y, none⟩) len cap)).run Tryz.prog w = .ok (.string (strB ((l.drop y).take n))) w := by
  refine conv_bytes w b (off + y) len cap _ (by simp; omega) (fun k hk => ?_)
  simp at hk
  rw [Nat.add_assoc, hc (y + k) (by omega)]
  simp [List.getD_eq_getElem?_getD, hk]
  rw [List.getElem?_eq_getElem (by omega)]; rfl
theorem getT_no1 {l : List Nat} {at_ : Int} (h : getN l at_ = none) : getT l at_ = none := by unfold getT; rw [h]
theorem getT_no2 {l : List Nat} {at_ : Int} {n k : Nat} (h : getN l at_ = some (n, k)) (hlt : l.length < at_.toNat + k + n) : getT l at_ = none := by unfold getT; rw [h]; simp only; rw [if_pos hlt]
theorem getT_yes {l : List Nat} {at_ : Int} {n k : Nat} (h : getN l at_ = some (n, k)) (hlt : ¬ l.length < at_.toNat + k + n) : getT l at_ = some ((l.drop (at_.toNat + k)).take n, at_.toNat + k + n) := by
  unfold getT; rw [h]; simp only; rw [if_neg hlt]
theorem gotT_form (o : Option (List Nat × Nat)) : ∃ (x : ByteArray) (y : Int) (t : Bool), gotT o = .tuple #[.string x, .int .i64 y, .bool t] := by
  rcases o with _ | ⟨n, k⟩
  · exact ⟨_, 0, false, rfl⟩
  · exact ⟨_, _, true, rfl⟩
set_option maxRecDepth 100000 in
theorem big_no (A : Option Addr) (n c : Nat) (w : World) (h : n ≤ 1048576) : Calls Tryz.prog 4 #[.slice A n c] w fun e w' => e = .returned (.bool false) ∧ w = w' := by
  have hd : decide (1048576 < (n : Int)) = false := by simp; omega
  go_enter Tryz.func4, Tryz.ntmps4
  go_wp2
  go_ret
  exact ⟨rfl, rfl⟩
set_option maxRecDepth 100000 in
theorem big_yes (A : Option Addr) (n c : Nat) (w : World) (h : 1048576 < n) : Calls Tryz.prog 4 #[.slice A n c] w fun e w' => e = .returned (.bool true) ∧ w = w' := by
  have hd : decide (1048576 < (n : Int)) = true := by simp; omega
  go_enter Tryz.func4, Tryz.ntmps4
  go_wp2
  go_ret
  exact ⟨rfl, rfl⟩
/-- The law's own reader of its code. -/
def at0N (l : List Nat) (i : Nat) : Nat := if i < l.length then l.getD i 0 else (i * 7 + l.length) % 256
theorem at0N_lt {l : List Nat} (h : AllB l) (i : Nat) : at0N l i < 256 := by
  unfold at0N; split
  · exact h.getD i
  · omega
theorem Bts.take {w : World} {B : Nat} {A : Option Addr} {l : List Nat} (h : Bts w B A l) (k : Nat) : Bts w B A (l.take k) := by
  rcases h with rfl | ⟨b, off, e, hb, hc⟩
  · exact .inl (by simp)
  · refine .inr ⟨b, off, e, hb, fun j hj => ?_⟩
    simp at hj
    rw [hc j (by omega)]
    simp [List.getD_eq_getElem?_getD, hj]
    rw [List.getElem?_eq_getElem (by omega)]; rfl
set_option maxRecDepth 100000 in
/-- append(v, q...) where v is the call's own and q came in, nil or not. -/
theorem wpList_appA (w : World) {ops : Array Oper} {rest : List Oper} {o : Oper} {a : Act} {Q : Exit → Act → World → Prop} (hgd : o.guard = none) (s x : Operand)
    (ho : o.op = .call { callee := .builtin .append, args := #[s, x], argTypes := #[22, 22] })
    (base : Nat) (v : Value) (p : List Nat) (hs : a.eval s = v) (hown : OwnB w base v p)
    (B : Nat) (A : Option Addr) (c : Nat) (q : List Nat) (m : Nat) (hmq : m = q.length) (hx : a.eval x = .slice A m c) (hq : Bts w B A q) (hnil : A = none → c = 0)
    (hlen : p.length + q.length ≤ 1099511627776) (hbase : base ≤ w.heap.size)
    (h : ∀ v' w', OwnB w' base v' (p ++ q) → w.grownBy w' v.ownBlock → (v'.ownBlock = v.ownBlock ∨ v'.ownBlock = some w.heap.size) → wpList Tryz.prog ops Q rest (a.put o.dst v') w') :
    wpList Tryz.prog ops Q (o :: rest) a w := by
  subst hmq
  obtain ⟨i0, hi, hz0, hz1, hz2⟩ := info_parts info5
  rcases A with _ | ad
  · have hq0 : q = [] := by
      rcases hq with h | ⟨_, _, h, _⟩
      · exact h
      · cases h
    subst hq0
    rw [hnil rfl] at hx
    exact wpList_appB_nil w hgd s x ho base v p hs hown hx (h v w (by simpa using hown) (World.grownBy.refl _ _) (.inl rfl))
  · refine wpList_append_own_at (P := Tryz.prog) w hgd s x 22 ho base 5 i0 (.int .u8 0) 1 1 Tryz.underlying22 hi hz0 hz1 hz2 rfl (by decide) v p.length (bcells p) hs hown
      ad q.length c (bcells q) hx (by simp [bcells_length]) ?_ (bcells_one q) (by unfold maxLen; omega) (by omega) hbase ?_
    · intro j u hj
      have hj' : j < q.length := by
        rcases Nat.lt_or_ge j q.length with h | h
        · exact h
        · rw [List.getElem?_eq_none (by rw [bcells_length]; exact h)] at hj; cases hj
      rcases hq with rfl | ⟨b, off, e, _, hc⟩
      · simp at hj'
      · injection e with e
        subst e
        rw [add_at, hc j hj', ← hj, bcells_get q j hj']
    · intro v' w' h1 h2 _ h4
      exact h v' w' (by unfold OwnB; rw [List.length_append, bcells_append]; exact h1) h2 h4
theorem bcells_set (l : List Nat) (k v : Nat) : (bcells l).set k (.int .u8 (v : Int)) = bcells (l.set k v) := by
  unfold bcells; rw [List.map_set]
theorem set_split (l : List Nat) (k v : Nat) (h : k < l.length) : l = l.take k ++ l.getD k 0 :: l.drop (k + 1) ∧ l.set k v = l.take k ++ v :: l.drop (k + 1) := by
  constructor
  · rw [← drop_cons l k h, List.take_append_drop]
  · rw [List.set_eq_take_append_cons_drop, if_pos h]
theorem crc_set (l : List Nat) (hb : AllB l) (k v : Nat) (h : k < l.length) (hv : v < 256) (hne : l.getD k 0 ≠ v) : M.crc (l.set k v) ≠ M.crc l := by
  obtain ⟨h1, h2⟩ := set_split l k v h
  rw [h2]
  intro e
  have e2 : M.crc (l.take k ++ v :: l.drop (k + 1)) = M.crc (l.take k ++ l.getD k 0 :: l.drop (k + 1)) := by rw [e, ← h1]
  exact M.crc_changed (l.take k) (l.drop (k + 1)) (hb.take k) (hb.drop (k + 1)) hv (hb.getD k) hne.symm e2
theorem set_all (l : List Nat) (hb : AllB l) (k v : Nat) (hv : v < 256) : AllB (l.set k v) := by
  intro b hb'
  rcases List.mem_or_eq_of_mem_set hb' with h | rfl
  · exact hb b h
  · exact hv
theorem OwnB.set {w : World} {base g c k v n : Nat} {l : List Nat} (h : OwnB w base (.slice (some ⟨g, 0, none⟩) n c) l) :
    OwnB (w.setCell ⟨g, k, none⟩ (.int .u8 (v : Int))) base (.slice (some ⟨g, 0, none⟩) n c) (l.set k v) := by
  have hn := (OwnB.cap h).1
  subst hn
  have := (World.ownsRow.stored h k (.int .u8 (v : Int))).1
  unfold OwnB
  rw [List.length_set, ← bcells_set]
  exact this
theorem OwnB.bts_n {w : World} {base n : Nat} {A : Option Addr} {c : Nat} {l : List Nat} (h : OwnB w base (.slice A n c) l) : Bts w w.heap.size A l := by
  obtain ⟨A', c', he, hb, _⟩ := OwnB.form h
  injection he with h1 _ _
  rw [h1]; exact hb
theorem xor_ne {a m : Nat} (hm : 0 < m) : a ≠ a ^^^ m := by
  intro h
  have h2 : a ^^^ 0 = a ^^^ m := by rw [Nat.xor_zero]; exact h
  have := M.xor_cancel_left h2
  omega
/-- Block g is a cursor over the bytes l, which lie at A, below the cursor. -/
def Cur (w : World) (g : Nat) (A : Option Addr) (l : List Nat) (c : Nat) : Prop :=
  Bts w g A l ∧ ∃ (i : Nat) (h : Int), i ≤ l.length ∧ w.heap[g]? = some (.cells #[.slice A l.length c, .int .i64 (i : Int), .int .i64 h] 49 (0, 0))
theorem Cur.lt {w : World} {g : Nat} {A : Option Addr} {l : List Nat} {c : Nat} (h : Cur w g A l c) : g < w.heap.size := by
  obtain ⟨_, i, x, _, hg⟩ := h
  exact (Array.getElem?_eq_some_iff.1 hg).1
theorem Cur.below {w w' : World} {g : Nat} {A : Option Addr} {l : List Nat} {c : Nat} (h : Cur w g A l c) {B : Nat} (hb : Below B w w') (hB : g < B) : Cur w' g A l c := by
  obtain ⟨h1, i, x, hi, hg⟩ := h
  exact ⟨h1.below (hb.mono (by omega)), i, x, hi, by rw [hb.block g hB]; exact hg⟩
def NewCur (w : World) (A : Option Addr) (l : List Nat) (c : Nat) (e : Ending) (w' : World) : Prop :=
  e = .returned (.pointer (some ⟨w.heap.size, 0, none⟩)) ∧ Cur w' w.heap.size A l c ∧ Below w.heap.size w w'
theorem newCur_mk (w : World) (A : Option Addr) (l : List Nat) (c : Nat) (h : Int) (hA : Bts w w.heap.size A l) :
    NewCur w A l c (.returned (.pointer (some ⟨w.heap.size, 0, none⟩))) (w.alloc (.cells #[.slice A l.length c, .int .i64 0, .int .i64 h] 49)) := by
  have b : Below w.heap.size w (w.alloc (.cells #[.slice A l.length c, .int .i64 0, .int .i64 h] 49)) := (Below.refl _ _).alloc (Nat.le_refl _) _
  exact ⟨rfl, ⟨hA.below b, 0, h, by omega, heap_alloc_new _ _⟩, b⟩
set_option maxHeartbeats 400000 in
set_option maxRecDepth 100000 in
theorem l1New_any (A : Option Addr) (l : List Nat) (c : Nat) (w : World) (hl : l.length ≤ 2097152) (hA : Bts w w.heap.size A l) (hb : AllB l) :
    Calls Tryz.prog 10 #[.slice A l.length c] w (NewCur w A l c) := by
  have HF := Lib.hid (fun h => newCur_mk w A l c h hA)
  go_enter Tryz.func10, Tryz.ntmps10
  go_wp2
  go_loop [3, 4] (fun h i => ∃ (n : Int) (k : Nat), k ≤ l.length ∧ i = .int .i64 k ∧ h = .int .i64 n) (fun _ i => l.length - (intOf i).toNat)
  case atStart => exact ⟨_, 0, by omega, rfl, rfl⟩
  case round =>
    obtain ⟨n, k, hk, rfl, rfl⟩ := hrel
    by_cases hlt : k < l.length
    · obtain ⟨b, off, rfl, hbB, hc⟩ := hA.at_ hlt
      have hd := hb.getD k
      generalize l.getD k 0 = d at *
      by_cases h4 : k < 4000
      · go_wp2
        go_round
        case rel => exact ⟨_, k + 1, by omega, by go_num, rfl⟩
        case measure => simp [intOf]; omega
      · go_wp2
        go_ret
        exact HF.out _
    · go_wp2
      go_ret
      exact HF.out _
/-- The low eight bits. -/
def low8 (y : Int) : Nat := (bits .and .i64 y 255).toNat
theorem low8_eq (y : Int) : bits .and .i64 y 255 = ((low8 y : Nat) : Int) ∧ low8 y < 256 := by
  have h : bits .and .i64 y 255 = (((BitVec.ofInt 64 y).toNat % 256 : Nat) : Int) := by
    show IntKind.i64.wrap ((BitVec.ofInt 64 y &&& BitVec.ofInt 64 255).toNat : Int) = _
    have e : (BitVec.ofInt 64 (255 : Int)).toNat = 255 := by decide
    rw [BitVec.toNat_and, e, nat_mask8, IntKind.wrap_i64]
    omega
  unfold low8
  rw [h]
  omega
theorem low8_in (y : Int) : 0 ≤ ((low8 y : Nat) : Int) ∧ ((low8 y : Nat) : Int) < 256 := by have := (low8_eq y).2; omega
theorem grown_drawn {a w : World} {row : Option Nat} (h : a.grownBy w row) (n : Nat) : a.grownBy (w.drewN n) row := ⟨h.os, h.tape, h.output, h.size, h.block⟩
def GotByte (w : World) (g : Nat) (A : Option Addr) (l : List Nat) (c : Nat) (e : Ending) (w' : World) : Prop :=
  ∃ x : Nat, x < 256 ∧ e = .returned (.int .i64 (x : Int)) ∧ Cur w' g A l c ∧ w.grownBy w' (some g)
theorem got_byte_next {w w1 : World} {g : Nat} {A : Option Addr} {l : List Nat} {c i : Nat} {h : Int} (n : Nat) (x : Int) (hx : 0 ≤ x ∧ x < 256) (gr : w.grownBy w1 (some g)) (hA : Bts w1 g A l) (hin : i < l.length)
    (hg : w1.heap[g]? = some (.cells #[.slice A l.length c, .int .i64 (i : Int), .int .i64 h] 49 (0, 0))) :
    GotByte w g A l c (.returned (.int .i64 x)) ((w1.setCell ⟨g, 1, none⟩ (.int .i64 ((i : Int) + 1))).drewN n) := by
  have b : Below g w1 ((w1.setCell ⟨g, 1, none⟩ (.int .i64 ((i : Int) + 1))).drewN n) := below_drawn ((Below.refl _ _).setCell (by exact Nat.le_refl _) _) n
  refine ⟨x.toNat, by omega, by rw [Int.toNat_of_nonneg hx.1], ⟨hA.below b, i + 1, h, by omega, ?_⟩, ?_⟩
  · exact heap_setCell_same w1 g 1 _ 49 (.int .i64 ((i : Int) + 1)) hg
  · refine gr.trans ⟨rfl, rfl, rfl, by simp [World.drewN, World.setCell], fun k _ hk => ?_⟩
    exact Below.heap_setCell w1 ⟨g, 1, none⟩ _ k (fun e => hk (by rw [e]))
theorem got_byte_end {w w1 : World} {g : Nat} {A : Option Addr} {l : List Nat} {c i : Nat} {h : Int} (n : Nat) (x : Int) (hx : 0 ≤ x ∧ x < 256) (gr : w.grownBy w1 (some g)) (hA : Bts w1 g A l) (hi : i ≤ l.length)
    (hg : w1.heap[g]? = some (.cells #[.slice A l.length c, .int .i64 (i : Int), .int .i64 h] 49 (0, 0))) :
    GotByte w g A l c (.returned (.int .i64 x)) (w1.drewN n) :=
  ⟨x.toNat, by omega, by rw [Int.toNat_of_nonneg hx.1], ⟨hA, i, h, hi, hg⟩, gr.trans ⟨rfl, rfl, rfl, Nat.le_refl _, fun _ _ _ => rfl⟩⟩
set_option maxHeartbeats 800000 in
set_option maxRecDepth 100000 in
theorem l1Byte_any (A : Option Addr) (l : List Nat) (c g : Nat) (w : World) (hl : l.length ≤ 2097152) (hb : AllB l) (hc : Cur w g A l c) :
    Calls Tryz.prog 40 #[.pointer (some ⟨g, 0, none⟩)] w (GotByte w g A l c) := by
  obtain ⟨hA, i, h, hi, hg⟩ := hc
  have c2 : w.cell? ⟨g, 2, none⟩ = some (.int .i64 h) := cell_of_row w g 2 _ 49 (0, 0) hg
  have f2 : w.frozen? ⟨g, 2, none⟩ = false := frozen_of_row w g 2 _ 49 hg
  have hl8 : ∀ y : Int, bits .and .i64 y 255 = ((low8 y : Nat) : Int) := fun y => (low8_eq y).1
  have HG := Lib.hid hg
  clear hg
  go_enter Tryz.func40, Tryz.ntmps40
  go_wp2
  obtain ⟨h2, hh2⟩ : ∃ h2, h2 = wrap64 (wrap64 (h * 6364136223846793005) + 1442695040888963407) := ⟨_, rfl⟩
  rw [← hh2]
  clear hh2
  have hg1 := heap_setCell_same w g 2 _ 49 (.int .i64 h2) HG.out
  have gr1 : w.grownBy (w.setCell ⟨g, 2, none⟩ (.int .i64 h2)) (some g) := ⟨rfl, rfl, rfl, by simp, fun k _ hk => Below.heap_setCell _ _ _ _ (fun e => hk (by rw [e]))⟩
  have hA1 : Bts (w.setCell ⟨g, 2, none⟩ (.int .i64 h2)) g A l := hA.below ((Below.refl _ _).setCell (by exact Nat.le_refl _) _)
  clear c2 f2 HG
  generalize w.setCell ⟨g, 2, none⟩ (.int .i64 h2) = w1 at *
  have c0 : w1.cell? ⟨g, 0, none⟩ = some (.slice A l.length c) := cell_of_row w1 g 0 _ 49 (0, 0) hg1
  have c1 : w1.cell? ⟨g, 1, none⟩ = some (.int .i64 (i : Int)) := cell_of_row w1 g 1 _ 49 (0, 0) hg1
  have c2 : w1.cell? ⟨g, 2, none⟩ = some (.int .i64 h2) := cell_of_row w1 g 2 _ 49 (0, 0) hg1
  have f1 : w1.frozen? ⟨g, 1, none⟩ = false := frozen_of_row w1 g 1 _ 49 hg1
  have HG := Lib.hid hg1
  clear hg1
  by_cases hin : i < l.length
  · obtain ⟨b, off, rfl, hbB, hcell⟩ := hA1.at_ hin
    have hd := hb.getD i
    generalize l.getD i 0 = d at *
    go_quiet (fail)
    go_wp2
    go_quiet (fail)
    go_wp2
    go_quiet (fail)
    go_wp2
    go_ret
    exact got_byte_next _ _ (low8_in _) gr1 hA1 hin HG.out
  · have hge : decide ((i : Int) < (l.length : Int)) = false := by simp; omega
    go_quiet (fail)
    go_wp2
    go_quiet (fail)
    go_wp2
    go_ret
    exact got_byte_end _ _ (low8_in _) (grown_drawn gr1 _) hA1 hi HG.out
def GotBelow (w : World) (g : Nat) (A : Option Addr) (l : List Nat) (c n : Nat) (e : Ending) (w' : World) : Prop :=
  ∃ x : Nat, x < n ∧ e = .returned (.int .i64 (x : Int)) ∧ Cur w' g A l c ∧ w.grownBy w' (some g)
theorem got_below {w w' : World} {g : Nat} {A : Option Addr} {l : List Nat} {c n : Nat} {x : Int} (hx : 0 ≤ x ∧ x < n) (hc : Cur w' g A l c) (gr : w.grownBy w' (some g)) : GotBelow w g A l c n (.returned (.int .i64 x)) w' :=
  ⟨x.toNat, by omega, by rw [Int.toNat_of_nonneg hx.1], hc, gr⟩
set_option maxRecDepth 100000 in
set_option maxHeartbeats 400000 in
theorem l1Below_any (A : Option Addr) (l : List Nat) (c g n : Nat) (w : World) (hl : l.length ≤ 2097152) (hb : AllB l) (hn : 0 < n) (hn2 : n ≤ 2147483648) (hc : Cur w g A l c) :
    Calls Tryz.prog 21 #[.pointer (some ⟨g, 0, none⟩), .int .i64 n] w (GotBelow w g A l c n) := by
  by_cases h256 : n ≤ 256
  · go_enter Tryz.func21, Tryz.ntmps21
    go_wp2_with fail
    refine (l1Byte_any A l c g _ hl hb hc).mono ?_
    rintro e w1 ⟨x, hx, rfl, hc1, gr1⟩
    go_wp2
    go_ret
    exact got_below ⟨Int.emod_nonneg _ (by omega), Int.emod_lt_of_pos _ (by omega)⟩ hc1 gr1
  · go_enter Tryz.func21, Tryz.ntmps21
    go_wp2_with fail
    refine (l1Byte_any A l c g _ hl hb hc).mono ?_
    rintro e w1 ⟨x, hx, rfl, hc1, gr1⟩
    go_wp2_with fail
    refine (l1Byte_any A l c g _ hl hb hc1).mono ?_
    rintro e w2 ⟨y, hy, rfl, hc2, gr2⟩
    go_wp2_with fail
    refine (l1Byte_any A l c g _ hl hb hc2).mono ?_
    rintro e w3 ⟨z, hz, rfl, hc3, gr3⟩
    go_wp2_with fail
    refine (l1Byte_any A l c g _ hl hb hc3).mono ?_
    rintro e w4 ⟨u, hu, rfl, hc4, gr4⟩
    go_wp2
    go_ret
    exact got_below ⟨Int.emod_nonneg _ (by omega), Int.emod_lt_of_pos _ (by omega)⟩ hc4 (gr1.trans (gr2.trans (gr3.trans gr4)))
def GotPick (w : World) (g : Nat) (A : Option Addr) (l : List Nat) (c : Nat) (xs : List ByteArray) (e : Ending) (w' : World) : Prop :=
  ∃ s ∈ xs, e = .returned (.string s) ∧ Cur w' g A l c ∧ w.grownBy w' (some g)
theorem getD_mem {α : Type} (xs : List α) (k : Nat) (d : α) (h : k < xs.length) : xs.getD k d ∈ xs := by
  rw [List.getD_eq_getElem?_getD, List.getElem?_eq_getElem h]; exact List.getElem_mem _
theorem strings_new (w : World) (xs : List ByteArray) : ∀ k, k < xs.length → (w.alloc (.cells (xs.map Value.string).toArray 9)).cell? ⟨w.heap.size, k, none⟩ = some (.string (xs.getD k ByteArray.empty)) := by
  intro k hk
  rw [World.cell?_alloc_at _ _ _ _ rfl]
  simp [hk]
/-- The four strings of DrawPutText. -/
def fourTexts : List ByteArray := [⟨#[]⟩, ⟨#[97]⟩, ⟨#[116, 119, 111, 32, 119, 111, 114, 100, 115]⟩, ⟨#[0, 255]⟩]
def GotText (w : World) (xs : List ByteArray) (e : Ending) (w' : World) : Prop := ∃ s ∈ xs, e = .returned (.string s) ∧ Below w.heap.size w w'
/-- A varint that was written is read, whatever stands behind it. -/
theorem getF_encF (f k a n : Nat) (rest : List Nat) (hn : n < 128 ^ (f + 1)) (hk : k = 0 ∨ n ≠ 0) (hle : a + n * 128 ^ k ≤ 2147483647) :
    getF (f + 1) k a (encF f n ++ rest) = some (a + n * 128 ^ k, k + (encF f n).length) := by
  induction f generalizing k a n with
  | zero =>
    simp at hn
    simp only [encF, List.cons_append, List.nil_append, getF]
    rw [if_neg (by omega), if_neg (by omega)]
    simp
  | succ f ih =>
    by_cases h : n < 128
    · rw [encF_small _ _ h]
      simp only [List.cons_append, List.nil_append, getF]
      rw [if_neg (by omega), if_neg (by omega)]
      simp
    · rw [encF_step f n (by omega)]
      have hd : n / 128 * 128 + n % 128 = n := Nat.div_add_mod' n 128
      have hval : a + (n % 128 + 128) % 128 * 128 ^ k + n / 128 * 128 ^ (k + 1) = a + n * 128 ^ k := by
        have e1 : (n % 128 + 128) % 128 = n % 128 := by omega
        rw [e1, Nat.pow_succ, Nat.add_assoc]
        congr 1
        have e2 : n / 128 * (128 ^ k * 128) = n / 128 * 128 * 128 ^ k := by rw [Nat.mul_comm (128 ^ k) 128, Nat.mul_assoc]
        rw [e2, ← Nat.add_mul, Nat.add_comm (n % 128), hd]
      have h1 : n / 128 < 128 ^ (f + 1) := by rw [Nat.div_lt_iff_lt_mul (by omega)]; rw [Nat.pow_succ] at hn; exact hn
      have := ih (k + 1) (a + (n % 128 + 128) % 128 * 128 ^ k) (n / 128) h1 (.inr (by omega)) (by rw [hval]; exact hle)
      simp only [List.cons_append]
      rw [getF, if_pos (by omega), this, hval, List.length_cons]
      congr 2
      omega
theorem getN_encN (p rest : List Nat) (n : Nat) (hn : n ≤ 2147483647) : getN (p ++ (encN n ++ rest)) (p.length : Int) = some (n, (encN n).length) := by
  unfold getN
  rw [if_neg (by omega), Int.toNat_natCast, List.drop_left]
  have := getF_encF 4 0 0 n rest (by omega) (.inl rfl) (by omega)
  simpa [encN] using this
theorem strB_strN (s : ByteArray) : strB (strN s) = s := by
  unfold strB strN strOfNums
  rw [List.map_map, List.map_map]
  have e : s.data.toList.map ((fun n : Int => UInt8.ofNat n.toNat) ∘ (fun b : Nat => (b : Int)) ∘ UInt8.toNat) = s.data.toList := by
    have h : ((fun n : Int => UInt8.ofNat n.toNat) ∘ (fun b : Nat => (b : Int)) ∘ UInt8.toNat) = id := by
      funext b; simp
    rw [h, List.map_id]
  exact congrArg (fun x : List UInt8 => (⟨x.toArray⟩ : ByteArray)) e
theorem getT_put (p : List Nat) (s : ByteArray) (hs : s.size < 128) :
    getT (p ++ (encI s.size ++ strN s)) (p.length : Int) = some (strN s, (p ++ (encI s.size ++ strN s)).length) := by
  have he : encI s.size = encN s.size := by unfold encI; rw [if_pos (by omega), Int.toNat_natCast]
  rw [he]
  have hg := getN_encN p (strN s) s.size (by omega)
  have h1 : encN s.size = [s.size] := encF_small 4 _ hs
  have hl := strN_length s
  have hlen : (p ++ (encN s.size ++ strN s)).length = p.length + 1 + s.size := by
    rw [h1]; simp only [List.length_append, List.length_cons, List.length_nil]; omega
  rw [h1] at hg hlen ⊢
  have := getT_yes hg (by rw [hlen]; simp)
  rw [this, hlen]
  have hd : (p ++ ([s.size] ++ strN s)).drop ((p.length : Int).toNat + [s.size].length) = strN s := by
    rw [Int.toNat_natCast, ← List.append_assoc]
    exact List.drop_left' (by simp)
  rw [hd, ← hl, List.take_length]
  congr 2
theorem encF_all (f n : Nat) (hn : n < 128 ^ (f + 1)) : AllB (encF f n) := by
  induction f generalizing n with
  | zero => intro b hb; simp [encF] at hb; simp at hn; omega
  | succ f ih =>
    by_cases h : n < 128
    · rw [encF_small _ _ h]; intro b hb; simp at hb; omega
    · rw [encF_step f n (by omega)]
      intro b hb
      rcases List.mem_cons.1 hb with rfl | hb
      · omega
      · exact ih (n / 128) (by rw [Nat.div_lt_iff_lt_mul (by omega)]; rw [Nat.pow_succ] at hn; exact hn) b hb
theorem encI_all (n : Int) : AllB (encI n) := by
  unfold encI
  split
  · exact encF_all 4 _ (by omega)
  · intro b hb; simp at hb
theorem AllB.append {a b : List Nat} (ha : AllB a) (hb : AllB b) : AllB (a ++ b) := by
  intro x hx
  rcases List.mem_append.1 hx with h | h
  · exact ha x h
  · exact hb x h
theorem OwnB.nil {w : World} {base n c : Nat} {A : Option Addr} {l : List Nat} (h : OwnB w base (.slice A n c) l) : A = none → c = 0 := by
  rintro rfl
  rcases h.2 with ⟨hv, hn⟩ | ⟨g, cap, cur, hv, _⟩
  · injection hv with _ _ h3
  · injection hv with h1; cases h1
/-- A product of two small numbers, under one name. -/
theorem mul_small (x y a b : Nat) (hx : x < a) (hy : y < b) : ∃ p : Nat, (x : Int) * (y : Int) = (p : Int) ∧ p < a * b :=
  ⟨x * y, by push_cast; rfl, Nat.mul_lt_mul_of_lt_of_lt hx hy⟩
theorem strB_size (l : List Nat) : (strB l).size = l.length := by unfold strB; rw [strOfNums_size, List.length_map]
/-- The digits that markText lays. -/
def mfin : Nat → Nat → ByteArray → ByteArray
  | 0, _, S => S
  | f + 1, n, S => if n = 0 then S else mfin f (n / 10) (strB [48 + n % 10] ++ S)
def markT (k : Nat) : ByteArray := if k = 0 then ⟨#[109, 48]⟩ else ⟨#[109]⟩ ++ mfin 20 k ⟨#[]⟩
theorem mfin_zero (f : Nat) (S : ByteArray) : mfin f 0 S = S := by cases f <;> simp [mfin]
theorem mfin_step (f n : Nat) (S : ByteArray) (h : 0 < n) : mfin (f + 1) n S = mfin f (n / 10) (strB [48 + n % 10] ++ S) := by simp only [mfin]; rw [if_neg (by omega)]
def Marked (w : World) (s : ByteArray) (e : Ending) (w' : World) : Prop := e = .returned (.string s) ∧ Below w.heap.size w w'
/-- The cells of a row of strings. -/
def scells (l : List ByteArray) : List Value := l.map Value.string
theorem scells_length (l : List ByteArray) : (scells l).length = l.length := by simp [scells]
theorem scells_append (a b : List ByteArray) : scells (a ++ b) = scells a ++ scells b := by simp [scells]
theorem scells_get (l : List ByteArray) (k : Nat) (h : k < l.length) : (scells l)[k]? = some (.string (l.getD k ByteArray.empty)) := by simp [scells, h]
theorem scells_one (l : List ByteArray) : ∀ u ∈ scells l, u.oneCell' = true := by
  intro u hu
  simp only [scells, List.mem_map] at hu
  obtain ⟨b, _, rfl⟩ := hu
  rfl
/-- The slice at A reads as the strings l, and lies below block B. -/
def Sts (w : World) (B : Nat) (A : Option Addr) (l : List ByteArray) : Prop :=
  l = [] ∨ ∃ b off, A = some ⟨b, off, none⟩ ∧ b < B ∧ ∀ k, k < l.length → w.cell? ⟨b, off + k, none⟩ = some (.string (l.getD k ByteArray.empty))
theorem Sts.at_ {w : World} {B : Nat} {A : Option Addr} {l : List ByteArray} (h : Sts w B A l) {k : Nat} (hk : k < l.length) :
    ∃ b off, A = some ⟨b, off, none⟩ ∧ b < B ∧ w.cell? ⟨b, off + k, none⟩ = some (.string (l.getD k ByteArray.empty)) := by
  rcases h with rfl | ⟨b, off, e, hb, hc⟩
  · simp at hk
  · exact ⟨b, off, e, hb, hc k hk⟩
theorem Sts.below {w w' : World} {B : Nat} {A : Option Addr} {l : List ByteArray} (h : Sts w B A l) (hb : Below B w w') : Sts w' B A l := by
  rcases h with h | ⟨b, off, e, hlt, hc⟩
  · exact .inl h
  · exact .inr ⟨b, off, e, hlt, fun k hk => (hb.cell (by exact hlt)).trans (hc k hk)⟩
theorem Sts.more {w : World} {B B' : Nat} {A : Option Addr} {l : List ByteArray} (h : Sts w B A l) (hB : B ≤ B') : Sts w B' A l := by
  rcases h with h | ⟨b, off, e, hlt, hc⟩
  · exact .inl h
  · exact .inr ⟨b, off, e, by omega, hc⟩
def OwnS (w : World) (base : Nat) (v : Value) (l : List ByteArray) : Prop := w.ownsRow base 9 1 v l.length (scells l)
theorem OwnS.form {w : World} {base : Nat} {v : Value} {l : List ByteArray} (h : OwnS w base v l) :
    ∃ A cap, v = .slice A l.length cap ∧ Sts w w.heap.size A l ∧ (l ≠ [] → ∃ g, A = some ⟨g, 0, none⟩ ∧ base ≤ g) := by
  rcases h.2 with ⟨rfl, hn⟩ | ⟨g, cap, cur, rfl, hb, hg, hnc, hm, hs, ht⟩
  · have : l = [] := List.eq_nil_of_length_eq_zero hn
    subst this
    exact ⟨none, 0, rfl, .inl rfl, fun h => absurd rfl h⟩
  · refine ⟨_, cap, rfl, .inr ⟨g, 0, rfl, (Array.getElem?_eq_some_iff.1 hg).1, fun k hk => ?_⟩, fun _ => ⟨g, rfl, hb⟩⟩
    have := World.ownsRow.cellAt (g := g) (cap := cap) h k (by omega)
    rw [Nat.zero_add, this, scells_get l k hk]
theorem OwnS.below {w w' : World} {base : Nat} {v : Value} {l : List ByteArray} (h : OwnS w base v l) (hb : Below w.heap.size w w') : OwnS w' base v l := by
  refine ⟨h.1, ?_⟩
  rcases h.2 with h2 | ⟨g, cap, cur, hv, hg, hh, r⟩
  · exact .inl h2
  · exact .inr ⟨g, cap, cur, hv, hg, by rw [hb.block g (Array.getElem?_eq_some_iff.1 hh).1]; exact hh, r⟩
theorem OwnS.drewN {w : World} {base : Nat} {v : Value} {l : List ByteArray} (h : OwnS w base v l) (n : Nat) : OwnS (w.drewN n) base v l := h
theorem OwnS.sts {w : World} {base n : Nat} {A : Option Addr} {c : Nat} {l : List ByteArray} (h : OwnS w base (.slice A n c) l) : Sts w w.heap.size A l := by
  obtain ⟨A', c', he, hb, _⟩ := OwnS.form h
  injection he with h1 _ _
  rw [h1]; exact hb
theorem owns_lo {w : World} {base : Nat} {v : Value} {l : List ByteArray} (h : OwnS w base v l) : ∀ k, v.ownBlock = some k → base ≤ k := fun k hk => (World.ownsRow.lt h k hk).1
def NewS (w : World) (l : List ByteArray) (e : Ending) (w' : World) : Prop :=
  ∃ A c, e = .returned (.slice A l.length c) ∧ OwnS w' w.heap.size (.slice A l.length c) l ∧ Below w.heap.size w w'
theorem NewS.of_own {w w' : World} {l : List ByteArray} {v : Value} (h : OwnS w' w.heap.size v l) (hb : Below w.heap.size w w') : NewS w l (.returned v) w' := by
  obtain ⟨A, c, rfl, _, _⟩ := OwnS.form h
  exact ⟨A, c, rfl, h, hb⟩
set_option maxRecDepth 100000 in
theorem info9 : (Tryz.prog.info? 9).map (fun i => (i.zero, i.size, i.bytes)) = some (some (.string ⟨#[]⟩), 1, 16) := by kernel_rfl
/-- n marks from k on. -/
def marksS (k n : Nat) : List ByteArray := (List.range n).map fun i => markT (k + i)
theorem marksS_length (k n : Nat) : (marksS k n).length = n := by simp [marksS]
theorem marksS_getD (k n i : Nat) (h : i < n) : (marksS k n).getD i ByteArray.empty = markT (k + i) := by simp [marksS, h]
def markedS (l : List ByteArray) (k j : Nat) : List Value := scells (marksS k j) ++ (scells l).drop j
theorem markedS_zero (l : List ByteArray) (k : Nat) : markedS l k 0 = scells l := by simp [markedS, marksS, scells]
theorem markedS_all (l : List ByteArray) (k : Nat) : markedS l k l.length = scells (marksS k l.length) := by
  unfold markedS; rw [List.drop_of_length_le (by rw [scells_length]; omega), List.append_nil]
theorem markedS_set (l : List ByteArray) (k j : Nat) (hj : j < l.length) : (markedS l k j).set j (.string (markT (k + j))) = markedS l k (j + 1) := by
  unfold markedS
  have hlen : (scells (marksS k j)).length = j := by rw [scells_length, marksS_length]
  rw [List.set_append_right _ _ (by omega), hlen, Nat.sub_self]
  have hd : (scells l).drop j = (scells l)[j]'(by rw [scells_length]; exact hj) :: (scells l).drop (j + 1) := List.drop_eq_getElem_cons _
  rw [hd, List.set_cons_zero]
  have hm : marksS k (j + 1) = marksS k j ++ [markT (k + j)] := by simp [marksS, List.range_succ]
  rw [hm, scells_append, List.append_assoc]
  rfl
def GotInt (w : World) (g : Nat) (A : Option Addr) (l : List Nat) (c : Nat) (xs : List Int) (e : Ending) (w' : World) : Prop :=
  ∃ n ∈ xs, e = .returned (.int .i64 n) ∧ Cur w' g A l c ∧ w.grownBy w' (some g)
set_option maxRecDepth 100000 in
set_option maxHeartbeats 400000 in
theorem l1PickInt_any (A : Option Addr) (l : List Nat) (c g : Nat) (xs : List Int) (p m c' : Nat) (w : World) (hl : l.length ≤ 2097152) (hb : AllB l) (hc : Cur w g A l c)
    (hm : m = xs.length) (h0 : 0 < xs.length) (h1 : xs.length ≤ 256) (hp : p ≠ g) (hx : ∀ k, k < xs.length → w.cell? ⟨p, k, none⟩ = some (.int .i64 (xs.getD k 0))) :
    Calls Tryz.prog 20 #[.pointer (some ⟨g, 0, none⟩), .slice (some ⟨p, 0, none⟩) m c'] w (GotInt w g A l c xs) := by
  subst hm
  have HX := Lib.hid hx
  clear hx
  go_enter Tryz.func20, Tryz.ntmps20
  go_wp2_with fail
  refine (l1Below_any A l c g xs.length _ hl hb h0 (by omega) hc).mono ?_
  rintro e w1 ⟨x, hx, rfl, hc1, gr1⟩
  have hcell : w1.cell? ⟨p, x, none⟩ = some (.int .i64 (xs.getD x 0)) := gr1.cell (HX.out x hx) (by simpa using hp)
  have hs := getD_mem xs x 0 hx
  generalize xs.getD x 0 = s at *
  go_wp2
  go_ret
  exact ⟨s, hs, rfl, hc1, gr1⟩
theorem ints_new (w : World) (xs : List Int) : ∀ k, k < xs.length → (w.alloc (.cells (xs.map (Value.int .i64)).toArray 3)).cell? ⟨w.heap.size, k, none⟩ = some (.int .i64 (xs.getD k 0)) := by
  intro k hk
  rw [World.cell?_alloc_at _ _ _ _ rfl]
  simp [hk]
end Go.Proofs.YtlflgflmlfileaaGreat
